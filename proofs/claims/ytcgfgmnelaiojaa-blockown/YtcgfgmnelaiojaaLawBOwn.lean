/-
  BlockOwn, WALKED: it answers true. Conditions: a number of sixteen bits, bytes.
-/
import Derived.Test.YtcgfgmnelaiojaaBlkWk
import Derived.Test.YtcgfgmnelaiojaaSameB
import Derived.Test.YtcgfgmnelaiojaaRwa
namespace Go.Proofs.Ytcgfgmnelaiojaa
open Go.RowKit

section
variable {d bS bT : Nat} {u : Value} {s : Dst}
theorem Dq.keep {W W' : World} (h : Dq W d bS bT u s) (hk : ∀ k, Own d bS bT u k → W'.heap[k]? = W.heap[k]?) : Dq W' d bS bT u s := ⟨h.dk.keep hk, h.ok⟩
theorem Dq.set {W : World} (h : Dq W d bS bT u s) {g : Nat} (hg : ¬ Own d bS bT u g) (i : Nat) (x : Value) : Dq (W.setCell ⟨g, i, none⟩ x) d bS bT u s :=
  h.keep (fun k hk => Below.heap_setCell _ _ _ _ (fun e => hg (by simp at e; rw [← e]; exact hk)))
theorem Nb.set {w W : World} (h : Nb w W d bS bT u) {g : Nat} (hg : w.heap.size ≤ g) (i : Nat) (x : Value) : Nb w (W.setCell ⟨g, i, none⟩ x) d bS bT u := ⟨h.be.setCell (by exact hg) x, h.ow⟩
end
theorem u16_ofB {n : Int} (h : (Lit.int .u16 n).wf = true) : 0 ≤ n ∧ n ≤ 65535 := by
  simp only [Lit.wf, Bool.and_eq_true, decide_eq_true_eq, show IntKind.u16.min = 0 by decide, show IntKind.u16.max = 65535 by decide] at h
  exact h
theorem sl_head {W : World} {g : Nat} {l : List Int} {t : TypeId} (h : W.heap[g]? = some (.cells (bv (padL l)).toArray t (0, 0))) (hl : l.length ≤ 64) : Sl bc W (.slice (some ⟨g, 0, none⟩) l.length 64) l := .inr ⟨g, 0, 64, rfl, hl, fun i hi => by
  rw [Nat.zero_add]
  refine arr_at h (x := l[i]) ?_
  unfold padL
  rw [List.getElem?_append_left hi, List.getElem?_eq_getElem hi]⟩
theorem sliceB_to (g n : Nat) (hn : n ≤ 64) (W : World) : (Instr.slice 23 (.slice (some ⟨g, 0, none⟩) 64 64) none (some (.int .i64 (n : Int))) none).run Try.prog W = .ok (.slice (some ⟨g, 0, none⟩) n 64) W := by
  have h1 : (n : Int) ≤ 64 := by omega
  simp [Instr.slice, go_sem, h1]
theorem wpList_appS {ops : Array Oper} {rest : List Oper} {o : Oper} {a : Act} {Q : Exit → Act → World → Prop} (w : World) (hg : o.guard = none) (y z : Operand) (ho : o.op = .call { callee := .builtin .append, args := #[y, z], argTypes := #[23, 23] }) (B : Nat) (v : Value) (n : Nat) (cur : List Value) (hy : a.eval y = v) (hr : Rw B w v n cur) (hB : B ≤ w.heap.size) (u : Value) (l : List Int) (hz : a.eval z = u) (hu : Sl bc w u l) (hn : n + l.length ≤ 1000000)
    (h : ∀ w' v' cur', Put B w v n cur w' v' l.length cur' (bv l) → wpList Try.prog ops Q rest (a.put o.dst v') w') : wpList Try.prog ops Q (o :: rest) a w := by
  refine wpList_plain hg fun K hK => ?_
  obtain ⟨w', v', cur', hrun, q1⟩ := run_append_sl w o.type B v n cur hr hB u l hu hn
  unfold Oper.wp
  simp [execOp, ho, resolve, invoke, builtin, hy, hz, hrun, Result.andThen]
  exact hK _ _ (h w' v' cur' q1)
theorem arr_newS (W : World) (p : Addr) (x : Value) (b : List Int) (t : TypeId) : ((W.setCell p x).alloc (.cells (bv b).toArray t)).heap[W.heap.size]? = some (.cells (bv b).toArray t (0, 0)) := by
  have := arr_new (W.setCell p x) b t
  simpa using this
theorem own_st {a : Int} {l : List Int} (ha : Num a) (hl : l.length ≤ 64) : wrE ⟨4, [], []⟩ a l = none ∧ wrS ⟨4, [], []⟩ a l = ⟨4, [], [⟨a, false, padL l⟩]⟩ ∧ (look (Dst.tk ⟨4, [], [⟨a, false, padL l⟩]⟩) a).getD zer = padL l ∧ syS ⟨4, [], [⟨a, false, padL l⟩]⟩ = ⟨4, [(a, padL l)], []⟩ ∧ (look (Dst.tk ⟨4, [(a, padL l)], []⟩) a).getD zer = padL l := by
  have h3 : (look (Dst.tk ⟨4, [], []⟩) a).isSome = true ∨ ((Dst.tk ⟨4, [], []⟩).length : Int) < 4 := .inr (by decide)
  refine ⟨?_, ?_, ?_, rfl, ?_⟩
  · unfold wrE; rw [if_pos (show 0 ≤ a ∧ a ≤ 1073741824 from ha), if_pos hl]; exact if_pos h3
  · unfold wrS; rw [if_pos (show 0 ≤ a ∧ a ≤ 1073741824 from ha), if_pos hl]; exact if_pos h3
  · simp [Dst.tk, tkO, stT, insM, look]
  · simp [Dst.tk, tkO, look]
theorem ce_one {ps : List Ce} {a : Int} {b : List Int} (h : csOf ps = [(a, b)]) : ∃ g, ps = [(a, g, b)] := by
  match ps, h with
  | [(x, g, y)], h =>
    simp [csOf] at h
    exact ⟨g, by rw [h.1, h.2]⟩
  | [], h => simp [csOf] at h
  | _ :: _ :: _, h => simp [csOf] at h
theorem cw_one {W : World} {B : Nat} {v : Value} {q : Ce} (h : Cw W B v [q]) : ∃ cb cap, v = .slice (some ⟨cb, 0, none⟩) 1 cap ∧ B ≤ cb ∧ W.cell? ⟨cb, 1, none⟩ = some (.slice (some ⟨q.2.1, 0, none⟩) 64 64) ∧ cb ≠ q.2.1 := by
  have h2 := h.own.2
  rcases h2 with ⟨_, h0⟩ | ⟨g, cap, cur, e, a2, a3, a4, a5, a6, a7⟩
  · simp at h0
  · refine ⟨g, cap, e, a2, ?_, fun q1 => (h.mem q (by simp)).2.1 (by rw [e, q1]; rfl)⟩
    have e1 : (cur.toList.take (1 * 2))[1]? = (ces [q])[1]? := by rw [← a7]; rfl
    rw [List.getElem?_take_of_lt (by decide)] at e1
    simp only [World.cell?, a3]
    simpa [ces, cec] using e1
set_option maxRecDepth 100000 in
set_option maxHeartbeats 8000000 in
theorem bown_small (a : Int) (v : Value) (l : List Int) (w : World) (ha : 0 ≤ a ∧ a ≤ 65535) (hv : Sl bc w v l) (hby : Byt l) (h1 : 0 < l.length) (h2 : l.length ≤ 64) :
    Calls Try.prog 3 #[.int .u16 a, v] w fun e w' => e = .returned (.bool true) ∧ Below w.heap.size w w' := by
  obtain ⟨av, cv, rfl⟩ := hv.form
  have HNA : Hid (Num a) := hide ⟨ha.1, by omega⟩
  obtain ⟨hE, hS, hR, hY, hR2⟩ := own_st HNA.out h2
  have HE := hide hE
  have HS := hide hS
  have HR := hide hR
  have HY := hide hY
  have HR2 := hide hR2
  have HV := hide hv
  have HBY := hide hby
  have HN4 : Hid (Num 4) := hide ⟨by decide, by decide⟩
  have hsl := fun g => sliceB_to g l.length h2
  clear hE hS hR hY hR2 hv hby
  obtain ⟨a0, a1⟩ := ha
  have hz : ((l.length : Int) == 0) = false := beq_eq_false_iff_ne.2 (by omega)
  go_enter Try.func3, Try.ntmps3
  go_upto_region 7 with (first | (go_at_call 5; refine (q_new2 4 w _ HN4.out (Below.refl _ _)).mono ?_; rintro e w1 ⟨d, bS, bT, rfl, hq1, hn1, hm1⟩; have HQ1 := hide hq1; have HB1 := hide hn1; clear hq1 hn1 hm1))
  go_upto_region 8 with (first | (at_builtin; refine wpList_appS _ rfl _ _ rfl w1.heap.size _ 0 [] rfl (rw_nil _ _) (Nat.le_refl _) _ l rfl (HV.out.below HB1.out.be) (by omega) ?_; intro w2 vx cur hput; have HPUT := hide hput; clear hput))
  have hput := HPUT.out
  obtain ⟨g, hvx, hgB, hgc⟩ : ∃ g, vx = .slice (some ⟨g, 0, none⟩) l.length cur.length ∧ w1.heap.size ≤ g ∧ w2.heap[g]? = some (.cells cur.toArray 5 (0, 0)) := by
    rcases hput.rw.2.2 with ⟨_, e⟩ | ⟨g, e1, e2, e3⟩
    · have := hput.rw.1; rw [e, List.length_nil] at this; omega
    · exact ⟨g, by rw [e1, Nat.zero_add], e2, e3⟩
  subst hvx
  have hbel : Below w1.heap.size w1 w2 := hput.below
  have HQ2 := hide (HQ1.out.below hbel)
  have HB2 := hide (HB1.out.call hbel)
  have hx2 : Sl bc w2 (.slice (some ⟨g, 0, none⟩) l.length cur.length) l := by
    have := hput.rw.owns
    rw [hput.tk, Nat.zero_add] at this
    simp only [List.take_nil, List.nil_append, bv_eq] at this
    exact sl_of_owns this
  have HX2 := hide hx2
  obtain ⟨e0, he0⟩ : ∃ e0 : Int, cur[0]? = some (.int .u8 e0) := by
    have := hput.tk
    rw [Nat.zero_add] at this
    simp only [List.take_nil, List.nil_append, bv] at this
    refine ⟨l[0], ?_⟩
    have h0 := congrArg (fun L => L[0]?) this
    rw [List.getElem?_take_of_lt h1, List.getElem?_map, List.getElem?_eq_getElem h1] at h0
    exact h0
  have HGN : Hid (¬ Own d bS bT (.slice none 0 0) g) := hide (fun q => by have := HQ1.out.dk.lt q; omega)
  have HGC := hide hgc
  have HGW : Hid (w.heap.size ≤ g) := hide (Nat.le_trans HB1.out.be.size hgB)
  clear hput hgc hbel hx2 hgB HQ1 HB1 HPUT
  go_upto_region 10 with (first | (go_at_call 6; refine (q_writeN a _ l _ HQ2.out HX2.out HBY.out (by decide) HE.out).mono ?_; rintro e w3 ⟨u3, rfl, hq, hx⟩; rw [HS.out] at hq; have HQ3 := hide hq; have HX3 := hide hx; clear hq hx))
  have hgl : g < w2.heap.size := (Array.getElem?_eq_some_iff.1 HGC.out).1
  have hg3 := (HX3.out.ba.block g hgl HGN.out).trans HGC.out
  have HGN3 := hide (HX3.out.own hgl HGN.out)
  have HB3 := hide (HB2.out.step HX3.out)
  have c3 : w3.cell? ⟨g, 0, none⟩ = some (.int .u8 e0) := by simp only [World.cell?, hg3]; simpa using he0
  have f3 : w3.frozen? ⟨g, 0, none⟩ = false := by simp only [World.frozen?, hg3]; simp
  clear HQ2 HB2 HX2 HGN HGC hg3 HX3 hgl
  have HQS : Hid (∀ x, Dq (w3.setCell ⟨g, 0, none⟩ x) d bS bT u3 ⟨4, [], [⟨a, false, padL l⟩]⟩) := hide (fun x => HQ3.out.set HGN3.out 0 x)
  have HBS : Hid (∀ x, Nb w (w3.setCell ⟨g, 0, none⟩ x) d bS bT u3) := hide (fun x => HB3.out.set HGW.out 0 x)
  go_upto_region 12 with (first | (go_at_call 7; refine (q_read a _ (HQS.out _) HNA.out).mono ?_; rintro e w5 ⟨rfl, hw5⟩; rw [HR.out] at hw5; have HQ5 : Hid (Dq w5 d bS bT u3 ⟨4, [], [⟨a, false, padL l⟩]⟩) := hide (by rw [hw5]; exact (HQS.out _).below (al_b _ _)); have HB5 : Hid (Nb w w5 d bS bT u3) := hide (by rw [hw5]; exact (HBS.out _).call (al_b _ _)); have HG5 : Hid (w5.heap[w3.heap.size]? = some (.cells (bv (padL l)).toArray 51 (0, 0))) := hide (by rw [hw5]; exact arr_newS _ _ _ _ _); clear hw5))
  have HYN : Hid (¬ Own d bS bT u3 w3.heap.size) := hide (fun q => by have := HQ3.out.dk.lt q; omega)
  have HYW : Hid (w.heap.size ≤ w3.heap.size) := hide HB3.out.be.size
  generalize w3.heap.size = Y at HG5 HYN HYW ⊢
  clear c3 f3 HQS HBS HB3 HQ3 HGN3
  obtain ⟨e1, he1⟩ : ∃ e1 : Int, (padL l)[0]? = some e1 := ⟨_, List.getElem?_eq_getElem (by rw [padL_len h2]; decide)⟩
  go_upto_region 14 with (first | (go_at_call 8; refine (same_bytes _ _ l _ (sl_head HG5.out h2) (HV.out.below HB5.out.be) (by omega)).mono ?_; rintro e w6 ⟨rfl, hb6⟩; have HQ6 := hide (HQ5.out.below hb6); have HB6 := hide (HB5.out.call hb6); have HG6 := hide ((hb6.block Y (Array.getElem?_eq_some_iff.1 HG5.out).1).trans HG5.out); clear hb6))
  have c6 := arr_at HG6.out he1
  have f6 : w6.frozen? ⟨Y, 0, none⟩ = false := by simp only [World.frozen?, HG6.out]; simp
  have HQS : Hid (∀ x, Dq (w6.setCell ⟨Y, 0, none⟩ x) d bS bT u3 ⟨4, [], [⟨a, false, padL l⟩]⟩) := hide (fun x => HQ6.out.set HYN.out 0 x)
  have HBS : Hid (∀ x, Nb w (w6.setCell ⟨Y, 0, none⟩ x) d bS bT u3) := hide (fun x => HB6.out.set HYW.out 0 x)
  clear HQ5 HB5 HG5 HQ6 HB6 HG6 HYN HYW
  go_upto_region 16 with (first | (go_at_call 9; refine (q_sync _ (HQS.out _) (by simp [Dst.wt])).mono ?_; rintro e w7 ⟨rfl, hq, hx⟩; rw [HY.out] at hq; have HQ7 := hide hq; have HB7 := hide ((HBS.out _).step hx); clear hq hx))
  clear c6 f6 HQS HBS
  go_upto_region 17 with (first | (go_at_call 10; refine (q_cells _ HQ7.out (show 1 + 0 < 30000 by decide)).mono ?_; rintro e w8 ⟨vc, ps, rfl, hcw, hcs, hb8⟩; obtain ⟨G, rfl⟩ := ce_one hcs; obtain ⟨cb, cc, rfl, hcb, hc1, _⟩ := cw_one hcw; have HC8 := hide hc1; have HM8 := hide (hcw.mem (a, G, padL l) List.mem_cons_self); have HQ8 := hide (HQ7.out.below hb8); have HB8 := hide (HB7.out.call hb8); have HZ8 : Hid (w7.heap.size ≤ w8.heap.size) := hide hb8.size; clear hcw hcs hc1 hb8 hcb))
  have HGN : Hid (¬ Own d bS bT (.slice none 0 0) G) := hide (fun q => by have := HQ7.out.dk.lt q; have h9 : w7.heap.size ≤ G := HM8.out.1; omega)
  have HGW : Hid (w.heap.size ≤ G) := hide (Nat.le_trans HB7.out.be.size HM8.out.1)
  have HG8 : Hid (w8.heap[G]? = some (.cells (bv (padL l)).toArray 51 (0, 0))) := hide HM8.out.2.2
  have c8 := HC8.out
  clear HM8 HQ7 HB7 HZ8
  go_upto_region 19 with (first | (go_at_call 8; refine (same_bytes _ _ l _ (sl_head HG8.out h2) (HV.out.below HB8.out.be) (by omega)).mono ?_; rintro e w9 ⟨rfl, hb9⟩; have HQ9 := hide (HQ8.out.below hb9); have HB9 := hide (HB8.out.call hb9); have HG9 := hide ((hb9.block G (Array.getElem?_eq_some_iff.1 HG8.out).1).trans HG8.out); have HC9 := hide ((hb9.cell (p := ⟨cb, 1, none⟩) (cell_block HC8.out)).trans HC8.out); clear hb9))
  clear c8
  have c9 := HC9.out
  have b9 := arr_at HG9.out he1
  have f9 : w9.frozen? ⟨G, 0, none⟩ = false := by simp only [World.frozen?, HG9.out]; simp
  have HQS : Hid (∀ x, Dq (w9.setCell ⟨G, 0, none⟩ x) d bS bT (.slice none 0 0) ⟨4, [(a, padL l)], []⟩) := hide (fun x => HQ9.out.set HGN.out 0 x)
  have HBS : Hid (∀ x, Nb w (w9.setCell ⟨G, 0, none⟩ x) d bS bT (.slice none 0 0)) := hide (fun x => HB9.out.set HGW.out 0 x)
  clear HQ8 HB8 HG8 HC8 HQ9 HG9 HC9
  go_upto_region 21 with (first | (go_at_call 7; refine (q_read a _ (HQS.out _) HNA.out).mono ?_; rintro e w10 ⟨rfl, hw10⟩; rw [HR2.out] at hw10; have HB10 : Hid (Nb w w10 d bS bT (.slice none 0 0)) := hide (by rw [hw10]; exact (HBS.out _).call (al_b _ _)); have HG10 : Hid (w10.heap[w9.heap.size]? = some (.cells (bv (padL l)).toArray 51 (0, 0))) := hide (by rw [hw10]; exact arr_newS _ _ _ _ _); clear hw10))
  clear c9 b9 f9 HQS HBS HB9
  go_wp2_with (first | (go_at_call 8; refine (same_bytes _ _ l _ (sl_head HG10.out h2) (HV.out.below HB10.out.be) (by omega)).mono ?_; rintro e w11 ⟨rfl, hb11⟩; have HB11 := hide (HB10.out.call hb11); clear hb11) | (go_at_call 4; refine (bworks_any _).mono ?_; rintro e w12 ⟨rfl, hb12⟩; have HB12 := hide (HB11.out.call hb12); clear hb12))
  go_ret
  exact ⟨rfl, HB12.out.be⟩
set_option maxRecDepth 100000 in
theorem bown_law (a : Int) (v : Value) (l : List Int) (w : World) (ha : 0 ≤ a ∧ a ≤ 65535) (hv : Sl bc w v l) (hby : Byt l) :
    Calls Try.prog 3 #[.int .u16 a, v] w fun e w' => e = .returned (.bool true) ∧ Below w.heap.size w w' := by
  by_cases h1 : 0 < l.length
  · by_cases h2 : l.length ≤ 64
    · exact bown_small a v l w ha hv hby h1 h2
    · obtain ⟨av, cv, rfl⟩ := hv.form
      have hz : ((l.length : Int) == 0) = false := beq_eq_false_iff_ne.2 (by omega)
      clear hv
      go_enter Try.func3, Try.ntmps3
      go_wp2_with (first | (go_at_call 4; refine (bworks_any _).mono ?_; rintro e w12 ⟨rfl, hb12⟩; have HB12 := hide hb12; clear hb12))
      go_ret
      exact ⟨rfl, HB12.out⟩
  · obtain rfl : l = [] := List.length_eq_zero_iff.1 (by omega)
    obtain ⟨av, cv, rfl⟩ := hv.form
    clear hv h1
    go_enter Try.func3, Try.ntmps3
    go_wp2_with (first | (go_at_call 4; refine (bworks_any _).mono ?_; rintro e w12 ⟨rfl, hb12⟩; have HB12 := hide hb12; clear hb12))
    go_ret
    exact ⟨rfl, HB12.out⟩
end Go.Proofs.Ytcgfgmnelaiojaa
