/-
  THE WRITES THAT A CRASH KEEPS (block.kept): what the mathematics says. Conditions: fewer than a hundred thousand writes.
  A WRITE IS TORN (block.tear): its first bytes alone are new. No condition.
-/
import Derived.Test.YtoamghncncalgaaGreatDoorJBlkDoa2
namespace Go.Proofs.YtoamghncncalgaaGreatDoor
open Go.RowKit

theorem kpt_take : ∀ (m : Nat) (ks : List Int) (lo : List Wr), (ks.length ≤ m ∨ lo.length ≤ m) → kpt (ks.take m) (lo.take m) = kpt ks lo
  | 0, ks, lo, h => by
    rcases h with h | h
    · obtain rfl : ks = [] := List.length_eq_zero_iff.1 (by omega)
      simp [kpt]
    · obtain rfl : lo = [] := List.length_eq_zero_iff.1 (by omega)
      cases ks <;> simp [kpt]
  | m + 1, [], lo, _ => by simp [kpt]
  | m + 1, k :: ks, [], _ => by simp [kpt]
  | m + 1, k :: ks, x :: lo, h => by
    simp only [List.take_succ_cons, kpt]
    rw [kpt_take m ks lo (by simpa using h)]
theorem kpt_next {ks : List Int} {lo : List Wr} {k : Nat} (h1 : k < ks.length) (h2 : k < lo.length) : kpt (ks.take (k + 1)) (lo.take (k + 1)) = kpt (ks.take k) (lo.take k) ++ (if ks[k] ≠ 0 then [lo[k]] else []) := by
  rw [take_step h1, take_step h2]
  exact kpt_snoc _ _ (by simp only [List.length_take]; omega)
theorem kpt_len : ∀ (ks : List Int) (lo : List Wr), (kpt ks lo).length ≤ lo.length
  | [], _ => by simp [kpt]
  | _ :: _, [] => by simp [kpt]
  | k :: ks, x :: lo => by
    simp only [kpt]
    have := kpt_len ks lo
    split <;> simp only [List.length_cons] <;> omega
theorem Lo.alloc {W : World} {v : Value} {l : List Wr} (h : Lo W v l) (o : Obj) : Lo (W.alloc o) v l := h.keep (fun _ e => Below.heap_alloc _ _ _ (h.lt e))
theorem Lo.below {W W' : World} {v : Value} {l : List Wr} (h : Lo W v l) (hb : Below W.heap.size W W') : Lo W' v l := h.keep (fun k e => hb.block k (h.lt e))
theorem run_min (x y : Nat) (ty : TypeId) (W : World) : (Builtin.min_ #[3, 3] ty #[.int .i64 (x : Int), .int .i64 (y : Int)]).run Tryz.prog W = .ok (.int .i64 ((min x y : Nat) : Int)) W := by
  unfold Builtin.min_
  simp [Builtin.min2]
  try omega
theorem sliceW_to (ao : Option Addr) (L cap E : Nat) (hE : E ≤ L) (hL : L ≤ cap) (W : World) : (Instr.slice 79 (.slice ao L cap) none (some (.int .i64 (E : Int))) none).run Tryz.prog W = .ok (.slice (if cap = 0 then ao else ao.map (·.add 0)) E cap) W := by
  have h1 : (E : Int) ≤ (cap : Int) := by omega
  simp [Instr.slice, go_sem, h1]
section
variable {d bS bT : Nat} {u : Value} {s : Dst} {tk : Cs} {lo : List Wr}
theorem Lo.cap {W : World} {ao : Option Addr} {n cap : Nat} {l : List Wr} (h : Lo W (.slice ao n cap) l) : l.length ≤ cap := by
  rcases h.2 with ⟨e, h0⟩ | ⟨g, cap', cur, e, _, _, a4, _⟩
  · cases e; omega
  · cases e; exact a4
theorem Lo.zero {W : World} {ao : Option Addr} {n cap : Nat} {l : List Wr} (h : Lo W (.slice ao n cap) l) : (if cap = 0 then ao else ao.map (·.add 0)) = ao := by
  rcases h.2 with ⟨e, h0⟩ | ⟨g, cap', cur, e, _, _, a4, _⟩
  · cases e; rfl
  · cases e
    split
    · rfl
    · simp [Addr.add_lit]
theorem Lo.n_eq {W : World} {ao : Option Addr} {n cap : Nat} {l : List Wr} (h : Lo W (.slice ao n cap) l) : n = l.length := by
  obtain ⟨_, _, e⟩ := h.form
  cases e
  rfl
set_option maxRecDepth 100000 in
set_option maxHeartbeats 8000000 in
theorem bkept_any (kv : Value) (ks : List Int) (w : World) (h : Dk w d bS bT u s tk lo) (hl : ∀ x ∈ lo, Num x.at_ ∧ Blk x.by_) (hk : Sl ic w kv ks) (hn : lo.length < 100000) :
    Calls Tryz.prog 48 #[.pointer (some ⟨d, 0, none⟩), kv] w fun e w' => ∃ v, e = .returned v ∧ Lo w' v (kpt ks lo) ∧ (∀ b, v.ownBlock = some b → w.heap.size ≤ b) ∧ Below w.heap.size w w' := by
  obtain ⟨ao, cap, rfl⟩ := h.ro.form
  obtain ⟨ak, ck, rfl⟩ := hk.form
  obtain ⟨m, hm⟩ : ∃ m, m = min lo.length ks.length := ⟨_, rfl⟩
  have hsl : ∀ W, (Instr.slice 79 (.slice ao lo.length cap) none (some (.int .i64 (m : Int))) none).run Tryz.prog W = .ok (.slice ao m cap) W := fun W => by
    rw [sliceW_to ao lo.length cap m (by omega) h.ro.cap, h.ro.zero]
  have hmn : ∀ W ty, (Builtin.min_ #[3, 3] ty #[.int .i64 (lo.length : Int), .int .i64 (ks.length : Int)]).run Tryz.prog W = .ok (.int .i64 (m : Int)) W := fun W ty => by rw [run_min, hm]
  have HH := hide h
  have HL := hide hl
  have HK := hide hk
  have HM := hide hm
  have HR := hide h.ro.sw
  clear h hl hk hm
  go_enter Tryz.func48, Tryz.ntmps48
  go_upto_region 2 with (fail)
  refine wp_region_held_drew (S := fun W => W.cell? ⟨d, 3, none⟩ = some (.slice ao lo.length cap)) (by kernel_rfl) HH.out.c3 (fun hHeld => ?_)
  refine wpAnyH_take (i := 0) (oi := _) (v := .pointer (some ⟨d, 0, none⟩)) rfl (by kernel_rfl) (by kernel_rfl) (by kernel_rfl) (fun _ _ _ h => h) (Or.inl ⟨by rfl, by intro w hSw; go_simp⟩) hHeld ?_
  change wpAnyH _ _ _ _ _ _ _ (Act.put _ (some 8) _) _
  simp only [Act.put, List.setIfInBounds_toArray, List.set_cons_zero, List.set_cons_succ]
  refine wpAnyH_take (i := 1) (oi := _) (v := .pointer (some ⟨d, 0, none⟩)) rfl (by kernel_rfl) (by kernel_rfl) (by kernel_rfl) (fun _ _ _ h => h) (Or.inl ⟨by rfl, by intro w hSw; go_simp⟩) hHeld ?_
  change wpAnyH _ _ _ _ _ _ _ (Act.put _ (some 9) _) _
  simp only [Act.put, List.setIfInBounds_toArray, List.set_cons_zero, List.set_cons_succ]
  refine wpAnyH_take (i := 2) (oi := _) (v := .pointer (some ⟨d, 3, none⟩)) rfl (by kernel_rfl) (by kernel_rfl) (by kernel_rfl) (fun _ _ _ h => h) (Or.inl ⟨by rfl, by intro w hSw; go_simp⟩) hHeld ?_
  change wpAnyH _ _ _ _ _ _ _ (Act.put _ (some 10) _) _
  simp only [Act.put, List.setIfInBounds_toArray, List.set_cons_zero, List.set_cons_succ]
  refine wpAnyH_take (i := 3) (oi := _) (v := .slice ao lo.length cap) rfl (by kernel_rfl) (by kernel_rfl) (by kernel_rfl) (fun _ _ _ h => h) (Or.inl ⟨by rfl, by intro w hSw; go_simp⟩) hHeld ?_
  change wpAnyH _ _ _ _ _ _ _ (Act.put _ (some 11) _) _
  simp only [Act.put, List.setIfInBounds_toArray, List.set_cons_zero, List.set_cons_succ]
  refine wpAnyH_take (i := 4) (oi := _) (v := .pointer (some ⟨d, 0, none⟩)) rfl (by kernel_rfl) (by kernel_rfl) (by kernel_rfl) (fun _ _ _ h => h) (Or.inl ⟨by rfl, by intro w hSw; go_simp⟩) hHeld ?_
  change wpAnyH _ _ _ _ _ _ _ (Act.put _ (some 12) _) _
  simp only [Act.put, List.setIfInBounds_toArray, List.set_cons_zero, List.set_cons_succ]
  refine wpAnyH_take (i := 5) (oi := _) (v := .pointer (some ⟨d, 0, none⟩)) rfl (by kernel_rfl) (by kernel_rfl) (by kernel_rfl) (fun _ _ _ h => h) (Or.inl ⟨by rfl, by intro w hSw; go_simp⟩) hHeld ?_
  change wpAnyH _ _ _ _ _ _ _ (Act.put _ (some 13) _) _
  simp only [Act.put, List.setIfInBounds_toArray, List.set_cons_zero, List.set_cons_succ]
  refine wpAnyH_take (i := 6) (oi := _) (v := .pointer (some ⟨d, 3, none⟩)) rfl (by kernel_rfl) (by kernel_rfl) (by kernel_rfl) (fun _ _ _ h => h) (Or.inl ⟨by rfl, by intro w hSw; go_simp⟩) hHeld ?_
  change wpAnyH _ _ _ _ _ _ _ (Act.put _ (some 14) _) _
  simp only [Act.put, List.setIfInBounds_toArray, List.set_cons_zero, List.set_cons_succ]
  refine wpAnyH_take (i := 7) (oi := _) (v := .slice ao lo.length cap) rfl (by kernel_rfl) (by kernel_rfl) (by kernel_rfl) (fun _ _ _ h => h) (Or.inl ⟨by rfl, by intro w hSw; go_simp⟩) hHeld ?_
  change wpAnyH _ _ _ _ _ _ _ (Act.put _ (some 15) _) _
  simp only [Act.put, List.setIfInBounds_toArray, List.set_cons_zero, List.set_cons_succ]
  refine wpAnyH_take (i := 8) (oi := _) (v := .int .i64 lo.length) rfl (by kernel_rfl) (by kernel_rfl) (by kernel_rfl) (fun _ _ _ h => h) (Or.inl ⟨by rfl, by intro w hSw; go_simp⟩) hHeld ?_
  change wpAnyH _ _ _ _ _ _ _ (Act.put _ (some 16) _) _
  simp only [Act.put, List.setIfInBounds_toArray, List.set_cons_zero, List.set_cons_succ]
  refine wpAnyH_take (i := 9) (oi := _) (v := .slice ak ks.length ck) rfl (by kernel_rfl) (by kernel_rfl) (by kernel_rfl) (fun _ _ _ h => h) (Or.inl ⟨by rfl, by intro w hSw; go_simp⟩) hHeld ?_
  change wpAnyH _ _ _ _ _ _ _ (Act.put _ (some 17) _) _
  simp only [Act.put, List.setIfInBounds_toArray, List.set_cons_zero, List.set_cons_succ]
  refine wpAnyH_take (i := 10) (oi := _) (v := .int .i64 ks.length) rfl (by kernel_rfl) (by kernel_rfl) (by kernel_rfl) (fun _ _ _ h => h) (Or.inl ⟨by rfl, by intro w hSw; go_simp⟩) hHeld ?_
  change wpAnyH _ _ _ _ _ _ _ (Act.put _ (some 18) _) _
  simp only [Act.put, List.setIfInBounds_toArray, List.set_cons_zero, List.set_cons_succ]
  refine wpAnyH_take (i := 11) (oi := _) (v := .int .i64 m) rfl (by kernel_rfl) (by kernel_rfl) (by kernel_rfl) (fun _ _ _ h => h) (Or.inl ⟨by rfl, by intro w hSw; go_simp⟩) hHeld ?_
  change wpAnyH _ _ _ _ _ _ _ (Act.put _ (some 19) _) _
  simp only [Act.put, List.setIfInBounds_toArray, List.set_cons_zero, List.set_cons_succ]
  refine wpAnyH_take (i := 12) (oi := _) (v := .slice ao m cap) rfl (by kernel_rfl) (by kernel_rfl) (by kernel_rfl) (fun _ _ _ h => h) (Or.inl ⟨by rfl, by intro w hSw; go_simp⟩) hHeld ?_
  change wpAnyH _ _ _ _ _ _ _ (Act.put _ (some 20) _) _
  simp only [Act.put, List.setIfInBounds_toArray, List.set_cons_zero, List.set_cons_succ]
  refine wpAnyH_take (i := 13) (oi := _) (v := .int .i64 m) rfl (by kernel_rfl) (by kernel_rfl) (by kernel_rfl) (fun _ _ _ h => h) (Or.inl ⟨by rfl, by intro w hSw; go_simp⟩) hHeld ?_
  change wpAnyH _ _ _ _ _ _ _ (Act.put _ (some 21) _) _
  simp only [Act.put, List.setIfInBounds_toArray, List.set_cons_zero, List.set_cons_succ]
  refine wpAnyH_take (i := 14) (oi := _) (v := .int .i64 0) rfl (by kernel_rfl) (by kernel_rfl) (by kernel_rfl) (fun _ _ _ h => h) (Or.inl ⟨by rfl, by intro w hSw; go_simp⟩) hHeld ?_
  change wpAnyH _ _ _ _ _ _ _ (Act.put _ (some 22) _) _
  simp only [Act.put, List.setIfInBounds_toArray, List.set_cons_zero, List.set_cons_succ]
  refine wpAnyH_done (by kernel_rfl) ?_ _
  clear hHeld hsl hmn
  go_wp2
  go_loopw [5, 22] (fun t i W => ∃ k : Nat, k ≤ m ∧ i = .int .i64 k ∧ Lo W t (kpt (ks.take k) (lo.take k)) ∧ (∀ b, t.ownBlock = some b → w.heap.size ≤ b) ∧ Below w.heap.size w W) (fun _ i _ => m - (iv i).toNat)
  case atStart => exact ⟨0, Nat.zero_le _, rfl, by simp only [List.take_zero, kpt]; exact Lo.nil _, fun b e => (by cases e), (Below.refl _ _).drew⟩
  case round =>
    obtain ⟨k, hkm, rfl, hlo, hob, hbw⟩ := hrel
    by_cases hlt : k < m
    · have hk1 : k < lo.length := by have := HM.out; omega
      have hk2 : k < ks.length := by have := HM.out; omega
      obtain ⟨ao', cap', e, hr⟩ := HR.out
      cases e
      obtain ⟨g, o, rfl, hrg⟩ := hr (by omega)
      have HB : Hid (Blk lo[k].by_) := hide (HL.out _ (List.getElem_mem hk1)).2
      have HE := hide (range_wr (fun x hx => (HL.out x hx).2) (range_belW hrg hbw) hk1)
      rcases HK.out with ⟨_, _, e, _⟩ | ⟨kb, ko, ck', e, h2, h3⟩
      · rw [e] at hk2; simp at hk2
      cases e
      have HC : Hid (wr.cell? ⟨kb, ko + k, none⟩ = some (.int .i64 ks[k])) := hide ((hbw.cell (p := ⟨kb, ko + k, none⟩) (cell_block (h3 k hk2))).trans (h3 k hk2))
      have HT := hide (kpt_next hk2 hk1)
      have HNK : Hid ((kpt (ks.take k) (lo.take k)).length + 1 ≤ 100000) := hide (by have := kpt_len (ks.take k) (lo.take k); rw [List.length_take] at this; omega)
      have HLO := hide hlo
      have HBW := hide hbw
      have HOB := hide hob
      clear hlo hbw hob hrg hr h2 h3
      generalize ks[k] = kk at HC HT
      generalize lo[k] = x at HB HE HT
      generalize kpt (ks.take k) (lo.take k) = L at HLO HT HNK
      obtain ⟨xa, xf, xb⟩ := x
      go_upto_region 5 with (first | (refine wpList_load_mid rfl _ _ rfl _ _ rfl _ _ HE.out Tryz.underlying103 rfl (by rw [infoWr, wcl_len HB.out]) ?_) | (refine wpList_allocW _ rfl rfl ?_) | (refine wpList_storeW _ rfl _ _ rfl wz ⟨xa, xf, xb⟩ zer_len HB.out.1 rfl rfl ?_))
      have hbl : Below wr.heap.size wr (wr.alloc (.cells (wcl ⟨xa, xf, xb⟩).toArray 103)) := (Below.refl _ _).alloc (Nat.le_refl _) _
      have HLO1 := hide (HLO.out.below hbl)
      have HBW1 := hide (bt HBW.out hbl)
      have hc9 : (wr.alloc (.cells (wcl ⟨xa, xf, xb⟩).toArray 103)).cell? ⟨kb, ko + k, none⟩ = some (.int .i64 kk) := (hbl.cell (p := ⟨kb, ko + k, none⟩) (cell_block HC.out)).trans HC.out
      have HG : Hid ((wr.alloc (.cells (wcl ⟨xa, xf, xb⟩).toArray 103)).rangeAt wr.heap.size 0 (wcl ⟨xa, xf, xb⟩)) := hide (range_newW wr _ _)
      generalize wr.alloc (.cells (wcl ⟨xa, xf, xb⟩).toArray 103) = V at HLO1 HBW1 HG hc9 ⊢
      generalize wr.heap.size = G at HG ⊢
      clear hbl HLO HBW HE HC
      by_cases hz : kk = 0
      · subst hz
        go_wp2
        exact ⟨⟨k + 1, by omega, by go_num, by rw [HT.out]; simpa using HLO1.out, HOB.out, HBW1.out⟩, by simp [iv]; omega⟩
      · obtain ⟨av, cv, hv⟩ := HLO1.out.form
        subst hv
        go_wp2_with (first | (refine wpList_load_mid rfl _ _ rfl _ _ rfl _ _ HG.out Tryz.underlying103 rfl (by rw [infoWr, wcl_len HB.out]) ?_) | (refine wpList_bldW _ rfl _ rfl ⟨xa, xf, xb⟩ HB.out.1 rfl ?_) | (at_builtin; refine wpList_appW _ rfl _ _ rfl _ _ rfl (HLO1.out.alloc _) ⟨_, 0, none⟩ 1 ⟨xa, xf, xb⟩ rfl HB.out.1 (range_newsW (range_newW V _ _)) HNK.out ?_; intro v' W7 hlo hgr hub; have HLO2 := hide hlo; have HGR := hide hgr; have HUB := hide hub; clear hlo hgr hub))
        have hal : Below V.heap.size V (V.alloc (.cells (wcl ⟨xa, xf, xb⟩).toArray 103)) := (Below.refl _ _).alloc (Nat.le_refl _) _
        have hw2 := bt HBW1.out hal
        refine ⟨⟨k + 1, by omega, by go_num, by rw [HT.out, if_pos hz]; exact HLO2.out, fun b e => ?_, hw2.grown HGR.out hw2.size (fun b e => HOB.out b e)⟩, by simp [iv]; omega⟩
        rcases HUB.out with q | q
        · rw [q] at e; exact HOB.out b e
        · exact Nat.le_trans hw2.size (q b e)
    · obtain rfl : k = m := by omega
      have HT : Hid (kpt (ks.take k) (lo.take k) = kpt ks lo) := hide (kpt_take k ks lo (by have := HM.out; omega))
      have HLO := hide hlo
      have HBW := hide hbw
      have HOB := hide hob
      clear hlo hbw hob
      go_wp2
      go_ret
      exact ⟨_, rfl, by rw [← HT.out]; exact HLO.out, HOB.out, HBW.out⟩
end
end Go.Proofs.YtoamghncncalgaaGreatDoor
namespace Go.Proofs.YtoamghncncalgaaGreatDoor
open Go.RowKit

theorem torn_no {x : Wr} {old : List Int} {cut : Int} (h : ¬ (x.fr = false ∧ 0 ≤ cut ∧ cut < 64)) : torn x old cut = x := by
  unfold torn
  rw [if_neg h]
theorem torn_yes {a : Int} {b old : List Int} {n : Nat} (h : n < 64) : torn ⟨a, false, b⟩ old (n : Int) = ⟨a, false, b.take n ++ old.drop n⟩ := by
  unfold torn
  rw [if_pos ⟨rfl, by omega, by omega⟩]
  simp
theorem wpList_boxB {ops : Array Oper} {rest : List Oper} {o : Oper} {a : Act} {Q : Exit → Act → World → Prop} (w : World) (hg : o.guard = none) (x : Operand) (ho : o.op = .box 101 x) (b : List Int) (hx : a.eval x = .agg (bv b).toArray)
    (h : wpList Tryz.prog ops Q rest (a.put o.dst (.pointer (some ⟨w.heap.size, 0, none⟩))) (w.alloc (.cells (bv b).toArray 101))) : wpList Tryz.prog ops Q (o :: rest) a w := by
  refine wpList_plain hg fun K hK => ?_
  unfold Oper.wp
  simp only [execOp, ho, hx]
  simp [Instr.box, newVar, Value.cells, Result.andThen]
  exact hK _ _ h
theorem slc_arr (g o n : Nat) (hn : n < 64) (W : World) : (Instr.sliceAt 101 (.pointer (some ⟨g, o, none⟩)) (some (.int .i64 (n : Int))) none none).run Tryz.prog W = .ok (.slice (some ⟨g, o + n, none⟩) (64 - n) (64 - n)) W := by
  have h1 : (n : Int) ≤ 64 := by omega
  have h2 : ¬ 64 = n := by omega
  simp [Instr.sliceAt, go_sem, h1]
  omega
theorem yields_slc {ops : Array Oper} {o : Oper} {a : Act} {S : World → Prop} (hw : Region.wanted o (yielded ops a.tmps) = true) (x y : Operand) (ho : o.op = .slice 101 x (some y) none none) (g k n : Nat) (hx : a.eval x = .pointer (some ⟨g, k, none⟩)) (hy : a.eval y = .int .i64 (n : Int)) (hn : n < 64) : YieldsIf Tryz.prog ops S o (.slice (some ⟨g, k + n, none⟩) (64 - n) (64 - n)) a :=
  .inl ⟨hw, fun w _ => by
    unfold execOp
    simp only [ho, Option.map, hx, hy]
    simp [slc_arr g k n hn w, Result.andThen]⟩
theorem wcl_len' {x : Wr} (h : x.by_.length = 64) : (wcl x).length = 66 := by simp [wcl, bv_len, h]
theorem torn_range {W : World} {g o n : Nat} {a : Int} {b old : List Int} (hb : b.length = 64) (ho : old.length = 64) (hn : n < 64) (h : W.rangeAt g o (wcl ⟨a, false, b⟩)) :
    (W.setCells g (o + 2 + n) (bv (old.drop n))).rangeAt g o (wcl ⟨a, false, b.take n ++ old.drop n⟩) := fun j v hv => by
  have hlen : (bv (old.drop n)).length = 64 - n := by rw [bv_len, List.length_drop, ho]
  have hj : j < 66 := by
    have := (List.getElem?_eq_some_iff.1 hv).1
    simp [wcl, bv_len, hb, ho] at this
    omega
  by_cases hlt : j < 2 + n
  · rw [World.cell?_setCells_out g _ _ _ _ (fun _ _ => .inl (by show o + j < o + 2 + n; omega))]
    refine h j v ?_
    rw [← hv]
    match j, hlt with
    | 0, _ => rfl
    | 1, _ => rfl
    | i + 2, hi =>
      show (bv b)[i]? = (bv (b.take n ++ old.drop n))[i]?
      simp only [bv]
      rw [List.getElem?_map, List.getElem?_map, List.getElem?_append_left (by rw [List.length_take, hb]; omega), List.getElem?_take_of_lt (by omega)]
  · have hex : ∀ i, i < 66 → (W.cell? ⟨g, o + i, none⟩).isSome = true := fun i hi => by
      rw [h i _ (List.getElem?_eq_getElem (by rw [wcl_len' hb]; exact hi))]
      rfl
    have := World.cell?_setCells_in g (bv (old.drop n)) (o + 2 + n) W (fun i hi => by
      rw [hlen] at hi
      have := hex (2 + n + i) (by omega)
      rwa [← Nat.add_assoc, ← Nat.add_assoc] at this) (j - (2 + n)) (by rw [hlen]; omega)
    rw [show o + 2 + n + (j - (2 + n)) = o + j by omega] at this
    rw [this, ← hv]
    obtain ⟨i, rfl⟩ : ∃ i, j = i + 2 := ⟨j - 2, by omega⟩
    show _ = (bv (b.take n ++ old.drop n))[i]?
    have e1 : i + 2 - (2 + n) = i - n := by omega
    simp only [bv, e1]
    rw [List.getElem?_map, List.getElem?_append_right (by rw [List.length_take, hb]; omega), List.length_take, hb, Nat.min_eq_left (by omega), List.getElem_map]
    rw [List.getElem?_eq_getElem (by rw [List.length_drop, ho]; omega)]
    rfl
theorem ba_cells {W : World} {g : Nat} : ∀ (vs : List Value) (o : Nat), Ba (fun k => k = g) W (W.setCells g o vs) := by
  intro vs
  induction vs generalizing W with
  | nil => intro o; exact Ba.refl _ _
  | cons v r ih =>
    intro o
    rw [World.setCells]
    exact Ba.trans (p := fun k => k = g) (q := fun k => k = g) ((Ba.refl (fun k => k = g) W).set (g := g) (fun _ => rfl) o v) (ih (o + 1)) (fun _ _ e => e)
set_option maxRecDepth 100000 in
set_option maxHeartbeats 4000000 in
theorem btear_no (g o : Nat) (x : Wr) (old : List Int) (cut : Int) (w : World) (hr : w.rangeAt g o (wcl x)) (hx : Blk x.by_) (hc : ¬ (x.fr = false ∧ 0 ≤ cut ∧ cut < 64)) :
    Calls Tryz.prog 50 #[.pointer (some ⟨g, o, none⟩), .agg (bv old).toArray, .int .i64 cut] w fun e w' => e = .returned (.tuple #[]) ∧ w'.rangeAt g o (wcl (torn x old cut)) ∧ Ba (fun k => k = g) w w' := by
  rw [torn_no hc]
  have HR := hide hr
  have hbl : Below w.heap.size w (w.alloc (.cells (bv old).toArray 101)) := (Below.refl _ _).alloc (Nat.le_refl _) _
  have HR1 := hide (range_belW hr hbl)
  have HB := hide (Ba.of (p := fun k => k = g) hbl)
  have c1 := HR1.out 1 _ rfl
  obtain ⟨xa, xf, xb⟩ := x
  simp only at c1
  clear hr hbl
  cases xf
  · by_cases h0 : 0 ≤ cut
    · have h1 : ¬ cut < 64 := fun q => hc ⟨rfl, h0, q⟩
      clear hc
      go_enter Tryz.func50, Tryz.ntmps50
      go_wp2_with (first | (refine wpList_boxB _ rfl _ rfl old rfl ?_))
      exact bodyPost_end (v := .tuple #[]) (by simp [results, Tryz.results50]) rfl ⟨rfl, HR1.out, HB.out⟩
    · clear hc
      go_enter Tryz.func50, Tryz.ntmps50
      go_wp2_with (first | (refine wpList_boxB _ rfl _ rfl old rfl ?_))
      exact bodyPost_end (v := .tuple #[]) (by simp [results, Tryz.results50]) rfl ⟨rfl, HR1.out, HB.out⟩
  · clear hc
    go_enter Tryz.func50, Tryz.ntmps50
    go_wp2_with (first | (refine wpList_boxB _ rfl _ rfl old rfl ?_))
    exact bodyPost_end (v := .tuple #[]) (by simp [results, Tryz.results50]) rfl ⟨rfl, HR1.out, HB.out⟩
set_option maxRecDepth 100000 in
set_option maxHeartbeats 4000000 in
theorem btear_yes (g o n : Nat) (xa : Int) (xb old : List Int) (cur : Array Value) (t : TypeId) (w : World) (hr : w.rangeAt g o (wcl ⟨xa, false, xb⟩)) (hx : Blk xb) (ho : old.length = 64) (hn : n < 64) (hg : w.heap[g]? = some (.cells cur t (0, 0))) :
    Calls Tryz.prog 50 #[.pointer (some ⟨g, o, none⟩), .agg (bv old).toArray, .int .i64 (n : Int)] w fun e w' => e = .returned (.tuple #[]) ∧ w'.rangeAt g o (wcl ⟨xa, false, xb.take n ++ old.drop n⟩) ∧ Ba (fun k => k = g) w w' := by
  have hgl : g < w.heap.size := (Array.getElem?_eq_some_iff.1 hg).1
  have hbl : Below w.heap.size w (w.alloc (.cells (bv old).toArray 101)) := (Below.refl _ _).alloc (Nat.le_refl _) _
  have HR1 := hide (range_belW hr hbl)
  have HB := hide (Ba.of (p := fun k => k = g) hbl)
  have hg1 := (hbl.block g hgl).trans hg
  have HG : Hid ((w.alloc (.cells (bv old).toArray 101)).rangeAt w.heap.size 0 (bv old)) := hide (range_newW w _ _)
  have h64 : (64 : Int) - (n : Int) = ((64 - n : Nat) : Int) := by omega
  have hlen : (bv (old.drop n)).length = 64 - n := by rw [bv_len, List.length_drop, ho]
  have hcp : ∀ ty, (Builtin.copy_ #[43, 43] ty #[.slice (some ⟨g, o + 2 + n, none⟩) (64 - n) (64 - n), .slice (some ⟨w.heap.size, n, none⟩) (64 - n) (64 - n)]).run Tryz.prog ((w.alloc (.cells (bv old).toArray 101)).drew) = .ok (.int .i64 ((64 - n : Nat) : Int)) (((w.alloc (.cells (bv old).toArray 101)).drew).setCells g (o + 2 + n) (bv (old.drop n))) := fun ty => by
    have := run_copy_cells (P := Tryz.prog) ((w.alloc (.cells (bv old).toArray 101)).drew) 43 43 ty 5 g (o + 2 + n) (64 - n) (64 - n) ⟨w.heap.size, n, none⟩ (64 - n) (64 - n) (bv (old.drop n)) Tryz.underlying43 infoU (by rw [hlen]; exact (Nat.min_self _).symm)
      (fun j v hv => by
        rw [Addr.add_lit]
        have := HG.out (n + j) v (by
          simp only [bv] at hv ⊢
          rw [List.getElem?_map] at hv ⊢
          rw [← List.getElem?_drop]
          exact hv)
        rwa [Nat.zero_add] at this) (fun j hj => by
        rw [hlen] at hj
        have := HR1.out (2 + n + j) _ (List.getElem?_eq_getElem (by rw [wcl_len' hx.1]; omega))
        rw [← Nat.add_assoc, ← Nat.add_assoc] at this
        exact (congrArg Option.isSome this).trans rfl) (fun j _ => by
        have : (w.alloc (.cells (bv old).toArray 101)).frozen? ⟨g, o + 2 + n + j, none⟩ = false := by simp only [World.frozen?, hg1]; simp
        exact this) (bv_one _)
    rw [this, hlen]
    rfl
  have HT : Hid ((((w.alloc (.cells (bv old).toArray 101)).drew).setCells g (o + 2 + n) (bv (old.drop n))).rangeAt g o (wcl ⟨xa, false, xb.take n ++ old.drop n⟩)) := hide (torn_range (W := (w.alloc (.cells (bv old).toArray 101)).drew) hx.1 ho hn HR1.out)
  have HBT : Hid (Ba (fun k => k = g) w (((w.alloc (.cells (bv old).toArray 101)).drew).setCells g (o + 2 + n) (bv (old.drop n)))) := hide ((HB.out.call (Below.refl _ _).drew).trans (ba_cells _ _) (fun _ _ e => e))
  have c1 := HR1.out 1 _ rfl
  clear hr hbl HB hg hg1
  go_enter Tryz.func50, Tryz.ntmps50
  go_upto_region 2 with (first | (refine wpList_boxB _ rfl _ rfl old rfl ?_))
  refine wp_region_held_drew (S := fun _ => True) (by kernel_rfl) trivial (fun hHeld => ?_)
  refine wpAnyH_take (i := 0) (oi := _) (v := .pointer (some ⟨g, o, none⟩)) rfl (by kernel_rfl) (by kernel_rfl) (by kernel_rfl) (fun _ _ _ h => h) (Or.inl ⟨by rfl, by intro w hSw; go_simp⟩) hHeld ?_
  change wpAnyH _ _ _ _ _ _ _ (Act.put _ (some 19) _) _
  simp only [Act.put, List.setIfInBounds_toArray, List.set_cons_zero, List.set_cons_succ]
  refine wpAnyH_take (i := 1) (oi := _) (v := .pointer (some ⟨g, o, none⟩)) rfl (by kernel_rfl) (by kernel_rfl) (by kernel_rfl) (fun _ _ _ h => h) (Or.inl ⟨by rfl, by intro w hSw; go_simp⟩) hHeld ?_
  change wpAnyH _ _ _ _ _ _ _ (Act.put _ (some 20) _) _
  simp only [Act.put, List.setIfInBounds_toArray, List.set_cons_zero, List.set_cons_succ]
  refine wpAnyH_take (i := 2) (oi := _) (v := .pointer (some ⟨g, o + 2, none⟩)) rfl (by kernel_rfl) (by kernel_rfl) (by kernel_rfl) (fun _ _ _ h => h) (Or.inl ⟨by rfl, by intro w hSw; go_simp⟩) hHeld ?_
  change wpAnyH _ _ _ _ _ _ _ (Act.put _ (some 21) _) _
  simp only [Act.put, List.setIfInBounds_toArray, List.set_cons_zero, List.set_cons_succ]
  refine wpAnyH_take (i := 3) (oi := _) (v := .int .i64 (n : Int)) rfl (by kernel_rfl) (by kernel_rfl) (by kernel_rfl) (fun _ _ _ h => h) (Or.inl ⟨by rfl, by intro w hSw; go_simp⟩) hHeld ?_
  change wpAnyH _ _ _ _ _ _ _ (Act.put _ (some 22) _) _
  simp only [Act.put, List.setIfInBounds_toArray, List.set_cons_zero, List.set_cons_succ]
  refine wpAnyH_take (i := 4) (oi := _) (v := .slice (some ⟨g, o + 2 + n, none⟩) (64 - n) (64 - n)) rfl (by kernel_rfl) (by kernel_rfl) (by kernel_rfl) (fun _ _ _ h => h) (yields_slc (by rfl) _ _ rfl _ _ n rfl rfl hn) hHeld ?_
  change wpAnyH _ _ _ _ _ _ _ (Act.put _ (some 23) _) _
  simp only [Act.put, List.setIfInBounds_toArray, List.set_cons_zero, List.set_cons_succ]
  refine wpAnyH_take (i := 5) (oi := _) (v := .int .i64 (n : Int)) rfl (by kernel_rfl) (by kernel_rfl) (by kernel_rfl) (fun _ _ _ h => h) (Or.inl ⟨by rfl, by intro w hSw; go_simp⟩) hHeld ?_
  change wpAnyH _ _ _ _ _ _ _ (Act.put _ (some 24) _) _
  simp only [Act.put, List.setIfInBounds_toArray, List.set_cons_zero, List.set_cons_succ]
  refine wpAnyH_take (i := 6) (oi := _) (v := .slice (some ⟨w.heap.size, 0 + n, none⟩) (64 - n) (64 - n)) rfl (by kernel_rfl) (by kernel_rfl) (by kernel_rfl) (fun _ _ _ h => h) (yields_slc (by rfl) _ _ rfl _ _ n rfl rfl hn) hHeld ?_
  change wpAnyH _ _ _ _ _ _ _ (Act.put _ (some 25) _) _
  simp only [Act.put, List.setIfInBounds_toArray, List.set_cons_zero, List.set_cons_succ]
  rw [Nat.zero_add]
  refine wpAnyH_ready (rs := [7]) (by kernel_rfl) (by simp) ?_
  refine AllReadyH.cons (o := _) rfl (fun K hK => ?_) AllReadyH.nil
  have hc1 := hcp 3
  go_simp
  refine hK.out _ _ trivial (fun hHeld1 => ?_)
  clear hK K hHeld hHeld1
  refine wpAnyH_done (by kernel_rfl) ?_ _
  go_wp2
  exact bodyPost_end (v := .tuple #[]) (by simp [results, Tryz.results50]) rfl ⟨rfl, HT.out, HBT.out⟩
end Go.Proofs.YtoamghncncalgaaGreatDoor
