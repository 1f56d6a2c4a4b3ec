/-
  THE LAWS' OWN EXAMPLE (castellanlaw09.works): it holds. No condition.
-/
import Derived.Test.YtoamghncncalgaaGreatDoorJRefCda2
namespace Go.Proofs.YtoamghncncalgaaGreatDoor
open Go.RowKit

def z50 : List Int := List.replicate 50 0
def j0 : Dst := ⟨20, [], []⟩
def j1 : Dst := pS j0 3 1 [7] 1
def j2 : Dst := pS j1 4 2 z50 2
def j3 : Dst := syS j2
def j4 : Dst := pS j3 6 4 [9] 1
def j5 : Dst := crS j4 [] 0
def j6 : Dst := cutS j5 4 4 6
theorem jO0 : Opn j0.tk 3 0 [] 3 0 := .stop (by decide +kernel)
theorem opn_more {t : Cs} {a last st a1 x y : Int} {b : List Int} {L M : List Lk} (h : recS t a last = some (b, st)) (h1 : a + blks b.length = a1) (h2 : (if b.length = 0 then [] else [(a, b)]) ++ L = M) (k : Opn t a1 st L x y) : Opn t a last M x y := by
  rw [← h2]
  refine .more h ?_
  rw [h1]
  exact k
theorem jO5 : Opn j5.tk 3 0 [(3, [7]), (4, z50)] 6 3 :=
  opn_more (b := [7]) (st := 1) (by decide +kernel) (a1 := 4) (by decide) (L := [(4, z50)]) (by decide) (opn_more (b := z50) (st := 3) (by decide +kernel) (a1 := 6) (by decide) (L := []) (by decide) (.stop (by decide +kernel)))
theorem jO6 : Opn j6.tk 3 0 [(3, [7])] 5 4 :=
  opn_more (b := [7]) (st := 1) (by decide +kernel) (a1 := 4) (by decide) (L := []) (by decide) (opn_more (b := []) (st := 4) (by decide +kernel) (a1 := 5) (by decide) (L := []) (by decide) (.stop (by decide +kernel)))
theorem jH0 : hiS 3 j0.cs = 0 := by decide +kernel
theorem jH5 : hiS 3 j5.cs = 3 := by decide +kernel
theorem jH6 : hiS 3 j6.cs = 4 := by decide +kernel
theorem jR1 : (j0.tk.length : Int) + (1 : Nat) ≤ j0.room ∧ j0.wt < 20000 := by decide +kernel
theorem jR2 : (j1.tk.length : Int) + (2 : Nat) ≤ j1.room ∧ j1.wt < 20000 := by decide +kernel
theorem jR4 : (j3.tk.length : Int) + (1 : Nat) ≤ j3.room ∧ j3.wt < 20000 := by decide +kernel
theorem jW2 : j2.wt < 30000 := by decide +kernel
theorem jW4 : j4.wt < 30000 := by decide +kernel
theorem jW5 : j5.wt < 6000 := by decide +kernel
theorem jW6 : j6.wt < 20000 := by decide +kernel
theorem jT5 : (look j5.tk 4).isSome = true := by decide +kernel
/-- A chain is opened, where it is known which records stand. -/
theorem open_at {d bS bT : Nat} {u : Value} {s : Dst} {base frm a last hi : Int} {L : List Lk} (w : World) (h : Dq w d bS bT u s) (hO : Opn s.tk frm 0 L a last) (hh : hiS base s.cs = hi) (hb : 0 ≤ base) (hf : base ≤ frm) (hm : frm ≤ 1073741824) (hw : s.wt < 30000) : Calls Tryz.prog 8 #[.pointer (some ⟨d, 0, none⟩), .int .i64 base, .int .i64 frm] w fun e w' => ∃ c vl qs, e = .returned (.tuple #[.pointer (some ⟨c, 0, none⟩), vl, .nilIface]) ∧ Chn w' c d bS bT u s base a (max last hi + 1) ∧ Lw w' (c + 1) vl qs ∧ lkO qs = L ∧ w.heap.size ≤ c ∧ Below w.heap.size w w' := by
  refine (open_ok base frm w h hb hf hm hw).mono ?_
  rintro e w' ⟨c, vl, qs, a9, last9, rfl, h1, h2, _, h4, _, _, h7, h8⟩
  obtain ⟨e1, rfl, rfl⟩ := h4.det hO
  rw [hh] at h1
  exact ⟨c, vl, qs, rfl, h1, h2, e1, h7, h8⟩
theorem lw_at {W : World} {B : Nat} {v : Value} {qs : List Lc} (h : Lw W B v qs) {k : Nat} (hk : k < qs.length) : ∃ g cap, v = .slice (some ⟨g, 0, none⟩) qs.length cap ∧ B ≤ g ∧ g < W.heap.size ∧ W.cell? ⟨g, k * 2 + 1, none⟩ = some (qs[k]).2.1 := by
  rcases h.own.2 with ⟨_, h0⟩ | ⟨g, cap, cur, e, a2, a3, a4, a5, a6, a7⟩
  · omega
  · have hg : ∀ (qs : List Lc) (i : Nat) (hi : i < qs.length), (qs.flatMap lkc)[i * 2 + 1]? = some (qs[i]).2.1 := by
      intro qs
      induction qs with
      | nil => intro i hi; simp at hi
      | cons q r ih =>
        intro i hi
        cases i with
        | zero => rfl
        | succ i =>
          have := ih i (by simpa using hi)
          rw [show (i + 1) * 2 + 1 = i * 2 + 1 + 2 by omega]
          exact this
    have h1 := hg qs k hk
    have hl : (qs.flatMap lkc).length = qs.length * 2 := h.own.1
    refine ⟨g, cap, e, a2, (Array.getElem?_eq_some_iff.1 a3).1, ?_⟩
    rw [← a7, List.getElem?_take_of_lt (by omega)] at h1
    simp only [World.cell?, a3]
    simpa using h1
theorem sl1 (W : World) (x : Int) (t : TypeId) : Sl bc (W.alloc (.cells #[.int .u8 x] t)) (.slice (some ⟨W.heap.size, 0, none⟩) 1 1) [x] := .inr ⟨W.heap.size, 0, 1, rfl, Nat.le_refl _, fun i hi => by
  rw [Nat.zero_add, World.cell?_alloc_at _ _ _ _ rfl]
  match i, hi with
  | 0, _ => rfl⟩
/-- Bytes in new memory stay what they are. -/
theorem sl_dx {d bS bT : Nat} {u : Value} {W : World} {g n k : Nat} {b : List Int} (h : Sl bc W (.slice (some ⟨g, 0, none⟩) n k) b) (hg : ¬ Own d bS bT u g) : ∀ W' u', Dx d bS bT u W W' u' → Sl bc W' (.slice (some ⟨g, 0, none⟩) n k) b := fun W' u' hx => by
  rcases h with h | ⟨b0, o, c, e, h2, h3⟩
  · exact .inl h
  · cases e
    exact .inr ⟨g, 0, k, rfl, h2, fun i hi => (hx.cell (cell_block (h3 i hi)) hg _).trans (h3 i hi)⟩
theorem make50 (W : World) : (Instr.makeSlice 43 (.int .i64 50) (.int .i64 50)).run Tryz.prog W = .ok (.slice (some ⟨W.heap.size, 0, none⟩) 50 50) (W.alloc (.cells (bv z50).toArray 5)) := by kernel_rfl
theorem z50_byt : Byt z50 := fun x hx => by simp [z50] at hx; omega
theorem al_c (W : World) (o : Obj) : Below W.heap.size W (W.alloc o) := (Below.refl _ _).alloc (Nat.le_refl _) o
/-- All that has turned since w is new. -/
structure Nc (w W : World) (c d bS bT : Nat) (u : Value) : Prop where
  be : Below w.heap.size w W
  ow : ∀ k, Own d bS bT u k ∨ k = c → w.heap.size ≤ k
theorem Nc.step {w W W' : World} {c d bS bT : Nat} {u u' : Value} (h : Nc w W c d bS bT u) (hx : Cx c d bS bT u W W' u') : Nc w W' c d bS bT u' :=
  ⟨h.be.trans (hx.ba.below h.be.size h.ow), fun k hk => by
    rcases hk with (e | e | e | e) | e
    · exact h.ow k (.inl (.inl e))
    · exact h.ow k (.inl (.inr (.inl e)))
    · exact h.ow k (.inl (.inr (.inr (.inl e))))
    · rcases hx.bl k e with q | q
      · exact h.ow k (.inl (.inr (.inr (.inr q))))
      · exact Nat.le_trans h.be.size q
    · exact h.ow k (.inr e)⟩
theorem Nc.call {w W W' : World} {c d bS bT : Nat} {u : Value} (h : Nc w W c d bS bT u) (hb : Below W.heap.size W W') : Nc w W' c d bS bT u := h.step (Cx.of (Dx.of hb))
theorem Nc.dx {w W W' : World} {c d bS bT : Nat} {u u' : Value} (h : Nc w W c d bS bT u) (hx : Dx d bS bT u W W' u') : Nc w W' c d bS bT u' := h.step (Cx.of hx)
set_option maxRecDepth 100000 in
set_option maxHeartbeats 16000000 in
theorem cworks_any (w : World) : Calls Tryz.prog 6 #[] w fun e w' => e = .returned (.bool true) ∧ Below w.heap.size w w' := by
  have HN : Hid (Num 20) := hide ⟨by decide, by decide⟩
  have hmk := make50
  have HI1 : Hid (∀ W, Calls Tryz.prog 30 #[ev (some ([(opRecord, ((0 : Nat) : Int))], 6)), .int .i64 6] W fun e w' => e = .returned (.bool true) ∧ Below W.heap.size W w') := hide (fun W => is_ev (some ([(opRecord, ((0 : Nat) : Int))], 6)) 6 W)
  have HI2 : Hid (∀ W, Calls Tryz.prog 30 #[ev (some ([(opFrom, 0)], 2)), .int .i64 2] W fun e w' => e = .returned (.bool true) ∧ Below W.heap.size W w') := hide (fun W => is_ev (some ([(opFrom, 0)], 2)) 2 W)
  go_enter Tryz.func6, Tryz.ntmps6
  go_upto_region 2 with (first | (go_at_call 7; refine (q_new2 20 w _ HN.out (Below.refl _ _)).mono ?_; rintro e w1 ⟨d, bS, bT, rfl, hq1, hn1, _⟩; have HQ1 := hide hq1; have HB1 := hide hn1; clear hq1 hn1))
  go_upto_region 5 with (first | (go_at_call 8; refine (open_at (s := j0) w1 HQ1.out jO0 jH0 (by decide) (by decide) (by decide) (by decide)).mono ?_; rintro e w2 ⟨c, vl, qs, rfl, hc, hl, ho, hcw, hb⟩; obtain rfl : qs = [] := List.map_eq_nil_iff.1 ho; obtain ⟨la, lk, rfl⟩ := hl.form; have HC2 : Hid (Chn w2 c d bS bT (.slice none 0 0) j0 3 3 1) := hide hc; have HN2 : Hid (Nc w w2 c d bS bT (.slice none 0 0)) := hide ⟨(HB1.out.call hb).be, fun k hk => hk.elim (fun e => HB1.out.ow k e) (fun e => by rw [e]; exact Nat.le_trans HB1.out.be.size hcw)⟩; clear hc hl ho hcw hb))
  clear HQ1 HB1
  go_upto_region 8 with (first | (go_at_call 10; refine (append_ok _ _ [7] 1 _ (HC2.out.below (al_c w2 _)) (by decide) (by decide) jR1.2 (by decide) (sl_dx (sl1 w2 7 _) (fun e => by have := HC2.out.q.dk.lt e; omega)) (fun x hx => by simp at hx; omega) (by decide) jR1.1 (by decide)).mono ?_; rintro e w3 ⟨u3, rfl, hc, hx⟩; have HC3 : Hid (Chn w3 c d bS bT u3 j1 3 4 2) := hide hc; have HN3 := hide ((HN2.out.call (al_c w2 _)).step hx); clear hc hx))
  clear HC2 HN2
  go_upto_region 9 with (first | (go_at_call 10; refine (append_ok _ _ z50 2 _ (HC3.out.below (al_c w3 _)) (by decide) (by decide) jR2.2 (by decide) (sl_dx ((Rq.new w3 5 z50).all rfl) (fun e => by have := HC3.out.q.dk.lt e; omega)) z50_byt (by decide) jR2.1 (by decide)).mono ?_; rintro e w4 ⟨u4, rfl, hc, hx⟩; have HC4 : Hid (Chn w4 c d bS bT u4 j2 3 6 4) := hide hc; have HN4 := hide ((HN3.out.call (al_c w3 _)).step hx); clear hc hx))
  clear HC3 HN3 hmk
  go_upto_region 10 with (first | (go_at_call 13; refine (syncC_any _ HC4.out jW2).mono ?_; rintro e w5 ⟨rfl, hc, hx⟩; have HC5 : Hid (Chn w5 c d bS bT (.slice none 0 0) j3 3 6 4) := hide hc; have HN5 := hide (HN4.out.dx hx); clear hc hx))
  clear HC4 HN4
  go_upto_region 11 with (first | (go_at_call 10; refine (append_ok _ _ [9] 1 _ (HC5.out.below (al_c w5 _)) (by decide) (by decide) jR4.2 (by decide) (sl_dx (sl1 w5 9 _) (fun e => by have := HC5.out.q.dk.lt e; omega)) (fun x hx => by simp at hx; omega) (by decide) jR4.1 (by decide)).mono ?_; rintro e w6 ⟨u6, rfl, hc, hx⟩; have HC6 : Hid (Chn w6 c d bS bT u6 j4 3 7 5) := hide hc; have HN6 := hide ((HN5.out.call (al_c w5 _)).step hx); clear hc hx))
  clear HC5 HN5
  go_upto_region 12 with (first | (go_at_call 21; refine (q_crash _ [] 0 _ HC6.out.q (Sl.nil _ _ _ _) jW4).mono ?_; rintro e w7 ⟨rfl, hq, hx⟩; have HQ7 : Hid (Dq w7 d bS bT (.slice none 0 0) j5) := hide hq; have HN7 := hide (HN6.out.dx hx); clear hq hx))
  clear HC6 HN6
  go_upto_region 15 with (first | (go_at_call 8; refine (open_at (s := j5) w7 HQ7.out jO5 jH5 (by decide) (by decide) (by decide) (Nat.lt_trans jW5 (by decide))).mono ?_; rintro e w8 ⟨x, vl, qs, rfl, hc, hl, ho, hcw, hb⟩; have HC8 : Hid (Chn w8 x d bS bT (.slice none 0 0) j5 3 6 4) := hide hc; have HL8 := hide hl; have HO8 := hide ho; have HX8 := hide hcw; have HQW : Hid (∀ k, Own d bS bT (.slice none 0 0) k → k < w7.heap.size) := hide (fun k e => HQ7.out.dk.lt e); have HN8 : Hid (Nc w w8 x d bS bT (.slice none 0 0)) := hide ⟨(HN7.out.call hb).be, fun k hk => hk.elim (fun e => HN7.out.ow k (.inl e)) (fun e => by rw [e]; exact Nat.le_trans HN7.out.be.size hcw)⟩; clear hc hl ho hcw hb))
  have hq2 : qs.length = 2 := by have := congrArg List.length HO8.out; simpa [lkO] using this
  have hq1 : (qs[1]'(by omega)).2.2 = z50 := by
    have h1 := congrArg (fun l => l[1]?) HO8.out
    simp only [lkO, List.getElem?_map, List.getElem?_eq_getElem (show 1 < qs.length by omega), Option.map_some] at h1
    exact congrArg Prod.snd (Option.some.inj h1)
  obtain ⟨g, cap, hvl, hg1, hg2, hg3⟩ := lw_at HL8.out (k := 1) (by omega)
  obtain ⟨ad, kk, hform⟩ := (HL8.out.mem _ (List.getElem_mem (show 1 < qs.length by omega))).form
  rw [hq1] at hform
  rw [hform] at hg3
  rw [hq2] at hvl
  subst hvl
  have HM8 : Hid (w8.cell? ⟨g, 3, none⟩ = some (.slice ad 50 kk)) := hide hg3
  have HGN : Hid (¬ (Own d bS bT (.slice none 0 0) g ∨ g = x)) := hide (fun e => e.elim (fun e => by have := HQW.out g e; have := HX8.out; omega) (fun e => by omega))
  have HGL : Hid (g < w8.heap.size) := hide hg2
  clear hq1 hq2 hg1 hg2 hg3 hform HO8 HL8 HQ7 HN7 HX8 HQW
  go_upto_region 16 with (first | (go_at_call 18; refine (cut_ok 4 _ HC8.out (by decide) (by decide) (by decide) (by decide) (.inl jT5) jW5 (by decide)).mono ?_; rintro e w9 ⟨u9, rfl, hc, hx⟩; have HC9 : Hid (Chn w9 x d bS bT u9 j6 3 5 5) := hide hc; have HN9 := hide (HN8.out.step hx); have HM9 : Hid (w9.cell? ⟨g, 3, none⟩ = some (.slice ad 50 kk)) := hide ((hx.ba.cell HGL.out HGN.out 3).trans HM8.out); clear hc hx))
  clear HC8 HN8 HM8 HGN HGL
  go_upto_region 17 with (first | (go_at_call 8; refine (open_at (s := j6) w9 HC9.out.q jO6 jH6 (by decide) (by decide) (by decide) (Nat.lt_trans jW6 (by decide))).mono ?_; rintro e w10 ⟨y, vl2, qs2, rfl, _, hl, ho, _, hb⟩; have hq2 : qs2.length = 1 := (by have := congrArg List.length ho; simpa [lkO] using this); obtain ⟨la2, lk2, rfl⟩ := hl.form; rw [hq2]; have HC10 := hide (HC9.out.below hb); have HN10 := hide (HN9.out.call hb); have HM10 : Hid (w10.cell? ⟨g, 3, none⟩ = some (.slice ad 50 kk)) := hide ((hb.cell (p := ⟨g, 3, none⟩) (cell_block HM9.out)).trans HM9.out); clear hl ho hb hq2))
  clear HC9 HN9 HM9
  have m3 := HM10.out
  have HT : Hid (∀ W, Chn W x d bS bT u9 j6 3 5 5 → Calls Tryz.prog 20 #[.pointer (some ⟨x, 0, none⟩), .int .i64 3, .int .i64 4] W fun e w' => ∃ u', e = .returned .nilIface ∧ Chn w' x d bS bT u' (frN j6 (trL 3 1)) 3 5 5 ∧ Dx d bS bT u9 W w' u') := hide (fun W h => trim_ok 3 1 W h (by decide) (by decide) (by decide) (by decide) (by have := jW6; omega))
  go_wp2_with (first | (go_at_call 10; refine (append_lim c 0 0 none _ (.inl rfl)).mono ?_; rintro e w11 ⟨rfl, hw11⟩; rw [hw11]; clear hw11 w11) | (go_at_call 8; refine (open_nil 0 0 _).mono ?_; rintro e w11 ⟨rfl, hw11⟩; rw [hw11]; clear hw11 w11) | (go_at_call 29; refine (stampC_any _ HC10.out).mono ?_; rintro e w11 ⟨rfl, hw11⟩; rw [hw11]; clear hw11 w11) | (go_at_call 16; refine (next_any _ HC10.out).mono ?_; rintro e w11 ⟨rfl, hw11⟩; rw [hw11]; clear hw11 w11) | (go_at_call 30; first | (refine (HI1.out _).mono ?_; rintro e w11 ⟨rfl, hb11⟩; have HB11 := hide hb11; have HC11 := hide (HC10.out.below hb11); clear hb11) | (refine (HI2.out _).mono ?_; rintro e w12 ⟨rfl, hb12⟩; have HB12 := hide (bt HB11.out hb12); have HC12 := hide (HC11.out.below hb12); clear hb12)) | (go_at_call 31; refine (blocks_any _ _ (by decide) (by decide)).mono ?_; rintro e w13 ⟨rfl, hw13⟩; rw [hw13]; clear hw13 w13) | (go_at_call 20; refine (HT.out _ HC12.out).mono ?_; rintro e w14 ⟨u14, rfl, hc14, hx14⟩; have HN14 := hide ((HN10.out.call HB12.out).dx hx14); clear hc14 hx14))
  go_ret
  exact ⟨rfl, HN14.out.be⟩
end Go.Proofs.YtoamghncncalgaaGreatDoor
