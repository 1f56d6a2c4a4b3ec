/-
  THE LAWS' OWN EXAMPLE (castellanlaw10.works): it holds. No condition.
-/
import Derived.Test.YtiedbchlgcgdeaaSlF
import Derived.Test.YtiedbchlgcgdeaaSameB
import Derived.Test.YtiedbchlgcgdeaaChWk
namespace Go.Proofs.Ytiedbchlgcgdeaa
open Go.RowKit

def k0 : Dst := ⟨2, [], []⟩
def k1 : Dst := wrS k0 5 (blkS 1 [1, 2])
def k2 : Dst := syS k1
def k3 : Dst := wrS k2 4 (blkS 2 [4])
def k4 : Dst := crS k3 [1] 30
theorem kS0 : slotB k0.cs 4 = (0, blkS 0 []) ∧ slotB k0.tk 4 = (0, blkS 0 []) := by decide +kernel
theorem kF0 : firmB k0.cs 4 0 (blkS 0 []) = true := by decide +kernel
theorem kF1 : firmB k1.cs 4 1 (blkS 1 [1, 2]) = false := by decide +kernel
theorem kS2 : slotB k2.tk 4 = (1, blkS 1 [1, 2]) := by decide +kernel
theorem kS4 : slotB k4.cs 4 = (1, blkS 1 [1, 2]) := by decide +kernel
theorem kF4 : firmB k4.cs 4 1 (blkS 1 [1, 2]) = true := by decide +kernel
theorem kB0 : Byt (blkS 0 []) := fun x hx => (blkS_blk (v := []) (fun x hx => by simp at hx) (by decide) (by decide) (by decide)).2 x hx
theorem kB1 : Byt (blkS 1 [1, 2]) := fun x hx => (blkS_blk (v := [1, 2]) (fun x hx => by simp at hx; omega) (by decide) (by decide) (by decide)).2 x hx
theorem kE0 : wrE k0 5 (blkS 1 [1, 2]) = none := by decide +kernel
theorem kE2 : wrE k2 4 (blkS 2 [4]) = none := by decide +kernel
theorem kW : k0.wt < 20000 ∧ k1.wt < 20000 ∧ k2.wt < 20000 ∧ k3.wt < 20000 ∧ k4.wt < 20000 := by decide +kernel
theorem kL4 : k4.lo = [] := rfl
theorem num4 : Num 4 := ⟨by decide, by decide⟩
theorem num5 : Num (4 + 1) := ⟨by decide, by decide⟩
theorem sl12s (W : World) (t : TypeId) : Sl bc (W.alloc (.cells #[.int .u8 1, .int .u8 2] t)) (.slice (some ⟨W.heap.size, 0, none⟩) 2 2) [1, 2] := .inr ⟨W.heap.size, 0, 2, rfl, Nat.le_refl _, fun i hi => by
  rw [Nat.zero_add, World.cell?_alloc_at _ _ _ _ rfl]
  match i, hi with
  | 0, _ => rfl
  | 1, _ => rfl⟩
theorem sli1 (W : World) (x : Int) (t : TypeId) : Sl ic (W.alloc (.cells #[.int .i64 x] t)) (.slice (some ⟨W.heap.size, 0, none⟩) 1 1) [x] := .inr ⟨W.heap.size, 0, 1, rfl, Nat.le_refl _, fun i hi => by
  rw [Nat.zero_add, World.cell?_alloc_at _ _ _ _ rfl]
  match i, hi with
  | 0, _ => rfl⟩
theorem byt12s : Byt [1, 2] := fun x hx => by simp at hx; omega
theorem make48 (W : World) : (Instr.makeSlice 23 (.int .i64 48) (.int .i64 48)).run Try.prog W = .ok (.slice (some ⟨W.heap.size, 0, none⟩) 48 48) (W.alloc (.cells (bv (List.replicate 48 0)).toArray 5)) := by kernel_rfl
theorem sturn_x {c : Nat} {x y v q : Value} {T : Int} (w : World) (h : B5 w c x y (.int .i64 T) v q) : Calls Try.prog 13 #[.pointer (some ⟨c, 0, none⟩)] w fun e w' => e = .returned (.int .i64 T) ∧ w' = w := by
  have x2 := h.c2
  go_enter Try.func13, Try.ntmps13
  go_wp2
  go_ret
  exact ⟨rfl, rfl⟩
theorem Nc.opn {w W W' : World} {c c' d bS bT : Nat} {u : Value} (h : Nc w W c d bS bT u) (hb : Below W.heap.size W W') (hc : W.heap.size ≤ c') : Nc w W' c' d bS bT u := ⟨(h.call hb).be, fun k hk => hk.elim (fun e => h.ow k (.inl e)) (fun e => by rw [e]; exact Nat.le_trans h.be.size hc)⟩
set_option maxRecDepth 100000 in
set_option maxHeartbeats 16000000 in
theorem sworks_any (w : World) : Calls Try.prog 6 #[] w fun e w' => e = .returned (.bool true) ∧ Below w.heap.size w w' := by
  have HI1 : Hid (∀ W, Calls Try.prog 15 #[ev (some ([(opTurn, 1)], 10)), .int .i64 10] W fun e w' => e = .returned (.bool true) ∧ Below W.heap.size W w') := hide (fun W => is_ev (some ([(opTurn, 1)], 10)) 10 W)
  have HI2 : Hid (∀ W, Calls Try.prog 15 #[ev (some ([(opSlot, 0), (opBlock, -1)], 2)), .int .i64 2] W fun e w' => e = .returned (.bool true) ∧ Below W.heap.size W w') := hide (fun W => is_ev (some ([(opSlot, 0), (opBlock, -1)], 2)) 2 W)
  have HI3 : Hid (∀ W, Calls Try.prog 15 #[ev (some ([(opValue, ((48 : Nat) : Int))], 6)), .int .i64 6] W fun e w' => e = .returned (.bool true) ∧ Below W.heap.size W w') := hide (fun W => is_ev (some ([(opValue, ((48 : Nat) : Int))], 6)) 6 W)
  have HN : Hid (Num 2) := hide ⟨by decide, by decide⟩
  have HNB : Hid (¬ Num (-1)) := hide (fun h => by have := h.1; omega)
  have hmk := make48
  go_enter Try.func6, Try.ntmps6
  go_upto_region 2 with (first | (go_at_call 7; refine (q_new2 2 w _ HN.out (Below.refl _ _)).mono ?_; rintro e w1 ⟨d, bS, bT, rfl, hq1, hn1, _⟩; have HQ1 := hide hq1; have HB1 := hide hn1; clear hq1 hn1))
  go_upto_region 5 with (first | (go_at_call 8; refine (sopen_ok (s := k0) 4 0 [] w1 HQ1.out rfl (by decide) num4 num5 kS0.1 kF0 (by decide) kB0).mono ?_; rintro e w2 ⟨c, v, rfl, hs, hcw, hb⟩; have HS2 : Hid (Slo w2 c d bS bT (.slice none 0 0) k0 4 0 v [] false) := hide hs; have HN2 : Hid (Nc w w2 c d bS bT (.slice none 0 0)) := hide ⟨(HB1.out.call hb).be, fun k hk => hk.elim (fun e => HB1.out.ow k e) (fun e => by rw [e]; exact Nat.le_trans HB1.out.be.size hcw)⟩; clear hs hcw hb))
  clear HQ1 HB1
  have hal2 : Below w2.heap.size w2 (w2.alloc (.cells #[.int .u8 1, .int .u8 2] 5)) := al_c w2 _
  go_upto_region 8 with (first | (go_at_call 9; refine (sput_ok _ _ [1, 2] _ (HS2.out.below hal2) (sl12s w2 _) byt12s (by decide) kW.1 (by decide) num4 num5 kB0 kS0.2 kE0).mono ?_; rintro e w3 ⟨u3, v3, rfl, hs, hx⟩; have HS3 : Hid (Slo w3 c d bS bT u3 k1 4 1 v3 [1, 2] true) := hide hs; have HN3 := hide ((HN2.out.call hal2).step hx); clear hs hx))
  clear HS2 HN2 hal2
  have hal3 : Below w3.heap.size w3 (w3.alloc (.cells #[.int .u8 3] 5)) := al_c w3 _
  go_upto_region 9 with (first | (go_at_call 9; refine (sput_state _ 1 _ _ (HS3.out.below hal3) (by decide) (Nat.lt_trans kW.2.1 (by decide)) num4 num5 (by decide) kB1 kF1).mono ?_; rintro e w4 ⟨rfl, hb⟩; have HS4 := hide ((HS3.out.below hal3).below hb); have HN4 := hide ((HN3.out.call hal3).call hb); clear hb))
  clear HS3 HN3 hal3
  go_upto_region 10 with (first | (go_at_call 10; refine (ssync_any _ HS4.out (Nat.lt_trans kW.2.1 (by decide))).mono ?_; rintro e w5 ⟨rfl, hs, hx⟩; have HS5 : Hid (Slo w5 c d bS bT (.slice none 0 0) k2 4 1 v3 [1, 2] false) := hide hs; have HN5 := hide (HN4.out.step hx); clear hs hx))
  clear HS4 HN4
  have hal5 : Below w5.heap.size w5 (w5.alloc (.cells #[.int .u8 4] 5)) := al_c w5 _
  go_upto_region 11 with (first | (go_at_call 9; refine (sput_ok _ _ [4] _ (HS5.out.below hal5) (sl1 w5 4 _) (fun x hx => by simp at hx; omega) (by decide) kW.2.2.1 (by decide) num4 num5 kB1 kS2 kE2).mono ?_; rintro e w6 ⟨u6, v6, rfl, hs, hx⟩; have HS6 : Hid (Slo w6 c d bS bT u6 k3 4 2 v6 [4] true) := hide hs; have HN6 := hide ((HN5.out.call hal5).step hx); clear hs hx))
  clear HS5 HN5 hal5
  have hal6 : Below w6.heap.size w6 (w6.alloc (.cells #[.int .i64 1] 3)) := al_c w6 _
  go_upto_region 12 with (first | (go_at_call 11; refine (q_crash _ [1] 30 _ (HS6.out.q.below hal6) (sli1 w6 1 _) (Nat.lt_trans kW.2.2.2.1 (by decide))).mono ?_; rintro e w7 ⟨rfl, hq, hx⟩; have HQ7 : Hid (Dq w7 d bS bT (.slice none 0 0) k4) := hide hq; have HX7 := hide ((HS6.out.x.below hal6).keepB (hx.ba.block c (Nat.lt_of_lt_of_le HS6.out.x.lt hal6.size) HS6.out.no)); have HN7 := hide ((HN6.out.call hal6).dx hx); clear hq hx))
  clear HS6 HN6 hal6
  go_upto_region 15 with (first | (go_at_call 8; refine (sopen_ok (s := k4) 4 1 [1, 2] w7 HQ7.out kL4 (Nat.lt_trans kW.2.2.2.2 (by decide)) num4 num5 kS4 kF4 (by decide) kB1).mono ?_; rintro e w8 ⟨c2, v8, rfl, hs, hcw, hb⟩; have HS8 : Hid (Slo w8 c2 d bS bT (.slice none 0 0) k4 4 1 v8 [1, 2] false) := hide hs; have HX8 := hide (HX7.out.below hb); have HN8 := hide (HN7.out.opn hb hcw); clear hs hcw hb))
  clear HQ7 HX7 HN7
  go_upto_region 16 with (first | (go_at_call 8; refine (sopen_bad (-1) _ HS8.out.q HNB.out (by decide)).mono ?_; rintro e w9 ⟨rfl, hb⟩; have HS9 := hide (HS8.out.below hb); have HX9 := hide (HX8.out.below hb); have HN9 := hide (HN8.out.call hb); clear hb))
  clear HS8 HX8 HN8
  go_wp2_with (first | (go_at_call 15; first | (refine (HI1.out _).mono ?_; rintro e w10 ⟨rfl, hb⟩; have HS10 := hide (HS9.out.below hb); have HX10 := hide (HX9.out.below hb); have HN10 := hide (HN9.out.call hb); clear hb) | (refine (HI2.out _).mono ?_; rintro e w13 ⟨rfl, hb⟩; have HS13 := hide (HS12.out.below hb); have HN13 := hide (HN12.out.call hb); have hal13 : Below w13.heap.size w13 (w13.alloc (.cells (bv (List.replicate 48 0)).toArray 5)) := (al_c w13 _); clear hb) | (refine (HI3.out _).mono ?_; rintro e w14 ⟨rfl, hb⟩; have HN14 := hide ((HN13.out.call hal13).call hb); clear hb)) | (go_at_call 13; first | (refine (sturn_x _ HX10.out).mono ?_; rintro e w9a ⟨rfl, hw9⟩; rw [hw9]; clear hw9 w9a) | (refine (sturn_x _ HS10.out.x).mono ?_; rintro e w9a ⟨rfl, hw9⟩; rw [hw9]; clear hw9 w9a)) | (go_at_call 12; refine (svalue_any _ HS10.out (by decide)).mono ?_; rintro e w11 ⟨x11, rfl, hv, hb⟩; obtain ⟨xa, xk, rfl⟩ := hv.form; have HV11 := hide hv; have HS11 := hide (HS10.out.below hb); have HN11 := hide (HN10.out.call hb); have hal11 : Below w11.heap.size w11 (w11.alloc (.cells #[.int .u8 1, .int .u8 2] 5)) := (al_c w11 _); clear hv hb) | (go_at_call 14; refine (same_bytes _ _ [1, 2] _ (HV11.out.sl.below hal11) (sl12s w11 _) (by decide)).mono ?_; rintro e w12 ⟨rfl, hb⟩; have HS12 := hide ((HS11.out.below hal11).below hb); have HN12 := hide ((HN11.out.call hal11).call hb); clear hb) | (go_at_call 9; refine (sput_lim _ 48 48 _ _ (by decide)).mono ?_; rintro e w9b ⟨rfl, hw9⟩; rw [hw9]; clear hw9 w9b))
  go_ret
  exact ⟨rfl, HN14.out.be⟩
end Go.Proofs.Ytiedbchlgcgdeaa
