/-
  THE LAWS' OWN EXAMPLE (castellanlaw08.works): it holds. No condition.
-/
import Derived.Test.YtpmpmdlmcpakiaaDoorBlkQ
namespace Go.Proofs.YtpmpmdlmcpakiaaDoor
open Go.RowKit

def k0 : Dst := ⟨2, [], []⟩
def k1 : Dst := wrS k0 5 [1, 2]
def k2 : Dst := syS k1
def k3 : Dst := wrS k2 5 [8, 9]
def k4 : Dst := wrS k3 6 [3]
def k5 : Dst := crS k4 [1] 1
theorem kE1 : wrE k0 5 [1, 2] = none := by decide
theorem kE3 : wrE k2 5 [8, 9] = none := by decide
theorem kE4 : wrE k3 6 [3] = none := by decide
theorem kE5 : wrE k4 7 [] = some ([(opBlock, 7)], 7) := by decide
theorem kS5 : wrS k4 7 [] = k4 := rfl
def r5 : List Int := 8 :: 2 :: List.replicate 62 0
def r6 : List Int := 0 :: List.replicate 63 0
theorem kR5 : (look k5.tk 5).getD zer = r5 := by decide
theorem kR6 : (look k5.tk 6).getD zer = r6 := by decide
theorem kU : k5.tk.length = 1 := by decide
theorem kL : k5.lo.length = 0 := by decide
theorem kC : k5.cs.length = 1 := by decide
theorem sl_two (W : World) (x y : Int) (t : TypeId) : Sl bc (W.alloc (.cells #[.int .u8 x, .int .u8 y] t)) (.slice (some ⟨W.heap.size, 0, none⟩) 2 2) [x, y] := .inr ⟨W.heap.size, 0, 2, rfl, Nat.le_refl _, fun i hi => by
  rw [Nat.zero_add, World.cell?_alloc_at _ _ _ _ rfl]
  match i, hi with
  | 0, _ => rfl
  | 1, _ => rfl⟩
theorem sl_one (W : World) (x : Int) (t : TypeId) : Sl bc (W.alloc (.cells #[.int .u8 x] t)) (.slice (some ⟨W.heap.size, 0, none⟩) 1 1) [x] := .inr ⟨W.heap.size, 0, 1, rfl, Nat.le_refl _, fun i hi => by
  rw [Nat.zero_add, World.cell?_alloc_at _ _ _ _ rfl]
  match i, hi with
  | 0, _ => rfl⟩
theorem sl_int1 (W : World) (x : Int) (t : TypeId) : Sl ic (W.alloc (.cells #[.int .i64 x] t)) (.slice (some ⟨W.heap.size, 0, none⟩) 1 1) [x] := .inr ⟨W.heap.size, 0, 1, rfl, Nat.le_refl _, fun i hi => by
  rw [Nat.zero_add, World.cell?_alloc_at _ _ _ _ rfl]
  match i, hi with
  | 0, _ => rfl⟩
theorem byt_lit {l : List Int} (h : l.all (fun x => decide (0 ≤ x ∧ x ≤ 255)) = true) : Byt l := fun x hx => by
  have := List.all_eq_true.1 h x hx
  simpa using this
theorem al_b (W : World) (o : Obj) : Below W.heap.size W (W.alloc o) := (Below.refl _ _).alloc (Nat.le_refl _) o
theorem arr_at {W : World} {g : Nat} {b : List Int} {t : TypeId} (h : W.heap[g]? = some (.cells (bv b).toArray t (0, 0))) {i : Nat} {x : Int} (hx : b[i]? = some x) : W.cell? ⟨g, i, none⟩ = some (.int .u8 x) := by
  simp [World.cell?, h, bv, hx]
theorem arr_new (W : World) (b : List Int) (t : TypeId) : (W.alloc (.cells (bv b).toArray t)).heap[W.heap.size]? = some (.cells (bv b).toArray t (0, 0)) := Array.getElem?_push_size
set_option maxRecDepth 100000 in
set_option maxHeartbeats 8000000 in
theorem bworks_any (w : World) : Calls Tryd.prog 5 #[] w fun e w' => e = .returned (.bool true) ∧ Below w.heap.size w w' := by
  have HN2 : Hid (Num 2) := hide ⟨by decide, by decide⟩
  have HNM : Hid (¬ Num (-1)) := hide (fun h => absurd h.1 (by decide))
  have HN5 : Hid (Num 5) := hide ⟨by decide, by decide⟩
  have HN6 : Hid (Num 6) := hide ⟨by decide, by decide⟩
  have HI1 : Hid (∀ W, Calls Tryd.prog 7 #[bft opRoom (-1) 2, .int .i64 2] W fun e w' => e = .returned (.bool true) ∧ Below W.heap.size W w') := hide (fun W => is_ev (some ([(opRoom, -1)], 2)) 2 W)
  have HI2 : Hid (∀ W, Calls Tryd.prog 7 #[bft opBlock 7 7, .int .i64 7] W fun e w' => e = .returned (.bool true) ∧ Below W.heap.size W w') := hide (fun W => is_ev (some ([(opBlock, 7)], 7)) 7 W)
  go_enter Tryd.func5, Tryd.ntmps5
  go_upto_region 2 with (first | (go_at_call 6; refine (q_new2 2 w _ HN2.out (Below.refl _ _)).mono ?_; rintro e w1 ⟨d, bS, bT, rfl, hq1, hn1, _⟩; have HQ1 := hide hq1; have HB1 := hide hn1; clear hq1 hn1))
  go_upto_region 5 with (first | (go_at_call 6; refine (bnew_bad (-1) _ HNM.out).mono ?_; rintro e w9 ⟨rfl, hw9⟩; rw [hw9]; clear hw9 w9) | (go_at_call 7; refine (HI1.out _).mono ?_; rintro e w2 ⟨rfl, hb2⟩; have HQ2 := hide (HQ1.out.below hb2); have HB2 := hide (HB1.out.call hb2); clear hb2))
  clear HQ1 HB1 HI1
  go_upto_region 6 with (first | (go_at_call 15; refine (q_writeN 5 _ [1, 2] _ (HQ2.out.below (al_b w2 _)) (sl_two w2 1 2 _) (byt_lit rfl) (by decide) kE1).mono ?_; rintro e w3 ⟨u3, rfl, hq, hx⟩; have HQ3 := hide hq; have HB3 := hide ((HB2.out.call (al_b w2 _)).step hx); clear hq hx))
  clear HQ2 HB2
  go_upto_region 7 with (first | (go_at_call 16; refine (q_sync _ HQ3.out (by decide)).mono ?_; rintro e w4 ⟨rfl, hq, hx⟩; have HQ4 := hide hq; have HB4 := hide (HB3.out.step hx); clear hq hx))
  clear HQ3 HB3
  go_upto_region 8 with (first | (go_at_call 15; refine (q_writeN 5 _ [8, 9] _ (HQ4.out.below (al_b w4 _)) (sl_two w4 8 9 _) (byt_lit rfl) (by decide) kE3).mono ?_; rintro e w5 ⟨u5, rfl, hq, hx⟩; have HQ5 := hide hq; have HB5 := hide ((HB4.out.call (al_b w4 _)).step hx); clear hq hx))
  clear HQ4 HB4
  go_upto_region 9 with (first | (go_at_call 15; refine (q_writeN 6 _ [3] _ (HQ5.out.below (al_b w5 _)) (sl_one w5 3 _) (byt_lit rfl) (by decide) kE4).mono ?_; rintro e w6 ⟨u6, rfl, hq, hx⟩; have HQ6 := hide hq; have HB6 := hide ((HB5.out.call (al_b w5 _)).step hx); clear hq hx))
  clear HQ5 HB5
  go_upto_region 10 with (first | (go_at_call 15; refine (q_write 7 _ [] _ HQ6.out (Sl.nil _ _ _ _) (byt_lit rfl) (by decide)).mono ?_; rintro e w7 ⟨u7, rfl, hq, hx⟩; have HQ7 : Hid (Dq w7 d bS bT u7 k4) := hide hq; have HB7 := hide (HB6.out.step hx); clear hq hx; rw [show ev (wrE (wrS (wrS (syS (wrS ⟨2, [], []⟩ 5 [1, 2])) 5 [8, 9]) 6 [3]) 7 []) = bft opBlock 7 7 from congrArg ev kE5]))
  clear HQ6 HB6
  go_upto_region 11 with (first | (go_at_call 17; refine (q_crash _ [1] 1 _ (HQ7.out.below (al_b w7 _)) (sl_int1 w7 1 _) (by decide)).mono ?_; rintro e w8 ⟨rfl, hq, hx⟩; have HQ8 : Hid (Dq w8 d bS bT (.slice none 0 0) k5) := hide hq; have HB8 := hide ((HB7.out.call (al_b w7 _)).step hx); clear hq hx))
  clear HQ7 HB7
  go_upto_region 12 with (first | (go_at_call 18; refine (q_read 5 _ HQ8.out HN5.out).mono ?_; rintro e w9 ⟨rfl, hw9⟩; rw [kR5] at hw9; rw [hw9]; clear hw9 w9))
  have HX := hide (arr_new w8 r5 74)
  have HQ9 := hide (HQ8.out.below (al_b w8 (.cells (bv r5).toArray 74)))
  have HB9 := hide (HB8.out.call (al_b w8 (.cells (bv r5).toArray 74)))
  generalize w8.alloc (.cells (bv r5).toArray 74) = W at HX HQ9 HB9 ⊢
  generalize w8.heap.size = X at HX ⊢
  clear HQ8 HB8
  go_wp2_with (first
    | (go_at_call 18; refine (q_read 6 _ HQ9.out HN6.out).mono ?_; rintro e w10 ⟨rfl, hw10⟩; rw [kR6] at hw10; have HY : Hid (w10.heap[W.heap.size]? = some (.cells (bv r6).toArray 74 (0, 0))) := hide (by rw [hw10]; exact arr_new W _ _); have hb10 : Below W.heap.size W w10 := (by rw [hw10]; exact al_b W _); have HX10 := hide ((hb10.block X (Array.getElem?_eq_some_iff.1 HX.out).1).trans HX.out); have HQ10 := hide (HQ9.out.below hb10); have HB10 := hide (HB9.out.call hb10); clear hw10 hb10)
    | (go_at_call 7; refine (HI2.out _).mono ?_; rintro e w11 ⟨rfl, hb11⟩; have hX11 := (hb11.block X (Array.getElem?_eq_some_iff.1 HX10.out).1).trans HX10.out; have hY11 := (hb11.block _ (Array.getElem?_eq_some_iff.1 HY.out).1).trans HY.out; have x0 := arr_at hX11 (i := 0) (x := 8) rfl; have x1 := arr_at hX11 (i := 1) (x := 2) rfl; have y0 := arr_at hY11 (i := 0) (x := 0) rfl; have HQ11 := hide (HQ10.out.below hb11); have HB11 := hide (HB10.out.call hb11); clear hb11 hX11 hY11)
    | (go_at_call 12; refine (q_used _ HQ11.out).mono ?_; rintro e w12 ⟨rfl, hw12⟩; rw [hw12, kU]; clear hw12 w12)
    | (go_at_call 11; refine (q_loose _ HQ11.out).mono ?_; rintro e w12 ⟨rfl, hw12⟩; rw [hw12, kL]; clear hw12 w12)
    | (go_at_call 14; refine (q_room _ HQ11.out).mono ?_; rintro e w12 ⟨rfl, hw12⟩; rw [hw12, show k5.room = 2 from rfl]; clear hw12 w12)
    | (go_at_call 10; refine (q_cells _ HQ11.out (by decide)).mono ?_; rintro e w12 ⟨cv, ps, rfl, hcw, hcs, hb12⟩; have hpl : ps.length = 1 := (by have := congrArg List.length hcs; rw [kC] at this; simpa [csOf] using this); obtain ⟨ca, cc, rfl⟩ := cw_form hcw; rw [hpl]; have HB12 := hide (HB11.out.call hb12); clear hcw hcs hb12 hpl))
  go_ret
  exact ⟨rfl, HB12.out.be⟩
end Go.Proofs.YtpmpmdlmcpakiaaDoor
