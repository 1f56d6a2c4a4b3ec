/-
  THE LAW's OWN 'works' ANSWERS true (layer wire). Condition: errors.errorType holds the handle of the type error.
-/
import Derived.Test.YtfjkahclobnhiaaDoorWpute
import Derived.Test.YtfjkahclobnhiaaDoorWrow
namespace Go.Proofs.YtfjkahclobnhiaaDoor
open Go.RowKit

/-- 70, yes, the text 9, the row 1, 20000, as bytes. -/
def exB : List Int := [64, 70, 1, 1, 9, 2, 1, 128, 0, 78, 32]
theorem exB_byt : Byt exB := by unfold Byt exB; decide
theorem Bx.hnd {p : Nat} {w w' : World} (h : Bx p w w') (hp : p ≠ 0) (hg : Hnd w) : Hnd w' := (h.cell (size_of_handle hg) (Ne.symm hp)).trans hg
theorem wk_num (p : Nat) (v : Value) (w : World) (hr : Rd w p v 0 .nilIface) (hv : Slx p bc w v exB) : Calls Tryd.prog 29 #[.pointer (some ⟨p, 0, none⟩), .int .u64 100] w fun x w' => x = .returned (.int .u64 70) ∧ Rd w' p v 2 .nilIface ∧ Bx p w w' := by
  have h := rnum_any p v exB 0 100 w hr hv.sl (by decide) exB_byt (by decide)
  rw [show numS (exB.drop 0) 100 = (0, 2, 70) by decide] at h
  exact h
theorem wk_bad (p : Nat) (v : Value) (w : World) (hr : Rd w p v 0 .nilIface) (hv : Slx p bc w v exB) : Calls Tryd.prog 29 #[.pointer (some ⟨p, 0, none⟩), .int .u64 69] w fun x w' => x = .returned (.int .u64 0) ∧ Rd w' p v 0 (ev (some ([(⟨#[110, 117, 109]⟩, 0)], 6))) ∧ Bx p w w' := by
  have h := rnum_any p v exB 0 69 w hr hv.sl (by decide) exB_byt (by decide)
  rw [show numS (exB.drop 0) 69 = (6, 0, 0) by decide] at h
  exact h
theorem wk_flag (p : Nat) (v : Value) (w : World) (hr : Rd w p v 2 .nilIface) (hv : Slx p bc w v exB) : Calls Tryd.prog 31 #[.pointer (some ⟨p, 0, none⟩)] w fun x w' => x = .returned (.bool true) ∧ Rd w' p v 3 .nilIface ∧ Bx p w w' := by
  have h := rflag_any p v exB 2 w hr hv.sl (by decide) (by decide)
  rw [show flagS (exB.drop 2) = (0, 1, true) by decide] at h
  exact h
theorem wk_text (p : Nat) (v : Value) (w : World) (hr : Rd w p v 3 .nilIface) (hv : Slx p bc w v exB) : Calls Tryd.prog 32 #[.pointer (some ⟨p, 0, none⟩), .int .i64 5] w fun x w' => ∃ ao c, x = .returned (.slice ao 1 c) ∧ Rd w' p v 5 .nilIface ∧ Bx p w w' := by
  have h := rtext_any p v exB 3 5 w hr hv (by decide) exB_byt (by decide) (by decide)
  rw [show textS exB 3 5 = (0, ⟨#[110, 117, 109]⟩, 5, [9]) from rfl] at h
  refine h.mono ?_
  rintro e w' ⟨v', rfl, h1, h2, h3⟩
  obtain ⟨ao, c, rfl⟩ := h1.form
  exact ⟨ao, c, rfl, h2, h3⟩
theorem wk_row (p : Nat) (v : Value) (w : World) (hr : Rd w p v 5 .nilIface) (hv : Slx p bc w v exB) : Calls Tryd.prog 33 #[.pointer (some ⟨p, 0, none⟩), .int .i64 3, .int .i64 20000] w fun x w' => ∃ ao c, x = .returned (.slice ao 2 c) ∧ Rd w' p v 11 .nilIface ∧ Bx p w w' := by
  have h := rrow_any p v exB 5 3 20000 w hr hv (by decide) exB_byt (by decide) (by decide) (by decide)
  rw [show rowS exB 5 3 20000 = (0, 11, [1, 20000]) by decide] at h
  refine h.mono ?_
  rintro e w' ⟨v', rfl, h1, h2, h3⟩
  obtain ⟨ao, c, rfl⟩ := h1.form
  exact ⟨ao, c, rfl, h2, h3⟩
theorem wk_end (p : Nat) (ao : Option Addr) (c : Nat) (w : World) (hr : Rd w p (.slice ao 11 c) 11 .nilIface) : Calls Tryd.prog 27 #[.pointer (some ⟨p, 0, none⟩)] w fun x w' => x = .returned .nilIface ∧ Rd w' p (.slice ao 11 c) 11 .nilIface ∧ Bx p w w' := rend_any p ao 11 c 11 w hr
theorem wk_where (w : World) (hg : Hnd w) : Calls Tryd.prog 35 #[ev (some ([(⟨#[110, 117, 109]⟩, 0)], 6))] w fun e w' => e = .returned (.tuple #[.int .i64 0, .bool true]) ∧ Below w.heap.size w w' := where_ev _ w hg
theorem wk_is (w : World) : Calls Tryd.prog 37 #[ev (some ([(⟨#[110, 117, 109]⟩, 0)], 6)), .int .i64 6] w fun e w' => e = .returned (.bool true) ∧ Below w.heap.size w w' := is_ev _ 6 w
theorem own_lt {B : Nat} {w : World} {v : Value} {m : Nat} {cur : List Value} (h : Rw B w v m cur) (o k c : Nat) (g : Nat) (hg : w.heap.size ≤ g) : ∀ b o' k' c', Value.slice (some ⟨g, o, none⟩) k c = .slice (some ⟨b, o', none⟩) k' c' → v.ownBlock ≠ some b := by
  intro b o' k' c' e q
  cases e
  have := (h.owns.lt _ q).2
  omega
theorem Rd.low {B p : Nat} {w w1 w' : World} {v : Value} {a : Int} {e : Value} (hr : Rd w1 p v a e) (hb : Below B w w1) (h : Bx p w1 w') (hB : B ≤ p) : Below B w w' := hb.trans ((h.below (Nat.le_of_lt hr.lt)).mono hB)
set_option maxRecDepth 100000 in
set_option maxHeartbeats 8000000 in
theorem works_any (w : World) (hg : Hnd w) : Calls Tryd.prog 8 #[] w fun e w' => e = .returned (.bool true) ∧ Below w.heap.size w w' := by
  have G0 := hide hg
  have hpos := size_of_handle hg
  clear hg
  go_enter Tryd.func8, Tryd.ntmps8
  go_wp2_with fail
  refine (wnum_any w.heap.size _ 0 [] 70 _ (rw_nil _ _) (Nat.le_refl _) (by omega) (by omega)).mono ?_
  rintro e w1 ⟨v1, cur1, rfl, hp1⟩
  have HP1 : Hid (Put w.heap.size w (.slice none 0 0) 0 [] w1 v1 2 cur1 (bv [64, 70])) := hp1
  clear hp1
  go_wp2_with fail
  refine (wflag_any w.heap.size v1 2 cur1 true _ HP1.out.rw HP1.out.below.size (by omega)).mono ?_
  rintro e w2 ⟨v2, cur2, rfl, hp2⟩
  have HP2 : Hid (Put w.heap.size w (.slice none 0 0) 0 [] w2 v2 3 cur2 (bv [64, 70, 1])) := HP1.out.trans hp2
  clear hp2 HP1
  go_wp2_with fail
  refine (wtext_any w.heap.size v2 _ 3 cur2 [9] _ (HP2.out.rw.below ((Below.refl _ _).alloc (Nat.le_refl _) _)) (by have := HP2.out.below.size; simp; omega) (by omega) (by decide) (.inr ⟨w2.heap.size, 0, 1, rfl, by decide, ?_⟩) (fun _ => own_lt HP2.out.rw _ _ _ _ (Nat.le_refl _))).mono ?_
  · intro i hi
    obtain rfl : i = 0 := by simpa using hi
    simp [bc]
  rintro e w3 ⟨v3, rfl, hown, hb3⟩
  obtain ⟨cur3, hrw3, htk3⟩ := Rw.of hown
  have HR3 : Hid (Rw w.heap.size w3 v3 5 cur3) := hrw3
  have hE3 : cur3.take 5 = bv [64, 70, 1, 1, 9] := by
    refine htk3.trans ?_
    rw [show cur2.take 3 = bv [64, 70, 1] from by simpa using HP2.out.tk]
    rfl
  have HE3 := hide hE3
  have HB3 := hide ((HP2.out.below.alloc HP2.out.below.size _).trans hb3)
  clear hown hb3 hrw3 htk3 HP2 hE3
  go_wp2_with fail
  refine (wrow_any w.heap.size v3 _ 5 cur3 [1, 20000] _ (HR3.out.below ((Below.refl _ _).alloc (Nat.le_refl _) _)) (by have := HB3.out.size; simp; omega) (by omega) (by decide) (by decide) (.inr ⟨w3.heap.size, 0, 2, rfl, by decide, ?_⟩) (fun _ => own_lt HR3.out _ _ _ _ (Nat.le_refl _))).mono ?_
  · intro i hi
    match i, hi with
    | 0, _ => simp [ic]
    | 1, _ => simp [ic]
  rintro e w4 ⟨v4, cur4, rfl, hp4⟩
  have hO4 : w4.ownsRow w.heap.size 5 1 v4 11 (bv exB) := by
    have h1 := hp4.rw.owns
    rw [hp4.tk, HE3.out] at h1
    exact h1
  have hB4 := (HB3.out.alloc HB3.out.size _).trans hp4.below
  have hS4 : Sl bc w4 v4 exB := sl_of_owns hO4
  obtain ⟨ao, cap, hV⟩ := hS4.form
  subst hV
  have HS4 := hide hS4
  have HB4 := hide hB4
  clear hp4 hO4 hB4 hS4 HR3 HE3 HB3
  go_wp2_with fail
  refine (read_any ao 11 cap w4).mono ?_
  rintro e w5 ⟨rfl, hr5, hb5⟩
  have hv5 : Slx w4.heap.size bc w5 (.slice ao 11 cap) exB := (HS4.out.out (Nat.le_refl _)).below hb5
  have HV5 := hide hv5
  have HR5 := hide hr5
  have HB5 := hide (HB4.out.trans (hb5.mono HB4.out.size))
  have hp0 : w4.heap.size ≠ 0 := by have := HB4.out.size; omega
  have hq : w.heap.size ≤ w4.heap.size := HB4.out.size
  have HF5 := hide ((HS4.out.below hb5))
  clear hv5 hr5 hb5
  go_wp2_with fail
  refine (wk_num w4.heap.size _ w5 HR5.out HV5.out).mono ?_
  rintro e w6 ⟨rfl, hr6, hx6⟩
  have HR6 := hide hr6
  have HV6 := hide (HV5.out.bx hx6)
  have HB6 := hide (HR5.out.low HB5.out hx6 hq)
  clear hr6 hx6 HR5 HV5 HB5
  go_wp2_with fail
  refine (wk_flag w4.heap.size _ w6 HR6.out HV6.out).mono ?_
  rintro e w7 ⟨rfl, hr7, hx7⟩
  have HR7 := hide hr7
  have HV7 := hide (HV6.out.bx hx7)
  have HB7 := hide (HR6.out.low HB6.out hx7 hq)
  clear hr7 hx7 HR6 HV6 HB6
  go_wp2_with fail
  refine (wk_text w4.heap.size _ w7 HR7.out HV7.out).mono ?_
  rintro e w8 ⟨ao8, c8, rfl, hr8, hx8⟩
  have HR8 := hide hr8
  have HV8 := hide (HV7.out.bx hx8)
  have HB8 := hide (HR7.out.low HB7.out hx8 hq)
  clear hr8 hx8 HR7 HV7 HB7
  go_wp2_with fail
  refine (wk_row w4.heap.size _ w8 HR8.out HV8.out).mono ?_
  rintro e w9 ⟨ao9, c9, rfl, hr9, hx9⟩
  have HR9 := hide hr9
  have HV9 := hide (HV8.out.bx hx9)
  have HB9 := hide (HR8.out.low HB8.out hx9 hq)
  clear hr9 hx9 HR8 HV8 HB8
  go_wp2_with fail
  refine (wk_end w4.heap.size ao cap w9 HR9.out).mono ?_
  rintro e w10 ⟨rfl, hr10, hx10⟩
  have HR10 := hide hr10
  have HV10 := hide (HV9.out.bx hx10)
  have HB10 := hide (HR9.out.low HB9.out hx10 hq)
  clear hr10 hx10 HR9 HV9 HB9
  go_wp2_with fail
  refine (read_any ao 11 cap w10).mono ?_
  rintro e w11 ⟨rfl, hr11, hb11⟩
  have hs10 : w.heap.size ≤ w10.heap.size := HB10.out.size
  have HV11 := hide ((HV10.out.below hb11).sl)
  have HR11 := hide hr11
  have HB11 := hide (HB10.out.trans (hb11.mono hs10))
  have hvv : Slx w10.heap.size bc w11 (.slice ao 11 cap) exB := by
    have h1 := HV10.out.sl.out (Nat.le_refl w10.heap.size)
    exact h1.below hb11
  have HVV := hide hvv
  clear hr11 hb11 hvv HV10 HR10 HB10
  go_wp2_with fail
  refine (wk_bad w10.heap.size _ w11 HR11.out HVV.out).mono ?_
  rintro e w12 ⟨rfl, hr12, hx12⟩
  have HR12 := hide hr12
  have HB12 := hide (HR11.out.low HB11.out hx12 hs10)
  have HG12 := hide (G0.out.below HB12.out)
  clear hr12 hx12 HR11 HB11 HVV
  generalize hE : ev (some ([(⟨#[110, 117, 109]⟩, 0)], 6)) = E at *
  have HE := hide hE
  have W1 := hide (fun W (h : Hnd W) => wk_where W h)
  have W2 := hide (fun W => wk_is W)
  rw [HE.out] at W1 W2
  clear hE
  go_wp2_with fail
  refine (err_any _ _ _ _ _ HR12.out).mono ?_
  rintro e w0 ⟨rfl, rfl⟩
  go_wp2_with fail
  refine (W1.out _ HG12.out).mono ?_
  rintro e w13 ⟨rfl, hb13⟩
  have HR13 := hide (HR12.out.below hb13)
  have HB13 := hide (HB12.out.trans (hb13.mono HB12.out.size))
  clear hb13
  go_wp2_with fail
  refine (err_any _ _ _ _ _ HR13.out).mono ?_
  rintro e w0 ⟨rfl, rfl⟩
  go_wp2_with fail
  refine (W2.out _).mono ?_
  rintro e w14 ⟨rfl, hb14⟩
  have HR14 := hide (HR13.out.below hb14)
  have HB14 := hide (HB13.out.trans (hb14.mono HB13.out.size))
  clear hb14
  go_wp2_with fail
  refine (at_any _ _ _ _ _ HR14.out).mono ?_
  rintro e w0 ⟨rfl, rfl⟩
  go_wp2_with fail
  go_ret
  exact ⟨rfl, HB14.out⟩
end Go.Proofs.YtfjkahclobnhiaaDoor
