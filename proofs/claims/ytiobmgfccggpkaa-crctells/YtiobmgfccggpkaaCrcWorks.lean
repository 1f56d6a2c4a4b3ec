/-
  THE LAW's OWN works ANSWERS true (layer crc). No condition.
-/
import Derived.Test.YtiobmgfccggpkaaCrcOpen
import Derived.Lib.SlBytesConst
import Derived.Lib.SmallJoins
namespace Go.Proofs.Ytiobmgfccggpkaa
open Go.RowKit

/-- The digits 1 to 9. -/
def digs : List Int := [49, 50, 51, 52, 53, 54, 55, 56, 57]
theorem digs_byt : Byt digs := by unfold Byt digs; decide
theorem digs_sum : crcL digs = 3808858755 := by decide +kernel
theorem none_sum : crcL [] = 0 := by decide +kernel
theorem digs_whole : Byt (digs ++ le4 (crcL digs)) := fun x hx => (List.mem_append.1 hx).elim (digs_byt x) (le4_byt _ x)
theorem digs_new (w : World) : Sl bc (w.alloc (.cells #[.int .u8 49, .int .u8 50, .int .u8 51, .int .u8 52, .int .u8 53, .int .u8 54, .int .u8 55, .int .u8 56, .int .u8 57] 5 (9, 10))) (.slice (some ⟨w.heap.size, 0, none⟩) 9 9) digs := by
  refine .inr ⟨w.heap.size, 0, 9, rfl, by decide, fun i hi => ?_⟩
  rw [World.cell?_alloc_mark, Nat.zero_add, show (#[Value.int .u8 49, .int .u8 50, .int .u8 51, .int .u8 52, .int .u8 53, .int .u8 54, .int .u8 55, .int .u8 56, .int .u8 57] : Array Value) = (digs.map bc).toArray from rfl]
  simp [hi]
theorem three_new (w : World) : Sl bc (w.alloc (.cells #[.int .u8 1, .int .u8 2, .int .u8 3] 5)) (.slice (some ⟨w.heap.size, 0, none⟩) 3 3) [1, 2, 3] := sl_new w [1, 2, 3] (by decide)
theorem wk_open (v : Value) (w : World) (hv : Sl bc w v (digs ++ le4 (crcL digs))) : Calls Try.prog 12 #[v] w fun e w' => (∃ ao c, e = .returned (.tuple #[.slice ao 9 c, .bool true])) ∧ Below w.heap.size w w' := by
  refine (copen_any v _ w hv (by simp [digs, le4]) digs_whole).mono ?_
  rintro e w' ⟨⟨u, f, rfl, h⟩, hb⟩
  rcases h with ⟨rfl, _, hs⟩ | ⟨_, h, _⟩
  · obtain ⟨ao, c, rfl⟩ := hs.form
    exact ⟨⟨ao, c, rfl⟩, hb⟩
  · rw [openL_put] at h
    cases h
theorem wk_no (v : Value) (w : World) (hv : Sl bc w v [1, 2, 3]) : Calls Try.prog 12 #[v] w fun e w' => e = .returned (.tuple #[.slice none 0 0, .bool false]) ∧ Below w.heap.size w w' := by
  obtain ⟨ao, cap, rfl⟩ := hv.form
  exact copen_few ao cap [1, 2, 3] w (by decide)
set_option maxRecDepth 100000 in
set_option maxHeartbeats 8000000 in
theorem works_any (w : World) : Calls Try.prog 8 #[] w fun e w' => e = .returned (.bool true) ∧ Below w.heap.size w w' := by
  have H1 := hide digs_new
  have kc := fun (w : World) (C : Array Value) (n c : Nat) => Lib.run_convert_bytes_const (P := Try.prog) w 22 5 C n c Try.underlying22 Try.underlying5
  have H2 := hide three_new
  go_enter Try.func8, Try.ntmps8
  go_wp2_with fail
  refine (put_any _ digs _ (H1.out w) (by decide) digs_byt).mono ?_
  rintro e w1 ⟨v1, rfl, hown, hb1⟩
  have HS1 : Hid (Sl bc w1 v1 (digs ++ le4 (crcL digs))) := hide (sl_of_owns hown)
  have HB1 := hide (((Below.refl w.heap.size w).alloc (Nat.le_refl _) _).trans (hb1.mono (by simp)))
  clear hown hb1
  go_wp2_with fail
  refine (wk_open v1 w1 HS1.out).mono ?_
  rintro e w2 ⟨⟨ao, c, rfl⟩, hb2⟩
  have HB2 := hide (HB1.out.trans (hb2.mono HB1.out.size))
  clear hb2
  go_wp2_with fail
  refine (wk_no _ _ (H2.out w2)).mono ?_
  rintro e w3 ⟨rfl, hb3⟩
  have HB3 := hide ((HB2.out.alloc HB2.out.size _).trans (hb3.mono (by have := HB2.out.size; simp; omega)))
  clear hb3
  go_wp2_with fail
  refine (sum_any _ digs _ (H1.out w3) (by decide) digs_byt).mono ?_
  rintro e w4 ⟨rfl, hb4⟩
  rw [digs_sum]
  have HB4 := hide ((HB3.out.alloc HB3.out.size _).trans (hb4.mono (by have := HB3.out.size; simp; omega)))
  clear hb4
  go_wp2_with fail
  refine (sum_any _ [] _ (Sl.nil _ _ _ _) (by decide) (fun x hx => by cases hx)).mono ?_
  rintro e w5 ⟨rfl, hb5⟩
  rw [none_sum]
  have HB5 := hide (HB4.out.trans (hb5.mono HB4.out.size))
  clear hb5
  go_wp2_with fail
  go_ret
  exact ⟨rfl, HB5.out⟩
end Go.Proofs.Ytiobmgfccggpkaa
