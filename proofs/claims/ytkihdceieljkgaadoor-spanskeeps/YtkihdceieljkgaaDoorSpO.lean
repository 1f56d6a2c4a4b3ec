/-
  THE SPANS OF BATCHES (spans.Of): span by span of what begins. Conditions: the batches' cells hold their terms; no more than ninety thousand; the base is within reach.
-/
import Derived.Test.YtkihdceieljkgaaDoorSpA
import Derived.Test.YtkihdceieljkgaaDoorSpC
namespace Go.Proofs.YtkihdceieljkgaaDoor
open Go.RowKit

/-- A slice of batches, of which the terms are told. -/
def Sbt (W : World) (v : Value) (ts : List Int) : Prop := ∃ ao cap, v = .slice ao ts.length cap ∧ ts.length ≤ cap ∧ (0 < ts.length → ∃ b o, ao = some ⟨b, o, none⟩ ∧ ∀ k (h : k < ts.length), W.cell? ⟨b, o + k * 3, none⟩ = some (.int .i64 ts[k]))
theorem Sbt.below {W W' : World} {v : Value} {ts : List Int} (h : Sbt W v ts) (hb : Below W.heap.size W W') : Sbt W' v ts := by
  obtain ⟨ao, cap, e, hc, hr⟩ := h
  exact ⟨ao, cap, e, hc, fun q => by obtain ⟨b, o, e1, e2⟩ := hr q; exact ⟨b, o, e1, fun k hk => (hb.cell (p := ⟨b, o + k * 3, none⟩) (cell_block (e2 k hk))).trans (e2 k hk)⟩⟩
theorem Sbt.form {W : World} {v : Value} {ts : List Int} (h : Sbt W v ts) : ∃ a k, v = .slice a ts.length k := by
  obtain ⟨ao, cap, e, _⟩ := h
  exact ⟨ao, cap, e⟩
theorem Sbt.at {W : World} {v : Value} {ts : List Int} (h : Sbt W v ts) {k : Nat} (hk : k < ts.length) : ∃ b o cap, v = .slice (some ⟨b, o, none⟩) ts.length cap ∧ ts.length ≤ cap ∧ W.cell? ⟨b, o + k * 3, none⟩ = some (.int .i64 ts[k]) := by
  obtain ⟨ao, cap, e, hc, hr⟩ := h
  obtain ⟨b, o, rfl, h2⟩ := hr (by omega)
  exact ⟨b, o, cap, e, hc, h2 k hk⟩
/-- The beginning of a slice of batches. -/
theorem Sbt.take {W : World} {ao : Option Addr} {n cap k : Nat} {ts : List Int} (h : Sbt W (.slice ao n cap) ts) (hk : k ≤ ts.length) : Sbt W (.slice ao k cap) (ts.take k) := by
  obtain ⟨ao', cap', e, hc, hr⟩ := h
  cases e
  have hl : (ts.take k).length = k := by rw [List.length_take]; omega
  refine ⟨ao, cap, by rw [hl], by omega, fun q => ?_⟩
  obtain ⟨b, o, e1, e2⟩ := hr (by omega)
  exact ⟨b, o, e1, fun j hj => by rw [List.getElem_take]; exact e2 j (by omega)⟩
set_option maxRecDepth 100000 in
set_option maxHeartbeats 8000000 in
theorem of_any (base t : Int) (v : Value) (ts : List Int) (w : World) (hv : Sbt w v ts) (hs : ts.length ≤ 90000) (hb0 : -1000000000000 ≤ base) (hb1 : base ≤ 1000000000000) : Calls Tryd.prog 13 #[.int .i64 base, .int .i64 t, v] w fun e w' => ∃ v', e = .returned v' ∧ Sow w' w.heap.size v' (ofL base t ts) ∧ Below w.heap.size w w' := by
  obtain ⟨ao, cap, rfl⟩ := hv.form
  have HV := hide hv
  clear hv
  have h0 : Hid (0 < base → spk base t ts 0 = [(t, base - 1)]) := hide (fun h => if_pos h)
  have h0' : Hid (¬ 0 < base → spk base t ts 0 = []) := hide (fun h => if_neg h)
  have HNW := hide (spc_new (w := w) (p := (t, base - 1)) (t := 43))
  have HAL : Hid (Below w.heap.size w (w.alloc (.cells #[.int .i64 t, .int .i64 (base - 1)] 43))) := hide ((Below.refl _ _).alloc (Nat.le_refl _) _)
  go_enter Tryd.func13, Tryd.ntmps13
  by_cases hp : 0 < base
  case' pos =>
    go_upto_region 4 with (first | (at_builtin; refine wpList_appSp _ rfl _ _ rfl w.heap.size _ [] rfl (sow_nil _ _) HAL.out.size ⟨w.heap.size, 0, none⟩ 1 1 [(t, base - 1)] rfl rfl HNW.out (by simp) ?_; intro v4 W4 hl4 _ hb4; have HS0 := hide hl4; have HB0 := hide (HAL.out.trans hb4); clear hl4 hb4))
    simp only [List.nil_append] at HS0
    rw [← h0.out hp] at HS0
  case' neg =>
    go_upto_region 4 with fail
    have HS0 := hide (sow_nil w w.heap.size)
    rw [← h0'.out hp] at HS0
    have HB0 := hide (Below.refl w.heap.size w)
  all_goals
    go_wp2
    go_loopw [7, 20] (fun p i W => ∃ k : Nat, k ≤ ts.length ∧ i = .int .i64 k ∧ Sow W w.heap.size p (spk base t ts k) ∧ Below w.heap.size w W) (fun _ i _ => ts.length - (ivS i).toNat)
    case atStart => exact ⟨0, Nat.zero_le _, rfl, HS0.out, HB0.out⟩
    case round =>
      clear HS0 HB0
      obtain ⟨k, hk, rfl, hS, hB⟩ := hrel
      have HS := hide hS
      have HB := hide hB
      clear hS hB
      by_cases hlt : k < ts.length
      · obtain ⟨b, o, cap', e, -, -⟩ := HV.out.at hlt
        obtain rfl := (Value.slice.inj e).1
        clear e
        obtain ⟨b', o', cap', e, -, c0⟩ := (HV.out.below HB.out).at hlt
        cases (Value.slice.inj e).1
        clear e
        obtain ⟨x, hx⟩ : ∃ x, ts[k] = x := ⟨_, rfl⟩
        rw [hx] at c0
        have HX : Hid (ts[k]?.getD 0 = x) := hide (by rw [List.getElem?_eq_getElem hlt, hx]; rfl)
        clear hx
        have hltI : (k : Int) < (ts.length : Int) := by omega
        have HA := hide (add_any w.heap.size u7 (spk base t ts k) x (base + k) wr HS.out HB.out.size (spk_ris base t ts k) (Nat.le_trans (spk_len base t ts k) (by omega)))
        have HST : Hid (spk base t ts (k + 1) = addL (spk base t ts k) x (base + k)) := hide (by rw [← HX.out]; rfl)
        go_wp2_with (first | (go_at_call 23; refine HA.out.mono ?_; rintro e W5 ⟨v5, rfl, hS5, hB5⟩; rw [← HST.out] at hS5; have HS5 := hide hS5; have HB5 := hide (HB.out.trans hB5); clear hS5 hB5))
        exact ⟨⟨k + 1, by omega, by go_num, HS5.out, HB5.out⟩, by simp [ivS]; omega⟩
      · obtain rfl : k = ts.length := by omega
        go_wp2
        go_ret
        exact ⟨_, rfl, HS.out, HB.out⟩
end Go.Proofs.YtkihdceieljkgaaDoor
