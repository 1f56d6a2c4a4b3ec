/-
  THE DOCUMENT's FRAMES AS BYTES (castellanref04.Put). Conditions: the body's cells hold it, no more than four thousand bytes.
-/
import Derived.Test.YtenahnbfaekljaaDoorFrM
import Derived.Test.YtenahnbfaekljaaDoorRefPut
namespace Go.Proofs.YtenahnbfaekljaaDoor
open Go.RowKit

set_option maxRecDepth 100000 in
set_option maxHeartbeats 4000000 in
theorem fput_kind (K : Int) (ao : Option Addr) (L cap : Nat) (w : World) (h : K < 0 ∨ (¬ K < 0 ∧ 63 < K)) :
    Calls Tryd.prog 9 #[.agg #[.int .i64 K, .slice ao L cap]] w fun e w' => e = .returned (.tuple #[.slice none 0 0, .int .i64 5, .int .i64 K]) ∧ Below w.heap.size w w' := by
  rcases h with h | ⟨h, h2⟩
  all_goals
    go_enter Tryd.func9, Tryd.ntmps9
    go_wp2
    go_region
    go_wp2
    exact bodyPost_ret (v := .tuple #[.slice none 0 0, .int .i64 5, .int .i64 K]) (by simp [results, Tryd.results9, go_sem]) rfl ⟨rfl, ((Below.refl _ _).alloc (Nat.le_refl _) _).drew⟩
set_option maxRecDepth 100000 in
set_option maxHeartbeats 4000000 in
theorem fput_ok (K : Int) (v : Value) (l : List Int) (w : World) (hv : Sl bc w v l) (hl : l.length ≤ 4000) (hby : Byt l) (h0 : ¬ K < 0) (h1 : ¬ 63 < K) :
    Calls Tryd.prog 9 #[.agg #[.int .i64 K, v]] w fun e w' => ∃ v', e = .returned (.tuple #[v', .int .i64 0, .int .i64 0]) ∧ Sl bc w' v' (frameL K l) ∧ Below w.heap.size w w' := by
  have HV := hide hv
  have HY := hide hby
  have h8 := intL_le l.length
  obtain ⟨ao, cap, rfl⟩ := hv.form
  clear hv hby
  have hlim : ¬ 16384 < (l.length : Int) := by omega
  have hb0 : Below w.heap.size w ((w.alloc (.cells #[.int .i64 K, .slice ao l.length cap] 24)).alloc (.cells #[.int .u8 197, .int .u8 K] 5)) := ((Below.refl _ _).alloc (Nat.le_refl _) _).alloc (by simp) _
  have hrw : Rw (w.heap.size + 1) ((w.alloc (.cells #[.int .i64 K, .slice ao l.length cap] 24)).alloc (.cells #[.int .u8 197, .int .u8 K] 5)) (.slice (some ⟨w.heap.size + 1, 0, none⟩) 2 2) 2 (bv [197, K]) := by
    have := rw_new (w.alloc (.cells #[.int .i64 K, .slice ao l.length cap] 24)) [197, K] (by simp [maxLen])
    simpa [bv] using this
  have HB0 := hide hb0
  have HRW := hide hrw
  have hsz : ((w.alloc (.cells #[.int .i64 K, .slice ao l.length cap] 24)).alloc (.cells #[.int .u8 197, .int .u8 K] 5)).heap.size = w.heap.size + 2 := by simp
  have HZ := hide hsz
  clear hb0 hrw hsz
  go_enter Tryd.func9, Tryd.ntmps9
  go_wp2_with fail
  refine (refText_any _ l _ (HV.out.below HB0.out) hl).mono ?_
  rintro e w1 ⟨z, rfl, hz, hb1⟩
  have hzs : Sl bc w1 z (intL l.length ++ l) := sl_of_owns (base := _) (e := 5) (by simpa [bv_eq] using hz)
  have HZS := hide hzs
  have HRW1 := hide (HRW.out.below hb1)
  have HB1 := hide (HB0.out.trans (hb1.mono (by rw [HZ.out]; omega)))
  have hs1 : w.heap.size + 2 ≤ w1.heap.size := by have := hb1.size; rw [HZ.out] at this; exact this
  clear hz hzs hb1 HRW
  go_wp2_with (first | (at_builtin; refine wpList_append_sl _ rfl _ _ rfl (w.heap.size + 1) _ 2 (bv [197, K]) rfl HRW1.out (by omega) _ (intL l.length ++ l) rfl HZS.out (by simp; omega) ?_))
  intro w2 v2 cur2 hp2
  have hS : Sl bc w2 v2 (frameB K l) := by
    have h1 := hp2.rw.owns
    rw [hp2.tk] at h1
    refine sl_of_owns (base := w.heap.size + 1) (e := 5) ?_
    have e1 : (frameB K l).map bc = List.take 2 (bv [197, K]) ++ bv (intL l.length ++ l) := by simp [frameB, bv_eq]
    have e2 : (frameB K l).length = 2 + (intL l.length ++ l).length := by simp [frameB]; omega
    rw [e1, e2]
    simpa using h1
  have HB2 := hide (HB1.out.trans (hp2.below.mono (show w.heap.size ≤ w.heap.size + 1 by omega)))
  have HP := hide (refPut_any v2 (frameB K l) w2 hS (by simp [frameB]; omega) (frameB_byt (by omega) (by omega) HY.out))
  clear hp2 hS
  go_wp2_with fail
  refine (HP.out).mono ?_
  rintro e w3 ⟨v3, rfl, hown, hb3⟩
  have hs3 : Sl bc w3 v3 (frameL K l) := sl_of_owns (base := w2.heap.size) (e := 5) hown
  have HS3 := hide hs3
  have HB3 := hide (HB2.out.trans (hb3.mono HB2.out.size))
  clear hown hb3 hs3
  go_wp2_with fail
  exact bodyPost_ret (v := .tuple #[v3, .int .i64 0, .int .i64 0]) (by simp [results, Tryd.results9, go_sem]) rfl ⟨_, rfl, HS3.out, HB3.out⟩
end Go.Proofs.YtenahnbfaekljaaDoor
