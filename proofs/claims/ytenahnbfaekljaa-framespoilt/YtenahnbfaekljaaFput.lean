/-
  A FRAME AS BYTES, OR WHAT IS WRONG WITH IT (frame.Put): what the document says, in new memory. Conditions: the body's cells hold it, no more than four thousand bytes.
-/
import Derived.Test.YtenahnbfaekljaaFrM
import Derived.Test.YtenahnbfaekljaaWputd
import Derived.Test.YtenahnbfaekljaaCrcOpen
namespace Go.Proofs.Ytenahnbfaekljaa
open Go.RowKit

set_option maxRecDepth 100000 in
set_option maxHeartbeats 4000000 in
theorem put_bad (K : Int) (ao : Option Addr) (L cap : Nat) (w : World) (h : K < 0 ∨ (¬ K < 0 ∧ 63 < K)) :
    Calls Try.prog 12 #[.agg #[.int .i64 K, .slice ao L cap]] w fun e w' => e = .returned (.tuple #[.slice none 0 0, ft ⟨#[107, 105, 110, 100]⟩ K 5]) ∧ Below w.heap.size w w' := by
  rcases h with h | ⟨h, h2⟩
  all_goals
    go_enter Try.func12, Try.ntmps12
    go_wp2_with (first | (go_at_call 18; refine (new_any _ _ _ _).mono ?_; rintro e w' ⟨rfl, rfl⟩))
    exact bodyPost_ret (v := .tuple #[.slice none 0 0, ft ⟨#[107, 105, 110, 100]⟩ K 5]) (by simp [results, Try.results12, go_sem, ft]) rfl ⟨rfl, (Below.refl _ _).alloc (Nat.le_refl _) _⟩
set_option maxRecDepth 100000 in
set_option maxHeartbeats 4000000 in
theorem put_ok (K : Int) (v : Value) (l : List Int) (w : World) (hv : Sl bc w v l) (hl : l.length ≤ 4000) (hby : Byt l) (h0 : ¬ K < 0) (h1 : ¬ 63 < K) :
    Calls Try.prog 12 #[.agg #[.int .i64 K, v]] w fun e w' => ∃ v', e = .returned (.tuple #[v', .nilIface]) ∧ w'.ownsRow w.heap.size 5 1 v' (frameL K l).length (bv (frameL K l)) ∧ Below w.heap.size w w' := by
  have HV := hide hv
  have HY := hide hby
  have h8 := intL_le l.length
  have hoff : 0 < l.length → ∀ b o k c, v = .slice (some ⟨b, o, none⟩) k c → (Value.slice (some ⟨w.heap.size + 1, 0, none⟩) 2 2).ownBlock ≠ some b := by
    intro hp b o k c e q
    have : w.heap.size + 1 = b := by simpa [Value.ownBlock] using q
    rcases hv with ⟨_, _, h2, _⟩ | ⟨b', o', c', h3, _, h4⟩
    · rw [h2] at hp; simp at hp
    · rw [e] at h3; cases h3
      have := cell_block (h4 0 hp)
      simp only at this
      omega
  have HOFF := hide hoff
  obtain ⟨ao, cap, rfl⟩ := hv.form
  clear hv hby hoff
  have hlim : ¬ 16384 < (l.length : Int) := by omega
  have hb0 : Below w.heap.size w ((w.alloc (.cells #[.int .i64 K, .slice ao l.length cap] 40)).alloc (.cells #[.int .u8 197, .int .u8 K] 5)) := ((Below.refl _ _).alloc (Nat.le_refl _) _).alloc (by simp) _
  have hrw : Rw (w.heap.size + 1) ((w.alloc (.cells #[.int .i64 K, .slice ao l.length cap] 40)).alloc (.cells #[.int .u8 197, .int .u8 K] 5)) (.slice (some ⟨w.heap.size + 1, 0, none⟩) 2 2) 2 (bv [197, K]) := by
    have := rw_new (w.alloc (.cells #[.int .i64 K, .slice ao l.length cap] 40)) [197, K] (by simp [maxLen])
    simpa [bv] using this
  have HB0 := hide hb0
  have HRW := hide hrw
  have hsz : ((w.alloc (.cells #[.int .i64 K, .slice ao l.length cap] 40)).alloc (.cells #[.int .u8 197, .int .u8 K] 5)).heap.size = w.heap.size + 2 := by simp
  have HZ := hide hsz
  clear hb0 hrw hsz
  go_enter Try.func12, Try.ntmps12
  go_wp2_with fail
  refine (wtext_any (w.heap.size + 1) _ _ 2 (bv [197, K]) l _ HRW.out (by rw [HZ.out]; omega) (by omega) hl (HV.out.below HB0.out) HOFF.out).mono ?_
  rintro e w1 ⟨z, rfl, hz, hb1⟩
  have hzs : Sl bc w1 z (frameB K l) := by
    refine sl_of_owns (base := w.heap.size + 1) (e := 5) ?_
    have e1 : (frameB K l).map bc = List.take 2 (bv [197, K]) ++ bv (intL l.length ++ l) := by simp [frameB, bv_eq]
    have e2 : (frameB K l).length = 2 + (intL l.length ++ l).length := by simp [frameB]; omega
    rw [e1, e2]
    exact hz
  have HB1 := hide (HB0.out.trans (hb1.mono (show w.heap.size ≤ w.heap.size + 1 by omega)))
  have HP := hide (put_any z (frameB K l) w1 hzs (by simp [frameB]; omega) (frameB_byt (by omega) (by omega) HY.out))
  clear hz hzs hb1
  go_wp2_with fail
  refine (HP.out).mono ?_
  rintro e w3 ⟨v3, rfl, hown, hb3⟩
  have HO := hide (owns_mono hown HB1.out.size)
  have HB3 := hide (HB1.out.trans (hb3.mono HB1.out.size))
  clear hown hb3
  go_wp2_with fail
  exact bodyPost_ret (v := .tuple #[v3, .nilIface]) (by simp [results, Try.results12, go_sem]) rfl ⟨_, rfl, HO.out, HB3.out⟩
end Go.Proofs.Ytenahnbfaekljaa
