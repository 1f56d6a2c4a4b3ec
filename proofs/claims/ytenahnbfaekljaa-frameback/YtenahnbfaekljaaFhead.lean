/-
  WHERE A FRAME's BODY BEGINS, AND HOW LONG IT IS (frame.head), outcome by outcome. Conditions: the bytes' cells hold them, no more than ten thousand.
-/
import Derived.Test.YtenahnbfaekljaaCuts
import Derived.Test.YtenahnbfaekljaaFrM
import Derived.Test.YtenahnbfaekljaaWnext
namespace Go.Proofs.Ytenahnbfaekljaa
open Go.RowKit

def hd3 (a b : Int) (e : Value) : Value := .tuple #[.int .i64 a, .int .i64 b, e]
set_option maxHeartbeats 4000000 in
theorem head_none (ao : Option Addr) (cap : Nat) (w : World) : Calls Try.prog 21 #[.slice ao 0 cap] w fun e w' => e = .returned (hd3 0 0 .nilIface) ∧ Below w.heap.size w w' := by
  go_enter Try.func21, Try.ntmps21
  go_wp2_with fail
  exact bodyPost_ret (v := hd3 0 0 .nilIface) (by simp [results, Try.results21, go_sem, hd3]) rfl ⟨rfl, Below.refl _ _⟩
set_option maxHeartbeats 4000000 in
theorem head_sign (b o L cap : Nat) (x : Int) (w : World) (hL : 0 < L) (hx : (x != 197) = true) (c0 : w.cell? ⟨b, o, none⟩ = some (.int .u8 x)) : Calls Try.prog 21 #[.slice (some ⟨b, o, none⟩) L cap] w fun e w' => e = .returned (hd3 0 0 (ft ⟨#[115, 105, 103, 110]⟩ 0 5)) ∧ Below w.heap.size w w' := by
  go_enter Try.func21, Try.ntmps21
  go_wp2_with (first | (go_at_call 18; refine (new_any _ _ _ _).mono ?_; rintro e w' ⟨rfl, rfl⟩))
  exact bodyPost_ret (v := hd3 0 0 (ft ⟨#[115, 105, 103, 110]⟩ 0 5)) (by simp [results, Try.results21, go_sem, hd3, ft]) rfl ⟨rfl, Below.refl _ _⟩
set_option maxHeartbeats 4000000 in
theorem head_one (b o cap : Nat) (w : World) (c0 : w.cell? ⟨b, o, none⟩ = some (.int .u8 197)) : Calls Try.prog 21 #[.slice (some ⟨b, o, none⟩) 1 cap] w fun e w' => e = .returned (hd3 0 0 .nilIface) ∧ Below w.heap.size w w' := by
  go_enter Try.func21, Try.ntmps21
  go_wp2_with fail
  exact bodyPost_ret (v := hd3 0 0 .nilIface) (by simp [results, Try.results21, go_sem, hd3]) rfl ⟨rfl, Below.refl _ _⟩
set_option maxHeartbeats 4000000 in
theorem head_kind (b o L cap : Nat) (x : Int) (w : World) (hL : 1 < L) (hx : 63 < x) (c0 : w.cell? ⟨b, o, none⟩ = some (.int .u8 197)) (c1 : w.cell? ⟨b, o + 1, none⟩ = some (.int .u8 x)) : Calls Try.prog 21 #[.slice (some ⟨b, o, none⟩) L cap] w fun e w' => e = .returned (hd3 0 0 (ft ⟨#[107, 105, 110, 100]⟩ 1 5)) ∧ Below w.heap.size w w' := by
  go_enter Try.func21, Try.ntmps21
  go_wp2_with (first | (go_at_call 18; refine (new_any _ _ _ _).mono ?_; rintro e w' ⟨rfl, rfl⟩))
  exact bodyPost_ret (v := hd3 0 0 (ft ⟨#[107, 105, 110, 100]⟩ 1 5)) (by simp [results, Try.results21, go_sem, hd3, ft]) rfl ⟨rfl, Below.refl _ _⟩
/-- Behind the first two bytes: a length that is not there yet, one that is wrong, one that is right. -/
def headT (q : Int × Nat × Int) : Value :=
  if q.1 = 3 then hd3 0 0 .nilIface
  else if q.1 ≠ 0 then hd3 0 0 (ev (some ([(⟨#[108, 101, 110, 103, 116, 104]⟩, 2), (⟨#[110, 117, 109]⟩, 0)], q.1)))
  else hd3 (2 + (q.2.1 : Int)) q.2.2 .nilIface
theorem head_bel {w w1 w2 : World} (hb : Below w.heap.size w w1) (hx : Bx w.heap.size w1 w2) : Below w.heap.size w w2 := hb.trans (hx.below hb.size)
set_option maxRecDepth 100000 in
set_option maxHeartbeats 4000000 in
theorem head_rest (b o L cap k : Nat) (x c n : Int) (u : Value) (w : World) (hL : 1 < L) (hx : ¬ 63 < x) (c0 : w.cell? ⟨b, o, none⟩ = some (.int .u8 197)) (c1 : w.cell? ⟨b, o + 1, none⟩ = some (.int .u8 x)) (hk : k ≤ 8)
    (hs : ∀ W, (Instr.slice 26 (.slice (some ⟨b, o, none⟩) L cap) (some (.int .i64 2)) none none).run Try.prog W = .ok u W)
    (HR : Hid (Calls Try.prog 31 #[u] w fun e w' => e = .returned (.pointer (some ⟨w.heap.size, 0, none⟩)) ∧ Rd w' w.heap.size u 0 .nilIface ∧ Below w.heap.size w w'))
    (HI : Hid (∀ W, Below w.heap.size w W → Rd W w.heap.size u 0 .nilIface → Calls Try.prog 32 #[.pointer (some ⟨w.heap.size, 0, none⟩), .int .i64 16384] W fun e w' => e = .returned (.int .i64 n) ∧ Rd w' w.heap.size u (k : Int) (erN ⟨#[110, 117, 109]⟩ 0 c) ∧ Bx w.heap.size W w')) :
    Calls Try.prog 21 #[.slice (some ⟨b, o, none⟩) L cap] w fun e w' => e = .returned (headT (c, k, n)) ∧ Below w.heap.size w w' := by
  by_cases h3 : c = 3
  · subst h3
    rw [show erN ⟨#[110, 117, 109]⟩ 0 3 = ev (some ([(⟨#[110, 117, 109]⟩, 0)], 3)) from rfl] at HI
    have HQ : Hid (∀ W, Calls Try.prog 15 #[ev (some ([(⟨#[110, 117, 109]⟩, 0)], 3)), .int .i64 3] W fun e w' => e = .returned (.bool true) ∧ Below W.heap.size W w') := hide (fun W => is_ev (some ([(⟨#[110, 117, 109]⟩, 0)], 3)) 3 W)
    rw [show headT (3, k, n) = hd3 0 0 .nilIface from rfl]
    generalize ev (some ([((⟨#[110, 117, 109]⟩ : ByteArray), (0 : Int))], (3 : Int))) = E at *
    go_enter Try.func21, Try.ntmps21
    go_wp2_with (first
      | (go_at_call 31; refine HR.out.mono ?_; rintro e w1 ⟨rfl, hr1, hb1⟩; have HR1 := hide hr1; have HB1 := hide hb1; clear hr1 hb1)
      | (go_at_call 32; refine (HI.out _ HB1.out HR1.out).mono ?_; rintro e w2 ⟨rfl, hr2, hx2⟩; have HR2 := hide hr2; have HX2 := hide (head_bel HB1.out hx2); clear hr2 hx2)
      | (go_at_call 15; refine ((HQ.out) _).mono ?_; rintro e w3 ⟨rfl, hb3⟩; have HB3 := hide (bt HX2.out hb3); have HR3 := hide (HR2.out.below hb3); clear hb3)
      | (go_at_call 33; first | (refine (err_any _ _ _ _ _ HR3.out).mono ?_; rintro e w4 ⟨rfl, rfl⟩) | (refine (err_any _ _ _ _ _ HR2.out).mono ?_; rintro e w3 ⟨rfl, rfl⟩))
      | (go_at_call 34; refine (at_any _ _ _ _ _ HR3.out).mono ?_; rintro e w4 ⟨rfl, rfl⟩)
      | (go_at_call 16; refine (wrap_some _ _ _ _ _).mono ?_; rintro e w4 ⟨rfl, rfl⟩))
    exact bodyPost_ret (v := hd3 0 0 .nilIface) (by simp [results, Try.results21, go_sem, hd3]) rfl ⟨rfl, HB3.out⟩
  by_cases h0 : c = 0
  · subst h0
    rw [show erN ⟨#[110, 117, 109]⟩ 0 0 = .nilIface from rfl] at HI
    have HQ : Hid (∀ W, Calls Try.prog 15 #[.nilIface, .int .i64 3] W fun e w' => e = .returned (.bool false) ∧ Below W.heap.size W w') := hide (fun W => is_ev none 3 W)
    rw [show headT (0, k, n) = hd3 (2 + (k : Int)) n .nilIface from rfl]
    go_enter Try.func21, Try.ntmps21
    go_wp2_with (first
      | (go_at_call 31; refine HR.out.mono ?_; rintro e w1 ⟨rfl, hr1, hb1⟩; have HR1 := hide hr1; have HB1 := hide hb1; clear hr1 hb1)
      | (go_at_call 32; refine (HI.out _ HB1.out HR1.out).mono ?_; rintro e w2 ⟨rfl, hr2, hx2⟩; have HR2 := hide hr2; have HX2 := hide (head_bel HB1.out hx2); clear hr2 hx2)
      | (go_at_call 15; refine ((HQ.out) _).mono ?_; rintro e w3 ⟨rfl, hb3⟩; have HB3 := hide (bt HX2.out hb3); have HR3 := hide (HR2.out.below hb3); clear hb3)
      | (go_at_call 33; first | (refine (err_any _ _ _ _ _ HR3.out).mono ?_; rintro e w4 ⟨rfl, rfl⟩) | (refine (err_any _ _ _ _ _ HR2.out).mono ?_; rintro e w3 ⟨rfl, rfl⟩))
      | (go_at_call 34; refine (at_any _ _ _ _ _ HR3.out).mono ?_; rintro e w4 ⟨rfl, rfl⟩)
      | (go_at_call 16; refine (wrap_some _ _ _ _ _).mono ?_; rintro e w4 ⟨rfl, rfl⟩))
    exact bodyPost_ret (v := hd3 (2 + (k : Int)) n .nilIface) (by simp [results, Try.results21, go_sem, hd3]) rfl ⟨rfl, HB3.out⟩
  · rw [show erN ⟨#[110, 117, 109]⟩ 0 c = .iface 60 (.agg #[.string ⟨#[110, 117, 109]⟩, .int .i64 0, .iface 48 (.int .i64 c)]) from if_neg h0] at HI
    have HQ : Hid (∀ W, Calls Try.prog 15 #[.iface 60 (.agg #[.string ⟨#[110, 117, 109]⟩, .int .i64 0, .iface 48 (.int .i64 c)]), .int .i64 3] W fun e w' => e = .returned (.bool false) ∧ Below W.heap.size W w') := hide (fun W => by
      have := is_ev (some ([(⟨#[110, 117, 109]⟩, 0)], c)) 3 W
      rw [show isV (some ([((⟨#[110, 117, 109]⟩ : ByteArray), (0 : Int))], c)) 3 = false by simpa [isV, isB] using h3] at this
      exact this)
    have hT : headT (c, k, n) = hd3 0 0 (ev (some ([(⟨#[108, 101, 110, 103, 116, 104]⟩, 2), (⟨#[110, 117, 109]⟩, 0)], c))) := by
      unfold headT
      rw [if_neg h3, if_pos h0]
    rw [hT]
    go_enter Try.func21, Try.ntmps21
    go_wp2_with (first
      | (go_at_call 31; refine HR.out.mono ?_; rintro e w1 ⟨rfl, hr1, hb1⟩; have HR1 := hide hr1; have HB1 := hide hb1; clear hr1 hb1)
      | (go_at_call 32; refine (HI.out _ HB1.out HR1.out).mono ?_; rintro e w2 ⟨rfl, hr2, hx2⟩; have HR2 := hide hr2; have HX2 := hide (head_bel HB1.out hx2); clear hr2 hx2)
      | (go_at_call 15; refine ((HQ.out) _).mono ?_; rintro e w3 ⟨rfl, hb3⟩; have HB3 := hide (bt HX2.out hb3); have HR3 := hide (HR2.out.below hb3); clear hb3)
      | (go_at_call 33; first | (refine (err_any _ _ _ _ _ HR3.out).mono ?_; rintro e w4 ⟨rfl, rfl⟩) | (refine (err_any _ _ _ _ _ HR2.out).mono ?_; rintro e w3 ⟨rfl, rfl⟩))
      | (go_at_call 34; refine (at_any _ _ _ _ _ HR3.out).mono ?_; rintro e w4 ⟨rfl, rfl⟩)
      | (go_at_call 16; refine (wrap_some _ _ _ _ _).mono ?_; rintro e w4 ⟨rfl, rfl⟩))
    exact bodyPost_ret (v := hd3 0 0 (ev (some ([(⟨#[108, 101, 110, 103, 116, 104]⟩, 2), (⟨#[110, 117, 109]⟩, 0)], c)))) (by simp [results, Try.results21, go_sem, hd3, ev, chn, bse]) rfl ⟨rfl, HB3.out⟩
end Go.Proofs.Ytenahnbfaekljaa
