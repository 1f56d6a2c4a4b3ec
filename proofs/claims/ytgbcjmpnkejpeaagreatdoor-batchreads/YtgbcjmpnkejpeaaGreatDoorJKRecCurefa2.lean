/-
  A CURSOR REFUSES (castellanref05.Cursor.Refuse): something is wrong where it is, if nothing was wrong before.
  A CURSOR's End (castellanref05.Cursor.End): there must be nothing left. Conditions: its bytes' cells hold them, no more than four thousand bytes.
-/
import Derived.Test.YtgbcjmpnkejpeaaGreatDoorJKRecCuta3
import Derived.Deep.RegionHeld3
import Derived.Test.YtgbcjmpnkejpeaaGreatDoorJKRefNexta3
namespace Go.Proofs.YtgbcjmpnkejpeaaGreatDoor
open Go.RowKit

set_option maxRecDepth 100000 in
set_option maxHeartbeats 16000000 in
theorem curef_gs (p : Nat) (v : Value) (s : Gs) (op : ByteArray) (c : Int) (w : World) (hc0 : c ≠ 0) (hr : CuG w p v s) :
    Calls Tryz.prog 51 #[.pointer (some ⟨p, 0, none⟩), .string op, .int .i64 c] w fun e w' => e = .returned (.tuple #[]) ∧ CuG w' p v (refS op c s) ∧ Bx p w w' := by
  have HR := hide hr
  obtain ⟨c0, c1, c2, c3, c4, fz⟩ := hr
  unfold refS
  by_cases hc : s.c = 0
  · rw [if_pos hc]
    have f1 := fz 1
    have f2 := fz 2
    have f3 := fz 3
    have f4 := fz 4
    rw [hc] at c2
    have d0 : w.drew.cell? ⟨p, 0, none⟩ = some v := c0
    have d1 : w.drew.cell? ⟨p, 1, none⟩ = some (.int .i64 s.pt) := c1
    have d2 : w.drew.cell? ⟨p, 2, none⟩ = some (.int .i64 0) := c2
    have d3 : w.drew.cell? ⟨p, 3, none⟩ = some (.string s.op) := c3
    have d4 : w.drew.cell? ⟨p, 4, none⟩ = some (.int .i64 (whS s)) := c4
    have k1 : w.drew.frozen? ⟨p, 1, none⟩ = false := f1
    have k2 : w.drew.frozen? ⟨p, 2, none⟩ = false := f2
    have k3 : w.drew.frozen? ⟨p, 3, none⟩ = false := f3
    have k4 : w.drew.frozen? ⟨p, 4, none⟩ = false := f4
    have HE := hide (And.intro d0 (And.intro d1 (And.intro d2 (And.intro d3 d4))))
    have HZ : Hid (∀ i, w.drew.frozen? ⟨p, i, none⟩ = false) := hide fz
    clear fz
    go_enter Tryz.func51, Tryz.ntmps51
    go_upto_region 1 with fail
    go_region
    go_wp2_with fail
    obtain ⟨a0, a1, a2, a3, a4⟩ := set_p (x := .int .i64 s.pt) (y := .int .i64 c) (z := .string op) (t := .int .i64 s.pt) HE.out
    exact bodyPost_end (v := .tuple #[]) (by simp [results, Tryz.results51]) rfl ⟨rfl, ⟨a0, a1, a2, a3, by rw [whS, if_neg hc0]; exact a4, fun i => by simp [World.frozen?_setCell, show w.frozen? ⟨p, i, none⟩ = false from HZ.out i]⟩, bx_p ((Below.refl _ _).drew)⟩
  · rw [if_neg hc]
    have hcb : (s.c == 0) = false := by simpa using hc
    clear fz
    go_enter Tryz.func51, Tryz.ntmps51
    go_wp2_with fail
    exact bodyPost_end (v := .tuple #[]) (by simp [results, Tryz.results51]) rfl ⟨rfl, HR.out, Bx.refl _ _⟩
end Go.Proofs.YtgbcjmpnkejpeaaGreatDoor
namespace Go.Proofs.YtgbcjmpnkejpeaaGreatDoor
open Go.RowKit

set_option maxRecDepth 100000 in
set_option maxHeartbeats 16000000 in
theorem cuend_go (p : Nat) (v : Value) (a c wh A C WH : Int) (op OP : ByteArray) (w : World) (hp : p < w.heap.size) (hfz : ∀ i, w.frozen? ⟨p, i, none⟩ = false)
    (hF : ∀ W, Below w.heap.size w W → (W.cell? ⟨p, 0, none⟩ = some v ∧ W.cell? ⟨p, 1, none⟩ = some (.int .i64 a) ∧ W.cell? ⟨p, 2, none⟩ = some (.int .i64 c) ∧ W.cell? ⟨p, 3, none⟩ = some (.string op) ∧ W.cell? ⟨p, 4, none⟩ = some (.int .i64 wh)))
    (HC : Hid (∀ W, Below w.heap.size w W → Calls Tryz.prog 58 #[v, .agg #[.int .i64 a, .int .i64 c, .string op, .int .i64 wh]] W fun e w' => e = .returned (.agg #[.int .i64 A, .int .i64 C, .string OP, .int .i64 WH]) ∧ Below W.heap.size W w')) :
    Calls Tryz.prog 15 #[.pointer (some ⟨p, 0, none⟩)] w fun e w' => e = .returned (.tuple #[]) ∧ (w'.cell? ⟨p, 0, none⟩ = some v ∧ w'.cell? ⟨p, 1, none⟩ = some (.int .i64 A) ∧ w'.cell? ⟨p, 2, none⟩ = some (.int .i64 C) ∧ w'.cell? ⟨p, 3, none⟩ = some (.string OP) ∧ w'.cell? ⟨p, 4, none⟩ = some (.int .i64 WH)) ∧ (∀ i, w'.frozen? ⟨p, i, none⟩ = false) ∧ Bx p w w' := by
  have HF := hide hF
  obtain ⟨d0, d1, d2, d3, d4⟩ := hF w.drew (Below.refl _ _).drew
  clear hF
  go_enter Tryz.func15, Tryz.ntmps15
  go_upto_region 0 with fail
  go_region_with (go_at_call 58; refine (HC.out _ (Below.refl _ _).drew).mono ?_; rintro e W1 ⟨rfl, hb⟩; have HB : Hid (Below w.heap.size w W1) := hide ((Below.refl _ _).drew.trans hb); obtain ⟨e0, e1, e2, e3, e4⟩ := HF.out W1 HB.out; have HE := hide (And.intro e0 (And.intro e1 (And.intro e2 (And.intro e3 e4)))); have HZ : Hid (∀ i, W1.frozen? ⟨p, i, none⟩ = false) := hide (fun i => (HB.out.frozen (p := ⟨p, i, none⟩) hp).trans (hfz i)); have k1 := HZ.out 1; have k2 := HZ.out 2; have k3 := HZ.out 3; have k4 := HZ.out 4; clear hb)
  all_goals go_wp2_with fail
  all_goals exact bodyPost_end (v := .tuple #[]) (by simp [results, Tryz.results15]) rfl ⟨rfl, set_p HE.out, fun i => by simp [World.frozen?_setCell, HZ.out], bx_p HB.out⟩
theorem cuend_gs (p : Nat) (v : Value) (l : List Int) (s : Gs) (w0 w : World) (hr : CuG w p v s) (hv : Sl bc w0 v l) :
    Calls Tryz.prog 15 #[.pointer (some ⟨p, 0, none⟩)] w fun e w' => e = .returned (.tuple #[]) ∧ CuG w' p v (if s.pt < l.length then refS ⟨#[101, 110, 100]⟩ 5 s else s) ∧ Bx p w w' := by
  have hp : p < w.heap.size := cell_block hr.c0
  have hF := fun W (h : Below w.heap.size w W) => (hr.below h).cells
  obtain ⟨ao, cap, rfl⟩ := hv.form
  by_cases ha : s.pt < l.length
  · rw [if_pos ha]
    unfold refS
    by_cases hc : s.c = 0
    · rw [if_pos hc]
      refine (cuend_go p _ s.pt s.c (whS s) s.pt 5 s.pt s.op ⟨#[101, 110, 100]⟩ w hp hr.fz hF (hide fun W _ => ?_)).mono ?_
      · have := end_left ao l.length cap s.pt s.c (whS s) 5 s.pt s.op ⟨#[101, 110, 100]⟩ W ha (hide fun W => bad_any s.pt s.c (whS s) s.pt 5 s.op ⟨#[101, 110, 100]⟩ W (by simp [hc]))
        exact this
      · rintro e w' ⟨rfl, ⟨a0, a1, a2, a3, a4⟩, h2, h3⟩
        exact ⟨rfl, ⟨a0, a1, a2, a3, by simpa [whS] using a4, h2⟩, h3⟩
    · rw [if_neg hc]
      refine (cuend_go p _ s.pt s.c (whS s) s.pt s.c (whS s) s.op s.op w hp hr.fz hF (hide fun W _ => ?_)).mono ?_
      · have := end_left ao l.length cap s.pt s.c (whS s) s.c (whS s) s.op s.op W ha (hide fun W => bad_keep s.pt s.c (whS s) s.pt 5 s.op ⟨#[101, 110, 100]⟩ W (by simpa using hc))
        exact this
      · rintro e w' ⟨rfl, ⟨a0, a1, a2, a3, a4⟩, h2, h3⟩
        exact ⟨rfl, ⟨a0, a1, a2, a3, a4, h2⟩, h3⟩
  · rw [if_neg ha]
    refine (cuend_go p _ s.pt s.c (whS s) s.pt s.c (whS s) s.op s.op w hp hr.fz hF (hide fun W _ => ?_)).mono ?_
    · exact end_all ao l.length cap s.pt s.c (whS s) s.op W (by omega)
    · rintro e w' ⟨rfl, ⟨a0, a1, a2, a3, a4⟩, h2, h3⟩
      exact ⟨rfl, ⟨a0, a1, a2, a3, a4, h2⟩, h3⟩
end Go.Proofs.YtgbcjmpnkejpeaaGreatDoor
