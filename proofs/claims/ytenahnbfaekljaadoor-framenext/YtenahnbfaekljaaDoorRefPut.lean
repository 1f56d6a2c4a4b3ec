/-
  THE DOCUMENT's TEXTS AND ROWS AS BYTES (castellanref02.Text, Row), and its Same and Ints, where both lists are the same. Conditions: the slices' cells hold the lists, and no more than four thousand elements.
-/
import Derived.Test.YtenahnbfaekljaaDoorRefNum
import Derived.Test.YtenahnbfaekljaaDoorSameB
import Derived.Test.YtenahnbfaekljaaDoorSlc
import Derived.Deep.QuietTactic
import Derived.BigQuiet
namespace Go.Proofs.YtenahnbfaekljaaDoor
open Go.RowKit

theorem info5 : (Tryd.prog.info? 5).map (fun i => (i.zero, i.size, i.bytes)) = some (some (.int .u8 0), 1, 1) := by kernel_rfl
theorem refInt_owns (n : Int) (w : World) (hn : n ≤ 9223372036854775807) : Calls Tryd.prog 45 #[.int .i64 n] w fun e w' =>
    ∃ v, e = .returned v ∧ w'.ownsRow w.heap.size 5 1 v (intL n).length (bv (intL n)) ∧ Below w.heap.size w w' := by
  refine (refInt_any n w hn).mono ?_
  rintro e w' ⟨rfl, rfl⟩
  have h := owns_new w (bv (intL n)) 5 (by have := intL_le n; unfold maxLen; simp [bv]; omega)
  rw [show (bv (intL n)).length = (intL n).length by simp [bv]] at h
  exact ⟨_, rfl, h, (Below.refl _ _).alloc (Nat.le_refl _) _⟩

set_option maxHeartbeats 4000000 in
theorem refText_some (b o cap : Nat) (l : List Int) (w : World) (hl : l.length ≤ 4000) (h3 : ∀ i (h : i < l.length), w.cell? ⟨b, o + i, none⟩ = some (bc l[i])) :
    Calls Tryd.prog 27 #[.slice (some ⟨b, o, none⟩) l.length cap] w fun e w' => ∃ v, e = .returned v ∧ w'.ownsRow w.heap.size 5 1 v ((intL l.length).length + l.length) (bv (intL l.length ++ l)) ∧ Below w.heap.size w w' := by
  obtain ⟨i0, hi, hz0, hz1, hz2⟩ := info_parts info5
  have HC := hide (refInt_owns l.length w (by omega))
  have HL := hide (intL_le l.length)
  have H3 := hide h3
  clear h3
  go_enter Tryd.func27, Tryd.ntmps27
  go_wp2_with fail
  refine (HC.out).mono ?_
  rintro e w1 ⟨v, rfl, hown, hb⟩
  have HN := hide (Sl.news (f := bc) (w := w1) (b := b) (o := o) (l := l) fun i hi => by rw [hb.cell (p := ⟨b, o + i, none⟩) (cell_block (H3.out i hi))]; exact H3.out i hi)
  have hz := hb.size
  generalize hL : intL (l.length : Int) = L at *
  have HLq := hide hL
  clear hL
  go_wp2_with (first
    | (at_builtin; refine wpList_append_own _ rfl _ _ 22 rfl w.heap.size 5 i0 (.int .u8 0) 1 1 Tryd.underlying22 hi hz0 hz1 hz2 rfl (by decide) _ _ _ rfl hown ⟨b, o, none⟩ l.length cap (l.map bc) rfl (by simp) HN.out (Sl.one (fun _ => rfl) l) ?c3 ?c4 ?c5 ?_))
  case c3 => have := HL.out; unfold maxLen; omega
  case c4 => have := HL.out; omega
  case c5 => omega
  · intro v' w2 hown' hgrow _
    have hB : Below w.heap.size w w2 := hb.grown hgrow hz (fun j hj => (hown.lt j hj).1)
    have HO := hide hown'
    clear hown' hgrow hown hb
    go_wp2
    go_ret
    exact ⟨v', rfl, by rw [HLq.out, bv_eq, List.map_append]; exact HO.out, hB⟩

set_option maxHeartbeats 4000000 in
theorem refText_empty (ao : Option Addr) (cap : Nat) (w : World) :
    Calls Tryd.prog 27 #[.slice ao 0 cap] w fun e w' => ∃ v, e = .returned v ∧ w'.ownsRow w.heap.size 5 1 v 1 (bv [0]) ∧ Below w.heap.size w w' := by
  have HC := hide (refInt_any 0 w (by omega))
  rw [show intL 0 = [0] by decide] at HC
  go_enter Tryd.func27, Tryd.ntmps27
  go_wp2_with fail
  refine (HC.out).mono ?_
  rintro e w1 ⟨rfl, rfl⟩
  cases ao with
  | none =>
    go_wp2
    go_ret
    exact ⟨_, rfl, owns_new w (bv [0]) 5 (by decide), (Below.refl _ _).alloc (Nat.le_refl _) _⟩
  | some a =>
    go_wp2
    go_ret
    exact ⟨_, rfl, owns_new w (bv [0]) 5 (by decide), (Below.refl _ _).alloc (Nat.le_refl _) _⟩

theorem refText_any (v : Value) (l : List Int) (w : World) (hv : Sl bc w v l) (hl : l.length ≤ 4000) :
    Calls Tryd.prog 27 #[v] w fun e w' => ∃ v, e = .returned v ∧ w'.ownsRow w.heap.size 5 1 v ((intL l.length).length + l.length) (bv (intL l.length ++ l)) ∧ Below w.heap.size w w' := by
  rcases hv with ⟨ao, cap, rfl, rfl⟩ | ⟨b, o, cap, rfl, h2, h3⟩
  · exact refText_empty ao cap w
  · exact refText_some b o cap l w hl h3

/-- A row's bytes. -/
def rowL (l : List Int) : List Int := l.flatMap intL
theorem rowL_snoc (l : List Int) (j : Nat) (h : j < l.length) : rowL (l.take (j + 1)) = rowL (l.take j) ++ intL l[j] := by
  rw [List.take_succ_eq_append_getElem h]
  simp only [rowL, List.flatMap_append, List.flatMap_cons, List.flatMap_nil, List.append_nil]
theorem rowL_le (l : List Int) : (rowL l).length ≤ 8 * l.length := by
  induction l with
  | nil => simp [rowL]
  | cons a l ih =>
    have h1 := intL_le a
    have h2 : rowL (a :: l) = intL a ++ rowL l := by simp [rowL]
    rw [h2, List.length_append, List.length_cons]
    omega





end Go.Proofs.YtenahnbfaekljaaDoor
