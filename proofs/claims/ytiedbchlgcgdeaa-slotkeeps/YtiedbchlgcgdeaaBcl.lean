/-
  A COPY OF BYTES (bytes.Clone), in new memory. Conditions: the cells hold them, no more than a hundred thousand.
-/
import Derived.Test.YtiedbchlgcgdeaaRwa
import Derived.Laws.MakeOwn
namespace Go.Proofs.Ytiedbchlgcgdeaa
open Go.RowKit

theorem nilS_yes (n cap : Nat) (w : World) : (binOp .eql 23 (.slice none n cap) (.slice none 0 0)).run Try.prog w = .ok (.bool true) w := by kernel_rfl
theorem nilS_no (a : Addr) (n cap : Nat) (w : World) : (binOp .eql 23 (.slice (some a) n cap) (.slice none 0 0)).run Try.prog w = .ok (.bool false) w := by kernel_rfl
theorem rw_none (w : World) : Rw w.heap.size (w.alloc (.cells #[] 5)) (.slice (some ⟨w.heap.size, 0, none⟩) 0 0) 0 [] :=
  ⟨Nat.le_refl _, Nat.zero_le _, .inr ⟨w.heap.size, rfl, Nat.le_refl _, Array.getElem?_push_size⟩⟩
set_option maxRecDepth 100000 in
set_option maxHeartbeats 4000000 in
theorem bclone_nil (cap : Nat) (w : World) : Calls Try.prog 39 #[.slice none 0 cap] w fun e w' => e = .returned (.slice none 0 0) ∧ Below w.heap.size w w' := by
  have e1 := nilS_yes
  go_enter Try.func39, Try.ntmps39
  go_wp2
  go_ret
  exact ⟨rfl, Below.refl _ _⟩
set_option maxRecDepth 100000 in
set_option maxHeartbeats 4000000 in
theorem bclone_some (a : Addr) (cap : Nat) (l : List Int) (w : World) (hl : l.length ≤ 100000) (hv : Sl bc w (.slice (some a) l.length cap) l) :
    Calls Try.prog 39 #[.slice (some a) l.length cap] w fun e w' => ∃ v, e = .returned v ∧ w'.ownsRow w.heap.size 5 1 v l.length (bv l) ∧ Below w.heap.size w w' := by
  have e2 := nilS_no
  have HV := hide (hv.below ((Below.refl _ _).alloc (Nat.le_refl _) (.cells #[] 5)))
  have HR := hide (rw_none w)
  clear hv
  go_enter Try.func39, Try.ntmps39
  go_wp2_with (first | (at_builtin; refine wpList_append_sl _ rfl _ _ rfl w.heap.size _ 0 [] rfl HR.out (by simp) _ l rfl HV.out (by omega) ?_))
  intro w1 v1 cur1 hp1
  have hown := hp1.rw.owns
  rw [hp1.tk] at hown
  have HO := hide hown
  have HB := hide (((Below.refl w.heap.size w).alloc (Nat.le_refl _) _).trans hp1.below)
  clear hp1 hown
  go_wp2_with fail
  go_ret
  exact ⟨_, rfl, by simpa using HO.out, HB.out⟩
theorem bclone_own (v : Value) (l : List Int) (w : World) (hv : Sl bc w v l) (hl : l.length ≤ 100000) :
    Calls Try.prog 39 #[v] w fun e w' => ∃ u, e = .returned u ∧ w'.ownsRow w.heap.size 5 1 u l.length (bv l) ∧ Below w.heap.size w w' := by
  obtain ⟨ao, cap, rfl⟩ := hv.form
  cases ao with
  | none =>
    obtain rfl : l = [] := by
      rcases hv with ⟨ao, cap, h, _⟩ | ⟨b, o, cap, h, _⟩
      · exact h
      · cases h
    refine (bclone_nil cap w).mono ?_
    rintro e w' ⟨rfl, hb⟩
    exact ⟨_, rfl, World.ownsRow_nil _ _ _ _, hb⟩
  | some a => exact bclone_some a cap l w hl hv
end Go.Proofs.Ytiedbchlgcgdeaa
