/-
  THE DOCUMENT's ANSWERS (package castellanref01), at every chain of at most a thousand steps: Of, Is, Where, Path, Under, Again and Both; and the law's own 'light'. Condition: the chain's cells hold its steps.
-/
import Derived.Test.YtdkbehbpdcfbdaaDoorTexts
namespace Go.Proofs.YtdkbehbpdcfbdaaDoor
open Go.RowKit Go.Extern.Stop Go.Stop Go.Extern

/-- The slice v holds the steps l. -/
def Stp (W : World) (v : Value) (l : List (ByteArray × Int)) : Prop :=
  (∃ ao cap, l = [] ∧ v = .slice ao 0 cap) ∨
  (∃ b o cap, v = .slice (some ⟨b, o, none⟩) l.length cap ∧ l.length ≤ cap ∧ ∀ i (h : i < l.length), W.cell? ⟨b, o + i * 2, none⟩ = some (.string l[i].1) ∧ W.cell? ⟨b, o + i * 2 + 1, none⟩ = some (.int .i64 l[i].2))
theorem Stp.below {w w' : World} {v : Value} {l : List (ByteArray × Int)} (h : Stp w v l) (hb : Below w.heap.size w w') : Stp w' v l := by
  rcases h with h | ⟨b, o, cap, h1, h2, h3⟩
  · exact .inl h
  · refine .inr ⟨b, o, cap, h1, h2, fun i hi => ?_⟩
    rw [hb.cell (p := ⟨b, o + i * 2, none⟩) (block_of_cell (h3 i hi).1), hb.cell (p := ⟨b, o + i * 2 + 1, none⟩) (block_of_cell (h3 i hi).1)]
    exact h3 i hi
theorem Stp.form {w : World} {v : Value} {l : List (ByteArray × Int)} (h : Stp w v l) : ∃ ao cap, v = .slice ao l.length cap := by
  rcases h with ⟨ao, cap, rfl, rfl⟩ | ⟨b, o, cap, rfl, h2, h3⟩ <;> exact ⟨_, _, rfl⟩

theorem light_any (ao : Option Addr) (n cap : Nat) (k : Int) (w : World) :
    Calls Tryd.prog 7 #[.agg #[.slice ao n cap, .int .i64 k]] w fun e w' => e = .returned (.bool (decide ((n : Int) ≤ 60))) ∧ Below w.heap.size w w' := by
  go_enter Tryd.func7, Tryd.ntmps7
  go_wp2
  go_ret
  exact ⟨rfl, (Below.refl _ _).alloc (Nat.le_refl _) _⟩

/-- What is wrong, by the document. -/
def ofC (k : Int) : Int := if k < 0 then 21 else k
theorem refOf_any (v : Value) (k : Int) (w : World) :
    Calls Tryd.prog 27 #[.agg #[v, .int .i64 k]] w fun e w' => e = .returned (.int .i64 (ofC k)) ∧ Below w.heap.size w w' := by
  by_cases hk : k < 0
  · have H := hide (show ofC k = 21 from if_pos hk)
    go_enter Tryd.func27, Tryd.ntmps27
    go_wp2
    go_ret
    exact ⟨by rw [H.out]; rfl, (Below.refl _ _).alloc (Nat.le_refl _) _⟩
  · have H := hide (show ofC k = k from if_neg hk)
    go_enter Tryd.func27, Tryd.ntmps27
    go_wp2
    go_ret
    exact ⟨by rw [H.out]; rfl, (Below.refl _ _).alloc (Nat.le_refl _) _⟩

/-- Is it just that, by the document? -/
def isC (k q : Int) : Bool := decide (0 < k) && k == q
theorem refIs_any (v : Value) (k q : Int) (w : World) :
    Calls Tryd.prog 12 #[.agg #[v, .int .i64 k], .int .i64 q] w fun e w' => e = .returned (.bool (isC k q)) ∧ Below w.heap.size w w' := by
  by_cases hk : 0 < k
  · have H := hide (show isC k q = (k == q) by simp [isC, hk])
    go_enter Tryd.func12, Tryd.ntmps12
    go_wp2
    go_ret
    exact ⟨by rw [H.out]; rfl, (Below.refl _ _).alloc (Nat.le_refl _) _⟩
  · have H := hide (show isC k q = false by simp [isC, hk])
    go_enter Tryd.func12, Tryd.ntmps12
    go_wp2
    go_ret
    exact ⟨by rw [H.out]; rfl, (Below.refl _ _).alloc (Nat.le_refl _) _⟩

/-- The steps of a chain, none where nothing is wrong. -/
def stC (l : List (ByteArray × Int)) (k : Int) : List (ByteArray × Int) := if k = 0 then [] else l

theorem refWhere_none (ao : Option Addr) (n cap : Nat) (k : Int) (w : World) (hn : n ≤ 4611686018427387904) (h : n = 0 ∨ k = 0) :
    Calls Tryd.prog 26 #[.agg #[.slice ao n cap, .int .i64 k]] w fun e w' => e = .returned (.tuple #[.int .i64 0, .bool false]) ∧ Below w.heap.size w w' := by
  by_cases h0 : n = 0
  · subst h0
    go_enter Tryd.func26, Tryd.ntmps26
    go_wp2
    go_ret2
    exact ⟨rfl, (Below.refl _ _).alloc (Nat.le_refl _) _⟩
  · obtain rfl : k = 0 := by omega
    have hq : (((n : Nat) : Int) == 0) = false := by rw [beq_eq_false_iff_ne]; omega
    go_enter Tryd.func26, Tryd.ntmps26
    go_wp2
    go_ret2
    exact ⟨rfl, (Below.refl _ _).alloc (Nat.le_refl _) _⟩
theorem refWhere_some (v : Value) (l : List (ByteArray × Int)) (k : Int) (w : World) (hv : Stp w v l) (hl : l.length ≤ 1000) (h0 : l ≠ []) (h1 : k ≠ 0) :
    Calls Tryd.prog 26 #[.agg #[v, .int .i64 k]] w fun e w' => e = .returned (.tuple #[.int .i64 (atV l), .bool true]) ∧ Below w.heap.size w w' := by
  rcases hv with ⟨ao, cap, rfl, rfl⟩ | ⟨b, o, cap, rfl, h2, h3⟩
  · exact absurd rfl h0
  · rcases l with _ | ⟨s, l⟩
    · exact absurd rfl h0
    · have c1 : w.cell? ⟨b, o + 1, none⟩ = some (.int .i64 s.2) := by have := (h3 0 (by simp)).2; simp only [Nat.zero_mul, Nat.add_zero] at this; exact this
      have hbl := block_of_cell c1
      have hkq : (k == 0) = false := by rw [beq_eq_false_iff_ne]; exact h1
      clear h3 h0 h1
      simp only [List.length_cons] at *
      go_enter Tryd.func26, Tryd.ntmps26
      go_wp2
      go_ret2
      exact ⟨rfl, (Below.refl _ _).alloc (Nat.le_refl _) _⟩
end Go.Proofs.YtdkbehbpdcfbdaaDoor
