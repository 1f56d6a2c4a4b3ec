/-
  WHATEVER IS ASKED OF A READER: what it tells, one function 'askS' of the bytes, where nothing was wrong; nothing, where something was. Conditions: the bytes' cells hold them, they lie off the reader, no more than ten thousand.
-/
import Derived.Test.YthoeajiojdfgdaaGreatDoorWgot
namespace Go.Proofs.YthoeajiojdfgdaaGreatDoor
open Go.RowKit

/-- What is told: a code, what was being done, where, where the reader is then, the number, flag, text, row. -/
structure Gt where
  c : Int
  op : ByteArray
  wh : Nat
  next : Nat
  n : Int
  f : Bool
  t : List Int
  r : List Int
def askS (l : List Int) (a : Nat) (K M E : Int) : Gt :=
  if K = 0 ∨ K = 1 then ⟨(numS (l.drop a) (abv' M)).1, ⟨#[110, 117, 109]⟩, a, a + (numS (l.drop a) (abv' M)).2.1, (numS (l.drop a) (abv' M)).2.2, false, [], []⟩
  else if K = 2 then ⟨(flagS (l.drop a)).1, ⟨#[102, 108, 97, 103]⟩, a, a + (flagS (l.drop a)).2.1, 0, (flagS (l.drop a)).2.2, [], []⟩
  else if K = 3 then ⟨(textS l a M).1, (textS l a M).2.1, a, (textS l a M).2.2.1, 0, false, (textS l a M).2.2.2, []⟩
  else ⟨(rowS l a M E).1, ⟨#[110, 117, 109]⟩, (rowS l a M E).2.1, (rowS l a M E).2.1, 0, false, [], rowR (rowS l a M E)⟩
theorem numS_next {r : List Int} {most : Int} (hb : Byt r) : (numS r most).2.1 ≤ r.length := by
  rcases hq : numS r most with ⟨c, k, x⟩
  by_cases hc : c = 0
  · subst hc
    obtain ⟨_, _, _, _, _, h⟩ := numS_once hb hq
    exact h
  · obtain ⟨rfl, rfl⟩ := numS_bad hq hc
    exact Nat.zero_le _
theorem Byt.drop {l : List Int} (h : Byt l) (a : Nat) : Byt (l.drop a) := fun x hx => h x (List.mem_of_mem_drop hx)
theorem rowI_next {l : List Int} {most : Int} (hb : Byt l) {a : Nat} (ha : a ≤ l.length) (j : Nat) : (rowI l most a j).2.1 ≤ l.length := by
  induction j with
  | zero => exact ha
  | succ j ih =>
    by_cases h : (rowI l most a j).1 = 0
    · rcases hq : numS (l.drop (rowI l most a j).2.1) most with ⟨c, k, x⟩
      by_cases hc : c = 0
      · subst hc
        rw [rowI_ok h hq]
        have := numS_next (most := most) (hb.drop (rowI l most a j).2.1)
        rw [hq, List.length_drop] at this
        show (rowI l most a j).2.1 + k ≤ l.length
        simp only at this
        omega
      · rw [rowI_bad h hq hc]
        exact ih
    · rw [rowI_stays h 1]
      exact ih
theorem askS_next (l : List Int) (a : Nat) (K M E : Int) (hb : Byt l) (ha : a ≤ l.length) : (askS l a K M E).next ≤ l.length := by
  have h1 := numS_next (most := abv' M) (hb.drop a)
  rw [List.length_drop] at h1
  unfold askS
  split
  · show a + _ ≤ _
    omega
  · split
    · show a + _ ≤ _
      unfold flagS
      split
      · show a + 0 ≤ _
        omega
      · rename_i x r hr
        have : (l.drop a).length = r.length + 1 := by rw [hr]; rfl
        rw [List.length_drop] at this
        split
        · show a + 0 ≤ _
          omega
        · show a + 1 ≤ _
          omega
    · split
      · show (textS l a M).2.2.1 ≤ _
        unfold textS
        have hr := numS_range (l.drop a) (abv' M) (hb.drop a)
        generalize numS (l.drop a) (abv' M) = q at *
        obtain ⟨c, k, x⟩ := q
        simp only at h1 hr ⊢
        split
        · split
          · exact ha
          · show a + k + x.toNat ≤ _
            omega
        · exact ha
      · show (rowS l a M E).2.1 ≤ _
        unfold rowS
        simp only
        split
        · exact rowI_next hb (by omega) _
        · exact ha
theorem rnum_keep (p : Nat) (v : Value) (a most : Int) (t : TypeId) (u : Value) (w : World) (hr : Rd w p v a (.iface t u)) :
    Calls Tryz.prog 88 #[.pointer (some ⟨p, 0, none⟩), .int .u64 most] w fun x w' => x = .returned (.int .u64 0) ∧ Rd w' p v a (.iface t u) ∧ Bx p w w' := by
  refine (rnum_err p v a most t u w hr).mono ?_
  rintro e w' ⟨rfl, rfl⟩
  exact ⟨rfl, hr, Bx.refl _ _⟩
theorem rint_keep (p : Nat) (v : Value) (a m : Int) (t : TypeId) (u : Value) (w : World) (hm : m ≤ 9223372036854775807) (hr : Rd w p v a (.iface t u)) :
    Calls Tryz.prog 61 #[.pointer (some ⟨p, 0, none⟩), .int .i64 m] w fun x w' => x = .returned (.int .i64 0) ∧ Rd w' p v a (.iface t u) ∧ Bx p w w' :=
  rint_of p m (abv' m) 0 w hm rfl ⟨by omega, by omega⟩ (hide (rnum_keep p v a (abv' m) t u w hr))
/-- A slice of things to be read. -/
def Sa (W : World) (v : Value) (l : List (Int × Int × Int)) : Prop :=
  (∃ ao cap, l = [] ∧ v = .slice ao 0 cap) ∨
  (∃ b o cap, v = .slice (some ⟨b, o, none⟩) l.length cap ∧ l.length ≤ cap ∧ ∀ i (h : i < l.length), W.cell? ⟨b, o + i * 3, none⟩ = some (.int .i64 l[i].1) ∧ W.cell? ⟨b, o + i * 3 + 1, none⟩ = some (.int .i64 l[i].2.1) ∧ W.cell? ⟨b, o + i * 3 + 2, none⟩ = some (.int .i64 l[i].2.2))
theorem Sa.below {w w' : World} {v : Value} {l : List (Int × Int × Int)} (h : Sa w v l) (hb : Below w.heap.size w w') : Sa w' v l := by
  rcases h with h | ⟨b, o, cap, h1, h2, h3⟩
  · exact .inl h
  · refine .inr ⟨b, o, cap, h1, h2, fun i hi => ?_⟩
    obtain ⟨a1, a2, a3⟩ := h3 i hi
    exact ⟨(hb.cell (p := ⟨b, o + i * 3, none⟩) (cell_block a1)).trans a1, (hb.cell (p := ⟨b, o + i * 3 + 1, none⟩) (cell_block a2)).trans a2, (hb.cell (p := ⟨b, o + i * 3 + 2, none⟩) (cell_block a3)).trans a3⟩
theorem Sa.get {W : World} {v : Value} {l : List (Int × Int × Int)} (h : Sa W v l) : ∃ ao cap, v = .slice ao l.length cap ∧ ∀ i (h : i < l.length), ∃ b o, ao = some ⟨b, o, none⟩ ∧ b < W.heap.size ∧ W.cell? ⟨b, o + i * 3, none⟩ = some (.int .i64 l[i].1) ∧ W.cell? ⟨b, o + i * 3 + 1, none⟩ = some (.int .i64 l[i].2.1) ∧ W.cell? ⟨b, o + i * 3 + 2, none⟩ = some (.int .i64 l[i].2.2) := by
  rcases h with ⟨ao, cap, rfl, rfl⟩ | ⟨b, o, cap, rfl, h2, h3⟩
  · exact ⟨ao, cap, rfl, fun i hi => by simp at hi⟩
  · exact ⟨_, cap, rfl, fun i hi => ⟨b, o, rfl, cell_block (h3 i hi).1, h3 i hi⟩⟩
end Go.Proofs.YthoeajiojdfgdaaGreatDoor
