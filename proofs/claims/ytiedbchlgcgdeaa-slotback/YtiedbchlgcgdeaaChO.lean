/-
  A CHAIN IS OPENED (chain.Open): what is wrong, or the records that stand one behind the other, where none stands, and the next stamp. Condition: fewer than thirty thousand blocks and writes.
-/
import Derived.Test.YtiedbchlgcgdeaaChH
namespace Go.Proofs.Ytiedbchlgcgdeaa
open Go.RowKit

/-- Bytes in a block of memory of which P holds. -/
def Slp (P : Nat → Prop) (W : World) (v : Value) (l : List Int) : Prop := (∃ ad k, v = .slice ad 0 k ∧ l = []) ∨ ∃ b o k, v = .slice (some ⟨b, o, none⟩) l.length k ∧ l.length ≤ k ∧ 0 < l.length ∧ P b ∧ ∀ i (h : i < l.length), W.cell? ⟨b, o + i, none⟩ = some (bc l[i])
theorem Slp.sl {P : Nat → Prop} {W : World} {v : Value} {l : List Int} (h : Slp P W v l) : Sl bc W v l := by
  rcases h with ⟨ad, k, e, rfl⟩ | ⟨b, o, k, e, h1, _, _, h3⟩
  · exact .inl ⟨ad, k, rfl, e⟩
  · exact .inr ⟨b, o, k, e, h1, h3⟩
theorem Slp.form {P : Nat → Prop} {W : World} {v : Value} {l : List Int} (h : Slp P W v l) : ∃ ad k, v = .slice ad l.length k := h.sl.form
theorem Slp.keep {P Q : Nat → Prop} {W W' : World} {v : Value} {l : List Int} (h : Slp P W v l) (hP : ∀ b, P b → b < W.heap.size → Q b) (hk : ∀ b, P b → b < W.heap.size → W'.heap[b]? = W.heap[b]?) : Slp Q W' v l := by
  rcases h with h | ⟨b, o, k, e, h1, h0, hp, h3⟩
  · exact .inl h
  · have hb : b < W.heap.size := cell_block (h3 0 h0)
    exact .inr ⟨b, o, k, e, h1, h0, hP b hp hb, fun i hi => (World.cell?_of_block (hk b hp hb)).trans (h3 i hi)⟩
theorem Slp.below {P : Nat → Prop} {W W' : World} {v : Value} {l : List Int} (h : Slp P W v l) (hb : Below W.heap.size W W') : Slp P W' v l := h.keep (fun _ p _ => p) (fun b _ hk => hb.block b hk)
theorem slp_of {n0 : Nat} {W : World} {v : Value} {l : List Int} (h : Sl bc W v l) (hf : Fr n0 v) : Slp (fun b => n0 ≤ b) W v l := by
  rcases h with ⟨ad, k, rfl, e⟩ | ⟨b, o, k, e, h1, h3⟩
  · exact .inl ⟨ad, k, e, rfl⟩
  · by_cases h0 : 0 < l.length
    · exact .inr ⟨b, o, k, e, h1, h0, hf _ _ _ e h0, h3⟩
    · obtain rfl : l = [] := List.length_eq_zero_iff.1 (by omega)
      exact .inl ⟨_, _, e, rfl⟩
/-- A link: where, the bytes' slice, the bytes. -/
abbrev Lc := Int × Value × List Int
def lkc (q : Lc) : List Value := [.int .i64 q.1, q.2.1]
def lkO (qs : List Lc) : List Lk := qs.map fun q => (q.1, q.2.2)
theorem recG_bd {t : Cs} (hb : ∀ q, Blk (vw t q)) : ∀ (n : Nat) (a : Int) (p : Pc) (b : List Int) (r : List Int × Int), p.st ≤ 1152921504606846976 → recG t n a p b = some r → r.2 ≤ 1152921504606846976
  | 0, a, p, b, r, hp, h => by simp only [recG, Option.some.injEq] at h; rw [← h]; exact hp
  | n + 1, a, p, b, r, hp, h => by
    unfold recG at h
    split at h
    · split at h
      · cases h
      · exact recG_bd hb n _ _ _ r (st_bd (hb a)).2 h
    · simp only [Option.some.injEq] at h; rw [← h]; exact hp
theorem recS_bd {t : Cs} (hb : ∀ q, Blk (vw t q)) {a last : Int} {b : List Int} {st : Int} (h : recS t a last = some (b, st)) : st ≤ 1152921504606846976 ∧ (b.length : Int) ≤ 16448 := by
  have hl := recS_len hb h
  have h' := h
  unfold recS at h'
  split at h'
  · cases h'
  · rename_i hh
    exact ⟨recG_bd hb _ _ _ _ _ (st_bd (hb a)).2 h', by omega⟩
theorem blks_le {n : Int} (h : n ≤ 16448) : blks n ≤ 360 := by unfold blks; split <;> omega
theorem slp_and {P Q : Nat → Prop} {W W' : World} {v : Value} {l : List Int} (h : Slp P W v l) (k : Slp Q W' v l) : Slp (fun b => P b ∧ Q b) W v l := by
  rcases h with h | ⟨b, o, n, e, h1, h0, hp, h3⟩
  · exact .inl h
  · rcases k with ⟨ad, m, e2, e3⟩ | ⟨b2, o2, n2, e2, _, _, hq, _⟩
    · rw [e3] at h0; simp at h0
    · rw [e] at e2; cases e2; exact .inr ⟨b, o, n, e, h1, h0, ⟨hp, hq⟩, h3⟩
/-- What was read of the next record. -/
def Rs (W : World) (vl : Value) (c : Nat) (r : Option (List Int × Int)) (vb lv ok : Value) : Prop := match r with
  | none => ok = .bool false
  | some q => ok = .bool true ∧ lv = .int .i64 q.2 ∧ (∃ ad n k, vb = .slice ad n k) ∧ Slp (fun b => vl.ownBlock ≠ some b ∧ c < b) W vb q.1
theorem rs_of {w W : World} {e : Ending} {r : Option (List Int × Int)} {vl : Value} {c : Nat} (h : RecP w W e r) (hn : ∀ b, w.heap.size ≤ b → vl.ownBlock ≠ some b ∧ c < b) : ∃ vb lv ok, e = .returned (.tuple #[vb, lv, ok]) ∧ Rs W vl c r vb lv ok := by
  cases r with
  | none => exact ⟨_, _, _, h, rfl⟩
  | some q =>
    obtain ⟨ad, n, k, e1, h1, h2⟩ := h
    exact ⟨_, _, _, e1, rfl, rfl, ⟨ad, n, k, rfl⟩, (slp_of h1 h2).keep (fun b hb _ => hn b hb) (fun _ _ _ => rfl)⟩
def opFrom : ByteArray := ⟨#[102, 114, 111, 109]⟩
end Go.Proofs.Ytiedbchlgcgdeaa
