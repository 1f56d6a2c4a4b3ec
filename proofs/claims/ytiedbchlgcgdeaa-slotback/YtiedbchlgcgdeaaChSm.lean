/-
  RECORDS, ONE BY ONE (castellanref09.Same): where both rows have the same, true. Condition: fewer than a hundred thousand.
-/
import Derived.Test.YtiedbchlgcgdeaaChO
import Derived.Test.YtiedbchlgcgdeaaHeld
import Derived.Laws.IdiomStrings
import Derived.BigQuiet
namespace Go.Proofs.Ytiedbchlgcgdeaa
open Go.RowKit

def bsC (l : List Int) : List UInt8 := l.map fun x => UInt8.ofNat x.toNat
theorem bsC_len (l : List Int) : (bsC l).length = l.length := by simp [bsC]
theorem str_ofC {W : World} {u : Value} {T : List Int} (h : Sl bc W u T) (hb : Byt T) : (convert 23 9 u).run Try.prog W = .ok (.string ⟨(bsC T).toArray⟩) W := by
  rcases h with ⟨ao, cap, rfl, rfl⟩ | ⟨b, o, cap, rfl, _, h3⟩
  · cases ao with
    | none =>
      rw [run_convert_bytes_string W 23 9 5 none 0 cap Try.underlying23 Try.underlying5 Try.underlying9]
      simp [Conv.bytesToString]
      rfl
    | some a => exact run_convert_bytes_back W 23 9 5 a cap [] Try.underlying23 Try.underlying5 Try.underlying9 (fun j hj => by simp at hj)
  · have := run_convert_bytes_back W 23 9 5 ⟨b, o, none⟩ cap (bsC T) Try.underlying23 Try.underlying5 Try.underlying9 (fun j hj => by
      have hj' : j < T.length := by rwa [bsC_len] at hj
      have e := h3 j hj'
      rw [show ((⟨b, o, none⟩ : Addr).add j) = ⟨b, o + j, none⟩ from Addr.add_lit b o j, e]
      have hx := hb T[j] (List.getElem_mem hj')
      have e2 : (bsC T)[j] = UInt8.ofNat T[j].toNat := by simp [bsC]
      rw [e2, UInt8.toNat_ofNat']
      unfold bc
      congr 2
      omega)
    rwa [bsC_len] at this
theorem lm_get {α : Type} (f : α → List Value) (n : Nat) (hf : ∀ x, (f x).length = n) : ∀ (l : List α) (i : Nat) (h : i < l.length) (j : Nat) (u : Value), (f l[i])[j]? = some u → (l.flatMap f)[i * n + j]? = some u
  | [], i, h, _, _, _ => by simp at h
  | x :: r, 0, _, j, u, hj => by
    have hl : j < (f x).length := (List.getElem?_eq_some_iff.1 hj).1
    rw [List.flatMap_cons, Nat.zero_mul, Nat.zero_add, List.getElem?_append_left hl]
    exact hj
  | x :: r, i + 1, h, j, u, hj => by
    rw [List.flatMap_cons, List.getElem?_append_right (by rw [hf, Nat.succ_mul]; omega), hf, show (i + 1) * n + j - n = i * n + j by rw [Nat.succ_mul]; omega]
    exact lm_get f n hf r i (by simpa using h) j u hj
theorem lm_at {α : Type} (f : α → List Value) (n : Nat) (hf : ∀ x, (f x).length = n) {W : World} {b o : Nat} {l : List α} (h : W.rangeAt b o (l.flatMap f)) {i : Nat} (hi : i < l.length) : W.rangeAt b (o + i * n) (f l[i]) := fun j u hu => by
  rw [Nat.add_assoc]
  exact h _ u (lm_get f n hf l i hi j u hu)
theorem yields_conv {ops : Array Oper} {o : Oper} {a : Act} {S : World → Prop} (hw : Region.wanted o (yielded ops a.tmps) = true) (x : Operand) (ho : o.op = .convert 23 9 x) (v v' : Value) (hx : a.eval x = v) (hr : ∀ W, S W → (convert 23 9 v).run Try.prog W = .ok v' W) : YieldsIf Try.prog ops S o v' a :=
  .inl ⟨hw, fun w h => by
    unfold execOp
    simp only [ho, hx]
    have h2 := hr w h
    simp [h2, Result.andThen]⟩
/-- Records in a row, to be read. -/
def Lrd (W : World) (v : Value) (qs : List Lc) : Prop := (∃ ao cap, v = .slice ao qs.length cap ∧ (0 < qs.length → ∃ b o, ao = some ⟨b, o, none⟩ ∧ W.rangeAt b o (qs.flatMap lkc))) ∧ ∀ q ∈ qs, Sl bc W q.2.1 q.2.2 ∧ Byt q.2.2
theorem Lrd.below {W W' : World} {v : Value} {qs : List Lc} (h : Lrd W v qs) (hb : Below W.heap.size W W') : Lrd W' v qs := by
  obtain ⟨⟨ao, cap, e, hr⟩, h2⟩ := h
  exact ⟨⟨ao, cap, e, fun q => by obtain ⟨b, o, e1, e2⟩ := hr q; exact ⟨b, o, e1, range_belW e2 hb⟩⟩, fun p hp => ⟨(h2 p hp).1.below hb, (h2 p hp).2⟩⟩
theorem Lrd.at {W : World} {v : Value} {qs : List Lc} (h : Lrd W v qs) {k : Nat} (hk : k < qs.length) : ∃ b o cap, v = .slice (some ⟨b, o, none⟩) qs.length cap ∧ W.cell? ⟨b, o + k * 2, none⟩ = some (.int .i64 (qs[k]).1) ∧ W.cell? ⟨b, o + k * 2 + 1, none⟩ = some (qs[k]).2.1 := by
  obtain ⟨⟨ao, cap, e, hr⟩, _⟩ := h
  obtain ⟨b, o, rfl, h2⟩ := hr (by omega)
  have hf := lm_at lkc 2 (fun _ => rfl) h2 hk
  have h0 := hf 0 _ rfl
  have h1 := hf 1 _ rfl
  exact ⟨b, o, cap, e, h0, h1⟩
theorem Lrd.form {W : World} {v : Value} {qs : List Lc} (h : Lrd W v qs) : ∃ a k, v = .slice a qs.length k := by
  obtain ⟨⟨ao, cap, e, _⟩, _⟩ := h
  exact ⟨ao, cap, e⟩
end Go.Proofs.Ytiedbchlgcgdeaa
