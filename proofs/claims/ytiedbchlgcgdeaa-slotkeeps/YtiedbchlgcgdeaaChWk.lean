/-
  THE LAWS' OWN EXAMPLE (castellanlaw09.works): it holds. No condition.
-/
import Derived.Test.YtiedbchlgcgdeaaChC
namespace Go.Proofs.Ytiedbchlgcgdeaa
open Go.RowKit

def z50 : List Int := List.replicate 50 0
def j0 : Dst := ⟨20, [], []⟩
def j1 : Dst := pS j0 3 1 [7] 1
def j2 : Dst := pS j1 4 2 z50 2
def j3 : Dst := syS j2
def j4 : Dst := pS j3 6 4 [9] 1
def j5 : Dst := crS j4 [] 0
def j6 : Dst := cutS j5 4 4 6
theorem jO0 : Opn j0.tk 3 0 [] 3 0 := .stop (by decide +kernel)
theorem opn_more {t : Cs} {a last st a1 x y : Int} {b : List Int} {L M : List Lk} (h : recS t a last = some (b, st)) (h1 : a + blks b.length = a1) (h2 : (if b.length = 0 then [] else [(a, b)]) ++ L = M) (k : Opn t a1 st L x y) : Opn t a last M x y := by
  rw [← h2]
  refine .more h ?_
  rw [h1]
  exact k
theorem jO5 : Opn j5.tk 3 0 [(3, [7]), (4, z50)] 6 3 :=
  opn_more (b := [7]) (st := 1) (by decide +kernel) (a1 := 4) (by decide) (L := [(4, z50)]) (by decide) (opn_more (b := z50) (st := 3) (by decide +kernel) (a1 := 6) (by decide) (L := []) (by decide) (.stop (by decide +kernel)))
theorem jO6 : Opn j6.tk 3 0 [(3, [7])] 5 4 :=
  opn_more (b := [7]) (st := 1) (by decide +kernel) (a1 := 4) (by decide) (L := []) (by decide) (opn_more (b := []) (st := 4) (by decide +kernel) (a1 := 5) (by decide) (L := []) (by decide) (.stop (by decide +kernel)))
theorem jH0 : hiS 3 j0.cs = 0 := by decide +kernel
theorem jH5 : hiS 3 j5.cs = 3 := by decide +kernel
theorem jH6 : hiS 3 j6.cs = 4 := by decide +kernel
theorem jR1 : (j0.tk.length : Int) + (1 : Nat) ≤ j0.room ∧ j0.wt < 20000 := by decide +kernel
theorem jR2 : (j1.tk.length : Int) + (2 : Nat) ≤ j1.room ∧ j1.wt < 20000 := by decide +kernel
theorem jR4 : (j3.tk.length : Int) + (1 : Nat) ≤ j3.room ∧ j3.wt < 20000 := by decide +kernel
theorem jW2 : j2.wt < 30000 := by decide +kernel
theorem jW4 : j4.wt < 30000 := by decide +kernel
theorem jW5 : j5.wt < 6000 := by decide +kernel
theorem jW6 : j6.wt < 20000 := by decide +kernel
theorem jT5 : (look j5.tk 4).isSome = true := by decide +kernel
theorem sl1 (W : World) (x : Int) (t : TypeId) : Sl bc (W.alloc (.cells #[.int .u8 x] t)) (.slice (some ⟨W.heap.size, 0, none⟩) 1 1) [x] := .inr ⟨W.heap.size, 0, 1, rfl, Nat.le_refl _, fun i hi => by
  rw [Nat.zero_add, World.cell?_alloc_at _ _ _ _ rfl]
  match i, hi with
  | 0, _ => rfl⟩
/-- Bytes in new memory stay what they are. -/
theorem sl_dx {d bS bT : Nat} {u : Value} {W : World} {g n k : Nat} {b : List Int} (h : Sl bc W (.slice (some ⟨g, 0, none⟩) n k) b) (hg : ¬ Own d bS bT u g) : ∀ W' u', Dx d bS bT u W W' u' → Sl bc W' (.slice (some ⟨g, 0, none⟩) n k) b := fun W' u' hx => by
  rcases h with h | ⟨b0, o, c, e, h2, h3⟩
  · exact .inl h
  · cases e
    exact .inr ⟨g, 0, k, rfl, h2, fun i hi => (hx.cell (cell_block (h3 i hi)) hg _).trans (h3 i hi)⟩
theorem make50 (W : World) : (Instr.makeSlice 23 (.int .i64 50) (.int .i64 50)).run Try.prog W = .ok (.slice (some ⟨W.heap.size, 0, none⟩) 50 50) (W.alloc (.cells (bv z50).toArray 5)) := by kernel_rfl
theorem z50_byt : Byt z50 := fun x hx => by simp [z50] at hx; omega
theorem al_c (W : World) (o : Obj) : Below W.heap.size W (W.alloc o) := (Below.refl _ _).alloc (Nat.le_refl _) o
/-- All that has turned since w is new. -/
structure Nc (w W : World) (c d bS bT : Nat) (u : Value) : Prop where
  be : Below w.heap.size w W
  ow : ∀ k, Own d bS bT u k ∨ k = c → w.heap.size ≤ k
theorem Nc.step {w W W' : World} {c d bS bT : Nat} {u u' : Value} (h : Nc w W c d bS bT u) (hx : Cx c d bS bT u W W' u') : Nc w W' c d bS bT u' :=
  ⟨h.be.trans (hx.ba.below h.be.size h.ow), fun k hk => by
    rcases hk with (e | e | e | e) | e
    · exact h.ow k (.inl (.inl e))
    · exact h.ow k (.inl (.inr (.inl e)))
    · exact h.ow k (.inl (.inr (.inr (.inl e))))
    · rcases hx.bl k e with q | q
      · exact h.ow k (.inl (.inr (.inr (.inr q))))
      · exact Nat.le_trans h.be.size q
    · exact h.ow k (.inr e)⟩
theorem Nc.call {w W W' : World} {c d bS bT : Nat} {u : Value} (h : Nc w W c d bS bT u) (hb : Below W.heap.size W W') : Nc w W' c d bS bT u := h.step (Cx.of (Dx.of hb))
theorem Nc.dx {w W W' : World} {c d bS bT : Nat} {u u' : Value} (h : Nc w W c d bS bT u) (hx : Dx d bS bT u W W' u') : Nc w W' c d bS bT u' := h.step (Cx.of hx)
end Go.Proofs.Ytiedbchlgcgdeaa
