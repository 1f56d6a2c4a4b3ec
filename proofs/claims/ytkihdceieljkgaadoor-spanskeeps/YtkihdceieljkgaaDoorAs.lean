/-
  errors.As, by its contracts. At a target of type *Fault: a Fault is found at once and the target is set; a Code and what errors.New makes are not found. Nil has none. Conditions: errors.errorType holds the handle of the type error, and the target's cells are there and not frozen.
-/
import Derived.Test.YtkihdceieljkgaaDoorMem
namespace Go.Proofs.YtkihdceieljkgaaDoor
open Go.RowKit Go.Extern.Stop Go.Stop Go.Extern

theorem as_nil (t : Value) (w : World) :
    Calls Tryd.prog 28 #[.nilIface, t] w fun e w' => e = .returned (.bool false) ∧ w' = w := by
  go_enter Tryd.func28, Tryd.ntmps28
  go_wp2
  go_ret
  exact ⟨rfl, rfl⟩

theorem size_of_handle {w : World} {v : Value} (hg : w.cell? ⟨0, 0, none⟩ = some v) : 0 < w.heap.size := by
  rcases Nat.eq_zero_or_pos w.heap.size with h0 | h
  · simp [World.cell?, h0] at hg
  · exact h
theorem block_of_cell {w : World} {v : Value} {b o : Nat} (hg : w.cell? ⟨b, o, none⟩ = some v) : b < w.heap.size := by
  rcases Nat.lt_or_ge b w.heap.size with h | h
  · exact h
  · simp [World.cell?, Array.getElem?_eq_none h] at hg

set_option maxRecDepth 100000 in
set_option maxHeartbeats 4000000 in
theorem as60_hit (op : ByteArray) (a : Int) (z x' y' z' : Value) (t : Nat) (w : World) (hz : z.oneCell' = true)
    (hg : w.cell? ⟨0, 0, none⟩ = some (.iface 82 (.agg #[.pointer (some ⟨1, 27, none⟩)])))
    (ht0 : w.cell? ⟨t, 0, none⟩ = some x') (ht1 : w.cell? ⟨t, 1, none⟩ = some y') (ht2 : w.cell? ⟨t, 2, none⟩ = some z')
    (hf0 : w.frozen? ⟨t, 0, none⟩ = false) (hf1 : w.frozen? ⟨t, 1, none⟩ = false) (hf2 : w.frozen? ⟨t, 2, none⟩ = false) :
    Calls Tryd.prog 28 #[.iface 51 (.agg #[.string op, .int .i64 a, z]), .iface 65 (.pointer (some ⟨t, 0, none⟩))] w fun ev w' => ev = .returned (.bool true) ∧
      ∃ u, Below w.heap.size w u ∧ w' = ((u.setCell ⟨t, 0, none⟩ (.string op)).setCell ⟨t, 1, none⟩ (.int .i64 a)).setCell ⟨t, 2, none⟩ z := by
  have hlt := size_of_handle hg
  have htl := block_of_cell ht0
  have h34 := h34
  have h40 := h40
  have h41 := h41
  have h42 := h42
  have h44 := h44
  have h45 := h45
  have h60 := h60
  have h68 := h68
  have h70 := h70
  have h71 := h71
  have f1 := valueOf74
  have f2 := type74
  have f3 := kind74
  have f4 := kind60
  have f5 := elem74
  have f6 := implements60
  have f7 := typeOf60
  have f8 := assign6060
  have f9 := valueOf60
  have m1 := mElem
  have m2 := mKind
  have m3 := mImplements
  have m4 := mAssignableTo
  have n8 := isNil74 ⟨w.heap.size, 0, none⟩ ⟨t, 0, none⟩ ((w.alloc (.cells #[.pointer (some ⟨t, 0, none⟩)] 65)).alloc (.cells #[.pointer (some ⟨1, 65, none⟩), .pointer (some ⟨w.heap.size, 0, none⟩), .int .u64 150] 72)) (by simp)
  have el := elemV74 ⟨w.heap.size, 0, none⟩ ⟨t, 0, none⟩ (((w.alloc (.cells #[.pointer (some ⟨t, 0, none⟩)] 65)).alloc (.cells #[.pointer (some ⟨1, 65, none⟩), .pointer (some ⟨w.heap.size, 0, none⟩), .int .u64 150] 72)).alloc (.cells #[.pointer (some ⟨1, 65, none⟩), .pointer (some ⟨w.heap.size, 0, none⟩), .int .u64 150] 72)) (by rw [World.cell?_alloc_lt _ _ ⟨w.heap.size, 0, none⟩ (by simp; omega)]; simp)
  have st := set60 t (w.heap.size + 1 + 1 + 1) op a z x' y' z' ((((w.alloc (.cells #[.pointer (some ⟨t, 0, none⟩)] 65)).alloc (.cells #[.pointer (some ⟨1, 65, none⟩), .pointer (some ⟨w.heap.size, 0, none⟩), .int .u64 150] 72)).alloc (.cells #[.pointer (some ⟨1, 65, none⟩), .pointer (some ⟨w.heap.size, 0, none⟩), .int .u64 150] 72)).alloc (.cells #[.string op, .int .i64 a, z] 51))
    (by rw [World.cell?_alloc_at _ _ _ _ (by simp)]; rfl) (by rw [World.cell?_alloc_at _ _ _ _ (by simp)]; rfl) (by rw [World.cell?_alloc_at _ _ _ _ (by simp)]; rfl) hz
    (by iterate 4 rw [World.cell?_alloc_lt _ _ _ (by simp; omega)]
        exact ht0)
    (by iterate 4 rw [World.cell?_alloc_lt _ _ _ (by simp; omega)]
        exact ht1)
    (by iterate 4 rw [World.cell?_alloc_lt _ _ _ (by simp; omega)]
        exact ht2)
    (by iterate 4 rw [World.frozen?_alloc_old _ _ _ (by simp; omega)]
        exact hf0)
    (by iterate 4 rw [World.frozen?_alloc_old _ _ _ (by simp; omega)]
        exact hf1)
    (by iterate 4 rw [World.frozen?_alloc_old _ _ _ (by simp; omega)]
        exact hf2)
  go_enter Tryd.func28, Tryd.ntmps28
  go_wp2
  refine wp_loop_rounds 1 ?_
  rw [rounds_succ]
  go_wp2
  go_ret
  exact ⟨rfl, _, ((((Below.refl _ _).alloc (Nat.le_refl _) _).alloc (by simp) _).alloc (by simp; omega) _).alloc (by simp; omega) _, rfl⟩
set_option maxRecDepth 100000 in
set_option maxHeartbeats 4000000 in
theorem as60_miss32 (k : Int) (t : Nat) (w : World)
    (hg : w.cell? ⟨0, 0, none⟩ = some (.iface 82 (.agg #[.pointer (some ⟨1, 27, none⟩)]))) :
    Calls Tryd.prog 28 #[.iface 29 (.int .i64 k), .iface 65 (.pointer (some ⟨t, 0, none⟩))] w fun ev w' => ev = .returned (.bool false) ∧ Below w.heap.size w w' := by
  have hlt := size_of_handle hg
  have h34 := h34
  have h40 := h40
  have h41 := h41
  have h42 := h42
  have h60 := h60
  have h68 := h68
  have h70 := h70
  have h71 := h71
  have f1 := valueOf74
  have f2 := type74
  have f3 := kind74
  have f4 := kind60
  have f5 := elem74
  have f6 := implements60
  have m1 := mElem
  have m2 := mKind
  have m3 := mImplements
  have m4 := mAssignableTo
  have n8 := isNil74 ⟨w.heap.size, 0, none⟩ ⟨t, 0, none⟩ ((w.alloc (.cells #[.pointer (some ⟨t, 0, none⟩)] 65)).alloc (.cells #[.pointer (some ⟨1, 65, none⟩), .pointer (some ⟨w.heap.size, 0, none⟩), .int .u64 150] 72)) (by simp)
  have f7 := typeOf32
  have f8 := assign3260
  have a1 := noAs32
  have a2 := noUnwrap32
  have a3 := noUnwraps32
  go_enter Tryd.func28, Tryd.ntmps28
  go_wp2
  refine wp_loop_rounds 1 ?_
  rw [rounds_succ]
  go_wp2
  go_ret
  exact ⟨rfl, (((Below.refl _ _).alloc (Nat.le_refl _) _).alloc (by simp) _).alloc (by simp; omega) _⟩

end Go.Proofs.YtkihdceieljkgaaDoor
