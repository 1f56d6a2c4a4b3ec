/-
  errors.As AT A TARGET OF TYPE *Code, by its contracts: the Code that a chain of Faults ends in is found and the target is set. (A seat without errors.New.) Conditions: errors.errorType holds the handle of the type error, and the target's cell is there and not frozen.
-/
import Derived.Test.YtkihdceieljkgaaDoorSlc
import Derived.Test.YtkihdceieljkgaaDoorAs
namespace Go.Proofs.YtkihdceieljkgaaDoor
open Go.RowKit Go.Extern.Stop Go.Stop Go.Extern

/-- A chain of Faults, the outermost first, about the error b. -/
def chn : List (ByteArray × Int) → Value → Value
  | [], b => b
  | s :: l, b => .iface 51 (.agg #[.string s.1, .int .i64 s.2, chn l b])
/-- The innermost error: a Code. -/
def bse (k : Int) : Value := .iface 29 (.int .i64 k)

theorem size_inner (x y e : Value) : SizeOf.sizeOf e < SizeOf.sizeOf (Value.iface 51 (.agg #[x, y, e])) := by
  simp
  omega

set_option maxRecDepth 100000 in
set_option maxHeartbeats 4000000 in
theorem as43_some (l : List (ByteArray × Int)) (k : Int) (t vb : Nat) (old : Value) (w : World)
    (hv : w.cell? ⟨vb, 0, none⟩ = some (.pointer (some ⟨t, 0, none⟩))) (ht : w.cell? ⟨t, 0, none⟩ = some old) (hf : w.frozen? ⟨t, 0, none⟩ = false) :
    Calls Tryd.prog 35 #[chn l (bse k), .iface 66 (.pointer (some ⟨t, 0, none⟩)), .agg #[.pointer (some ⟨1, 66, none⟩), .pointer (some ⟨vb, 0, none⟩), .int .u64 150], .iface 82 (.agg #[.pointer (some ⟨1, 29, none⟩)])] w
      fun ev w' => ev = .returned (.bool true) ∧ ∃ u, Below w.heap.size w u ∧ w' = u.setCell ⟨t, 0, none⟩ (.int .i64 k) := by
  have htl := block_of_cell ht
  have hvl := block_of_cell hv
  have h34 := h34
  have h40 := h40
  have h44 := h44
  have h45 := h45
  have h68 := h68
  have m4 := mAssignableTo
  have m5 := mUnwrap
  have f7 := typeOf60
  have f8 := assign6032
  have g7 := typeOf32
  have g8 := assign3232
  have g9 := valueOf32
  have a1 := noAs60
  have a2 := unwraps60
  go_enter Tryd.func35, Tryd.ntmps35
  go_wp2
  go_loopw [0] (fun e W => ∃ l : List (ByteArray × Int), e = chn l (bse k) ∧ Below w.heap.size w W ∧ w.heap.size ≤ W.heap.size ∧
      W.cell? ⟨w.heap.size, 0, none⟩ = some (.pointer (some ⟨1, 66, none⟩)) ∧ W.cell? ⟨w.heap.size, 1, none⟩ = some (.pointer (some ⟨vb, 0, none⟩)) ∧ W.cell? ⟨w.heap.size, 2, none⟩ = some (.int .u64 150)) (fun e _ => SizeOf.sizeOf e)
  case atStart => exact ⟨l, rfl, (Below.refl _ _).alloc (Nat.le_refl _) _, by simp, by simp, by simp, by simp⟩
  case round =>
    obtain ⟨l', he, hb, hs, c0, c1, c2⟩ := hrel
    have hs1 : w.heap.size < wr.heap.size := block_of_cell c0
    rcases l' with _ | ⟨s, _ | ⟨s', l'⟩⟩
    · simp only [chn, bse] at he
      subst he
      have el := elemV75 ⟨vb, 0, none⟩ ⟨t, 0, none⟩ wr (by rw [hb.cell hvl]; exact hv)
      have st := set32 ⟨t, 0, none⟩ ⟨wr.heap.size, 0, none⟩ (.int .i64 k) old (wr.alloc (.cells #[.int .i64 k] 29)) (by simp)
        (by rw [World.cell?_alloc_lt _ _ _ (by simp; omega), hb.cell htl]; exact ht) (by rw [World.frozen?_alloc_old _ _ _ (by simp; omega), hb.frozen htl]; exact hf) ⟨k, rfl⟩
      go_wp2
      go_ret
      exact ⟨rfl, _, hb.alloc hs _, rfl⟩
    · simp only [chn, bse] at he
      subst he
      go_wp2
      go_roundw
      case rel => exact ⟨[], rfl, hb.alloc hs _, by simp; omega, by simp [go_sem, hs1, c0], by simp [go_sem, hs1, c1], by simp [go_sem, hs1, c2]⟩
      case measure => exact size_inner _ _ _
    · simp only [chn, bse] at he
      subst he
      go_wp2
      go_roundw
      case rel => exact ⟨s' :: l', rfl, hb.alloc hs _, by simp; omega, by simp [go_sem, hs1, c0], by simp [go_sem, hs1, c1], by simp [go_sem, hs1, c2]⟩
      case measure => exact size_inner _ _ _

theorem chn_form (l : List (ByteArray × Int)) (c : Int) : ∃ ty v, chn l (bse c) = .iface ty v := by
  rcases l with _ | ⟨s, l⟩
  · exact ⟨_, _, rfl⟩
  · exact ⟨_, _, rfl⟩

set_option maxRecDepth 100000 in
set_option maxHeartbeats 4000000 in
theorem as32_some (l : List (ByteArray × Int)) (k : Int) (t : Nat) (old : Value) (w : World)
    (hg : w.cell? ⟨0, 0, none⟩ = some (.iface 82 (.agg #[.pointer (some ⟨1, 27, none⟩)])))
    (ht : w.cell? ⟨t, 0, none⟩ = some old) (hf : w.frozen? ⟨t, 0, none⟩ = false) :
    Calls Tryd.prog 28 #[chn l (bse k), .iface 66 (.pointer (some ⟨t, 0, none⟩))] w fun ev w' => ev = .returned (.bool true) ∧ ∃ u, Below w.heap.size w u ∧ w' = u.setCell ⟨t, 0, none⟩ (.int .i64 k) := by
  have htl := block_of_cell ht
  have hlt := size_of_handle hg
  have h40 := h40
  have h41 := h41
  have h42 := h42
  have h60 := h60
  have h70 := h70
  have h71 := h71
  have f1 := valueOf75
  have f2 := type75
  have f3 := kind75
  have f4 := kind32
  have f5 := elem75
  have f6 := implements32
  have m1 := mElem
  have m2 := mKind
  have m3 := mImplements
  have n8 := isNil75 ⟨w.heap.size, 0, none⟩ ⟨t, 0, none⟩ ((w.alloc (.cells #[.pointer (some ⟨t, 0, none⟩)] 66)).alloc (.cells #[.pointer (some ⟨1, 66, none⟩), .pointer (some ⟨w.heap.size, 0, none⟩), .int .u64 150] 72)) (by simp)
  have hc := as43_some l k t w.heap.size old ((w.alloc (.cells #[.pointer (some ⟨t, 0, none⟩)] 66)).alloc (.cells #[.pointer (some ⟨1, 66, none⟩), .pointer (some ⟨w.heap.size, 0, none⟩), .int .u64 150] 72))
    (by simp) (by iterate 2 rw [World.cell?_alloc_lt _ _ _ (by simp; omega)]
                  exact ht) (by iterate 2 rw [World.frozen?_alloc_old _ _ _ (by simp; omega)]
                                exact hf)
  obtain ⟨ty, v, hv⟩ := chn_form l k
  rw [hv] at hc ⊢
  have HC := hide hc
  clear hc hv
  go_enter Tryd.func28, Tryd.ntmps28
  go_wp2_with (first | (go_at_call 35; refine (HC.out).mono ?_; rintro e w' ⟨rfl, u, hb, rfl⟩))
  go_ret
  exact ⟨rfl, u, (((Below.refl _ _).alloc (Nat.le_refl _) _).alloc (by simp) _).trans (hb.mono (by simp; omega)), rfl⟩
end Go.Proofs.YtkihdceieljkgaaDoor
