/-
  fault.outermost AT THE TYPES Fault AND Code: the outermost Fault of a chain; the Code that a chain ends in; the zero value and false where there is none. Condition: errors.errorType holds the handle of the type error.
-/
import Derived.Test.YtpmpmdlmcpakiaaDoorIsc
namespace Go.Proofs.YtpmpmdlmcpakiaaDoor
open Go.RowKit Go.Extern.Stop Go.Stop Go.Extern

/-- errors.errorType holds the handle of the type error. -/
def Hnd (w : World) : Prop := w.cell? ⟨0, 0, none⟩ = some (.iface 102 (.agg #[.pointer (some ⟨1, 27, none⟩)]))
theorem Hnd.below {w w' : World} (h : Hnd w) (hb : Below w.heap.size w w') : Hnd w' := (hb.cell (size_of_handle h)).trans h

theorem three_cells {u : World} {n : Nat} {x y z x' y' z' : Value} (h0 : u.cell? ⟨n, 0, none⟩ = some x') (h1 : u.cell? ⟨n, 1, none⟩ = some y') (h2 : u.cell? ⟨n, 2, none⟩ = some z') :
    (((u.setCell ⟨n, 0, none⟩ x).setCell ⟨n, 1, none⟩ y).setCell ⟨n, 2, none⟩ z).cell? ⟨n, 0, none⟩ = some x ∧ (((u.setCell ⟨n, 0, none⟩ x).setCell ⟨n, 1, none⟩ y).setCell ⟨n, 2, none⟩ z).cell? ⟨n, 1, none⟩ = some y ∧
      (((u.setCell ⟨n, 0, none⟩ x).setCell ⟨n, 1, none⟩ y).setCell ⟨n, 2, none⟩ z).cell? ⟨n, 2, none⟩ = some z := by
  refine ⟨?_, ?_, ?_⟩
  · rw [World.cell?_setCell_other _ _ _ _ (by simp), World.cell?_setCell_other _ _ _ _ (by simp)]
    exact World.cell?_setCell_same _ _ _ h0
  · rw [World.cell?_setCell_other _ _ _ _ (by simp)]
    refine World.cell?_setCell_same _ _ _ (u := y') ?_
    rw [World.cell?_setCell_other _ _ _ _ (by simp)]
    exact h1
  · refine World.cell?_setCell_same _ _ _ (u := z') ?_
    rw [World.cell?_setCell_other _ _ _ _ (by simp), World.cell?_setCell_other _ _ _ _ (by simp)]
    exact h2


theorem as_nil_below (t : Value) (w : World) :
    Calls Tryd.prog 52 #[.nilIface, t] w fun e w' => e = .returned (.bool false) ∧ Below w.heap.size w w' :=
  (as_nil t w).mono fun _ _ ⟨he, hw⟩ => ⟨he, by rw [hw]; exact Below.refl _ _⟩



set_option maxRecDepth 100000 in
set_option maxHeartbeats 4000000 in
theorem outC_some (l : List (ByteArray × Int)) (k : Int) (w : World) (hg : Hnd w) :
    Calls Tryd.prog 45 #[chn l (bse k)] w
      fun ev w' => ev = .returned (.tuple #[.int .i64 k, .bool true]) ∧ Below w.heap.size w w' := by
  have hlt := size_of_handle hg
  have hmf : ∀ (fn : Fn) (first cap : Array Value) (w : World), (Instr.makeFunc fn first cap).run Tryd.prog w = .ok (.func fn first cap) w := fun _ _ _ _ => rfl
  have hg2 : Hnd ((w.alloc (.cells #[.int .i64 0] 31)).alloc (.cells #[.bool false] 4)) := hg.below (((Below.refl _ _).alloc (Nat.le_refl _) _).alloc (by simp) _)
  have hc := as32_some l k w.heap.size (.int .i64 0) _ hg2 (by simp) (by simp)
  obtain ⟨ty, v, hv⟩ := chn_form l k
  rw [hv] at hc ⊢
  have HC := hide hc
  clear hg hg2 hc hv
  go_enter_defers Tryd.func45, Tryd.ntmps45
  go_wp2_with (first | (go_at_call 52; refine (HC.out).mono ?_; rintro e w' ⟨rfl, u, hb, rfl⟩; obtain ⟨hc, hf⟩ := bcell hb))
  have hu0 : u.cell? ⟨w.heap.size, 0, none⟩ = some (.int .i64 0) := by rw [hc _ _ (by simp; omega)]; simp
  have hu3 : u.cell? ⟨w.heap.size + 1, 0, none⟩ = some (.bool false) := by rw [hc _ _ (by simp)]; simp
  generalize hV : World.setCell _ ⟨w.heap.size + 1, 0, none⟩ (.bool true) = V
  have c0 : V.cell? ⟨w.heap.size, 0, none⟩ = some (.int .i64 k) := by
    rw [← hV, World.cell?_setCell_other _ _ _ _ (by simp)]
    exact World.cell?_setCell_same _ _ _ hu0
  have c3 : V.cell? ⟨w.heap.size + 1, 0, none⟩ = some (.bool true) := by
    rw [← hV]
    refine World.cell?_setCell_same _ _ _ (u := .bool false) ?_
    rw [World.cell?_setCell_other _ _ _ _ (by simp)]
    exact hu3
  have g0 : V.frozen? ⟨w.heap.size, 0, none⟩ = false := by rw [← hV]; simp; rw [hf _ _ (by simp; omega)]; simp
  have g3 : V.frozen? ⟨w.heap.size + 1, 0, none⟩ = false := by rw [← hV]; simp; rw [hf _ _ (by simp)]; simp
  have HB : Below w.heap.size w V := by
    rw [← hV]
    exact (((((Below.refl _ _).alloc (Nat.le_refl _) _).alloc (by simp) _).trans (hb.mono (by simp; omega))).setCell (by simp) _).setCell (by simp) _
  clear hV hc hf hb HC hu0 hu3
  go_region
  go_wp2
  generalize hW : World.setCell _ ⟨w.heap.size + 1, 0, none⟩ (.bool true) = X
  have d0 : X.cell? ⟨w.heap.size, 0, none⟩ = some (.int .i64 k) := by
    rw [← hW, World.cell?_setCell_other _ _ _ _ (by simp)]
    exact World.cell?_setCell_same _ _ _ c0
  have d3 : X.cell? ⟨w.heap.size + 1, 0, none⟩ = some (.bool true) := by
    rw [← hW]
    refine World.cell?_setCell_same _ _ _ (u := .bool true) ?_
    rw [World.cell?_setCell_other _ _ _ _ (by simp)]
    exact c3
  have HX : Below w.heap.size w X := by rw [← hW]; exact (HB.setCell (by simp) _).setCell (by simp) _
  clear hW c0 c3 g0 g3 HB
  refine leaves_cons (f := 51) (args := #[.pointer (some ⟨w.heap.size, 0, none⟩), .pointer (some ⟨w.heap.size + 1, 0, none⟩)]) (by simp) (by simp [go_sem]) ?_
  refine (idle39 ⟨w.heap.size, 0, none⟩ ⟨w.heap.size + 1, 0, none⟩ _).mono ?_
  rintro e u' w'' ⟨rfl, rfl, rfl⟩
  simp [Leaves, settle, results, Tryd.results45, go_sem, d0, d3]
  exact HX.drew

end Go.Proofs.YtpmpmdlmcpakiaaDoor
