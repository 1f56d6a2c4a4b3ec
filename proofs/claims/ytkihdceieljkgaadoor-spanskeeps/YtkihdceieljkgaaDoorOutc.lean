/-
  fault.outermost AT THE TYPES Fault AND Code: the outermost Fault of a chain; the Code that a chain ends in; the zero value and false where there is none. Condition: errors.errorType holds the handle of the type error.
-/
import Derived.Test.YtkihdceieljkgaaDoorIsc
namespace Go.Proofs.YtkihdceieljkgaaDoor
open Go.RowKit Go.Extern.Stop Go.Stop Go.Extern

/-- errors.errorType holds the handle of the type error. -/
def Hnd (w : World) : Prop := w.cell? ⟨0, 0, none⟩ = some (.iface 82 (.agg #[.pointer (some ⟨1, 27, none⟩)]))
theorem Hnd.below {w w' : World} (h : Hnd w) (hb : Below w.heap.size w w') : Hnd w' := (hb.cell (size_of_handle h)).trans h

theorem three_cells {u : World} {n : Nat} {x y z x' y' z' : Value} (h0 : u.cell? ⟨n, 0, none⟩ = some x') (h1 : u.cell? ⟨n, 1, none⟩ = some y') (h2 : u.cell? ⟨n, 2, none⟩ = some z') :
    (((u.setCell ⟨n, 0, none⟩ x).setCell ⟨n, 1, none⟩ y).setCell ⟨n, 2, none⟩ z).cell? ⟨n, 0, none⟩ = some x ∧ (((u.setCell ⟨n, 0, none⟩ x).setCell ⟨n, 1, none⟩ y).setCell ⟨n, 2, none⟩ z).cell? ⟨n, 1, none⟩ = some y ∧
      (((u.setCell ⟨n, 0, none⟩ x).setCell ⟨n, 1, none⟩ y).setCell ⟨n, 2, none⟩ z).cell? ⟨n, 2, none⟩ = some z := by
  refine ⟨?_, ?_, ?_⟩
  · rw [World.cell?_setCell_other _ _ _ _ (by simp), World.cell?_setCell_other _ _ _ _ (by simp)]
    exact World.cell?_setCell_same _ _ _ h0
  · rw [World.cell?_setCell_other _ _ _ _ (by simp)]
    refine World.cell?_setCell_same _ _ _ (u := y') ?_
    rw [World.cell?_setCell_other _ _ _ _ (by simp)]
    exact h1
  · refine World.cell?_setCell_same _ _ _ (u := z') ?_
    rw [World.cell?_setCell_other _ _ _ _ (by simp), World.cell?_setCell_other _ _ _ _ (by simp)]
    exact h2

set_option maxRecDepth 100000 in
set_option maxHeartbeats 4000000 in
theorem outF_hit (op : ByteArray) (a : Int) (ty : TypeId) (v : Value) (w : World) (hg : Hnd w) :
    Calls Tryd.prog 21 #[.iface 51 (.agg #[.string op, .int .i64 a, .iface ty v])] w
      fun ev w' => ev = .returned (.tuple #[.agg #[.string op, .int .i64 a, .iface ty v], .bool true]) ∧ Below w.heap.size w w' := by
  have hlt := size_of_handle hg
  have hmf : ∀ (fn : Fn) (first cap : Array Value) (w : World), (Instr.makeFunc fn first cap).run Tryd.prog w = .ok (.func fn first cap) w := fun _ _ _ _ => rfl
  have hg2 : Hnd ((w.alloc (.cells #[.string ByteArray.empty, .int .i64 0, .nilIface] 51)).alloc (.cells #[.bool false] 4)) := hg.below (((Below.refl _ _).alloc (Nat.le_refl _) _).alloc (by simp) _)
  have HC := hide (as60_hit op a (.iface ty v) (.string ByteArray.empty) (.int .i64 0) .nilIface w.heap.size _ rfl hg2 (by simp) (by simp) (by simp) (by simp) (by simp) (by simp))
  clear hg hg2
  go_enter_defers Tryd.func21, Tryd.ntmps21
  go_wp2_with (first | (go_at_call 28; refine (HC.out).mono ?_; rintro e w' ⟨rfl, u, hb, rfl⟩; obtain ⟨hc, hf⟩ := bcell hb))
  have hu0 : u.cell? ⟨w.heap.size, 0, none⟩ = some (.string ByteArray.empty) := by rw [hc _ _ (by simp; omega)]; simp
  have hu1 : u.cell? ⟨w.heap.size, 1, none⟩ = some (.int .i64 0) := by rw [hc _ _ (by simp; omega)]; simp
  have hu2 : u.cell? ⟨w.heap.size, 2, none⟩ = some .nilIface := by rw [hc _ _ (by simp; omega)]; simp
  have hu3 : u.cell? ⟨w.heap.size + 1, 0, none⟩ = some (.bool false) := by rw [hc _ _ (by simp)]; simp
  have T := three_cells (x := .string op) (y := .int .i64 a) (z := .iface ty v) hu0 hu1 hu2
  generalize hV : World.setCell _ ⟨w.heap.size + 1, 0, none⟩ (.bool true) = V
  have c0 : V.cell? ⟨w.heap.size, 0, none⟩ = some (.string op) := by rw [← hV, World.cell?_setCell_other _ _ _ _ (by simp)]; exact T.1
  have c1 : V.cell? ⟨w.heap.size, 1, none⟩ = some (.int .i64 a) := by rw [← hV, World.cell?_setCell_other _ _ _ _ (by simp)]; exact T.2.1
  have c2 : V.cell? ⟨w.heap.size, 2, none⟩ = some (.iface ty v) := by rw [← hV, World.cell?_setCell_other _ _ _ _ (by simp)]; exact T.2.2
  have c3 : V.cell? ⟨w.heap.size + 1, 0, none⟩ = some (.bool true) := by
    rw [← hV]
    refine World.cell?_setCell_same _ _ _ (u := .bool false) ?_
    iterate 3 rw [World.cell?_setCell_other _ _ _ _ (by simp)]
    exact hu3
  have g0 : V.frozen? ⟨w.heap.size, 0, none⟩ = false := by rw [← hV]; simp; rw [hf _ _ (by simp; omega)]; simp
  have g1 : V.frozen? ⟨w.heap.size, 1, none⟩ = false := by rw [← hV]; simp; rw [hf _ _ (by simp; omega)]; simp
  have g2 : V.frozen? ⟨w.heap.size, 2, none⟩ = false := by rw [← hV]; simp; rw [hf _ _ (by simp; omega)]; simp
  have g3 : V.frozen? ⟨w.heap.size + 1, 0, none⟩ = false := by rw [← hV]; simp; rw [hf _ _ (by simp)]; simp
  have HB : Below w.heap.size w V := by
    rw [← hV]
    exact ((((((Below.refl _ _).alloc (Nat.le_refl _) _).alloc (by simp) _).trans (hb.mono (by simp; omega))).setCell (by simp) _).setCell (by simp) _ |>.setCell (by simp) _).setCell (by simp) _
  clear hV hc hf hb HC T hu0 hu1 hu2 hu3
  go_region
  go_wp2
  have T2 := three_cells (x := .string op) (y := .int .i64 a) (z := .iface ty v) c0 c1 c2
  generalize hW : World.setCell _ ⟨w.heap.size + 1, 0, none⟩ (.bool true) = X
  have d0 : X.cell? ⟨w.heap.size, 0, none⟩ = some (.string op) := by rw [← hW, World.cell?_setCell_other _ _ _ _ (by simp)]; exact T2.1
  have d1 : X.cell? ⟨w.heap.size, 1, none⟩ = some (.int .i64 a) := by rw [← hW, World.cell?_setCell_other _ _ _ _ (by simp)]; exact T2.2.1
  have d2 : X.cell? ⟨w.heap.size, 2, none⟩ = some (.iface ty v) := by rw [← hW, World.cell?_setCell_other _ _ _ _ (by simp)]; exact T2.2.2
  have d3 : X.cell? ⟨w.heap.size + 1, 0, none⟩ = some (.bool true) := by
    rw [← hW]
    refine World.cell?_setCell_same _ _ _ (u := .bool true) ?_
    iterate 3 rw [World.cell?_setCell_other _ _ _ _ (by simp)]
    exact c3
  have HX : Below w.heap.size w X := by rw [← hW]; exact (((HB.setCell (by simp) _).setCell (by simp) _).setCell (by simp) _).setCell (by simp) _
  clear hW T2 c0 c1 c2 c3 g0 g1 g2 g3 HB
  refine leaves_cons (f := 27) (args := #[.pointer (some ⟨w.heap.size, 0, none⟩), .pointer (some ⟨w.heap.size + 1, 0, none⟩)]) (by simp) (by simp [go_sem]) ?_
  refine (idle37 ⟨w.heap.size, 0, none⟩ ⟨w.heap.size + 1, 0, none⟩ _).mono ?_
  rintro e u' w'' ⟨rfl, rfl, rfl⟩
  simp [Leaves, settle, results, Tryd.results21, go_sem, d0, d1, d2, d3]
  exact HX.drew

theorem as_nil_below (t : Value) (w : World) :
    Calls Tryd.prog 28 #[.nilIface, t] w fun e w' => e = .returned (.bool false) ∧ Below w.heap.size w w' :=
  (as_nil t w).mono fun _ _ ⟨he, hw⟩ => ⟨he, by rw [hw]; exact Below.refl _ _⟩

set_option maxRecDepth 100000 in
set_option maxHeartbeats 4000000 in
theorem outF_code (k : Int) (w : World) (hg : Hnd w) :
    Calls Tryd.prog 21 #[.iface 29 (.int .i64 k)] w
      fun ev w' => ev = .returned (.tuple #[.agg #[.string ByteArray.empty, .int .i64 0, .nilIface], .bool false]) ∧ Below w.heap.size w w' := by
  have hlt := size_of_handle hg
  have hmf : ∀ (fn : Fn) (first cap : Array Value) (w : World), (Instr.makeFunc fn first cap).run Tryd.prog w = .ok (.func fn first cap) w := fun _ _ _ _ => rfl
  have hg2 : Hnd ((w.alloc (.cells #[.string ByteArray.empty, .int .i64 0, .nilIface] 51)).alloc (.cells #[.bool false] 4)) := hg.below (((Below.refl _ _).alloc (Nat.le_refl _) _).alloc (by simp) _)
  have HC := hide (as60_miss32 k w.heap.size _ hg2)
  clear hg hg2
  go_enter_defers Tryd.func21, Tryd.ntmps21
  go_wp2_with (first | (go_at_call 28; refine (HC.out).mono ?_; rintro e w' ⟨rfl, hb⟩; obtain ⟨hc, hf⟩ := bcell hb))
  have hu0 : w'.cell? ⟨w.heap.size, 0, none⟩ = some (.string ByteArray.empty) := by rw [hc _ _ (by simp; omega)]; simp
  have hu1 : w'.cell? ⟨w.heap.size, 1, none⟩ = some (.int .i64 0) := by rw [hc _ _ (by simp; omega)]; simp
  have hu2 : w'.cell? ⟨w.heap.size, 2, none⟩ = some .nilIface := by rw [hc _ _ (by simp; omega)]; simp
  have hu3 : w'.cell? ⟨w.heap.size + 1, 0, none⟩ = some (.bool false) := by rw [hc _ _ (by simp)]; simp
  generalize hV : World.setCell _ ⟨w.heap.size + 1, 0, none⟩ (.bool false) = V
  have c0 : V.cell? ⟨w.heap.size, 0, none⟩ = some (.string ByteArray.empty) := by rw [← hV, World.cell?_setCell_other _ _ _ _ (by simp)]; exact hu0
  have c1 : V.cell? ⟨w.heap.size, 1, none⟩ = some (.int .i64 0) := by rw [← hV, World.cell?_setCell_other _ _ _ _ (by simp)]; exact hu1
  have c2 : V.cell? ⟨w.heap.size, 2, none⟩ = some .nilIface := by rw [← hV, World.cell?_setCell_other _ _ _ _ (by simp)]; exact hu2
  have c3 : V.cell? ⟨w.heap.size + 1, 0, none⟩ = some (.bool false) := by
    rw [← hV]
    exact World.cell?_setCell_same _ _ _ hu3
  have g0 : V.frozen? ⟨w.heap.size, 0, none⟩ = false := by rw [← hV]; simp; rw [hf _ _ (by simp; omega)]; simp
  have g1 : V.frozen? ⟨w.heap.size, 1, none⟩ = false := by rw [← hV]; simp; rw [hf _ _ (by simp; omega)]; simp
  have g2 : V.frozen? ⟨w.heap.size, 2, none⟩ = false := by rw [← hV]; simp; rw [hf _ _ (by simp; omega)]; simp
  have g3 : V.frozen? ⟨w.heap.size + 1, 0, none⟩ = false := by rw [← hV]; simp; rw [hf _ _ (by simp)]; simp
  have HB : Below w.heap.size w V := by
    rw [← hV]
    exact ((((Below.refl _ _).alloc (Nat.le_refl _) _).alloc (by simp) _).trans (hb.mono (by simp; omega))).setCell (by simp) _
  clear hV hc hf hb HC hu0 hu1 hu2 hu3
  go_region
  go_wp2
  have T2 := three_cells (x := .string ByteArray.empty) (y := .int .i64 0) (z := .nilIface) c0 c1 c2
  generalize hW : World.setCell _ ⟨w.heap.size + 1, 0, none⟩ (.bool false) = X
  have d0 : X.cell? ⟨w.heap.size, 0, none⟩ = some (.string ByteArray.empty) := by rw [← hW, World.cell?_setCell_other _ _ _ _ (by simp)]; exact T2.1
  have d1 : X.cell? ⟨w.heap.size, 1, none⟩ = some (.int .i64 0) := by rw [← hW, World.cell?_setCell_other _ _ _ _ (by simp)]; exact T2.2.1
  have d2 : X.cell? ⟨w.heap.size, 2, none⟩ = some (.nilIface) := by rw [← hW, World.cell?_setCell_other _ _ _ _ (by simp)]; exact T2.2.2
  have d3 : X.cell? ⟨w.heap.size + 1, 0, none⟩ = some (.bool false) := by
    rw [← hW]
    refine World.cell?_setCell_same _ _ _ (u := .bool false) ?_
    iterate 3 rw [World.cell?_setCell_other _ _ _ _ (by simp)]
    exact c3
  have HX : Below w.heap.size w X := by rw [← hW]; exact (((HB.setCell (by simp) _).setCell (by simp) _).setCell (by simp) _).setCell (by simp) _
  clear hW T2 c0 c1 c2 c3 g0 g1 g2 g3 HB
  refine leaves_cons (f := 27) (args := #[.pointer (some ⟨w.heap.size, 0, none⟩), .pointer (some ⟨w.heap.size + 1, 0, none⟩)]) (by simp) (by simp [go_sem]) ?_
  refine (idle37 ⟨w.heap.size, 0, none⟩ ⟨w.heap.size + 1, 0, none⟩ _).mono ?_
  rintro e u' w'' ⟨rfl, rfl, rfl⟩
  simp [Leaves, settle, results, Tryd.results21, go_sem, d0, d1, d2, d3]
  exact HX.drew

set_option maxRecDepth 100000 in
set_option maxHeartbeats 4000000 in
theorem outF_nil (w : World) (hg : Hnd w) :
    Calls Tryd.prog 21 #[.nilIface] w
      fun ev w' => ev = .returned (.tuple #[.agg #[.string ByteArray.empty, .int .i64 0, .nilIface], .bool false]) ∧ Below w.heap.size w w' := by
  have hlt := size_of_handle hg
  have hmf : ∀ (fn : Fn) (first cap : Array Value) (w : World), (Instr.makeFunc fn first cap).run Tryd.prog w = .ok (.func fn first cap) w := fun _ _ _ _ => rfl
  have _hg2 : Hnd ((w.alloc (.cells #[.string ByteArray.empty, .int .i64 0, .nilIface] 51)).alloc (.cells #[.bool false] 4)) := hg.below (((Below.refl _ _).alloc (Nat.le_refl _) _).alloc (by simp) _)
  have HC := hide (as_nil_below (.iface 65 (.pointer (some ⟨w.heap.size, 0, none⟩))) ((w.alloc (.cells #[.string ByteArray.empty, .int .i64 0, .nilIface] 51)).alloc (.cells #[.bool false] 4)))
  clear hg _hg2
  go_enter_defers Tryd.func21, Tryd.ntmps21
  go_wp2_with (first | (go_at_call 28; refine (HC.out).mono ?_; rintro e w' ⟨rfl, hb⟩; obtain ⟨hc, hf⟩ := bcell hb))
  have hu0 : w'.cell? ⟨w.heap.size, 0, none⟩ = some (.string ByteArray.empty) := by rw [hc _ _ (by simp; omega)]; simp
  have hu1 : w'.cell? ⟨w.heap.size, 1, none⟩ = some (.int .i64 0) := by rw [hc _ _ (by simp; omega)]; simp
  have hu2 : w'.cell? ⟨w.heap.size, 2, none⟩ = some .nilIface := by rw [hc _ _ (by simp; omega)]; simp
  have hu3 : w'.cell? ⟨w.heap.size + 1, 0, none⟩ = some (.bool false) := by rw [hc _ _ (by simp)]; simp
  generalize hV : World.setCell _ ⟨w.heap.size + 1, 0, none⟩ (.bool false) = V
  have c0 : V.cell? ⟨w.heap.size, 0, none⟩ = some (.string ByteArray.empty) := by rw [← hV, World.cell?_setCell_other _ _ _ _ (by simp)]; exact hu0
  have c1 : V.cell? ⟨w.heap.size, 1, none⟩ = some (.int .i64 0) := by rw [← hV, World.cell?_setCell_other _ _ _ _ (by simp)]; exact hu1
  have c2 : V.cell? ⟨w.heap.size, 2, none⟩ = some .nilIface := by rw [← hV, World.cell?_setCell_other _ _ _ _ (by simp)]; exact hu2
  have c3 : V.cell? ⟨w.heap.size + 1, 0, none⟩ = some (.bool false) := by
    rw [← hV]
    exact World.cell?_setCell_same _ _ _ hu3
  have g0 : V.frozen? ⟨w.heap.size, 0, none⟩ = false := by rw [← hV]; simp; rw [hf _ _ (by simp; omega)]; simp
  have g1 : V.frozen? ⟨w.heap.size, 1, none⟩ = false := by rw [← hV]; simp; rw [hf _ _ (by simp; omega)]; simp
  have g2 : V.frozen? ⟨w.heap.size, 2, none⟩ = false := by rw [← hV]; simp; rw [hf _ _ (by simp; omega)]; simp
  have g3 : V.frozen? ⟨w.heap.size + 1, 0, none⟩ = false := by rw [← hV]; simp; rw [hf _ _ (by simp)]; simp
  have HB : Below w.heap.size w V := by
    rw [← hV]
    exact ((((Below.refl _ _).alloc (Nat.le_refl _) _).alloc (by simp) _).trans (hb.mono (by simp; omega))).setCell (by simp) _
  clear hV hc hf hb HC hu0 hu1 hu2 hu3
  go_region
  go_wp2
  have T2 := three_cells (x := .string ByteArray.empty) (y := .int .i64 0) (z := .nilIface) c0 c1 c2
  generalize hW : World.setCell _ ⟨w.heap.size + 1, 0, none⟩ (.bool false) = X
  have d0 : X.cell? ⟨w.heap.size, 0, none⟩ = some (.string ByteArray.empty) := by rw [← hW, World.cell?_setCell_other _ _ _ _ (by simp)]; exact T2.1
  have d1 : X.cell? ⟨w.heap.size, 1, none⟩ = some (.int .i64 0) := by rw [← hW, World.cell?_setCell_other _ _ _ _ (by simp)]; exact T2.2.1
  have d2 : X.cell? ⟨w.heap.size, 2, none⟩ = some (.nilIface) := by rw [← hW, World.cell?_setCell_other _ _ _ _ (by simp)]; exact T2.2.2
  have d3 : X.cell? ⟨w.heap.size + 1, 0, none⟩ = some (.bool false) := by
    rw [← hW]
    refine World.cell?_setCell_same _ _ _ (u := .bool false) ?_
    iterate 3 rw [World.cell?_setCell_other _ _ _ _ (by simp)]
    exact c3
  have HX : Below w.heap.size w X := by rw [← hW]; exact (((HB.setCell (by simp) _).setCell (by simp) _).setCell (by simp) _).setCell (by simp) _
  clear hW T2 c0 c1 c2 c3 g0 g1 g2 g3 HB
  refine leaves_cons (f := 27) (args := #[.pointer (some ⟨w.heap.size, 0, none⟩), .pointer (some ⟨w.heap.size + 1, 0, none⟩)]) (by simp) (by simp [go_sem]) ?_
  refine (idle37 ⟨w.heap.size, 0, none⟩ ⟨w.heap.size + 1, 0, none⟩ _).mono ?_
  rintro e u' w'' ⟨rfl, rfl, rfl⟩
  simp [Leaves, settle, results, Tryd.results21, go_sem, d0, d1, d2, d3]
  exact HX.drew

set_option maxRecDepth 100000 in
set_option maxHeartbeats 4000000 in
theorem outC_some (l : List (ByteArray × Int)) (k : Int) (w : World) (hg : Hnd w) :
    Calls Tryd.prog 22 #[chn l (bse k)] w
      fun ev w' => ev = .returned (.tuple #[.int .i64 k, .bool true]) ∧ Below w.heap.size w w' := by
  have hlt := size_of_handle hg
  have hmf : ∀ (fn : Fn) (first cap : Array Value) (w : World), (Instr.makeFunc fn first cap).run Tryd.prog w = .ok (.func fn first cap) w := fun _ _ _ _ => rfl
  have hg2 : Hnd ((w.alloc (.cells #[.int .i64 0] 29)).alloc (.cells #[.bool false] 4)) := hg.below (((Below.refl _ _).alloc (Nat.le_refl _) _).alloc (by simp) _)
  have hc := as32_some l k w.heap.size (.int .i64 0) _ hg2 (by simp) (by simp)
  obtain ⟨ty, v, hv⟩ := chn_form l k
  rw [hv] at hc ⊢
  have HC := hide hc
  clear hg hg2 hc hv
  go_enter_defers Tryd.func22, Tryd.ntmps22
  go_wp2_with (first | (go_at_call 28; refine (HC.out).mono ?_; rintro e w' ⟨rfl, u, hb, rfl⟩; obtain ⟨hc, hf⟩ := bcell hb))
  have hu0 : u.cell? ⟨w.heap.size, 0, none⟩ = some (.int .i64 0) := by rw [hc _ _ (by simp; omega)]; simp
  have hu3 : u.cell? ⟨w.heap.size + 1, 0, none⟩ = some (.bool false) := by rw [hc _ _ (by simp)]; simp
  generalize hV : World.setCell _ ⟨w.heap.size + 1, 0, none⟩ (.bool true) = V
  have c0 : V.cell? ⟨w.heap.size, 0, none⟩ = some (.int .i64 k) := by
    rw [← hV, World.cell?_setCell_other _ _ _ _ (by simp)]
    exact World.cell?_setCell_same _ _ _ hu0
  have c3 : V.cell? ⟨w.heap.size + 1, 0, none⟩ = some (.bool true) := by
    rw [← hV]
    refine World.cell?_setCell_same _ _ _ (u := .bool false) ?_
    rw [World.cell?_setCell_other _ _ _ _ (by simp)]
    exact hu3
  have g0 : V.frozen? ⟨w.heap.size, 0, none⟩ = false := by rw [← hV]; simp; rw [hf _ _ (by simp; omega)]; simp
  have g3 : V.frozen? ⟨w.heap.size + 1, 0, none⟩ = false := by rw [← hV]; simp; rw [hf _ _ (by simp)]; simp
  have HB : Below w.heap.size w V := by
    rw [← hV]
    exact (((((Below.refl _ _).alloc (Nat.le_refl _) _).alloc (by simp) _).trans (hb.mono (by simp; omega))).setCell (by simp) _).setCell (by simp) _
  clear hV hc hf hb HC hu0 hu3
  go_region
  go_wp2
  generalize hW : World.setCell _ ⟨w.heap.size + 1, 0, none⟩ (.bool true) = X
  have d0 : X.cell? ⟨w.heap.size, 0, none⟩ = some (.int .i64 k) := by
    rw [← hW, World.cell?_setCell_other _ _ _ _ (by simp)]
    exact World.cell?_setCell_same _ _ _ c0
  have d3 : X.cell? ⟨w.heap.size + 1, 0, none⟩ = some (.bool true) := by
    rw [← hW]
    refine World.cell?_setCell_same _ _ _ (u := .bool true) ?_
    rw [World.cell?_setCell_other _ _ _ _ (by simp)]
    exact c3
  have HX : Below w.heap.size w X := by rw [← hW]; exact (HB.setCell (by simp) _).setCell (by simp) _
  clear hW c0 c3 g0 g3 HB
  refine leaves_cons (f := 29) (args := #[.pointer (some ⟨w.heap.size, 0, none⟩), .pointer (some ⟨w.heap.size + 1, 0, none⟩)]) (by simp) (by simp [go_sem]) ?_
  refine (idle39 ⟨w.heap.size, 0, none⟩ ⟨w.heap.size + 1, 0, none⟩ _).mono ?_
  rintro e u' w'' ⟨rfl, rfl, rfl⟩
  simp [Leaves, settle, results, Tryd.results22, go_sem, d0, d3]
  exact HX.drew

end Go.Proofs.YtkihdceieljkgaaDoor
