/-
  fault.outermost AT THE TYPES Fault AND Code: the outermost Fault of a chain; the Code that a chain ends in; the zero value and false where there is none. Condition: errors.errorType holds the handle of the type error.
  fault.New, Wrap, Of, Where, Again AND Both, at every error that a law makes: nil, or a chain of Faults about a Code or about what errors.New made. Condition: errors.errorType holds the handle of the type error.
  A READER's NEXT NUMBER (wire.Read, Refuse, Reader.Num, Int, At, Err): what it tells, where it is then, and what is wrong. Conditions: the bytes' cells hold them, they lie below the reader, and no more than a hundred thousand.
-/
import Derived.Test.YtgbcjmpnkejpeaaGreatDoorJIsc
import Derived.Test.YtgbcjmpnkejpeaaGreatDoorJWnuma3
namespace Go.Proofs.YtgbcjmpnkejpeaaGreatDoor
open Go.RowKit Go.Extern.Stop Go.Stop Go.Extern

/-- errors.errorType holds the handle of the type error. -/
def Hnd (w : World) : Prop := w.cell? ⟨0, 0, none⟩ = some (.iface 196 (.agg #[.pointer (some ⟨1, 41, none⟩)]))
theorem Hnd.below {w w' : World} (h : Hnd w) (hb : Below w.heap.size w w') : Hnd w' := (hb.cell (size_of_handle h)).trans h

theorem three_cells {u : World} {n : Nat} {x y z x' y' z' : Value} (h0 : u.cell? ⟨n, 0, none⟩ = some x') (h1 : u.cell? ⟨n, 1, none⟩ = some y') (h2 : u.cell? ⟨n, 2, none⟩ = some z') :
    (((u.setCell ⟨n, 0, none⟩ x).setCell ⟨n, 1, none⟩ y).setCell ⟨n, 2, none⟩ z).cell? ⟨n, 0, none⟩ = some x ∧ (((u.setCell ⟨n, 0, none⟩ x).setCell ⟨n, 1, none⟩ y).setCell ⟨n, 2, none⟩ z).cell? ⟨n, 1, none⟩ = some y ∧
      (((u.setCell ⟨n, 0, none⟩ x).setCell ⟨n, 1, none⟩ y).setCell ⟨n, 2, none⟩ z).cell? ⟨n, 2, none⟩ = some z := by
  refine ⟨?_, ?_, ?_⟩
  · rw [World.cell?_setCell_other _ _ _ _ (by simp), World.cell?_setCell_other _ _ _ _ (by simp)]
    exact World.cell?_setCell_same _ _ _ h0
  · rw [World.cell?_setCell_other _ _ _ _ (by simp)]
    refine World.cell?_setCell_same _ _ _ (u := y') ?_
    rw [World.cell?_setCell_other _ _ _ _ (by simp)]
    exact h1
  · refine World.cell?_setCell_same _ _ _ (u := z') ?_
    rw [World.cell?_setCell_other _ _ _ _ (by simp), World.cell?_setCell_other _ _ _ _ (by simp)]
    exact h2

set_option maxRecDepth 100000 in
set_option maxHeartbeats 4000000 in
theorem outF_hit (op : ByteArray) (a : Int) (ty : TypeId) (v : Value) (w : World) (hg : Hnd w) :
    Calls Tryz.prog 103 #[.iface 148 (.agg #[.string op, .int .i64 a, .iface ty v])] w
      fun ev w' => ev = .returned (.tuple #[.agg #[.string op, .int .i64 a, .iface ty v], .bool true]) ∧ Below w.heap.size w w' := by
  have hlt := size_of_handle hg
  have hmf : ∀ (fn : Fn) (first cap : Array Value) (w : World), (Instr.makeFunc fn first cap).run Tryz.prog w = .ok (.func fn first cap) w := fun _ _ _ _ => rfl
  have hg2 : Hnd ((w.alloc (.cells #[.string ByteArray.empty, .int .i64 0, .nilIface] 148)).alloc (.cells #[.bool false] 4)) := hg.below (((Below.refl _ _).alloc (Nat.le_refl _) _).alloc (by simp) _)
  have HC := hide (as60_hit op a (.iface ty v) (.string ByteArray.empty) (.int .i64 0) .nilIface w.heap.size _ rfl hg2 (by simp) (by simp) (by simp) (by simp) (by simp) (by simp))
  clear hg hg2
  go_enter_defers Tryz.func103, Tryz.ntmps103
  go_wp2_with (first | (go_at_call 111; refine (HC.out).mono ?_; rintro e w' ⟨rfl, u, hb, rfl⟩; obtain ⟨hc, hf⟩ := bcell hb))
  have hu0 : u.cell? ⟨w.heap.size, 0, none⟩ = some (.string ByteArray.empty) := by rw [hc _ _ (by simp; omega)]; simp
  have hu1 : u.cell? ⟨w.heap.size, 1, none⟩ = some (.int .i64 0) := by rw [hc _ _ (by simp; omega)]; simp
  have hu2 : u.cell? ⟨w.heap.size, 2, none⟩ = some .nilIface := by rw [hc _ _ (by simp; omega)]; simp
  have hu3 : u.cell? ⟨w.heap.size + 1, 0, none⟩ = some (.bool false) := by rw [hc _ _ (by simp)]; simp
  have T := three_cells (x := .string op) (y := .int .i64 a) (z := .iface ty v) hu0 hu1 hu2
  generalize hV : World.setCell _ ⟨w.heap.size + 1, 0, none⟩ (.bool true) = V
  have c0 : V.cell? ⟨w.heap.size, 0, none⟩ = some (.string op) := by rw [← hV, World.cell?_setCell_other _ _ _ _ (by simp)]; exact T.1
  have c1 : V.cell? ⟨w.heap.size, 1, none⟩ = some (.int .i64 a) := by rw [← hV, World.cell?_setCell_other _ _ _ _ (by simp)]; exact T.2.1
  have c2 : V.cell? ⟨w.heap.size, 2, none⟩ = some (.iface ty v) := by rw [← hV, World.cell?_setCell_other _ _ _ _ (by simp)]; exact T.2.2
  have c3 : V.cell? ⟨w.heap.size + 1, 0, none⟩ = some (.bool true) := by
    rw [← hV]
    refine World.cell?_setCell_same _ _ _ (u := .bool false) ?_
    iterate 3 rw [World.cell?_setCell_other _ _ _ _ (by simp)]
    exact hu3
  have g0 : V.frozen? ⟨w.heap.size, 0, none⟩ = false := by rw [← hV]; simp; rw [hf _ _ (by simp; omega)]; simp
  have g1 : V.frozen? ⟨w.heap.size, 1, none⟩ = false := by rw [← hV]; simp; rw [hf _ _ (by simp; omega)]; simp
  have g2 : V.frozen? ⟨w.heap.size, 2, none⟩ = false := by rw [← hV]; simp; rw [hf _ _ (by simp; omega)]; simp
  have g3 : V.frozen? ⟨w.heap.size + 1, 0, none⟩ = false := by rw [← hV]; simp; rw [hf _ _ (by simp)]; simp
  have HB : Below w.heap.size w V := by
    rw [← hV]
    exact ((((((Below.refl _ _).alloc (Nat.le_refl _) _).alloc (by simp) _).trans (hb.mono (by simp; omega))).setCell (by simp) _).setCell (by simp) _ |>.setCell (by simp) _).setCell (by simp) _
  clear hV hc hf hb HC T hu0 hu1 hu2 hu3
  go_region
  go_wp2
  have T2 := three_cells (x := .string op) (y := .int .i64 a) (z := .iface ty v) c0 c1 c2
  generalize hW : World.setCell _ ⟨w.heap.size + 1, 0, none⟩ (.bool true) = X
  have d0 : X.cell? ⟨w.heap.size, 0, none⟩ = some (.string op) := by rw [← hW, World.cell?_setCell_other _ _ _ _ (by simp)]; exact T2.1
  have d1 : X.cell? ⟨w.heap.size, 1, none⟩ = some (.int .i64 a) := by rw [← hW, World.cell?_setCell_other _ _ _ _ (by simp)]; exact T2.2.1
  have d2 : X.cell? ⟨w.heap.size, 2, none⟩ = some (.iface ty v) := by rw [← hW, World.cell?_setCell_other _ _ _ _ (by simp)]; exact T2.2.2
  have d3 : X.cell? ⟨w.heap.size + 1, 0, none⟩ = some (.bool true) := by
    rw [← hW]
    refine World.cell?_setCell_same _ _ _ (u := .bool true) ?_
    iterate 3 rw [World.cell?_setCell_other _ _ _ _ (by simp)]
    exact c3
  have HX : Below w.heap.size w X := by rw [← hW]; exact (((HB.setCell (by simp) _).setCell (by simp) _).setCell (by simp) _).setCell (by simp) _
  clear hW T2 c0 c1 c2 c3 g0 g1 g2 g3 HB
  refine leaves_cons (f := 128) (args := #[.pointer (some ⟨w.heap.size, 0, none⟩), .pointer (some ⟨w.heap.size + 1, 0, none⟩)]) (by simp) (by simp [go_sem]) ?_
  refine (idle37 ⟨w.heap.size, 0, none⟩ ⟨w.heap.size + 1, 0, none⟩ _).mono ?_
  rintro e u' w'' ⟨rfl, rfl, rfl⟩
  simp [Leaves, settle, results, Tryz.results103, go_sem, d0, d1, d2, d3]
  exact HX.drew

theorem as_nil_below (t : Value) (w : World) :
    Calls Tryz.prog 111 #[.nilIface, t] w fun e w' => e = .returned (.bool false) ∧ Below w.heap.size w w' :=
  (as_nil t w).mono fun _ _ ⟨he, hw⟩ => ⟨he, by rw [hw]; exact Below.refl _ _⟩

set_option maxRecDepth 100000 in
set_option maxHeartbeats 4000000 in
theorem outF_code (k : Int) (w : World) (hg : Hnd w) :
    Calls Tryz.prog 103 #[.iface 27 (.int .i64 k)] w
      fun ev w' => ev = .returned (.tuple #[.agg #[.string ByteArray.empty, .int .i64 0, .nilIface], .bool false]) ∧ Below w.heap.size w w' := by
  have hlt := size_of_handle hg
  have hmf : ∀ (fn : Fn) (first cap : Array Value) (w : World), (Instr.makeFunc fn first cap).run Tryz.prog w = .ok (.func fn first cap) w := fun _ _ _ _ => rfl
  have hg2 : Hnd ((w.alloc (.cells #[.string ByteArray.empty, .int .i64 0, .nilIface] 148)).alloc (.cells #[.bool false] 4)) := hg.below (((Below.refl _ _).alloc (Nat.le_refl _) _).alloc (by simp) _)
  have HC := hide (as60_miss32 k w.heap.size _ hg2)
  clear hg hg2
  go_enter_defers Tryz.func103, Tryz.ntmps103
  go_wp2_with (first | (go_at_call 111; refine (HC.out).mono ?_; rintro e w' ⟨rfl, hb⟩; obtain ⟨hc, hf⟩ := bcell hb))
  have hu0 : w'.cell? ⟨w.heap.size, 0, none⟩ = some (.string ByteArray.empty) := by rw [hc _ _ (by simp; omega)]; simp
  have hu1 : w'.cell? ⟨w.heap.size, 1, none⟩ = some (.int .i64 0) := by rw [hc _ _ (by simp; omega)]; simp
  have hu2 : w'.cell? ⟨w.heap.size, 2, none⟩ = some .nilIface := by rw [hc _ _ (by simp; omega)]; simp
  have hu3 : w'.cell? ⟨w.heap.size + 1, 0, none⟩ = some (.bool false) := by rw [hc _ _ (by simp)]; simp
  generalize hV : World.setCell _ ⟨w.heap.size + 1, 0, none⟩ (.bool false) = V
  have c0 : V.cell? ⟨w.heap.size, 0, none⟩ = some (.string ByteArray.empty) := by rw [← hV, World.cell?_setCell_other _ _ _ _ (by simp)]; exact hu0
  have c1 : V.cell? ⟨w.heap.size, 1, none⟩ = some (.int .i64 0) := by rw [← hV, World.cell?_setCell_other _ _ _ _ (by simp)]; exact hu1
  have c2 : V.cell? ⟨w.heap.size, 2, none⟩ = some .nilIface := by rw [← hV, World.cell?_setCell_other _ _ _ _ (by simp)]; exact hu2
  have c3 : V.cell? ⟨w.heap.size + 1, 0, none⟩ = some (.bool false) := by
    rw [← hV]
    exact World.cell?_setCell_same _ _ _ hu3
  have g0 : V.frozen? ⟨w.heap.size, 0, none⟩ = false := by rw [← hV]; simp; rw [hf _ _ (by simp; omega)]; simp
  have g1 : V.frozen? ⟨w.heap.size, 1, none⟩ = false := by rw [← hV]; simp; rw [hf _ _ (by simp; omega)]; simp
  have g2 : V.frozen? ⟨w.heap.size, 2, none⟩ = false := by rw [← hV]; simp; rw [hf _ _ (by simp; omega)]; simp
  have g3 : V.frozen? ⟨w.heap.size + 1, 0, none⟩ = false := by rw [← hV]; simp; rw [hf _ _ (by simp)]; simp
  have HB : Below w.heap.size w V := by
    rw [← hV]
    exact ((((Below.refl _ _).alloc (Nat.le_refl _) _).alloc (by simp) _).trans (hb.mono (by simp; omega))).setCell (by simp) _
  clear hV hc hf hb HC hu0 hu1 hu2 hu3
  go_region
  go_wp2
  have T2 := three_cells (x := .string ByteArray.empty) (y := .int .i64 0) (z := .nilIface) c0 c1 c2
  generalize hW : World.setCell _ ⟨w.heap.size + 1, 0, none⟩ (.bool false) = X
  have d0 : X.cell? ⟨w.heap.size, 0, none⟩ = some (.string ByteArray.empty) := by rw [← hW, World.cell?_setCell_other _ _ _ _ (by simp)]; exact T2.1
  have d1 : X.cell? ⟨w.heap.size, 1, none⟩ = some (.int .i64 0) := by rw [← hW, World.cell?_setCell_other _ _ _ _ (by simp)]; exact T2.2.1
  have d2 : X.cell? ⟨w.heap.size, 2, none⟩ = some (.nilIface) := by rw [← hW, World.cell?_setCell_other _ _ _ _ (by simp)]; exact T2.2.2
  have d3 : X.cell? ⟨w.heap.size + 1, 0, none⟩ = some (.bool false) := by
    rw [← hW]
    refine World.cell?_setCell_same _ _ _ (u := .bool false) ?_
    iterate 3 rw [World.cell?_setCell_other _ _ _ _ (by simp)]
    exact c3
  have HX : Below w.heap.size w X := by rw [← hW]; exact (((HB.setCell (by simp) _).setCell (by simp) _).setCell (by simp) _).setCell (by simp) _
  clear hW T2 c0 c1 c2 c3 g0 g1 g2 g3 HB
  refine leaves_cons (f := 128) (args := #[.pointer (some ⟨w.heap.size, 0, none⟩), .pointer (some ⟨w.heap.size + 1, 0, none⟩)]) (by simp) (by simp [go_sem]) ?_
  refine (idle37 ⟨w.heap.size, 0, none⟩ ⟨w.heap.size + 1, 0, none⟩ _).mono ?_
  rintro e u' w'' ⟨rfl, rfl, rfl⟩
  simp [Leaves, settle, results, Tryz.results103, go_sem, d0, d1, d2, d3]
  exact HX.drew

set_option maxRecDepth 100000 in
set_option maxHeartbeats 4000000 in
theorem outF_nil (w : World) (hg : Hnd w) :
    Calls Tryz.prog 103 #[.nilIface] w
      fun ev w' => ev = .returned (.tuple #[.agg #[.string ByteArray.empty, .int .i64 0, .nilIface], .bool false]) ∧ Below w.heap.size w w' := by
  have hlt := size_of_handle hg
  have hmf : ∀ (fn : Fn) (first cap : Array Value) (w : World), (Instr.makeFunc fn first cap).run Tryz.prog w = .ok (.func fn first cap) w := fun _ _ _ _ => rfl
  have _hg2 : Hnd ((w.alloc (.cells #[.string ByteArray.empty, .int .i64 0, .nilIface] 148)).alloc (.cells #[.bool false] 4)) := hg.below (((Below.refl _ _).alloc (Nat.le_refl _) _).alloc (by simp) _)
  have HC := hide (as_nil_below (.iface 176 (.pointer (some ⟨w.heap.size, 0, none⟩))) ((w.alloc (.cells #[.string ByteArray.empty, .int .i64 0, .nilIface] 148)).alloc (.cells #[.bool false] 4)))
  clear hg _hg2
  go_enter_defers Tryz.func103, Tryz.ntmps103
  go_wp2_with (first | (go_at_call 111; refine (HC.out).mono ?_; rintro e w' ⟨rfl, hb⟩; obtain ⟨hc, hf⟩ := bcell hb))
  have hu0 : w'.cell? ⟨w.heap.size, 0, none⟩ = some (.string ByteArray.empty) := by rw [hc _ _ (by simp; omega)]; simp
  have hu1 : w'.cell? ⟨w.heap.size, 1, none⟩ = some (.int .i64 0) := by rw [hc _ _ (by simp; omega)]; simp
  have hu2 : w'.cell? ⟨w.heap.size, 2, none⟩ = some .nilIface := by rw [hc _ _ (by simp; omega)]; simp
  have hu3 : w'.cell? ⟨w.heap.size + 1, 0, none⟩ = some (.bool false) := by rw [hc _ _ (by simp)]; simp
  generalize hV : World.setCell _ ⟨w.heap.size + 1, 0, none⟩ (.bool false) = V
  have c0 : V.cell? ⟨w.heap.size, 0, none⟩ = some (.string ByteArray.empty) := by rw [← hV, World.cell?_setCell_other _ _ _ _ (by simp)]; exact hu0
  have c1 : V.cell? ⟨w.heap.size, 1, none⟩ = some (.int .i64 0) := by rw [← hV, World.cell?_setCell_other _ _ _ _ (by simp)]; exact hu1
  have c2 : V.cell? ⟨w.heap.size, 2, none⟩ = some .nilIface := by rw [← hV, World.cell?_setCell_other _ _ _ _ (by simp)]; exact hu2
  have c3 : V.cell? ⟨w.heap.size + 1, 0, none⟩ = some (.bool false) := by
    rw [← hV]
    exact World.cell?_setCell_same _ _ _ hu3
  have g0 : V.frozen? ⟨w.heap.size, 0, none⟩ = false := by rw [← hV]; simp; rw [hf _ _ (by simp; omega)]; simp
  have g1 : V.frozen? ⟨w.heap.size, 1, none⟩ = false := by rw [← hV]; simp; rw [hf _ _ (by simp; omega)]; simp
  have g2 : V.frozen? ⟨w.heap.size, 2, none⟩ = false := by rw [← hV]; simp; rw [hf _ _ (by simp; omega)]; simp
  have g3 : V.frozen? ⟨w.heap.size + 1, 0, none⟩ = false := by rw [← hV]; simp; rw [hf _ _ (by simp)]; simp
  have HB : Below w.heap.size w V := by
    rw [← hV]
    exact ((((Below.refl _ _).alloc (Nat.le_refl _) _).alloc (by simp) _).trans (hb.mono (by simp; omega))).setCell (by simp) _
  clear hV hc hf hb HC hu0 hu1 hu2 hu3
  go_region
  go_wp2
  have T2 := three_cells (x := .string ByteArray.empty) (y := .int .i64 0) (z := .nilIface) c0 c1 c2
  generalize hW : World.setCell _ ⟨w.heap.size + 1, 0, none⟩ (.bool false) = X
  have d0 : X.cell? ⟨w.heap.size, 0, none⟩ = some (.string ByteArray.empty) := by rw [← hW, World.cell?_setCell_other _ _ _ _ (by simp)]; exact T2.1
  have d1 : X.cell? ⟨w.heap.size, 1, none⟩ = some (.int .i64 0) := by rw [← hW, World.cell?_setCell_other _ _ _ _ (by simp)]; exact T2.2.1
  have d2 : X.cell? ⟨w.heap.size, 2, none⟩ = some (.nilIface) := by rw [← hW, World.cell?_setCell_other _ _ _ _ (by simp)]; exact T2.2.2
  have d3 : X.cell? ⟨w.heap.size + 1, 0, none⟩ = some (.bool false) := by
    rw [← hW]
    refine World.cell?_setCell_same _ _ _ (u := .bool false) ?_
    iterate 3 rw [World.cell?_setCell_other _ _ _ _ (by simp)]
    exact c3
  have HX : Below w.heap.size w X := by rw [← hW]; exact (((HB.setCell (by simp) _).setCell (by simp) _).setCell (by simp) _).setCell (by simp) _
  clear hW T2 c0 c1 c2 c3 g0 g1 g2 g3 HB
  refine leaves_cons (f := 128) (args := #[.pointer (some ⟨w.heap.size, 0, none⟩), .pointer (some ⟨w.heap.size + 1, 0, none⟩)]) (by simp) (by simp [go_sem]) ?_
  refine (idle37 ⟨w.heap.size, 0, none⟩ ⟨w.heap.size + 1, 0, none⟩ _).mono ?_
  rintro e u' w'' ⟨rfl, rfl, rfl⟩
  simp [Leaves, settle, results, Tryz.results103, go_sem, d0, d1, d2, d3]
  exact HX.drew

set_option maxRecDepth 100000 in
set_option maxHeartbeats 4000000 in
theorem outC_some (l : List (ByteArray × Int)) (k : Int) (w : World) (hg : Hnd w) :
    Calls Tryz.prog 69 #[chn l (bse k)] w
      fun ev w' => ev = .returned (.tuple #[.int .i64 k, .bool true]) ∧ Below w.heap.size w w' := by
  have hlt := size_of_handle hg
  have hmf : ∀ (fn : Fn) (first cap : Array Value) (w : World), (Instr.makeFunc fn first cap).run Tryz.prog w = .ok (.func fn first cap) w := fun _ _ _ _ => rfl
  have hg2 : Hnd ((w.alloc (.cells #[.int .i64 0] 27)).alloc (.cells #[.bool false] 4)) := hg.below (((Below.refl _ _).alloc (Nat.le_refl _) _).alloc (by simp) _)
  have hc := as32_some l k w.heap.size (.int .i64 0) _ hg2 (by simp) (by simp)
  obtain ⟨ty, v, hv⟩ := chn_form l k
  rw [hv] at hc ⊢
  have HC := hide hc
  clear hg hg2 hc hv
  go_enter_defers Tryz.func69, Tryz.ntmps69
  go_wp2_with (first | (go_at_call 111; refine (HC.out).mono ?_; rintro e w' ⟨rfl, u, hb, rfl⟩; obtain ⟨hc, hf⟩ := bcell hb))
  have hu0 : u.cell? ⟨w.heap.size, 0, none⟩ = some (.int .i64 0) := by rw [hc _ _ (by simp; omega)]; simp
  have hu3 : u.cell? ⟨w.heap.size + 1, 0, none⟩ = some (.bool false) := by rw [hc _ _ (by simp)]; simp
  generalize hV : World.setCell _ ⟨w.heap.size + 1, 0, none⟩ (.bool true) = V
  have c0 : V.cell? ⟨w.heap.size, 0, none⟩ = some (.int .i64 k) := by
    rw [← hV, World.cell?_setCell_other _ _ _ _ (by simp)]
    exact World.cell?_setCell_same _ _ _ hu0
  have c3 : V.cell? ⟨w.heap.size + 1, 0, none⟩ = some (.bool true) := by
    rw [← hV]
    refine World.cell?_setCell_same _ _ _ (u := .bool false) ?_
    rw [World.cell?_setCell_other _ _ _ _ (by simp)]
    exact hu3
  have g0 : V.frozen? ⟨w.heap.size, 0, none⟩ = false := by rw [← hV]; simp; rw [hf _ _ (by simp; omega)]; simp
  have g3 : V.frozen? ⟨w.heap.size + 1, 0, none⟩ = false := by rw [← hV]; simp; rw [hf _ _ (by simp)]; simp
  have HB : Below w.heap.size w V := by
    rw [← hV]
    exact (((((Below.refl _ _).alloc (Nat.le_refl _) _).alloc (by simp) _).trans (hb.mono (by simp; omega))).setCell (by simp) _).setCell (by simp) _
  clear hV hc hf hb HC hu0 hu3
  go_region
  go_wp2
  generalize hW : World.setCell _ ⟨w.heap.size + 1, 0, none⟩ (.bool true) = X
  have d0 : X.cell? ⟨w.heap.size, 0, none⟩ = some (.int .i64 k) := by
    rw [← hW, World.cell?_setCell_other _ _ _ _ (by simp)]
    exact World.cell?_setCell_same _ _ _ c0
  have d3 : X.cell? ⟨w.heap.size + 1, 0, none⟩ = some (.bool true) := by
    rw [← hW]
    refine World.cell?_setCell_same _ _ _ (u := .bool true) ?_
    rw [World.cell?_setCell_other _ _ _ _ (by simp)]
    exact c3
  have HX : Below w.heap.size w X := by rw [← hW]; exact (HB.setCell (by simp) _).setCell (by simp) _
  clear hW c0 c3 g0 g3 HB
  refine leaves_cons (f := 110) (args := #[.pointer (some ⟨w.heap.size, 0, none⟩), .pointer (some ⟨w.heap.size + 1, 0, none⟩)]) (by simp) (by simp [go_sem]) ?_
  refine (idle39 ⟨w.heap.size, 0, none⟩ ⟨w.heap.size + 1, 0, none⟩ _).mono ?_
  rintro e u' w'' ⟨rfl, rfl, rfl⟩
  simp [Leaves, settle, results, Tryz.results69, go_sem, d0, d3]
  exact HX.drew

end Go.Proofs.YtgbcjmpnkejpeaaGreatDoor
namespace Go.Proofs.YtgbcjmpnkejpeaaGreatDoor
open Go.RowKit Go.Extern.Stop Go.Stop Go.Extern

theorem new_any (op : ByteArray) (a c : Int) (w : World) :
    Calls Tryz.prog 62 #[.string op, .int .i64 a, .int .i64 c] w fun e w' => e = .returned (.iface 148 (.agg #[.string op, .int .i64 a, .iface 27 (.int .i64 c)])) ∧ w' = w := by
  go_enter Tryz.func62, Tryz.ntmps62
  go_wp2
  go_ret
  exact ⟨rfl, rfl⟩
theorem wrap_nil (op : ByteArray) (a : Int) (w : World) :
    Calls Tryz.prog 63 #[.string op, .int .i64 a, .nilIface] w fun e w' => e = .returned .nilIface ∧ w' = w := by
  go_enter Tryz.func63, Tryz.ntmps63
  go_wp2
  go_ret
  exact ⟨rfl, rfl⟩
theorem wrap_some (op : ByteArray) (a : Int) (t : TypeId) (v : Value) (w : World) :
    Calls Tryz.prog 63 #[.string op, .int .i64 a, .iface t v] w fun e w' => e = .returned (.iface 148 (.agg #[.string op, .int .i64 a, .iface t v])) ∧ w' = w := by
  go_enter Tryz.func63, Tryz.ntmps63
  go_wp2
  go_ret
  exact ⟨rfl, rfl⟩

/-- An error as a law makes it: none, or the steps and the Code. -/
def ev (x : Option (List (ByteArray × Int) × Int)) : Value := match x with
  | none => .nilIface
  | some (l, c) => chn l (bse c)
def ofV (x : Option (List (ByteArray × Int) × Int)) : Int := match x with
  | none => 0
  | some (_, k) => k
def isV (x : Option (List (ByteArray × Int) × Int)) (q : Int) : Bool := match x with
  | none => false
  | some (_, c) => isB c q
def stV (x : Option (List (ByteArray × Int) × Int)) : List (ByteArray × Int) := match x with
  | none => []
  | some (l, _) => l
def atV (l : List (ByteArray × Int)) : Int := match l with
  | [] => 0
  | s :: _ => s.2
def inV (l : List (ByteArray × Int)) : Bool := match l with
  | [] => false
  | _ :: _ => true
def agV (x : Option (List (ByteArray × Int) × Int)) : Option (List (ByteArray × Int) × Int) := match x with
  | none => none
  | some (l, c) => some (l.tail, c)
def boV (x y : Option (List (ByteArray × Int) × Int)) : Option (List (ByteArray × Int) × Int) := match x, y with
  | none, y => y
  | x, none => x
  | some (l, c), some y => some ((⟨#[98, 111, 116, 104]⟩, ofV (some y)) :: l, c)

theorem of_nil (w : World) : Calls Tryz.prog 34 #[.nilIface] w fun e w' => e = .returned (.int .i64 0) ∧ Below w.heap.size w w' := by
  go_enter Tryz.func34, Tryz.ntmps34
  go_wp2
  go_ret
  exact ⟨rfl, Below.refl _ _⟩
set_option maxHeartbeats 4000000 in
theorem of_chn (l : List (ByteArray × Int)) (c : Int) (w : World) (hg : Hnd w) :
    Calls Tryz.prog 34 #[chn l (bse c)] w fun e w' => e = .returned (.int .i64 (ofV (some (l, c)))) ∧ Below w.heap.size w w' := by
  obtain ⟨ty, v, hv⟩ := chn_form l c
  have hc := outC_some l c w hg
  rw [hv] at hc ⊢
  have HC := hide hc
  clear hc hv hg
  go_enter Tryz.func34, Tryz.ntmps34
  go_wp2_with (first | (go_at_call 69; refine (HC.out).mono ?_; rintro e w' ⟨rfl, hb⟩))
  go_ret
  exact ⟨rfl, hb⟩
theorem of_ev (x : Option (List (ByteArray × Int) × Int)) (w : World) (hg : Hnd w) :
    Calls Tryz.prog 34 #[ev x] w fun e w' => e = .returned (.int .i64 (ofV x)) ∧ Below w.heap.size w w' := by
  rcases x with _ | ⟨l, c⟩
  · exact of_nil w
  · exact of_chn l c w hg
theorem is_ev (x : Option (List (ByteArray × Int) × Int)) (q : Int) (w : World) :
    Calls Tryz.prog 42 #[ev x, .int .i64 q] w fun e w' => e = .returned (.bool (isV x q)) ∧ Below w.heap.size w w' := by
  rcases x with _ | ⟨l, c⟩
  · exact is_nil q w
  · exact is_chn l c q w

/-- The outermost Fault, at every error. -/
theorem out_miss (x : Option (List (ByteArray × Int) × Int)) (hx : stV x = []) (w : World) (hg : Hnd w) :
    Calls Tryz.prog 103 #[ev x] w fun ev w' => ev = .returned (.tuple #[.agg #[.string ByteArray.empty, .int .i64 0, .nilIface], .bool false]) ∧ Below w.heap.size w w' := by
  rcases x with _ | ⟨l, c⟩
  · exact outF_nil w hg
  · obtain rfl : l = [] := hx
    exact outF_code c w hg

set_option maxHeartbeats 4000000 in
theorem where_ev (x : Option (List (ByteArray × Int) × Int)) (w : World) (hg : Hnd w) :
    Calls Tryz.prog 59 #[ev x] w fun e w' => e = .returned (.tuple #[.int .i64 (atV (stV x)), .bool (inV (stV x))]) ∧ Below w.heap.size w w' := by
  by_cases hx : stV x = []
  · have HC := hide (out_miss x hx w hg)
    rw [hx]
    clear hx hg
    go_enter Tryz.func59, Tryz.ntmps59
    go_wp2_with (first | (go_at_call 103; refine (HC.out).mono ?_; rintro e w' ⟨rfl, hb⟩; have hz := hb.size))
    go_ret2
    exact ⟨rfl, hb.alloc hz _⟩
  · rcases x with _ | ⟨_ | ⟨s, l⟩, c⟩
    · exact absurd rfl hx
    · exact absurd rfl hx
    · clear hx
      simp only [ev, chn, stV, atV, inV]
      obtain ⟨ty, v, hv⟩ := chn_form l c
      rw [hv]
      clear hv
      have HC := hide (outF_hit s.1 s.2 ty v w hg)
      clear hg
      go_enter Tryz.func59, Tryz.ntmps59
      go_wp2_with (first | (go_at_call 103; refine (HC.out).mono ?_; rintro e w' ⟨rfl, hb⟩; have hz := hb.size))
      go_ret2
      exact ⟨rfl, hb.alloc hz _⟩


end Go.Proofs.YtgbcjmpnkejpeaaGreatDoor
namespace Go.Proofs.YtgbcjmpnkejpeaaGreatDoor
open Go.RowKit

/-- All that was there stays, but for block p. -/
structure Bx (p : Nat) (w w' : World) : Prop where
  os : w'.os = w.os
  tape : w'.tape = w.tape
  output : w'.output = w.output
  size : w.heap.size ≤ w'.heap.size
  block : ∀ k, k < w.heap.size → k ≠ p → w'.heap[k]? = w.heap[k]?
theorem Bx.refl (p : Nat) (w : World) : Bx p w w := ⟨rfl, rfl, rfl, Nat.le_refl _, fun _ _ _ => rfl⟩
theorem Bx.trans {p : Nat} {a b c : World} (h : Bx p a b) (k : Bx p b c) : Bx p a c :=
  ⟨k.os.trans h.os, k.tape.trans h.tape, k.output.trans h.output, Nat.le_trans h.size k.size, fun i hi hp => (k.block i (Nat.lt_of_lt_of_le hi h.size) hp).trans (h.block i hi hp)⟩
theorem Bx.call {p : Nat} {a b c : World} (h : Bx p a b) (k : Below b.heap.size b c) : Bx p a c :=
  ⟨k.os.trans h.os, k.tape.trans h.tape, k.output.trans h.output, Nat.le_trans h.size k.size, fun i hi hp => (k.block i (Nat.lt_of_lt_of_le hi h.size)).trans (h.block i hi hp)⟩
theorem Bx.of {p : Nat} {a b : World} (k : Below a.heap.size a b) : Bx p a b := (Bx.refl p a).call k
theorem Bx.drewN {p : Nat} {a b : World} (h : Bx p a b) (n : Nat) : Bx p a (b.drewN n) := h.call (below_drewN (Below.refl _ _) n)
theorem Bx.set {p : Nat} {a b : World} (h : Bx p a b) (i : Nat) (x : Value) : Bx p a (b.setCell ⟨p, i, none⟩ x) :=
  h.trans ⟨rfl, rfl, rfl, by simp [World.setCell], fun _ _ hp => Below.heap_setCell _ _ _ _ (fun e => hp (by simp [e]))⟩
theorem Bx.below {p : Nat} {w w' : World} (h : Bx p w w') (hp : p ≤ w.heap.size) : Below p w w' := ⟨h.os, h.tape, h.output, h.size, fun k hk => h.block k (by omega) (by omega)⟩
theorem Bx.cell {p : Nat} {w w' : World} (h : Bx p w w') {b i : Nat} (hb : b < w.heap.size) (hp : b ≠ p) : w'.cell? ⟨b, i, none⟩ = w.cell? ⟨b, i, none⟩ := World.cell?_of_block (h.block b hb hp)
theorem Bx.frozen {p : Nat} {w w' : World} (h : Bx p w w') {b i : Nat} (hb : b < w.heap.size) (hp : b ≠ p) : w'.frozen? ⟨b, i, none⟩ = w.frozen? ⟨b, i, none⟩ := World.frozen?_of_block (h.block b hb hp)

/-- A reader's three cells at block p. -/
structure Rd (W : World) (p : Nat) (v : Value) (a : Int) (e : Value) : Prop where
  c0 : W.cell? ⟨p, 0, none⟩ = some v
  c1 : W.cell? ⟨p, 1, none⟩ = some (.int .i64 a)
  c2 : W.cell? ⟨p, 2, none⟩ = some e
  fz : ∀ i, W.frozen? ⟨p, i, none⟩ = false
theorem Rd.below {W W' : World} {p : Nat} {v : Value} {a : Int} {e : Value} (h : Rd W p v a e) (hb : Below W.heap.size W W') : Rd W' p v a e :=
  have hl := cell_block h.c0
  ⟨(hb.cell (p := ⟨p, 0, none⟩) hl).trans h.c0, (hb.cell (p := ⟨p, 1, none⟩) hl).trans h.c1, (hb.cell (p := ⟨p, 2, none⟩) hl).trans h.c2, fun i => (hb.frozen (p := ⟨p, i, none⟩) hl).trans (h.fz i)⟩
theorem Rd.lt {W : World} {p : Nat} {v : Value} {a : Int} {e : Value} (h : Rd W p v a e) : p < W.heap.size := cell_block h.c0
theorem Rd.seta {W : World} {p : Nat} {v : Value} {a : Int} {e : Value} (h : Rd W p v a e) (a' : Int) : Rd (W.setCell ⟨p, 1, none⟩ (.int .i64 a')) p v a' e :=
  ⟨by rw [World.cell?_setCell_other _ _ _ _ (by simp)]; exact h.c0, World.cell?_setCell_same _ _ _ h.c1, by rw [World.cell?_setCell_other _ _ _ _ (by simp)]; exact h.c2, fun i => by simp [h.fz i]⟩
theorem Rd.sete {W : World} {p : Nat} {v : Value} {a : Int} {e : Value} (h : Rd W p v a e) (e' : Value) : Rd (W.setCell ⟨p, 2, none⟩ e') p v a e' :=
  ⟨by rw [World.cell?_setCell_other _ _ _ _ (by simp)]; exact h.c0, by rw [World.cell?_setCell_other _ _ _ _ (by simp)]; exact h.c1, World.cell?_setCell_same _ _ _ h.c2, fun i => by simp [h.fz i]⟩
theorem Rd.drewN {W : World} {p : Nat} {v : Value} {a : Int} {e : Value} (h : Rd W p v a e) (n : Nat) : Rd (W.drewN n) p v a e := ⟨h.c0, h.c1, h.c2, h.fz⟩

theorem read_any (ao : Option Addr) (L cap : Nat) (w : World) : Calls Tryz.prog 10 #[.slice ao L cap] w fun e w' => e = .returned (.pointer (some ⟨w.heap.size, 0, none⟩)) ∧ Rd w' w.heap.size (.slice ao L cap) 0 .nilIface ∧ Below w.heap.size w w' := by
  go_enter Tryz.func10, Tryz.ntmps10
  go_wp2
  go_ret
  exact ⟨rfl, ⟨by simp, by simp, by simp, fun i => World.frozen?_alloc_at _ _ _ _ rfl⟩, (Below.refl _ _).alloc (Nat.le_refl _) _⟩
theorem at_any (p : Nat) (v : Value) (a : Int) (e : Value) (w : World) (hr : Rd w p v a e) : Calls Tryz.prog 14 #[.pointer (some ⟨p, 0, none⟩)] w fun x w' => x = .returned (.int .i64 a) ∧ w' = w := by
  obtain ⟨c0, c1, c2, fz⟩ := hr
  go_enter Tryz.func14, Tryz.ntmps14
  go_wp2
  go_ret
  exact ⟨rfl, rfl⟩
theorem err_any (p : Nat) (v : Value) (a : Int) (e : Value) (w : World) (hr : Rd w p v a e) : Calls Tryz.prog 35 #[.pointer (some ⟨p, 0, none⟩)] w fun x w' => x = .returned e ∧ w' = w := by
  obtain ⟨c0, c1, c2, fz⟩ := hr
  go_enter Tryz.func35, Tryz.ntmps35
  go_wp2
  go_ret
  exact ⟨rfl, rfl⟩
/-- Something wrong, as fault.New makes it. -/
def ft (op : ByteArray) (a c : Int) : Value := .iface 148 (.agg #[.string op, .int .i64 a, .iface 27 (.int .i64 c)])
theorem ft_ev (op : ByteArray) (a c : Int) : ft op a c = ev (some ([(op, a)], c)) := rfl
theorem refuse_none (p : Nat) (v : Value) (a : Int) (op : ByteArray) (c : Int) (w : World) (hr : Rd w p v a .nilIface) :
    Calls Tryz.prog 48 #[.pointer (some ⟨p, 0, none⟩), .string op, .int .i64 c] w fun x w' => x = .returned (.tuple #[]) ∧ w' = w.setCell ⟨p, 2, none⟩ (ft op a c) := by
  obtain ⟨c0, c1, c2, fz⟩ := hr
  have f2 := fz 2
  go_enter Tryz.func48, Tryz.ntmps48
  go_wp2_with (first | (go_at_call 62; refine (new_any _ _ _ _).mono ?_; rintro e w' ⟨rfl, rfl⟩))
  exact bodyPost_end (v := .tuple #[]) (by simp [results, Tryz.results48]) rfl ⟨rfl, rfl⟩
theorem refuse_some (p : Nat) (v : Value) (a : Int) (t : TypeId) (u : Value) (op : ByteArray) (c : Int) (w : World) (hr : Rd w p v a (.iface t u)) :
    Calls Tryz.prog 48 #[.pointer (some ⟨p, 0, none⟩), .string op, .int .i64 c] w fun x w' => x = .returned (.tuple #[]) ∧ w' = w := by
  obtain ⟨c0, c1, c2, fz⟩ := hr
  go_enter Tryz.func48, Tryz.ntmps48
  go_wp2
  exact bodyPost_end (v := .tuple #[]) (by simp [results, Tryz.results48]) rfl ⟨rfl, rfl⟩
theorem rnum_err (p : Nat) (v : Value) (a most : Int) (t : TypeId) (u : Value) (w : World) (hr : Rd w p v a (.iface t u)) :
    Calls Tryz.prog 91 #[.pointer (some ⟨p, 0, none⟩), .int .u64 most] w fun x w' => x = .returned (.int .u64 0) ∧ w' = w := by
  obtain ⟨c0, c1, c2, fz⟩ := hr
  go_enter Tryz.func91, Tryz.ntmps91
  go_wp2
  go_ret
  exact ⟨rfl, rfl⟩
set_option maxRecDepth 100000 in
set_option maxHeartbeats 4000000 in
theorem rnum_none (p : Nat) (ao : Option Addr) (L cap : Nat) (most : Int) (w : World) (hr : Rd w p (.slice ao L cap) L .nilIface) (hL : L ≤ 100000) (hc : L ≤ cap) :
    Calls Tryz.prog 91 #[.pointer (some ⟨p, 0, none⟩), .int .u64 most] w fun x w' => x = .returned (.int .u64 0) ∧ Rd w' p (.slice ao L cap) L (ft ⟨#[110, 117, 109]⟩ L 3) ∧ Bx p w w' := by
  by_cases hcl : cap = L
  · subst hcl
    obtain ⟨c0, c1, c2, fz⟩ := id hr
    have HR := hide hr
    clear hr fz
    go_enter Tryz.func91, Tryz.ntmps91
    go_wp2_with fail
    go_quiet (fail)
    go_wp2_with (first | (go_at_call 118; refine (announced_none _ _ _).mono ?_; rintro e w' ⟨rfl, rfl⟩) | (go_at_call 48; refine (refuse_none p _ _ _ _ _ (HR.out.drewN _)).mono ?_; rintro e w' ⟨rfl, rfl⟩))
    go_ret
    exact ⟨rfl, (HR.out.drewN _).sete _, ((Bx.refl p w).drewN _).set _ _⟩
  · obtain ⟨c0, c1, c2, fz⟩ := id hr
    have HR := hide hr
    clear hr fz
    go_enter Tryz.func91, Tryz.ntmps91
    go_wp2_with fail
    go_quiet (fail)
    go_wp2_with (first | (go_at_call 118; refine (announced_none _ _ _).mono ?_; rintro e w' ⟨rfl, rfl⟩) | (go_at_call 48; refine (refuse_none p _ _ _ _ _ (HR.out.drewN _)).mono ?_; rintro e w' ⟨rfl, rfl⟩))
    go_ret
    exact ⟨rfl, (HR.out.drewN _).sete _, ((Bx.refl p w).drewN _).set _ _⟩
set_option maxRecDepth 100000 in
set_option maxHeartbeats 4000000 in
theorem rnum_short (p b o L cap a : Nat) (most K : Int) (w : World) (hr : Rd w p (.slice (some ⟨b, o, none⟩) L cap) a .nilIface) (_hL : L ≤ 100000) (hc : L ≤ cap) (ha : a < L) (hk : ((L - a : Nat) : Int) < K)
    (HA : Hid (∀ n, Calls Tryz.prog 118 #[.slice (some ⟨b, o + a, none⟩) (L - a) (cap - a)] (w.drewN n) fun e w' => e = .returned (.int .i64 K) ∧ w' = w.drewN n)) :
    Calls Tryz.prog 91 #[.pointer (some ⟨p, 0, none⟩), .int .u64 most] w fun x w' => x = .returned (.int .u64 0) ∧ Rd w' p (.slice (some ⟨b, o, none⟩) L cap) a (ft ⟨#[110, 117, 109]⟩ a 3) ∧ Bx p w w' := by
  obtain ⟨c0, c1, c2, fz⟩ := id hr
  have HR := hide hr
  have hne : ¬ cap = a := by omega
  clear hr fz
  go_enter Tryz.func91, Tryz.ntmps91
  go_wp2_with fail
  go_quiet (fail)
  go_wp2_with (first | (go_at_call 118; refine (HA.out _).mono ?_; rintro e w' ⟨rfl, rfl⟩) | (go_at_call 48; refine (refuse_none p _ _ _ _ _ (HR.out.drewN _)).mono ?_; rintro e w' ⟨rfl, rfl⟩))
  go_ret
  exact ⟨rfl, (HR.out.drewN _).sete _, ((Bx.refl p w).drewN _).set _ _⟩
set_option maxRecDepth 100000 in
set_option maxHeartbeats 4000000 in
theorem rnum_kind (p b o L cap a : Nat) (most K N S : Int) (w : World) (hr : Rd w p (.slice (some ⟨b, o, none⟩) L cap) a .nilIface) (_hL : L ≤ 100000) (hc : L ≤ cap) (ha : a < L) (k0 : 0 ≤ K) (hk : K ≤ ((L - a : Nat) : Int)) (hs : S < K)
    (HA : Hid (∀ n, Calls Tryz.prog 118 #[.slice (some ⟨b, o + a, none⟩) (L - a) (cap - a)] (w.drewN n) fun e w' => e = .returned (.int .i64 K) ∧ w' = w.drewN n))
    (HN : Hid (∀ n, Calls Tryz.prog 119 #[.slice (some ⟨b, o + a, none⟩) K.toNat (cap - a)] (w.drewN n) fun e w' => e = .returned (.int .u64 N) ∧ Below w.heap.size (w.drewN n) w'))
    (HS : Hid (∀ W, Calls Tryz.prog 112 #[.int .u64 N] W fun e w' => e = .returned (.int .i64 S) ∧ w' = W)) :
    Calls Tryz.prog 91 #[.pointer (some ⟨p, 0, none⟩), .int .u64 most] w fun x w' => x = .returned (.int .u64 0) ∧ Rd w' p (.slice (some ⟨b, o, none⟩) L cap) a (ft ⟨#[110, 117, 109]⟩ a 5) ∧ Bx p w w' := by
  obtain ⟨c0, c1, c2, fz⟩ := id hr
  have HR := hide hr
  have hne : ¬ cap = a := by omega
  clear hr fz
  go_enter Tryz.func91, Tryz.ntmps91
  go_wp2_with fail
  go_quiet (fail)
  go_wp2_with (first | (go_at_call 118; refine (HA.out _).mono ?_; rintro e w' ⟨rfl, rfl⟩) | (go_at_call 119; refine (HN.out _).mono ?_; rintro e w' ⟨rfl, hb⟩; have hr' := (HR.out.drewN _).below hb; obtain ⟨d0, d1, d2, fz'⟩ := id hr'; have f1 := fz' 1; clear fz'; have HR' := hide hr'; clear hr'; have HB' := hide hb; clear hb) | (go_at_call 112; refine (HS.out _).mono ?_; rintro e w' ⟨rfl, rfl⟩) | (go_at_call 48; refine (refuse_none p _ _ _ _ _ HR'.out).mono ?_; rintro e w' ⟨rfl, rfl⟩))
  go_ret
  exact ⟨rfl, HR'.out.sete _, (((Bx.refl p w).drewN _).call HB'.out).set _ _⟩
set_option maxRecDepth 100000 in
set_option maxHeartbeats 4000000 in
theorem rnum_limit (p b o L cap a : Nat) (most K N S : Int) (w : World) (hr : Rd w p (.slice (some ⟨b, o, none⟩) L cap) a .nilIface) (_hL : L ≤ 100000) (hc : L ≤ cap) (ha : a < L) (k0 : 0 ≤ K) (hk : K ≤ ((L - a : Nat) : Int)) (hs : ¬ S < K) (hm : most < N)
    (HA : Hid (∀ n, Calls Tryz.prog 118 #[.slice (some ⟨b, o + a, none⟩) (L - a) (cap - a)] (w.drewN n) fun e w' => e = .returned (.int .i64 K) ∧ w' = w.drewN n))
    (HN : Hid (∀ n, Calls Tryz.prog 119 #[.slice (some ⟨b, o + a, none⟩) K.toNat (cap - a)] (w.drewN n) fun e w' => e = .returned (.int .u64 N) ∧ Below w.heap.size (w.drewN n) w'))
    (HS : Hid (∀ W, Calls Tryz.prog 112 #[.int .u64 N] W fun e w' => e = .returned (.int .i64 S) ∧ w' = W)) :
    Calls Tryz.prog 91 #[.pointer (some ⟨p, 0, none⟩), .int .u64 most] w fun x w' => x = .returned (.int .u64 0) ∧ Rd w' p (.slice (some ⟨b, o, none⟩) L cap) a (ft ⟨#[110, 117, 109]⟩ a 6) ∧ Bx p w w' := by
  obtain ⟨c0, c1, c2, fz⟩ := id hr
  have HR := hide hr
  have hne : ¬ cap = a := by omega
  clear hr fz
  go_enter Tryz.func91, Tryz.ntmps91
  go_wp2_with fail
  go_quiet (fail)
  go_wp2_with (first | (go_at_call 118; refine (HA.out _).mono ?_; rintro e w' ⟨rfl, rfl⟩) | (go_at_call 119; refine (HN.out _).mono ?_; rintro e w' ⟨rfl, hb⟩; have hr' := (HR.out.drewN _).below hb; obtain ⟨d0, d1, d2, fz'⟩ := id hr'; have f1 := fz' 1; clear fz'; have HR' := hide hr'; clear hr'; have HB' := hide hb; clear hb) | (go_at_call 112; refine (HS.out _).mono ?_; rintro e w' ⟨rfl, rfl⟩) | (go_at_call 48; refine (refuse_none p _ _ _ _ _ HR'.out).mono ?_; rintro e w' ⟨rfl, rfl⟩))
  go_ret
  exact ⟨rfl, HR'.out.sete _, (((Bx.refl p w).drewN _).call HB'.out).set _ _⟩
set_option maxRecDepth 100000 in
set_option maxHeartbeats 4000000 in
theorem rnum_ok (p b o L cap a : Nat) (most K N S : Int) (w : World) (hr : Rd w p (.slice (some ⟨b, o, none⟩) L cap) a .nilIface) (hL : L ≤ 100000) (hc : L ≤ cap) (ha : a < L) (k0 : 0 ≤ K) (hk : K ≤ ((L - a : Nat) : Int)) (hs : ¬ S < K) (hm : ¬ most < N)
    (HA : Hid (∀ n, Calls Tryz.prog 118 #[.slice (some ⟨b, o + a, none⟩) (L - a) (cap - a)] (w.drewN n) fun e w' => e = .returned (.int .i64 K) ∧ w' = w.drewN n))
    (HN : Hid (∀ n, Calls Tryz.prog 119 #[.slice (some ⟨b, o + a, none⟩) K.toNat (cap - a)] (w.drewN n) fun e w' => e = .returned (.int .u64 N) ∧ Below w.heap.size (w.drewN n) w'))
    (HS : Hid (∀ W, Calls Tryz.prog 112 #[.int .u64 N] W fun e w' => e = .returned (.int .i64 S) ∧ w' = W)) :
    Calls Tryz.prog 91 #[.pointer (some ⟨p, 0, none⟩), .int .u64 most] w fun x w' => x = .returned (.int .u64 N) ∧ Rd w' p (.slice (some ⟨b, o, none⟩) L cap) (a + K) .nilIface ∧ Bx p w w' := by
  obtain ⟨c0, c1, c2, fz⟩ := id hr
  have HR := hide hr
  have hne : ¬ cap = a := by omega
  clear hr fz
  go_enter Tryz.func91, Tryz.ntmps91
  go_wp2_with fail
  go_quiet (fail)
  go_wp2_with (first | (go_at_call 118; refine (HA.out _).mono ?_; rintro e w' ⟨rfl, rfl⟩) | (go_at_call 119; refine (HN.out _).mono ?_; rintro e w' ⟨rfl, hb⟩; have hr' := (HR.out.drewN _).below hb; obtain ⟨d0, d1, d2, fz'⟩ := id hr'; have f1 := fz' 1; clear fz'; have HR' := hide hr'; clear hr'; have HB' := hide hb; clear hb) | (go_at_call 112; refine (HS.out _).mono ?_; rintro e w' ⟨rfl, rfl⟩))
  go_ret
  exact ⟨rfl, HR'.out.seta _, (((Bx.refl p w).drewN _).call HB'.out).set _ _⟩
end Go.Proofs.YtgbcjmpnkejpeaaGreatDoor
