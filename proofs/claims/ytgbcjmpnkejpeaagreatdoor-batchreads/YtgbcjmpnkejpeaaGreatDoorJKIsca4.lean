/-
  errors.Is AT A TARGET OF TYPE Code, and fault.Is over it: a chain of Faults is the Code that it ends in, and no other; nil is none. No condition.
  fault.outermost AT THE TYPES Fault AND Code: the outermost Fault of a chain; the Code that a chain ends in; the zero value and false where there is none. Condition: errors.errorType holds the handle of the type error.
  THE FRAME OF THE LAWS' PROOFS: what the listed variable's condition gives a walk, a world that meets it, and a slice of numbers that comes in, opened: they lie in its cells. No condition of its own.
  fault.New, Wrap, Of, Where, Again AND Both, at every error that a law makes: nil, or a chain of Faults about a Code or about what errors.New made. Condition: errors.errorType holds the handle of the type error.
-/
import Derived.Test.YtgbcjmpnkejpeaaGreatDoorJKAsBc
import Derived.Defers
import Derived.Recover
import Derived.Test.YtgbcjmpnkejpeaaGreatDoorCards
import Derived.Test.YtgbcjmpnkejpeaaGreatDoorTie
import Derived.ProofKit
import Derived.OpenShut
import Derived.ShutString
import Derived.ChangeOld
import Derived.LaidHandle
import Derived.Lib.SmallJoins
import Derived.Deep.Slices
import Derived.Deep.DeepHandedRow
namespace Go.Proofs.YtgbcjmpnkejpeaaGreatDoor
open Go.RowKit Go.Extern.Stop Go.Stop Go.Extern

theorem eql6032 (x y : Value) (w : World) : (binOp .eql 41 (.iface 148 x) (.iface 27 y)).run Tryz.prog w = .ok (.bool false) w := run_eql_iface_types 148 27 x y Tryz.underlying41 (by decide) w
theorem eql3232 (a b : Int) (w : World) : (binOp .eql 41 (.iface 27 (.int .i64 a)) (.iface 27 (.int .i64 b))).run Tryz.prog w = .ok (.bool (a == b)) w := by kernel_rfl
theorem eqlNil32 (y : Value) (w : World) : (binOp .eql 41 .nilIface (.iface 27 y)).run Tryz.prog w = .ok (.bool false) w := by kernel_rfl

theorem comparableM (w : World) : (ReflectliteType.method (fun t => do Rtype.noPackHeld "Comparable" t; (fun a : TypeInfo => Value.bool a.comparable) <$> typeInfo t) #[.agg #[.pointer (some ⟨1, 27, none⟩)]]).run Tryz.prog w = .ok (.bool true) w := by kernel_rfl

/-- Is the innermost error that Code? -/
def isB (c q : Int) : Bool := c == q

set_option maxRecDepth 100000 in
set_option maxHeartbeats 4000000 in
theorem is35 (l : List (ByteArray × Int)) (c : Int) (q : Int) (w : World) :
    Calls Tryz.prog 115 #[chn l (bse c), .iface 27 (.int .i64 q), .bool true] w
      fun ev w' => ev = .returned (.bool (isB c q)) ∧ Below w.heap.size w w' := by
  have m5 := mUnwrap
  have a1 := noIs60
  have a2 := unwraps60
  have c1 := noIs32
  have c2 := noUnwrap32
  have c3 := noUnwraps32
  have e1 := eql6032
  have e3 := eql3232
  go_enter Tryz.func115, Tryz.ntmps115
  go_wp2
  go_loopw [0] (fun e W => ∃ l : List (ByteArray × Int), e = chn l (bse c) ∧ Below w.heap.size w W ∧ w.heap.size ≤ W.heap.size) (fun e _ => SizeOf.sizeOf e)
  case atStart => exact ⟨l, rfl, Below.refl _ _, by simp⟩
  case round =>
    obtain ⟨l', he, hb, hs⟩ := hrel
    rcases l' with _ | ⟨s, _ | ⟨s', l'⟩⟩
    · simp only [chn, bse] at he
      subst he
      rcases Bool.eq_false_or_eq_true (c == q) with hq | hq
      · go_wp2
        go_ret
        exact ⟨by simp only [isB, hq]; rfl, hb⟩
      · go_wp2
        go_ret
        exact ⟨by simp only [isB, hq]; rfl, hb⟩
    · simp only [chn] at he
      obtain ⟨ty, v, hv⟩ := chn_form [] c
      have HV : Hid (chn [] (bse c) = .iface ty v) := hv
      simp only [chn] at hv
      rw [hv] at he
      subst he
      clear hv
      go_wp2
      go_roundw
      case rel => exact ⟨[], HV.out.symm, hb.alloc hs _, by simp; omega⟩
      case measure => exact size_inner _ _ _
    · simp only [chn] at he
      subst he
      go_wp2
      go_roundw
      case rel => exact ⟨s' :: l', rfl, hb.alloc hs _, by simp; omega⟩
      case measure => exact size_inner _ _ _

theorem eis_nil (q : Int) (w : World) :
    Calls Tryz.prog 87 #[.nilIface, .iface 27 (.int .i64 q)] w fun ev w' => ev = .returned (.bool false) ∧ w' = w := by
  have e1 := eqlNil32
  go_enter Tryz.func87, Tryz.ntmps87
  go_wp2
  go_ret
  exact ⟨rfl, rfl⟩

set_option maxRecDepth 100000 in
set_option maxHeartbeats 4000000 in
theorem eis_chn (l : List (ByteArray × Int)) (c : Int) (q : Int) (w : World) :
    Calls Tryz.prog 87 #[chn l (bse c), .iface 27 (.int .i64 q)] w
      fun ev w' => ev = .returned (.bool (isB c q)) ∧ Below w.heap.size w w' := by
  have h34 := h34
  have h69 := h69
  have f1 := typeOf32
  have f2 := mComparable
  have f3 := comparableM
  have hc := is35 l c q w
  obtain ⟨ty, v, hv⟩ := chn_form l c
  rw [hv] at hc ⊢
  have HC := hide hc
  clear hc hv
  go_enter Tryz.func87, Tryz.ntmps87
  go_wp2_with (first | (go_at_call 115; refine (HC.out).mono ?_; rintro e w' ⟨rfl, hb⟩))
  go_ret
  exact ⟨rfl, hb⟩

theorem idle29 (p : Addr) (w : World) :
    CallsD Tryz.prog 86 #[.pointer (some p)] .returning w fun e u' w' => e = .returned (.tuple #[]) ∧ u' = .returning ∧ w' = w := by
  refine callsD_of_wpS Tryz.func86 rfl fun c₀ cs hu => ?_
  apply wpS_seq
  apply wpS_region
  simp [wpOpsS, go_sem, recoverD, hu, Tryz.ntmps86, Exit.thenS]
  refine wpS_cond (t := false) (by simp [Act.eval, Array.replicate]) ?_
  simp only [Bool.false_eq_true, if_false]
  refine wpS_of_wp (wp_skip ?_)
  cases c₀
  simp_all [bodyPostS, results, Tryz.results86]
theorem idle37 (p q : Addr) (w : World) :
    CallsD Tryz.prog 128 #[.pointer (some p), .pointer (some q)] .returning w fun e u' w' => e = .returned (.tuple #[]) ∧ u' = .returning ∧ w' = w := by
  refine callsD_of_wpS Tryz.func128 rfl fun c₀ cs hu => ?_
  apply wpS_seq
  apply wpS_region
  simp [wpOpsS, go_sem, recoverD, hu, Tryz.ntmps128, Exit.thenS]
  refine wpS_cond (t := false) (by simp [Act.eval, Array.replicate]) ?_
  simp only [Bool.false_eq_true, if_false]
  refine wpS_of_wp (wp_skip ?_)
  cases c₀
  simp_all [bodyPostS, results, Tryz.results128]
theorem idle39 (p q : Addr) (w : World) :
    CallsD Tryz.prog 110 #[.pointer (some p), .pointer (some q)] .returning w fun e u' w' => e = .returned (.tuple #[]) ∧ u' = .returning ∧ w' = w := by
  refine callsD_of_wpS Tryz.func110 rfl fun c₀ cs hu => ?_
  apply wpS_seq
  apply wpS_region
  simp [wpOpsS, go_sem, recoverD, hu, Tryz.ntmps110, Exit.thenS]
  refine wpS_cond (t := false) (by simp [Act.eval, Array.replicate]) ?_
  simp only [Bool.false_eq_true, if_false]
  refine wpS_of_wp (wp_skip ?_)
  cases c₀
  simp_all [bodyPostS, results, Tryz.results110]

theorem is_nil (q : Int) (w : World) :
    Calls Tryz.prog 42 #[.nilIface, .int .i64 q] w fun ev w' => ev = .returned (.bool false) ∧ Below w.heap.size w w' := by
  have hmf : ∀ (fn : Fn) (first cap : Array Value) (w : World), (Instr.makeFunc fn first cap).run Tryz.prog w = .ok (.func fn first cap) w := fun _ _ _ _ => rfl
  go_enter_defers Tryz.func42, Tryz.ntmps42
  go_wp2_with (first | (go_at_call 87; refine (eis_nil _ _).mono ?_; rintro e w' ⟨rfl, rfl⟩))
  refine leaves_cons (f := 86) (args := #[.pointer (some ⟨w.heap.size, 0, none⟩)]) (by simp) (by simp [go_sem]) ?_
  refine (idle29 ⟨w.heap.size, 0, none⟩ _).mono ?_
  rintro e u' w'' ⟨rfl, rfl, rfl⟩
  simp [Leaves, settle, results, Tryz.results42, go_sem]
  exact (Below.refl _ _).alloc (Nat.le_refl _) _

set_option maxRecDepth 100000 in
set_option maxHeartbeats 4000000 in
theorem is_chn (l : List (ByteArray × Int)) (c : Int) (q : Int) (w : World) :
    Calls Tryz.prog 42 #[chn l (bse c), .int .i64 q] w
      fun ev w' => ev = .returned (.bool (isB c q)) ∧ Below w.heap.size w w' := by
  have hmf : ∀ (fn : Fn) (first cap : Array Value) (w : World), (Instr.makeFunc fn first cap).run Tryz.prog w = .ok (.func fn first cap) w := fun _ _ _ _ => rfl
  go_enter_defers Tryz.func42, Tryz.ntmps42
  go_wp2_with (first | (go_at_call 87; refine (eis_chn l c q _).mono ?_; rintro e w' ⟨rfl, hb⟩; obtain ⟨hc, hf⟩ := bcell hb))
  refine leaves_cons (f := 86) (args := #[.pointer (some ⟨w.heap.size, 0, none⟩)]) (by simp) (by simp [go_sem]) ?_
  refine (idle29 ⟨w.heap.size, 0, none⟩ _).mono ?_
  rintro e u' w'' ⟨rfl, rfl, rfl⟩
  simp [Leaves, settle, results, Tryz.results42, go_sem, hc]
  exact (((Below.refl _ _).alloc (Nat.le_refl _) _).trans (hb.mono (by simp))).setCell (by simp) _
end Go.Proofs.YtgbcjmpnkejpeaaGreatDoor
namespace Go.Proofs.YtgbcjmpnkejpeaaGreatDoor
open Go.RowKit Go.Extern.Stop Go.Stop Go.Extern

/-- errors.errorType holds the handle of the type error. -/
def Hnd (w : World) : Prop := w.cell? ⟨0, 0, none⟩ = some (.iface 196 (.agg #[.pointer (some ⟨1, 41, none⟩)]))
theorem Hnd.below {w w' : World} (h : Hnd w) (hb : Below w.heap.size w w') : Hnd w' := (hb.cell (size_of_handle h)).trans h

theorem three_cells {u : World} {n : Nat} {x y z x' y' z' : Value} (h0 : u.cell? ⟨n, 0, none⟩ = some x') (h1 : u.cell? ⟨n, 1, none⟩ = some y') (h2 : u.cell? ⟨n, 2, none⟩ = some z') :
    (((u.setCell ⟨n, 0, none⟩ x).setCell ⟨n, 1, none⟩ y).setCell ⟨n, 2, none⟩ z).cell? ⟨n, 0, none⟩ = some x ∧ (((u.setCell ⟨n, 0, none⟩ x).setCell ⟨n, 1, none⟩ y).setCell ⟨n, 2, none⟩ z).cell? ⟨n, 1, none⟩ = some y ∧
      (((u.setCell ⟨n, 0, none⟩ x).setCell ⟨n, 1, none⟩ y).setCell ⟨n, 2, none⟩ z).cell? ⟨n, 2, none⟩ = some z := by
  refine ⟨?_, ?_, ?_⟩
  · rw [World.cell?_setCell_other _ _ _ _ (by simp), World.cell?_setCell_other _ _ _ _ (by simp)]
    exact World.cell?_setCell_same _ _ _ h0
  · rw [World.cell?_setCell_other _ _ _ _ (by simp)]
    refine World.cell?_setCell_same _ _ _ (u := y') ?_
    rw [World.cell?_setCell_other _ _ _ _ (by simp)]
    exact h1
  · refine World.cell?_setCell_same _ _ _ (u := z') ?_
    rw [World.cell?_setCell_other _ _ _ _ (by simp), World.cell?_setCell_other _ _ _ _ (by simp)]
    exact h2

set_option maxRecDepth 100000 in
set_option maxHeartbeats 4000000 in
theorem outF_hit (op : ByteArray) (a : Int) (ty : TypeId) (v : Value) (w : World) (hg : Hnd w) :
    Calls Tryz.prog 103 #[.iface 148 (.agg #[.string op, .int .i64 a, .iface ty v])] w
      fun ev w' => ev = .returned (.tuple #[.agg #[.string op, .int .i64 a, .iface ty v], .bool true]) ∧ Below w.heap.size w w' := by
  have hlt := size_of_handle hg
  have hmf : ∀ (fn : Fn) (first cap : Array Value) (w : World), (Instr.makeFunc fn first cap).run Tryz.prog w = .ok (.func fn first cap) w := fun _ _ _ _ => rfl
  have hg2 : Hnd ((w.alloc (.cells #[.string ByteArray.empty, .int .i64 0, .nilIface] 148)).alloc (.cells #[.bool false] 4)) := hg.below (((Below.refl _ _).alloc (Nat.le_refl _) _).alloc (by simp) _)
  have HC := hide (as60_hit op a (.iface ty v) (.string ByteArray.empty) (.int .i64 0) .nilIface w.heap.size _ rfl hg2 (by simp) (by simp) (by simp) (by simp) (by simp) (by simp))
  clear hg hg2
  go_enter_defers Tryz.func103, Tryz.ntmps103
  go_wp2_with (first | (go_at_call 111; refine (HC.out).mono ?_; rintro e w' ⟨rfl, u, hb, rfl⟩; obtain ⟨hc, hf⟩ := bcell hb))
  have hu0 : u.cell? ⟨w.heap.size, 0, none⟩ = some (.string ByteArray.empty) := by rw [hc _ _ (by simp; omega)]; simp
  have hu1 : u.cell? ⟨w.heap.size, 1, none⟩ = some (.int .i64 0) := by rw [hc _ _ (by simp; omega)]; simp
  have hu2 : u.cell? ⟨w.heap.size, 2, none⟩ = some .nilIface := by rw [hc _ _ (by simp; omega)]; simp
  have hu3 : u.cell? ⟨w.heap.size + 1, 0, none⟩ = some (.bool false) := by rw [hc _ _ (by simp)]; simp
  have T := three_cells (x := .string op) (y := .int .i64 a) (z := .iface ty v) hu0 hu1 hu2
  generalize hV : World.setCell _ ⟨w.heap.size + 1, 0, none⟩ (.bool true) = V
  have c0 : V.cell? ⟨w.heap.size, 0, none⟩ = some (.string op) := by rw [← hV, World.cell?_setCell_other _ _ _ _ (by simp)]; exact T.1
  have c1 : V.cell? ⟨w.heap.size, 1, none⟩ = some (.int .i64 a) := by rw [← hV, World.cell?_setCell_other _ _ _ _ (by simp)]; exact T.2.1
  have c2 : V.cell? ⟨w.heap.size, 2, none⟩ = some (.iface ty v) := by rw [← hV, World.cell?_setCell_other _ _ _ _ (by simp)]; exact T.2.2
  have c3 : V.cell? ⟨w.heap.size + 1, 0, none⟩ = some (.bool true) := by
    rw [← hV]
    refine World.cell?_setCell_same _ _ _ (u := .bool false) ?_
    iterate 3 rw [World.cell?_setCell_other _ _ _ _ (by simp)]
    exact hu3
  have g0 : V.frozen? ⟨w.heap.size, 0, none⟩ = false := by rw [← hV]; simp; rw [hf _ _ (by simp; omega)]; simp
  have g1 : V.frozen? ⟨w.heap.size, 1, none⟩ = false := by rw [← hV]; simp; rw [hf _ _ (by simp; omega)]; simp
  have g2 : V.frozen? ⟨w.heap.size, 2, none⟩ = false := by rw [← hV]; simp; rw [hf _ _ (by simp; omega)]; simp
  have g3 : V.frozen? ⟨w.heap.size + 1, 0, none⟩ = false := by rw [← hV]; simp; rw [hf _ _ (by simp)]; simp
  have HB : Below w.heap.size w V := by
    rw [← hV]
    exact ((((((Below.refl _ _).alloc (Nat.le_refl _) _).alloc (by simp) _).trans (hb.mono (by simp; omega))).setCell (by simp) _).setCell (by simp) _ |>.setCell (by simp) _).setCell (by simp) _
  clear hV hc hf hb HC T hu0 hu1 hu2 hu3
  go_region
  go_wp2
  have T2 := three_cells (x := .string op) (y := .int .i64 a) (z := .iface ty v) c0 c1 c2
  generalize hW : World.setCell _ ⟨w.heap.size + 1, 0, none⟩ (.bool true) = X
  have d0 : X.cell? ⟨w.heap.size, 0, none⟩ = some (.string op) := by rw [← hW, World.cell?_setCell_other _ _ _ _ (by simp)]; exact T2.1
  have d1 : X.cell? ⟨w.heap.size, 1, none⟩ = some (.int .i64 a) := by rw [← hW, World.cell?_setCell_other _ _ _ _ (by simp)]; exact T2.2.1
  have d2 : X.cell? ⟨w.heap.size, 2, none⟩ = some (.iface ty v) := by rw [← hW, World.cell?_setCell_other _ _ _ _ (by simp)]; exact T2.2.2
  have d3 : X.cell? ⟨w.heap.size + 1, 0, none⟩ = some (.bool true) := by
    rw [← hW]
    refine World.cell?_setCell_same _ _ _ (u := .bool true) ?_
    iterate 3 rw [World.cell?_setCell_other _ _ _ _ (by simp)]
    exact c3
  have HX : Below w.heap.size w X := by rw [← hW]; exact (((HB.setCell (by simp) _).setCell (by simp) _).setCell (by simp) _).setCell (by simp) _
  clear hW T2 c0 c1 c2 c3 g0 g1 g2 g3 HB
  refine leaves_cons (f := 128) (args := #[.pointer (some ⟨w.heap.size, 0, none⟩), .pointer (some ⟨w.heap.size + 1, 0, none⟩)]) (by simp) (by simp [go_sem]) ?_
  refine (idle37 ⟨w.heap.size, 0, none⟩ ⟨w.heap.size + 1, 0, none⟩ _).mono ?_
  rintro e u' w'' ⟨rfl, rfl, rfl⟩
  simp [Leaves, settle, results, Tryz.results103, go_sem, d0, d1, d2, d3]
  exact HX.drew

theorem as_nil_below (t : Value) (w : World) :
    Calls Tryz.prog 111 #[.nilIface, t] w fun e w' => e = .returned (.bool false) ∧ Below w.heap.size w w' :=
  (as_nil t w).mono fun _ _ ⟨he, hw⟩ => ⟨he, by rw [hw]; exact Below.refl _ _⟩

set_option maxRecDepth 100000 in
set_option maxHeartbeats 4000000 in
theorem outF_code (k : Int) (w : World) (hg : Hnd w) :
    Calls Tryz.prog 103 #[.iface 27 (.int .i64 k)] w
      fun ev w' => ev = .returned (.tuple #[.agg #[.string ByteArray.empty, .int .i64 0, .nilIface], .bool false]) ∧ Below w.heap.size w w' := by
  have hlt := size_of_handle hg
  have hmf : ∀ (fn : Fn) (first cap : Array Value) (w : World), (Instr.makeFunc fn first cap).run Tryz.prog w = .ok (.func fn first cap) w := fun _ _ _ _ => rfl
  have hg2 : Hnd ((w.alloc (.cells #[.string ByteArray.empty, .int .i64 0, .nilIface] 148)).alloc (.cells #[.bool false] 4)) := hg.below (((Below.refl _ _).alloc (Nat.le_refl _) _).alloc (by simp) _)
  have HC := hide (as60_miss32 k w.heap.size _ hg2)
  clear hg hg2
  go_enter_defers Tryz.func103, Tryz.ntmps103
  go_wp2_with (first | (go_at_call 111; refine (HC.out).mono ?_; rintro e w' ⟨rfl, hb⟩; obtain ⟨hc, hf⟩ := bcell hb))
  have hu0 : w'.cell? ⟨w.heap.size, 0, none⟩ = some (.string ByteArray.empty) := by rw [hc _ _ (by simp; omega)]; simp
  have hu1 : w'.cell? ⟨w.heap.size, 1, none⟩ = some (.int .i64 0) := by rw [hc _ _ (by simp; omega)]; simp
  have hu2 : w'.cell? ⟨w.heap.size, 2, none⟩ = some .nilIface := by rw [hc _ _ (by simp; omega)]; simp
  have hu3 : w'.cell? ⟨w.heap.size + 1, 0, none⟩ = some (.bool false) := by rw [hc _ _ (by simp)]; simp
  generalize hV : World.setCell _ ⟨w.heap.size + 1, 0, none⟩ (.bool false) = V
  have c0 : V.cell? ⟨w.heap.size, 0, none⟩ = some (.string ByteArray.empty) := by rw [← hV, World.cell?_setCell_other _ _ _ _ (by simp)]; exact hu0
  have c1 : V.cell? ⟨w.heap.size, 1, none⟩ = some (.int .i64 0) := by rw [← hV, World.cell?_setCell_other _ _ _ _ (by simp)]; exact hu1
  have c2 : V.cell? ⟨w.heap.size, 2, none⟩ = some .nilIface := by rw [← hV, World.cell?_setCell_other _ _ _ _ (by simp)]; exact hu2
  have c3 : V.cell? ⟨w.heap.size + 1, 0, none⟩ = some (.bool false) := by
    rw [← hV]
    exact World.cell?_setCell_same _ _ _ hu3
  have g0 : V.frozen? ⟨w.heap.size, 0, none⟩ = false := by rw [← hV]; simp; rw [hf _ _ (by simp; omega)]; simp
  have g1 : V.frozen? ⟨w.heap.size, 1, none⟩ = false := by rw [← hV]; simp; rw [hf _ _ (by simp; omega)]; simp
  have g2 : V.frozen? ⟨w.heap.size, 2, none⟩ = false := by rw [← hV]; simp; rw [hf _ _ (by simp; omega)]; simp
  have g3 : V.frozen? ⟨w.heap.size + 1, 0, none⟩ = false := by rw [← hV]; simp; rw [hf _ _ (by simp)]; simp
  have HB : Below w.heap.size w V := by
    rw [← hV]
    exact ((((Below.refl _ _).alloc (Nat.le_refl _) _).alloc (by simp) _).trans (hb.mono (by simp; omega))).setCell (by simp) _
  clear hV hc hf hb HC hu0 hu1 hu2 hu3
  go_region
  go_wp2
  have T2 := three_cells (x := .string ByteArray.empty) (y := .int .i64 0) (z := .nilIface) c0 c1 c2
  generalize hW : World.setCell _ ⟨w.heap.size + 1, 0, none⟩ (.bool false) = X
  have d0 : X.cell? ⟨w.heap.size, 0, none⟩ = some (.string ByteArray.empty) := by rw [← hW, World.cell?_setCell_other _ _ _ _ (by simp)]; exact T2.1
  have d1 : X.cell? ⟨w.heap.size, 1, none⟩ = some (.int .i64 0) := by rw [← hW, World.cell?_setCell_other _ _ _ _ (by simp)]; exact T2.2.1
  have d2 : X.cell? ⟨w.heap.size, 2, none⟩ = some (.nilIface) := by rw [← hW, World.cell?_setCell_other _ _ _ _ (by simp)]; exact T2.2.2
  have d3 : X.cell? ⟨w.heap.size + 1, 0, none⟩ = some (.bool false) := by
    rw [← hW]
    refine World.cell?_setCell_same _ _ _ (u := .bool false) ?_
    iterate 3 rw [World.cell?_setCell_other _ _ _ _ (by simp)]
    exact c3
  have HX : Below w.heap.size w X := by rw [← hW]; exact (((HB.setCell (by simp) _).setCell (by simp) _).setCell (by simp) _).setCell (by simp) _
  clear hW T2 c0 c1 c2 c3 g0 g1 g2 g3 HB
  refine leaves_cons (f := 128) (args := #[.pointer (some ⟨w.heap.size, 0, none⟩), .pointer (some ⟨w.heap.size + 1, 0, none⟩)]) (by simp) (by simp [go_sem]) ?_
  refine (idle37 ⟨w.heap.size, 0, none⟩ ⟨w.heap.size + 1, 0, none⟩ _).mono ?_
  rintro e u' w'' ⟨rfl, rfl, rfl⟩
  simp [Leaves, settle, results, Tryz.results103, go_sem, d0, d1, d2, d3]
  exact HX.drew

set_option maxRecDepth 100000 in
set_option maxHeartbeats 4000000 in
theorem outF_nil (w : World) (hg : Hnd w) :
    Calls Tryz.prog 103 #[.nilIface] w
      fun ev w' => ev = .returned (.tuple #[.agg #[.string ByteArray.empty, .int .i64 0, .nilIface], .bool false]) ∧ Below w.heap.size w w' := by
  have hlt := size_of_handle hg
  have hmf : ∀ (fn : Fn) (first cap : Array Value) (w : World), (Instr.makeFunc fn first cap).run Tryz.prog w = .ok (.func fn first cap) w := fun _ _ _ _ => rfl
  have _hg2 : Hnd ((w.alloc (.cells #[.string ByteArray.empty, .int .i64 0, .nilIface] 148)).alloc (.cells #[.bool false] 4)) := hg.below (((Below.refl _ _).alloc (Nat.le_refl _) _).alloc (by simp) _)
  have HC := hide (as_nil_below (.iface 176 (.pointer (some ⟨w.heap.size, 0, none⟩))) ((w.alloc (.cells #[.string ByteArray.empty, .int .i64 0, .nilIface] 148)).alloc (.cells #[.bool false] 4)))
  clear hg _hg2
  go_enter_defers Tryz.func103, Tryz.ntmps103
  go_wp2_with (first | (go_at_call 111; refine (HC.out).mono ?_; rintro e w' ⟨rfl, hb⟩; obtain ⟨hc, hf⟩ := bcell hb))
  have hu0 : w'.cell? ⟨w.heap.size, 0, none⟩ = some (.string ByteArray.empty) := by rw [hc _ _ (by simp; omega)]; simp
  have hu1 : w'.cell? ⟨w.heap.size, 1, none⟩ = some (.int .i64 0) := by rw [hc _ _ (by simp; omega)]; simp
  have hu2 : w'.cell? ⟨w.heap.size, 2, none⟩ = some .nilIface := by rw [hc _ _ (by simp; omega)]; simp
  have hu3 : w'.cell? ⟨w.heap.size + 1, 0, none⟩ = some (.bool false) := by rw [hc _ _ (by simp)]; simp
  generalize hV : World.setCell _ ⟨w.heap.size + 1, 0, none⟩ (.bool false) = V
  have c0 : V.cell? ⟨w.heap.size, 0, none⟩ = some (.string ByteArray.empty) := by rw [← hV, World.cell?_setCell_other _ _ _ _ (by simp)]; exact hu0
  have c1 : V.cell? ⟨w.heap.size, 1, none⟩ = some (.int .i64 0) := by rw [← hV, World.cell?_setCell_other _ _ _ _ (by simp)]; exact hu1
  have c2 : V.cell? ⟨w.heap.size, 2, none⟩ = some .nilIface := by rw [← hV, World.cell?_setCell_other _ _ _ _ (by simp)]; exact hu2
  have c3 : V.cell? ⟨w.heap.size + 1, 0, none⟩ = some (.bool false) := by
    rw [← hV]
    exact World.cell?_setCell_same _ _ _ hu3
  have g0 : V.frozen? ⟨w.heap.size, 0, none⟩ = false := by rw [← hV]; simp; rw [hf _ _ (by simp; omega)]; simp
  have g1 : V.frozen? ⟨w.heap.size, 1, none⟩ = false := by rw [← hV]; simp; rw [hf _ _ (by simp; omega)]; simp
  have g2 : V.frozen? ⟨w.heap.size, 2, none⟩ = false := by rw [← hV]; simp; rw [hf _ _ (by simp; omega)]; simp
  have g3 : V.frozen? ⟨w.heap.size + 1, 0, none⟩ = false := by rw [← hV]; simp; rw [hf _ _ (by simp)]; simp
  have HB : Below w.heap.size w V := by
    rw [← hV]
    exact ((((Below.refl _ _).alloc (Nat.le_refl _) _).alloc (by simp) _).trans (hb.mono (by simp; omega))).setCell (by simp) _
  clear hV hc hf hb HC hu0 hu1 hu2 hu3
  go_region
  go_wp2
  have T2 := three_cells (x := .string ByteArray.empty) (y := .int .i64 0) (z := .nilIface) c0 c1 c2
  generalize hW : World.setCell _ ⟨w.heap.size + 1, 0, none⟩ (.bool false) = X
  have d0 : X.cell? ⟨w.heap.size, 0, none⟩ = some (.string ByteArray.empty) := by rw [← hW, World.cell?_setCell_other _ _ _ _ (by simp)]; exact T2.1
  have d1 : X.cell? ⟨w.heap.size, 1, none⟩ = some (.int .i64 0) := by rw [← hW, World.cell?_setCell_other _ _ _ _ (by simp)]; exact T2.2.1
  have d2 : X.cell? ⟨w.heap.size, 2, none⟩ = some (.nilIface) := by rw [← hW, World.cell?_setCell_other _ _ _ _ (by simp)]; exact T2.2.2
  have d3 : X.cell? ⟨w.heap.size + 1, 0, none⟩ = some (.bool false) := by
    rw [← hW]
    refine World.cell?_setCell_same _ _ _ (u := .bool false) ?_
    iterate 3 rw [World.cell?_setCell_other _ _ _ _ (by simp)]
    exact c3
  have HX : Below w.heap.size w X := by rw [← hW]; exact (((HB.setCell (by simp) _).setCell (by simp) _).setCell (by simp) _).setCell (by simp) _
  clear hW T2 c0 c1 c2 c3 g0 g1 g2 g3 HB
  refine leaves_cons (f := 128) (args := #[.pointer (some ⟨w.heap.size, 0, none⟩), .pointer (some ⟨w.heap.size + 1, 0, none⟩)]) (by simp) (by simp [go_sem]) ?_
  refine (idle37 ⟨w.heap.size, 0, none⟩ ⟨w.heap.size + 1, 0, none⟩ _).mono ?_
  rintro e u' w'' ⟨rfl, rfl, rfl⟩
  simp [Leaves, settle, results, Tryz.results103, go_sem, d0, d1, d2, d3]
  exact HX.drew

set_option maxRecDepth 100000 in
set_option maxHeartbeats 4000000 in
theorem outC_some (l : List (ByteArray × Int)) (k : Int) (w : World) (hg : Hnd w) :
    Calls Tryz.prog 69 #[chn l (bse k)] w
      fun ev w' => ev = .returned (.tuple #[.int .i64 k, .bool true]) ∧ Below w.heap.size w w' := by
  have hlt := size_of_handle hg
  have hmf : ∀ (fn : Fn) (first cap : Array Value) (w : World), (Instr.makeFunc fn first cap).run Tryz.prog w = .ok (.func fn first cap) w := fun _ _ _ _ => rfl
  have hg2 : Hnd ((w.alloc (.cells #[.int .i64 0] 27)).alloc (.cells #[.bool false] 4)) := hg.below (((Below.refl _ _).alloc (Nat.le_refl _) _).alloc (by simp) _)
  have hc := as32_some l k w.heap.size (.int .i64 0) _ hg2 (by simp) (by simp)
  obtain ⟨ty, v, hv⟩ := chn_form l k
  rw [hv] at hc ⊢
  have HC := hide hc
  clear hg hg2 hc hv
  go_enter_defers Tryz.func69, Tryz.ntmps69
  go_wp2_with (first | (go_at_call 111; refine (HC.out).mono ?_; rintro e w' ⟨rfl, u, hb, rfl⟩; obtain ⟨hc, hf⟩ := bcell hb))
  have hu0 : u.cell? ⟨w.heap.size, 0, none⟩ = some (.int .i64 0) := by rw [hc _ _ (by simp; omega)]; simp
  have hu3 : u.cell? ⟨w.heap.size + 1, 0, none⟩ = some (.bool false) := by rw [hc _ _ (by simp)]; simp
  generalize hV : World.setCell _ ⟨w.heap.size + 1, 0, none⟩ (.bool true) = V
  have c0 : V.cell? ⟨w.heap.size, 0, none⟩ = some (.int .i64 k) := by
    rw [← hV, World.cell?_setCell_other _ _ _ _ (by simp)]
    exact World.cell?_setCell_same _ _ _ hu0
  have c3 : V.cell? ⟨w.heap.size + 1, 0, none⟩ = some (.bool true) := by
    rw [← hV]
    refine World.cell?_setCell_same _ _ _ (u := .bool false) ?_
    rw [World.cell?_setCell_other _ _ _ _ (by simp)]
    exact hu3
  have g0 : V.frozen? ⟨w.heap.size, 0, none⟩ = false := by rw [← hV]; simp; rw [hf _ _ (by simp; omega)]; simp
  have g3 : V.frozen? ⟨w.heap.size + 1, 0, none⟩ = false := by rw [← hV]; simp; rw [hf _ _ (by simp)]; simp
  have HB : Below w.heap.size w V := by
    rw [← hV]
    exact (((((Below.refl _ _).alloc (Nat.le_refl _) _).alloc (by simp) _).trans (hb.mono (by simp; omega))).setCell (by simp) _).setCell (by simp) _
  clear hV hc hf hb HC hu0 hu3
  go_region
  go_wp2
  generalize hW : World.setCell _ ⟨w.heap.size + 1, 0, none⟩ (.bool true) = X
  have d0 : X.cell? ⟨w.heap.size, 0, none⟩ = some (.int .i64 k) := by
    rw [← hW, World.cell?_setCell_other _ _ _ _ (by simp)]
    exact World.cell?_setCell_same _ _ _ c0
  have d3 : X.cell? ⟨w.heap.size + 1, 0, none⟩ = some (.bool true) := by
    rw [← hW]
    refine World.cell?_setCell_same _ _ _ (u := .bool true) ?_
    rw [World.cell?_setCell_other _ _ _ _ (by simp)]
    exact c3
  have HX : Below w.heap.size w X := by rw [← hW]; exact (HB.setCell (by simp) _).setCell (by simp) _
  clear hW c0 c3 g0 g3 HB
  refine leaves_cons (f := 110) (args := #[.pointer (some ⟨w.heap.size, 0, none⟩), .pointer (some ⟨w.heap.size + 1, 0, none⟩)]) (by simp) (by simp [go_sem]) ?_
  refine (idle39 ⟨w.heap.size, 0, none⟩ ⟨w.heap.size + 1, 0, none⟩ _).mono ?_
  rintro e u' w'' ⟨rfl, rfl, rfl⟩
  simp [Leaves, settle, results, Tryz.results69, go_sem, d0, d3]
  exact HX.drew

end Go.Proofs.YtgbcjmpnkejpeaaGreatDoor
namespace Go.Proofs.YtgbcjmpnkejpeaaGreatDoor
open Go.ChangeShapes Go.WideShapes Go.ChangeAt Go.RowKit Go.Joins
set_option maxRecDepth 100000

theorem own : ownKnob Tryz.prog.godebug = none := by kernel_rfl
theorem laidOut : laidOutB Tryz.prog = true := by kernel_rfl
theorem et : Tryz.prog.globalNamed "errors.errorType" = some 0 := by kernel_rfl
theorem oneRow : ((List.range 240).filter fun t => Tryz.prog.rowNamed t [101, 114, 114, 111, 114]) = [41] := by kernel_rfl
theorem typesSize : Tryz.prog.types.size = 240 := by kernel_rfl

/-- What the condition gives a walk: the variable's one cell. -/
theorem handle_of_laid {W : World} (h : laidMetH Tryz.prog [("errors.errorType", Rows.laid_errors_errorType)] W) : Hnd W := by
  have h' : laidMet Tryz.prog [] W ∧ handlesMet Tryz.prog [("errors.errorType", Rows.laid_errors_errorType)] W := h
  obtain ⟨name, u, ty, e1, e2, e3, e4, e5⟩ := h'.2 _ (List.mem_singleton.2 rfl)
  have en : name = [101, 114, 114, 111, 114] := (Option.some.inj e1).symm
  subst en
  have hu : some u = some 196 := e2.symm.trans (by kernel_rfl)
  obtain rfl := Option.some.inj hu
  have hm : ty ∈ (List.range 240).filter fun t => Tryz.prog.rowNamed t [101, 114, 114, 111, 114] := List.mem_filter.2 ⟨List.mem_range.2 (by rw [← typesSize]; exact e3), e4⟩
  rw [oneRow] at hm
  obtain rfl := List.mem_singleton.1 hm
  have hh : typeHandle Tryz.prog 41 = .pointer (some ⟨1, 41, none⟩) := by kernel_rfl
  rw [hh] at e5
  unfold Hnd
  simpa using World.var?_cell et e5 0

/-- A world with the variable's cell laid. -/
def layHnd (w : World) : World :=
  { w with heap := w.heap.modify 0 fun
      | .cells _ t frozen => .cells #[.iface 196 (.agg #[.pointer (some ⟨1, 41, none⟩)])] t frozen
      | o => o }
theorem laid_met (os : Os) (args : Array Value) : laidMetH Tryz.prog [("errors.errorType", Rows.laid_errors_errorType)] ((layHnd (World.holding Tryz.prog os ⟨#[], #[], []⟩)).forCall (fun _ _ => 0) ⟨#[], args, []⟩).memory :=
  laidMetH_of_parts (laidMet_nil _ _) (by kernel_rfl)

section
variable {H : Type} {enc : TypeId × Value → H}

/-- A slice of numbers that came in, opened. -/
theorem open_nums {W : World} {base : Nat} {t e : TypeId} {k : IntKind} {v : Value} {d : DataW H} {p : List MemPlace} (ht : Tryz.prog.underlying t = some (.slice e)) (he : Tryz.prog.underlying e = some (.int k)) (hc : Tryz.prog.cellsOf e = 1)
    (hv : Value.okWide Tryz.prog W .any base t v) (h : DataW.Trod enc Tryz.prog W 0 (fun _ => true) true t v d p) : ∃ l : List Int, Sl (fun x => .int k x) W v l ∧ l.length ≤ maxLen ∧ ∀ n ∈ l, (Lit.int k n).wf = true := by
  obtain ⟨a0, len, cap, rfl⟩ := okWide_slice ht hv
  obtain ⟨fuel, hf⟩ := h
  rcases open_ints ht he hc hf with ⟨hcs, _⟩ | ⟨a, len', cap', zs, hcs, _, hle, hmax, hall, _, hcell, hwf⟩
  · simp [Value.cells] at hcs
    obtain ⟨rfl, rfl, rfl⟩ := hcs
    exact ⟨[], .inl ⟨_, _, rfl, rfl⟩, Nat.zero_le _, fun n hn => by cases hn⟩
  · simp [Value.cells] at hcs
    obtain ⟨rfl, rfl, rfl⟩ := hcs
    rw [if_pos rfl] at hall
    have hl : (zs.take len).length = len := by rw [List.length_take]; omega
    refine ⟨zs.take len, ?_, by omega, fun n hn => hwf n (List.mem_of_mem_take hn)⟩
    by_cases h0 : len = 0
    · subst h0
      exact .inl ⟨_, _, by simp, rfl⟩
    · obtain ⟨b, off, rfl, hcc⟩ := ints_at hcell (by omega)
      refine .inr ⟨b, off, cap, by rw [hl], by omega, fun i hi => ?_⟩
      rw [hl] at hi
      rw [hcc i (by omega), List.getElem_take]
      simp [List.getD, show i < zs.length by omega]
end
end Go.Proofs.YtgbcjmpnkejpeaaGreatDoor
namespace Go.Proofs.YtgbcjmpnkejpeaaGreatDoor
open Go.RowKit Go.Extern.Stop Go.Stop Go.Extern

theorem new_any (op : ByteArray) (a c : Int) (w : World) :
    Calls Tryz.prog 62 #[.string op, .int .i64 a, .int .i64 c] w fun e w' => e = .returned (.iface 148 (.agg #[.string op, .int .i64 a, .iface 27 (.int .i64 c)])) ∧ w' = w := by
  go_enter Tryz.func62, Tryz.ntmps62
  go_wp2
  go_ret
  exact ⟨rfl, rfl⟩
theorem wrap_some (op : ByteArray) (a : Int) (t : TypeId) (v : Value) (w : World) :
    Calls Tryz.prog 63 #[.string op, .int .i64 a, .iface t v] w fun e w' => e = .returned (.iface 148 (.agg #[.string op, .int .i64 a, .iface t v])) ∧ w' = w := by
  go_enter Tryz.func63, Tryz.ntmps63
  go_wp2
  go_ret
  exact ⟨rfl, rfl⟩

/-- An error as a law makes it: none, or the steps and the Code. -/
def ev (x : Option (List (ByteArray × Int) × Int)) : Value := match x with
  | none => .nilIface
  | some (l, c) => chn l (bse c)
def ofV (x : Option (List (ByteArray × Int) × Int)) : Int := match x with
  | none => 0
  | some (_, k) => k
def isV (x : Option (List (ByteArray × Int) × Int)) (q : Int) : Bool := match x with
  | none => false
  | some (_, c) => isB c q
def stV (x : Option (List (ByteArray × Int) × Int)) : List (ByteArray × Int) := match x with
  | none => []
  | some (l, _) => l
def atV (l : List (ByteArray × Int)) : Int := match l with
  | [] => 0
  | s :: _ => s.2
def inV (l : List (ByteArray × Int)) : Bool := match l with
  | [] => false
  | _ :: _ => true
theorem of_nil (w : World) : Calls Tryz.prog 34 #[.nilIface] w fun e w' => e = .returned (.int .i64 0) ∧ Below w.heap.size w w' := by
  go_enter Tryz.func34, Tryz.ntmps34
  go_wp2
  go_ret
  exact ⟨rfl, Below.refl _ _⟩
set_option maxHeartbeats 4000000 in
theorem of_chn (l : List (ByteArray × Int)) (c : Int) (w : World) (hg : Hnd w) :
    Calls Tryz.prog 34 #[chn l (bse c)] w fun e w' => e = .returned (.int .i64 (ofV (some (l, c)))) ∧ Below w.heap.size w w' := by
  obtain ⟨ty, v, hv⟩ := chn_form l c
  have hc := outC_some l c w hg
  rw [hv] at hc ⊢
  have HC := hide hc
  clear hc hv hg
  go_enter Tryz.func34, Tryz.ntmps34
  go_wp2_with (first | (go_at_call 69; refine (HC.out).mono ?_; rintro e w' ⟨rfl, hb⟩))
  go_ret
  exact ⟨rfl, hb⟩
theorem of_ev (x : Option (List (ByteArray × Int) × Int)) (w : World) (hg : Hnd w) :
    Calls Tryz.prog 34 #[ev x] w fun e w' => e = .returned (.int .i64 (ofV x)) ∧ Below w.heap.size w w' := by
  rcases x with _ | ⟨l, c⟩
  · exact of_nil w
  · exact of_chn l c w hg
theorem is_ev (x : Option (List (ByteArray × Int) × Int)) (q : Int) (w : World) :
    Calls Tryz.prog 42 #[ev x, .int .i64 q] w fun e w' => e = .returned (.bool (isV x q)) ∧ Below w.heap.size w w' := by
  rcases x with _ | ⟨l, c⟩
  · exact is_nil q w
  · exact is_chn l c q w

/-- The outermost Fault, at every error. -/
theorem out_miss (x : Option (List (ByteArray × Int) × Int)) (hx : stV x = []) (w : World) (hg : Hnd w) :
    Calls Tryz.prog 103 #[ev x] w fun ev w' => ev = .returned (.tuple #[.agg #[.string ByteArray.empty, .int .i64 0, .nilIface], .bool false]) ∧ Below w.heap.size w w' := by
  rcases x with _ | ⟨l, c⟩
  · exact outF_nil w hg
  · obtain rfl : l = [] := hx
    exact outF_code c w hg

set_option maxHeartbeats 4000000 in
theorem where_ev (x : Option (List (ByteArray × Int) × Int)) (w : World) (hg : Hnd w) :
    Calls Tryz.prog 59 #[ev x] w fun e w' => e = .returned (.tuple #[.int .i64 (atV (stV x)), .bool (inV (stV x))]) ∧ Below w.heap.size w w' := by
  by_cases hx : stV x = []
  · have HC := hide (out_miss x hx w hg)
    rw [hx]
    clear hx hg
    go_enter Tryz.func59, Tryz.ntmps59
    go_wp2_with (first | (go_at_call 103; refine (HC.out).mono ?_; rintro e w' ⟨rfl, hb⟩; have hz := hb.size))
    go_ret2
    exact ⟨rfl, hb.alloc hz _⟩
  · rcases x with _ | ⟨_ | ⟨s, l⟩, c⟩
    · exact absurd rfl hx
    · exact absurd rfl hx
    · clear hx
      simp only [ev, chn, stV, atV, inV]
      obtain ⟨ty, v, hv⟩ := chn_form l c
      rw [hv]
      clear hv
      have HC := hide (outF_hit s.1 s.2 ty v w hg)
      clear hg
      go_enter Tryz.func59, Tryz.ntmps59
      go_wp2_with (first | (go_at_call 103; refine (HC.out).mono ?_; rintro e w' ⟨rfl, hb⟩; have hz := hb.size))
      go_ret2
      exact ⟨rfl, hb.alloc hz _⟩


end Go.Proofs.YtgbcjmpnkejpeaaGreatDoor
