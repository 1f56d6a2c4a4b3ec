/-
  errors.Is AT A TARGET OF TYPE Code, and fault.Is over it: a chain of Faults is the Code that it ends in, and no other; nil is none. No condition.
  fault.outermost AT THE TYPES Fault AND Code: the outermost Fault of a chain; the Code that a chain ends in; the zero value and false where there is none. Condition: errors.errorType holds the handle of the type error.
  fault.New, Wrap, Of, Where, Again AND Both, at every error that a law makes: nil, or a chain of Faults about a Code or about what errors.New made. Condition: errors.errorType holds the handle of the type error.
  A READER's NEXT NUMBER (wire.Read, Refuse, Reader.Num, Int, At, Err): what it tells, where it is then, and what is wrong. Conditions: the bytes' cells hold them, they lie below the reader, and no more than a hundred thousand.
  A READER's NEXT NUMBER, as one function of the bytes, the place and the limit (wire.Reader.Num, Int). Conditions: the bytes' cells hold them, each is a byte, no more than a hundred thousand, and the reader is within them.
-/
import Derived.Test.YtkpknkhacmggnaaGreatDoorJKAsBc
import Derived.Defers
import Derived.Recover
import Derived.Test.YtkpknkhacmggnaaGreatDoorJKWnuma5
namespace Go.Proofs.YtkpknkhacmggnaaGreatDoor
open Go.RowKit Go.Extern.Stop Go.Stop Go.Extern

theorem eql6032 (x y : Value) (w : World) : (binOp .eql 30 (.iface 108 x) (.iface 32 y)).run Tryz.prog w = .ok (.bool false) w := run_eql_iface_types 108 32 x y Tryz.underlying30 (by decide) w
theorem eql3232 (a b : Int) (w : World) : (binOp .eql 30 (.iface 32 (.int .i64 a)) (.iface 32 (.int .i64 b))).run Tryz.prog w = .ok (.bool (a == b)) w := by kernel_rfl
theorem eqlNil32 (y : Value) (w : World) : (binOp .eql 30 .nilIface (.iface 32 y)).run Tryz.prog w = .ok (.bool false) w := by kernel_rfl

theorem comparableM (w : World) : (ReflectliteType.method (fun t => do Rtype.noPackHeld "Comparable" t; (fun a : TypeInfo => Value.bool a.comparable) <$> typeInfo t) #[.agg #[.pointer (some ⟨1, 32, none⟩)]]).run Tryz.prog w = .ok (.bool true) w := by kernel_rfl

/-- Is the innermost error that Code? -/
def isB (c q : Int) : Bool := c == q

set_option maxRecDepth 100000 in
set_option maxHeartbeats 4000000 in
theorem is35 (l : List (ByteArray × Int)) (c : Int) (q : Int) (w : World) :
    Calls Tryz.prog 94 #[chn l (bse c), .iface 32 (.int .i64 q), .bool true] w
      fun ev w' => ev = .returned (.bool (isB c q)) ∧ Below w.heap.size w w' := by
  have m5 := mUnwrap
  have a1 := noIs60
  have a2 := unwraps60
  have c1 := noIs32
  have c2 := noUnwrap32
  have c3 := noUnwraps32
  have e1 := eql6032
  have e3 := eql3232
  go_enter Tryz.func94, Tryz.ntmps94
  go_wp2
  go_loopw [0] (fun e W => ∃ l : List (ByteArray × Int), e = chn l (bse c) ∧ Below w.heap.size w W ∧ w.heap.size ≤ W.heap.size) (fun e _ => SizeOf.sizeOf e)
  case atStart => exact ⟨l, rfl, Below.refl _ _, by simp⟩
  case round =>
    obtain ⟨l', he, hb, hs⟩ := hrel
    rcases l' with _ | ⟨s, _ | ⟨s', l'⟩⟩
    · simp only [chn, bse] at he
      subst he
      rcases Bool.eq_false_or_eq_true (c == q) with hq | hq
      · go_wp2
        go_ret
        exact ⟨by simp only [isB, hq]; rfl, hb⟩
      · go_wp2
        go_ret
        exact ⟨by simp only [isB, hq]; rfl, hb⟩
    · simp only [chn] at he
      obtain ⟨ty, v, hv⟩ := chn_form [] c
      have HV : Hid (chn [] (bse c) = .iface ty v) := hv
      simp only [chn] at hv
      rw [hv] at he
      subst he
      clear hv
      go_wp2
      go_roundw
      case rel => exact ⟨[], HV.out.symm, hb.alloc hs _, by simp; omega⟩
      case measure => exact size_inner _ _ _
    · simp only [chn] at he
      subst he
      go_wp2
      go_roundw
      case rel => exact ⟨s' :: l', rfl, hb.alloc hs _, by simp; omega⟩
      case measure => exact size_inner _ _ _

theorem eis_nil (q : Int) (w : World) :
    Calls Tryz.prog 60 #[.nilIface, .iface 32 (.int .i64 q)] w fun ev w' => ev = .returned (.bool false) ∧ w' = w := by
  have e1 := eqlNil32
  go_enter Tryz.func60, Tryz.ntmps60
  go_wp2
  go_ret
  exact ⟨rfl, rfl⟩

set_option maxRecDepth 100000 in
set_option maxHeartbeats 4000000 in
theorem eis_chn (l : List (ByteArray × Int)) (c : Int) (q : Int) (w : World) :
    Calls Tryz.prog 60 #[chn l (bse c), .iface 32 (.int .i64 q)] w
      fun ev w' => ev = .returned (.bool (isB c q)) ∧ Below w.heap.size w w' := by
  have h34 := h34
  have h69 := h69
  have f1 := typeOf32
  have f2 := mComparable
  have f3 := comparableM
  have hc := is35 l c q w
  obtain ⟨ty, v, hv⟩ := chn_form l c
  rw [hv] at hc ⊢
  have HC := hide hc
  clear hc hv
  go_enter Tryz.func60, Tryz.ntmps60
  go_wp2_with (first | (go_at_call 94; refine (HC.out).mono ?_; rintro e w' ⟨rfl, hb⟩))
  go_ret
  exact ⟨rfl, hb⟩

theorem idle29 (p : Addr) (w : World) :
    CallsD Tryz.prog 59 #[.pointer (some p)] .returning w fun e u' w' => e = .returned (.tuple #[]) ∧ u' = .returning ∧ w' = w := by
  refine callsD_of_wpS Tryz.func59 rfl fun c₀ cs hu => ?_
  apply wpS_seq
  apply wpS_region
  simp [wpOpsS, go_sem, recoverD, hu, Tryz.ntmps59, Exit.thenS]
  refine wpS_cond (t := false) (by simp [Act.eval, Array.replicate]) ?_
  simp only [Bool.false_eq_true, if_false]
  refine wpS_of_wp (wp_skip ?_)
  cases c₀
  simp_all [bodyPostS, results, Tryz.results59]
theorem idle37 (p q : Addr) (w : World) :
    CallsD Tryz.prog 95 #[.pointer (some p), .pointer (some q)] .returning w fun e u' w' => e = .returned (.tuple #[]) ∧ u' = .returning ∧ w' = w := by
  refine callsD_of_wpS Tryz.func95 rfl fun c₀ cs hu => ?_
  apply wpS_seq
  apply wpS_region
  simp [wpOpsS, go_sem, recoverD, hu, Tryz.ntmps95, Exit.thenS]
  refine wpS_cond (t := false) (by simp [Act.eval, Array.replicate]) ?_
  simp only [Bool.false_eq_true, if_false]
  refine wpS_of_wp (wp_skip ?_)
  cases c₀
  simp_all [bodyPostS, results, Tryz.results95]
theorem idle39 (p q : Addr) (w : World) :
    CallsD Tryz.prog 97 #[.pointer (some p), .pointer (some q)] .returning w fun e u' w' => e = .returned (.tuple #[]) ∧ u' = .returning ∧ w' = w := by
  refine callsD_of_wpS Tryz.func97 rfl fun c₀ cs hu => ?_
  apply wpS_seq
  apply wpS_region
  simp [wpOpsS, go_sem, recoverD, hu, Tryz.ntmps97, Exit.thenS]
  refine wpS_cond (t := false) (by simp [Act.eval, Array.replicate]) ?_
  simp only [Bool.false_eq_true, if_false]
  refine wpS_of_wp (wp_skip ?_)
  cases c₀
  simp_all [bodyPostS, results, Tryz.results97]

theorem is_nil (q : Int) (w : World) :
    Calls Tryz.prog 22 #[.nilIface, .int .i64 q] w fun ev w' => ev = .returned (.bool false) ∧ Below w.heap.size w w' := by
  have hmf : ∀ (fn : Fn) (first cap : Array Value) (w : World), (Instr.makeFunc fn first cap).run Tryz.prog w = .ok (.func fn first cap) w := fun _ _ _ _ => rfl
  go_enter_defers Tryz.func22, Tryz.ntmps22
  go_wp2_with (first | (go_at_call 60; refine (eis_nil _ _).mono ?_; rintro e w' ⟨rfl, rfl⟩))
  refine leaves_cons (f := 59) (args := #[.pointer (some ⟨w.heap.size, 0, none⟩)]) (by simp) (by simp [go_sem]) ?_
  refine (idle29 ⟨w.heap.size, 0, none⟩ _).mono ?_
  rintro e u' w'' ⟨rfl, rfl, rfl⟩
  simp [Leaves, settle, results, Tryz.results22, go_sem]
  exact (Below.refl _ _).alloc (Nat.le_refl _) _

set_option maxRecDepth 100000 in
set_option maxHeartbeats 4000000 in
theorem is_chn (l : List (ByteArray × Int)) (c : Int) (q : Int) (w : World) :
    Calls Tryz.prog 22 #[chn l (bse c), .int .i64 q] w
      fun ev w' => ev = .returned (.bool (isB c q)) ∧ Below w.heap.size w w' := by
  have hmf : ∀ (fn : Fn) (first cap : Array Value) (w : World), (Instr.makeFunc fn first cap).run Tryz.prog w = .ok (.func fn first cap) w := fun _ _ _ _ => rfl
  go_enter_defers Tryz.func22, Tryz.ntmps22
  go_wp2_with (first | (go_at_call 60; refine (eis_chn l c q _).mono ?_; rintro e w' ⟨rfl, hb⟩; obtain ⟨hc, hf⟩ := bcell hb))
  refine leaves_cons (f := 59) (args := #[.pointer (some ⟨w.heap.size, 0, none⟩)]) (by simp) (by simp [go_sem]) ?_
  refine (idle29 ⟨w.heap.size, 0, none⟩ _).mono ?_
  rintro e u' w'' ⟨rfl, rfl, rfl⟩
  simp [Leaves, settle, results, Tryz.results22, go_sem, hc]
  exact (((Below.refl _ _).alloc (Nat.le_refl _) _).trans (hb.mono (by simp))).setCell (by simp) _
end Go.Proofs.YtkpknkhacmggnaaGreatDoor
namespace Go.Proofs.YtkpknkhacmggnaaGreatDoor
open Go.RowKit Go.Extern.Stop Go.Stop Go.Extern

/-- errors.errorType holds the handle of the type error. -/
def Hnd (w : World) : Prop := w.cell? ⟨0, 0, none⟩ = some (.iface 183 (.agg #[.pointer (some ⟨1, 30, none⟩)]))
theorem Hnd.below {w w' : World} (h : Hnd w) (hb : Below w.heap.size w w') : Hnd w' := (hb.cell (size_of_handle h)).trans h

theorem three_cells {u : World} {n : Nat} {x y z x' y' z' : Value} (h0 : u.cell? ⟨n, 0, none⟩ = some x') (h1 : u.cell? ⟨n, 1, none⟩ = some y') (h2 : u.cell? ⟨n, 2, none⟩ = some z') :
    (((u.setCell ⟨n, 0, none⟩ x).setCell ⟨n, 1, none⟩ y).setCell ⟨n, 2, none⟩ z).cell? ⟨n, 0, none⟩ = some x ∧ (((u.setCell ⟨n, 0, none⟩ x).setCell ⟨n, 1, none⟩ y).setCell ⟨n, 2, none⟩ z).cell? ⟨n, 1, none⟩ = some y ∧
      (((u.setCell ⟨n, 0, none⟩ x).setCell ⟨n, 1, none⟩ y).setCell ⟨n, 2, none⟩ z).cell? ⟨n, 2, none⟩ = some z := by
  refine ⟨?_, ?_, ?_⟩
  · rw [World.cell?_setCell_other _ _ _ _ (by simp), World.cell?_setCell_other _ _ _ _ (by simp)]
    exact World.cell?_setCell_same _ _ _ h0
  · rw [World.cell?_setCell_other _ _ _ _ (by simp)]
    refine World.cell?_setCell_same _ _ _ (u := y') ?_
    rw [World.cell?_setCell_other _ _ _ _ (by simp)]
    exact h1
  · refine World.cell?_setCell_same _ _ _ (u := z') ?_
    rw [World.cell?_setCell_other _ _ _ _ (by simp), World.cell?_setCell_other _ _ _ _ (by simp)]
    exact h2

set_option maxRecDepth 100000 in
set_option maxHeartbeats 4000000 in
theorem outF_hit (op : ByteArray) (a : Int) (ty : TypeId) (v : Value) (w : World) (hg : Hnd w) :
    Calls Tryz.prog 61 #[.iface 108 (.agg #[.string op, .int .i64 a, .iface ty v])] w
      fun ev w' => ev = .returned (.tuple #[.agg #[.string op, .int .i64 a, .iface ty v], .bool true]) ∧ Below w.heap.size w w' := by
  have hlt := size_of_handle hg
  have hmf : ∀ (fn : Fn) (first cap : Array Value) (w : World), (Instr.makeFunc fn first cap).run Tryz.prog w = .ok (.func fn first cap) w := fun _ _ _ _ => rfl
  have hg2 : Hnd ((w.alloc (.cells #[.string ByteArray.empty, .int .i64 0, .nilIface] 108)).alloc (.cells #[.bool false] 4)) := hg.below (((Below.refl _ _).alloc (Nat.le_refl _) _).alloc (by simp) _)
  have HC := hide (as60_hit op a (.iface ty v) (.string ByteArray.empty) (.int .i64 0) .nilIface w.heap.size _ rfl hg2 (by simp) (by simp) (by simp) (by simp) (by simp) (by simp))
  clear hg hg2
  go_enter_defers Tryz.func61, Tryz.ntmps61
  go_wp2_with (first | (go_at_call 96; refine (HC.out).mono ?_; rintro e w' ⟨rfl, u, hb, rfl⟩; obtain ⟨hc, hf⟩ := bcell hb))
  have hu0 : u.cell? ⟨w.heap.size, 0, none⟩ = some (.string ByteArray.empty) := by rw [hc _ _ (by simp; omega)]; simp
  have hu1 : u.cell? ⟨w.heap.size, 1, none⟩ = some (.int .i64 0) := by rw [hc _ _ (by simp; omega)]; simp
  have hu2 : u.cell? ⟨w.heap.size, 2, none⟩ = some .nilIface := by rw [hc _ _ (by simp; omega)]; simp
  have hu3 : u.cell? ⟨w.heap.size + 1, 0, none⟩ = some (.bool false) := by rw [hc _ _ (by simp)]; simp
  have T := three_cells (x := .string op) (y := .int .i64 a) (z := .iface ty v) hu0 hu1 hu2
  generalize hV : World.setCell _ ⟨w.heap.size + 1, 0, none⟩ (.bool true) = V
  have c0 : V.cell? ⟨w.heap.size, 0, none⟩ = some (.string op) := by rw [← hV, World.cell?_setCell_other _ _ _ _ (by simp)]; exact T.1
  have c1 : V.cell? ⟨w.heap.size, 1, none⟩ = some (.int .i64 a) := by rw [← hV, World.cell?_setCell_other _ _ _ _ (by simp)]; exact T.2.1
  have c2 : V.cell? ⟨w.heap.size, 2, none⟩ = some (.iface ty v) := by rw [← hV, World.cell?_setCell_other _ _ _ _ (by simp)]; exact T.2.2
  have c3 : V.cell? ⟨w.heap.size + 1, 0, none⟩ = some (.bool true) := by
    rw [← hV]
    refine World.cell?_setCell_same _ _ _ (u := .bool false) ?_
    iterate 3 rw [World.cell?_setCell_other _ _ _ _ (by simp)]
    exact hu3
  have g0 : V.frozen? ⟨w.heap.size, 0, none⟩ = false := by rw [← hV]; simp; rw [hf _ _ (by simp; omega)]; simp
  have g1 : V.frozen? ⟨w.heap.size, 1, none⟩ = false := by rw [← hV]; simp; rw [hf _ _ (by simp; omega)]; simp
  have g2 : V.frozen? ⟨w.heap.size, 2, none⟩ = false := by rw [← hV]; simp; rw [hf _ _ (by simp; omega)]; simp
  have g3 : V.frozen? ⟨w.heap.size + 1, 0, none⟩ = false := by rw [← hV]; simp; rw [hf _ _ (by simp)]; simp
  have HB : Below w.heap.size w V := by
    rw [← hV]
    exact ((((((Below.refl _ _).alloc (Nat.le_refl _) _).alloc (by simp) _).trans (hb.mono (by simp; omega))).setCell (by simp) _).setCell (by simp) _ |>.setCell (by simp) _).setCell (by simp) _
  clear hV hc hf hb HC T hu0 hu1 hu2 hu3
  go_region
  go_wp2
  have T2 := three_cells (x := .string op) (y := .int .i64 a) (z := .iface ty v) c0 c1 c2
  generalize hW : World.setCell _ ⟨w.heap.size + 1, 0, none⟩ (.bool true) = X
  have d0 : X.cell? ⟨w.heap.size, 0, none⟩ = some (.string op) := by rw [← hW, World.cell?_setCell_other _ _ _ _ (by simp)]; exact T2.1
  have d1 : X.cell? ⟨w.heap.size, 1, none⟩ = some (.int .i64 a) := by rw [← hW, World.cell?_setCell_other _ _ _ _ (by simp)]; exact T2.2.1
  have d2 : X.cell? ⟨w.heap.size, 2, none⟩ = some (.iface ty v) := by rw [← hW, World.cell?_setCell_other _ _ _ _ (by simp)]; exact T2.2.2
  have d3 : X.cell? ⟨w.heap.size + 1, 0, none⟩ = some (.bool true) := by
    rw [← hW]
    refine World.cell?_setCell_same _ _ _ (u := .bool true) ?_
    iterate 3 rw [World.cell?_setCell_other _ _ _ _ (by simp)]
    exact c3
  have HX : Below w.heap.size w X := by rw [← hW]; exact (((HB.setCell (by simp) _).setCell (by simp) _).setCell (by simp) _).setCell (by simp) _
  clear hW T2 c0 c1 c2 c3 g0 g1 g2 g3 HB
  refine leaves_cons (f := 95) (args := #[.pointer (some ⟨w.heap.size, 0, none⟩), .pointer (some ⟨w.heap.size + 1, 0, none⟩)]) (by simp) (by simp [go_sem]) ?_
  refine (idle37 ⟨w.heap.size, 0, none⟩ ⟨w.heap.size + 1, 0, none⟩ _).mono ?_
  rintro e u' w'' ⟨rfl, rfl, rfl⟩
  simp [Leaves, settle, results, Tryz.results61, go_sem, d0, d1, d2, d3]
  exact HX.drew

theorem as_nil_below (t : Value) (w : World) :
    Calls Tryz.prog 96 #[.nilIface, t] w fun e w' => e = .returned (.bool false) ∧ Below w.heap.size w w' :=
  (as_nil t w).mono fun _ _ ⟨he, hw⟩ => ⟨he, by rw [hw]; exact Below.refl _ _⟩

set_option maxRecDepth 100000 in
set_option maxHeartbeats 4000000 in
theorem outF_code (k : Int) (w : World) (hg : Hnd w) :
    Calls Tryz.prog 61 #[.iface 32 (.int .i64 k)] w
      fun ev w' => ev = .returned (.tuple #[.agg #[.string ByteArray.empty, .int .i64 0, .nilIface], .bool false]) ∧ Below w.heap.size w w' := by
  have hlt := size_of_handle hg
  have hmf : ∀ (fn : Fn) (first cap : Array Value) (w : World), (Instr.makeFunc fn first cap).run Tryz.prog w = .ok (.func fn first cap) w := fun _ _ _ _ => rfl
  have hg2 : Hnd ((w.alloc (.cells #[.string ByteArray.empty, .int .i64 0, .nilIface] 108)).alloc (.cells #[.bool false] 4)) := hg.below (((Below.refl _ _).alloc (Nat.le_refl _) _).alloc (by simp) _)
  have HC := hide (as60_miss32 k w.heap.size _ hg2)
  clear hg hg2
  go_enter_defers Tryz.func61, Tryz.ntmps61
  go_wp2_with (first | (go_at_call 96; refine (HC.out).mono ?_; rintro e w' ⟨rfl, hb⟩; obtain ⟨hc, hf⟩ := bcell hb))
  have hu0 : w'.cell? ⟨w.heap.size, 0, none⟩ = some (.string ByteArray.empty) := by rw [hc _ _ (by simp; omega)]; simp
  have hu1 : w'.cell? ⟨w.heap.size, 1, none⟩ = some (.int .i64 0) := by rw [hc _ _ (by simp; omega)]; simp
  have hu2 : w'.cell? ⟨w.heap.size, 2, none⟩ = some .nilIface := by rw [hc _ _ (by simp; omega)]; simp
  have hu3 : w'.cell? ⟨w.heap.size + 1, 0, none⟩ = some (.bool false) := by rw [hc _ _ (by simp)]; simp
  generalize hV : World.setCell _ ⟨w.heap.size + 1, 0, none⟩ (.bool false) = V
  have c0 : V.cell? ⟨w.heap.size, 0, none⟩ = some (.string ByteArray.empty) := by rw [← hV, World.cell?_setCell_other _ _ _ _ (by simp)]; exact hu0
  have c1 : V.cell? ⟨w.heap.size, 1, none⟩ = some (.int .i64 0) := by rw [← hV, World.cell?_setCell_other _ _ _ _ (by simp)]; exact hu1
  have c2 : V.cell? ⟨w.heap.size, 2, none⟩ = some .nilIface := by rw [← hV, World.cell?_setCell_other _ _ _ _ (by simp)]; exact hu2
  have c3 : V.cell? ⟨w.heap.size + 1, 0, none⟩ = some (.bool false) := by
    rw [← hV]
    exact World.cell?_setCell_same _ _ _ hu3
  have g0 : V.frozen? ⟨w.heap.size, 0, none⟩ = false := by rw [← hV]; simp; rw [hf _ _ (by simp; omega)]; simp
  have g1 : V.frozen? ⟨w.heap.size, 1, none⟩ = false := by rw [← hV]; simp; rw [hf _ _ (by simp; omega)]; simp
  have g2 : V.frozen? ⟨w.heap.size, 2, none⟩ = false := by rw [← hV]; simp; rw [hf _ _ (by simp; omega)]; simp
  have g3 : V.frozen? ⟨w.heap.size + 1, 0, none⟩ = false := by rw [← hV]; simp; rw [hf _ _ (by simp)]; simp
  have HB : Below w.heap.size w V := by
    rw [← hV]
    exact ((((Below.refl _ _).alloc (Nat.le_refl _) _).alloc (by simp) _).trans (hb.mono (by simp; omega))).setCell (by simp) _
  clear hV hc hf hb HC hu0 hu1 hu2 hu3
  go_region
  go_wp2
  have T2 := three_cells (x := .string ByteArray.empty) (y := .int .i64 0) (z := .nilIface) c0 c1 c2
  generalize hW : World.setCell _ ⟨w.heap.size + 1, 0, none⟩ (.bool false) = X
  have d0 : X.cell? ⟨w.heap.size, 0, none⟩ = some (.string ByteArray.empty) := by rw [← hW, World.cell?_setCell_other _ _ _ _ (by simp)]; exact T2.1
  have d1 : X.cell? ⟨w.heap.size, 1, none⟩ = some (.int .i64 0) := by rw [← hW, World.cell?_setCell_other _ _ _ _ (by simp)]; exact T2.2.1
  have d2 : X.cell? ⟨w.heap.size, 2, none⟩ = some (.nilIface) := by rw [← hW, World.cell?_setCell_other _ _ _ _ (by simp)]; exact T2.2.2
  have d3 : X.cell? ⟨w.heap.size + 1, 0, none⟩ = some (.bool false) := by
    rw [← hW]
    refine World.cell?_setCell_same _ _ _ (u := .bool false) ?_
    iterate 3 rw [World.cell?_setCell_other _ _ _ _ (by simp)]
    exact c3
  have HX : Below w.heap.size w X := by rw [← hW]; exact (((HB.setCell (by simp) _).setCell (by simp) _).setCell (by simp) _).setCell (by simp) _
  clear hW T2 c0 c1 c2 c3 g0 g1 g2 g3 HB
  refine leaves_cons (f := 95) (args := #[.pointer (some ⟨w.heap.size, 0, none⟩), .pointer (some ⟨w.heap.size + 1, 0, none⟩)]) (by simp) (by simp [go_sem]) ?_
  refine (idle37 ⟨w.heap.size, 0, none⟩ ⟨w.heap.size + 1, 0, none⟩ _).mono ?_
  rintro e u' w'' ⟨rfl, rfl, rfl⟩
  simp [Leaves, settle, results, Tryz.results61, go_sem, d0, d1, d2, d3]
  exact HX.drew

set_option maxRecDepth 100000 in
set_option maxHeartbeats 4000000 in
theorem outF_nil (w : World) (hg : Hnd w) :
    Calls Tryz.prog 61 #[.nilIface] w
      fun ev w' => ev = .returned (.tuple #[.agg #[.string ByteArray.empty, .int .i64 0, .nilIface], .bool false]) ∧ Below w.heap.size w w' := by
  have hlt := size_of_handle hg
  have hmf : ∀ (fn : Fn) (first cap : Array Value) (w : World), (Instr.makeFunc fn first cap).run Tryz.prog w = .ok (.func fn first cap) w := fun _ _ _ _ => rfl
  have _hg2 : Hnd ((w.alloc (.cells #[.string ByteArray.empty, .int .i64 0, .nilIface] 108)).alloc (.cells #[.bool false] 4)) := hg.below (((Below.refl _ _).alloc (Nat.le_refl _) _).alloc (by simp) _)
  have HC := hide (as_nil_below (.iface 152 (.pointer (some ⟨w.heap.size, 0, none⟩))) ((w.alloc (.cells #[.string ByteArray.empty, .int .i64 0, .nilIface] 108)).alloc (.cells #[.bool false] 4)))
  clear hg _hg2
  go_enter_defers Tryz.func61, Tryz.ntmps61
  go_wp2_with (first | (go_at_call 96; refine (HC.out).mono ?_; rintro e w' ⟨rfl, hb⟩; obtain ⟨hc, hf⟩ := bcell hb))
  have hu0 : w'.cell? ⟨w.heap.size, 0, none⟩ = some (.string ByteArray.empty) := by rw [hc _ _ (by simp; omega)]; simp
  have hu1 : w'.cell? ⟨w.heap.size, 1, none⟩ = some (.int .i64 0) := by rw [hc _ _ (by simp; omega)]; simp
  have hu2 : w'.cell? ⟨w.heap.size, 2, none⟩ = some .nilIface := by rw [hc _ _ (by simp; omega)]; simp
  have hu3 : w'.cell? ⟨w.heap.size + 1, 0, none⟩ = some (.bool false) := by rw [hc _ _ (by simp)]; simp
  generalize hV : World.setCell _ ⟨w.heap.size + 1, 0, none⟩ (.bool false) = V
  have c0 : V.cell? ⟨w.heap.size, 0, none⟩ = some (.string ByteArray.empty) := by rw [← hV, World.cell?_setCell_other _ _ _ _ (by simp)]; exact hu0
  have c1 : V.cell? ⟨w.heap.size, 1, none⟩ = some (.int .i64 0) := by rw [← hV, World.cell?_setCell_other _ _ _ _ (by simp)]; exact hu1
  have c2 : V.cell? ⟨w.heap.size, 2, none⟩ = some .nilIface := by rw [← hV, World.cell?_setCell_other _ _ _ _ (by simp)]; exact hu2
  have c3 : V.cell? ⟨w.heap.size + 1, 0, none⟩ = some (.bool false) := by
    rw [← hV]
    exact World.cell?_setCell_same _ _ _ hu3
  have g0 : V.frozen? ⟨w.heap.size, 0, none⟩ = false := by rw [← hV]; simp; rw [hf _ _ (by simp; omega)]; simp
  have g1 : V.frozen? ⟨w.heap.size, 1, none⟩ = false := by rw [← hV]; simp; rw [hf _ _ (by simp; omega)]; simp
  have g2 : V.frozen? ⟨w.heap.size, 2, none⟩ = false := by rw [← hV]; simp; rw [hf _ _ (by simp; omega)]; simp
  have g3 : V.frozen? ⟨w.heap.size + 1, 0, none⟩ = false := by rw [← hV]; simp; rw [hf _ _ (by simp)]; simp
  have HB : Below w.heap.size w V := by
    rw [← hV]
    exact ((((Below.refl _ _).alloc (Nat.le_refl _) _).alloc (by simp) _).trans (hb.mono (by simp; omega))).setCell (by simp) _
  clear hV hc hf hb HC hu0 hu1 hu2 hu3
  go_region
  go_wp2
  have T2 := three_cells (x := .string ByteArray.empty) (y := .int .i64 0) (z := .nilIface) c0 c1 c2
  generalize hW : World.setCell _ ⟨w.heap.size + 1, 0, none⟩ (.bool false) = X
  have d0 : X.cell? ⟨w.heap.size, 0, none⟩ = some (.string ByteArray.empty) := by rw [← hW, World.cell?_setCell_other _ _ _ _ (by simp)]; exact T2.1
  have d1 : X.cell? ⟨w.heap.size, 1, none⟩ = some (.int .i64 0) := by rw [← hW, World.cell?_setCell_other _ _ _ _ (by simp)]; exact T2.2.1
  have d2 : X.cell? ⟨w.heap.size, 2, none⟩ = some (.nilIface) := by rw [← hW, World.cell?_setCell_other _ _ _ _ (by simp)]; exact T2.2.2
  have d3 : X.cell? ⟨w.heap.size + 1, 0, none⟩ = some (.bool false) := by
    rw [← hW]
    refine World.cell?_setCell_same _ _ _ (u := .bool false) ?_
    iterate 3 rw [World.cell?_setCell_other _ _ _ _ (by simp)]
    exact c3
  have HX : Below w.heap.size w X := by rw [← hW]; exact (((HB.setCell (by simp) _).setCell (by simp) _).setCell (by simp) _).setCell (by simp) _
  clear hW T2 c0 c1 c2 c3 g0 g1 g2 g3 HB
  refine leaves_cons (f := 95) (args := #[.pointer (some ⟨w.heap.size, 0, none⟩), .pointer (some ⟨w.heap.size + 1, 0, none⟩)]) (by simp) (by simp [go_sem]) ?_
  refine (idle37 ⟨w.heap.size, 0, none⟩ ⟨w.heap.size + 1, 0, none⟩ _).mono ?_
  rintro e u' w'' ⟨rfl, rfl, rfl⟩
  simp [Leaves, settle, results, Tryz.results61, go_sem, d0, d1, d2, d3]
  exact HX.drew

set_option maxRecDepth 100000 in
set_option maxHeartbeats 4000000 in
theorem outC_some (l : List (ByteArray × Int)) (k : Int) (w : World) (hg : Hnd w) :
    Calls Tryz.prog 62 #[chn l (bse k)] w
      fun ev w' => ev = .returned (.tuple #[.int .i64 k, .bool true]) ∧ Below w.heap.size w w' := by
  have hlt := size_of_handle hg
  have hmf : ∀ (fn : Fn) (first cap : Array Value) (w : World), (Instr.makeFunc fn first cap).run Tryz.prog w = .ok (.func fn first cap) w := fun _ _ _ _ => rfl
  have hg2 : Hnd ((w.alloc (.cells #[.int .i64 0] 32)).alloc (.cells #[.bool false] 4)) := hg.below (((Below.refl _ _).alloc (Nat.le_refl _) _).alloc (by simp) _)
  have hc := as32_some l k w.heap.size (.int .i64 0) _ hg2 (by simp) (by simp)
  obtain ⟨ty, v, hv⟩ := chn_form l k
  rw [hv] at hc ⊢
  have HC := hide hc
  clear hg hg2 hc hv
  go_enter_defers Tryz.func62, Tryz.ntmps62
  go_wp2_with (first | (go_at_call 96; refine (HC.out).mono ?_; rintro e w' ⟨rfl, u, hb, rfl⟩; obtain ⟨hc, hf⟩ := bcell hb))
  have hu0 : u.cell? ⟨w.heap.size, 0, none⟩ = some (.int .i64 0) := by rw [hc _ _ (by simp; omega)]; simp
  have hu3 : u.cell? ⟨w.heap.size + 1, 0, none⟩ = some (.bool false) := by rw [hc _ _ (by simp)]; simp
  generalize hV : World.setCell _ ⟨w.heap.size + 1, 0, none⟩ (.bool true) = V
  have c0 : V.cell? ⟨w.heap.size, 0, none⟩ = some (.int .i64 k) := by
    rw [← hV, World.cell?_setCell_other _ _ _ _ (by simp)]
    exact World.cell?_setCell_same _ _ _ hu0
  have c3 : V.cell? ⟨w.heap.size + 1, 0, none⟩ = some (.bool true) := by
    rw [← hV]
    refine World.cell?_setCell_same _ _ _ (u := .bool false) ?_
    rw [World.cell?_setCell_other _ _ _ _ (by simp)]
    exact hu3
  have g0 : V.frozen? ⟨w.heap.size, 0, none⟩ = false := by rw [← hV]; simp; rw [hf _ _ (by simp; omega)]; simp
  have g3 : V.frozen? ⟨w.heap.size + 1, 0, none⟩ = false := by rw [← hV]; simp; rw [hf _ _ (by simp)]; simp
  have HB : Below w.heap.size w V := by
    rw [← hV]
    exact (((((Below.refl _ _).alloc (Nat.le_refl _) _).alloc (by simp) _).trans (hb.mono (by simp; omega))).setCell (by simp) _).setCell (by simp) _
  clear hV hc hf hb HC hu0 hu3
  go_region
  go_wp2
  generalize hW : World.setCell _ ⟨w.heap.size + 1, 0, none⟩ (.bool true) = X
  have d0 : X.cell? ⟨w.heap.size, 0, none⟩ = some (.int .i64 k) := by
    rw [← hW, World.cell?_setCell_other _ _ _ _ (by simp)]
    exact World.cell?_setCell_same _ _ _ c0
  have d3 : X.cell? ⟨w.heap.size + 1, 0, none⟩ = some (.bool true) := by
    rw [← hW]
    refine World.cell?_setCell_same _ _ _ (u := .bool true) ?_
    rw [World.cell?_setCell_other _ _ _ _ (by simp)]
    exact c3
  have HX : Below w.heap.size w X := by rw [← hW]; exact (HB.setCell (by simp) _).setCell (by simp) _
  clear hW c0 c3 g0 g3 HB
  refine leaves_cons (f := 97) (args := #[.pointer (some ⟨w.heap.size, 0, none⟩), .pointer (some ⟨w.heap.size + 1, 0, none⟩)]) (by simp) (by simp [go_sem]) ?_
  refine (idle39 ⟨w.heap.size, 0, none⟩ ⟨w.heap.size + 1, 0, none⟩ _).mono ?_
  rintro e u' w'' ⟨rfl, rfl, rfl⟩
  simp [Leaves, settle, results, Tryz.results62, go_sem, d0, d3]
  exact HX.drew

end Go.Proofs.YtkpknkhacmggnaaGreatDoor
namespace Go.Proofs.YtkpknkhacmggnaaGreatDoor
open Go.RowKit Go.Extern.Stop Go.Stop Go.Extern

theorem new_any (op : ByteArray) (a c : Int) (w : World) :
    Calls Tryz.prog 27 #[.string op, .int .i64 a, .int .i64 c] w fun e w' => e = .returned (.iface 108 (.agg #[.string op, .int .i64 a, .iface 32 (.int .i64 c)])) ∧ w' = w := by
  go_enter Tryz.func27, Tryz.ntmps27
  go_wp2
  go_ret
  exact ⟨rfl, rfl⟩
theorem wrap_some (op : ByteArray) (a : Int) (t : TypeId) (v : Value) (w : World) :
    Calls Tryz.prog 66 #[.string op, .int .i64 a, .iface t v] w fun e w' => e = .returned (.iface 108 (.agg #[.string op, .int .i64 a, .iface t v])) ∧ w' = w := by
  go_enter Tryz.func66, Tryz.ntmps66
  go_wp2
  go_ret
  exact ⟨rfl, rfl⟩

/-- An error as a law makes it: none, or the steps and the Code. -/
def ev (x : Option (List (ByteArray × Int) × Int)) : Value := match x with
  | none => .nilIface
  | some (l, c) => chn l (bse c)
def ofV (x : Option (List (ByteArray × Int) × Int)) : Int := match x with
  | none => 0
  | some (_, k) => k
def isV (x : Option (List (ByteArray × Int) × Int)) (q : Int) : Bool := match x with
  | none => false
  | some (_, c) => isB c q
def stV (x : Option (List (ByteArray × Int) × Int)) : List (ByteArray × Int) := match x with
  | none => []
  | some (l, _) => l
def atV (l : List (ByteArray × Int)) : Int := match l with
  | [] => 0
  | s :: _ => s.2
def inV (l : List (ByteArray × Int)) : Bool := match l with
  | [] => false
  | _ :: _ => true
theorem of_nil (w : World) : Calls Tryz.prog 24 #[.nilIface] w fun e w' => e = .returned (.int .i64 0) ∧ Below w.heap.size w w' := by
  go_enter Tryz.func24, Tryz.ntmps24
  go_wp2
  go_ret
  exact ⟨rfl, Below.refl _ _⟩
set_option maxHeartbeats 4000000 in
theorem of_chn (l : List (ByteArray × Int)) (c : Int) (w : World) (hg : Hnd w) :
    Calls Tryz.prog 24 #[chn l (bse c)] w fun e w' => e = .returned (.int .i64 (ofV (some (l, c)))) ∧ Below w.heap.size w w' := by
  obtain ⟨ty, v, hv⟩ := chn_form l c
  have hc := outC_some l c w hg
  rw [hv] at hc ⊢
  have HC := hide hc
  clear hc hv hg
  go_enter Tryz.func24, Tryz.ntmps24
  go_wp2_with (first | (go_at_call 62; refine (HC.out).mono ?_; rintro e w' ⟨rfl, hb⟩))
  go_ret
  exact ⟨rfl, hb⟩
theorem of_ev (x : Option (List (ByteArray × Int) × Int)) (w : World) (hg : Hnd w) :
    Calls Tryz.prog 24 #[ev x] w fun e w' => e = .returned (.int .i64 (ofV x)) ∧ Below w.heap.size w w' := by
  rcases x with _ | ⟨l, c⟩
  · exact of_nil w
  · exact of_chn l c w hg
theorem is_ev (x : Option (List (ByteArray × Int) × Int)) (q : Int) (w : World) :
    Calls Tryz.prog 22 #[ev x, .int .i64 q] w fun e w' => e = .returned (.bool (isV x q)) ∧ Below w.heap.size w w' := by
  rcases x with _ | ⟨l, c⟩
  · exact is_nil q w
  · exact is_chn l c q w

/-- The outermost Fault, at every error. -/
theorem out_miss (x : Option (List (ByteArray × Int) × Int)) (hx : stV x = []) (w : World) (hg : Hnd w) :
    Calls Tryz.prog 61 #[ev x] w fun ev w' => ev = .returned (.tuple #[.agg #[.string ByteArray.empty, .int .i64 0, .nilIface], .bool false]) ∧ Below w.heap.size w w' := by
  rcases x with _ | ⟨l, c⟩
  · exact outF_nil w hg
  · obtain rfl : l = [] := hx
    exact outF_code c w hg

set_option maxHeartbeats 4000000 in
theorem where_ev (x : Option (List (ByteArray × Int) × Int)) (w : World) (hg : Hnd w) :
    Calls Tryz.prog 23 #[ev x] w fun e w' => e = .returned (.tuple #[.int .i64 (atV (stV x)), .bool (inV (stV x))]) ∧ Below w.heap.size w w' := by
  by_cases hx : stV x = []
  · have HC := hide (out_miss x hx w hg)
    rw [hx]
    clear hx hg
    go_enter Tryz.func23, Tryz.ntmps23
    go_wp2_with (first | (go_at_call 61; refine (HC.out).mono ?_; rintro e w' ⟨rfl, hb⟩; have hz := hb.size))
    go_ret2
    exact ⟨rfl, hb.alloc hz _⟩
  · rcases x with _ | ⟨_ | ⟨s, l⟩, c⟩
    · exact absurd rfl hx
    · exact absurd rfl hx
    · clear hx
      simp only [ev, chn, stV, atV, inV]
      obtain ⟨ty, v, hv⟩ := chn_form l c
      rw [hv]
      clear hv
      have HC := hide (outF_hit s.1 s.2 ty v w hg)
      clear hg
      go_enter Tryz.func23, Tryz.ntmps23
      go_wp2_with (first | (go_at_call 61; refine (HC.out).mono ?_; rintro e w' ⟨rfl, hb⟩; have hz := hb.size))
      go_ret2
      exact ⟨rfl, hb.alloc hz _⟩


end Go.Proofs.YtkpknkhacmggnaaGreatDoor
namespace Go.Proofs.YtkpknkhacmggnaaGreatDoor
open Go.RowKit

/-- All that was there stays, but for block p. -/
structure Bx (p : Nat) (w w' : World) : Prop where
  os : w'.os = w.os
  tape : w'.tape = w.tape
  output : w'.output = w.output
  size : w.heap.size ≤ w'.heap.size
  block : ∀ k, k < w.heap.size → k ≠ p → w'.heap[k]? = w.heap[k]?
theorem Bx.refl (p : Nat) (w : World) : Bx p w w := ⟨rfl, rfl, rfl, Nat.le_refl _, fun _ _ _ => rfl⟩
theorem Bx.trans {p : Nat} {a b c : World} (h : Bx p a b) (k : Bx p b c) : Bx p a c :=
  ⟨k.os.trans h.os, k.tape.trans h.tape, k.output.trans h.output, Nat.le_trans h.size k.size, fun i hi hp => (k.block i (Nat.lt_of_lt_of_le hi h.size) hp).trans (h.block i hi hp)⟩
theorem Bx.call {p : Nat} {a b c : World} (h : Bx p a b) (k : Below b.heap.size b c) : Bx p a c :=
  ⟨k.os.trans h.os, k.tape.trans h.tape, k.output.trans h.output, Nat.le_trans h.size k.size, fun i hi hp => (k.block i (Nat.lt_of_lt_of_le hi h.size)).trans (h.block i hi hp)⟩
theorem Bx.of {p : Nat} {a b : World} (k : Below a.heap.size a b) : Bx p a b := (Bx.refl p a).call k
theorem Bx.drewN {p : Nat} {a b : World} (h : Bx p a b) (n : Nat) : Bx p a (b.drewN n) := h.call (below_drewN (Below.refl _ _) n)
theorem Bx.set {p : Nat} {a b : World} (h : Bx p a b) (i : Nat) (x : Value) : Bx p a (b.setCell ⟨p, i, none⟩ x) :=
  h.trans ⟨rfl, rfl, rfl, by simp [World.setCell], fun _ _ hp => Below.heap_setCell _ _ _ _ (fun e => hp (by simp [e]))⟩
theorem Bx.below {p : Nat} {w w' : World} (h : Bx p w w') (hp : p ≤ w.heap.size) : Below p w w' := ⟨h.os, h.tape, h.output, h.size, fun k hk => h.block k (by omega) (by omega)⟩
theorem Bx.cell {p : Nat} {w w' : World} (h : Bx p w w') {b i : Nat} (hb : b < w.heap.size) (hp : b ≠ p) : w'.cell? ⟨b, i, none⟩ = w.cell? ⟨b, i, none⟩ := World.cell?_of_block (h.block b hb hp)
theorem Bx.frozen {p : Nat} {w w' : World} (h : Bx p w w') {b i : Nat} (hb : b < w.heap.size) (hp : b ≠ p) : w'.frozen? ⟨b, i, none⟩ = w.frozen? ⟨b, i, none⟩ := World.frozen?_of_block (h.block b hb hp)

/-- A reader's three cells at block p. -/
structure Rd (W : World) (p : Nat) (v : Value) (a : Int) (e : Value) : Prop where
  c0 : W.cell? ⟨p, 0, none⟩ = some v
  c1 : W.cell? ⟨p, 1, none⟩ = some (.int .i64 a)
  c2 : W.cell? ⟨p, 2, none⟩ = some e
  fz : ∀ i, W.frozen? ⟨p, i, none⟩ = false
theorem Rd.below {W W' : World} {p : Nat} {v : Value} {a : Int} {e : Value} (h : Rd W p v a e) (hb : Below W.heap.size W W') : Rd W' p v a e :=
  have hl := cell_block h.c0
  ⟨(hb.cell (p := ⟨p, 0, none⟩) hl).trans h.c0, (hb.cell (p := ⟨p, 1, none⟩) hl).trans h.c1, (hb.cell (p := ⟨p, 2, none⟩) hl).trans h.c2, fun i => (hb.frozen (p := ⟨p, i, none⟩) hl).trans (h.fz i)⟩
theorem Rd.lt {W : World} {p : Nat} {v : Value} {a : Int} {e : Value} (h : Rd W p v a e) : p < W.heap.size := cell_block h.c0
theorem Rd.seta {W : World} {p : Nat} {v : Value} {a : Int} {e : Value} (h : Rd W p v a e) (a' : Int) : Rd (W.setCell ⟨p, 1, none⟩ (.int .i64 a')) p v a' e :=
  ⟨by rw [World.cell?_setCell_other _ _ _ _ (by simp)]; exact h.c0, World.cell?_setCell_same _ _ _ h.c1, by rw [World.cell?_setCell_other _ _ _ _ (by simp)]; exact h.c2, fun i => by simp [h.fz i]⟩
theorem Rd.sete {W : World} {p : Nat} {v : Value} {a : Int} {e : Value} (h : Rd W p v a e) (e' : Value) : Rd (W.setCell ⟨p, 2, none⟩ e') p v a e' :=
  ⟨by rw [World.cell?_setCell_other _ _ _ _ (by simp)]; exact h.c0, by rw [World.cell?_setCell_other _ _ _ _ (by simp)]; exact h.c1, World.cell?_setCell_same _ _ _ h.c2, fun i => by simp [h.fz i]⟩
theorem Rd.drewN {W : World} {p : Nat} {v : Value} {a : Int} {e : Value} (h : Rd W p v a e) (n : Nat) : Rd (W.drewN n) p v a e := ⟨h.c0, h.c1, h.c2, h.fz⟩

theorem read_any (ao : Option Addr) (L cap : Nat) (w : World) : Calls Tryz.prog 49 #[.slice ao L cap] w fun e w' => e = .returned (.pointer (some ⟨w.heap.size, 0, none⟩)) ∧ Rd w' w.heap.size (.slice ao L cap) 0 .nilIface ∧ Below w.heap.size w w' := by
  go_enter Tryz.func49, Tryz.ntmps49
  go_wp2
  go_ret
  exact ⟨rfl, ⟨by simp, by simp, by simp, fun i => World.frozen?_alloc_at _ _ _ _ rfl⟩, (Below.refl _ _).alloc (Nat.le_refl _) _⟩
theorem at_any (p : Nat) (v : Value) (a : Int) (e : Value) (w : World) (hr : Rd w p v a e) : Calls Tryz.prog 120 #[.pointer (some ⟨p, 0, none⟩)] w fun x w' => x = .returned (.int .i64 a) ∧ w' = w := by
  obtain ⟨c0, c1, c2, fz⟩ := hr
  go_enter Tryz.func120, Tryz.ntmps120
  go_wp2
  go_ret
  exact ⟨rfl, rfl⟩
theorem err_any (p : Nat) (v : Value) (a : Int) (e : Value) (w : World) (hr : Rd w p v a e) : Calls Tryz.prog 122 #[.pointer (some ⟨p, 0, none⟩)] w fun x w' => x = .returned e ∧ w' = w := by
  obtain ⟨c0, c1, c2, fz⟩ := hr
  go_enter Tryz.func122, Tryz.ntmps122
  go_wp2
  go_ret
  exact ⟨rfl, rfl⟩
/-- Something wrong, as fault.New makes it. -/
def ft (op : ByteArray) (a c : Int) : Value := .iface 108 (.agg #[.string op, .int .i64 a, .iface 32 (.int .i64 c)])
theorem refuse_none (p : Nat) (v : Value) (a : Int) (op : ByteArray) (c : Int) (w : World) (hr : Rd w p v a .nilIface) :
    Calls Tryz.prog 87 #[.pointer (some ⟨p, 0, none⟩), .string op, .int .i64 c] w fun x w' => x = .returned (.tuple #[]) ∧ w' = w.setCell ⟨p, 2, none⟩ (ft op a c) := by
  obtain ⟨c0, c1, c2, fz⟩ := hr
  have f2 := fz 2
  go_enter Tryz.func87, Tryz.ntmps87
  go_wp2_with (first | (go_at_call 27; refine (new_any _ _ _ _).mono ?_; rintro e w' ⟨rfl, rfl⟩))
  exact bodyPost_end (v := .tuple #[]) (by simp [results, Tryz.results87]) rfl ⟨rfl, rfl⟩
theorem refuse_some (p : Nat) (v : Value) (a : Int) (t : TypeId) (u : Value) (op : ByteArray) (c : Int) (w : World) (hr : Rd w p v a (.iface t u)) :
    Calls Tryz.prog 87 #[.pointer (some ⟨p, 0, none⟩), .string op, .int .i64 c] w fun x w' => x = .returned (.tuple #[]) ∧ w' = w := by
  obtain ⟨c0, c1, c2, fz⟩ := hr
  go_enter Tryz.func87, Tryz.ntmps87
  go_wp2
  exact bodyPost_end (v := .tuple #[]) (by simp [results, Tryz.results87]) rfl ⟨rfl, rfl⟩
theorem rnum_err (p : Nat) (v : Value) (a most : Int) (t : TypeId) (u : Value) (w : World) (hr : Rd w p v a (.iface t u)) :
    Calls Tryz.prog 118 #[.pointer (some ⟨p, 0, none⟩), .int .u64 most] w fun x w' => x = .returned (.int .u64 0) ∧ w' = w := by
  obtain ⟨c0, c1, c2, fz⟩ := hr
  go_enter Tryz.func118, Tryz.ntmps118
  go_wp2
  go_ret
  exact ⟨rfl, rfl⟩
set_option maxRecDepth 100000 in
set_option maxHeartbeats 4000000 in
theorem rnum_none (p : Nat) (ao : Option Addr) (L cap : Nat) (most : Int) (w : World) (hr : Rd w p (.slice ao L cap) L .nilIface) (hL : L ≤ 100000) (hc : L ≤ cap) :
    Calls Tryz.prog 118 #[.pointer (some ⟨p, 0, none⟩), .int .u64 most] w fun x w' => x = .returned (.int .u64 0) ∧ Rd w' p (.slice ao L cap) L (ft ⟨#[110, 117, 109]⟩ L 3) ∧ Bx p w w' := by
  by_cases hcl : cap = L
  · subst hcl
    obtain ⟨c0, c1, c2, fz⟩ := id hr
    have HR := hide hr
    clear hr fz
    go_enter Tryz.func118, Tryz.ntmps118
    go_wp2_with fail
    go_quiet (fail)
    go_wp2_with (first | (go_at_call 157; refine (announced_none _ _ _).mono ?_; rintro e w' ⟨rfl, rfl⟩) | (go_at_call 87; refine (refuse_none p _ _ _ _ _ (HR.out.drewN _)).mono ?_; rintro e w' ⟨rfl, rfl⟩))
    go_ret
    exact ⟨rfl, (HR.out.drewN _).sete _, ((Bx.refl p w).drewN _).set _ _⟩
  · obtain ⟨c0, c1, c2, fz⟩ := id hr
    have HR := hide hr
    clear hr fz
    go_enter Tryz.func118, Tryz.ntmps118
    go_wp2_with fail
    go_quiet (fail)
    go_wp2_with (first | (go_at_call 157; refine (announced_none _ _ _).mono ?_; rintro e w' ⟨rfl, rfl⟩) | (go_at_call 87; refine (refuse_none p _ _ _ _ _ (HR.out.drewN _)).mono ?_; rintro e w' ⟨rfl, rfl⟩))
    go_ret
    exact ⟨rfl, (HR.out.drewN _).sete _, ((Bx.refl p w).drewN _).set _ _⟩
set_option maxRecDepth 100000 in
set_option maxHeartbeats 4000000 in
theorem rnum_short (p b o L cap a : Nat) (most K : Int) (w : World) (hr : Rd w p (.slice (some ⟨b, o, none⟩) L cap) a .nilIface) (_hL : L ≤ 100000) (hc : L ≤ cap) (ha : a < L) (hk : ((L - a : Nat) : Int) < K)
    (HA : Hid (∀ n, Calls Tryz.prog 157 #[.slice (some ⟨b, o + a, none⟩) (L - a) (cap - a)] (w.drewN n) fun e w' => e = .returned (.int .i64 K) ∧ w' = w.drewN n)) :
    Calls Tryz.prog 118 #[.pointer (some ⟨p, 0, none⟩), .int .u64 most] w fun x w' => x = .returned (.int .u64 0) ∧ Rd w' p (.slice (some ⟨b, o, none⟩) L cap) a (ft ⟨#[110, 117, 109]⟩ a 3) ∧ Bx p w w' := by
  obtain ⟨c0, c1, c2, fz⟩ := id hr
  have HR := hide hr
  have hne : ¬ cap = a := by omega
  clear hr fz
  go_enter Tryz.func118, Tryz.ntmps118
  go_wp2_with fail
  go_quiet (fail)
  go_wp2_with (first | (go_at_call 157; refine (HA.out _).mono ?_; rintro e w' ⟨rfl, rfl⟩) | (go_at_call 87; refine (refuse_none p _ _ _ _ _ (HR.out.drewN _)).mono ?_; rintro e w' ⟨rfl, rfl⟩))
  go_ret
  exact ⟨rfl, (HR.out.drewN _).sete _, ((Bx.refl p w).drewN _).set _ _⟩
set_option maxRecDepth 100000 in
set_option maxHeartbeats 4000000 in
theorem rnum_kind (p b o L cap a : Nat) (most K N S : Int) (w : World) (hr : Rd w p (.slice (some ⟨b, o, none⟩) L cap) a .nilIface) (_hL : L ≤ 100000) (hc : L ≤ cap) (ha : a < L) (k0 : 0 ≤ K) (hk : K ≤ ((L - a : Nat) : Int)) (hs : S < K)
    (HA : Hid (∀ n, Calls Tryz.prog 157 #[.slice (some ⟨b, o + a, none⟩) (L - a) (cap - a)] (w.drewN n) fun e w' => e = .returned (.int .i64 K) ∧ w' = w.drewN n))
    (HN : Hid (∀ n, Calls Tryz.prog 158 #[.slice (some ⟨b, o + a, none⟩) K.toNat (cap - a)] (w.drewN n) fun e w' => e = .returned (.int .u64 N) ∧ Below w.heap.size (w.drewN n) w'))
    (HS : Hid (∀ W, Calls Tryz.prog 112 #[.int .u64 N] W fun e w' => e = .returned (.int .i64 S) ∧ w' = W)) :
    Calls Tryz.prog 118 #[.pointer (some ⟨p, 0, none⟩), .int .u64 most] w fun x w' => x = .returned (.int .u64 0) ∧ Rd w' p (.slice (some ⟨b, o, none⟩) L cap) a (ft ⟨#[110, 117, 109]⟩ a 5) ∧ Bx p w w' := by
  obtain ⟨c0, c1, c2, fz⟩ := id hr
  have HR := hide hr
  have hne : ¬ cap = a := by omega
  clear hr fz
  go_enter Tryz.func118, Tryz.ntmps118
  go_wp2_with fail
  go_quiet (fail)
  go_wp2_with (first | (go_at_call 157; refine (HA.out _).mono ?_; rintro e w' ⟨rfl, rfl⟩) | (go_at_call 158; refine (HN.out _).mono ?_; rintro e w' ⟨rfl, hb⟩; have hr' := (HR.out.drewN _).below hb; obtain ⟨d0, d1, d2, fz'⟩ := id hr'; have f1 := fz' 1; clear fz'; have HR' := hide hr'; clear hr'; have HB' := hide hb; clear hb) | (go_at_call 112; refine (HS.out _).mono ?_; rintro e w' ⟨rfl, rfl⟩) | (go_at_call 87; refine (refuse_none p _ _ _ _ _ HR'.out).mono ?_; rintro e w' ⟨rfl, rfl⟩))
  go_ret
  exact ⟨rfl, HR'.out.sete _, (((Bx.refl p w).drewN _).call HB'.out).set _ _⟩
set_option maxRecDepth 100000 in
set_option maxHeartbeats 4000000 in
theorem rnum_limit (p b o L cap a : Nat) (most K N S : Int) (w : World) (hr : Rd w p (.slice (some ⟨b, o, none⟩) L cap) a .nilIface) (_hL : L ≤ 100000) (hc : L ≤ cap) (ha : a < L) (k0 : 0 ≤ K) (hk : K ≤ ((L - a : Nat) : Int)) (hs : ¬ S < K) (hm : most < N)
    (HA : Hid (∀ n, Calls Tryz.prog 157 #[.slice (some ⟨b, o + a, none⟩) (L - a) (cap - a)] (w.drewN n) fun e w' => e = .returned (.int .i64 K) ∧ w' = w.drewN n))
    (HN : Hid (∀ n, Calls Tryz.prog 158 #[.slice (some ⟨b, o + a, none⟩) K.toNat (cap - a)] (w.drewN n) fun e w' => e = .returned (.int .u64 N) ∧ Below w.heap.size (w.drewN n) w'))
    (HS : Hid (∀ W, Calls Tryz.prog 112 #[.int .u64 N] W fun e w' => e = .returned (.int .i64 S) ∧ w' = W)) :
    Calls Tryz.prog 118 #[.pointer (some ⟨p, 0, none⟩), .int .u64 most] w fun x w' => x = .returned (.int .u64 0) ∧ Rd w' p (.slice (some ⟨b, o, none⟩) L cap) a (ft ⟨#[110, 117, 109]⟩ a 6) ∧ Bx p w w' := by
  obtain ⟨c0, c1, c2, fz⟩ := id hr
  have HR := hide hr
  have hne : ¬ cap = a := by omega
  clear hr fz
  go_enter Tryz.func118, Tryz.ntmps118
  go_wp2_with fail
  go_quiet (fail)
  go_wp2_with (first | (go_at_call 157; refine (HA.out _).mono ?_; rintro e w' ⟨rfl, rfl⟩) | (go_at_call 158; refine (HN.out _).mono ?_; rintro e w' ⟨rfl, hb⟩; have hr' := (HR.out.drewN _).below hb; obtain ⟨d0, d1, d2, fz'⟩ := id hr'; have f1 := fz' 1; clear fz'; have HR' := hide hr'; clear hr'; have HB' := hide hb; clear hb) | (go_at_call 112; refine (HS.out _).mono ?_; rintro e w' ⟨rfl, rfl⟩) | (go_at_call 87; refine (refuse_none p _ _ _ _ _ HR'.out).mono ?_; rintro e w' ⟨rfl, rfl⟩))
  go_ret
  exact ⟨rfl, HR'.out.sete _, (((Bx.refl p w).drewN _).call HB'.out).set _ _⟩
set_option maxRecDepth 100000 in
set_option maxHeartbeats 4000000 in
theorem rnum_ok (p b o L cap a : Nat) (most K N S : Int) (w : World) (hr : Rd w p (.slice (some ⟨b, o, none⟩) L cap) a .nilIface) (hL : L ≤ 100000) (hc : L ≤ cap) (ha : a < L) (k0 : 0 ≤ K) (hk : K ≤ ((L - a : Nat) : Int)) (hs : ¬ S < K) (hm : ¬ most < N)
    (HA : Hid (∀ n, Calls Tryz.prog 157 #[.slice (some ⟨b, o + a, none⟩) (L - a) (cap - a)] (w.drewN n) fun e w' => e = .returned (.int .i64 K) ∧ w' = w.drewN n))
    (HN : Hid (∀ n, Calls Tryz.prog 158 #[.slice (some ⟨b, o + a, none⟩) K.toNat (cap - a)] (w.drewN n) fun e w' => e = .returned (.int .u64 N) ∧ Below w.heap.size (w.drewN n) w'))
    (HS : Hid (∀ W, Calls Tryz.prog 112 #[.int .u64 N] W fun e w' => e = .returned (.int .i64 S) ∧ w' = W)) :
    Calls Tryz.prog 118 #[.pointer (some ⟨p, 0, none⟩), .int .u64 most] w fun x w' => x = .returned (.int .u64 N) ∧ Rd w' p (.slice (some ⟨b, o, none⟩) L cap) (a + K) .nilIface ∧ Bx p w w' := by
  obtain ⟨c0, c1, c2, fz⟩ := id hr
  have HR := hide hr
  have hne : ¬ cap = a := by omega
  clear hr fz
  go_enter Tryz.func118, Tryz.ntmps118
  go_wp2_with fail
  go_quiet (fail)
  go_wp2_with (first | (go_at_call 157; refine (HA.out _).mono ?_; rintro e w' ⟨rfl, rfl⟩) | (go_at_call 158; refine (HN.out _).mono ?_; rintro e w' ⟨rfl, hb⟩; have hr' := (HR.out.drewN _).below hb; obtain ⟨d0, d1, d2, fz'⟩ := id hr'; have f1 := fz' 1; clear fz'; have HR' := hide hr'; clear hr'; have HB' := hide hb; clear hb) | (go_at_call 112; refine (HS.out _).mono ?_; rintro e w' ⟨rfl, rfl⟩))
  go_ret
  exact ⟨rfl, HR'.out.seta _, (((Bx.refl p w).drewN _).call HB'.out).set _ _⟩
end Go.Proofs.YtkpknkhacmggnaaGreatDoor
namespace Go.Proofs.YtkpknkhacmggnaaGreatDoor
open Go.RowKit

theorem drop_get {l r : List Int} {a i : Nat} {x : Int} (h : l.drop a = r) (hi : r[i]? = some x) : ∃ hlt : a + i < l.length, l[a + i] = x := by
  rw [← h, List.getElem?_drop] at hi
  obtain ⟨h1, h2⟩ := List.getElem?_eq_some_iff.1 hi
  exact ⟨h1, h2⟩
theorem drop_size {l r : List Int} {a : Nat} (h : l.drop a = r) : r.length = l.length - a := by rw [← h, List.length_drop]
/-- What is wrong behind a call that told the code c: nothing, or that. -/
def erN (op : ByteArray) (a : Int) (c : Int) : Value := if c = 0 then .nilIface else ft op a c
/-- What a number of k bytes comes to. -/
theorem rnum_fin (p b o L cap a k : Nat) (most N lo : Int) (w : World) (hr : Rd w p (.slice (some ⟨b, o, none⟩) L cap) a .nilIface) (hL : L ≤ 100000) (hc : L ≤ cap) (hk0 : 0 < k) (hk : a + k ≤ L) (hlo : N < lo ↔ szL N < k)
    (HA : ∀ n, Calls Tryz.prog 157 #[.slice (some ⟨b, o + a, none⟩) (L - a) (cap - a)] (w.drewN n) fun e w' => e = .returned (.int .i64 (k : Int)) ∧ w' = w.drewN n)
    (HN : ∀ n, Calls Tryz.prog 158 #[.slice (some ⟨b, o + a, none⟩) k (cap - a)] (w.drewN n) fun e w' => e = .returned (.int .u64 N) ∧ Below w.heap.size (w.drewN n) w') :
    Calls Tryz.prog 118 #[.pointer (some ⟨p, 0, none⟩), .int .u64 most] w fun x w' => x = .returned (.int .u64 (finN k lo N most).2.2) ∧ Rd w' p (.slice (some ⟨b, o, none⟩) L cap) (a + (finN k lo N most).2.1 : Nat) (erN ⟨#[110, 117, 109]⟩ a (finN k lo N most).1) ∧ Bx p w w' := by
  by_cases h1 : N < lo
  · rw [finN, if_pos h1]
    exact rnum_kind p b o L cap a most k N (szL N) w hr hL hc (by omega) (by omega) (by omega) (hlo.1 h1) (hide HA) (hide HN) (hide (wsize_any N))
  · rw [finN, if_neg h1]
    by_cases h2 : most < N
    · rw [if_pos h2]
      exact rnum_limit p b o L cap a most k N (szL N) w hr hL hc (by omega) (by omega) (by omega) (fun h => h1 (hlo.2 h)) h2 (hide HA) (hide HN) (hide (wsize_any N))
    · rw [if_neg h2]
      exact rnum_ok p b o L cap a most k N (szL N) w hr hL hc (by omega) (by omega) (by omega) (fun h => h1 (hlo.2 h)) h2 (hide HA) (hide HN) (hide (wsize_any N))
theorem sz_lt_2 (n : Int) : n < 64 ↔ szL n < (2 : Nat) := by
  unfold szL numL
  split
  · simp; omega
  · split
    · simp; omega
    · split <;> simp <;> omega
theorem sz_lt_4 (n : Int) : n < 16384 ↔ szL n < (4 : Nat) := by
  unfold szL numL
  split
  · simp; omega
  · split
    · simp; omega
    · split <;> simp <;> omega
theorem sz_lt_8 (n : Int) : n < 1073741824 ↔ szL n < (8 : Nat) := by
  unfold szL numL
  split
  · simp; omega
  · split
    · simp; omega
    · split <;> simp <;> omega
theorem sz_lt_1 (n : Int) (h : 0 ≤ n) : n < 0 ↔ szL n < (1 : Nat) := by
  unfold szL numL
  split
  · simp; omega
  · split
    · simp; omega
    · split <;> simp <;> omega

theorem rnum_any (p : Nat) (v : Value) (l : List Int) (a : Nat) (most : Int) (w : World) (hr : Rd w p v a .nilIface) (hv : Sl bc w v l) (hl : l.length ≤ 100000) (hby : Byt l) (ha : a ≤ l.length) :
    Calls Tryz.prog 118 #[.pointer (some ⟨p, 0, none⟩), .int .u64 most] w fun x w' => x = .returned (.int .u64 (numS (l.drop a) most).2.2) ∧ Rd w' p v (a + (numS (l.drop a) most).2.1 : Nat) (erN ⟨#[110, 117, 109]⟩ a (numS (l.drop a) most).1) ∧ Bx p w w' := by
  generalize hd : l.drop a = r
  have hlen := drop_size hd
  rcases r with _ | ⟨x0, r⟩
  · obtain rfl : a = l.length := by simp at hlen; omega
    rcases hv with ⟨ao, cap, rfl, rfl⟩ | ⟨b, o, cap, rfl, hc, _⟩
    · exact rnum_none p ao 0 cap most w hr (by omega) (by omega)
    · exact rnum_none p (some ⟨b, o, none⟩) l.length cap most w hr hl hc
  · rcases hv with ⟨ao, cap, rfl, rfl⟩ | ⟨b, o, cap, rfl, hc, h3⟩
    · simp at hd
    · have get : ∀ i x, (x0 :: r)[i]? = some x → (∀ n, (w.drewN n).cell? ⟨b, o + a + i, none⟩ = some (.int .u8 x)) ∧ 0 ≤ x ∧ x ≤ 255 := by
        intro i x hx
        obtain ⟨h1, h2⟩ := drop_get hd hx
        have h4 := h3 (a + i) h1
        rw [h2, ← Nat.add_assoc] at h4
        exact ⟨fun n => h4, hby x (by rw [← h2]; exact List.getElem_mem h1)⟩
      obtain ⟨c0, l0, u0⟩ := get 0 x0 rfl
      have hal : a < l.length := by simp at hlen; omega
      have HA : ∀ n, Calls Tryz.prog 157 #[.slice (some ⟨b, o + a, none⟩) (l.length - a) (cap - a)] (w.drewN n) fun e w' => e = .returned (.int .i64 (annL x0)) ∧ w' = w.drewN n := fun n => announced_some b (o + a) (l.length - a) (cap - a) x0 (w.drewN n) (by omega) l0 u0 (c0 n)
      by_cases k0 : x0 / 64 = 0
      · have e1 : annL x0 = ((1 : Nat) : Int) := if_pos k0
        rw [e1] at HA
        simp only [numS, if_pos k0]
        exact rnum_fin p b o l.length cap a 1 most (x0 % 64) 0 w hr hl hc (by omega) (by omega) (sz_lt_1 _ (by omega)) HA (fun n => number_1 b (o + a) (cap - a) x0 (w.drewN n) l0 u0 (c0 n))
      · by_cases k1 : x0 / 64 = 1
        · have e1 : annL x0 = ((2 : Nat) : Int) := by rw [annL, if_neg k0, if_pos k1]; rfl
          rw [e1] at HA
          simp only [numS, if_neg k0, if_pos k1]
          rcases r with _ | ⟨x1, r⟩
          · exact rnum_short p b o l.length cap a most 2 w hr hl hc hal (by simp at hlen; omega) (hide HA)
          · obtain ⟨c1, l1, u1⟩ := get 1 x1 rfl
            exact rnum_fin p b o l.length cap a 2 most _ 64 w hr hl hc (by omega) (by simp at hlen; omega) (sz_lt_2 _) HA (fun n => number_2 b (o + a) (cap - a) x0 x1 (w.drewN n) l0 u0 l1 u1 (by simp at hlen; omega) (c0 n) (c1 n))
        · by_cases k2 : x0 / 64 = 2
          · have e1 : annL x0 = ((4 : Nat) : Int) := by rw [annL, if_neg k0, if_neg k1, if_pos k2]; rfl
            rw [e1] at HA
            simp only [numS, if_neg k0, if_neg k1, if_pos k2]
            rcases r with _ | ⟨x1, _ | ⟨x2, _ | ⟨x3, r⟩⟩⟩
            · exact rnum_short p b o l.length cap a most 4 w hr hl hc hal (by simp at hlen; omega) (hide HA)
            · exact rnum_short p b o l.length cap a most 4 w hr hl hc hal (by simp at hlen; omega) (hide HA)
            · exact rnum_short p b o l.length cap a most 4 w hr hl hc hal (by simp at hlen; omega) (hide HA)
            · obtain ⟨c1, l1, u1⟩ := get 1 x1 rfl
              obtain ⟨c2, l2, u2⟩ := get 2 x2 rfl
              obtain ⟨c3, l3, u3⟩ := get 3 x3 rfl
              exact rnum_fin p b o l.length cap a 4 most _ 16384 w hr hl hc (by omega) (by simp at hlen; omega) (sz_lt_4 _) HA (fun n => number_4 b (o + a) (cap - a) x0 x1 x2 x3 (w.drewN n) l0 u0 l1 u1 l2 u2 l3 u3 (by simp at hlen; omega) (c0 n) (c1 n) (c2 n) (c3 n))
          · have e1 : annL x0 = ((8 : Nat) : Int) := by rw [annL, if_neg k0, if_neg k1, if_neg k2]; rfl
            rw [e1] at HA
            simp only [numS, if_neg k0, if_neg k1, if_neg k2]
            rcases r with _ | ⟨x1, _ | ⟨x2, _ | ⟨x3, _ | ⟨x4, _ | ⟨x5, _ | ⟨x6, _ | ⟨x7, r⟩⟩⟩⟩⟩⟩⟩
            · exact rnum_short p b o l.length cap a most 8 w hr hl hc hal (by simp at hlen; omega) (hide HA)
            · exact rnum_short p b o l.length cap a most 8 w hr hl hc hal (by simp at hlen; omega) (hide HA)
            · exact rnum_short p b o l.length cap a most 8 w hr hl hc hal (by simp at hlen; omega) (hide HA)
            · exact rnum_short p b o l.length cap a most 8 w hr hl hc hal (by simp at hlen; omega) (hide HA)
            · exact rnum_short p b o l.length cap a most 8 w hr hl hc hal (by simp at hlen; omega) (hide HA)
            · exact rnum_short p b o l.length cap a most 8 w hr hl hc hal (by simp at hlen; omega) (hide HA)
            · exact rnum_short p b o l.length cap a most 8 w hr hl hc hal (by simp at hlen; omega) (hide HA)
            · obtain ⟨c1, l1, u1⟩ := get 1 x1 rfl
              obtain ⟨c2, l2, u2⟩ := get 2 x2 rfl
              obtain ⟨c3, l3, u3⟩ := get 3 x3 rfl
              obtain ⟨c4, l4, u4⟩ := get 4 x4 rfl
              obtain ⟨c5, l5, u5⟩ := get 5 x5 rfl
              obtain ⟨c6, l6, u6⟩ := get 6 x6 rfl
              obtain ⟨c7, l7, u7⟩ := get 7 x7 rfl
              exact rnum_fin p b o l.length cap a 8 most _ 1073741824 w hr hl hc (by omega) (by simp at hlen; omega) (sz_lt_8 _) HA (fun n => number_8 b (o + a) (cap - a) x0 x1 x2 x3 x4 x5 x6 x7 (w.drewN n) l0 u0 l1 u1 l2 u2 l3 u3 l4 u4 l5 u5 l6 u6 l7 u7 (by simp at hlen; omega) (c0 n) (c1 n) (c2 n) (c3 n) (c4 n) (c5 n) (c6 n) (c7 n))

set_option maxHeartbeats 4000000 in
theorem rint_of (p : Nat) (m M N : Int) (w : World) (hm : m ≤ 9223372036854775807) (hM : M = abv' m) (hN : 0 ≤ N ∧ N ≤ 9223372036854775807) {R : World → Prop} (HC : Hid (Calls Tryz.prog 118 #[.pointer (some ⟨p, 0, none⟩), .int .u64 M] w fun x w' => x = .returned (.int .u64 N) ∧ R w')) :
    Calls Tryz.prog 83 #[.pointer (some ⟨p, 0, none⟩), .int .i64 m] w fun x w' => x = .returned (.int .i64 N) ∧ R w' := by
  subst hM
  obtain ⟨n0, n1⟩ := hN
  go_enter Tryz.func83, Tryz.ntmps83
  go_wp2_with (first | (go_at_call 111; refine (natural_any m _ hm).mono ?_; rintro e w' ⟨rfl, rfl⟩) | (go_at_call 118; refine (HC.out).mono ?_; rintro e w' ⟨rfl, hR⟩))
  go_ret
  exact ⟨rfl, hR⟩
theorem fin_bad {k : Nat} {lo n most : Int} {c : Int} {j : Nat} {m : Int} (h : finN k lo n most = (c, j, m)) (hc : c ≠ 0) : j = 0 ∧ m = 0 := by
  unfold finN at h
  split at h
  · simp at h; omega
  · split at h
    · simp at h; omega
    · simp at h; omega
theorem numS_bad {r : List Int} {most : Int} {c : Int} {k : Nat} {n : Int} (h : numS r most = (c, k, n)) (hc : c ≠ 0) : k = 0 ∧ n = 0 := by
  unfold numS at h
  split at h
  · simp at h; omega
  · split at h
    · exact fin_bad h hc
    · split at h
      · split at h
        · exact fin_bad h hc
        · simp at h; omega
      · split at h
        · split at h
          · exact fin_bad h hc
          · simp at h; omega
        · split at h
          · exact fin_bad h hc
          · simp at h; omega
theorem numS_range (r : List Int) (most : Int) (h : Byt r) : 0 ≤ (numS r most).2.2 ∧ (numS r most).2.2 ≤ 4611686018427387903 := by
  rcases hq : numS r most with ⟨c, k, n⟩
  by_cases h0 : c = 0
  · subst h0
    obtain ⟨_, _, h1, h2, _⟩ := numS_once h hq
    exact ⟨h1, h2⟩
  · have h1 := numS_bad hq h0
    simp only [h1.2]
    decide
end Go.Proofs.YtkpknkhacmggnaaGreatDoor
