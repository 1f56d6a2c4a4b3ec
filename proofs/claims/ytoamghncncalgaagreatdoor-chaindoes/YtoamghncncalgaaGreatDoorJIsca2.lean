/-
  errors.Is AT A TARGET OF TYPE Code, and fault.Is over it: a chain of Faults is the Code that it ends in, and no other; nil is none. No condition.
  fault.outermost AT THE TYPES Fault AND Code: the outermost Fault of a chain; the Code that a chain ends in; the zero value and false where there is none. Condition: errors.errorType holds the handle of the type error.
-/
import Derived.Test.YtoamghncncalgaaGreatDoorJAsa2
import Derived.Defers
import Derived.Recover
namespace Go.Proofs.YtoamghncncalgaaGreatDoor
open Go.RowKit Go.Extern.Stop Go.Stop Go.Extern

theorem eql6032 (x y : Value) (w : World) : (binOp .eql 27 (.iface 120 x) (.iface 40 y)).run Tryz.prog w = .ok (.bool false) w := run_eql_iface_types 120 40 x y Tryz.underlying27 (by decide) w
theorem eql3232 (a b : Int) (w : World) : (binOp .eql 27 (.iface 40 (.int .i64 a)) (.iface 40 (.int .i64 b))).run Tryz.prog w = .ok (.bool (a == b)) w := by kernel_rfl
theorem eqlNil32 (y : Value) (w : World) : (binOp .eql 27 .nilIface (.iface 40 y)).run Tryz.prog w = .ok (.bool false) w := by kernel_rfl

theorem comparableM (w : World) : (ReflectliteType.method (fun t => do Rtype.noPackHeld "Comparable" t; (fun a : TypeInfo => Value.bool a.comparable) <$> typeInfo t) #[.agg #[.pointer (some ⟨1, 40, none⟩)]]).run Tryz.prog w = .ok (.bool true) w := by kernel_rfl

/-- Is the innermost error that Code? -/
def isB (c q : Int) : Bool := c == q

set_option maxRecDepth 100000 in
set_option maxHeartbeats 4000000 in
theorem is35 (l : List (ByteArray × Int)) (c : Int) (q : Int) (w : World) :
    Calls Tryz.prog 80 #[chn l (bse c), .iface 40 (.int .i64 q), .bool true] w
      fun ev w' => ev = .returned (.bool (isB c q)) ∧ Below w.heap.size w w' := by
  have m5 := mUnwrap
  have a1 := noIs60
  have a2 := unwraps60
  have c1 := noIs32
  have c2 := noUnwrap32
  have c3 := noUnwraps32
  have e1 := eql6032
  have e3 := eql3232
  go_enter Tryz.func80, Tryz.ntmps80
  go_wp2
  go_loopw [0] (fun e W => ∃ l : List (ByteArray × Int), e = chn l (bse c) ∧ Below w.heap.size w W ∧ w.heap.size ≤ W.heap.size) (fun e _ => SizeOf.sizeOf e)
  case atStart => exact ⟨l, rfl, Below.refl _ _, by simp⟩
  case round =>
    obtain ⟨l', he, hb, hs⟩ := hrel
    rcases l' with _ | ⟨s, _ | ⟨s', l'⟩⟩
    · simp only [chn, bse] at he
      subst he
      rcases Bool.eq_false_or_eq_true (c == q) with hq | hq
      · go_wp2
        go_ret
        exact ⟨by simp only [isB, hq]; rfl, hb⟩
      · go_wp2
        go_ret
        exact ⟨by simp only [isB, hq]; rfl, hb⟩
    · simp only [chn] at he
      obtain ⟨ty, v, hv⟩ := chn_form [] c
      have HV : Hid (chn [] (bse c) = .iface ty v) := hv
      simp only [chn] at hv
      rw [hv] at he
      subst he
      clear hv
      go_wp2
      go_roundw
      case rel => exact ⟨[], HV.out.symm, hb.alloc hs _, by simp; omega⟩
      case measure => exact size_inner _ _ _
    · simp only [chn] at he
      subst he
      go_wp2
      go_roundw
      case rel => exact ⟨s' :: l', rfl, hb.alloc hs _, by simp; omega⟩
      case measure => exact size_inner _ _ _

theorem eis_nil (q : Int) (w : World) :
    Calls Tryz.prog 64 #[.nilIface, .iface 40 (.int .i64 q)] w fun ev w' => ev = .returned (.bool false) ∧ w' = w := by
  have e1 := eqlNil32
  go_enter Tryz.func64, Tryz.ntmps64
  go_wp2
  go_ret
  exact ⟨rfl, rfl⟩

set_option maxRecDepth 100000 in
set_option maxHeartbeats 4000000 in
theorem eis_chn (l : List (ByteArray × Int)) (c : Int) (q : Int) (w : World) :
    Calls Tryz.prog 64 #[chn l (bse c), .iface 40 (.int .i64 q)] w
      fun ev w' => ev = .returned (.bool (isB c q)) ∧ Below w.heap.size w w' := by
  have h34 := h34
  have h69 := h69
  have f1 := typeOf32
  have f2 := mComparable
  have f3 := comparableM
  have hc := is35 l c q w
  obtain ⟨ty, v, hv⟩ := chn_form l c
  rw [hv] at hc ⊢
  have HC := hide hc
  clear hc hv
  go_enter Tryz.func64, Tryz.ntmps64
  go_wp2_with (first | (go_at_call 80; refine (HC.out).mono ?_; rintro e w' ⟨rfl, hb⟩))
  go_ret
  exact ⟨rfl, hb⟩

theorem idle29 (p : Addr) (w : World) :
    CallsD Tryz.prog 63 #[.pointer (some p)] .returning w fun e u' w' => e = .returned (.tuple #[]) ∧ u' = .returning ∧ w' = w := by
  refine callsD_of_wpS Tryz.func63 rfl fun c₀ cs hu => ?_
  apply wpS_seq
  apply wpS_region
  simp [wpOpsS, go_sem, recoverD, hu, Tryz.ntmps63, Exit.thenS]
  refine wpS_cond (t := false) (by simp [Act.eval, Array.replicate]) ?_
  simp only [Bool.false_eq_true, if_false]
  refine wpS_of_wp (wp_skip ?_)
  cases c₀
  simp_all [bodyPostS, results, Tryz.results63]
theorem idle39 (p q : Addr) (w : World) :
    CallsD Tryz.prog 73 #[.pointer (some p), .pointer (some q)] .returning w fun e u' w' => e = .returned (.tuple #[]) ∧ u' = .returning ∧ w' = w := by
  refine callsD_of_wpS Tryz.func73 rfl fun c₀ cs hu => ?_
  apply wpS_seq
  apply wpS_region
  simp [wpOpsS, go_sem, recoverD, hu, Tryz.ntmps73, Exit.thenS]
  refine wpS_cond (t := false) (by simp [Act.eval, Array.replicate]) ?_
  simp only [Bool.false_eq_true, if_false]
  refine wpS_of_wp (wp_skip ?_)
  cases c₀
  simp_all [bodyPostS, results, Tryz.results73]

theorem is_nil (q : Int) (w : World) :
    Calls Tryz.prog 30 #[.nilIface, .int .i64 q] w fun ev w' => ev = .returned (.bool false) ∧ Below w.heap.size w w' := by
  have hmf : ∀ (fn : Fn) (first cap : Array Value) (w : World), (Instr.makeFunc fn first cap).run Tryz.prog w = .ok (.func fn first cap) w := fun _ _ _ _ => rfl
  go_enter_defers Tryz.func30, Tryz.ntmps30
  go_wp2_with (first | (go_at_call 64; refine (eis_nil _ _).mono ?_; rintro e w' ⟨rfl, rfl⟩))
  refine leaves_cons (f := 63) (args := #[.pointer (some ⟨w.heap.size, 0, none⟩)]) (by simp) (by simp [go_sem]) ?_
  refine (idle29 ⟨w.heap.size, 0, none⟩ _).mono ?_
  rintro e u' w'' ⟨rfl, rfl, rfl⟩
  simp [Leaves, settle, results, Tryz.results30, go_sem]
  exact (Below.refl _ _).alloc (Nat.le_refl _) _

set_option maxRecDepth 100000 in
set_option maxHeartbeats 4000000 in
theorem is_chn (l : List (ByteArray × Int)) (c : Int) (q : Int) (w : World) :
    Calls Tryz.prog 30 #[chn l (bse c), .int .i64 q] w
      fun ev w' => ev = .returned (.bool (isB c q)) ∧ Below w.heap.size w w' := by
  have hmf : ∀ (fn : Fn) (first cap : Array Value) (w : World), (Instr.makeFunc fn first cap).run Tryz.prog w = .ok (.func fn first cap) w := fun _ _ _ _ => rfl
  go_enter_defers Tryz.func30, Tryz.ntmps30
  go_wp2_with (first | (go_at_call 64; refine (eis_chn l c q _).mono ?_; rintro e w' ⟨rfl, hb⟩; obtain ⟨hc, hf⟩ := bcell hb))
  refine leaves_cons (f := 63) (args := #[.pointer (some ⟨w.heap.size, 0, none⟩)]) (by simp) (by simp [go_sem]) ?_
  refine (idle29 ⟨w.heap.size, 0, none⟩ _).mono ?_
  rintro e u' w'' ⟨rfl, rfl, rfl⟩
  simp [Leaves, settle, results, Tryz.results30, go_sem, hc]
  exact (((Below.refl _ _).alloc (Nat.le_refl _) _).trans (hb.mono (by simp))).setCell (by simp) _
end Go.Proofs.YtoamghncncalgaaGreatDoor
namespace Go.Proofs.YtoamghncncalgaaGreatDoor
open Go.RowKit Go.Extern.Stop Go.Stop Go.Extern

/-- errors.errorType holds the handle of the type error. -/
def Hnd (w : World) : Prop := w.cell? ⟨0, 0, none⟩ = some (.iface 164 (.agg #[.pointer (some ⟨1, 27, none⟩)]))
theorem Hnd.below {w w' : World} (h : Hnd w) (hb : Below w.heap.size w w') : Hnd w' := (hb.cell (size_of_handle h)).trans h

theorem three_cells {u : World} {n : Nat} {x y z x' y' z' : Value} (h0 : u.cell? ⟨n, 0, none⟩ = some x') (h1 : u.cell? ⟨n, 1, none⟩ = some y') (h2 : u.cell? ⟨n, 2, none⟩ = some z') :
    (((u.setCell ⟨n, 0, none⟩ x).setCell ⟨n, 1, none⟩ y).setCell ⟨n, 2, none⟩ z).cell? ⟨n, 0, none⟩ = some x ∧ (((u.setCell ⟨n, 0, none⟩ x).setCell ⟨n, 1, none⟩ y).setCell ⟨n, 2, none⟩ z).cell? ⟨n, 1, none⟩ = some y ∧
      (((u.setCell ⟨n, 0, none⟩ x).setCell ⟨n, 1, none⟩ y).setCell ⟨n, 2, none⟩ z).cell? ⟨n, 2, none⟩ = some z := by
  refine ⟨?_, ?_, ?_⟩
  · rw [World.cell?_setCell_other _ _ _ _ (by simp), World.cell?_setCell_other _ _ _ _ (by simp)]
    exact World.cell?_setCell_same _ _ _ h0
  · rw [World.cell?_setCell_other _ _ _ _ (by simp)]
    refine World.cell?_setCell_same _ _ _ (u := y') ?_
    rw [World.cell?_setCell_other _ _ _ _ (by simp)]
    exact h1
  · refine World.cell?_setCell_same _ _ _ (u := z') ?_
    rw [World.cell?_setCell_other _ _ _ _ (by simp), World.cell?_setCell_other _ _ _ _ (by simp)]
    exact h2


theorem as_nil_below (t : Value) (w : World) :
    Calls Tryz.prog 74 #[.nilIface, t] w fun e w' => e = .returned (.bool false) ∧ Below w.heap.size w w' :=
  (as_nil t w).mono fun _ _ ⟨he, hw⟩ => ⟨he, by rw [hw]; exact Below.refl _ _⟩



set_option maxRecDepth 100000 in
set_option maxHeartbeats 4000000 in
theorem outC_some (l : List (ByteArray × Int)) (k : Int) (w : World) (hg : Hnd w) :
    Calls Tryz.prog 44 #[chn l (bse k)] w
      fun ev w' => ev = .returned (.tuple #[.int .i64 k, .bool true]) ∧ Below w.heap.size w w' := by
  have hlt := size_of_handle hg
  have hmf : ∀ (fn : Fn) (first cap : Array Value) (w : World), (Instr.makeFunc fn first cap).run Tryz.prog w = .ok (.func fn first cap) w := fun _ _ _ _ => rfl
  have hg2 : Hnd ((w.alloc (.cells #[.int .i64 0] 40)).alloc (.cells #[.bool false] 4)) := hg.below (((Below.refl _ _).alloc (Nat.le_refl _) _).alloc (by simp) _)
  have hc := as32_some l k w.heap.size (.int .i64 0) _ hg2 (by simp) (by simp)
  obtain ⟨ty, v, hv⟩ := chn_form l k
  rw [hv] at hc ⊢
  have HC := hide hc
  clear hg hg2 hc hv
  go_enter_defers Tryz.func44, Tryz.ntmps44
  go_wp2_with (first | (go_at_call 74; refine (HC.out).mono ?_; rintro e w' ⟨rfl, u, hb, rfl⟩; obtain ⟨hc, hf⟩ := bcell hb))
  have hu0 : u.cell? ⟨w.heap.size, 0, none⟩ = some (.int .i64 0) := by rw [hc _ _ (by simp; omega)]; simp
  have hu3 : u.cell? ⟨w.heap.size + 1, 0, none⟩ = some (.bool false) := by rw [hc _ _ (by simp)]; simp
  generalize hV : World.setCell _ ⟨w.heap.size + 1, 0, none⟩ (.bool true) = V
  have c0 : V.cell? ⟨w.heap.size, 0, none⟩ = some (.int .i64 k) := by
    rw [← hV, World.cell?_setCell_other _ _ _ _ (by simp)]
    exact World.cell?_setCell_same _ _ _ hu0
  have c3 : V.cell? ⟨w.heap.size + 1, 0, none⟩ = some (.bool true) := by
    rw [← hV]
    refine World.cell?_setCell_same _ _ _ (u := .bool false) ?_
    rw [World.cell?_setCell_other _ _ _ _ (by simp)]
    exact hu3
  have g0 : V.frozen? ⟨w.heap.size, 0, none⟩ = false := by rw [← hV]; simp; rw [hf _ _ (by simp; omega)]; simp
  have g3 : V.frozen? ⟨w.heap.size + 1, 0, none⟩ = false := by rw [← hV]; simp; rw [hf _ _ (by simp)]; simp
  have HB : Below w.heap.size w V := by
    rw [← hV]
    exact (((((Below.refl _ _).alloc (Nat.le_refl _) _).alloc (by simp) _).trans (hb.mono (by simp; omega))).setCell (by simp) _).setCell (by simp) _
  clear hV hc hf hb HC hu0 hu3
  go_region
  go_wp2
  generalize hW : World.setCell _ ⟨w.heap.size + 1, 0, none⟩ (.bool true) = X
  have d0 : X.cell? ⟨w.heap.size, 0, none⟩ = some (.int .i64 k) := by
    rw [← hW, World.cell?_setCell_other _ _ _ _ (by simp)]
    exact World.cell?_setCell_same _ _ _ c0
  have d3 : X.cell? ⟨w.heap.size + 1, 0, none⟩ = some (.bool true) := by
    rw [← hW]
    refine World.cell?_setCell_same _ _ _ (u := .bool true) ?_
    rw [World.cell?_setCell_other _ _ _ _ (by simp)]
    exact c3
  have HX : Below w.heap.size w X := by rw [← hW]; exact (HB.setCell (by simp) _).setCell (by simp) _
  clear hW c0 c3 g0 g3 HB
  refine leaves_cons (f := 73) (args := #[.pointer (some ⟨w.heap.size, 0, none⟩), .pointer (some ⟨w.heap.size + 1, 0, none⟩)]) (by simp) (by simp [go_sem]) ?_
  refine (idle39 ⟨w.heap.size, 0, none⟩ ⟨w.heap.size + 1, 0, none⟩ _).mono ?_
  rintro e u' w'' ⟨rfl, rfl, rfl⟩
  simp [Leaves, settle, results, Tryz.results44, go_sem, d0, d3]
  exact HX.drew

end Go.Proofs.YtoamghncncalgaaGreatDoor
