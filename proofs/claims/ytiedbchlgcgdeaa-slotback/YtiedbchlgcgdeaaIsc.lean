/-
  errors.Is AT A TARGET OF TYPE Code, and fault.Is over it: a chain of Faults is the Code that it ends in, and no other; nil is none. No condition.
-/
import Derived.Test.YtiedbchlgcgdeaaAsBc
import Derived.Defers
import Derived.Recover
namespace Go.Proofs.Ytiedbchlgcgdeaa
open Go.RowKit Go.Extern.Stop Go.Stop Go.Extern

theorem eql6032 (x y : Value) (w : World) : (binOp .eql 29 (.iface 74 x) (.iface 46 y)).run Try.prog w = .ok (.bool false) w := run_eql_iface_types 74 46 x y Try.underlying29 (by decide) w
theorem eql3232 (a b : Int) (w : World) : (binOp .eql 29 (.iface 46 (.int .i64 a)) (.iface 46 (.int .i64 b))).run Try.prog w = .ok (.bool (a == b)) w := by kernel_rfl
theorem eqlNil32 (y : Value) (w : World) : (binOp .eql 29 .nilIface (.iface 46 y)).run Try.prog w = .ok (.bool false) w := by kernel_rfl

theorem comparableM (w : World) : (ReflectliteType.method (fun t => do Rtype.noPackHeld "Comparable" t; (fun a : TypeInfo => Value.bool a.comparable) <$> typeInfo t) #[.agg #[.pointer (some ⟨0, 46, none⟩)]]).run Try.prog w = .ok (.bool true) w := by kernel_rfl

/-- Is the innermost error that Code? -/
def isB (c q : Int) : Bool := c == q

set_option maxRecDepth 100000 in
set_option maxHeartbeats 4000000 in
theorem is35 (l : List (ByteArray × Int)) (c : Int) (q : Int) (w : World) :
    Calls Try.prog 41 #[chn l (bse c), .iface 46 (.int .i64 q), .bool true] w
      fun ev w' => ev = .returned (.bool (isB c q)) ∧ Below w.heap.size w w' := by
  have m5 := mUnwrap
  have a1 := noIs60
  have a2 := unwraps60
  have c1 := noIs32
  have c2 := noUnwrap32
  have c3 := noUnwraps32
  have e1 := eql6032
  have e3 := eql3232
  go_enter Try.func41, Try.ntmps41
  go_wp2
  go_loopw [0] (fun e W => ∃ l : List (ByteArray × Int), e = chn l (bse c) ∧ Below w.heap.size w W ∧ w.heap.size ≤ W.heap.size) (fun e _ => SizeOf.sizeOf e)
  case atStart => exact ⟨l, rfl, Below.refl _ _, by simp⟩
  case round =>
    obtain ⟨l', he, hb, hs⟩ := hrel
    rcases l' with _ | ⟨s, _ | ⟨s', l'⟩⟩
    · simp only [chn, bse] at he
      subst he
      rcases Bool.eq_false_or_eq_true (c == q) with hq | hq
      · go_wp2
        go_ret
        exact ⟨by simp only [isB, hq]; rfl, hb⟩
      · go_wp2
        go_ret
        exact ⟨by simp only [isB, hq]; rfl, hb⟩
    · simp only [chn] at he
      obtain ⟨ty, v, hv⟩ := chn_form [] c
      have HV : Hid (chn [] (bse c) = .iface ty v) := hv
      simp only [chn] at hv
      rw [hv] at he
      subst he
      clear hv
      go_wp2
      go_roundw
      case rel => exact ⟨[], HV.out.symm, hb.alloc hs _, by simp; omega⟩
      case measure => exact size_inner _ _ _
    · simp only [chn] at he
      subst he
      go_wp2
      go_roundw
      case rel => exact ⟨s' :: l', rfl, hb.alloc hs _, by simp; omega⟩
      case measure => exact size_inner _ _ _

theorem eis_nil (q : Int) (w : World) :
    Calls Try.prog 32 #[.nilIface, .iface 46 (.int .i64 q)] w fun ev w' => ev = .returned (.bool false) ∧ w' = w := by
  have e1 := eqlNil32
  go_enter Try.func32, Try.ntmps32
  go_wp2
  go_ret
  exact ⟨rfl, rfl⟩

set_option maxRecDepth 100000 in
set_option maxHeartbeats 4000000 in
theorem eis_chn (l : List (ByteArray × Int)) (c : Int) (q : Int) (w : World) :
    Calls Try.prog 32 #[chn l (bse c), .iface 46 (.int .i64 q)] w
      fun ev w' => ev = .returned (.bool (isB c q)) ∧ Below w.heap.size w w' := by
  have h34 := h34
  have h69 := h69
  have f1 := typeOf32
  have f2 := mComparable
  have f3 := comparableM
  have hc := is35 l c q w
  obtain ⟨ty, v, hv⟩ := chn_form l c
  rw [hv] at hc ⊢
  have HC := hide hc
  clear hc hv
  go_enter Try.func32, Try.ntmps32
  go_wp2_with (first | (go_at_call 41; refine (HC.out).mono ?_; rintro e w' ⟨rfl, hb⟩))
  go_ret
  exact ⟨rfl, hb⟩

theorem idle29 (p : Addr) (w : World) :
    CallsD Try.prog 31 #[.pointer (some p)] .returning w fun e u' w' => e = .returned (.tuple #[]) ∧ u' = .returning ∧ w' = w := by
  refine callsD_of_wpS Try.func31 rfl fun c₀ cs hu => ?_
  apply wpS_seq
  apply wpS_region
  simp [wpOpsS, go_sem, recoverD, hu, Try.ntmps31, Exit.thenS]
  refine wpS_cond (t := false) (by simp [Act.eval, Array.replicate]) ?_
  simp only [Bool.false_eq_true, if_false]
  refine wpS_of_wp (wp_skip ?_)
  cases c₀
  simp_all [bodyPostS, results, Try.results31]

theorem is_nil (q : Int) (w : World) :
    Calls Try.prog 15 #[.nilIface, .int .i64 q] w fun ev w' => ev = .returned (.bool false) ∧ Below w.heap.size w w' := by
  have hmf : ∀ (fn : Fn) (first cap : Array Value) (w : World), (Instr.makeFunc fn first cap).run Try.prog w = .ok (.func fn first cap) w := fun _ _ _ _ => rfl
  go_enter_defers Try.func15, Try.ntmps15
  go_wp2_with (first | (go_at_call 32; refine (eis_nil _ _).mono ?_; rintro e w' ⟨rfl, rfl⟩))
  refine leaves_cons (f := 31) (args := #[.pointer (some ⟨w.heap.size, 0, none⟩)]) (by simp) (by simp [go_sem]) ?_
  refine (idle29 ⟨w.heap.size, 0, none⟩ _).mono ?_
  rintro e u' w'' ⟨rfl, rfl, rfl⟩
  simp [Leaves, settle, results, Try.results15, go_sem]
  exact (Below.refl _ _).alloc (Nat.le_refl _) _

set_option maxRecDepth 100000 in
set_option maxHeartbeats 4000000 in
theorem is_chn (l : List (ByteArray × Int)) (c : Int) (q : Int) (w : World) :
    Calls Try.prog 15 #[chn l (bse c), .int .i64 q] w
      fun ev w' => ev = .returned (.bool (isB c q)) ∧ Below w.heap.size w w' := by
  have hmf : ∀ (fn : Fn) (first cap : Array Value) (w : World), (Instr.makeFunc fn first cap).run Try.prog w = .ok (.func fn first cap) w := fun _ _ _ _ => rfl
  go_enter_defers Try.func15, Try.ntmps15
  go_wp2_with (first | (go_at_call 32; refine (eis_chn l c q _).mono ?_; rintro e w' ⟨rfl, hb⟩; obtain ⟨hc, hf⟩ := bcell hb))
  refine leaves_cons (f := 31) (args := #[.pointer (some ⟨w.heap.size, 0, none⟩)]) (by simp) (by simp [go_sem]) ?_
  refine (idle29 ⟨w.heap.size, 0, none⟩ _).mono ?_
  rintro e u' w'' ⟨rfl, rfl, rfl⟩
  simp [Leaves, settle, results, Try.results15, go_sem, hc]
  exact (((Below.refl _ _).alloc (Nat.le_refl _) _).trans (hb.mono (by simp))).setCell (by simp) _
end Go.Proofs.Ytiedbchlgcgdeaa
