/-
  errors.Is AT A TARGET OF TYPE Code, and fault.Is over it: a chain of Faults is the Code that it ends in, and no other; nil is none. No condition.
-/
import Derived.Test.YtkihdceieljkgaaDoorAsBc
import Derived.Defers
import Derived.Recover
namespace Go.Proofs.YtkihdceieljkgaaDoor
open Go.RowKit Go.Extern.Stop Go.Stop Go.Extern

theorem eql6032 (x y : Value) (w : World) : (binOp .eql 27 (.iface 51 x) (.iface 29 y)).run Tryd.prog w = .ok (.bool false) w := run_eql_iface_types 51 29 x y Tryd.underlying27 (by decide) w
theorem eql3232 (a b : Int) (w : World) : (binOp .eql 27 (.iface 29 (.int .i64 a)) (.iface 29 (.int .i64 b))).run Tryd.prog w = .ok (.bool (a == b)) w := by kernel_rfl
theorem eqlNil32 (y : Value) (w : World) : (binOp .eql 27 .nilIface (.iface 29 y)).run Tryd.prog w = .ok (.bool false) w := by kernel_rfl

theorem comparableM (w : World) : (ReflectliteType.method (fun t => do Rtype.noPackHeld "Comparable" t; (fun a : TypeInfo => Value.bool a.comparable) <$> typeInfo t) #[.agg #[.pointer (some ⟨1, 29, none⟩)]]).run Tryd.prog w = .ok (.bool true) w := by kernel_rfl

/-- Is the innermost error that Code? -/
def isB (c q : Int) : Bool := c == q




theorem idle37 (p q : Addr) (w : World) :
    CallsD Tryd.prog 27 #[.pointer (some p), .pointer (some q)] .returning w fun e u' w' => e = .returned (.tuple #[]) ∧ u' = .returning ∧ w' = w := by
  refine callsD_of_wpS Tryd.func27 rfl fun c₀ cs hu => ?_
  apply wpS_seq
  apply wpS_region
  simp [wpOpsS, go_sem, recoverD, hu, Tryd.ntmps27, Exit.thenS]
  refine wpS_cond (t := false) (by simp [Act.eval, Array.replicate]) ?_
  simp only [Bool.false_eq_true, if_false]
  refine wpS_of_wp (wp_skip ?_)
  cases c₀
  simp_all [bodyPostS, results, Tryd.results27]
theorem idle39 (p q : Addr) (w : World) :
    CallsD Tryd.prog 29 #[.pointer (some p), .pointer (some q)] .returning w fun e u' w' => e = .returned (.tuple #[]) ∧ u' = .returning ∧ w' = w := by
  refine callsD_of_wpS Tryd.func29 rfl fun c₀ cs hu => ?_
  apply wpS_seq
  apply wpS_region
  simp [wpOpsS, go_sem, recoverD, hu, Tryd.ntmps29, Exit.thenS]
  refine wpS_cond (t := false) (by simp [Act.eval, Array.replicate]) ?_
  simp only [Bool.false_eq_true, if_false]
  refine wpS_of_wp (wp_skip ?_)
  cases c₀
  simp_all [bodyPostS, results, Tryd.results29]


end Go.Proofs.YtkihdceieljkgaaDoor
