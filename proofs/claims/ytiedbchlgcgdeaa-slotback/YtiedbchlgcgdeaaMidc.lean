/-
  fault.New, Wrap, Of, Where, Again AND Both, at every error that a law makes: nil, or a chain of Faults about a Code or about what errors.New made. Condition: errors.errorType holds the handle of the type error.
-/
import Derived.Test.YtiedbchlgcgdeaaOutc
namespace Go.Proofs.Ytiedbchlgcgdeaa
open Go.RowKit Go.Extern.Stop Go.Stop Go.Extern

theorem new_any (op : ByteArray) (a c : Int) (w : World) :
    Calls Try.prog 16 #[.string op, .int .i64 a, .int .i64 c] w fun e w' => e = .returned (.iface 74 (.agg #[.string op, .int .i64 a, .iface 46 (.int .i64 c)])) ∧ w' = w := by
  go_enter Try.func16, Try.ntmps16
  go_wp2
  go_ret
  exact ⟨rfl, rfl⟩
theorem wrap_nil (op : ByteArray) (a : Int) (w : World) :
    Calls Try.prog 24 #[.string op, .int .i64 a, .nilIface] w fun e w' => e = .returned .nilIface ∧ w' = w := by
  go_enter Try.func24, Try.ntmps24
  go_wp2
  go_ret
  exact ⟨rfl, rfl⟩
theorem wrap_some (op : ByteArray) (a : Int) (t : TypeId) (v : Value) (w : World) :
    Calls Try.prog 24 #[.string op, .int .i64 a, .iface t v] w fun e w' => e = .returned (.iface 74 (.agg #[.string op, .int .i64 a, .iface t v])) ∧ w' = w := by
  go_enter Try.func24, Try.ntmps24
  go_wp2
  go_ret
  exact ⟨rfl, rfl⟩

/-- An error as a law makes it: none, or the steps and the Code. -/
def ev (x : Option (List (ByteArray × Int) × Int)) : Value := match x with
  | none => .nilIface
  | some (l, c) => chn l (bse c)
def ofV (x : Option (List (ByteArray × Int) × Int)) : Int := match x with
  | none => 0
  | some (_, k) => k
def isV (x : Option (List (ByteArray × Int) × Int)) (q : Int) : Bool := match x with
  | none => false
  | some (_, c) => isB c q
def stV (x : Option (List (ByteArray × Int) × Int)) : List (ByteArray × Int) := match x with
  | none => []
  | some (l, _) => l
def atV (l : List (ByteArray × Int)) : Int := match l with
  | [] => 0
  | s :: _ => s.2
def inV (l : List (ByteArray × Int)) : Bool := match l with
  | [] => false
  | _ :: _ => true
def agV (x : Option (List (ByteArray × Int) × Int)) : Option (List (ByteArray × Int) × Int) := match x with
  | none => none
  | some (l, c) => some (l.tail, c)
def boV (x y : Option (List (ByteArray × Int) × Int)) : Option (List (ByteArray × Int) × Int) := match x, y with
  | none, y => y
  | x, none => x
  | some (l, c), some y => some ((⟨#[98, 111, 116, 104]⟩, ofV (some y)) :: l, c)

theorem is_ev (x : Option (List (ByteArray × Int) × Int)) (q : Int) (w : World) :
    Calls Try.prog 15 #[ev x, .int .i64 q] w fun e w' => e = .returned (.bool (isV x q)) ∧ Below w.heap.size w w' := by
  rcases x with _ | ⟨l, c⟩
  · exact is_nil q w
  · exact is_chn l c q w




end Go.Proofs.Ytiedbchlgcgdeaa
