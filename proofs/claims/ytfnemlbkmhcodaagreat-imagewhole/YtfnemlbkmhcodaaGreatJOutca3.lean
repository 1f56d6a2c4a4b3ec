/-
  fault.outermost AT THE TYPES Fault AND Code: the outermost Fault of a chain; the Code that a chain ends in; the zero value and false where there is none. Condition: errors.errorType holds the handle of the type error.
  fault.New, Wrap, Of, Where, Again AND Both, at every error that a law makes: nil, or a chain of Faults about a Code or about what errors.New made. Condition: errors.errorType holds the handle of the type error.
  AN ERROR, OR NONE, as a value, by its code. No condition.
-/
import Derived.Test.YtfnemlbkmhcodaaGreatJAsa3
namespace Go.Proofs.YtfnemlbkmhcodaaGreat
open Go.RowKit Go.Extern.Stop Go.Stop Go.Extern


theorem three_cells {u : World} {n : Nat} {x y z x' y' z' : Value} (h0 : u.cell? ⟨n, 0, none⟩ = some x') (h1 : u.cell? ⟨n, 1, none⟩ = some y') (h2 : u.cell? ⟨n, 2, none⟩ = some z') :
    (((u.setCell ⟨n, 0, none⟩ x).setCell ⟨n, 1, none⟩ y).setCell ⟨n, 2, none⟩ z).cell? ⟨n, 0, none⟩ = some x ∧ (((u.setCell ⟨n, 0, none⟩ x).setCell ⟨n, 1, none⟩ y).setCell ⟨n, 2, none⟩ z).cell? ⟨n, 1, none⟩ = some y ∧
      (((u.setCell ⟨n, 0, none⟩ x).setCell ⟨n, 1, none⟩ y).setCell ⟨n, 2, none⟩ z).cell? ⟨n, 2, none⟩ = some z := by
  refine ⟨?_, ?_, ?_⟩
  · rw [World.cell?_setCell_other _ _ _ _ (by simp), World.cell?_setCell_other _ _ _ _ (by simp)]
    exact World.cell?_setCell_same _ _ _ h0
  · rw [World.cell?_setCell_other _ _ _ _ (by simp)]
    refine World.cell?_setCell_same _ _ _ (u := y') ?_
    rw [World.cell?_setCell_other _ _ _ _ (by simp)]
    exact h1
  · refine World.cell?_setCell_same _ _ _ (u := z') ?_
    rw [World.cell?_setCell_other _ _ _ _ (by simp), World.cell?_setCell_other _ _ _ _ (by simp)]
    exact h2






end Go.Proofs.YtfnemlbkmhcodaaGreat
namespace Go.Proofs.YtfnemlbkmhcodaaGreat
open Go.RowKit Go.Extern.Stop Go.Stop Go.Extern

theorem new_any (op : ByteArray) (a c : Int) (w : World) :
    Calls Tryz.prog 91 #[.string op, .int .i64 a, .int .i64 c] w fun e w' => e = .returned (.iface 136 (.agg #[.string op, .int .i64 a, .iface 71 (.int .i64 c)])) ∧ w' = w := by
  go_enter Tryz.func91, Tryz.ntmps91
  go_wp2
  go_ret
  exact ⟨rfl, rfl⟩
theorem wrap_nil (op : ByteArray) (a : Int) (w : World) :
    Calls Tryz.prog 63 #[.string op, .int .i64 a, .nilIface] w fun e w' => e = .returned .nilIface ∧ w' = w := by
  go_enter Tryz.func63, Tryz.ntmps63
  go_wp2
  go_ret
  exact ⟨rfl, rfl⟩
theorem wrap_some (op : ByteArray) (a : Int) (t : TypeId) (v : Value) (w : World) :
    Calls Tryz.prog 63 #[.string op, .int .i64 a, .iface t v] w fun e w' => e = .returned (.iface 136 (.agg #[.string op, .int .i64 a, .iface t v])) ∧ w' = w := by
  go_enter Tryz.func63, Tryz.ntmps63
  go_wp2
  go_ret
  exact ⟨rfl, rfl⟩

/-- An error as a law makes it: none, or the steps and the Code. -/
def ev (x : Option (List (ByteArray × Int) × Int)) : Value := match x with
  | none => .nilIface
  | some (l, c) => chn l (bse c)
def ofV (x : Option (List (ByteArray × Int) × Int)) : Int := match x with
  | none => 0
  | some (_, k) => k
def isV (x : Option (List (ByteArray × Int) × Int)) (q : Int) : Bool := match x with
  | none => false
  | some (_, c) => isB c q
def stV (x : Option (List (ByteArray × Int) × Int)) : List (ByteArray × Int) := match x with
  | none => []
  | some (l, _) => l
def atV (l : List (ByteArray × Int)) : Int := match l with
  | [] => 0
  | s :: _ => s.2
def inV (l : List (ByteArray × Int)) : Bool := match l with
  | [] => false
  | _ :: _ => true
def agV (x : Option (List (ByteArray × Int) × Int)) : Option (List (ByteArray × Int) × Int) := match x with
  | none => none
  | some (l, c) => some (l.tail, c)
def boV (x y : Option (List (ByteArray × Int) × Int)) : Option (List (ByteArray × Int) × Int) := match x, y with
  | none, y => y
  | x, none => x
  | some (l, c), some y => some ((⟨#[98, 111, 116, 104]⟩, ofV (some y)) :: l, c)

theorem is_ev (x : Option (List (ByteArray × Int) × Int)) (q : Int) (w : World) :
    Calls Tryz.prog 37 #[ev x, .int .i64 q] w fun e w' => e = .returned (.bool (isV x q)) ∧ Below w.heap.size w w' := by
  rcases x with _ | ⟨l, c⟩
  · exact is_nil q w
  · exact is_chn l c q w




end Go.Proofs.YtfnemlbkmhcodaaGreat
namespace Go.Proofs.YtfnemlbkmhcodaaGreat
open Go.RowKit

def ft (op : ByteArray) (a c : Int) : Value := .iface 136 (.agg #[.string op, .int .i64 a, .iface 71 (.int .i64 c)])
theorem cells_at (w : World) (xs : List Value) (t : TypeId) : ∀ j u, xs[j]? = some u → (w.alloc (.cells xs.toArray t)).cell? ((⟨w.heap.size, 0, none⟩ : Addr).add j) = some u := by
  intro j u hj
  rw [Addr.add_lit, World.cell?_alloc_at _ _ _ _ rfl]
  simpa using hj
/-- What is wrong behind a call that told the code c: nothing, or that. -/
def erN (op : ByteArray) (a : Int) (c : Int) : Value := if c = 0 then .nilIface else ft op a c
end Go.Proofs.YtfnemlbkmhcodaaGreat
