/-
  errors.Is AT A TARGET OF TYPE Code, and fault.Is over it: a chain of Faults is the Code that it ends in, and no other; nil is none. No condition.
  fault.outermost AT THE TYPES Fault AND Code: the outermost Fault of a chain; the Code that a chain ends in; the zero value and false where there is none. Condition: errors.errorType holds the handle of the type error.
  THE FRAME OF THE LAWS' PROOFS: what the listed variable's condition gives a walk, a world that meets it, and a slice of numbers that comes in, opened: they lie in its cells. No condition of its own.
  fault.New, Wrap, Of, Where, Again AND Both, at every error that a law makes: nil, or a chain of Faults about a Code or about what errors.New made. Condition: errors.errorType holds the handle of the type error.
  AN ERROR, OR NONE, as a value, by its code. No condition.
-/
import Derived.Test.YtlggjgapdpkhiaaGreatDoorJKMema4
import Derived.Defers
import Derived.Recover
import Derived.Test.YtlggjgapdpkhiaaGreatDoorCards
import Derived.Test.YtlggjgapdpkhiaaGreatDoorTie
import Derived.ProofKit
import Derived.OpenShut
import Derived.ShutString
import Derived.ChangeOld
import Derived.LaidHandle
import Derived.Lib.SmallJoins
import Derived.Deep.Slices
import Derived.Deep.DeepHandedRow
namespace Go.Proofs.YtlggjgapdpkhiaaGreatDoor
open Go.RowKit Go.Extern.Stop Go.Stop Go.Extern
set_option maxRecDepth 100000
set_option maxHeartbeats 4000000
theorem eql6032 (x y : Value) (w : World) : (binOp .eql 32 (.iface 97 x) (.iface 38 y)).run Tryz.prog w = .ok (.bool false) w := run_eql_iface_types 97 38 x y Tryz.underlying32 (by decide) w
theorem eql3232 (a b : Int) (w : World) : (binOp .eql 32 (.iface 38 (.int .i64 a)) (.iface 38 (.int .i64 b))).run Tryz.prog w = .ok (.bool (a == b)) w := by kernel_rfl
theorem comparableM (w : World) : (ReflectliteType.method (fun t => do Rtype.noPackHeld "Comparable" t; (fun a : TypeInfo => Value.bool a.comparable) <$> typeInfo t) #[.agg #[.pointer (some ⟨1, 38, none⟩)]]).run Tryz.prog w = .ok (.bool true) w := by kernel_rfl
def isB (c q : Int) : Bool := c == q
theorem is35 (l : List (ByteArray × Int)) (c : Int) (q : Int) (w : World) :
  Calls Tryz.prog 82 #[chn l (bse c), .iface 38 (.int .i64 q), .bool true] w
   fun ev w' => ev = .returned (.bool (isB c q)) ∧ Below w.heap.size w w' := by
 have m5 := mUnwrap
 have a1 := noIs60
 have a2 := unwraps60
 have c1 := noIs32
 have c2 := noUnwrap32
 have c3 := noUnwraps32
 have e1 := eql6032
 have e3 := eql3232
 go_enter Tryz.func82, Tryz.ntmps82
 go_wp2
 go_loopw [0] (fun e W => ∃ l : List (ByteArray × Int), e = chn l (bse c) ∧ Below w.heap.size w W ∧ w.heap.size ≤ W.heap.size) (fun e _ => SizeOf.sizeOf e)
 case atStart => exact ⟨l, rfl, Below.refl _ _, by simp⟩
 case round =>
  obtain ⟨l', he, hb, hs⟩ := hrel
  rcases l' with _ | ⟨s, _ | ⟨s', l'⟩⟩
  ·simp only [chn, bse] at he
   subst he
   rcases Bool.eq_false_or_eq_true (c == q) with hq | hq
   ·go_wp2
    go_ret
    exact ⟨by simp only [isB, hq]; rfl, hb⟩
   ·go_wp2
    go_ret
    exact ⟨by simp only [isB, hq]; rfl, hb⟩
  ·simp only [chn] at he
   obtain ⟨ty, v, hv⟩ := chn_form [] c
   have HV : Hid (chn [] (bse c) = .iface ty v) := hv
   simp only [chn] at hv
   rw [hv] at he
   subst he
   clear hv
   go_wp2
   go_roundw
   case rel => exact ⟨[], HV.out.symm, hb.alloc hs _, by simp; omega⟩
   case measure => exact size_inner _ _ _
  ·simp only [chn] at he
   subst he
   go_wp2
   go_roundw
   case rel => exact ⟨s' :: l', rfl, hb.alloc hs _, by simp; omega⟩
   case measure => exact size_inner _ _ _
theorem eis_chn (l : List (ByteArray × Int)) (c : Int) (q : Int) (w : World) :
  Calls Tryz.prog 41 #[chn l (bse c), .iface 38 (.int .i64 q)] w
   fun ev w' => ev = .returned (.bool (isB c q)) ∧ Below w.heap.size w w' := by
 have h34 := h34
 have h69 := h69
 have f1 := typeOf32
 have f2 := mComparable
 have f3 := comparableM
 have hc := is35 l c q w
 obtain ⟨ty, v, hv⟩ := chn_form l c
 rw [hv] at hc ⊢
 have HC := hide hc
 clear hc hv
 go_enter Tryz.func41, Tryz.ntmps41
 go_wp2_with (first | (go_at_call 82; refine (HC.out).mono ?_; rintro e w' ⟨rfl, hb⟩))
 go_ret
 exact ⟨rfl, hb⟩
theorem idle29 (p : Addr) (w : World) :
  CallsD Tryz.prog 40 #[.pointer (some p)] .returning w fun e u' w' => e = .returned (.tuple #[]) ∧ u' = .returning ∧ w' = w := by
 refine callsD_of_wpS Tryz.func40 rfl fun c₀ cs hu => ?_
 apply wpS_seq
 apply wpS_region
 simp [wpOpsS, go_sem, recoverD, hu, Tryz.ntmps40, Exit.thenS]
 refine wpS_cond (t := false) (by simp [Act.eval, Array.replicate]) ?_
 simp only [Bool.false_eq_true, if_false]
 refine wpS_of_wp (wp_skip ?_)
 cases c₀
 simp_all [bodyPostS, results, Tryz.results40]
theorem idle39 (p q : Addr) (w : World) :
  CallsD Tryz.prog 75 #[.pointer (some p), .pointer (some q)] .returning w fun e u' w' => e = .returned (.tuple #[]) ∧ u' = .returning ∧ w' = w := by
 refine callsD_of_wpS Tryz.func75 rfl fun c₀ cs hu => ?_
 apply wpS_seq
 apply wpS_region
 simp [wpOpsS, go_sem, recoverD, hu, Tryz.ntmps75, Exit.thenS]
 refine wpS_cond (t := false) (by simp [Act.eval, Array.replicate]) ?_
 simp only [Bool.false_eq_true, if_false]
 refine wpS_of_wp (wp_skip ?_)
 cases c₀
 simp_all [bodyPostS, results, Tryz.results75]
theorem is_chn (l : List (ByteArray × Int)) (c : Int) (q : Int) (w : World) :
  Calls Tryz.prog 19 #[chn l (bse c), .int .i64 q] w
   fun ev w' => ev = .returned (.bool (isB c q)) ∧ Below w.heap.size w w' := by
 have hmf : ∀ (fn : Fn) (first cap : Array Value) (w : World), (Instr.makeFunc fn first cap).run Tryz.prog w = .ok (.func fn first cap) w := fun _ _ _ _ => rfl
 go_enter_defers Tryz.func19, Tryz.ntmps19
 go_wp2_with (first | (go_at_call 41; refine (eis_chn l c q _).mono ?_; rintro e w' ⟨rfl, hb⟩; obtain ⟨hc, hf⟩ := bcell hb))
 refine leaves_cons (f := 40) (args := #[.pointer (some ⟨w.heap.size, 0, none⟩)]) (by simp) (by simp [go_sem]) ?_
 refine (idle29 ⟨w.heap.size, 0, none⟩ _).mono ?_
 rintro e u' w'' ⟨rfl, rfl, rfl⟩
 simp [Leaves, settle, results, Tryz.results19, go_sem, hc]
 exact (((Below.refl _ _).alloc (Nat.le_refl _) _).trans (hb.mono (by simp))).setCell (by simp) _
end Go.Proofs.YtlggjgapdpkhiaaGreatDoor
namespace Go.Proofs.YtlggjgapdpkhiaaGreatDoor
open Go.RowKit Go.Extern.Stop Go.Stop Go.Extern
def Hnd (w : World) : Prop := w.cell? ⟨0, 0, none⟩ = some (.iface 158 (.agg #[.pointer (some ⟨1, 32, none⟩)]))
theorem Hnd.below {w w' : World} (h : Hnd w) (hb : Below w.heap.size w w') : Hnd w' := (hb.cell (size_of_handle h)).trans h
set_option maxRecDepth 100000 in
set_option maxHeartbeats 4000000 in
theorem outC_some (l : List (ByteArray × Int)) (k : Int) (w : World) (hg : Hnd w) :
  Calls Tryz.prog 33 #[chn l (bse k)] w
   fun ev w' => ev = .returned (.tuple #[.int .i64 k, .bool true]) ∧ Below w.heap.size w w' := by
 have hlt := size_of_handle hg
 have hmf : ∀ (fn : Fn) (first cap : Array Value) (w : World), (Instr.makeFunc fn first cap).run Tryz.prog w = .ok (.func fn first cap) w := fun _ _ _ _ => rfl
 have hg2 : Hnd ((w.alloc (.cells #[.int .i64 0] 38)).alloc (.cells #[.bool false] 4)) := hg.below (((Below.refl _ _).alloc (Nat.le_refl _) _).alloc (by simp) _)
 have hc := as32_some l k w.heap.size (.int .i64 0) _ hg2 (by simp) (by simp)
 obtain ⟨ty, v, hv⟩ := chn_form l k
 rw [hv] at hc ⊢
 have HC := hide hc
 clear hg hg2 hc hv
 go_enter_defers Tryz.func33, Tryz.ntmps33
 go_wp2_with (first | (go_at_call 76; refine (HC.out).mono ?_; rintro e w' ⟨rfl, u, hb, rfl⟩; obtain ⟨hc, hf⟩ := bcell hb))
 have hu0 : u.cell? ⟨w.heap.size, 0, none⟩ = some (.int .i64 0) := by rw [hc _ _ (by simp; omega)]; simp
 have hu3 : u.cell? ⟨w.heap.size + 1, 0, none⟩ = some (.bool false) := by rw [hc _ _ (by simp)]; simp
 generalize hV : World.setCell _ ⟨w.heap.size + 1, 0, none⟩ (.bool true) = V
 have c0 : V.cell? ⟨w.heap.size, 0, none⟩ = some (.int .i64 k) := by
  rw [← hV, World.cell?_setCell_other _ _ _ _ (by simp)]
  exact World.cell?_setCell_same _ _ _ hu0
 have c3 : V.cell? ⟨w.heap.size + 1, 0, none⟩ = some (.bool true) := by
  rw [← hV]
  refine World.cell?_setCell_same _ _ _ (u := .bool false) ?_
  rw [World.cell?_setCell_other _ _ _ _ (by simp)]
  exact hu3
 have g0 : V.frozen? ⟨w.heap.size, 0, none⟩ = false := by rw [← hV]; simp; rw [hf _ _ (by simp; omega)]; simp
 have g3 : V.frozen? ⟨w.heap.size + 1, 0, none⟩ = false := by rw [← hV]; simp; rw [hf _ _ (by simp)]; simp
 have HB : Below w.heap.size w V := by
  rw [← hV]
  exact (((((Below.refl _ _).alloc (Nat.le_refl _) _).alloc (by simp) _).trans (hb.mono (by simp; omega))).setCell (by simp) _).setCell (by simp) _
 clear hV hc hf hb HC hu0 hu3
 go_region
 go_wp2
 generalize hW : World.setCell _ ⟨w.heap.size + 1, 0, none⟩ (.bool true) = X
 have d0 : X.cell? ⟨w.heap.size, 0, none⟩ = some (.int .i64 k) := by
  rw [← hW, World.cell?_setCell_other _ _ _ _ (by simp)]
  exact World.cell?_setCell_same _ _ _ c0
 have d3 : X.cell? ⟨w.heap.size + 1, 0, none⟩ = some (.bool true) := by
  rw [← hW]
  refine World.cell?_setCell_same _ _ _ (u := .bool true) ?_
  rw [World.cell?_setCell_other _ _ _ _ (by simp)]
  exact c3
 have HX : Below w.heap.size w X := by rw [← hW]; exact (HB.setCell (by simp) _).setCell (by simp) _
 clear hW c0 c3 g0 g3 HB
 refine leaves_cons (f := 75) (args := #[.pointer (some ⟨w.heap.size, 0, none⟩), .pointer (some ⟨w.heap.size + 1, 0, none⟩)]) (by simp) (by simp [go_sem]) ?_
 refine (idle39 ⟨w.heap.size, 0, none⟩ ⟨w.heap.size + 1, 0, none⟩ _).mono ?_
 rintro e u' w'' ⟨rfl, rfl, rfl⟩
 simp [Leaves, settle, results, Tryz.results33, go_sem, d0, d3]
 exact HX.drew
end Go.Proofs.YtlggjgapdpkhiaaGreatDoor
namespace Go.Proofs.YtlggjgapdpkhiaaGreatDoor
open Go.ChangeShapes Go.WideShapes Go.ChangeAt Go.RowKit Go.Joins
set_option maxRecDepth 100000
theorem own : ownKnob Tryz.prog.godebug = none := by kernel_rfl
theorem laidOut : laidOutB Tryz.prog = true := by kernel_rfl
theorem et : Tryz.prog.globalNamed "errors.errorType" = some 0 := by kernel_rfl
theorem oneRow : ((List.range 237).filter fun t => Tryz.prog.rowNamed t [101, 114, 114, 111, 114]) = [32] := by kernel_rfl
theorem typesSize : Tryz.prog.types.size = 237 := by kernel_rfl
theorem handle_of_laid {W : World} (h : laidMetH Tryz.prog [("errors.errorType", Rows.laid_errors_errorType)] W) : Hnd W := by
 have h' : laidMet Tryz.prog [] W ∧ handlesMet Tryz.prog [("errors.errorType", Rows.laid_errors_errorType)] W := h
 obtain ⟨name, u, ty, e1, e2, e3, e4, e5⟩ := h'.2 _ (List.mem_singleton.2 rfl)
 have en : name = [101, 114, 114, 111, 114] := (Option.some.inj e1).symm
 subst en
 have hu : some u = some 158 := e2.symm.trans (by kernel_rfl)
 obtain rfl := Option.some.inj hu
 have hm : ty ∈ (List.range 237).filter fun t => Tryz.prog.rowNamed t [101, 114, 114, 111, 114] := List.mem_filter.2 ⟨List.mem_range.2 (by rw [← typesSize]; exact e3), e4⟩
 rw [oneRow] at hm
 obtain rfl := List.mem_singleton.1 hm
 have hh : typeHandle Tryz.prog 32 = .pointer (some ⟨1, 32, none⟩) := by kernel_rfl
 rw [hh] at e5
 unfold Hnd
 simpa using World.var?_cell et e5 0
def layHnd (w : World) : World :=
 { w with heap := w.heap.modify 0 fun
   | .cells _ t frozen => .cells #[.iface 158 (.agg #[.pointer (some ⟨1, 32, none⟩)])] t frozen
   | o => o }
theorem laid_met (os : Os) (args : Array Value) : laidMetH Tryz.prog [("errors.errorType", Rows.laid_errors_errorType)] ((layHnd (World.holding Tryz.prog os ⟨#[], #[], []⟩)).forCall (fun _ _ => 0) ⟨#[], args, []⟩).memory :=
 laidMetH_of_parts (laidMet_nil _ _) (by kernel_rfl)
section
variable {H : Type} {enc : TypeId × Value → H}
end
end Go.Proofs.YtlggjgapdpkhiaaGreatDoor
namespace Go.Proofs.YtlggjgapdpkhiaaGreatDoor
open Go.RowKit Go.Extern.Stop Go.Stop Go.Extern
theorem new_any (op : ByteArray) (a c : Int) (w : World) :
  Calls Tryz.prog 45 #[.string op, .int .i64 a, .int .i64 c] w fun e w' => e = .returned (.iface 97 (.agg #[.string op, .int .i64 a, .iface 38 (.int .i64 c)])) ∧ w' = w := by
 go_enter Tryz.func45, Tryz.ntmps45
 go_wp2
 go_ret
 exact ⟨rfl, rfl⟩
theorem wrap_some (op : ByteArray) (a : Int) (t : TypeId) (v : Value) (w : World) :
  Calls Tryz.prog 23 #[.string op, .int .i64 a, .iface t v] w fun e w' => e = .returned (.iface 97 (.agg #[.string op, .int .i64 a, .iface t v])) ∧ w' = w := by
 go_enter Tryz.func23, Tryz.ntmps23
 go_wp2
 go_ret
 exact ⟨rfl, rfl⟩
def ev (x : Option (List (ByteArray × Int) × Int)) : Value := match x with
 | none => .nilIface
 | some (l, c) => chn l (bse c)
def ofV (x : Option (List (ByteArray × Int) × Int)) : Int := match x with
 | none => 0
 | some (_, k) => k
theorem of_nil (w : World) : Calls Tryz.prog 9 #[.nilIface] w fun e w' => e = .returned (.int .i64 0) ∧ Below w.heap.size w w' := by
 go_enter Tryz.func9, Tryz.ntmps9
 go_wp2
 go_ret
 exact ⟨rfl, Below.refl _ _⟩
set_option maxHeartbeats 4000000 in
theorem of_chn (l : List (ByteArray × Int)) (c : Int) (w : World) (hg : Hnd w) :
  Calls Tryz.prog 9 #[chn l (bse c)] w fun e w' => e = .returned (.int .i64 (ofV (some (l, c)))) ∧ Below w.heap.size w w' := by
 obtain ⟨ty, v, hv⟩ := chn_form l c
 have hc := outC_some l c w hg
 rw [hv] at hc ⊢
 have HC := hide hc
 clear hc hv hg
 go_enter Tryz.func9, Tryz.ntmps9
 go_wp2_with (first | (go_at_call 33; refine (HC.out).mono ?_; rintro e w' ⟨rfl, hb⟩))
 go_ret
 exact ⟨rfl, hb⟩
theorem of_ev (x : Option (List (ByteArray × Int) × Int)) (w : World) (hg : Hnd w) :
  Calls Tryz.prog 9 #[ev x] w fun e w' => e = .returned (.int .i64 (ofV x)) ∧ Below w.heap.size w w' := by
 rcases x with _ | ⟨l, c⟩
 ·exact of_nil w
 ·exact of_chn l c w hg
end Go.Proofs.YtlggjgapdpkhiaaGreatDoor
namespace Go.Proofs.YtlggjgapdpkhiaaGreatDoor
open Go.RowKit
def ft (op : ByteArray) (a c : Int) : Value := .iface 97 (.agg #[.string op, .int .i64 a, .iface 38 (.int .i64 c)])
theorem cells_at (w : World) (xs : List Value) (t : TypeId) : ∀ j u, xs[j]? = some u → (w.alloc (.cells xs.toArray t)).cell? ((⟨w.heap.size, 0, none⟩ : Addr).add j) = some u := by
 intro j u hj
 rw [Addr.add_lit, World.cell?_alloc_at _ _ _ _ rfl]
 simpa using hj
def erN (op : ByteArray) (a : Int) (c : Int) : Value := if c = 0 then .nilIface else ft op a c
end Go.Proofs.YtlggjgapdpkhiaaGreatDoor
