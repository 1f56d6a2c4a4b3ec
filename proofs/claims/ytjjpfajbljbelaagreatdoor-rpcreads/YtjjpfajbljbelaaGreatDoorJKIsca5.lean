/-
  errors.Is AT A TARGET OF TYPE Code, and fault.Is over it: a chain of Faults is the Code that it ends in, and no other; nil is none. No condition.
  fault.outermost AT THE TYPES Fault AND Code: the outermost Fault of a chain; the Code that a chain ends in; the zero value and false where there is none. Condition: errors.errorType holds the handle of the type error.
  THE FRAME OF THE LAWS' PROOFS: what the listed variable's condition gives a walk, a world that meets it, and a slice of numbers that comes in, opened: they lie in its cells. No condition of its own.
  NUMBERS OF BYTES, AND OF BYTES ALONE (wire.size, natural, announced, number): at every number, and at one, two, four and eight bytes. Conditions: the bytes' cells hold them, and bytes are bytes.
  fault.New, Wrap, Of, Where, Again AND Both, at every error that a law makes: nil, or a chain of Faults about a Code or about what errors.New made. Condition: errors.errorType holds the handle of the type error.
-/
import Derived.Test.YtjjpfajbljbelaaGreatDoorJKAsBca2
import Derived.Test.YtjjpfajbljbelaaGreatDoorCards
import Derived.Test.YtjjpfajbljbelaaGreatDoorTie
import Derived.Defers
import Derived.Recover
import Derived.ProofKit
import Derived.OpenShut
import Derived.ShutString
import Derived.ChangeOld
import Derived.LaidHandle
import Derived.Lib.SmallJoins
import Derived.Deep.Slices
import Derived.Deep.DeepHandedRow
import Derived.WalkSmall
import Derived.Deep.QuietTactic
import Derived.BigQuiet
namespace Go.Proofs.YtjjpfajbljbelaaGreatDoor
open Go.RowKit Go.Extern.Stop Go.Stop Go.Extern
set_option maxRecDepth 100000
set_option maxHeartbeats 4000000
theorem eql6032 (x y : Value) (w : World) : (binOp .eql 28 (.iface 98 x) (.iface 33 y)).run Tryz.prog w = .ok (.bool false) w := run_eql_iface_types 98 33 x y Tryz.underlying28 (by decide) w
theorem eql3232 (a b : Int) (w : World) : (binOp .eql 28 (.iface 33 (.int .i64 a)) (.iface 33 (.int .i64 b))).run Tryz.prog w = .ok (.bool (a == b)) w := by kernel_rfl
theorem eqlNil32 (y : Value) (w : World) : (binOp .eql 28 .nilIface (.iface 33 y)).run Tryz.prog w = .ok (.bool false) w := by kernel_rfl
theorem comparableM (w : World) : (ReflectliteType.method (fun t => do Rtype.noPackHeld "Comparable" t; (fun a : TypeInfo => Value.bool a.comparable) <$> typeInfo t) #[.agg #[.pointer (some ⟨1, 33, none⟩)]]).run Tryz.prog w = .ok (.bool true) w := by kernel_rfl
def isB (c q : Int) : Bool := c == q
theorem is35 (l : List (ByteArray × Int)) (c : Int) (q : Int) (w : World) :
  Calls Tryz.prog 76 #[chn l (bse c), .iface 33 (.int .i64 q), .bool true] w
   fun ev w' => ev = .returned (.bool (isB c q)) ∧ Below w.heap.size w w' := by
 have m5 := mUnwrap
 have a1 := noIs60
 have a2 := unwraps60
 have c1 := noIs32
 have c2 := noUnwrap32
 have c3 := noUnwraps32
 have e1 := eql6032
 have e3 := eql3232
 go_enter Tryz.func76, Tryz.ntmps76
 go_wp2
 go_loopw [0] (fun e W => ∃ l : List (ByteArray × Int), e = chn l (bse c) ∧ Below w.heap.size w W ∧ w.heap.size ≤ W.heap.size) (fun e _ => SizeOf.sizeOf e)
 case atStart => exact ⟨l, rfl, Below.refl _ _, by simp⟩
 case round =>
  obtain ⟨l', he, hb, hs⟩ := hrel
  rcases l' with _ | ⟨s, _ | ⟨s', l'⟩⟩
  ·simp only [chn, bse] at he
   subst he
   rcases Bool.eq_false_or_eq_true (c == q) with hq | hq
   ·go_wp2
    go_ret
    exact ⟨by simp only [isB, hq]; rfl, hb⟩
   ·go_wp2
    go_ret
    exact ⟨by simp only [isB, hq]; rfl, hb⟩
  ·simp only [chn] at he
   obtain ⟨ty, v, hv⟩ := chn_form [] c
   have HV : Hid (chn [] (bse c) = .iface ty v) := hv
   simp only [chn] at hv
   rw [hv] at he
   subst he
   clear hv
   go_wp2
   go_roundw
   case rel => exact ⟨[], HV.out.symm, hb.alloc hs _, by simp; omega⟩
   case measure => exact size_inner _ _ _
  ·simp only [chn] at he
   subst he
   go_wp2
   go_roundw
   case rel => exact ⟨s' :: l', rfl, hb.alloc hs _, by simp; omega⟩
   case measure => exact size_inner _ _ _
theorem eis_nil (q : Int) (w : World) :
  Calls Tryz.prog 41 #[.nilIface, .iface 33 (.int .i64 q)] w fun ev w' => ev = .returned (.bool false) ∧ w' = w := by
 have e1 := eqlNil32
 go_enter Tryz.func41, Tryz.ntmps41
 go_wp2
 go_ret
 exact ⟨rfl, rfl⟩
theorem eis_chn (l : List (ByteArray × Int)) (c : Int) (q : Int) (w : World) :
  Calls Tryz.prog 41 #[chn l (bse c), .iface 33 (.int .i64 q)] w
   fun ev w' => ev = .returned (.bool (isB c q)) ∧ Below w.heap.size w w' := by
 have h34 := h34
 have h69 := h69
 have f1 := typeOf32
 have f2 := mComparable
 have f3 := comparableM
 have hc := is35 l c q w
 obtain ⟨ty, v, hv⟩ := chn_form l c
 rw [hv] at hc ⊢
 have HC := hide hc
 clear hc hv
 go_enter Tryz.func41, Tryz.ntmps41
 go_wp2_with (first | (go_at_call 76; refine (HC.out).mono ?_; rintro e w' ⟨rfl, hb⟩))
 go_ret
 exact ⟨rfl, hb⟩
theorem idle29 (p : Addr) (w : World) :
  CallsD Tryz.prog 40 #[.pointer (some p)] .returning w fun e u' w' => e = .returned (.tuple #[]) ∧ u' = .returning ∧ w' = w := by
 refine callsD_of_wpS Tryz.func40 rfl fun c₀ cs hu => ?_
 apply wpS_seq
 apply wpS_region
 simp [wpOpsS, go_sem, recoverD, hu, Tryz.ntmps40, Exit.thenS]
 refine wpS_cond (t := false) (by simp [Act.eval, Array.replicate]) ?_
 simp only [Bool.false_eq_true, if_false]
 refine wpS_of_wp (wp_skip ?_)
 cases c₀
 simp_all [bodyPostS, results, Tryz.results40]
theorem idle37 (p q : Addr) (w : World) :
  CallsD Tryz.prog 96 #[.pointer (some p), .pointer (some q)] .returning w fun e u' w' => e = .returned (.tuple #[]) ∧ u' = .returning ∧ w' = w := by
 refine callsD_of_wpS Tryz.func96 rfl fun c₀ cs hu => ?_
 apply wpS_seq
 apply wpS_region
 simp [wpOpsS, go_sem, recoverD, hu, Tryz.ntmps96, Exit.thenS]
 refine wpS_cond (t := false) (by simp [Act.eval, Array.replicate]) ?_
 simp only [Bool.false_eq_true, if_false]
 refine wpS_of_wp (wp_skip ?_)
 cases c₀
 simp_all [bodyPostS, results, Tryz.results96]
theorem idle39 (p q : Addr) (w : World) :
  CallsD Tryz.prog 98 #[.pointer (some p), .pointer (some q)] .returning w fun e u' w' => e = .returned (.tuple #[]) ∧ u' = .returning ∧ w' = w := by
 refine callsD_of_wpS Tryz.func98 rfl fun c₀ cs hu => ?_
 apply wpS_seq
 apply wpS_region
 simp [wpOpsS, go_sem, recoverD, hu, Tryz.ntmps98, Exit.thenS]
 refine wpS_cond (t := false) (by simp [Act.eval, Array.replicate]) ?_
 simp only [Bool.false_eq_true, if_false]
 refine wpS_of_wp (wp_skip ?_)
 cases c₀
 simp_all [bodyPostS, results, Tryz.results98]
theorem is_nil (q : Int) (w : World) :
  Calls Tryz.prog 11 #[.nilIface, .int .i64 q] w fun ev w' => ev = .returned (.bool false) ∧ Below w.heap.size w w' := by
 have hmf : ∀ (fn : Fn) (first cap : Array Value) (w : World), (Instr.makeFunc fn first cap).run Tryz.prog w = .ok (.func fn first cap) w := fun _ _ _ _ => rfl
 go_enter_defers Tryz.func11, Tryz.ntmps11
 go_wp2_with (first | (go_at_call 41; refine (eis_nil _ _).mono ?_; rintro e w' ⟨rfl, rfl⟩))
 refine leaves_cons (f := 40) (args := #[.pointer (some ⟨w.heap.size, 0, none⟩)]) (by simp) (by simp [go_sem]) ?_
 refine (idle29 ⟨w.heap.size, 0, none⟩ _).mono ?_
 rintro e u' w'' ⟨rfl, rfl, rfl⟩
 simp [Leaves, settle, results, Tryz.results11, go_sem]
 exact (Below.refl _ _).alloc (Nat.le_refl _) _
theorem is_chn (l : List (ByteArray × Int)) (c : Int) (q : Int) (w : World) :
  Calls Tryz.prog 11 #[chn l (bse c), .int .i64 q] w
   fun ev w' => ev = .returned (.bool (isB c q)) ∧ Below w.heap.size w w' := by
 have hmf : ∀ (fn : Fn) (first cap : Array Value) (w : World), (Instr.makeFunc fn first cap).run Tryz.prog w = .ok (.func fn first cap) w := fun _ _ _ _ => rfl
 go_enter_defers Tryz.func11, Tryz.ntmps11
 go_wp2_with (first | (go_at_call 41; refine (eis_chn l c q _).mono ?_; rintro e w' ⟨rfl, hb⟩; obtain ⟨hc, hf⟩ := bcell hb))
 refine leaves_cons (f := 40) (args := #[.pointer (some ⟨w.heap.size, 0, none⟩)]) (by simp) (by simp [go_sem]) ?_
 refine (idle29 ⟨w.heap.size, 0, none⟩ _).mono ?_
 rintro e u' w'' ⟨rfl, rfl, rfl⟩
 simp [Leaves, settle, results, Tryz.results11, go_sem, hc]
 exact (((Below.refl _ _).alloc (Nat.le_refl _) _).trans (hb.mono (by simp))).setCell (by simp) _
def Hnd (w : World) : Prop := w.cell? ⟨0, 0, none⟩ = some (.iface 163 (.agg #[.pointer (some ⟨1, 28, none⟩)]))
theorem Hnd.below {w w' : World} (h : Hnd w) (hb : Below w.heap.size w w') : Hnd w' := (hb.cell (size_of_handle h)).trans h
theorem three_cells {u : World} {n : Nat} {x y z x' y' z' : Value} (h0 : u.cell? ⟨n, 0, none⟩ = some x') (h1 : u.cell? ⟨n, 1, none⟩ = some y') (h2 : u.cell? ⟨n, 2, none⟩ = some z') :
  (((u.setCell ⟨n, 0, none⟩ x).setCell ⟨n, 1, none⟩ y).setCell ⟨n, 2, none⟩ z).cell? ⟨n, 0, none⟩ = some x ∧ (((u.setCell ⟨n, 0, none⟩ x).setCell ⟨n, 1, none⟩ y).setCell ⟨n, 2, none⟩ z).cell? ⟨n, 1, none⟩ = some y ∧
    (((u.setCell ⟨n, 0, none⟩ x).setCell ⟨n, 1, none⟩ y).setCell ⟨n, 2, none⟩ z).cell? ⟨n, 2, none⟩ = some z := by
 refine ⟨?_, ?_, ?_⟩
 ·rw [World.cell?_setCell_other _ _ _ _ (by simp), World.cell?_setCell_other _ _ _ _ (by simp)]
  exact World.cell?_setCell_same _ _ _ h0
 ·rw [World.cell?_setCell_other _ _ _ _ (by simp)]
  refine World.cell?_setCell_same _ _ _ (u := y') ?_
  rw [World.cell?_setCell_other _ _ _ _ (by simp)]
  exact h1
 ·refine World.cell?_setCell_same _ _ _ (u := z') ?_
  rw [World.cell?_setCell_other _ _ _ _ (by simp), World.cell?_setCell_other _ _ _ _ (by simp)]
  exact h2
theorem outF_hit (op : ByteArray) (a : Int) (ty : TypeId) (v : Value) (w : World) (hg : Hnd w) :
  Calls Tryz.prog 64 #[.iface 98 (.agg #[.string op, .int .i64 a, .iface ty v])] w
   fun ev w' => ev = .returned (.tuple #[.agg #[.string op, .int .i64 a, .iface ty v], .bool true]) ∧ Below w.heap.size w w' := by
 have hlt := size_of_handle hg
 have hmf : ∀ (fn : Fn) (first cap : Array Value) (w : World), (Instr.makeFunc fn first cap).run Tryz.prog w = .ok (.func fn first cap) w := fun _ _ _ _ => rfl
 have hg2 : Hnd ((w.alloc (.cells #[.string ByteArray.empty, .int .i64 0, .nilIface] 98)).alloc (.cells #[.bool false] 4)) := hg.below (((Below.refl _ _).alloc (Nat.le_refl _) _).alloc (by simp) _)
 have HC := hide (as60_hit op a (.iface ty v) (.string ByteArray.empty) (.int .i64 0) .nilIface w.heap.size _ rfl hg2 (by simp) (by simp) (by simp) (by simp) (by simp) (by simp))
 clear hg hg2
 go_enter_defers Tryz.func64, Tryz.ntmps64
 go_wp2_with (first | (go_at_call 97; refine (HC.out).mono ?_; rintro e w' ⟨rfl, u, hb, rfl⟩; obtain ⟨hc, hf⟩ := bcell hb))
 have hu0 : u.cell? ⟨w.heap.size, 0, none⟩ = some (.string ByteArray.empty) := by rw [hc _ _ (by simp; omega)]; simp
 have hu1 : u.cell? ⟨w.heap.size, 1, none⟩ = some (.int .i64 0) := by rw [hc _ _ (by simp; omega)]; simp
 have hu2 : u.cell? ⟨w.heap.size, 2, none⟩ = some .nilIface := by rw [hc _ _ (by simp; omega)]; simp
 have hu3 : u.cell? ⟨w.heap.size + 1, 0, none⟩ = some (.bool false) := by rw [hc _ _ (by simp)]; simp
 have T := three_cells (x := .string op) (y := .int .i64 a) (z := .iface ty v) hu0 hu1 hu2
 generalize hV : World.setCell _ ⟨w.heap.size + 1, 0, none⟩ (.bool true) = V
 have c0 : V.cell? ⟨w.heap.size, 0, none⟩ = some (.string op) := by rw [← hV, World.cell?_setCell_other _ _ _ _ (by simp)]; exact T.1
 have c1 : V.cell? ⟨w.heap.size, 1, none⟩ = some (.int .i64 a) := by rw [← hV, World.cell?_setCell_other _ _ _ _ (by simp)]; exact T.2.1
 have c2 : V.cell? ⟨w.heap.size, 2, none⟩ = some (.iface ty v) := by rw [← hV, World.cell?_setCell_other _ _ _ _ (by simp)]; exact T.2.2
 have c3 : V.cell? ⟨w.heap.size + 1, 0, none⟩ = some (.bool true) := by
  rw [← hV]
  refine World.cell?_setCell_same _ _ _ (u := .bool false) ?_
  iterate 3 rw [World.cell?_setCell_other _ _ _ _ (by simp)]
  exact hu3
 have g0 : V.frozen? ⟨w.heap.size, 0, none⟩ = false := by rw [← hV]; simp; rw [hf _ _ (by simp; omega)]; simp
 have g1 : V.frozen? ⟨w.heap.size, 1, none⟩ = false := by rw [← hV]; simp; rw [hf _ _ (by simp; omega)]; simp
 have g2 : V.frozen? ⟨w.heap.size, 2, none⟩ = false := by rw [← hV]; simp; rw [hf _ _ (by simp; omega)]; simp
 have g3 : V.frozen? ⟨w.heap.size + 1, 0, none⟩ = false := by rw [← hV]; simp; rw [hf _ _ (by simp)]; simp
 have HB : Below w.heap.size w V := by
  rw [← hV]
  exact ((((((Below.refl _ _).alloc (Nat.le_refl _) _).alloc (by simp) _).trans (hb.mono (by simp; omega))).setCell (by simp) _).setCell (by simp) _ |>.setCell (by simp) _).setCell (by simp) _
 clear hV hc hf hb HC T hu0 hu1 hu2 hu3
 go_region
 go_wp2
 have T2 := three_cells (x := .string op) (y := .int .i64 a) (z := .iface ty v) c0 c1 c2
 generalize hW : World.setCell _ ⟨w.heap.size + 1, 0, none⟩ (.bool true) = X
 have d0 : X.cell? ⟨w.heap.size, 0, none⟩ = some (.string op) := by rw [← hW, World.cell?_setCell_other _ _ _ _ (by simp)]; exact T2.1
 have d1 : X.cell? ⟨w.heap.size, 1, none⟩ = some (.int .i64 a) := by rw [← hW, World.cell?_setCell_other _ _ _ _ (by simp)]; exact T2.2.1
 have d2 : X.cell? ⟨w.heap.size, 2, none⟩ = some (.iface ty v) := by rw [← hW, World.cell?_setCell_other _ _ _ _ (by simp)]; exact T2.2.2
 have d3 : X.cell? ⟨w.heap.size + 1, 0, none⟩ = some (.bool true) := by
  rw [← hW]
  refine World.cell?_setCell_same _ _ _ (u := .bool true) ?_
  iterate 3 rw [World.cell?_setCell_other _ _ _ _ (by simp)]
  exact c3
 have HX : Below w.heap.size w X := by rw [← hW]; exact (((HB.setCell (by simp) _).setCell (by simp) _).setCell (by simp) _).setCell (by simp) _
 clear hW T2 c0 c1 c2 c3 g0 g1 g2 g3 HB
 refine leaves_cons (f := 96) (args := #[.pointer (some ⟨w.heap.size, 0, none⟩), .pointer (some ⟨w.heap.size + 1, 0, none⟩)]) (by simp) (by simp [go_sem]) ?_
 refine (idle37 ⟨w.heap.size, 0, none⟩ ⟨w.heap.size + 1, 0, none⟩ _).mono ?_
 rintro e u' w'' ⟨rfl, rfl, rfl⟩
 simp [Leaves, settle, results, Tryz.results64, go_sem, d0, d1, d2, d3]
 exact HX.drew
theorem as_nil_below (t : Value) (w : World) :
  Calls Tryz.prog 97 #[.nilIface, t] w fun e w' => e = .returned (.bool false) ∧ Below w.heap.size w w' :=
 (as_nil t w).mono fun _ _ ⟨he, hw⟩ => ⟨he, by rw [hw]; exact Below.refl _ _⟩
theorem outF_code (k : Int) (w : World) (hg : Hnd w) :
  Calls Tryz.prog 64 #[.iface 33 (.int .i64 k)] w
   fun ev w' => ev = .returned (.tuple #[.agg #[.string ByteArray.empty, .int .i64 0, .nilIface], .bool false]) ∧ Below w.heap.size w w' := by
 have hlt := size_of_handle hg
 have hmf : ∀ (fn : Fn) (first cap : Array Value) (w : World), (Instr.makeFunc fn first cap).run Tryz.prog w = .ok (.func fn first cap) w := fun _ _ _ _ => rfl
 have hg2 : Hnd ((w.alloc (.cells #[.string ByteArray.empty, .int .i64 0, .nilIface] 98)).alloc (.cells #[.bool false] 4)) := hg.below (((Below.refl _ _).alloc (Nat.le_refl _) _).alloc (by simp) _)
 have HC := hide (as60_miss32 k w.heap.size _ hg2)
 clear hg hg2
 go_enter_defers Tryz.func64, Tryz.ntmps64
 go_wp2_with (first | (go_at_call 97; refine (HC.out).mono ?_; rintro e w' ⟨rfl, hb⟩; obtain ⟨hc, hf⟩ := bcell hb))
 have hu0 : w'.cell? ⟨w.heap.size, 0, none⟩ = some (.string ByteArray.empty) := by rw [hc _ _ (by simp; omega)]; simp
 have hu1 : w'.cell? ⟨w.heap.size, 1, none⟩ = some (.int .i64 0) := by rw [hc _ _ (by simp; omega)]; simp
 have hu2 : w'.cell? ⟨w.heap.size, 2, none⟩ = some .nilIface := by rw [hc _ _ (by simp; omega)]; simp
 have hu3 : w'.cell? ⟨w.heap.size + 1, 0, none⟩ = some (.bool false) := by rw [hc _ _ (by simp)]; simp
 generalize hV : World.setCell _ ⟨w.heap.size + 1, 0, none⟩ (.bool false) = V
 have c0 : V.cell? ⟨w.heap.size, 0, none⟩ = some (.string ByteArray.empty) := by rw [← hV, World.cell?_setCell_other _ _ _ _ (by simp)]; exact hu0
 have c1 : V.cell? ⟨w.heap.size, 1, none⟩ = some (.int .i64 0) := by rw [← hV, World.cell?_setCell_other _ _ _ _ (by simp)]; exact hu1
 have c2 : V.cell? ⟨w.heap.size, 2, none⟩ = some .nilIface := by rw [← hV, World.cell?_setCell_other _ _ _ _ (by simp)]; exact hu2
 have c3 : V.cell? ⟨w.heap.size + 1, 0, none⟩ = some (.bool false) := by
  rw [← hV]
  exact World.cell?_setCell_same _ _ _ hu3
 have g0 : V.frozen? ⟨w.heap.size, 0, none⟩ = false := by rw [← hV]; simp; rw [hf _ _ (by simp; omega)]; simp
 have g1 : V.frozen? ⟨w.heap.size, 1, none⟩ = false := by rw [← hV]; simp; rw [hf _ _ (by simp; omega)]; simp
 have g2 : V.frozen? ⟨w.heap.size, 2, none⟩ = false := by rw [← hV]; simp; rw [hf _ _ (by simp; omega)]; simp
 have g3 : V.frozen? ⟨w.heap.size + 1, 0, none⟩ = false := by rw [← hV]; simp; rw [hf _ _ (by simp)]; simp
 have HB : Below w.heap.size w V := by
  rw [← hV]
  exact ((((Below.refl _ _).alloc (Nat.le_refl _) _).alloc (by simp) _).trans (hb.mono (by simp; omega))).setCell (by simp) _
 clear hV hc hf hb HC hu0 hu1 hu2 hu3
 go_region
 go_wp2
 have T2 := three_cells (x := .string ByteArray.empty) (y := .int .i64 0) (z := .nilIface) c0 c1 c2
 generalize hW : World.setCell _ ⟨w.heap.size + 1, 0, none⟩ (.bool false) = X
 have d0 : X.cell? ⟨w.heap.size, 0, none⟩ = some (.string ByteArray.empty) := by rw [← hW, World.cell?_setCell_other _ _ _ _ (by simp)]; exact T2.1
 have d1 : X.cell? ⟨w.heap.size, 1, none⟩ = some (.int .i64 0) := by rw [← hW, World.cell?_setCell_other _ _ _ _ (by simp)]; exact T2.2.1
 have d2 : X.cell? ⟨w.heap.size, 2, none⟩ = some (.nilIface) := by rw [← hW, World.cell?_setCell_other _ _ _ _ (by simp)]; exact T2.2.2
 have d3 : X.cell? ⟨w.heap.size + 1, 0, none⟩ = some (.bool false) := by
  rw [← hW]
  refine World.cell?_setCell_same _ _ _ (u := .bool false) ?_
  iterate 3 rw [World.cell?_setCell_other _ _ _ _ (by simp)]
  exact c3
 have HX : Below w.heap.size w X := by rw [← hW]; exact (((HB.setCell (by simp) _).setCell (by simp) _).setCell (by simp) _).setCell (by simp) _
 clear hW T2 c0 c1 c2 c3 g0 g1 g2 g3 HB
 refine leaves_cons (f := 96) (args := #[.pointer (some ⟨w.heap.size, 0, none⟩), .pointer (some ⟨w.heap.size + 1, 0, none⟩)]) (by simp) (by simp [go_sem]) ?_
 refine (idle37 ⟨w.heap.size, 0, none⟩ ⟨w.heap.size + 1, 0, none⟩ _).mono ?_
 rintro e u' w'' ⟨rfl, rfl, rfl⟩
 simp [Leaves, settle, results, Tryz.results64, go_sem, d0, d1, d2, d3]
 exact HX.drew
theorem outF_nil (w : World) (hg : Hnd w) :
  Calls Tryz.prog 64 #[.nilIface] w
   fun ev w' => ev = .returned (.tuple #[.agg #[.string ByteArray.empty, .int .i64 0, .nilIface], .bool false]) ∧ Below w.heap.size w w' := by
 have hlt := size_of_handle hg
 have hmf : ∀ (fn : Fn) (first cap : Array Value) (w : World), (Instr.makeFunc fn first cap).run Tryz.prog w = .ok (.func fn first cap) w := fun _ _ _ _ => rfl
 have _hg2 : Hnd ((w.alloc (.cells #[.string ByteArray.empty, .int .i64 0, .nilIface] 98)).alloc (.cells #[.bool false] 4)) := hg.below (((Below.refl _ _).alloc (Nat.le_refl _) _).alloc (by simp) _)
 have HC := hide (as_nil_below (.iface 155 (.pointer (some ⟨w.heap.size, 0, none⟩))) ((w.alloc (.cells #[.string ByteArray.empty, .int .i64 0, .nilIface] 98)).alloc (.cells #[.bool false] 4)))
 clear hg _hg2
 go_enter_defers Tryz.func64, Tryz.ntmps64
 go_wp2_with (first | (go_at_call 97; refine (HC.out).mono ?_; rintro e w' ⟨rfl, hb⟩; obtain ⟨hc, hf⟩ := bcell hb))
 have hu0 : w'.cell? ⟨w.heap.size, 0, none⟩ = some (.string ByteArray.empty) := by rw [hc _ _ (by simp; omega)]; simp
 have hu1 : w'.cell? ⟨w.heap.size, 1, none⟩ = some (.int .i64 0) := by rw [hc _ _ (by simp; omega)]; simp
 have hu2 : w'.cell? ⟨w.heap.size, 2, none⟩ = some .nilIface := by rw [hc _ _ (by simp; omega)]; simp
 have hu3 : w'.cell? ⟨w.heap.size + 1, 0, none⟩ = some (.bool false) := by rw [hc _ _ (by simp)]; simp
 generalize hV : World.setCell _ ⟨w.heap.size + 1, 0, none⟩ (.bool false) = V
 have c0 : V.cell? ⟨w.heap.size, 0, none⟩ = some (.string ByteArray.empty) := by rw [← hV, World.cell?_setCell_other _ _ _ _ (by simp)]; exact hu0
 have c1 : V.cell? ⟨w.heap.size, 1, none⟩ = some (.int .i64 0) := by rw [← hV, World.cell?_setCell_other _ _ _ _ (by simp)]; exact hu1
 have c2 : V.cell? ⟨w.heap.size, 2, none⟩ = some .nilIface := by rw [← hV, World.cell?_setCell_other _ _ _ _ (by simp)]; exact hu2
 have c3 : V.cell? ⟨w.heap.size + 1, 0, none⟩ = some (.bool false) := by
  rw [← hV]
  exact World.cell?_setCell_same _ _ _ hu3
 have g0 : V.frozen? ⟨w.heap.size, 0, none⟩ = false := by rw [← hV]; simp; rw [hf _ _ (by simp; omega)]; simp
 have g1 : V.frozen? ⟨w.heap.size, 1, none⟩ = false := by rw [← hV]; simp; rw [hf _ _ (by simp; omega)]; simp
 have g2 : V.frozen? ⟨w.heap.size, 2, none⟩ = false := by rw [← hV]; simp; rw [hf _ _ (by simp; omega)]; simp
 have g3 : V.frozen? ⟨w.heap.size + 1, 0, none⟩ = false := by rw [← hV]; simp; rw [hf _ _ (by simp)]; simp
 have HB : Below w.heap.size w V := by
  rw [← hV]
  exact ((((Below.refl _ _).alloc (Nat.le_refl _) _).alloc (by simp) _).trans (hb.mono (by simp; omega))).setCell (by simp) _
 clear hV hc hf hb HC hu0 hu1 hu2 hu3
 go_region
 go_wp2
 have T2 := three_cells (x := .string ByteArray.empty) (y := .int .i64 0) (z := .nilIface) c0 c1 c2
 generalize hW : World.setCell _ ⟨w.heap.size + 1, 0, none⟩ (.bool false) = X
 have d0 : X.cell? ⟨w.heap.size, 0, none⟩ = some (.string ByteArray.empty) := by rw [← hW, World.cell?_setCell_other _ _ _ _ (by simp)]; exact T2.1
 have d1 : X.cell? ⟨w.heap.size, 1, none⟩ = some (.int .i64 0) := by rw [← hW, World.cell?_setCell_other _ _ _ _ (by simp)]; exact T2.2.1
 have d2 : X.cell? ⟨w.heap.size, 2, none⟩ = some (.nilIface) := by rw [← hW, World.cell?_setCell_other _ _ _ _ (by simp)]; exact T2.2.2
 have d3 : X.cell? ⟨w.heap.size + 1, 0, none⟩ = some (.bool false) := by
  rw [← hW]
  refine World.cell?_setCell_same _ _ _ (u := .bool false) ?_
  iterate 3 rw [World.cell?_setCell_other _ _ _ _ (by simp)]
  exact c3
 have HX : Below w.heap.size w X := by rw [← hW]; exact (((HB.setCell (by simp) _).setCell (by simp) _).setCell (by simp) _).setCell (by simp) _
 clear hW T2 c0 c1 c2 c3 g0 g1 g2 g3 HB
 refine leaves_cons (f := 96) (args := #[.pointer (some ⟨w.heap.size, 0, none⟩), .pointer (some ⟨w.heap.size + 1, 0, none⟩)]) (by simp) (by simp [go_sem]) ?_
 refine (idle37 ⟨w.heap.size, 0, none⟩ ⟨w.heap.size + 1, 0, none⟩ _).mono ?_
 rintro e u' w'' ⟨rfl, rfl, rfl⟩
 simp [Leaves, settle, results, Tryz.results64, go_sem, d0, d1, d2, d3]
 exact HX.drew
theorem outC_some (l : List (ByteArray × Int)) (k : Int) (w : World) (hg : Hnd w) :
  Calls Tryz.prog 65 #[chn l (bse k)] w
   fun ev w' => ev = .returned (.tuple #[.int .i64 k, .bool true]) ∧ Below w.heap.size w w' := by
 have hlt := size_of_handle hg
 have hmf : ∀ (fn : Fn) (first cap : Array Value) (w : World), (Instr.makeFunc fn first cap).run Tryz.prog w = .ok (.func fn first cap) w := fun _ _ _ _ => rfl
 have hg2 : Hnd ((w.alloc (.cells #[.int .i64 0] 33)).alloc (.cells #[.bool false] 4)) := hg.below (((Below.refl _ _).alloc (Nat.le_refl _) _).alloc (by simp) _)
 have hc := as32_some l k w.heap.size (.int .i64 0) _ hg2 (by simp) (by simp)
 obtain ⟨ty, v, hv⟩ := chn_form l k
 rw [hv] at hc ⊢
 have HC := hide hc
 clear hg hg2 hc hv
 go_enter_defers Tryz.func65, Tryz.ntmps65
 go_wp2_with (first | (go_at_call 97; refine (HC.out).mono ?_; rintro e w' ⟨rfl, u, hb, rfl⟩; obtain ⟨hc, hf⟩ := bcell hb))
 have hu0 : u.cell? ⟨w.heap.size, 0, none⟩ = some (.int .i64 0) := by rw [hc _ _ (by simp; omega)]; simp
 have hu3 : u.cell? ⟨w.heap.size + 1, 0, none⟩ = some (.bool false) := by rw [hc _ _ (by simp)]; simp
 generalize hV : World.setCell _ ⟨w.heap.size + 1, 0, none⟩ (.bool true) = V
 have c0 : V.cell? ⟨w.heap.size, 0, none⟩ = some (.int .i64 k) := by
  rw [← hV, World.cell?_setCell_other _ _ _ _ (by simp)]
  exact World.cell?_setCell_same _ _ _ hu0
 have c3 : V.cell? ⟨w.heap.size + 1, 0, none⟩ = some (.bool true) := by
  rw [← hV]
  refine World.cell?_setCell_same _ _ _ (u := .bool false) ?_
  rw [World.cell?_setCell_other _ _ _ _ (by simp)]
  exact hu3
 have g0 : V.frozen? ⟨w.heap.size, 0, none⟩ = false := by rw [← hV]; simp; rw [hf _ _ (by simp; omega)]; simp
 have g3 : V.frozen? ⟨w.heap.size + 1, 0, none⟩ = false := by rw [← hV]; simp; rw [hf _ _ (by simp)]; simp
 have HB : Below w.heap.size w V := by
  rw [← hV]
  exact (((((Below.refl _ _).alloc (Nat.le_refl _) _).alloc (by simp) _).trans (hb.mono (by simp; omega))).setCell (by simp) _).setCell (by simp) _
 clear hV hc hf hb HC hu0 hu3
 go_region
 go_wp2
 generalize hW : World.setCell _ ⟨w.heap.size + 1, 0, none⟩ (.bool true) = X
 have d0 : X.cell? ⟨w.heap.size, 0, none⟩ = some (.int .i64 k) := by
  rw [← hW, World.cell?_setCell_other _ _ _ _ (by simp)]
  exact World.cell?_setCell_same _ _ _ c0
 have d3 : X.cell? ⟨w.heap.size + 1, 0, none⟩ = some (.bool true) := by
  rw [← hW]
  refine World.cell?_setCell_same _ _ _ (u := .bool true) ?_
  rw [World.cell?_setCell_other _ _ _ _ (by simp)]
  exact c3
 have HX : Below w.heap.size w X := by rw [← hW]; exact (HB.setCell (by simp) _).setCell (by simp) _
 clear hW c0 c3 g0 g3 HB
 refine leaves_cons (f := 98) (args := #[.pointer (some ⟨w.heap.size, 0, none⟩), .pointer (some ⟨w.heap.size + 1, 0, none⟩)]) (by simp) (by simp [go_sem]) ?_
 refine (idle39 ⟨w.heap.size, 0, none⟩ ⟨w.heap.size + 1, 0, none⟩ _).mono ?_
 rintro e u' w'' ⟨rfl, rfl, rfl⟩
 simp [Leaves, settle, results, Tryz.results65, go_sem, d0, d3]
 exact HX.drew
open Go.ChangeShapes Go.WideShapes Go.ChangeAt Go.RowKit Go.Joins
theorem own : ownKnob Tryz.prog.godebug = none := by kernel_rfl
theorem laidOut : laidOutB Tryz.prog = true := by kernel_rfl
theorem et : Tryz.prog.globalNamed "errors.errorType" = some 0 := by kernel_rfl
theorem oneRow : ((List.range 254).filter fun t => Tryz.prog.rowNamed t [101, 114, 114, 111, 114]) = [28] := by kernel_rfl
theorem typesSize : Tryz.prog.types.size = 254 := by kernel_rfl
theorem handle_of_laid {W : World} (h : laidMetH Tryz.prog [("errors.errorType", Rows.laid_errors_errorType)] W) : Hnd W := by
 have h' : laidMet Tryz.prog [] W ∧ handlesMet Tryz.prog [("errors.errorType", Rows.laid_errors_errorType)] W := h
 obtain ⟨name, u, ty, e1, e2, e3, e4, e5⟩ := h'.2 _ (List.mem_singleton.2 rfl)
 have en : name = [101, 114, 114, 111, 114] := (Option.some.inj e1).symm
 subst en
 have hu : some u = some 163 := e2.symm.trans (by kernel_rfl)
 obtain rfl := Option.some.inj hu
 have hm : ty ∈ (List.range 254).filter fun t => Tryz.prog.rowNamed t [101, 114, 114, 111, 114] := List.mem_filter.2 ⟨List.mem_range.2 (by rw [← typesSize]; exact e3), e4⟩
 rw [oneRow] at hm
 obtain rfl := List.mem_singleton.1 hm
 have hh : typeHandle Tryz.prog 28 = .pointer (some ⟨1, 28, none⟩) := by kernel_rfl
 rw [hh] at e5
 unfold Hnd
 simpa using World.var?_cell et e5 0
def layHnd (w : World) : World :=
 { w with heap := w.heap.modify 0 fun
   | .cells _ t frozen => .cells #[.iface 163 (.agg #[.pointer (some ⟨1, 28, none⟩)])] t frozen
   | o => o }
theorem laid_met (os : Os) (args : Array Value) : laidMetH Tryz.prog [("errors.errorType", Rows.laid_errors_errorType)] ((layHnd (World.holding Tryz.prog os ⟨#[], #[], []⟩)).forCall (fun _ _ => 0) ⟨#[], args, []⟩).memory :=
 laidMetH_of_parts (laidMet_nil _ _) (by kernel_rfl)
section
variable {H : Type} {enc : TypeId × Value → H}
theorem open_nums {W : World} {base : Nat} {t e : TypeId} {k : IntKind} {v : Value} {d : DataW H} {p : List MemPlace} (ht : Tryz.prog.underlying t = some (.slice e)) (he : Tryz.prog.underlying e = some (.int k)) (hc : Tryz.prog.cellsOf e = 1)
  (hv : Value.okWide Tryz.prog W .any base t v) (h : DataW.Trod enc Tryz.prog W 0 (fun _ => true) true t v d p) : ∃ l : List Int, Sl (fun x => .int k x) W v l ∧ l.length ≤ maxLen ∧ ∀ n ∈ l, (Lit.int k n).wf = true := by
 obtain ⟨a0, len, cap, rfl⟩ := okWide_slice ht hv
 obtain ⟨fuel, hf⟩ := h
 rcases open_ints ht he hc hf with ⟨hcs, _⟩ | ⟨a, len', cap', zs, hcs, _, hle, hmax, hall, _, hcell, hwf⟩
 ·simp [Value.cells] at hcs
  obtain ⟨rfl, rfl, rfl⟩ := hcs
  exact ⟨[], .inl ⟨_, _, rfl, rfl⟩, Nat.zero_le _, fun n hn => by cases hn⟩
 ·simp [Value.cells] at hcs
  obtain ⟨rfl, rfl, rfl⟩ := hcs
  rw [if_pos rfl] at hall
  have hl : (zs.take len).length = len := by rw [List.length_take]; omega
  refine ⟨zs.take len, ?_, by omega, fun n hn => hwf n (List.mem_of_mem_take hn)⟩
  by_cases h0 : len = 0
  ·subst h0
   exact .inl ⟨_, _, by simp, rfl⟩
  ·obtain ⟨b, off, rfl, hcc⟩ := ints_at hcell (by omega)
   refine .inr ⟨b, off, cap, by rw [hl], by omega, fun i hi => ?_⟩
   rw [hl] at hi
   rw [hcc i (by omega), List.getElem_take]
   simp [List.getD, show i < zs.length by omega]
end
open Go.RowKit
theorem or_nat (j a y : Nat) (hy : y < 2 ^ j) : 2 ^ j * a ||| y = 2 ^ j * a + y := (Nat.two_pow_add_eq_or_of_lt hy a).symm
theorem or_u64 (j a y : Nat) (hy : y < 2 ^ j) (hs : 2 ^ j * a + y < 18446744073709551616) : bits .or .u64 ((2 ^ j * a : Nat) : Int) (y : Int) = ((2 ^ j * a + y : Nat) : Int) := by
 have h1 : 2 ^ j * a < 2 ^ 64 := by omega
 have h2 : y < 2 ^ 64 := by omega
 have e : (BitVec.ofInt 64 ((2 ^ j * a : Nat) : Int) ||| BitVec.ofInt 64 (y : Int)).toNat = 2 ^ j * a + y := by
  rw [BitVec.toNat_or, BitVec.ofInt_natCast, BitVec.ofInt_natCast, BitVec.toNat_ofNat, BitVec.toNat_ofNat, Nat.mod_eq_of_lt h1, Nat.mod_eq_of_lt h2]
  exact or_nat j a y hy
 show IntKind.u64.wrap ((BitVec.ofInt 64 ((2 ^ j * a : Nat) : Int) ||| BitVec.ofInt 64 (y : Int)).toNat : Int) = _
 rw [e, IntKind.wrap_u64]
 omega
theorem or_u8 (j a y : Nat) (hy : y < 2 ^ j) (hs : 2 ^ j * a + y < 256) : bits .or .u8 (y : Int) ((2 ^ j * a : Nat) : Int) = ((2 ^ j * a + y : Nat) : Int) := by
 have h1 : 2 ^ j * a < 2 ^ 8 := by omega
 have h2 : y < 2 ^ 8 := by omega
 have e : (BitVec.ofInt 8 (y : Int) ||| BitVec.ofInt 8 ((2 ^ j * a : Nat) : Int)).toNat = 2 ^ j * a + y := by
  rw [BitVec.toNat_or, BitVec.ofInt_natCast, BitVec.ofInt_natCast, BitVec.toNat_ofNat, BitVec.toNat_ofNat, Nat.mod_eq_of_lt h1, Nat.mod_eq_of_lt h2, Nat.or_comm]
  exact or_nat j a y hy
 show IntKind.u8.wrap ((BitVec.ofInt 8 (y : Int) ||| BitVec.ofInt 8 ((2 ^ j * a : Nat) : Int)).toNat : Int) = _
 rw [e, IntKind.wrap_u8]
 omega
theorem or_add {x y P : Int} (j : Nat) (q : Int) (hP : P = ((2 ^ j : Nat) : Int)) (hx : x = P * q) (hq : 0 ≤ q) (h0 : 0 ≤ y) (hy : y < P) (hs : x + y < 18446744073709551616) : bits .or .u64 x y = x + y := by
 have e1 : x = ((2 ^ j * q.toNat : Nat) : Int) := by rw [hx, hP, Int.natCast_mul]; congr 1; omega
 have e2 : y = (y.toNat : Int) := by omega
 have e3 := or_u64 j q.toNat y.toNat (by omega) (by omega)
 rw [← e1, ← e2] at e3
 rw [e3]
 omega
theorem or_head {x : Int} (q : Nat) (h0 : 0 ≤ x) (h1 : x < 64) (hq : q < 4) : bits .or .u8 x ((64 * q : Nat) : Int) = x + 64 * q := by
 have e2 : x = (x.toNat : Int) := by omega
 have e3 := or_u8 6 q x.toNat (by omega) (by omega)
 rw [← e2] at e3
 rw [show 64 * q = 2 ^ 6 * q by omega, e3]
 omega
theorem number_1 (b o cap : Nat) (x0 : Int) (w : World) (h0 : 0 ≤ x0) (g0 : x0 ≤ 255) (c0 : w.cell? ⟨b, o, none⟩ = some (.int .u8 x0)) :
  Calls Tryz.prog 111 #[.slice (some ⟨b, o, none⟩) 1 cap] w fun e w' => e = .returned (.int .u64 (x0 % 64)) ∧ Below w.heap.size w w' := by
 go_enter Tryz.func111, Tryz.ntmps111
 go_wp2_with fail
 go_quiet (fail)
 go_wp2
 all_goals go_ret
 all_goals exact ⟨rfl, below_drewN (Below.refl _ _) _⟩
theorem number_2 (b o cap : Nat) (x0 x1 : Int) (w : World) (h0 : 0 ≤ x0) (g0 : x0 ≤ 255) (h1 : 0 ≤ x1) (g1 : x1 ≤ 255) (hc : 2 ≤ cap)
  (c0 : w.cell? ⟨b, o, none⟩ = some (.int .u8 x0)) (c1 : w.cell? ⟨b, o + 1, none⟩ = some (.int .u8 x1)) :
  Calls Tryz.prog 111 #[.slice (some ⟨b, o, none⟩) 2 cap] w fun e w' => e = .returned (.int .u64 (x0 % 64 * 256 + x1)) ∧ Below w.heap.size w w' := by
 have e1 : bits .or .u64 (x0 % 64 * 256) x1 = x0 % 64 * 256 + x1 := or_add 8 (x0 % 64) (P := 256) rfl (by omega) (by omega) (by omega) (by omega) (by omega)
 go_enter Tryz.func111, Tryz.ntmps111
 go_wp2_with fail
 go_quiet (fail)
 go_wp2
 go_ret
 exact ⟨rfl, below_drewN (Below.refl _ _) _⟩
theorem number_4 (b o cap : Nat) (x0 x1 x2 x3 : Int) (w : World) (h0 : 0 ≤ x0) (g0 : x0 ≤ 255) (h1 : 0 ≤ x1) (g1 : x1 ≤ 255) (h2 : 0 ≤ x2) (g2 : x2 ≤ 255) (h3 : 0 ≤ x3) (g3 : x3 ≤ 255) (hc : 4 ≤ cap)
  (c0 : w.cell? ⟨b, o, none⟩ = some (.int .u8 x0)) (c1 : w.cell? ⟨b, o + 1, none⟩ = some (.int .u8 x1)) (c2 : w.cell? ⟨b, o + 2, none⟩ = some (.int .u8 x2)) (c3 : w.cell? ⟨b, o + 3, none⟩ = some (.int .u8 x3)) :
  Calls Tryz.prog 111 #[.slice (some ⟨b, o, none⟩) 4 cap] w fun e w' => e = .returned (.int .u64 (((x0 % 64 * 256 + x1) * 256 + x2) * 256 + x3)) ∧ Below w.heap.size w w' := by
 have e1 : bits .or .u64 (x0 % 64 * 65536) (x1 * 256) = x0 % 64 * 65536 + x1 * 256 := or_add 16 (x0 % 64) (P := 65536) rfl (by omega) (by omega) (by omega) (by omega) (by omega)
 have e2 : bits .or .u64 (x0 % 64 * 65536 + x1 * 256) x2 = x0 % 64 * 65536 + x1 * 256 + x2 := or_add 8 (x0 % 64 * 256 + x1) (P := 256) rfl (by omega) (by omega) (by omega) (by omega) (by omega)
 have e3 : bits .or .u64 ((x0 % 64 * 65536 + x1 * 256 + x2) * 256) x3 = (x0 % 64 * 65536 + x1 * 256 + x2) * 256 + x3 := or_add 8 (x0 % 64 * 65536 + x1 * 256 + x2) (P := 256) rfl (by omega) (by omega) (by omega) (by omega) (by omega)
 have e4 : ((x0 % 64 * 256 + x1) * 256 + x2) * 256 + x3 = (x0 % 64 * 65536 + x1 * 256 + x2) * 256 + x3 := by omega
 rw [e4]
 clear e4
 go_enter Tryz.func111, Tryz.ntmps111
 go_wp2_with fail
 go_quiet (fail)
 go_wp2_with fail
 go_quiet (fail)
 go_wp2
 go_ret
 exact ⟨rfl, below_drewN (Below.refl _ _) _⟩
theorem number_8 (b o cap : Nat) (x0 x1 x2 x3 x4 x5 x6 x7 : Int) (w : World) (h0 : 0 ≤ x0) (g0 : x0 ≤ 255) (h1 : 0 ≤ x1) (g1 : x1 ≤ 255) (h2 : 0 ≤ x2) (g2 : x2 ≤ 255) (h3 : 0 ≤ x3) (g3 : x3 ≤ 255) (h4 : 0 ≤ x4) (g4 : x4 ≤ 255) (h5 : 0 ≤ x5) (g5 : x5 ≤ 255) (h6 : 0 ≤ x6) (g6 : x6 ≤ 255) (h7 : 0 ≤ x7) (g7 : x7 ≤ 255) (hc : 8 ≤ cap)
  (c0 : w.cell? ⟨b, o, none⟩ = some (.int .u8 x0)) (c1 : w.cell? ⟨b, o + 1, none⟩ = some (.int .u8 x1)) (c2 : w.cell? ⟨b, o + 2, none⟩ = some (.int .u8 x2)) (c3 : w.cell? ⟨b, o + 3, none⟩ = some (.int .u8 x3)) (c4 : w.cell? ⟨b, o + 4, none⟩ = some (.int .u8 x4)) (c5 : w.cell? ⟨b, o + 5, none⟩ = some (.int .u8 x5)) (c6 : w.cell? ⟨b, o + 6, none⟩ = some (.int .u8 x6)) (c7 : w.cell? ⟨b, o + 7, none⟩ = some (.int .u8 x7)) :
  Calls Tryz.prog 111 #[.slice (some ⟨b, o, none⟩) 8 cap] w fun e w' => e = .returned (.int .u64 (((((((x0 % 64 * 256 + x1) * 256 + x2) * 256 + x3) * 256 + x4) * 256 + x5) * 256 + x6) * 256 + x7)) ∧ Below w.heap.size w w' := by
 have e1 : bits .or .u64 (x0 % 64 * 4294967296) (x1 * 16777216) = x0 % 64 * 4294967296 + x1 * 16777216 := or_add 32 (x0 % 64) (P := 4294967296) rfl (by omega) (by omega) (by omega) (by omega) (by omega)
 have e2 : bits .or .u64 (x0 % 64 * 4294967296 + x1 * 16777216) (x2 * 65536) = x0 % 64 * 4294967296 + x1 * 16777216 + x2 * 65536 := or_add 24 (x0 % 64 * 256 + x1) (P := 16777216) rfl (by omega) (by omega) (by omega) (by omega) (by omega)
 have e3 : bits .or .u64 (x0 % 64 * 4294967296 + x1 * 16777216 + x2 * 65536) (x3 * 256) = x0 % 64 * 4294967296 + x1 * 16777216 + x2 * 65536 + x3 * 256 := or_add 16 ((x0 % 64 * 256 + x1) * 256 + x2) (P := 65536) rfl (by omega) (by omega) (by omega) (by omega) (by omega)
 have e4 : bits .or .u64 (x0 % 64 * 4294967296 + x1 * 16777216 + x2 * 65536 + x3 * 256) x4 = x0 % 64 * 4294967296 + x1 * 16777216 + x2 * 65536 + x3 * 256 + x4 := or_add 8 (((x0 % 64 * 256 + x1) * 256 + x2) * 256 + x3) (P := 256) rfl (by omega) (by omega) (by omega) (by omega) (by omega)
 have e5 : bits .or .u64 ((x0 % 64 * 4294967296 + x1 * 16777216 + x2 * 65536 + x3 * 256 + x4) * 65536) (x5 * 256) = (x0 % 64 * 4294967296 + x1 * 16777216 + x2 * 65536 + x3 * 256 + x4) * 65536 + x5 * 256 := or_add 16 (x0 % 64 * 4294967296 + x1 * 16777216 + x2 * 65536 + x3 * 256 + x4) (P := 65536) rfl (by omega) (by omega) (by omega) (by omega) (by omega)
 have e6 : bits .or .u64 ((x0 % 64 * 4294967296 + x1 * 16777216 + x2 * 65536 + x3 * 256 + x4) * 65536 + x5 * 256) x6 = (x0 % 64 * 4294967296 + x1 * 16777216 + x2 * 65536 + x3 * 256 + x4) * 65536 + x5 * 256 + x6 := or_add 8 ((x0 % 64 * 4294967296 + x1 * 16777216 + x2 * 65536 + x3 * 256 + x4) * 256 + x5) (P := 256) rfl (by omega) (by omega) (by omega) (by omega) (by omega)
 have e7 : bits .or .u64 (((x0 % 64 * 4294967296 + x1 * 16777216 + x2 * 65536 + x3 * 256 + x4) * 65536 + x5 * 256 + x6) * 256) x7 = ((x0 % 64 * 4294967296 + x1 * 16777216 + x2 * 65536 + x3 * 256 + x4) * 65536 + x5 * 256 + x6) * 256 + x7 := or_add 8 ((x0 % 64 * 4294967296 + x1 * 16777216 + x2 * 65536 + x3 * 256 + x4) * 65536 + x5 * 256 + x6) (P := 256) rfl (by omega) (by omega) (by omega) (by omega) (by omega)
 have e8 : ((((((x0 % 64 * 256 + x1) * 256 + x2) * 256 + x3) * 256 + x4) * 256 + x5) * 256 + x6) * 256 + x7 = ((x0 % 64 * 4294967296 + x1 * 16777216 + x2 * 65536 + x3 * 256 + x4) * 65536 + x5 * 256 + x6) * 256 + x7 := by omega
 rw [e8]
 clear e8
 go_enter Tryz.func111, Tryz.ntmps111
 go_wp2_with fail
 go_quiet (fail)
 go_wp2_with fail
 go_quiet (fail)
 go_wp2_with fail
 go_quiet (fail)
 go_wp2
 go_ret
 exact ⟨rfl, below_drewN (Below.refl _ _) _⟩
def szL (n : Int) : Int := (numL n).length
theorem wsize_any (n : Int) (w : World) : Calls Tryz.prog 101 #[.int .u64 n] w fun e w' => e = .returned (.int .i64 (szL n)) ∧ w' = w := by
 unfold szL numL
 by_cases h1 : n < 64
 ·rw [if_pos h1]
  go_enter Tryz.func101, Tryz.ntmps101
  go_wp2
  go_ret
  exact ⟨rfl, rfl⟩
 ·rw [if_neg h1]
  by_cases h2 : n < 16384
  ·rw [if_pos h2]
   go_enter Tryz.func101, Tryz.ntmps101
   go_wp2
   go_ret
   exact ⟨rfl, rfl⟩
  ·rw [if_neg h2]
   by_cases h3 : n < 1073741824
   ·rw [if_pos h3]
    go_enter Tryz.func101, Tryz.ntmps101
    go_wp2
    go_ret
    exact ⟨rfl, rfl⟩
   ·rw [if_neg h3]
    go_enter Tryz.func101, Tryz.ntmps101
    go_wp2
    go_ret
    exact ⟨rfl, rfl⟩
def abv' (n : Int) : Int := if n < 0 then 0 else n
theorem natural_any (n : Int) (w : World) (h1 : n ≤ 9223372036854775807) : Calls Tryz.prog 80 #[.int .i64 n] w fun e w' => e = .returned (.int .u64 (abv' n)) ∧ w' = w := by
 by_cases h : n < 0
 ·rw [show abv' n = 0 from if_pos h]
  go_enter Tryz.func80, Tryz.ntmps80
  go_wp2
  all_goals go_ret
  all_goals exact ⟨rfl, rfl⟩
 ·rw [show abv' n = n from if_neg h]
  go_enter Tryz.func80, Tryz.ntmps80
  go_wp2
  all_goals go_ret
  all_goals exact ⟨rfl, rfl⟩
theorem announced_none (ao : Option Addr) (cap : Nat) (w : World) : Calls Tryz.prog 110 #[.slice ao 0 cap] w fun e w' => e = .returned (.int .i64 1) ∧ w' = w := by
 go_enter Tryz.func110, Tryz.ntmps110
 go_wp2
 go_ret
 exact ⟨rfl, rfl⟩
def annL (x : Int) : Int := if x / 64 = 0 then 1 else if x / 64 = 1 then 2 else if x / 64 = 2 then 4 else 8
theorem annL_pow (x : Int) (h0 : 0 ≤ x) (g0 : x ≤ 255) : wrap64 (2 ^ (x / 64).toNat) = annL x := by
 have hq : x / 64 = 0 ∨ x / 64 = 1 ∨ x / 64 = 2 ∨ x / 64 = 3 := by omega
 unfold annL
 rcases hq with h | h | h | h <;> rw [h] <;> simp [wrap64]
theorem announced_some (b o n cap : Nat) (x0 : Int) (w : World) (hn : 0 < n) (h0 : 0 ≤ x0) (g0 : x0 ≤ 255) (c0 : w.cell? ⟨b, o, none⟩ = some (.int .u8 x0)) :
  Calls Tryz.prog 110 #[.slice (some ⟨b, o, none⟩) n cap] w fun e w' => e = .returned (.int .i64 (annL x0)) ∧ w' = w := by
 have hn' : ¬ n = 0 := by omega
 have hp := annL_pow x0 h0 g0
 go_enter Tryz.func110, Tryz.ntmps110
 go_wp2
 go_ret
 exact ⟨by rw [← hp]; rfl, rfl⟩
theorem new_any (op : ByteArray) (a c : Int) (w : World) :
  Calls Tryz.prog 15 #[.string op, .int .i64 a, .int .i64 c] w fun e w' => e = .returned (.iface 98 (.agg #[.string op, .int .i64 a, .iface 33 (.int .i64 c)])) ∧ w' = w := by
 go_enter Tryz.func15, Tryz.ntmps15
 go_wp2
 go_ret
 exact ⟨rfl, rfl⟩
theorem wrap_some (op : ByteArray) (a : Int) (t : TypeId) (v : Value) (w : World) :
  Calls Tryz.prog 72 #[.string op, .int .i64 a, .iface t v] w fun e w' => e = .returned (.iface 98 (.agg #[.string op, .int .i64 a, .iface t v])) ∧ w' = w := by
 go_enter Tryz.func72, Tryz.ntmps72
 go_wp2
 go_ret
 exact ⟨rfl, rfl⟩
def ev (x : Option (List (ByteArray × Int) × Int)) : Value := match x with
 | none => .nilIface
 | some (l, c) => chn l (bse c)
def ofV (x : Option (List (ByteArray × Int) × Int)) : Int := match x with
 | none => 0
 | some (_, k) => k
def isV (x : Option (List (ByteArray × Int) × Int)) (q : Int) : Bool := match x with
 | none => false
 | some (_, c) => isB c q
def stV (x : Option (List (ByteArray × Int) × Int)) : List (ByteArray × Int) := match x with
 | none => []
 | some (l, _) => l
def atV (l : List (ByteArray × Int)) : Int := match l with
 | [] => 0
 | s :: _ => s.2
def inV (l : List (ByteArray × Int)) : Bool := match l with
 | [] => false
 | _ :: _ => true
theorem of_nil (w : World) : Calls Tryz.prog 31 #[.nilIface] w fun e w' => e = .returned (.int .i64 0) ∧ Below w.heap.size w w' := by
 go_enter Tryz.func31, Tryz.ntmps31
 go_wp2
 go_ret
 exact ⟨rfl, Below.refl _ _⟩
theorem of_chn (l : List (ByteArray × Int)) (c : Int) (w : World) (hg : Hnd w) :
  Calls Tryz.prog 31 #[chn l (bse c)] w fun e w' => e = .returned (.int .i64 (ofV (some (l, c)))) ∧ Below w.heap.size w w' := by
 obtain ⟨ty, v, hv⟩ := chn_form l c
 have hc := outC_some l c w hg
 rw [hv] at hc ⊢
 have HC := hide hc
 clear hc hv hg
 go_enter Tryz.func31, Tryz.ntmps31
 go_wp2_with (first | (go_at_call 65; refine (HC.out).mono ?_; rintro e w' ⟨rfl, hb⟩))
 go_ret
 exact ⟨rfl, hb⟩
theorem of_ev (x : Option (List (ByteArray × Int) × Int)) (w : World) (hg : Hnd w) :
  Calls Tryz.prog 31 #[ev x] w fun e w' => e = .returned (.int .i64 (ofV x)) ∧ Below w.heap.size w w' := by
 rcases x with _ | ⟨l, c⟩
 ·exact of_nil w
 ·exact of_chn l c w hg
theorem is_ev (x : Option (List (ByteArray × Int) × Int)) (q : Int) (w : World) :
  Calls Tryz.prog 11 #[ev x, .int .i64 q] w fun e w' => e = .returned (.bool (isV x q)) ∧ Below w.heap.size w w' := by
 rcases x with _ | ⟨l, c⟩
 ·exact is_nil q w
 ·exact is_chn l c q w
theorem out_miss (x : Option (List (ByteArray × Int) × Int)) (hx : stV x = []) (w : World) (hg : Hnd w) :
  Calls Tryz.prog 64 #[ev x] w fun ev w' => ev = .returned (.tuple #[.agg #[.string ByteArray.empty, .int .i64 0, .nilIface], .bool false]) ∧ Below w.heap.size w w' := by
 rcases x with _ | ⟨l, c⟩
 ·exact outF_nil w hg
 ·obtain rfl : l = [] := hx
  exact outF_code c w hg
theorem where_ev (x : Option (List (ByteArray × Int) × Int)) (w : World) (hg : Hnd w) :
  Calls Tryz.prog 30 #[ev x] w fun e w' => e = .returned (.tuple #[.int .i64 (atV (stV x)), .bool (inV (stV x))]) ∧ Below w.heap.size w w' := by
 by_cases hx : stV x = []
 ·have HC := hide (out_miss x hx w hg)
  rw [hx]
  clear hx hg
  go_enter Tryz.func30, Tryz.ntmps30
  go_wp2_with (first | (go_at_call 64; refine (HC.out).mono ?_; rintro e w' ⟨rfl, hb⟩; have hz := hb.size))
  go_ret2
  exact ⟨rfl, hb.alloc hz _⟩
 ·rcases x with _ | ⟨_ | ⟨s, l⟩, c⟩
  ·exact absurd rfl hx
  ·exact absurd rfl hx
  ·clear hx
   simp only [ev, chn, stV, atV, inV]
   obtain ⟨ty, v, hv⟩ := chn_form l c
   rw [hv]
   clear hv
   have HC := hide (outF_hit s.1 s.2 ty v w hg)
   clear hg
   go_enter Tryz.func30, Tryz.ntmps30
   go_wp2_with (first | (go_at_call 64; refine (HC.out).mono ?_; rintro e w' ⟨rfl, hb⟩; have hz := hb.size))
   go_ret2
   exact ⟨rfl, hb.alloc hz _⟩
end Go.Proofs.YtjjpfajbljbelaaGreatDoor
