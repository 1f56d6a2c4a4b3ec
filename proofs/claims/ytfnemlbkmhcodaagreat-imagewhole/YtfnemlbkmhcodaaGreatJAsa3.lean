/-
  errors.As, by its contracts. At a target of type *Fault: a Fault is found at once and the target is set; a Code and what errors.New makes are not found. Nil has none. Conditions: errors.errorType holds the handle of the type error, and the target's cells are there and not frozen.
  errors.As AT A TARGET OF TYPE *Code, by its contracts: the Code that a chain of Faults ends in is found and the target is set. (A seat without errors.New.) Conditions: errors.errorType holds the handle of the type error, and the target's cell is there and not frozen.
  errors.Is AT A TARGET OF TYPE Code, and fault.Is over it: a chain of Faults is the Code that it ends in, and no other; nil is none. No condition.
-/
import Derived.Test.YtfnemlbkmhcodaaGreatJRecSubba3
import Derived.Test.YtfnemlbkmhcodaaGreatJSlca3
import Derived.Defers
import Derived.Recover
namespace Go.Proofs.YtfnemlbkmhcodaaGreat
open Go.RowKit Go.Extern.Stop Go.Stop Go.Extern


theorem size_of_handle {w : World} {v : Value} (hg : w.cell? ⟨0, 0, none⟩ = some v) : 0 < w.heap.size := by
  rcases Nat.eq_zero_or_pos w.heap.size with h0 | h
  · simp [World.cell?, h0] at hg
  · exact h
theorem block_of_cell {w : World} {v : Value} {b o : Nat} (hg : w.cell? ⟨b, o, none⟩ = some v) : b < w.heap.size := by
  rcases Nat.lt_or_ge b w.heap.size with h | h
  · exact h
  · simp [World.cell?, Array.getElem?_eq_none h] at hg


end Go.Proofs.YtfnemlbkmhcodaaGreat
namespace Go.Proofs.YtfnemlbkmhcodaaGreat
open Go.RowKit Go.Extern.Stop Go.Stop Go.Extern

/-- A chain of Faults, the outermost first, about the error b. -/
def chn : List (ByteArray × Int) → Value → Value
  | [], b => b
  | s :: l, b => .iface 136 (.agg #[.string s.1, .int .i64 s.2, chn l b])
/-- The innermost error: a Code. -/
def bse (k : Int) : Value := .iface 71 (.int .i64 k)

theorem size_inner (x y e : Value) : SizeOf.sizeOf e < SizeOf.sizeOf (Value.iface 136 (.agg #[x, y, e])) := by
  simp
  omega


theorem chn_form (l : List (ByteArray × Int)) (c : Int) : ∃ ty v, chn l (bse c) = .iface ty v := by
  rcases l with _ | ⟨s, l⟩
  · exact ⟨_, _, rfl⟩
  · exact ⟨_, _, rfl⟩

end Go.Proofs.YtfnemlbkmhcodaaGreat
namespace Go.Proofs.YtfnemlbkmhcodaaGreat
open Go.RowKit Go.Extern.Stop Go.Stop Go.Extern

theorem eql6032 (x y : Value) (w : World) : (binOp .eql 58 (.iface 136 x) (.iface 71 y)).run Tryz.prog w = .ok (.bool false) w := run_eql_iface_types 136 71 x y Tryz.underlying58 (by decide) w
theorem eql3232 (a b : Int) (w : World) : (binOp .eql 58 (.iface 71 (.int .i64 a)) (.iface 71 (.int .i64 b))).run Tryz.prog w = .ok (.bool (a == b)) w := by kernel_rfl
theorem eqlNil32 (y : Value) (w : World) : (binOp .eql 58 .nilIface (.iface 71 y)).run Tryz.prog w = .ok (.bool false) w := by kernel_rfl

theorem comparableM (w : World) : (ReflectliteType.method (fun t => do Rtype.noPackHeld "Comparable" t; (fun a : TypeInfo => Value.bool a.comparable) <$> typeInfo t) #[.agg #[.pointer (some ⟨0, 71, none⟩)]]).run Tryz.prog w = .ok (.bool true) w := by kernel_rfl

/-- Is the innermost error that Code? -/
def isB (c q : Int) : Bool := c == q

set_option maxRecDepth 100000 in
set_option maxHeartbeats 4000000 in
theorem is35 (l : List (ByteArray × Int)) (c : Int) (q : Int) (w : World) :
    Calls Tryz.prog 108 #[chn l (bse c), .iface 71 (.int .i64 q), .bool true] w
      fun ev w' => ev = .returned (.bool (isB c q)) ∧ Below w.heap.size w w' := by
  have m5 := mUnwrap
  have a1 := noIs60
  have a2 := unwraps60
  have c1 := noIs32
  have c2 := noUnwrap32
  have c3 := noUnwraps32
  have e1 := eql6032
  have e3 := eql3232
  go_enter Tryz.func108, Tryz.ntmps108
  go_wp2
  go_loopw [0] (fun e W => ∃ l : List (ByteArray × Int), e = chn l (bse c) ∧ Below w.heap.size w W ∧ w.heap.size ≤ W.heap.size) (fun e _ => SizeOf.sizeOf e)
  case atStart => exact ⟨l, rfl, Below.refl _ _, by simp⟩
  case round =>
    obtain ⟨l', he, hb, hs⟩ := hrel
    rcases l' with _ | ⟨s, _ | ⟨s', l'⟩⟩
    · simp only [chn, bse] at he
      subst he
      rcases Bool.eq_false_or_eq_true (c == q) with hq | hq
      · go_wp2
        go_ret
        exact ⟨by simp only [isB, hq]; rfl, hb⟩
      · go_wp2
        go_ret
        exact ⟨by simp only [isB, hq]; rfl, hb⟩
    · simp only [chn] at he
      obtain ⟨ty, v, hv⟩ := chn_form [] c
      have HV : Hid (chn [] (bse c) = .iface ty v) := hv
      simp only [chn] at hv
      rw [hv] at he
      subst he
      clear hv
      go_wp2
      go_roundw
      case rel => exact ⟨[], HV.out.symm, hb.alloc hs _, by simp; omega⟩
      case measure => exact size_inner _ _ _
    · simp only [chn] at he
      subst he
      go_wp2
      go_roundw
      case rel => exact ⟨s' :: l', rfl, hb.alloc hs _, by simp; omega⟩
      case measure => exact size_inner _ _ _

theorem eis_nil (q : Int) (w : World) :
    Calls Tryz.prog 69 #[.nilIface, .iface 71 (.int .i64 q)] w fun ev w' => ev = .returned (.bool false) ∧ w' = w := by
  have e1 := eqlNil32
  go_enter Tryz.func69, Tryz.ntmps69
  go_wp2
  go_ret
  exact ⟨rfl, rfl⟩

set_option maxRecDepth 100000 in
set_option maxHeartbeats 4000000 in
theorem eis_chn (l : List (ByteArray × Int)) (c : Int) (q : Int) (w : World) :
    Calls Tryz.prog 69 #[chn l (bse c), .iface 71 (.int .i64 q)] w
      fun ev w' => ev = .returned (.bool (isB c q)) ∧ Below w.heap.size w w' := by
  have h34 := h34
  have h69 := h69
  have f1 := typeOf32
  have f2 := mComparable
  have f3 := comparableM
  have hc := is35 l c q w
  obtain ⟨ty, v, hv⟩ := chn_form l c
  rw [hv] at hc ⊢
  have HC := hide hc
  clear hc hv
  go_enter Tryz.func69, Tryz.ntmps69
  go_wp2_with (first | (go_at_call 108; refine (HC.out).mono ?_; rintro e w' ⟨rfl, hb⟩))
  go_ret
  exact ⟨rfl, hb⟩

theorem idle29 (p : Addr) (w : World) :
    CallsD Tryz.prog 68 #[.pointer (some p)] .returning w fun e u' w' => e = .returned (.tuple #[]) ∧ u' = .returning ∧ w' = w := by
  refine callsD_of_wpS Tryz.func68 rfl fun c₀ cs hu => ?_
  apply wpS_seq
  apply wpS_region
  simp [wpOpsS, go_sem, recoverD, hu, Tryz.ntmps68, Exit.thenS]
  refine wpS_cond (t := false) (by simp [Act.eval, Array.replicate]) ?_
  simp only [Bool.false_eq_true, if_false]
  refine wpS_of_wp (wp_skip ?_)
  cases c₀
  simp_all [bodyPostS, results, Tryz.results68]

theorem is_nil (q : Int) (w : World) :
    Calls Tryz.prog 37 #[.nilIface, .int .i64 q] w fun ev w' => ev = .returned (.bool false) ∧ Below w.heap.size w w' := by
  have hmf : ∀ (fn : Fn) (first cap : Array Value) (w : World), (Instr.makeFunc fn first cap).run Tryz.prog w = .ok (.func fn first cap) w := fun _ _ _ _ => rfl
  go_enter_defers Tryz.func37, Tryz.ntmps37
  go_wp2_with (first | (go_at_call 69; refine (eis_nil _ _).mono ?_; rintro e w' ⟨rfl, rfl⟩))
  refine leaves_cons (f := 68) (args := #[.pointer (some ⟨w.heap.size, 0, none⟩)]) (by simp) (by simp [go_sem]) ?_
  refine (idle29 ⟨w.heap.size, 0, none⟩ _).mono ?_
  rintro e u' w'' ⟨rfl, rfl, rfl⟩
  simp [Leaves, settle, results, Tryz.results37, go_sem]
  exact (Below.refl _ _).alloc (Nat.le_refl _) _

set_option maxRecDepth 100000 in
set_option maxHeartbeats 4000000 in
theorem is_chn (l : List (ByteArray × Int)) (c : Int) (q : Int) (w : World) :
    Calls Tryz.prog 37 #[chn l (bse c), .int .i64 q] w
      fun ev w' => ev = .returned (.bool (isB c q)) ∧ Below w.heap.size w w' := by
  have hmf : ∀ (fn : Fn) (first cap : Array Value) (w : World), (Instr.makeFunc fn first cap).run Tryz.prog w = .ok (.func fn first cap) w := fun _ _ _ _ => rfl
  go_enter_defers Tryz.func37, Tryz.ntmps37
  go_wp2_with (first | (go_at_call 69; refine (eis_chn l c q _).mono ?_; rintro e w' ⟨rfl, hb⟩; obtain ⟨hc, hf⟩ := bcell hb))
  refine leaves_cons (f := 68) (args := #[.pointer (some ⟨w.heap.size, 0, none⟩)]) (by simp) (by simp [go_sem]) ?_
  refine (idle29 ⟨w.heap.size, 0, none⟩ _).mono ?_
  rintro e u' w'' ⟨rfl, rfl, rfl⟩
  simp [Leaves, settle, results, Tryz.results37, go_sem, hc]
  exact (((Below.refl _ _).alloc (Nat.le_refl _) _).trans (hb.mono (by simp))).setCell (by simp) _
end Go.Proofs.YtfnemlbkmhcodaaGreat
