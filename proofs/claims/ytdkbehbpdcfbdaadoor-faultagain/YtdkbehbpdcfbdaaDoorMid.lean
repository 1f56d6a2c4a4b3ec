/-
  fault.New, Wrap, Of, Where, Again AND Both, at every error that a law makes: nil, or a chain of Faults about a Code or about what errors.New made. Condition: errors.errorType holds the handle of the type error.
-/
import Derived.Test.YtdkbehbpdcfbdaaDoorOut
namespace Go.Proofs.YtdkbehbpdcfbdaaDoor
open Go.RowKit Go.Extern.Stop Go.Stop Go.Extern

theorem new_any (op : ByteArray) (a c : Int) (w : World) :
    Calls Tryd.prog 24 #[.string op, .int .i64 a, .int .i64 c] w fun e w' => e = .returned (.iface 60 (.agg #[.string op, .int .i64 a, .iface 32 (.int .i64 c)])) ∧ w' = w := by
  go_enter Tryd.func24, Tryd.ntmps24
  go_wp2
  go_ret
  exact ⟨rfl, rfl⟩
theorem wrap_nil (op : ByteArray) (a : Int) (w : World) :
    Calls Tryd.prog 19 #[.string op, .int .i64 a, .nilIface] w fun e w' => e = .returned .nilIface ∧ w' = w := by
  go_enter Tryd.func19, Tryd.ntmps19
  go_wp2
  go_ret
  exact ⟨rfl, rfl⟩
theorem wrap_some (op : ByteArray) (a : Int) (t : TypeId) (v : Value) (w : World) :
    Calls Tryd.prog 19 #[.string op, .int .i64 a, .iface t v] w fun e w' => e = .returned (.iface 60 (.agg #[.string op, .int .i64 a, .iface t v])) ∧ w' = w := by
  go_enter Tryd.func19, Tryd.ntmps19
  go_wp2
  go_ret
  exact ⟨rfl, rfl⟩
theorem enew_any (s : ByteArray) (w : World) :
    Calls Tryd.prog 25 #[.string s] w fun e w' => e = .returned (.iface 65 (.pointer (some ⟨w.heap.size, 0, none⟩))) ∧ w' = w.alloc (.cells #[.string s] 67) := by
  go_enter Tryd.func25, Tryd.ntmps25
  go_wp2
  go_ret
  exact ⟨rfl, rfl⟩

/-- An error as a law makes it: none, or the steps, the Code (or none) and where errors.New's text lies. -/
def ev (x : Option (List (ByteArray × Int) × Option Int × Addr)) : Value := match x with
  | none => .nilIface
  | some (l, c, p) => chn l (bse c p)
def ofV (x : Option (List (ByteArray × Int) × Option Int × Addr)) : Int := match x with
  | none => 0
  | some (_, some k, _) => k
  | some (_, none, _) => 21
def isV (x : Option (List (ByteArray × Int) × Option Int × Addr)) (q : Int) : Bool := match x with
  | none => false
  | some (_, c, _) => isB c q
def stV (x : Option (List (ByteArray × Int) × Option Int × Addr)) : List (ByteArray × Int) := match x with
  | none => []
  | some (l, _, _) => l
def atV (l : List (ByteArray × Int)) : Int := match l with
  | [] => 0
  | s :: _ => s.2
def inV (l : List (ByteArray × Int)) : Bool := match l with
  | [] => false
  | _ :: _ => true
def agV (x : Option (List (ByteArray × Int) × Option Int × Addr)) : Option (List (ByteArray × Int) × Option Int × Addr) := match x with
  | none => none
  | some (l, c, p) => some (l.tail, c, p)
def boV (x y : Option (List (ByteArray × Int) × Option Int × Addr)) : Option (List (ByteArray × Int) × Option Int × Addr) := match x, y with
  | none, y => y
  | x, none => x
  | some (l, c, p), some y => some ((⟨#[98, 111, 116, 104]⟩, ofV (some y)) :: l, c, p)

theorem of_nil (w : World) : Calls Tryd.prog 22 #[.nilIface] w fun e w' => e = .returned (.int .i64 0) ∧ Below w.heap.size w w' := by
  go_enter Tryd.func22, Tryd.ntmps22
  go_wp2
  go_ret
  exact ⟨rfl, Below.refl _ _⟩
set_option maxHeartbeats 4000000 in
theorem of_chn (l : List (ByteArray × Int)) (c : Option Int) (p : Addr) (w : World) (hg : Hnd w) :
    Calls Tryd.prog 22 #[chn l (bse c p)] w fun e w' => e = .returned (.int .i64 (ofV (some (l, c, p)))) ∧ Below w.heap.size w w' := by
  obtain ⟨ty, v, hv⟩ := chn_form l c p
  cases c with
  | none =>
    have hc := outC_none l p w hg
    rw [hv] at hc ⊢
    have HC := hide hc
    clear hc hv hg
    go_enter Tryd.func22, Tryd.ntmps22
    go_wp2_with (first | (go_at_call 33; refine (HC.out).mono ?_; rintro e w' ⟨rfl, hb⟩))
    go_ret
    exact ⟨rfl, hb⟩
  | some k =>
    have hc := outC_some l k p w hg
    rw [hv] at hc ⊢
    have HC := hide hc
    clear hc hv hg
    go_enter Tryd.func22, Tryd.ntmps22
    go_wp2_with (first | (go_at_call 33; refine (HC.out).mono ?_; rintro e w' ⟨rfl, hb⟩))
    go_ret
    exact ⟨rfl, hb⟩
theorem of_ev (x : Option (List (ByteArray × Int) × Option Int × Addr)) (w : World) (hg : Hnd w) :
    Calls Tryd.prog 22 #[ev x] w fun e w' => e = .returned (.int .i64 (ofV x)) ∧ Below w.heap.size w w' := by
  rcases x with _ | ⟨l, c, p⟩
  · exact of_nil w
  · exact of_chn l c p w hg
theorem is_ev (x : Option (List (ByteArray × Int) × Option Int × Addr)) (q : Int) (w : World) :
    Calls Tryd.prog 11 #[ev x, .int .i64 q] w fun e w' => e = .returned (.bool (isV x q)) ∧ Below w.heap.size w w' := by
  rcases x with _ | ⟨l, c, p⟩
  · exact is_nil q w
  · exact is_chn l c p q w

/-- The outermost Fault, at every error. -/
theorem out_miss (x : Option (List (ByteArray × Int) × Option Int × Addr)) (hx : stV x = []) (w : World) (hg : Hnd w) :
    Calls Tryd.prog 32 #[ev x] w fun ev w' => ev = .returned (.tuple #[.agg #[.string ByteArray.empty, .int .i64 0, .nilIface], .bool false]) ∧ Below w.heap.size w w' := by
  rcases x with _ | ⟨l, c, p⟩
  · exact outF_nil w hg
  · obtain rfl : l = [] := hx
    cases c with
    | none => exact outF_other p w hg
    | some k => exact outF_code k w hg

set_option maxHeartbeats 4000000 in
theorem where_ev (x : Option (List (ByteArray × Int) × Option Int × Addr)) (w : World) (hg : Hnd w) :
    Calls Tryd.prog 20 #[ev x] w fun e w' => e = .returned (.tuple #[.int .i64 (atV (stV x)), .bool (inV (stV x))]) ∧ Below w.heap.size w w' := by
  by_cases hx : stV x = []
  · have HC := hide (out_miss x hx w hg)
    rw [hx]
    clear hx hg
    go_enter Tryd.func20, Tryd.ntmps20
    go_wp2_with (first | (go_at_call 32; refine (HC.out).mono ?_; rintro e w' ⟨rfl, hb⟩; have hz := hb.size))
    go_ret2
    exact ⟨rfl, hb.alloc hz _⟩
  · rcases x with _ | ⟨_ | ⟨s, l⟩, c, p⟩
    · exact absurd rfl hx
    · exact absurd rfl hx
    · clear hx
      simp only [ev, chn, stV, atV, inV]
      obtain ⟨ty, v, hv⟩ := chn_form l c p
      rw [hv]
      clear hv
      have HC := hide (outF_hit s.1 s.2 ty v w hg)
      clear hg
      go_enter Tryd.func20, Tryd.ntmps20
      go_wp2_with (first | (go_at_call 32; refine (HC.out).mono ?_; rintro e w' ⟨rfl, hb⟩; have hz := hb.size))
      go_ret2
      exact ⟨rfl, hb.alloc hz _⟩

set_option maxHeartbeats 4000000 in
theorem again_ev (x : Option (List (ByteArray × Int) × Option Int × Addr)) (w : World) (hg : Hnd w) :
    Calls Tryd.prog 15 #[ev x] w fun e w' => e = .returned (ev (agV x)) ∧ Below w.heap.size w w' := by
  by_cases hx : stV x = []
  · have HC := hide (out_miss x hx w hg)
    have e1 : ev (agV x) = ev x := by
      rcases x with _ | ⟨l, c, p⟩
      · rfl
      · obtain rfl : l = [] := hx
        rfl
    rw [e1]
    clear e1 hx hg
    go_enter Tryd.func15, Tryd.ntmps15
    go_wp2_with (first | (go_at_call 32; refine (HC.out).mono ?_; rintro e w' ⟨rfl, hb⟩; have hz := hb.size))
    go_ret
    exact ⟨rfl, hb.alloc hz _⟩
  · rcases x with _ | ⟨_ | ⟨s, l⟩, c, p⟩
    · exact absurd rfl hx
    · exact absurd rfl hx
    · clear hx
      simp only [ev, chn, agV, List.tail]
      obtain ⟨ty, v, hv⟩ := chn_form l c p
      rw [hv]
      clear hv
      have HC := hide (outF_hit s.1 s.2 ty v w hg)
      clear hg
      go_enter Tryd.func15, Tryd.ntmps15
      go_wp2_with (first | (go_at_call 32; refine (HC.out).mono ?_; rintro e w' ⟨rfl, hb⟩; have hz := hb.size))
      go_ret
      exact ⟨rfl, hb.alloc hz _⟩

set_option maxHeartbeats 4000000 in
theorem both_ev (x y : Option (List (ByteArray × Int) × Option Int × Addr)) (w : World) (hg : Hnd w) :
    Calls Tryd.prog 17 #[ev x, ev y] w fun e w' => e = .returned (ev (boV x y)) ∧ Below w.heap.size w w' := by
  rcases x with _ | ⟨l, c, p⟩
  · have e1 : ev (boV none y) = ev y := rfl
    rw [e1]
    clear e1 hg
    generalize ev y = v
    simp only [ev]
    go_enter Tryd.func17, Tryd.ntmps17
    go_wp2
    go_ret
    exact ⟨rfl, Below.refl _ _⟩
  · rcases y with _ | ⟨l', c', p'⟩
    · simp only [boV, ev]
      obtain ⟨ty, v, hv⟩ := chn_form l c p
      rw [hv]
      clear hv hg
      go_enter Tryd.func17, Tryd.ntmps17
      go_wp2
      go_ret
      exact ⟨rfl, Below.refl _ _⟩
    · have hc := of_chn l' c' p' w hg
      simp only [boV, ev, chn]
      obtain ⟨ty, v, hv⟩ := chn_form l c p
      obtain ⟨ty', v', hv'⟩ := chn_form l' c' p'
      rw [hv'] at hc
      rw [hv, hv']
      have HC := hide hc
      clear hc hv hv' hg
      go_enter Tryd.func17, Tryd.ntmps17
      go_wp2_with (first | (go_at_call 22; refine (HC.out).mono ?_; rintro e w' ⟨rfl, hb⟩) | (go_at_call 19; refine (wrap_some _ _ _ _ _).mono ?_; rintro e w' ⟨rfl, rfl⟩))
      go_ret
      exact ⟨rfl, hb⟩
end Go.Proofs.YtdkbehbpdcfbdaaDoor
