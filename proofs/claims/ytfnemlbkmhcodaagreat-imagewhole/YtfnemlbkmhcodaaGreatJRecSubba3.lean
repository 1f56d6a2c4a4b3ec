/-
  BROKERS (slices.Index, slices.Contains, record.Brokers, named, listed): as functions of lists. Conditions: no more than a thousand letters; the brokers' cells hold them.
  CLOSED FACTS ON THE MODEL OF internal/reflectlite at this translation: what a handle of the types Fault, Code, *Fault, *Code and *errorString answers; what the assertions of errors.Is and errors.As answer at them. No condition.
  THE ENTRIES OF internal/reflectlite THAT READ OR WRITE MEMORY, at this translation: (Value).IsNil, (Value).Elem and (Value).Set at the Values that errors.As makes. Conditions: what the cells that are read hold, and that those that are written are there and not frozen.
-/
import Derived.Test.YtfnemlbkmhcodaaGreatJRecMa3
import Derived.Test.YtfnemlbkmhcodaaGreatProg
import Derived.WalkKit
import Derived.WalkSpells
import Derived.LaidEql
import Derived.Stop.Asserts
import Derived.RowKitTokens
import Derived.Below
namespace Go.Proofs.YtfnemlbkmhcodaaGreat
open Go.RowKit

/-- Is a number among the first j? -/
def inB (l : List Int) (j : Nat) (x : Int) : Bool := (List.range j).any fun k => decide (l.getD k 0 = x)
theorem in_yes {l : List Int} {j k : Nat} {x : Int} (hk : k < j) (h : x = l.getD k 0) : inB l j x = true := by
  unfold inB
  rw [List.any_eq_true]
  exact ⟨k, List.mem_range.2 hk, decide_eq_true h.symm⟩
theorem in_no {l : List Int} {j : Nat} {x : Int} (h : ∀ k, k < j → ¬ l.getD k 0 = x) : inB l j x = false := by
  unfold inB
  rw [List.any_eq_false]
  intro k hk
  simpa using h k (List.mem_range.1 hk)
theorem in_okJ {l : List Int} {j : Nat} (h : 1 ≤ l.getD j 0 ∧ l.getD j 0 ≤ 64) : okJ l j = !inB l j (l.getD j 0) := by
  cases hi : inB l j (l.getD j 0) with
  | true =>
    unfold inB at hi
    rw [List.any_eq_true] at hi
    obtain ⟨k, hk, e⟩ := hi
    exact okJ_twice (List.mem_range.1 hk) (of_decide_eq_true e)
  | false =>
    unfold inB at hi
    rw [List.any_eq_false] at hi
    exact okJ_yes h (fun k hk e => hi k (List.mem_range.2 hk) (decide_eq_true e))
set_option maxRecDepth 100000 in
set_option maxHeartbeats 4000000 in
theorem idxi_some (b o cap : Nat) (l : List Int) (j : Nat) (x : Int) (w : World) (hj : j ≤ l.length) (hl : l.length ≤ 7) (h3 : ∀ i, i < l.length → w.cell? ⟨b, o + i, none⟩ = some (.int .i64 (l.getD i 0))) :
    Calls Tryz.prog 156 #[.slice (some ⟨b, o, none⟩) j cap, .int .i64 x] w fun e w' => (∃ n : Int, e = .returned (.int .i64 n) ∧ ((inB l j x = true ∧ 0 ≤ n) ∨ (inB l j x = false ∧ n = -1))) ∧ w' = w := by
  have H3 := hide h3
  clear h3
  go_enter Tryz.func156, Tryz.ntmps156
  go_wp2
  go_loop [8] (fun i => ∃ k : Nat, k ≤ j ∧ i = .int .i64 (k : Int) ∧ Hid (∀ m, m < k → ¬ l.getD m 0 = x)) (fun i => j - (intOf i).toNat)
  case atStart => exact ⟨0, Nat.zero_le _, rfl, hide (fun m hm => absurd hm (Nat.not_lt_zero _))⟩
  case round =>
    obtain ⟨k, hk, rfl, HN⟩ := hrel
    by_cases hlt : k < j
    · have hltI : (k : Int) < (j : Int) := by omega
      have hc := H3.out k (by omega)
      obtain ⟨y, hy⟩ : ∃ y, y = l.getD k 0 := ⟨_, rfl⟩
      rw [← hy] at hc
      have HY := hide hy
      clear hy
      by_cases he : x = y
      · have HI := hide (in_yes (x := x) hlt (he.trans HY.out))
        go_wp2_with fail
        go_ret
        exact ⟨⟨_, rfl, .inl ⟨he ▸ HI.out, by omega⟩⟩, rfl⟩
      · go_wp2_with fail
        go_round
        case rel => exact ⟨k + 1, by omega, by go_num, hide (fun m hm => by by_cases e : m = k; (subst e; rw [← HY.out]; exact fun q => he q.symm); exact HN.out m (by omega))⟩
        case measure => simp [intOf]; omega
    · obtain rfl : k = j := by omega
      clear hlt
      go_wp2_with fail
      go_ret
      exact ⟨⟨_, rfl, .inr ⟨in_no HN.out, rfl⟩⟩, rfl⟩
set_option maxHeartbeats 4000000 in
theorem ctni_some (b o cap : Nat) (l : List Int) (j : Nat) (x : Int) (w : World) (hj : j ≤ l.length) (hl : l.length ≤ 7) (h3 : ∀ i, i < l.length → w.cell? ⟨b, o + i, none⟩ = some (.int .i64 (l.getD i 0))) :
    Calls Tryz.prog 142 #[.slice (some ⟨b, o, none⟩) j cap, .int .i64 x] w fun e w' => e = .returned (.bool (inB l j x)) ∧ w' = w := by
  have HC := hide (idxi_some b o cap l j x w hj hl h3)
  clear h3
  go_enter Tryz.func142, Tryz.ntmps142
  go_wp2_with fail
  refine (HC.out).mono ?_
  rintro e w' ⟨⟨n, rfl, ⟨hy, hn⟩ | ⟨hy, rfl⟩⟩, rfl⟩
  · have HY := hide hy
    clear hy
    go_wp2
    go_ret
    exact ⟨by rw [HY.out]; rfl, rfl⟩
  · have HY := hide hy
    clear hy
    go_wp2
    go_ret
    exact ⟨by rw [HY.out]; rfl, rfl⟩
set_option maxRecDepth 100000 in
set_option maxHeartbeats 4000000 in
theorem cbrok_some (b o cap : Nat) (l : List Int) (w : World) (hcap : l.length ≤ cap) (h3 : ∀ i (h : i < l.length), w.cell? ⟨b, o + i, none⟩ = some (ic l[i])) :
    Calls Tryz.prog 124 #[.slice (some ⟨b, o, none⟩) l.length cap] w fun e w' => e = .returned (.bool (brokB l)) ∧ w' = w := by
  obtain ⟨R, hR⟩ : ∃ R, R = brokB l := ⟨_, rfl⟩
  rw [← hR]
  have HR := hide hR
  clear hR
  by_cases h7 : 7 < l.length
  · have HE : Hid (R = false) := hide (by rw [HR.out]; unfold brokB; rw [decide_eq_false (by omega), Bool.false_and])
    have h7' : (7 : Int) < (l.length : Int) := by omega
    clear h3
    go_enter Tryz.func124, Tryz.ntmps124
    go_wp2_with fail
    go_ret
    exact ⟨by rw [HE.out]; rfl, rfl⟩
  have h7' : ¬ (7 : Int) < (l.length : Int) := by omega
  have H3 : Hid (∀ i, i < l.length → w.cell? ⟨b, o + i, none⟩ = some (.int .i64 (l.getD i 0))) := hide (fun i hi => by
    rw [h3 i hi]
    simp [List.getD, hi, ic])
  clear h3
  go_enter Tryz.func124, Tryz.ntmps124
  go_wp2_with fail
  go_loop [10] (fun i => ∃ j : Nat, j ≤ l.length ∧ i = .int .i64 (j : Int) ∧ Hid (∀ m, m < j → okJ l m = true)) (fun i => l.length - (intOf i).toNat)
  case atStart => exact ⟨0, Nat.zero_le _, rfl, hide (fun m hm => absurd hm (Nat.not_lt_zero _))⟩
  case round =>
    obtain ⟨j, hj, rfl, HN⟩ := hrel
    by_cases hlt : j < l.length
    · have hltI : (j : Int) < (l.length : Int) := by omega
      have cj := H3.out j hlt
      have hjc : j ≤ cap := by omega
      by_cases hlo : l.getD j 0 < 1 ∨ (¬ l.getD j 0 < 1 ∧ 64 < l.getD j 0)
      · have HE : Hid (R = false) := hide (by rw [HR.out]; exact brokB_no hlt (okJ_no (by omega)))
        generalize l.getD j 0 = x at *
        rcases hlo with h1 | ⟨h1, h2⟩
        all_goals
          go_wp2_with fail
          go_ret
          exact ⟨by rw [HE.out]; rfl, rfl⟩
      · have h1 : ¬ l.getD j 0 < 1 := by omega
        have h2 : ¬ 64 < l.getD j 0 := by omega
        clear hlo
        have HCT := hide (ctni_some b o cap l j (l.getD j 0) w hj (by omega) H3.out)
        have HJ := hide (in_okJ (l := l) (j := j) ⟨by omega, by omega⟩)
        generalize hx : l.getD j 0 = x at *
        generalize inB l j x = t at *
        have HX := hide hx
        clear hx
        cases t with
        | true =>
          have HE : Hid (R = false) := hide (by rw [HR.out]; exact brokB_no hlt HJ.out)
          go_wp2_with (first | (go_at_call 142; refine HCT.out.mono ?_; rintro e w' ⟨rfl, rfl⟩))
          go_ret
          exact ⟨by rw [HE.out]; rfl, rfl⟩
        | false =>
          go_wp2_with (first | (go_at_call 142; refine HCT.out.mono ?_; rintro e w' ⟨rfl, rfl⟩))
          go_round
          case rel => exact ⟨j + 1, by omega, by go_num, hide (fun m hm => by by_cases e : m = j; (subst e; exact HJ.out); exact HN.out m (by omega))⟩
          case measure => simp [intOf]; omega
    · obtain rfl : j = l.length := by omega
      have HE : Hid (R = true) := hide (by rw [HR.out]; exact brokB_yes (by omega) HN.out)
      clear hlt
      go_wp2_with fail
      go_ret
      exact ⟨by rw [HE.out]; rfl, rfl⟩
set_option maxHeartbeats 4000000 in
theorem cbrok_none (ao : Option Addr) (cap : Nat) (w : World) : Calls Tryz.prog 124 #[.slice ao 0 cap] w fun e w' => e = .returned (.bool (brokB [])) ∧ w' = w := by
  go_enter Tryz.func124, Tryz.ntmps124
  go_wp2_with fail
  refine wp_loop_rounds 1 ?_
  rw [rounds_succ]
  go_wp2_with fail
  go_ret
  exact ⟨rfl, rfl⟩
theorem cbrok_any (v : Value) (l : List Int) (w : World) (hv : Sl ic w v l) : Calls Tryz.prog 124 #[v] w fun e w' => e = .returned (.bool (brokB l)) ∧ w' = w := by
  rcases hv with ⟨ao, cap, rfl, rfl⟩ | ⟨b, o, cap, rfl, hc, h3⟩
  · exact cbrok_none ao cap w
  · exact cbrok_some b o cap l w hc h3
theorem listed_any (a o : Int) (v : Value) (l : List Int) (w : World) (hv : Sl ic w v l) : Calls Tryz.prog 98 #[.int .u32 a, .int .u32 o, v] w fun e w' => e = .returned (.bool (rowB l (bitB a o))) ∧ w' = w := by
  have HC := hide (bhas_any a o w)
  have HB := hide (cbrok_any v l w hv)
  obtain ⟨R, hR⟩ : ∃ R, R = rowB l (bitB a o) := ⟨_, rfl⟩
  rw [← hR]
  have HR := hide hR
  obtain ⟨ao, cap, rfl⟩ := hv.form
  clear hR hv
  cases hb : bitB a o with
  | true =>
    rw [hb] at HC HR
    have HE : Hid (R = brokB l) := hide HR.out
    go_enter Tryz.func98, Tryz.ntmps98
    go_wp2_with (first | (go_at_call 95; refine HC.out.mono ?_; rintro e w' ⟨rfl, rfl⟩) | (go_at_call 124; refine HB.out.mono ?_; rintro e w' ⟨rfl, rfl⟩))
    go_ret
    exact ⟨by rw [HE.out]; rfl, rfl⟩
  | false =>
    rw [hb] at HC HR
    have HE : Hid (R = ((l.length : Int) == 0)) := hide HR.out
    go_enter Tryz.func98, Tryz.ntmps98
    go_wp2_with (first | (go_at_call 95; refine HC.out.mono ?_; rintro e w' ⟨rfl, rfl⟩))
    go_ret
    exact ⟨by rw [HE.out]; rfl, rfl⟩
theorem named_any (a o : Int) (S : List UInt8) (w : World) (hS : S.length ≤ 1000) : Calls Tryz.prog 96 #[.int .u32 a, .int .u32 o, .string ⟨S.toArray⟩] w fun e w' => e = .returned (.bool (nameA S (bitB a o))) ∧ Below w.heap.size w w' := by
  have HC := hide (bhas_any a o w)
  have HB := hide (cname_any S w hS)
  have hdot : (⟨S.toArray⟩ : ByteArray).toList = S := by simp
  obtain ⟨R, hR⟩ : ∃ R, R = nameA S (bitB a o) := ⟨_, rfl⟩
  rw [← hR]
  have HR := hide hR
  clear hR
  cases hb : bitB a o with
  | true =>
    rw [hb] at HC HR
    have HE : Hid (R = nameB S) := hide HR.out
    go_enter Tryz.func96, Tryz.ntmps96
    go_wp2_with (first | (go_at_call 95; refine HC.out.mono ?_; rintro e w' ⟨rfl, rfl⟩) | (go_at_call 123; refine HB.out.mono ?_; rintro e w' ⟨rfl, hbl⟩))
    go_ret
    exact ⟨by rw [HE.out]; rfl, hbl⟩
  | false =>
    rw [hb] at HC HR
    have HE : Hid (R = S.isEmpty) := hide HR.out
    go_enter Tryz.func96, Tryz.ntmps96
    go_wp2_with (first | (go_at_call 95; refine HC.out.mono ?_; rintro e w' ⟨rfl, rfl⟩))
    go_ret
    exact ⟨by rw [HE.out]; rfl, Below.refl _ _⟩
end Go.Proofs.YtfnemlbkmhcodaaGreat
namespace Go.Proofs.YtfnemlbkmhcodaaGreat
open Go.RowKit Go.Extern.Stop Go.Stop Go.Extern

theorem kind60 (w : World) : ((ReflectliteType.abiMethod fun t => (fun a : Nat => Value.int IntKind.u8 (a : Int)) <$> Rtype.kind t) #[.pointer (some ⟨0, 136, none⟩)]).run Tryz.prog w = .ok (.int .u8 25) w := by kernel_rfl
theorem kind32 (w : World) : ((ReflectliteType.abiMethod fun t => (fun a : Nat => Value.int IntKind.u8 (a : Int)) <$> Rtype.kind t) #[.pointer (some ⟨0, 71, none⟩)]).run Tryz.prog w = .ok (.int .u8 2) w := by kernel_rfl
theorem parts60a (a : Addr) (w : World) : (ReflectliteValue.parts (.agg #[.pointer (some ⟨0, 136, none⟩), .pointer (some a), .int .u64 409])).run Tryz.prog w = .ok (some (136, a, 409)) w := by kernel_rfl
theorem parts60 (a : Addr) (w : World) : (ReflectliteValue.parts (.agg #[.pointer (some ⟨0, 136, none⟩), .pointer (some a), .int .u64 153])).run Tryz.prog w = .ok (some (136, a, 153)) w := by kernel_rfl
theorem parts32a (a : Addr) (w : World) : (ReflectliteValue.parts (.agg #[.pointer (some ⟨0, 71, none⟩), .pointer (some a), .int .u64 386])).run Tryz.prog w = .ok (some (71, a, 386)) w := by kernel_rfl
theorem parts32 (a : Addr) (w : World) : (ReflectliteValue.parts (.agg #[.pointer (some ⟨0, 71, none⟩), .pointer (some a), .int .u64 130])).run Tryz.prog w = .ok (some (71, a, 130)) w := by kernel_rfl
theorem valueOf60 (x y z : Value) (w : World) : (ReflectliteValue.unpack (.iface 136 (.agg #[x, y, z]))).run Tryz.prog w
    = .ok (.agg #[.pointer (some ⟨0, 136, none⟩), .pointer (some ⟨w.heap.size, 0, none⟩), .int .u64 153]) (w.alloc (.cells #[x, y, z] 136)) := by kernel_rfl
theorem valueOf32 (x : Int) (w : World) : (ReflectliteValue.unpack (.iface 71 (.int .i64 x))).run Tryz.prog w
    = .ok (.agg #[.pointer (some ⟨0, 71, none⟩), .pointer (some ⟨w.heap.size, 0, none⟩), .int .u64 130]) (w.alloc (.cells #[.int .i64 x] 71)) := by kernel_rfl
theorem implements60 (w : World) : (ReflectliteType.relation "Implements" ReflectliteType.implements_ #[.agg #[.pointer (some ⟨0, 136, none⟩)], .iface 169 (.agg #[.pointer (some ⟨0, 58, none⟩)])]).run Tryz.prog w = .ok (.bool true) w := by kernel_rfl
theorem implements32 (w : World) : (ReflectliteType.relation "Implements" ReflectliteType.implements_ #[.agg #[.pointer (some ⟨0, 71, none⟩)], .iface 169 (.agg #[.pointer (some ⟨0, 58, none⟩)])]).run Tryz.prog w = .ok (.bool true) w := by kernel_rfl
theorem typeOf60 (v : Value) (w : World) : (ReflectliteType.typeOf #[.iface 136 v]).run Tryz.prog w = .ok (.iface 169 (.agg #[.pointer (some ⟨0, 136, none⟩)])) w := by kernel_rfl
theorem typeOf32 (v : Value) (w : World) : (ReflectliteType.typeOf #[.iface 71 v]).run Tryz.prog w = .ok (.iface 169 (.agg #[.pointer (some ⟨0, 71, none⟩)])) w := by kernel_rfl
theorem assign6060 (w : World) : (ReflectliteType.relation "AssignableTo" ReflectliteType.assignableTo #[.agg #[.pointer (some ⟨0, 136, none⟩)], .iface 169 (.agg #[.pointer (some ⟨0, 136, none⟩)])]).run Tryz.prog w = .ok (.bool true) w := by kernel_rfl
theorem assign3260 (w : World) : (ReflectliteType.relation "AssignableTo" ReflectliteType.assignableTo #[.agg #[.pointer (some ⟨0, 71, none⟩)], .iface 169 (.agg #[.pointer (some ⟨0, 136, none⟩)])]).run Tryz.prog w = .ok (.bool false) w := by kernel_rfl
theorem assign6032 (w : World) : (ReflectliteType.relation "AssignableTo" ReflectliteType.assignableTo #[.agg #[.pointer (some ⟨0, 136, none⟩)], .iface 169 (.agg #[.pointer (some ⟨0, 71, none⟩)])]).run Tryz.prog w = .ok (.bool false) w := by kernel_rfl
theorem assign3232 (w : World) : (ReflectliteType.relation "AssignableTo" ReflectliteType.assignableTo #[.agg #[.pointer (some ⟨0, 71, none⟩)], .iface 169 (.agg #[.pointer (some ⟨0, 71, none⟩)])]).run Tryz.prog w = .ok (.bool true) w := by kernel_rfl
theorem comparable32 (w : World) : (ReflectliteType.method (fun t => do Rtype.noPackHeld "Comparable" t; pure (.bool (← typeInfo t).comparable)) #[.agg #[.pointer (some ⟨0, 71, none⟩)]]).run Tryz.prog w = .ok (.bool true) w := by kernel_rfl
theorem mElem (h : Value) (w : World) : (Go.method 333 169 (.agg #[h]) "Elem").run Tryz.prog w = .ok (186, .agg #[h]) w := by kernel_rfl
theorem mKind (h : Value) (w : World) : (Go.method 333 169 (.agg #[h]) "Kind").run Tryz.prog w = .ok (182, h) w := by kernel_rfl
theorem mImplements (h : Value) (w : World) : (Go.method 333 169 (.agg #[h]) "Implements").run Tryz.prog w = .ok (187, .agg #[h]) w := by kernel_rfl
theorem mAssignableTo (h : Value) (w : World) : (Go.method 333 169 (.agg #[h]) "AssignableTo").run Tryz.prog w = .ok (184, .agg #[h]) w := by kernel_rfl
theorem mComparable (h : Value) (w : World) : (Go.method 333 169 (.agg #[h]) "Comparable").run Tryz.prog w = .ok (185, .agg #[h]) w := by kernel_rfl
theorem mUnwrap (x y z : Value) (w : World) : (Go.method 333 136 (.agg #[x, y, z]) "Unwrap").run Tryz.prog w = .ok (181, .agg #[x, y, z]) w := by kernel_rfl
theorem mk60 (p : Addr) (w : World) : (ReflectliteValue.mk 136 p ReflectliteValue.flagAddr).run Tryz.prog w = .ok (.agg #[.pointer (some ⟨0, 136, none⟩), .pointer (some p), .int .u64 409]) w := by kernel_rfl
theorem mk32 (p : Addr) (w : World) : (ReflectliteValue.mk 71 p ReflectliteValue.flagAddr).run Tryz.prog w = .ok (.agg #[.pointer (some ⟨0, 71, none⟩), .pointer (some p), .int .u64 386]) w := by kernel_rfl
theorem direct60 (w : World) : (Rtype.directlyAssignable 136 136).run Tryz.prog w = .ok true w := by kernel_rfl
theorem direct32 (w : World) : (Rtype.directlyAssignable 71 71).run Tryz.prog w = .ok true w := by kernel_rfl
theorem noIs60 (v : Value) (xT : TypeId) (w : World) : (Instr.typeAssert (.iface 136 v) xT 171 true).run Tryz.prog w = .ok (.tuple #[.nilIface, .bool false]) w := run_typeAssert_lacksB Tryz.underlying171 (by kernel_rfl) (by kernel_rfl) v xT w
theorem noIs32 (v : Value) (xT : TypeId) (w : World) : (Instr.typeAssert (.iface 71 v) xT 171 true).run Tryz.prog w = .ok (.tuple #[.nilIface, .bool false]) w := run_typeAssert_lacksB Tryz.underlying171 (by kernel_rfl) (by kernel_rfl) v xT w
theorem unwraps60 (v : Value) (xT : TypeId) (w : World) : (Instr.typeAssert (.iface 136 v) xT 174 true).run Tryz.prog w = .ok (.tuple #[.iface 136 v, .bool true]) w := run_typeAssert_hasB Tryz.underlying174 (by kernel_rfl) v xT w
theorem noUnwrap32 (v : Value) (xT : TypeId) (w : World) : (Instr.typeAssert (.iface 71 v) xT 174 true).run Tryz.prog w = .ok (.tuple #[.nilIface, .bool false]) w := run_typeAssert_lacksB Tryz.underlying174 (by kernel_rfl) (by kernel_rfl) v xT w
theorem noUnwraps32 (v : Value) (xT : TypeId) (w : World) : (Instr.typeAssert (.iface 71 v) xT 176 true).run Tryz.prog w = .ok (.tuple #[.nilIface, .bool false]) w := run_typeAssert_lacksB Tryz.underlying176 (by kernel_rfl) (by kernel_rfl) v xT w
theorem size60 (w : World) : (sizeOf 136).run Tryz.prog w = .ok 3 w := by kernel_rfl
theorem h34 (args : Array Value) (w : World) : (callFunc 107 args).run Tryz.prog w = ((ReflectliteType.typeOf args).run Tryz.prog w).andThen fun v w' => .ok (.value v) w' := run_callFunc_extern Tryz.func107 (by kernel_rfl) (by kernel_rfl) (by kernel_rfl) (by kernel_rfl) args w
theorem h60 (args : Array Value) (w : World) : (callFunc 182 args).run Tryz.prog w = (((ReflectliteType.abiMethod fun t => do pure (.int .u8 (← Rtype.kind t))) args).run Tryz.prog w).andThen fun v w' => .ok (.value v) w' := run_callFunc_extern Tryz.func182 (by kernel_rfl) (by kernel_rfl) (by kernel_rfl) (by kernel_rfl) args w
theorem h68 (args : Array Value) (w : World) : (callFunc 184 args).run Tryz.prog w = (((ReflectliteType.relation "AssignableTo" ReflectliteType.assignableTo) args).run Tryz.prog w).andThen fun v w' => .ok (.value v) w' := run_callFunc_extern Tryz.func184 (by kernel_rfl) (by kernel_rfl) (by kernel_rfl) (by kernel_rfl) args w
theorem h69 (args : Array Value) (w : World) : (callFunc 185 args).run Tryz.prog w = (((ReflectliteType.method fun t => do Rtype.noPackHeld "Comparable" t; pure (.bool (← typeInfo t).comparable)) args).run Tryz.prog w).andThen fun v w' => .ok (.value v) w' := run_callFunc_extern Tryz.func185 (by kernel_rfl) (by kernel_rfl) (by kernel_rfl) (by kernel_rfl) args w
theorem h70 (args : Array Value) (w : World) : (callFunc 186 args).run Tryz.prog w = (((ReflectliteType.method ReflectliteType.elem) args).run Tryz.prog w).andThen fun v w' => .ok (.value v) w' := run_callFunc_extern Tryz.func186 (by kernel_rfl) (by kernel_rfl) (by kernel_rfl) (by kernel_rfl) args w
theorem h71 (args : Array Value) (w : World) : (callFunc 187 args).run Tryz.prog w = (((ReflectliteType.relation "Implements" ReflectliteType.implements_) args).run Tryz.prog w).andThen fun v w' => .ok (.value v) w' := run_callFunc_extern Tryz.func187 (by kernel_rfl) (by kernel_rfl) (by kernel_rfl) (by kernel_rfl) args w
end Go.Proofs.YtfnemlbkmhcodaaGreat
namespace Go.Proofs.YtfnemlbkmhcodaaGreat
open Go.RowKit Go.Extern.Stop Go.Stop Go.Extern

theorem set32 (ta b : Addr) (e old : Value) (W : World) (hb : W.cell? b = some e) (ht : W.cell? ta = some old) (hf : W.frozen? ta = false) (hi : ∃ n, e = .int .i64 n) :
    (ReflectliteValue.set #[.agg #[.pointer (some ⟨0, 71, none⟩), .pointer (some ta), .int .u64 386], .agg #[.pointer (some ⟨0, 71, none⟩), .pointer (some b), .int .u64 130]]).run Tryz.prog W
      = .ok (.tuple #[]) (W.setCell ta e) := by
  obtain ⟨n, rfl⟩ := hi
  delta ReflectliteValue.set ReflectliteValue.set.match_3
  simp only [List.size_toArray, List.length_cons, List.length_nil, Nat.zero_add, Nat.reduceAdd, dite_true, Array.getLit, List.getElem_toArray, List.getElem_cons_zero, List.getElem_cons_succ, Sem.run_bind, parts32a, parts32, Result.andThen]
  simp [ReflectliteValue.flagAddr, loadVar, isAgg, underlying, Tryz.underlying71, hb, Result.andThen, direct32, storeVar, Value.cells, storeCells, Addr.add]
  rw [run_store Tryz.prog W ta _ _ (by rfl)]
  simp [ht, hf]
theorem set60 (ta b : Nat) (op : ByteArray) (at' : Int) (z x' y' z' : Value) (W : World) (hb0 : W.cell? ⟨b, 0, none⟩ = some (.string op)) (hb1 : W.cell? ⟨b, 1, none⟩ = some (.int .i64 at')) (hb2 : W.cell? ⟨b, 2, none⟩ = some z)
    (hz : z.oneCell' = true)
    (ht0 : W.cell? ⟨ta, 0, none⟩ = some x') (ht1 : W.cell? ⟨ta, 1, none⟩ = some y') (ht2 : W.cell? ⟨ta, 2, none⟩ = some z')
    (hf0 : W.frozen? ⟨ta, 0, none⟩ = false) (hf1 : W.frozen? ⟨ta, 1, none⟩ = false) (hf2 : W.frozen? ⟨ta, 2, none⟩ = false) :
    (ReflectliteValue.set #[.agg #[.pointer (some ⟨0, 136, none⟩), .pointer (some ⟨ta, 0, none⟩), .int .u64 409], .agg #[.pointer (some ⟨0, 136, none⟩), .pointer (some ⟨b, 0, none⟩), .int .u64 153]]).run Tryz.prog W
      = .ok (.tuple #[]) (((W.setCell ⟨ta, 0, none⟩ (.string op)).setCell ⟨ta, 1, none⟩ (.int .i64 at')).setCell ⟨ta, 2, none⟩ z) := by
  delta ReflectliteValue.set ReflectliteValue.set.match_3
  simp only [List.size_toArray, List.length_cons, List.length_nil, Nat.zero_add, Nat.reduceAdd, dite_true, Array.getLit, List.getElem_toArray, List.getElem_cons_zero, List.getElem_cons_succ, Sem.run_bind, parts60a, parts60, Result.andThen]
  simp [ReflectliteValue.flagAddr, loadVar, isAgg, underlying, Tryz.underlying136, hb0, hb1, hb2, Result.andThen, direct60, storeVar, Value.cells, storeCells, Addr.add, loadCells, loadCellsFrom]
  have e1 : (W.setCell ⟨ta, 0, none⟩ (.string op)).cell? ⟨ta, 1, none⟩ = some y' := by rw [World.cell?_setCell_other _ _ _ _ (by simp)]; exact ht1
  have e2 : ((W.setCell ⟨ta, 0, none⟩ (.string op)).setCell ⟨ta, 1, none⟩ (.int .i64 at')).cell? ⟨ta, 2, none⟩ = some z' := by rw [World.cell?_setCell_other _ _ _ _ (by simp), World.cell?_setCell_other _ _ _ _ (by simp)]; exact ht2
  rw [run_store Tryz.prog W _ _ _ (by rfl)]
  simp only [ht0, hf0]
  simp only [Bool.false_eq_true, if_false]
  rw [run_store Tryz.prog _ _ _ _ (by rfl)]
  simp [e1, hf1]
  rw [run_store Tryz.prog _ _ _ _ hz]
  simp [e2, hf2]
end Go.Proofs.YtfnemlbkmhcodaaGreat
