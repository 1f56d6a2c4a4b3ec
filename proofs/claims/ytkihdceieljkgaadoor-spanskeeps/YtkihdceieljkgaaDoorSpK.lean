/-
  SPANS AS THE DOCUMENT HAS THEM (castellanref13.Same, Add, Of), and batches of any terms (castellanlaw13.terms). Conditions: starts rise; fewer than a hundred thousand; the base is within reach.
-/
import Derived.Test.YtkihdceieljkgaaDoorSpA
import Derived.Test.YtkihdceieljkgaaDoorSpN
import Derived.Laws.StructEq
namespace Go.Proofs.YtkihdceieljkgaaDoor
open Go.RowKit

theorem neq_same (a b : Int) (w : World) : (binOp .neq 43 (.agg #[.int .i64 a, .int .i64 b]) (.agg #[.int .i64 a, .int .i64 b])).run Tryd.prog w = .ok (.bool false) w := by
  have u3 := Tryd.underlying3
  have hS : Tryd.prog.underlying 43 = some (.struct (Tryd.prog.fieldsOf 43)) := by kernel_rfl
  have hp : Tryd.prog.stoodInHeld 43 = false := by kernel_rfl
  rw [run_neq_struct, show (10000 : Nat) = 9999 + 1 from rfl, run_equalIn_agg w 9999 43 _ _ hS hp]
  simp only [Program.fieldsOf, Tryd.underlying43]
  go_simp
theorem guardSp : Tryd.prog.eqGuardType Tryd.prog.depth 43 = false := by kernel_rfl
set_option maxRecDepth 100000 in
set_option maxHeartbeats 8000000 in
theorem same_any (va vb : Value) (l : List Spn) (w : World) (ha : Ssp w va l) (hb : Ssp w vb l) (hs : l.length ≤ 100000) : Calls Tryd.prog 10 #[va, vb] w fun e w' => e = .returned (.bool true) ∧ Below w.heap.size w w' := by
  obtain ⟨aa, ca, rfl⟩ := ha.form
  obtain ⟨ab, cb, rfl⟩ := hb.form
  have HA := hide ha
  have HB := hide hb
  have e1 := neq_same
  have e2 := guardSp
  clear ha hb
  go_enter Tryd.func10, Tryd.ntmps10
  go_wp2
  go_loopw [5] (fun i W => ∃ k : Nat, k ≤ l.length ∧ i = .int .i64 k ∧ Below w.heap.size w W) (fun i _ => l.length - (ivS i).toNat)
  case atStart => exact ⟨0, Nat.zero_le _, rfl, Below.refl _ _⟩
  case round =>
    obtain ⟨k, hk, rfl, hb⟩ := hrel
    have HBE := hide hb
    clear hb
    by_cases hlt : k < l.length
    · obtain ⟨b, o, cap', e, -, c0, c1⟩ := (HA.out.below HBE.out).at hlt
      obtain rfl := (Value.slice.inj e).1
      clear e
      obtain ⟨b', o', cap'', e, -, d0, d1⟩ := (HB.out.below HBE.out).at hlt
      obtain rfl := (Value.slice.inj e).1
      clear e
      obtain ⟨x, hx⟩ : ∃ x, (l[k]).1 = x := ⟨_, rfl⟩
      obtain ⟨y, hy⟩ : ∃ y, (l[k]).2 = y := ⟨_, rfl⟩
      rw [hx] at c0 d0
      rw [hy] at c1 d1
      clear hx hy
      have hltI : (k : Int) < (l.length : Int) := by omega
      go_wp2
      go_quiet (fail)
      go_wp2
      exact ⟨⟨k + 1, by omega, by go_num, below_drewN HBE.out _⟩, by simp [ivS]; omega⟩
    · obtain rfl : k = l.length := by omega
      go_wp2
      go_ret
      exact ⟨rfl, HBE.out⟩
set_option maxRecDepth 100000 in
set_option maxHeartbeats 16000000 in
theorem radd_any (v : Value) (l : List Spn) (t s : Int) (w : World) (hv : Ssp w v l) (hr : Ris l) (hs : l.length ≤ 100000) : Calls Tryd.prog 12 #[v, .int .i64 t, .int .i64 s] w fun e w' => ∃ v', e = .returned v' ∧ Sow w' w.heap.size v' (addL l t s) ∧ Below w.heap.size w w' := by
  obtain ⟨ao, cap, rfl⟩ := hv.form
  have HV := hide hv
  have HR := hide hr
  clear hv hr
  go_enter Tryd.func12, Tryd.ntmps12
  go_wp2
  go_loopw [7, 8] (fun p i W => ∃ k : Nat, k ≤ l.length ∧ i = .int .i64 k ∧ Sow W w.heap.size p (l.take k) ∧ Below w.heap.size w W ∧ ∀ j (h : j < l.length), j < k → (l[j]).2 < s) (fun _ i _ => l.length - (ivS i).toNat)
  case atStart => exact ⟨0, Nat.zero_le _, rfl, sow_nil _ _, Below.refl _ _, fun j _ q => by omega⟩
  case round =>
    obtain ⟨k, hk, rfl, hS, hB, hq⟩ := hrel
    have HS := hide hS
    have HB := hide hB
    have HQ := hide hq
    clear hS hB hq
    obtain ⟨pa, pc, hp⟩ := HS.out.form
    rw [List.length_take, show min k l.length = k by omega] at hp
    subst hp
    have HNW := hide (spc_new (w := wr) (p := (t, s)) (t := 43))
    have HAL : Hid (Below wr.heap.size wr (wr.alloc (.cells #[.int .i64 t, .int .i64 s] 43))) := hide ((Below.refl _ _).alloc (Nat.le_refl _) _)
    have HALB : Hid (Below w.heap.size w (wr.alloc (.cells #[.int .i64 t, .int .i64 s] 43))) := hide (HB.out.alloc HB.out.size _)
    by_cases hlt : k < l.length
    · obtain ⟨b, o, cap', e, -, c0, c1⟩ := (HV.out.below HB.out).at hlt
      obtain rfl := (Value.slice.inj e).1
      clear e
      have hltI : (k : Int) < (l.length : Int) := by omega
      by_cases hc : (l[k]).2 < s
      · have HQ2 : Hid (∀ j (h : j < l.length), j < k + 1 → (l[j]).2 < s) := hide (fun j h q => by
          by_cases e : j = k
          · subst e; exact hc
          · exact HQ.out j h (by omega))
        have HTK := hide (List.take_succ_eq_append_getElem hlt)
        obtain ⟨x, hx⟩ : ∃ x, l[k] = x := ⟨_, rfl⟩
        rw [hx] at c0 c1 hc HTK
        clear hx
        obtain ⟨x0, x1⟩ := x
        dsimp only at c0 c1 hc
        have HNW2 := hide (spc_new (w := wr) (p := (x0, x1)) (t := 43))
        have HAL2 : Hid (Below wr.heap.size wr (wr.alloc (.cells #[.int .i64 x0, .int .i64 x1] 43))) := hide ((Below.refl _ _).alloc (Nat.le_refl _) _)
        have HALB2 : Hid (Below w.heap.size w (wr.alloc (.cells #[.int .i64 x0, .int .i64 x1] 43))) := hide (HB.out.alloc HB.out.size _)
        go_wp2_with (first | (at_builtin; refine wpList_appSp _ rfl _ _ rfl w.heap.size _ (l.take k) rfl (HS.out.below HAL2.out) HALB2.out.size ⟨wr.heap.size, 0, none⟩ 1 1 [(x0, x1)] rfl rfl HNW2.out (by rw [List.length_take]; omega) ?_; intro v4 W4 hl4 _ hb4; rw [← HTK.out] at hl4; have HL4 := hide hl4; have HB4 := hide (HALB2.out.trans hb4); clear hl4 hb4))
        exact ⟨⟨k + 1, by omega, by go_num, HL4.out, HB4.out, HQ2.out⟩, by simp [ivS]; omega⟩
      · have HCUT := hide (cutL_front HR.out HQ.out (fun _ => Int.not_lt.1 hc))
        have hc' : s ≤ (l[k]).2 := by omega
        obtain ⟨y, hy⟩ : ∃ y, (l[k]).2 = y := ⟨_, rfl⟩
        rw [hy] at c1 hc hc'
        clear hy c0
        rcases Nat.eq_zero_or_pos k with h0 | h0
        · have HAD : Hid (addL l t s = [(t, s)]) := hide (addL_none (by rw [HCUT.out, h0]))
          have hk0 : (k : Int) = 0 := by omega
          have hk1 : ((k : Int) == 0) = true := by simp [h0]
          have HS0 : Hid (Sow wr w.heap.size (.slice pa k pc) []) := hide (by
            have := HS.out
            rw [h0, List.take_zero] at this
            rw [h0]
            exact this)
          clear h0 hk0
          go_wp2_with (first | (at_builtin; refine wpList_appSp _ rfl _ _ rfl w.heap.size _ [] rfl (HS0.out.below HAL.out) HALB.out.size ⟨wr.heap.size, 0, none⟩ 1 1 [(t, s)] rfl rfl HNW.out (by simp) ?_; intro v4 W4 hl4 _ hb4; have HL4 := hide hl4; have HB4 := hide (HALB.out.trans hb4); clear hl4 hb4))
          go_ret
          exact ⟨_, rfl, by rw [HAD.out]; exact HL4.out, HB4.out⟩
        · obtain ⟨m, rfl⟩ : ∃ m, k = m + 1 := ⟨k - 1, by omega⟩
          have hm : m < l.length := by omega
          have hm2 : m < (l.take (m + 1)).length := by rw [List.length_take]; omega
          obtain ⟨qb, qo, qc, e, -, c9, -⟩ := HS.out.ssp.at hm2
          cases (Value.slice.inj e).1
          clear e
          rw [List.getElem_take] at c9
          have hk1 : (((m : Int) + 1) == 0) = false := by simp; omega
          have hk2 : ¬ ((m : Int) + 1 = 0) := by omega
          have hk3 : (0 : Int) < (m : Int) + 1 := by omega
          have HLN : Hid ((l.take (m + 1)).length + 1 ≤ 2000000000) := hide (by rw [List.length_take]; omega)
          by_cases hlt : (l[m]).1 < t
          · have HAD := hide (addL_yes hm HCUT.out hlt)
            obtain ⟨z, hz⟩ : ∃ z, (l[m]).1 = z := ⟨_, rfl⟩
            rw [hz] at c9 hlt
            clear hz
            go_wp2_with (first | (at_builtin; refine wpList_appSp _ rfl _ _ rfl w.heap.size _ (l.take (m + 1)) rfl (HS.out.below HAL.out) HALB.out.size ⟨wr.heap.size, 0, none⟩ 1 1 [(t, s)] rfl rfl HNW.out HLN.out ?_; intro v4 W4 hl4 _ hb4; have HL4 := hide hl4; have HB4 := hide (HALB.out.trans hb4); clear hl4 hb4))
            go_ret
            exact ⟨_, rfl, by rw [HAD.out]; exact HL4.out, HB4.out⟩
          · have HAD := hide (addL_no hm HCUT.out hlt)
            have hlt' : t ≤ (l[m]).1 := by omega
            obtain ⟨z, hz⟩ : ∃ z, (l[m]).1 = z := ⟨_, rfl⟩
            rw [hz] at c9 hlt hlt'
            clear hz
            go_wp2
            go_ret
            exact ⟨_, rfl, by rw [HAD.out]; exact HS.out, HB.out⟩
    · have HCUT := hide (cutL_front HR.out HQ.out (fun q => absurd q hlt))
      have hltI : ¬ (k : Int) < (l.length : Int) := by omega
      rcases Nat.eq_zero_or_pos k with h0 | h0
      · have HAD : Hid (addL l t s = [(t, s)]) := hide (addL_none (by rw [HCUT.out, h0]))
        have hk0 : (k : Int) = 0 := by omega
        have hk1 : ((k : Int) == 0) = true := by simp [h0]
        have HS0 : Hid (Sow wr w.heap.size (.slice pa k pc) []) := hide (by
          have := HS.out
          rw [h0, List.take_zero] at this
          rw [h0]
          exact this)
        clear h0 hk0
        go_wp2_with (first | (at_builtin; refine wpList_appSp _ rfl _ _ rfl w.heap.size _ [] rfl (HS0.out.below HAL.out) HALB.out.size ⟨wr.heap.size, 0, none⟩ 1 1 [(t, s)] rfl rfl HNW.out (by simp) ?_; intro v4 W4 hl4 _ hb4; have HL4 := hide hl4; have HB4 := hide (HALB.out.trans hb4); clear hl4 hb4))
        go_ret
        exact ⟨_, rfl, by rw [HAD.out]; exact HL4.out, HB4.out⟩
      · obtain ⟨m, rfl⟩ : ∃ m, k = m + 1 := ⟨k - 1, by omega⟩
        have hm : m < l.length := by omega
        have hm2 : m < (l.take (m + 1)).length := by rw [List.length_take]; omega
        obtain ⟨qb, qo, qc, e, -, c9, -⟩ := HS.out.ssp.at hm2
        cases (Value.slice.inj e).1
        clear e
        rw [List.getElem_take] at c9
        have hk1 : (((m : Int) + 1) == 0) = false := by simp; omega
        have hk2 : ¬ ((m : Int) + 1 = 0) := by omega
        have hk3 : (0 : Int) < (m : Int) + 1 := by omega
        have HLN : Hid ((l.take (m + 1)).length + 1 ≤ 2000000000) := hide (by rw [List.length_take]; omega)
        by_cases hlt : (l[m]).1 < t
        · have HAD := hide (addL_yes hm HCUT.out hlt)
          obtain ⟨z, hz⟩ : ∃ z, (l[m]).1 = z := ⟨_, rfl⟩
          rw [hz] at c9 hlt
          clear hz
          go_wp2_with (first | (at_builtin; refine wpList_appSp _ rfl _ _ rfl w.heap.size _ (l.take (m + 1)) rfl (HS.out.below HAL.out) HALB.out.size ⟨wr.heap.size, 0, none⟩ 1 1 [(t, s)] rfl rfl HNW.out HLN.out ?_; intro v4 W4 hl4 _ hb4; have HL4 := hide hl4; have HB4 := hide (HALB.out.trans hb4); clear hl4 hb4))
          go_ret
          exact ⟨_, rfl, by rw [HAD.out]; exact HL4.out, HB4.out⟩
        · have HAD := hide (addL_no hm HCUT.out hlt)
          have hlt' : t ≤ (l[m]).1 := by omega
          obtain ⟨z, hz⟩ : ∃ z, (l[m]).1 = z := ⟨_, rfl⟩
          rw [hz] at c9 hlt hlt'
          clear hz
          go_wp2
          go_ret
          exact ⟨_, rfl, by rw [HAD.out]; exact HS.out, HB.out⟩
set_option maxRecDepth 100000 in
set_option maxHeartbeats 8000000 in
theorem rof_any (base t : Int) (v : Value) (ts : List Int) (w : World) (hv : Sbt w v ts) (hs : ts.length ≤ 90000) (hb0 : -1000000000000 ≤ base) (hb1 : base ≤ 1000000000000) : Calls Tryd.prog 15 #[.int .i64 base, .int .i64 t, v] w fun e w' => ∃ v', e = .returned v' ∧ Ssp w' v' (ofL base t ts) ∧ Below w.heap.size w w' := by
  obtain ⟨ao, cap, rfl⟩ := hv.form
  have HV := hide hv
  clear hv
  have h0 : Hid (0 < base → spk base t ts 0 = [(t, base - 1)]) := hide (fun h => if_pos h)
  have h0' : Hid (¬ 0 < base → spk base t ts 0 = []) := hide (fun h => if_neg h)
  have HNW := hide (spc_new (w := w) (p := (t, base - 1)) (t := 43))
  have HAL : Hid (Below w.heap.size w (w.alloc (.cells #[.int .i64 t, .int .i64 (base - 1)] 43))) := hide ((Below.refl _ _).alloc (Nat.le_refl _) _)
  go_enter Tryd.func15, Tryd.ntmps15
  by_cases hp : 0 < base
  case' pos =>
    go_upto_region 4 with (first | (at_builtin; refine wpList_appSp _ rfl _ _ rfl w.heap.size _ [] rfl (sow_nil _ _) HAL.out.size ⟨w.heap.size, 0, none⟩ 1 1 [(t, base - 1)] rfl rfl HNW.out (by simp) ?_; intro v4 W4 hl4 _ hb4; have HS0 := hide hl4; have HB0 := hide (HAL.out.trans hb4); clear hl4 hb4))
    simp only [List.nil_append] at HS0
    rw [← h0.out hp] at HS0
  case' neg =>
    go_upto_region 4 with fail
    have HS0 := hide (sow_nil w w.heap.size)
    rw [← h0'.out hp] at HS0
    have HB0 := hide (Below.refl w.heap.size w)
  all_goals
    go_wp2
    go_loopw [7, 8] (fun p i W => ∃ k : Nat, k ≤ ts.length ∧ i = .int .i64 k ∧ Ssp W p (spk base t ts k) ∧ Below w.heap.size w W) (fun _ i _ => ts.length - (ivS i).toNat)
    case atStart => exact ⟨0, Nat.zero_le _, rfl, HS0.out.ssp, HB0.out⟩
    case round =>
      clear HS0 HB0
      obtain ⟨k, hk, rfl, hS, hB⟩ := hrel
      have HS := hide hS
      have HB := hide hB
      clear hS hB
      by_cases hlt : k < ts.length
      · obtain ⟨b, o, cap', e, -, c0⟩ := (HV.out.below HB.out).at hlt
        obtain rfl := (Value.slice.inj e).1
        clear e
        obtain ⟨x, hx⟩ : ∃ x, ts[k] = x := ⟨_, rfl⟩
        rw [hx] at c0
        have HX : Hid (ts[k]?.getD 0 = x) := hide (by rw [List.getElem?_eq_getElem hlt, hx]; rfl)
        clear hx
        have hltI : (k : Int) < (ts.length : Int) := by omega
        have HA := hide (radd_any u7 (spk base t ts k) x (base + k) wr HS.out (spk_ris base t ts k) (Nat.le_trans (spk_len base t ts k) (by omega)))
        have HST : Hid (spk base t ts (k + 1) = addL (spk base t ts k) x (base + k)) := hide (by rw [← HX.out]; rfl)
        go_wp2_with (first | (go_at_call 12; refine HA.out.mono ?_; rintro e W5 ⟨v5, rfl, hS5, hB5⟩; rw [← HST.out] at hS5; have HS5 := hide hS5.ssp; have HB5 := hide (bt HB.out hB5); clear hS5 hB5))
        exact ⟨⟨k + 1, by omega, by go_num, HS5.out, HB5.out⟩, by simp [ivS]; omega⟩
      · obtain rfl : k = ts.length := by omega
        go_wp2
        go_ret
        exact ⟨_, rfl, HS.out, HB.out⟩
set_option maxRecDepth 100000 in
set_option maxHeartbeats 8000000 in
theorem terms_any (v : Value) (l : List Int) (w : World) (hv : Sl u8v w v l) (hb : ∀ x ∈ l, 0 ≤ x ∧ x ≤ 255) (hs : l.length ≤ 1000) : Calls Tryd.prog 14 #[v] w fun e w' => ∃ v', e = .returned v' ∧ Sbt w' v' l ∧ Below w.heap.size w w' := by
  obtain ⟨ao, cap, rfl⟩ := hv.form
  have HV := hide hv
  have HY := hide hb
  clear hv hb
  go_enter Tryd.func14, Tryd.ntmps14
  go_wp2
  go_loopw [3, 4] (fun p i W => ∃ k : Nat, k ≤ l.length ∧ i = .int .i64 k ∧ Bow W w.heap.size p (l.take k) ∧ Below w.heap.size w W) (fun _ i _ => l.length - (ivS i).toNat)
  case atStart => exact ⟨0, Nat.zero_le _, rfl, bow_nil _ _, Below.refl _ _⟩
  case round =>
    obtain ⟨k, hk, rfl, hS, hB⟩ := hrel
    have HS := hide hS
    have HB := hide hB
    clear hS hB
    by_cases hlt : k < l.length
    · obtain ⟨b, o, rfl, c0⟩ : ∃ b o, ao = some ⟨b, o, none⟩ ∧ wr.cell? ⟨b, o + k, none⟩ = some (.int .u8 l[k]) := by
        rcases HV.out.below HB.out with ⟨_, _, e, _⟩ | ⟨b, o, cap', e, _, h3⟩
        · rw [e] at hlt; simp at hlt
        · exact ⟨b, o, (Value.slice.inj e).1, h3 k hlt⟩
      obtain ⟨x0, x1⟩ := HY.out _ (List.getElem_mem hlt)
      have HTK := hide (List.take_succ_eq_append_getElem hlt)
      have HLN : Hid ((l.take k).length + 1 ≤ 2000000000) := hide (by rw [List.length_take]; omega)
      obtain ⟨x, hx⟩ : ∃ x, l[k] = x := ⟨_, rfl⟩
      rw [hx] at c0 x0 x1 HTK
      clear hx
      have hltI : (k : Int) < (l.length : Int) := by omega
      have HNW := hide (btc_new (w := wr) (q := x) (t := 59))
      have HAL : Hid (Below w.heap.size w (wr.alloc (.cells #[.int .i64 x, .int .i64 0, .slice none 0 0] 59))) := hide (HB.out.alloc HB.out.size _)
      have HOW : Hid (Bow (wr.alloc (.cells #[.int .i64 x, .int .i64 0, .slice none 0 0] 59)) w.heap.size u3 (l.take k)) := hide (HS.out.below ((Below.refl _ _).alloc (Nat.le_refl _) _))
      clear HS
      go_wp2_with (first | (at_builtin; refine wpList_appBt _ rfl _ _ rfl w.heap.size _ (l.take k) rfl HOW.out HAL.out.size ⟨wr.heap.size, 0, none⟩ 1 x rfl HNW.out HLN.out ?_; intro v4 W4 hl4 _ hb4; rw [← HTK.out] at hl4; have HL4 := hide hl4; have HB4 := hide (HAL.out.trans hb4); clear hl4 hb4))
      exact ⟨⟨k + 1, by omega, by go_num, HL4.out, HB4.out⟩, by simp [ivS]; omega⟩
    · obtain rfl : k = l.length := by omega
      have HS1 := HS.out.sbt
      rw [List.take_length] at HS1
      have HS2 := hide HS1
      clear HS1
      go_wp2
      go_ret
      exact ⟨_, rfl, HS2.out, HB.out⟩
end Go.Proofs.YtkihdceieljkgaaDoor
