/-
  SPANS WITH ONE MORE (spans.until, add, Add; slices.Clone at spans): those that begin ahead, and one of a term behind them. Conditions: starts rise; fewer than a hundred thousand.
-/
import Derived.Test.YtkihdceieljkgaaDoorSpF
import Derived.BigQuiet
import Derived.Deep.DeepCutAuto
namespace Go.Proofs.YtkihdceieljkgaaDoor
open Go.RowKit

def slenS : Value → Nat
  | .slice _ n _ => n
  | _ => 0
set_option maxRecDepth 100000 in
set_option maxHeartbeats 4000000 in
theorem until_any (ao : Option Addr) (n cap : Nat) (l : List Spn) (s : Int) (w : World) (hv : Ssp w (.slice ao n cap) l) (hr : Ris l) (hs : l.length ≤ 100000) : Calls Tryd.prog 30 #[.slice ao n cap, .int .i64 s] w fun e w' => ∃ k, e = .returned (.slice ao k cap) ∧ k ≤ l.length ∧ cutL l s = l.take k ∧ w' = w := by
  obtain ⟨hnl, hcap⟩ : n = l.length ∧ n ≤ cap := by
    obtain ⟨ao', cap', e, hc, _⟩ := hv
    cases e
    exact ⟨rfl, hc⟩
  have HV := hide hv
  have HR := hide hr
  have HN := hide hnl
  clear hv hr
  go_enter Tryd.func30, Tryd.ntmps30
  go_wp2
  go_loopw [0] (fun p W => ∃ k : Nat, p = .slice ao k cap ∧ k ≤ n ∧ W = w ∧ ∀ i (h : i < l.length), k ≤ i → s ≤ (l[i]).2) (fun p _ => slenS p)
  case atStart => exact ⟨n, rfl, Nat.le_refl _, rfl, fun i h q => by omega⟩
  case round =>
    obtain ⟨k, rfl, hk, rfl, hq⟩ := hrel
    have HQ := hide hq
    clear hq
    rcases Nat.eq_zero_or_pos k with h0 | h0
    · subst h0
      go_wp2
      go_ret
      exact ⟨0, rfl, Nat.zero_le _, cutL_back HR.out (fun _ q => by omega) (Nat.zero_le _) HQ.out, rfl⟩
    · obtain ⟨m, rfl⟩ : ∃ m, k = m + 1 := ⟨k - 1, by omega⟩
      have hm : m < l.length := by omega
      obtain ⟨b, o, cap', e, -, -⟩ := HV.out.at hm
      cases e
      obtain ⟨-, c1⟩ := HV.out.cells hm
      have hcut := cut_sp (some ⟨b, o, none⟩) (m + 1) cap m (by omega)
      have hp0 : (0 : Int) < (m : Int) + 1 := by omega
      by_cases hlt : s ≤ (l[m]).2
      · have HL := hide hlt
        obtain ⟨y, hy⟩ : ∃ y, (l[m]).2 = y := ⟨_, rfl⟩
        have HY := hide hy
        rw [hy] at c1 hlt HL
        clear hy
        go_wp2
        refine ⟨⟨m, rfl, by omega, trivial, fun i hi q => ?_⟩, by simp [slenS]⟩
        by_cases e : i = m
        · subst e
          rw [HY.out]
          exact HL.out
        · exact HQ.out i hi (by omega)
      · have hlt' : (l[m]).2 < s := by omega
        have HL := hide hlt'
        obtain ⟨y, hy⟩ : ∃ y, (l[m]).2 = y := ⟨_, rfl⟩
        rw [hy] at c1 hlt hlt'
        clear hy
        go_wp2
        go_ret
        exact ⟨m + 1, rfl, by omega, cutL_back HR.out (fun q _ => by simpa using HL.out) (by omega) HQ.out, rfl⟩
theorem addL_none {l : List Spn} {t s : Int} (h : cutL l s = l.take 0) : addL l t s = [(t, s)] := by
  unfold addL snocL
  rw [h]
  simp
theorem last_take {l : List Spn} {m : Nat} (hm : m < l.length) : (l.take (m + 1)).getLast? = some l[m] := by
  rw [List.take_succ_eq_append_getElem hm]
  exact List.getLast?_concat
theorem addL_yes {l : List Spn} {t s : Int} {m : Nat} (hm : m < l.length) (h : cutL l s = l.take (m + 1)) (ht : (l[m]).1 < t) : addL l t s = l.take (m + 1) ++ [(t, s)] := by
  unfold addL snocL
  rw [h, if_pos (.inr (by rw [last_take hm]; exact ht))]
theorem addL_no {l : List Spn} {t s : Int} {m : Nat} (hm : m < l.length) (h : cutL l s = l.take (m + 1)) (ht : ¬ (l[m]).1 < t) : addL l t s = l.take (m + 1) := by
  unfold addL snocL
  rw [h, if_neg]
  rintro (e | e)
  · have := congrArg List.length e
    rw [List.length_take, List.length_nil] at this
    omega
  · rw [last_take hm] at e
    exact ht e
set_option maxRecDepth 100000 in
set_option maxHeartbeats 8000000 in
theorem add_any (B : Nat) (v : Value) (l : List Spn) (t s : Int) (w : World) (hv : Sow w B v l) (hB : B ≤ w.heap.size) (hr : Ris l) (hs : l.length ≤ 100000) : Calls Tryd.prog 23 #[v, .int .i64 t, .int .i64 s] w fun e w' => ∃ v', e = .returned v' ∧ Sow w' B v' (addL l t s) ∧ Below B w w' := by
  obtain ⟨ao, cap, rfl⟩ := hv.form
  obtain ⟨R, hR⟩ : ∃ R, addL l t s = R := ⟨_, rfl⟩
  rw [hR]
  have HRR := hide hR
  clear hR
  have HU := hide (until_any ao l.length cap l s w hv.ssp hr hs)
  have HV := hide hv
  clear hv hr
  have HAL : Hid (Below w.heap.size w (w.alloc (.cells #[.int .i64 t, .int .i64 s] 43))) := hide ((Below.refl _ _).alloc (Nat.le_refl _) _)
  have HBA : Hid (Below B w (w.alloc (.cells #[.int .i64 t, .int .i64 s] 43))) := hide ((Below.refl _ _).alloc hB _)
  have HNW := hide (spc_new (w := w) (p := (t, s)) (t := 43))
  have HB := hide hB
  clear hB
  go_enter Tryd.func23, Tryd.ntmps23
  go_upto_region 2 with (first | (go_at_call 30; refine HU.out.mono ?_; rintro e W1 ⟨k, rfl, hk, hc, rfl⟩; have HC := hide hc; clear hc HU))
  have HT := hide (HV.out.take hk)
  clear HV
  rcases Nat.eq_zero_or_pos k with h0 | h0
  · subst h0
    rw [List.take_zero] at HT
    rw [addL_none HC.out] at HRR
    clear HC
    go_wp2_with (first | (at_builtin; refine wpList_appSp _ rfl _ _ rfl B _ [] rfl (HT.out.below HAL.out) (Nat.le_trans HB.out HAL.out.size) ⟨W1.heap.size, 0, none⟩ 1 1 [(t, s)] rfl rfl HNW.out (by simp) ?_; intro v4 W4 hl4 _ hb4; have HL4 := hide hl4; have HB4 := hide (HBA.out.trans hb4); clear hl4 hb4))
    go_ret
    exact ⟨_, rfl, by rw [← HRR.out]; exact HL4.out, HB4.out⟩
  · obtain ⟨m, rfl⟩ : ∃ m, k = m + 1 := ⟨k - 1, by omega⟩
    have hm : m < l.length := by omega
    have hm2 : m < (l.take (m + 1)).length := by rw [List.length_take]; omega
    have hlen : (l.take (m + 1)).length = m + 1 := by rw [List.length_take]; omega
    obtain ⟨b, o, cap', e, -, c0, -⟩ := HT.out.ssp.at hm2
    obtain rfl := (Value.slice.inj e).1
    clear e
    rw [List.getElem_take] at c0
    have hp0 : ¬ ((m : Int) + 1 = 0) := by omega
    have hp1 : (0 : Int) < (m : Int) + 1 := by omega
    have HLEN := hide hlen
    clear hlen
    by_cases hlt : (l[m]).1 < t
    · rw [addL_yes hm HC.out hlt] at HRR
      obtain ⟨y, hy⟩ : ∃ y, (l[m]).1 = y := ⟨_, rfl⟩
      rw [hy] at c0 hlt
      clear hy HC
      go_wp2_with (first | (at_builtin; refine wpList_appSp _ rfl _ _ rfl B _ (l.take (m + 1)) rfl (HT.out.below HAL.out) (Nat.le_trans HB.out HAL.out.size) ⟨W1.heap.size, 0, none⟩ 1 1 [(t, s)] rfl rfl HNW.out (by rw [HLEN.out]; omega) ?_; intro v4 W4 hl4 _ hb4; have HL4 := hide hl4; have HB4 := hide (HBA.out.trans hb4); clear hl4 hb4))
      go_ret
      exact ⟨_, rfl, by rw [← HRR.out]; exact HL4.out, HB4.out⟩
    · rw [addL_no hm HC.out hlt] at HRR
      have hlt' : t ≤ (l[m]).1 := by omega
      obtain ⟨y, hy⟩ : ∃ y, (l[m]).1 = y := ⟨_, rfl⟩
      rw [hy] at c0 hlt hlt'
      clear hy HC
      go_wp2
      go_ret
      exact ⟨_, rfl, by rw [← HRR.out]; exact HT.out, Below.refl _ _⟩
theorem nilS_yes (n cap : Nat) (w : World) : (binOp .eql 22 (.slice none n cap) (.slice none 0 0)).run Tryd.prog w = .ok (.bool true) w := by kernel_rfl
theorem nilS_no (a : Addr) (n cap : Nat) (w : World) : (binOp .eql 22 (.slice (some a) n cap) (.slice none 0 0)).run Tryd.prog w = .ok (.bool false) w := by kernel_rfl
theorem sow_new0 (w : World) : Sow (w.alloc (.cells #[] 43)) w.heap.size (.slice (some ⟨w.heap.size, 0, none⟩) 0 0) [] :=
  ⟨by simp [spcs], .inr ⟨w.heap.size, 0, #[], rfl, Nat.le_refl _, Array.getElem?_push_size, Nat.le_refl _, Nat.zero_le _, by simp, by simp [spcs]⟩⟩
set_option maxRecDepth 100000 in
set_option maxHeartbeats 4000000 in
theorem clone_any (v : Value) (l : List Spn) (w : World) (hv : Ssp w v l) (hs : l.length ≤ 100000) : Calls Tryd.prog 24 #[v] w fun e w' => ∃ v', e = .returned v' ∧ Sow w' w.heap.size v' l ∧ Below w.heap.size w w' := by
  have e1 := nilS_yes
  have e2 := nilS_no
  obtain ⟨ao, cap, rfl, hc, hr⟩ := hv
  cases ao with
  | none =>
    have hl : l = [] := by
      rcases Nat.eq_zero_or_pos l.length with h | h
      · exact List.length_eq_zero_iff.1 h
      · obtain ⟨b, o, e, _⟩ := hr h
        cases e
    subst hl
    clear hr
    go_enter Tryd.func24, Tryd.ntmps24
    go_wp2
    go_ret
    exact ⟨_, rfl, sow_nil _ _, Below.refl _ _⟩
  | some a =>
    have HN : Hid (∀ j u, (spcs l)[j]? = some u → (w.alloc (.cells #[] 43)).cell? (a.add j) = some u) := hide (fun j u hj => by
      have h0 : 0 < l.length := by
        rcases Nat.eq_zero_or_pos l.length with h | h
        · obtain rfl := List.length_eq_zero_iff.1 h
          simp [spcs] at hj
        · exact h
      obtain ⟨b, o, e, h2⟩ := hr h0
      cases e
      rw [Addr.add_lit]
      exact range_belS h2 ((Below.refl _ _).alloc (Nat.le_refl _) _) j u hj)
    have HOW := hide (sow_new0 w)
    have HAL : Hid (Below w.heap.size w (w.alloc (.cells #[] 43))) := hide ((Below.refl _ _).alloc (Nat.le_refl _) _)
    clear hr
    go_enter Tryd.func24, Tryd.ntmps24
    go_wp2_with (first | (at_builtin; refine wpList_appSp _ rfl _ _ rfl w.heap.size _ [] rfl HOW.out HAL.out.size a cap l.length l rfl rfl HN.out (by simp; omega) ?_; intro v4 W4 hl4 _ hb4; have HL4 := hide hl4; have HB4 := hide (HAL.out.trans hb4); clear hl4 hb4))
    go_ret
    exact ⟨_, rfl, HL4.out, HB4.out⟩
set_option maxRecDepth 100000 in
set_option maxHeartbeats 4000000 in
theorem Add_any (v : Value) (l : List Spn) (t s : Int) (w : World) (hv : Ssp w v l) (hr : Ris l) (hs : l.length ≤ 100000) : Calls Tryd.prog 11 #[v, .int .i64 t, .int .i64 s] w fun e w' => ∃ v', e = .returned v' ∧ Sow w' w.heap.size v' (addL l t s) ∧ Below w.heap.size w w' := by
  have HC := hide (clone_any v l w hv hs)
  have HR := hide hr
  obtain ⟨ao, cap, rfl⟩ := hv.form
  clear hv hr
  go_enter Tryd.func11, Tryd.ntmps11
  go_wp2_with (first
    | (go_at_call 24; refine HC.out.mono ?_; rintro e W1 ⟨v1, rfl, hv1, hb1⟩; have HV1 := hide hv1; have HB1 := hide hb1; clear hv1 hb1 HC)
    | (go_at_call 23; refine (add_any w.heap.size v1 l t s W1 HV1.out HB1.out.size HR.out hs).mono ?_; rintro e W2 ⟨v2, rfl, hv2, hb2⟩; have HV2 := hide hv2; have HB2 := hide (HB1.out.trans hb2); clear hv2 hb2 HV1 HB1))
  go_ret
  exact ⟨_, rfl, HV2.out, HB2.out⟩
end Go.Proofs.YtkihdceieljkgaaDoor
