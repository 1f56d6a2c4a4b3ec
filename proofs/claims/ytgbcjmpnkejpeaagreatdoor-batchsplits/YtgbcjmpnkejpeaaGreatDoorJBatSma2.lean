/-
  WHETHER TWO BATCHES ARE THE SAME (batch.Same with slices.EqualFunc, castellanref06.Same): what the mathematics says. Conditions: the records' cells hold them, their rows are not too long.
  ARE RECORDS NO MORE THAN IS WAITED FOR (castellanref06.Short)? Conditions: the records' cells hold them.
-/
import Derived.Test.YtgbcjmpnkejpeaaGreatDoorJBatCk
import Derived.Deep.RegionHeld3
import Derived.Test.YtgbcjmpnkejpeaaGreatDoorJBatMa3
namespace Go.Proofs.YtgbcjmpnkejpeaaGreatDoor
open Go.RowKit

def sameL (a b : List Rc) : Bool := decide (a.length = b.length) && (List.range a.length).all fun i => sameR (a.getD i Rc.zero) (b.getD i Rc.zero)
def sameBt (x y : Bt) : Bool := decide (x.t = y.t) && (decide (x.b = y.b) && sameL x.rs y.rs)
theorem sameL_len {a b : List Rc} (h : ¬ a.length = b.length) : sameL a b = false := by unfold sameL; rw [decide_eq_false h, Bool.false_and]
theorem rcl_at {ps : List Rp} {j : Nat} (h : j < ps.length) : (rcl ps).getD j Rc.zero = ps[j].1 := by simp [rcl, List.getD, h]
theorem sameL_no {ps qs : List Rp} {j : Nat} (hj : j < ps.length) (hk : j < qs.length) (h : sameR ps[j].1 qs[j].1 = false) : sameL (rcl ps) (rcl qs) = false := by
  unfold sameL
  have : ((List.range (rcl ps).length).all fun i => sameR ((rcl ps).getD i Rc.zero) ((rcl qs).getD i Rc.zero)) = false := by
    rw [List.all_eq_false]
    exact ⟨j, List.mem_range.2 (by rw [rcl_len]; exact hj), by rw [rcl_at hj, rcl_at hk, h]; decide⟩
  rw [this, Bool.and_false]
theorem sameL_yes {ps qs : List Rp} (hl : ps.length = qs.length) (h : ∀ i, i < ps.length → sameR ((rcl ps).getD i Rc.zero) ((rcl qs).getD i Rc.zero) = true) : sameL (rcl ps) (rcl qs) = true := by
  unfold sameL
  rw [decide_eq_true (by rw [rcl_len, rcl_len]; exact hl), Bool.true_and, List.all_eq_true]
  intro i hi
  exact h i (by have := List.mem_range.1 hi; rwa [rcl_len] at this)
theorem sameL_self (a : List Rc) : sameL a a = true := by
  unfold sameL
  rw [decide_eq_true rfl, Bool.true_and, List.all_eq_true]
  intro i _
  exact sameR_self _
theorem sameBt_self (x : Bt) : sameBt x x = true := by
  unfold sameBt
  rw [sameL_self, decide_eq_true rfl, decide_eq_true rfl]
  rfl
set_option maxRecDepth 100000 in
set_option maxHeartbeats 4000000 in
theorem eqf_len (ao bo : Option Addr) (L M cap cap' : Nat) (w : World) (h : ¬ L = M) : Calls Tryz.prog 64 #[.slice ao L cap, .slice bo M cap', .func (.func 41) #[] #[]] w fun e w' => e = .returned (.bool false) ∧ Below w.heap.size w w' := by
  have hI : ¬ (L : Int) = (M : Int) := by omega
  go_enter Tryz.func64, Tryz.ntmps64
  go_wp2_with fail
  go_ret
  exact ⟨rfl, Below.refl _ _⟩
set_option maxRecDepth 100000 in
set_option maxHeartbeats 4000000 in
theorem eqf_none (ao bo : Option Addr) (cap cap' : Nat) (w : World) : Calls Tryz.prog 64 #[.slice ao 0 cap, .slice bo 0 cap', .func (.func 41) #[] #[]] w fun e w' => e = .returned (.bool true) ∧ Below w.heap.size w w' := by
  go_enter Tryz.func64, Tryz.ntmps64
  go_wp2_with fail
  refine wp_loop_rounds 1 ?_
  rw [rounds_succ]
  go_wp2_with fail
  go_ret
  exact ⟨rfl, Below.refl _ _⟩
set_option maxRecDepth 100000 in
set_option maxHeartbeats 16000000 in
theorem eqf_some {ok ok' : Nat → Prop} (b o cap b' o' cap' : Nat) (ps qs : List Rp) (w : World) (hl : ps.length = qs.length) (hn : ps.length ≤ 100000) (hrg : w.rangeAt b o (rcs ps)) (hrw : ∀ p ∈ ps, RwP ok w p) (hrg' : w.rangeAt b' o' (rcs qs)) (hrw' : ∀ p ∈ qs, RwP ok' w p) (hln : ∀ p ∈ ps, LnR p.1) :
    Calls Tryz.prog 64 #[.slice (some ⟨b, o, none⟩) ps.length cap, .slice (some ⟨b', o', none⟩) qs.length cap', .func (.func 41) #[] #[]] w fun e w' => e = .returned (.bool (sameL (rcl ps) (rcl qs))) ∧ Below w.heap.size w w' := by
  have HR := hide hrg
  have HW := hide hrw
  have HR' := hide hrg'
  have HW' := hide hrw'
  have HL := hide hln
  clear hrg hrw hrg' hrw' hln
  rw [← hl]
  have HLE := hide hl
  clear hl
  go_enter Tryz.func64, Tryz.ntmps64
  go_wp2_with fail
  go_loopw [17] (fun i wr => ∃ j : Nat, j ≤ ps.length ∧ i = .int .i64 (j : Int) ∧ (∀ i, i < j → sameR ((rcl ps).getD i Rc.zero) ((rcl qs).getD i Rc.zero) = true) ∧ Below w.heap.size w wr) (fun i _ => ps.length - (intOf i).toNat)
  case atStart => exact ⟨0, Nat.zero_le _, rfl, fun i hi => by omega, Below.refl _ _⟩
  case round =>
    obtain ⟨j, hj, rfl, hall, hb⟩ := hrel
    have HA := hide hall
    have HB := hide hb
    clear hall hb
    by_cases hlt : j < ps.length
    · have hlt' : j < qs.length := by have := HLE.out; omega
      have hltI : (j : Int) < (ps.length : Int) := by omega
      have HE := hide (range_bel (range_at HR.out hlt) HB.out)
      have HE' := hide (range_bel (range_at HR'.out hlt') HB.out)
      have HP := hide (HW.out _ (List.getElem_mem hlt))
      have HP' := hide (HW'.out _ (List.getElem_mem hlt'))
      have HX := hide (HL.out _ (List.getElem_mem hlt))
      have HN := hide (fun h => sameL_no hlt hlt' h)
      have HK : Hid (sameR ps[j].1 qs[j].1 = true → ∀ i, i < j + 1 → sameR ((rcl ps).getD i Rc.zero) ((rcl qs).getD i Rc.zero) = true) := hide (fun h i hi => by
        by_cases e : i = j
        · subst e; rw [rcl_at hlt, rcl_at hlt']; exact h
        · exact HA.out i (by omega))
      have HTN := hide (there_new wr)
      generalize ps[j] = p at *
      generalize qs[j] = q at *
      go_upto_region 6 with (first | (refine wpList_load_mid rfl _ _ rfl _ _ rfl _ _ HE.out Tryz.underlying35 rfl (by kernel_rfl) ?_) | (refine wpList_store_mid rfl _ _ _ rfl wr.heap.size 0 (cel p).toArray rfl rfl HTN.out (by kernel_rfl) (cel_all _) ?_))
      obtain ⟨V, hV⟩ : ∃ V, V = (wr.alloc (.cells #[.int .i64 0, .int .i64 0, .int .i64 0, .int .i64 0, .int .i64 0, .int .i64 0, .int .i64 0, .int .i64 0, .int .i64 0, .bool false, .string ⟨#[]⟩, .string ⟨#[]⟩, .string ⟨#[]⟩, .string ⟨#[]⟩, .slice none 0 0, .slice none 0 0, .slice none 0 0, .slice none 0 0] 35)).setCells wr.heap.size 0 (cel p) := ⟨_, rfl⟩
      obtain ⟨hbV, hrV, hzV⟩ := laidP wr p hV
      have HRV := hide hrV
      have HBV := hide (HB.out.trans (hbV.mono HB.out.size))
      have HEV := hide (range_bel HE'.out hbV)
      have HTV := hide (there_new V)
      rw [← hV]
      clear hV hrV hbV hzV HTN HE HB
      go_upto_region 7 with (first | (refine wpList_load_mid rfl _ _ rfl _ _ rfl _ _ HEV.out Tryz.underlying35 rfl (by kernel_rfl) ?_) | (refine wpList_store_mid rfl _ _ _ rfl V.heap.size 0 (cel q).toArray rfl rfl HTV.out (by kernel_rfl) (cel_all _) ?_))
      obtain ⟨U, hU⟩ : ∃ U, U = (V.alloc (.cells #[.int .i64 0, .int .i64 0, .int .i64 0, .int .i64 0, .int .i64 0, .int .i64 0, .int .i64 0, .int .i64 0, .int .i64 0, .bool false, .string ⟨#[]⟩, .string ⟨#[]⟩, .string ⟨#[]⟩, .string ⟨#[]⟩, .slice none 0 0, .slice none 0 0, .slice none 0 0, .slice none 0 0] 35)).setCells V.heap.size 0 (cel q) := ⟨_, rfl⟩
      obtain ⟨hbU, hrU, _⟩ := laidP V q hU
      have HRU := hide hrU
      have HRV2 := hide (range_bel HRV.out hbU)
      have HBU := hide (HBV.out.trans (hbU.mono HBV.out.size))
      rw [← hU]
      clear hU hrU hbU HTV HEV HRV
      have HC := hide (csame_any p.1 q.1 _ _ U (HP.out.below HBU.out).is (HP'.out.below HBU.out).is HX.out)
      clear HP HP' HX HW HW' HR HR' HL HE'
      cases hs : sameR p.1 q.1 with
      | true =>
        rw [hs] at HC
        go_wp2_with (first | (refine wpList_load_mid rfl _ _ rfl _ _ rfl _ _ HRV2.out Tryz.underlying35 rfl (by kernel_rfl) ?_) | (refine wpList_load_mid rfl _ _ rfl _ _ rfl _ _ HRU.out Tryz.underlying35 rfl (by kernel_rfl) ?_) | (go_at_call 41; refine HC.out.mono ?_; rintro e w5 ⟨rfl, hb5⟩; have HB5 := hide (HBU.out.trans (hb5.mono HBU.out.size)); clear hb5))
        go_roundw
        case rel => exact ⟨j + 1, by omega, by go_num, HK.out hs, HB5.out⟩
        case measure => simp [intOf]; omega
      | false =>
        rw [hs] at HC
        go_wp2_with (first | (refine wpList_load_mid rfl _ _ rfl _ _ rfl _ _ HRV2.out Tryz.underlying35 rfl (by kernel_rfl) ?_) | (refine wpList_load_mid rfl _ _ rfl _ _ rfl _ _ HRU.out Tryz.underlying35 rfl (by kernel_rfl) ?_) | (go_at_call 41; refine HC.out.mono ?_; rintro e w5 ⟨rfl, hb5⟩; have HB5 := hide (HBU.out.trans (hb5.mono HBU.out.size)); clear hb5))
        go_ret
        exact ⟨ret_b (HN.out hs), HB5.out⟩
    · obtain rfl : j = ps.length := by omega
      have hf := sameL_yes HLE.out HA.out
      clear hlt HR HR' HW HW' HL
      go_wp2_with fail
      go_ret
      exact ⟨ret_b hf, HB.out⟩
theorem eqf_any {okb ok okb' ok' : Nat → Prop} (ao bo : Option Addr) (cap cap' : Nat) (ps qs : List Rp) (w : World) (hv : Rl okb ok w (.slice ao ps.length cap) ps) (hu : Rl okb' ok' w (.slice bo qs.length cap') qs) (hn : ps.length ≤ 100000) (hln : ∀ p ∈ ps, LnR p.1) :
    Calls Tryz.prog 64 #[.slice ao ps.length cap, .slice bo qs.length cap', .func (.func 41) #[] #[]] w fun e w' => e = .returned (.bool (sameL (rcl ps) (rcl qs))) ∧ Below w.heap.size w w' := by
  by_cases hl : ps.length = qs.length
  · by_cases h0 : 0 < ps.length
    · obtain ⟨b, o, rfl, h1⟩ := hv.rg h0
      obtain ⟨b', o', rfl, h2⟩ := hu.rg (by omega)
      exact eqf_some b o cap b' o' cap' ps qs w hl hn h1 hv.2 h2 hu.2 hln
    · have e1 : ps = [] := List.length_eq_zero_iff.1 (by omega)
      have e2 : qs = [] := List.length_eq_zero_iff.1 (by omega)
      subst e1 e2
      exact eqf_none ao bo cap cap' w
  · rw [sameL_len (by rw [rcl_len, rcl_len]; exact hl)]
    exact eqf_len ao bo _ _ cap cap' w hl
set_option maxRecDepth 100000 in
set_option maxHeartbeats 16000000 in
theorem bsame_go (t b t' b' : Int) (ao bo : Option Addr) (L M cap cap' : Nat) (R : Bool) (w : World) (HC : Hid (∀ W, Below w.heap.size w W → Calls Tryz.prog 64 #[.slice ao L cap, .slice bo M cap', .func (.func 41) #[] #[]] W fun e w' => e = .returned (.bool R) ∧ Below W.heap.size W w')) :
    Calls Tryz.prog 23 #[.agg #[.int .i64 t, .int .i64 b, .slice ao L cap], .agg #[.int .i64 t', .int .i64 b', .slice bo M cap']] w fun e w' => e = .returned (.bool (decide (t = t') && (decide (b = b') && R))) ∧ Below w.heap.size w w' := by
  have HB : Hid (Below w.heap.size w ((w.alloc (.cells #[.int .i64 t, .int .i64 b, .slice ao L cap] 48)).alloc (.cells #[.int .i64 t', .int .i64 b', .slice bo M cap'] 48))) := hide (((Below.refl _ _).alloc (Nat.le_refl _) _).alloc (by simp) _)
  have HC2 := hide (HC.out _ HB.out)
  have HB2 : Hid (∀ W', Below ((w.alloc (.cells #[.int .i64 t, .int .i64 b, .slice ao L cap] 48)).alloc (.cells #[.int .i64 t', .int .i64 b', .slice bo M cap'] 48)).heap.size ((w.alloc (.cells #[.int .i64 t, .int .i64 b, .slice ao L cap] 48)).alloc (.cells #[.int .i64 t', .int .i64 b', .slice bo M cap'] 48)) W' → Below w.heap.size w W') := hide (fun W' h => HB.out.trans (h.mono HB.out.size))
  clear HC
  by_cases h1 : t = t'
  · subst h1
    by_cases h2 : b = b'
    · subst h2
      rw [decide_eq_true rfl, decide_eq_true rfl, Bool.true_and, Bool.true_and]
      go_enter Tryz.func23, Tryz.ntmps23
      go_wp2_with (first | (go_at_call 64; refine HC2.out.mono ?_; rintro e w5 ⟨rfl, hb5⟩; have HB5 := hide (HB2.out _ hb5); clear hb5))
      go_ret
      exact ⟨rfl, HB5.out⟩
    · rw [decide_eq_true rfl, decide_eq_false h2, Bool.true_and, Bool.false_and]
      go_enter Tryz.func23, Tryz.ntmps23
      go_wp2_with fail
      go_ret
      exact ⟨rfl, HB.out⟩
  · rw [decide_eq_false h1, Bool.false_and]
    go_enter Tryz.func23, Tryz.ntmps23
    go_wp2_with fail
    go_ret
    exact ⟨rfl, HB.out⟩
theorem bsame_any {okb ok okb' ok' : Nat → Prop} (x y : Bt) (v u : Value) (w : World) (hv : IsB okb ok w v x) (hu : IsB okb' ok' w u y) (hn : x.rs.length ≤ 100000) (hln : ∀ r ∈ x.rs, LnR r) : Calls Tryz.prog 23 #[v, u] w fun e w' => e = .returned (.bool (sameBt x y)) ∧ Below w.heap.size w w' := by
  obtain ⟨t, b, rs⟩ := x
  obtain ⟨t', b', rs'⟩ := y
  obtain ⟨a1, ps, rfl, h2, h3⟩ := hv
  obtain ⟨a2, qs, rfl, k2, k3⟩ := hu
  simp only at h3 k3 hn hln
  subst h3 k3
  obtain ⟨ao, cap, rfl⟩ := h2.form
  obtain ⟨bo, cap', rfl⟩ := k2.form
  exact bsame_go t b t' b' ao bo _ _ cap cap' _ w (hide fun W h => eqf_any ao bo cap cap' ps qs W (h2.below h) (k2.below h) (by rwa [rcl_len] at hn) (fun p hp => hln p.1 (List.mem_map.2 ⟨p, hp, rfl⟩)))
/-- Two batches in their cells. -/
theorem six_in (w : World) (x0 x1 x2 y0 y1 y2 : Value) {X : World} (hX : X = (w.alloc (.cells #[x0, x1, x2] 48)).alloc (.cells #[y0, y1, y2] 48)) : ∀ W, Below X.heap.size X W → (W.cell? ⟨w.heap.size, 0, none⟩ = some x0 ∧ W.cell? ⟨w.heap.size, 1, none⟩ = some x1 ∧ W.cell? ⟨w.heap.size, 2, none⟩ = some x2) ∧ (W.cell? ⟨w.heap.size + 1, 0, none⟩ = some y0 ∧ W.cell? ⟨w.heap.size + 1, 1, none⟩ = some y1 ∧ W.cell? ⟨w.heap.size + 1, 2, none⟩ = some y2) := by
  intro W hW
  have hs : X.heap.size = w.heap.size + 2 := by rw [hX]; simp
  have h1 : ∀ i, W.cell? ⟨w.heap.size, i, none⟩ = X.cell? ⟨w.heap.size, i, none⟩ := fun i => hW.cell (p := ⟨w.heap.size, i, none⟩) (by show w.heap.size < _; omega)
  have h2 : ∀ i, W.cell? ⟨w.heap.size + 1, i, none⟩ = X.cell? ⟨w.heap.size + 1, i, none⟩ := fun i => hW.cell (p := ⟨w.heap.size + 1, i, none⟩) (by show w.heap.size + 1 < _; omega)
  refine ⟨⟨?_, ?_, ?_⟩, ?_, ?_, ?_⟩
  · rw [h1, hX]; simp
  · rw [h1, hX]; simp
  · rw [h1, hX]; simp
  · rw [h2, hX]; simp
  · rw [h2, hX]; simp
  · rw [h2, hX]; simp
set_option maxRecDepth 100000 in
set_option maxHeartbeats 16000000 in
theorem rbsame_short (t b t' b' : Int) (ao bo : Option Addr) (L M cap cap' : Nat) (w : World) (h : ¬ (t = t' ∧ b = b' ∧ L = M)) :
    Calls Tryz.prog 24 #[.agg #[.int .i64 t, .int .i64 b, .slice ao L cap], .agg #[.int .i64 t', .int .i64 b', .slice bo M cap']] w fun e w' => e = .returned (.bool false) ∧ Below w.heap.size w w' := by
  have HB : Hid (Below w.heap.size w ((w.alloc (.cells #[.int .i64 t, .int .i64 b, .slice ao L cap] 48)).alloc (.cells #[.int .i64 t', .int .i64 b', .slice bo M cap'] 48))) := hide (((Below.refl _ _).alloc (Nat.le_refl _) _).alloc (by simp) _)
  by_cases h1 : t = t'
  · subst h1
    by_cases h2 : b = b'
    · subst h2
      have h3 : ¬ (L : Int) = (M : Int) := by
        intro e
        exact h ⟨rfl, rfl, by omega⟩
      clear h
      go_enter Tryz.func24, Tryz.ntmps24
      go_wp2_with fail
      go_ret
      exact ⟨rfl, HB.out⟩
    · clear h
      go_enter Tryz.func24, Tryz.ntmps24
      go_wp2_with fail
      go_ret
      exact ⟨rfl, HB.out⟩
  · clear h
    go_enter Tryz.func24, Tryz.ntmps24
    go_wp2_with fail
    go_ret
    exact ⟨rfl, HB.out⟩
set_option maxRecDepth 100000 in
set_option maxHeartbeats 16000000 in
theorem rbsame_none (t b : Int) (ao bo : Option Addr) (cap cap' : Nat) (w : World) :
    Calls Tryz.prog 24 #[.agg #[.int .i64 t, .int .i64 b, .slice ao 0 cap], .agg #[.int .i64 t, .int .i64 b, .slice bo 0 cap']] w fun e w' => e = .returned (.bool true) ∧ Below w.heap.size w w' := by
  have HB : Hid (Below w.heap.size w ((w.alloc (.cells #[.int .i64 t, .int .i64 b, .slice ao 0 cap] 48)).alloc (.cells #[.int .i64 t, .int .i64 b, .slice bo 0 cap'] 48))) := hide (((Below.refl _ _).alloc (Nat.le_refl _) _).alloc (by simp) _)
  go_enter Tryz.func24, Tryz.ntmps24
  go_wp2_with fail
  refine wp_loop_rounds 1 ?_
  rw [rounds_succ]
  go_wp2_with fail
  go_ret
  exact ⟨rfl, HB.out⟩
end Go.Proofs.YtgbcjmpnkejpeaaGreatDoor
namespace Go.Proofs.YtgbcjmpnkejpeaaGreatDoor
open Go.RowKit

set_option maxRecDepth 100000 in
set_option maxHeartbeats 4000000 in
theorem bshort_none (ao : Option Addr) (cap : Nat) (w : World) : Calls Tryz.prog 18 #[.slice ao 0 cap] w fun e w' => e = .returned (.bool true) ∧ Below w.heap.size w w' := by
  go_enter Tryz.func18, Tryz.ntmps18
  go_wp2_with fail
  refine wp_loop_rounds 1 ?_
  rw [rounds_succ]
  go_wp2_with fail
  go_ret
  exact ⟨rfl, Below.refl _ _⟩
set_option maxRecDepth 100000 in
set_option maxHeartbeats 4000000 in
theorem bshort_some {ok : Nat → Prop} (b o cap : Nat) (ps : List Rp) (w : World) (hrg : w.rangeAt b o (rcs ps)) (hrw : ∀ p ∈ ps, RwP ok w p) :
    Calls Tryz.prog 18 #[.slice (some ⟨b, o, none⟩) ps.length cap] w fun e w' => e = .returned (.bool (shL (rcl ps))) ∧ Below w.heap.size w w' := by
  have HR := hide hrg
  have HW := hide hrw
  clear hrg hrw
  by_cases h80 : 80 < ps.length
  · have h80' : (80 : Int) < (ps.length : Int) := by omega
    rw [shL_long (by rw [rcl_len]; exact h80)]
    go_enter Tryz.func18, Tryz.ntmps18
    go_wp2_with fail
    go_ret
    exact ⟨rfl, Below.refl _ _⟩
  · have h80' : ¬ (80 : Int) < (ps.length : Int) := by omega
    go_enter Tryz.func18, Tryz.ntmps18
    go_wp2_with fail
    go_loopw [3] (fun i wr => ∃ j : Nat, j ≤ ps.length ∧ i = .int .i64 (j : Int) ∧ ((rcl ps).take j).all shB = true ∧ Below w.heap.size w wr) (fun i _ => ps.length - (intOf i).toNat)
    case atStart => exact ⟨0, Nat.zero_le _, rfl, rfl, Below.refl _ _⟩
    case round =>
      obtain ⟨j, hj, rfl, hall, hb⟩ := hrel
      have HA := hide hall
      have HB := hide hb
      clear hall hb
      by_cases hlt : j < ps.length
      · have hltI : (j : Int) < (ps.length : Int) := by omega
        have HE := hide (range_bel (range_at HR.out hlt) HB.out)
        have HP := hide ((HW.out _ (List.getElem_mem hlt)).below HB.out)
        have hlr : j < (rcl ps).length := by rw [rcl_len]; exact hlt
        have hpj : (rcl ps)[j] = ps[j].1 := by simp [rcl]
        have HN := hide (fun h => shL_no hlr (by rw [hpj]; exact h))
        have HT := hide (fun h => all_take hlr HA.out (by rw [hpj]; exact h))
        have HS := hide (short_any _ _ wr HP.out.is)
        clear hpj
        generalize ps[j] = p at *
        cases hs : shB p.1 with
        | true =>
          rw [hs] at HS
          go_wp2_with (first | (refine wpList_load_mid rfl _ _ rfl _ _ rfl _ _ HE.out Tryz.underlying35 rfl (by kernel_rfl) ?_) | (go_at_call 61; refine HS.out.mono ?_; rintro e w1 ⟨rfl, hb1⟩; have HB1 := hide (HB.out.trans (hb1.mono HB.out.size)); clear hb1))
          go_roundw
          case rel => exact ⟨j + 1, by omega, by go_num, HT.out hs, HB1.out⟩
          case measure => simp [intOf]; omega
        | false =>
          rw [hs] at HS
          go_wp2_with (first | (refine wpList_load_mid rfl _ _ rfl _ _ rfl _ _ HE.out Tryz.underlying35 rfl (by kernel_rfl) ?_) | (go_at_call 61; refine HS.out.mono ?_; rintro e w1 ⟨rfl, hb1⟩; have HB1 := hide (HB.out.trans (hb1.mono HB.out.size)); clear hb1))
          go_ret
          exact ⟨ret_b (HN.out hs), HB1.out⟩
      · obtain rfl : j = ps.length := by omega
        have hsh : shL (rcl ps) = true := by
          have := HA.out
          rw [← rcl_len, List.take_length] at this
          unfold shL
          rw [this, rcl_len, decide_eq_true (by omega)]
          rfl
        clear hlt
        go_wp2_with fail
        go_ret
        exact ⟨ret_b hsh, HB.out⟩
theorem bshort_any {okb ok : Nat → Prop} (v : Value) (ps : List Rp) (w : World) (hv : Rl okb ok w v ps) : Calls Tryz.prog 18 #[v] w fun e w' => e = .returned (.bool (shL (rcl ps))) ∧ Below w.heap.size w w' := by
  obtain ⟨h1, h2⟩ := hv
  rcases h1 with ⟨ao, cap, rfl, rfl⟩ | ⟨b, o, cap, rfl, _, _, _, h3⟩
  · exact bshort_none ao cap w
  · exact bshort_some b o cap ps w h3 h2
end Go.Proofs.YtgbcjmpnkejpeaaGreatDoor
