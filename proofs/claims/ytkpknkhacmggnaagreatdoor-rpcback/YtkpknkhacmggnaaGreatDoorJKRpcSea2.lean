/-
  WHETHER TWO MESSAGES ARE THE SAME (rpc.sameNumbers, rpc.Same): what the mathematics says. Conditions: their slices' cells hold what they hold, the records' rows are not too long, bytes are bytes.
  ARE RECORDS NO MORE THAN IS WAITED FOR (castellanref06.Short)? Conditions: the records' cells hold them.
-/
import Derived.Test.YtkpknkhacmggnaaGreatDoorJKRpcCk
import Derived.Test.YtkpknkhacmggnaaGreatDoorJKWputba5
import Derived.Test.YtkpknkhacmggnaaGreatDoorJKBatMa3
namespace Go.Proofs.YtkpknkhacmggnaaGreatDoor
open Go.RowKit

theorem Bl.rg {w : World} {ao : Option Addr} {n cap : Nat} {qs : List Bq} (h : Bl w (.slice ao n cap) qs) : 0 < qs.length → ∃ b o, ao = some ⟨b, o, none⟩ ∧ w.rangeAt b o (bcs qs) := fun hp => by
  rcases h.1 with ⟨_, _, rfl, _⟩ | ⟨b, o, cap', e, _, _, h3⟩
  · simp at hp
  · cases e; exact ⟨b, o, rfl, h3⟩
theorem eqb_len (ao bo : Option Addr) (L M cap cap' : Nat) (w : World) (h : ¬ L = M) : Calls Tryz.prog 39 #[.slice ao L cap, .slice bo M cap', .func (.func 40) #[] #[]] w fun e w' => e = .returned (.bool false) ∧ Below w.heap.size w w' := by
  have hI : ¬ (L : Int) = (M : Int) := by omega
  go_enter Tryz.func39, Tryz.ntmps39
  go_wp2_with fail
  go_ret
  exact ⟨rfl, Below.refl _ _⟩
set_option maxRecDepth 100000 in
set_option maxHeartbeats 4000000 in
theorem eqb_none (ao bo : Option Addr) (cap cap' : Nat) (w : World) : Calls Tryz.prog 39 #[.slice ao 0 cap, .slice bo 0 cap', .func (.func 40) #[] #[]] w fun e w' => e = .returned (.bool true) ∧ Below w.heap.size w w' := by
  go_enter Tryz.func39, Tryz.ntmps39
  go_wp2_with fail
  refine wp_loop_rounds 1 ?_
  rw [rounds_succ]
  go_wp2_with fail
  go_ret
  exact ⟨rfl, Below.refl _ _⟩
set_option maxRecDepth 100000 in
set_option maxHeartbeats 16000000 in
theorem eqb_some (b o cap b' o' cap' : Nat) (ps qs : List Bq) (w : World) (hl : ps.length = qs.length) (hn : ps.length ≤ 100000) (hrg : w.rangeAt b o (bcs ps)) (hrw : ∀ p ∈ ps, Rl (fun _ => True) (fun _ => True) w p.u p.ps) (hrg' : w.rangeAt b' o' (bcs qs)) (hrw' : ∀ p ∈ qs, Rl (fun _ => True) (fun _ => True) w p.u p.ps) (hln : ∀ p ∈ ps, (btq p).rs.length ≤ 100000 ∧ ∀ r ∈ (btq p).rs, LnR r) :
    Calls Tryz.prog 39 #[.slice (some ⟨b, o, none⟩) ps.length cap, .slice (some ⟨b', o', none⟩) qs.length cap', .func (.func 40) #[] #[]] w fun e w' => e = .returned (.bool (sameBs (bts ps) (bts qs))) ∧ Below w.heap.size w w' := by
  have HR := hide hrg
  have HW := hide hrw
  have HR' := hide hrg'
  have HW' := hide hrw'
  have HL := hide hln
  clear hrg hrw hrg' hrw' hln
  rw [← hl]
  have HLE := hide hl
  clear hl
  go_enter Tryz.func39, Tryz.ntmps39
  go_wp2_with fail
  go_loopw [17] (fun i wr => ∃ j : Nat, j ≤ ps.length ∧ i = .int .i64 (j : Int) ∧ (∀ i, i < j → sameBt ((bts ps).getD i Bt.zero) ((bts qs).getD i Bt.zero) = true) ∧ Below w.heap.size w wr) (fun i _ => ps.length - (intOf i).toNat)
  case atStart => exact ⟨0, Nat.zero_le _, rfl, fun i hi => by omega, Below.refl _ _⟩
  case round =>
    obtain ⟨j, hj, rfl, hall, hb⟩ := hrel
    have HA := hide hall
    have HB := hide hb
    clear hall hb
    by_cases hlt : j < ps.length
    · have hlt' : j < qs.length := by have := HLE.out; omega
      have hltI : (j : Int) < (ps.length : Int) := by omega
      have HE := hide (range_bel (brange_at HR.out hlt) HB.out)
      have HE' := hide (range_bel (brange_at HR'.out hlt') HB.out)
      have HP := hide (HW.out _ (List.getElem_mem hlt))
      have HP' := hide (HW'.out _ (List.getElem_mem hlt'))
      have HX := hide (HL.out _ (List.getElem_mem hlt))
      have HN := hide (fun h => sameBs_no hlt hlt' h)
      have HK : Hid (sameBt (btq ps[j]) (btq qs[j]) = true → ∀ i, i < j + 1 → sameBt ((bts ps).getD i Bt.zero) ((bts qs).getD i Bt.zero) = true) := hide (fun h i hi => by
        by_cases e : i = j
        · subst e; rw [bts_at hlt, bts_at hlt']; exact h
        · exact HA.out i (by omega))
      have HTN := hide (there_newB wr)
      generalize ps[j] = p at *
      generalize qs[j] = q at *
      have HOC := hide (bce_all HP.out.form3)
      go_upto_region 6 with (first | (refine wpList_load_mid rfl _ _ rfl _ _ rfl _ _ HE.out Tryz.underlying55 rfl (by kernel_rfl) ?_) | (refine wpList_store_mid rfl _ _ _ rfl wr.heap.size 0 (bce p).toArray rfl rfl HTN.out (by kernel_rfl) HOC.out ?_))
      obtain ⟨V, hV⟩ : ∃ V, V = (wr.alloc (.cells #[.int .i64 0, .int .i64 0, .slice none 0 0] 55)).setCells wr.heap.size 0 (bce p) := ⟨_, rfl⟩
      obtain ⟨hbV, hrV, hzV⟩ := laidB wr p hV
      have HRV := hide hrV
      have HBV := hide (HB.out.trans (hbV.mono HB.out.size))
      have HEV := hide (range_bel HE'.out hbV)
      have HTV := hide (there_newB V)
      clear HOC
      have HOC := hide (bce_all HP'.out.form3)
      rw [← hV]
      clear hV hrV hbV hzV HTN HE HB
      go_upto_region 7 with (first | (refine wpList_load_mid rfl _ _ rfl _ _ rfl _ _ HEV.out Tryz.underlying55 rfl (by kernel_rfl) ?_) | (refine wpList_store_mid rfl _ _ _ rfl V.heap.size 0 (bce q).toArray rfl rfl HTV.out (by kernel_rfl) HOC.out ?_))
      obtain ⟨U, hU⟩ : ∃ U, U = (V.alloc (.cells #[.int .i64 0, .int .i64 0, .slice none 0 0] 55)).setCells V.heap.size 0 (bce q) := ⟨_, rfl⟩
      obtain ⟨hbU, hrU, _⟩ := laidB V q hU
      have HRU := hide hrU
      have HRV2 := hide (range_bel HRV.out hbU)
      have HBU := hide (HBV.out.trans (hbU.mono HBV.out.size))
      rw [← hU]
      clear hU hrU hbU HTV HEV HRV
      have HC := hide (bsame_any (okb := fun _ => True) (ok := fun _ => True) (okb' := fun _ => True) (ok' := fun _ => True) (btq p) (btq q) (.agg (bce p).toArray) (.agg (bce q).toArray) U ⟨p.u, p.ps, rfl, HP.out.below HBU.out, rfl⟩ ⟨q.u, q.ps, rfl, HP'.out.below HBU.out, rfl⟩ HX.out.1 HX.out.2)
      clear HP HP' HX HW HW' HR HR' HL HE'
      cases hs : sameBt (btq p) (btq q) with
      | true =>
        rw [hs] at HC
        go_wp2_with (first | (refine wpList_load_mid rfl _ _ rfl _ _ rfl _ _ HRV2.out Tryz.underlying55 rfl (by kernel_rfl) ?_) | (refine wpList_load_mid rfl _ _ rfl _ _ rfl _ _ HRU.out Tryz.underlying55 rfl (by kernel_rfl) ?_) | (go_at_call 40; refine HC.out.mono ?_; rintro e w5 ⟨rfl, hb5⟩; have HB5 := hide (HBU.out.trans (hb5.mono HBU.out.size)); clear hb5))
        go_roundw
        case rel => exact ⟨j + 1, by omega, by go_num, HK.out hs, HB5.out⟩
        case measure => simp [intOf]; omega
      | false =>
        rw [hs] at HC
        go_wp2_with (first | (refine wpList_load_mid rfl _ _ rfl _ _ rfl _ _ HRV2.out Tryz.underlying55 rfl (by kernel_rfl) ?_) | (refine wpList_load_mid rfl _ _ rfl _ _ rfl _ _ HRU.out Tryz.underlying55 rfl (by kernel_rfl) ?_) | (go_at_call 40; refine HC.out.mono ?_; rintro e w5 ⟨rfl, hb5⟩; have HB5 := hide (HBU.out.trans (hb5.mono HBU.out.size)); clear hb5))
        go_ret
        exact ⟨ret_b (HN.out hs), HB5.out⟩
    · obtain rfl : j = ps.length := by omega
      have hf := sameBs_yes HLE.out HA.out
      clear hlt HR HR' HW HW' HL
      go_wp2_with fail
      go_ret
      exact ⟨ret_b hf, HB.out⟩
theorem eqb_any (ao bo : Option Addr) (cap cap' : Nat) (ps qs : List Bq) (w : World) (hv : Bl w (.slice ao ps.length cap) ps) (hu : Bl w (.slice bo qs.length cap') qs) (hn : ps.length ≤ 100000) (hln : ∀ p ∈ ps, (btq p).rs.length ≤ 100000 ∧ ∀ r ∈ (btq p).rs, LnR r) :
    Calls Tryz.prog 39 #[.slice ao ps.length cap, .slice bo qs.length cap', .func (.func 40) #[] #[]] w fun e w' => e = .returned (.bool (sameBs (bts ps) (bts qs))) ∧ Below w.heap.size w w' := by
  by_cases hl : ps.length = qs.length
  · by_cases h0 : 0 < ps.length
    · obtain ⟨b, o, rfl, h1⟩ := hv.rg h0
      obtain ⟨b', o', rfl, h2⟩ := hu.rg (by omega)
      exact eqb_some b o cap b' o' cap' ps qs w hl hn h1 hv.2 h2 hu.2 hln
    · have e1 : ps = [] := List.length_eq_zero_iff.1 (by omega)
      have e2 : qs = [] := List.length_eq_zero_iff.1 (by omega)
      subst e1 e2
      exact eqb_none ao bo cap cap' w
  · rw [sameBs_len (by rw [bts_len, bts_len]; exact hl)]
    exact eqb_len ao bo _ _ cap cap' w hl
theorem beq_any (v u : Value) (l m : List Int) (w : World) (hv : Sl bc w v l) (hu : Sl bc w u m) (hl : Byt l) (hm : Byt m) : Calls Tryz.prog 38 #[v, u] w fun e w' => e = .returned (.bool (decide (l = m))) ∧ w' = w := by
  have h1 := str_of hv hl
  have h2 := str_of hu hm
  have HE : Hid (((bs l) == (bs m)) = decide (l = m)) := hide (by
    by_cases h : l = m
    · subst h; simp
    · rw [decide_eq_false h]
      have : ¬ bs l = bs m := fun e => h (by rw [← sb_bs hl, e, sb_bs hm])
      simpa using this)
  obtain ⟨ao, cap, rfl⟩ := hv.form
  obtain ⟨bo, cap', rfl⟩ := hu.form
  clear hv hu hl hm
  generalize bs l = S at *
  generalize bs m = S' at *
  rw [← HE.out]
  clear HE
  cases e : (S == S')
  all_goals
    go_enter Tryz.func38, Tryz.ntmps38
    go_wp2_with fail
    go_ret
    exact ⟨by simp_all, rfl⟩
/-- Two messages in new cells. -/
theorem two_in (w : World) (xs ys : List Value) {X : World} (hX : X = (w.alloc (.cells xs.toArray 25)).alloc (.cells ys.toArray 25)) : Below w.heap.size w X ∧ X.rangeAt w.heap.size 0 xs ∧ X.rangeAt (w.heap.size + 1) 0 ys := by
  subst hX
  have h1 := range_new w xs 25
  have h2 := range_new (w.alloc (.cells xs.toArray 25)) ys 25
  have hb : Below w.heap.size w (w.alloc (.cells xs.toArray 25)) := (Below.refl _ _).alloc (Nat.le_refl _) _
  refine ⟨hb.alloc (by simp) _, range_bel h1 ((Below.refl _ _).alloc (Nat.le_refl _) _), ?_⟩
  rwa [show (w.alloc (.cells xs.toArray 25)).heap.size = w.heap.size + 1 by simp] at h2
set_option maxRecDepth 100000 in
set_option maxHeartbeats 16000000 in
theorem msn_eq (k fr tn t ld pa pt hi co sz po : Int) (pre ok : Bool) (ab ad ab' ad' : Option Addr) (nb cb nd cd nb' cb' nd' cd' : Nat) (w : World) :
    Calls Tryz.prog 37 #[.agg #[.int .i64 k, .int .i64 fr, .int .i64 tn, .int .i64 t, .bool pre, .bool ok, .int .i64 ld, .int .i64 pa, .int .i64 pt, .int .i64 hi, .int .i64 co, .slice ab nb cb, .int .i64 sz, .int .i64 po, .slice ad nd cd], .agg #[.int .i64 k, .int .i64 fr, .int .i64 tn, .int .i64 t, .bool pre, .bool ok, .int .i64 ld, .int .i64 pa, .int .i64 pt, .int .i64 hi, .int .i64 co, .slice ab' nb' cb', .int .i64 sz, .int .i64 po, .slice ad' nd' cd']] w fun e w' => e = .returned (.bool true) ∧ Below w.heap.size w w' := by
  go_enter Tryz.func37, Tryz.ntmps37
  go_wp2_with fail
  go_ret
  exact ⟨rfl, ((Below.refl _ _).alloc (Nat.le_refl _) _).alloc (by simp) _⟩
set_option maxRecDepth 100000 in
set_option maxHeartbeats 16000000 in
theorem msame_ego (k fr tn t ld pa pt hi co sz po : Int) (pre ok : Bool) (ab ad ab' ad' : Option Addr) (nb cb nd cd nb' cb' nd' cd' : Nat) (w : World)
    (HSN : Hid (∀ W, Calls Tryz.prog 37 #[.agg #[.int .i64 k, .int .i64 fr, .int .i64 tn, .int .i64 t, .bool pre, .bool ok, .int .i64 ld, .int .i64 pa, .int .i64 pt, .int .i64 hi, .int .i64 co, .slice ab nb cb, .int .i64 sz, .int .i64 po, .slice ad nd cd], .agg #[.int .i64 k, .int .i64 fr, .int .i64 tn, .int .i64 t, .bool pre, .bool ok, .int .i64 ld, .int .i64 pa, .int .i64 pt, .int .i64 hi, .int .i64 co, .slice ab' nb' cb', .int .i64 sz, .int .i64 po, .slice ad' nd' cd']] W fun e w' => e = .returned (.bool true) ∧ Below W.heap.size W w'))
    (HBE : Hid (∀ W, Below w.heap.size w W → Calls Tryz.prog 38 #[.slice ad nd cd, .slice ad' nd' cd'] W fun e w' => e = .returned (.bool true) ∧ w' = W))
    (HEQ : Hid (∀ W, Below w.heap.size w W → Calls Tryz.prog 39 #[.slice ab nb cb, .slice ab' nb' cb', .func (.func 40) #[] #[]] W fun e w' => e = .returned (.bool true) ∧ Below W.heap.size W w')) :
    Calls Tryz.prog 13 #[.agg #[.int .i64 k, .int .i64 fr, .int .i64 tn, .int .i64 t, .bool pre, .bool ok, .int .i64 ld, .int .i64 pa, .int .i64 pt, .int .i64 hi, .int .i64 co, .slice ab nb cb, .int .i64 sz, .int .i64 po, .slice ad nd cd], .agg #[.int .i64 k, .int .i64 fr, .int .i64 tn, .int .i64 t, .bool pre, .bool ok, .int .i64 ld, .int .i64 pa, .int .i64 pt, .int .i64 hi, .int .i64 co, .slice ab' nb' cb', .int .i64 sz, .int .i64 po, .slice ad' nd' cd']] w fun e w' => e = .returned (.bool true) ∧ Below w.heap.size w w' := by
  obtain ⟨X, hX⟩ : ∃ X, X = (w.alloc (.cells #[.int .i64 k, .int .i64 fr, .int .i64 tn, .int .i64 t, .bool pre, .bool ok, .int .i64 ld, .int .i64 pa, .int .i64 pt, .int .i64 hi, .int .i64 co, .slice ab nb cb, .int .i64 sz, .int .i64 po, .slice ad nd cd] 25)).alloc (.cells #[.int .i64 k, .int .i64 fr, .int .i64 tn, .int .i64 t, .bool pre, .bool ok, .int .i64 ld, .int .i64 pa, .int .i64 pt, .int .i64 hi, .int .i64 co, .slice ab' nb' cb', .int .i64 sz, .int .i64 po, .slice ad' nd' cd'] 25) := ⟨_, rfl⟩
  obtain ⟨hb0, hqa, hqb⟩ := two_in w [.int .i64 k, .int .i64 fr, .int .i64 tn, .int .i64 t, .bool pre, .bool ok, .int .i64 ld, .int .i64 pa, .int .i64 pt, .int .i64 hi, .int .i64 co, .slice ab nb cb, .int .i64 sz, .int .i64 po, .slice ad nd cd] [.int .i64 k, .int .i64 fr, .int .i64 tn, .int .i64 t, .bool pre, .bool ok, .int .i64 ld, .int .i64 pa, .int .i64 pt, .int .i64 hi, .int .i64 co, .slice ab' nb' cb', .int .i64 sz, .int .i64 po, .slice ad' nd' cd'] hX
  have HB := hide hb0
  have HQA := hide hqa
  have HQB := hide hqb
  clear hb0 hqa hqb
  go_enter Tryz.func13, Tryz.ntmps13
  go_upto_region 1 with fail
  rw [← hX]
  clear hX
  obtain ⟨i0, i1, i2, i3, i4, i5, i6, i7, i8, i9, i10, i11, i12, i13, i14⟩ := C15.of HQA.out
  obtain ⟨j0, j1, j2, j3, j4, j5, j6, j7, j8, j9, j10, j11, j12, j13, j14⟩ := C15.of HQB.out
  go_wp2_with (first | (refine wpList_load_want (by go_simp) _ _ rfl _ _ rfl _ _ HQA.out Tryz.underlying25 rfl (by kernel_rfl) ?_) | (refine wpList_load_want (by go_simp) _ _ rfl _ _ rfl _ _ HQB.out Tryz.underlying25 rfl (by kernel_rfl) ?_) | (go_at_call 37; refine (HSN.out _).mono ?_; rintro e V ⟨rfl, hb1⟩; have HB1 := hide (HB.out.trans (hb1.mono HB.out.size)); have HA1 := C15.of (range_bel HQA.out hb1); have HB2 := C15.of (range_bel HQB.out hb1); clear hb1 i0 i1 i2 i3 i4 i5 i6 i7 i8 i9 i10 i11 i12 i13 i14 j0 j1 j2 j3 j4 j5 j6 j7 j8 j9 j10 j11 j12 j13 j14; obtain ⟨i0, i1, i2, i3, i4, i5, i6, i7, i8, i9, i10, i11, i12, i13, i14⟩ := HA1; obtain ⟨j0, j1, j2, j3, j4, j5, j6, j7, j8, j9, j10, j11, j12, j13, j14⟩ := HB2) | (go_at_call 38; refine (HBE.out _ HB1.out).mono ?_; rintro e w1 ⟨rfl, hw1⟩; rw [hw1]; clear hw1 w1) | (go_at_call 39; refine (HEQ.out _ HB1.out).mono ?_; rintro e V3 ⟨rfl, hb3⟩; have HB3 := hide (HB1.out.trans (hb3.mono HB1.out.size)); clear hb3))
  go_ret
  exact ⟨rfl, HB3.out⟩
set_option maxRecDepth 100000 in
set_option maxHeartbeats 16000000 in
theorem msame_kgo (k fr tn t ld pa pt hi co sz po k' fr' tn' t' ld' pa' pt' hi' co' sz' po' : Int) (pre ok pre' ok' : Bool) (ab ad ab' ad' : Option Addr) (nb cb nd cd nb' cb' nd' cd' : Nat) (w : World) (hk : (k == k') = false) :
    Calls Tryz.prog 13 #[.agg #[.int .i64 k, .int .i64 fr, .int .i64 tn, .int .i64 t, .bool pre, .bool ok, .int .i64 ld, .int .i64 pa, .int .i64 pt, .int .i64 hi, .int .i64 co, .slice ab nb cb, .int .i64 sz, .int .i64 po, .slice ad nd cd], .agg #[.int .i64 k', .int .i64 fr', .int .i64 tn', .int .i64 t', .bool pre', .bool ok', .int .i64 ld', .int .i64 pa', .int .i64 pt', .int .i64 hi', .int .i64 co', .slice ab' nb' cb', .int .i64 sz', .int .i64 po', .slice ad' nd' cd']] w fun e w' => e = .returned (.bool false) ∧ Below w.heap.size w w' := by
  obtain ⟨X, hX⟩ : ∃ X, X = (w.alloc (.cells #[.int .i64 k, .int .i64 fr, .int .i64 tn, .int .i64 t, .bool pre, .bool ok, .int .i64 ld, .int .i64 pa, .int .i64 pt, .int .i64 hi, .int .i64 co, .slice ab nb cb, .int .i64 sz, .int .i64 po, .slice ad nd cd] 25)).alloc (.cells #[.int .i64 k', .int .i64 fr', .int .i64 tn', .int .i64 t', .bool pre', .bool ok', .int .i64 ld', .int .i64 pa', .int .i64 pt', .int .i64 hi', .int .i64 co', .slice ab' nb' cb', .int .i64 sz', .int .i64 po', .slice ad' nd' cd'] 25) := ⟨_, rfl⟩
  obtain ⟨hb0, hqa, hqb⟩ := two_in w [.int .i64 k, .int .i64 fr, .int .i64 tn, .int .i64 t, .bool pre, .bool ok, .int .i64 ld, .int .i64 pa, .int .i64 pt, .int .i64 hi, .int .i64 co, .slice ab nb cb, .int .i64 sz, .int .i64 po, .slice ad nd cd] [.int .i64 k', .int .i64 fr', .int .i64 tn', .int .i64 t', .bool pre', .bool ok', .int .i64 ld', .int .i64 pa', .int .i64 pt', .int .i64 hi', .int .i64 co', .slice ab' nb' cb', .int .i64 sz', .int .i64 po', .slice ad' nd' cd'] hX
  have HB := hide hb0
  have HQA := hide hqa
  have HQB := hide hqb
  clear hb0 hqa hqb
  go_enter Tryz.func13, Tryz.ntmps13
  go_upto_region 1 with fail
  rw [← hX]
  clear hX
  obtain ⟨i0, i1, i2, i3, i4, i5, i6, i7, i8, i9, i10, i11, i12, i13, i14⟩ := C15.of HQA.out
  obtain ⟨j0, j1, j2, j3, j4, j5, j6, j7, j8, j9, j10, j11, j12, j13, j14⟩ := C15.of HQB.out
  go_wp2_with fail
  go_ret
  exact ⟨rfl, HB.out⟩
theorem msame_eq (a : Ms) (v u : Value) (w : World) (hv : IsM w v a) (hu : IsM w u a) (ha : Byt a.da) (hn : a.bs.length ≤ 100000) (hln : LnM a) : Calls Tryz.prog 13 #[v, u] w fun e w' => e = .returned (.bool true) ∧ Below w.heap.size w w' := by
  obtain ⟨ab, cb, ad, cd, qs, rfl, hm⟩ := isM_form hv
  obtain ⟨ab', cb', ad', cd', qs', rfl, hm'⟩ := isM_form hu
  have heq := fun W (h : Below w.heap.size w W) => eqb_any ab ab' cb cb' qs qs' W (by rw [hm.len]; exact hm.bl.below h) (by rw [hm'.len]; exact hm'.bl.below h) (by rw [hm.len]; exact hn) (fun p hp => hln (btq p) (by rw [← hm.bs]; exact List.mem_map.2 ⟨p, hp, rfl⟩))
  rw [hm.len, hm'.len, hm.bs, hm'.bs, sameBs_self] at heq
  have hbe := fun W (h : Below w.heap.size w W) => beq_any _ _ _ _ W (hm.da.below h) (hm'.da.below h) ha ha
  rw [decide_eq_true rfl] at hbe
  exact msame_ego a.k a.fr a.tn a.t a.ld a.pa a.pt a.hi a.co a.sz a.po a.pre a.ok ab ad ab' ad' _ cb _ cd _ cb' _ cd' w (hide (fun W => msn_eq _ _ _ _ _ _ _ _ _ _ _ _ _ _ _ _ _ _ _ _ _ _ _ _ _ W)) (hide hbe) (hide heq)
theorem msame_kind (a b : Ms) (v u : Value) (w : World) (hv : IsM w v a) (hu : IsM w u b) (hk : a.k ≠ b.k) : Calls Tryz.prog 13 #[v, u] w fun e w' => e = .returned (.bool false) ∧ Below w.heap.size w w' := by
  obtain ⟨ab, cb, ad, cd, qs, rfl, hm⟩ := isM_form hv
  obtain ⟨ab', cb', ad', cd', qs', rfl, hm'⟩ := isM_form hu
  exact msame_kgo a.k a.fr a.tn a.t a.ld a.pa a.pt a.hi a.co a.sz a.po b.k b.fr b.tn b.t b.ld b.pa b.pt b.hi b.co b.sz b.po a.pre a.ok b.pre b.ok ab ad ab' ad' _ cb _ cd _ cb' _ cd' w (by simpa using hk)
end Go.Proofs.YtkpknkhacmggnaaGreatDoor
namespace Go.Proofs.YtkpknkhacmggnaaGreatDoor
open Go.RowKit

set_option maxRecDepth 100000 in
set_option maxHeartbeats 4000000 in
theorem bshort_none (ao : Option Addr) (cap : Nat) (w : World) : Calls Tryz.prog 21 #[.slice ao 0 cap] w fun e w' => e = .returned (.bool true) ∧ Below w.heap.size w w' := by
  go_enter Tryz.func21, Tryz.ntmps21
  go_wp2_with fail
  refine wp_loop_rounds 1 ?_
  rw [rounds_succ]
  go_wp2_with fail
  go_ret
  exact ⟨rfl, Below.refl _ _⟩
set_option maxRecDepth 100000 in
set_option maxHeartbeats 4000000 in
theorem bshort_some {ok : Nat → Prop} (b o cap : Nat) (ps : List Rp) (w : World) (hrg : w.rangeAt b o (rcs ps)) (hrw : ∀ p ∈ ps, RwP ok w p) :
    Calls Tryz.prog 21 #[.slice (some ⟨b, o, none⟩) ps.length cap] w fun e w' => e = .returned (.bool (shL (rcl ps))) ∧ Below w.heap.size w w' := by
  have HR := hide hrg
  have HW := hide hrw
  clear hrg hrw
  by_cases h80 : 80 < ps.length
  · have h80' : (80 : Int) < (ps.length : Int) := by omega
    rw [shL_long (by rw [rcl_len]; exact h80)]
    go_enter Tryz.func21, Tryz.ntmps21
    go_wp2_with fail
    go_ret
    exact ⟨rfl, Below.refl _ _⟩
  · have h80' : ¬ (80 : Int) < (ps.length : Int) := by omega
    go_enter Tryz.func21, Tryz.ntmps21
    go_wp2_with fail
    go_loopw [3] (fun i wr => ∃ j : Nat, j ≤ ps.length ∧ i = .int .i64 (j : Int) ∧ ((rcl ps).take j).all shB = true ∧ Below w.heap.size w wr) (fun i _ => ps.length - (intOf i).toNat)
    case atStart => exact ⟨0, Nat.zero_le _, rfl, rfl, Below.refl _ _⟩
    case round =>
      obtain ⟨j, hj, rfl, hall, hb⟩ := hrel
      have HA := hide hall
      have HB := hide hb
      clear hall hb
      by_cases hlt : j < ps.length
      · have hltI : (j : Int) < (ps.length : Int) := by omega
        have HE := hide (range_bel (range_at HR.out hlt) HB.out)
        have HP := hide ((HW.out _ (List.getElem_mem hlt)).below HB.out)
        have hlr : j < (rcl ps).length := by rw [rcl_len]; exact hlt
        have hpj : (rcl ps)[j] = ps[j].1 := by simp [rcl]
        have HN := hide (fun h => shL_no hlr (by rw [hpj]; exact h))
        have HT := hide (fun h => all_take hlr HA.out (by rw [hpj]; exact h))
        have HS := hide (short_any _ _ wr HP.out.is)
        clear hpj
        generalize ps[j] = p at *
        cases hs : shB p.1 with
        | true =>
          rw [hs] at HS
          go_wp2_with (first | (refine wpList_load_mid rfl _ _ rfl _ _ rfl _ _ HE.out Tryz.underlying58 rfl (by kernel_rfl) ?_) | (go_at_call 58; refine HS.out.mono ?_; rintro e w1 ⟨rfl, hb1⟩; have HB1 := hide (HB.out.trans (hb1.mono HB.out.size)); clear hb1))
          go_roundw
          case rel => exact ⟨j + 1, by omega, by go_num, HT.out hs, HB1.out⟩
          case measure => simp [intOf]; omega
        | false =>
          rw [hs] at HS
          go_wp2_with (first | (refine wpList_load_mid rfl _ _ rfl _ _ rfl _ _ HE.out Tryz.underlying58 rfl (by kernel_rfl) ?_) | (go_at_call 58; refine HS.out.mono ?_; rintro e w1 ⟨rfl, hb1⟩; have HB1 := hide (HB.out.trans (hb1.mono HB.out.size)); clear hb1))
          go_ret
          exact ⟨ret_b (HN.out hs), HB1.out⟩
      · obtain rfl : j = ps.length := by omega
        have hsh : shL (rcl ps) = true := by
          have := HA.out
          rw [← rcl_len, List.take_length] at this
          unfold shL
          rw [this, rcl_len, decide_eq_true (by omega)]
          rfl
        clear hlt
        go_wp2_with fail
        go_ret
        exact ⟨ret_b hsh, HB.out⟩
theorem bshort_any {okb ok : Nat → Prop} (v : Value) (ps : List Rp) (w : World) (hv : Rl okb ok w v ps) : Calls Tryz.prog 21 #[v] w fun e w' => e = .returned (.bool (shL (rcl ps))) ∧ Below w.heap.size w w' := by
  obtain ⟨h1, h2⟩ := hv
  rcases h1 with ⟨ao, cap, rfl, rfl⟩ | ⟨b, o, cap, rfl, _, _, _, h3⟩
  · exact bshort_none ao cap w
  · exact bshort_some b o cap ps w h3 h2
end Go.Proofs.YtkpknkhacmggnaaGreatDoor
