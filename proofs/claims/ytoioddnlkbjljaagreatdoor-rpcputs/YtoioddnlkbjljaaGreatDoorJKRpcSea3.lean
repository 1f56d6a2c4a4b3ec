/-
  WHETHER TWO MESSAGES ARE THE SAME (rpc.sameNumbers, rpc.Same): what the mathematics says. Conditions: their slices' cells hold what they hold, the records' rows are not too long, bytes are bytes.
  WHETHER AN ERROR IS SUCH A ONE (castellanlaw07.wrong): it is, where it tells what is wrong. Condition: errors.errorType is laid.
  A BATCH AS BYTES, BY THE DOCUMENT (castellanref06.Bytes, Put): what the mathematics says. Conditions: the records' cells hold them; the batch may be.
-/
import Derived.Test.YtoioddnlkbjljaaGreatDoorJKRpcVa4
import Derived.Test.YtoioddnlkbjljaaGreatDoorJKFrameReca6
import Derived.Test.YtoioddnlkbjljaaGreatDoorJKRecChka2
import Derived.Deep.RegionHeld3
import Derived.Test.YtoioddnlkbjljaaGreatDoorJKRecBytba2
namespace Go.Proofs.YtoioddnlkbjljaaGreatDoor
open Go.RowKit

theorem Bl.rg {w : World} {ao : Option Addr} {n cap : Nat} {qs : List Bq} (h : Bl w (.slice ao n cap) qs) : 0 < qs.length → ∃ b o, ao = some ⟨b, o, none⟩ ∧ w.rangeAt b o (bcs qs) := fun hp => by
  rcases h.1 with ⟨_, _, rfl, _⟩ | ⟨b, o, cap', e, _, _, h3⟩
  · simp at hp
  · cases e; exact ⟨b, o, rfl, h3⟩
theorem eqb_len (ao bo : Option Addr) (L M cap cap' : Nat) (w : World) (h : ¬ L = M) : Calls Tryz.prog 45 #[.slice ao L cap, .slice bo M cap', .func (.func 46) #[] #[]] w fun e w' => e = .returned (.bool false) ∧ Below w.heap.size w w' := by
  have hI : ¬ (L : Int) = (M : Int) := by omega
  go_enter Tryz.func45, Tryz.ntmps45
  go_wp2_with fail
  go_ret
  exact ⟨rfl, Below.refl _ _⟩
set_option maxRecDepth 100000 in
set_option maxHeartbeats 4000000 in
theorem eqb_none (ao bo : Option Addr) (cap cap' : Nat) (w : World) : Calls Tryz.prog 45 #[.slice ao 0 cap, .slice bo 0 cap', .func (.func 46) #[] #[]] w fun e w' => e = .returned (.bool true) ∧ Below w.heap.size w w' := by
  go_enter Tryz.func45, Tryz.ntmps45
  go_wp2_with fail
  refine wp_loop_rounds 1 ?_
  rw [rounds_succ]
  go_wp2_with fail
  go_ret
  exact ⟨rfl, Below.refl _ _⟩
set_option maxRecDepth 100000 in
set_option maxHeartbeats 16000000 in
theorem eqb_some (b o cap b' o' cap' : Nat) (ps qs : List Bq) (w : World) (hl : ps.length = qs.length) (hn : ps.length ≤ 100000) (hrg : w.rangeAt b o (bcs ps)) (hrw : ∀ p ∈ ps, Rl (fun _ => True) (fun _ => True) w p.u p.ps) (hrg' : w.rangeAt b' o' (bcs qs)) (hrw' : ∀ p ∈ qs, Rl (fun _ => True) (fun _ => True) w p.u p.ps) (hln : ∀ p ∈ ps, (btq p).rs.length ≤ 100000 ∧ ∀ r ∈ (btq p).rs, LnR r) :
    Calls Tryz.prog 45 #[.slice (some ⟨b, o, none⟩) ps.length cap, .slice (some ⟨b', o', none⟩) qs.length cap', .func (.func 46) #[] #[]] w fun e w' => e = .returned (.bool (sameBs (bts ps) (bts qs))) ∧ Below w.heap.size w w' := by
  have HR := hide hrg
  have HW := hide hrw
  have HR' := hide hrg'
  have HW' := hide hrw'
  have HL := hide hln
  clear hrg hrw hrg' hrw' hln
  rw [← hl]
  have HLE := hide hl
  clear hl
  go_enter Tryz.func45, Tryz.ntmps45
  go_wp2_with fail
  go_loopw [17] (fun i wr => ∃ j : Nat, j ≤ ps.length ∧ i = .int .i64 (j : Int) ∧ (∀ i, i < j → sameBt ((bts ps).getD i Bt.zero) ((bts qs).getD i Bt.zero) = true) ∧ Below w.heap.size w wr) (fun i _ => ps.length - (intOf i).toNat)
  case atStart => exact ⟨0, Nat.zero_le _, rfl, fun i hi => by omega, Below.refl _ _⟩
  case round =>
    obtain ⟨j, hj, rfl, hall, hb⟩ := hrel
    have HA := hide hall
    have HB := hide hb
    clear hall hb
    by_cases hlt : j < ps.length
    · have hlt' : j < qs.length := by have := HLE.out; omega
      have hltI : (j : Int) < (ps.length : Int) := by omega
      have HE := hide (range_bel (brange_at HR.out hlt) HB.out)
      have HE' := hide (range_bel (brange_at HR'.out hlt') HB.out)
      have HP := hide (HW.out _ (List.getElem_mem hlt))
      have HP' := hide (HW'.out _ (List.getElem_mem hlt'))
      have HX := hide (HL.out _ (List.getElem_mem hlt))
      have HN := hide (fun h => sameBs_no hlt hlt' h)
      have HK : Hid (sameBt (btq ps[j]) (btq qs[j]) = true → ∀ i, i < j + 1 → sameBt ((bts ps).getD i Bt.zero) ((bts qs).getD i Bt.zero) = true) := hide (fun h i hi => by
        by_cases e : i = j
        · subst e; rw [bts_at hlt, bts_at hlt']; exact h
        · exact HA.out i (by omega))
      have HTN := hide (there_newB wr)
      generalize ps[j] = p at *
      generalize qs[j] = q at *
      have HOC := hide (bce_all HP.out.form3)
      go_upto_region 6 with (first | (refine wpList_load_mid rfl _ _ rfl _ _ rfl _ _ HE.out Tryz.underlying52 rfl (by kernel_rfl) ?_) | (refine wpList_store_mid rfl _ _ _ rfl wr.heap.size 0 (bce p).toArray rfl rfl HTN.out (by kernel_rfl) HOC.out ?_))
      obtain ⟨V, hV⟩ : ∃ V, V = (wr.alloc (.cells #[.int .i64 0, .int .i64 0, .slice none 0 0] 52)).setCells wr.heap.size 0 (bce p) := ⟨_, rfl⟩
      obtain ⟨hbV, hrV, hzV⟩ := laidB wr p hV
      have HRV := hide hrV
      have HBV := hide (HB.out.trans (hbV.mono HB.out.size))
      have HEV := hide (range_bel HE'.out hbV)
      have HTV := hide (there_newB V)
      clear HOC
      have HOC := hide (bce_all HP'.out.form3)
      rw [← hV]
      clear hV hrV hbV hzV HTN HE HB
      go_upto_region 7 with (first | (refine wpList_load_mid rfl _ _ rfl _ _ rfl _ _ HEV.out Tryz.underlying52 rfl (by kernel_rfl) ?_) | (refine wpList_store_mid rfl _ _ _ rfl V.heap.size 0 (bce q).toArray rfl rfl HTV.out (by kernel_rfl) HOC.out ?_))
      obtain ⟨U, hU⟩ : ∃ U, U = (V.alloc (.cells #[.int .i64 0, .int .i64 0, .slice none 0 0] 52)).setCells V.heap.size 0 (bce q) := ⟨_, rfl⟩
      obtain ⟨hbU, hrU, _⟩ := laidB V q hU
      have HRU := hide hrU
      have HRV2 := hide (range_bel HRV.out hbU)
      have HBU := hide (HBV.out.trans (hbU.mono HBV.out.size))
      rw [← hU]
      clear hU hrU hbU HTV HEV HRV
      have HC := hide (bsame_any (okb := fun _ => True) (ok := fun _ => True) (okb' := fun _ => True) (ok' := fun _ => True) (btq p) (btq q) (.agg (bce p).toArray) (.agg (bce q).toArray) U ⟨p.u, p.ps, rfl, HP.out.below HBU.out, rfl⟩ ⟨q.u, q.ps, rfl, HP'.out.below HBU.out, rfl⟩ HX.out.1 HX.out.2)
      clear HP HP' HX HW HW' HR HR' HL HE'
      cases hs : sameBt (btq p) (btq q) with
      | true =>
        rw [hs] at HC
        go_wp2_with (first | (refine wpList_load_mid rfl _ _ rfl _ _ rfl _ _ HRV2.out Tryz.underlying52 rfl (by kernel_rfl) ?_) | (refine wpList_load_mid rfl _ _ rfl _ _ rfl _ _ HRU.out Tryz.underlying52 rfl (by kernel_rfl) ?_) | (go_at_call 46; refine HC.out.mono ?_; rintro e w5 ⟨rfl, hb5⟩; have HB5 := hide (HBU.out.trans (hb5.mono HBU.out.size)); clear hb5))
        go_roundw
        case rel => exact ⟨j + 1, by omega, by go_num, HK.out hs, HB5.out⟩
        case measure => simp [intOf]; omega
      | false =>
        rw [hs] at HC
        go_wp2_with (first | (refine wpList_load_mid rfl _ _ rfl _ _ rfl _ _ HRV2.out Tryz.underlying52 rfl (by kernel_rfl) ?_) | (refine wpList_load_mid rfl _ _ rfl _ _ rfl _ _ HRU.out Tryz.underlying52 rfl (by kernel_rfl) ?_) | (go_at_call 46; refine HC.out.mono ?_; rintro e w5 ⟨rfl, hb5⟩; have HB5 := hide (HBU.out.trans (hb5.mono HBU.out.size)); clear hb5))
        go_ret
        exact ⟨ret_b (HN.out hs), HB5.out⟩
    · obtain rfl : j = ps.length := by omega
      have hf := sameBs_yes HLE.out HA.out
      clear hlt HR HR' HW HW' HL
      go_wp2_with fail
      go_ret
      exact ⟨ret_b hf, HB.out⟩
theorem eqb_any (ao bo : Option Addr) (cap cap' : Nat) (ps qs : List Bq) (w : World) (hv : Bl w (.slice ao ps.length cap) ps) (hu : Bl w (.slice bo qs.length cap') qs) (hn : ps.length ≤ 100000) (hln : ∀ p ∈ ps, (btq p).rs.length ≤ 100000 ∧ ∀ r ∈ (btq p).rs, LnR r) :
    Calls Tryz.prog 45 #[.slice ao ps.length cap, .slice bo qs.length cap', .func (.func 46) #[] #[]] w fun e w' => e = .returned (.bool (sameBs (bts ps) (bts qs))) ∧ Below w.heap.size w w' := by
  by_cases hl : ps.length = qs.length
  · by_cases h0 : 0 < ps.length
    · obtain ⟨b, o, rfl, h1⟩ := hv.rg h0
      obtain ⟨b', o', rfl, h2⟩ := hu.rg (by omega)
      exact eqb_some b o cap b' o' cap' ps qs w hl hn h1 hv.2 h2 hu.2 hln
    · have e1 : ps = [] := List.length_eq_zero_iff.1 (by omega)
      have e2 : qs = [] := List.length_eq_zero_iff.1 (by omega)
      subst e1 e2
      exact eqb_none ao bo cap cap' w
  · rw [sameBs_len (by rw [bts_len, bts_len]; exact hl)]
    exact eqb_len ao bo _ _ cap cap' w hl
theorem beq_any (v u : Value) (l m : List Int) (w : World) (hv : Sl bc w v l) (hu : Sl bc w u m) (hl : Byt l) (hm : Byt m) : Calls Tryz.prog 44 #[v, u] w fun e w' => e = .returned (.bool (decide (l = m))) ∧ w' = w := by
  have h1 := str_of hv hl
  have h2 := str_of hu hm
  have HE : Hid (((bs l) == (bs m)) = decide (l = m)) := hide (by
    by_cases h : l = m
    · subst h; simp
    · rw [decide_eq_false h]
      have : ¬ bs l = bs m := fun e => h (by rw [← sb_bs hl, e, sb_bs hm])
      simpa using this)
  obtain ⟨ao, cap, rfl⟩ := hv.form
  obtain ⟨bo, cap', rfl⟩ := hu.form
  clear hv hu hl hm
  generalize bs l = S at *
  generalize bs m = S' at *
  rw [← HE.out]
  clear HE
  cases e : (S == S')
  all_goals
    go_enter Tryz.func44, Tryz.ntmps44
    go_wp2_with fail
    go_ret
    exact ⟨by simp_all, rfl⟩
/-- Two messages in new cells. -/
theorem two_in (w : World) (xs ys : List Value) {X : World} (hX : X = (w.alloc (.cells xs.toArray 25)).alloc (.cells ys.toArray 25)) : Below w.heap.size w X ∧ X.rangeAt w.heap.size 0 xs ∧ X.rangeAt (w.heap.size + 1) 0 ys := by
  subst hX
  have h1 := range_new w xs 25
  have h2 := range_new (w.alloc (.cells xs.toArray 25)) ys 25
  have hb : Below w.heap.size w (w.alloc (.cells xs.toArray 25)) := (Below.refl _ _).alloc (Nat.le_refl _) _
  refine ⟨hb.alloc (by simp) _, range_bel h1 ((Below.refl _ _).alloc (Nat.le_refl _) _), ?_⟩
  rwa [show (w.alloc (.cells xs.toArray 25)).heap.size = w.heap.size + 1 by simp] at h2
set_option maxRecDepth 100000 in
set_option maxHeartbeats 16000000 in
theorem msn_eq (k fr tn t ld pa pt hi co sz po : Int) (pre ok : Bool) (ab ad ab' ad' : Option Addr) (nb cb nd cd nb' cb' nd' cd' : Nat) (w : World) :
    Calls Tryz.prog 43 #[.agg #[.int .i64 k, .int .i64 fr, .int .i64 tn, .int .i64 t, .bool pre, .bool ok, .int .i64 ld, .int .i64 pa, .int .i64 pt, .int .i64 hi, .int .i64 co, .slice ab nb cb, .int .i64 sz, .int .i64 po, .slice ad nd cd], .agg #[.int .i64 k, .int .i64 fr, .int .i64 tn, .int .i64 t, .bool pre, .bool ok, .int .i64 ld, .int .i64 pa, .int .i64 pt, .int .i64 hi, .int .i64 co, .slice ab' nb' cb', .int .i64 sz, .int .i64 po, .slice ad' nd' cd']] w fun e w' => e = .returned (.bool true) ∧ Below w.heap.size w w' := by
  go_enter Tryz.func43, Tryz.ntmps43
  go_wp2_with fail
  go_ret
  exact ⟨rfl, ((Below.refl _ _).alloc (Nat.le_refl _) _).alloc (by simp) _⟩
set_option maxRecDepth 100000 in
set_option maxHeartbeats 16000000 in
theorem msame_ego (k fr tn t ld pa pt hi co sz po : Int) (pre ok : Bool) (ab ad ab' ad' : Option Addr) (nb cb nd cd nb' cb' nd' cd' : Nat) (w : World)
    (HSN : Hid (∀ W, Calls Tryz.prog 43 #[.agg #[.int .i64 k, .int .i64 fr, .int .i64 tn, .int .i64 t, .bool pre, .bool ok, .int .i64 ld, .int .i64 pa, .int .i64 pt, .int .i64 hi, .int .i64 co, .slice ab nb cb, .int .i64 sz, .int .i64 po, .slice ad nd cd], .agg #[.int .i64 k, .int .i64 fr, .int .i64 tn, .int .i64 t, .bool pre, .bool ok, .int .i64 ld, .int .i64 pa, .int .i64 pt, .int .i64 hi, .int .i64 co, .slice ab' nb' cb', .int .i64 sz, .int .i64 po, .slice ad' nd' cd']] W fun e w' => e = .returned (.bool true) ∧ Below W.heap.size W w'))
    (HBE : Hid (∀ W, Below w.heap.size w W → Calls Tryz.prog 44 #[.slice ad nd cd, .slice ad' nd' cd'] W fun e w' => e = .returned (.bool true) ∧ w' = W))
    (HEQ : Hid (∀ W, Below w.heap.size w W → Calls Tryz.prog 45 #[.slice ab nb cb, .slice ab' nb' cb', .func (.func 46) #[] #[]] W fun e w' => e = .returned (.bool true) ∧ Below W.heap.size W w')) :
    Calls Tryz.prog 15 #[.agg #[.int .i64 k, .int .i64 fr, .int .i64 tn, .int .i64 t, .bool pre, .bool ok, .int .i64 ld, .int .i64 pa, .int .i64 pt, .int .i64 hi, .int .i64 co, .slice ab nb cb, .int .i64 sz, .int .i64 po, .slice ad nd cd], .agg #[.int .i64 k, .int .i64 fr, .int .i64 tn, .int .i64 t, .bool pre, .bool ok, .int .i64 ld, .int .i64 pa, .int .i64 pt, .int .i64 hi, .int .i64 co, .slice ab' nb' cb', .int .i64 sz, .int .i64 po, .slice ad' nd' cd']] w fun e w' => e = .returned (.bool true) ∧ Below w.heap.size w w' := by
  obtain ⟨X, hX⟩ : ∃ X, X = (w.alloc (.cells #[.int .i64 k, .int .i64 fr, .int .i64 tn, .int .i64 t, .bool pre, .bool ok, .int .i64 ld, .int .i64 pa, .int .i64 pt, .int .i64 hi, .int .i64 co, .slice ab nb cb, .int .i64 sz, .int .i64 po, .slice ad nd cd] 25)).alloc (.cells #[.int .i64 k, .int .i64 fr, .int .i64 tn, .int .i64 t, .bool pre, .bool ok, .int .i64 ld, .int .i64 pa, .int .i64 pt, .int .i64 hi, .int .i64 co, .slice ab' nb' cb', .int .i64 sz, .int .i64 po, .slice ad' nd' cd'] 25) := ⟨_, rfl⟩
  obtain ⟨hb0, hqa, hqb⟩ := two_in w [.int .i64 k, .int .i64 fr, .int .i64 tn, .int .i64 t, .bool pre, .bool ok, .int .i64 ld, .int .i64 pa, .int .i64 pt, .int .i64 hi, .int .i64 co, .slice ab nb cb, .int .i64 sz, .int .i64 po, .slice ad nd cd] [.int .i64 k, .int .i64 fr, .int .i64 tn, .int .i64 t, .bool pre, .bool ok, .int .i64 ld, .int .i64 pa, .int .i64 pt, .int .i64 hi, .int .i64 co, .slice ab' nb' cb', .int .i64 sz, .int .i64 po, .slice ad' nd' cd'] hX
  have HB := hide hb0
  have HQA := hide hqa
  have HQB := hide hqb
  clear hb0 hqa hqb
  go_enter Tryz.func15, Tryz.ntmps15
  go_upto_region 1 with fail
  rw [← hX]
  clear hX
  obtain ⟨i0, i1, i2, i3, i4, i5, i6, i7, i8, i9, i10, i11, i12, i13, i14⟩ := C15.of HQA.out
  obtain ⟨j0, j1, j2, j3, j4, j5, j6, j7, j8, j9, j10, j11, j12, j13, j14⟩ := C15.of HQB.out
  go_wp2_with (first | (refine wpList_load_want (by go_simp) _ _ rfl _ _ rfl _ _ HQA.out Tryz.underlying25 rfl (by kernel_rfl) ?_) | (refine wpList_load_want (by go_simp) _ _ rfl _ _ rfl _ _ HQB.out Tryz.underlying25 rfl (by kernel_rfl) ?_) | (go_at_call 43; refine (HSN.out _).mono ?_; rintro e V ⟨rfl, hb1⟩; have HB1 := hide (HB.out.trans (hb1.mono HB.out.size)); have HA1 := C15.of (range_bel HQA.out hb1); have HB2 := C15.of (range_bel HQB.out hb1); clear hb1 i0 i1 i2 i3 i4 i5 i6 i7 i8 i9 i10 i11 i12 i13 i14 j0 j1 j2 j3 j4 j5 j6 j7 j8 j9 j10 j11 j12 j13 j14; obtain ⟨i0, i1, i2, i3, i4, i5, i6, i7, i8, i9, i10, i11, i12, i13, i14⟩ := HA1; obtain ⟨j0, j1, j2, j3, j4, j5, j6, j7, j8, j9, j10, j11, j12, j13, j14⟩ := HB2) | (go_at_call 44; refine (HBE.out _ HB1.out).mono ?_; rintro e w1 ⟨rfl, hw1⟩; rw [hw1]; clear hw1 w1) | (go_at_call 45; refine (HEQ.out _ HB1.out).mono ?_; rintro e V3 ⟨rfl, hb3⟩; have HB3 := hide (HB1.out.trans (hb3.mono HB1.out.size)); clear hb3))
  go_ret
  exact ⟨rfl, HB3.out⟩
set_option maxRecDepth 100000 in
set_option maxHeartbeats 16000000 in
theorem msame_kgo (k fr tn t ld pa pt hi co sz po k' fr' tn' t' ld' pa' pt' hi' co' sz' po' : Int) (pre ok pre' ok' : Bool) (ab ad ab' ad' : Option Addr) (nb cb nd cd nb' cb' nd' cd' : Nat) (w : World) (hk : (k == k') = false) :
    Calls Tryz.prog 15 #[.agg #[.int .i64 k, .int .i64 fr, .int .i64 tn, .int .i64 t, .bool pre, .bool ok, .int .i64 ld, .int .i64 pa, .int .i64 pt, .int .i64 hi, .int .i64 co, .slice ab nb cb, .int .i64 sz, .int .i64 po, .slice ad nd cd], .agg #[.int .i64 k', .int .i64 fr', .int .i64 tn', .int .i64 t', .bool pre', .bool ok', .int .i64 ld', .int .i64 pa', .int .i64 pt', .int .i64 hi', .int .i64 co', .slice ab' nb' cb', .int .i64 sz', .int .i64 po', .slice ad' nd' cd']] w fun e w' => e = .returned (.bool false) ∧ Below w.heap.size w w' := by
  obtain ⟨X, hX⟩ : ∃ X, X = (w.alloc (.cells #[.int .i64 k, .int .i64 fr, .int .i64 tn, .int .i64 t, .bool pre, .bool ok, .int .i64 ld, .int .i64 pa, .int .i64 pt, .int .i64 hi, .int .i64 co, .slice ab nb cb, .int .i64 sz, .int .i64 po, .slice ad nd cd] 25)).alloc (.cells #[.int .i64 k', .int .i64 fr', .int .i64 tn', .int .i64 t', .bool pre', .bool ok', .int .i64 ld', .int .i64 pa', .int .i64 pt', .int .i64 hi', .int .i64 co', .slice ab' nb' cb', .int .i64 sz', .int .i64 po', .slice ad' nd' cd'] 25) := ⟨_, rfl⟩
  obtain ⟨hb0, hqa, hqb⟩ := two_in w [.int .i64 k, .int .i64 fr, .int .i64 tn, .int .i64 t, .bool pre, .bool ok, .int .i64 ld, .int .i64 pa, .int .i64 pt, .int .i64 hi, .int .i64 co, .slice ab nb cb, .int .i64 sz, .int .i64 po, .slice ad nd cd] [.int .i64 k', .int .i64 fr', .int .i64 tn', .int .i64 t', .bool pre', .bool ok', .int .i64 ld', .int .i64 pa', .int .i64 pt', .int .i64 hi', .int .i64 co', .slice ab' nb' cb', .int .i64 sz', .int .i64 po', .slice ad' nd' cd'] hX
  have HB := hide hb0
  have HQA := hide hqa
  have HQB := hide hqb
  clear hb0 hqa hqb
  go_enter Tryz.func15, Tryz.ntmps15
  go_upto_region 1 with fail
  rw [← hX]
  clear hX
  obtain ⟨i0, i1, i2, i3, i4, i5, i6, i7, i8, i9, i10, i11, i12, i13, i14⟩ := C15.of HQA.out
  obtain ⟨j0, j1, j2, j3, j4, j5, j6, j7, j8, j9, j10, j11, j12, j13, j14⟩ := C15.of HQB.out
  go_wp2_with fail
  go_ret
  exact ⟨rfl, HB.out⟩
theorem msame_eq (a : Ms) (v u : Value) (w : World) (hv : IsM w v a) (hu : IsM w u a) (ha : Byt a.da) (hn : a.bs.length ≤ 100000) (hln : LnM a) : Calls Tryz.prog 15 #[v, u] w fun e w' => e = .returned (.bool true) ∧ Below w.heap.size w w' := by
  obtain ⟨ab, cb, ad, cd, qs, rfl, hm⟩ := isM_form hv
  obtain ⟨ab', cb', ad', cd', qs', rfl, hm'⟩ := isM_form hu
  have heq := fun W (h : Below w.heap.size w W) => eqb_any ab ab' cb cb' qs qs' W (by rw [hm.len]; exact hm.bl.below h) (by rw [hm'.len]; exact hm'.bl.below h) (by rw [hm.len]; exact hn) (fun p hp => hln (btq p) (by rw [← hm.bs]; exact List.mem_map.2 ⟨p, hp, rfl⟩))
  rw [hm.len, hm'.len, hm.bs, hm'.bs, sameBs_self] at heq
  have hbe := fun W (h : Below w.heap.size w W) => beq_any _ _ _ _ W (hm.da.below h) (hm'.da.below h) ha ha
  rw [decide_eq_true rfl] at hbe
  exact msame_ego a.k a.fr a.tn a.t a.ld a.pa a.pt a.hi a.co a.sz a.po a.pre a.ok ab ad ab' ad' _ cb _ cd _ cb' _ cd' w (hide (fun W => msn_eq _ _ _ _ _ _ _ _ _ _ _ _ _ _ _ _ _ _ _ _ _ _ _ _ _ W)) (hide hbe) (hide heq)
theorem msame_kind (a b : Ms) (v u : Value) (w : World) (hv : IsM w v a) (hu : IsM w u b) (hk : a.k ≠ b.k) : Calls Tryz.prog 15 #[v, u] w fun e w' => e = .returned (.bool false) ∧ Below w.heap.size w w' := by
  obtain ⟨ab, cb, ad, cd, qs, rfl, hm⟩ := isM_form hv
  obtain ⟨ab', cb', ad', cd', qs', rfl, hm'⟩ := isM_form hu
  exact msame_kgo a.k a.fr a.tn a.t a.ld a.pa a.pt a.hi a.co a.sz a.po b.k b.fr b.tn b.t b.ld b.pa b.pt b.hi b.co b.sz b.po a.pre a.ok b.pre b.ok ab ad ab' ad' _ cb _ cd _ cb' _ cd' w (by simpa using hk)
end Go.Proofs.YtoioddnlkbjljaaGreatDoor
namespace Go.Proofs.YtoioddnlkbjljaaGreatDoor
open Go.RowKit

theorem four_in7 (w : World) (op : ByteArray) (pt c r : Int) {w0 : World} (h0 : w0 = w.alloc (.cells #[.string op, .int .i64 pt, .int .i64 c, .int .i64 r] 38)) {w1 : World} (h1 : Below w0.heap.size w0 w1) : ∀ W, Below (w.heap.size + 1) w1 W → (W.cell? ⟨w.heap.size, 0, none⟩ = some (.string op) ∧ W.cell? ⟨w.heap.size, 1, none⟩ = some (.int .i64 pt) ∧ W.cell? ⟨w.heap.size, 2, none⟩ = some (.int .i64 c) ∧ W.cell? ⟨w.heap.size, 3, none⟩ = some (.int .i64 r)) := fun W h => by
  have hz : w0.heap.size = w.heap.size + 1 := by rw [h0]; simp
  have hc : ∀ i, W.cell? ⟨w.heap.size, i, none⟩ = w0.cell? ⟨w.heap.size, i, none⟩ := fun i => (h.cell (p := ⟨w.heap.size, i, none⟩) (by show w.heap.size < _; omega)).trans (h1.cell (p := ⟨w.heap.size, i, none⟩) (by show w.heap.size < _; omega))
  subst h0
  exact ⟨by rw [hc]; simp, by rw [hc]; simp, by rw [hc]; simp, by rw [hc]; simp⟩
set_option maxRecDepth 100000 in
set_option maxHeartbeats 16000000 in
theorem mwrong_nil (op : ByteArray) (pt r : Int) (w : World) : Calls Tryz.prog 10 #[.nilIface, .agg #[.string op, .int .i64 pt, .int .i64 0, .int .i64 r]] w fun e w' => e = .returned (.bool true) ∧ Below w.heap.size w w' := by
  go_enter Tryz.func10, Tryz.ntmps10
  go_wp2_with fail
  go_ret
  exact ⟨rfl, (Below.refl _ _).alloc (Nat.le_refl _) _⟩
set_option maxRecDepth 100000 in
set_option maxHeartbeats 16000000 in
theorem mwrong_go (F : TypeId) (U : Value) (op : ByteArray) (pt c r : Int) (w : World) (hg : Hnd w)
    (HOF : Hid (∀ W, Hnd W → Calls Tryz.prog 29 #[.iface F U] W fun e w' => e = .returned (.int .i64 c) ∧ Below W.heap.size W w'))
    (HWE : Hid (∀ W, Hnd W → Calls Tryz.prog 28 #[.iface F U] W fun e w' => e = .returned (.tuple #[.int .i64 pt, .bool true]) ∧ Below W.heap.size W w'))
    (HUN : Hid (∀ W, Hnd W → Calls Tryz.prog 30 #[.iface F U, .string op] W fun e w' => e = .returned (.bool true) ∧ Below W.heap.size W w')) :
    Calls Tryz.prog 10 #[.iface F U, .agg #[.string op, .int .i64 pt, .int .i64 c, .int .i64 r]] w fun e w' => e = .returned (.bool true) ∧ Below w.heap.size w w' := by
  have G0 := hide hg
  have HA := hide ((Below.refl w.heap.size w).alloc (Nat.le_refl _) (.cells #[.string op, .int .i64 pt, .int .i64 c, .int .i64 r] 38))
  clear hg
  go_enter Tryz.func10, Tryz.ntmps10
  go_upto_region 4 with (first | (go_at_call 28; refine (HWE.out _ (G0.out.below HA.out)).mono ?_; rintro e w1 ⟨rfl, hb1⟩))
  have HB1 := hide (HA.out.trans (hb1.mono (by simp)))
  have hz1 : w.heap.size + 1 ≤ w1.heap.size := by have := hb1.size; simpa using this
  have hF := four_in7 w op pt c r rfl hb1
  have HS0 := hide (hs_drew hF hz1)
  have HF := hide hF
  have HGB : Hid (∀ W, Below (w.heap.size + 1) w1 W → Hnd W) := hide (fun W h => G0.out.below (HB1.out.trans (h.mono (Nat.le_succ _))))
  clear hF hb1
  refine wp_region_held_drew (S := fun W => (W.cell? ⟨w.heap.size, 0, none⟩ = some (.string op) ∧ W.cell? ⟨w.heap.size, 1, none⟩ = some (.int .i64 pt) ∧ W.cell? ⟨w.heap.size, 2, none⟩ = some (.int .i64 c) ∧ W.cell? ⟨w.heap.size, 3, none⟩ = some (.int .i64 r)) ∧ Below (w.heap.size + 1) w1 W ∧ w.heap.size + 1 ≤ W.heap.size) (by kernel_rfl) HS0.out (fun hHeld => ?_)
  refine wpAnyH_take (i := 0) (oi := _) (v := .iface F U) rfl (by kernel_rfl) (by kernel_rfl) (by kernel_rfl) (fun _ _ _ h => h) (Or.inl ⟨by rfl, by intro w hSw; go_simp⟩) hHeld ?_
  change wpAnyH _ _ _ _ _ _ _ (Act.put _ (some 18) _) _
  simp only [Act.put, List.setIfInBounds_toArray, List.set_cons_zero, List.set_cons_succ]
  refine wpAnyH_take (i := 2) (oi := _) (v := .pointer (some ⟨w.heap.size, 0, none⟩)) rfl (by kernel_rfl) (by kernel_rfl) (by kernel_rfl) (fun _ _ _ h => h) (Or.inl ⟨by rfl, by intro w hSw; go_simp⟩) hHeld ?_
  change wpAnyH _ _ _ _ _ _ _ (Act.put _ (some 20) _) _
  simp only [Act.put, List.setIfInBounds_toArray, List.set_cons_zero, List.set_cons_succ]
  refine wpAnyH_take (i := 3) (oi := _) (v := .pointer (some ⟨w.heap.size, 2, none⟩)) rfl (by kernel_rfl) (by kernel_rfl) (by kernel_rfl) (fun _ _ _ h => h) (Or.inl ⟨by rfl, by intro w hSw; go_simp⟩) hHeld ?_
  change wpAnyH _ _ _ _ _ _ _ (Act.put _ (some 21) _) _
  simp only [Act.put, List.setIfInBounds_toArray, List.set_cons_zero, List.set_cons_succ]
  refine wpAnyH_take (i := 4) (oi := _) (v := .int .i64 c) rfl (by kernel_rfl) (by kernel_rfl) (by kernel_rfl) (fun _ _ _ h => h) (Or.inl ⟨by rfl, by intro w hSw; go_simp⟩) hHeld ?_
  change wpAnyH _ _ _ _ _ _ _ (Act.put _ (some 22) _) _
  simp only [Act.put, List.setIfInBounds_toArray, List.set_cons_zero, List.set_cons_succ]
  refine wpAnyH_ready (rs := [1]) (by kernel_rfl) (by simp) ?_
  refine AllReadyH.cons (o := _) rfl (fun K hK => ?_) AllReadyH.nil
  go_simp
  go_at_call 29
  refine (HOF.out _ (HGB.out _ hHeld.2.1)).mono ?_
  rintro e w19 ⟨rfl, hb⟩
  go_wp2_with fail
  refine hK.out _ _ ?_ (fun hHeld1 => ?_)
  · exact hs_call HF.out hb hHeld
  clear hK K hHeld
  have hHeld := hHeld1
  clear hHeld1
  clear hb
  refine wpAnyH_take (i := 5) (oi := _) (v := .bool true) rfl (by kernel_rfl) (by kernel_rfl) (by kernel_rfl) (fun _ _ _ h => h) (Or.inl ⟨by rfl, by intro w hSw; go_simp⟩) hHeld ?_
  change wpAnyH _ _ _ _ _ _ _ (Act.put _ (some 23) _) _
  simp only [Act.put, List.setIfInBounds_toArray, List.set_cons_zero, List.set_cons_succ]
  refine wpAnyH_take (i := 6) (oi := _) (v := .bool true) rfl (by kernel_rfl) (by kernel_rfl) (by kernel_rfl) (fun _ _ _ h => h) (Or.inl ⟨by rfl, by intro w hSw; go_simp⟩) hHeld ?_
  change wpAnyH _ _ _ _ _ _ _ (Act.put _ (some 24) _) _
  simp only [Act.put, List.setIfInBounds_toArray, List.set_cons_zero, List.set_cons_succ]
  refine wpAnyH_take (i := 7) (oi := _) (v := .bool true) rfl (by kernel_rfl) (by kernel_rfl) (by kernel_rfl) (fun _ _ _ h => h) (Or.inl ⟨by rfl, by intro w hSw; go_simp⟩) hHeld ?_
  change wpAnyH _ _ _ _ _ _ _ (Act.put _ (some 25) _) _
  simp only [Act.put, List.setIfInBounds_toArray, List.set_cons_zero, List.set_cons_succ]
  refine wpAnyH_take (i := 8) (oi := _) (v := .bool true) rfl (by kernel_rfl) (by kernel_rfl) (by kernel_rfl) (fun _ _ _ h => h) (Or.inl ⟨by rfl, by intro w hSw; go_simp⟩) hHeld ?_
  change wpAnyH _ _ _ _ _ _ _ (Act.put _ (some 26) _) _
  simp only [Act.put, List.setIfInBounds_toArray, List.set_cons_zero, List.set_cons_succ]
  refine wpAnyH_take (i := 9) (oi := _) (v := .bool true) rfl (by kernel_rfl) (by kernel_rfl) (by kernel_rfl) (fun _ _ _ h => h) (Or.inl ⟨by rfl, by intro w hSw; go_simp⟩) hHeld ?_
  change wpAnyH _ _ _ _ _ _ _ (Act.put _ (some 27) _) _
  simp only [Act.put, List.setIfInBounds_toArray, List.set_cons_zero, List.set_cons_succ]
  refine wpAnyH_take (i := 10) (oi := _) (v := .int .i64 pt) rfl (by kernel_rfl) (by kernel_rfl) (by kernel_rfl) (fun _ _ _ h => h) (Or.inl ⟨by rfl, by intro w hSw; go_simp⟩) hHeld ?_
  change wpAnyH _ _ _ _ _ _ _ (Act.put _ (some 28) _) _
  simp only [Act.put, List.setIfInBounds_toArray, List.set_cons_zero, List.set_cons_succ]
  refine wpAnyH_take (i := 11) (oi := _) (v := .pointer (some ⟨w.heap.size, 0, none⟩)) rfl (by kernel_rfl) (by kernel_rfl) (by kernel_rfl) (fun _ _ _ h => h) (Or.inl ⟨by rfl, by intro w hSw; go_simp⟩) hHeld ?_
  change wpAnyH _ _ _ _ _ _ _ (Act.put _ (some 29) _) _
  simp only [Act.put, List.setIfInBounds_toArray, List.set_cons_zero, List.set_cons_succ]
  refine wpAnyH_take (i := 12) (oi := _) (v := .pointer (some ⟨w.heap.size, 1, none⟩)) rfl (by kernel_rfl) (by kernel_rfl) (by kernel_rfl) (fun _ _ _ h => h) (Or.inl ⟨by rfl, by intro w hSw; go_simp⟩) hHeld ?_
  change wpAnyH _ _ _ _ _ _ _ (Act.put _ (some 30) _) _
  simp only [Act.put, List.setIfInBounds_toArray, List.set_cons_zero, List.set_cons_succ]
  refine wpAnyH_take (i := 13) (oi := _) (v := .int .i64 pt) rfl (by kernel_rfl) (by kernel_rfl) (by kernel_rfl) (fun _ _ _ h => h) (Or.inl ⟨by rfl, by intro w hSw; go_simp⟩) hHeld ?_
  change wpAnyH _ _ _ _ _ _ _ (Act.put _ (some 31) _) _
  simp only [Act.put, List.setIfInBounds_toArray, List.set_cons_zero, List.set_cons_succ]
  refine wpAnyH_take (i := 14) (oi := _) (v := .bool true) rfl (by kernel_rfl) (by kernel_rfl) (by kernel_rfl) (fun _ _ _ h => h) (Or.inl ⟨by rfl, by intro w hSw; go_simp⟩) hHeld ?_
  change wpAnyH _ _ _ _ _ _ _ (Act.put _ (some 32) _) _
  simp only [Act.put, List.setIfInBounds_toArray, List.set_cons_zero, List.set_cons_succ]
  refine wpAnyH_take (i := 15) (oi := _) (v := .bool true) rfl (by kernel_rfl) (by kernel_rfl) (by kernel_rfl) (fun _ _ _ h => h) (Or.inl ⟨by rfl, by intro w hSw; go_simp⟩) hHeld ?_
  change wpAnyH _ _ _ _ _ _ _ (Act.put _ (some 33) _) _
  simp only [Act.put, List.setIfInBounds_toArray, List.set_cons_zero, List.set_cons_succ]
  refine wpAnyH_take (i := 16) (oi := _) (v := .bool true) rfl (by kernel_rfl) (by kernel_rfl) (by kernel_rfl) (fun _ _ _ h => h) (Or.inl ⟨by rfl, by intro w hSw; go_simp⟩) hHeld ?_
  change wpAnyH _ _ _ _ _ _ _ (Act.put _ (some 34) _) _
  simp only [Act.put, List.setIfInBounds_toArray, List.set_cons_zero, List.set_cons_succ]
  refine wpAnyH_take (i := 17) (oi := _) (v := .iface F U) rfl (by kernel_rfl) (by kernel_rfl) (by kernel_rfl) (fun _ _ _ h => h) (Or.inl ⟨by rfl, by intro w hSw; go_simp⟩) hHeld ?_
  change wpAnyH _ _ _ _ _ _ _ (Act.put _ (some 35) _) _
  simp only [Act.put, List.setIfInBounds_toArray, List.set_cons_zero, List.set_cons_succ]
  refine wpAnyH_take (i := 18) (oi := _) (v := .pointer (some ⟨w.heap.size, 0, none⟩)) rfl (by kernel_rfl) (by kernel_rfl) (by kernel_rfl) (fun _ _ _ h => h) (Or.inl ⟨by rfl, by intro w hSw; go_simp⟩) hHeld ?_
  change wpAnyH _ _ _ _ _ _ _ (Act.put _ (some 36) _) _
  simp only [Act.put, List.setIfInBounds_toArray, List.set_cons_zero, List.set_cons_succ]
  refine wpAnyH_take (i := 19) (oi := _) (v := .pointer (some ⟨w.heap.size, 0, none⟩)) rfl (by kernel_rfl) (by kernel_rfl) (by kernel_rfl) (fun _ _ _ h => h) (Or.inl ⟨by rfl, by intro w hSw; go_simp⟩) hHeld ?_
  change wpAnyH _ _ _ _ _ _ _ (Act.put _ (some 37) _) _
  simp only [Act.put, List.setIfInBounds_toArray, List.set_cons_zero, List.set_cons_succ]
  refine wpAnyH_take (i := 20) (oi := _) (v := .string op) rfl (by kernel_rfl) (by kernel_rfl) (by kernel_rfl) (fun _ _ _ h => h) (Or.inl ⟨by rfl, by intro w hSw; go_simp⟩) hHeld ?_
  change wpAnyH _ _ _ _ _ _ _ (Act.put _ (some 38) _) _
  simp only [Act.put, List.setIfInBounds_toArray, List.set_cons_zero, List.set_cons_succ]
  refine wpAnyH_ready (rs := [21]) (by kernel_rfl) (by simp) ?_
  refine AllReadyH.cons (o := _) rfl (fun K hK => ?_) AllReadyH.nil
  go_simp
  go_at_call 30
  refine (HUN.out _ (HGB.out _ hHeld.2.1)).mono ?_
  rintro e w39 ⟨rfl, hb⟩
  go_wp2_with fail
  refine hK.out _ _ ?_ (fun hHeld1 => ?_)
  · exact hs_call HF.out hb hHeld
  clear hK K hHeld
  have hHeld := hHeld1
  clear hHeld1
  clear hb
  refine wpAnyH_take (i := 22) (oi := _) (v := .bool true) rfl (by kernel_rfl) (by kernel_rfl) (by kernel_rfl) (fun _ _ _ h => h) (Or.inl ⟨by rfl, by intro w hSw; go_simp⟩) hHeld ?_
  change wpAnyH _ _ _ _ _ _ _ (Act.put _ (some 40) _) _
  simp only [Act.put, List.setIfInBounds_toArray, List.set_cons_zero, List.set_cons_succ]
  refine wpAnyH_take (i := 23) (oi := _) (v := .bool true) rfl (by kernel_rfl) (by kernel_rfl) (by kernel_rfl) (fun _ _ _ h => h) (Or.inl ⟨by rfl, by intro w hSw; go_simp⟩) hHeld ?_
  change wpAnyH _ _ _ _ _ _ _ (Act.put _ (some 4) _) _
  simp only [Act.put, List.setIfInBounds_toArray, List.set_cons_zero, List.set_cons_succ]
  refine wpAnyH_done (by kernel_rfl) ?_ _
  have HBF := hide (HB1.out.trans (hHeld.2.1.mono (Nat.le_succ _)))
  clear hHeld
  go_wp2_with fail
  go_ret
  exact ⟨rfl, HBF.out⟩
/-- An error that tells what is wrong is such a one. -/
theorem mwrong_any (X : Option (List (ByteArray × Int) × Int)) (T : ByteArray × Int × Int) (r : Int) (w : World) (ht : Tells X T) (hg : Hnd w) : Calls Tryz.prog 10 #[ev X, .agg #[.string T.1, .int .i64 T.2.1, .int .i64 T.2.2, .int .i64 r]] w fun e w' => e = .returned (.bool true) ∧ Below w.heap.size w w' := by
  rcases X with _ | ⟨l, c⟩
  · have h0 : T.2.2 = 0 := ht
    rw [h0]
    exact mwrong_nil T.1 T.2.1 r w
  · obtain ⟨h1, _, h3, h4, h5, h6⟩ := ht
    have hl : (stV (some (l, c))).length ≤ 1000 := by show l.length ≤ 1000; omega
    have hof := fun W h => of_ev (some (l, c)) W h
    have hwe := fun W h => where_ev (some (l, c)) W h
    have hun := fun W h => under_ev (some (l, c)) T.1 W h hl
    rw [show ofV (some (l, c)) = T.2.2 from h1] at hof
    rw [show atV (stV (some (l, c))) = T.2.1 from h3, show inV (stV (some (l, c))) = true from h4] at hwe
    rw [show hasB ((stV (some (l, c))).map (·.1)) T.1 = true from h5] at hun
    obtain ⟨F, U, hFU⟩ := chn_form l c
    have e : ev (some (l, c)) = .iface F U := hFU
    rw [e] at hof hwe hun ⊢
    exact mwrong_go F U T.1 T.2.1 T.2.2 r w hg (hide hof) (hide hwe) (hide hun)
end Go.Proofs.YtoioddnlkbjljaaGreatDoor
namespace Go.Proofs.YtoioddnlkbjljaaGreatDoor
open Go.RowKit

theorem Ow.sld {B : Nat} {W : World} {v : Value} {l : List Int} (h : Ow B W v l) : Sld 0 B bc W v l := by
  obtain ⟨cur, h1, h2⟩ := h
  have := h1.owns
  rw [h2] at this
  exact sld_of_owns (e := 5) 0 (by simpa [bv_eq] using this)
theorem rint_ow (B : Nat) (k : Int) (w : World) (hB : B ≤ w.heap.size) (hk : k ≤ 9223372036854775807) : Calls Tryz.prog 66 #[.int .i64 k] w fun e w' => ∃ v, e = .returned v ∧ Ow B w' v (intL k) ∧ Below w.heap.size w w' := by
  refine (refInt_owns k w hk).mono ?_
  rintro e w' ⟨v, rfl, ho, hb⟩
  obtain ⟨cur, h1, h2⟩ := Rw.of (owns_mono ho hB)
  exact ⟨v, rfl, ⟨cur, h1, h2⟩, hb⟩
set_option maxRecDepth 100000 in
set_option maxHeartbeats 16000000 in
theorem rbbytes_go {ok : Nat → Prop} (t bs : Int) (b o cap : Nat) (ps : List Rp) (w : World) (hrg : w.rangeAt b o (rcs ps)) (hrw : ∀ p ∈ ps, RwP ok w p) (hc : (bw ⟨t, bs, rcl ps⟩).c = 0) :
    Calls Tryz.prog 65 #[.agg #[.int .i64 t, .int .i64 bs, .slice (some ⟨b, o, none⟩) ps.length cap]] w fun e w' => ∃ v, e = .returned v ∧ Sld 0 (w.heap.size + 1) bc w' v (bytL ⟨t, bs, rcl ps⟩) ∧ Below w.heap.size w w' := by
  obtain ⟨h1, h2, h3, h4⟩ := bw_ok hc
  simp only at h1 h2 h3 h4
  rw [rcl_len] at h3
  have hhl := headL_len ⟨t, bs, rcl ps⟩
  have htot := putsL_len (rcl ps) h4
  rw [rcl_len] at htot
  have HH : Hid (headL ⟨t, bs, rcl ps⟩ = intL t ++ (intL bs ++ intL ps.length)) := hide (by unfold headL; simp only [rcl_len])
  have HBL : Hid (bytL ⟨t, bs, rcl ps⟩ = headL ⟨t, bs, rcl ps⟩ ++ putsL (rcl ps)) := hide rfl
  generalize bytL ⟨t, bs, rcl ps⟩ = Bs at *
  generalize headL ⟨t, bs, rcl ps⟩ = Hd at *
  have HR := hide hrg
  have HW := hide hrw
  have H4 := hide h4
  have hn64 : ps.length ≤ 64 := h3.2
  have ht : t ≤ 9223372036854775807 := by omega
  have hbs : bs ≤ 9223372036854775807 := by omega
  have HB : Hid (Below w.heap.size w (w.alloc (.cells #[.int .i64 t, .int .i64 bs, .slice (some ⟨b, o, none⟩) ps.length cap] 52))) := hide ((Below.refl _ _).alloc (Nat.le_refl _) _)
  have hsz : (w.alloc (.cells #[.int .i64 t, .int .i64 bs, .slice (some ⟨b, o, none⟩) ps.length cap] 52)).heap.size = w.heap.size + 1 := by simp
  have HCL : Hid (∀ W, Below (w.heap.size + 1) (w.alloc (.cells #[.int .i64 t, .int .i64 bs, .slice (some ⟨b, o, none⟩) ps.length cap] 52)) W → W.cell? ⟨w.heap.size, 0, none⟩ = some (.int .i64 t) ∧ W.cell? ⟨w.heap.size, 1, none⟩ = some (.int .i64 bs) ∧ W.cell? ⟨w.heap.size, 2, none⟩ = some (.slice (some ⟨b, o, none⟩) ps.length cap)) := hide (fun W h => by
    have hq : ∀ i, W.cell? ⟨w.heap.size, i, none⟩ = _ := fun i => h.cell (p := ⟨w.heap.size, i, none⟩) (by show w.heap.size < _; omega)
    exact ⟨by rw [hq]; simp, by rw [hq]; simp, by rw [hq]; simp⟩)
  have HSZ := hide hsz
  have l1 := intL_le t
  have l2 := intL_le bs
  have l3 := intL_le ps.length
  clear hrg hrw hc h1 h2 h3 h4 hsz
  have hap : w.heap.size ≤ w.heap.size + 1 := Nat.le_succ _
  go_enter Tryz.func65, Tryz.ntmps65
  go_upto_region 1 with fail
  generalize w.alloc (.cells #[.int .i64 t, .int .i64 bs, .slice (some ⟨b, o, none⟩) ps.length cap] 52) = Y at HB HCL HSZ ⊢
  have hzY : w.heap.size + 1 ≤ Y.heap.size := by rw [HSZ.out]; exact Nat.le_refl _
  obtain ⟨i0, i1, i2⟩ := HCL.out Y (Below.refl _ _)
  have HI := hide (rint_ow (w.heap.size + 1) t Y hzY ht)
  go_upto_region 2 with (first | (go_at_call 66; refine HI.out.mono ?_; rintro e W1 ⟨v1, rfl, ho1, hb1⟩))
  have HO1 := hide ho1
  have HB1 := hide (hb1.mono hzY)
  have hz1 : w.heap.size + 1 ≤ W1.heap.size := Nat.le_trans hzY hb1.size
  clear ho1 hb1 HI i0 i1 i2
  obtain ⟨i0, i1, i2⟩ := HCL.out W1 HB1.out
  have HI := hide (refInt_sl bs W1 hbs)
  go_upto_region 3 with (first | (go_at_call 66; refine HI.out.mono ?_; rintro e W2 ⟨v2, rfl, hs2, hb2⟩; have HS2 := hide hs2; have HO2 := hide (HO1.out.below hb2); have HB2 := hide (HB1.out.trans (hb2.mono hz1)); have hz2 := Nat.le_trans hz1 hb2.size; clear hs2 hb2) | (at_builtin; refine wpList_append_ow rfl _ _ rfl (w.heap.size + 1) v1 (intL t) rfl HO2.out hz2 v2 (intL bs) rfl HS2.out (by omega) ?_; intro W3 v3 ho3 hb3; have HO3 := hide ho3; have HB3 := hide (HB2.out.trans hb3); have hz3 := Nat.le_trans hz2 hb3.size; clear ho3 hb3))
  clear HO1 HO2 HB1 HB2 HS2 HI i0 i1 i2
  obtain ⟨i0, i1, i2⟩ := HCL.out W3 HB3.out
  have HI := hide (refInt_sl (ps.length : Int) W3 (by omega))
  go_upto_region 4 with (first | (go_at_call 66; refine HI.out.mono ?_; rintro e W4 ⟨v4, rfl, hs4, hb4⟩; have HS4 := hide hs4; have HO4 := hide (HO3.out.below hb4); have HB4 := hide (HB3.out.trans (hb4.mono hz3)); have hz4 := Nat.le_trans hz3 hb4.size; clear hs4 hb4) | (at_builtin; refine wpList_append_ow rfl _ _ rfl (w.heap.size + 1) v3 (intL t ++ intL bs) rfl HO4.out hz4 v4 (intL (ps.length : Int)) rfl HS4.out (by rw [List.length_append]; omega) ?_; intro W5 v5 ho5 hb5; have HO5 := hide ho5; have HB5 := hide (HB4.out.trans hb5); clear ho5 hb5))
  rw [List.append_assoc, ← HH.out] at HO5
  clear HO3 HO4 HB3 HB4 HS4 HI i0 i1 i2
  go_wp2_with fail
  go_loopw [3, 4] (fun y i wr => ∃ j : Nat, j ≤ ps.length ∧ i = .int .i64 (j : Int) ∧ Ow (w.heap.size + 1) wr y (Hd ++ putsL ((rcl ps).take j)) ∧ Below (w.heap.size + 1) Y wr) (fun _ i _ => ps.length - (intOf i).toNat)
  case atStart => exact ⟨0, Nat.zero_le _, rfl, by simpa [putsL] using HO5.out, HB5.out⟩
  case round =>
    obtain ⟨j, hj, rfl, ho, hb⟩ := hrel
    have HO := hide ho
    have HBR := hide hb
    clear ho hb HO5 HB5
    have hzr : w.heap.size + 1 ≤ wr.heap.size := Nat.le_trans hzY HBR.out.size
    obtain ⟨i0, i1, i2⟩ := HCL.out wr HBR.out
    by_cases hlt : j < ps.length
    · have hltI : (j : Int) < (ps.length : Int) := by omega
      have hlr : j < (rcl ps).length := by rw [rcl_len]; exact hlt
      have hpj : (rcl ps)[j] = ps[j].1 := by simp [rcl]
      have HSN := hide (putsL_snoc (rcl ps) j hlr)
      rw [hpj] at HSN
      have hok : (chk ps[j].1).2.2 = 0 := H4.out _ (List.mem_map.2 ⟨ps[j], List.getElem_mem hlt, rfl⟩)
      have HE := hide (range_old (range_at HR.out hlt) HB.out HBR.out hap)
      have HP := hide ((HW.out _ (List.getElem_mem hlt)).old HB.out HBR.out hap)
      have hlen : (Hd ++ putsL ((rcl ps).take j)).length ≤ 700000 := by
        have := putsL_take_le (rcl ps) j
        rw [List.length_append]
        omega
      have hpl := put_len hok
      generalize ps[j] = p at *
      clear hpj
      have HC := hide (rbytes_any p.1 _ wr HP.out.is hok)
      go_wp2_with (first | (refine wpList_load_mid rfl _ _ rfl _ _ rfl _ _ HE.out Tryz.underlying55 rfl (by kernel_rfl) ?_) | (go_at_call 97; refine HC.out.mono ?_; rintro e W6 ⟨v6, rfl, hs6, hb6⟩; have HS6 := hide hs6; have HO6 := hide (HO.out.below hb6); have HB6 := hide (HBR.out.trans (hb6.mono hzr)); have hz6 := Nat.le_trans hzr hb6.size; clear hs6 hb6) | (at_builtin; refine wpList_append_ow rfl _ _ rfl (w.heap.size + 1) u3 (Hd ++ putsL ((rcl ps).take j)) rfl HO6.out hz6 v6 (putL p.1) rfl HS6.out (by omega) ?_; intro W7 v7 ho7 hb7; have HO7 := hide ho7; have HB7 := hide (HB6.out.trans hb7); clear ho7 hb7))
      rw [List.append_assoc, ← HSN.out] at HO7
      go_roundw
      case rel => exact ⟨j + 1, by omega, by go_num, HO7.out, HB7.out⟩
      case measure => simp [intOf]; omega
    · obtain rfl : j = ps.length := by omega
      have HOF : Hid (Ow (w.heap.size + 1) wr u3 Bs) := hide (by have := HO.out; rwa [← rcl_len, List.take_length, ← HBL.out] at this)
      have HBF : Hid (Below w.heap.size w wr) := hide (HB.out.trans (HBR.out.mono hap))
      clear HO hlt HR HW H4 HCL HH HBL hhl htot
      go_wp2_with fail
      go_ret
      exact ⟨_, rfl, HOF.out.sld, HBF.out⟩
theorem rbbytes_any {okb ok : Nat → Prop} (x : Bt) (v : Value) (w : World) (hv : IsB okb ok w v x) (hc : (bw x).c = 0) : Calls Tryz.prog 65 #[v] w fun e w' => ∃ ao cap, e = .returned (.slice ao (bytL x).length cap) ∧ Sld 0 (w.heap.size + 1) bc w' (.slice ao (bytL x).length cap) (bytL x) ∧ Below w.heap.size w w' := by
  obtain ⟨u, ps, rfl, h2, h3⟩ := hv
  obtain ⟨t, b, rs⟩ := x
  simp only at h3
  subst h3
  obtain ⟨ao, cap, rfl⟩ := h2.form
  obtain ⟨_, _, hn, _⟩ := bw_ok hc
  simp only [rcl_len] at hn
  obtain ⟨g, o, rfl, hr⟩ := h2.rg (by omega)
  refine (rbbytes_go t b g o cap ps w hr h2.2 hc).mono ?_
  rintro e w' ⟨v, rfl, hs, hb⟩
  obtain ⟨a, c, rfl⟩ := hs.sl.form
  exact ⟨a, c, rfl, hs, hb⟩
end Go.Proofs.YtoioddnlkbjljaaGreatDoor
