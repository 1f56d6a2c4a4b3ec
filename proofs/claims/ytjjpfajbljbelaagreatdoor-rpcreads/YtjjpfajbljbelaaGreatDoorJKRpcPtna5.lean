/-
  BATCHES OF RECORDS ABOUT NOTHING, BEHIND ANY BYTES. Conditions: as of the general text; each record is an RNoop.
  A MESSAGE WITH RECORDS ABOUT NOTHING, AS A FRAME (rpc.Put). Conditions: as of the general text; each record is an RNoop.
  BYTES THAT ARE READ NEXT, IN NEW MEMORY (wire.Reader.Text): what the mathematics says. Conditions: the bytes' cells hold them, each is a byte, no more than a hundred thousand, they don't lie in the reader.
  A MESSAGE THAT IS BEING READ, IN ITS CELLS; rows of batches that grow. Condition: fewer than a hundred thousand batches.
  WHAT IS READ OF A MESSAGE (rpc.fields): what the mathematics says. Conditions: the bytes' cells hold them, each is a byte, no more than a hundred thousand, they don't lie in the reader; errors.errorType is laid.
-/
import Derived.Test.YtjjpfajbljbelaaGreatDoorJKRpcPpa5
namespace Go.Proofs.YtjjpfajbljbelaaGreatDoor
open Go.RowKit
set_option maxRecDepth 100000 in
set_option maxHeartbeats 32000000 in
theorem mputbs_anyN (wB : World) (u v : Value) (l0 : List Int) (qs : List Bq) (w : World) (hu : Ow wB.heap.size w u l0) (hl0 : l0.length ≤ 300000) (hb : Below wB.heap.size wB w) (hv : Bl wB v qs) (hok : ∀ x ∈ bts qs, (bw x).c = 0) (htx : ∀ x ∈ bts qs, ∀ r ∈ x.rs, TxR r) (hn : qs.length ≤ 20) (hk1 : ∀ x ∈ bts qs, ∀ r ∈ x.rs, r.k = 1) :
  Calls Tryz.prog 35 #[u, v] w (PbP wB.heap.size l0 (bts qs) w) := by
 obtain ⟨av, cv, rfl⟩ := hv.form
 obtain ⟨au, cu, rfl⟩ := hu.form
 have HB := hide hb
 have HO := hide hu
 have HV := hide hv
 have HOK := hide hok
 have HT := hide htx
 have HK1 := hide hk1
 have hz := hb.size
 have HI := hide (wint_ow wB.heap.size _ l0 qs.length w HO.out (by omega) hz (by omega))
 clear hb hu hv hok htx hk1
 go_enter Tryz.func35, Tryz.ntmps35
 go_upto_region 2 with (first | (go_at_call 68; refine HI.out.mono ?_; rintro e W1 ⟨v1, rfl, ho1, hb1⟩))
 have HO1 := hide ho1
 have HX1 := hide hb1
 have HB1 := hide (HB.out.trans hb1)
 clear ho1 hb1 HI HO
 go_wp2_with fail
 go_loopw [0, 16] (fun y i wr => ∃ j : Nat, j ≤ qs.length ∧ i = .int .i64 (j : Int) ∧ Hid (∀ x ∈ (bts qs).take j, (bytL x).length ≤ 16384) ∧ Hid (Ow wB.heap.size wr y ((l0 ++ intL qs.length) ++ batsL ((bts qs).take j))) ∧ Hid (Below wB.heap.size w wr)) (fun _ i _ => qs.length - (intOf i).toNat)
 case atStart => exact ⟨0, Nat.zero_le _, rfl, hide (fun x hx => by simp at hx), hide (by simpa [batsL] using HO1.out), HX1⟩
 case round =>
  obtain ⟨j, hj, rfl, HL, HOJ, HXJ⟩ := hrel
  have HBJ := hide (HB.out.trans HXJ.out)
  clear HO1 HX1 HB1
  have hzr := HBJ.out.size
  by_cases hlt : j < qs.length
  ·have hltI : (j : Int) < (qs.length : Int) := by omega
   have hlb : j < (bts qs).length := by rw [bts_len]; exact hlt
   have hbj : (bts qs)[j] = btq qs[j] := by simp [bts]
   obtain ⟨b, o, rfl, hrg⟩ := HV.out.rg2 (by omega)
   have HE := hide (range_bel (brange_at hrg hlt) HBJ.out)
   have HP := hide (HV.out.2 _ (List.getElem_mem hlt))
   have HXT := hide (HT.out (btq qs[j]) (List.mem_map.2 ⟨_, List.getElem_mem hlt, rfl⟩))
   have HXK := hide (HK1.out (btq qs[j]) (List.mem_map.2 ⟨_, List.getElem_mem hlt, rfl⟩))
   have hc : (bw (btq qs[j])).c = 0 := HOK.out (btq qs[j]) (List.mem_map.2 ⟨_, List.getElem_mem hlt, rfl⟩)
   have HSN := hide (batsL_snoc (bts qs) j hlb)
   have HNO := hide (fun h => lnBs_some (bts qs) 0 j hlb HL.out h)
   have HKE : Hid ((bytL (btq qs[j])).length ≤ 16384 → ∀ x ∈ (bts qs).take (j + 1), (bytL x).length ≤ 16384) := hide (fun h x hx => by
    rw [List.take_succ_eq_append_getElem hlb, hbj] at hx
    rcases List.mem_append.1 hx with q | q
    ·exact HL.out x q
    ·simp at q; subst q; exact h)
   have hen : ((l0 ++ intL qs.length) ++ batsL ((bts qs).take j)).length ≤ 700000 := by
    have h1 := bats_le HL.out
    have h2 := intL_le qs.length
    have h3 : ((bts qs).take j).length ≤ 20 := by rw [List.length_take, bts_len]; omega
    rw [List.length_append, List.length_append]
    omega
   rw [hbj] at HSN HNO
   have HTN := hide (there_newB wr)
   generalize qs[j] = p at *
   have HOC := hide (bce_all HP.out.form3)
   clear hrg hbj
   go_upto_region 5 with (first | (refine wpList_load_mid rfl _ _ rfl _ _ rfl _ _ HE.out Tryz.underlying48 rfl (by kernel_rfl) ?_) | (refine wpList_store_mid rfl _ _ _ rfl wr.heap.size 0 (bce p).toArray rfl rfl HTN.out (by kernel_rfl) HOC.out ?_))
   obtain ⟨V, hV⟩ : ∃ V, V = (wr.alloc (.cells #[.int .i64 0, .int .i64 0, .slice none 0 0] 48)).setCells wr.heap.size 0 (bce p) := ⟨_, rfl⟩
   obtain ⟨hbV, hrV, _⟩ := laidB wr p hV
   rw [← hV]
   have HRV := hide hrV
   have HXV := hide (HXJ.out.trans (hbV.mono hzr))
   have HBV := hide (HB.out.trans HXV.out)
   have HOV := hide (HOJ.out.below hbV)
   have hzV := HBV.out.size
   have HC0 := hide (bput_anyN (okb := fun _ => True) (ok := fun _ => True) (btq p) (.agg (bce p).toArray) V ⟨p.u, p.ps, rfl, HP.out.below HBV.out, rfl⟩ HXT.out HXK.out)
   clear hV hrV hbV HTN HE HP HXT HT HXK HK1 HOC HOJ HXJ HBJ
   by_cases hlen : (bytL (btq p)).length ≤ 16384
   ·have HC : Hid (Calls Tryz.prog 71 #[.agg (bce p).toArray] V fun e w' => ∃ y, e = .returned (.tuple #[y, .nilIface]) ∧ Sl bc w' y (bytL (btq p)) ∧ Below V.heap.size V w') := hide (HC0.out.mono (by
     rintro e w' ⟨h1, h2⟩
     rw [if_pos hc, if_pos hlen] at h1
     obtain ⟨y, rfl, ho⟩ := h1
     exact ⟨y, rfl, ho.sl, h2⟩))
    clear HC0
    generalize bytL (btq p) = Y at *
    go_wp2_with (first | (refine wpList_load_mid rfl _ _ rfl _ _ rfl _ _ HRV.out Tryz.underlying48 rfl (by kernel_rfl) ?_) | (go_at_call 71; refine HC.out.mono ?_; rintro e W5 ⟨y5, rfl, hs5, hb5⟩; have HS5 := hide hs5; have HO5 := hide (HOV.out.below hb5); have HX5 := hide (HXV.out.trans (hb5.mono hzV)); have hz5 := Nat.le_trans hzV hb5.size; clear hs5 hb5) | (at_builtin; refine wpList_append_owp rfl _ _ rfl wB.heap.size u0 _ rfl HO5.out hz5 y5 Y rfl HS5.out (by omega) ?_; intro W7 v7 ho7 hb7; have HO7 := hide ho7; have HX7 := hide (HX5.out.trans hb7); clear ho7 hb7))
    go_roundw
    case rel => exact ⟨j + 1, by omega, by go_num, hide (HKE.out hlen), hide (by rw [HSN.out, ← List.append_assoc]; exact HO7.out), HX7⟩
    case measure => simp [intOf]; omega
   ·have HC : Hid (Calls Tryz.prog 71 #[.agg (bce p).toArray] V fun e w' => e = .returned (.tuple #[.slice none 0 0, .iface 98 (.agg #[.string ⟨#[98, 97, 116, 99, 104]⟩, .int .i64 ((bytL (btq p)).length : Int), .iface 33 (.int .i64 6)])]) ∧ Below V.heap.size V w') := hide (HC0.out.mono (by
     rintro e w' ⟨h1, h2⟩
     rw [if_pos hc, if_neg hlen] at h1
     exact ⟨h1, h2⟩))
    clear HC0
    have HN2 := hide (HNO.out hlen)
    clear HNO HKE HSN
    generalize bytL (btq p) = Y at *
    go_wp2_with (first | (refine wpList_load_mid rfl _ _ rfl _ _ rfl _ _ HRV.out Tryz.underlying48 rfl (by kernel_rfl) ?_) | (go_at_call 71; refine HC.out.mono ?_; rintro e W5 ⟨rfl, hb5⟩; have HX5 := hide (HXV.out.trans (hb5.mono hzV)); clear hb5) | (go_at_call 72; refine (wrap_some _ _ _ _ _).mono ?_; rintro e w9 ⟨rfl, hw9⟩; rw [hw9]; clear hw9 w9))
    go_ret2
    refine ⟨?_, HX5.out⟩
    rw [HN2.out]
    simp only [Nat.zero_add]
    rfl
  ·obtain rfl : j = qs.length := by omega
   have hnone := lnBs_none (bts qs) 0 (by have := HL.out; rwa [← bts_len, List.take_length] at this)
   have HNN := hide hnone
   have HOF := HOJ.out
   rw [← bts_len, List.take_length, List.append_assoc] at HOF
   have HOF' := hide HOF
   clear hlt HV HOK HT HOJ HBJ hnone HOF
   go_wp2_with fail
   go_ret2
   refine ⟨?_, HXJ.out⟩
   rw [HNN.out]
   exact ⟨_, rfl, HOF'.out⟩
set_option maxRecDepth 100000 in
set_option maxHeartbeats 32000000 in
theorem mput_goN (m : Ms) (ab ad : Option Addr) (cb cd : Nat) (qs : List Bq) (w : World) (hm : MemM w m (.slice ab m.bs.length cb) (.slice ad m.da.length cd) qs) (htx : TxM m) (hv : evM m = none) (hk1 : ∀ x ∈ m.bs, ∀ r ∈ x.rs, r.k = 1) :
  Calls Tryz.prog 9 #[.agg #[.int .i64 m.k, .int .i64 m.fr, .int .i64 m.tn, .int .i64 m.t, .bool m.pre, .bool m.ok, .int .i64 m.ld, .int .i64 m.pa, .int .i64 m.pt, .int .i64 m.hi, .int .i64 m.co, .slice ab m.bs.length cb, .int .i64 m.sz, .int .i64 m.po, .slice ad m.da.length cd]] w (PuP m w) := by
 have hL := lite hv
 have HC := hide (fun W (h : Below w.heap.size w W) => mcheck_any m (.agg #[.int .i64 m.k, .int .i64 m.fr, .int .i64 m.tn, .int .i64 m.t, .bool m.pre, .bool m.ok, .int .i64 m.ld, .int .i64 m.pa, .int .i64 m.pt, .int .i64 m.hi, .int .i64 m.co, .slice ab m.bs.length cb, .int .i64 m.sz, .int .i64 m.po, .slice ad m.da.length cd]) W ⟨_, _, qs, rfl, hm.below h⟩ htx (by have := hL.bl; omega))
 rw [hv, show ev none = .nilIface from rfl] at HC
 have HS := hide (fun W => msubj_any m.k W)
 rw [show kndM m.k = true from decide_eq_true hL.k] at HS
 have HM := hide hm
 have HLI := hide hL
 have HTX := hide htx
 have HK1 := hide hk1
 have HEP : Hid (evP m = match lnBs m.bs 0 with
  | some q => some ([(⟨#[98, 97, 116, 99, 104]⟩, (q.1 : Int)), (⟨#[98, 97, 116, 99, 104]⟩, (q.2 : Int))], 6)
  | none => if (tailM m).length ≤ 16384 then none else some ([(⟨#[109, 101, 115, 115, 97, 103, 101]⟩, ((tailM m).length : Int))], 6)) := hide (by unfold evP; rw [hv]; rfl)
 have hq10 := (bitM_has hL.k).2.2.2.2.2.2.2.2.2.2
 have HH := hide (fun W => mhas_any (sbjM m.k) 1024 W)
 rw [hq10] at HH
 have hlen := hm.len
 have hb0 := hL.b0
 have HTE := hide (tailM_eq m)
 have htl := tailF_len m (by have := hL.da; omega)
 obtain ⟨X, hX⟩ : ∃ X, X = ((w.alloc (.cells #[.int .i64 m.k, .int .i64 m.fr, .int .i64 m.tn, .int .i64 m.t, .bool m.pre, .bool m.ok, .int .i64 m.ld, .int .i64 m.pa, .int .i64 m.pt, .int .i64 m.hi, .int .i64 m.co, .slice ab m.bs.length cb, .int .i64 m.sz, .int .i64 m.po, .slice ad m.da.length cd] 26)).alloc (.cells #[.int .i64 0, .slice none 0 0] 32)) := ⟨_, rfl⟩
 obtain ⟨hb, hq, hf0⟩ := put_in w [.int .i64 m.k, .int .i64 m.fr, .int .i64 m.tn, .int .i64 m.t, .bool m.pre, .bool m.ok, .int .i64 m.ld, .int .i64 m.pa, .int .i64 m.pt, .int .i64 m.hi, .int .i64 m.co, .slice ab m.bs.length cb, .int .i64 m.sz, .int .i64 m.po, .slice ad m.da.length cd] hX
 have hXs : w.heap.size + 2 ≤ X.heap.size := by rw [hX]; simp
 have HB := hide hb
 have HQ := hide hq
 have HF0 := hide hf0
 clear hb hq hf0 hm htx hv hk1 hL hq10
 go_enter Tryz.func9, Tryz.ntmps9
 go_upto_region 1 with fail
 rw [← hX]
 clear hX
 go_upto_region 2 with (first | (refine wpList_load_mid rfl _ _ rfl _ _ rfl _ _ HQ.out Tryz.underlying26 rfl (by kernel_rfl) ?_) | (go_at_call 12; refine (HC.out _ HB.out).mono ?_; rintro e W1 ⟨rfl, hb1⟩))
 have HX1 := hide hb1
 clear hb1 HC
 have k0 := range_bel HQ.out HX1.out 0 _ rfl
 rw [Nat.zero_add] at k0
 have HB1 := hide (HB.out.trans (HX1.out.mono HB.out.size))
 have HPF := hide (mfields_any w.heap.size m _ _ W1 HLI.out.k (range_bel HQ.out HX1.out) (HM.out.da.below HB1.out) (by have := HLI.out.da; omega) HLI.out.n)
 go_upto_region 6 with (first | (go_at_call 14; refine (HS.out _).mono ?_; rintro e w1 ⟨rfl, hw1⟩; rw [hw1]; clear hw1 w1) | (go_at_call 33; refine HPF.out.mono ?_; rintro e W2 ⟨y2, rfl, ho2, hb2⟩))
 have HO2 := hide ho2
 have HX2 := hide (HX1.out.trans (hb2.mono HX1.out.size))
 have HY2 := hide hb2
 clear ho2 hb2 HPF k0 HS
 cases hh : hasM m.k 98 with
 | true =>
  rw [hh] at HH HTE
  have HPB := hide (mputbs_anyN W1 y2 (.slice ab m.bs.length cb) (tailF m) qs W2 HO2.out (by omega) HY2.out (HM.out.bl.below HB1.out) (by rw [HM.out.bs]; exact HLI.out.bs) (by rw [HM.out.bs]; exact HTX.out) (by have := HLI.out.bl; omega) (by rw [HM.out.bs]; exact HK1.out))
  rw [HM.out.bs] at HPB
  have g11 := range_bel HQ.out HX2.out 11 _ rfl
  rw [Nat.zero_add] at g11
  change _ = some (Value.slice ab m.bs.length cb) at g11
  cases hl : lnBs m.bs 0 with
  | some q =>
   have HLN := hide hl
   have HP2 : Hid (Calls Tryz.prog 35 #[y2, .slice ab m.bs.length cb] W2 fun e w' => e = .returned (.tuple #[.slice none 0 0, .iface 98 (.agg #[.string ⟨#[98, 97, 116, 99, 104]⟩, .int .i64 (q.1 : Int), .iface 98 (.agg #[.string ⟨#[98, 97, 116, 99, 104]⟩, .int .i64 (q.2 : Int), .iface 33 (.int .i64 6)])])]) ∧ Below W1.heap.size W2 w') := hide (HPB.out.mono (by
    rintro e w' ⟨h1, h2⟩
    rw [hl] at h1
    exact ⟨h1, h2⟩))
   clear HPB hl
   go_upto_region 9 with (first | (go_at_call 34; refine (HH.out _).mono ?_; rintro e w1 ⟨rfl, hw1⟩; rw [hw1]; clear hw1 w1) | (go_at_call 35; refine HP2.out.mono ?_; rintro e W3 ⟨rfl, hb3⟩))
   have HXF := hide (HX1.out.trans ((HY2.out.trans hb3).mono HX1.out.size))
   have HBF := hide (HB.out.trans (HXF.out.mono HB.out.size))
   obtain ⟨⟨r0, r1⟩, rf0, rf1⟩ := HF0.out _ HXF.out
   clear hb3 HP2 g11
   go_wp2_with fail
   exact bodyPost_ret (v := .tuple #[.agg #[.int .i64 0, .slice none 0 0], .iface 98 (.agg #[.string ⟨#[98, 97, 116, 99, 104]⟩, .int .i64 (q.1 : Int), .iface 98 (.agg #[.string ⟨#[98, 97, 116, 99, 104]⟩, .int .i64 (q.2 : Int), .iface 33 (.int .i64 6)])])]) (by simp [results, Tryz.results9, go_sem, r0, r1]) rfl ⟨by rw [HEP.out, HLN.out]; rfl, (HBF.out.setCell (by exact Nat.le_succ _) _).setCell (by exact Nat.le_succ _) _⟩
  | none =>
   have HLN := hide hl
   have HP2 : Hid (Calls Tryz.prog 35 #[y2, .slice ab m.bs.length cb] W2 fun e w' => ∃ y, e = .returned (.tuple #[y, .nilIface]) ∧ Ow W1.heap.size w' y (tailM m) ∧ Below W1.heap.size W2 w') := hide (HPB.out.mono (by
    rintro e w' ⟨h1, h2⟩
    rw [hl] at h1
    obtain ⟨y, rfl, ho⟩ := h1
    refine ⟨y, rfl, ?_, h2⟩
    rw [HTE.out]
    simpa [encs] using ho))
   clear HPB hl
   go_upto_region 9 with (first | (go_at_call 34; refine (HH.out _).mono ?_; rintro e w1 ⟨rfl, hw1⟩; rw [hw1]; clear hw1 w1) | (go_at_call 35; refine HP2.out.mono ?_; rintro e W3 ⟨y3, rfl, ho3, hb3⟩))
   have HO3 := hide ho3
   have HXF := hide (HX1.out.trans ((HY2.out.trans hb3).mono HX1.out.size))
   have hzz := HX1.out.size
   have hOff : ∀ g, y3.ownBlock = some g → W1.heap.size ≤ g := fun g hg => (ow_lt HO3.out hg).2
   clear ho3 hb3 HP2 g11
   obtain ⟨a5, c5, e5⟩ := HO3.out.form
   subst e5
   have HBF := hide (HB.out.trans (HXF.out.mono HB.out.size))
   obtain ⟨⟨r0, r1⟩, rf0, rf1⟩ := HF0.out _ HXF.out
   have k0 := range_bel HQ.out HXF.out 0 _ rfl
   rw [Nat.zero_add] at k0
   have HSL := hide HO3.out.sl
   clear HO3
   obtain ⟨TM, hTM⟩ : ∃ x, x = tailM m := ⟨_, rfl⟩
   rw [← hTM] at HSL HEP ⊢
   have HTM := hide hTM
   clear hTM
   by_cases hm : TM.length ≤ 16384
   ·have hmI : ¬ (16384 : Int) < (TM.length : Int) := by omega
    go_wp2_with fail
    exact bodyPost_ret (v := .tuple #[.agg #[.int .i64 m.k, .slice a5 TM.length c5], .nilIface]) (by simp [results, Tryz.results9, go_sem, r0, r1]) rfl ⟨by rw [HEP.out, HLN.out]; simp only; rw [if_pos hm]; exact ⟨_, rfl, by rw [← HTM.out]; exact sl_two HSL.out (.inr (fun b' o k c e q => by have hX2 : w.heap.size + 2 ≤ X.heap.size := hXs; have := hOff b' (by cases e; rfl); omega))⟩, (HBF.out.setCell (by exact Nat.le_succ _) _).setCell (by exact Nat.le_succ _) _⟩
   ·have hmI : (16384 : Int) < (TM.length : Int) := by omega
    go_wp2_with (first | (go_at_call 15; refine (new_any _ _ _ _).mono ?_; rintro e w9 ⟨rfl, hw9⟩; rw [hw9]; clear hw9 w9))
    exact bodyPost_ret (v := .tuple #[.agg #[.int .i64 0, .slice none 0 0], ft ⟨#[109, 101, 115, 115, 97, 103, 101]⟩ TM.length 6]) (by simp [results, Tryz.results9, go_sem, r0, r1, ft]) rfl ⟨by rw [HEP.out, HLN.out]; simp only; rw [if_neg hm]; rfl, (HBF.out.setCell (by exact Nat.le_succ _) _).setCell (by exact Nat.le_succ _) _⟩
 | false =>
  rw [hh] at HH HTE
  have hbs := hb0 hh
  have HLN : Hid (lnBs m.bs 0 = none) := hide (by rw [hbs]; rfl)
  have HO3 : Hid (Ow W1.heap.size W2 y2 (tailM m)) := hide (by rw [HTE.out, hbs]; simpa [encs, batsL] using HO2.out)
  have HXF := HX2
  have hzz := HX1.out.size
  have hOff : ∀ g, y2.ownBlock = some g → W1.heap.size ≤ g := fun g hg => (ow_lt HO3.out hg).2
  clear hbs HO2
  go_upto_region 11 with (first | (go_at_call 34; refine (HH.out _).mono ?_; rintro e w1 ⟨rfl, hw1⟩; rw [hw1]; clear hw1 w1))
  obtain ⟨a5, c5, e5⟩ := HO3.out.form
  subst e5
  have HBF := hide (HB.out.trans (HXF.out.mono HB.out.size))
  obtain ⟨⟨r0, r1⟩, rf0, rf1⟩ := HF0.out _ HXF.out
  have k0 := range_bel HQ.out HXF.out 0 _ rfl
  rw [Nat.zero_add] at k0
  have HSL := hide HO3.out.sl
  clear HO3
  obtain ⟨TM, hTM⟩ : ∃ x, x = tailM m := ⟨_, rfl⟩
  rw [← hTM] at HSL HEP ⊢
  have HTM := hide hTM
  clear hTM
  by_cases hm : TM.length ≤ 16384
  ·have hmI : ¬ (16384 : Int) < (TM.length : Int) := by omega
   go_wp2_with fail
   exact bodyPost_ret (v := .tuple #[.agg #[.int .i64 m.k, .slice a5 TM.length c5], .nilIface]) (by simp [results, Tryz.results9, go_sem, r0, r1]) rfl ⟨by rw [HEP.out, HLN.out]; simp only; rw [if_pos hm]; exact ⟨_, rfl, by rw [← HTM.out]; exact sl_two HSL.out (.inr (fun b' o k c e q => by have hX2 : w.heap.size + 2 ≤ X.heap.size := hXs; have := hOff b' (by cases e; rfl); omega))⟩, (HBF.out.setCell (by exact Nat.le_succ _) _).setCell (by exact Nat.le_succ _) _⟩
  ·have hmI : (16384 : Int) < (TM.length : Int) := by omega
   go_wp2_with (first | (go_at_call 15; refine (new_any _ _ _ _).mono ?_; rintro e w9 ⟨rfl, hw9⟩; rw [hw9]; clear hw9 w9))
   exact bodyPost_ret (v := .tuple #[.agg #[.int .i64 0, .slice none 0 0], ft ⟨#[109, 101, 115, 115, 97, 103, 101]⟩ TM.length 6]) (by simp [results, Tryz.results9, go_sem, r0, r1, ft]) rfl ⟨by rw [HEP.out, HLN.out]; simp only; rw [if_neg hm]; rfl, (HBF.out.setCell (by exact Nat.le_succ _) _).setCell (by exact Nat.le_succ _) _⟩
theorem mput_anyN (m : Ms) (v : Value) (w : World) (hv : IsM w v m) (htx : TxM m) (hn : m.bs.length ≤ 100000) (hk1 : ∀ x ∈ m.bs, ∀ r ∈ x.rs, r.k = 1) : Calls Tryz.prog 9 #[v] w (PuP m w) := by
 have hck := fun W (h : Below w.heap.size w W) => mcheck_any m v W (hv.below h) htx hn
 obtain ⟨ab, cb, ad, cd, qs, rfl, hm⟩ := isM_form hv
 cases hq : evM m with
 | none => exact mput_goN m ab ad cb cd qs w hm htx hq hk1
 | some q =>
  obtain ⟨F, U, e⟩ := ev_form q
  rw [hq, e] at hck
  refine (mput_bad m.k m.fr m.tn m.t m.ld m.pa m.pt m.hi m.co m.sz m.po m.pre m.ok ab ad _ cb _ cd w F U (hide hck)).mono ?_
  rintro e' w' ⟨rfl, h⟩
  refine ⟨?_, h⟩
  unfold evP
  rw [hq, ← e]
set_option maxRecDepth 100000 in
set_option maxHeartbeats 4000000 in
theorem rtext_okn (p b o L cap A : Nat) (a m : Int) (e0 : Value) (l : List Int) (w : World) (hr : Rd w p (.slice (some ⟨b, o, none⟩) L cap) a e0) (hL : L ≤ 100000) (hc : L ≤ cap) (hk : 0 < l.length) (hn : A + l.length ≤ L) (hp : b ≠ p) (h3 : ∀ i (h : i < l.length), w.cell? ⟨b, o + A + i, none⟩ = some (bc l[i]))
  (HC : Hid (Calls Tryz.prog 50 #[.pointer (some ⟨p, 0, none⟩), .int .i64 m] w fun x w' => x = .returned (.int .i64 (l.length : Int)) ∧ Rd w' p (.slice (some ⟨b, o, none⟩) L cap) A .nilIface ∧ Bx p w w')) :
  Calls Tryz.prog 53 #[.pointer (some ⟨p, 0, none⟩), .int .i64 m] w fun x w' => ∃ v, x = .returned v ∧ Sld 0 w.heap.size bc w' v l ∧ Rd w' p (.slice (some ⟨b, o, none⟩) L cap) (A + l.length : Nat) .nilIface ∧ Bx p w w' := by
 obtain ⟨c0, c1, c2, fz⟩ := id hr
 clear hr fz
 have hne : ¬ cap = A := by omega
 have H3 := hide h3
 clear h3
 go_enter Tryz.func53, Tryz.ntmps53
 go_wp2_with (first | (go_at_call 50; refine (HC.out).mono ?_; rintro e w1 ⟨rfl, hr1, hb1⟩; obtain ⟨d0, d1, d2, fz1⟩ := id hr1; have g1 := fz1 1; have g2 := fz1 2; clear fz1; have HR1 := hide hr1; have HB1 := hide hb1; clear hr1 hb1))
 go_quiet (fail)
 go_wp2_with fail
 refine (clone_some b (o + A) (cap - A) l _ (by omega) ?_).mono ?_
 ·intro i hi
  rw [World.cell?_setCell_other _ _ _ _ (by simp), World.cell?_drewN, HB1.out.cell (cell_block (H3.out i hi)) hp]
  exact H3.out i hi
 rintro e w2 ⟨v, rfl, hown, hb2⟩
 have hS := hide ((sld_of_owns 0 hown).more (by have := HB1.out.size; simpa using this))
 have hR2 := hide (((HR1.out.drewN nq).seta (A + l.length)).below hb2)
 have hB2 := hide (((HB1.out.drewN nq).set 1 (.int .i64 (A + l.length))).call hb2)
 clear hown hb2
 go_wp2_with fail
 go_ret
 exact ⟨v, rfl, hS.out, by have := hR2.out; simpa using this, hB2.out⟩
theorem rdata_gs (p : Nat) (v : Value) (l : List Int) (s : Gs) (w : World) (hr : RdG w p v s) (hv : Slx p bc w v l) (hl : l.length ≤ 100000) (hby : Byt l) (hs : s.pt ≤ l.length) :
  Calls Tryz.prog 53 #[.pointer (some ⟨p, 0, none⟩), .int .i64 512] w fun x w' => ∃ u, x = .returned u ∧ Sld 0 w.heap.size bc w' u (gD l s).2 ∧ RdG w' p v (gD l s).1 ∧ Bx p w w' := by
 unfold gD
 by_cases hc : s.c = 0
 ·rw [if_pos hc]
  have hr' : Rd w p v s.pt .nilIface := by unfold RdG at hr; rwa [erN, if_pos hc] at hr
  by_cases h0 : 0 < (textS l s.pt 512).2.2.2.length
  ·have ht : (textS l s.pt 512).1 = 0 := by
    unfold textS at h0 ⊢
    simp only at h0 ⊢
    split at h0
    ·split at h0
     ·simp at h0
     ·rename_i h1 h2; rw [if_pos h1, if_neg h2]
    ·simp at h0
   obtain ⟨k, N, hq, hsm, ht2⟩ := textD_can ht
   rw [ht2] at h0 ⊢
   simp only at h0 ⊢
   have hbd : Byt (l.drop s.pt) := fun x hx => hby x (List.mem_of_mem_drop hx)
   obtain ⟨_, _, n0, n1, _, hkl⟩ := numS_once hbd hq
   rw [List.length_drop] at hkl
   have h1 := rnum_any p v l s.pt 512 w hr' hv.sl hl hby hs
   rw [hq] at h1
   have HC := hide (rint_of p 512 512 N w (by decide) rfl ⟨n0, by omega⟩ (hide h1))
   simp only [erN, if_true] at HC
   obtain ⟨N', rfl⟩ := Int.eq_ofNat_of_zero_le n0
   simp only [Int.toNat_natCast] at *
   rcases hv with ⟨ao, cap, rfl, rfl⟩ | ⟨b, o, cap, rfl, hcap, hp, h3⟩
   ·simp at h0
   ·have hlen : ((l.drop (s.pt + k)).take N').length = N' := by rw [List.length_take, List.length_drop]; omega
    rw [hlen] at h0
    have h4 := rtext_okn p b o l.length cap (s.pt + k) s.pt 512 .nilIface ((l.drop (s.pt + k)).take N') w hr' hl hcap (by omega) (by omega) hp (by
     intro i hi
     rw [hlen] at hi
     have := h3 (s.pt + k + i) (by omega)
     rw [← Nat.add_assoc] at this
     rw [this]
     simp [List.getElem_take, List.getElem_drop]) (by rw [hlen]; exact HC)
    rw [hlen] at h4
    refine h4.mono ?_
    rintro e w' ⟨u, rfl, h5, h6, h7⟩
    refine ⟨u, rfl, h5, ?_, h7⟩
    rw [mkS_zero]
    exact h6
  ·refine (rtext_any p v l s.pt 512 w hr' hv hl hby hs (by decide)).mono ?_
   rintro e w' ⟨u, rfl, h1, h2, h3⟩
   refine ⟨u, rfl, ?_, rdG_mk (fun q => ?_) h2, h3⟩
   ·have e0 : (textS l s.pt 512).2.2.2 = [] := List.length_eq_zero_iff.1 (by omega)
    rw [e0] at h1 ⊢
    obtain ⟨ao, cap, rfl⟩ := h1.form
    exact Sld.nil _ _ _ _ _ _
   ·revert q
    unfold textS
    simp only
    split
    ·split
     ·intro _; rfl
     ·intro q; exact absurd rfl q
    ·intro _; rfl
 ·rw [if_neg hc]
  have hb := hr.bad hc
  refine (rtext_bad p v s.pt s.pt 512 0 _ _ _ w hb (hide (rint_keep p v s.pt 512 _ _ w (by decide) hb))).mono ?_
  rintro e w' ⟨rfl, h2, h3⟩
  exact ⟨_, rfl, Sld.nil _ _ _ _ _ _, by unfold RdG; rw [erN, if_neg hc]; exact h2, h3⟩
theorem gD_pt {l : List Int} {s : Gs} (hb : Byt l) (hs : s.pt ≤ l.length) : (gD l s).1.pt ≤ l.length := by
 unfold gD; split
 ·exact mkS_pt (askS_next l s.pt 3 512 0 hb hs) hs
 ·exact hs
theorem build_oneB (t b : Int) (ao : Option Addr) (n cap : Nat) (W : World) : (Instr.buildSlice 24 1 #[(0, .agg #[.int .i64 t, .int .i64 b, .slice ao n cap])]).run Tryz.prog W = .ok (.slice (some ⟨W.heap.size, 0, none⟩) 1 1) (W.alloc (.cells #[.int .i64 t, .int .i64 b, .slice ao n cap] 48)) := by kernel_rfl
theorem step_build_bt {ops : Array Oper} {o : Oper} {a : Act} {w : World} {K : Act → World → Prop} {Q : Exit → Act → World → Prop} {E : Prop} (hg : o.guard = none) (x : Operand) (ho : o.op = .buildSlice 24 1 #[(0, x)]) (t b : Int) (ao : Option Addr) (n cap : Nat) (hx : a.eval x = .agg #[.int .i64 t, .int .i64 b, .slice ao n cap])
  (h : K (a.put o.dst (.slice (some ⟨w.heap.size, 0, none⟩) 1 1)) (w.alloc (.cells #[.int .i64 t, .int .i64 b, .slice ao n cap] 48))) : if Region.wanted o (yielded ops a.tmps) = true then Oper.wp Tryz.prog o a w K Q else E := by
 have hw : Region.wanted o (yielded ops a.tmps) = true := by simp [Region.wanted, hg]
 rw [if_pos hw]
 have hb := build_oneB t b ao n cap w
 unfold Oper.wp
 simp only [execOp, ho, List.map_toArray, List.map_cons, List.map_nil, hx]
 simp [hb, Result.andThen]
 exact h
theorem step_append_bt {ops : Array Oper} {o : Oper} {a : Act} {w : World} {K : Act → World → Prop} {Q : Exit → Act → World → Prop} {E : Prop} (hg : o.guard = none) (s x : Operand)
  (ho : o.op = .call { callee := .builtin .append, args := #[s, x], argTypes := #[24, 24] }) (C : Nat) (u : Value) (n : Nat) (xs : List Value) (hs : a.eval s = u) (hown : w.ownsRow C 48 3 u n xs) (hB : C ≤ w.heap.size) (ad : Addr) (c : Nat) (news : List Value)
  (hx : a.eval x = .slice (some ad) 1 c) (hl : news.length = 3) (hnews : ∀ j u, news[j]? = some u → w.cell? (ad.add j) = some u) (h1 : ∀ u ∈ news, u.oneCell' = true) (hn : n + 1 ≤ 100000)
  (h : ∀ w' v', w'.ownsRow C 48 3 v' (n + 1) (xs ++ news) → w.grownBy w' u.ownBlock → (v'.ownBlock = u.ownBlock ∨ v'.ownBlock = some w.heap.size) → K (a.put o.dst v') w') : if Region.wanted o (yielded ops a.tmps) = true then Oper.wp Tryz.prog o a w K Q else E := by
 have hw : Region.wanted o (yielded ops a.tmps) = true := by simp [Region.wanted, hg]
 rw [if_pos hw]
 obtain ⟨v', w', hrun, q1, q2, q3⟩ := run_append_bt w o.type C u n xs hown hB ad c news hl hnews h1 hn
 unfold Oper.wp
 simp [execOp, ho, resolve, invoke, builtin, hs, hx, hrun, Result.andThen]
 exact h w' v' q1 q2 q3
def Sln (ok : Nat → Prop) (W : World) (v : Value) (l : List Int) : Prop :=
 (∃ ao cap, l = [] ∧ v = .slice ao 0 cap) ∨
 (∃ b o cap, v = .slice (some ⟨b, o, none⟩) l.length cap ∧ l.length ≤ cap ∧ ok b ∧ ∀ i (h : i < l.length), W.cell? ⟨b, o + i, none⟩ = some (bc l[i]))
theorem Sln.sl {ok : Nat → Prop} {W : World} {v : Value} {l : List Int} (h : Sln ok W v l) : Sl bc W v l := by
 rcases h with h | ⟨b, o, cap, h1, h2, _, h3⟩
 ·exact .inl h
 ·exact .inr ⟨b, o, cap, h1, h2, h3⟩
theorem Sln.nil (ok : Nat → Prop) (w : World) (ao : Option Addr) (cap : Nat) : Sln ok w (.slice ao 0 cap) [] := .inl ⟨_, _, rfl, rfl⟩
theorem Sln.imp {ok ok' : Nat → Prop} {W W' : World} {v : Value} {l : List Int} (h : Sln ok W v l) (hk : ∀ b, b < W.heap.size → ok b → ok' b) (hc : ∀ b i, b < W.heap.size → ok b → W'.cell? ⟨b, i, none⟩ = W.cell? ⟨b, i, none⟩) : Sln ok' W' v l := by
 rcases h with h | ⟨b, o, cap, h1, h2, h0, h3⟩
 ·exact .inl h
 ·rcases l with _ | ⟨x, l⟩
  ·exact .inl ⟨_, _, rfl, h1⟩
  ·have hb := cell_block (h3 0 (by simp))
   exact .inr ⟨b, o, cap, h1, h2, hk b hb h0, fun i hi => (hc b _ hb h0).trans (h3 i hi)⟩
theorem Sld.ln {n : Nat} {W : World} {v : Value} {l : List Int} (h : Sld 0 n bc W v l) : Sln (fun b => n ≤ b) W v l := by
 rcases h with h | ⟨b, o, cap, h1, h2, h0, h3⟩
 ·exact .inl h
 ·exact .inr ⟨b, o, cap, h1, h2, by omega, h3⟩
def BlN (ok : Nat → Prop) (W : World) (v : Value) (qs : List Bq) : Prop :=
 ((∃ ao cap, qs = [] ∧ v = .slice ao 0 cap) ∨ (∃ b o cap, v = .slice (some ⟨b, o, none⟩) qs.length cap ∧ qs.length ≤ cap ∧ ok b ∧ 0 < qs.length ∧ W.rangeAt b o (bcs qs))) ∧ ∀ q ∈ qs, Rl ok ok W q.u q.ps
theorem BlN.bl {ok : Nat → Prop} {W : World} {v : Value} {qs : List Bq} (h : BlN ok W v qs) : Bl W v qs := by
 refine ⟨?_, fun q hq => (h.2 q hq).any⟩
 rcases h.1 with h1 | ⟨b, o, cap, h1, h2, _, h3, h4⟩
 ·exact .inl h1
 ·exact .inr ⟨b, o, cap, h1, h2, h3, h4⟩
theorem BlN.imp {ok ok' : Nat → Prop} {W W' : World} {v : Value} {qs : List Bq} (h : BlN ok W v qs) (hk : ∀ b, b < W.heap.size → ok b → ok' b) (hc : ∀ b i, b < W.heap.size → ok b → W'.cell? ⟨b, i, none⟩ = W.cell? ⟨b, i, none⟩) : BlN ok' W' v qs := by
 refine ⟨?_, fun q hq => (h.2 q hq).imp hk hk (fun b i hl q => hc b i hl (q.elim id id))⟩
 rcases h.1 with h1 | ⟨b, o, cap, h1, h2, h3, h4, h5⟩
 ·exact .inl h1
 ·have hl : b < W.heap.size := cell_block (h5 0 _ (List.getElem?_eq_getElem (by rw [bcs_len]; omega)))
  exact .inr ⟨b, o, cap, h1, h2, hk b hl h3, h4, range_imp h5 (fun i hl => hc b i hl h3)⟩
def IsMn (ok : Nat → Prop) (W : World) (v : Value) (m : Ms) : Prop := ∃ ub ud qs, v = .agg (cellsM m ub ud).toArray ∧ BlN ok W ub qs ∧ bts qs = m.bs ∧ Sln ok W ud m.da
theorem IsMn.is {ok : Nat → Prop} {W : World} {v : Value} {m : Ms} (h : IsMn ok W v m) : IsM W v m := by
 obtain ⟨ub, ud, qs, h1, h2, h3, h4⟩ := h
 exact ⟨ub, ud, qs, h1, ⟨h2.bl, h3, h4.sl⟩⟩
theorem IsMn.imp {ok ok' : Nat → Prop} {W W' : World} {v : Value} {m : Ms} (h : IsMn ok W v m) (hk : ∀ b, b < W.heap.size → ok b → ok' b) (hc : ∀ b i, b < W.heap.size → ok b → W'.cell? ⟨b, i, none⟩ = W.cell? ⟨b, i, none⟩) : IsMn ok' W' v m := by
 obtain ⟨ub, ud, qs, h1, h2, h3, h4⟩ := h
 exact ⟨ub, ud, qs, h1, h2.imp hk hc, h3, h4.imp hk hc⟩
theorem isMn_zero (ok : Nat → Prop) (W : World) : IsMn ok W (.agg (cellsM Ms.zero (.slice none 0 0) (.slice none 0 0)).toArray) Ms.zero := ⟨_, _, [], rfl, ⟨.inl ⟨_, _, rfl, rfl⟩, fun q hq => by simp at hq⟩, rfl, Sln.nil _ _ _ _⟩
theorem range_set {W : World} {b i : Nat} {cs : List Value} {x : Value} (h : W.rangeAt b 0 cs) (hi : i < cs.length) : (W.setCell ⟨b, i, none⟩ x).rangeAt b 0 (cs.set i x) := fun j u hj => by
 rw [Nat.zero_add]
 by_cases e : i = j
 ·subst e
  rw [List.getElem?_set_self hi] at hj
  cases hj
  have := h i _ (List.getElem?_eq_getElem hi)
  rw [Nat.zero_add] at this
  exact World.cell?_setCell_same _ _ _ this
 ·rw [List.getElem?_set_ne e] at hj
  rw [cell_off e]
  have := h j u hj
  rwa [Nat.zero_add] at this
structure Fm (p : Nat) (w W : World) (v : Value) (s : Gs) (m : Ms) (ub ud : Value) (qs : List Bq) : Prop where
 rd : RdG W p v s
 rg : W.rangeAt (w.heap.size + 1) 0 (cellsM m ub ud)
 fz : ∀ i, W.frozen? ⟨w.heap.size + 1, i, none⟩ = false
 th : W.there w.heap.size 0 15
 own : W.ownsRow (w.heap.size + 2) 48 3 ub qs.length (bcs qs)
 el : ∀ q ∈ qs, Rl (fun k => (w.heap.size + 2 ≤ k ∧ ub.ownBlock ≠ some k)) (fun k => (w.heap.size + 2 ≤ k ∧ ub.ownBlock ≠ some k)) W q.u q.ps
 bs : bts qs = m.bs
 da : Sln (fun k => (w.heap.size + 2 ≤ k ∧ ub.ownBlock ≠ some k)) W ud m.da
 bx : Bx p w W
 hp : p < w.heap.size
section
variable {p : Nat} {w W W' : World} {v : Value} {s s' : Gs} {m m' : Ms} {ub ud ub' ud' : Value} {qs : List Bq}
theorem Fm.sz (h : Fm p w W v s m ub ud qs) : w.heap.size + 1 < W.heap.size := cell_block (h.rg 0 _ rfl)
theorem Fm.ob (h : Fm p w W v s m ub ud qs) : ∀ g, ub.ownBlock = some g → w.heap.size + 2 ≤ g ∧ g < W.heap.size := fun g hg => h.own.lt g hg
theorem Fm.step (h : Fm p w W v s m ub ud qs) (hr : RdG W' p v s') (hb : Bx p W W') : Fm p w W' v s' m ub ud qs := by
 have hz := h.sz
 have hp := h.hp
 have hX : w.heap.size + 1 ≠ p := by omega
 have hR : w.heap.size ≠ p := by omega
 exact ⟨hr, range_imp h.rg (fun i _ => hb.cell hz hX), fun i => by rw [hb.frozen hz hX]; exact h.fz i, fun j hj => by rw [hb.cell (by omega) hR, hb.frozen (by omega) hR]; exact h.th j hj, owns_bxp h.own hb (by omega), fun q hq => (h.el q hq).imp (fun _ _ k => k) (fun _ _ k => k) (fun k i hl hk => hb.cell hl (by rcases hk with q | q <;> have := q.1 <;> omega)), h.bs, h.da.imp (fun _ _ k => k) (fun k i hl hk => hb.cell hl (by have := hk.1; omega)), h.bx.trans hb, h.hp⟩
theorem Fm.below (h : Fm p w W v s m ub ud qs) (hb : Below W.heap.size W W') : Fm p w W' v s m ub ud qs := h.step (h.rd.below hb) (Bx.of hb)
theorem Fm.set (h : Fm p w W v s m ub ud qs) {i : Nat} {x : Value} (hi : i < 15) (hc : cellsM m' ub ud' = (cellsM m ub ud).set i x) (hm : m'.bs = m.bs) (hd : Sln (fun k => (w.heap.size + 2 ≤ k ∧ ub.ownBlock ≠ some k)) W ud' m'.da) : Fm p w (W.setCell ⟨w.heap.size + 1, i, none⟩ x) v s m' ub ud' qs := by
 have ho : ∀ b j, b ≠ w.heap.size + 1 → (W.setCell ⟨w.heap.size + 1, i, none⟩ x).cell? ⟨b, j, none⟩ = W.cell? ⟨b, j, none⟩ := fun b j hb => World.cell?_setCell_other _ _ _ _ (fun q => hb (congrArg Addr.block q).symm)
 refine ⟨rdG_set h.rd (by have := h.hp; omega), by rw [hc]; exact range_set h.rg hi, fun j => by simp [h.fz j], fun j hj => by rw [ho _ _ (by omega)]; simpa using h.th j hj, owns_set h.own (by omega), fun q hq => (h.el q hq).imp (fun _ _ k => k) (fun _ _ k => k) (fun k j hl hk => ho k j (by rcases hk with q | q <;> have := q.1 <;> omega)), by rw [hm]; exact h.bs, hd.imp (fun _ _ k => k) (fun k j _ hk => ho k j (by have := hk.1; omega)), h.bx.fresh (by omega), h.hp⟩
theorem Fm.app (h : Fm p w W v s m ub ud qs) {q : Bq} (hq : Rl (fun k => (w.heap.size + 2 ≤ k ∧ ub.ownBlock ≠ some k)) (fun k => (w.heap.size + 2 ≤ k ∧ ub.ownBlock ≠ some k)) W q.u q.ps) (ho : W'.ownsRow (w.heap.size + 2) 48 3 ub' (qs.length + 1) (bcs qs ++ bce q)) (hg : W.grownBy W' ub.ownBlock) (hu : ub'.ownBlock = ub.ownBlock ∨ ub'.ownBlock = some W.heap.size) (hm : m' = { m with bs := m.bs ++ [btq q] }) : Fm p w (W'.setCell ⟨w.heap.size + 1, 11, none⟩ ub') v s m' ub' ud (qs ++ [q]) := by
 subst hm
 have hz := h.sz
 have hp := h.hp
 have hne : ∀ k, k < w.heap.size + 2 → ub.ownBlock ≠ some k := fun k hk e => by have := (h.ob k e).1; omega
 have hc : ∀ k i, k < W.heap.size → ub.ownBlock ≠ some k → W'.cell? ⟨k, i, none⟩ = W.cell? ⟨k, i, none⟩ := fun k i hk hn => World.cell?_of_block (hg.block k hk (fun e => hn e.symm))
 have hf : ∀ k i, k < W.heap.size → ub.ownBlock ≠ some k → W'.frozen? ⟨k, i, none⟩ = W.frozen? ⟨k, i, none⟩ := fun k i hk hn => World.frozen?_of_block (hg.block k hk (fun e => hn e.symm))
 have hs : ∀ k j, k ≠ w.heap.size + 1 → (W'.setCell ⟨w.heap.size + 1, 11, none⟩ ub').cell? ⟨k, j, none⟩ = W'.cell? ⟨k, j, none⟩ := fun k j hk => World.cell?_setCell_other _ _ _ _ (fun q => hk (congrArg Addr.block q).symm)
 have hk' : ∀ k, k < W.heap.size → (w.heap.size + 2 ≤ k ∧ ub.ownBlock ≠ some k) → (w.heap.size + 2 ≤ k ∧ ub'.ownBlock ≠ some k) := fun k hl hk => ⟨hk.1, by
  rcases hu with e | e
  ·rw [e]; exact hk.2
  ·rw [e]; intro q; cases q; omega⟩
 have hcc : ∀ k i, k < W.heap.size → (w.heap.size + 2 ≤ k ∧ ub.ownBlock ≠ some k) → (W'.setCell ⟨w.heap.size + 1, 11, none⟩ ub').cell? ⟨k, i, none⟩ = W.cell? ⟨k, i, none⟩ := fun k i hl hk => by
  rw [hs k i (by have := hk.1; omega)]; exact hc k i hl hk.2
 have hrow : ∀ r : Bq, Rl (fun k => (w.heap.size + 2 ≤ k ∧ ub.ownBlock ≠ some k)) (fun k => (w.heap.size + 2 ≤ k ∧ ub.ownBlock ≠ some k)) W r.u r.ps → Rl (fun k => w.heap.size + 2 ≤ k ∧ ub'.ownBlock ≠ some k) (fun k => w.heap.size + 2 ≤ k ∧ ub'.ownBlock ≠ some k) (W'.setCell ⟨w.heap.size + 1, 11, none⟩ ub') r.u r.ps := fun r hr => hr.imp hk' hk' (fun k i hl hk => hcc k i hl (hk.elim id id))
 have hrg : W'.rangeAt (w.heap.size + 1) 0 (cellsM m ub ud) := range_imp h.rg (fun i hl => hc _ i hl (hne _ (by omega)))
 refine ⟨rdG_set ⟨(hc p 0 (by omega) (hne p (by omega))).trans h.rd.c0, (hc p 1 (by omega) (hne p (by omega))).trans h.rd.c1, (hc p 2 (by omega) (hne p (by omega))).trans h.rd.c2, fun i => (hf p i (by omega) (hne p (by omega))).trans (h.rd.fz i)⟩ (by omega), range_set hrg (i := 11) (show 11 < 15 by decide), fun i => by simp [hf _ i hz (hne _ (by omega)), h.fz i], fun j hj => ?_, owns_set (by rw [bcs_app, bcs_one, List.length_append]; exact ho) (by omega), fun r hr => ?_, by simp [bts, h.bs.symm], h.da.imp hk' hcc, ?_, h.hp⟩
 ·have := h.th j hj
  rw [hs _ _ (by omega), hc _ _ (by omega) (hne _ (by omega))]
  refine ⟨this.1, ?_⟩
  have h2 := hf w.heap.size j (by omega) (hne _ (by omega))
  simpa [h2] using this.2
 ·rcases List.mem_append.1 hr with e | e
  ·exact hrow r (h.el r e)
  ·simp at e; subst e; exact hrow r hq
 ·exact Bx.fresh ⟨hg.os.trans h.bx.os, hg.tape.trans h.bx.tape, hg.output.trans h.bx.output, Nat.le_trans h.bx.size hg.size, fun k hk hp => (hg.block k (by omega) (fun e => hne k (by omega) e.symm)).trans (h.bx.block k hk hp)⟩ (by omega)
end
theorem fm_new {p : Nat} {w : World} {v : Value} {s : Gs} (hrd : RdG w p v s) : Fm p w ((w.alloc (.cells #[.int .i64 0, .int .i64 0, .int .i64 0, .int .i64 0, .bool false, .bool false, .int .i64 0, .int .i64 0, .int .i64 0, .int .i64 0, .int .i64 0, .slice none 0 0, .int .i64 0, .int .i64 0, .slice none 0 0] 26)).alloc (.cells #[.int .i64 0, .int .i64 0, .int .i64 0, .int .i64 0, .bool false, .bool false, .int .i64 0, .int .i64 0, .int .i64 0, .int .i64 0, .int .i64 0, .slice none 0 0, .int .i64 0, .int .i64 0, .slice none 0 0] 26)) v s Ms.zero (.slice none 0 0) (.slice none 0 0) [] := by
 have hbl : Below w.heap.size w ((w.alloc (.cells #[.int .i64 0, .int .i64 0, .int .i64 0, .int .i64 0, .bool false, .bool false, .int .i64 0, .int .i64 0, .int .i64 0, .int .i64 0, .int .i64 0, .slice none 0 0, .int .i64 0, .int .i64 0, .slice none 0 0] 26)).alloc (.cells #[.int .i64 0, .int .i64 0, .int .i64 0, .int .i64 0, .bool false, .bool false, .int .i64 0, .int .i64 0, .int .i64 0, .int .i64 0, .int .i64 0, .slice none 0 0, .int .i64 0, .int .i64 0, .slice none 0 0] 26)) := ((Below.refl _ _).alloc (Nat.le_refl _) _).alloc (by simp) _
 have hr := range_new (w.alloc (.cells #[.int .i64 0, .int .i64 0, .int .i64 0, .int .i64 0, .bool false, .bool false, .int .i64 0, .int .i64 0, .int .i64 0, .int .i64 0, .int .i64 0, .slice none 0 0, .int .i64 0, .int .i64 0, .slice none 0 0] 26)) [.int .i64 0, .int .i64 0, .int .i64 0, .int .i64 0, .bool false, .bool false, .int .i64 0, .int .i64 0, .int .i64 0, .int .i64 0, .int .i64 0, .slice none 0 0, .int .i64 0, .int .i64 0, .slice none 0 0] 26
 rw [show (w.alloc (.cells #[.int .i64 0, .int .i64 0, .int .i64 0, .int .i64 0, .bool false, .bool false, .int .i64 0, .int .i64 0, .int .i64 0, .int .i64 0, .int .i64 0, .slice none 0 0, .int .i64 0, .int .i64 0, .slice none 0 0] 26)).heap.size = w.heap.size + 1 by simp] at hr
 refine ⟨hrd.below hbl, hr, fun i => by simp, fun j hj => ?_, World.ownsRow_nil _ _ _ _, fun q hq => by simp at hq, rfl, Sln.nil _ _ _ _, Bx.of hbl, hrd.lt⟩
 refine World.there_alloc (o := 0) (n := 15) (fun j hj => ⟨?_, by simp⟩) _ j hj
 exact (range_new w [.int .i64 0, .int .i64 0, .int .i64 0, .int .i64 0, .bool false, .bool false, .int .i64 0, .int .i64 0, .int .i64 0, .int .i64 0, .int .i64 0, .slice none 0 0, .int .i64 0, .int .i64 0, .slice none 0 0] 26).isSome j hj
theorem fm_isM {p : Nat} {w W W' : World} {v : Value} {s : Gs} {m : Ms} {ub ud : Value} {qs : List Bq} (h : Fm p w W v s m ub ud qs) (hc : ∀ k i, k ≠ w.heap.size → W'.cell? ⟨k, i, none⟩ = W.cell? ⟨k, i, none⟩) : IsMn (fun k => w.heap.size + 2 ≤ k) W' (.agg (cellsM m ub ud).toArray) m := by
 refine ⟨ub, ud, qs, rfl, ⟨?_, fun q hq => (h.el q hq).imp (fun k _ hk => hk.1) (fun k _ hk => hk.1) (fun k i _ hk => hc k i (by rcases hk with q | q <;> have := q.1 <;> omega))⟩, h.bs, h.da.imp (fun k _ hk => hk.1) (fun k i _ hk => hc k i (by have := hk.1; omega))⟩
 by_cases h0 : 0 < qs.length
 ·obtain ⟨g, cap, rfl, e1, e2, e3, e4, _⟩ := owns_range h.own h0
  exact .inr ⟨g, 0, cap, rfl, e2, e1, h0, range_imp e4 (fun i _ => hc g i (by omega))⟩
 ·have e : qs = [] := List.length_eq_zero_iff.1 (by omega)
  subst e
  rcases h.own.2 with ⟨rfl, _⟩ | ⟨g, cap, cur, rfl, _⟩ <;> exact .inl ⟨_, _, rfl, rfl⟩
def msP (a : List Int) (f : List Bool) (n : List Int) (d : List Int) (b : List Bt) : Ms := mkM 0 a f n [d] b
section
variable {p : Nat} {w W : World} {v : Value} {s : Gs} {a n d : List Int} {f : List Bool} {b : List Bt} {ub ud : Value} {qs : List Bq}
theorem Fm.setA (h : Fm p w W v s (msP a f n d b) ub ud qs) {j : Nat} (x : Int) (hl : a.length = j) (hj : j < 3) : Fm p w (W.setCell ⟨w.heap.size + 1, ofH j, none⟩ (.int .i64 x)) v s (msP (a ++ [x]) f n d b) ub ud qs := by
 subst hl
 rcases a with _ | ⟨a0, _ | ⟨a1, _ | ⟨a2, r⟩⟩⟩
 ·exact h.set (i := 1) (by decide) rfl rfl h.da
 ·exact h.set (i := 2) (by decide) rfl rfl h.da
 ·exact h.set (i := 3) (by decide) rfl rfl h.da
 ·simp at hj; omega
theorem Fm.setF (h : Fm p w W v s (msP a f n d b) ub ud qs) {j : Nat} (x : Bool) (hl : f.length = j) (hj : j < 2) : Fm p w (W.setCell ⟨w.heap.size + 1, j + 4, none⟩ (.bool x)) v s (msP a (f ++ [x]) n d b) ub ud qs := by
 subst hl
 rcases f with _ | ⟨f0, _ | ⟨f1, r⟩⟩
 ·exact h.set (i := 4) (by decide) rfl rfl h.da
 ·exact h.set (i := 5) (by decide) rfl rfl h.da
 ·simp at hj; omega
theorem Fm.setN (h : Fm p w W v s (msP a f n d b) ub ud qs) {j : Nat} (x : Int) (hl : n.length = j) (hj : j < 7) : Fm p w (W.setCell ⟨w.heap.size + 1, ofN j, none⟩ (.int .i64 x)) v s (msP a f (n ++ [x]) d b) ub ud qs := by
 subst hl
 rcases n with _ | ⟨n0, _ | ⟨n1, _ | ⟨n2, _ | ⟨n3, _ | ⟨n4, _ | ⟨n5, _ | ⟨n6, r⟩⟩⟩⟩⟩⟩⟩
 ·exact h.set (i := 6) (by decide) rfl rfl h.da
 ·exact h.set (i := 7) (by decide) rfl rfl h.da
 ·exact h.set (i := 8) (by decide) rfl rfl h.da
 ·exact h.set (i := 9) (by decide) rfl rfl h.da
 ·exact h.set (i := 10) (by decide) rfl rfl h.da
 ·exact h.set (i := 12) (by decide) rfl rfl h.da
 ·exact h.set (i := 13) (by decide) rfl rfl h.da
 ·simp at hj; omega
theorem Fm.padF (h : Fm p w W v s (msP a f n d b) ub ud qs) : Fm p w W v s (msP a (f ++ [false]) n d b) ub ud qs := by
 rw [show msP a (f ++ [false]) n d b = msP a f n d b by unfold msP mkM; rw [getD_pad, getD_pad]]
 exact h
theorem Fm.padN (h : Fm p w W v s (msP a f n d b) ub ud qs) : Fm p w W v s (msP a f (n ++ [0]) d b) ub ud qs := by
 rw [show msP a f (n ++ [0]) d b = msP a f n d b by unfold msP mkM; rw [getD_pad, getD_pad, getD_pad, getD_pad, getD_pad, getD_pad, getD_pad]]
 exact h
theorem Fm.setD (h : Fm p w W v s (msP a f n [] b) ub (.slice none 0 0) qs) (x : List Int) (u : Value) (hu : Sln (fun k => (w.heap.size + 2 ≤ k ∧ ub.ownBlock ≠ some k)) W u x) : Fm p w (W.setCell ⟨w.heap.size + 1, 14, none⟩ u) v s (msP a f n x b) ub u qs := h.set (i := 14) (by decide) rfl rfl hu
theorem Fm.cA (h : Fm p w W v s (msP a f n d b) ub ud qs) (j : Nat) (hj : j < 3) : ∃ y, W.cell? ⟨w.heap.size + 1, ofH j, none⟩ = some (.int .i64 y) ∧ W.frozen? ⟨w.heap.size + 1, ofH j, none⟩ = false := ⟨_, cellH h.rg j hj, h.fz _⟩
theorem Fm.cN (h : Fm p w W v s (msP a f n d b) ub ud qs) (j : Nat) (hj : j < 7) : ∃ y, W.cell? ⟨w.heap.size + 1, ofN j, none⟩ = some (.int .i64 y) ∧ W.frozen? ⟨w.heap.size + 1, ofN j, none⟩ = false := ⟨_, cellN h.rg j hj, h.fz _⟩
end
theorem gN_range {l : List Int} {s : Gs} (hby : Byt l) (m : Int) (hm : 0 ≤ m) : 0 ≤ (gN m l s).2 ∧ (gN m l s).2 ≤ m := by
 unfold gN
 split
 ·rcases hq : numS (l.drop s.pt) m with ⟨c, k, n⟩
  by_cases hc : c = 0
  ·subst hc
   obtain ⟨_, _, e3, _, e5, _⟩ := numS_once (fun x hx => hby x (List.mem_of_mem_drop hx)) hq
   exact ⟨e3, e5⟩
  ·have := (numS_bad hq hc).2
   simp only
   omega
 ·exact ⟨Int.le_refl 0, hm⟩
theorem cellsM_one (m : Ms) (ab ad : Option Addr) (nb cb nd cd : Nat) : (cellsM m (.slice ab nb cb) (.slice ad nd cd)).toArray.all (·.oneCell') = true :=
 all_oneCell_toArray (fun v hv => by
  simp only [cellsM, List.mem_cons, List.not_mem_nil, or_false] at hv
  rcases hv with rfl | rfl | rfl | rfl | rfl | rfl | rfl | rfl | rfl | rfl | rfl | rfl | rfl | rfl | rfl <;> rfl)
def Ms.k0 (m : Ms) : Ms := { m with k := 0 }
set_option maxRecDepth 100000 in
set_option maxHeartbeats 64000000 in
theorem mrf_any (p : Nat) (v : Value) (l : List Int) (s : Gs) (k : Int) (w : World) (hrd : RdG w p v s) (hv : Slx p bc w v l) (hl : l.length ≤ 100000) (hby : Byt l) (hs : s.pt ≤ l.length) (hk : 1 ≤ k ∧ k ≤ 8) (hg : Hnd w) (hpz : p ≠ 0) :
  Calls Tryz.prog 17 #[.pointer (some ⟨p, 0, none⟩), .int .u16 (sbjM k)] w fun e w' => ∃ vx, e = .returned vx ∧ IsMn (fun b => w.heap.size ≤ b) w' vx (bodyM l k s).2.k0 ∧ RdG w' p v (bodyM l k s).1 ∧ Bx p w w' := by
 obtain ⟨q0, q1, _, _, _, _, _, _, _, q9, q10⟩ := bitM_has hk
 have HF0 : Hid (Fm p w ((w.alloc (.cells #[.int .i64 0, .int .i64 0, .int .i64 0, .int .i64 0, .bool false, .bool false, .int .i64 0, .int .i64 0, .int .i64 0, .int .i64 0, .int .i64 0, .slice none 0 0, .int .i64 0, .int .i64 0, .slice none 0 0] 26)).alloc (.cells #[.int .i64 0, .int .i64 0, .int .i64 0, .int .i64 0, .bool false, .bool false, .int .i64 0, .int .i64 0, .int .i64 0, .int .i64 0, .int .i64 0, .slice none 0 0, .int .i64 0, .int .i64 0, .slice none 0 0] 26)) v s (msP [] [] [] [] []) (.slice none 0 0) (.slice none 0 0) []) := hide (fm_new hrd)
 have HV := hide hv
 have HBY := hide hby
 have HS := hide hs
 have HG := hide hg
 clear hrd hv hby hs hg
 go_enter Tryz.func17, Tryz.ntmps17
 go_upto_region 2 with fail
 generalize (w.alloc (.cells #[.int .i64 0, .int .i64 0, .int .i64 0, .int .i64 0, .bool false, .bool false, .int .i64 0, .int .i64 0, .int .i64 0, .int .i64 0, .int .i64 0, .slice none 0 0, .int .i64 0, .int .i64 0, .slice none 0 0] 26)).alloc (.cells #[.int .i64 0, .int .i64 0, .int .i64 0, .int .i64 0, .bool false, .bool false, .int .i64 0, .int .i64 0, .int .i64 0, .int .i64 0, .int .i64 0, .slice none 0 0, .int .i64 0, .int .i64 0, .slice none 0 0] 26) = X0 at HF0 ⊢
 go_upto_region 3 with (first | (go_at_call 49; refine (heads_any _ _).mono ?_; rintro e Y ⟨rfl, hY⟩; unfold ptH))
 have HF1 := hide (HF0.out.below hY)
 clear HF0 hY
 go_wp2_with fail
 go_loopw [11] (fun i wr => ∃ j : Nat, j ≤ 3 ∧ i = .int .i64 (j : Int) ∧ Hid (Fm p w wr v (fL 0 (gN 1073741824 l) (h3.take j) s).1 (msP (fL 0 (gN 1073741824 l) (h3.take j) s).2 [] [] [] []) (.slice none 0 0) (.slice none 0 0) [])) (fun i _ => 3 - (intOf i).toNat)
 case atStart => exact ⟨0, Nat.zero_le _, rfl, HF1⟩
 case round =>
  clear HF1
  obtain ⟨j, hj, rfl, HFJ⟩ := hrel
  by_cases hlt : j < 3
  ·have hltI : (j : Int) < 3 := by omega
   have hix := idxH (w.heap.size + 1) j hlt
   have HE := hide (fL_take 0 (gN 1073741824 l) h3 s j (by exact hlt))
   have hlen : (fL 0 (gN 1073741824 l) (h3.take j) s).2.length = j := by rw [fL_len, List.length_take]; exact Nat.min_eq_left (Nat.le_of_lt hlt)
   have hpt : (fL 0 (gN 1073741824 l) (h3.take j) s).1.pt ≤ l.length := fL_pt 0 (gN 1073741824 l) l.length (fun s hs => gN_pt HBY.out hs) _ _ HS.out
   have hjt : h3.getD j false = true := by
    have hc : j = 0 ∨ j = 1 ∨ j = 2 := by omega
    rcases hc with rfl | rfl | rfl <;> rfl
   rw [hjt] at HE
   generalize fL 0 (gN 1073741824 l) (h3.take j) s = Q at *
   obtain ⟨sq, xs⟩ := Q
   simp only at HFJ HE hlen hpt
   have HC := hide (rint_gs p v l 1073741824 sq wr HFJ.out.rd (HV.out.bx HFJ.out.bx) hl HBY.out hpt (by decide) (by decide))
   have HE2 := HE.out
   simp only [↓reduceIte] at HE2
   have HE3 := hide HE2
   clear HE2 HE
   generalize gN 1073741824 l sq = Q2 at *
   obtain ⟨sq2, xq⟩ := Q2
   simp only at HC HE3
   go_wp2_with (first | (go_at_call 50; refine HC.out.mono ?_; rintro e w5 ⟨rfl, hr5, hb5⟩; have HF5 := hide (HFJ.out.step hr5 hb5); clear hr5 hb5; obtain ⟨y5, c5, f5⟩ := HF5.out.cA j hlt))
   have HF6 := hide (HF5.out.setA xq hlen hlt)
   go_roundw
   case rel => exact ⟨j + 1, by omega, by go_num, hide (by rw [HE3.out]; exact HF6.out)⟩
   case measure => simp [intOf]; omega
  ·obtain rfl : j = 3 := by omega
   clear hlt hj
   have HF0 : Hid (Fm p w wr v (fL 0 (gN 1073741824 l) h3 s).1 (msP (fL 0 (gN 1073741824 l) h3 s).2 [] [] [] []) (.slice none 0 0) (.slice none 0 0) []) := HFJ
   have HS2 : Hid ((fL 0 (gN 1073741824 l) h3 s).1.pt ≤ l.length) := hide (fL_pt 0 (gN 1073741824 l) l.length (fun s hs => gN_pt HBY.out hs) _ _ HS.out)
   clear HFJ HS
   have HS := HS2
   clear HS2
   generalize hA : fL 0 (gN 1073741824 l) h3 s = Q at *
   obtain ⟨As, Ax⟩ := Q
   simp only at HF0 HS
   have HQA := hide hA
   clear hA
   obtain ⟨VA, rfl⟩ : ∃ x : World, x = wr := ⟨_, rfl⟩
   have HH := hide (fun W => mhas_any (sbjM k) 1 W)
   rw [q0] at HH
   go_upto_if 20 with (go_at_call 34; refine (HH.out _).mono ?_; rintro e w1 ⟨rfl, hw1⟩; rw [hw1]; clear hw1 w1)
   go_cut [] (fun W => Hid (Fm p w W v (if hasM k 97 then gF l As else (As, false)).1 (msP Ax ([] ++ [(if hasM k 97 then gF l As else (As, false)).2]) [] [] []) (.slice none 0 0) (.slice none 0 0) []))
   case first =>
    cases hh : hasM k 97 with
    | true =>
     have HC := hide (rflag_gs p v l As _ HF0.out.rd (HV.out.bx HF0.out.bx) hl HS.out)
     go_wp2_with (first | (go_at_call 51; refine HC.out.mono ?_; rintro e w5 ⟨rfl, hr5, hb5⟩; have HF5 := hide (HF0.out.step hr5 hb5); clear hr5 hb5; have c5 := HF5.out.rg 4 _ rfl; rw [Nat.zero_add] at c5; have f5 := HF5.out.fz 4))
     go_meet
     exact hide (by rw [hh]; exact HF5.out.setF (gF l As).2 rfl (by decide))
    | false =>
     go_wp2_with fail
     go_meet
     exact hide (by rw [hh]; exact HF0.out.padF)
   case rest =>
    clear HF0 HH
    have HF0 := hcut
    clear hcut
    have HS2 : Hid ((if hasM k 97 then gF l As else (As, false)).1.pt ≤ l.length) := hide (by split; (exact gF_pt HBY.out HS.out); (exact HS.out))
    clear HS
    have HS := HS2
    clear HS2
    generalize hF : (if hasM k 97 then gF l As else (As, false)) = Q at *
    obtain ⟨Fs, Fx⟩ := Q
    simp only at HF0 HS
    have HQF := hide hF
    clear hF
    obtain ⟨VF, rfl⟩ : ∃ x : World, x = wc := ⟨_, rfl⟩
    have HH := hide (fun W => mhas_any (sbjM k) 2 W)
    rw [q1] at HH
    go_upto_if 25 with (go_at_call 34; refine (HH.out _).mono ?_; rintro e w1 ⟨rfl, hw1⟩; rw [hw1]; clear hw1 w1)
    go_cut [] (fun W => Hid (Fm p w W v (if hasM k 103 then gF l Fs else (Fs, false)).1 (msP Ax ([Fx] ++ [(if hasM k 103 then gF l Fs else (Fs, false)).2]) [] [] []) (.slice none 0 0) (.slice none 0 0) []))
    case first =>
     cases hh : hasM k 103 with
     | true =>
      have HC := hide (rflag_gs p v l Fs _ HF0.out.rd (HV.out.bx HF0.out.bx) hl HS.out)
      go_wp2_with (first | (go_at_call 51; refine HC.out.mono ?_; rintro e w5 ⟨rfl, hr5, hb5⟩; have HF5 := hide (HF0.out.step hr5 hb5); clear hr5 hb5; have c5 := HF5.out.rg 5 _ rfl; rw [Nat.zero_add] at c5; have f5 := HF5.out.fz 5))
      go_meet
      exact hide (by rw [hh]; exact HF5.out.setF (gF l Fs).2 rfl (by decide))
     | false =>
      go_wp2_with fail
      go_meet
      exact hide (by rw [hh]; exact HF0.out.padF)
    case rest =>
     clear HF0 HH
     have HF0 := hcut
     clear hcut
     have HS2 : Hid ((if hasM k 103 then gF l Fs else (Fs, false)).1.pt ≤ l.length) := hide (by split; (exact gF_pt HBY.out HS.out); (exact HS.out))
     clear HS
     have HS := HS2
     clear HS2
     generalize hG : (if hasM k 103 then gF l Fs else (Fs, false)) = Q at *
     obtain ⟨Gs_, Gx⟩ := Q
     simp only at HF0 HS
     have HQG := hide hG
     clear hG
     obtain ⟨VG, rfl⟩ : ∃ x : World, x = wc := ⟨_, rfl⟩
     go_upto_region 12 with (first | (go_at_call 52; refine (numbs_any _ _).mono ?_; rintro e Y ⟨rfl, hY⟩; unfold ptN))
     have HF1 := hide (HF0.out.below hY)
     clear HF0 hY
     go_wp2_with fail
     go_loopw [30] (fun i wr => ∃ j : Nat, j ≤ 7 ∧ i = .int .i64 (j : Int) ∧ Hid (Fm p w wr v (fL 0 (gN 1073741824 l) ((hN7 k).take j) Gs_).1 (msP Ax [Fx, Gx] (fL 0 (gN 1073741824 l) ((hN7 k).take j) Gs_).2 [] []) (.slice none 0 0) (.slice none 0 0) [])) (fun i _ => 7 - (intOf i).toNat)
     case atStart => exact ⟨0, Nat.zero_le _, rfl, HF1⟩
     case round =>
      clear HF1
      obtain ⟨j, hj, rfl, HFJ⟩ := hrel
      by_cases hlt : j < 7
      ·have hltI : (j : Int) < 7 := by omega
       have hix := idxN (w.heap.size + 1) j hlt
       have HE := hide (fL_take 0 (gN 1073741824 l) (hN7 k) Gs_ j (by exact hlt))
       have hlen : (fL 0 (gN 1073741824 l) ((hN7 k).take j) Gs_).2.length = j := by rw [fL_len, List.length_take]; exact Nat.min_eq_left (Nat.le_of_lt hlt)
       have hpt : (fL 0 (gN 1073741824 l) ((hN7 k).take j) Gs_).1.pt ≤ l.length := fL_pt 0 (gN 1073741824 l) l.length (fun s hs => gN_pt HBY.out hs) _ _ HS.out
       have HH := hide (fun W => mhas_any (sbjM k) (4 * 2 ^ j % 65536) W)
       rw [bitN hk j hlt] at HH
       generalize (hN7 k).getD j false = hb at *
       generalize fL 0 (gN 1073741824 l) ((hN7 k).take j) Gs_ = Q at *
       obtain ⟨sq, xs⟩ := Q
       simp only at HFJ HE hlen hpt
       have HC := hide (rint_gs p v l 1073741824 sq wr HFJ.out.rd (HV.out.bx HFJ.out.bx) hl HBY.out hpt (by decide) (by decide))
       cases hb with
       | true =>
        have HE2 := HE.out
        simp only [↓reduceIte] at HE2
        have HE3 := hide HE2
        clear HE2 HE
        generalize gN 1073741824 l sq = Q2 at *
        obtain ⟨sq2, xq⟩ := Q2
        simp only at HC HE3
        go_wp2_with (first | (go_at_call 34; refine (HH.out _).mono ?_; rintro e w1 ⟨rfl, hw1⟩; rw [hw1]; clear hw1 w1) | (go_at_call 50; refine HC.out.mono ?_; rintro e w5 ⟨rfl, hr5, hb5⟩; have HF5 := hide (HFJ.out.step hr5 hb5); clear hr5 hb5; obtain ⟨y5, c5, f5⟩ := HF5.out.cN j hlt))
        have HF6 := hide (HF5.out.setN xq hlen hlt)
        go_roundw
        case rel => exact ⟨j + 1, by omega, by go_num, hide (by rw [HE3.out]; exact HF6.out)⟩
        case measure => simp [intOf]; omega
       | false =>
        have HE2 := HE.out
        simp only [Bool.false_eq_true, ↓reduceIte] at HE2
        have HE3 := hide HE2
        clear HE2 HE
        go_wp2_with (first | (go_at_call 34; refine (HH.out _).mono ?_; rintro e w1 ⟨rfl, hw1⟩; rw [hw1]; clear hw1 w1))
        go_roundw
        case rel => exact ⟨j + 1, by omega, by go_num, hide (by rw [HE3.out]; exact HFJ.out.padN)⟩
        case measure => simp [intOf]; omega
      ·obtain rfl : j = 7 := by omega
       clear hlt hj
       have HF0 : Hid (Fm p w wr v (fL 0 (gN 1073741824 l) (hN7 k) Gs_).1 (msP Ax [Fx, Gx] (fL 0 (gN 1073741824 l) (hN7 k) Gs_).2 [] []) (.slice none 0 0) (.slice none 0 0) []) := HFJ
       have HS2 : Hid ((fL 0 (gN 1073741824 l) (hN7 k) Gs_).1.pt ≤ l.length) := hide (fL_pt 0 (gN 1073741824 l) l.length (fun s hs => gN_pt HBY.out hs) _ _ HS.out)
       clear HFJ HS
       have HS := HS2
       clear HS2
       generalize hN : fL 0 (gN 1073741824 l) (hN7 k) Gs_ = Q at *
       obtain ⟨Ns, Nx⟩ := Q
       simp only at HF0 HS
       have HQN := hide hN
       clear hN
       obtain ⟨VN, rfl⟩ : ∃ x : World, x = wr := ⟨_, rfl⟩
       have HH := hide (fun W => mhas_any (sbjM k) 512 W)
       rw [q9] at HH
       go_upto_if 44 with (go_at_call 34; refine (HH.out _).mono ?_; rintro e w1 ⟨rfl, hw1⟩; rw [hw1]; clear hw1 w1)
       go_cut [] (fun W => ∃ ud, Hid (Fm p w W v (if hasM k 100 then gD l Ns else (Ns, [])).1 (msP Ax [Fx, Gx] Nx (if hasM k 100 then gD l Ns else (Ns, [])).2 []) (.slice none 0 0) ud []))
       case first =>
        cases hh : hasM k 100 with
        | true =>
         have HC := hide (rdata_gs p v l Ns _ HF0.out.rd (HV.out.bx HF0.out.bx) hl HBY.out HS.out)
         have hsz := HF0.out.sz
         go_wp2_with (first | (go_at_call 53; refine HC.out.mono ?_; rintro e w5 ⟨u5', rfl, hu5, hr5, hb5⟩; obtain ⟨a5, c5', e5⟩ := hu5.sl.form; have HU5 := hide hu5; have HF5 := hide (HF0.out.step hr5 hb5); clear hr5 hb5 hu5; have c5 := HF5.out.rg 14 _ rfl; rw [Nat.zero_add] at c5; have f5 := HF5.out.fz 14; subst e5))
         go_meet
         exact ⟨_, hide (by rw [hh]; exact HF5.out.setD _ _ (HU5.out.ln.imp (fun k _ hk => ⟨by omega, fun e => by cases e⟩) (fun _ _ _ _ => rfl)))⟩
        | false =>
         go_wp2_with fail
         go_meet
         exact ⟨_, hide (by rw [hh]; exact HF0.out)⟩
       case rest =>
        clear HF0 HH
        obtain ⟨ud, HF0⟩ := hcut
        have HS2 : Hid ((if hasM k 100 then gD l Ns else (Ns, [])).1.pt ≤ l.length) := hide (by split; (exact gD_pt HBY.out HS.out); (exact HS.out))
        clear HS
        have HS := HS2
        clear HS2
        generalize hD : (if hasM k 100 then gD l Ns else (Ns, [])) = Q at *
        obtain ⟨Ds, Dx⟩ := Q
        simp only at HF0 HS
        have HQD := hide hD
        clear hD
        obtain ⟨VD, rfl⟩ : ∃ x : World, x = wc := ⟨_, rfl⟩
        have HH := hide (fun W => mhas_any (sbjM k) 1024 W)
        rw [q10] at HH
        go_upto_if 49 with (go_at_call 34; refine (HH.out _).mono ?_; rintro e w1 ⟨rfl, hw1⟩; rw [hw1]; clear hw1 w1)
        obtain ⟨bG, hbG⟩ : ∃ x, x = batsG l (if hasM k 98 then (gN 8 l Ds).2 else 0).toNat (if hasM k 98 then (gN 8 l Ds).1 else Ds) := ⟨_, rfl⟩
        go_cut [] (fun W => ∃ ub qs, Hid (Fm p w W v bG.1 (msP Ax [Fx, Gx] Nx Dx bG.2) ub ud qs))
        case first =>
         cases hh : hasM k 98 with
         | true =>
          rw [hh] at hbG
          simp only [↓reduceIte] at hbG
          have HC0 := hide (rint_gs p v l 8 Ds _ HF0.out.rd (HV.out.bx HF0.out.bx) hl HBY.out HS.out (by decide) (by decide))
          have hrg := gN_range (l := l) (s := Ds) HBY.out 8 (by decide)
          have hpt2 : (gN 8 l Ds).1.pt ≤ l.length := gN_pt HBY.out HS.out
          generalize gN 8 l Ds = Q at *
          obtain ⟨s8, x8⟩ := Q
          simp only at HC0 hbG hrg hpt2
          obtain ⟨M, rfl⟩ : ∃ M : Nat, x8 = (M : Int) := ⟨x8.toNat, by omega⟩
          rw [Int.toNat_natCast] at hbG
          have HBG := hide hbG
          clear hbG
          have hM : M ≤ 8 := by omega
          go_upto_region 21 with (first | (go_at_call 50; refine HC0.out.mono ?_; rintro e w5 ⟨rfl, hr5, hb5⟩; have HF5 := hide (HF0.out.step hr5 hb5); clear hr5 hb5))
          clear HF0 HC0
          go_wp2_with fail
          go_loopw [52] (fun i wr => ∃ (j : Nat) (ub : Value) (qs : List Bq), j ≤ M ∧ i = .int .i64 (j : Int) ∧ Hid (Fm p w wr v (batsG l j s8).1 (msP Ax [Fx, Gx] Nx Dx (batsG l j s8).2) ub ud qs)) (fun i _ => M - (intOf i).toNat)
          case atStart => exact ⟨0, _, [], Nat.zero_le _, rfl, HF5⟩
          case round =>
           clear HF5
           obtain ⟨j, ub, qs, hj, rfl, HFJ⟩ := hrel
           by_cases hlt : j < M
           ·have hltI : (j : Int) < (M : Int) := by omega
            have hptj := bats_pt HBY.out hpt2 j
            have hlqs : qs.length ≤ 8 := by have e1 := bats_len l s8 j; have e2 := congrArg List.length HFJ.out.bs; rw [bts_len] at e2; change qs.length = (batsG l j s8).2.length at e2; omega
            have HSU := hide (batsG_succ l j s8)
            generalize batsG l j s8 = Qj at *
            obtain ⟨sj, bsj⟩ := Qj
            simp only at HFJ HSU hptj
            have HC := hide (fun W (h : RdG W p v sj) (hb : Bx p w W) => next_any p v l sj W h (HV.out.bx hb) hl HBY.out hptj (hb.handle hpz HG.out) hpz)
            generalize nextG l sj = RR at *
            obtain ⟨s', x⟩ := RR
            simp only at HC HSU
            obtain ⟨ao, cap, hu⟩ : ∃ ao cap, ub = .slice ao qs.length cap := by
             rcases HFJ.out.own.2 with ⟨rfl, h0⟩ | ⟨g, cap, cur, rfl, _⟩
             ·exact ⟨none, 0, by rw [h0]⟩
             ·exact ⟨_, _, rfl⟩
            subst hu
            go_upto_region 22 with fail
            refine wp_region_held_drew (S := fun _ => True) (by kernel_rfl) trivial (fun hHeld => ?_)
            have HN0 := hide (HFJ.out.below ((Below.refl _ _).drew))
            generalize wr.drew = W0 at HN0 ⊢
            clear HFJ
            refine tk 0 54 (.pointer (some ⟨w.heap.size + 1, 11, none⟩)) rfl rfl hHeld ?_
            simp only [Act.put, zA, zB, zC]
            refine tk 2 56 (.pointer (some ⟨p, 0, none⟩)) rfl rfl hHeld ?_
            simp only [Act.put, zA, zB, zC]
            refine wpAnyH_ready (rs := [1, 3]) (by kernel_rfl) (by simp) ?_
            refine AllReadyH.cons (o := _) rfl (fun K hK => ?_) (AllReadyH.cons (o := _) rfl (fun K hK => ?_) AllReadyH.nil)
            ·have i2 := HN0.out.rg 11 _ rfl
             rw [Nat.zero_add] at i2
             change _ = some (Value.slice ao qs.length cap) at i2
             go_simp
             clear i2
             refine hK.out _ _ ?_ (fun hHeld1 => ?_)
             ·exact trivial
             clear hK K hHeld
             have hHeld := hHeld1
             clear hHeld1
             refine wpAnyH_ready (rs := [3]) (by kernel_rfl) (by simp) ?_
             refine AllReadyH.cons (o := _) rfl (fun K hK => ?_) AllReadyH.nil
             go_simp
             go_at_call 54
             refine (HC.out _ HN0.out.rd HN0.out.bx).mono ?_
             rintro e V1 ⟨vx, rfl, hx, hr, hb⟩
             go_wp2_with fail
             refine hK.out _ _ ?_ (fun hHeld1 => ?_)
             ·exact trivial
             clear hK K hHeld
             have hHeld := hHeld1
             clear hHeld1
             obtain ⟨u0', ps0, rfl, hq2, hq1⟩ := hx
             obtain ⟨a0, c0, rfl⟩ := hq2.form
             have hob := HN0.out.ob
             have hsz := HN0.out.sz
             have HQW : Hid (Rl (fun k => w.heap.size + 2 ≤ k ∧ (Value.slice ao qs.length cap).ownBlock ≠ some k) (fun k => w.heap.size + 2 ≤ k ∧ (Value.slice ao qs.length cap).ownBlock ≠ some k) V1 (.slice a0 ps0.length c0) ps0) := hide (hq2.imp (fun k _ hk => ⟨by omega, fun e => by have := (hob k e).2; omega⟩) (fun k _ hk => ⟨by omega, fun e => by have := (hob k e).2; omega⟩) (fun _ _ _ _ => rfl))
             obtain ⟨q, hq⟩ : ∃ q : Bq, q = ⟨x.t, x.b, .slice a0 ps0.length c0, ps0⟩ := ⟨_, rfl⟩
             have HQT : Hid (btq q = x) := hide (by rw [hq]; unfold btq; simp only; rw [hq1])
             have HN1 := hide (HN0.out.step hr hb)
             clear hq2 hq1 hr hb hob hsz HN0
             refine wpAnyH_ready (rs := [4]) (by kernel_rfl) (by simp) ?_
             refine AllReadyH.cons (o := _) rfl (fun K hK => ?_) AllReadyH.nil
             refine step_build_bt rfl _ rfl x.t x.b a0 ps0.length c0 rfl ?_
             show K (Act.put _ (some 58) _) _
             simp only [Act.put, zA, zB, zC]
             refine hK.out _ _ ?_ (fun hHeld1 => ?_)
             ·exact trivial
             clear hK K hHeld
             have hHeld := hHeld1
             clear hHeld1
             have hbl : Below V1.heap.size V1 (V1.alloc (.cells #[.int .i64 x.t, .int .i64 x.b, .slice a0 ps0.length c0] 48)) := (Below.refl _ _).alloc (Nat.le_refl _) _
             have HN2 := hide (HN1.out.below hbl)
             have HQ2 := hide (HQW.out.below hbl)
             have HNW : Hid (∀ j u, (bce q)[j]? = some u → (V1.alloc (.cells #[.int .i64 x.t, .int .i64 x.b, .slice a0 ps0.length c0] 48)).cell? ((⟨V1.heap.size, 0, none⟩ : Addr).add j) = some u) := hide (by rw [hq]; exact range_news (range_new V1 [.int .i64 x.t, .int .i64 x.b, .slice a0 ps0.length c0] 48))
             generalize V1.alloc (.cells #[.int .i64 x.t, .int .i64 x.b, .slice a0 ps0.length c0] 48) = U2 at HN2 HQ2 HNW ⊢
             generalize V1.heap.size = D at HNW ⊢
             clear hbl HN1 HQW
             refine wpAnyH_ready (rs := [5]) (by kernel_rfl) (by simp) ?_
             refine AllReadyH.cons (o := _) rfl (fun K hK => ?_) AllReadyH.nil
             refine step_append_bt rfl _ _ rfl (w.heap.size + 2) (.slice ao qs.length cap) qs.length (bcs qs) rfl HN2.out.own (by have := HN2.out.sz; omega) ⟨D, 0, none⟩ 1 (bce q) rfl rfl HNW.out (fun u hu => by rw [hq] at hu; simp [bce] at hu; rcases hu with rfl | rfl | rfl <;> rfl) (by omega) ?_
             intro V3 u' ho hgr hub
             have hzV := HN2.out.sz
             have c5 : V3.cell? ⟨w.heap.size + 1, 11, none⟩ = some (.slice ao qs.length cap) := (World.cell?_of_block (hgr.block (w.heap.size + 1) hzV (fun e => by have := (HN2.out.ob _ e.symm).1; omega))).trans (by have := HN2.out.rg 11 _ rfl; rwa [Nat.zero_add] at this)
             have f5 : V3.frozen? ⟨w.heap.size + 1, 11, none⟩ = false := (World.frozen?_of_block (hgr.block (w.heap.size + 1) hzV (fun e => by have := (HN2.out.ob _ e.symm).1; omega))).trans (HN2.out.fz 11)
             have HNF := hide (HN2.out.app (m' := msP Ax [Fx, Gx] Nx Dx (bsj ++ [x])) (by rw [hq]; exact HQ2.out) ho hgr hub (by rw [HQT.out]; rfl))
             obtain ⟨a6, c6, hu6⟩ : ∃ a6 c6, u' = .slice a6 (qs.length + 1) c6 := by
              rcases ho.2 with ⟨_, h0⟩ | ⟨g, cap, cur, rfl, _⟩
              ·omega
              ·exact ⟨_, _, rfl⟩
             clear ho hgr hub HN2 HQ2 HNW
             subst hu6
             show K (Act.put _ (some 59) _) _
             simp only [Act.put, zA, zB, zC]
             refine hK.out _ _ ?_ (fun hHeld1 => ?_)
             ·exact trivial
             clear hK K hHeld
             have hHeld := hHeld1
             clear hHeld1
             refine tk 6 60 (.pointer (some ⟨w.heap.size + 1, 11, none⟩)) rfl rfl hHeld ?_
             simp only [Act.put, zA, zB, zC]
             refine wpAnyH_ready (rs := [7]) (by kernel_rfl) (by simp) ?_
             refine AllReadyH.cons (o := _) rfl (fun K hK => ?_) AllReadyH.nil
             go_simp
             clear c5 f5
             refine hK.out _ _ ?_ (fun hHeld1 => ?_)
             ·exact trivial
             clear hK K hHeld
             have hHeld := hHeld1
             clear hHeld1
             refine wpAnyH_done (by kernel_rfl) ?_ _
             go_wp2_with fail
             go_roundw
             case rel => exact ⟨j + 1, _, qs ++ [q], by omega, by go_num, hide (by rw [HSU.out]; exact HNF.out)⟩
             case measure => simp [intOf]; omega
            ·go_simp
             go_at_call 54
             refine (HC.out _ HN0.out.rd HN0.out.bx).mono ?_
             rintro e V1 ⟨vx, rfl, hx, hr, hb⟩
             go_wp2_with fail
             refine hK.out _ _ ?_ (fun hHeld1 => ?_)
             ·exact trivial
             clear hK K hHeld
             have hHeld := hHeld1
             clear hHeld1
             obtain ⟨u0', ps0, rfl, hq2, hq1⟩ := hx
             obtain ⟨a0, c0, rfl⟩ := hq2.form
             have hob := HN0.out.ob
             have hsz := HN0.out.sz
             have HQW : Hid (Rl (fun k => w.heap.size + 2 ≤ k ∧ (Value.slice ao qs.length cap).ownBlock ≠ some k) (fun k => w.heap.size + 2 ≤ k ∧ (Value.slice ao qs.length cap).ownBlock ≠ some k) V1 (.slice a0 ps0.length c0) ps0) := hide (hq2.imp (fun k _ hk => ⟨by omega, fun e => by have := (hob k e).2; omega⟩) (fun k _ hk => ⟨by omega, fun e => by have := (hob k e).2; omega⟩) (fun _ _ _ _ => rfl))
             obtain ⟨q, hq⟩ : ∃ q : Bq, q = ⟨x.t, x.b, .slice a0 ps0.length c0, ps0⟩ := ⟨_, rfl⟩
             have HQT : Hid (btq q = x) := hide (by rw [hq]; unfold btq; simp only; rw [hq1])
             have HN1 := hide (HN0.out.step hr hb)
             clear hq2 hq1 hr hb hob hsz HN0
             refine wpAnyH_ready (rs := [1, 4]) (by kernel_rfl) (by simp) ?_
             refine AllReadyH.cons (o := _) rfl (fun K hK => ?_) (AllReadyH.cons (o := _) rfl (fun K hK => ?_) AllReadyH.nil)
             ·have i2 := HN1.out.rg 11 _ rfl
              rw [Nat.zero_add] at i2
              change _ = some (Value.slice ao qs.length cap) at i2
              go_simp
              clear i2
              refine hK.out _ _ ?_ (fun hHeld1 => ?_)
              ·exact trivial
              clear hK K hHeld
              have hHeld := hHeld1
              clear hHeld1
              refine wpAnyH_ready (rs := [4]) (by kernel_rfl) (by simp) ?_
              refine AllReadyH.cons (o := _) rfl (fun K hK => ?_) AllReadyH.nil
              refine step_build_bt rfl _ rfl x.t x.b a0 ps0.length c0 rfl ?_
              show K (Act.put _ (some 58) _) _
              simp only [Act.put, zA, zB, zC]
              refine hK.out _ _ ?_ (fun hHeld1 => ?_)
              ·exact trivial
              clear hK K hHeld
              have hHeld := hHeld1
              clear hHeld1
              have hbl : Below V1.heap.size V1 (V1.alloc (.cells #[.int .i64 x.t, .int .i64 x.b, .slice a0 ps0.length c0] 48)) := (Below.refl _ _).alloc (Nat.le_refl _) _
              have HN2 := hide (HN1.out.below hbl)
              have HQ2 := hide (HQW.out.below hbl)
              have HNW : Hid (∀ j u, (bce q)[j]? = some u → (V1.alloc (.cells #[.int .i64 x.t, .int .i64 x.b, .slice a0 ps0.length c0] 48)).cell? ((⟨V1.heap.size, 0, none⟩ : Addr).add j) = some u) := hide (by rw [hq]; exact range_news (range_new V1 [.int .i64 x.t, .int .i64 x.b, .slice a0 ps0.length c0] 48))
              generalize V1.alloc (.cells #[.int .i64 x.t, .int .i64 x.b, .slice a0 ps0.length c0] 48) = U2 at HN2 HQ2 HNW ⊢
              generalize V1.heap.size = D at HNW ⊢
              clear hbl HN1 HQW
              refine wpAnyH_ready (rs := [5]) (by kernel_rfl) (by simp) ?_
              refine AllReadyH.cons (o := _) rfl (fun K hK => ?_) AllReadyH.nil
              refine step_append_bt rfl _ _ rfl (w.heap.size + 2) (.slice ao qs.length cap) qs.length (bcs qs) rfl HN2.out.own (by have := HN2.out.sz; omega) ⟨D, 0, none⟩ 1 (bce q) rfl rfl HNW.out (fun u hu => by rw [hq] at hu; simp [bce] at hu; rcases hu with rfl | rfl | rfl <;> rfl) (by omega) ?_
              intro V3 u' ho hgr hub
              have hzV := HN2.out.sz
              have c5 : V3.cell? ⟨w.heap.size + 1, 11, none⟩ = some (.slice ao qs.length cap) := (World.cell?_of_block (hgr.block (w.heap.size + 1) hzV (fun e => by have := (HN2.out.ob _ e.symm).1; omega))).trans (by have := HN2.out.rg 11 _ rfl; rwa [Nat.zero_add] at this)
              have f5 : V3.frozen? ⟨w.heap.size + 1, 11, none⟩ = false := (World.frozen?_of_block (hgr.block (w.heap.size + 1) hzV (fun e => by have := (HN2.out.ob _ e.symm).1; omega))).trans (HN2.out.fz 11)
              have HNF := hide (HN2.out.app (m' := msP Ax [Fx, Gx] Nx Dx (bsj ++ [x])) (by rw [hq]; exact HQ2.out) ho hgr hub (by rw [HQT.out]; rfl))
              obtain ⟨a6, c6, hu6⟩ : ∃ a6 c6, u' = .slice a6 (qs.length + 1) c6 := by
               rcases ho.2 with ⟨_, h0⟩ | ⟨g, cap, cur, rfl, _⟩
               ·omega
               ·exact ⟨_, _, rfl⟩
              clear ho hgr hub HN2 HQ2 HNW
              subst hu6
              show K (Act.put _ (some 59) _) _
              simp only [Act.put, zA, zB, zC]
              refine hK.out _ _ ?_ (fun hHeld1 => ?_)
              ·exact trivial
              clear hK K hHeld
              have hHeld := hHeld1
              clear hHeld1
              refine tk 6 60 (.pointer (some ⟨w.heap.size + 1, 11, none⟩)) rfl rfl hHeld ?_
              simp only [Act.put, zA, zB, zC]
              refine wpAnyH_ready (rs := [7]) (by kernel_rfl) (by simp) ?_
              refine AllReadyH.cons (o := _) rfl (fun K hK => ?_) AllReadyH.nil
              go_simp
              clear c5 f5
              refine hK.out _ _ ?_ (fun hHeld1 => ?_)
              ·exact trivial
              clear hK K hHeld
              have hHeld := hHeld1
              clear hHeld1
              refine wpAnyH_done (by kernel_rfl) ?_ _
              go_wp2_with fail
              go_roundw
              case rel => exact ⟨j + 1, _, qs ++ [q], by omega, by go_num, hide (by rw [HSU.out]; exact HNF.out)⟩
              case measure => simp [intOf]; omega
             ·refine step_build_bt rfl _ rfl x.t x.b a0 ps0.length c0 rfl ?_
              show K (Act.put _ (some 58) _) _
              simp only [Act.put, zA, zB, zC]
              refine hK.out _ _ ?_ (fun hHeld1 => ?_)
              ·exact trivial
              clear hK K hHeld
              have hHeld := hHeld1
              clear hHeld1
              have hbl : Below V1.heap.size V1 (V1.alloc (.cells #[.int .i64 x.t, .int .i64 x.b, .slice a0 ps0.length c0] 48)) := (Below.refl _ _).alloc (Nat.le_refl _) _
              have HN2 := hide (HN1.out.below hbl)
              have HQ2 := hide (HQW.out.below hbl)
              have HNW : Hid (∀ j u, (bce q)[j]? = some u → (V1.alloc (.cells #[.int .i64 x.t, .int .i64 x.b, .slice a0 ps0.length c0] 48)).cell? ((⟨V1.heap.size, 0, none⟩ : Addr).add j) = some u) := hide (by rw [hq]; exact range_news (range_new V1 [.int .i64 x.t, .int .i64 x.b, .slice a0 ps0.length c0] 48))
              generalize V1.alloc (.cells #[.int .i64 x.t, .int .i64 x.b, .slice a0 ps0.length c0] 48) = U2 at HN2 HQ2 HNW ⊢
              generalize V1.heap.size = D at HNW ⊢
              clear hbl HN1 HQW
              refine wpAnyH_ready (rs := [1]) (by kernel_rfl) (by simp) ?_
              refine AllReadyH.cons (o := _) rfl (fun K hK => ?_) AllReadyH.nil
              have i2 := HN2.out.rg 11 _ rfl
              rw [Nat.zero_add] at i2
              change _ = some (Value.slice ao qs.length cap) at i2
              go_simp
              clear i2
              refine hK.out _ _ ?_ (fun hHeld1 => ?_)
              ·exact trivial
              clear hK K hHeld
              have hHeld := hHeld1
              clear hHeld1
              refine wpAnyH_ready (rs := [5]) (by kernel_rfl) (by simp) ?_
              refine AllReadyH.cons (o := _) rfl (fun K hK => ?_) AllReadyH.nil
              refine step_append_bt rfl _ _ rfl (w.heap.size + 2) (.slice ao qs.length cap) qs.length (bcs qs) rfl HN2.out.own (by have := HN2.out.sz; omega) ⟨D, 0, none⟩ 1 (bce q) rfl rfl HNW.out (fun u hu => by rw [hq] at hu; simp [bce] at hu; rcases hu with rfl | rfl | rfl <;> rfl) (by omega) ?_
              intro V3 u' ho hgr hub
              have hzV := HN2.out.sz
              have c5 : V3.cell? ⟨w.heap.size + 1, 11, none⟩ = some (.slice ao qs.length cap) := (World.cell?_of_block (hgr.block (w.heap.size + 1) hzV (fun e => by have := (HN2.out.ob _ e.symm).1; omega))).trans (by have := HN2.out.rg 11 _ rfl; rwa [Nat.zero_add] at this)
              have f5 : V3.frozen? ⟨w.heap.size + 1, 11, none⟩ = false := (World.frozen?_of_block (hgr.block (w.heap.size + 1) hzV (fun e => by have := (HN2.out.ob _ e.symm).1; omega))).trans (HN2.out.fz 11)
              have HNF := hide (HN2.out.app (m' := msP Ax [Fx, Gx] Nx Dx (bsj ++ [x])) (by rw [hq]; exact HQ2.out) ho hgr hub (by rw [HQT.out]; rfl))
              obtain ⟨a6, c6, hu6⟩ : ∃ a6 c6, u' = .slice a6 (qs.length + 1) c6 := by
               rcases ho.2 with ⟨_, h0⟩ | ⟨g, cap, cur, rfl, _⟩
               ·omega
               ·exact ⟨_, _, rfl⟩
              clear ho hgr hub HN2 HQ2 HNW
              subst hu6
              show K (Act.put _ (some 59) _) _
              simp only [Act.put, zA, zB, zC]
              refine hK.out _ _ ?_ (fun hHeld1 => ?_)
              ·exact trivial
              clear hK K hHeld
              have hHeld := hHeld1
              clear hHeld1
              refine tk 6 60 (.pointer (some ⟨w.heap.size + 1, 11, none⟩)) rfl rfl hHeld ?_
              simp only [Act.put, zA, zB, zC]
              refine wpAnyH_ready (rs := [7]) (by kernel_rfl) (by simp) ?_
              refine AllReadyH.cons (o := _) rfl (fun K hK => ?_) AllReadyH.nil
              go_simp
              clear c5 f5
              refine hK.out _ _ ?_ (fun hHeld1 => ?_)
              ·exact trivial
              clear hK K hHeld
              have hHeld := hHeld1
              clear hHeld1
              refine wpAnyH_done (by kernel_rfl) ?_ _
              go_wp2_with fail
              go_roundw
              case rel => exact ⟨j + 1, _, qs ++ [q], by omega, by go_num, hide (by rw [HSU.out]; exact HNF.out)⟩
              case measure => simp [intOf]; omega
           ·obtain rfl : j = M := by omega
            clear hlt
            go_wp2_with fail
            go_meet
            exact ⟨ub, qs, by rw [HBG.out]; exact HFJ⟩
         | false =>
          rw [hh] at hbG
          simp only [Bool.false_eq_true, ↓reduceIte] at hbG
          have HBG := hide hbG
          clear hbG
          go_wp2_with fail
          go_meet
          exact ⟨_, [], by rw [HBG.out]; exact HF0⟩
        case rest =>
         clear HF0 HH
         obtain ⟨ub, qs, HF0⟩ := hcut
         have HBM : Hid (bodyM l k s = (bG.1, { (msP Ax [Fx, Gx] Nx Dx bG.2) with k := k })) := hide (by
          unfold bodyM
          simp only
          rw [HQA.out]
          simp only
          rw [show fL false (gF l) (hF2 k) As = ((if hasM k 103 then gF l (if hasM k 97 then gF l As else (As, false)).1 else ((if hasM k 97 then gF l As else (As, false)).1, false)).1, [(if hasM k 97 then gF l As else (As, false)).2, (if hasM k 103 then gF l (if hasM k 97 then gF l As else (As, false)).1 else ((if hasM k 97 then gF l As else (As, false)).1, false)).2]) from rfl, HQF.out]
          simp only
          rw [HQG.out]
          simp only
          rw [HQN.out]
          simp only
          rw [show fL [] (gD l) [hasM k 100] Ns = ((if hasM k 100 then gD l Ns else (Ns, [])).1, [(if hasM k 100 then gD l Ns else (Ns, [])).2]) from rfl, HQD.out]
          simp only
          rw [show fL 0 (gN 8 l) [hasM k 98] Ds = ((if hasM k 98 then gN 8 l Ds else (Ds, 0)).1, [(if hasM k 98 then gN 8 l Ds else (Ds, 0)).2]) from rfl]
          simp only [List.getD_cons_zero]
          rw [hbG]
          cases hasM k 98 <;> rfl)
         clear hbG HS
         obtain ⟨sF, bsF⟩ := bG
         simp only at HF0 HBM
         obtain ⟨VF, rfl⟩ : ∃ x : World, x = wc := ⟨_, rfl⟩
         obtain ⟨au, cu, eu⟩ : ∃ au cu, ub = .slice au qs.length cu := by
          rcases HF0.out.own.2 with ⟨rfl, h0⟩ | ⟨g, cap, cur, rfl, _⟩
          ·exact ⟨none, 0, by rw [h0]⟩
          ·exact ⟨_, _, rfl⟩
         obtain ⟨ad, cd, ed⟩ : ∃ ad cd, ud = .slice ad Dx.length cd := HF0.out.da.sl.form
         subst eu ed
         have HRG := hide HF0.out.rg
         have HTH := hide HF0.out.th
         have hRp : w.heap.size ≠ p := by have := HF0.out.hp; omega
         have HIS : Hid (IsMn (fun k => w.heap.size ≤ k) (VF.setCells w.heap.size 0 (cellsM (msP Ax [Fx, Gx] Nx Dx bsF) (.slice au qs.length cu) (.slice ad Dx.length cd))) (.agg (cellsM (msP Ax [Fx, Gx] Nx Dx bsF) (.slice au qs.length cu) (.slice ad Dx.length cd)).toArray) (msP Ax [Fx, Gx] Nx Dx bsF)) := hide ((fm_isM HF0.out (fun k i hk => cell_many hk _ _)).imp (fun k _ hk => by omega) (fun _ _ _ _ => rfl))
         have HRD : Hid (RdG (VF.setCells w.heap.size 0 (cellsM (msP Ax [Fx, Gx] Nx Dx bsF) (.slice au qs.length cu) (.slice ad Dx.length cd))) p v sF) := hide (rdG_many hRp _ _ HF0.out.rd)
         have HBX : Hid (Bx p w (VF.setCells w.heap.size 0 (cellsM (msP Ax [Fx, Gx] Nx Dx bsF) (.slice au qs.length cu) (.slice ad Dx.length cd)))) := hide (Bx.many (Nat.le_refl _) _ _ HF0.out.bx)
         have HRR : Hid ((VF.setCells w.heap.size 0 (cellsM (msP Ax [Fx, Gx] Nx Dx bsF) (.slice au qs.length cu) (.slice ad Dx.length cd))).rangeAt w.heap.size 0 (cellsM (msP Ax [Fx, Gx] Nx Dx bsF) (.slice au qs.length cu) (.slice ad Dx.length cd))) := hide (World.rangeAt_setCells_same _ _ _ _ HTH.out)
         have HON := hide (cellsM_one (msP Ax [Fx, Gx] Nx Dx bsF) au ad qs.length cu Dx.length cd)
         clear HF0
         go_wp2_with (first | (refine wpList_load_mid rfl _ _ rfl _ _ rfl _ _ HRG.out Tryz.underlying26 rfl (by kernel_rfl) ?_) | (refine wpList_store_mid rfl _ _ _ rfl w.heap.size 0 (cellsM (msP Ax [Fx, Gx] Nx Dx bsF) (.slice au qs.length cu) (.slice ad Dx.length cd)).toArray rfl rfl HTH.out (by kernel_rfl) HON.out ?_))
         exact bodyPost_ret (v := .agg (cellsM (msP Ax [Fx, Gx] Nx Dx bsF) (.slice au qs.length cu) (.slice ad Dx.length cd)).toArray) (results_mid Tryz.results17 _ _ w.heap.size _ _ rfl HRR.out Tryz.underlying26 rfl (by kernel_rfl)) rfl ⟨_, rfl, by rw [HBM.out]; exact HIS.out, by rw [HBM.out]; exact HRD.out, HBX.out⟩
end Go.Proofs.YtjjpfajbljbelaaGreatDoor
