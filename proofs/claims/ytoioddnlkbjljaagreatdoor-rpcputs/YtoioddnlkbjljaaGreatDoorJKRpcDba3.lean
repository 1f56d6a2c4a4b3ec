/-
  A MESSAGE AS BYTES, BY THE DOCUMENT (castellanref07.int1, flag1, Bytes): what the mathematics says. Conditions: its numbers are not too great, its bytes not too many, its slices' cells hold what they hold, its batches may be.
  ARE RECORDS NO MORE THAN IS WAITED FOR (castellanref06.Short)? Conditions: the records' cells hold them.
  ANY BATCH AS BYTES, OR WHAT IS WRONG WITH IT, BY THE DOCUMENT (castellanref06.Put). Conditions: the records' cells hold them.
-/
import Derived.Test.YtoioddnlkbjljaaGreatDoorJKRpcPpa6
import Derived.Test.YtoioddnlkbjljaaGreatDoorJKRecBy
import Derived.Test.YtoioddnlkbjljaaGreatDoorJKRpcSea3
import Derived.Deep.RegionHeld3
import Derived.Test.YtoioddnlkbjljaaGreatDoorJKBatMa4
import Derived.Test.YtoioddnlkbjljaaGreatDoorJKWrowa6
namespace Go.Proofs.YtoioddnlkbjljaaGreatDoor
open Go.RowKit

def enI (n : Int) (b : Bool) : List Int := if b then intL n else []
def enF (f b : Bool) : List Int := if b then [flB f] else []
theorem enI_le (n : Int) (b : Bool) : (enI n b).length ≤ 8 := by
  unfold enI
  split
  · exact intL_le n
  · simp
theorem enF_le (f b : Bool) : (enF f b).length ≤ 1 := by cases b <;> simp [enF]
theorem mint1_any (n : Int) (b : Bool) (w : World) (hn : n ≤ 9223372036854775807) : Calls Tryz.prog 68 #[.int .i64 n, .bool b] w fun e w' => ∃ v, e = .returned v ∧ Sl bc w' v (enI n b) ∧ Below w.heap.size w w' := by
  cases b with
  | true =>
    have HC := hide (rint_ow w.heap.size n w (Nat.le_refl _) hn)
    go_enter Tryz.func68, Tryz.ntmps68
    go_wp2_with (first | (go_at_call 66; refine HC.out.mono ?_; rintro e w1 ⟨v, rfl, ho, hb⟩; have HO := hide ho; have HB := hide hb; clear ho hb))
    go_ret
    exact ⟨_, rfl, HO.out.sl, HB.out⟩
  | false =>
    go_enter Tryz.func68, Tryz.ntmps68
    go_wp2_with fail
    go_ret
    exact ⟨_, rfl, Sl.nil _ _ _ _, Below.refl _ _⟩
theorem mflag1_any (f b : Bool) (w : World) : Calls Tryz.prog 67 #[.bool f, .bool b] w fun e w' => ∃ v, e = .returned v ∧ Sl bc w' v (enF f b) ∧ Below w.heap.size w w' := by
  cases b with
  | true =>
    have HC := hide (refFlag_sl f w)
    go_enter Tryz.func67, Tryz.ntmps67
    go_wp2_with (first | (go_at_call 99; refine HC.out.mono ?_; rintro e w1 ⟨v, rfl, ho, hb⟩; have HO := hide ho; have HB := hide hb; clear ho hb))
    go_ret
    exact ⟨_, rfl, HO.out, HB.out⟩
  | false =>
    go_enter Tryz.func67, Tryz.ntmps67
    go_wp2_with fail
    go_ret
    exact ⟨_, rfl, Sl.nil _ _ _ _, Below.refl _ _⟩
theorem step_append_owp {ops : Array Oper} {o : Oper} {a : Act} {w : World} {K : Act → World → Prop} {Q : Exit → Act → World → Prop} {E : Prop} (hg : o.guard = none) (s x : Operand)
    (ho : o.op = .call { callee := .builtin .append, args := #[s, x], argTypes := #[23, 23] }) (B : Nat) (u : Value) (L : List Int) (hs : a.eval s = u) (hr : Ow B w u L) (hB : B ≤ w.heap.size) (v : Value) (l : List Int)
    (hx : a.eval x = v) (hv : Sl bc w v l) (hn : L.length + l.length ≤ 1000000)
    (h : ∀ w' v', Ow B w' v' (L ++ l) → Below B w w' → K (a.put o.dst v') w') : if Region.wanted o (yielded ops a.tmps) = true then Oper.wp Tryz.prog o a w K Q else E := by
  have hw : Region.wanted o (yielded ops a.tmps) = true := by simp [Region.wanted, hg]
  rw [if_pos hw]
  obtain ⟨cur, h1, h2⟩ := hr
  obtain ⟨w', v', cur', hrun, hp⟩ := run_append_sl w o.type B u L.length cur h1 hB v l hv hn
  unfold Oper.wp
  simp [execOp, ho, resolve, invoke, builtin, hs, hx, hrun, Result.andThen]
  exact h w' v' (Ow.put h2 hp) hp.below
theorem hs_putp {F : World → Prop} {N : Nat} {w0 W W' : World} (hF : ∀ W, Below N w0 W → F W) (hb : Below N W W') (h : F W ∧ Below N w0 W ∧ N ≤ W.heap.size) : F W' ∧ Below N w0 W' ∧ N ≤ W'.heap.size :=
  have k := h.2.1.trans hb
  ⟨hF _ k, k, Nat.le_trans h.2.2 hb.size⟩
set_option maxRecDepth 100000 in
set_option maxHeartbeats 64000000 in
theorem rmbytes_go (k fr tn t ld pa pt hi co sz po : Int) (pre ok : Bool) (ab ad : Option Addr) (nb cb nd cd : Nat) (HA : Int → Bool) (qs : List Bq) (da : List Int) (w : World)
    (h_fr : fr ≤ 9223372036854775807) (h_tn : tn ≤ 9223372036854775807) (h_t : t ≤ 9223372036854775807) (h_ld : ld ≤ 9223372036854775807) (h_pa : pa ≤ 9223372036854775807) (h_pt : pt ≤ 9223372036854775807) (h_hi : hi ≤ 9223372036854775807) (h_co : co ≤ 9223372036854775807) (h_sz : sz ≤ 9223372036854775807) (h_po : po ≤ 9223372036854775807) (h_nb : (nb : Int) ≤ 9223372036854775807) (hn20 : nb ≤ 20)
    (HH : Hid (∀ c W, Calls Tryz.prog 36 #[.int .i64 k, .int .u8 c] W fun e w' => e = .returned (.bool (HA c)) ∧ w' = W))
    (HM : Hid (Bl w (.slice ab nb cb) qs)) (hnb : qs.length = nb) (HDA : Hid (Sl bc w (.slice ad nd cd) da)) (hda : da.length ≤ 4000) (HOK : Hid (∀ x ∈ bts qs, (bw x).c = 0)) (HLE : Hid (∀ x ∈ bts qs, (bytL x).length ≤ 16384)) (RES : List Int) (HRES : Hid (RES = (((((((((((((intL fr ++ intL tn) ++ intL t) ++ enF pre (HA 97)) ++ enF ok (HA 103)) ++ enI ld (HA 108)) ++ enI pa (HA 112)) ++ enI pt (HA 112)) ++ enI hi (HA 104)) ++ enI co (HA 99)) ++ enI sz (HA 115)) ++ enI po (HA 111)) ++ (if HA 100 then enD da else [])) ++ enI nb (HA 98)) ++ batsL (bts qs))) :
    Calls Tryz.prog 26 #[.agg #[.int .i64 k, .int .i64 fr, .int .i64 tn, .int .i64 t, .bool pre, .bool ok, .int .i64 ld, .int .i64 pa, .int .i64 pt, .int .i64 hi, .int .i64 co, .slice ab nb cb, .int .i64 sz, .int .i64 po, .slice ad nd cd]] w fun e w' => ∃ v, e = .returned v ∧ Sl bc w' v RES ∧ Below w.heap.size w w' := by
  have hel : (enD da).length ≤ 4008 := by unfold enD; rw [List.length_append]; have := intL_le da.length; omega
  obtain ⟨X, hX⟩ : ∃ X, X = w.alloc (.cells #[.int .i64 k, .int .i64 fr, .int .i64 tn, .int .i64 t, .bool pre, .bool ok, .int .i64 ld, .int .i64 pa, .int .i64 pt, .int .i64 hi, .int .i64 co, .slice ab nb cb, .int .i64 sz, .int .i64 po, .slice ad nd cd] 25) := ⟨_, rfl⟩
  have HRG : Hid (X.rangeAt w.heap.size 0 [.int .i64 k, .int .i64 fr, .int .i64 tn, .int .i64 t, .bool pre, .bool ok, .int .i64 ld, .int .i64 pa, .int .i64 pt, .int .i64 hi, .int .i64 co, .slice ab nb cb, .int .i64 sz, .int .i64 po, .slice ad nd cd]) := hide (by rw [hX]; exact range_new w _ _)
  have HBX : Hid (Below w.heap.size w X) := hide (by rw [hX]; exact (Below.refl _ _).alloc (Nat.le_refl _) _)
  go_enter Tryz.func26, Tryz.ntmps26
  go_upto_region 1 with fail
  rw [← hX]
  clear hX
  have g0 := (C15.of HRG.out).c0
  have g1 := (C15.of HRG.out).c1
  have HI1 := hide (rint_ow X.heap.size fr X (Nat.le_refl _) h_fr)
  go_upto_region 3 with (first | (go_at_call 66; refine HI1.out.mono ?_; rintro e W1 ⟨v1, rfl, ho1, hb1⟩; have HO1 := hide ho1; have HY1 := hide hb1; clear ho1 hb1))
  clear g0 g1 HI1
  have g2 := (C15.of (range_bel HRG.out HY1.out)).c2
  have HI2 := hide (rint_ow X.heap.size tn W1 HY1.out.size h_tn)
  have l1 := intL_le fr
  have l2 := intL_le tn
  have l3 := intL_le t
  go_upto_region 4 with (first | (go_at_call 66; refine HI2.out.mono ?_; rintro e W2 ⟨v2, rfl, ho2, hb2⟩; have HS2 := hide ho2.sl; have HO2 := hide (HO1.out.below hb2); have HY2 := hide (HY1.out.trans (hb2.mono HY1.out.size)); clear ho2 hb2) | (at_builtin; refine wpList_append_owp rfl _ _ rfl X.heap.size v1 (intL fr) rfl HO2.out HY2.out.size _ (intL tn) rfl HS2.out (by omega) ?_; intro W3 v3 ho3 hb3; have HO3 := hide ho3; have HY3 := hide (HY2.out.trans hb3); clear ho3 hb3))
  clear g2 HI2 HS2 HO2 HO1 HY1
  have g3 := (C15.of (range_bel HRG.out HY3.out)).c3
  have HI3 := hide (rint_ow X.heap.size t W3 HY3.out.size h_t)
  go_upto_region 5 with (first | (go_at_call 66; refine HI3.out.mono ?_; rintro e W4 ⟨v4, rfl, ho4, hb4⟩; have HS4 := hide ho4.sl; have HO4 := hide (HO3.out.below hb4); have HY4 := hide (HY3.out.trans (hb4.mono HY3.out.size)); clear ho4 hb4) | (at_builtin; refine wpList_append_owp rfl _ _ rfl X.heap.size v3 (intL fr ++ intL tn) rfl HO4.out HY4.out.size _ (intL t) rfl HS4.out (by rw [List.length_append]; omega) ?_; intro Y u ho5 hb5; have HOW0 := hide ho5; have HY := hide (HY4.out.trans hb5); clear ho5 hb5))
  clear g3 HI3 HS4 HO4 HO3 HY3 HY2 HY4
  obtain ⟨LL, HEL⟩ : ∃ x, Hid (x = ((intL fr ++ intL tn) ++ intL t)) := ⟨_, hide rfl⟩
  have HLN : Hid (LL.length ≤ 24) := hide (by rw [HEL.out, List.length_append, List.length_append]; omega)
  have HOW : Hid (Ow X.heap.size Y u LL) := hide (by rw [HEL.out]; exact HOW0.out)
  clear HOW0 l1 l2 l3
  have HF : Hid (∀ W, Below X.heap.size X W → (fun W : World => W.cell? ⟨w.heap.size, 4, none⟩ = some (.bool pre)) W) := hide (fun W h => (C15.of (range_bel HRG.out h)).c4)
  have HS0 : Hid ((fun W : World => W.cell? ⟨w.heap.size, 4, none⟩ = some (.bool pre)) Y.drew ∧ Below X.heap.size X Y.drew ∧ X.heap.size ≤ Y.drew.heap.size) := hide ⟨HF.out _ HY.out.drew, HY.out.drew, HY.out.size⟩
  have HOD : Hid (Ow X.heap.size Y.drew _ LL) := hide (HOW.out.below (Below.refl _ _).drew)
  go_region_held3 (fun W => W.cell? ⟨w.heap.size, 4, none⟩ = some (.bool pre) ∧ Below X.heap.size X W ∧ X.heap.size ≤ W.heap.size)
    (first | with_reducible assumption | with_reducible exact hs_call HF.out (by assumption) (by assumption) | with_reducible exact hs_putp HF.out (by assumption) (by assumption) | with_reducible exact HS0.out)
    (first
      | (go_at_call 36; refine (HH.out _ _).mono ?_; rintro e w' ⟨rfl, rfl⟩)
      | (go_at_call 67; refine (mflag1_any _ _ _).mono ?_; rintro e w1 ⟨v, rfl, hs, hb⟩; have HSL := hide hs; have HRW := hide (HOD.out.below hb); clear hs)
      | (refine step_append_owp rfl _ _ rfl _ _ _ rfl HRW.out (by exact And.right (And.right (by assumption))) _ _ rfl HSL.out (by have := HLN.out; have := enF_le pre (HA 97); omega) ?_; intro w2 v2 ho2 hb2; have HO2 := hide ho2; clear ho2))
  have HYN : Hid (Below X.heap.size X w2) := hide (And.left (And.right (by assumption)))
  rename_i hHeld
  clear HF HS0 HOD HSL HRW hHeld hb hb2 w1
  have HLN2 : Hid ((LL ++ enF pre (HA 97)).length ≤ 32) := hide (by have := HLN.out; have := enF_le pre (HA 97); rw [List.length_append]; omega)
  obtain ⟨L2, HL2⟩ : ∃ x, Hid (x = LL ++ enF pre (HA 97)) := ⟨_, hide rfl⟩
  rw [← HL2.out] at HO2 HLN2
  have HE2 : Hid (L2 = ((intL fr ++ intL tn) ++ intL t) ++ enF pre (HA 97)) := hide (by rw [HL2.out, HEL.out])
  clear HLN HOW HY HL2 HEL Y LL
  obtain ⟨LL, rfl⟩ : ∃ x, x = L2 := ⟨_, rfl⟩
  have HLN := HLN2
  have HOW := HO2
  have HY := HYN
  have HEL := HE2
  clear HLN2 HO2 HYN HE2
  go_upto_region 6 with fail
  generalize w2 = Y at HOW HY ⊢
  generalize v2 = u at HOW ⊢
  have HF : Hid (∀ W, Below X.heap.size X W → (fun W : World => W.cell? ⟨w.heap.size, 5, none⟩ = some (.bool ok)) W) := hide (fun W h => (C15.of (range_bel HRG.out h)).c5)
  have HS0 : Hid ((fun W : World => W.cell? ⟨w.heap.size, 5, none⟩ = some (.bool ok)) Y.drew ∧ Below X.heap.size X Y.drew ∧ X.heap.size ≤ Y.drew.heap.size) := hide ⟨HF.out _ HY.out.drew, HY.out.drew, HY.out.size⟩
  have HOD : Hid (Ow X.heap.size Y.drew _ LL) := hide (HOW.out.below (Below.refl _ _).drew)
  go_region_held3 (fun W => W.cell? ⟨w.heap.size, 5, none⟩ = some (.bool ok) ∧ Below X.heap.size X W ∧ X.heap.size ≤ W.heap.size)
    (first | with_reducible assumption | with_reducible exact hs_call HF.out (by assumption) (by assumption) | with_reducible exact hs_putp HF.out (by assumption) (by assumption) | with_reducible exact HS0.out)
    (first
      | (go_at_call 36; refine (HH.out _ _).mono ?_; rintro e w' ⟨rfl, rfl⟩)
      | (go_at_call 67; refine (mflag1_any _ _ _).mono ?_; rintro e w1 ⟨v, rfl, hs, hb⟩; have HSL := hide hs; have HRW := hide (HOD.out.below hb); clear hs)
      | (refine step_append_owp rfl _ _ rfl _ _ _ rfl HRW.out (by exact And.right (And.right (by assumption))) _ _ rfl HSL.out (by have := HLN.out; have := enF_le ok (HA 103); omega) ?_; intro w2 v2 ho2 hb2; have HO2 := hide ho2; clear ho2))
  have HYN : Hid (Below X.heap.size X w2) := hide (And.left (And.right (by assumption)))
  rename_i hHeld
  clear HF HS0 HOD HSL HRW hHeld hb hb2 w1
  have HLN2 : Hid ((LL ++ enF ok (HA 103)).length ≤ 40) := hide (by have := HLN.out; have := enF_le ok (HA 103); rw [List.length_append]; omega)
  obtain ⟨L2, HL2⟩ : ∃ x, Hid (x = LL ++ enF ok (HA 103)) := ⟨_, hide rfl⟩
  rw [← HL2.out] at HO2 HLN2
  have HE2 : Hid (L2 = (((intL fr ++ intL tn) ++ intL t) ++ enF pre (HA 97)) ++ enF ok (HA 103)) := hide (by rw [HL2.out, HEL.out])
  clear HLN HOW HY HL2 HEL Y LL
  obtain ⟨LL, rfl⟩ : ∃ x, x = L2 := ⟨_, rfl⟩
  have HLN := HLN2
  have HOW := HO2
  have HY := HYN
  have HEL := HE2
  clear HLN2 HO2 HYN HE2
  go_upto_region 7 with fail
  generalize w2 = Y at HOW HY ⊢
  generalize v2 = u at HOW ⊢
  have HF : Hid (∀ W, Below X.heap.size X W → (fun W : World => W.cell? ⟨w.heap.size, 6, none⟩ = some (.int .i64 ld)) W) := hide (fun W h => (C15.of (range_bel HRG.out h)).c6)
  have HS0 : Hid ((fun W : World => W.cell? ⟨w.heap.size, 6, none⟩ = some (.int .i64 ld)) Y.drew ∧ Below X.heap.size X Y.drew ∧ X.heap.size ≤ Y.drew.heap.size) := hide ⟨HF.out _ HY.out.drew, HY.out.drew, HY.out.size⟩
  have HOD : Hid (Ow X.heap.size Y.drew _ LL) := hide (HOW.out.below (Below.refl _ _).drew)
  go_region_held3 (fun W => W.cell? ⟨w.heap.size, 6, none⟩ = some (.int .i64 ld) ∧ Below X.heap.size X W ∧ X.heap.size ≤ W.heap.size)
    (first | with_reducible assumption | with_reducible exact hs_call HF.out (by assumption) (by assumption) | with_reducible exact hs_putp HF.out (by assumption) (by assumption) | with_reducible exact HS0.out)
    (first
      | (go_at_call 36; refine (HH.out _ _).mono ?_; rintro e w' ⟨rfl, rfl⟩)
      | (go_at_call 68; refine (mint1_any _ _ _ h_ld).mono ?_; rintro e w1 ⟨v, rfl, hs, hb⟩; have HSL := hide hs; have HRW := hide (HOD.out.below hb); clear hs)
      | (refine step_append_owp rfl _ _ rfl _ _ _ rfl HRW.out (by exact And.right (And.right (by assumption))) _ _ rfl HSL.out (by have := HLN.out; have := enI_le ld (HA 108); omega) ?_; intro w2 v2 ho2 hb2; have HO2 := hide ho2; clear ho2))
  have HYN : Hid (Below X.heap.size X w2) := hide (And.left (And.right (by assumption)))
  rename_i hHeld
  clear HF HS0 HOD HSL HRW hHeld hb hb2 w1
  have HLN2 : Hid ((LL ++ enI ld (HA 108)).length ≤ 48) := hide (by have := HLN.out; have := enI_le ld (HA 108); rw [List.length_append]; omega)
  obtain ⟨L2, HL2⟩ : ∃ x, Hid (x = LL ++ enI ld (HA 108)) := ⟨_, hide rfl⟩
  rw [← HL2.out] at HO2 HLN2
  have HE2 : Hid (L2 = ((((intL fr ++ intL tn) ++ intL t) ++ enF pre (HA 97)) ++ enF ok (HA 103)) ++ enI ld (HA 108)) := hide (by rw [HL2.out, HEL.out])
  clear HLN HOW HY HL2 HEL Y LL
  obtain ⟨LL, rfl⟩ : ∃ x, x = L2 := ⟨_, rfl⟩
  have HLN := HLN2
  have HOW := HO2
  have HY := HYN
  have HEL := HE2
  clear HLN2 HO2 HYN HE2
  go_upto_region 8 with fail
  generalize w2 = Y at HOW HY ⊢
  generalize v2 = u at HOW ⊢
  have HF : Hid (∀ W, Below X.heap.size X W → (fun W : World => W.cell? ⟨w.heap.size, 7, none⟩ = some (.int .i64 pa)) W) := hide (fun W h => (C15.of (range_bel HRG.out h)).c7)
  have HS0 : Hid ((fun W : World => W.cell? ⟨w.heap.size, 7, none⟩ = some (.int .i64 pa)) Y.drew ∧ Below X.heap.size X Y.drew ∧ X.heap.size ≤ Y.drew.heap.size) := hide ⟨HF.out _ HY.out.drew, HY.out.drew, HY.out.size⟩
  have HOD : Hid (Ow X.heap.size Y.drew _ LL) := hide (HOW.out.below (Below.refl _ _).drew)
  go_region_held3 (fun W => W.cell? ⟨w.heap.size, 7, none⟩ = some (.int .i64 pa) ∧ Below X.heap.size X W ∧ X.heap.size ≤ W.heap.size)
    (first | with_reducible assumption | with_reducible exact hs_call HF.out (by assumption) (by assumption) | with_reducible exact hs_putp HF.out (by assumption) (by assumption) | with_reducible exact HS0.out)
    (first
      | (go_at_call 36; refine (HH.out _ _).mono ?_; rintro e w' ⟨rfl, rfl⟩)
      | (go_at_call 68; refine (mint1_any _ _ _ h_pa).mono ?_; rintro e w1 ⟨v, rfl, hs, hb⟩; have HSL := hide hs; have HRW := hide (HOD.out.below hb); clear hs)
      | (refine step_append_owp rfl _ _ rfl _ _ _ rfl HRW.out (by exact And.right (And.right (by assumption))) _ _ rfl HSL.out (by have := HLN.out; have := enI_le pa (HA 112); omega) ?_; intro w2 v2 ho2 hb2; have HO2 := hide ho2; clear ho2))
  have HYN : Hid (Below X.heap.size X w2) := hide (And.left (And.right (by assumption)))
  rename_i hHeld
  clear HF HS0 HOD HSL HRW hHeld hb hb2 w1
  have HLN2 : Hid ((LL ++ enI pa (HA 112)).length ≤ 56) := hide (by have := HLN.out; have := enI_le pa (HA 112); rw [List.length_append]; omega)
  obtain ⟨L2, HL2⟩ : ∃ x, Hid (x = LL ++ enI pa (HA 112)) := ⟨_, hide rfl⟩
  rw [← HL2.out] at HO2 HLN2
  have HE2 : Hid (L2 = (((((intL fr ++ intL tn) ++ intL t) ++ enF pre (HA 97)) ++ enF ok (HA 103)) ++ enI ld (HA 108)) ++ enI pa (HA 112)) := hide (by rw [HL2.out, HEL.out])
  clear HLN HOW HY HL2 HEL Y LL
  obtain ⟨LL, rfl⟩ : ∃ x, x = L2 := ⟨_, rfl⟩
  have HLN := HLN2
  have HOW := HO2
  have HY := HYN
  have HEL := HE2
  clear HLN2 HO2 HYN HE2
  go_upto_region 9 with fail
  generalize w2 = Y at HOW HY ⊢
  generalize v2 = u at HOW ⊢
  have HF : Hid (∀ W, Below X.heap.size X W → (fun W : World => W.cell? ⟨w.heap.size, 8, none⟩ = some (.int .i64 pt)) W) := hide (fun W h => (C15.of (range_bel HRG.out h)).c8)
  have HS0 : Hid ((fun W : World => W.cell? ⟨w.heap.size, 8, none⟩ = some (.int .i64 pt)) Y.drew ∧ Below X.heap.size X Y.drew ∧ X.heap.size ≤ Y.drew.heap.size) := hide ⟨HF.out _ HY.out.drew, HY.out.drew, HY.out.size⟩
  have HOD : Hid (Ow X.heap.size Y.drew _ LL) := hide (HOW.out.below (Below.refl _ _).drew)
  go_region_held3 (fun W => W.cell? ⟨w.heap.size, 8, none⟩ = some (.int .i64 pt) ∧ Below X.heap.size X W ∧ X.heap.size ≤ W.heap.size)
    (first | with_reducible assumption | with_reducible exact hs_call HF.out (by assumption) (by assumption) | with_reducible exact hs_putp HF.out (by assumption) (by assumption) | with_reducible exact HS0.out)
    (first
      | (go_at_call 36; refine (HH.out _ _).mono ?_; rintro e w' ⟨rfl, rfl⟩)
      | (go_at_call 68; refine (mint1_any _ _ _ h_pt).mono ?_; rintro e w1 ⟨v, rfl, hs, hb⟩; have HSL := hide hs; have HRW := hide (HOD.out.below hb); clear hs)
      | (refine step_append_owp rfl _ _ rfl _ _ _ rfl HRW.out (by exact And.right (And.right (by assumption))) _ _ rfl HSL.out (by have := HLN.out; have := enI_le pt (HA 112); omega) ?_; intro w2 v2 ho2 hb2; have HO2 := hide ho2; clear ho2))
  have HYN : Hid (Below X.heap.size X w2) := hide (And.left (And.right (by assumption)))
  rename_i hHeld
  clear HF HS0 HOD HSL HRW hHeld hb hb2 w1
  have HLN2 : Hid ((LL ++ enI pt (HA 112)).length ≤ 64) := hide (by have := HLN.out; have := enI_le pt (HA 112); rw [List.length_append]; omega)
  obtain ⟨L2, HL2⟩ : ∃ x, Hid (x = LL ++ enI pt (HA 112)) := ⟨_, hide rfl⟩
  rw [← HL2.out] at HO2 HLN2
  have HE2 : Hid (L2 = ((((((intL fr ++ intL tn) ++ intL t) ++ enF pre (HA 97)) ++ enF ok (HA 103)) ++ enI ld (HA 108)) ++ enI pa (HA 112)) ++ enI pt (HA 112)) := hide (by rw [HL2.out, HEL.out])
  clear HLN HOW HY HL2 HEL Y LL
  obtain ⟨LL, rfl⟩ : ∃ x, x = L2 := ⟨_, rfl⟩
  have HLN := HLN2
  have HOW := HO2
  have HY := HYN
  have HEL := HE2
  clear HLN2 HO2 HYN HE2
  go_upto_region 10 with fail
  generalize w2 = Y at HOW HY ⊢
  generalize v2 = u at HOW ⊢
  have HF : Hid (∀ W, Below X.heap.size X W → (fun W : World => W.cell? ⟨w.heap.size, 9, none⟩ = some (.int .i64 hi)) W) := hide (fun W h => (C15.of (range_bel HRG.out h)).c9)
  have HS0 : Hid ((fun W : World => W.cell? ⟨w.heap.size, 9, none⟩ = some (.int .i64 hi)) Y.drew ∧ Below X.heap.size X Y.drew ∧ X.heap.size ≤ Y.drew.heap.size) := hide ⟨HF.out _ HY.out.drew, HY.out.drew, HY.out.size⟩
  have HOD : Hid (Ow X.heap.size Y.drew _ LL) := hide (HOW.out.below (Below.refl _ _).drew)
  go_region_held3 (fun W => W.cell? ⟨w.heap.size, 9, none⟩ = some (.int .i64 hi) ∧ Below X.heap.size X W ∧ X.heap.size ≤ W.heap.size)
    (first | with_reducible assumption | with_reducible exact hs_call HF.out (by assumption) (by assumption) | with_reducible exact hs_putp HF.out (by assumption) (by assumption) | with_reducible exact HS0.out)
    (first
      | (go_at_call 36; refine (HH.out _ _).mono ?_; rintro e w' ⟨rfl, rfl⟩)
      | (go_at_call 68; refine (mint1_any _ _ _ h_hi).mono ?_; rintro e w1 ⟨v, rfl, hs, hb⟩; have HSL := hide hs; have HRW := hide (HOD.out.below hb); clear hs)
      | (refine step_append_owp rfl _ _ rfl _ _ _ rfl HRW.out (by exact And.right (And.right (by assumption))) _ _ rfl HSL.out (by have := HLN.out; have := enI_le hi (HA 104); omega) ?_; intro w2 v2 ho2 hb2; have HO2 := hide ho2; clear ho2))
  have HYN : Hid (Below X.heap.size X w2) := hide (And.left (And.right (by assumption)))
  rename_i hHeld
  clear HF HS0 HOD HSL HRW hHeld hb hb2 w1
  have HLN2 : Hid ((LL ++ enI hi (HA 104)).length ≤ 72) := hide (by have := HLN.out; have := enI_le hi (HA 104); rw [List.length_append]; omega)
  obtain ⟨L2, HL2⟩ : ∃ x, Hid (x = LL ++ enI hi (HA 104)) := ⟨_, hide rfl⟩
  rw [← HL2.out] at HO2 HLN2
  have HE2 : Hid (L2 = (((((((intL fr ++ intL tn) ++ intL t) ++ enF pre (HA 97)) ++ enF ok (HA 103)) ++ enI ld (HA 108)) ++ enI pa (HA 112)) ++ enI pt (HA 112)) ++ enI hi (HA 104)) := hide (by rw [HL2.out, HEL.out])
  clear HLN HOW HY HL2 HEL Y LL
  obtain ⟨LL, rfl⟩ : ∃ x, x = L2 := ⟨_, rfl⟩
  have HLN := HLN2
  have HOW := HO2
  have HY := HYN
  have HEL := HE2
  clear HLN2 HO2 HYN HE2
  go_upto_region 11 with fail
  generalize w2 = Y at HOW HY ⊢
  generalize v2 = u at HOW ⊢
  have HF : Hid (∀ W, Below X.heap.size X W → (fun W : World => W.cell? ⟨w.heap.size, 10, none⟩ = some (.int .i64 co)) W) := hide (fun W h => (C15.of (range_bel HRG.out h)).c10)
  have HS0 : Hid ((fun W : World => W.cell? ⟨w.heap.size, 10, none⟩ = some (.int .i64 co)) Y.drew ∧ Below X.heap.size X Y.drew ∧ X.heap.size ≤ Y.drew.heap.size) := hide ⟨HF.out _ HY.out.drew, HY.out.drew, HY.out.size⟩
  have HOD : Hid (Ow X.heap.size Y.drew _ LL) := hide (HOW.out.below (Below.refl _ _).drew)
  go_region_held3 (fun W => W.cell? ⟨w.heap.size, 10, none⟩ = some (.int .i64 co) ∧ Below X.heap.size X W ∧ X.heap.size ≤ W.heap.size)
    (first | with_reducible assumption | with_reducible exact hs_call HF.out (by assumption) (by assumption) | with_reducible exact hs_putp HF.out (by assumption) (by assumption) | with_reducible exact HS0.out)
    (first
      | (go_at_call 36; refine (HH.out _ _).mono ?_; rintro e w' ⟨rfl, rfl⟩)
      | (go_at_call 68; refine (mint1_any _ _ _ h_co).mono ?_; rintro e w1 ⟨v, rfl, hs, hb⟩; have HSL := hide hs; have HRW := hide (HOD.out.below hb); clear hs)
      | (refine step_append_owp rfl _ _ rfl _ _ _ rfl HRW.out (by exact And.right (And.right (by assumption))) _ _ rfl HSL.out (by have := HLN.out; have := enI_le co (HA 99); omega) ?_; intro w2 v2 ho2 hb2; have HO2 := hide ho2; clear ho2))
  have HYN : Hid (Below X.heap.size X w2) := hide (And.left (And.right (by assumption)))
  rename_i hHeld
  clear HF HS0 HOD HSL HRW hHeld hb hb2 w1
  have HLN2 : Hid ((LL ++ enI co (HA 99)).length ≤ 80) := hide (by have := HLN.out; have := enI_le co (HA 99); rw [List.length_append]; omega)
  obtain ⟨L2, HL2⟩ : ∃ x, Hid (x = LL ++ enI co (HA 99)) := ⟨_, hide rfl⟩
  rw [← HL2.out] at HO2 HLN2
  have HE2 : Hid (L2 = ((((((((intL fr ++ intL tn) ++ intL t) ++ enF pre (HA 97)) ++ enF ok (HA 103)) ++ enI ld (HA 108)) ++ enI pa (HA 112)) ++ enI pt (HA 112)) ++ enI hi (HA 104)) ++ enI co (HA 99)) := hide (by rw [HL2.out, HEL.out])
  clear HLN HOW HY HL2 HEL Y LL
  obtain ⟨LL, rfl⟩ : ∃ x, x = L2 := ⟨_, rfl⟩
  have HLN := HLN2
  have HOW := HO2
  have HY := HYN
  have HEL := HE2
  clear HLN2 HO2 HYN HE2
  go_upto_region 12 with fail
  generalize w2 = Y at HOW HY ⊢
  generalize v2 = u at HOW ⊢
  have HF : Hid (∀ W, Below X.heap.size X W → (fun W : World => W.cell? ⟨w.heap.size, 12, none⟩ = some (.int .i64 sz)) W) := hide (fun W h => (C15.of (range_bel HRG.out h)).c12)
  have HS0 : Hid ((fun W : World => W.cell? ⟨w.heap.size, 12, none⟩ = some (.int .i64 sz)) Y.drew ∧ Below X.heap.size X Y.drew ∧ X.heap.size ≤ Y.drew.heap.size) := hide ⟨HF.out _ HY.out.drew, HY.out.drew, HY.out.size⟩
  have HOD : Hid (Ow X.heap.size Y.drew _ LL) := hide (HOW.out.below (Below.refl _ _).drew)
  go_region_held3 (fun W => W.cell? ⟨w.heap.size, 12, none⟩ = some (.int .i64 sz) ∧ Below X.heap.size X W ∧ X.heap.size ≤ W.heap.size)
    (first | with_reducible assumption | with_reducible exact hs_call HF.out (by assumption) (by assumption) | with_reducible exact hs_putp HF.out (by assumption) (by assumption) | with_reducible exact HS0.out)
    (first
      | (go_at_call 36; refine (HH.out _ _).mono ?_; rintro e w' ⟨rfl, rfl⟩)
      | (go_at_call 68; refine (mint1_any _ _ _ h_sz).mono ?_; rintro e w1 ⟨v, rfl, hs, hb⟩; have HSL := hide hs; have HRW := hide (HOD.out.below hb); clear hs)
      | (refine step_append_owp rfl _ _ rfl _ _ _ rfl HRW.out (by exact And.right (And.right (by assumption))) _ _ rfl HSL.out (by have := HLN.out; have := enI_le sz (HA 115); omega) ?_; intro w2 v2 ho2 hb2; have HO2 := hide ho2; clear ho2))
  have HYN : Hid (Below X.heap.size X w2) := hide (And.left (And.right (by assumption)))
  rename_i hHeld
  clear HF HS0 HOD HSL HRW hHeld hb hb2 w1
  have HLN2 : Hid ((LL ++ enI sz (HA 115)).length ≤ 88) := hide (by have := HLN.out; have := enI_le sz (HA 115); rw [List.length_append]; omega)
  obtain ⟨L2, HL2⟩ : ∃ x, Hid (x = LL ++ enI sz (HA 115)) := ⟨_, hide rfl⟩
  rw [← HL2.out] at HO2 HLN2
  have HE2 : Hid (L2 = (((((((((intL fr ++ intL tn) ++ intL t) ++ enF pre (HA 97)) ++ enF ok (HA 103)) ++ enI ld (HA 108)) ++ enI pa (HA 112)) ++ enI pt (HA 112)) ++ enI hi (HA 104)) ++ enI co (HA 99)) ++ enI sz (HA 115)) := hide (by rw [HL2.out, HEL.out])
  clear HLN HOW HY HL2 HEL Y LL
  obtain ⟨LL, rfl⟩ : ∃ x, x = L2 := ⟨_, rfl⟩
  have HLN := HLN2
  have HOW := HO2
  have HY := HYN
  have HEL := HE2
  clear HLN2 HO2 HYN HE2
  go_upto_region 13 with fail
  generalize w2 = Y at HOW HY ⊢
  generalize v2 = u at HOW ⊢
  have HF : Hid (∀ W, Below X.heap.size X W → (fun W : World => W.cell? ⟨w.heap.size, 13, none⟩ = some (.int .i64 po)) W) := hide (fun W h => (C15.of (range_bel HRG.out h)).c13)
  have HS0 : Hid ((fun W : World => W.cell? ⟨w.heap.size, 13, none⟩ = some (.int .i64 po)) Y.drew ∧ Below X.heap.size X Y.drew ∧ X.heap.size ≤ Y.drew.heap.size) := hide ⟨HF.out _ HY.out.drew, HY.out.drew, HY.out.size⟩
  have HOD : Hid (Ow X.heap.size Y.drew _ LL) := hide (HOW.out.below (Below.refl _ _).drew)
  go_region_held3 (fun W => W.cell? ⟨w.heap.size, 13, none⟩ = some (.int .i64 po) ∧ Below X.heap.size X W ∧ X.heap.size ≤ W.heap.size)
    (first | with_reducible assumption | with_reducible exact hs_call HF.out (by assumption) (by assumption) | with_reducible exact hs_putp HF.out (by assumption) (by assumption) | with_reducible exact HS0.out)
    (first
      | (go_at_call 36; refine (HH.out _ _).mono ?_; rintro e w' ⟨rfl, rfl⟩)
      | (go_at_call 68; refine (mint1_any _ _ _ h_po).mono ?_; rintro e w1 ⟨v, rfl, hs, hb⟩; have HSL := hide hs; have HRW := hide (HOD.out.below hb); clear hs)
      | (refine step_append_owp rfl _ _ rfl _ _ _ rfl HRW.out (by exact And.right (And.right (by assumption))) _ _ rfl HSL.out (by have := HLN.out; have := enI_le po (HA 111); omega) ?_; intro w2 v2 ho2 hb2; have HO2 := hide ho2; clear ho2))
  have HYN : Hid (Below X.heap.size X w2) := hide (And.left (And.right (by assumption)))
  rename_i hHeld
  clear HF HS0 HOD HSL HRW hHeld hb hb2 w1
  have HLN2 : Hid ((LL ++ enI po (HA 111)).length ≤ 96) := hide (by have := HLN.out; have := enI_le po (HA 111); rw [List.length_append]; omega)
  obtain ⟨L2, HL2⟩ : ∃ x, Hid (x = LL ++ enI po (HA 111)) := ⟨_, hide rfl⟩
  rw [← HL2.out] at HO2 HLN2
  have HE2 : Hid (L2 = ((((((((((intL fr ++ intL tn) ++ intL t) ++ enF pre (HA 97)) ++ enF ok (HA 103)) ++ enI ld (HA 108)) ++ enI pa (HA 112)) ++ enI pt (HA 112)) ++ enI hi (HA 104)) ++ enI co (HA 99)) ++ enI sz (HA 115)) ++ enI po (HA 111)) := hide (by rw [HL2.out, HEL.out])
  clear HLN HOW HY HL2 HEL Y LL
  obtain ⟨LL, rfl⟩ : ∃ x, x = L2 := ⟨_, rfl⟩
  have HLN := HLN2
  have HOW := HO2
  have HY := HYN
  have HEL := HE2
  clear HLN2 HO2 HYN HE2
  go_upto_region 14 with fail
  generalize w2 = Y at HOW HY ⊢
  generalize v2 = u at HOW ⊢
  have HH1 := hide (fun W => HH.out 100 W)
  go_upto_if 85 with (go_at_call 36; refine (HH1.out _).mono ?_; rintro e w1 ⟨rfl, hw1⟩; rw [hw1]; clear hw1 w1)
  go_cut [4] (fun y W => Hid (Ow X.heap.size W y ((((((((((((intL fr ++ intL tn) ++ intL t) ++ enF pre (HA 97)) ++ enF ok (HA 103)) ++ enI ld (HA 108)) ++ enI pa (HA 112)) ++ enI pt (HA 112)) ++ enI hi (HA 104)) ++ enI co (HA 99)) ++ enI sz (HA 115)) ++ enI po (HA 111)) ++ (if HA 100 then enD da else []))) ∧ Hid (Below X.heap.size X W))
  case first =>
    have g14 := (C15.of (range_bel HRG.out HY.out)).c14
    cases hh : HA 100 with
    | true =>
      have HC := hide (refText_sl (.slice ad nd cd) da Y (HDA.out.below (HBX.out.trans (HY.out.mono HBX.out.size))) hda)
      go_wp2_with (first | (go_at_call 69; refine HC.out.mono ?_; rintro e w1 ⟨v, rfl, hs, hb⟩; have HSL := hide hs; have HRW := hide (HOW.out.below hb); have HY1 := hide (HY.out.trans (hb.mono HY.out.size)); clear hs hb g14) | (at_builtin; refine wpList_append_owp rfl _ _ rfl X.heap.size _ LL rfl HRW.out HY1.out.size _ (enD da) rfl HSL.out (by have := HLN.out; have := hel; omega) ?_; intro w2 v2 ho2 hb2; have HO2 := hide ho2; have HY2 := hide (HY1.out.trans hb2); clear ho2 hb2))
      go_meet
      exact ⟨hide (by rw [hh, if_pos rfl, ← HEL.out]; exact HO2.out), HY2⟩
    | false =>
      go_wp2_with fail
      go_meet
      exact ⟨hide (by rw [hh, if_neg (by decide), List.append_nil, ← HEL.out]; exact HOW.out), HY⟩
  case rest =>
    obtain ⟨HO2, HY2⟩ := hcut
    have HLN2 : Hid (((((((((((((intL fr ++ intL tn) ++ intL t) ++ enF pre (HA 97)) ++ enF ok (HA 103)) ++ enI ld (HA 108)) ++ enI pa (HA 112)) ++ enI pt (HA 112)) ++ enI hi (HA 104)) ++ enI co (HA 99)) ++ enI sz (HA 115)) ++ enI po (HA 111)) ++ (if HA 100 then enD da else [])).length ≤ 5096) := hide (by have h1 := HLN.out; rw [HEL.out] at h1; have h5 : (if HA 100 then enD da else []).length ≤ 4008 := (by split; (exact hel); (simp)); rw [List.length_append]; omega)
    clear HLN HOW HY HEL LL
    obtain ⟨LL, HEL⟩ : ∃ x, Hid (x = ((((((((((((intL fr ++ intL tn) ++ intL t) ++ enF pre (HA 97)) ++ enF ok (HA 103)) ++ enI ld (HA 108)) ++ enI pa (HA 112)) ++ enI pt (HA 112)) ++ enI hi (HA 104)) ++ enI co (HA 99)) ++ enI sz (HA 115)) ++ enI po (HA 111)) ++ (if HA 100 then enD da else []))) := ⟨_, hide rfl⟩
    rw [← HEL.out] at HO2 HLN2
    obtain ⟨Y2, rfl⟩ : ∃ x : World, x = wc := ⟨_, rfl⟩
    clear Y
    obtain ⟨Y, rfl⟩ : ∃ x : World, x = Y2 := ⟨_, rfl⟩
    have HLN := HLN2
    have HOW := HO2
    have HY := HY2
    clear HLN2 HO2 HY2 HH1
    go_upto_region 16 with fail
    have HF : Hid (∀ W, Below X.heap.size X W → (fun W : World => W.cell? ⟨w.heap.size, 11, none⟩ = some (.slice ab nb cb)) W) := hide (fun W h => (C15.of (range_bel HRG.out h)).c11)
    have HS0 : Hid ((fun W : World => W.cell? ⟨w.heap.size, 11, none⟩ = some (.slice ab nb cb)) Y.drew ∧ Below X.heap.size X Y.drew ∧ X.heap.size ≤ Y.drew.heap.size) := hide ⟨HF.out _ HY.out.drew, HY.out.drew, HY.out.size⟩
    have HOD : Hid (Ow X.heap.size Y.drew _ LL) := hide (HOW.out.below (Below.refl _ _).drew)
    go_region_held3 (fun W => W.cell? ⟨w.heap.size, 11, none⟩ = some (.slice ab nb cb) ∧ Below X.heap.size X W ∧ X.heap.size ≤ W.heap.size)
      (first | with_reducible assumption | with_reducible exact hs_call HF.out (by assumption) (by assumption) | with_reducible exact hs_putp HF.out (by assumption) (by assumption) | with_reducible exact HS0.out)
      (first
        | (go_at_call 36; refine (HH.out _ _).mono ?_; rintro e w' ⟨rfl, rfl⟩)
        | (go_at_call 68; refine (mint1_any _ _ _ h_nb).mono ?_; rintro e w1 ⟨v, rfl, hs, hb⟩; have HSL := hide hs; have HRW := hide (HOD.out.below hb); clear hs)
        | (refine step_append_owp rfl _ _ rfl _ _ _ rfl HRW.out (by exact And.right (And.right (by assumption))) _ _ rfl HSL.out (by have := HLN.out; have := enI_le nb (HA 98); omega) ?_; intro w2 v2 ho2 hb2; have HO2 := hide ho2; clear ho2))
    have HYN : Hid (Below X.heap.size X w2) := hide (And.left (And.right (by assumption)))
    rename_i hHeld
    clear HF HS0 HOD HSL HRW hHeld hb hb2 w1
    have HLN2 : Hid ((LL ++ enI nb (HA 98)).length ≤ 6096) := hide (by have := HLN.out; have := enI_le nb (HA 98); rw [List.length_append]; omega)
    obtain ⟨L2, HL2⟩ : ∃ x, Hid (x = LL ++ enI nb (HA 98)) := ⟨_, hide rfl⟩
    rw [← HL2.out] at HO2 HLN2
    have HE2 : Hid (L2 = ((((((((((((intL fr ++ intL tn) ++ intL t) ++ enF pre (HA 97)) ++ enF ok (HA 103)) ++ enI ld (HA 108)) ++ enI pa (HA 112)) ++ enI pt (HA 112)) ++ enI hi (HA 104)) ++ enI co (HA 99)) ++ enI sz (HA 115)) ++ enI po (HA 111)) ++ (if HA 100 then enD da else [])) ++ enI nb (HA 98)) := hide (by rw [HL2.out, HEL.out])
    clear HLN HOW HY HL2 HEL Y LL
    obtain ⟨LL, rfl⟩ : ∃ x, x = L2 := ⟨_, rfl⟩
    have HLN := HLN2
    have HOW := HO2
    have HY := HYN
    have HEL := HE2
    clear HLN2 HO2 HYN HE2

    go_upto_region 17 with fail
    generalize w2 = Y at HOW HY ⊢
    generalize v2 = u at HOW ⊢
    have g11 := (C15.of (range_bel HRG.out HY.out)).c11
    go_wp2_with fail
    clear g11
    go_loopw [4, 5] (fun y i wr => ∃ j : Nat, j ≤ nb ∧ i = .int .i64 (j : Int) ∧ Hid (Ow X.heap.size wr y (LL ++ batsL ((bts qs).take j))) ∧ Hid (Below X.heap.size X wr)) (fun _ i _ => nb - (intOf i).toNat)
    case atStart => exact ⟨0, Nat.zero_le _, rfl, hide (by simpa [batsL] using HOW.out), HY⟩
    case round =>
      clear HOW HY
      obtain ⟨j, hj, rfl, HOJ, HXJ⟩ := hrel
      have HBJ := hide (HBX.out.trans (HXJ.out.mono HBX.out.size))
      have g11 := (C15.of (range_bel HRG.out HXJ.out)).c11
      have hzr := HXJ.out.size
      by_cases hlt : j < nb
      · have hltI : (j : Int) < (nb : Int) := by omega
        have hlq : j < qs.length := by omega
        have hlb : j < (bts qs).length := by rw [bts_len]; exact hlq
        have hbj : (bts qs)[j] = btq qs[j] := by simp [bts]
        obtain ⟨b, o, rfl, hrg⟩ := HM.out.rg2 (by omega)
        have HE := hide (range_bel (brange_at hrg hlq) HBJ.out)
        have HP := hide ((HM.out.2 _ (List.getElem_mem hlq)).below HBJ.out)
        have hc : (bw (btq qs[j])).c = 0 := HOK.out (btq qs[j]) (List.mem_map.2 ⟨_, List.getElem_mem hlq, rfl⟩)
        have hl16 : (bytL (btq qs[j])).length ≤ 16384 := HLE.out (btq qs[j]) (List.mem_map.2 ⟨_, List.getElem_mem hlq, rfl⟩)
        have HSN := hide (batsL_snoc (bts qs) j hlb)
        have hen : (LL ++ batsL ((bts qs).take j)).length ≤ 500000 := by
          have h1 := bats_le (xs := (bts qs).take j) (fun x hx => HLE.out x (List.mem_of_mem_take hx))
          have h3 : ((bts qs).take j).length ≤ 20 := by rw [List.length_take, bts_len]; omega
          have h4 := HLN.out
          rw [List.length_append]
          omega
        rw [hbj] at HSN
        clear hrg hbj
        generalize qs[j] = p at *
        have HC := hide (rbbytes_any (okb := fun _ => True) (ok := fun _ => True) (btq p) (.agg (bce p).toArray) wr ⟨p.u, p.ps, rfl, HP.out, rfl⟩ hc)
        clear hc HP
        generalize bytL (btq p) = Y9 at *
        go_wp2_with (first | (refine wpList_load_mid rfl _ _ rfl _ _ rfl _ _ HE.out Tryz.underlying52 rfl (by kernel_rfl) ?_) | (go_at_call 65; refine HC.out.mono ?_; rintro e W6 ⟨a6, c6, rfl, hs6, hb6⟩; have HS6 := hide hs6.sl; have HO6 := hide (HOJ.out.below hb6); have HX6 := hide (HXJ.out.trans (hb6.mono hzr)); have hz6 := Nat.le_trans hzr hb6.size; clear hs6 hb6) | (at_builtin; refine wpList_append_owp rfl _ _ rfl X.heap.size u4 _ rfl HO6.out hz6 _ Y9 rfl HS6.out (by omega) ?_; intro W7 v7 ho7 hb7; have HO7 := hide ho7; have HX7 := hide (HX6.out.trans hb7); clear ho7 hb7))
        go_roundw
        case rel => exact ⟨j + 1, by omega, by go_num, hide (by rw [HSN.out, ← List.append_assoc]; exact HO7.out), HX7⟩
        case measure => simp [intOf]; omega
      · obtain rfl : nb = j := by omega
        have HOF : Hid (Ow X.heap.size wr u4 ((((((((((((((intL fr ++ intL tn) ++ intL t) ++ enF pre (HA 97)) ++ enF ok (HA 103)) ++ enI ld (HA 108)) ++ enI pa (HA 112)) ++ enI pt (HA 112)) ++ enI hi (HA 104)) ++ enI co (HA 99)) ++ enI sz (HA 115)) ++ enI po (HA 111)) ++ (if HA 100 then enD da else [])) ++ enI nb (HA 98)) ++ batsL (bts qs))) := hide (by have h9 := HOJ.out; rwa [List.take_of_length_le (by rw [bts_len]; omega), HEL.out] at h9)
        clear hlt HOJ
        go_wp2_with fail
        go_ret
        exact ⟨_, rfl, by rw [HRES.out]; exact HOF.out.sl, HBJ.out⟩

end Go.Proofs.YtoioddnlkbjljaaGreatDoor
namespace Go.Proofs.YtoioddnlkbjljaaGreatDoor
open Go.RowKit

set_option maxRecDepth 100000 in
set_option maxHeartbeats 4000000 in
theorem bshort_none (ao : Option Addr) (cap : Nat) (w : World) : Calls Tryz.prog 14 #[.slice ao 0 cap] w fun e w' => e = .returned (.bool true) ∧ Below w.heap.size w w' := by
  go_enter Tryz.func14, Tryz.ntmps14
  go_wp2_with fail
  refine wp_loop_rounds 1 ?_
  rw [rounds_succ]
  go_wp2_with fail
  go_ret
  exact ⟨rfl, Below.refl _ _⟩
set_option maxRecDepth 100000 in
set_option maxHeartbeats 4000000 in
theorem bshort_some {ok : Nat → Prop} (b o cap : Nat) (ps : List Rp) (w : World) (hrg : w.rangeAt b o (rcs ps)) (hrw : ∀ p ∈ ps, RwP ok w p) :
    Calls Tryz.prog 14 #[.slice (some ⟨b, o, none⟩) ps.length cap] w fun e w' => e = .returned (.bool (shL (rcl ps))) ∧ Below w.heap.size w w' := by
  have HR := hide hrg
  have HW := hide hrw
  clear hrg hrw
  by_cases h80 : 80 < ps.length
  · have h80' : (80 : Int) < (ps.length : Int) := by omega
    rw [shL_long (by rw [rcl_len]; exact h80)]
    go_enter Tryz.func14, Tryz.ntmps14
    go_wp2_with fail
    go_ret
    exact ⟨rfl, Below.refl _ _⟩
  · have h80' : ¬ (80 : Int) < (ps.length : Int) := by omega
    go_enter Tryz.func14, Tryz.ntmps14
    go_wp2_with fail
    go_loopw [3] (fun i wr => ∃ j : Nat, j ≤ ps.length ∧ i = .int .i64 (j : Int) ∧ ((rcl ps).take j).all shB = true ∧ Below w.heap.size w wr) (fun i _ => ps.length - (intOf i).toNat)
    case atStart => exact ⟨0, Nat.zero_le _, rfl, rfl, Below.refl _ _⟩
    case round =>
      obtain ⟨j, hj, rfl, hall, hb⟩ := hrel
      have HA := hide hall
      have HB := hide hb
      clear hall hb
      by_cases hlt : j < ps.length
      · have hltI : (j : Int) < (ps.length : Int) := by omega
        have HE := hide (range_bel (range_at HR.out hlt) HB.out)
        have HP := hide ((HW.out _ (List.getElem_mem hlt)).below HB.out)
        have hlr : j < (rcl ps).length := by rw [rcl_len]; exact hlt
        have hpj : (rcl ps)[j] = ps[j].1 := by simp [rcl]
        have HN := hide (fun h => shL_no hlr (by rw [hpj]; exact h))
        have HT := hide (fun h => all_take hlr HA.out (by rw [hpj]; exact h))
        have HS := hide (short_any _ _ wr HP.out.is)
        clear hpj
        generalize ps[j] = p at *
        cases hs : shB p.1 with
        | true =>
          rw [hs] at HS
          go_wp2_with (first | (refine wpList_load_mid rfl _ _ rfl _ _ rfl _ _ HE.out Tryz.underlying55 rfl (by kernel_rfl) ?_) | (go_at_call 42; refine HS.out.mono ?_; rintro e w1 ⟨rfl, hb1⟩; have HB1 := hide (HB.out.trans (hb1.mono HB.out.size)); clear hb1))
          go_roundw
          case rel => exact ⟨j + 1, by omega, by go_num, HT.out hs, HB1.out⟩
          case measure => simp [intOf]; omega
        | false =>
          rw [hs] at HS
          go_wp2_with (first | (refine wpList_load_mid rfl _ _ rfl _ _ rfl _ _ HE.out Tryz.underlying55 rfl (by kernel_rfl) ?_) | (go_at_call 42; refine HS.out.mono ?_; rintro e w1 ⟨rfl, hb1⟩; have HB1 := hide (HB.out.trans (hb1.mono HB.out.size)); clear hb1))
          go_ret
          exact ⟨ret_b (HN.out hs), HB1.out⟩
      · obtain rfl : j = ps.length := by omega
        have hsh : shL (rcl ps) = true := by
          have := HA.out
          rw [← rcl_len, List.take_length] at this
          unfold shL
          rw [this, rcl_len, decide_eq_true (by omega)]
          rfl
        clear hlt
        go_wp2_with fail
        go_ret
        exact ⟨ret_b hsh, HB.out⟩
theorem bshort_any {okb ok : Nat → Prop} (v : Value) (ps : List Rp) (w : World) (hv : Rl okb ok w v ps) : Calls Tryz.prog 14 #[v] w fun e w' => e = .returned (.bool (shL (rcl ps))) ∧ Below w.heap.size w w' := by
  obtain ⟨h1, h2⟩ := hv
  rcases h1 with ⟨ao, cap, rfl, rfl⟩ | ⟨b, o, cap, rfl, _, _, _, h3⟩
  · exact bshort_none ao cap w
  · exact bshort_some b o cap ps w h3 h2
end Go.Proofs.YtoioddnlkbjljaaGreatDoor
namespace Go.Proofs.YtoioddnlkbjljaaGreatDoor
open Go.RowKit

/-- What is wrong with a batch that is to be written, by the document. -/
def bwP (x : Bt) : Bw := if (bw x).c = 0 then (if (bytL x).length ≤ 16384 then ⟨⟨#[]⟩, 0, 0, -1, 0⟩ else ⟨⟨#[98, 97, 116, 99, 104]⟩, (bytL x).length, 6, -1, 0⟩) else bw x
/-- Its bytes, if nothing is. -/
def byP (x : Bt) : List Int := if (bwP x).c = 0 then bytL x else []
set_option maxRecDepth 100000 in
set_option maxHeartbeats 32000000 in
theorem rbput_go (t bs : Int) (ao : Option Addr) (n cap : Nat) (op : ByteArray) (pt c r : Int) (L : List Int) (w : World)
    (HC : Hid (∀ W, Below w.heap.size w W → Calls Tryz.prog 64 #[.agg #[.int .i64 t, .int .i64 bs, .slice ao n cap]] W fun e w' => e = .returned (.agg #[.string op, .int .i64 pt, .int .i64 c, .int .i64 r]) ∧ Below W.heap.size W w'))
    (HB : Hid (c = 0 → ∀ W, Below w.heap.size w W → Calls Tryz.prog 65 #[.agg #[.int .i64 t, .int .i64 bs, .slice ao n cap]] W fun e w' => ∃ a2 c2, e = .returned (.slice a2 L.length c2) ∧ Sld 0 (W.heap.size + 1) bc w' (.slice a2 L.length c2) L ∧ Below W.heap.size W w')) :
    Calls Tryz.prog 25 #[.agg #[.int .i64 t, .int .i64 bs, .slice ao n cap]] w fun e w' => ∃ y o2 p2 c2 r2, e = .returned (.tuple #[y, .agg #[.string o2, .int .i64 p2, .int .i64 c2, .int .i64 r2]]) ∧ Sl bc w' y (if c = 0 then (if L.length ≤ 16384 then L else []) else []) ∧ (o2, p2, c2, r2) = (if c = 0 then (if L.length ≤ 16384 then (⟨#[]⟩, 0, 0, -1) else (⟨#[98, 97, 116, 99, 104]⟩, (L.length : Int), 6, -1)) else (op, pt, c, r)) ∧ Below w.heap.size w w' := by
  obtain ⟨hb0, ht0, hr0⟩ := box_four w (.int .i64 t) (.int .i64 bs) (.slice ao n cap) (Y := ((w.alloc (.cells #[.int .i64 t, .int .i64 bs, .slice ao n cap] 52)).alloc (.cells #[.string ⟨#[]⟩, .int .i64 0, .int .i64 0, .int .i64 0] 38))) rfl
  have HB0 := hide hb0
  have HT := hide ht0
  have HR4 := hide hr0
  clear hb0 ht0 hr0
  go_enter Tryz.func25, Tryz.ntmps25
  go_upto_region 1 with fail
  generalize ((w.alloc (.cells #[.int .i64 t, .int .i64 bs, .slice ao n cap] 52)).alloc (.cells #[.string ⟨#[]⟩, .int .i64 0, .int .i64 0, .int .i64 0] 38)) = Y at HB0 HT HR4 ⊢
  obtain ⟨i0, i1, i2⟩ := HT.out Y (Below.refl _ _)
  go_upto_region 2 with (first | (go_at_call 64; refine (HC.out Y HB0.out).mono ?_; rintro e V1 ⟨rfl, hb1⟩))
  clear i0 i1 i2
  obtain ⟨V, hV⟩ : ∃ V, V = V1.alloc (.cells #[.string op, .int .i64 pt, .int .i64 c, .int .i64 r] 38) := ⟨_, rfl⟩
  have hbV : Below Y.heap.size Y V := by rw [hV]; exact hb1.alloc hb1.size _
  have d0 : V.cell? ⟨V1.heap.size, 0, none⟩ = some (.string op) := by rw [hV]; simp
  have d1 : V.cell? ⟨V1.heap.size, 1, none⟩ = some (.int .i64 pt) := by rw [hV]; simp
  have d2 : V.cell? ⟨V1.heap.size, 2, none⟩ = some (.int .i64 c) := by rw [hV]; simp
  have d3 : V.cell? ⟨V1.heap.size, 3, none⟩ = some (.int .i64 r) := by rw [hV]; simp
  show Code.wp _ _ _ _ _
  rw [← hV]
  have HBV := hide hbV
  have HBw := hide (HB0.out.trans (hbV.mono HB0.out.size))
  have hz : w.heap.size + 1 < V1.heap.size := by
    obtain ⟨q, _⟩ := HR4.out Y (Below.refl _ _)
    exact Nat.lt_of_lt_of_le (cell_block q) hb1.size
  clear hV hbV hb1
  generalize V1.heap.size = D at *
  obtain ⟨r0, r1, r2, r3, rf⟩ := HR4.out V HBV.out
  by_cases hc : c = 0
  case neg =>
    have hcb : (c != 0) = true := by simp [hc]
    have rf0 := rf 0
    have rf1 := rf 1
    have rf2 := rf 2
    have rf3 := rf 3
    clear rf
    go_upto_region 3 with fail
    go_region
    all_goals go_wp2_with fail
    all_goals exact bodyPost_ret (v := .tuple #[.slice none 0 0, .agg #[.string op, .int .i64 pt, .int .i64 c, .int .i64 r]]) (by simp [results, Tryz.results25, go_sem, r0, r1, r2, r3]) rfl ⟨_, op, pt, c, r, rfl, Sl.nil _ _ _ _, ⟨rfl, rfl, rfl, rfl⟩, ((((HBw.out.drew.setCell (by exact Nat.le_succ _) _).setCell (by exact Nat.le_succ _) _).setCell (by exact Nat.le_succ _) _).setCell (by exact Nat.le_succ _) _)⟩
  subst hc
  have HBB := hide (HB.out rfl V HBw.out)
  obtain ⟨i0, i1, i2⟩ := HT.out V HBV.out
  clear rf r0 r1 r2 r3 d0 d1 d3
  go_upto_region 5 with (first | (go_at_call 65; refine HBB.out.mono ?_; rintro e V3 ⟨a3, c3, rfl, hs3, hb3⟩))
  have hzV : w.heap.size + 1 < V.heap.size := cell_block (HR4.out V HBV.out).1
  have HS3 := hide hs3
  have HB3 := hide (HBV.out.trans (hb3.mono HBV.out.size))
  have HBW3 := hide (HBw.out.trans (hb3.mono HBw.out.size))
  clear hs3 hb3 i0 i1 i2 d2
  obtain ⟨r0, r1, r2, r3, rf⟩ := HR4.out V3 HB3.out
  have rf0 := rf 0
  have rf1 := rf 1
  have rf2 := rf 2
  have rf3 := rf 3
  clear rf
  by_cases hm : L.length ≤ 16384
  · have hmI : ¬ (16384 : Int) < (L.length : Int) := by omega
    go_wp2_with fail
    exact bodyPost_ret (v := .tuple #[.slice a3 L.length c3, .agg #[.string ⟨#[]⟩, .int .i64 0, .int .i64 0, .int .i64 (-1)]]) (by simp [results, Tryz.results25, go_sem, r0, r1, r2, r3]) rfl ⟨_, ⟨#[]⟩, 0, 0, -1, rfl, by
      rcases HS3.out with h | ⟨g, o, cap', e1, e2, e3, e4⟩
      · exact .inl h
      · exact .inr ⟨g, o, cap', e1, e2, fun i hi => by
          iterate 4 rw [World.cell?_setCell_other _ _ _ _ (fun e => by have := congrArg Addr.block e; simp at this; omega)]
          exact e4 i hi⟩, ⟨rfl, rfl, rfl, rfl⟩, (((HBW3.out.setCell (by exact Nat.le_succ _) _).setCell (by exact Nat.le_succ _) _).setCell (by exact Nat.le_succ _) _).setCell (by exact Nat.le_succ _) _⟩
  · have hmI : (16384 : Int) < (L.length : Int) := by omega
    go_wp2_with fail
    exact bodyPost_ret (v := .tuple #[.slice none 0 0, .agg #[.string ⟨#[98, 97, 116, 99, 104]⟩, .int .i64 L.length, .int .i64 6, .int .i64 (-1)]]) (by simp [results, Tryz.results25, go_sem, r0, r1, r2, r3]) rfl ⟨_, ⟨#[98, 97, 116, 99, 104]⟩, L.length, 6, -1, rfl, Sl.nil _ _ _ _, ⟨rfl, rfl, rfl, rfl⟩, (((HBW3.out.setCell (by exact Nat.le_succ _) _).setCell (by exact Nat.le_succ _) _).setCell (by exact Nat.le_succ _) _).setCell (by exact Nat.le_succ _) _⟩
theorem rbput_any {okb ok : Nat → Prop} (x : Bt) (v : Value) (w : World) (hv : IsB okb ok w v x) (htx : ∀ r ∈ x.rs, TxR r) : Calls Tryz.prog 25 #[v] w fun e w' => ∃ y, e = .returned (.tuple #[y, wrB (bwP x)]) ∧ Sl bc w' y (byP x) ∧ Below w.heap.size w w' := by
  have hck := fun W (h : Below w.heap.size w W) => rbcheck_any x v W (hv.below h) htx
  have hby := fun (hc : (bw x).c = 0) W (h : Below w.heap.size w W) => rbbytes_any x v W (hv.below h) hc
  obtain ⟨u, ps, rfl, h2, _⟩ := hv
  obtain ⟨ao, cap, rfl⟩ := h2.form
  refine (rbput_go x.t x.b ao ps.length cap (bw x).op (bw x).pt (bw x).c (bw x).r (bytL x) w (hide hck) (hide hby)).mono ?_
  rintro e w' ⟨y, o2, p2, c2, r2, rfl, h3, h4, h5⟩
  unfold byP bwP wrB
  by_cases hc : (bw x).c = 0
  · rw [if_pos hc] at h3 h4 ⊢
    by_cases hm : (bytL x).length ≤ 16384
    · rw [if_pos hm] at h3 h4 ⊢
      simp only [Prod.mk.injEq] at h4
      obtain ⟨rfl, rfl, rfl, rfl⟩ := h4
      exact ⟨y, rfl, by rw [if_pos rfl]; exact h3, h5⟩
    · rw [if_neg hm] at h3 h4 ⊢
      simp only [Prod.mk.injEq] at h4
      obtain ⟨rfl, rfl, rfl, rfl⟩ := h4
      exact ⟨y, rfl, by rw [if_neg (show ¬ (6 : Int) = 0 by decide)]; exact h3, h5⟩
  · rw [if_neg hc] at h3 h4 ⊢
    simp only [Prod.mk.injEq] at h4
    obtain ⟨rfl, rfl, rfl, rfl⟩ := h4
    exact ⟨y, rfl, by rw [if_neg hc]; exact h3, h5⟩
end Go.Proofs.YtoioddnlkbjljaaGreatDoor
