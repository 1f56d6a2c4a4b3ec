/-
  castellanref07.Read, walked: what is read of a frame, and what is wrong with it. Conditions: the bytes' cells hold them, each is a byte, no more than four thousand.
-/
import Derived.Test.YtjjpfajbljbelaaGreatDoorJKRpcDq
namespace Go.Proofs.YtjjpfajbljbelaaGreatDoor
open Go.RowKit
theorem frozen_manyD {X : Nat} {a : Addr} : ∀ (vs : List Value) (o : Nat) {b : World}, (b.setCells X o vs).frozen? a = b.frozen? a
 | [], _, _ => rfl
 | x :: vs, o, b => (frozen_manyD vs (o + 1) (b := b.setCell ⟨X, o, none⟩ x)).trans (by simp)
theorem one4 (op : ByteArray) (a b c : Int) : ([.string op, .int .i64 a, .int .i64 b, .int .i64 c] : List Value).toArray.all (·.oneCell') = true :=
 all_oneCell_toArray (fun v hv => by
  simp only [List.mem_cons, List.not_mem_nil, or_false] at hv
  rcases hv with rfl | rfl | rfl | rfl <;> rfl)
theorem slk_sln {ok : Nat → Prop} {W : World} {v : Value} {l : List Int} (h : Slk ok bc W v l) : Sln ok W v l := by
 rcases h with h | ⟨b, o, cap, h1, h2, h3, _, h5⟩
 ·exact .inl h
 ·exact .inr ⟨b, o, cap, h1, h2, h3, h5⟩
set_option maxRecDepth 100000 in
set_option maxHeartbeats 64000000 in
theorem rmread_any (k : Int) (v : Value) (l : List Int) (w : World) (hv : Sl bc w v l) (hl : l.length ≤ 4000) (hby : Byt l) :
  Calls Tryz.prog 6 #[.agg #[.int .i64 k, v]] w fun e w' => ∃ vx y, e = .returned (.tuple #[vx, y]) ∧ y = wrT (readM k l).1 ∧ IsM w' vx (readM k l).2 ∧ Below w.heap.size w w' := by
 obtain ⟨ao, cap, rfl⟩ := hv.form
 obtain ⟨Z, hZ⟩ : ∃ Z, Z = (((w.alloc (.cells #[.int .i64 k, .slice ao l.length cap] 32)).alloc (.cells #[.int .i64 0, .int .i64 0, .int .i64 0, .int .i64 0, .bool false, .bool false, .int .i64 0, .int .i64 0, .int .i64 0, .int .i64 0, .int .i64 0, .slice none 0 0, .int .i64 0, .int .i64 0, .slice none 0 0] 26)).alloc (.cells #[.string ⟨#[]⟩, .int .i64 0, .int .i64 0, .int .i64 0] 37)) := ⟨_, rfl⟩
 obtain ⟨hz, hb, c0, c1, t15, t4⟩ := res_there w k (.slice ao l.length cap) hZ
 have HB := hide hb
 have HZ := hide hz
 have HT15 := hide t15
 have HT4 := hide t4
 have HV0 := hide hv
 have HV := hide (hv.below hb)
 have HBY := hide hby
 have f0 : Z.frozen? ⟨w.heap.size, 0, none⟩ = Z.frozen? ⟨w.heap.size, 0, none⟩ := rfl
 clear hb t15 t4 hv hby f0 hz
 go_enter Tryz.func6, Tryz.ntmps6
 go_upto_region 1 with fail
 rw [← hZ]
 clear hZ
 by_cases hk : k < 1 ∨ 8 < k
 ·have HRK : Hid (readM k l = ((⟨#[107, 105, 110, 100]⟩, k, 5), Ms.zero)) := hide (by unfold readM; rw [if_pos hk])
  by_cases hk1 : k < 1
  ·clear hk HBY HV HV0
   go_wp2_with (first | (go_at_call 19; refine (mno_any _ _ _ _).mono ?_; rintro e Y ⟨rfl, hY⟩; have HB1 := hide (HB.out.trans (hY.mono HB.out.size)); have HT1 := hide (there_bel HT15.out hY (by have := HZ.out; omega)); have HTA := hide HT1.out; have HT2 := hide (there_bel HT4.out hY (by have := HZ.out; omega))) | ((refine wpList_store_mid rfl 26 _ _ rfl (w.heap.size + 1) 0 ((cellsM Ms.zero (.slice none 0 0) (.slice none 0 0))).toArray rfl rfl (HT1.out) (by kernel_rfl) (cellsM_one Ms.zero none none 0 0 0 0) ?_); clear HT1) | (refine wpList_store_mid rfl 37 _ _ rfl (w.heap.size + 1 + 1) 0 (([.string ⟨#[107, 105, 110, 100]⟩, .int .i64 k, .int .i64 5, .int .i64 (-1)] : List Value)).toArray rfl rfl (World.there_setCells HT2.out _ _ _) (by kernel_rfl) (one4 ⟨#[107, 105, 110, 100]⟩ k 5 (-1)) ?_))
   have HEN := hide ((ed_one (cs := (cellsM Ms.zero (.slice none 0 0) (.slice none 0 0))) rfl HTA.out HT2.out HB1.out).fin (cs' := ([.string ⟨#[107, 105, 110, 100]⟩, .int .i64 k, .int .i64 5, .int .i64 (-1)] : List Value)) rfl)
   exact bodyPost_ret (v := .tuple #[.agg ((cellsM Ms.zero (.slice none 0 0) (.slice none 0 0))).toArray, .agg (([.string ⟨#[107, 105, 110, 100]⟩, .int .i64 k, .int .i64 5, .int .i64 (-1)] : List Value)).toArray]) (results_two Tryz.results6 _ _ (w.heap.size + 1) _ _ (w.heap.size + 1 + 1) _ _ rfl rfl HEN.out.1 Tryz.underlying26 rfl (by kernel_rfl) HEN.out.2.1 Tryz.underlying37 rfl (by kernel_rfl)) rfl ⟨_, _, rfl, by rw [HRK.out]; rfl, by rw [HRK.out]; exact (isMn_zero (fun _ => True) _).is, HEN.out.2.2⟩
  ·have hk2 : 8 < k := by omega
   clear hk HBY HV HV0
   go_wp2_with (first | (go_at_call 19; refine (mno_any _ _ _ _).mono ?_; rintro e Y ⟨rfl, hY⟩; have HB1 := hide (HB.out.trans (hY.mono HB.out.size)); have HT1 := hide (there_bel HT15.out hY (by have := HZ.out; omega)); have HTA := hide HT1.out; have HT2 := hide (there_bel HT4.out hY (by have := HZ.out; omega))) | ((refine wpList_store_mid rfl 26 _ _ rfl (w.heap.size + 1) 0 ((cellsM Ms.zero (.slice none 0 0) (.slice none 0 0))).toArray rfl rfl (HT1.out) (by kernel_rfl) (cellsM_one Ms.zero none none 0 0 0 0) ?_); clear HT1) | (refine wpList_store_mid rfl 37 _ _ rfl (w.heap.size + 1 + 1) 0 (([.string ⟨#[107, 105, 110, 100]⟩, .int .i64 k, .int .i64 5, .int .i64 (-1)] : List Value)).toArray rfl rfl (World.there_setCells HT2.out _ _ _) (by kernel_rfl) (one4 ⟨#[107, 105, 110, 100]⟩ k 5 (-1)) ?_))
   have HEN := hide ((ed_one (cs := (cellsM Ms.zero (.slice none 0 0) (.slice none 0 0))) rfl HTA.out HT2.out HB1.out).fin (cs' := ([.string ⟨#[107, 105, 110, 100]⟩, .int .i64 k, .int .i64 5, .int .i64 (-1)] : List Value)) rfl)
   exact bodyPost_ret (v := .tuple #[.agg ((cellsM Ms.zero (.slice none 0 0) (.slice none 0 0))).toArray, .agg (([.string ⟨#[107, 105, 110, 100]⟩, .int .i64 k, .int .i64 5, .int .i64 (-1)] : List Value)).toArray]) (results_two Tryz.results6 _ _ (w.heap.size + 1) _ _ (w.heap.size + 1 + 1) _ _ rfl rfl HEN.out.1 Tryz.underlying26 rfl (by kernel_rfl) HEN.out.2.1 Tryz.underlying37 rfl (by kernel_rfl)) rfl ⟨_, _, rfl, by rw [HRK.out]; rfl, by rw [HRK.out]; exact (isMn_zero (fun _ => True) _).is, HEN.out.2.2⟩
 ·have hk1 : ¬ k < 1 := by omega
  have hk2 : ¬ 8 < k := by omega
  have HK := hide hk
  clear hk
  have HS : Hid ((okS 0).pt ≤ l.length) := hide (Nat.zero_le _)
  go_upto_region 5 with fail
  have HCU := hide (cu_new Z (.slice ao l.length cap))
  have HZY : Hid ((Z.alloc (.cells #[.slice ao l.length cap, .int .i64 0, .int .i64 0, .string ⟨#[]⟩, .int .i64 0] 68)).heap.size = Z.heap.size + 1) := hide (by simp)
  have HBY1 : Hid (Below Z.heap.size Z (Z.alloc (.cells #[.slice ao l.length cap, .int .i64 0, .int .i64 0, .string ⟨#[]⟩, .int .i64 0] 68))) := hide ((Below.refl _ _).alloc (Nat.le_refl _) _)
  generalize Z.alloc (.cells #[.slice ao l.length cap, .int .i64 0, .int .i64 0, .string ⟨#[]⟩, .int .i64 0] 68) = Y at *
  have HTM := hide (there_newM Y)
  go_upto_region 6 with (first | (refine wpList_store_mid rfl 26 _ _ rfl Y.heap.size 0 ((cellsM ⟨k, 0, 0, 0, false, false, 0, 0, 0, 0, 0, 0, 0, [], []⟩ (.slice none 0 0) (.slice none 0 0))).toArray rfl rfl (HTM.out) (by kernel_rfl) (cellsM_one ⟨k, 0, 0, 0, false, false, 0, 0, 0, 0, 0, 0, 0, [], []⟩ none none 0 0 0 0) ?_))
  have HF : Hid (Fd w.heap.size Z ((Y.alloc (.cells #[.int .i64 0, .int .i64 0, .int .i64 0, .int .i64 0, .bool false, .bool false, .int .i64 0, .int .i64 0, .int .i64 0, .int .i64 0, .int .i64 0, .slice none 0 0, .int .i64 0, .int .i64 0, .slice none 0 0] 26)).setCells Y.heap.size 0 (cellsM ⟨k, 0, 0, 0, false, false, 0, 0, 0, 0, 0, 0, 0, [], []⟩ (.slice none 0 0) (.slice none 0 0))) (.slice ao l.length cap) (okS 0) ⟨k, 0, 0, 0, false, false, 0, 0, 0, 0, 0, 0, 0, [], []⟩ (.slice none 0 0) (.slice none 0 0) []) := hide (fd_of (by have := HZ.out; omega) HCU.out HBY1.out HZY.out (below_many (Nat.le_refl _) _ _ ((Below.refl _ _).alloc (Nat.le_refl _) _)) (World.rangeAt_setCells_same _ _ _ _ HTM.out) (fun i => (frozen_manyD _ _).trans (by simp)))
  generalize (Y.alloc (.cells #[.int .i64 0, .int .i64 0, .int .i64 0, .int .i64 0, .bool false, .bool false, .int .i64 0, .int .i64 0, .int .i64 0, .int .i64 0, .int .i64 0, .slice none 0 0, .int .i64 0, .int .i64 0, .slice none 0 0] 26)).setCells Y.heap.size 0 (cellsM ⟨k, 0, 0, 0, false, false, 0, 0, 0, 0, 0, 0, 0, [], []⟩ (.slice none 0 0) (.slice none 0 0)) = V0 at HF ⊢
  rw [HZY.out]
  clear HCU HBY1 HTM
  have HC := hide (cuint_gs Z.heap.size (.slice ao l.length cap) l 1073741824 (okS 0) Z _ HF.out.cu HV.out HF.out.be hl HBY.out HS.out (by decide) (by decide))
  rw [show gN 1073741824 l (okS 0) = sN l true (okS 0) from rfl] at HC
  generalize h1 : sN l true (okS 0) = Q at HC
  obtain ⟨z1, x1⟩ := Q
  simp only at HC
  have HQ1 := hide h1
  have HS2 := hide (sN_pt HBY.out h1 HS.out)
  clear HS h1
  have HS := HS2
  clear HS2
  go_upto_region 7 with (first | (go_at_call 20; refine HC.out.mono ?_; rintro e w5 ⟨rfl, hr5, hb5⟩; have HF5 := hide (HF.out.step hr5 hb5); clear hr5 hb5; have c5 := HF5.out.rg 1 _ rfl; rw [Nat.zero_add] at c5; change _ = some (Value.int .i64 0) at c5; have f5 := HF5.out.fz 1))
  have HF6 := hide (HF5.out.set (m' := ⟨k, x1, 0, 0, false, false, 0, 0, 0, 0, 0, 0, 0, [], []⟩) (i := 1) (x := .int .i64 x1) (by decide) rfl rfl HF5.out.da)
  clear HF HF5 HC c5 f5
  have HF := HF6
  clear HF6
  generalize w5.setCell ⟨Z.heap.size + 1, 1, none⟩ (.int .i64 x1) = V1 at HF ⊢
  have HC := hide (cuint_gs Z.heap.size (.slice ao l.length cap) l 1073741824 z1 Z _ HF.out.cu HV.out HF.out.be hl HBY.out HS.out (by decide) (by decide))
  rw [show gN 1073741824 l z1 = sN l true z1 from rfl] at HC
  generalize h2 : sN l true z1 = Q at HC
  obtain ⟨z2, x2⟩ := Q
  simp only at HC
  have HQ2 := hide h2
  have HS2 := hide (sN_pt HBY.out h2 HS.out)
  clear HS h2
  have HS := HS2
  clear HS2
  go_upto_region 8 with (first | (go_at_call 20; refine HC.out.mono ?_; rintro e w5 ⟨rfl, hr5, hb5⟩; have HF5 := hide (HF.out.step hr5 hb5); clear hr5 hb5; have c5 := HF5.out.rg 2 _ rfl; rw [Nat.zero_add] at c5; change _ = some (Value.int .i64 0) at c5; have f5 := HF5.out.fz 2))
  have HF6 := hide (HF5.out.set (m' := ⟨k, x1, x2, 0, false, false, 0, 0, 0, 0, 0, 0, 0, [], []⟩) (i := 2) (x := .int .i64 x2) (by decide) rfl rfl HF5.out.da)
  clear HF HF5 HC c5 f5
  have HF := HF6
  clear HF6
  generalize w5.setCell ⟨Z.heap.size + 1, 2, none⟩ (.int .i64 x2) = V2 at HF ⊢
  have HC := hide (cuint_gs Z.heap.size (.slice ao l.length cap) l 1073741824 z2 Z _ HF.out.cu HV.out HF.out.be hl HBY.out HS.out (by decide) (by decide))
  rw [show gN 1073741824 l z2 = sN l true z2 from rfl] at HC
  generalize h3 : sN l true z2 = Q at HC
  obtain ⟨z3, x3⟩ := Q
  simp only at HC
  have HQ3 := hide h3
  have HS2 := hide (sN_pt HBY.out h3 HS.out)
  clear HS h3
  have HS := HS2
  clear HS2
  go_upto_region 9 with (first | (go_at_call 20; refine HC.out.mono ?_; rintro e w5 ⟨rfl, hr5, hb5⟩; have HF5 := hide (HF.out.step hr5 hb5); clear hr5 hb5; have c5 := HF5.out.rg 3 _ rfl; rw [Nat.zero_add] at c5; change _ = some (Value.int .i64 0) at c5; have f5 := HF5.out.fz 3))
  have HF6 := hide (HF5.out.set (m' := ⟨k, x1, x2, x3, false, false, 0, 0, 0, 0, 0, 0, 0, [], []⟩) (i := 3) (x := .int .i64 x3) (by decide) rfl rfl HF5.out.da)
  clear HF HF5 HC c5 f5
  have HF := HF6
  clear HF6
  generalize w5.setCell ⟨Z.heap.size + 1, 3, none⟩ (.int .i64 x3) = V3 at HF ⊢
  have HC := hide (cdyes_gs Z.heap.size (.slice ao l.length cap) l (hasM k 97) z3 Z _ HF.out.cu HV.out HF.out.be hl HBY.out HS.out)
  rw [show (if (hasM k 97) = true then (gF l z3).2 else false) = (sF l (hasM k 97) z3).2 from by unfold sF; split <;> rfl, show (if (hasM k 97) = true then (gF l z3).1 else z3) = (sF l (hasM k 97) z3).1 from by unfold sF; split <;> rfl] at HC
  generalize h4 : sF l (hasM k 97) z3 = Q at HC
  obtain ⟨z4, x4⟩ := Q
  simp only at HC
  have HQ4 := hide h4
  have HS2 := hide (sF_pt HBY.out h4 HS.out)
  clear HS h4
  have HS := HS2
  clear HS2
  go_upto_region 10 with (first | (go_at_call 22; refine (rmhas_any _ _ _).mono ?_; rintro e Y ⟨rfl, hY⟩; subst hY) | (go_at_call 21; refine HC.out.mono ?_; rintro e w5 ⟨rfl, hr5, hb5⟩; have HF5 := hide (HF.out.step hr5 hb5); clear hr5 hb5; have c5 := HF5.out.rg 4 _ rfl; rw [Nat.zero_add] at c5; change _ = some (Value.bool false) at c5; have f5 := HF5.out.fz 4))
  have HF6 := hide (HF5.out.set (m' := ⟨k, x1, x2, x3, x4, false, 0, 0, 0, 0, 0, 0, 0, [], []⟩) (i := 4) (x := .bool x4) (by decide) rfl rfl HF5.out.da)
  clear HF HF5 HC c5 f5
  have HF := HF6
  clear HF6
  generalize w5.setCell ⟨Z.heap.size + 1, 4, none⟩ (.bool x4) = V4 at HF ⊢
  have HC := hide (cdyes_gs Z.heap.size (.slice ao l.length cap) l (hasM k 103) z4 Z _ HF.out.cu HV.out HF.out.be hl HBY.out HS.out)
  rw [show (if (hasM k 103) = true then (gF l z4).2 else false) = (sF l (hasM k 103) z4).2 from by unfold sF; split <;> rfl, show (if (hasM k 103) = true then (gF l z4).1 else z4) = (sF l (hasM k 103) z4).1 from by unfold sF; split <;> rfl] at HC
  generalize h5 : sF l (hasM k 103) z4 = Q at HC
  obtain ⟨z5, x5⟩ := Q
  simp only at HC
  have HQ5 := hide h5
  have HS2 := hide (sF_pt HBY.out h5 HS.out)
  clear HS h5
  have HS := HS2
  clear HS2
  go_upto_region 11 with (first | (go_at_call 22; refine (rmhas_any _ _ _).mono ?_; rintro e Y ⟨rfl, hY⟩; subst hY) | (go_at_call 21; refine HC.out.mono ?_; rintro e w5 ⟨rfl, hr5, hb5⟩; have HF5 := hide (HF.out.step hr5 hb5); clear hr5 hb5; have c5 := HF5.out.rg 5 _ rfl; rw [Nat.zero_add] at c5; change _ = some (Value.bool false) at c5; have f5 := HF5.out.fz 5))
  have HF6 := hide (HF5.out.set (m' := ⟨k, x1, x2, x3, x4, x5, 0, 0, 0, 0, 0, 0, 0, [], []⟩) (i := 5) (x := .bool x5) (by decide) rfl rfl HF5.out.da)
  clear HF HF5 HC c5 f5
  have HF := HF6
  clear HF6
  generalize w5.setCell ⟨Z.heap.size + 1, 5, none⟩ (.bool x5) = V5 at HF ⊢
  have HC := hide (cdsome_gs Z.heap.size (.slice ao l.length cap) l (hasM k 108) z5 Z _ HF.out.cu HV.out HF.out.be hl HBY.out HS.out)
  rw [show (if (hasM k 108) = true then (gN 1073741824 l z5).2 else 0) = (sN l (hasM k 108) z5).2 from by unfold sN; split <;> rfl, show (if (hasM k 108) = true then (gN 1073741824 l z5).1 else z5) = (sN l (hasM k 108) z5).1 from by unfold sN; split <;> rfl] at HC
  generalize h6 : sN l (hasM k 108) z5 = Q at HC
  obtain ⟨z6, x6⟩ := Q
  simp only at HC
  have HQ6 := hide h6
  have HS2 := hide (sN_pt HBY.out h6 HS.out)
  clear HS h6
  have HS := HS2
  clear HS2
  go_upto_region 12 with (first | (go_at_call 22; refine (rmhas_any _ _ _).mono ?_; rintro e Y ⟨rfl, hY⟩; subst hY) | (go_at_call 23; refine HC.out.mono ?_; rintro e w5 ⟨rfl, hr5, hb5⟩; have HF5 := hide (HF.out.step hr5 hb5); clear hr5 hb5; have c5 := HF5.out.rg 6 _ rfl; rw [Nat.zero_add] at c5; change _ = some (Value.int .i64 0) at c5; have f5 := HF5.out.fz 6))
  have HF6 := hide (HF5.out.set (m' := ⟨k, x1, x2, x3, x4, x5, x6, 0, 0, 0, 0, 0, 0, [], []⟩) (i := 6) (x := .int .i64 x6) (by decide) rfl rfl HF5.out.da)
  clear HF HF5 HC c5 f5
  have HF := HF6
  clear HF6
  generalize w5.setCell ⟨Z.heap.size + 1, 6, none⟩ (.int .i64 x6) = V6 at HF ⊢
  have HC := hide (cdsome_gs Z.heap.size (.slice ao l.length cap) l (hasM k 112) z6 Z _ HF.out.cu HV.out HF.out.be hl HBY.out HS.out)
  rw [show (if (hasM k 112) = true then (gN 1073741824 l z6).2 else 0) = (sN l (hasM k 112) z6).2 from by unfold sN; split <;> rfl, show (if (hasM k 112) = true then (gN 1073741824 l z6).1 else z6) = (sN l (hasM k 112) z6).1 from by unfold sN; split <;> rfl] at HC
  generalize h7 : sN l (hasM k 112) z6 = Q at HC
  obtain ⟨z7, x7⟩ := Q
  simp only at HC
  have HQ7 := hide h7
  have HS2 := hide (sN_pt HBY.out h7 HS.out)
  clear HS h7
  have HS := HS2
  clear HS2
  go_upto_region 13 with (first | (go_at_call 22; refine (rmhas_any _ _ _).mono ?_; rintro e Y ⟨rfl, hY⟩; subst hY) | (go_at_call 23; refine HC.out.mono ?_; rintro e w5 ⟨rfl, hr5, hb5⟩; have HF5 := hide (HF.out.step hr5 hb5); clear hr5 hb5; have c5 := HF5.out.rg 7 _ rfl; rw [Nat.zero_add] at c5; change _ = some (Value.int .i64 0) at c5; have f5 := HF5.out.fz 7))
  have HF6 := hide (HF5.out.set (m' := ⟨k, x1, x2, x3, x4, x5, x6, x7, 0, 0, 0, 0, 0, [], []⟩) (i := 7) (x := .int .i64 x7) (by decide) rfl rfl HF5.out.da)
  clear HF HF5 HC c5 f5
  have HF := HF6
  clear HF6
  generalize w5.setCell ⟨Z.heap.size + 1, 7, none⟩ (.int .i64 x7) = V7 at HF ⊢
  have HC := hide (cdsome_gs Z.heap.size (.slice ao l.length cap) l (hasM k 112) z7 Z _ HF.out.cu HV.out HF.out.be hl HBY.out HS.out)
  rw [show (if (hasM k 112) = true then (gN 1073741824 l z7).2 else 0) = (sN l (hasM k 112) z7).2 from by unfold sN; split <;> rfl, show (if (hasM k 112) = true then (gN 1073741824 l z7).1 else z7) = (sN l (hasM k 112) z7).1 from by unfold sN; split <;> rfl] at HC
  generalize h8 : sN l (hasM k 112) z7 = Q at HC
  obtain ⟨z8, x8⟩ := Q
  simp only at HC
  have HQ8 := hide h8
  have HS2 := hide (sN_pt HBY.out h8 HS.out)
  clear HS h8
  have HS := HS2
  clear HS2
  go_upto_region 14 with (first | (go_at_call 22; refine (rmhas_any _ _ _).mono ?_; rintro e Y ⟨rfl, hY⟩; subst hY) | (go_at_call 23; refine HC.out.mono ?_; rintro e w5 ⟨rfl, hr5, hb5⟩; have HF5 := hide (HF.out.step hr5 hb5); clear hr5 hb5; have c5 := HF5.out.rg 8 _ rfl; rw [Nat.zero_add] at c5; change _ = some (Value.int .i64 0) at c5; have f5 := HF5.out.fz 8))
  have HF6 := hide (HF5.out.set (m' := ⟨k, x1, x2, x3, x4, x5, x6, x7, x8, 0, 0, 0, 0, [], []⟩) (i := 8) (x := .int .i64 x8) (by decide) rfl rfl HF5.out.da)
  clear HF HF5 HC c5 f5
  have HF := HF6
  clear HF6
  generalize w5.setCell ⟨Z.heap.size + 1, 8, none⟩ (.int .i64 x8) = V8 at HF ⊢
  have HC := hide (cdsome_gs Z.heap.size (.slice ao l.length cap) l (hasM k 104) z8 Z _ HF.out.cu HV.out HF.out.be hl HBY.out HS.out)
  rw [show (if (hasM k 104) = true then (gN 1073741824 l z8).2 else 0) = (sN l (hasM k 104) z8).2 from by unfold sN; split <;> rfl, show (if (hasM k 104) = true then (gN 1073741824 l z8).1 else z8) = (sN l (hasM k 104) z8).1 from by unfold sN; split <;> rfl] at HC
  generalize h9 : sN l (hasM k 104) z8 = Q at HC
  obtain ⟨z9, x9⟩ := Q
  simp only at HC
  have HQ9 := hide h9
  have HS2 := hide (sN_pt HBY.out h9 HS.out)
  clear HS h9
  have HS := HS2
  clear HS2
  go_upto_region 15 with (first | (go_at_call 22; refine (rmhas_any _ _ _).mono ?_; rintro e Y ⟨rfl, hY⟩; subst hY) | (go_at_call 23; refine HC.out.mono ?_; rintro e w5 ⟨rfl, hr5, hb5⟩; have HF5 := hide (HF.out.step hr5 hb5); clear hr5 hb5; have c5 := HF5.out.rg 9 _ rfl; rw [Nat.zero_add] at c5; change _ = some (Value.int .i64 0) at c5; have f5 := HF5.out.fz 9))
  have HF6 := hide (HF5.out.set (m' := ⟨k, x1, x2, x3, x4, x5, x6, x7, x8, x9, 0, 0, 0, [], []⟩) (i := 9) (x := .int .i64 x9) (by decide) rfl rfl HF5.out.da)
  clear HF HF5 HC c5 f5
  have HF := HF6
  clear HF6
  generalize w5.setCell ⟨Z.heap.size + 1, 9, none⟩ (.int .i64 x9) = V9 at HF ⊢
  have HC := hide (cdsome_gs Z.heap.size (.slice ao l.length cap) l (hasM k 99) z9 Z _ HF.out.cu HV.out HF.out.be hl HBY.out HS.out)
  rw [show (if (hasM k 99) = true then (gN 1073741824 l z9).2 else 0) = (sN l (hasM k 99) z9).2 from by unfold sN; split <;> rfl, show (if (hasM k 99) = true then (gN 1073741824 l z9).1 else z9) = (sN l (hasM k 99) z9).1 from by unfold sN; split <;> rfl] at HC
  generalize h10 : sN l (hasM k 99) z9 = Q at HC
  obtain ⟨z10, x10⟩ := Q
  simp only at HC
  have HQ10 := hide h10
  have HS2 := hide (sN_pt HBY.out h10 HS.out)
  clear HS h10
  have HS := HS2
  clear HS2
  go_upto_region 16 with (first | (go_at_call 22; refine (rmhas_any _ _ _).mono ?_; rintro e Y ⟨rfl, hY⟩; subst hY) | (go_at_call 23; refine HC.out.mono ?_; rintro e w5 ⟨rfl, hr5, hb5⟩; have HF5 := hide (HF.out.step hr5 hb5); clear hr5 hb5; have c5 := HF5.out.rg 10 _ rfl; rw [Nat.zero_add] at c5; change _ = some (Value.int .i64 0) at c5; have f5 := HF5.out.fz 10))
  have HF6 := hide (HF5.out.set (m' := ⟨k, x1, x2, x3, x4, x5, x6, x7, x8, x9, x10, 0, 0, [], []⟩) (i := 10) (x := .int .i64 x10) (by decide) rfl rfl HF5.out.da)
  clear HF HF5 HC c5 f5
  have HF := HF6
  clear HF6
  generalize w5.setCell ⟨Z.heap.size + 1, 10, none⟩ (.int .i64 x10) = V10 at HF ⊢
  have HC := hide (cdsome_gs Z.heap.size (.slice ao l.length cap) l (hasM k 115) z10 Z _ HF.out.cu HV.out HF.out.be hl HBY.out HS.out)
  rw [show (if (hasM k 115) = true then (gN 1073741824 l z10).2 else 0) = (sN l (hasM k 115) z10).2 from by unfold sN; split <;> rfl, show (if (hasM k 115) = true then (gN 1073741824 l z10).1 else z10) = (sN l (hasM k 115) z10).1 from by unfold sN; split <;> rfl] at HC
  generalize h11 : sN l (hasM k 115) z10 = Q at HC
  obtain ⟨z11, x11⟩ := Q
  simp only at HC
  have HQ11 := hide h11
  have HS2 := hide (sN_pt HBY.out h11 HS.out)
  clear HS h11
  have HS := HS2
  clear HS2
  go_upto_region 17 with (first | (go_at_call 22; refine (rmhas_any _ _ _).mono ?_; rintro e Y ⟨rfl, hY⟩; subst hY) | (go_at_call 23; refine HC.out.mono ?_; rintro e w5 ⟨rfl, hr5, hb5⟩; have HF5 := hide (HF.out.step hr5 hb5); clear hr5 hb5; have c5 := HF5.out.rg 12 _ rfl; rw [Nat.zero_add] at c5; change _ = some (Value.int .i64 0) at c5; have f5 := HF5.out.fz 12))
  have HF6 := hide (HF5.out.set (m' := ⟨k, x1, x2, x3, x4, x5, x6, x7, x8, x9, x10, x11, 0, [], []⟩) (i := 12) (x := .int .i64 x11) (by decide) rfl rfl HF5.out.da)
  clear HF HF5 HC c5 f5
  have HF := HF6
  clear HF6
  generalize w5.setCell ⟨Z.heap.size + 1, 12, none⟩ (.int .i64 x11) = V11 at HF ⊢
  have HC := hide (cdsome_gs Z.heap.size (.slice ao l.length cap) l (hasM k 111) z11 Z _ HF.out.cu HV.out HF.out.be hl HBY.out HS.out)
  rw [show (if (hasM k 111) = true then (gN 1073741824 l z11).2 else 0) = (sN l (hasM k 111) z11).2 from by unfold sN; split <;> rfl, show (if (hasM k 111) = true then (gN 1073741824 l z11).1 else z11) = (sN l (hasM k 111) z11).1 from by unfold sN; split <;> rfl] at HC
  generalize h12 : sN l (hasM k 111) z11 = Q at HC
  obtain ⟨z12, x12⟩ := Q
  simp only at HC
  have HQ12 := hide h12
  have HS2 := hide (sN_pt HBY.out h12 HS.out)
  clear HS h12
  have HS := HS2
  clear HS2
  go_upto_region 18 with (first | (go_at_call 22; refine (rmhas_any _ _ _).mono ?_; rintro e Y ⟨rfl, hY⟩; subst hY) | (go_at_call 23; refine HC.out.mono ?_; rintro e w5 ⟨rfl, hr5, hb5⟩; have HF5 := hide (HF.out.step hr5 hb5); clear hr5 hb5; have c5 := HF5.out.rg 13 _ rfl; rw [Nat.zero_add] at c5; change _ = some (Value.int .i64 0) at c5; have f5 := HF5.out.fz 13))
  have HF6 := hide (HF5.out.set (m' := ⟨k, x1, x2, x3, x4, x5, x6, x7, x8, x9, x10, x11, x12, [], []⟩) (i := 13) (x := .int .i64 x12) (by decide) rfl rfl HF5.out.da)
  clear HF HF5 HC c5 f5
  have HF := HF6
  clear HF6
  generalize w5.setCell ⟨Z.heap.size + 1, 13, none⟩ (.int .i64 x12) = V12 at HF ⊢
  rcases hq13 : sD l (hasM k 100) z12 with ⟨z13, x13⟩
  have HQ13 := hide hq13
  have HS3 := hide (sD_pt HBY.out hq13 HS.out)
  clear hq13
  go_upto_if 86 with (go_at_call 22; refine (rmhas_any _ _ _).mono ?_; rintro e Y ⟨rfl, hY⟩; subst hY)
  go_cut [] (fun W => ∃ (ad : Option Addr) (cd : Nat), Fd w.heap.size Z W (.slice ao l.length cap) z13 ⟨k, x1, x2, x3, x4, x5, x6, x7, x8, x9, x10, x11, x12, x13, []⟩ (.slice none 0 0) (.slice ad x13.length cd) [])
  case first =>
   cases hD : hasM k 100 with
   | true =>
    have e13 : gD l z12 = (z13, x13) := by
     have := HQ13.out
     unfold sD at this
     rw [hD] at this
     simpa using this
    have HC := hide (cudata_gs Z.heap.size (.slice ao l.length cap) l z12 w _ HF.out.cu HV0.out (HB.out.trans (HF.out.be.mono HB.out.size)) (by have := HZ.out; omega) hl HBY.out HS.out)
    rw [e13] at HC
    simp only at HC
    clear e13 hD
    go_wp2_with (first | (go_at_call 24; refine HC.out.mono ?_; rintro e w5 ⟨u, rfl, hu5, hr5, hb5⟩; obtain ⟨ad, cd, rfl⟩ := hu5.sl.form; have HF5 := hide (HF.out.step hr5 hb5); have HU5 := hide hu5; clear hr5 hb5 hu5; have c5 := HF5.out.rg 14 _ rfl; rw [Nat.zero_add] at c5; change _ = some (Value.slice none 0 0) at c5; have f5 := HF5.out.fz 14))
    go_meet
    exact ⟨ad, cd, HF5.out.set (m' := ⟨k, x1, x2, x3, x4, x5, x6, x7, x8, x9, x10, x11, x12, x13, []⟩) (i := 14) (x := .slice ad x13.length cd) (by decide) rfl rfl ((slk_sln HU5.out).imp (fun b _ hb => ⟨by have := HF.out.sz; omega, fun e => by cases e⟩) (fun _ _ _ _ => rfl))⟩
   | false =>
    have e13 : (z12, ([] : List Int)) = (z13, x13) := by
     have := HQ13.out
     unfold sD at this
     rw [hD] at this
     simpa using this
    obtain ⟨rfl, rfl⟩ := Prod.mk.inj e13
    clear e13 hD
    go_wp2_with fail
    go_meet
    exact ⟨none, 0, HF.out⟩
  case rest =>
   obtain ⟨ad, cd, hF⟩ := hcut
   clear HF HS
   have HF := hide hF
   have HS := HS3
   clear hF HS3
   obtain ⟨W3, rfl⟩ : ∃ x : World, x = wc := ⟨_, rfl⟩
   rcases hq14 : s8 l (hasM k 98) z13 with ⟨z14, x14⟩
   have HQ14 := hide hq14
   obtain ⟨hs4, hx0, hx8⟩ := s8_pt HBY.out hq14 HS.out
   have HS4 := hide hs4
   clear hq14 hs4
   go_upto_if 91 with (go_at_call 22; refine (rmhas_any _ _ _).mono ?_; rintro e Y ⟨rfl, hY⟩; subst hY)
   go_cut [7] (fun nv W => nv = .int .i64 x14 ∧ Fd w.heap.size Z W (.slice ao l.length cap) z14 ⟨k, x1, x2, x3, x4, x5, x6, x7, x8, x9, x10, x11, x12, x13, []⟩ (.slice none 0 0) (.slice ad x13.length cd) [])
   case first =>
    cases hD : hasM k 98 with
    | true =>
     have e14 : gN 8 l z13 = (z14, x14) := by
      have := HQ14.out
      unfold s8 at this
      rw [hD] at this
      simpa using this
     have HC := hide (cuint_gs Z.heap.size (.slice ao l.length cap) l 8 z13 Z _ HF.out.cu HV.out HF.out.be hl HBY.out HS.out (by decide) (by decide))
     rw [e14] at HC
     simp only at HC
     clear e14 hD
     go_wp2_with (first | (go_at_call 20; refine HC.out.mono ?_; rintro e w5 ⟨rfl, hr5, hb5⟩; have HF5 := hide (HF.out.step hr5 hb5); clear hr5 hb5))
     go_meet
     exact ⟨rfl, HF5.out⟩
    | false =>
     have e14 : (z13, (0 : Int)) = (z14, x14) := by
      have := HQ14.out
      unfold s8 at this
      rw [hD] at this
      simpa using this
     obtain ⟨rfl, rfl⟩ := Prod.mk.inj e14
     clear e14 hD
     go_wp2_with fail
     go_meet
     exact ⟨rfl, HF.out⟩
   case rest =>
    obtain ⟨hnv, hF⟩ := hcut
    clear HF HS
    have HF := hide hF
    have HS := HS4
    clear hF HS4
    subst hnv
    obtain ⟨W4, rfl⟩ : ∃ x : World, x = wc := ⟨_, rfl⟩
    obtain ⟨M, hM⟩ : ∃ M : Nat, x14 = (M : Int) := ⟨x14.toNat, by omega⟩
    subst hM
    have HCH := hide (body_chain HQ1.out HQ2.out HQ3.out HQ4.out HQ5.out HQ6.out HQ7.out HQ8.out HQ9.out HQ10.out HQ11.out HQ12.out HQ13.out HQ14.out)
    rw [Int.toNat_natCast] at HCH
    clear HQ1 HQ2 HQ3 HQ4 HQ5 HQ6 HQ7 HQ8 HQ9 HQ10 HQ11 HQ12 HQ13 HQ14
    go_wp2_with fail
    go_loopw [8] (fun i wr => ∃ (j : Nat) (ub : Value) (qs : List Bq), j ≤ M ∧ i = .int .i64 (j : Int) ∧ Hid (Fd w.heap.size Z wr (.slice ao l.length cap) (batsG l j z14).1 ⟨k, x1, x2, x3, x4, x5, x6, x7, x8, x9, x10, x11, x12, x13, (batsG l j z14).2⟩ ub (.slice ad x13.length cd) qs)) (fun i _ => M - (intOf i).toNat)
    case atStart => exact ⟨0, .slice none 0 0, [], Nat.zero_le _, rfl, HF⟩
    case round =>
     obtain ⟨j, ub, qs, hj, rfl, hf⟩ := hrel
     clear HF
     have HF := hf
     clear hf
     obtain ⟨ab, cb, hu⟩ : ∃ ab cb, ub = .slice ab qs.length cb := by
      rcases HF.out.own.2 with ⟨rfl, h0⟩ | ⟨g, cap, cur, rfl, _⟩
      ·exact ⟨none, 0, by rw [h0]⟩
      ·exact ⟨_, _, rfl⟩
     subst hu
     have hptj := bats_pt HBY.out HS.out j
     by_cases hgo : j < M ∧ (batsG l j z14).1.c = 0
     ·obtain ⟨hlt, hcz⟩ := hgo
      have hltI : (j : Int) < (M : Int) := by omega
      have hlq : qs.length ≤ 100 := by
       have h1 := congrArg List.length HF.out.bs
       simp only [bts, List.length_map, bats_len] at h1
       omega
      have HSU := hide (batsG_succ l j z14)
      clear HCH
      generalize batsG l j z14 = Qj at *
      obtain ⟨sj, bsj⟩ := Qj
      simp only at HF HSU hptj hcz
      have c2 : wr.cell? ⟨Z.heap.size, 2, none⟩ = some (.int .i64 0) := by rw [← hcz]; exact HF.out.cu.c2
      have HC := hide (rnext_any Z.heap.size (.slice ao l.length cap) l sj w wr HF.out.cu HV0.out (HB.out.trans (HF.out.be.mono HB.out.size)) (by have := HZ.out; omega) hl HBY.out hptj)
      generalize nextG l sj = RR at *
      obtain ⟨s', b⟩ := RR
      simp only at HC HSU
      go_upto_region 27 with (first | (go_at_call 25; refine HC.out.mono ?_; rintro e V1 ⟨vx, rfl, hx, hr1, hb1⟩; obtain ⟨u0, ps0, rfl, hq2, hq1⟩ := hx; obtain ⟨a0, c0, rfl⟩ := hq2.form))
      obtain ⟨Vb, hVb⟩ : ∃ V, V = V1.alloc (.cells #[.int .i64 b.t, .int .i64 b.b, .slice a0 ps0.length c0] 48) := ⟨_, rfl⟩
      have hbV : Below V1.heap.size V1 Vb := by rw [hVb]; exact (Below.refl _ _).alloc (Nat.le_refl _) _
      have d0 : Vb.cell? ⟨V1.heap.size, 0, none⟩ = some (.int .i64 b.t) := by rw [hVb]; simp
      have d1 : Vb.cell? ⟨V1.heap.size, 1, none⟩ = some (.int .i64 b.b) := by rw [hVb]; simp
      have d2 : Vb.cell? ⟨V1.heap.size, 2, none⟩ = some (.slice a0 ps0.length c0) := by rw [hVb]; simp
      show Code.wp _ _ _ _ _
      rw [← hVb]
      have hob := HF.out.ob
      have hsz := HF.out.sz
      have HQW : Hid (Rl (fun k => Z.heap.size + 2 ≤ k ∧ (Value.slice ab qs.length cb).ownBlock ≠ some k) (fun k => Z.heap.size + 2 ≤ k ∧ (Value.slice ab qs.length cb).ownBlock ≠ some k) Vb (.slice a0 ps0.length c0) ps0) := hide ((hq2.below hbV).imp (fun k _ hk => ⟨by omega, fun e => by have := (hob k e).2; omega⟩) (fun k _ hk => ⟨by omega, fun e => by have := (hob k e).2; omega⟩) (fun _ _ _ _ => rfl))
      obtain ⟨q, hq⟩ : ∃ q : Bq, q = ⟨b.t, b.b, .slice a0 ps0.length c0, ps0⟩ := ⟨_, rfl⟩
      have HQT : Hid (btq q = b) := hide (by rw [hq]; unfold btq; simp only; rw [hq1])
      have HF1 := hide ((HF.out.step hr1 hb1).below hbV)
      have i2 := HF1.out.rg 11 _ rfl
      rw [Nat.zero_add] at i2
      change _ = some (Value.slice ab qs.length cb) at i2
      have hbl : Below Vb.heap.size Vb (Vb.alloc (.cells #[.int .i64 b.t, .int .i64 b.b, .slice a0 ps0.length c0] 48)) := (Below.refl _ _).alloc (Nat.le_refl _) _
      have HF2 := hide (HF1.out.below hbl)
      have HQ2 := hide (HQW.out.below hbl)
      have HNW := hide (range_news (range_new Vb [.int .i64 b.t, .int .i64 b.b, .slice a0 ps0.length c0] 48))
      have HQQ := hide hq
      clear hq2 hq1 hr1 hb1 hob hsz hVb hbV hbl hq HF HC c2
      go_wp2_with (first | (at_builtin; refine wpList_append_bt _ rfl _ _ rfl (Z.heap.size + 2) (.slice ab qs.length cb) qs.length (bcs qs) rfl HF2.out.own (by have := HF2.out.sz; omega) ⟨Vb.heap.size, 0, none⟩ 1 [.int .i64 b.t, .int .i64 b.b, .slice a0 ps0.length c0] rfl rfl HNW.out (by intro u hu; simp only [List.mem_cons, List.not_mem_nil, or_false] at hu; rcases hu with rfl | rfl | rfl <;> rfl) (by omega) ?_; intro V5 u' ho hgr hub; obtain ⟨ab2, cb2, rfl⟩ : ∃ a c, u' = .slice a (qs.length + 1) c := (by rcases ho.2 with ⟨_, h0⟩ | ⟨g, cap, cur, rfl, _⟩; exact absurd h0 (Nat.succ_ne_zero _); exact ⟨_, _, rfl⟩); have HNF := hide (HF2.out.app (q := q) (m' := ⟨k, x1, x2, x3, x4, x5, x6, x7, x8, x9, x10, x11, x12, x13, (bsj ++ [b])⟩) (by rw [HQQ.out]; exact HQ2.out) (by rw [HQQ.out]; exact ho) hgr hub (by rw [HQT.out])); have hzV := HF2.out.sz; have c5 : V5.cell? ⟨Z.heap.size + 1, 11, none⟩ = some (.slice ab qs.length cb) := (World.cell?_of_block (hgr.block (Z.heap.size + 1) hzV (fun e => by have := (HF2.out.ob _ e.symm).1; omega))).trans (HF2.out.rg 11 _ rfl); have f5 : V5.frozen? ⟨Z.heap.size + 1, 11, none⟩ = false := (World.frozen?_of_block (hgr.block (Z.heap.size + 1) hzV (fun e => by have := (HF2.out.ob _ e.symm).1; omega))).trans (HF2.out.fz 11); clear hgr hub ho))
      go_roundw
      case rel => exact ⟨j + 1, _, qs ++ [q], by omega, by go_num, by rw [HSU.out]; exact HNF⟩
      case measure => simp [intOf]; omega
     ·have hfin : (batsG l M z14).1 = (batsG l j z14).1 ∧ ((batsG l j z14).1.c = 0 → j = M) := by
       by_cases hcz : (batsG l j z14).1.c = 0
       ·have hjM : j = M := by
         by_cases q : j < M
         ·exact absurd ⟨q, hcz⟩ hgo
         ·omega
        exact ⟨by rw [hjM], fun _ => hjM⟩
       ·have e := bats_stop hcz (M - j)
        rw [show j + (M - j) = M by omega] at e
        exact ⟨e, fun h => absurd h hcz⟩
      have HM := hide (rd_math (k := k) (l := l) (sF := (batsG l j z14).1) (mF := ⟨k, x1, x2, x3, x4, x5, x6, x7, x8, x9, x10, x11, x12, x13, (batsG l j z14).2⟩) HK.out HBY.out (by rw [HCH.out]; exact hfin.1) (fun h => by rw [HCH.out, ← hfin.2 h]))
      clear hfin HCH hptj HS
      generalize batsG l j z14 = Qj at *
      obtain ⟨sj, bsj⟩ := Qj
      simp only at HF HM hgo
      have HE := hide (cuend_gs Z.heap.size (.slice ao l.length cap) l sj Z wr HF.out.cu HV.out)
      rw [show (if sj.pt < l.length then refS ⟨#[101, 110, 100]⟩ 5 sj else sj) = endS l sj from rfl] at HE
      have hst : sj.c ≠ 0 → (endS l sj).c ≠ 0 := fun h => by
       unfold endS
       split
       ·unfold refS
        rw [if_neg h]
        exact h
       ·exact h
      generalize endS l sj = sE at *
      by_cases hc : sE.c = 0
      case neg =>
       have HM1 := hide (HM.out.1 hc)
       clear HM hst
       have hcb0 : (j : Int) < (M : Int) → (sj.c == 0) = false := fun q => by
        have : sj.c ≠ 0 := fun h => hgo ⟨by omega, h⟩
        simp [this]
       have c2 := HF.out.cu.c2
       clear hgo
       by_cases hjI : (j : Int) < (M : Int)
       all_goals
        try have hcb := hcb0 hjI
        clear hcb0
        have hcn : (sE.c != 0) = true := by simp [hc]
        go_upto_region 30 with (first | (go_at_call 26; refine HE.out.mono ?_; rintro e w6 ⟨rfl, hr6, hb6⟩; have HF6 := hide (HF.out.step hr6 hb6); have e2 := hr6.c2; clear hr6 hb6))
        have HBA := hide (HB.out.trans (HF6.out.be.mono HB.out.size))
        have HT6 := hide (there_bel HT15.out HF6.out.be (by have := HZ.out; omega))
        have HU6 := hide (there_bel HT4.out HF6.out.be (by have := HZ.out; omega))
        have hdr : Below w6.heap.size w6 w6.drew := (Below.refl _ _).drew
        have hlt : Z.heap.size < w6.drew.heap.size := Nat.lt_of_lt_of_le (by have := HF6.out.sz; omega) hdr.size
        have HS6 : Hid ((fun W => W.cell? ⟨Z.heap.size, 2, none⟩ = some (.int .i64 sE.c) ∧ W.cell? ⟨Z.heap.size, 3, none⟩ = some (.string sE.op) ∧ W.cell? ⟨Z.heap.size, 4, none⟩ = some (.int .i64 (whS sE))) w6.drew) := hide (by have h := HF6.out.cu.below hdr; exact ⟨h.c2, h.c3, h.c4⟩)
        clear e2
        refine wp_region_held_drew (S := fun W => W.cell? ⟨Z.heap.size, 2, none⟩ = some (.int .i64 sE.c) ∧ W.cell? ⟨Z.heap.size, 3, none⟩ = some (.string sE.op) ∧ W.cell? ⟨Z.heap.size, 4, none⟩ = some (.int .i64 (whS sE))) (by kernel_rfl) HS6.out (fun hHeld => ?_)
        refine tk 0 123 (.agg #[.int .i64 0, .int .i64 0, .int .i64 0, .int .i64 0, .bool false, .bool false, .int .i64 0, .int .i64 0, .int .i64 0, .int .i64 0, .int .i64 0, .slice none 0 0, .int .i64 0, .int .i64 0, .slice none 0 0]) rfl rfl hHeld ?_
        simp only [Act.put, zA, zB, zC]
        refine tk 1 124 (.pointer (some ⟨Z.heap.size, 0, none⟩)) rfl rfl hHeld ?_
        simp only [Act.put, zA, zB, zC]
        refine tk 2 125 (.pointer (some ⟨Z.heap.size, 0, none⟩)) rfl rfl hHeld ?_
        simp only [Act.put, zA, zB, zC]
        refine tk 3 126 (.pointer (some ⟨Z.heap.size, 1, none⟩)) rfl rfl hHeld ?_
        simp only [Act.put, zA, zB, zC]
        refine tk 4 127 (.pointer (some ⟨Z.heap.size, 3, none⟩)) rfl rfl hHeld ?_
        simp only [Act.put, zA, zB, zC]
        refine tky 5 128 (.string sE.op) rfl rfl (Or.inl ⟨by rfl, by intro w hSw; have hc0 := hSw.2.1; go_simp⟩) hHeld ?_
        simp only [Act.put, zA, zB, zC]
        refine tk 6 129 (.pointer (some ⟨Z.heap.size, 0, none⟩)) rfl rfl hHeld ?_
        simp only [Act.put, zA, zB, zC]
        refine tk 7 130 (.pointer (some ⟨Z.heap.size, 0, none⟩)) rfl rfl hHeld ?_
        simp only [Act.put, zA, zB, zC]
        refine tk 8 131 (.pointer (some ⟨Z.heap.size, 1, none⟩)) rfl rfl hHeld ?_
        simp only [Act.put, zA, zB, zC]
        refine tk 9 132 (.pointer (some ⟨Z.heap.size, 4, none⟩)) rfl rfl hHeld ?_
        simp only [Act.put, zA, zB, zC]
        refine tky 10 133 (.int .i64 (whS sE)) rfl rfl (Or.inl ⟨by rfl, by intro w hSw; have hc0 := hSw.2.2; go_simp⟩) hHeld ?_
        simp only [Act.put, zA, zB, zC]
        refine tk 11 134 (.pointer (some ⟨Z.heap.size, 0, none⟩)) rfl rfl hHeld ?_
        simp only [Act.put, zA, zB, zC]
        refine tk 12 135 (.pointer (some ⟨Z.heap.size, 0, none⟩)) rfl rfl hHeld ?_
        simp only [Act.put, zA, zB, zC]
        refine tk 13 136 (.pointer (some ⟨Z.heap.size, 1, none⟩)) rfl rfl hHeld ?_
        simp only [Act.put, zA, zB, zC]
        refine tk 14 137 (.pointer (some ⟨Z.heap.size, 2, none⟩)) rfl rfl hHeld ?_
        simp only [Act.put, zA, zB, zC]
        refine tky 15 138 (.int .i64 sE.c) rfl rfl (Or.inl ⟨by rfl, by intro w hSw; have hc0 := hSw.1; go_simp⟩) hHeld ?_
        simp only [Act.put, zA, zB, zC]
        refine wpAnyH_ready (rs := [16]) (by kernel_rfl) (by simp) ?_
        refine AllReadyH.cons (o := _) rfl (fun K hK => ?_) AllReadyH.nil
        go_simp
        go_at_call 19
        refine (mno_any _ _ _ _).mono ?_
        rintro e w7 ⟨rfl, hY⟩
        go_wp2_with fail
        refine hK.out _ _ ⟨(hY.cell (p := ⟨Z.heap.size, 2, none⟩) hlt).trans hHeld.1, (hY.cell (p := ⟨Z.heap.size, 3, none⟩) hlt).trans hHeld.2.1, (hY.cell (p := ⟨Z.heap.size, 4, none⟩) hlt).trans hHeld.2.2⟩ (fun hHeld1 => ?_)
        clear hK K hHeld
        have hHeld := hHeld1
        clear hHeld1
        have hY2 : Below w6.heap.size w6 w7 := hdr.trans (hY.mono hdr.size)
        have HB1 := hide (HBA.out.trans (hY2.mono HBA.out.size))
        have HT7 := hide (there_bel HT6.out hY2 (by have := HZ.out; have := HF6.out.sz; omega))
        have HU7 := hide (there_bel HU6.out hY2 (by have := HZ.out; have := HF6.out.sz; omega))
        clear hY hY2 hdr hlt HS6
        have HS8 : Hid ((fun W => W.cell? ⟨Z.heap.size, 2, none⟩ = some (.int .i64 sE.c) ∧ W.cell? ⟨Z.heap.size, 3, none⟩ = some (.string sE.op) ∧ W.cell? ⟨Z.heap.size, 4, none⟩ = some (.int .i64 (whS sE))) (w7.setCells (w.heap.size + 1) 0 (cellsM Ms.zero (.slice none 0 0) (.slice none 0 0)))) := hide ⟨(cell_many (by have := HZ.out; omega) _ _).trans hHeld.1, (cell_many (by have := HZ.out; omega) _ _).trans hHeld.2.1, (cell_many (by have := HZ.out; omega) _ _).trans hHeld.2.2⟩
        have HED := hide (ed_one (cs := (cellsM Ms.zero (.slice none 0 0) (.slice none 0 0))) rfl HT7.out HU7.out HB1.out)
        refine wpAnyH_ready (rs := [17]) (by kernel_rfl) (by simp) ?_
        refine AllReadyH.cons (o := _) rfl (fun K hK => ?_) AllReadyH.nil
        refine step_store_mid rfl 26 _ _ rfl (w.heap.size + 1) 0 ((cellsM Ms.zero (.slice none 0 0) (.slice none 0 0))).toArray rfl rfl (HT7.out) (by kernel_rfl) (cellsM_one Ms.zero none none 0 0 0 0) ?_
        show K (Act.put _ none _) (w7.setCells (w.heap.size + 1) 0 (cellsM Ms.zero (.slice none 0 0) (.slice none 0 0)))
        generalize w7.setCells (w.heap.size + 1) 0 (cellsM Ms.zero (.slice none 0 0) (.slice none 0 0)) = w8 at HS8 HED ⊢
        refine hK.out _ _ HS8.out (fun hHeld1 => ?_)
        clear hK K hHeld
        have hHeld := hHeld1
        clear hHeld1
        clear HS8 HT7 HU7 HB1
        have HS9 : Hid ((fun W => W.cell? ⟨Z.heap.size, 2, none⟩ = some (.int .i64 sE.c) ∧ W.cell? ⟨Z.heap.size, 3, none⟩ = some (.string sE.op) ∧ W.cell? ⟨Z.heap.size, 4, none⟩ = some (.int .i64 (whS sE))) (w8.setCells (w.heap.size + 1 + 1) 0 ([.string sE.op, .int .i64 (whS sE), .int .i64 sE.c, .int .i64 (-1)] : List Value))) := hide ⟨(cell_many (by have := HZ.out; omega) _ _).trans hHeld.1, (cell_many (by have := HZ.out; omega) _ _).trans hHeld.2.1, (cell_many (by have := HZ.out; omega) _ _).trans hHeld.2.2⟩
        have HEN := hide (HED.out.fin (cs' := ([.string sE.op, .int .i64 (whS sE), .int .i64 sE.c, .int .i64 (-1)] : List Value)) rfl)
        refine wpAnyH_ready (rs := [18]) (by kernel_rfl) (by simp) ?_
        refine AllReadyH.cons (o := _) rfl (fun K hK => ?_) AllReadyH.nil
        refine step_store_mid rfl 37 _ _ rfl (w.heap.size + 1 + 1) 0 (([.string sE.op, .int .i64 (whS sE), .int .i64 sE.c, .int .i64 (-1)] : List Value)).toArray rfl rfl (HED.out.t2) (by kernel_rfl) (one4 sE.op (whS sE) sE.c (-1)) ?_
        show K (Act.put _ none _) (w8.setCells (w.heap.size + 1 + 1) 0 ([.string sE.op, .int .i64 (whS sE), .int .i64 sE.c, .int .i64 (-1)] : List Value))
        generalize w8.setCells (w.heap.size + 1 + 1) 0 ([.string sE.op, .int .i64 (whS sE), .int .i64 sE.c, .int .i64 (-1)] : List Value) = w9 at HS9 HEN ⊢
        refine hK.out _ _ HS9.out (fun hHeld1 => ?_)
        clear hK K hHeld
        have hHeld := hHeld1
        clear hHeld1
        refine wpAnyH_done (by kernel_rfl) ?_ _
        clear hHeld HS9
        go_wp2_with fail
        exact bodyPost_ret (v := .tuple #[.agg ((cellsM Ms.zero (.slice none 0 0) (.slice none 0 0))).toArray, .agg (([.string sE.op, .int .i64 (whS sE), .int .i64 sE.c, .int .i64 (-1)] : List Value)).toArray]) (results_two Tryz.results6 _ _ (w.heap.size + 1) _ _ (w.heap.size + 1 + 1) _ _ rfl rfl HEN.out.1 Tryz.underlying26 rfl (by kernel_rfl) HEN.out.2.1 Tryz.underlying37 rfl (by kernel_rfl)) rfl ⟨_, _, rfl, by rw [HM1.out]; rfl, by rw [HM1.out]; exact (isMn_zero (fun _ => True) _).is, HEN.out.2.2⟩
      case pos =>
       have hjI : ¬ (j : Int) < (M : Int) := fun q => hst (fun h => hgo ⟨by omega, h⟩) hc
       clear hgo hst
       obtain ⟨htx, hm1, hm2⟩ := HM.out.2 hc
       clear HM
       have hcn : (sE.c != 0) = false := by simp [hc]
       generalize (⟨k, x1, x2, x3, x4, x5, x6, x7, x8, x9, x10, x11, x12, x13, bsj⟩ : Ms) = mF at HF htx hm1 hm2
       rcases hq : chkM mF with ⟨op9, n9, c9⟩
       rw [hq] at hm1 hm2
       simp only at hm1 hm2
       have HM1 := hide hm1
       have HM2 := hide hm2
       have HCQ := hide hq
       have HTX := hide htx
       clear hm1 hm2 hq htx
       go_upto_region 31 with (first | (go_at_call 26; refine HE.out.mono ?_; rintro e w6 ⟨rfl, hr6, hb6⟩; have HF6 := hide (HF.out.step hr6 hb6); have e2 := hr6.c2; clear hr6 hb6))
       clear e2
       have HC := hide (rmcheck_any mF _ w6 (HF6.out.is (W' := w6) (fun _ _ _ _ => rfl)) HTX.out)
       rw [HCQ.out] at HC
       simp only [wrT] at HC
       go_upto_region 32 with (first | (refine wpList_load_mid rfl _ _ rfl _ _ rfl _ _ HF6.out.rg Tryz.underlying26 rfl (by kernel_rfl) ?_) | (go_at_call 27; refine HC.out.mono ?_; rintro e w7 ⟨rfl, hb7⟩))
       obtain ⟨w8, hw8⟩ : ∃ x : World, x = w7.alloc (.cells #[.string op9, .int .i64 n9, .int .i64 c9, .int .i64 (-1)] 37) := ⟨_, rfl⟩
       have hb8 : Below w7.heap.size w7 w8 := by rw [hw8]; exact (Below.refl _ _).alloc (Nat.le_refl _) _
       have HR8 : Hid (w8.rangeAt w7.heap.size 0 ([.string op9, .int .i64 n9, .int .i64 c9, .int .i64 (-1)] : List Value)) := hide (by rw [hw8]; exact range_new w7 ([.string op9, .int .i64 n9, .int .i64 c9, .int .i64 (-1)] : List Value) 37)
       have d2 : w8.cell? ⟨w7.heap.size, 2, none⟩ = some (.int .i64 c9) := HR8.out 2 _ rfl
       show Code.wp _ _ _ _ _
       rw [← hw8]
       have hD : Z.heap.size + 1 < w7.heap.size := Nat.lt_of_lt_of_le HF6.out.sz hb7.size
       have hb68 : Below w6.heap.size w6 w8 := hb7.trans (hb8.mono hb7.size)
       have HF8 := hide (HF6.out.below hb68)
       have HB8 := hide (HB.out.trans (HF8.out.be.mono HB.out.size))
       have HT8 := hide (there_bel HT15.out HF8.out.be (by have := HZ.out; omega))
       have HU8 := hide (there_bel HT4.out HF8.out.be (by have := HZ.out; omega))
       clear hw8 hb8 hb7 hb68 HC HF6 HF HE
       generalize w7.heap.size = D at *
       by_cases hc9 : c9 = 0
       ·have HTA := hide HT8.out
        have HRM := hide (HM2.out hc9)
        have hcn9 : (c9 != 0) = false := by simp [hc9]
        subst hc9
        go_upto_region 34 with fail
        clear d2
        have HRG := hide HF8.out.rg
        go_wp2_with (first | (refine wpList_load_mid rfl _ _ rfl _ _ rfl _ _ HRG.out Tryz.underlying26 rfl (by kernel_rfl) ?_; clear HRG) | (refine wpList_store_mid rfl 26 _ _ rfl (w.heap.size + 1) 0 ((cellsM mF (.slice ab qs.length cb) (.slice ad x13.length cd))).toArray rfl rfl HT8.out (by kernel_rfl) (cellsM_one mF ab ad qs.length cb x13.length cd) ?_; clear HT8) | (refine wpList_store_mid rfl 37 _ _ rfl (w.heap.size + 1 + 1) 0 (([.string ⟨#[]⟩, .int .i64 0, .int .i64 0, .int .i64 (-1)] : List Value)).toArray rfl rfl (World.there_setCells HU8.out _ _ _) (by kernel_rfl) (one4 ⟨#[]⟩ 0 0 (-1)) ?_))
        have HEN := hide ((ed_one (cs := (cellsM mF (.slice ab qs.length cb) (.slice ad x13.length cd))) rfl HTA.out HU8.out HB8.out).fin (cs' := ([.string ⟨#[]⟩, .int .i64 0, .int .i64 0, .int .i64 (-1)] : List Value)) rfl)
        exact bodyPost_ret (v := .tuple #[.agg ((cellsM mF (.slice ab qs.length cb) (.slice ad x13.length cd))).toArray, .agg (([.string ⟨#[]⟩, .int .i64 0, .int .i64 0, .int .i64 (-1)] : List Value)).toArray]) (results_two Tryz.results6 _ _ (w.heap.size + 1) _ _ (w.heap.size + 1 + 1) _ _ rfl rfl HEN.out.1 Tryz.underlying26 rfl (by kernel_rfl) HEN.out.2.1 Tryz.underlying37 rfl (by kernel_rfl)) rfl ⟨_, _, rfl, by rw [HRM.out]; rfl, by rw [HRM.out]; exact HF8.out.is (fun b i hk hl => (cell_many (by have := HZ.out; omega) _ _).trans (cell_many (by have := HZ.out; omega) _ _)), HEN.out.2.2⟩
       ·have HRM := hide (HM1.out hc9)
        have hcn9 : (c9 != 0) = true := by simp [hc9]
        go_upto_region 33 with fail
        have hdr : Below w8.heap.size w8 w8.drew := (Below.refl _ _).drew
        have HT9 := hide (there_bel HT8.out hdr (by have := HZ.out; have := HF8.out.sz; omega))
        have HU9 := hide (there_bel HU8.out hdr (by have := HZ.out; have := HF8.out.sz; omega))
        have HB9 := hide (HB8.out.trans (hdr.mono HB8.out.size))
        have HS9 : Hid ((fun W => W.rangeAt D 0 ([.string op9, .int .i64 n9, .int .i64 c9, .int .i64 (-1)] : List Value)) w8.drew) := hide (range_bel HR8.out hdr)
        clear hdr d2
        refine wp_region_held_drew (S := fun W => W.rangeAt D 0 ([.string op9, .int .i64 n9, .int .i64 c9, .int .i64 (-1)] : List Value)) (by kernel_rfl) HS9.out (fun hHeld => ?_)
        refine tk 0 146 (.agg #[.int .i64 0, .int .i64 0, .int .i64 0, .int .i64 0, .bool false, .bool false, .int .i64 0, .int .i64 0, .int .i64 0, .int .i64 0, .int .i64 0, .slice none 0 0, .int .i64 0, .int .i64 0, .slice none 0 0]) rfl rfl hHeld ?_
        simp only [Act.put, zA, zB, zC]
        refine tky 1 147 (_) rfl rfl (yieldsIf_load_mid (by rfl) _ _ rfl _ _ rfl (([.string op9, .int .i64 n9, .int .i64 c9, .int .i64 (-1)] : List Value)) _ (fun W hW => hW) Tryz.underlying37 rfl (by kernel_rfl)) hHeld ?_
        simp only [Act.put, zA, zB, zC]
        generalize w8.drew = w9 at *
        have HSA : Hid ((fun W => W.rangeAt D 0 ([.string op9, .int .i64 n9, .int .i64 c9, .int .i64 (-1)] : List Value)) (w9.setCells (w.heap.size + 1) 0 (cellsM Ms.zero (.slice none 0 0) (.slice none 0 0)))) := hide (range_imp hHeld (fun i _ => cell_many (by have := HZ.out; omega) _ _))
        have HED := hide (ed_one (cs := (cellsM Ms.zero (.slice none 0 0) (.slice none 0 0))) rfl HT9.out HU9.out HB9.out)
        refine wpAnyH_ready (rs := [2]) (by kernel_rfl) (by simp) ?_
        refine AllReadyH.cons (o := _) rfl (fun K hK => ?_) AllReadyH.nil
        refine step_store_mid rfl 26 _ _ rfl (w.heap.size + 1) 0 ((cellsM Ms.zero (.slice none 0 0) (.slice none 0 0))).toArray rfl rfl (HT9.out) (by kernel_rfl) (cellsM_one Ms.zero none none 0 0 0 0) ?_
        show K (Act.put _ none _) (w9.setCells (w.heap.size + 1) 0 (cellsM Ms.zero (.slice none 0 0) (.slice none 0 0)))
        generalize w9.setCells (w.heap.size + 1) 0 (cellsM Ms.zero (.slice none 0 0) (.slice none 0 0)) = va at HSA HED ⊢
        refine hK.out _ _ HSA.out (fun hHeld1 => ?_)
        clear hK K hHeld
        have hHeld := hHeld1
        clear hHeld1
        clear HSA HT9 HU9 HB9 HS9
        have HSB : Hid ((fun W => W.rangeAt D 0 ([.string op9, .int .i64 n9, .int .i64 c9, .int .i64 (-1)] : List Value)) (va.setCells (w.heap.size + 1 + 1) 0 ([.string op9, .int .i64 n9, .int .i64 c9, .int .i64 (-1)] : List Value))) := hide (range_imp hHeld (fun i _ => cell_many (by have := HZ.out; omega) _ _))
        have HEN := hide (HED.out.fin (cs' := ([.string op9, .int .i64 n9, .int .i64 c9, .int .i64 (-1)] : List Value)) rfl)
        refine wpAnyH_ready (rs := [3]) (by kernel_rfl) (by simp) ?_
        refine AllReadyH.cons (o := _) rfl (fun K hK => ?_) AllReadyH.nil
        refine step_store_mid rfl 37 _ _ rfl (w.heap.size + 1 + 1) 0 (([.string op9, .int .i64 n9, .int .i64 c9, .int .i64 (-1)] : List Value)).toArray rfl rfl (HED.out.t2) (by kernel_rfl) (one4 op9 n9 c9 (-1)) ?_
        show K (Act.put _ none _) (va.setCells (w.heap.size + 1 + 1) 0 ([.string op9, .int .i64 n9, .int .i64 c9, .int .i64 (-1)] : List Value))
        generalize va.setCells (w.heap.size + 1 + 1) 0 ([.string op9, .int .i64 n9, .int .i64 c9, .int .i64 (-1)] : List Value) = vb at HSB HEN ⊢
        refine hK.out _ _ HSB.out (fun hHeld1 => ?_)
        clear hK K hHeld
        have hHeld := hHeld1
        clear hHeld1
        refine wpAnyH_done (by kernel_rfl) ?_ _
        clear hHeld HSB
        go_wp2_with fail
        exact bodyPost_ret (v := .tuple #[.agg ((cellsM Ms.zero (.slice none 0 0) (.slice none 0 0))).toArray, .agg (([.string op9, .int .i64 n9, .int .i64 c9, .int .i64 (-1)] : List Value)).toArray]) (results_two Tryz.results6 _ _ (w.heap.size + 1) _ _ (w.heap.size + 1 + 1) _ _ rfl rfl HEN.out.1 Tryz.underlying26 rfl (by kernel_rfl) HEN.out.2.1 Tryz.underlying37 rfl (by kernel_rfl)) rfl ⟨_, _, rfl, by rw [HRM.out]; rfl, by rw [HRM.out]; exact (isMn_zero (fun _ => True) _).is, HEN.out.2.2⟩
end Go.Proofs.YtjjpfajbljbelaaGreatDoor
