/-
  A NUMBER AND A FLAG WRITTEN BEHIND BYTES (wire.Num, Int, Flag; math/bits.Len at one, two, four and eight). Conditions: the bytes are nil or a row of their own, and fewer than a million.
-/
import Derived.Test.YtjjpfajbljbelaaGreatDoorJKWrw
import Derived.Deep.RegionHeld3
namespace Go.Proofs.YtjjpfajbljbelaaGreatDoor
open Go.RowKit
set_option maxRecDepth 100000
set_option maxHeartbeats 8000000
theorem len64_1 (w : World) : Calls Tryz.prog 144 #[.int .u64 1] w fun e w' => e = .returned (.int .i64 1) ∧ w' = w := by
 go_enter Tryz.func144, Tryz.ntmps144
 go_wp2
 go_ret
 exact ⟨by kernel_rfl, rfl⟩
theorem len_1 (w : World) : Calls Tryz.prog 124 #[.int .u64 1] w fun e w' => e = .returned (.int .i64 1) ∧ w' = w := by
 go_enter Tryz.func124, Tryz.ntmps124
 go_wp2_with (first | (go_at_call 144; refine (len64_1 _).mono ?_; rintro e w' ⟨rfl, rfl⟩))
 go_ret
 exact ⟨rfl, rfl⟩
theorem len64_2 (w : World) : Calls Tryz.prog 144 #[.int .u64 2] w fun e w' => e = .returned (.int .i64 2) ∧ w' = w := by
 go_enter Tryz.func144, Tryz.ntmps144
 go_wp2
 go_ret
 exact ⟨by kernel_rfl, rfl⟩
theorem len_2 (w : World) : Calls Tryz.prog 124 #[.int .u64 2] w fun e w' => e = .returned (.int .i64 2) ∧ w' = w := by
 go_enter Tryz.func124, Tryz.ntmps124
 go_wp2_with (first | (go_at_call 144; refine (len64_2 _).mono ?_; rintro e w' ⟨rfl, rfl⟩))
 go_ret
 exact ⟨rfl, rfl⟩
theorem len64_4 (w : World) : Calls Tryz.prog 144 #[.int .u64 4] w fun e w' => e = .returned (.int .i64 3) ∧ w' = w := by
 go_enter Tryz.func144, Tryz.ntmps144
 go_wp2
 go_ret
 exact ⟨by kernel_rfl, rfl⟩
theorem len_4 (w : World) : Calls Tryz.prog 124 #[.int .u64 4] w fun e w' => e = .returned (.int .i64 3) ∧ w' = w := by
 go_enter Tryz.func124, Tryz.ntmps124
 go_wp2_with (first | (go_at_call 144; refine (len64_4 _).mono ?_; rintro e w' ⟨rfl, rfl⟩))
 go_ret
 exact ⟨rfl, rfl⟩
theorem len64_8 (w : World) : Calls Tryz.prog 144 #[.int .u64 8] w fun e w' => e = .returned (.int .i64 4) ∧ w' = w := by
 go_enter Tryz.func144, Tryz.ntmps144
 go_wp2
 go_ret
 exact ⟨by kernel_rfl, rfl⟩
theorem len_8 (w : World) : Calls Tryz.prog 124 #[.int .u64 8] w fun e w' => e = .returned (.int .i64 4) ∧ w' = w := by
 go_enter Tryz.func124, Tryz.ntmps124
 go_wp2_with (first | (go_at_call 144; refine (len64_8 _).mono ?_; rintro e w' ⟨rfl, rfl⟩))
 go_ret
 exact ⟨rfl, rfl⟩
theorem Put.opened {B : Nat} {w : World} {v : Value} {n : Nat} {cur : List Value} {w' : World} {v' : Value} {m : Nat} {cur' : List Value} {x : Int} {xs : List Int} (h : Put B w v n cur w' v' m cur' (bv (x :: xs))) :
  ∃ g, v' = .slice (some ⟨g, 0, none⟩) (n + m) cur'.length ∧ B ≤ g ∧ w'.heap[g]? = some (.cells cur'.toArray 5 (0, 0)) ∧ w'.cell? ⟨g, n, none⟩ = some (.int .u8 x) ∧ w'.frozen? ⟨g, n, none⟩ = false ∧ n < n + m ∧ n + m ≤ cur'.length := by
 have hl := h.len
 obtain ⟨r1, r2, r3⟩ := h.rw
 have hm : 0 < m := by rw [← hl]; simp [bv]
 rcases r3 with ⟨_, rfl⟩ | ⟨g, a1, a2, a3⟩
 ·simp at r1; omega
 ·refine ⟨g, a1, a2, a3, ?_, by simp [World.frozen?, a3], by omega, r1⟩
  have e := congrArg (fun l => l[n]?) h.tk
  rw [List.getElem?_take_of_lt (by omega)] at e
  have hc : n ≤ cur.length ∨ cur.length < n := by omega
  have hn : (cur.take n).length = n := by
   have := congrArg List.length h.tk
   rw [List.length_take, List.length_append, hl] at this
   omega
  rw [List.getElem?_append_right (by omega), hn] at e
  simp only [World.cell?, a3]
  simpa [bv] using e
theorem Put.store {B : Nat} {w : World} {v : Value} {n : Nat} {cur : List Value} {w' : World} {m g : Nat} {cur' : List Value} {x : Int} {xs : List Int} (h : Put B w v n cur w' (.slice (some ⟨g, 0, none⟩) (n + m) cur'.length) m cur' (bv (x :: xs))) (hg : B ≤ g) (hh : w'.heap[g]? = some (.cells cur'.toArray 5 (0, 0))) (y : Int) :
  Put B w v n cur (w'.setCell ⟨g, n, none⟩ (.int .u8 y)) (.slice (some ⟨g, 0, none⟩) (n + m) cur'.length) m (cur'.set n (.int .u8 y)) (bv (y :: xs)) := by
 have hl := h.len
 obtain ⟨r1, r2, r3⟩ := h.rw
 have hm : 0 < m := by rw [← hl]; simp [bv]
 have hn : (cur.take n).length = n := by
  have := congrArg List.length h.tk
  rw [List.length_take, List.length_append, hl] at this
  omega
 refine ⟨⟨by simpa using r1, by simpa using r2, .inr ⟨g, by simp, hg, ?_⟩⟩, ?_, by simpa [bv] using hl, ?_, h.below.setCell hg _, ⟨h.grown.os, h.grown.tape, h.grown.output, by simp [World.setCell]; exact h.grown.size, fun k hk hp => ?_⟩, h.blk⟩
 ·simp [World.setCell, Array.getElem?_modify, hh]
 ·rw [List.take_set, h.tk, List.set_append_right _ _ (by omega), hn]
  simp [bv]
 ·intro hf
  obtain ⟨b1, b2, b3⟩ := h.fit hf
  refine ⟨b1, by simpa using b2, ?_⟩
  rw [List.drop_set_of_lt (by omega)]
  exact b3
 ·refine (Below.heap_setCell _ _ _ _ ?_).trans (h.grown.block k hk hp)
  intro e
  rcases h.blk with q | q
  ·exact hp (by rw [← q, e]; rfl)
  ·have := q g rfl
   simp at e
   omega
theorem wnum_1 (B : Nat) (v : Value) (m : Nat) (cur : List Value) (k : Int) (w : World) (hr : Rw B w v m cur) (hB : B ≤ w.heap.size) (hm : m ≤ 900000) (h0 : 0 ≤ k) (h1 : k < 64) :
  Calls Tryz.prog 100 #[v, .int .u64 k] w fun e w' => ∃ v' cur', e = .returned v' ∧ Put B w v m cur w' v' 1 cur' (bv [k]) := by
 obtain ⟨ao, cap, hV⟩ : ∃ ao cap, v = .slice ao m cap := by
  rcases hr.2.2 with ⟨rfl, rfl⟩ | ⟨g, rfl, _⟩
  ·have := hr.1; simp at this; subst this; exact ⟨_, _, rfl⟩
  ·exact ⟨_, _, rfl⟩
 have HS := hide (wsize_any k)
 have hz : szL k = 1 := by unfold szL numL; rw [if_pos h1]; rfl
 rw [hz] at HS
 subst hV
 have HR := hide hr
 have hk1 : ¬ 4611686018427387903 < k := by omega
 clear hr hz
 go_enter Tryz.func100, Tryz.ntmps100
 go_wp2_with (first
  | (go_at_call 101; refine (HS.out _).mono ?_; rintro e w' ⟨rfl, rfl⟩)
  | (at_builtin; refine wpList_append_rw _ rfl _ _ rfl B _ m cur rfl (HR.out.below ((Below.refl _ _).alloc (Nat.le_refl _) _)) (by simp; omega) _ 1 1 (bv [k]) rfl rfl (by omega) (cells_at _ _ _) (one_bytes _) (by omega) ?_))
 intro w1 v1 cur1 hp1
 have HQ1 := hide (hp1.pre (w := w') hB ((Below.refl _ _).alloc (Nat.le_refl _) _))
 clear hp1 HR HS
 go_wp2_with fail
 have hq : Put B w' (.slice ao m cap) m cur w1 v1 1 cur1 (bv [k]) := HQ1.out
 obtain ⟨g, rfl, hBg, hh, hcell, hfz, hlt, hle⟩ := hq.opened
 have HP := hide hq
 have HH := hide hh
 have hsz := hq.below.size
 clear hq hh HQ1
 have eor2 : bits .or .u8 (k) 0 = k := by
  have := or_head (x := k) 0 (by omega) (by omega) (by omega)
  simpa using this
 have eor : bits .or .u8 (k) (IntKind.u8.wrap (IntKind.u8.wrap (IntKind.i64.wrap 0) * 64)) = k := by
  rw [show IntKind.u8.wrap (IntKind.u8.wrap (IntKind.i64.wrap 0) * 64) = ((64 * 0 : Nat) : Int) by decide]
  rw [or_head 0 (by omega) (by omega) (by omega)]
  omega
 go_region_with (first | (go_at_call 124; refine (len_1 _).mono ?_; rintro e w' ⟨rfl, rfl⟩))
 all_goals go_wp2_with fail
 all_goals go_ret
 all_goals exact ⟨_, _, rfl, (HP.out.store hBg HH.out _).post (by simp; omega) ((Below.refl _ _).drew)⟩
theorem wnum_2 (B : Nat) (v : Value) (m : Nat) (cur : List Value) (k : Int) (w : World) (hr : Rw B w v m cur) (hB : B ≤ w.heap.size) (hm : m ≤ 900000) (h0 : 64 ≤ k) (h1 : k < 16384) :
  Calls Tryz.prog 100 #[v, .int .u64 k] w fun e w' => ∃ v' cur', e = .returned v' ∧ Put B w v m cur w' v' 2 cur' (bv [k / 256 + 64, k % 256]) := by
 obtain ⟨ao, cap, hV⟩ : ∃ ao cap, v = .slice ao m cap := by
  rcases hr.2.2 with ⟨rfl, rfl⟩ | ⟨g, rfl, _⟩
  ·have := hr.1; simp at this; subst this; exact ⟨_, _, rfl⟩
  ·exact ⟨_, _, rfl⟩
 have HS := hide (wsize_any k)
 have hz : szL k = 2 := by unfold szL numL; rw [if_neg (by omega), if_pos h1]; rfl
 rw [hz] at HS
 subst hV
 have HR := hide hr
 have hk1 : ¬ 4611686018427387903 < k := by omega
 clear hr hz
 go_enter Tryz.func100, Tryz.ntmps100
 go_wp2_with (first
  | (go_at_call 101; refine (HS.out _).mono ?_; rintro e w' ⟨rfl, rfl⟩)
  | (at_builtin; refine wpList_append_rw _ rfl _ _ rfl B _ m cur rfl (HR.out.below ((Below.refl _ _).alloc (Nat.le_refl _) _)) (by simp; omega) _ 1 1 (bv [k / 256]) rfl rfl (by omega) (cells_at _ _ _) (one_bytes _) (by omega) ?_))
 intro w1 v1 cur1 hp1
 have HQ1 := hide (hp1.pre (w := w') hB ((Below.refl _ _).alloc (Nat.le_refl _) _))
 clear hp1 HR HS
 go_wp2_with (first
  | (at_builtin; refine wpList_append_rw _ rfl _ _ rfl B _ (m + 1) cur1 rfl (HQ1.out.rw.below ((Below.refl _ _).alloc (Nat.le_refl _) _)) (by have := HQ1.out.below.size; simp; omega) _ 1 1 (bv [k % 256]) rfl rfl (by omega) (cells_at _ _ _) (one_bytes _) (by omega) ?_))
 intro w2 v2 cur2 hp2
 have HQ2 := hide (HQ1.out.trans (hp2.pre (w := w1) (by have := HQ1.out.below.size; omega) ((Below.refl _ _).alloc (Nat.le_refl _) _)))
 clear hp2
 go_wp2_with fail
 have hq : Put B w' (.slice ao m cap) m cur w2 v2 2 cur2 (bv [k / 256, k % 256]) := HQ2.out
 obtain ⟨g, rfl, hBg, hh, hcell, hfz, hlt, hle⟩ := hq.opened
 have HP := hide hq
 have HH := hide hh
 have hsz := hq.below.size
 clear hq hh HQ1 HQ2
 have eor2 : bits .or .u8 (k / 256) 64 = k / 256 + 64 := by
  have := or_head (x := k / 256) 1 (by omega) (by omega) (by omega)
  simpa using this
 have eor : bits .or .u8 (k / 256) (IntKind.u8.wrap (IntKind.u8.wrap (IntKind.i64.wrap 1) * 64)) = k / 256 + 64 := by
  rw [show IntKind.u8.wrap (IntKind.u8.wrap (IntKind.i64.wrap 1) * 64) = ((64 * 1 : Nat) : Int) by decide]
  rw [or_head 1 (by omega) (by omega) (by omega)]
  omega
 go_region_with (first | (go_at_call 124; refine (len_2 _).mono ?_; rintro e w' ⟨rfl, rfl⟩))
 all_goals go_wp2_with fail
 all_goals go_ret
 all_goals exact ⟨_, _, rfl, (HP.out.store hBg HH.out _).post (by simp; omega) ((Below.refl _ _).drew)⟩
theorem wnum_4 (B : Nat) (v : Value) (m : Nat) (cur : List Value) (k : Int) (w : World) (hr : Rw B w v m cur) (hB : B ≤ w.heap.size) (hm : m ≤ 900000) (h0 : 16384 ≤ k) (h1 : k < 1073741824) :
  Calls Tryz.prog 100 #[v, .int .u64 k] w fun e w' => ∃ v' cur', e = .returned v' ∧ Put B w v m cur w' v' 4 cur' (bv [k / 16777216 + 128, k / 65536 % 256, k / 256 % 256, k % 256]) := by
 obtain ⟨ao, cap, hV⟩ : ∃ ao cap, v = .slice ao m cap := by
  rcases hr.2.2 with ⟨rfl, rfl⟩ | ⟨g, rfl, _⟩
  ·have := hr.1; simp at this; subst this; exact ⟨_, _, rfl⟩
  ·exact ⟨_, _, rfl⟩
 have HS := hide (wsize_any k)
 have hz : szL k = 4 := by unfold szL numL; rw [if_neg (by omega), if_neg (by omega), if_pos h1]; rfl
 rw [hz] at HS
 subst hV
 have HR := hide hr
 have hk1 : ¬ 4611686018427387903 < k := by omega
 clear hr hz
 go_enter Tryz.func100, Tryz.ntmps100
 go_wp2_with (first
  | (go_at_call 101; refine (HS.out _).mono ?_; rintro e w' ⟨rfl, rfl⟩)
  | (at_builtin; refine wpList_append_rw _ rfl _ _ rfl B _ m cur rfl (HR.out.below ((Below.refl _ _).alloc (Nat.le_refl _) _)) (by simp; omega) _ 2 2 (bv [k / 16777216, k / 65536 % 256]) rfl rfl (by omega) (cells_at _ _ _) (one_bytes _) (by omega) ?_))
 intro w1 v1 cur1 hp1
 have HQ1 := hide (hp1.pre (w := w') hB ((Below.refl _ _).alloc (Nat.le_refl _) _))
 clear hp1 HR HS
 go_wp2_with (first
  | (at_builtin; refine wpList_append_rw _ rfl _ _ rfl B _ (m + 2) cur1 rfl (HQ1.out.rw.below ((Below.refl _ _).alloc (Nat.le_refl _) _)) (by have := HQ1.out.below.size; simp; omega) _ 1 1 (bv [k / 256 % 256]) rfl rfl (by omega) (cells_at _ _ _) (one_bytes _) (by omega) ?_))
 intro w2 v2 cur2 hp2
 have HQ2 := hide (HQ1.out.trans (hp2.pre (w := w1) (by have := HQ1.out.below.size; omega) ((Below.refl _ _).alloc (Nat.le_refl _) _)))
 clear hp2
 go_wp2_with (first
  | (at_builtin; refine wpList_append_rw _ rfl _ _ rfl B _ (m + 3) cur2 rfl (HQ2.out.rw.below ((Below.refl _ _).alloc (Nat.le_refl _) _)) (by have := HQ2.out.below.size; simp; omega) _ 1 1 (bv [k % 256]) rfl rfl (by omega) (cells_at _ _ _) (one_bytes _) (by omega) ?_))
 intro w3 v3 cur3 hp3
 have HQ3 := hide (HQ2.out.trans (hp3.pre (w := w2) (by have := HQ2.out.below.size; omega) ((Below.refl _ _).alloc (Nat.le_refl _) _)))
 clear hp3
 go_wp2_with fail
 have hq : Put B w' (.slice ao m cap) m cur w3 v3 4 cur3 (bv [k / 16777216, k / 65536 % 256, k / 256 % 256, k % 256]) := HQ3.out
 obtain ⟨g, rfl, hBg, hh, hcell, hfz, hlt, hle⟩ := hq.opened
 have HP := hide hq
 have HH := hide hh
 have hsz := hq.below.size
 clear hq hh HQ1 HQ2 HQ3
 have eor2 : bits .or .u8 (k / 16777216) 128 = k / 16777216 + 128 := by
  have := or_head (x := k / 16777216) 2 (by omega) (by omega) (by omega)
  simpa using this
 have eor : bits .or .u8 (k / 16777216) (IntKind.u8.wrap (IntKind.u8.wrap (IntKind.i64.wrap 2) * 64)) = k / 16777216 + 128 := by
  rw [show IntKind.u8.wrap (IntKind.u8.wrap (IntKind.i64.wrap 2) * 64) = ((64 * 2 : Nat) : Int) by decide]
  rw [or_head 2 (by omega) (by omega) (by omega)]
  omega
 go_region_with (first | (go_at_call 124; refine (len_4 _).mono ?_; rintro e w' ⟨rfl, rfl⟩))
 all_goals go_wp2_with fail
 all_goals go_ret
 all_goals exact ⟨_, _, rfl, (HP.out.store hBg HH.out _).post (by simp; omega) ((Below.refl _ _).drew)⟩
theorem wnum_8 (B : Nat) (v : Value) (m : Nat) (cur : List Value) (k : Int) (w : World) (hr : Rw B w v m cur) (hB : B ≤ w.heap.size) (hm : m ≤ 900000) (h0 : 1073741824 ≤ k) (h1 : k ≤ 4611686018427387903) :
  Calls Tryz.prog 100 #[v, .int .u64 k] w fun e w' => ∃ v' cur', e = .returned v' ∧ Put B w v m cur w' v' 8 cur' (bv [k / 72057594037927936 + 192, k / 281474976710656 % 256, k / 1099511627776 % 256, k / 4294967296 % 256, k / 16777216 % 256, k / 65536 % 256, k / 256 % 256, k % 256]) := by
 obtain ⟨ao, cap, hV⟩ : ∃ ao cap, v = .slice ao m cap := by
  rcases hr.2.2 with ⟨rfl, rfl⟩ | ⟨g, rfl, _⟩
  ·have := hr.1; simp at this; subst this; exact ⟨_, _, rfl⟩
  ·exact ⟨_, _, rfl⟩
 have HS := hide (wsize_any k)
 have hz : szL k = 8 := by unfold szL numL; rw [if_neg (by omega), if_neg (by omega), if_neg (by omega)]; rfl
 rw [hz] at HS
 subst hV
 have HR := hide hr
 have hk1 : ¬ 4611686018427387903 < k := by omega
 clear hr hz
 go_enter Tryz.func100, Tryz.ntmps100
 go_wp2_with (first
  | (go_at_call 101; refine (HS.out _).mono ?_; rintro e w' ⟨rfl, rfl⟩)
  | (at_builtin; refine wpList_append_rw _ rfl _ _ rfl B _ m cur rfl (HR.out.below ((Below.refl _ _).alloc (Nat.le_refl _) _)) (by simp; omega) _ 4 4 (bv [k / 72057594037927936, k / 281474976710656 % 256, k / 1099511627776 % 256, k / 4294967296 % 256]) rfl rfl (by omega) (cells_at _ _ _) (one_bytes _) (by omega) ?_))
 intro w1 v1 cur1 hp1
 have HQ1 := hide (hp1.pre (w := w') hB ((Below.refl _ _).alloc (Nat.le_refl _) _))
 clear hp1 HR HS
 go_wp2_with (first
  | (at_builtin; refine wpList_append_rw _ rfl _ _ rfl B _ (m + 4) cur1 rfl (HQ1.out.rw.below ((Below.refl _ _).alloc (Nat.le_refl _) _)) (by have := HQ1.out.below.size; simp; omega) _ 2 2 (bv [k / 16777216 % 256, k / 65536 % 256]) rfl rfl (by omega) (cells_at _ _ _) (one_bytes _) (by omega) ?_))
 intro w2 v2 cur2 hp2
 have HQ2 := hide (HQ1.out.trans (hp2.pre (w := w1) (by have := HQ1.out.below.size; omega) ((Below.refl _ _).alloc (Nat.le_refl _) _)))
 clear hp2
 go_wp2_with (first
  | (at_builtin; refine wpList_append_rw _ rfl _ _ rfl B _ (m + 6) cur2 rfl (HQ2.out.rw.below ((Below.refl _ _).alloc (Nat.le_refl _) _)) (by have := HQ2.out.below.size; simp; omega) _ 1 1 (bv [k / 256 % 256]) rfl rfl (by omega) (cells_at _ _ _) (one_bytes _) (by omega) ?_))
 intro w3 v3 cur3 hp3
 have HQ3 := hide (HQ2.out.trans (hp3.pre (w := w2) (by have := HQ2.out.below.size; omega) ((Below.refl _ _).alloc (Nat.le_refl _) _)))
 clear hp3
 go_wp2_with (first
  | (at_builtin; refine wpList_append_rw _ rfl _ _ rfl B _ (m + 7) cur3 rfl (HQ3.out.rw.below ((Below.refl _ _).alloc (Nat.le_refl _) _)) (by have := HQ3.out.below.size; simp; omega) _ 1 1 (bv [k % 256]) rfl rfl (by omega) (cells_at _ _ _) (one_bytes _) (by omega) ?_))
 intro w4 v4 cur4 hp4
 have HQ4 := hide (HQ3.out.trans (hp4.pre (w := w3) (by have := HQ3.out.below.size; omega) ((Below.refl _ _).alloc (Nat.le_refl _) _)))
 clear hp4
 go_wp2_with fail
 have hq : Put B w' (.slice ao m cap) m cur w4 v4 8 cur4 (bv [k / 72057594037927936, k / 281474976710656 % 256, k / 1099511627776 % 256, k / 4294967296 % 256, k / 16777216 % 256, k / 65536 % 256, k / 256 % 256, k % 256]) := HQ4.out
 obtain ⟨g, rfl, hBg, hh, hcell, hfz, hlt, hle⟩ := hq.opened
 have HP := hide hq
 have HH := hide hh
 have hsz := hq.below.size
 clear hq hh HQ1 HQ2 HQ3 HQ4
 have eor2 : bits .or .u8 (k / 72057594037927936) 192 = k / 72057594037927936 + 192 := by
  have := or_head (x := k / 72057594037927936) 3 (by omega) (by omega) (by omega)
  simpa using this
 have eor : bits .or .u8 (k / 72057594037927936) (IntKind.u8.wrap (IntKind.u8.wrap (IntKind.i64.wrap 3) * 64)) = k / 72057594037927936 + 192 := by
  rw [show IntKind.u8.wrap (IntKind.u8.wrap (IntKind.i64.wrap 3) * 64) = ((64 * 3 : Nat) : Int) by decide]
  rw [or_head 3 (by omega) (by omega) (by omega)]
  omega
 go_region_with (first | (go_at_call 124; refine (len_8 _).mono ?_; rintro e w' ⟨rfl, rfl⟩))
 all_goals go_wp2_with fail
 all_goals go_ret
 all_goals exact ⟨_, _, rfl, (HP.out.store hBg HH.out _).post (by simp; omega) ((Below.refl _ _).drew)⟩
end Go.Proofs.YtjjpfajbljbelaaGreatDoor
