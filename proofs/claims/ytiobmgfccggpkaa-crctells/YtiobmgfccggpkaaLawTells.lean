/-
  THE WALK OF CrcTells: true at any bytes, any place, any bits that are turned. No condition.
-/
import Derived.Test.YtiobmgfccggpkaaCrcWorks
import Derived.Lib.SmallJoins
namespace Go.Proofs.Ytiobmgfccggpkaa
open Go.RowKit Go.Joins

/-- One bit of bytes turned. -/
def flipAt (l : List Int) (n : Nat) : List Int := l.set (n / 8) (((l.getD (n / 8) 0).toNat ^^^ 2 ^ (n % 8) : Nat) : Int)
theorem flip_len (l : List Int) (n : Nat) : (flipAt l n).length = l.length := by simp [flipAt]
theorem pow_8 (n : Nat) : 2 ^ (n % 8) < 256 := Nat.lt_of_lt_of_le (Nat.pow_lt_pow_right (by decide) (Nat.mod_lt n (by decide))) (by decide : 2 ^ 8 ≤ 256)
theorem byt_getD {l : List Int} (h : Byt l) (i : Nat) : 0 ≤ l.getD i 0 ∧ l.getD i 0 ≤ 255 := by
  rw [List.getD_eq_getElem?_getD]
  cases e : l[i]? with
  | none => simp
  | some x => exact h x (List.mem_of_getElem? e)
theorem flip_byt {l : List Int} (h : Byt l) (n : Nat) : Byt (flipAt l n) := by
  intro x hx
  rcases List.mem_or_eq_of_mem_set hx with hx | rfl
  · exact h x hx
  · have h1 := byt_getD h (n / 8)
    have h2 := pow_8 n
    have : (l.getD (n / 8) 0).toNat ^^^ 2 ^ (n % 8) < 256 := Nat.xor_lt_two_pow (n := 8) (by omega) h2
    omega
theorem bit_xor (x r s : Nat) : (x ^^^ 2 ^ r) / 2 ^ s % 2 = (x / 2 ^ s % 2) ^^^ (if s = r then 1 else 0) := by
  rw [← Nat.toNat_testBit, ← Nat.toNat_testBit, Nat.testBit_xor, Nat.testBit_two_pow]
  by_cases h : r = s
  · subst h
    cases x.testBit r <;> simp
  · simp [h, show ¬ s = r from fun e => h e.symm]
theorem gb_flip {l : List Int} {n : Nat} (h : n < 8 * l.length) (i : Nat) : gb (flipAt l n) i = gb l i ^^^ (if i = n then 1 else 0) := by
  unfold gb flipAt
  by_cases e : i / 8 = n / 8
  · rw [e, List.getD_eq_getElem?_getD, List.getElem?_set_self (by omega), Option.getD_some, Int.toNat_natCast, bit_xor]
    by_cases e2 : i = n
    · rw [if_pos (by omega), if_pos e2]
    · rw [if_neg (by omega), if_neg e2]
  · rw [List.getD_eq_getElem?_getD, List.getElem?_set_ne (fun q => e q.symm), ← List.getD_eq_getElem?_getD, if_neg (fun q => e (by rw [q])), Nat.xor_zero]
/-- The first i of some bits turned, from k on, those that y has. -/
def turn (l : List Int) (y k : Nat) : Nat → List Int
  | 0 => l
  | i + 1 => if y / 2 ^ i % 2 = 1 then flipAt (turn l y k i) (k + i) else turn l y k i
theorem turn_len (l : List Int) (y k i : Nat) : (turn l y k i).length = l.length := by
  induction i with
  | zero => rfl
  | succ i ih =>
    unfold turn
    split
    · rw [flip_len, ih]
    · exact ih
theorem turn_byt {l : List Int} (h : Byt l) (y k i : Nat) : Byt (turn l y k i) := by
  induction i with
  | zero => exact h
  | succ i ih =>
    unfold turn
    split
    · exact flip_byt ih _
    · exact ih
theorem turn_gb {l : List Int} (y k i : Nat) (hk : k + i ≤ 8 * l.length) (j : Nat) : gb (turn l y k i) j = gb l j ^^^ (if k ≤ j ∧ j < k + i then y / 2 ^ (j - k) % 2 else 0) := by
  induction i with
  | zero => rw [if_neg (by omega), Nat.xor_zero]; rfl
  | succ i ih =>
    have ih := ih (by omega)
    unfold turn
    by_cases e : y / 2 ^ i % 2 = 1
    · rw [if_pos e, gb_flip (by rw [turn_len]; omega), ih]
      by_cases e2 : j = k + i
      · subst e2
        rw [if_neg (by omega), if_pos rfl, if_pos (by omega), Nat.xor_zero, show k + i - k = i by omega, e]
      · rw [if_neg e2, Nat.xor_zero]
        by_cases e3 : k ≤ j ∧ j < k + i
        · rw [if_pos e3, if_pos (by omega)]
        · rw [if_neg e3, if_neg (by omega)]
    · rw [if_neg e, ih]
      by_cases e2 : j = k + i
      · subst e2
        rw [if_neg (by omega), if_pos (by omega), show k + i - k = i by omega, show y / 2 ^ i % 2 = 0 by omega]
      · by_cases e3 : k ≤ j ∧ j < k + i
        · rw [if_pos e3, if_pos (by omega)]
        · rw [if_neg e3, if_neg (by omega)]
theorem turn_told {l : List Int} {y k : Nat} (hl : Byt l) (hk : k + 32 ≤ 8 * (l ++ le4 (crcL l)).length) (hy : y < 4294967296) (hy0 : y ≠ 0) : openL (turn (l ++ le4 (crcL l)) y k 32) = none := by
  have hp : Byt (l ++ le4 (crcL l)) := fun x hx => (List.mem_append.1 hx).elim (hl x) (le4_byt _ x)
  exact tells hl (turn_byt hp y k 32) (turn_len _ _ _ _) hk hy hy0 (turn_gb y k 32 hk)
theorem copen_none (v : Value) (l : List Int) (w : World) (hv : Sl bc w v l) (hl : l.length ≤ 100000) (hby : Byt l) (h : openL l = none) :
    Calls Try.prog 12 #[v] w fun e w' => e = .returned (.tuple #[.slice none 0 0, .bool false]) ∧ Below w.heap.size w w' := by
  refine (copen_any v l w hv hl hby).mono ?_
  rintro e w' ⟨⟨u, f, rfl, h2⟩, hb⟩
  rcases h2 with ⟨_, h3, _⟩ | ⟨rfl, _, rfl⟩
  · rw [h] at h3; cases h3
  · exact ⟨rfl, hb⟩
theorem at_k (A : Int) (M : Int) (h0 : 0 < M) (h1 : M < 100000) : ∃ k : Nat, wrap64 ((IntKind.u64.wrap A).tmod M) = (k : Int) ∧ (k : Int) < M := by
  have h2 : IntKind.u64.wrap A = A % 18446744073709551616 := IntKind.wrap_u64 A
  rw [h2, Int.tmod_eq_emod_of_nonneg (by omega)]
  have h3 := Int.emod_nonneg (A % 18446744073709551616) (show M ≠ 0 by omega)
  have h4 := Int.emod_lt_of_pos (A % 18446744073709551616) h0
  generalize A % 18446744073709551616 % M = q at *
  refine ⟨q.toNat, ?_, by omega⟩
  unfold wrap64
  omega
set_option maxRecDepth 100000 in
set_option maxHeartbeats 8000000 in
theorem tells_few (v : Value) (l : List Int) (A : Int) (Y : Nat) (w : World) (hv : Sl bc w v l) (hby : Byt l) (hl : ¬ (500 : Int) < (l.length : Int)) (hy0 : 0 < Y) (hy1 : Y < 4294967296) :
    Calls Try.prog 6 #[v, .int .i64 A, .int .u32 (Y : Int)] w fun e w' => e = .returned (.bool true) ∧ Below w.heap.size w w' := by
  have HW := hide works_any
  have HP := hide (put_any v l w hv (by omega) hby)
  have HB := hide hby
  obtain ⟨ao, cap, rfl⟩ := hv.form
  have hyn : ¬ (Y : Int) = 0 := by omega
  obtain ⟨k, hk, hkM⟩ := at_k A (8 * ((l.length : Int) + 4) - 31) (by omega) (by omega)
  have hlen : (l ++ le4 (crcL l)).length = l.length + 4 := by simp [le4]
  have HT := hide (turn_told (y := Y) (k := k) hby (by rw [hlen]; omega) hy1 (by omega))
  have hPb : Byt (l ++ le4 (crcL l)) := fun x hx => (List.mem_append.1 hx).elim (hby x) (le4_byt _ x)
  have HPB := hide hPb
  clear hv hby hPb
  generalize l ++ le4 (crcL l) = P at *
  go_enter Try.func6, Try.ntmps6
  go_wp2_with fail
  refine HP.out.mono ?_
  rintro e w1 ⟨v1, rfl, hown, hb1⟩
  rw [hlen] at hown
  obtain ⟨cur, hrw, htk⟩ := Rw.of hown
  obtain ⟨g, rfl, hg, hheap⟩ := hrw.2.2.resolve_left (by rintro ⟨rfl, rfl⟩; have := hrw.1; simp at this)
  have hcl := hrw.1
  have HB1 := hide hb1
  have HH := hide hheap
  have HK := hide htk
  have HG := hide hg
  clear hown hb1 hheap htk hrw hg
  generalize hn : cur.length = cap1 at *
  have HCN := hide hn
  clear hn
  go_wp2_with fail
  go_loopw [9] (fun iv wr => ∃ i : Nat, i ≤ 32 ∧ iv = .int .i64 i ∧ (∃ C : List Value, wr.heap[g]? = some (.cells C.toArray 5 (0, 0)) ∧ C.length = cap1 ∧ C.take (l.length + 4) = bv (turn P Y k i)) ∧ Below w.heap.size w wr) (fun iv _ => 32 - (intOf iv).toNat)
  case atStart => exact ⟨0, by omega, rfl, ⟨cur, HH.out, HCN.out, HK.out⟩, HB1.out⟩
  case round =>
    obtain ⟨i, hi, rfl, ⟨C, hC, hCl, hCt⟩, hb⟩ := hrel
    by_cases hlt : i < 32
    · have hlt' : (i : Int) < 32 := by omega
      have hm : (k + i) / 8 < l.length + 4 := by omega
      have htl := turn_len P Y k i
      have hx := byt_getD (turn_byt HPB.out Y k i) ((k + i) / 8)
      have hcell : wr.cell? ⟨g, (k + i) / 8, none⟩ = some (.int .u8 ((turn P Y k i).getD ((k + i) / 8) 0)) := by
        rw [cell_of_block hC]
        have h1 : (C.take (l.length + 4))[(k + i) / 8]? = (bv (turn P Y k i))[(k + i) / 8]? := by rw [hCt]
        rw [List.getElem?_take_of_lt hm] at h1
        rw [List.getElem?_toArray, h1, bv_eq, List.getElem?_map, List.getElem?_eq_getElem (by omega), List.getD_eq_getElem?_getD, List.getElem?_eq_getElem (by omega)]
        rfl
      have hfz : wr.frozen? ⟨g, (k + i) / 8, none⟩ = false := unfrozen_of_block hC _
      have hand : bits .and .u32 ((Y : Int) / 2 ^ i) 1 = ((Y / 2 ^ i % 2 : Nat) : Int) := by
        have e : ((Y : Int) / 2 ^ i) = ((Y / 2 ^ i : Nat) : Int) := by simp
        have hle : Y / 2 ^ i ≤ Y := Nat.div_le_self _ _
        rw [e]
        generalize Y / 2 ^ i = q at *
        rw [and_one32 (by omega) (by omega)]
        rfl
      by_cases hbit : Y / 2 ^ i % 2 = 1
      · have HE : Hid (turn P Y k (i + 1) = flipAt (turn P Y k i) (k + i)) := hide (by rw [turn, if_pos hbit])
        rw [hbit] at hand
        have HCC := hide hC
        have HCT := hide hCt
        have HBB := hide hb
        unfold flipAt at HE
        have hN : (k : Int) + (i : Int) = ((k + i : Nat) : Int) := by omega
        generalize k + i = N at *
        have hM : (N : Int) / 8 = ((N / 8 : Nat) : Int) := by omega
        have hR : (N : Int) % 8 = ((N % 8 : Nat) : Int) := by omega
        have hp := pow_8 N
        have hr8 : N % 8 < 8 := Nat.mod_lt _ (by decide)
        generalize N / 8 = m at *
        generalize N % 8 = r at *
        have hNb : (N : Int) < 100000 := by omega
        have hm' : (m : Int) < (l.length : Int) + 4 := by omega
        generalize (turn P Y k i).getD m 0 = x at *
        clear hC hCt hb hbit htl
        go_wp2_with fail
        go_region
        have hz : bits .xor .u8 x (2 ^ r % 256) = ((x.toNat ^^^ 2 ^ r : Nat) : Int) := by
          have e : (2 : Int) ^ r % 256 = ((2 ^ r : Nat) : Int) := by
            rw [show (2 : Int) ^ r = ((2 ^ r : Nat) : Int) by simp]
            generalize (2 ^ r : Nat) = q at hp ⊢
            omega
          rw [e]
          generalize (2 ^ r : Nat) = q at hp ⊢
          rw [u8_xor x _ (by omega) (by omega) (by omega) (by omega), Int.toNat_natCast]
        have hh := block_setCell (i := m) HCC.out (.int .u8 (bits .xor .u8 x (2 ^ r % 256)))
        have HH2 : Hid ((wr.setCell ⟨g, m, none⟩ (.int .u8 (bits .xor .u8 x (2 ^ r % 256)))).drew.heap[g]? = some (.cells (C.set m (.int .u8 (bits .xor .u8 x (2 ^ r % 256)))).toArray 5 (0, 0))) := hide (by
          rw [List.setIfInBounds_toArray] at hh
          exact hh)
        have HB2 := hide ((HBB.out.setCell (p := ⟨g, m, none⟩) HG.out (.int .u8 (bits .xor .u8 x (2 ^ r % 256)))).drew)
        have HZ := hide hz
        clear hh hz
        generalize (wr.setCell ⟨g, m, none⟩ (.int .u8 (bits .xor .u8 x (2 ^ r % 256)))).drew = w2 at *
        go_wp2_with fail
        refine ⟨⟨i + 1, by omega, by go_num, ⟨_, HH2.out, by rw [List.length_set]; exact hCl, ?_⟩, HB2.out⟩, by simp [intOf]; omega⟩
        rw [HE.out, HZ.out, List.take_set, HCT.out, bv_eq, bv_eq, List.map_set]
        rfl
      · have hbit0 : Y / 2 ^ i % 2 = 0 := by omega
        have HE : Hid (turn P Y k (i + 1) = turn P Y k i) := hide (by rw [turn, if_neg hbit])
        rw [hbit0] at hand
        have HCC := hide hC
        have HCT := hide hCt
        have HBB := hide hb
        clear hC hCt hb hbit htl hcell hfz hx
        go_wp2_with fail
        exact ⟨⟨i + 1, by omega, by go_num, ⟨C, HCC.out, hCl, by rw [HE.out]; exact HCT.out⟩, HBB.out⟩, by simp [intOf]; omega⟩
    · obtain rfl : i = 32 := by omega
      have hsl : Sl bc wr (.slice (some ⟨g, 0, none⟩) (l.length + 4) cap1) (turn P Y k 32) := by
        have htl := turn_len P Y k 32
        refine .inr ⟨g, 0, cap1, by rw [htl, hlen], by omega, fun j hj => ?_⟩
        rw [cell_of_block hC]
        have h1 : (C.take (l.length + 4))[j]? = (bv (turn P Y k 32))[j]? := by rw [hCt]
        rw [List.getElem?_take_of_lt (by omega)] at h1
        rw [List.getElem?_toArray, Nat.zero_add, h1, bv_eq, List.getElem?_map, List.getElem?_eq_getElem hj]
        rfl
      have HS := hide hsl
      have HBB := hide hb
      have htl := turn_len P Y k 32
      clear hsl hb hC hCt
      go_wp2_with fail
      refine (copen_none _ _ wr HS.out (by omega) (turn_byt HPB.out Y k 32) HT.out).mono ?_
      rintro e w2 ⟨rfl, hb2⟩
      have HB2 := hide (bt HBB.out hb2)
      clear hb2
      go_wp2_with fail
      refine (HW.out _).mono ?_
      rintro e w3 ⟨rfl, hb3⟩
      have HB3 := hide (bt HB2.out hb3)
      clear hb3
      go_wp2_with fail
      go_ret
      exact ⟨rfl, HB3.out⟩
set_option maxRecDepth 100000 in
set_option maxHeartbeats 4000000 in
theorem tells_any (v : Value) (l : List Int) (A Y : Int) (w : World) (hv : Sl bc w v l) (hby : Byt l) (hy : 0 ≤ Y ∧ Y ≤ 4294967295) : Calls Try.prog 6 #[v, .int .i64 A, .int .u32 Y] w fun e w' => e = .returned (.bool true) ∧ Below w.heap.size w w' := by
  by_cases h1 : (500 : Int) < (l.length : Int)
  · obtain ⟨ao, cap, rfl⟩ := hv.form
    have HW := hide works_any
    clear hv hby
    go_enter Try.func6, Try.ntmps6
    go_wp2_with fail
    refine (HW.out _).mono ?_
    rintro e w1 ⟨rfl, hb1⟩
    go_wp2_with fail
    go_ret
    exact ⟨rfl, hb1⟩
  · by_cases h2 : Y = 0
    · subst h2
      obtain ⟨ao, cap, rfl⟩ := hv.form
      have HW := hide works_any
      clear hv hby
      go_enter Try.func6, Try.ntmps6
      go_wp2_with fail
      refine (HW.out _).mono ?_
      rintro e w1 ⟨rfl, hb1⟩
      go_wp2_with fail
      go_ret
      exact ⟨rfl, hb1⟩
    · obtain ⟨y, rfl⟩ := Int.eq_ofNat_of_zero_le hy.1
      exact tells_few v l A y w hv hby h1 (by omega) (by omega)
end Go.Proofs.Ytiobmgfccggpkaa
