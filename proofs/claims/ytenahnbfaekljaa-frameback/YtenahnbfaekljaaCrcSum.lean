/-
  THE SUM OF BYTES BEHIND A SUM, BY HALF BYTES OF A TABLE (crc.More): the remainder from that sum on, a fold over the bytes. Conditions: the bytes' cells hold them, no more than a hundred thousand.
-/
import Derived.Test.YtenahnbfaekljaaCrcB
namespace Go.Proofs.Ytenahnbfaekljaa
open Go.RowKit

theorem and_15 (r : Nat) (h : r < 4294967296) : bits .and .u32 (r : Int) 15 = ((r % 16 : Nat) : Int) := by
  rw [u32_and (r : Int) 15 (by omega) (by omega) (by omega) (by omega)]
  show ((r &&& 15 : Nat) : Int) = _
  rw [show (15 : Nat) = 2 ^ 4 - 1 by rfl, Nat.and_two_pow_sub_one_eq_mod]
theorem not_32 (s : Nat) (h : s < 4294967296) : bits .xor .u32 IntKind.u32.max (s : Int) = ((s ^^^ 4294967295 : Nat) : Int) := by
  rw [u32_xor IntKind.u32.max (s : Int) (by decide) (by decide) (by omega) (by omega)]
  show ((4294967295 ^^^ s : Nat) : Int) = _
  rw [Nat.xor_comm]
/-- The table of half bytes lies in the block B. -/
def Tab (B : Nat) (w : World) : Prop := ∀ k, k < 16 → w.cell? ⟨B, k, none⟩ = some (.int .u32 ((cF 4 k : Nat) : Int))
theorem tab_new (w : World) : Tab w.heap.size (w.alloc (.cells #[.int .u32 0, .int .u32 274646895, .int .u32 549293790, .int .u32 820201905, .int .u32 1098587580, .int .u32 1361435347, .int .u32 1640403810, .int .u32 1905808397, .int .u32 2197175160, .int .u32 2460548119, .int .u32 2722870694, .int .u32 2987750089, .int .u32 3280807620, .int .u32 3553878443, .int .u32 3811616794, .int .u32 4084100981] 89)) := by
  intro k hk
  rw [World.cell?_alloc_at _ _ _ _ rfl]
  have e : #[Value.int .u32 0, .int .u32 274646895, .int .u32 549293790, .int .u32 820201905, .int .u32 1098587580, .int .u32 1361435347, .int .u32 1640403810, .int .u32 1905808397, .int .u32 2197175160, .int .u32 2460548119, .int .u32 2722870694, .int .u32 2987750089, .int .u32 3280807620, .int .u32 3553878443, .int .u32 3811616794, .int .u32 4084100981] = ((List.range 16).map fun k => Value.int .u32 ((cF 4 k : Nat) : Int)).toArray := by kernel_rfl
  rw [e]
  simp [hk]
set_option maxRecDepth 100000 in
set_option maxHeartbeats 4000000 in
theorem more_some (b o cap : Nat) (S : Nat) (l : List Int) (w : World) (hS : S < 4294967296) (hl : l.length ≤ 100000) (hby : Byt l) (h3 : ∀ i (h : i < l.length), w.cell? ⟨b, o + i, none⟩ = some (bc l[i])) :
    Calls Try.prog 38 #[.int .u32 S, .slice (some ⟨b, o, none⟩) l.length cap] w fun e w' => e = .returned (.int .u32 ((crF (S ^^^ 4294967295) l ^^^ 4294967295 : Nat) : Int)) ∧ Below w.heap.size w w' := by
  have H3 := hide h3
  have HB := hide hby
  clear h3 hby
  have hn := not_32 S hS
  have hsg : IntKind.u32.signed = false := rfl
  have hS1 : S ^^^ 4294967295 < 4294967296 := Nat.xor_lt_two_pow (n := 32) hS (by decide)
  have HC : Hid (∀ j, crF (S ^^^ 4294967295) (l.take j) < 4294967296) := hide fun j => crF_lt hS1 (fun x hx => HB.out x (List.mem_of_mem_take hx))
  generalize S ^^^ 4294967295 = s at *
  have HT := hide (tab_new w)
  go_enter Try.func38, Try.ntmps38
  go_wp2_with fail
  go_loopw [6, 14] (fun r i wr => ∃ j : Nat, j ≤ l.length ∧ i = .int .i64 j ∧ r = .int .u32 ((crF s (l.take j) : Nat) : Int) ∧ Tab w.heap.size wr ∧ Below w.heap.size w wr) (fun _ i _ => l.length - (intOf i).toNat)
  case atStart => exact ⟨0, Nat.zero_le _, rfl, rfl, HT.out, (Below.refl _ _).alloc (Nat.le_refl _) _⟩
  case round =>
    obtain ⟨j, hj, rfl, rfl, ht, hb⟩ := hrel
    by_cases hlt : j < l.length
    · have hc : wr.cell? ⟨b, o + j, none⟩ = some (.int .u8 l[j]) := by rw [hb.cell (p := ⟨b, o + j, none⟩) (cell_block (H3.out j hlt))]; exact H3.out j hlt
      have hx := HB.out _ (List.getElem_mem hlt)
      have h0 := HC.out j
      have HN : Hid (crF s (l.take (j + 1)) = cY (crF s (l.take j)) l[j].toNat) := hide (by
        rw [List.take_succ_eq_append_getElem hlt, crF_app]; rfl)
      generalize l[j] = x at *
      generalize hr : crF s (l.take j) = r at *
      have h1 : r ^^^ x.toNat < 4294967296 := Nat.xor_lt_two_pow (n := 32) h0 (by omega)
      have hx1 : bits .xor .u32 (r : Int) x = ((r ^^^ x.toNat : Nat) : Int) := by
        rw [u32_xor _ _ (by omega) (by omega) (by omega) (by omega)]; simp
      have HY := hide (cY_half r x.toNat)
      generalize r ^^^ x.toNat = r1 at *
      have hm1 := and_15 r1 h1
      have c1 := ht (r1 % 16) (Nat.mod_lt _ (by decide))
      have t1 : cF 4 (r1 % 16) < 4294967296 := cF_lt 4 (by omega)
      have h2 : cF 4 (r1 % 16) ^^^ r1 / 16 < 4294967296 := Nat.xor_lt_two_pow (n := 32) t1 (by omega)
      have hx2 : bits .xor .u32 ((r1 : Int) / 16) ((cF 4 (r1 % 16) : Nat) : Int) = ((cF 4 (r1 % 16) ^^^ r1 / 16 : Nat) : Int) := by
        rw [u32_xor _ _ (by omega) (by omega) (by omega) (by omega), Nat.xor_comm]
        rfl
      have b1 : r1 % 16 < 16 := Nat.mod_lt _ (by decide)
      generalize cF 4 (r1 % 16) ^^^ r1 / 16 = r2 at *
      generalize cF 4 (r1 % 16) = T1 at *
      generalize r1 % 16 = m1 at *
      have hm2 := and_15 r2 h2
      have c2 := ht (r2 % 16) (Nat.mod_lt _ (by decide))
      have t2 : cF 4 (r2 % 16) < 4294967296 := cF_lt 4 (by omega)
      have h3 : cF 4 (r2 % 16) ^^^ r2 / 16 < 4294967296 := Nat.xor_lt_two_pow (n := 32) t2 (by omega)
      have hx3 : bits .xor .u32 ((r2 : Int) / 16) ((cF 4 (r2 % 16) : Nat) : Int) = ((cF 4 (r2 % 16) ^^^ r2 / 16 : Nat) : Int) := by
        rw [u32_xor _ _ (by omega) (by omega) (by omega) (by omega), Nat.xor_comm]
        rfl
      have b2 : r2 % 16 < 16 := Nat.mod_lt _ (by decide)
      generalize cF 4 (r2 % 16) ^^^ r2 / 16 = r3 at *
      generalize cF 4 (r2 % 16) = T2 at *
      generalize r2 % 16 = m2 at *
      have HTT := hide ht
      have HBB := hide hb
      clear hr ht hb
      go_wp2_with fail
      exact ⟨⟨j + 1, by omega, by go_num, by rw [HN.out, HY.out], HTT.out, HBB.out⟩, by simp [intOf]; omega⟩
    · obtain rfl : j = l.length := by omega
      have hn2 := not_32 _ (HC.out l.length)
      rw [List.take_length] at *
      obtain ⟨R, hR⟩ : ∃ R, R = crF s l := ⟨_, rfl⟩
      rw [← hR] at hn2
      rw [← hR]
      have HR := hide hR
      clear hR
      go_wp2_with fail
      go_ret
      exact ⟨by rw [← HR.out]; rfl, hb⟩
end Go.Proofs.Ytenahnbfaekljaa
