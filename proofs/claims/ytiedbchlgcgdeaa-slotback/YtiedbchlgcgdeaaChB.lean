/-
  A STAMP AS BYTES (chain.edgeOf), and a block of a record (chain.blockOf). Conditions: a stamp not below 0, at most 2^62; at most 16448 bytes.
-/
import Derived.Test.YtiedbchlgcgdeaaChP
namespace Go.Proofs.Ytiedbchlgcgdeaa
open Go.RowKit

theorem dig_cons : ∀ (k : Nat) (x : Int), 0 ≤ x → dig (k + 1) x = (x / 256 ^ k % 256) :: dig k x
  | 0, x, _ => by simp [dig]
  | k + 1, x, h => by
    have ih := dig_cons k (x / 256) (by omega)
    rw [dig, ih]
    rw [Int.ediv_ediv_of_nonneg (by decide), show (256 : Int) * 256 ^ k = 256 ^ (k + 1) by rw [Int.pow_succ, Int.mul_comm]]
    simp [dig]
theorem Rq.set1 {W : World} {g : Nat} {t : TypeId} {b : List Int} (h : Rq W g t b) (i : Nat) (x : Int) : Rq (W.setCell ⟨g, i, none⟩ (.int .u8 x)) g t (b.set i x) := by
  have h' := h
  unfold Rq at h' ⊢
  rw [setCell_eq_setRow W g i _ t (0, 0) _ h', setRow_heap W g _ _ t (0, 0) h']
  congr 2
  simp [bv, List.map_set]
theorem Rq.at {W : World} {g : Nat} {t : TypeId} {b : List Int} (h : Rq W g t b) {i : Nat} (hi : i < b.length) : W.cell? ⟨g, i, none⟩ = some (.int .u8 b[i]) := by
  have h' := h
  unfold Rq at h'
  simp [World.cell?, h', bv, hi]
theorem Rq.fz {W : World} {g : Nat} {t : TypeId} {b : List Int} (h : Rq W g t b) (i : Nat) : W.frozen? ⟨g, i, none⟩ = false := by
  have h' := h
  unfold Rq at h'
  simp only [World.frozen?, h']
  simp
/-- The last k bytes of a stamp lie in their places. -/
def low8 (k : Nat) (x : Int) : List Int := List.replicate (8 - k) 0 ++ dig k x
theorem low8_len {k : Nat} (h : k ≤ 8) (x : Int) : (low8 k x).length = 8 := by
  unfold low8; rw [List.length_append, List.length_replicate, dig_len]; omega
theorem low8_step {k : Nat} (h : k < 8) {x : Int} (hx : 0 ≤ x) : (low8 k x).set (7 - k) (x / 256 ^ k % 256) = low8 (k + 1) x := by
  unfold low8
  rw [dig_cons k x hx, show 8 - k = (7 - k) + 1 by omega, List.replicate_succ', List.append_assoc, List.set_append_right _ _ (by simp), List.length_replicate, Nat.sub_self, show 8 - (k + 1) = 7 - k by omega]
  rfl
theorem shr8 (x : Int) (k : Nat) : x / 2 ^ (8 * (k : Int)).toNat = x / 256 ^ k := by
  rw [show (8 * (k : Int)).toNat = 8 * k by omega, Int.pow_mul]
  rfl
theorem blk_r1 {e : List Int} (he : e.length = 8) : zer.take 0 ++ (e.take 64 ++ zer.drop (0 + Nat.min e.length 64)) = e ++ List.replicate 56 0 := by
  rw [he, List.take_zero, List.nil_append, List.take_of_length_le (show e.length ≤ 64 by omega)]
  rfl
theorem blk_r2 {e : List Int} (he : e.length = 8) (x y : Int) : ((e ++ List.replicate 56 0).set 8 x).set 9 y = e ++ ([x, y] ++ List.replicate 54 0) := by
  rw [List.set_append_right _ _ (by omega), List.set_append_right _ _ (by omega), he]
  rfl
theorem blk_r3 {e : List Int} (he : e.length = 8) (x y : Int) (r : List Int) : (e ++ ([x, y] ++ List.replicate 54 0)).take 10 ++ (r.take 46 ++ (e ++ ([x, y] ++ List.replicate 54 0)).drop (10 + Nat.min r.length 46)) = e ++ ([x, y] ++ (r.take 46 ++ List.replicate (54 - Nat.min r.length 46) 0)) := by
  have e1 : (e ++ ([x, y] ++ List.replicate 54 0)).take 10 = e ++ [x, y] := by
    rw [← List.append_assoc, List.take_append_of_le_length (by simp [he]), List.take_of_length_le (by simp [he])]
  have e2 : (e ++ ([x, y] ++ List.replicate 54 0)).drop (10 + Nat.min r.length 46) = List.replicate (54 - Nat.min r.length 46) 0 := by
    rw [← List.append_assoc, List.drop_append, List.drop_of_length_le (by simp [he]), List.nil_append, List.drop_replicate]
    congr 1
    simp [he]
  rw [e1, e2, List.append_assoc]
theorem blk_r4 {e : List Int} (he : e.length = 8) (x y : Int) (r : List Int) : (e ++ ([x, y] ++ (r.take 46 ++ List.replicate (54 - Nat.min r.length 46) 0))).take 56 ++ (e.take 8 ++ (e ++ ([x, y] ++ (r.take 46 ++ List.replicate (54 - Nat.min r.length 46) 0))).drop (56 + Nat.min e.length 8)) = e ++ ([x, y] ++ ((r.take 46 ++ List.replicate (46 - r.length) 0) ++ e)) := by
  have hm : (r.take 46).length = Nat.min r.length 46 := by rw [List.length_take, Nat.min_comm]
  have hmm : Nat.min r.length 46 ≤ 46 := Nat.min_le_right _ _
  have e1 : (e ++ ([x, y] ++ (r.take 46 ++ List.replicate (54 - Nat.min r.length 46) 0))).take 56 = e ++ ([x, y] ++ (r.take 46 ++ List.replicate (46 - r.length) 0)) := by
    rw [List.take_append, List.take_of_length_le (by omega), he, List.take_append, List.take_of_length_le (by simp), List.take_append, List.take_of_length_le (by simp [hm]; omega), List.take_replicate, hm]
    congr 4
    have h : Nat.min r.length 46 = min r.length 46 := rfl
    rw [h] at *
    simp only [List.length_cons, List.length_nil]
    omega
  have e2 : (e ++ ([x, y] ++ (r.take 46 ++ List.replicate (54 - Nat.min r.length 46) 0))).drop (56 + Nat.min e.length 8) = [] := by
    rw [he]
    apply List.drop_of_length_le
    simp only [List.length_append, List.length_cons, List.length_nil, List.length_replicate, hm, he]
    have : Nat.min 8 8 = 8 := rfl
    omega
  rw [e1, e2, show e.take 8 = e from List.take_of_length_le (by omega), List.append_nil, List.append_assoc, List.append_assoc]
theorem make64c (W : World) : (Instr.makeSlice 23 (.int .i64 64) (.int .i64 64)).run Try.prog W = .ok (.slice (some ⟨W.heap.size, 0, none⟩) 64 64) (W.alloc (.cells (bv zer).toArray 5)) := by kernel_rfl
end Go.Proofs.Ytiedbchlgcgdeaa
