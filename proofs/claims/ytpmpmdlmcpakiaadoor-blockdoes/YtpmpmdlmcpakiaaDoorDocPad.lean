/-
  THE DOCUMENT's SMALL STEPS (castellanref08.right, pad): whether there may be such a block; a block with noughts behind. Condition: not more than a hundred thousand bytes.
-/
import Derived.Test.YtpmpmdlmcpakiaaDoorBlkL
namespace Go.Proofs.YtpmpmdlmcpakiaaDoor
open Go.RowKit

def iw : Value → Int
  | .int _ q => q
  | _ => 0
set_option maxRecDepth 100000 in
theorem right_ok (a : Int) (w : World) (h : Num a) : Calls Tryd.prog 41 #[.int .i64 a] w fun e w' => e = .returned (.bool true) ∧ w' = w := by
  obtain ⟨h1, h2⟩ := h
  go_enter Tryd.func41, Tryd.ntmps41
  go_wp2
  go_ret
  exact ⟨by simp, rfl⟩
set_option maxRecDepth 100000 in
theorem right_bad (a : Int) (w : World) (h : ¬ Num a) : Calls Tryd.prog 41 #[.int .i64 a] w fun e w' => e = .returned (.bool false) ∧ w' = w := by
  unfold Num at h
  go_enter Tryd.func41, Tryd.ntmps41
  go_wp2
  all_goals
    go_ret
    refine ⟨?_, rfl⟩
    first | (simp; done) | (simp; omega)
theorem make64 (W : World) : (Instr.makeSlice 38 (.int .i64 64) (.int .i64 64)).run Tryd.prog W = .ok (.slice (some ⟨W.heap.size, 0, none⟩) 64 64) (W.alloc (.cells (bv zer).toArray 5)) := by kernel_rfl
theorem arr_set {W : World} {g : Nat} {b : List Int} {t : TypeId} (h : W.heap[g]? = some (.cells (bv b).toArray t (0, 0))) (i : Nat) (x : Int) : (W.setCell ⟨g, i, none⟩ (.int .u8 x)).heap[g]? = some (.cells (bv (b.set i x)).toArray t (0, 0)) := by
  rw [setCell_eq_setRow W g i _ t (0, 0) _ h, setRow_heap W g _ _ t (0, 0) h]
  congr 2
  simp [bv, List.map_set]
theorem arr_new0 (W : World) (b : List Int) (t : TypeId) : (W.alloc (.cells (bv b).toArray t)).heap[W.heap.size]? = some (.cells (bv b).toArray t (0, 0)) := Array.getElem?_push_size
theorem arr_at0 {W : World} {g : Nat} {b : List Int} {t : TypeId} (h : W.heap[g]? = some (.cells (bv b).toArray t (0, 0))) {i : Nat} {x : Int} (hx : b[i]? = some x) : W.cell? ⟨g, i, none⟩ = some (.int .u8 x) := by
  simp [World.cell?, h, bv, hx]
theorem mix_set {b : List Int} {k : Nat} (h : k < b.length) (h2 : k < 64) : (b.take k ++ zer.drop k).set k b[k] = b.take (k + 1) ++ zer.drop (k + 1) := by
  rw [List.set_append_right _ _ (by rw [List.length_take]; omega), List.length_take, Nat.min_eq_left (by omega), Nat.sub_self, List.take_succ_eq_append_getElem h, List.append_assoc]
  congr 1
  rw [show zer.drop k = zer[k]'(by rw [zer_len]; exact h2) :: zer.drop (k + 1) from List.drop_eq_getElem_cons (by rw [zer_len]; exact h2)]
  rfl
theorem mix_len {b : List Int} {k : Nat} (h : k ≤ b.length) (h2 : k ≤ 64) : (b.take k ++ zer.drop k).length = 64 := by
  rw [List.length_append, List.length_take, List.length_drop, zer_len]; omega
set_option maxRecDepth 100000 in
set_option maxHeartbeats 4000000 in
theorem pad_any (v : Value) (b : List Int) (w : World) (hv : Sl bc w v b) (hl : b.length ≤ 100000) : Calls Tryd.prog 44 #[v] w fun e w' => e = .returned (.slice (some ⟨w.heap.size, 0, none⟩) 64 64) ∧ w'.heap[w.heap.size]? = some (.cells (bv ((b.take 64) ++ zer.drop b.length)).toArray 5 (0, 0)) ∧ Below w.heap.size w w' := by
  obtain ⟨ao, cap, rfl⟩ := hv.form
  have hmk := make64
  have HV := hide hv
  clear hv
  go_enter Tryd.func44, Tryd.ntmps44
  go_wp2
  clear hmk
  go_loopw [4] (fun i W => ∃ k : Nat, k ≤ b.length ∧ k ≤ 64 ∧ i = .int .i64 k ∧ W.heap[w.heap.size]? = some (.cells (bv (b.take k ++ zer.drop k)).toArray 5 (0, 0)) ∧ Below w.heap.size w W) (fun i _ => 64 - (iw i).toNat)
  case atStart => exact ⟨0, Nat.zero_le _, Nat.zero_le _, rfl, by simpa using arr_new0 w zer 5, (Below.refl _ _).alloc (Nat.le_refl _) _⟩
  case round =>
    obtain ⟨k, hk, hk2, rfl, hg, hb⟩ := hrel
    by_cases hlt : k < b.length
    · by_cases hlt2 : k < 64
      · rcases HV.out with ⟨_, _, e, _⟩ | ⟨gb, go, cap', e, h2, h3⟩
        · rw [e] at hlt; simp at hlt
        cases e
        have hc : wr.cell? ⟨gb, go + k, none⟩ = some (.int .u8 b[k]) := (hb.cell (p := ⟨gb, go + k, none⟩) (cell_block (h3 k hlt))).trans (h3 k hlt)
        have HS := hide (arr_set hg k b[k])
        rw [mix_set hlt hlt2] at HS
        have hm := mix_len hk hk2
        have hc2 : wr.cell? ⟨w.heap.size, k, none⟩ = some (.int .u8 ((b.take k ++ zer.drop k)[k]'(by rw [hm]; exact hlt2))) := arr_at0 hg (List.getElem?_eq_getElem _)
        have hf2 : wr.frozen? ⟨w.heap.size, k, none⟩ = false := by simp only [World.frozen?, hg]; simp
        have HB := hide hb
        generalize b[k] = x at hc HS
        generalize (b.take k ++ zer.drop k)[k]'(by rw [hm]; exact hlt2) = y at hc2
        clear hg hb hm h2 h3
        go_wp2
        exact ⟨⟨k + 1, by omega, by omega, by go_num, HS.out, HB.out.setCell (by exact Nat.le_refl _) _⟩, by simp [iw]; omega⟩
      · have HG := hide hg
        have HB := hide hb
        clear hg hb
        obtain rfl : k = 64 := by omega
        go_wp2
        go_ret
        exact ⟨rfl, by have := HG.out; rwa [show zer.drop 64 = zer.drop b.length from by rw [List.drop_eq_nil_of_le (by rw [zer_len]; omega), List.drop_eq_nil_of_le (by rw [zer_len]; omega)]] at this, HB.out⟩
    · have HG := hide hg
      have HB := hide hb
      clear hg hb
      obtain rfl : k = b.length := by omega
      go_wp2
      all_goals
        go_ret
        exact ⟨rfl, by rw [List.take_of_length_le hk2]; have := HG.out; rwa [List.take_length] at this, HB.out⟩
end Go.Proofs.YtpmpmdlmcpakiaaDoor
