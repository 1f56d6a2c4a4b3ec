/-
  A STAMP AS BYTES (chain.edgeOf), and a block of a record (chain.blockOf). Conditions: a stamp not below 0, at most 2^62; at most 16448 bytes.
  A CHAIN IN ITS MEMORY; what a block says (chain.piece); the record that stands at a block (chain.record). Condition: fewer than thirty thousand blocks and writes.
-/
import Derived.Test.YtoamghncncalgaaGreatDoorJChVa2
import Derived.ArgAppend
import Derived.OwnWalk
namespace Go.Proofs.YtoamghncncalgaaGreatDoor
open Go.RowKit

theorem dig_cons : ∀ (k : Nat) (x : Int), 0 ≤ x → dig (k + 1) x = (x / 256 ^ k % 256) :: dig k x
  | 0, x, _ => by simp [dig]
  | k + 1, x, h => by
    have ih := dig_cons k (x / 256) (by omega)
    rw [dig, ih]
    rw [Int.ediv_ediv_of_nonneg (by decide), show (256 : Int) * 256 ^ k = 256 ^ (k + 1) by rw [Int.pow_succ, Int.mul_comm]]
    simp [dig]
theorem Rq.set1 {W : World} {g : Nat} {t : TypeId} {b : List Int} (h : Rq W g t b) (i : Nat) (x : Int) : Rq (W.setCell ⟨g, i, none⟩ (.int .u8 x)) g t (b.set i x) := by
  have h' := h
  unfold Rq at h' ⊢
  rw [setCell_eq_setRow W g i _ t (0, 0) _ h', setRow_heap W g _ _ t (0, 0) h']
  congr 2
  simp [bv, List.map_set]
theorem Rq.at {W : World} {g : Nat} {t : TypeId} {b : List Int} (h : Rq W g t b) {i : Nat} (hi : i < b.length) : W.cell? ⟨g, i, none⟩ = some (.int .u8 b[i]) := by
  have h' := h
  unfold Rq at h'
  simp [World.cell?, h', bv, hi]
theorem Rq.fz {W : World} {g : Nat} {t : TypeId} {b : List Int} (h : Rq W g t b) (i : Nat) : W.frozen? ⟨g, i, none⟩ = false := by
  have h' := h
  unfold Rq at h'
  simp only [World.frozen?, h']
  simp
/-- The last k bytes of a stamp lie in their places. -/
def low8 (k : Nat) (x : Int) : List Int := List.replicate (8 - k) 0 ++ dig k x
theorem low8_len {k : Nat} (h : k ≤ 8) (x : Int) : (low8 k x).length = 8 := by
  unfold low8; rw [List.length_append, List.length_replicate, dig_len]; omega
theorem low8_step {k : Nat} (h : k < 8) {x : Int} (hx : 0 ≤ x) : (low8 k x).set (7 - k) (x / 256 ^ k % 256) = low8 (k + 1) x := by
  unfold low8
  rw [dig_cons k x hx, show 8 - k = (7 - k) + 1 by omega, List.replicate_succ', List.append_assoc, List.set_append_right _ _ (by simp), List.length_replicate, Nat.sub_self, show 8 - (k + 1) = 7 - k by omega]
  rfl
theorem shr8 (x : Int) (k : Nat) : x / 2 ^ (8 * (k : Int)).toNat = x / 256 ^ k := by
  rw [show (8 * (k : Int)).toNat = 8 * k by omega, Int.pow_mul]
  rfl
set_option maxRecDepth 100000 in
set_option maxHeartbeats 8000000 in
theorem edgeOf_any (x : Int) (w : World) (h0 : 0 ≤ x) : Calls Tryz.prog 83 #[.int .i64 x] w fun e w' => e = .returned (.agg (bv (dig 8 x)).toArray) ∧ Below w.heap.size w w' := by
  have hs1 : (w.alloc (.cells (bv zr8).toArray 125)).heap.size = w.heap.size + 1 := by simp
  have HR0 : Hid (Rq ((w.alloc (.cells (bv zr8).toArray 125)).alloc (.cells (bv zr8).toArray 125)) w.heap.size 125 zr8) := hide ((Rq.new w 125 zr8).below ((Below.refl _ _).alloc (Nat.le_refl _) _))
  have HR1 : Hid (Rq ((w.alloc (.cells (bv zr8).toArray 125)).alloc (.cells (bv zr8).toArray 125)) (w.heap.size + 1) 125 zr8) := hide (by have := Rq.new (w.alloc (.cells (bv zr8).toArray 125)) 125 zr8; rwa [hs1] at this)
  have HBL : Hid (Below w.heap.size w ((w.alloc (.cells (bv zr8).toArray 125)).alloc (.cells (bv zr8).toArray 125))) := hide (((Below.refl _ _).alloc (Nat.le_refl _) _).alloc (by simp) _)
  go_enter Tryz.func83, Tryz.ntmps83
  go_wp2_with (first | (refine wpList_allocE _ rfl rfl ?_))
  clear hs1
  generalize ((w.alloc (.cells (bv zr8).toArray 125)).alloc (.cells (bv zr8).toArray 125)) = W2 at HR0 HR1 HBL ⊢
  go_loopw [5] (fun i W => ∃ k : Nat, k ≤ 8 ∧ i = .int .i64 k ∧ Rq W w.heap.size 125 zr8 ∧ Rq W (w.heap.size + 1) 125 (low8 k x) ∧ Below w.heap.size w W) (fun i _ => 8 - (iv i).toNat)
  case atStart => exact ⟨0, by omega, rfl, HR0.out, HR1.out, HBL.out⟩
  case round =>
    obtain ⟨k, hk, rfl, hr0, hr1, hb⟩ := hrel
    have HR0 := hide hr0
    have HR1 := hide hr1
    have HB := hide hb
    clear hr0 hr1 hb
    by_cases hlt : k < 8
    · have hln := low8_len (x := x) hk
      have c0 := HR1.out.at (i := 7 - k) (by rw [hln]; omega)
      have f0 := HR1.out.fz (7 - k)
      have HS := hide (HR1.out.set1 (7 - k) (x / 256 ^ k % 256))
      rw [low8_step hlt h0] at HS
      have HSO : Hid (Rq (wr.setCell ⟨w.heap.size + 1, 7 - k, none⟩ (.int .u8 (x / 256 ^ k % 256))) w.heap.size 125 zr8) := hide (HR0.out.keep (Below.heap_setCell _ _ _ _ (by simp)))
      have hsh := shr8 x k
      have h7 : (7 - (k : Int)).toNat = 7 - k := by omega
      have hi7 : 0 ≤ 7 - (k : Int) := by omega
      generalize (low8 k x)[7 - k]'(by rw [hln]; omega) = y at c0
      clear hln
      go_wp2
      exact ⟨⟨k + 1, by omega, by go_num, HSO.out, HS.out, HB.out.setCell (by simp) _⟩, by simp [iv]; omega⟩
    · obtain rfl : k = 8 := by omega
      have H8 : Hid ((dig 8 x).length = 8) := hide (dig_len 8 x)
      have HR1' : Hid (Rq wr (w.heap.size + 1) 125 (dig 8 x)) := hide HR1.out
      clear HR1
      go_wp2_with (first | (refine wpList_loadE _ rfl _ rfl (w.heap.size + 1) _ _ rfl HR1'.out H8.out ?_) | (refine wpList_storeE _ rfl _ _ rfl w.heap.size _ _ _ rfl rfl HR0.out rfl H8.out ?_))
      exact bodyPost_ret (v := .agg (bv (dig 8 x)).toArray) (results_cell_row Tryz.results83 _ _ w.heap.size _ (bv (dig 8 x)).toArray (0, 0) _ rfl (HR0.out.set _) Tryz.underlying125 rfl (by rw [infoE]; simp only [List.size_toArray, bv_len, H8.out])) rfl ⟨rfl, setRow_below HB.out (Nat.le_refl _) _⟩
theorem blk_r1 {e : List Int} (he : e.length = 8) : zer.take 0 ++ (e.take 64 ++ zer.drop (0 + Nat.min e.length 64)) = e ++ List.replicate 56 0 := by
  rw [he, List.take_zero, List.nil_append, List.take_of_length_le (show e.length ≤ 64 by omega)]
  rfl
theorem blk_r2 {e : List Int} (he : e.length = 8) (x y : Int) : ((e ++ List.replicate 56 0).set 8 x).set 9 y = e ++ ([x, y] ++ List.replicate 54 0) := by
  rw [List.set_append_right _ _ (by omega), List.set_append_right _ _ (by omega), he]
  rfl
theorem blk_r3 {e : List Int} (he : e.length = 8) (x y : Int) (r : List Int) : (e ++ ([x, y] ++ List.replicate 54 0)).take 10 ++ (r.take 46 ++ (e ++ ([x, y] ++ List.replicate 54 0)).drop (10 + Nat.min r.length 46)) = e ++ ([x, y] ++ (r.take 46 ++ List.replicate (54 - Nat.min r.length 46) 0)) := by
  have e1 : (e ++ ([x, y] ++ List.replicate 54 0)).take 10 = e ++ [x, y] := by
    rw [← List.append_assoc, List.take_append_of_le_length (by simp [he]), List.take_of_length_le (by simp [he])]
  have e2 : (e ++ ([x, y] ++ List.replicate 54 0)).drop (10 + Nat.min r.length 46) = List.replicate (54 - Nat.min r.length 46) 0 := by
    rw [← List.append_assoc, List.drop_append, List.drop_of_length_le (by simp [he]), List.nil_append, List.drop_replicate]
    congr 1
    simp [he]
  rw [e1, e2, List.append_assoc]
theorem blk_r4 {e : List Int} (he : e.length = 8) (x y : Int) (r : List Int) : (e ++ ([x, y] ++ (r.take 46 ++ List.replicate (54 - Nat.min r.length 46) 0))).take 56 ++ (e.take 8 ++ (e ++ ([x, y] ++ (r.take 46 ++ List.replicate (54 - Nat.min r.length 46) 0))).drop (56 + Nat.min e.length 8)) = e ++ ([x, y] ++ ((r.take 46 ++ List.replicate (46 - r.length) 0) ++ e)) := by
  have hm : (r.take 46).length = Nat.min r.length 46 := by rw [List.length_take, Nat.min_comm]
  have hmm : Nat.min r.length 46 ≤ 46 := Nat.min_le_right _ _
  have e1 : (e ++ ([x, y] ++ (r.take 46 ++ List.replicate (54 - Nat.min r.length 46) 0))).take 56 = e ++ ([x, y] ++ (r.take 46 ++ List.replicate (46 - r.length) 0)) := by
    rw [List.take_append, List.take_of_length_le (by omega), he, List.take_append, List.take_of_length_le (by simp), List.take_append, List.take_of_length_le (by simp [hm]; omega), List.take_replicate, hm]
    congr 4
    have h : Nat.min r.length 46 = min r.length 46 := rfl
    rw [h] at *
    simp only [List.length_cons, List.length_nil]
    omega
  have e2 : (e ++ ([x, y] ++ (r.take 46 ++ List.replicate (54 - Nat.min r.length 46) 0))).drop (56 + Nat.min e.length 8) = [] := by
    rw [he]
    apply List.drop_of_length_le
    simp only [List.length_append, List.length_cons, List.length_nil, List.length_replicate, hm, he]
    have : Nat.min 8 8 = 8 := rfl
    omega
  rw [e1, e2, show e.take 8 = e from List.take_of_length_le (by omega), List.append_nil, List.append_assoc, List.append_assoc]
theorem make64c (W : World) : (Instr.makeSlice 43 (.int .i64 64) (.int .i64 64)).run Tryz.prog W = .ok (.slice (some ⟨W.heap.size, 0, none⟩) 64 64) (W.alloc (.cells (bv zer).toArray 5)) := by kernel_rfl
set_option maxRecDepth 100000 in
set_option maxHeartbeats 8000000 in
theorem blockOf_false (st : Int) (v : Value) (r : List Int) (w : World) (h0 : 0 ≤ st) (hv : Sl bc w v r) (hl : r.length ≤ 16448) : Calls Tryz.prog 71 #[.int .i64 st, .bool false, v] w fun e w' => ∃ g, e = .returned (.slice (some ⟨g, 0, none⟩) 64 64) ∧ Rq w' g 5 (blkOf st false r) ∧ w.heap.size ≤ g ∧ Below w.heap.size w w' := by
  obtain ⟨ao, cap, rfl⟩ := hv.form
  have HV := hide hv
  have hmk := make64c
  have H8 : Hid ((dig 8 st).length = 8) := hide (dig_len 8 st)
  clear hv
  go_enter Tryz.func71, Tryz.ntmps71
  go_upto_region 2 with (first | (go_at_call 83; refine (edgeOf_any st _ h0).mono ?_; rintro e W1 ⟨rfl, hb1⟩; have HB1 := hide hb1; clear hb1) | (refine wpList_allocE _ rfl rfl ?_) | (refine wpList_storeE _ rfl _ _ rfl W1.heap.size _ _ _ rfl rfl (Rq.new _ _ _) rfl H8.out ?_))
  have HE2 := hide ((Rq.new W1 125 zr8).set (dig 8 st))
  have HB2 := hide (setRow_below (HB1.out.alloc (by have := HB1.out.size; omega) (.cells (bv zr8).toArray 125)) (g := W1.heap.size) HB1.out.size (bv (dig 8 st)).toArray)
  have HGE : Hid (w.heap.size ≤ W1.heap.size) := hide HB1.out.size
  generalize (W1.alloc (.cells (bv zr8).toArray 125)).setRow W1.heap.size (bv (dig 8 st)).toArray = W2 at HE2 HB2 ⊢
  generalize W1.heap.size = ge at HE2 HGE ⊢
  clear HB1
  go_upto_region 5 with fail
  clear hmk
  have HE3 := hide (HE2.out.below ((Below.refl _ _).alloc (Nat.le_refl _) (.cells (bv zer).toArray 5)))
  have HZ3 := hide (Rq.new W2 5 zer)
  have HB3 := hide (HB2.out.alloc (by have := HB2.out.size; omega) (.cells (bv zer).toArray 5))
  have HG3 : Hid (ge < W2.heap.size ∧ w.heap.size ≤ W2.heap.size) := hide ⟨HE2.out.lt, HB2.out.size⟩
  generalize W2.alloc (.cells (bv zer).toArray 5) = W3 at HE3 HZ3 HB3 ⊢
  generalize W2.heap.size = g at HZ3 HG3 ⊢
  clear HE2 HB2
  have HR1 := hide (blk_r1 H8.out)
  go_upto_region 6 with (first | (refine wpList_copyR _ rfl _ _ rfl g 0 64 64 5 zer (dig 8 st) _ rfl rfl HZ3.out (HE3.out.all H8.out.symm) (by decide) ?_; rw [HR1.out]))
  have HE4 := hide (HE3.out.setO (k := g) (by have := HG3.out; omega) (bv (dig 8 st ++ List.replicate 56 0)).toArray)
  have HZ4 := hide (HZ3.out.set (dig 8 st ++ List.replicate 56 0))
  have HB4 := hide (setRow_below HB3.out (g := g) HG3.out.2 (bv (dig 8 st ++ List.replicate 56 0)).toArray)
  generalize W3.setRow g (bv (dig 8 st ++ List.replicate 56 0)).toArray = W4 at HE4 HZ4 HB4 ⊢
  clear HE3 HZ3 HB3 HR1
  have HL4 : Hid ((dig 8 st ++ List.replicate 56 0).length = 64) := hide (by rw [List.length_append, H8.out]; rfl)
  have c8 := HZ4.out.at (i := 8) (by rw [HL4.out]; decide)
  have f8 := HZ4.out.fz 8
  have c9 := HZ4.out.at (i := 9) (by rw [HL4.out]; decide)
  have f9 := HZ4.out.fz 9
  have HS6 := hide ((HZ4.out.set1 8 ((r.length : Int) / 256)).set1 9 ((r.length : Int) % 256))
  rw [blk_r2 H8.out] at HS6
  have HE6 := hide ((HE4.out.keep (W' := W4.setCell ⟨g, 8, none⟩ (.int .u8 ((r.length : Int) / 256))) (Below.heap_setCell _ _ _ _ (by have := HG3.out; simp; omega))).keep (W' := (W4.setCell ⟨g, 8, none⟩ (.int .u8 ((r.length : Int) / 256))).setCell ⟨g, 9, none⟩ (.int .u8 ((r.length : Int) % 256))) (Below.heap_setCell _ _ _ _ (by have := HG3.out; simp; omega)))
  have HB6 := hide ((HB4.out.setCell (p := ⟨g, 8, none⟩) HG3.out.2 (.int .u8 ((r.length : Int) / 256))).setCell (p := ⟨g, 9, none⟩) HG3.out.2 (.int .u8 ((r.length : Int) % 256)))
  have hm1 : ((r.length : Int)) / 256 % 256 = (r.length : Int) / 256 := by omega
  skip
  generalize (dig 8 st ++ List.replicate 56 0)[8]'(by rw [HL4.out]; decide) = y8 at c8
  generalize (dig 8 st ++ List.replicate 56 0)[9]'(by rw [HL4.out]; decide) = y9 at c9
  go_upto_region 7 with fail
  clear c8 f8 c9 f9 HE4 HZ4 HB4 HL4 hm1
  generalize (W4.setCell ⟨g, 8, none⟩ (.int .u8 ((r.length : Int) / 256))).setCell ⟨g, 9, none⟩ (.int .u8 ((r.length : Int) % 256)) = W6 at HS6 HE6 HB6 ⊢
  have HR3 := hide (blk_r3 H8.out ((r.length : Int) / 256) ((r.length : Int) % 256) r)
  have HL6 : Hid ((dig 8 st ++ ([(r.length : Int) / 256, (r.length : Int) % 256] ++ List.replicate 54 0)).length = 64) := hide (by rw [List.length_append, H8.out]; rfl)
  have HV6 := hide (HV.out.below HB6.out)
  go_upto_region 8 with (first | (refine wpList_copyR _ rfl _ _ rfl g 10 46 54 5 _ r _ rfl rfl HS6.out HV6.out (by rw [HL6.out]; decide) ?_; rw [HR3.out]))
  generalize hq : dig 8 st ++ ([(r.length : Int) / 256, (r.length : Int) % 256] ++ (r.take 46 ++ List.replicate (54 - Nat.min r.length 46) 0)) = q at HR3 ⊢
  have HS7 := hide (HS6.out.set q)
  have HE7 := hide (HE6.out.setO (k := g) (by have := HG3.out; omega) (bv q).toArray)
  have HB7 := hide (setRow_below HB6.out (g := g) HG3.out.2 (bv q).toArray)
  have HR4 : Hid (q.take 56 ++ ((dig 8 st).take 8 ++ q.drop (56 + Nat.min (dig 8 st).length 8)) = blkOf st false r) := hide (by rw [← hq, blk_r4 H8.out]; unfold blkOf; simp)
  have HQL : Hid (q.length = 64) := hide (by have h1 := congrArg List.length HR3.out; rw [← h1]; have h2 : Nat.min r.length 46 ≤ 46 := Nat.min_le_right _ _; have h3 := HL6.out; rw [List.length_append, List.length_append, List.length_take, List.length_take, List.length_drop, h3]; have h4 : min 46 r.length = Nat.min r.length 46 := Nat.min_comm _ _; omega)
  generalize W6.setRow g (bv q).toArray = W7 at HS7 HE7 HB7 ⊢
  clear HS6 HE6 HB6 HV6 HV HR3 HL6 hq
  refine wp_region_held_drew (S := fun _ => True) (by kernel_rfl) trivial (fun hHeld => ?_)
  have hdw : Below W7.heap.size W7 W7.drew := (Below.refl _ _).drew
  have HS8 := hide (HS7.out.below hdw)
  have HE8 := hide (HE7.out.below hdw)
  have HB8 := hide (HB7.out.trans (hdw.mono HB7.out.size))
  generalize W7.drew = W8 at HS8 HE8 HB8 hHeld ⊢
  clear HS7 HE7 HB7 hdw
  refine wpAnyH_take (i := 0) (oi := _) (v := .slice (some ⟨g, 0, none⟩) 64 64) rfl (by kernel_rfl) (by kernel_rfl) (by kernel_rfl) (fun _ _ _ h => h) (Or.inl ⟨by rfl, by intro w hSw; go_simp⟩) hHeld ?_
  change wpAnyH _ _ _ _ _ _ _ (Act.put _ (some 34) _) _
  simp only [Act.put, List.setIfInBounds_toArray, List.set_cons_zero, List.set_cons_succ]
  refine wpAnyH_take (i := 1) (oi := _) (v := .slice (some ⟨g, 56, none⟩) 8 8) rfl (by kernel_rfl) (by kernel_rfl) (by kernel_rfl) (fun _ _ _ h => h) (Or.inl ⟨by rfl, by intro w hSw; go_simp⟩) hHeld ?_
  change wpAnyH _ _ _ _ _ _ _ (Act.put _ (some 35) _) _
  simp only [Act.put, List.setIfInBounds_toArray, List.set_cons_zero, List.set_cons_succ]
  refine wpAnyH_take (i := 2) (oi := _) (v := .slice (some ⟨ge, 0, none⟩) 8 8) rfl (by kernel_rfl) (by kernel_rfl) (by kernel_rfl) (fun _ _ _ h => h) (Or.inl ⟨by rfl, by intro w hSw; go_simp⟩) hHeld ?_
  change wpAnyH _ _ _ _ _ _ _ (Act.put _ (some 36) _) _
  simp only [Act.put, List.setIfInBounds_toArray, List.set_cons_zero, List.set_cons_succ]
  refine wpAnyH_ready (rs := [3]) (by kernel_rfl) (by simp) ?_
  refine AllReadyH.cons (o := _) rfl (fun K hK => ?_) AllReadyH.nil
  refine step_copyR rfl _ _ rfl g 56 8 8 5 q (dig 8 st) _ rfl rfl HS8.out (HE8.out.all H8.out.symm) (by rw [HQL.out]; decide) ?_
  rw [HR4.out]
  refine hK.out _ _ trivial (fun hHeld1 => ?_)
  clear hK K hHeld
  have hHeld := hHeld1
  clear hHeld1
  refine wpAnyH_done (by kernel_rfl) ?_ _
  clear hHeld
  have HS9 := hide (HS8.out.set (blkOf st false r))
  have HB9 := hide (setRow_below HB8.out (g := g) HG3.out.2 (bv (blkOf st false r)).toArray)
  generalize W8.setRow g (bv (blkOf st false r)).toArray = W9 at HS9 HB9 ⊢
  go_wp2
  go_ret
  exact ⟨g, rfl, HS9.out, HG3.out.2, HB9.out⟩
set_option maxRecDepth 100000 in
set_option maxHeartbeats 8000000 in
theorem blockOf_true (st : Int) (v : Value) (r : List Int) (w : World) (h0 : 0 ≤ st) (hv : Sl bc w v r) (hl : r.length ≤ 16448) : Calls Tryz.prog 71 #[.int .i64 st, .bool true, v] w fun e w' => ∃ g, e = .returned (.slice (some ⟨g, 0, none⟩) 64 64) ∧ Rq w' g 5 (blkOf st true r) ∧ w.heap.size ≤ g ∧ Below w.heap.size w w' := by
  obtain ⟨ao, cap, rfl⟩ := hv.form
  have HV := hide hv
  have hmk := make64c
  have H8 : Hid ((dig 8 st).length = 8) := hide (dig_len 8 st)
  clear hv
  have hor : bits .or .i64 (r.length : Int) 32768 = (r.length : Int) + 32768 := or15 (by omega) (by omega)
  go_enter Tryz.func71, Tryz.ntmps71
  go_upto_region 2 with (first | (go_at_call 83; refine (edgeOf_any st _ h0).mono ?_; rintro e W1 ⟨rfl, hb1⟩; have HB1 := hide hb1; clear hb1) | (refine wpList_allocE _ rfl rfl ?_) | (refine wpList_storeE _ rfl _ _ rfl W1.heap.size _ _ _ rfl rfl (Rq.new _ _ _) rfl H8.out ?_))
  have HE2 := hide ((Rq.new W1 125 zr8).set (dig 8 st))
  have HB2 := hide (setRow_below (HB1.out.alloc (by have := HB1.out.size; omega) (.cells (bv zr8).toArray 125)) (g := W1.heap.size) HB1.out.size (bv (dig 8 st)).toArray)
  have HGE : Hid (w.heap.size ≤ W1.heap.size) := hide HB1.out.size
  generalize (W1.alloc (.cells (bv zr8).toArray 125)).setRow W1.heap.size (bv (dig 8 st)).toArray = W2 at HE2 HB2 ⊢
  generalize W1.heap.size = ge at HE2 HGE ⊢
  clear HB1
  go_upto_region 5 with fail
  clear hmk
  have HE3 := hide (HE2.out.below ((Below.refl _ _).alloc (Nat.le_refl _) (.cells (bv zer).toArray 5)))
  have HZ3 := hide (Rq.new W2 5 zer)
  have HB3 := hide (HB2.out.alloc (by have := HB2.out.size; omega) (.cells (bv zer).toArray 5))
  have HG3 : Hid (ge < W2.heap.size ∧ w.heap.size ≤ W2.heap.size) := hide ⟨HE2.out.lt, HB2.out.size⟩
  generalize W2.alloc (.cells (bv zer).toArray 5) = W3 at HE3 HZ3 HB3 ⊢
  generalize W2.heap.size = g at HZ3 HG3 ⊢
  clear HE2 HB2
  have HR1 := hide (blk_r1 H8.out)
  go_upto_region 6 with (first | (refine wpList_copyR _ rfl _ _ rfl g 0 64 64 5 zer (dig 8 st) _ rfl rfl HZ3.out (HE3.out.all H8.out.symm) (by decide) ?_; rw [HR1.out]))
  have HE4 := hide (HE3.out.setO (k := g) (by have := HG3.out; omega) (bv (dig 8 st ++ List.replicate 56 0)).toArray)
  have HZ4 := hide (HZ3.out.set (dig 8 st ++ List.replicate 56 0))
  have HB4 := hide (setRow_below HB3.out (g := g) HG3.out.2 (bv (dig 8 st ++ List.replicate 56 0)).toArray)
  generalize W3.setRow g (bv (dig 8 st ++ List.replicate 56 0)).toArray = W4 at HE4 HZ4 HB4 ⊢
  clear HE3 HZ3 HB3 HR1
  have HL4 : Hid ((dig 8 st ++ List.replicate 56 0).length = 64) := hide (by rw [List.length_append, H8.out]; rfl)
  have c8 := HZ4.out.at (i := 8) (by rw [HL4.out]; decide)
  have f8 := HZ4.out.fz 8
  have c9 := HZ4.out.at (i := 9) (by rw [HL4.out]; decide)
  have f9 := HZ4.out.fz 9
  have HS6 := hide ((HZ4.out.set1 8 (((r.length : Int) + 32768) / 256)).set1 9 ((r.length : Int) % 256))
  rw [blk_r2 H8.out] at HS6
  have HE6 := hide ((HE4.out.keep (W' := W4.setCell ⟨g, 8, none⟩ (.int .u8 (((r.length : Int) + 32768) / 256))) (Below.heap_setCell _ _ _ _ (by have := HG3.out; simp; omega))).keep (W' := (W4.setCell ⟨g, 8, none⟩ (.int .u8 (((r.length : Int) + 32768) / 256))).setCell ⟨g, 9, none⟩ (.int .u8 ((r.length : Int) % 256))) (Below.heap_setCell _ _ _ _ (by have := HG3.out; simp; omega)))
  have HB6 := hide ((HB4.out.setCell (p := ⟨g, 8, none⟩) HG3.out.2 (.int .u8 (((r.length : Int) + 32768) / 256))).setCell (p := ⟨g, 9, none⟩) HG3.out.2 (.int .u8 ((r.length : Int) % 256)))
  have hm1 : ((r.length : Int) + 32768) / 256 % 256 = ((r.length : Int) + 32768) / 256 := by omega
  have hm2 : ((r.length : Int) + 32768) % 256 = (r.length : Int) % 256 := by omega
  generalize (dig 8 st ++ List.replicate 56 0)[8]'(by rw [HL4.out]; decide) = y8 at c8
  generalize (dig 8 st ++ List.replicate 56 0)[9]'(by rw [HL4.out]; decide) = y9 at c9
  go_upto_region 7 with fail
  clear c8 f8 c9 f9 HE4 HZ4 HB4 HL4 hm1 hm2 hor
  generalize (W4.setCell ⟨g, 8, none⟩ (.int .u8 (((r.length : Int) + 32768) / 256))).setCell ⟨g, 9, none⟩ (.int .u8 ((r.length : Int) % 256)) = W6 at HS6 HE6 HB6 ⊢
  have HR3 := hide (blk_r3 H8.out (((r.length : Int) + 32768) / 256) ((r.length : Int) % 256) r)
  have HL6 : Hid ((dig 8 st ++ ([((r.length : Int) + 32768) / 256, (r.length : Int) % 256] ++ List.replicate 54 0)).length = 64) := hide (by rw [List.length_append, H8.out]; rfl)
  have HV6 := hide (HV.out.below HB6.out)
  go_upto_region 8 with (first | (refine wpList_copyR _ rfl _ _ rfl g 10 46 54 5 _ r _ rfl rfl HS6.out HV6.out (by rw [HL6.out]; decide) ?_; rw [HR3.out]))
  generalize hq : dig 8 st ++ ([((r.length : Int) + 32768) / 256, (r.length : Int) % 256] ++ (r.take 46 ++ List.replicate (54 - Nat.min r.length 46) 0)) = q at HR3 ⊢
  have HS7 := hide (HS6.out.set q)
  have HE7 := hide (HE6.out.setO (k := g) (by have := HG3.out; omega) (bv q).toArray)
  have HB7 := hide (setRow_below HB6.out (g := g) HG3.out.2 (bv q).toArray)
  have HR4 : Hid (q.take 56 ++ ((dig 8 st).take 8 ++ q.drop (56 + Nat.min (dig 8 st).length 8)) = blkOf st true r) := hide (by rw [← hq, blk_r4 H8.out]; unfold blkOf; rw [show ((r.length : Int) + 32768) / 256 = (r.length : Int) / 256 + 128 by omega]; simp)
  have HQL : Hid (q.length = 64) := hide (by have h1 := congrArg List.length HR3.out; rw [← h1]; have h2 : Nat.min r.length 46 ≤ 46 := Nat.min_le_right _ _; have h3 := HL6.out; rw [List.length_append, List.length_append, List.length_take, List.length_take, List.length_drop, h3]; have h4 : min 46 r.length = Nat.min r.length 46 := Nat.min_comm _ _; omega)
  generalize W6.setRow g (bv q).toArray = W7 at HS7 HE7 HB7 ⊢
  clear HS6 HE6 HB6 HV6 HV HR3 HL6 hq
  refine wp_region_held_drew (S := fun _ => True) (by kernel_rfl) trivial (fun hHeld => ?_)
  have hdw : Below W7.heap.size W7 W7.drew := (Below.refl _ _).drew
  have HS8 := hide (HS7.out.below hdw)
  have HE8 := hide (HE7.out.below hdw)
  have HB8 := hide (HB7.out.trans (hdw.mono HB7.out.size))
  generalize W7.drew = W8 at HS8 HE8 HB8 hHeld ⊢
  clear HS7 HE7 HB7 hdw
  refine wpAnyH_take (i := 0) (oi := _) (v := .slice (some ⟨g, 0, none⟩) 64 64) rfl (by kernel_rfl) (by kernel_rfl) (by kernel_rfl) (fun _ _ _ h => h) (Or.inl ⟨by rfl, by intro w hSw; go_simp⟩) hHeld ?_
  change wpAnyH _ _ _ _ _ _ _ (Act.put _ (some 34) _) _
  simp only [Act.put, List.setIfInBounds_toArray, List.set_cons_zero, List.set_cons_succ]
  refine wpAnyH_take (i := 1) (oi := _) (v := .slice (some ⟨g, 56, none⟩) 8 8) rfl (by kernel_rfl) (by kernel_rfl) (by kernel_rfl) (fun _ _ _ h => h) (Or.inl ⟨by rfl, by intro w hSw; go_simp⟩) hHeld ?_
  change wpAnyH _ _ _ _ _ _ _ (Act.put _ (some 35) _) _
  simp only [Act.put, List.setIfInBounds_toArray, List.set_cons_zero, List.set_cons_succ]
  refine wpAnyH_take (i := 2) (oi := _) (v := .slice (some ⟨ge, 0, none⟩) 8 8) rfl (by kernel_rfl) (by kernel_rfl) (by kernel_rfl) (fun _ _ _ h => h) (Or.inl ⟨by rfl, by intro w hSw; go_simp⟩) hHeld ?_
  change wpAnyH _ _ _ _ _ _ _ (Act.put _ (some 36) _) _
  simp only [Act.put, List.setIfInBounds_toArray, List.set_cons_zero, List.set_cons_succ]
  refine wpAnyH_ready (rs := [3]) (by kernel_rfl) (by simp) ?_
  refine AllReadyH.cons (o := _) rfl (fun K hK => ?_) AllReadyH.nil
  refine step_copyR rfl _ _ rfl g 56 8 8 5 q (dig 8 st) _ rfl rfl HS8.out (HE8.out.all H8.out.symm) (by rw [HQL.out]; decide) ?_
  rw [HR4.out]
  refine hK.out _ _ trivial (fun hHeld1 => ?_)
  clear hK K hHeld
  have hHeld := hHeld1
  clear hHeld1
  refine wpAnyH_done (by kernel_rfl) ?_ _
  clear hHeld
  have HS9 := hide (HS8.out.set (blkOf st true r))
  have HB9 := hide (setRow_below HB8.out (g := g) HG3.out.2 (bv (blkOf st true r)).toArray)
  generalize W8.setRow g (bv (blkOf st true r)).toArray = W9 at HS9 HB9 ⊢
  go_wp2
  go_ret
  exact ⟨g, rfl, HS9.out, HG3.out.2, HB9.out⟩
theorem blockOf_any (st : Int) (bg : Bool) (v : Value) (r : List Int) (w : World) (h0 : 0 ≤ st) (hv : Sl bc w v r) (hl : r.length ≤ 16448) : Calls Tryz.prog 71 #[.int .i64 st, .bool bg, v] w fun e w' => ∃ g, e = .returned (.slice (some ⟨g, 0, none⟩) 64 64) ∧ Rq w' g 5 (blkOf st bg r) ∧ w.heap.size ≤ g ∧ Below w.heap.size w w' := by
  cases bg
  · exact blockOf_false st v r w h0 hv hl
  · exact blockOf_true st v r w h0 hv hl
end Go.Proofs.YtoamghncncalgaaGreatDoor
namespace Go.Proofs.YtoamghncncalgaaGreatDoor
open Go.RowKit

/-- A chain: its store, its base, the next block, the next stamp. -/
structure Chn (W : World) (c d bS bT : Nat) (u : Value) (s : Dst) (base nx sp : Int) : Prop where
  q : Dq W d bS bT u s
  x : B4 W c (.pointer (some ⟨d, 0, none⟩)) (.int .i64 base) (.int .i64 nx) (.int .i64 sp)
  no : ¬ Own d bS bT u c
section
variable {W W' : World} {c d bS bT : Nat} {u u' : Value} {s : Dst} {base nx sp : Int}
theorem Chn.below (h : Chn W c d bS bT u s base nx sp) (hb : Below W.heap.size W W') : Chn W' c d bS bT u s base nx sp := ⟨h.q.below hb, h.x.below hb, h.no⟩
theorem Chn.blk (h : Chn W c d bS bT u s base nx sp) (a : Int) : Blk (vw s.tk a) := vw_blk h.q.ok.tb a
end
theorem sl_of_own {W : World} {B : Nat} {v : Value} {b : List Int} (h : W.ownsRow B 5 1 v b.length (bv b)) : Sl bc W v b := by
  rcases h.2 with ⟨rfl, h0⟩ | ⟨g, cap, cur, rfl, a2, a3, a4, a5, a6, a7⟩
  · exact .inl ⟨none, 0, List.length_eq_zero_iff.1 h0, rfl⟩
  · refine .inr ⟨g, 0, cap, rfl, a4, fun i hi => ?_⟩
    have hx : (bv b)[i]? = some (bc b[i]) := by rw [bv_eq, List.getElem?_map, List.getElem?_eq_getElem hi]; rfl
    rw [← a7, Nat.mul_one] at hx
    rw [List.getElem?_take_of_lt hi] at hx
    simp only [World.cell?, a3, Nat.zero_add]
    simpa using hx
/-- Bytes that grow: full, or in a row of their own. -/
def Bb (B : Nat) (W : World) (v : Value) (b : List Int) : Prop := (∃ ad, v = .slice ad b.length b.length ∧ Sl bc W v b) ∨ W.ownsRow B 5 1 v b.length (bv b)
theorem Bb.sl {B : Nat} {W : World} {v : Value} {b : List Int} (h : Bb B W v b) : Sl bc W v b := h.elim (fun ⟨_, _, h⟩ => h) sl_of_own
theorem Bb.below {B : Nat} {W W' : World} {v : Value} {b : List Int} (h : Bb B W v b) (hb : Below W.heap.size W W') : Bb B W' v b := h.elim (fun ⟨ad, e, h⟩ => .inl ⟨ad, e, h.below hb⟩) (fun h => .inr (owns_below h hb))
theorem infoU8 : (Tryz.prog.info? 5).map (fun i => (i.zero, i.size, i.bytes)) = some (some (.int .u8 0), 1, 1) := by kernel_rfl
theorem bb_append {B : Nat} (W : World) (ty : TypeId) (v u : Value) (b l : List Int) (hB : B ≤ W.heap.size) (hb : Bb B W v b) (hu : Sl bc W u l) (hl : 0 < l.length) (hb0 : 0 < b.length) (hn : b.length + l.length ≤ 1000000) :
    ∃ v' W', (Builtin.append_ #[43, 43] ty #[v, u]).run Tryz.prog W = .ok v' W' ∧ W'.ownsRow B 5 1 v' (b ++ l).length (bv (b ++ l)) ∧ ∃ row, W.grownBy W' row ∧ ∀ k, row = some k → B ≤ k ∧ ∃ cur, W.heap[k]? = some (.cells cur 5 (0, 0)) := by
  obtain ⟨i0, hi, hz0, hz1, hz2⟩ := info_parts infoU8
  rcases hu with ⟨_, _, rfl, _⟩ | ⟨gu, ou, cu, rfl, hu2, hu3⟩
  · simp at hl
  have hnews : ∀ j x, (bv l)[j]? = some x → W.cell? ((⟨gu, ou, none⟩ : Addr).add j) = some x := fun j x hx => by
    have hj : j < l.length := by simpa [bv_len] using (List.getElem?_eq_some_iff.1 hx).1
    rw [Addr.add_lit, hu3 j hj]
    rw [bv_eq, List.getElem?_map, List.getElem?_eq_getElem hj] at hx
    simpa using hx
  rcases hb with ⟨ad, rfl, hs⟩ | ho
  · rcases hs with ⟨_, _, rfl, _⟩ | ⟨g, o, cap, e, h2, h3⟩
    · simp at hb0
    cases e
    obtain ⟨v', W', hr, ho, hg⟩ := run_append_arg_grows (P := Tryz.prog) W 43 ty 5 i0 (.int .u8 0) 1 1 Tryz.underlying43 hi hz0 hz1 hz2 rfl (by decide) ⟨g, o, none⟩ b.length b.length (bv b) (by rw [bv_len, Nat.mul_one]) (fun j x hx => by
      have hj : j < b.length := by simpa [bv_len] using (List.getElem?_eq_some_iff.1 hx).1
      rw [Addr.add_lit, h3 j hj]
      rw [bv_eq, List.getElem?_map, List.getElem?_eq_getElem hj] at hx
      simpa using hx) ⟨gu, ou, none⟩ l.length cu (bv l) (by rw [bv_len, Nat.mul_one]) hnews (by omega) (by unfold maxLen; omega) (by omega)
    refine ⟨v', W', hr, ?_, none, hg, fun k e => by cases e⟩
    rw [List.length_append]
    have e : bv (b ++ l) = bv b ++ bv l := by simp [bv]
    rw [e]
    exact ⟨ho.1, ho.2.imp id (fun ⟨g, cap, cur, a1, a2, a3⟩ => ⟨g, cap, cur, a1, Nat.le_trans hB a2, a3⟩)⟩
  · obtain ⟨v', W', hr, ho', hg, _, hk⟩ := run_append_own_at (P := Tryz.prog) W B 43 ty 5 i0 (.int .u8 0) 1 1 Tryz.underlying43 hi hz0 hz1 hz2 rfl (by decide) v b.length (bv b) ho ⟨gu, ou, none⟩ l.length cu (bv l) (by rw [bv_len, Nat.mul_one]) hnews (bv_one l) (by unfold maxLen; omega) (by omega) hB
    refine ⟨v', W', hr, ?_, v.ownBlock, hg, fun k e => ⟨(ho.lt k e).1, ?_⟩⟩
    rotate_left
    · rcases ho.2 with ⟨e2, _⟩ | ⟨g, cap, cur, e2, _, a3, _⟩
      · rw [e2] at e; cases e
      · rw [e2] at e; cases e; exact ⟨cur, a3⟩
    rw [List.length_append]
    have e : bv (b ++ l) = bv b ++ bv l := by simp [bv]
    rw [e]
    exact ho'
theorem wpList_bb {ops : Array Oper} {rest : List Oper} {o : Oper} {a : Act} {Q : Exit → Act → World → Prop} {B : Nat} (W : World) (hgd : o.guard = none) (x y : Operand) (ho : o.op = .call { callee := .builtin .append, args := #[x, y], argTypes := #[43, 43] }) (v u : Value) (b l : List Int) (hx : a.eval x = v) (hy : a.eval y = u) (hB : B ≤ W.heap.size) (hb : Bb B W v b) (hu : Sl bc W u l) (hl : 0 < l.length) (hb0 : 0 < b.length) (hn : b.length + l.length ≤ 1000000)
    (h : ∀ v' W' row, W'.ownsRow B 5 1 v' (b ++ l).length (bv (b ++ l)) → W.grownBy W' row → (∀ k, row = some k → B ≤ k ∧ ∃ cur, W.heap[k]? = some (.cells cur 5 (0, 0))) → wpList Tryz.prog ops Q rest (a.put o.dst v') W') : wpList Tryz.prog ops Q (o :: rest) a W := by
  refine wpList_plain hgd fun K hK => ?_
  obtain ⟨v', W', hrun, q1, row, q2, q3⟩ := bb_append W o.type v u b l hB hb hu hl hb0 hn
  unfold Oper.wp
  simp [execOp, ho, resolve, invoke, builtin, hx, hy, hrun, Result.andThen]
  exact hK _ _ (h v' W' row q1 q2 q3)
set_option maxRecDepth 100000 in
set_option maxHeartbeats 8000000 in
theorem piece_bad {c d bS bT : Nat} {u : Value} {s : Dst} {base nx sp : Int} (a : Int) (w : World) (h : Chn w c d bS bT u s base nx sp) (ha : ¬ Num a) : Calls Tryz.prog 65 #[.pointer (some ⟨c, 0, none⟩), .int .i64 a] w fun e w' => ∃ ad m, e = .returned (.agg #[.int .i64 (pcs (vw s.tk a)).st, .bool (pcs (vw s.tk a)).bg, .int .i64 (pcs (vw s.tk a)).lf, .slice ad m m]) ∧ Sl bc w' (.slice ad m m) (pcs (vw s.tk a)).own ∧ (∀ x, ad = some x → 0 < m → w.heap.size ≤ x.block) ∧ Below w.heap.size w w' := by
  rw [vw_bad ha, pcs_zer]
  have HH := hide h
  have HA := hide ha
  clear h ha
  go_enter Tryz.func65, Tryz.ntmps65
  go_upto_region 1 with fail
  have hal := (Below.refl w.heap.size w).alloc (Nat.le_refl _) (.cells #[.int .i64 0, .bool false, .int .i64 0, .slice none 0 0] 122)
  have HB0 := hide (b4_new w (.int .i64 0) (.bool false) (.int .i64 0) (.slice none 0 0) 122)
  have HA0 := hide hal
  have HC0 := hide (HH.out.below hal)
  clear hal
  generalize w.alloc (.cells #[.int .i64 0, .bool false, .int .i64 0, .slice none 0 0] 122) = W0 at HB0 HA0 HC0 ⊢
  have x0 := HC0.out.x.c0
  have r0 := HB0.out.c0
  have r1 := HB0.out.c1
  have r2 := HB0.out.c2
  have r3 := HB0.out.c3
  have f0 := HB0.out.fz 0
  have f1 := HB0.out.fz 1
  have f2 := HB0.out.fz 2
  have f3 := HB0.out.fz 3
  go_wp2_with (first | (go_at_call 81; refine (bread_bad a _ HC0.out.q.dk HA.out).mono ?_; rintro e w9 ⟨rfl, hw9⟩; rw [hw9]; clear hw9 w9))
  exact bodyPost_ret (v := .agg #[_, _, _, _]) (res_cel Tryz.results65 _ _ w.heap.size [_, _, _, _] _ rfl (HB0.out.all (.int .i64 0) (.bool false) (.int .i64 0) (.slice none 0 0)).rg Tryz.underlying122 rfl infoPc) rfl ⟨none, 0, rfl, Sl.nil _ _ _ _, (fun x e => by cases e), set4_below HA0.out (Nat.le_refl _) _ _ _ _⟩
set_option maxRecDepth 100000 in
set_option maxHeartbeats 8000000 in
theorem piece_ok {c d bS bT : Nat} {u : Value} {s : Dst} {base nx sp : Int} (a : Int) (w : World) (h : Chn w c d bS bT u s base nx sp) (ha : Num a) : Calls Tryz.prog 65 #[.pointer (some ⟨c, 0, none⟩), .int .i64 a] w fun e w' => ∃ ad m, e = .returned (.agg #[.int .i64 (pcs (vw s.tk a)).st, .bool (pcs (vw s.tk a)).bg, .int .i64 (pcs (vw s.tk a)).lf, .slice ad m m]) ∧ Sl bc w' (.slice ad m m) (pcs (vw s.tk a)).own ∧ (∀ x, ad = some x → 0 < m → w.heap.size ≤ x.block) ∧ Below w.heap.size w w' := by
  have HK := hide (h.blk a)
  rw [vw_num ha] at HK ⊢
  generalize hbq : (look s.tk a).getD zer = b at HK ⊢
  have HBQ := hide hbq
  clear hbq
  have HH := hide h
  have HA := hide ha
  clear h ha
  go_enter Tryz.func65, Tryz.ntmps65
  go_upto_region 1 with fail
  have hal := (Below.refl w.heap.size w).alloc (Nat.le_refl _) (.cells #[.int .i64 0, .bool false, .int .i64 0, .slice none 0 0] 122)
  have HB0 := hide (b4_new w (.int .i64 0) (.bool false) (.int .i64 0) (.slice none 0 0) 122)
  have HA0 := hide hal
  have HC0 := hide (HH.out.below hal)
  clear hal
  generalize w.alloc (.cells #[.int .i64 0, .bool false, .int .i64 0, .slice none 0 0] 122) = W0 at HB0 HA0 HC0 ⊢
  have x0 := HC0.out.x.c0
  go_upto_region 4 with (first | (go_at_call 81; refine (q_read a _ HC0.out.q HA.out).mono ?_; rintro e W1 ⟨rfl, hw1⟩; rw [HBQ.out] at hw1; have hb1 : Below W0.heap.size W0 W1 := (by rw [hw1]; exact (Below.refl _ _).alloc (Nat.le_refl _) _); have HG1 : Hid (Rq W1 W0.heap.size 101 b) := hide (by rw [hw1]; exact Rq.new _ _ _); have HB1 := hide (HB0.out.below hb1); have HA1 := hide (HA0.out.trans (hb1.mono HA0.out.size)); clear hw1 hb1))
  have HGN : Hid (W0.heap.size ≠ w.heap.size) := hide (by have := HB0.out.lt; omega)
  have HGG : Hid (w.heap.size ≤ W0.heap.size) := hide (by have := HB0.out.lt; omega)
  clear x0 HC0 HB0 HA0 HH
  generalize W0.heap.size = g at HG1 HGN HGG ⊢
  have hlb := lfO_bd HK.out
  obtain ⟨m, hm⟩ : ∃ m : Nat, min (lfO b) 46 = (m : Int) := ⟨(min (lfO b) 46).toNat, by omega⟩
  have HM := hide hm
  clear hlb hm
  go_wp2_with (first | (go_at_call 82; refine (piece_go g _ b _ HG1.out HK.out _ _ m rfl rfl HM.out).mono ?_; rintro e W2 ⟨ad, rfl, had, hb2⟩; have HB2 := hide (HB1.out.below hb2); have HA2 := hide (HA1.out.trans (hb2.mono HA1.out.size)); have HG2 := hide (HG1.out.below hb2); have HAD := hide had; clear had hb2; have r0 := HB2.out.c0; have r1 := HB2.out.c1; have r2 := HB2.out.c2; have r3 := HB2.out.c3; have f0 := HB2.out.fz 0; have f1 := HB2.out.fz 1; have f2 := HB2.out.fz 2; have f3 := HB2.out.fz 3))
  have HOL : Hid ((pcs b).own.length = m) := hide (by have h1 := own_len HK.out; have h2 := HM.out; omega)
  refine bodyPost_ret (v := .agg #[_, _, _, _]) (res_cel Tryz.results65 _ _ w.heap.size [_, _, _, _] _ rfl (HB2.out.all (.int .i64 (pcs b).st) (.bool (decide (128 ≤ b.getD 8 0))) (.int .i64 (lfO b)) (.slice ad m m)).rg Tryz.underlying122 rfl infoPc) rfl ⟨ad, m, rfl, ?_, (fun x e h => by rw [HAD.out h] at e; cases e; exact HGG.out), set4_below HA2.out (Nat.le_refl _) _ _ _ _⟩
  by_cases h0 : 0 < m
  · rw [HAD.out h0]
    have h1 := (HG2.out.keep (set4_heap HGN.out (.int .i64 (pcs b).st) (.bool (decide (128 ≤ b.getD 8 0))) (.int .i64 (lfO b)) (.slice (some ⟨g, 10, none⟩) m m))).part (o := 10) (n := m) m (by have := HK.out.1; have := HM.out; omega) (Nat.le_refl _)
    have h2 : (min (lfO b) 46).toNat = m := by have := HM.out; omega
    simp only [pcs, h2]
    exact h1
  · obtain rfl : m = 0 := by omega
    rw [List.length_eq_zero_iff.1 HOL.out]
    exact .inl ⟨ad, 0, rfl, rfl⟩
theorem piece_any {c d bS bT : Nat} {u : Value} {s : Dst} {base nx sp : Int} (a : Int) (w : World) (h : Chn w c d bS bT u s base nx sp) : Calls Tryz.prog 65 #[.pointer (some ⟨c, 0, none⟩), .int .i64 a] w fun e w' => ∃ ad m, e = .returned (.agg #[.int .i64 (pcs (vw s.tk a)).st, .bool (pcs (vw s.tk a)).bg, .int .i64 (pcs (vw s.tk a)).lf, .slice ad m m]) ∧ Sl bc w' (.slice ad m m) (pcs (vw s.tk a)).own ∧ (∀ x, ad = some x → 0 < m → w.heap.size ≤ x.block) ∧ Below w.heap.size w w' := by
  by_cases ha : Num a
  · exact piece_ok a w h ha
  · exact piece_bad a w h ha
/-- What is told lies in new memory. -/
def Fr (n0 : Nat) (v : Value) : Prop := ∀ a n k, v = .slice (some a) n k → 0 < n → n0 ≤ a.block
/-- What record answers. -/
def RecP (w w' : World) (e : Ending) (r : Option (List Int × Int)) : Prop := match r with
  | none => e = .returned (.tuple #[.slice none 0 0, .int .i64 0, .bool false])
  | some q => ∃ ad n k, e = .returned (.tuple #[.slice ad n k, .int .i64 q.2, .bool true]) ∧ Sl bc w' (.slice ad n k) q.1 ∧ Fr w.heap.size (.slice ad n k)
theorem bb_form {B : Nat} {W : World} {v : Value} {b : List Int} (h : Bb B W v b) : ∃ ad k, v = .slice ad b.length k := by
  rcases h with ⟨ad, e, _⟩ | h
  · exact ⟨ad, _, e⟩
  · rcases h.2 with ⟨e, h0⟩ | ⟨g, cap, cur, e, _⟩
    · rw [e, h0]; exact ⟨_, _, rfl⟩
    · exact ⟨_, _, e⟩
theorem fr_own {B n0 n : Nat} {W : World} {v : Value} {xs : List Value} (h : W.ownsRow B 5 1 v n xs) (hB : n0 ≤ B) : Fr n0 v := fun a m k e hm => by
  rcases h.2 with ⟨e2, _⟩ | ⟨g, cap, cur, e2, a2, _⟩
  · rw [e2] at e; cases e
  · rw [e2] at e; cases e; exact Nat.le_trans hB a2
theorem recG_end {t : Cs} {n : Nat} {a : Int} {p : Pc} {b : List Int} (h : ¬ 46 < p.lf) : recG t n a p b = some (b, p.st) := by
  cases n with
  | zero => rfl
  | succ n => unfold recG; rw [if_neg h]
theorem recG_on {t : Cs} {n : Nat} {a : Int} {p : Pc} {b : List Int} (h : 46 < p.lf) : recG t (n + 1) a p b = if (pcs (vw t a)).bg = true ∨ (pcs (vw t a)).st ≠ p.st + 1 ∨ (pcs (vw t a)).lf ≠ p.lf - 46 then none else recG t n (a + 1) (pcs (vw t a)) (b ++ (pcs (vw t a)).own) := by
  conv => lhs; unfold recG
  rw [if_pos h]
/-- Where the record's loop stands. -/
structure Rl (w W : World) (P : Nat) (t : Cs) (nx last : Int) (vb : Value) (n : Nat) (p : Pc) (a : Int) (b : List Int) (ad : Option Addr) (m : Nat) : Prop where
  bb : Bb (P + 1) W vb b
  fr : Fr w.heap.size vb
  x : B4 W P (.int .i64 p.st) (.bool p.bg) (.int .i64 p.lf) (.slice ad m m)
  re : recS t nx last = recG t n a p b
  lf : p.lf ≤ 46 * (n + 1)
  l0 : 0 ≤ p.lf
  st : 0 ≤ p.st ∧ p.st ≤ 1152921504606846976
  an : a + n = nx + 401
  bl : (b.length : Int) + 46 * n ≤ 18446
  b0 : 46 < p.lf → 0 < b.length
  be : Below w.heap.size w W
  wp : w.heap.size ≤ P
set_option maxRecDepth 100000 in
set_option maxHeartbeats 8000000 in
theorem record_any {c d bS bT : Nat} {u : Value} {s : Dst} {base nx sp : Int} (last : Int) (w : World) (h : Chn w c d bS bT u s base nx sp) (hx : 0 ≤ nx ∧ nx ≤ 1073800000) : Calls Tryz.prog 33 #[.pointer (some ⟨c, 0, none⟩), .int .i64 last] w fun e w' => RecP w w' e (recS s.tk nx last) ∧ Below w.heap.size w w' := by
  have HH := hide h
  obtain ⟨hx0, hx1⟩ := hx
  clear h
  have x2 := HH.out.x.c2
  have HREC : Hid (recS s.tk nx last = if (pcs (vw s.tk nx)).bg = false ∨ (pcs (vw s.tk nx)).st ≤ last ∨ 16448 < (pcs (vw s.tk nx)).lf then none else recG s.tk 400 (nx + 1) (pcs (vw s.tk nx)) (pcs (vw s.tk nx)).own) := hide rfl
  have HPB : Hid ((0 ≤ (pcs (vw s.tk nx)).lf ∧ (pcs (vw s.tk nx)).lf ≤ 32767) ∧ (0 ≤ (pcs (vw s.tk nx)).st ∧ (pcs (vw s.tk nx)).st ≤ 1152921504606846976) ∧ ((pcs (vw s.tk nx)).own.length : Int) = min (pcs (vw s.tk nx)).lf 46) := hide ⟨lfO_bd (HH.out.blk nx), st_bd (HH.out.blk nx), own_len (HH.out.blk nx)⟩
  go_enter Tryz.func33, Tryz.ntmps33
  go_upto_region 2 with (first | (go_at_call 65; refine (piece_any nx _ HH.out).mono ?_; rintro e W1 ⟨ad, m, rfl, hs1, hf1, hb1⟩; have HS1 := hide hs1; have HF1 := hide hf1; have HB1 := hide hb1; clear hs1 hf1 hb1))
  generalize hpp : pcs (vw s.tk nx) = p at HREC HPB HS1 ⊢
  clear hpp x2
  have hal := (Below.refl W1.heap.size W1).alloc (Nat.le_refl _) (.cells #[.int .i64 p.st, .bool p.bg, .int .i64 p.lf, .slice ad m m] 122)
  have HX2 := hide (b4_new W1 (.int .i64 p.st) (.bool p.bg) (.int .i64 p.lf) (.slice ad m m) 122)
  have HS2 := hide (HS1.out.below hal)
  have HB2 := hide (bt HB1.out hal)
  have HP2 : Hid (w.heap.size ≤ W1.heap.size) := hide HB1.out.size
  clear hal HS1 HB1
  generalize W1.alloc (.cells #[.int .i64 p.st, .bool p.bg, .int .i64 p.lf, .slice ad m m] 122) = W2 at HX2 HS2 HB2 ⊢
  generalize W1.heap.size = P at HX2 HP2 ⊢
  obtain ⟨p0, p1, p2, p3, _⟩ := HX2.out
  by_cases hbad : p.bg = false ∨ p.st ≤ last ∨ 16448 < p.lf
  · have HRN : Hid (recS s.tk nx last = none) := hide (by rw [HREC.out, if_pos hbad])
    have hcs : p.bg = false ∨ p.bg = true ∧ (p.st ≤ last ∨ ¬ p.st ≤ last ∧ 16448 < p.lf) := by
      cases hb : p.bg
      · exact .inl rfl
      · refine .inr ⟨rfl, ?_⟩
        rw [hb] at hbad
        by_cases h1 : p.st ≤ last
        · exact .inl h1
        · exact .inr ⟨h1, (hbad.resolve_left (by simp)).resolve_left h1⟩
    clear hbad HREC HPB
    generalize p.bg = bg at p1 hcs HX2 ⊢
    generalize p.st = st at p0 hcs HX2 ⊢
    generalize p.lf = lf at p2 hcs HX2 ⊢
    rcases hcs with hb | ⟨hb, hc | ⟨hc, hc2⟩⟩ <;> subst hb
    all_goals
      go_wp2
      all_goals go_ret3
      all_goals exact ⟨by rw [HRN.out]; rfl, HB2.out⟩
  · have hbg : p.bg = true := by cases hb : p.bg; exact absurd (.inl hb) hbad; rfl
    have hst : ¬ p.st ≤ last := fun h => hbad (.inr (.inl h))
    have hlf : ¬ 16448 < p.lf := fun h => hbad (.inr (.inr h))
    obtain ⟨⟨hl0, _⟩, hst2, hol⟩ := HPB.out
    have HML : Hid (p.own.length = m) := hide (by obtain ⟨ao, k, e⟩ := HS2.out.form; cases e; rfl)
    have HRL : Hid (Rl w W2 P s.tk nx last (.slice ad m m) 400 p (nx + 1) p.own ad m) := hide ⟨.inl ⟨ad, by rw [HML.out], HS2.out⟩, (fun a n k e hn => by cases e; exact HF1.out a rfl hn), HX2.out, by rw [HREC.out, if_neg hbad], by omega, hl0, hst2, by omega, by omega, (fun h => by omega), HB2.out, HP2.out⟩
    have x2 : W2.cell? ⟨c, 2, none⟩ = some (.int .i64 nx) := (HH.out.below HB2.out).x.c2
    clear hbad HREC HPB hol hst2 hl0
    rw [hbg] at p1
    go_wp2
    clear p0 p1 p2 p3 x2 hbg hst hlf HML HS2 HX2 HB2 HF1
    go_loopw [8, 9] (fun vb av W => ∃ (n : Nat) (p : Pc) (a : Int) (b : List Int) (ad : Option Addr) (m : Nat), av = .int .i64 a ∧ Rl w W P s.tk nx last vb n p a b ad m) (fun _ av _ => (nx + 1000 - iv av).toNat)
    case atStart => exact ⟨_, _, _, _, _, _, rfl, HRL.out⟩
    case round =>
      obtain ⟨n, p, a, b, ad, m, rfl, hrl⟩ := hrel
      have HR := hide hrl
      obtain ⟨vad, vk, rfl⟩ := bb_form hrl.bb
      clear hrl HRL
      have HX := hide HR.out.x
      obtain ⟨p0, p1, p2, p3, _⟩ := HX.out
      have HCW := hide (HH.out.below HR.out.be)
      have ha0 : 0 ≤ a ∧ a ≤ nx + 401 := by have h1 := HR.out.an; have h2 := HR.out.bl; omega
      by_cases h46 : 46 < p.lf
      · obtain ⟨n, rfl⟩ : ∃ n', n = n' + 1 := ⟨n - 1, by have := HR.out.lf; omega⟩
        have HRE : Hid (recS s.tk nx last = if (pcs (vw s.tk a)).bg = true ∨ (pcs (vw s.tk a)).st ≠ p.st + 1 ∨ (pcs (vw s.tk a)).lf ≠ p.lf - 46 then none else recG s.tk n (a + 1) (pcs (vw s.tk a)) (b ++ (pcs (vw s.tk a)).own)) := hide (by rw [HR.out.re, recG_on h46])
        have HQB : Hid ((0 ≤ (pcs (vw s.tk a)).lf ∧ (pcs (vw s.tk a)).lf ≤ 32767) ∧ (0 ≤ (pcs (vw s.tk a)).st ∧ (pcs (vw s.tk a)).st ≤ 1152921504606846976) ∧ ((pcs (vw s.tk a)).own.length : Int) = min (pcs (vw s.tk a)).lf 46) := hide ⟨lfO_bd (HH.out.blk a), st_bd (HH.out.blk a), own_len (HH.out.blk a)⟩
        go_upto_region 9 with (first | (go_at_call 65; refine (piece_any a _ HCW.out).mono ?_; rintro e W3 ⟨ad2, m2, rfl, hs1, hf1, hb1⟩; have HS3 := hide hs1; have HB3 := hide hb1; clear hs1 hf1 hb1))
        generalize hpp : pcs (vw s.tk a) = q at HRE HQB HS3 ⊢
        clear hpp p0 p1 p2 p3
        have hal := (Below.refl W3.heap.size W3).alloc (Nat.le_refl _) (.cells #[.int .i64 q.st, .bool q.bg, .int .i64 q.lf, .slice ad2 m2 m2] 122)
        have HM4 := hide (b4_new W3 (.int .i64 q.st) (.bool q.bg) (.int .i64 q.lf) (.slice ad2 m2 m2) 122)
        have HB4 := hide (bt HB3.out hal)
        have HS4 := hide (HS3.out.below hal)
        have HX4 := hide (HX.out.below HB4.out)
        have HBB4 := hide (HR.out.bb.below HB4.out)
        have HBE4 := hide (bt HR.out.be HB4.out)
        have HMW : Hid (wr.heap.size ≤ W3.heap.size) := hide HB3.out.size
        have HPW : Hid (P < wr.heap.size) := hide HX.out.lt
        have HMH : Hid ((W3.alloc (.cells #[.int .i64 q.st, .bool q.bg, .int .i64 q.lf, .slice ad2 m2 m2] 122)).heap[W3.heap.size]? = some (.cells #[.int .i64 q.st, .bool q.bg, .int .i64 q.lf, .slice ad2 m2 m2] 122 (0, 0))) := hide Array.getElem?_push_size
        clear hal HB3 HS3 HCW HX
        generalize W3.alloc (.cells #[.int .i64 q.st, .bool q.bg, .int .i64 q.lf, .slice ad2 m2 m2] 122) = W4 at HM4 HB4 HS4 HX4 HBB4 HBE4 HMH ⊢
        generalize W3.heap.size = M at HM4 HMW HMH ⊢
        obtain ⟨q0, q1, q2, q3, _⟩ := HM4.out
        obtain ⟨p0, p1, p2, p3, pf⟩ := HX4.out
        have hps := HR.out.st
        have hlu : p.lf ≤ 20000 := by have h1 := HR.out.lf; have h2 := HR.out.bl; omega
        by_cases hbad : q.bg = true ∨ q.st ≠ p.st + 1 ∨ q.lf ≠ p.lf - 46
        · have HRN : Hid (recS s.tk nx last = none) := hide (by rw [HRE.out, if_pos hbad])
          have hcs : q.bg = true ∨ q.bg = false ∧ ((q.st == p.st + 1) = false ∨ (q.st == p.st + 1) = true ∧ (q.lf == p.lf - 46) = false) := by
            cases hb : q.bg
            · refine .inr ⟨rfl, ?_⟩
              rw [hb] at hbad
              by_cases h1 : q.st = p.st + 1
              · exact .inr ⟨by simp [h1], by have := (hbad.resolve_left (by simp)).resolve_left (fun h => h h1); simpa using this⟩
              · exact .inl (by simp [h1])
            · exact .inl rfl
          have hl0 := HR.out.l0
          clear hbad HRE HQB HR HMH HBB4 HS4 pf
          generalize q.bg = bg at q1 hcs HM4 ⊢
          generalize q.st = qs at q0 hcs HM4 ⊢
          generalize q.lf = ql at q2 hcs HM4 ⊢
          generalize p.st = st at p0 hcs hps HX4 ⊢
          generalize p.lf = lf at p2 h46 hl0 hlu hcs HX4 ⊢
          rcases hcs with hb | ⟨hb, hc | ⟨hc, hc2⟩⟩ <;> subst hb
          all_goals
            go_wp2
            all_goals go_ret3
            all_goals exact ⟨by rw [HRN.out]; rfl, HBE4.out⟩
        · have hbg : q.bg = false := by cases hb : q.bg; rfl; exact absurd (.inl hb) hbad
          have hst : q.st = p.st + 1 := Decidable.byContradiction (fun h => hbad (.inr (.inl h)))
          have hlf : q.lf = p.lf - 46 := Decidable.byContradiction (fun h => hbad (.inr (.inr h)))
          obtain ⟨⟨hl0, _⟩, hst2, hol⟩ := HQB.out
          have HOL : Hid (0 < q.own.length ∧ q.own.length ≤ 46) := hide (by omega)
          have HRE2 : Hid (recS s.tk nx last = recG s.tk n (a + 1) q (b ++ q.own)) := hide (by rw [HRE.out, if_neg hbad])
          have HB0 : Hid (0 < b.length ∧ b.length + q.own.length ≤ 1000000) := hide ⟨HR.out.b0 h46, by have := HR.out.bl; have := HOL.out; omega⟩
          have HNEXT : Hid (q.lf ≤ 46 * ((n : Int) + 1) ∧ 0 ≤ q.lf ∧ (0 ≤ q.st ∧ q.st ≤ 1152921504606846976) ∧ a + 1 + n = nx + 401 ∧ ((b ++ q.own).length : Int) + 46 * n ≤ 18446 ∧ (46 < q.lf → 0 < (b ++ q.own).length)) := hide (by
            have h1 := HR.out.lf; have h2 := HR.out.an; have h3 := HR.out.bl; have h4 := HOL.out; have h5 := HB0.out
            rw [List.length_append]
            exact ⟨by omega, hl0, hst2, by omega, by omega, fun _ => by omega⟩)
          have hbq : (q.st == p.st + 1) = true := by simp [hst]
          have hbl : (q.lf == p.lf - 46) = true := by simp [hlf]
          have han := HR.out.an
          have HST := hide hst
          clear hbad HRE HQB hol hst2 hl0 hst hlf
          rw [hbg] at q1
          have HPP : Hid (P + 1 ≤ W4.heap.size ∧ w.heap.size ≤ P) := hide ⟨by have := HX4.out.lt; omega, HR.out.wp⟩
          go_upto_region 12 with (first | (at_builtin; refine wpList_bb (B := P + 1) _ rfl _ _ rfl _ _ b q.own rfl rfl HPP.out.1 HBB4.out HS4.out HOL.out.1 HB0.out.1 HB0.out.2 ?_; intro v5 W5 row ho5 hg5 hr5; have HO5 := hide ho5; have HG5 := hide (And.intro hg5 hr5); clear ho5 hg5 hr5))
          have HX5 := hide (HX4.out.keepB (HG5.out.1.block P HX4.out.lt (fun e => by have := (HG5.out.2 P e.symm).1; omega)))
          have HM5 := hide (HM4.out.keepB (HG5.out.1.block M HM4.out.lt (fun e => by
            obtain ⟨_, cur, h3⟩ := HG5.out.2 M e.symm
            have := HMH.out.symm.trans h3
            simp at this)))
          have HBE5 : Hid (Below w.heap.size w W5) := hide (HBE4.out.grown HG5.out.1 HBE4.out.size (fun j e => by have := (HG5.out.2 j e).1; have := HPP.out.2; omega))
          clear q0 q1 q2 q3 p0 p1 p2 p3 pf HX4 HM4 HBE4 HG5 HBB4 HS4 HB4 hbq hbl
          obtain ⟨q0, q1, q2, q3, _⟩ := HM5.out
          obtain ⟨p0, p1, p2, p3, pf⟩ := HX5.out
          have f0 := pf 0
          have f1 := pf 1
          have f2 := pf 2
          have f3 := pf 3
          clear pf
          rw [hbg] at q1
          have HX6 := hide (HX5.out.all (.int .i64 (p.st + 1)) (.bool false) (.int .i64 q.lf) (.slice ad2 m2 m2))
          have HBE6 := hide (set4_below HBE5.out HPP.out.2 (.int .i64 (p.st + 1)) (.bool false) (.int .i64 q.lf) (.slice ad2 m2 m2))
          have HO6 : Hid (((((W5.setCell ⟨P, 0, none⟩ (.int .i64 (p.st + 1))).setCell ⟨P, 1, none⟩ (.bool false)).setCell ⟨P, 2, none⟩ (.int .i64 q.lf)).setCell ⟨P, 3, none⟩ (.slice ad2 m2 m2)).ownsRow (P + 1) 5 1 v5 (b ++ q.own).length (bv (b ++ q.own))) := hide (by
            have h := HO5.out
            exact ⟨h.1, h.2.imp id (fun ⟨g, cap, cur, a1, a2, a3, a4⟩ => ⟨g, cap, cur, a1, a2, (set4_heap (by omega) _ _ _ _).trans a3, a4⟩)⟩)
          clear HX5 HBE5 HM5
          go_wp2
          exact ⟨⟨n, q, a + 1, b ++ q.own, ad2, m2, by go_num, ⟨.inr HO6.out, fr_own HO5.out (Nat.le_succ_of_le HPP.out.2), by rw [hbg, HST.out]; exact HX6.out, HRE2.out, HNEXT.out.1, HNEXT.out.2.1, HNEXT.out.2.2.1, HNEXT.out.2.2.2.1, HNEXT.out.2.2.2.2.1, HNEXT.out.2.2.2.2.2, HBE6.out, HPP.out.2⟩⟩, by simp [iv]; omega⟩
      · have HRE : Hid (recS s.tk nx last = some (b, p.st)) := hide (by rw [HR.out.re, recG_end h46])
        have HSL := hide HR.out.bb.sl
        have HFR := hide HR.out.fr
        have HBE := hide HR.out.be
        clear HCW HR
        generalize p.st = st at p0 HRE HX ⊢
        generalize p.lf = lf at p2 h46 HX ⊢
        go_wp2_with fail
        go_quiet (fail)
        go_wp2
        go_ret3
        have hd := below_drewN (Below.refl wr.heap.size wr) nq
        exact ⟨by rw [HRE.out]; exact ⟨vad, b.length, vk, rfl, HSL.out.below hd, HFR.out⟩, HBE.out.trans (hd.mono HBE.out.size)⟩
end Go.Proofs.YtoamghncncalgaaGreatDoor
