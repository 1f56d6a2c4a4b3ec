/-
  A STAMP AS BYTES (chain.edgeOf), and a block of a record (chain.blockOf). Conditions: a stamp not below 0, at most 2^62; at most 16448 bytes.
-/
import Derived.Test.YtmgfcgknajehaaaChP
namespace Go.Proofs.Ytmgfcgknajehaaa
open Go.RowKit

theorem dig_cons : ∀ (k : Nat) (x : Int), 0 ≤ x → dig (k + 1) x = (x / 256 ^ k % 256) :: dig k x
  | 0, x, _ => by simp [dig]
  | k + 1, x, h => by
    have ih := dig_cons k (x / 256) (by omega)
    rw [dig, ih]
    rw [Int.ediv_ediv_of_nonneg (by decide), show (256 : Int) * 256 ^ k = 256 ^ (k + 1) by rw [Int.pow_succ, Int.mul_comm]]
    simp [dig]
theorem Rq.set1 {W : World} {g : Nat} {t : TypeId} {b : List Int} (h : Rq W g t b) (i : Nat) (x : Int) : Rq (W.setCell ⟨g, i, none⟩ (.int .u8 x)) g t (b.set i x) := by
  have h' := h
  unfold Rq at h' ⊢
  rw [setCell_eq_setRow W g i _ t (0, 0) _ h', setRow_heap W g _ _ t (0, 0) h']
  congr 2
  simp [bv, List.map_set]
theorem Rq.at {W : World} {g : Nat} {t : TypeId} {b : List Int} (h : Rq W g t b) {i : Nat} (hi : i < b.length) : W.cell? ⟨g, i, none⟩ = some (.int .u8 b[i]) := by
  have h' := h
  unfold Rq at h'
  simp [World.cell?, h', bv, hi]
theorem Rq.fz {W : World} {g : Nat} {t : TypeId} {b : List Int} (h : Rq W g t b) (i : Nat) : W.frozen? ⟨g, i, none⟩ = false := by
  have h' := h
  unfold Rq at h'
  simp only [World.frozen?, h']
  simp
/-- The last k bytes of a stamp lie in their places. -/
def low8 (k : Nat) (x : Int) : List Int := List.replicate (8 - k) 0 ++ dig k x
theorem low8_len {k : Nat} (h : k ≤ 8) (x : Int) : (low8 k x).length = 8 := by
  unfold low8; rw [List.length_append, List.length_replicate, dig_len]; omega
theorem low8_step {k : Nat} (h : k < 8) {x : Int} (hx : 0 ≤ x) : (low8 k x).set (7 - k) (x / 256 ^ k % 256) = low8 (k + 1) x := by
  unfold low8
  rw [dig_cons k x hx, show 8 - k = (7 - k) + 1 by omega, List.replicate_succ', List.append_assoc, List.set_append_right _ _ (by simp), List.length_replicate, Nat.sub_self, show 8 - (k + 1) = 7 - k by omega]
  rfl
theorem shr8 (x : Int) (k : Nat) : x / 2 ^ (8 * (k : Int)).toNat = x / 256 ^ k := by
  rw [show (8 * (k : Int)).toNat = 8 * k by omega, Int.pow_mul]
  rfl
set_option maxRecDepth 100000 in
set_option maxHeartbeats 8000000 in
theorem edgeOf_any (x : Int) (w : World) (h0 : 0 ≤ x) : Calls Try.prog 69 #[.int .i64 x] w fun e w' => e = .returned (.agg (bv (dig 8 x)).toArray) ∧ Below w.heap.size w w' := by
  have hs1 : (w.alloc (.cells (bv zr8).toArray 109)).heap.size = w.heap.size + 1 := by simp
  have HR0 : Hid (Rq ((w.alloc (.cells (bv zr8).toArray 109)).alloc (.cells (bv zr8).toArray 109)) w.heap.size 109 zr8) := hide ((Rq.new w 109 zr8).below ((Below.refl _ _).alloc (Nat.le_refl _) _))
  have HR1 : Hid (Rq ((w.alloc (.cells (bv zr8).toArray 109)).alloc (.cells (bv zr8).toArray 109)) (w.heap.size + 1) 109 zr8) := hide (by have := Rq.new (w.alloc (.cells (bv zr8).toArray 109)) 109 zr8; rwa [hs1] at this)
  have HBL : Hid (Below w.heap.size w ((w.alloc (.cells (bv zr8).toArray 109)).alloc (.cells (bv zr8).toArray 109))) := hide (((Below.refl _ _).alloc (Nat.le_refl _) _).alloc (by simp) _)
  go_enter Try.func69, Try.ntmps69
  go_wp2_with (first | (refine wpList_allocE _ rfl rfl ?_))
  clear hs1
  generalize ((w.alloc (.cells (bv zr8).toArray 109)).alloc (.cells (bv zr8).toArray 109)) = W2 at HR0 HR1 HBL ⊢
  go_loopw [5] (fun i W => ∃ k : Nat, k ≤ 8 ∧ i = .int .i64 k ∧ Rq W w.heap.size 109 zr8 ∧ Rq W (w.heap.size + 1) 109 (low8 k x) ∧ Below w.heap.size w W) (fun i _ => 8 - (iv i).toNat)
  case atStart => exact ⟨0, by omega, rfl, HR0.out, HR1.out, HBL.out⟩
  case round =>
    obtain ⟨k, hk, rfl, hr0, hr1, hb⟩ := hrel
    have HR0 := hide hr0
    have HR1 := hide hr1
    have HB := hide hb
    clear hr0 hr1 hb
    by_cases hlt : k < 8
    · have hln := low8_len (x := x) hk
      have c0 := HR1.out.at (i := 7 - k) (by rw [hln]; omega)
      have f0 := HR1.out.fz (7 - k)
      have HS := hide (HR1.out.set1 (7 - k) (x / 256 ^ k % 256))
      rw [low8_step hlt h0] at HS
      have HSO : Hid (Rq (wr.setCell ⟨w.heap.size + 1, 7 - k, none⟩ (.int .u8 (x / 256 ^ k % 256))) w.heap.size 109 zr8) := hide (HR0.out.keep (Below.heap_setCell _ _ _ _ (by simp)))
      have hsh := shr8 x k
      have h7 : (7 - (k : Int)).toNat = 7 - k := by omega
      have hi7 : 0 ≤ 7 - (k : Int) := by omega
      generalize (low8 k x)[7 - k]'(by rw [hln]; omega) = y at c0
      clear hln
      go_wp2
      exact ⟨⟨k + 1, by omega, by go_num, HSO.out, HS.out, HB.out.setCell (by simp) _⟩, by simp [iv]; omega⟩
    · obtain rfl : k = 8 := by omega
      have H8 : Hid ((dig 8 x).length = 8) := hide (dig_len 8 x)
      have HR1' : Hid (Rq wr (w.heap.size + 1) 109 (dig 8 x)) := hide HR1.out
      clear HR1
      go_wp2_with (first | (refine wpList_loadE _ rfl _ rfl (w.heap.size + 1) _ _ rfl HR1'.out H8.out ?_) | (refine wpList_storeE _ rfl _ _ rfl w.heap.size _ _ _ rfl rfl HR0.out rfl H8.out ?_))
      exact bodyPost_ret (v := .agg (bv (dig 8 x)).toArray) (results_cell_row Try.results69 _ _ w.heap.size _ (bv (dig 8 x)).toArray (0, 0) _ rfl (HR0.out.set _) Try.underlying109 rfl (by rw [infoE]; simp only [List.size_toArray, bv_len, H8.out])) rfl ⟨rfl, setRow_below HB.out (Nat.le_refl _) _⟩
theorem blk_r1 {e : List Int} (he : e.length = 8) : zer.take 0 ++ (e.take 64 ++ zer.drop (0 + Nat.min e.length 64)) = e ++ List.replicate 56 0 := by
  rw [he, List.take_zero, List.nil_append, List.take_of_length_le (show e.length ≤ 64 by omega)]
  rfl
theorem blk_r2 {e : List Int} (he : e.length = 8) (x y : Int) : ((e ++ List.replicate 56 0).set 8 x).set 9 y = e ++ ([x, y] ++ List.replicate 54 0) := by
  rw [List.set_append_right _ _ (by omega), List.set_append_right _ _ (by omega), he]
  rfl
theorem blk_r3 {e : List Int} (he : e.length = 8) (x y : Int) (r : List Int) : (e ++ ([x, y] ++ List.replicate 54 0)).take 10 ++ (r.take 46 ++ (e ++ ([x, y] ++ List.replicate 54 0)).drop (10 + Nat.min r.length 46)) = e ++ ([x, y] ++ (r.take 46 ++ List.replicate (54 - Nat.min r.length 46) 0)) := by
  have e1 : (e ++ ([x, y] ++ List.replicate 54 0)).take 10 = e ++ [x, y] := by
    rw [← List.append_assoc, List.take_append_of_le_length (by simp [he]), List.take_of_length_le (by simp [he])]
  have e2 : (e ++ ([x, y] ++ List.replicate 54 0)).drop (10 + Nat.min r.length 46) = List.replicate (54 - Nat.min r.length 46) 0 := by
    rw [← List.append_assoc, List.drop_append, List.drop_of_length_le (by simp [he]), List.nil_append, List.drop_replicate]
    congr 1
    simp [he]
  rw [e1, e2, List.append_assoc]
theorem blk_r4 {e : List Int} (he : e.length = 8) (x y : Int) (r : List Int) : (e ++ ([x, y] ++ (r.take 46 ++ List.replicate (54 - Nat.min r.length 46) 0))).take 56 ++ (e.take 8 ++ (e ++ ([x, y] ++ (r.take 46 ++ List.replicate (54 - Nat.min r.length 46) 0))).drop (56 + Nat.min e.length 8)) = e ++ ([x, y] ++ ((r.take 46 ++ List.replicate (46 - r.length) 0) ++ e)) := by
  have hm : (r.take 46).length = Nat.min r.length 46 := by rw [List.length_take, Nat.min_comm]
  have hmm : Nat.min r.length 46 ≤ 46 := Nat.min_le_right _ _
  have e1 : (e ++ ([x, y] ++ (r.take 46 ++ List.replicate (54 - Nat.min r.length 46) 0))).take 56 = e ++ ([x, y] ++ (r.take 46 ++ List.replicate (46 - r.length) 0)) := by
    rw [List.take_append, List.take_of_length_le (by omega), he, List.take_append, List.take_of_length_le (by simp), List.take_append, List.take_of_length_le (by simp [hm]; omega), List.take_replicate, hm]
    congr 4
    have h : Nat.min r.length 46 = min r.length 46 := rfl
    rw [h] at *
    simp only [List.length_cons, List.length_nil]
    omega
  have e2 : (e ++ ([x, y] ++ (r.take 46 ++ List.replicate (54 - Nat.min r.length 46) 0))).drop (56 + Nat.min e.length 8) = [] := by
    rw [he]
    apply List.drop_of_length_le
    simp only [List.length_append, List.length_cons, List.length_nil, List.length_replicate, hm, he]
    have : Nat.min 8 8 = 8 := rfl
    omega
  rw [e1, e2, show e.take 8 = e from List.take_of_length_le (by omega), List.append_nil, List.append_assoc, List.append_assoc]
theorem make64c (W : World) : (Instr.makeSlice 27 (.int .i64 64) (.int .i64 64)).run Try.prog W = .ok (.slice (some ⟨W.heap.size, 0, none⟩) 64 64) (W.alloc (.cells (bv zer).toArray 5)) := by kernel_rfl
set_option maxRecDepth 100000 in
set_option maxHeartbeats 8000000 in
theorem blockOf_false (st : Int) (v : Value) (r : List Int) (w : World) (h0 : 0 ≤ st) (hv : Sl bc w v r) (hl : r.length ≤ 16448) : Calls Try.prog 60 #[.int .i64 st, .bool false, v] w fun e w' => ∃ g, e = .returned (.slice (some ⟨g, 0, none⟩) 64 64) ∧ Rq w' g 5 (blkOf st false r) ∧ w.heap.size ≤ g ∧ Below w.heap.size w w' := by
  obtain ⟨ao, cap, rfl⟩ := hv.form
  have HV := hide hv
  have hmk := make64c
  have H8 : Hid ((dig 8 st).length = 8) := hide (dig_len 8 st)
  clear hv
  go_enter Try.func60, Try.ntmps60
  go_upto_region 2 with (first | (go_at_call 69; refine (edgeOf_any st _ h0).mono ?_; rintro e W1 ⟨rfl, hb1⟩; have HB1 := hide hb1; clear hb1) | (refine wpList_allocE _ rfl rfl ?_) | (refine wpList_storeE _ rfl _ _ rfl W1.heap.size _ _ _ rfl rfl (Rq.new _ _ _) rfl H8.out ?_))
  have HE2 := hide ((Rq.new W1 109 zr8).set (dig 8 st))
  have HB2 := hide (setRow_below (HB1.out.alloc (by have := HB1.out.size; omega) (.cells (bv zr8).toArray 109)) (g := W1.heap.size) HB1.out.size (bv (dig 8 st)).toArray)
  have HGE : Hid (w.heap.size ≤ W1.heap.size) := hide HB1.out.size
  generalize (W1.alloc (.cells (bv zr8).toArray 109)).setRow W1.heap.size (bv (dig 8 st)).toArray = W2 at HE2 HB2 ⊢
  generalize W1.heap.size = ge at HE2 HGE ⊢
  clear HB1
  go_upto_region 5 with fail
  clear hmk
  have HE3 := hide (HE2.out.below ((Below.refl _ _).alloc (Nat.le_refl _) (.cells (bv zer).toArray 5)))
  have HZ3 := hide (Rq.new W2 5 zer)
  have HB3 := hide (HB2.out.alloc (by have := HB2.out.size; omega) (.cells (bv zer).toArray 5))
  have HG3 : Hid (ge < W2.heap.size ∧ w.heap.size ≤ W2.heap.size) := hide ⟨HE2.out.lt, HB2.out.size⟩
  generalize W2.alloc (.cells (bv zer).toArray 5) = W3 at HE3 HZ3 HB3 ⊢
  generalize W2.heap.size = g at HZ3 HG3 ⊢
  clear HE2 HB2
  have HR1 := hide (blk_r1 H8.out)
  go_upto_region 6 with (first | (refine wpList_copyR _ rfl _ _ rfl g 0 64 64 5 zer (dig 8 st) _ rfl rfl HZ3.out (HE3.out.all H8.out.symm) (by decide) ?_; rw [HR1.out]))
  have HE4 := hide (HE3.out.setO (k := g) (by have := HG3.out; omega) (bv (dig 8 st ++ List.replicate 56 0)).toArray)
  have HZ4 := hide (HZ3.out.set (dig 8 st ++ List.replicate 56 0))
  have HB4 := hide (setRow_below HB3.out (g := g) HG3.out.2 (bv (dig 8 st ++ List.replicate 56 0)).toArray)
  generalize W3.setRow g (bv (dig 8 st ++ List.replicate 56 0)).toArray = W4 at HE4 HZ4 HB4 ⊢
  clear HE3 HZ3 HB3 HR1
  have HL4 : Hid ((dig 8 st ++ List.replicate 56 0).length = 64) := hide (by rw [List.length_append, H8.out]; rfl)
  have c8 := HZ4.out.at (i := 8) (by rw [HL4.out]; decide)
  have f8 := HZ4.out.fz 8
  have c9 := HZ4.out.at (i := 9) (by rw [HL4.out]; decide)
  have f9 := HZ4.out.fz 9
  have HS6 := hide ((HZ4.out.set1 8 ((r.length : Int) / 256)).set1 9 ((r.length : Int) % 256))
  rw [blk_r2 H8.out] at HS6
  have HE6 := hide ((HE4.out.keep (W' := W4.setCell ⟨g, 8, none⟩ (.int .u8 ((r.length : Int) / 256))) (Below.heap_setCell _ _ _ _ (by have := HG3.out; simp; omega))).keep (W' := (W4.setCell ⟨g, 8, none⟩ (.int .u8 ((r.length : Int) / 256))).setCell ⟨g, 9, none⟩ (.int .u8 ((r.length : Int) % 256))) (Below.heap_setCell _ _ _ _ (by have := HG3.out; simp; omega)))
  have HB6 := hide ((HB4.out.setCell (p := ⟨g, 8, none⟩) HG3.out.2 (.int .u8 ((r.length : Int) / 256))).setCell (p := ⟨g, 9, none⟩) HG3.out.2 (.int .u8 ((r.length : Int) % 256)))
  have hm1 : ((r.length : Int)) / 256 % 256 = (r.length : Int) / 256 := by omega
  skip
  generalize (dig 8 st ++ List.replicate 56 0)[8]'(by rw [HL4.out]; decide) = y8 at c8
  generalize (dig 8 st ++ List.replicate 56 0)[9]'(by rw [HL4.out]; decide) = y9 at c9
  go_upto_region 7 with fail
  clear c8 f8 c9 f9 HE4 HZ4 HB4 HL4 hm1
  generalize (W4.setCell ⟨g, 8, none⟩ (.int .u8 ((r.length : Int) / 256))).setCell ⟨g, 9, none⟩ (.int .u8 ((r.length : Int) % 256)) = W6 at HS6 HE6 HB6 ⊢
  have HR3 := hide (blk_r3 H8.out ((r.length : Int) / 256) ((r.length : Int) % 256) r)
  have HL6 : Hid ((dig 8 st ++ ([(r.length : Int) / 256, (r.length : Int) % 256] ++ List.replicate 54 0)).length = 64) := hide (by rw [List.length_append, H8.out]; rfl)
  have HV6 := hide (HV.out.below HB6.out)
  go_upto_region 8 with (first | (refine wpList_copyR _ rfl _ _ rfl g 10 46 54 5 _ r _ rfl rfl HS6.out HV6.out (by rw [HL6.out]; decide) ?_; rw [HR3.out]))
  generalize hq : dig 8 st ++ ([(r.length : Int) / 256, (r.length : Int) % 256] ++ (r.take 46 ++ List.replicate (54 - Nat.min r.length 46) 0)) = q at HR3 ⊢
  have HS7 := hide (HS6.out.set q)
  have HE7 := hide (HE6.out.setO (k := g) (by have := HG3.out; omega) (bv q).toArray)
  have HB7 := hide (setRow_below HB6.out (g := g) HG3.out.2 (bv q).toArray)
  have HR4 : Hid (q.take 56 ++ ((dig 8 st).take 8 ++ q.drop (56 + Nat.min (dig 8 st).length 8)) = blkOf st false r) := hide (by rw [← hq, blk_r4 H8.out]; unfold blkOf; simp)
  have HQL : Hid (q.length = 64) := hide (by have h1 := congrArg List.length HR3.out; rw [← h1]; have h2 : Nat.min r.length 46 ≤ 46 := Nat.min_le_right _ _; have h3 := HL6.out; rw [List.length_append, List.length_append, List.length_take, List.length_take, List.length_drop, h3]; have h4 : min 46 r.length = Nat.min r.length 46 := Nat.min_comm _ _; omega)
  generalize W6.setRow g (bv q).toArray = W7 at HS7 HE7 HB7 ⊢
  clear HS6 HE6 HB6 HV6 HV HR3 HL6 hq
  refine wp_region_held_drew (S := fun _ => True) (by kernel_rfl) trivial (fun hHeld => ?_)
  have hdw : Below W7.heap.size W7 W7.drew := (Below.refl _ _).drew
  have HS8 := hide (HS7.out.below hdw)
  have HE8 := hide (HE7.out.below hdw)
  have HB8 := hide (HB7.out.trans (hdw.mono HB7.out.size))
  generalize W7.drew = W8 at HS8 HE8 HB8 hHeld ⊢
  clear HS7 HE7 HB7 hdw
  refine wpAnyH_take (i := 0) (oi := _) (v := .slice (some ⟨g, 0, none⟩) 64 64) rfl (by kernel_rfl) (by kernel_rfl) (by kernel_rfl) (fun _ _ _ h => h) (Or.inl ⟨by rfl, by intro w hSw; go_simp⟩) hHeld ?_
  change wpAnyH _ _ _ _ _ _ _ (Act.put _ (some 34) _) _
  simp only [Act.put, List.setIfInBounds_toArray, List.set_cons_zero, List.set_cons_succ]
  refine wpAnyH_take (i := 1) (oi := _) (v := .slice (some ⟨g, 56, none⟩) 8 8) rfl (by kernel_rfl) (by kernel_rfl) (by kernel_rfl) (fun _ _ _ h => h) (Or.inl ⟨by rfl, by intro w hSw; go_simp⟩) hHeld ?_
  change wpAnyH _ _ _ _ _ _ _ (Act.put _ (some 35) _) _
  simp only [Act.put, List.setIfInBounds_toArray, List.set_cons_zero, List.set_cons_succ]
  refine wpAnyH_take (i := 2) (oi := _) (v := .slice (some ⟨ge, 0, none⟩) 8 8) rfl (by kernel_rfl) (by kernel_rfl) (by kernel_rfl) (fun _ _ _ h => h) (Or.inl ⟨by rfl, by intro w hSw; go_simp⟩) hHeld ?_
  change wpAnyH _ _ _ _ _ _ _ (Act.put _ (some 36) _) _
  simp only [Act.put, List.setIfInBounds_toArray, List.set_cons_zero, List.set_cons_succ]
  refine wpAnyH_ready (rs := [3]) (by kernel_rfl) (by simp) ?_
  refine AllReadyH.cons (o := _) rfl (fun K hK => ?_) AllReadyH.nil
  refine step_copyR rfl _ _ rfl g 56 8 8 5 q (dig 8 st) _ rfl rfl HS8.out (HE8.out.all H8.out.symm) (by rw [HQL.out]; decide) ?_
  rw [HR4.out]
  refine hK.out _ _ trivial (fun hHeld1 => ?_)
  clear hK K hHeld
  have hHeld := hHeld1
  clear hHeld1
  refine wpAnyH_done (by kernel_rfl) ?_ _
  clear hHeld
  have HS9 := hide (HS8.out.set (blkOf st false r))
  have HB9 := hide (setRow_below HB8.out (g := g) HG3.out.2 (bv (blkOf st false r)).toArray)
  generalize W8.setRow g (bv (blkOf st false r)).toArray = W9 at HS9 HB9 ⊢
  go_wp2
  go_ret
  exact ⟨g, rfl, HS9.out, HG3.out.2, HB9.out⟩
set_option maxRecDepth 100000 in
set_option maxHeartbeats 8000000 in
theorem blockOf_true (st : Int) (v : Value) (r : List Int) (w : World) (h0 : 0 ≤ st) (hv : Sl bc w v r) (hl : r.length ≤ 16448) : Calls Try.prog 60 #[.int .i64 st, .bool true, v] w fun e w' => ∃ g, e = .returned (.slice (some ⟨g, 0, none⟩) 64 64) ∧ Rq w' g 5 (blkOf st true r) ∧ w.heap.size ≤ g ∧ Below w.heap.size w w' := by
  obtain ⟨ao, cap, rfl⟩ := hv.form
  have HV := hide hv
  have hmk := make64c
  have H8 : Hid ((dig 8 st).length = 8) := hide (dig_len 8 st)
  clear hv
  have hor : bits .or .i64 (r.length : Int) 32768 = (r.length : Int) + 32768 := or15 (by omega) (by omega)
  go_enter Try.func60, Try.ntmps60
  go_upto_region 2 with (first | (go_at_call 69; refine (edgeOf_any st _ h0).mono ?_; rintro e W1 ⟨rfl, hb1⟩; have HB1 := hide hb1; clear hb1) | (refine wpList_allocE _ rfl rfl ?_) | (refine wpList_storeE _ rfl _ _ rfl W1.heap.size _ _ _ rfl rfl (Rq.new _ _ _) rfl H8.out ?_))
  have HE2 := hide ((Rq.new W1 109 zr8).set (dig 8 st))
  have HB2 := hide (setRow_below (HB1.out.alloc (by have := HB1.out.size; omega) (.cells (bv zr8).toArray 109)) (g := W1.heap.size) HB1.out.size (bv (dig 8 st)).toArray)
  have HGE : Hid (w.heap.size ≤ W1.heap.size) := hide HB1.out.size
  generalize (W1.alloc (.cells (bv zr8).toArray 109)).setRow W1.heap.size (bv (dig 8 st)).toArray = W2 at HE2 HB2 ⊢
  generalize W1.heap.size = ge at HE2 HGE ⊢
  clear HB1
  go_upto_region 5 with fail
  clear hmk
  have HE3 := hide (HE2.out.below ((Below.refl _ _).alloc (Nat.le_refl _) (.cells (bv zer).toArray 5)))
  have HZ3 := hide (Rq.new W2 5 zer)
  have HB3 := hide (HB2.out.alloc (by have := HB2.out.size; omega) (.cells (bv zer).toArray 5))
  have HG3 : Hid (ge < W2.heap.size ∧ w.heap.size ≤ W2.heap.size) := hide ⟨HE2.out.lt, HB2.out.size⟩
  generalize W2.alloc (.cells (bv zer).toArray 5) = W3 at HE3 HZ3 HB3 ⊢
  generalize W2.heap.size = g at HZ3 HG3 ⊢
  clear HE2 HB2
  have HR1 := hide (blk_r1 H8.out)
  go_upto_region 6 with (first | (refine wpList_copyR _ rfl _ _ rfl g 0 64 64 5 zer (dig 8 st) _ rfl rfl HZ3.out (HE3.out.all H8.out.symm) (by decide) ?_; rw [HR1.out]))
  have HE4 := hide (HE3.out.setO (k := g) (by have := HG3.out; omega) (bv (dig 8 st ++ List.replicate 56 0)).toArray)
  have HZ4 := hide (HZ3.out.set (dig 8 st ++ List.replicate 56 0))
  have HB4 := hide (setRow_below HB3.out (g := g) HG3.out.2 (bv (dig 8 st ++ List.replicate 56 0)).toArray)
  generalize W3.setRow g (bv (dig 8 st ++ List.replicate 56 0)).toArray = W4 at HE4 HZ4 HB4 ⊢
  clear HE3 HZ3 HB3 HR1
  have HL4 : Hid ((dig 8 st ++ List.replicate 56 0).length = 64) := hide (by rw [List.length_append, H8.out]; rfl)
  have c8 := HZ4.out.at (i := 8) (by rw [HL4.out]; decide)
  have f8 := HZ4.out.fz 8
  have c9 := HZ4.out.at (i := 9) (by rw [HL4.out]; decide)
  have f9 := HZ4.out.fz 9
  have HS6 := hide ((HZ4.out.set1 8 (((r.length : Int) + 32768) / 256)).set1 9 ((r.length : Int) % 256))
  rw [blk_r2 H8.out] at HS6
  have HE6 := hide ((HE4.out.keep (W' := W4.setCell ⟨g, 8, none⟩ (.int .u8 (((r.length : Int) + 32768) / 256))) (Below.heap_setCell _ _ _ _ (by have := HG3.out; simp; omega))).keep (W' := (W4.setCell ⟨g, 8, none⟩ (.int .u8 (((r.length : Int) + 32768) / 256))).setCell ⟨g, 9, none⟩ (.int .u8 ((r.length : Int) % 256))) (Below.heap_setCell _ _ _ _ (by have := HG3.out; simp; omega)))
  have HB6 := hide ((HB4.out.setCell (p := ⟨g, 8, none⟩) HG3.out.2 (.int .u8 (((r.length : Int) + 32768) / 256))).setCell (p := ⟨g, 9, none⟩) HG3.out.2 (.int .u8 ((r.length : Int) % 256)))
  have hm1 : ((r.length : Int) + 32768) / 256 % 256 = ((r.length : Int) + 32768) / 256 := by omega
  have hm2 : ((r.length : Int) + 32768) % 256 = (r.length : Int) % 256 := by omega
  generalize (dig 8 st ++ List.replicate 56 0)[8]'(by rw [HL4.out]; decide) = y8 at c8
  generalize (dig 8 st ++ List.replicate 56 0)[9]'(by rw [HL4.out]; decide) = y9 at c9
  go_upto_region 7 with fail
  clear c8 f8 c9 f9 HE4 HZ4 HB4 HL4 hm1 hm2 hor
  generalize (W4.setCell ⟨g, 8, none⟩ (.int .u8 (((r.length : Int) + 32768) / 256))).setCell ⟨g, 9, none⟩ (.int .u8 ((r.length : Int) % 256)) = W6 at HS6 HE6 HB6 ⊢
  have HR3 := hide (blk_r3 H8.out (((r.length : Int) + 32768) / 256) ((r.length : Int) % 256) r)
  have HL6 : Hid ((dig 8 st ++ ([((r.length : Int) + 32768) / 256, (r.length : Int) % 256] ++ List.replicate 54 0)).length = 64) := hide (by rw [List.length_append, H8.out]; rfl)
  have HV6 := hide (HV.out.below HB6.out)
  go_upto_region 8 with (first | (refine wpList_copyR _ rfl _ _ rfl g 10 46 54 5 _ r _ rfl rfl HS6.out HV6.out (by rw [HL6.out]; decide) ?_; rw [HR3.out]))
  generalize hq : dig 8 st ++ ([((r.length : Int) + 32768) / 256, (r.length : Int) % 256] ++ (r.take 46 ++ List.replicate (54 - Nat.min r.length 46) 0)) = q at HR3 ⊢
  have HS7 := hide (HS6.out.set q)
  have HE7 := hide (HE6.out.setO (k := g) (by have := HG3.out; omega) (bv q).toArray)
  have HB7 := hide (setRow_below HB6.out (g := g) HG3.out.2 (bv q).toArray)
  have HR4 : Hid (q.take 56 ++ ((dig 8 st).take 8 ++ q.drop (56 + Nat.min (dig 8 st).length 8)) = blkOf st true r) := hide (by rw [← hq, blk_r4 H8.out]; unfold blkOf; rw [show ((r.length : Int) + 32768) / 256 = (r.length : Int) / 256 + 128 by omega]; simp)
  have HQL : Hid (q.length = 64) := hide (by have h1 := congrArg List.length HR3.out; rw [← h1]; have h2 : Nat.min r.length 46 ≤ 46 := Nat.min_le_right _ _; have h3 := HL6.out; rw [List.length_append, List.length_append, List.length_take, List.length_take, List.length_drop, h3]; have h4 : min 46 r.length = Nat.min r.length 46 := Nat.min_comm _ _; omega)
  generalize W6.setRow g (bv q).toArray = W7 at HS7 HE7 HB7 ⊢
  clear HS6 HE6 HB6 HV6 HV HR3 HL6 hq
  refine wp_region_held_drew (S := fun _ => True) (by kernel_rfl) trivial (fun hHeld => ?_)
  have hdw : Below W7.heap.size W7 W7.drew := (Below.refl _ _).drew
  have HS8 := hide (HS7.out.below hdw)
  have HE8 := hide (HE7.out.below hdw)
  have HB8 := hide (HB7.out.trans (hdw.mono HB7.out.size))
  generalize W7.drew = W8 at HS8 HE8 HB8 hHeld ⊢
  clear HS7 HE7 HB7 hdw
  refine wpAnyH_take (i := 0) (oi := _) (v := .slice (some ⟨g, 0, none⟩) 64 64) rfl (by kernel_rfl) (by kernel_rfl) (by kernel_rfl) (fun _ _ _ h => h) (Or.inl ⟨by rfl, by intro w hSw; go_simp⟩) hHeld ?_
  change wpAnyH _ _ _ _ _ _ _ (Act.put _ (some 34) _) _
  simp only [Act.put, List.setIfInBounds_toArray, List.set_cons_zero, List.set_cons_succ]
  refine wpAnyH_take (i := 1) (oi := _) (v := .slice (some ⟨g, 56, none⟩) 8 8) rfl (by kernel_rfl) (by kernel_rfl) (by kernel_rfl) (fun _ _ _ h => h) (Or.inl ⟨by rfl, by intro w hSw; go_simp⟩) hHeld ?_
  change wpAnyH _ _ _ _ _ _ _ (Act.put _ (some 35) _) _
  simp only [Act.put, List.setIfInBounds_toArray, List.set_cons_zero, List.set_cons_succ]
  refine wpAnyH_take (i := 2) (oi := _) (v := .slice (some ⟨ge, 0, none⟩) 8 8) rfl (by kernel_rfl) (by kernel_rfl) (by kernel_rfl) (fun _ _ _ h => h) (Or.inl ⟨by rfl, by intro w hSw; go_simp⟩) hHeld ?_
  change wpAnyH _ _ _ _ _ _ _ (Act.put _ (some 36) _) _
  simp only [Act.put, List.setIfInBounds_toArray, List.set_cons_zero, List.set_cons_succ]
  refine wpAnyH_ready (rs := [3]) (by kernel_rfl) (by simp) ?_
  refine AllReadyH.cons (o := _) rfl (fun K hK => ?_) AllReadyH.nil
  refine step_copyR rfl _ _ rfl g 56 8 8 5 q (dig 8 st) _ rfl rfl HS8.out (HE8.out.all H8.out.symm) (by rw [HQL.out]; decide) ?_
  rw [HR4.out]
  refine hK.out _ _ trivial (fun hHeld1 => ?_)
  clear hK K hHeld
  have hHeld := hHeld1
  clear hHeld1
  refine wpAnyH_done (by kernel_rfl) ?_ _
  clear hHeld
  have HS9 := hide (HS8.out.set (blkOf st true r))
  have HB9 := hide (setRow_below HB8.out (g := g) HG3.out.2 (bv (blkOf st true r)).toArray)
  generalize W8.setRow g (bv (blkOf st true r)).toArray = W9 at HS9 HB9 ⊢
  go_wp2
  go_ret
  exact ⟨g, rfl, HS9.out, HG3.out.2, HB9.out⟩
theorem blockOf_any (st : Int) (bg : Bool) (v : Value) (r : List Int) (w : World) (h0 : 0 ≤ st) (hv : Sl bc w v r) (hl : r.length ≤ 16448) : Calls Try.prog 60 #[.int .i64 st, .bool bg, v] w fun e w' => ∃ g, e = .returned (.slice (some ⟨g, 0, none⟩) 64 64) ∧ Rq w' g 5 (blkOf st bg r) ∧ w.heap.size ≤ g ∧ Below w.heap.size w w' := by
  cases bg
  · exact blockOf_false st v r w h0 hv hl
  · exact blockOf_true st v r w h0 hv hl
end Go.Proofs.Ytmgfcgknajehaaa
