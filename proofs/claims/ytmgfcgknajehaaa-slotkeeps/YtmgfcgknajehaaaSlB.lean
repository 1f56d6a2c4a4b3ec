/-
  WHAT A SLOT'S BLOCK SAYS, AND THE BLOCK THAT SAYS IT (slot.saidOf, putTurn, block). Conditions: the cells hold bytes; a value of at most 47 bytes.
-/
import Derived.Test.YtmgfcgknajehaaaSlA
import Derived.Test.YtmgfcgknajehaaaChO
namespace Go.Proofs.Ytmgfcgknajehaaa
open Go.RowKit

/-- The slice of the value in the block g. -/
def SaidV (g : Nat) (v : Value) (b : List Int) : Prop := (v = .slice none 0 0 ∧ (said b).2 = []) ∨ ∃ n : Nat, v = .slice (some ⟨g, 9, none⟩) n 55 ∧ (said b).2 = (b.drop 9).take n ∧ n ≤ 47
theorem SaidV.form {g : Nat} {v : Value} {b : List Int} (h : SaidV g v b) : ∃ a n k, v = .slice a n k := by
  rcases h with ⟨e, _⟩ | ⟨n, e, _⟩ <;> exact ⟨_, _, _, e⟩
theorem SaidV.slp {P : Nat → Prop} {W : World} {g : Nat} {v : Value} {b : List Int} {t : TypeId} (h : SaidV g v b) (hr : Rq W g t b) (hl : b.length = 64) (hp : P g) : Slp P W v (said b).2 := by
  rcases h with ⟨e, e2⟩ | ⟨n, e, e2, hn⟩
  · exact .inl ⟨_, _, e, e2⟩
  · by_cases h0 : n = 0
    · subst h0
      exact .inl ⟨_, _, e, by rw [e2]; simp⟩
    · have hln : ((b.drop 9).take n).length = n := by rw [List.length_take, List.length_drop, hl]; omega
      rw [e2]
      refine .inr ⟨g, 9, 55, by rw [hln]; exact e, by omega, by omega, hp, fun i hi => ?_⟩
      rw [hr.at (i := 9 + i) (by omega)]
      simp [bc]
theorem dig_at : ∀ (n k : Nat) (x : Int) (h : k < (dig n x).length), 0 ≤ x → (dig n x)[k] = x / 256 ^ (n - 1 - k) % 256
  | 0, k, x, h, _ => by rw [dig_len] at h; omega
  | n + 1, 0, x, h, h0 => by simp only [dig_cons n x h0]; simp
  | n + 1, k + 1, x, h, h0 => by
    have e := dig_cons n x h0
    have h' : k < (dig n x).length := by rw [dig_len] at h ⊢; omega
    have := dig_at n k x h' h0
    simp only [e, List.getElem_cons_succ]
    rw [this, show n + 1 - 1 - (k + 1) = n - 1 - k by omega]
theorem pt_step {z D : List Int} {p k : Nat} (hk : k < D.length) (hz : p + k < z.length) : (z.take p ++ (D.take k ++ z.drop (p + k))).set (p + k) D[k] = z.take p ++ (D.take (k + 1) ++ z.drop (p + (k + 1))) := by
  have h1 : (z.take p).length = p := by rw [List.length_take]; omega
  have h2 : (D.take k).length = k := by rw [List.length_take]; omega
  rw [List.set_append_right _ _ (by omega), h1, List.set_append_right _ _ (by omega), h2, show p + k - p - k = 0 by omega, List.drop_eq_getElem_cons (by omega), List.set_cons_zero, List.take_succ_eq_append_getElem hk, List.append_assoc]
  rfl
theorem pt_len {z D : List Int} {p k : Nat} (hk : k ≤ D.length) (hz : p + k ≤ z.length) : (z.take p ++ (D.take k ++ z.drop (p + k))).length = z.length := by
  simp only [List.length_append, List.length_take, List.length_drop]
  omega
set_option maxRecDepth 100000 in
set_option maxHeartbeats 8000000 in
theorem putTurn_any (g p n cap : Nat) (t : TypeId) (z : List Int) (x : Int) (w : World) (h0 : 0 ≤ x) (hn : 8 ≤ n) (hp : p + 8 ≤ z.length) (hr : Rq w g t z) : Calls Try.prog 63 #[.slice (some ⟨g, p, none⟩) n cap, .int .i64 x] w fun e w' => e = .returned (.tuple #[]) ∧ Rq w' g t (z.take p ++ (dig 8 x ++ z.drop (p + 8))) ∧ Ba (fun k => k = g) w w' := by
  have HR := hide hr
  have H8 : Hid ((dig 8 x).length = 8) := hide (dig_len 8 x)
  clear hr
  go_enter Try.func63, Try.ntmps63
  go_wp2
  go_loopw [5] (fun i W => ∃ k : Nat, k ≤ 8 ∧ i = .int .i64 k ∧ Rq W g t (z.take p ++ ((dig 8 x).take k ++ z.drop (p + k))) ∧ Ba (fun k => k = g) w W) (fun i _ => 8 - (iv i).toNat)
  case atStart => exact ⟨0, by omega, rfl, by rw [List.take_zero, List.nil_append, Nat.add_zero, List.take_append_drop]; exact HR.out, Ba.refl _ _⟩
  case round =>
    clear HR
    obtain ⟨k, hk, rfl, hr1, hb⟩ := hrel
    have HR := hide hr1
    have HB := hide hb
    clear hr1 hb
    by_cases hlt : k < 8
    · have hkl : k < (dig 8 x).length := by rw [H8.out]; exact hlt
      have hln := pt_len (z := z) (D := dig 8 x) (p := p) (k := k) (by rw [H8.out]; omega) (by omega)
      have c0 := HR.out.at (i := p + k) (by rw [hln]; omega)
      have f0 := HR.out.fz (p + k)
      have HS := hide (HR.out.set1 (p + k) ((dig 8 x)[k]))
      rw [pt_step hkl (by omega), dig_at 8 k x hkl h0] at HS
      have hsh : x / 2 ^ (8 * (7 - (k : Int))).toNat = x / 256 ^ (8 - 1 - k) := by
        have i := shr8 x (7 - k)
        rw [show ((7 - k : Nat) : Int) = 7 - (k : Int) by omega] at i
        exact i
      have hkI : (k : Int) < (n : Int) := by omega
      have hi7 : 0 ≤ 8 * (7 - (k : Int)) := by omega
      generalize (z.take p ++ ((dig 8 x).take k ++ z.drop (p + k)))[p + k]'(by rw [hln]; omega) = y at c0
      clear hln hkl
      go_wp2
      exact ⟨⟨k + 1, by omega, by go_num, HS.out, HB.out.set (fun _ => rfl) _ _⟩, by simp [iv]; omega⟩
    · obtain rfl : k = 8 := by omega
      have HF : Hid (Rq wr g t (z.take p ++ (dig 8 x ++ z.drop (p + 8)))) := hide (by have i := HR.out; rw [List.take_of_length_le (l := dig 8 x) (by rw [H8.out]; omega)] at i; exact i)
      clear HR
      go_wp2
      exact bodyPost_end (v := .tuple #[]) (by simp [results, Try.results63]) rfl ⟨rfl, HF.out, HB.out⟩
set_option maxRecDepth 100000 in
set_option maxHeartbeats 8000000 in
theorem saidOf_any (g : Nat) (t : TypeId) (b : List Int) (w : World) (hb : Blk b) (hr : Rq w g t b) : Calls Try.prog 45 #[.slice (some ⟨g, 0, none⟩) 64 64] w fun e w' => ∃ v, e = .returned (.agg #[.int .i64 (said b).1, v]) ∧ SaidV g v b ∧ Below w.heap.size w w' := by
  have hl : b.length = 64 := hb.1
  have H8 : Hid ((b.take 8).length = 8 ∧ Byt (b.take 8)) := hide ⟨by rw [List.length_take]; omega, fun x hx => hb.2 x (List.mem_of_mem_take hx)⟩
  have H9 : Hid ((b.drop 56).length = 8 ∧ Byt (b.drop 56)) := hide ⟨by rw [List.length_drop]; omega, fun x hx => hb.2 x (List.mem_of_mem_drop hx)⟩
  have hx8 := hb.2 _ (List.getElem_mem (show 8 < b.length by omega))
  obtain ⟨n, hn⟩ : ∃ n : Nat, b[8] = (n : Int) := ⟨(b[8]).toNat, by omega⟩
  have HG : Hid (b.getD 8 0 = (n : Int)) := hide (by rw [List.getD_eq_getElem?_getD, List.getElem?_eq_getElem (by omega)]; exact hn)
  have HBX := hide (B2.new w (.int .i64 0) (.slice none 0 0) 88)
  have hal : Below w.heap.size w (w.alloc (.cells #[.int .i64 0, .slice none 0 0] 88)) := (Below.refl _ _).alloc (Nat.le_refl _) _
  have HR1 := hide (hr.below hal)
  have HB1 := hide hal
  clear hr hal
  have HC : Hid (∀ W, Rq W g t b → (∀ i (h : i < (b.take 8).length), W.cell? ⟨g, 0 + i, none⟩ = some (.int .u8 (b.take 8)[i])) ∧ (∀ i (h : i < (b.drop 56).length), W.cell? ⟨g, 56 + i, none⟩ = some (.int .u8 (b.drop 56)[i])) ∧ W.cell? ⟨g, 8, none⟩ = some (.int .u8 (n : Int))) := hide (fun W h => ⟨fun i hi => by rw [Nat.zero_add, h.at (i := i) (by rw [H8.out.1] at hi; omega), List.getElem_take], fun i hi => by rw [h.at (i := 56 + i) (by rw [H9.out.1] at hi; omega), List.getElem_drop], by rw [h.at (i := 8) (by omega), hn]⟩)
  rw [hn] at hx8
  clear hn
  have hwr : IntKind.i64.wrap (n : Int) = (n : Int) := by rw [IntKind.wrap_i64]; omega
  go_enter Try.func45, Try.ntmps45
  go_upto_region 1 with fail
  generalize w.alloc (.cells #[.int .i64 0, .slice none 0 0] 88) = W1 at HBX HR1 HB1 ⊢
  have hdw : Below W1.heap.size W1 W1.drew := (Below.refl _ _).drew
  refine wp_region_held_drew (S := fun W => W.cell? ⟨g, 8, none⟩ = some (.int .u8 (n : Int))) (by kernel_rfl) (HC.out _ (HR1.out.below hdw)).2.2 (fun hHeld => ?_)
  have HBX2 := hide (HBX.out.below hdw)
  have HR2 := hide (HR1.out.below hdw)
  have HB2 := hide (bt HB1.out hdw)
  generalize W1.drew = W2 at HBX2 HR2 HB2 hHeld ⊢
  clear hdw HBX HR1 HB1
  refine wpAnyH_take (i := 0) (oi := _) (v := .slice (some ⟨g, 0, none⟩) 64 64) rfl (by kernel_rfl) (by kernel_rfl) (by kernel_rfl) (fun _ _ _ h => h) (Or.inl ⟨by rfl, by intro w hSw; go_simp⟩) hHeld ?_
  change wpAnyH _ _ _ _ _ _ _ (Act.put _ (some 5) _) _
  simp only [Act.put, List.setIfInBounds_toArray, List.set_cons_zero, List.set_cons_succ]
  refine wpAnyH_take (i := 2) (oi := _) (v := .slice (some ⟨g, 0, none⟩) 64 64) rfl (by kernel_rfl) (by kernel_rfl) (by kernel_rfl) (fun _ _ _ h => h) (Or.inl ⟨by rfl, by intro w hSw; go_simp⟩) hHeld ?_
  change wpAnyH _ _ _ _ _ _ _ (Act.put _ (some 7) _) _
  simp only [Act.put, List.setIfInBounds_toArray, List.set_cons_zero, List.set_cons_succ]
  refine wpAnyH_take (i := 3) (oi := _) (v := .pointer (some ⟨g, 8, none⟩)) rfl (by kernel_rfl) (by kernel_rfl) (by kernel_rfl) (fun _ _ _ h => h) (Or.inl ⟨by rfl, by intro w hSw; go_simp⟩) hHeld ?_
  change wpAnyH _ _ _ _ _ _ _ (Act.put _ (some 8) _) _
  simp only [Act.put, List.setIfInBounds_toArray, List.set_cons_zero, List.set_cons_succ]
  refine wpAnyH_take (i := 4) (oi := _) (v := .int .u8 (n : Int)) rfl (by kernel_rfl) (by kernel_rfl) (by kernel_rfl) (fun _ _ _ h => h) (Or.inl ⟨by rfl, by intro w hSw; go_simp⟩) hHeld ?_
  change wpAnyH _ _ _ _ _ _ _ (Act.put _ (some 9) _) _
  simp only [Act.put, List.setIfInBounds_toArray, List.set_cons_zero, List.set_cons_succ]
  refine wpAnyH_take (i := 5) (oi := _) (v := .int .i64 (n : Int)) rfl (by kernel_rfl) (by kernel_rfl) (by kernel_rfl) (fun _ _ _ h => h) (Or.inl ⟨by rfl, by intro w hSw; go_simp⟩) hHeld ?_
  change wpAnyH _ _ _ _ _ _ _ (Act.put _ (some 10) _) _
  simp only [Act.put, List.setIfInBounds_toArray, List.set_cons_zero, List.set_cons_succ]
  refine wpAnyH_ready (rs := [1]) (by kernel_rfl) (by simp) ?_
  refine AllReadyH.cons (o := _) rfl (fun K hK => ?_) AllReadyH.nil
  go_simp
  go_at_call 62
  refine (turnOf_any g 0 64 64 (b.take 8) _ (by decide) (by decide) H8.out.1 H8.out.2 (HC.out _ HR2.out).1).mono ?_
  rintro e W3 ⟨rfl, hw3⟩
  rw [hw3]
  clear hw3 W3
  go_wp2_with fail
  refine hK.out _ _ hHeld (fun hHeld1 => ?_)
  clear hK K hHeld
  have hHeld := hHeld1
  clear hHeld1
  refine wpAnyH_take (i := 6) (oi := _) (v := .int .i64 (stp (b.take 8))) rfl (by kernel_rfl) (by kernel_rfl) (by kernel_rfl) (fun _ _ _ h => h) (Or.inl ⟨by rfl, by intro w hSw; go_simp⟩) hHeld ?_
  change wpAnyH _ _ _ _ _ _ _ (Act.put _ (some 3) _) _
  simp only [Act.put, List.setIfInBounds_toArray, List.set_cons_zero, List.set_cons_succ]
  refine wpAnyH_take (i := 7) (oi := _) (v := .int .i64 (n : Int)) rfl (by kernel_rfl) (by kernel_rfl) (by kernel_rfl) (fun _ _ _ h => h) (Or.inl ⟨by rfl, by intro w hSw; go_simp⟩) hHeld ?_
  change wpAnyH _ _ _ _ _ _ _ (Act.put _ (some 4) _) _
  simp only [Act.put, List.setIfInBounds_toArray, List.set_cons_zero, List.set_cons_succ]
  refine wpAnyH_done (by kernel_rfl) ?_ _
  clear hHeld
  have hz0 := HBX2.out.c0
  have hz1 := HBX2.out.c1
  have f0 := HBX2.out.fz 0
  have f1 := HBX2.out.fz 1
  by_cases hc : stp (b.take 8) = stp (b.drop 56) ∧ (n : Int) ≤ 47
  · have HSD : Hid (said b = (stp (b.take 8), (b.drop 9).take n)) := hide (by unfold said; rw [HG.out, if_pos hc, Int.toNat_natCast])
    obtain ⟨hc1, hc2⟩ := hc
    have hq : (stp (b.take 8) != stp (b.drop 56)) = false := by simp [hc1]
    have HTO := hide hc1
    clear hc1
    have HS := hide (HBX2.out.set (.int .i64 (stp (b.take 8))) (.slice (some ⟨g, 9, none⟩) n 55))
    generalize stp (b.take 8) = x at HS HSD hq HTO ⊢
    skip
    go_wp2_with (first | (go_at_call 62; refine (turnOf_any g 56 8 8 (b.drop 56) _ (by decide) (by decide) H9.out.1 H9.out.2 (HC.out _ HR2.out).2.1).mono ?_; rintro e W3 ⟨rfl, hw3⟩; rw [hw3]; clear hw3 W3))
    exact bodyPost_ret (v := .agg #[.int .i64 (x), .slice (some ⟨g, 9, none⟩) n 55]) (results_b2 Try.results45 _ _ w.heap.size _ _ _ rfl HS.out Try.underlying88 rfl (by kernel_rfl)) rfl ⟨_, by rw [HSD.out], .inr ⟨n, rfl, by rw [HSD.out], by omega⟩, (HB2.out.setCell (Nat.le_refl _) _).setCell (Nat.le_refl _) _⟩
  · have HSD : Hid (said b = (0, [])) := hide (by unfold said; rw [HG.out, if_neg hc])
    have HS := hide (HBX2.out.set (.int .i64 0) (.slice none 0 0))
    by_cases hc1 : stp (b.take 8) = stp (b.drop 56)
    · have hc2 : ¬ (n : Int) ≤ 47 := fun e => hc ⟨hc1, e⟩
      have hc3 : (47 : Int) < (n : Int) := by omega
      have hq : (stp (b.take 8) != stp (b.drop 56)) = false := by simp [hc1]
      clear hc hc1
      generalize stp (b.take 8) = x at HS HSD hq ⊢
      go_wp2_with (first | (go_at_call 62; refine (turnOf_any g 56 8 8 (b.drop 56) _ (by decide) (by decide) H9.out.1 H9.out.2 (HC.out _ HR2.out).2.1).mono ?_; rintro e W3 ⟨rfl, hw3⟩; rw [hw3]; clear hw3 W3))
      exact bodyPost_ret (v := .agg #[.int .i64 (0), .slice none 0 0]) (results_b2 Try.results45 _ _ w.heap.size _ _ _ rfl HS.out Try.underlying88 rfl (by kernel_rfl)) rfl ⟨_, by rw [HSD.out], .inl ⟨rfl, by rw [HSD.out]⟩, (HB2.out.setCell (Nat.le_refl _) _).setCell (Nat.le_refl _) _⟩
    · have hq : (stp (b.take 8) != stp (b.drop 56)) = true := by simp [hc1]
      clear hc hc1
      generalize stp (b.take 8) = x at HS HSD hq ⊢
      go_wp2_with (first | (go_at_call 62; refine (turnOf_any g 56 8 8 (b.drop 56) _ (by decide) (by decide) H9.out.1 H9.out.2 (HC.out _ HR2.out).2.1).mono ?_; rintro e W3 ⟨rfl, hw3⟩; rw [hw3]; clear hw3 W3))
      exact bodyPost_ret (v := .agg #[.int .i64 (0), .slice none 0 0]) (results_b2 Try.results45 _ _ w.heap.size _ _ _ rfl HS.out Try.underlying88 rfl (by kernel_rfl)) rfl ⟨_, by rw [HSD.out], .inl ⟨rfl, by rw [HSD.out]⟩, (HB2.out.setCell (Nat.le_refl _) _).setCell (Nat.le_refl _) _⟩
end Go.Proofs.Ytmgfcgknajehaaa
