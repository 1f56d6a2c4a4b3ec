/-
  THE CHAPTER's EXAMPLE (castellanlaw04.works): it comes out so. No condition.
-/
import Derived.Test.YtenahnbfaekljaaFsame
namespace Go.Proofs.Ytenahnbfaekljaa
open Go.RowKit

def fsW : List (Int × List Int) := [(3, [7, 8]), (9, [])]
theorem fsW_ok : ∀ f ∈ fsW, Ok f := by unfold fsW Ok; decide
theorem fsW_small : ∀ f ∈ fsW, f.2.length ≤ 4000 ∧ Byt f.2 := by unfold fsW Byt; decide
theorem fsW_len : (allL fsW).length = 16 := by
  have e : allL fsW = frameL 3 [7, 8] ++ frameL 9 [] := by simp [allL, fsW]
  rw [e, List.length_append, frameL_len, frameL_len]
  decide
theorem fsW_next : nextS (allL fsW) = ⟨3, [7, 8], 9, 0, ⟨#[]⟩, 0⟩ := by
  have e : allL fsW = frameL 3 [7, 8] ++ frameL 9 [] := by simp [allL, fsW]
  rw [e, nextS_put _ (by decide) (by decide) (by decide), frameL_len]
  rfl
theorem its_none {l : List Int} {k : Nat} (hi : Its l k) (h : (nextS l).size = 0) : k = 0 := by
  rcases Nat.eq_zero_or_pos k with q | q
  · exact q
  · exact absurd h (hi 0 q)
theorem wk_first : (nextS ((allL fsW).take 5)).size = 0 ∧ (nextS ((allL fsW).take 5)).c = 0 := by
  have hs : (nextS ((allL fsW).take 5)).size = 0 := by
    by_cases h : (nextS ((allL fsW).take 5)).size = 0
    · exact h
    · exfalso
      have h1 := nextS_app ((allL fsW).drop 5) (.inl h)
      rw [List.take_append_drop, fsW_next] at h1
      have h2 := nextS_size ((allL fsW).take 5)
      rw [← h1, List.length_take] at h2
      simp only at h2
      omega
  exact ⟨hs, (it_cut fsW_ok (n := 5) (k := 0) (fun j hj => absurd hj (Nat.not_lt_zero _)) hs).2.2⟩
theorem end_all {fs : List (Int × List Int)} (h : ∀ f ∈ fs, Ok f) : it (allL fs) fs.length = (fs, (allL fs).length) := by
  rw [it_all h _ (Nat.le_refl _), List.take_length]
theorem its_end {fs : List (Int × List Int)} (h : ∀ f ∈ fs, Ok f) {k : Nat} (hi : Its (allL fs) k) (hs : (nextS ((allL fs).drop (it (allL fs) k).2)).size = 0) : k = fs.length := by
  refine its_one hi (its_all h) hs ?_
  rw [end_all h, List.drop_length]
  rfl
theorem leftS_none {A : List Int} {n : Nat} (h : (nextS (A.drop n)).c = 0) : leftS A n = A.drop n := if_pos h
theorem errS_none {a : Nat} {A : List Int} {n : Nat} (h : (nextS (A.drop n)).c = 0) : errS a A n = none := by
  unfold errS
  rw [show errF (nextS (A.drop n)) = none from if_pos h]
theorem strm_new (w : World) : Strm w.heap.size (w.alloc (.cells #[.slice none 0 0, .int .i64 0, .nilIface] 33)) w.heap.size (.slice none 0 0) [] 0 .nilIface :=
  ⟨⟨by simp, by simp, by simp, fun i => World.frozen?_alloc_at _ _ _ _ rfl⟩, by simp [Value.ownBlock], Nat.le_refl _, [], rw_nil _ _, rfl⟩
theorem Strm.form {B p : Nat} {W : World} {v : Value} {L : List Int} {a : Int} {e : Value} (h : Strm B W p v L a e) : ∃ ao cap, v = .slice ao L.length cap := by
  obtain ⟨_, _, _, cur, h1, h2⟩ := h
  exact (h1.sl h2).form
theorem Strm.lt {B p : Nat} {W : World} {v : Value} {L : List Int} {a : Int} {e : Value} (h : Strm B W p v L a e) : p < W.heap.size ∧ B ≤ p ∧ ∀ g, v.ownBlock = some g → B ≤ g ∧ g < W.heap.size := by
  obtain ⟨h0, _, h3, cur, h1, h2⟩ := h
  exact ⟨h0.lt, h3, h1.lt⟩
theorem Strm.below {B p : Nat} {W W' : World} {v : Value} {L : List Int} {a : Int} {e : Value} (h : Strm B W p v L a e) (hb : Below W.heap.size W W') : Strm B W' p v L a e := by
  obtain ⟨h0, h1, h2, cur, h3, h4⟩ := h
  exact ⟨h0.below hb, h1, h2, cur, h3.below hb, h4⟩
/-- What a call of Feed turns lies in new memory. -/
theorem strm_low {B p : Nat} {W w' : World} {v : Value} {L : List Int} {a : Int} {e : Value} (h : Strm B W p v L a e) (hx : Ex (fun k => k = p ∨ some k = v.ownBlock) W w') : Below B W w' := by
  obtain ⟨h1, h2, h3⟩ := h.lt
  refine hx.below (by omega) (fun k hk q => ?_)
  rcases q with rfl | q
  · omega
  · have := (h3 k q.symm).1; omega
set_option maxRecDepth 100000 in
set_option maxHeartbeats 8000000 in
theorem works_any (w : World) : Calls Try.prog 6 #[] w fun e w' => e = .returned (.bool true) ∧ Below w.heap.size w w' := by
  have hfl : Fl ((w.alloc (.cells #[.int .u8 7, .int .u8 8] 5)).alloc (.cells #[.int .i64 3, .slice (some ⟨w.heap.size, 0, none⟩) 2 2, .int .i64 9, .slice none 0 0] 40)) (.slice (some ⟨w.heap.size + 1, 0, none⟩) 2 2) fsW := by
    refine .inr ⟨w.heap.size + 1, 0, 2, rfl, Nat.le_refl _, fun i hi => ?_⟩
    match i, hi with
    | 0, _ =>
      refine ⟨by simp [fsW], .slice (some ⟨w.heap.size, 0, none⟩) 2 2, by simp, .inr ⟨w.heap.size, 0, 2, rfl, Nat.le_refl _, fun i hi => ?_⟩⟩
      match i, hi with
      | 0, _ => simp [fsW, bc]
      | 1, _ => simp [fsW, bc]
    | 1, _ => exact ⟨by simp [fsW], .slice none 0 0, by simp, Sl.nil _ _ _ _⟩
  have HA := hide (all_any _ fsW _ hfl (by decide) fsW_small (by rw [fsW_len]; decide))
  have HB0 := hide (((Below.refl w.heap.size w).alloc (Nat.le_refl _) (.cells #[.int .u8 7, .int .u8 8] 5)).alloc (by simp) (.cells #[.int .i64 3, .slice (some ⟨w.heap.size, 0, none⟩) 2 2, .int .i64 9, .slice none 0 0] 40))
  clear hfl
  go_enter Try.func6, Try.ntmps6
  go_wp2_with fail
  refine HA.out.mono ?_
  rintro e w1 ⟨h, hb1⟩
  rcases h with ⟨_, y, rfl, hy⟩ | ⟨⟨f, hf, hnf⟩, _⟩
  case inr => exact absurd (fsW_ok f hf) hnf
  rw [fsW_len] at hy
  have HSY := hide (show Sl bc w1 y (allL fsW) from sl_of_owns (by rw [fsW_len]; exact hy))
  have HB1 := hide (HB0.out.trans (hb1.mono HB0.out.size))
  obtain ⟨yo, yc, hyf⟩ := HSY.out.form
  rw [fsW_len] at hyf
  subst hyf
  have HP := hide (put_bad 64 none 0 0 w1 (.inr ⟨by decide, by decide⟩))
  clear hy hb1 HA
  go_wp2_with fail
  refine HP.out.mono ?_
  rintro e w2 ⟨rfl, hb2⟩
  have HB2 := hide (HB1.out.trans (hb2.mono HB1.out.size))
  have HSY2 := hide (HSY.out.below hb2)
  have HST := hide (strm_new w2)
  have hba : Below w2.heap.size w2 (w2.alloc (.cells #[.slice none 0 0, .int .i64 0, .nilIface] 33)) := (Below.refl _ _).alloc (Nat.le_refl _) _
  have HB3 := hide (HB2.out.trans (hba.mono HB2.out.size))
  have HSY3 := hide (HSY2.out.below hba)
  have HLO := hide hba
  clear hb2 hba HP HSY
  have hbyt : Byt (allL fsW) := by
    have e : allL fsW = frameL 3 [7, 8] ++ frameL 9 [] := by simp [allL, fsW]
    rw [e]
    intro x hx
    rcases List.mem_append.1 hx with hx | hx
    · exact frameL_byt (by decide) (by decide) (by unfold Byt; decide) x hx
    · exact frameL_byt (by decide) (by decide) (by unfold Byt; decide) x hx
  obtain ⟨q1, hs1, hq1⟩ := slice_to_any _ (allL fsW) 5 _ HSY3.out (by rw [fsW_len]; decide)
  obtain ⟨q2, hs2, hq2⟩ := slice_from_any _ (allL fsW) 5 _ HSY3.out (by rw [fsW_len]; decide)
  have hs1' : ∀ W, (Instr.slice 26 (.slice yo 16 yc) none (some (.int .i64 5)) none).run Try.prog W = .ok q1 W := hs1
  have hs2' : ∀ W, (Instr.slice 26 (.slice yo 16 yc) (some (.int .i64 5)) none none).run Try.prog W = .ok q2 W := hs2
  have HF1 := hide (feed_core w2.heap.size w2.heap.size _ q1 [] ((allL fsW).take 5) ((allL fsW).take 5) 0 _ HST.out (by simp) (hq1 _ HSY3.out) rfl (fun x hx => hbyt x (List.mem_of_mem_take hx)) (by rw [List.length_take]; omega) (by omega))
  have HQ2 := hide hq2
  have HBY := hide hbyt
  clear hbyt hs1 hs2 hq1 hq2
  go_wp2_with fail
  refine HF1.out.mono ?_
  rintro e w4 ⟨y1, k1, ps1, v1, rfl, hi1, hz1, hown1, _, hstr1, hblk1, hx1, _⟩
  obtain rfl : k1 = 0 := its_none hi1 wk_first.1
  have hstr1' : Strm w2.heap.size w4 w2.heap.size v1 ((allL fsW).take 5) ((0 : Nat) : Int) .nilIface := by
    have h1 := hstr1
    rw [leftS_none (by exact wk_first.2), errS_none (by exact wk_first.2)] at h1
    exact h1
  have hy1 : ∃ ao cap, y1 = .slice ao 0 cap := by rcases hown1.2 with ⟨rfl, _⟩ | ⟨g, cap, cur, rfl, _⟩ <;> exact ⟨_, _, rfl⟩
  obtain ⟨yo1, yc1, rfl⟩ := hy1
  have hlo4 : Below w2.heap.size w2 w4 := HLO.out.trans (strm_low HST.out hx1)
  have HLO4 := hide hlo4
  have HF2 := hide (feed_core w2.heap.size w2.heap.size v1 q2 ((allL fsW).take 5) ((allL fsW).drop 5) (allL fsW) 0 w4 hstr1' hlo4.size (HQ2.out _ (HSY2.out.below hlo4)) (List.take_append_drop _ _).symm HBY.out (by rw [fsW_len]; omega) (by omega))
  have HST1 := hide hstr1'
  clear hown1 hstr1 hstr1' hblk1 hx1 hi1 hz1 hlo4 HF1 HQ2 HSY3 HSY2 HST
  go_wp2_with fail
  refine HF2.out.mono ?_
  rintro e w5 ⟨y2, k2, ps2, v2, rfl, hi2, hz2, hown2, hbod2, hstr2, hblk2, hx2, hyv2⟩
  obtain rfl : k2 = 2 := its_end fsW_ok hi2 hz2
  have hit : it (allL fsW) 2 = (fsW, (allL fsW).length) := end_all fsW_ok
  have hnx : (nextS ((allL fsW).drop (allL fsW).length)).c = 0 := by rw [List.drop_length]; rfl
  rw [hit] at hbod2 hstr2
  simp only at hbod2 hstr2
  rw [leftS_none hnx, errS_none hnx, List.drop_length, fsW_len] at hstr2
  have hstr2' : Strm w2.heap.size w5 w2.heap.size v2 [] ((16 : Nat) : Int) .nilIface := hstr2
  have hlo5 : Below w2.heap.size w2 w5 := HLO4.out.trans (strm_low HST1.out hx2)
  have hba5 : Below w5.heap.size w5 (w5.alloc (.cells #[.int .u8 1] 5)) := (Below.refl _ _).alloc (Nat.le_refl _) _
  have HLO5 := hide (hlo5.trans (hba5.mono hlo5.size))
  have HST2 := hide (hstr2'.below hba5)
  have HO2 := hide (owns_below hown2 hba5)
  have HBO2 := hide (hbod2.below hba5)
  have HYV2 := hide hyv2
  have hp4 : w2.heap.size < w4.heap.size := HST1.out.lt.1
  have HF3 := hide (feed_core w2.heap.size w2.heap.size v2 (.slice (some ⟨w5.heap.size, 0, none⟩) 1 1) [] [1] [1] 16 _ HST2.out (by have := HLO5.out.size; omega) (sl_new w5 [1] (by simp [maxLen])) rfl (by unfold Byt; decide) (by decide) (by omega))
  have hy2 : ∃ g cap, y2 = .slice (some ⟨g, 0, none⟩) 2 cap := by
    obtain ⟨g, cap, e, _⟩ := owns_cells hown2 (by decide)
    exact ⟨g, cap, e⟩
  obtain ⟨g2, yc2, rfl⟩ := hy2
  clear hown2 hbod2 hstr2 hstr2' hblk2 hx2 hyv2 hi2 hz2 hlo5 hba5 HF2 hit hnx HST1 HBY
  go_wp2_with fail
  refine HF3.out.mono ?_
  rintro e w6 ⟨y3, k3, ps3, v3, rfl, hi3, hz3, hown3, _, hstr3, hblk3, hx3, _⟩
  obtain rfl : k3 = 0 := its_none hi3 rfl
  have hstr3' : Strm w2.heap.size w6 w2.heap.size v3 [] 16 (ev (some ([(⟨#[102, 114, 97, 109, 101]⟩, 16), (⟨#[115, 105, 103, 110]⟩, 0)], 5))) := hstr3
  have hy3 : ∃ ao cap, y3 = .slice ao 0 cap := by rcases hown3.2 with ⟨rfl, _⟩ | ⟨g, cap, cur, rfl, _⟩ <;> exact ⟨_, _, rfl⟩
  obtain ⟨yo3, yc3, rfl⟩ := hy3
  obtain ⟨vo3, vc3, rfl⟩ := hstr3'.form
  have hlo6 := HLO5.out.trans (strm_low HST2.out hx3)
  have HB6 := hide (HB2.out.trans (hlo6.mono HB2.out.size))
  have hns : ∀ g, g = g2 ∨ (w4.heap.size ≤ g ∧ some g ≠ v2.ownBlock) → ¬ (g = w2.heap.size ∨ some g = v2.ownBlock) := by
    intro g hg q
    have h2 := HO2.out.lt g2 rfl
    rcases hg with rfl | hg
    · rcases q with q | q
      · omega
      · exact HYV2.out g rfl q.symm
    · rcases q with q | q
      · omega
      · exact hg.2 q
  have ho6 := owns_ex HO2.out hx3 (fun g hg => hns g (.inl (by cases hg; rfl)))
  have hb6 : Bod (fun b => w4.heap.size ≤ b ∧ some b ≠ v2.ownBlock) w6 ps2 fsW := Bod.imp (fun _ _ h => h.ex hx3 (fun b hb => hns b (.inr hb))) HBO2.out
  have hfl6 := fl_of_owns (fs := fsW) ho6 hb6
  have HFL := hide hfl6
  have HR6 := hide hstr3'.1
  clear hown3 hstr3 hstr3' hblk3 hx3 hi3 hz3 hlo6 hns ho6 hb6 hfl6 HF3 HO2 HBO2 HYV2 HST2 HLO5 HLO4
  have HI1 := hide (fun W => is_ev (some ([(⟨#[107, 105, 110, 100]⟩, 64)], 5)) 5 W)
  rw [show isV (some ([((⟨#[107, 105, 110, 100]⟩ : ByteArray), (64 : Int))], (5 : Int))) 5 = true from rfl] at HI1
  unfold ft
  go_wp2_with fail
  refine (HI1.out _).mono ?_
  rintro e w7 ⟨rfl, hb7⟩
  have HR7 := hide (HR6.out.below hb7)
  have HB7 := hide (HB6.out.trans (hb7.mono HB6.out.size))
  rcases HFL.out.below hb7 with ⟨_, _, hx, _⟩ | ⟨b7, o7, cap7, hv7, _, hc7⟩
  · cases hx
  cases hv7
  obtain ⟨c0, u7, c1, hs7⟩ := hc7 0 (by decide)
  obtain ⟨ao7, cp7, hu7⟩ := hs7.form
  subst hu7
  have d0 : w7.cell? ⟨g2, 0, none⟩ = some (.int .i64 3) := c0
  have d1 : w7.cell? ⟨g2, 1, none⟩ = some (.slice ao7 2 cp7) := c1
  have HI2 := hide (fun W => is_ev (some ([(⟨#[102, 114, 97, 109, 101]⟩, 16), (⟨#[115, 105, 103, 110]⟩, 0)], 5)) 5 W)
  rw [show isV (some ([((⟨#[102, 114, 97, 109, 101]⟩ : ByteArray), (16 : Int)), (⟨#[115, 105, 103, 110]⟩, 0)], (5 : Int))) 5 = true from rfl] at HI2
  generalize ev (some ([((⟨#[102, 114, 97, 109, 101]⟩ : ByteArray), (16 : Int)), (⟨#[115, 105, 103, 110]⟩, 0)], (5 : Int))) = E at *
  clear hb7 c0 c1 hs7 hc7 HFL HR6
  go_wp2_with (first
    | (go_at_call 10; refine (serr_any _ _ _ _ _ HR7.out).mono ?_; rintro e w8 ⟨rfl, rfl⟩)
    | (go_at_call 15; refine (HI2.out _).mono ?_; rintro e w9 ⟨rfl, hb9⟩; have HR9 := hide (HR7.out.below hb9); have HB9 := hide (HB7.out.trans (hb9.mono HB7.out.size)); clear hb9)
    | (go_at_call 11; refine (sleft_any _ _ _ _ _ _ _ HR9.out).mono ?_; rintro e w10 ⟨rfl, rfl⟩))
  go_ret
  exact ⟨rfl, HB9.out⟩
end Go.Proofs.Ytenahnbfaekljaa
