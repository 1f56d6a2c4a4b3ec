/-
  ALL IS MADE FIRM, AS THE DOCUMENT DOES IT (castellanref08.Sync), over any store. Conditions: the numbers rise, fewer than eighty thousand blocks and writes.
-/
import Derived.Test.YtpmpmdlmcpakiaaDoorDocFr
namespace Go.Proofs.YtpmpmdlmcpakiaaDoor
open Go.RowKit

theorem three_boxes (w : World) (n : Int) (vc vl : Value) : B3 (((w.alloc (.cells #[.int .i64 n, vc, vl] 35)).alloc (.cells #[.int .i64 0, .slice none 0 0, .slice none 0 0] 35)).alloc (.cells #[.int .i64 n, vc, .slice none 0 0] 35)) w.heap.size (.int .i64 n) vc vl ∧ B3 (((w.alloc (.cells #[.int .i64 n, vc, vl] 35)).alloc (.cells #[.int .i64 0, .slice none 0 0, .slice none 0 0] 35)).alloc (.cells #[.int .i64 n, vc, .slice none 0 0] 35)) (w.heap.size + 1) (.int .i64 0) (.slice none 0 0) (.slice none 0 0) ∧ B3 (((w.alloc (.cells #[.int .i64 n, vc, vl] 35)).alloc (.cells #[.int .i64 0, .slice none 0 0, .slice none 0 0] 35)).alloc (.cells #[.int .i64 n, vc, .slice none 0 0] 35)) (w.heap.size + 1 + 1) (.int .i64 n) vc (.slice none 0 0) ∧ Below w.heap.size w (((w.alloc (.cells #[.int .i64 n, vc, vl] 35)).alloc (.cells #[.int .i64 0, .slice none 0 0, .slice none 0 0] 35)).alloc (.cells #[.int .i64 n, vc, .slice none 0 0] 35)) ∧ (((w.alloc (.cells #[.int .i64 n, vc, vl] 35)).alloc (.cells #[.int .i64 0, .slice none 0 0, .slice none 0 0] 35)).alloc (.cells #[.int .i64 n, vc, .slice none 0 0] 35)).heap.size = w.heap.size + 1 + 1 + 1 := by
  have s1 : (w.alloc (.cells #[.int .i64 n, vc, vl] 35)).heap.size = w.heap.size + 1 := by simp
  have hb1 := al_d w (.cells #[.int .i64 n, vc, vl] 35)
  have d1 := b3_new w (.int .i64 n) vc vl 35
  generalize w.alloc (.cells #[.int .i64 n, vc, vl] 35) = W1 at s1 hb1 d1 ⊢
  have r2 := b3_new W1 (.int .i64 0) (.slice none 0 0) (.slice none 0 0) 35
  have d2 := d1.below (al_d W1 (.cells #[.int .i64 0, .slice none 0 0, .slice none 0 0] 35))
  have hb2 := bt hb1 (al_d W1 (.cells #[.int .i64 0, .slice none 0 0, .slice none 0 0] 35))
  have s2 : (W1.alloc (.cells #[.int .i64 0, .slice none 0 0, .slice none 0 0] 35)).heap.size = w.heap.size + 1 + 1 := by simp [s1]
  generalize W1.alloc (.cells #[.int .i64 0, .slice none 0 0, .slice none 0 0] 35) = W2 at r2 d2 hb2 s2 ⊢
  have x3 := b3_new W2 (.int .i64 n) vc (.slice none 0 0) 35
  have r3 := r2.below (al_d W2 (.cells #[.int .i64 n, vc, .slice none 0 0] 35))
  have d3 := d2.below (al_d W2 (.cells #[.int .i64 n, vc, .slice none 0 0] 35))
  have hb3 := bt hb2 (al_d W2 (.cells #[.int .i64 n, vc, .slice none 0 0] 35))
  rw [s2] at x3
  rw [s1] at r3
  exact ⟨d3, r3, x3, hb3, by simp [s2]⟩
theorem B3.set1 {W : World} {g : Nat} {x y z : Value} (h : B3 W g x y z) (y' : Value) : B3 (W.setCell ⟨g, 1, none⟩ y') g x y' z :=
  ⟨by rw [World.cell?_setCell_other _ _ _ _ (by simp)]; exact h.c0, World.cell?_setCell_same _ _ _ h.c1, by rw [World.cell?_setCell_other _ _ _ _ (by simp)]; exact h.c2, fun i => by simp [h.fz i]⟩
theorem range_set1 {W : World} {b o g i : Nat} {l : List Value} (h : W.rangeAt b o l) (hne : b ≠ g) (v : Value) : (W.setCell ⟨g, i, none⟩ v).rangeAt b o l := fun j u hu => (World.cell?_setCell_other _ _ _ _ (fun q => hne (congrArg Addr.block q).symm)).trans (h j u hu)
theorem syn_take {cs : Cs} {lo : List Wr} {k : Nat} (h : k < lo.length) : syn cs (lo.take (k + 1)) = stS (syn cs (lo.take k)) lo[k] := by rw [take_step h, syn_snoc]
theorem syn_lenk {cs : Cs} (h : Asc cs) : ∀ (lo : List Wr), (syn cs lo).length ≤ cs.length + lo.length := fun lo => by
  have := syS_wt (s := ⟨0, cs, lo⟩)
  induction lo generalizing cs with
  | nil => simp [syn]
  | cons q r ih =>
    have h1 : (stS cs q).length ≤ cs.length + 1 := by
      unfold stS
      split
      · exact Nat.le_trans (List.length_filter_le _ _) (Nat.le_succ _)
      · rw [ins_len _ _ h]; split <;> omega
    have h2 := ih (cs := stS cs q) (asc_stS h q) (syS_wt (s := ⟨0, stS cs q, r⟩))
    show (syn (stS cs q) r).length ≤ _
    simp only [List.length_cons]
    omega
set_option maxRecDepth 100000 in
set_option maxHeartbeats 8000000 in
theorem rsync_any {P : Nat → Prop} (v : Value) (s : Dst) (w : World) (h : Dd w P v s) (hA : Asc s.cs) (hn : s.cs.length + s.lo.length < 80000) : Calls Tryd.prog 28 #[v] w fun e w' => ∃ v', e = .returned v' ∧ Dd w' (fun k => P k ∨ w.heap.size ≤ k) v' (syS s) ∧ Below w.heap.size w w' := by
  obtain ⟨vc, vl, qs, ls, rfl, hc, hl, h3, h4⟩ := h.old
  obtain ⟨ca, cc, rfl⟩ := hc.fm
  obtain ⟨la, lc, rfl⟩ := hl.fm
  have hnl : ls.length = s.lo.length := by have := congrArg List.length h4; simpa [loOf] using this
  have HA := hide hA
  have HC := hide hc
  have HL := hide hl
  have H3 := hide h3
  have H4 := hide h4
  have HT := hide (three_boxes w s.room (.slice ca qs.length cc) (.slice la ls.length lc))
  have HNL := hide hnl
  have hls : ls.length < 80000 := by omega
  clear hA hc hl h3 h4 h hnl
  go_enter Tryd.func28, Tryd.ntmps28
  go_wp2
  generalize ((w.alloc (.cells #[.int .i64 s.room, .slice ca qs.length cc, .slice la ls.length lc] 35)).alloc (.cells #[.int .i64 0, .slice none 0 0, .slice none 0 0] 35)).alloc (.cells #[.int .i64 s.room, .slice ca qs.length cc, .slice none 0 0] 35) = V at HT ⊢
  have HSV : Hid (V.heap.size = w.heap.size + 1 + 1 + 1) := hide HT.out.2.2.2.2
  have HCV : Hid (Cl V (fun k => (P k ∧ k < w.heap.size) ∨ w.heap.size + 1 + 1 + 1 ≤ k) (.slice ca qs.length cc) qs) := hide ((HC.out.below HT.out.2.2.2.1).keep (fun k h _ => .inl h) (fun _ _ _ => rfl))
  go_loopw [4] (fun i W => ∃ (k : Nat) (vk : Value) (qk : List Ce), k ≤ ls.length ∧ i = .int .i64 k ∧ B3 W w.heap.size (.int .i64 s.room) (.slice ca qs.length cc) (.slice la ls.length lc) ∧ B3 W (w.heap.size + 1) (.int .i64 0) (.slice none 0 0) (.slice none 0 0) ∧ B3 W (w.heap.size + 1 + 1) (.int .i64 s.room) vk (.slice none 0 0) ∧ Cl W (fun k => (P k ∧ k < w.heap.size) ∨ w.heap.size + 1 + 1 + 1 ≤ k) vk qk ∧ csOf qk = syn s.cs (s.lo.take k) ∧ Below w.heap.size w W ∧ w.heap.size + 1 + 1 + 1 ≤ W.heap.size) (fun i _ => ls.length - (iv i).toNat)
  case atStart => exact ⟨0, _, qs, Nat.zero_le _, rfl, HT.out.1, HT.out.2.1, HT.out.2.2.1, HCV.out, by rw [List.take_zero]; exact H3.out, HT.out.2.2.2.1, Nat.le_of_eq HSV.out.symm⟩
  case round =>
    obtain ⟨k, vk, qk, hk, rfl, hd, hr, hx, hck, hcs, hb, hsz⟩ := hrel
    have HD := hide hd
    have HR := hide hr
    have HX := hide hx
    have HCK := hide hck
    have HCS := hide hcs
    have HB := hide hb
    have HSZ := hide hsz
    obtain ⟨ka, kc, rfl⟩ := hck.fm
    have d2 := hd.c2
    clear hd hr hx hck hcs hb hsz
    by_cases hlt : k < ls.length
    · obtain ⟨lb, lo, c', e, hP, hrg⟩ := HL.out.rg (by omega)
      cases e
      have hlo : k < s.lo.length := by have := HNL.out; omega
      have hq4 : (ls[k]).1 = s.lo[k] := by have := congrArg (fun L => L[k]?) H4.out; simp only [loOf, List.getElem?_map, List.getElem?_eq_getElem hlt, List.getElem?_eq_getElem hlo, Option.map_some] at this; exact Option.some.inj this
      have HRG := hide (fm_at dwc 3 (fun _ => rfl) hrg hlt)
      have HAU := hide (HL.out.au _ (List.getElem_mem hlt))
      have HSY : Hid (syn s.cs (s.lo.take (k + 1)) = stS (syn s.cs (s.lo.take k)) (ls[k]).1) := hide (by rw [hq4]; exact syn_take hlo)
      have HLB : Hid (lb ≠ w.heap.size + 1 + 1) := hide (by have : lb < w.heap.size := cell_block (HRG.out 0 _ rfl); omega)
      clear hrg hP hq4 hlo
      generalize ls[k] = q at HRG HAU HSY
      obtain ⟨va, vn, vc', hv⟩ := dwv_form q
      have HDW : Hid (dwc q = [.int .i64 q.1.at_, .bool q.1.fr, .slice va vn vc']) := hide (by unfold dwc; rw [hv])
      clear hv
      have HQK : Hid (qk.length < 90000) := hide (by have h1 := congrArg List.length HCS.out; have h2 := syn_lenk HA.out (s.lo.take k); rw [List.length_take] at h2; simp only [csOf, List.length_map] at h1; omega)
      go_wp2_with fail
      clear d2
      have hdw : Below wr.heap.size wr wr.drew := (Below.refl _ _).drew
      refine wp_region_held_drew (S := fun W => W.cell? ⟨w.heap.size, 2, none⟩ = some (.slice (some ⟨lb, lo, none⟩) ls.length lc) ∧ W.rangeAt lb (lo + k * 3) (dwc q)) (by kernel_rfl) ⟨(HD.out.below hdw).c2, range_belW HRG.out (HB.out.trans (hdw.mono HB.out.size))⟩ (fun hHeld => ?_)
      have HD4 := hide (HD.out.below hdw)
      have HR4 := hide (HR.out.below hdw)
      have HX4 := hide (HX.out.below hdw)
      have HCK4 := hide (HCK.out.below hdw)
      have HB4 := hide (HB.out.trans (hdw.mono HB.out.size))
      have HSZ4 := hide (Nat.le_trans HSZ.out hdw.size)
      generalize wr.drew = V4 at HD4 HR4 HX4 HCK4 HB4 HSZ4 hHeld ⊢
      clear hdw HD HR HX HCK HB HSZ
      refine wpAnyH_take (i := 0) (oi := _) (v := .pointer (some ⟨w.heap.size + 1 + 1, 1, none⟩)) rfl (by kernel_rfl) (by kernel_rfl) (by kernel_rfl) (fun _ _ _ h => h) (Or.inl ⟨by rfl, by intro w hSw; go_simp⟩) hHeld ?_
      change wpAnyH _ _ _ _ _ _ _ (Act.put _ (some 17) _) _
      simp only [Act.put, List.setIfInBounds_toArray, List.set_cons_zero, List.set_cons_succ]
      refine wpAnyH_take (i := 2) (oi := _) (v := .pointer (some ⟨w.heap.size, 2, none⟩)) rfl (by kernel_rfl) (by kernel_rfl) (by kernel_rfl) (fun _ _ _ h => h) (Or.inl ⟨by rfl, by intro w hSw; go_simp⟩) hHeld ?_
      change wpAnyH _ _ _ _ _ _ _ (Act.put _ (some 19) _) _
      simp only [Act.put, List.setIfInBounds_toArray, List.set_cons_zero, List.set_cons_succ]
      refine wpAnyH_take (i := 3) (oi := _) (v := .slice (some ⟨lb, lo, none⟩) ls.length lc) rfl (by kernel_rfl) (by kernel_rfl) (by kernel_rfl) (fun _ _ _ h => h) (Or.inl ⟨by rfl, by intro w hSw; have c2 := hSw.1; go_simp⟩) hHeld ?_
      change wpAnyH _ _ _ _ _ _ _ (Act.put _ (some 20) _) _
      simp only [Act.put, List.setIfInBounds_toArray, List.set_cons_zero, List.set_cons_succ]
      refine wpAnyH_take (i := 4) (oi := _) (v := .int .i64 (k : Int)) rfl (by kernel_rfl) (by kernel_rfl) (by kernel_rfl) (fun _ _ _ h => h) (Or.inl ⟨by rfl, by intro w hSw; go_simp⟩) hHeld ?_
      change wpAnyH _ _ _ _ _ _ _ (Act.put _ (some 21) _) _
      simp only [Act.put, List.setIfInBounds_toArray, List.set_cons_zero, List.set_cons_succ]
      refine wpAnyH_take (i := 5) (oi := _) (v := .pointer (some ⟨lb, lo + k * 3, none⟩)) rfl (by kernel_rfl) (by kernel_rfl) (by kernel_rfl) (fun _ _ _ h => h) (Or.inl ⟨by rfl, by intro w hSw; go_simp⟩) hHeld ?_
      change wpAnyH _ _ _ _ _ _ _ (Act.put _ (some 22) _) _
      simp only [Act.put, List.setIfInBounds_toArray, List.set_cons_zero, List.set_cons_succ]
      refine wpAnyH_take (i := 6) (oi := _) (v := _) rfl (by kernel_rfl) (by kernel_rfl) (by kernel_rfl) (fun _ _ _ h => h) (yieldsIf_load_mid (by rfl) _ _ rfl _ _ rfl (dwc q) _ (fun W hW => hW.2) Tryd.underlying76 rfl (by kernel_rfl)) hHeld ?_
      change wpAnyH _ _ _ _ _ _ _ (Act.put _ (some 23) _) _
      simp only [Act.put, List.setIfInBounds_toArray, List.set_cons_zero, List.set_cons_succ]
      refine wpAnyH_ready (rs := [1]) (by kernel_rfl) (by simp) ?_
      refine AllReadyH.cons (o := _) rfl (fun K hK => ?_) AllReadyH.nil
      have x1 := HX4.out.c1
      go_simp
      clear x1
      refine hK.out _ _ hHeld (fun hHeld1 => ?_)
      clear hK K hHeld
      have hHeld := hHeld1
      clear hHeld1
      refine wpAnyH_ready (rs := [7]) (by kernel_rfl) (by simp) ?_
      refine AllReadyH.cons (o := _) rfl (fun K hK => ?_) AllReadyH.nil
      go_simp
      go_at_call 46
      refine (rput_any _ qk q _ HCK4.out (fun e => ⟨.inl (HAU.out e).1, (HAU.out e).2.keep (HB4.out.block _ (HAU.out e).2.lt)⟩) HQK.out).mono ?_
      rintro e V6 ⟨v6, rfl, hc6, hb6⟩
      obtain ⟨a6, c6, rfl⟩ := hc6.fm
      go_wp2_with fail
      refine hK.out _ _ ⟨(HD4.out.below hb6).c2, range_belW hHeld.2 hb6⟩ (fun hHeld1 => ?_)
      clear hK K hHeld
      have hHeld := hHeld1
      clear hHeld1
      have HD6 := hide (HD4.out.below hb6)
      have HR6 := hide (HR4.out.below hb6)
      have HX6 := hide (HX4.out.below hb6)
      have HB6 := hide (HB4.out.trans (hb6.mono HB4.out.size))
      have HSZ6 := hide (Nat.le_trans HSZ4.out hb6.size)
      have HC6 := hide (hc6.keep (P' := fun k => (P k ∧ k < w.heap.size) ∨ w.heap.size + 1 + 1 + 1 ≤ k) (fun k h _ => h.elim id (fun h => .inr (Nat.le_trans HSZ4.out h))) (fun _ _ _ => rfl))
      clear hc6 hb6 HD4 HR4 HX4 HCK4 HB4 HSZ4
      refine wpAnyH_take (i := 8) (oi := _) (v := .pointer (some ⟨w.heap.size + 1 + 1, 1, none⟩)) rfl (by kernel_rfl) (by kernel_rfl) (by kernel_rfl) (fun _ _ _ h => h) (Or.inl ⟨by rfl, by intro w hSw; go_simp⟩) hHeld ?_
      change wpAnyH _ _ _ _ _ _ _ (Act.put _ (some 25) _) _
      simp only [Act.put, List.setIfInBounds_toArray, List.set_cons_zero, List.set_cons_succ]
      refine wpAnyH_ready (rs := [9]) (by kernel_rfl) (by simp) ?_
      refine AllReadyH.cons (o := _) rfl (fun K hK => ?_) AllReadyH.nil
      have x1 := HX6.out.c1
      have xf := HX6.out.fz 1
      go_simp
      clear x1 xf
      refine hK.out _ _ ⟨(HD6.out.setO (k := w.heap.size + 1 + 1) (i := 1) (by omega) _).c2, range_set1 hHeld.2 HLB.out _⟩ (fun hHeld1 => ?_)
      clear hK K hHeld
      have hHeld := hHeld1
      clear hHeld1
      refine wpAnyH_done (by kernel_rfl) ?_ _
      clear hHeld
      have HNO : Hid (∀ k, ((P k ∧ k < w.heap.size) ∨ w.heap.size + 1 + 1 + 1 ≤ k) → k ≠ w.heap.size + 1 + 1) := hide (fun k h => h.elim (fun q => by have := q.2; omega) (fun q => by omega))
      go_wp2
      exact ⟨⟨k + 1, _, _, by omega, by go_num, HD6.out.setO (by omega) _, HR6.out.setO (by omega) _, HX6.out.set1 _, HC6.out.keep (fun _ h _ => h) (fun k h _ => Below.heap_setCell _ _ _ _ (HNO.out k h)), by rw [putQ_stS q.1 q.2 qk (by rw [HCS.out]; exact asc_syn HA.out _), HCS.out, HSY.out], HB6.out.setCell (p := ⟨w.heap.size + 1 + 1, 1, none⟩) (by simp; omega) _, by simpa using HSZ6.out⟩, by simp [iv]; omega⟩
    · obtain rfl : k = ls.length := by omega
      have HTK : Hid (s.lo.take ls.length = s.lo) := hide (List.take_of_length_le (by have := HNL.out; omega))
      obtain ⟨x0, x1, x2, _⟩ := HX.out
      obtain ⟨r0, r1, r2, rf⟩ := HR.out
      have f0 := rf 0
      have f1 := rf 1
      have f2 := rf 2
      clear rf
      have hwr : w.heap.size ≤ w.heap.size + 1 := by omega
      have HNE : Hid (∀ k, ((P k ∧ k < w.heap.size) ∨ w.heap.size + 1 + 1 + 1 ≤ k) → k ≠ w.heap.size + 1) := hide (fun k h => h.elim (fun q => by have := q.2; omega) (fun q => by omega))
      have HPP : Hid (∀ k, ((P k ∧ k < w.heap.size) ∨ w.heap.size + 1 + 1 + 1 ≤ k) → P k ∨ w.heap.size ≤ k) := hide (fun k h => h.elim (fun q => .inl q.1) (fun q => .inr (by omega)))
      generalize w.heap.size + 1 + 1 + 1 = Q4 at HCK HNE HPP
      generalize w.heap.size + 1 + 1 = X at x0 x1 x2 ⊢
      generalize w.heap.size + 1 = R at r0 r1 r2 f0 f1 f2 hwr HR HNE ⊢
      go_wp2
      have hb9 := set3_below HB.out hwr (.int .i64 s.room) (.slice ka qk.length kc) (.slice none 0 0)
      exact bodyPost_ret (v := .agg #[_, _, _]) (res_one Tryd.results28 _ _ R [_, _, _] _ rfl (HR.out.all (.int .i64 s.room) (.slice ka qk.length kc) (.slice none 0 0)).rg Tryd.underlying35 rfl infoDd) rfl ⟨_, rfl, ⟨_, _, qk, [], rfl, HCK.out.keep (fun k h _ => HPP.out k h) (fun k h _ => set3_heap (HNE.out k h) _ _ _), ⟨⟨_, _, rfl⟩, (fun h => by simp at h), (fun q hq => by simp at hq)⟩, by rw [HCS.out, HTK.out]; rfl, rfl⟩, hb9⟩
end Go.Proofs.YtpmpmdlmcpakiaaDoor
