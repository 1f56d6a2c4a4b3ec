/-
  WHAT A CHAIN REFUSES, CUT AND TRIMMED (chain.Cut, chain.Trim): out of range, where it ends, where there is no room. Condition: fewer than thirty thousand blocks and writes.
-/
import Derived.Test.YtoamghncncalgaaGreatDoorJRefCda2
namespace Go.Proofs.YtoamghncncalgaaGreatDoor
open Go.RowKit

def opCut : ByteArray := ⟨#[99, 117, 116]⟩
def opTrim : ByteArray := ⟨#[116, 114, 105, 109]⟩
theorem slcNil (W : World) : (Instr.slice 43 (.slice none 0 0) (some (.int .i64 0)) none none).run Tryz.prog W = .ok (.slice none 0 0) W := by kernel_rfl
set_option maxRecDepth 100000 in
set_option maxHeartbeats 8000000 in
theorem cutC_bad {c d bS bT : Nat} {u : Value} {s : Dst} {base nx sp : Int} (a : Int) (w : World) (h : Chn w c d bS bT u s base nx sp) (hc : a < base ∨ (base ≤ a ∧ nx < a)) : Calls Tryz.prog 18 #[.pointer (some ⟨c, 0, none⟩), .int .i64 a] w fun e w' => e = .returned (ev (some ([(opCut, a)], 2))) ∧ w' = w := by
  have x1 := h.x.c1
  have x2 := h.x.c2
  clear h
  go_enter Tryz.func18, Tryz.ntmps18
  rcases hc with h1 | ⟨h0, h1⟩
  all_goals
    go_wp2_with (first | (go_at_call 32; refine (new_any _ _ _ _).mono ?_; rintro e w9 ⟨rfl, hw9⟩; rw [hw9]; clear hw9 w9))
    go_ret
    exact ⟨rfl, rfl⟩
set_option maxRecDepth 100000 in
set_option maxHeartbeats 8000000 in
theorem cutC_same {c d bS bT : Nat} {u : Value} {s : Dst} {base nx sp : Int} (a : Int) (w : World) (h : Chn w c d bS bT u s base nx sp) (hb : base ≤ a) (hc : a = nx) : Calls Tryz.prog 18 #[.pointer (some ⟨c, 0, none⟩), .int .i64 a] w fun e w' => e = .returned .nilIface ∧ w' = w := by
  have x1 := h.x.c1
  have x2 := h.x.c2
  have hq1 : ¬ a < base := by omega
  have hq2 : ¬ nx < a := by omega
  have hq3 : (a == nx) = true := beq_iff_eq.2 hc
  clear h hc
  go_enter Tryz.func18, Tryz.ntmps18
  go_wp2_with fail
  go_ret
  exact ⟨rfl, rfl⟩
set_option maxRecDepth 100000 in
set_option maxHeartbeats 8000000 in
theorem trimC_bad {c d bS bT : Nat} {u : Value} {s : Dst} {base nx sp : Int} (frm upto : Int) (w : World) (h : Chn w c d bS bT u s base nx sp) (hc : frm < base ∨ (base ≤ frm ∧ (upto < frm ∨ (frm ≤ upto ∧ nx < upto)))) : Calls Tryz.prog 20 #[.pointer (some ⟨c, 0, none⟩), .int .i64 frm, .int .i64 upto] w fun e w' => e = .returned (ev (some ([(opTrim, upto)], 2))) ∧ w' = w := by
  have x1 := h.x.c1
  have x2 := h.x.c2
  clear h
  go_enter Tryz.func20, Tryz.ntmps20
  rcases hc with h1 | ⟨h0, h1 | ⟨h1, h2⟩⟩
  all_goals
    go_wp2_with (first | (go_at_call 32; refine (new_any _ _ _ _).mono ?_; rintro e w9 ⟨rfl, hw9⟩; rw [hw9]; clear hw9 w9))
    go_ret
    exact ⟨rfl, rfl⟩
theorem bwrite_fullC {d bS bT : Nat} {u : Value} {s : Dst} (a : Int) (v : Value) (b : List Int) (w : World) (h : Dq w d bS bT u s) (hv : Sl bc w v b) (hE : wrE s a b = some ([(opBlock, a)], 7)) : Calls Tryz.prog 25 #[.pointer (some ⟨d, 0, none⟩), .int .i64 a, v] w fun e w' => e = .returned (ev (some ([(opBlock, a)], 7))) ∧ True ∧ Below w.heap.size w w' := by
  have h1 : 0 ≤ a ∧ a ≤ 1073741824 := by
    by_cases h : 0 ≤ a ∧ a ≤ 1073741824
    · exact h
    · unfold wrE at hE
      rw [if_neg h] at hE
      simp at hE
  have h2 : b.length ≤ 64 := by
    by_cases h : b.length ≤ 64
    · exact h
    · unfold wrE at hE
      rw [if_pos h1, if_neg h] at hE
      simp at hE
  have h3 : ¬ ((look s.tk a).isSome = true ∨ (s.tk.length : Int) < s.room) := fun q => by
    unfold wrE at hE
    rw [if_pos h1, if_pos h2, if_pos q] at hE
    cases hE
  have hq : (look s.tk a).isSome = false := by
    cases hq : (look s.tk a).isSome
    · rfl
    · exact absurd (.inl hq) h3
  refine (bwrite_full a v b w h.dk h.ok.tb hv h2 h1 _ rfl hq (by omega)).mono ?_
  rintro e w' ⟨rfl, hb⟩
  exact ⟨rfl, trivial, hb⟩
set_option maxRecDepth 100000 in
set_option maxHeartbeats 8000000 in
theorem putC_full {c d bS bT : Nat} {u : Value} {s : Dst} {base nx sp : Int} (a : Int) (w : World) (h : Chn w c d bS bT u s base nx sp) (ha : Num a) (hr : ¬ ((look s.tk a).isSome = true ∨ (s.tk.length : Int) < s.room)) (_hw : s.wt < 30000) (hs : 0 ≤ sp ∧ sp ≤ 2305843009213693952) : Calls Tryz.prog 39 #[.pointer (some ⟨c, 0, none⟩), .int .i64 a, .slice none 0 0] w fun e w' => e = .returned (ev (some ([(opBlock, a)], 7))) ∧ Chn w' c d bS bT u s base nx sp ∧ Below w.heap.size w w' := by
  have HH := hide h
  have HA := hide ha
  have HE : Hid (wrE s a (blkOf sp true []) = some ([(opBlock, a)], 7)) := hide (by unfold wrE; rw [if_pos (show 0 ≤ a ∧ a ≤ 1073741824 from ha), if_pos (by rw [blkOf_len]; decide), if_neg hr])
  have HS : Hid (wrS s a (blkOf sp true []) = s) := hide (by unfold wrS; rw [if_pos (show 0 ≤ a ∧ a ≤ 1073741824 from ha), if_pos (by rw [blkOf_len]; decide), if_neg hr])
  obtain ⟨F, U, hev⟩ : ∃ F U, ev (some ([(opBlock, a)], 7)) = .iface F U := ⟨_, _, rfl⟩
  have HEV := hide hev
  rw [hev]
  obtain ⟨ha0, ha1⟩ := ha
  clear h hr hev
  have hbl : blks ((0 : Nat) : Int) = 1 := by decide
  have HBL := hide hbl
  clear hbl
  go_enter Tryz.func39, Tryz.ntmps39
  go_upto_region 3 with (first | (go_at_call 31; refine (blocks_any 0 _ (by omega) (by omega)).mono ?_; rintro e w9 ⟨rfl, hw9⟩; rw [hw9]; clear hw9 w9))
  rw [show blks (0 : Int) = 1 from by decide]
  refine wp_loop_rounds 1 ?_
  rw [rounds_succ]
  go_upto_region 5 with fail
  have hw1 : IntKind.i64.wrap a = a := by rw [IntKind.wrap_i64]; omega
  have hw2 : IntKind.i64.wrap sp = sp := by rw [IntKind.wrap_i64]; omega
  have hdw : Below w.heap.size w w.drew := (Below.refl _ _).drew
  refine wp_region_held_drew (S := fun W => B4 W c (.pointer (some ⟨d, 0, none⟩)) (.int .i64 base) (.int .i64 nx) (.int .i64 sp)) (by kernel_rfl) (HH.out.x.below hdw) (fun hHeld => ?_)
  have HC1 := hide (HH.out.below hdw)
  have HB1 := hide hdw
  generalize w.drew = V1 at HC1 HB1 hHeld ⊢
  clear hdw HH
  refine wpAnyH_take (i := 0) (oi := _) (v := .pointer (some ⟨c, 0, none⟩)) rfl (by kernel_rfl) (by kernel_rfl) (by kernel_rfl) (fun _ _ _ h => h) (Or.inl ⟨by rfl, by intro w hSw; go_simp⟩) hHeld ?_
  change wpAnyH _ _ _ _ _ _ _ (Act.put _ (some 17) _) _
  simp only [Act.put, List.setIfInBounds_toArray, List.set_cons_zero, List.set_cons_succ]
  refine wpAnyH_take (i := 1) (oi := _) (v := .pointer (some ⟨c, 0, none⟩)) rfl (by kernel_rfl) (by kernel_rfl) (by kernel_rfl) (fun _ _ _ h => h) (Or.inl ⟨by rfl, by intro w hSw; go_simp⟩) hHeld ?_
  change wpAnyH _ _ _ _ _ _ _ (Act.put _ (some 18) _) _
  simp only [Act.put, List.setIfInBounds_toArray, List.set_cons_zero, List.set_cons_succ]
  refine wpAnyH_take (i := 2) (oi := _) (v := .pointer (some ⟨c, 0, none⟩)) rfl (by kernel_rfl) (by kernel_rfl) (by kernel_rfl) (fun _ _ _ h => h) (Or.inl ⟨by rfl, by intro w hSw; go_simp⟩) hHeld ?_
  change wpAnyH _ _ _ _ _ _ _ (Act.put _ (some 19) _) _
  simp only [Act.put, List.setIfInBounds_toArray, List.set_cons_zero, List.set_cons_succ]
  refine wpAnyH_take (i := 3) (oi := _) (v := .pointer (some ⟨d, 0, none⟩)) rfl (by kernel_rfl) (by kernel_rfl) (by kernel_rfl) (fun _ _ _ h => h) (Or.inl ⟨by rfl, by intro w hSw; have h0 := hSw.c0; have h3 := hSw.c3; go_simp⟩) hHeld ?_
  change wpAnyH _ _ _ _ _ _ _ (Act.put _ (some 20) _) _
  simp only [Act.put, List.setIfInBounds_toArray, List.set_cons_zero, List.set_cons_succ]
  refine wpAnyH_take (i := 4) (oi := _) (v := .int .i64 a) rfl (by kernel_rfl) (by kernel_rfl) (by kernel_rfl) (fun _ _ _ h => h) (Or.inl ⟨by rfl, by intro w hSw; go_simp⟩) hHeld ?_
  change wpAnyH _ _ _ _ _ _ _ (Act.put _ (some 21) _) _
  simp only [Act.put, List.setIfInBounds_toArray, List.set_cons_zero, List.set_cons_succ]
  refine wpAnyH_take (i := 5) (oi := _) (v := .int .i64 0) rfl (by kernel_rfl) (by kernel_rfl) (by kernel_rfl) (fun _ _ _ h => h) (Or.inl ⟨by rfl, by intro w hSw; go_simp⟩) hHeld ?_
  change wpAnyH _ _ _ _ _ _ _ (Act.put _ (some 22) _) _
  simp only [Act.put, List.setIfInBounds_toArray, List.set_cons_zero, List.set_cons_succ]
  refine wpAnyH_take (i := 6) (oi := _) (v := .int .i64 a) rfl (by kernel_rfl) (by kernel_rfl) (by kernel_rfl) (fun _ _ _ h => h) (Or.inl ⟨by rfl, by intro w hSw; go_simp⟩) hHeld ?_
  change wpAnyH _ _ _ _ _ _ _ (Act.put _ (some 23) _) _
  simp only [Act.put, List.setIfInBounds_toArray, List.set_cons_zero, List.set_cons_succ]
  refine wpAnyH_take (i := 7) (oi := _) (v := .pointer (some ⟨c, 0, none⟩)) rfl (by kernel_rfl) (by kernel_rfl) (by kernel_rfl) (fun _ _ _ h => h) (Or.inl ⟨by rfl, by intro w hSw; go_simp⟩) hHeld ?_
  change wpAnyH _ _ _ _ _ _ _ (Act.put _ (some 24) _) _
  simp only [Act.put, List.setIfInBounds_toArray, List.set_cons_zero, List.set_cons_succ]
  refine wpAnyH_take (i := 8) (oi := _) (v := .pointer (some ⟨c, 0, none⟩)) rfl (by kernel_rfl) (by kernel_rfl) (by kernel_rfl) (fun _ _ _ h => h) (Or.inl ⟨by rfl, by intro w hSw; go_simp⟩) hHeld ?_
  change wpAnyH _ _ _ _ _ _ _ (Act.put _ (some 25) _) _
  simp only [Act.put, List.setIfInBounds_toArray, List.set_cons_zero, List.set_cons_succ]
  refine wpAnyH_take (i := 9) (oi := _) (v := .pointer (some ⟨c, 3, none⟩)) rfl (by kernel_rfl) (by kernel_rfl) (by kernel_rfl) (fun _ _ _ h => h) (Or.inl ⟨by rfl, by intro w hSw; go_simp⟩) hHeld ?_
  change wpAnyH _ _ _ _ _ _ _ (Act.put _ (some 26) _) _
  simp only [Act.put, List.setIfInBounds_toArray, List.set_cons_zero, List.set_cons_succ]
  refine wpAnyH_take (i := 10) (oi := _) (v := .int .i64 sp) rfl (by kernel_rfl) (by kernel_rfl) (by kernel_rfl) (fun _ _ _ h => h) (Or.inl ⟨by rfl, by intro w hSw; have h0 := hSw.c0; have h3 := hSw.c3; go_simp⟩) hHeld ?_
  change wpAnyH _ _ _ _ _ _ _ (Act.put _ (some 27) _) _
  simp only [Act.put, List.setIfInBounds_toArray, List.set_cons_zero, List.set_cons_succ]
  refine wpAnyH_take (i := 11) (oi := _) (v := .int .i64 0) rfl (by kernel_rfl) (by kernel_rfl) (by kernel_rfl) (fun _ _ _ h => h) (Or.inl ⟨by rfl, by intro w hSw; go_simp⟩) hHeld ?_
  change wpAnyH _ _ _ _ _ _ _ (Act.put _ (some 28) _) _
  simp only [Act.put, List.setIfInBounds_toArray, List.set_cons_zero, List.set_cons_succ]
  refine wpAnyH_take (i := 12) (oi := _) (v := .int .i64 sp) rfl (by kernel_rfl) (by kernel_rfl) (by kernel_rfl) (fun _ _ _ h => h) (Or.inl ⟨by rfl, by intro w hSw; go_simp⟩) hHeld ?_
  change wpAnyH _ _ _ _ _ _ _ (Act.put _ (some 29) _) _
  simp only [Act.put, List.setIfInBounds_toArray, List.set_cons_zero, List.set_cons_succ]
  refine wpAnyH_take (i := 13) (oi := _) (v := .int .i64 0) rfl (by kernel_rfl) (by kernel_rfl) (by kernel_rfl) (fun _ _ _ h => h) (Or.inl ⟨by rfl, by intro w hSw; go_simp⟩) hHeld ?_
  change wpAnyH _ _ _ _ _ _ _ (Act.put _ (some 30) _) _
  simp only [Act.put, List.setIfInBounds_toArray, List.set_cons_zero, List.set_cons_succ]
  refine wpAnyH_take (i := 14) (oi := _) (v := .bool true) rfl (by kernel_rfl) (by kernel_rfl) (by kernel_rfl) (fun _ _ _ h => h) (Or.inl ⟨by rfl, by intro w hSw; go_simp⟩) hHeld ?_
  change wpAnyH _ _ _ _ _ _ _ (Act.put _ (some 31) _) _
  simp only [Act.put, List.setIfInBounds_toArray, List.set_cons_zero, List.set_cons_succ]
  refine wpAnyH_take (i := 15) (oi := _) (v := .slice none 0 0) rfl (by kernel_rfl) (by kernel_rfl) (by kernel_rfl) (fun _ _ _ h => h) (Or.inl ⟨by rfl, by intro w hSw; go_simp⟩) hHeld ?_
  change wpAnyH _ _ _ _ _ _ _ (Act.put _ (some 32) _) _
  simp only [Act.put, List.setIfInBounds_toArray, List.set_cons_zero, List.set_cons_succ]
  refine wpAnyH_take (i := 16) (oi := _) (v := .int .i64 0) rfl (by kernel_rfl) (by kernel_rfl) (by kernel_rfl) (fun _ _ _ h => h) (Or.inl ⟨by rfl, by intro w hSw; go_simp⟩) hHeld ?_
  change wpAnyH _ _ _ _ _ _ _ (Act.put _ (some 33) _) _
  simp only [Act.put, List.setIfInBounds_toArray, List.set_cons_zero, List.set_cons_succ]
  have hw0 : IntKind.i64.wrap 0 = 0 := by decide
  refine wpAnyH_take (i := 17) (oi := _) (v := .int .i64 0) rfl (by kernel_rfl) (by kernel_rfl) (by kernel_rfl) (fun _ _ _ h => h) (Or.inl ⟨by rfl, by intro w hSw; go_simp⟩) hHeld ?_
  change wpAnyH _ _ _ _ _ _ _ (Act.put _ (some 34) _) _
  simp only [Act.put, List.setIfInBounds_toArray, List.set_cons_zero, List.set_cons_succ]
  have hsn := slcNil
  refine wpAnyH_take (i := 18) (oi := _) (v := .slice none 0 0) rfl (by kernel_rfl) (by kernel_rfl) (by kernel_rfl) (fun _ _ _ h => h) (Or.inl ⟨by rfl, by intro w hSw; have h1 := hsn w; go_simp⟩) hHeld ?_
  change wpAnyH _ _ _ _ _ _ _ (Act.put _ (some 35) _) _
  simp only [Act.put, List.setIfInBounds_toArray, List.set_cons_zero, List.set_cons_succ]
  clear hsn
  refine wpAnyH_ready (rs := [19]) (by kernel_rfl) (by simp) ?_
  refine AllReadyH.cons (o := _) rfl (fun K hK => ?_) AllReadyH.nil
  go_simp
  go_at_call 71
  refine (blockOf_any sp true _ [] _ hs.1 (Sl.nil _ _ _ _) (by decide)).mono ?_
  rintro e V2 ⟨g, rfl, hg, _, hb2⟩
  go_wp2_with fail
  refine hK.out _ _ (hHeld.below hb2) (fun hHeld1 => ?_)
  clear hK K hHeld
  have hHeld := hHeld1
  clear hHeld1
  have HC2 := hide (HC1.out.below hb2)
  have HB2 := hide (bt HB1.out hb2)
  have HG2 := hide hg
  clear hg hb2 HC1 HB1
  refine wpAnyH_ready (rs := [20]) (by kernel_rfl) (by simp) ?_
  refine AllReadyH.cons (o := _) rfl (fun K hK => ?_) AllReadyH.nil
  go_simp
  go_at_call 25
  refine (bwrite_fullC a _ (blkOf sp true []) _ HC2.out.q (HG2.out.all (blkOf_len _ _ _).symm) HE.out).mono ?_
  rintro e V3 ⟨rfl, hq3, hb3⟩
  rw [HEV.out]
  go_wp2_with fail
  refine hK.out _ _ (hHeld.below hb3) (fun hHeld1 => ?_)
  clear hK K hHeld
  have hHeld := hHeld1
  clear hHeld1
  have HC3 := hide (HC2.out.below hb3)
  have HB3 := hide (bt HB2.out hb3)
  clear hq3 hb3 HC2 HB2 HG2
  refine wpAnyH_take (i := 21) (oi := _) (v := .iface F U) rfl (by kernel_rfl) (by kernel_rfl) (by kernel_rfl) (fun _ _ _ h => h) (Or.inl ⟨by rfl, by intro w hSw; go_simp⟩) hHeld ?_
  change wpAnyH _ _ _ _ _ _ _ (Act.put _ (some 9) _) _
  simp only [Act.put, List.setIfInBounds_toArray, List.set_cons_zero, List.set_cons_succ]
  refine wpAnyH_done (by kernel_rfl) ?_ _
  clear hHeld
  go_wp2_with fail
  go_ret
  exact ⟨rfl, HC3.out, HB3.out⟩
set_option maxRecDepth 100000 in
set_option maxHeartbeats 8000000 in
theorem cutC_full {c d bS bT : Nat} {u : Value} {s : Dst} {base nx sp : Int} (a : Int) (w : World) (h : Chn w c d bS bT u s base nx sp) (ha : Num a) (hb : base ≤ a) (hx : a < nx) (hr : ¬ ((look s.tk a).isSome = true ∨ (s.tk.length : Int) < s.room)) (hw : s.wt < 30000) (hs : 0 ≤ sp ∧ sp ≤ 2305843009213693952) : Calls Tryz.prog 18 #[.pointer (some ⟨c, 0, none⟩), .int .i64 a] w fun e w' => e = .returned (ev (some ([(opCut, a), (opBlock, a)], 7))) ∧ Chn w' c d bS bT u s base nx sp ∧ Below w.heap.size w w' := by
  have HH := hide h
  have x1 := h.x.c1
  have x2 := h.x.c2
  have hq1 : ¬ a < base := by omega
  have hq2 : ¬ nx < a := by omega
  have hq3 : (a == nx) = false := beq_eq_false_iff_ne.2 (by omega)
  have HA := hide ha
  have HR := hide hr
  obtain ⟨F, U, hev⟩ : ∃ F U, ev (some ([(opBlock, a)], 7)) = .iface F U := ⟨_, _, rfl⟩
  have HEV := hide hev
  have HWP : Hid (∀ W, Calls Tryz.prog 40 #[.string opCut, .int .i64 a, .iface F U] W fun e w' => e = .returned (ev (some ([(opCut, a), (opBlock, a)], 7))) ∧ w' = W) := hide (fun W => by rw [← hev]; exact wrap_some _ _ _ _ _)
  clear h ha hr hev
  go_enter Tryz.func18, Tryz.ntmps18
  go_wp2_with (first | (go_at_call 39; refine (putC_full a _ HH.out HA.out HR.out hw hs).mono ?_; rintro e W1 ⟨rfl, hc, hb⟩; rw [HEV.out]; have HC1 := hide hc; have HB1 := hide hb; clear hc hb) | (go_at_call 40; refine (HWP.out _).mono ?_; rintro e w9 ⟨rfl, hw9⟩; rw [hw9]; clear hw9 w9))
  go_ret
  exact ⟨rfl, HC1.out, HB1.out⟩
end Go.Proofs.YtoamghncncalgaaGreatDoor
