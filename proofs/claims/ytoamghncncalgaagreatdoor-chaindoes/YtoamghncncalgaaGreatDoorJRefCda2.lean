/-
  A CHAIN IS NOT OPENED, the program's and the document's (chain.Open, castellanref09.Open): where base or from are none. No condition of its own.
  A CHAIN IS CUT (chain.Cut): a mark is written, what is synced behind it is freed; and blocks are trimmed (chain.Trim). Condition: fewer than twenty thousand blocks and writes.
-/
import Derived.Test.YtoamghncncalgaaGreatDoorJRefCba2
import Derived.Test.YtoamghncncalgaaGreatDoorJChO
import Derived.Test.YtoamghncncalgaaGreatDoorJDocAna2
namespace Go.Proofs.YtoamghncncalgaaGreatDoor
open Go.RowKit

set_option maxRecDepth 100000 in
set_option maxHeartbeats 16000000 in
theorem ropen_bad (r : Int) (a1 a2 : Option Addr) (n1 k1 n2 k2 : Nat) (base frm : Int) (w : World) (hb : base < 0 ∨ (0 ≤ base ∧ (frm < base ∨ (base ≤ frm ∧ 1073741824 < frm)))) : Calls Tryz.prog 9 #[.agg #[.int .i64 r, .slice a1 n1 k1, .slice a2 n2 k2], .int .i64 base, .int .i64 frm] w fun e w' => e = .returned (.tuple #[.agg #[.int .i64 r, .slice a1 n1 k1, .slice a2 n2 k2, .int .i64 0, .int .i64 0, .int .i64 0], .slice none 0 0, .int .i64 2]) ∧ Below w.heap.size w w' := by
  have hs1 : (w.alloc (.cells #[.int .i64 r, .slice a1 n1 k1, .slice a2 n2 k2] 37)).heap.size = w.heap.size + 1 := Array.size_push _
  have hal1 : Below w.heap.size w (w.alloc (.cells #[.int .i64 r, .slice a1 n1 k1, .slice a2 n2 k2] 37)) := (Below.refl _ _).alloc (Nat.le_refl _) _
  have hal2 : Below (w.alloc (.cells #[.int .i64 r, .slice a1 n1 k1, .slice a2 n2 k2] 37)).heap.size (w.alloc (.cells #[.int .i64 r, .slice a1 n1 k1, .slice a2 n2 k2] 37)) ((w.alloc (.cells #[.int .i64 r, .slice a1 n1 k1, .slice a2 n2 k2] 37)).alloc (.cells #[.int .i64 0, .slice none 0 0, .slice none 0 0, .int .i64 0, .int .i64 0, .int .i64 0] 39)) := (Below.refl _ _).alloc (Nat.le_refl _) _
  have HD := hide ((b3_new w (.int .i64 r) (.slice a1 n1 k1) (.slice a2 n2 k2) 37).below hal2)
  have HH : Hid (B6 ((w.alloc (.cells #[.int .i64 r, .slice a1 n1 k1, .slice a2 n2 k2] 37)).alloc (.cells #[.int .i64 0, .slice none 0 0, .slice none 0 0, .int .i64 0, .int .i64 0, .int .i64 0] 39)) (w.heap.size + 1) [.int .i64 0, .slice none 0 0, .slice none 0 0, .int .i64 0, .int .i64 0, .int .i64 0]) := hide (by have i := B6.new (w.alloc (.cells #[.int .i64 r, .slice a1 n1 k1, .slice a2 n2 k2] 37)) (.int .i64 0) (.slice none 0 0) (.slice none 0 0) (.int .i64 0) (.int .i64 0) (.int .i64 0) 39; rw [hs1] at i; exact i)
  have HB := hide (bt hal1 hal2)
  clear hs1 hal1 hal2
  go_enter Tryz.func9, Tryz.ntmps9
  go_upto_region 1 with fail
  generalize ((w.alloc (.cells #[.int .i64 r, .slice a1 n1 k1, .slice a2 n2 k2] 37)).alloc (.cells #[.int .i64 0, .slice none 0 0, .slice none 0 0, .int .i64 0, .int .i64 0, .int .i64 0] 39)) = W1 at HD HH HB ⊢
  have d0 := HD.out.c0
  have d1 := HD.out.c1
  have d2 := HD.out.c2
  have z0 := HH.out.at (i := 0) (by decide)
  have z1 := HH.out.at (i := 1) (by decide)
  have z2 := HH.out.at (i := 2) (by decide)
  have z3 := HH.out.at (i := 3) (by decide)
  have z4 := HH.out.at (i := 4) (by decide)
  have z5 := HH.out.at (i := 5) (by decide)
  simp only [List.getElem_cons_zero, List.getElem_cons_succ] at z0 z1 z2 z3 z4 z5
  have f0 := HH.out.fz 0
  have f1 := HH.out.fz 1
  have f2 := HH.out.fz 2
  have f3 := HH.out.fz 3
  have f4 := HH.out.fz 4
  have f5 := HH.out.fz 5
  rcases hb with h1 | ⟨h0, h1 | ⟨h1, h2⟩⟩
  all_goals
    have e0 : True := trivial
    go_wp2_with fail
    exact bodyPost_ret (v := .tuple #[.agg #[.int .i64 r, .slice a1 n1 k1, .slice a2 n2 k2, .int .i64 0, .int .i64 0, .int .i64 0], .slice none 0 0, .int .i64 2]) (res_ct Tryz.results9 _ _ (w.heap.size + 1) [_, _, _, _, _, _] _ _ _ rfl rfl rfl (HH.out.all (.int .i64 r) (.slice a1 n1 k1) (.slice a2 n2 k2) (.int .i64 0) (.int .i64 0) (.int .i64 0)) Tryz.underlying39 rfl infoHc) rfl ⟨rfl, s6_below HB.out (Nat.le_succ _) _ _ _ _ _ _⟩
set_option maxRecDepth 100000 in
set_option maxHeartbeats 16000000 in
theorem open_bad (d : Nat) (base frm : Int) (w : World) (hb : base < 0 ∨ (0 ≤ base ∧ (frm < base ∨ (base ≤ frm ∧ 1073741824 < frm)))) : Calls Tryz.prog 8 #[.pointer (some ⟨d, 0, none⟩), .int .i64 base, .int .i64 frm] w fun e w' => e = .returned (.tuple #[.pointer none, .slice none 0 0, ev (some ([(opFrom, frm)], 2))]) ∧ w' = w := by
  go_enter Tryz.func8, Tryz.ntmps8
  rcases hb with h1 | ⟨h0, h1 | ⟨h1, h2⟩⟩
  all_goals
    go_wp2_with (first | (go_at_call 32; refine (new_any _ _ _ _).mono ?_; rintro e w9 ⟨rfl, hw9⟩; rw [hw9]; clear hw9 w9))
    go_ret3
    exact ⟨rfl, rfl⟩
end Go.Proofs.YtoamghncncalgaaGreatDoor
namespace Go.Proofs.YtoamghncncalgaaGreatDoor
open Go.RowKit

/-- Blocks are freed, one by one. -/
def frN (s : Dst) (l : List Int) : Dst := ⟨s.room, s.cs, s.lo ++ l.map wfr⟩
theorem frN_nil (s : Dst) : frN s [] = s := by simp [frN]
theorem frN_snoc {s : Dst} {l : List Int} {a : Int} (ha : Num a) : frS (frN s l) a = frN s (l ++ [a]) := by
  unfold frS
  rw [if_pos (show 0 ≤ a ∧ a ≤ 1073741824 from ha)]
  simp [frN]
theorem frN_wt (s : Dst) (l : List Int) : (frN s l).wt = s.wt + l.length := by simp [frN, Dst.wt]; omega
/-- The numbers of blocks between two. -/
def rngN (lo hi : Int) (l : Cs) : List Int := (l.filter fun p => decide (lo ≤ p.1) && decide (p.1 < hi)).map (·.1)
theorem rngN_step (lo hi : Int) (l : Cs) (k : Nat) (h : k < l.length) : rngN lo hi (l.take (k + 1)) = rngN lo hi (l.take k) ++ (if lo ≤ (l[k]).1 ∧ (l[k]).1 < hi then [(l[k]).1] else []) := by
  unfold rngN
  rw [take_step h, List.filter_append, List.map_append]
  congr 1
  by_cases h1 : lo ≤ (l[k]).1 ∧ (l[k]).1 < hi
  · simp [h1]
  · rw [if_neg h1]
    have : (decide (lo ≤ (l[k]).1) && decide ((l[k]).1 < hi)) = false := by simpa [Bool.and_eq_false_iff, Decidable.not_and_iff_or_not] using h1
    simp [this]
theorem rngN_len (lo hi : Int) (l : Cs) : (rngN lo hi l).length ≤ l.length := by unfold rngN; rw [List.length_map]; exact List.length_filter_le _ _
/-- The cells that are told lie where no store is. -/
def Kd (d bS bT : Nat) (u : Value) (W : World) (a0 : Option Addr) (cs : Cs) : Prop := ∀ k (_ : k < cs.length), ∃ cb g, a0 = some ⟨cb, 0, none⟩ ∧ ¬ Own d bS bT u cb ∧ W.cell? ⟨cb, k * 2, none⟩ = some (.int .i64 cs[k].1) ∧ W.cell? ⟨cb, k * 2 + 1, none⟩ = some (.slice (some ⟨g, 0, none⟩) 64 64)
theorem Kd.step {d bS bT : Nat} {u u' : Value} {W W' : World} {a0 : Option Addr} {cs : Cs} (h : Kd d bS bT u W a0 cs) (hx : Dx d bS bT u W W' u') : Kd d bS bT u' W' a0 cs := fun k hk => by
  obtain ⟨cb, g, h1, h2, h3, h4⟩ := h k hk
  exact ⟨cb, g, h1, hx.own (cell_block h3) h2, (hx.cell (cell_block h3) h2 _).trans h3, (hx.cell (cell_block h3) h2 _).trans h4⟩
theorem kd_of {d bS bT B : Nat} {u : Value} {W : World} {a0 : Option Addr} {n c : Nat} {ps : List Ce} (h : Cw W B (.slice a0 n c) ps) (ho : ∀ k, Own d bS bT u k → k < B) : Kd d bS bT u W a0 (csOf ps) := fun k hk => by
  have hk' : k < ps.length := by simpa [csOf] using hk
  obtain ⟨cb, h1, h2, h3⟩ := cw_at h hk'
  refine ⟨cb, _, h1, fun q => ?_, ?_, h3⟩
  · have h4 := ho cb q
    rcases h.own.2 with ⟨e, _⟩ | ⟨g, cap, cur, e, a2, _⟩
    · cases e; cases h1
    · cases e; cases h1; omega
  · rw [h2]; simp [csOf]
set_option maxRecDepth 100000 in
set_option maxHeartbeats 8000000 in
theorem freeSynced_any {c d bS bT : Nat} {u : Value} {s : Dst} {base nx sp : Int} (lo hi : Int) (w : World) (h : Chn w c d bS bT u s base nx sp) (hw : s.wt < 14000) : Calls Tryz.prog 46 #[.pointer (some ⟨c, 0, none⟩), .int .i64 lo, .int .i64 hi] w fun e w' => ∃ u', e = .returned (.tuple #[]) ∧ Chn w' c d bS bT u' (frN s (rngN lo hi s.cs)) base nx sp ∧ Dx d bS bT u w w' u' := by
  have HH := hide h
  clear h
  have x0 := HH.out.x.c0
  go_enter Tryz.func46, Tryz.ntmps46
  go_wp2_with (first | (go_at_call 57; refine (q_cells _ HH.out.q (by omega)).mono ?_; rintro e W1 ⟨v1, ps, rfl, hc1, he1, hb1⟩; obtain ⟨a0, k0, rfl⟩ := cw_form hc1; have HK1 := hide (kd_of hc1 (fun k e => HH.out.q.dk.lt e)); rw [he1] at HK1; have HPL : Hid (ps.length = s.cs.length) := hide (by have := congrArg List.length he1; simpa [csOf] using this); have HC1 := hide (HH.out.below hb1); have HX1 : Hid (Dx d bS bT u w W1 u) := hide (Dx.of hb1); clear hc1 he1 hb1))
  clear x0 HH
  have hcl : s.cs.length ≤ s.wt := Nat.le_add_right _ _
  have hpl : ps.length < 20000 := by have := HPL.out; omega
  go_loopw [14] (fun i W => ∃ (k : Nat) (u9 : Value), k ≤ ps.length ∧ i = .int .i64 k ∧ Chn W c d bS bT u9 (frN s (rngN lo hi (s.cs.take k))) base nx sp ∧ Kd d bS bT u9 W a0 s.cs ∧ Dx d bS bT u w W u9) (fun i _ => ps.length - (iv i).toNat)
  case atStart => exact ⟨0, u, Nat.zero_le _, rfl, by rw [List.take_zero, show rngN lo hi [] = [] from rfl, frN_nil]; exact HC1.out, HK1.out, HX1.out⟩
  case round =>
    obtain ⟨k, u9, hk, rfl, hc, hkd, hx⟩ := hrel
    have HC := hide hc
    have HKD := hide hkd
    have HX := hide hx
    clear hc hkd hx HC1 HK1 HX1
    by_cases hlt : k < ps.length
    · have hlc : k < s.cs.length := by have := HPL.out; omega
      obtain ⟨cb, qg, rfl, hno, c0, c1⟩ := HKD.out k hlc
      have HNB : Hid (Num (s.cs[k]).1) := hide (HC.out.q.ok.cb _ (List.getElem_mem hlc)).1
      have HST := hide (rngN_step lo hi s.cs k hlc)
      have HWT : Hid ((frN s (rngN lo hi (s.cs.take k))).wt < 30000) := hide (by rw [frN_wt]; have := rngN_len lo hi (s.cs.take k); rw [List.length_take] at this; omega)
      generalize (s.cs[k]).1 = qa at c0 HNB HST
      generalize rngN lo hi (s.cs.take k) = rl at HC HST HWT ⊢
      clear hno
      go_upto_region 3 with fail
      have hal := (Below.refl wr.heap.size wr).alloc (Nat.le_refl _) (.cells #[.int .i64 qa, .slice (some ⟨qg, 0, none⟩) 64 64] 88)
      have k0 : (wr.alloc (.cells #[.int .i64 qa, .slice (some ⟨qg, 0, none⟩) 64 64] 88)).cell? ⟨wr.heap.size, 0, none⟩ = some (.int .i64 qa) := World.cell?_alloc_at _ _ _ _ rfl
      have HC2 := hide (HC.out.below hal)
      have HK2 := hide (HKD.out.step (Dx.of hal))
      have HX2 := hide (HX.out.call hal)
      have HBO : Hid (¬ Own d bS bT u9 wr.heap.size) := hide (fun e => by have := HC.out.q.dk.lt e; omega)
      clear hal c0 c1 HC HKD HX
      generalize wr.alloc (.cells #[.int .i64 qa, .slice (some ⟨qg, 0, none⟩) 64 64] 88) = W2 at k0 HC2 HK2 HX2 ⊢
      generalize wr.heap.size = bx at k0 HBO ⊢
      have HK0 := hide k0
      by_cases hin : lo ≤ qa ∧ qa < hi
      · obtain ⟨hi1, hi2⟩ := hin
        have HS2 : Hid (rngN lo hi (s.cs.take (k + 1)) = rl ++ [qa]) := hide (by rw [HST.out, if_pos ⟨hi1, hi2⟩])
        go_upto_region 4 with fail
        clear k0 hi1 hi2
        have hdw : Below W2.heap.size W2 W2.drew := (Below.refl _ _).drew
        refine wp_region_held_drew (S := fun W => B4 W c (.pointer (some ⟨d, 0, none⟩)) (.int .i64 base) (.int .i64 nx) (.int .i64 sp) ∧ W.cell? ⟨bx, 0, none⟩ = some (.int .i64 qa)) (by kernel_rfl) ⟨HC2.out.x.below hdw, (World.cell?_of_block (hdw.block bx (cell_block HK0.out))).trans HK0.out⟩ (fun hHeld => ?_)
        have HC3 := hide (HC2.out.below hdw)
        have HK3 := hide (HK2.out.step (Dx.of hdw))
        have HX3 := hide (HX2.out.call hdw)
        generalize W2.drew = W3 at HC3 HK3 HX3 hHeld ⊢
        clear hdw HC2 HK2 HX2 HK0
        refine wpAnyH_take (i := 0) (oi := _) (v := .pointer (some ⟨c, 0, none⟩)) rfl (by kernel_rfl) (by kernel_rfl) (by kernel_rfl) (fun _ _ _ h => h) (Or.inl ⟨by rfl, by intro w hSw; go_simp⟩) hHeld ?_
        change wpAnyH _ _ _ _ _ _ _ (Act.put _ (some 28) _) _
        simp only [Act.put, List.setIfInBounds_toArray, List.set_cons_zero, List.set_cons_succ]
        refine wpAnyH_take (i := 1) (oi := _) (v := .pointer (some ⟨c, 0, none⟩)) rfl (by kernel_rfl) (by kernel_rfl) (by kernel_rfl) (fun _ _ _ h => h) (Or.inl ⟨by rfl, by intro w hSw; go_simp⟩) hHeld ?_
        change wpAnyH _ _ _ _ _ _ _ (Act.put _ (some 29) _) _
        simp only [Act.put, List.setIfInBounds_toArray, List.set_cons_zero, List.set_cons_succ]
        refine wpAnyH_take (i := 2) (oi := _) (v := .pointer (some ⟨c, 0, none⟩)) rfl (by kernel_rfl) (by kernel_rfl) (by kernel_rfl) (fun _ _ _ h => h) (Or.inl ⟨by rfl, by intro w hSw; go_simp⟩) hHeld ?_
        change wpAnyH _ _ _ _ _ _ _ (Act.put _ (some 30) _) _
        simp only [Act.put, List.setIfInBounds_toArray, List.set_cons_zero, List.set_cons_succ]
        refine wpAnyH_take (i := 3) (oi := _) (v := .pointer (some ⟨d, 0, none⟩)) rfl (by kernel_rfl) (by kernel_rfl) (by kernel_rfl) (fun _ _ _ h => h) (Or.inl ⟨by rfl, by intro w hSw; have h0 := hSw.1.c0; go_simp⟩) hHeld ?_
        change wpAnyH _ _ _ _ _ _ _ (Act.put _ (some 31) _) _
        simp only [Act.put, List.setIfInBounds_toArray, List.set_cons_zero, List.set_cons_succ]
        refine wpAnyH_take (i := 4) (oi := _) (v := .pointer (some ⟨bx, 0, none⟩)) rfl (by kernel_rfl) (by kernel_rfl) (by kernel_rfl) (fun _ _ _ h => h) (Or.inl ⟨by rfl, by intro w hSw; go_simp⟩) hHeld ?_
        change wpAnyH _ _ _ _ _ _ _ (Act.put _ (some 32) _) _
        simp only [Act.put, List.setIfInBounds_toArray, List.set_cons_zero, List.set_cons_succ]
        refine wpAnyH_take (i := 5) (oi := _) (v := .int .i64 qa) rfl (by kernel_rfl) (by kernel_rfl) (by kernel_rfl) (fun _ _ _ h => h) (Or.inl ⟨by rfl, by intro w hSw; have h0 := hSw.2; go_simp⟩) hHeld ?_
        change wpAnyH _ _ _ _ _ _ _ (Act.put _ (some 33) _) _
        simp only [Act.put, List.setIfInBounds_toArray, List.set_cons_zero, List.set_cons_succ]
        refine wpAnyH_ready (rs := [6]) (by kernel_rfl) (by simp) ?_
        refine AllReadyH.cons (o := _) rfl (fun K hK => ?_) AllReadyH.nil
        go_simp
        go_at_call 47
        refine (q_free qa _ HC3.out.q HWT.out).mono ?_
        rintro e W4 ⟨u4, rfl, hq4, hx4⟩
        rw [frN_snoc HNB.out] at hq4
        go_wp2_with fail
        refine hK.out _ _ ⟨hx4.b4 HC3.out.no hHeld.1, (hx4.cell (cell_block hHeld.2) HBO.out 0).trans hHeld.2⟩ (fun hHeld1 => ?_)
        clear hK K hHeld
        have hHeld := hHeld1
        clear hHeld1
        refine wpAnyH_done (by kernel_rfl) ?_ _
        clear hHeld
        have HC4 : Hid (Chn W4 c d bS bT u4 (frN s (rl ++ [qa])) base nx sp) := hide ⟨hq4, hx4.b4 HC3.out.no HC3.out.x, hx4.own HC3.out.x.lt HC3.out.no⟩
        have HK4 := hide (HK3.out.step hx4)
        have HX4 := hide (HX3.out.trans hx4)
        clear hq4 hx4 HC3 HK3 HX3
        go_wp2
        exact ⟨⟨k + 1, u4, by omega, by go_num, by rw [HS2.out]; exact HC4.out, HK4.out, HX4.out⟩, by simp [iv]; omega⟩
      · have HS2 : Hid (rngN lo hi (s.cs.take (k + 1)) = rl) := hide (by rw [HST.out, if_neg hin, List.append_nil])
        have hcs : ¬ lo ≤ qa ∨ lo ≤ qa ∧ ¬ qa < hi := by by_cases h1 : lo ≤ qa; exact .inr ⟨h1, fun h2 => hin ⟨h1, h2⟩⟩; exact .inl h1
        clear hin
        rcases hcs with h1 | ⟨h1, h2⟩
        all_goals
          go_wp2
          exact ⟨⟨k + 1, u9, by omega, by go_num, by rw [HS2.out]; exact HC2.out, HK2.out, HX2.out⟩, by simp [iv]; omega⟩
    · obtain rfl : k = ps.length := by omega
      have HE : Hid (s.cs.take ps.length = s.cs) := hide (List.take_of_length_le (by have := HPL.out; omega))
      go_wp2
      exact bodyPost_end (v := .tuple #[]) (by simp [results, Tryz.results46]) rfl ⟨u9, rfl, by rw [← HE.out]; exact HC.out, HX.out⟩
/-- What a cut leaves. -/
def cutS (s : Dst) (a sp nx : Int) : Dst := syS (frN (syS (pS s a sp [] 1)) (rngN (a + 1) nx (syS (pS s a sp [] 1)).cs))
set_option maxRecDepth 100000 in
set_option maxHeartbeats 8000000 in
theorem cut_ok {c d bS bT : Nat} {u : Value} {s : Dst} {base nx sp : Int} (a : Int) (w : World) (h : Chn w c d bS bT u s base nx sp) (ha0 : 0 ≤ base) (ha : base ≤ a) (ha2 : a < nx) (hx : nx ≤ 1073741825) (hr : (look s.tk a).isSome = true ∨ (s.tk.length : Int) < s.room) (hw : s.wt < 6000) (hs : 0 ≤ sp ∧ sp ≤ 2305843009213693952) : Calls Tryz.prog 18 #[.pointer (some ⟨c, 0, none⟩), .int .i64 a] w fun e w' => ∃ u', e = .returned .nilIface ∧ Chn w' c d bS bT u' (cutS s a sp nx) base (a + 1) (sp + 1) ∧ Cx c d bS bT u w w' u' := by
  have HH := hide h
  have HR := hide hr
  clear h hr
  have x1 := HH.out.x.c1
  have x2 := HH.out.x.c2
  have hxe : (a == nx) = false := by simp; omega
  have HOK : Hid ((pS s a sp [] 1).Ok → (syS (pS s a sp [] 1)).wt ≤ s.wt + 1) := hide (fun h => by have h1 := syS_wt h; have h2 := pS_wt s a sp [] 1; omega)
  have HRR : Hid (∀ k : Nat, k < 1 → (look (pS s a sp [] k).tk (a + k)).isSome = true ∨ ((pS s a sp [] k).tk.length : Int) < s.room) := hide (fun k hk => (by obtain rfl : k = 0 := (by omega); rw [pS_zero]; simpa using HR.out))
  have HW1 : Hid ((pS s a sp [] 1).wt < 30000) := hide (by have := pS_wt s a sp [] 1; omega)
  go_enter Tryz.func18, Tryz.ntmps18
  go_upto_region 7 with (first | (go_at_call 39; refine (put_ok a _ [] 1 _ HH.out (fun _ _ _ => Sl.nil _ _ _ _) (fun x hx => by simp at hx) (by simp) (by decide) (by omega) (by omega) HRR.out (by omega) hs).mono ?_; rintro e W1 ⟨u1, rfl, hc1, hx1⟩; have HC1 := hide hc1; have HX1 := hide hx1; have HW2 := hide (HOK.out hc1.q.ok); clear hc1 hx1))
  clear x1 x2
  go_upto_region 10 with (first | (go_at_call 13; refine (syncC_any _ HC1.out HW1.out).mono ?_; rintro e W2 ⟨rfl, hc2, hx2⟩; have HC2 := hide hc2; have HX2 := hide (HX1.out.trans (Cx.of hx2)); clear hc2 hx2))
  clear HC1 HX1
  go_upto_region 11 with (first | (go_at_call 46; refine (freeSynced_any (a + 1) nx _ HC2.out (by have := HW2.out; omega)).mono ?_; rintro e W3 ⟨u3, rfl, hc3, hx3⟩; have HC3 := hide hc3; have HX3 := hide (HX2.out.trans (Cx.of hx3)); clear hc3 hx3))
  clear HC2 HX2
  have HW3 : Hid ((frN (syS (pS s a sp [] 1)) (rngN (a + 1) nx (syS (pS s a sp [] 1)).cs)).wt < 30000) := hide (by rw [frN_wt]; have h1 := HW2.out; have h2 := rngN_len (a + 1) nx (syS (pS s a sp [] 1)).cs; have h3 : (syS (pS s a sp [] 1)).cs.length ≤ (syS (pS s a sp [] 1)).wt := Nat.le_add_right _ _; omega)
  go_wp2_with (first | (go_at_call 13; refine (syncC_any _ HC3.out HW3.out).mono ?_; rintro e W4 ⟨rfl, hc4, hx4⟩; have HC4 := hide hc4; have HX4 := hide (HX3.out.trans (Cx.of hx4)); clear hc4 hx4))
  go_ret
  exact ⟨_, rfl, HC4.out, HX4.out⟩
/-- Numbers one behind the other. -/
def trL (a : Int) (n : Nat) : List Int := (List.range n).map fun (i : Nat) => a + (i : Int)
theorem trL_succ (a : Int) (n : Nat) : trL a (n + 1) = trL a n ++ [a + n] := by simp [trL, List.range_succ]
theorem trL_len (a : Int) (n : Nat) : (trL a n).length = n := by simp [trL]
set_option maxRecDepth 100000 in
set_option maxHeartbeats 8000000 in
theorem trim_ok {c d bS bT : Nat} {u : Value} {s : Dst} {base nx sp : Int} (a : Int) (n : Nat) (w : World) (h : Chn w c d bS bT u s base nx sp) (ha0 : 0 ≤ base) (ha : base ≤ a) (ha2 : a + n ≤ nx) (hx : nx ≤ 1073741825) (hw : s.wt + n < 30000) : Calls Tryz.prog 20 #[.pointer (some ⟨c, 0, none⟩), .int .i64 a, .int .i64 (a + n)] w fun e w' => ∃ u', e = .returned .nilIface ∧ Chn w' c d bS bT u' (frN s (trL a n)) base nx sp ∧ Dx d bS bT u w w' u' := by
  have HH := hide h
  clear h
  have x1 := HH.out.x.c1
  have x2 := HH.out.x.c2
  go_enter Tryz.func20, Tryz.ntmps20
  go_wp2
  clear x1 x2
  go_loopw [7] (fun i W => ∃ (k : Nat) (u9 : Value), k ≤ n ∧ i = .int .i64 (a + k) ∧ Chn W c d bS bT u9 (frN s (trL a k)) base nx sp ∧ Dx d bS bT u w W u9) (fun i _ => (a + n - iv i).toNat)
  case atStart => exact ⟨0, u, Nat.zero_le _, by simp, by rw [show trL a 0 = [] from rfl, frN_nil]; exact HH.out, Dx.refl⟩
  case round =>
    obtain ⟨k, u9, hk, rfl, hc, hx9⟩ := hrel
    have HC := hide hc
    have HX := hide hx9
    clear hc hx9
    by_cases hlt : k < n
    · have x0 := HC.out.x.c0
      have HNK : Hid (Num (a + k)) := hide ⟨by omega, by omega⟩
      have HWT : Hid ((frN s (trL a k)).wt < 30000) := hide (by rw [frN_wt, trL_len]; omega)
      go_wp2_with (first | (go_at_call 47; refine (q_free (a + k) _ HC.out.q HWT.out).mono ?_; rintro e W4 ⟨u4, rfl, hq4, hx4⟩; rw [frN_snoc HNK.out, ← trL_succ] at hq4; have HC4 : Hid (Chn W4 c d bS bT u4 (frN s (trL a (k + 1))) base nx sp) := hide ⟨hq4, hx4.b4 HC.out.no HC.out.x, hx4.own HC.out.x.lt HC.out.no⟩; have HX4 := hide (HX.out.trans hx4); clear hq4 hx4))
      exact ⟨⟨k + 1, u4, by omega, by rw [show a + ((k + 1 : Nat) : Int) = a + k + 1 by omega], HC4.out, HX4.out⟩, by simp [iv]; omega⟩
    · obtain rfl : k = n := by omega
      go_wp2
      go_ret
      exact ⟨u9, rfl, HC.out, HX.out⟩
end Go.Proofs.YtoamghncncalgaaGreatDoor
