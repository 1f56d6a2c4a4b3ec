/-
  RECORDS AS BATCHES OF SO MANY, BY THE DOCUMENT (castellanref06.Split): what the mathematics says. Conditions: the records' cells hold them, no more than a thousand; the base is not too great.
-/
import Derived.Test.YtgbcjmpnkejpeaaGreatDoorJBatSqa
import Derived.Test.YtgbcjmpnkejpeaaGreatDoorJBatOfa3
namespace Go.Proofs.YtgbcjmpnkejpeaaGreatDoor
open Go.RowKit

def InS (t bs : Int) (m : Nat) (ps : List Rp) (w W : World) (y : Value) (j : Nat) (fs : List Bq) (l : Bq) : Prop := Sy w W y fs l ∧ l.t = t ∧ l.b = bs + (fs.length : Int) ∧ l.ps = (ps.take j).drop (fs.length * m) ∧ bts fs = splitK t bs m fs.length (rcl ps)
theorem inS_full {t bs : Int} {m : Nat} {ps : List Rp} {w W : World} {y : Value} {j : Nat} {fs : List Bq} {l : Bq} (h : InS t bs m ps w W y j fs l) (hj : j = fs.length * m + m ∨ (j = ps.length ∧ ps.length ≤ fs.length * m + m)) : bts (fs ++ [l]) = splitK t bs m (fs ++ [l]).length (rcl ps) := by
  obtain ⟨_, h1, h2, h3, h4⟩ := h
  have e : rcl l.ps = chunk m fs.length (rcl ps) := by
    unfold rcl
    rw [chunk_map, h3]
    unfold chunk
    rw [List.drop_take]
    rcases hj with rfl | ⟨rfl, hle⟩
    · rw [Nat.add_sub_cancel_left]
    · rw [List.take_of_length_le (by rw [List.length_drop]; exact Nat.le_refl _), List.take_of_length_le (by rw [List.length_drop]; omega)]
  rw [List.length_append, List.length_singleton, splitK_succ, ← h4]
  simp only [bts, List.map_append, List.map_cons, List.map_nil, btq]
  rw [h1, h2, e]
theorem take_drop_snoc {α : Type} (l : List α) (j K : Nat) (hj : j < l.length) (hk : K ≤ j) : (l.take (j + 1)).drop K = (l.take j).drop K ++ [l[j]] := by
  rw [List.take_succ_eq_append_getElem hj, List.drop_append_of_le_length (by rw [List.length_take]; omega)]
theorem below_grown {C : Nat} {w W W' : World} {row : Option Nat} (h : Below C w W) (hg : W.grownBy W' row) (hrow : ∀ k, row = some k → C ≤ k) (hC : C ≤ W.heap.size) : Below C w W' :=
  ⟨hg.os.trans h.os, hg.tape.trans h.tape, hg.output.trans h.output, Nat.le_trans h.size hg.size, fun k hk => (hg.block k (by omega) (fun e => by have := hrow k e.symm; omega)).trans (h.block k hk)⟩
theorem below_set {C d i : Nat} {x : Value} {w W : World} (h : Below C w W) (hd : C ≤ d) : Below C w (W.setCell ⟨d, i, none⟩ x) :=
  ⟨h.os, h.tape, h.output, by simpa using h.size, fun k hk => (Below.heap_setCell _ _ _ _ (by show k ≠ d; omega)).trans (h.block k hk)⟩
set_option maxRecDepth 100000 in
set_option maxHeartbeats 16000000 in
theorem rsplit_some (t bs : Int) (m : Nat) (b o cap : Nat) (ps : List Rp) (w : World) (hm : 1 ≤ m) (hm2 : (m : Int) ≤ 9223372036854775807) (hb1 : -4611686018427387904 ≤ bs) (hb2 : bs ≤ 4611686018427387904) (hv : Rl (fun _ => True) (fun k => k < w.heap.size) w (.slice (some ⟨b, o, none⟩) ps.length cap) ps) (hn : ps.length ≤ 1000) (hn0 : 0 < ps.length) :
    Calls Tryz.prog 38 #[.int .i64 t, .int .i64 bs, .int .i64 m, (.slice (some ⟨b, o, none⟩) ps.length cap)] w fun e w' => ∃ y qs k, e = .returned y ∧ Bl w' y qs ∧ bts qs = splitK t bs m k (rcl ps) ∧ (k * m < ps.length + m ∧ ps.length ≤ k * m) ∧ Below w.heap.size w w' := by
  have hmI : (0 : Int) < (m : Int) := by omega
  have hm0 : ¬ (m : Int) = 0 := by omega
  obtain ⟨b', o', e0, hrg⟩ := hv.rg hn0
  cases e0
  have HRG := hide hrg
  have HRW := hide hv.2
  clear hv hrg
  go_enter Tryz.func38, Tryz.ntmps38
  go_wp2_with fail
  go_loopw [9, 10] (fun y i wr => ∃ (YV : Value) (j : Nat), YV = y ∧ j ≤ ps.length ∧ i = .int .i64 (j : Int) ∧ ((j = 0 ∧ YV = .slice none 0 0 ∧ Below w.heap.size w wr) ∨ (∃ fs l, InS t bs m ps w wr YV j fs l ∧ fs.length * m < j ∧ j ≤ fs.length * m + m))) (fun _ i _ => ps.length - (intOf i).toNat)
  case atStart => exact ⟨_, 0, rfl, Nat.zero_le _, rfl, .inl ⟨rfl, rfl, Below.refl _ _⟩⟩
  case round =>
    obtain ⟨YV, j, hYV, hj, rfl, hinv⟩ := hrel
    subst hYV
    have HIN := hide hinv
    clear hinv
    by_cases hlt : j < ps.length
    · have hltI : (j : Int) < (ps.length : Int) := by omega
      go_upto_if 25 with fail
      go_cut [9] (fun y W => ∃ fs l, InS t bs m ps w W y j fs l ∧ fs.length * m ≤ j ∧ j < fs.length * m + m)
      case first =>
        by_cases hmod : j % m = 0
        · have hb0 : ((j : Int) % (m : Int) == 0) = true := by rw [← Int.natCast_emod, hmod]; rfl
          obtain ⟨qs, hsz, hqm, hbt⟩ : ∃ qs, Sz w wr YV qs ∧ qs.length * m = j ∧ bts qs = splitK t bs m qs.length (rcl ps) := by
            rcases HIN.out with ⟨rfl, rfl, hbe⟩ | ⟨fs, l, hin, h1, h2⟩
            · exact ⟨[], ⟨World.ownsRow_nil _ _ _ _, fun q hq => by simp at hq, hbe⟩, Nat.zero_mul _, rfl⟩
            · have hjm : j = fs.length * m + m := by
                obtain ⟨c, hc⟩ : ∃ c, j = m * c := ⟨j / m, by have := Nat.div_add_mod j m; omega⟩
                have e1 : fs.length < c := Nat.lt_of_mul_lt_mul_left (a := m) (by rw [← hc, Nat.mul_comm]; exact h1)
                have e2 : m * (fs.length + 1) ≤ m * c := Nat.mul_le_mul_left m e1
                rw [Nat.mul_add, Nat.mul_one, Nat.mul_comm] at e2
                omega
              exact ⟨fs ++ [l], hin.1.sz, by rw [List.length_append, List.length_singleton, Nat.add_mul, Nat.one_mul]; exact hjm.symm, inS_full hin (.inl hjm)⟩
          have hdiv : (j : Int) / (m : Int) = (qs.length : Int) := by
            rw [← Int.natCast_ediv, ← hqm, Nat.mul_div_cancel _ (by omega)]
          have hq1000 : qs.length ≤ 1000 := by
            have : qs.length * 1 ≤ qs.length * m := Nat.mul_le_mul_left _ hm
            omega
          have hbk : IntKind.i64.wrap (bs + (j : Int) / (m : Int)) = bs + (j : Int) / (m : Int) := by rw [hdiv, IntKind.wrap_i64]; omega
          have hbk0 : IntKind.i64.wrap ((j : Int) / (m : Int)) = (j : Int) / (m : Int) := by rw [hdiv, IntKind.wrap_i64]; omega
          have hbl : Below wr.heap.size wr (wr.alloc (.cells #[.int .i64 t, .int .i64 (bs + (j : Int) / (m : Int)), .slice none 0 0] 48)) := (Below.refl _ _).alloc (Nat.le_refl _) _
          have HS2 := hide (hsz.below hbl)
          have HNW := hide (range_news (range_new wr [.int .i64 t, .int .i64 (bs + (j : Int) / (m : Int)), .slice none 0 0] 48))
          have HQM := hide hqm
          have HBT := hide hbt
          have HDV := hide hdiv
          clear hsz hbl hqm hbt hdiv hmod
          go_wp2_with (first | (at_builtin; refine wpList_append_bt _ rfl _ _ rfl w.heap.size YV qs.length (bcs qs) rfl HS2.out.own HS2.out.be.size ⟨wr.heap.size, 0, none⟩ 1 (bce ⟨t, bs + (j : Int) / (m : Int), .slice none 0 0, []⟩) rfl rfl HNW.out (fun u hu => by simp [bce] at hu; rcases hu with rfl | rfl | rfl <;> rfl) (by omega) ?_; intro V2 y2 ho hgr hub; have HS3 := hide (HS2.out.app t _ ho hgr hub); clear ho hgr hub HS2 HNW))
          go_meet
          refine ⟨qs, _, ⟨HS3.out, rfl, by show bs + (j : Int) / (m : Int) = _; rw [HDV.out], ?_, HBT.out⟩, by rw [HQM.out]; exact Nat.le_refl _, by rw [HQM.out]; omega⟩
          show [] = _
          rw [HQM.out]
          exact (List.drop_eq_nil_of_le (by rw [List.length_take]; omega)).symm
        · have hb0 : ((j : Int) % (m : Int) == 0) = false := by
            rw [← Int.natCast_emod]
            have : ¬ ((j % m : Nat) : Int) = 0 := by omega
            simpa using this
          obtain ⟨fs, l, hin, h1, h2⟩ : ∃ fs l, InS t bs m ps w wr YV j fs l ∧ fs.length * m ≤ j ∧ j < fs.length * m + m := by
            rcases HIN.out with ⟨rfl, _, _⟩ | ⟨fs, l, hin, h1, h2⟩
            · exact absurd (Nat.zero_mod m) hmod
            · refine ⟨fs, l, hin, by omega, ?_⟩
              have : j ≠ fs.length * m + m := fun e => hmod (by rw [e, Nat.add_mod_right, Nat.mul_mod_left])
              omega
          have HI2 := hide hin
          clear hin hmod
          go_wp2_with fail
          go_meet
          exact ⟨fs, l, HI2.out, h1, h2⟩
      case rest =>
        clear HIN
        obtain ⟨fs, ⟨lt, lb, lu, lps⟩, ⟨hsy, hlt1, hlb, hlps, hbt⟩, hk1, hk2⟩ := hcut
        simp only at hlt1 hlb hlps
        replace hlt1 := hlt1.symm
        subst hlt1 hlb
        have hfs : fs.length ≤ 1000 := by
          have : fs.length * 1 ≤ fs.length * m := Nat.mul_le_mul_left _ hm
          omega
        have hll : lps.length ≤ 1000 := by rw [hlps, List.length_drop, List.length_take]; omega
        obtain ⟨al, cl, hlu⟩ : ∃ al cl, lu = .slice al lps.length cl := by
          rcases hsy.la.2 with ⟨e1, e2⟩ | ⟨g, c, cur, e1, _⟩
          · exact ⟨none, 0, by rw [show lps.length = 0 from e2]; exact e1⟩
          · exact ⟨_, _, e1⟩
        subst hlu
        obtain ⟨g, cy, hy, _, _, _, hrg, _⟩ := owns_range hsy.own (Nat.succ_pos _)
        subst hy
        have hbl3 := bcs_len fs
        have at3 : ∀ i v, (bce ⟨t, bs + (fs.length : Int), .slice al lps.length cl, lps⟩)[i]? = some v → wc.cell? ⟨g, fs.length * 3 + i, none⟩ = some v := fun i v hv => by
          have := hrg (fs.length * 3 + i) v (by rw [List.getElem?_append_right (by omega), hbl3, Nat.add_sub_cancel_left]; exact hv)
          rwa [Nat.zero_add] at this
        have c0 : wc.cell? ⟨g, fs.length * 3, none⟩ = some (.int .i64 t) := at3 0 _ rfl
        have c1 : wc.cell? ⟨g, fs.length * 3 + 1, none⟩ = some (.int .i64 (bs + (fs.length : Int))) := at3 1 _ rfl
        have c2 : wc.cell? ⟨g, fs.length * 3 + 2, none⟩ = some (.slice al lps.length cl) := at3 2 _ rfl
        have HB0 := hide hsy.box
        have HBT := hide hbt
        have HE := hide (range_at HRG.out hlt)
        have HPW := hide (HRW.out _ (List.getElem_mem hlt))
        have HSN := hide (take_drop_snoc ps j (fs.length * m) hlt hk1)
        have HLP := hide hlps
        have HK1 := hide hk1
        have HK2 := hide hk2
        clear hsy hbt at3 hrg hbl3 hlps hk1 hk2
        generalize ps[j] = p at HE HPW HSN
        simp only at HB0
        go_upto_region 8 with fail
        generalize wc.alloc (.cells #[.int .i64 t, .int .i64 (bs + (fs.length : Int)), .slice al lps.length cl] 48) = W1 at HB0 ⊢
        clear c0 c1 c2
        generalize wc.heap.size = d at HB0 ⊢
        have HS0 := hide HB0.out.be.drew
        have HD := hide HB0.out.hd
        refine wp_region_held_drew (S := fun W => Below w.heap.size w W) (by kernel_rfl) HS0.out (fun hHeld => ?_)
        have H0 := hide (HB0.out.below ((Below.refl _ _).drew))
        generalize W1.drew = W0 at H0 hHeld ⊢
        clear HS0 HB0
        refine wpAnyH_take (i := 0) (oi := _) (v := .pointer (some ⟨d, 2, none⟩)) rfl (by kernel_rfl) (by kernel_rfl) (by kernel_rfl) (fun _ _ _ h => h) (Or.inl ⟨by rfl, by intro w hSw; go_simp⟩) hHeld ?_
        change wpAnyH _ _ _ _ _ _ _ (Act.put _ (some 42) _) _
        simp only [Act.put, List.setIfInBounds_toArray, List.set_cons_zero, List.set_cons_succ]
        refine wpAnyH_take (i := 2) (oi := _) (v := (.slice (some ⟨b, o, none⟩) ps.length cap)) rfl (by kernel_rfl) (by kernel_rfl) (by kernel_rfl) (fun _ _ _ h => h) (Or.inl ⟨by rfl, by intro w hSw; go_simp⟩) hHeld ?_
        change wpAnyH _ _ _ _ _ _ _ (Act.put _ (some 44) _) _
        simp only [Act.put, List.setIfInBounds_toArray, List.set_cons_zero, List.set_cons_succ]
        refine wpAnyH_take (i := 3) (oi := _) (v := .int .i64 (j : Int)) rfl (by kernel_rfl) (by kernel_rfl) (by kernel_rfl) (fun _ _ _ h => h) (Or.inl ⟨by rfl, by intro w hSw; go_simp⟩) hHeld ?_
        change wpAnyH _ _ _ _ _ _ _ (Act.put _ (some 45) _) _
        simp only [Act.put, List.setIfInBounds_toArray, List.set_cons_zero, List.set_cons_succ]
        refine wpAnyH_take (i := 4) (oi := _) (v := .pointer (some ⟨b, o + j * 18, none⟩)) rfl (by kernel_rfl) (by kernel_rfl) (by kernel_rfl) (fun _ _ _ h => h) (Or.inl ⟨by rfl, by intro w hSw; go_simp⟩) hHeld ?_
        change wpAnyH _ _ _ _ _ _ _ (Act.put _ (some 46) _) _
        simp only [Act.put, List.setIfInBounds_toArray, List.set_cons_zero, List.set_cons_succ]
        refine wpAnyH_take (i := 5) (oi := _) (v := _) rfl (by kernel_rfl) (by kernel_rfl) (by kernel_rfl) (fun _ _ _ h => h) (yieldsIf_load_mid (by rfl) _ _ rfl _ _ rfl (cel p) _ (fun W hW => range_bel HE.out hW) Tryz.underlying35 rfl (by kernel_rfl)) hHeld ?_
        change wpAnyH _ _ _ _ _ _ _ (Act.put _ (some 47) _) _
        simp only [Act.put, List.setIfInBounds_toArray, List.set_cons_zero, List.set_cons_succ]
        refine wpAnyH_ready (rs := [1, 6]) (by kernel_rfl) (by simp) ?_
        refine AllReadyH.cons (o := _) rfl (fun K hK => ?_) (AllReadyH.cons (o := _) rfl (fun K hK => ?_) AllReadyH.nil)
        · have i2 := H0.out.x2
          go_simp
          clear i2
          refine hK.out _ _ ?_ (fun hHeld1 => ?_)
          · exact hHeld
          clear hK K hHeld
          have hHeld := hHeld1
          clear hHeld1
          refine wpAnyH_ready (rs := [6]) (by kernel_rfl) (by simp) ?_
          refine AllReadyH.cons (o := _) rfl (fun K hK => ?_) AllReadyH.nil
          refine step_build_rc rfl _ rfl p rfl ?_
          show K (Act.put _ (some 48) _) _
          simp only [Act.put, List.setIfInBounds_toArray, List.set_cons_zero, List.set_cons_succ]
          have hbl : Below W0.heap.size W0 (W0.alloc (.cells (cel p).toArray 35)) := (Below.refl _ _).alloc (Nat.le_refl _) _
          have H1 := hide (H0.out.below hbl)
          refine hK.out _ _ ?_ (fun hHeld1 => ?_)
          · exact H1.out.be
          clear hK K hHeld
          have hHeld := hHeld1
          clear hHeld1
          have HNW := hide (range_news (range_new W0 (cel p) 35))
          generalize W0.alloc (.cells (cel p).toArray 35) = U1 at H1 HNW hHeld ⊢
          generalize W0.heap.size = D at HNW ⊢
          clear hbl H0
          refine wpAnyH_ready (rs := [7]) (by kernel_rfl) (by simp) ?_
          refine AllReadyH.cons (o := _) rfl (fun K hK => ?_) AllReadyH.nil
          refine step_append_rc rfl _ _ rfl w.heap.size (.slice al lps.length cl) lps.length (rcs lps) rfl H1.out.la H1.out.be.size ⟨D, 0, none⟩ 1 (cel p) rfl (cel_len p) HNW.out (cel_one p) (by omega) ?_
          intro V5 u' ho hgr hub
          have HF := hide (H1.out.fin rfl (HPW.out.below H1.out.be) ho hgr hub)
          have HBV := hide (below_grown H1.out.be hgr (fun k e => (H1.out.la.lt k e).1) H1.out.be.size)
          have c5 := HF.out.1.1.2.2.1
          have f5 := HF.out.1.1.2.2.2 2
          obtain ⟨a6, c6, hu6⟩ : ∃ a6 c6, u' = .slice a6 (lps.length + 1) c6 := by
            rcases ho.2 with ⟨_, h0⟩ | ⟨g, cap, cur, rfl, _⟩
            · omega
            · exact ⟨_, _, rfl⟩
          clear ho hgr hub H1 HNW
          subst hu6
          simp only at HF c5 f5
          show K (Act.put _ (some 49) _) _
          simp only [Act.put, List.setIfInBounds_toArray, List.set_cons_zero, List.set_cons_succ]
          refine hK.out _ _ ?_ (fun hHeld1 => ?_)
          · exact HBV.out
          clear hK K hHeld
          have hHeld := hHeld1
          clear hHeld1
          refine wpAnyH_take (i := 8) (oi := _) (v := .pointer (some ⟨d, 2, none⟩)) rfl (by kernel_rfl) (by kernel_rfl) (by kernel_rfl) (fun _ _ _ h => h) (Or.inl ⟨by rfl, by intro w hSw; go_simp⟩) hHeld ?_
          change wpAnyH _ _ _ _ _ _ _ (Act.put _ (some 50) _) _
          simp only [Act.put, List.setIfInBounds_toArray, List.set_cons_zero, List.set_cons_succ]
          refine wpAnyH_ready (rs := [9]) (by kernel_rfl) (by simp) ?_
          refine AllReadyH.cons (o := _) rfl (fun K hK => ?_) AllReadyH.nil
          go_simp
          clear c5 f5
          refine hK.out _ _ ?_ (fun hHeld1 => ?_)
          · exact below_set hHeld HD.out
          clear hK K hHeld
          have hHeld := hHeld1
          clear hHeld1
          refine wpAnyH_done (by kernel_rfl) ?_ _
          clear hHeld
          obtain ⟨⟨_, ⟨z0, z1, z2⟩, k0, k1, k2, kf⟩, hsy⟩ := HF.out
          have f0 := kf (fs.length * 3)
          have f1 := kf (fs.length * 3 + 1)
          have f2 := kf (fs.length * 3 + 2)
          have HSY := hide hsy
          clear kf hsy HF HBV
          generalize V5.setCell ⟨d, 2, none⟩ (.slice a6 (lps.length + 1) c6) = W6 at HSY z0 z1 z2 k0 k1 k2 f0 f1 f2 ⊢
          go_wp2_with fail
          go_roundw
          case rel => exact ⟨_, j + 1, rfl, by omega, by go_num, .inr ⟨fs, ⟨t, bs + (fs.length : Int), .slice a6 (lps.length + 1) c6, lps ++ [p]⟩, ⟨HSY.out, rfl, rfl, by show lps ++ [p] = _; rw [HSN.out, HLP.out], HBT.out⟩, by have := HK1.out; omega, by have := HK2.out; omega⟩⟩
          case measure => simp [intOf]; omega
        · refine step_build_rc rfl _ rfl p rfl ?_
          show K (Act.put _ (some 48) _) _
          simp only [Act.put, List.setIfInBounds_toArray, List.set_cons_zero, List.set_cons_succ]
          have hbl : Below W0.heap.size W0 (W0.alloc (.cells (cel p).toArray 35)) := (Below.refl _ _).alloc (Nat.le_refl _) _
          have H1 := hide (H0.out.below hbl)
          refine hK.out _ _ ?_ (fun hHeld1 => ?_)
          · exact H1.out.be
          clear hK K hHeld
          have hHeld := hHeld1
          clear hHeld1
          have HNW := hide (range_news (range_new W0 (cel p) 35))
          generalize W0.alloc (.cells (cel p).toArray 35) = U1 at H1 HNW hHeld ⊢
          generalize W0.heap.size = D at HNW ⊢
          clear hbl H0
          refine wpAnyH_ready (rs := [1]) (by kernel_rfl) (by simp) ?_
          refine AllReadyH.cons (o := _) rfl (fun K hK => ?_) AllReadyH.nil
          have i2 := H1.out.x2
          go_simp
          clear i2
          refine hK.out _ _ ?_ (fun hHeld1 => ?_)
          · exact hHeld
          clear hK K hHeld
          have hHeld := hHeld1
          clear hHeld1
          refine wpAnyH_ready (rs := [7]) (by kernel_rfl) (by simp) ?_
          refine AllReadyH.cons (o := _) rfl (fun K hK => ?_) AllReadyH.nil
          refine step_append_rc rfl _ _ rfl w.heap.size (.slice al lps.length cl) lps.length (rcs lps) rfl H1.out.la H1.out.be.size ⟨D, 0, none⟩ 1 (cel p) rfl (cel_len p) HNW.out (cel_one p) (by omega) ?_
          intro V5 u' ho hgr hub
          have HF := hide (H1.out.fin rfl (HPW.out.below H1.out.be) ho hgr hub)
          have HBV := hide (below_grown H1.out.be hgr (fun k e => (H1.out.la.lt k e).1) H1.out.be.size)
          have c5 := HF.out.1.1.2.2.1
          have f5 := HF.out.1.1.2.2.2 2
          obtain ⟨a6, c6, hu6⟩ : ∃ a6 c6, u' = .slice a6 (lps.length + 1) c6 := by
            rcases ho.2 with ⟨_, h0⟩ | ⟨g, cap, cur, rfl, _⟩
            · omega
            · exact ⟨_, _, rfl⟩
          clear ho hgr hub H1 HNW
          subst hu6
          simp only at HF c5 f5
          show K (Act.put _ (some 49) _) _
          simp only [Act.put, List.setIfInBounds_toArray, List.set_cons_zero, List.set_cons_succ]
          refine hK.out _ _ ?_ (fun hHeld1 => ?_)
          · exact HBV.out
          clear hK K hHeld
          have hHeld := hHeld1
          clear hHeld1
          refine wpAnyH_take (i := 8) (oi := _) (v := .pointer (some ⟨d, 2, none⟩)) rfl (by kernel_rfl) (by kernel_rfl) (by kernel_rfl) (fun _ _ _ h => h) (Or.inl ⟨by rfl, by intro w hSw; go_simp⟩) hHeld ?_
          change wpAnyH _ _ _ _ _ _ _ (Act.put _ (some 50) _) _
          simp only [Act.put, List.setIfInBounds_toArray, List.set_cons_zero, List.set_cons_succ]
          refine wpAnyH_ready (rs := [9]) (by kernel_rfl) (by simp) ?_
          refine AllReadyH.cons (o := _) rfl (fun K hK => ?_) AllReadyH.nil
          go_simp
          clear c5 f5
          refine hK.out _ _ ?_ (fun hHeld1 => ?_)
          · exact below_set hHeld HD.out
          clear hK K hHeld
          have hHeld := hHeld1
          clear hHeld1
          refine wpAnyH_done (by kernel_rfl) ?_ _
          clear hHeld
          obtain ⟨⟨_, ⟨z0, z1, z2⟩, k0, k1, k2, kf⟩, hsy⟩ := HF.out
          have f0 := kf (fs.length * 3)
          have f1 := kf (fs.length * 3 + 1)
          have f2 := kf (fs.length * 3 + 2)
          have HSY := hide hsy
          clear kf hsy HF HBV
          generalize V5.setCell ⟨d, 2, none⟩ (.slice a6 (lps.length + 1) c6) = W6 at HSY z0 z1 z2 k0 k1 k2 f0 f1 f2 ⊢
          go_wp2_with fail
          go_roundw
          case rel => exact ⟨_, j + 1, rfl, by omega, by go_num, .inr ⟨fs, ⟨t, bs + (fs.length : Int), .slice a6 (lps.length + 1) c6, lps ++ [p]⟩, ⟨HSY.out, rfl, rfl, by show lps ++ [p] = _; rw [HSN.out, HLP.out], HBT.out⟩, by have := HK1.out; omega, by have := HK2.out; omega⟩⟩
          case measure => simp [intOf]; omega
    · obtain rfl : j = ps.length := by omega
      obtain ⟨fs, l, hin, h1, h2⟩ : ∃ fs l, InS t bs m ps w wr YV ps.length fs l ∧ fs.length * m < ps.length ∧ ps.length ≤ fs.length * m + m := by
        rcases HIN.out with ⟨e, _, _⟩ | h
        · omega
        · exact h
      have HI := hide hin
      have HF := hide (inS_full hin (.inr ⟨rfl, h2⟩))
      have HK : Hid ((fs ++ [l]).length * m = fs.length * m + m) := hide (by rw [List.length_append, List.length_singleton, Nat.add_mul, Nat.one_mul])
      clear hin HIN hlt
      go_wp2_with fail
      go_ret
      exact ⟨_, fs ++ [l], (fs ++ [l]).length, rfl, HI.out.1.sz.bl, HF.out, by rw [HK.out]; omega, HI.out.1.be⟩
set_option maxRecDepth 100000 in
set_option maxHeartbeats 4000000 in
theorem rsplit_none (t bs most : Int) (u : Value) (n : Nat) (ao : Option Addr) (cap : Nat) (w : World) (hu : u = .slice ao n cap) (h : most < 1 ∨ n = 0) : Calls Tryz.prog 38 #[.int .i64 t, .int .i64 bs, .int .i64 most, u] w fun e w' => e = .returned (.slice none 0 0) ∧ Below w.heap.size w w' := by
  subst hu
  go_enter Tryz.func38, Tryz.ntmps38
  go_wp2_with fail
  refine wp_loop_rounds 1 ?_
  rw [rounds_succ]
  by_cases h0 : n = 0
  · subst h0
    go_wp2_with fail
    go_ret
    exact ⟨rfl, Below.refl _ _⟩
  · have hm : ¬ (0 : Int) < most := by omega
    have hnI : (0 : Int) < (n : Int) := by omega
    go_wp2_with fail
    go_ret
    exact ⟨rfl, Below.refl _ _⟩
/-- Records as batches of so many, by the document: how many batches, and which. -/
theorem rsplit_any {okb : Nat → Prop} (t bs most : Int) (u : Value) (ps : List Rp) (w : World) (hm2 : most ≤ 9223372036854775807) (hb1 : -4611686018427387904 ≤ bs) (hb2 : bs ≤ 4611686018427387904) (hv : Rl okb (fun k => k < w.heap.size) w u ps) (hn : ps.length ≤ 1000) :
    Calls Tryz.prog 38 #[.int .i64 t, .int .i64 bs, .int .i64 most, u] w fun e w' => ∃ y qs k, e = .returned y ∧ Bl w' y qs ∧ bts qs = splitK t bs most.toNat k (rcl ps) ∧ (if 1 ≤ most then k * most.toNat < ps.length + most.toNat ∧ ps.length ≤ k * most.toNat else k = 0) ∧ Below w.heap.size w w' := by
  have hnil : ∀ W, Bl W (.slice none 0 0) [] := fun W => ⟨.inl ⟨_, _, rfl, rfl⟩, fun q hq => by simp at hq⟩
  obtain ⟨ao, cap, hu⟩ := hv.form
  by_cases hm : most < 1
  · refine (rsplit_none t bs most u ps.length ao cap w hu (.inl hm)).mono ?_
    rintro e w' ⟨rfl, h⟩
    exact ⟨_, [], 0, rfl, hnil _, rfl, by rw [if_neg (by omega)], h⟩
  · obtain ⟨m, rfl⟩ : ∃ m : Nat, most = (m : Int) := ⟨most.toNat, by omega⟩
    rw [Int.toNat_natCast]
    by_cases h0 : 0 < ps.length
    · subst hu
      obtain ⟨b, o, rfl, _⟩ := hv.rg h0
      refine (rsplit_some t bs m b o cap ps w (by omega) hm2 hb1 hb2 (hv.imp (fun _ _ _ => trivial) (fun _ _ q => q) (fun _ _ _ _ => rfl)) hn h0).mono ?_
      rintro e w' ⟨y, qs, k, rfl, h1, h2, h3, h4⟩
      exact ⟨y, qs, k, rfl, h1, h2, by rw [if_pos (by omega)]; exact h3, h4⟩
    · refine (rsplit_none t bs m u ps.length ao cap w hu (.inr (by omega))).mono ?_
      rintro e w' ⟨rfl, h⟩
      have e0 : ps = [] := List.length_eq_zero_iff.1 (by omega)
      subst e0
      exact ⟨_, [], 0, rfl, hnil _, rfl, by rw [if_pos (by omega)]; simp; omega, h⟩
end Go.Proofs.YtgbcjmpnkejpeaaGreatDoor
