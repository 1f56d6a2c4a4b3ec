/-
  IS AN IMAGE WHOLE (castellanlaw15.Whole)? One that comes about is. Conditions: an image in order, its lists no longer than two hundred, what else is so of such an image.
-/
import Derived.Test.YtfnemlbkmhcodaaGreatJImQr
import Derived.Test.YtfnemlbkmhcodaaGreatJImKrsa3
import Derived.Deep.DeepCutAuto
namespace Go.Proofs.YtfnemlbkmhcodaaGreat
open Go.RowKit

set_option maxRecDepth 100000 in
set_option maxHeartbeats 16000000 in
theorem whole_any (m : Im) (p : Ip) (w : World) (hv : ImR w m p) (hw : Wf m 200) (ho : Who m) : Calls Tryz.prog 31 #[imv m p] w fun e w' => e = .returned (.int .i64 0) ∧ Below w.heap.size w w' := by
  have HX := hide (fun W (h : Below w.heap.size w W) => hv.below h)
  have HW := hide hw
  have HO := hide ho
  have hl2 : p.ts.length ≤ 200 := by rw [hv.len]; exact hw.nt
  have hlb : m.br.length ≤ 200 := hw.nb
  have HEQ := hide hv.e
  have HI0 : Hid (Bx (w.alloc (.cells (iml m p).toArray 30)) w.heap.size (iml m p) ∧ Below w.heap.size w (w.alloc (.cells (iml m p).toArray 30))) := hide ⟨Bx.new w _ _, below_al1 w _⟩
  clear hv hw ho
  obtain ⟨ab, aq, ac, ad, cb, cq, cc, cd, ts⟩ := p
  replace hl2 : ts.length ≤ 200 := hl2
  unfold imv
  unfold iml at HI0
  dsimp only at *
  go_enter Tryz.func31, Tryz.ntmps31
  go_upto_region 1 with fail
  generalize w.alloc (.cells (List.toArray [Value.slice ab m.br.length cb, .slice aq ts.length cq, .slice ac m.cf.length cc, .slice ad m.dn.length cd, .int .i64 m.la]) 30) = X at HI0 ⊢
  have HR := hide HI0.out
  clear HI0
  go_upto_region 2 with fail
  go_loopw [3] (fun i W => ∃ a : Nat, a ≤ ts.length ∧ i = .int .i64 (a : Int) ∧ Bx W w.heap.size [Value.slice ab m.br.length cb, .slice aq ts.length cq, .slice ac m.cf.length cc, .slice ad m.dn.length cd, .int .i64 m.la] ∧ Below w.heap.size w W) (fun i _ => ts.length - (ivQ i).toNat)
  case atStart => exact ⟨0, Nat.zero_le _, rfl, HR.out⟩
  case round =>
    clear HR
    obtain ⟨a, ha, rfl, hr⟩ := hrel
    have HR := hide hr
    clear hr
    have i1 := HR.out.1.at 1 _ rfl
    by_cases hlt : a < ts.length
    · have hltI : (a : Int) < (ts.length : Int) := by omega
      have HI := hide (HX.out wr HR.out.2)
      obtain ⟨bq, oq, rfl, hrq⟩ := HI.out.t.rg (show 0 < ts.length by omega)
      have HT := hide (fm_at encT hrq hlt)
      have hmem := List.getElem_mem hlt
      have hmt : (ts[a]).tp ∈ m.ts := HI.out.tin hmem
      have HTM := hide hmem
      have HLA : Hid ((ts[a]).id ≤ m.la) := hide (HW.out.u _ hmt).2
      have HASC : Hid (∀ j (h : j < ts.length), j < a → (ts[j]).id < (ts[a]).id ∧ ((ts[j]).nm == (ts[a]).nm) = false) := hide (fun j h hj => by
        have h1 : (ts.map Tq.tp).Pairwise fun x y => x.id < y.id := by rw [HEQ.out]; exact HW.out.t
        have h2 : (ts.map Tq.tp).Pairwise fun x y => x.nm ≠ y.nm := by rw [HEQ.out]; exact HO.out.n
        rw [List.pairwise_map] at h1 h2
        have h3 : ¬ (ts[j]).nm = (ts[a]).nm := List.pairwise_iff_getElem.1 h2 j a h hlt hj
        exact ⟨List.pairwise_iff_getElem.1 h1 j a h hlt hj, by simpa using h3⟩)
      have HPR : Hid (∀ q ∈ (ts[a]).ps, right m.br q.1 = 0 ∧ brokB q.1.ids = true ∧ WfP q.1) := hide (fun q hq => by
        have := HO.out.r _ hmt q.1 (List.mem_map_of_mem hq)
        exact ⟨this.1, this.2, HI.out.wp HW.out hmem hq⟩)
      have hpn : (ts[a]).ps.length ≤ 200 := HI.out.np HW.out hmem
      clear hmt hmem hrq
      generalize ts[a] = t at HT HTM HLA HASC HPR hpn
      obtain ⟨id, nm, ps, ta, tc⟩ := t
      dsimp only at *
      unfold tpc at HT
      dsimp only at HT
      go_upto_region 5 with (first | (refine wpList_load_mid rfl _ _ rfl _ _ rfl _ _ HT.out Tryz.underlying38 rfl (by kernel_rfl) ?_))
      have HTB := hide (Bx.new wr [Value.int .i64 id, .string ⟨nm.toArray⟩, .slice ta ps.length tc] 38)
      have hal := below_al1 wr (.cells (List.toArray [Value.int .i64 id, .string ⟨nm.toArray⟩, .slice ta ps.length tc]) 38)
      have HS := hide (show Bx (wr.alloc (.cells (List.toArray [Value.int .i64 id, .string ⟨nm.toArray⟩, .slice ta ps.length tc]) 38)) w.heap.size [Value.slice ab m.br.length cb, .slice (some ⟨bq, oq, none⟩) ts.length cq, .slice ac m.cf.length cc, .slice ad m.dn.length cd, .int .i64 m.la] ∧ Bx (wr.alloc (.cells (List.toArray [Value.int .i64 id, .string ⟨nm.toArray⟩, .slice ta ps.length tc]) 38)) wr.heap.size [Value.int .i64 id, .string ⟨nm.toArray⟩, .slice ta ps.length tc] ∧ Below w.heap.size w (wr.alloc (.cells (List.toArray [Value.int .i64 id, .string ⟨nm.toArray⟩, .slice ta ps.length tc]) 38)) from ⟨HR.out.1.below hal, HTB.out, bt HR.out.2 hal⟩)
      clear hal HI HT i1 HR HTB
      generalize wr.alloc (.cells (List.toArray [Value.int .i64 id, .string ⟨nm.toArray⟩, .slice ta ps.length tc]) 38) = V at HS ⊢
      generalize wr.heap.size = bt' at HS ⊢
      go_cut [40] (fun y W => y = .bool false ∧ Bx W w.heap.size [Value.slice ab m.br.length cb, .slice (some ⟨bq, oq, none⟩) ts.length cq, .slice ac m.cf.length cc, .slice ad m.dn.length cd, .int .i64 m.la] ∧ Bx W bt' [Value.int .i64 id, .string ⟨nm.toArray⟩, .slice ta ps.length tc] ∧ Below w.heap.size w W)
      case first =>
        have i1 := HS.out.1.at 1 _ rfl
        have i4 := HS.out.1.at 4 _ rfl
        have t0 := HS.out.2.1.at 0 _ rfl
        have n1 : ¬ m.la < id := by have := HLA.out; omega
        rcases Nat.eq_zero_or_pos a with h0 | h0
        · subst h0
          go_quiet (fail)
          have HSN := hide (show Bx (V.drewN nq) w.heap.size [Value.slice ab m.br.length cb, .slice (some ⟨bq, oq, none⟩) ts.length cq, .slice ac m.cf.length cc, .slice ad m.dn.length cd, .int .i64 m.la] ∧ Bx (V.drewN nq) bt' [Value.int .i64 id, .string ⟨nm.toArray⟩, .slice ta ps.length tc] ∧ Below w.heap.size w (V.drewN nq) from ⟨HS.out.1.drewN nq, HS.out.2.1.drewN nq, below_drewN HS.out.2.2 nq⟩)
          go_wp2_with fail
          go_meet
          exact ⟨rfl, HSN.out⟩
        · obtain ⟨b, hb⟩ : ∃ b, a = b + 1 := ⟨a - 1, by omega⟩
          have hw1 : IntKind.i64.wrap ((a : Int) - 1) = (b : Int) := by rw [IntKind.wrap_i64]; omega
          have hw2 : wrap64 ((a : Int) - 1) = (b : Int) := by unfold wrap64; omega
          have hbI : (b : Int) < (ts.length : Int) := by omega
          have hb2 : b < ts.length := by omega
          have h0I : (0 : Int) < (a : Int) := by omega
          have cb1 : V.cell? ⟨bq, oq + b * 3, none⟩ = some (.int .i64 (ts[b]).id) := (HX.out V HS.out.2.2).t.at encT hb2 0 _ rfl
          have n2 : ¬ id ≤ (ts[b]).id := by have := (HASC.out b hb2 (by omega)).1; omega
          clear hb
          go_quiet (fail)
          have HSN := hide (show Bx (V.drewN nq) w.heap.size [Value.slice ab m.br.length cb, .slice (some ⟨bq, oq, none⟩) ts.length cq, .slice ac m.cf.length cc, .slice ad m.dn.length cd, .int .i64 m.la] ∧ Bx (V.drewN nq) bt' [Value.int .i64 id, .string ⟨nm.toArray⟩, .slice ta ps.length tc] ∧ Below w.heap.size w (V.drewN nq) from ⟨HS.out.1.drewN nq, HS.out.2.1.drewN nq, below_drewN HS.out.2.2 nq⟩)
          go_wp2_with fail
          go_meet
          exact ⟨rfl, HSN.out⟩
      case rest =>
        clear HS
        obtain ⟨rfl, hs⟩ := hcut
        have HS := hide hs
        clear hs
        go_upto_region 8 with fail
        go_loopw [5] (fun i W => ∃ c : Nat, c ≤ a ∧ i = .int .i64 (c : Int) ∧ Bx W w.heap.size [Value.slice ab m.br.length cb, .slice (some ⟨bq, oq, none⟩) ts.length cq, .slice ac m.cf.length cc, .slice ad m.dn.length cd, .int .i64 m.la] ∧ Bx W bt' [Value.int .i64 id, .string ⟨nm.toArray⟩, .slice ta ps.length tc] ∧ Below w.heap.size w W) (fun i _ => a - (ivQ i).toNat)
        case atStart => exact ⟨0, Nat.zero_le _, rfl, HS.out⟩
        case round =>
          clear HS
          obtain ⟨c, hc, rfl, hs⟩ := hrel
          have HS := hide hs
          clear hs
          by_cases hlc : c < a
          · have hlcI : (c : Int) < (a : Int) := by omega
            have hcI : (c : Int) < (ts.length : Int) := by omega
            have hc2 : c < ts.length := by omega
            have i1 := HS.out.1.at 1 _ rfl
            have t1 := HS.out.2.1.at 1 _ rfl
            have cn : wr.cell? ⟨bq, oq + c * 3 + 1, none⟩ = some (.string ⟨(ts[c]).nm.toArray⟩) := (HX.out wr HS.out.2.2).t.at encT hc2 1 _ rfl
            have n2 := (HASC.out c hc2 hlc).2
            go_wp2_with fail
            go_quiet (fail)
            have HSN := hide (show Bx (wr.drewN nq) w.heap.size [Value.slice ab m.br.length cb, .slice (some ⟨bq, oq, none⟩) ts.length cq, .slice ac m.cf.length cc, .slice ad m.dn.length cd, .int .i64 m.la] ∧ Bx (wr.drewN nq) bt' [Value.int .i64 id, .string ⟨nm.toArray⟩, .slice ta ps.length tc] ∧ Below w.heap.size w (wr.drewN nq) from ⟨HS.out.1.drewN nq, HS.out.2.1.drewN nq, below_drewN HS.out.2.2 nq⟩)
            clear i1 t1 cn n2
            go_wp2_with fail
            go_roundw
            case rel => exact ⟨c + 1, by omega, by go_num, HSN.out⟩
            case measure => simp [ivQ]; omega
          · obtain rfl : c = a := by omega
            go_upto_region 13 with fail
            go_loopw [6] (fun i W => ∃ k : Nat, k ≤ ps.length ∧ i = .int .i64 (k : Int) ∧ Bx W w.heap.size [Value.slice ab m.br.length cb, .slice (some ⟨bq, oq, none⟩) ts.length cq, .slice ac m.cf.length cc, .slice ad m.dn.length cd, .int .i64 m.la] ∧ Bx W bt' [Value.int .i64 id, .string ⟨nm.toArray⟩, .slice ta ps.length tc] ∧ Below w.heap.size w W) (fun i _ => ps.length - (ivQ i).toNat)
            case atStart => exact ⟨0, Nat.zero_le _, rfl, HS.out⟩
            case round =>
              clear HS
              obtain ⟨k, hk, rfl, hs⟩ := hrel
              have HS := hide hs
              clear hs
              have t2 := HS.out.2.1.at 2 _ rfl
              by_cases hlk : k < ps.length
              · have hlkI : (k : Int) < (ps.length : Int) := by omega
                have HTQ := hide ((HX.out wr HS.out.2.2).q _ HTM.out)
                obtain ⟨bp, op, rfl, hrp⟩ := HTQ.out.ps.rg (show 0 < ps.length by omega)
                have HP := hide (fm_at encP hrp hlk)
                have HPQ := hide (HPR.out _ (List.getElem_mem hlk))
                have HPM := hide (List.getElem_mem hlk)
                clear hrp
                generalize ps[k] = q at HP HPQ HPM
                have HRI := hide (fun W (h : Below w.heap.size w W) => rright_any m _ q W (HX.out W h) (Nat.le_trans hlb (by decide)) (((HX.out W h).q _ HTM.out).pt q HPM.out) HPQ.out.2.2)
                have HBR := hide (fun W (h : Below w.heap.size w W) => brok_any _ q.1.ids W (((HX.out W h).q _ HTM.out).pt q HPM.out).s0)
                rw [HPQ.out.1] at HRI
                rw [HPQ.out.2.1] at HBR
                unfold imv at HRI
                go_upto_region 15 with fail
                clear t2
                have hdw : Below wr.heap.size wr wr.drew := (Below.refl _ _).drew
                refine wp_region_held_drew (S := fun W => Bx W w.heap.size [Value.slice ab m.br.length cb, .slice (some ⟨bq, oq, none⟩) ts.length cq, .slice ac m.cf.length cc, .slice ad m.dn.length cd, .int .i64 m.la] ∧ Bx W bt' [Value.int .i64 id, .string ⟨nm.toArray⟩, .slice (some ⟨bp, op, none⟩) ps.length tc] ∧ W.rangeAt bp (op + k * 6) (ptc q) ∧ Below w.heap.size w W) (by kernel_rfl) ⟨HS.out.1.below hdw, HS.out.2.1.below hdw, rg_bel HP.out hdw, bt HS.out.2.2 hdw⟩ (fun hHeld => ?_)
                generalize wr.drew = V4 at hHeld ⊢
                clear hdw
                refine wpAnyH_take (i := 0) (oi := _) (v := _) rfl (by kernel_rfl) (by kernel_rfl) (by kernel_rfl) (fun _ _ _ h => h) (yieldsIf_load_mid (by rfl) _ _ rfl _ _ rfl ([Value.slice ab m.br.length cb, .slice (some ⟨bq, oq, none⟩) ts.length cq, .slice ac m.cf.length cc, .slice ad m.dn.length cd, .int .i64 m.la]) _ (fun W hW => hW.1.c) Tryz.underlying30 rfl (by kernel_rfl)) hHeld ?_
                change wpAnyH _ _ _ _ _ _ _ (Act.put _ (some 62) _) _
                simp only [Act.put, List.setIfInBounds_toArray, List.set_cons_zero, List.set_cons_succ]
                refine wpAnyH_take (i := 1) (oi := _) (v := .pointer (some ⟨bt', 2, none⟩)) rfl (by kernel_rfl) (by kernel_rfl) (by kernel_rfl) (fun _ _ _ h => h) (Or.inl ⟨by rfl, by intro w hSw; go_simp⟩) hHeld ?_
                change wpAnyH _ _ _ _ _ _ _ (Act.put _ (some 63) _) _
                simp only [Act.put, List.setIfInBounds_toArray, List.set_cons_zero, List.set_cons_succ]
                refine wpAnyH_take (i := 2) (oi := _) (v := .slice (some ⟨bp, op, none⟩) ps.length tc) rfl (by kernel_rfl) (by kernel_rfl) (by kernel_rfl) (fun _ _ _ h => h) (Or.inl ⟨by rfl, by intro w hSw; have h0 := hSw.2.1.at 2 _ rfl; go_simp⟩) hHeld ?_
                change wpAnyH _ _ _ _ _ _ _ (Act.put _ (some 64) _) _
                simp only [Act.put, List.setIfInBounds_toArray, List.set_cons_zero, List.set_cons_succ]
                refine wpAnyH_take (i := 3) (oi := _) (v := .int .i64 (k : Int)) rfl (by kernel_rfl) (by kernel_rfl) (by kernel_rfl) (fun _ _ _ h => h) (Or.inl ⟨by rfl, by intro w hSw; go_simp⟩) hHeld ?_
                change wpAnyH _ _ _ _ _ _ _ (Act.put _ (some 65) _) _
                simp only [Act.put, List.setIfInBounds_toArray, List.set_cons_zero, List.set_cons_succ]
                refine wpAnyH_take (i := 4) (oi := _) (v := .pointer (some ⟨bp, op + k * 6, none⟩)) rfl (by kernel_rfl) (by kernel_rfl) (by kernel_rfl) (fun _ _ _ h => h) (Or.inl ⟨by rfl, by intro w hSw; go_simp⟩) hHeld ?_
                change wpAnyH _ _ _ _ _ _ _ (Act.put _ (some 66) _) _
                simp only [Act.put, List.setIfInBounds_toArray, List.set_cons_zero, List.set_cons_succ]
                refine wpAnyH_take (i := 5) (oi := _) (v := _) rfl (by kernel_rfl) (by kernel_rfl) (by kernel_rfl) (fun _ _ _ h => h) (yieldsIf_load_mid (by rfl) _ _ rfl _ _ rfl (ptc q) _ (fun W hW => hW.2.2.1) Tryz.underlying44 rfl (by kernel_rfl)) hHeld ?_
                change wpAnyH _ _ _ _ _ _ _ (Act.put _ (some 67) _) _
                simp only [Act.put, List.setIfInBounds_toArray, List.set_cons_zero, List.set_cons_succ]
                refine wpAnyH_ready (rs := [6]) (by kernel_rfl) (by simp) ?_
                refine AllReadyH.cons (o := _) rfl (fun K hK => ?_) AllReadyH.nil
                go_simp
                go_at_call 65
                refine (HRI.out V4 hHeld.2.2.2).mono ?_
                rintro e V6 ⟨rfl, hbx⟩
                go_wp2_with fail
                refine hK.out _ _ ⟨hHeld.1.below hbx, hHeld.2.1.below hbx, rg_bel hHeld.2.2.1 hbx, bt hHeld.2.2.2 hbx⟩ (fun hHeld1 => ?_)
                clear hK K hHeld
                have hHeld := hHeld1
                clear hHeld1
                refine wpAnyH_take (i := 7) (oi := _) (v := .bool false) rfl (by kernel_rfl) (by kernel_rfl) (by kernel_rfl) (fun _ _ _ h => h) (Or.inl ⟨by rfl, by intro w hSw; go_simp⟩) hHeld ?_
                change wpAnyH _ _ _ _ _ _ _ (Act.put _ (some 69) _) _
                simp only [Act.put, List.setIfInBounds_toArray, List.set_cons_zero, List.set_cons_succ]
                refine wpAnyH_take (i := 8) (oi := _) (v := .bool false) rfl (by kernel_rfl) (by kernel_rfl) (by kernel_rfl) (fun _ _ _ h => h) (Or.inl ⟨by rfl, by intro w hSw; go_simp⟩) hHeld ?_
                change wpAnyH _ _ _ _ _ _ _ (Act.put _ (some 70) _) _
                simp only [Act.put, List.setIfInBounds_toArray, List.set_cons_zero, List.set_cons_succ]
                refine wpAnyH_take (i := 9) (oi := _) (v := .pointer (some ⟨bt', 2, none⟩)) rfl (by kernel_rfl) (by kernel_rfl) (by kernel_rfl) (fun _ _ _ h => h) (Or.inl ⟨by rfl, by intro w hSw; go_simp⟩) hHeld ?_
                change wpAnyH _ _ _ _ _ _ _ (Act.put _ (some 71) _) _
                simp only [Act.put, List.setIfInBounds_toArray, List.set_cons_zero, List.set_cons_succ]
                refine wpAnyH_take (i := 10) (oi := _) (v := .slice (some ⟨bp, op, none⟩) ps.length tc) rfl (by kernel_rfl) (by kernel_rfl) (by kernel_rfl) (fun _ _ _ h => h) (Or.inl ⟨by rfl, by intro w hSw; have h0 := hSw.2.1.at 2 _ rfl; go_simp⟩) hHeld ?_
                change wpAnyH _ _ _ _ _ _ _ (Act.put _ (some 72) _) _
                simp only [Act.put, List.setIfInBounds_toArray, List.set_cons_zero, List.set_cons_succ]
                refine wpAnyH_take (i := 11) (oi := _) (v := .int .i64 (k : Int)) rfl (by kernel_rfl) (by kernel_rfl) (by kernel_rfl) (fun _ _ _ h => h) (Or.inl ⟨by rfl, by intro w hSw; go_simp⟩) hHeld ?_
                change wpAnyH _ _ _ _ _ _ _ (Act.put _ (some 73) _) _
                simp only [Act.put, List.setIfInBounds_toArray, List.set_cons_zero, List.set_cons_succ]
                refine wpAnyH_take (i := 12) (oi := _) (v := .pointer (some ⟨bp, op + k * 6, none⟩)) rfl (by kernel_rfl) (by kernel_rfl) (by kernel_rfl) (fun _ _ _ h => h) (Or.inl ⟨by rfl, by intro w hSw; go_simp⟩) hHeld ?_
                change wpAnyH _ _ _ _ _ _ _ (Act.put _ (some 74) _) _
                simp only [Act.put, List.setIfInBounds_toArray, List.set_cons_zero, List.set_cons_succ]
                refine wpAnyH_take (i := 13) (oi := _) (v := .pointer (some ⟨bp, op + k * 6, none⟩)) rfl (by kernel_rfl) (by kernel_rfl) (by kernel_rfl) (fun _ _ _ h => h) (Or.inl ⟨by rfl, by intro w hSw; go_simp⟩) hHeld ?_
                change wpAnyH _ _ _ _ _ _ _ (Act.put _ (some 75) _) _
                simp only [Act.put, List.setIfInBounds_toArray, List.set_cons_zero, List.set_cons_succ]
                refine wpAnyH_take (i := 14) (oi := _) (v := .slice q.2.a0 q.1.ids.length q.2.c0) rfl (by kernel_rfl) (by kernel_rfl) (by kernel_rfl) (fun _ _ _ h => h) (Or.inl ⟨by rfl, by intro w hSw; have h0 := hSw.2.2.1 0 _ rfl; simp only [Nat.add_zero] at h0; go_simp⟩) hHeld ?_
                change wpAnyH _ _ _ _ _ _ _ (Act.put _ (some 76) _) _
                simp only [Act.put, List.setIfInBounds_toArray, List.set_cons_zero, List.set_cons_succ]
                refine wpAnyH_ready (rs := [15]) (by kernel_rfl) (by simp) ?_
                refine AllReadyH.cons (o := _) rfl (fun K hK => ?_) AllReadyH.nil
                go_simp
                go_at_call 66
                refine (HBR.out V6 hHeld.2.2.2).mono ?_
                rintro e V7 ⟨rfl, hbx⟩
                go_wp2_with fail
                refine hK.out _ _ ⟨hHeld.1.below hbx.below, hHeld.2.1.below hbx.below, rg_bel hHeld.2.2.1 hbx.below, bt hHeld.2.2.2 hbx.below⟩ (fun hHeld1 => ?_)
                clear hK K hHeld
                have hHeld := hHeld1
                clear hHeld1
                refine wpAnyH_take (i := 16) (oi := _) (v := .bool false) rfl (by kernel_rfl) (by kernel_rfl) (by kernel_rfl) (fun _ _ _ h => h) (Or.inl ⟨by rfl, by intro w hSw; go_simp⟩) hHeld ?_
                change wpAnyH _ _ _ _ _ _ _ (Act.put _ (some 78) _) _
                simp only [Act.put, List.setIfInBounds_toArray, List.set_cons_zero, List.set_cons_succ]
                refine wpAnyH_take (i := 17) (oi := _) (v := .bool false) rfl (by kernel_rfl) (by kernel_rfl) (by kernel_rfl) (fun _ _ _ h => h) (Or.inl ⟨by rfl, by intro w hSw; go_simp⟩) hHeld ?_
                change wpAnyH _ _ _ _ _ _ _ (Act.put _ (some 79) _) _
                simp only [Act.put, List.setIfInBounds_toArray, List.set_cons_zero, List.set_cons_succ]
                refine wpAnyH_done (by kernel_rfl) ?_ _
                have HSN := hide hHeld
                clear hHeld
                go_wp2_with fail
                go_roundw
                case rel => exact ⟨k + 1, by omega, by go_num, HSN.out.1, HSN.out.2.1, HSN.out.2.2.2⟩
                case measure => simp [ivQ]; omega
              · obtain rfl : k = ps.length := by omega
                go_wp2_with fail
                go_roundw
                case rel => exact ⟨c + 1, by omega, by go_num, HS.out.1, HS.out.2.2⟩
                case measure => simp [ivQ]; omega
    · obtain rfl : a = ts.length := by omega
      go_upto_region 18 with fail
      clear i1
      go_loopw [7] (fun i W => ∃ k : Nat, Hid (1 ≤ k ∧ (k ≤ m.br.length ∨ k = 1)) ∧ i = .int .i64 (k : Int) ∧ Bx W w.heap.size [Value.slice ab m.br.length cb, .slice aq ts.length cq, .slice ac m.cf.length cc, .slice ad m.dn.length cd, .int .i64 m.la] ∧ Below w.heap.size w W) (fun i _ => m.br.length - (ivQ i).toNat)
      case atStart => exact ⟨1, hide ⟨Nat.le_refl _, .inr rfl⟩, rfl, HR.out⟩
      case round =>
        clear HR
        obtain ⟨k, HK, rfl, hr⟩ := hrel
        have hk1 := HK.out.1
        have HR := hide hr
        clear hr
        have i0 := HR.out.1.at 0 _ rfl
        by_cases hlt : k < m.br.length
        · have hltI : (k : Int) < (m.br.length : Int) := by omega
          have HI := hide (HX.out wr HR.out.2)
          obtain ⟨bb, ob, rfl, hrb⟩ := HI.out.b.rg (show 0 < m.br.length by omega)
          clear hrb
          obtain ⟨b, hb⟩ : ∃ b, k = b + 1 := ⟨k - 1, by omega⟩
          have hw1 : IntKind.i64.wrap ((k : Int) - 1) = (b : Int) := by rw [IntKind.wrap_i64]; omega
          have hw2 : wrap64 ((k : Int) - 1) = (b : Int) := by unfold wrap64; omega
          have hbI : (b : Int) < (m.br.length : Int) := by omega
          have hb2 : b < m.br.length := by omega
          have cbb : wr.cell? ⟨bb, ob + b * 5, none⟩ = some (.int .i64 (m.br[b]).id) := HI.out.b.at encB hb2 0 _ rfl
          have ck : wr.cell? ⟨bb, ob + k * 5, none⟩ = some (.int .i64 (m.br[k]).id) := HI.out.b.at encB hlt 0 _ rfl
          have n2 : ¬ (m.br[k]).id ≤ (m.br[b]).id := by have := List.pairwise_iff_getElem.1 HW.out.b b k hb2 hlt (by omega); omega
          clear hb
          go_wp2_with fail
          go_quiet (fail)
          have HSN := hide (show Bx (wr.drewN nq) w.heap.size [Value.slice (some ⟨bb, ob, none⟩) m.br.length cb, .slice aq ts.length cq, .slice ac m.cf.length cc, .slice ad m.dn.length cd, .int .i64 m.la] ∧ Below w.heap.size w (wr.drewN nq) from ⟨HR.out.1.drewN nq, below_drewN HR.out.2 nq⟩)
          clear i0 cbb ck hw1 hw2
          go_wp2_with fail
          go_roundw
          case rel => exact ⟨k + 1, hide ⟨by omega, .inl (by omega)⟩, by go_num, HSN.out⟩
          case measure => simp [ivQ]; omega
        · have hltI : ¬ (k : Int) < (m.br.length : Int) := by omega
          have i3 := HR.out.1.at 3 _ rfl
          have i1 := HR.out.1.at 1 _ rfl
          have n1 : ¬ (64 : Int) < (m.dn.length : Int) := by have := HO.out.d; omega
          have n2 : ¬ (256 : Int) < (ts.length : Int) := by omega
          go_wp2_with fail
          go_ret
          exact ⟨rfl, HR.out.2⟩
end Go.Proofs.YtfnemlbkmhcodaaGreat
