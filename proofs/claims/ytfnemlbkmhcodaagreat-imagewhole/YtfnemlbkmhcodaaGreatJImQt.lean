/-
  ARE IMAGES THE SAME, AS THE DOCUMENT HAS IT, WHERE THEY ARE (castellanref15.Same). Conditions: images in order, their lists no longer than a hundred thousand.
-/
import Derived.Test.YtfnemlbkmhcodaaGreatJImQs
namespace Go.Proofs.YtfnemlbkmhcodaaGreat
open Go.RowKit

theorem neqB (x0 x1 : Int) (x2 : List UInt8) (x3 x4 : Bool) (w : World) : (binOp .neq 33 (.agg (List.toArray [Value.int .i64 x0, .int .i64 x1, .string ⟨x2.toArray⟩, .bool x3, .bool x4])) (.agg (List.toArray [Value.int .i64 x0, .int .i64 x1, .string ⟨x2.toArray⟩, .bool x3, .bool x4]))).run Tryz.prog w = .ok (.bool false) w := by
  have u3 := Tryz.underlying3
  have u9 := Tryz.underlying9
  have u4 := Tryz.underlying4
  have hS : Tryz.prog.underlying 33 = some (.struct (Tryz.prog.fieldsOf 33)) := by kernel_rfl
  have hp : Tryz.prog.stoodInHeld 33 = false := by kernel_rfl
  rw [run_neq_struct, show (10000 : Nat) = 9999 + 1 from rfl, run_equalIn_agg w 9999 33 _ _ hS hp]
  simp only [Program.fieldsOf, Tryz.underlying33]
  simp [go_sem, u3, u9, u4]
theorem neqBg : Tryz.prog.eqGuardType Tryz.prog.depth 33 = false := by kernel_rfl
theorem neqC (x0 : Int) (x1 x2 : List UInt8) (w : World) : (binOp .neq 82 (.agg (List.toArray [Value.int .i64 x0, .string ⟨x1.toArray⟩, .string ⟨x2.toArray⟩])) (.agg (List.toArray [Value.int .i64 x0, .string ⟨x1.toArray⟩, .string ⟨x2.toArray⟩]))).run Tryz.prog w = .ok (.bool false) w := by
  have u3 := Tryz.underlying3
  have u9 := Tryz.underlying9
  have u4 := Tryz.underlying4
  have hS : Tryz.prog.underlying 82 = some (.struct (Tryz.prog.fieldsOf 82)) := by kernel_rfl
  have hp : Tryz.prog.stoodInHeld 82 = false := by kernel_rfl
  rw [run_neq_struct, show (10000 : Nat) = 9999 + 1 from rfl, run_equalIn_agg w 9999 82 _ _ hS hp]
  simp only [Program.fieldsOf, Tryz.underlying82]
  simp [go_sem, u3, u9]
theorem neqCg : Tryz.prog.eqGuardType Tryz.prog.depth 82 = false := by kernel_rfl
theorem neqD (x0 x1 x2 : Int) (w : World) : (binOp .neq 87 (.agg (List.toArray [Value.int .i64 x0, .int .i64 x1, .int .i64 x2])) (.agg (List.toArray [Value.int .i64 x0, .int .i64 x1, .int .i64 x2]))).run Tryz.prog w = .ok (.bool false) w := by
  have u3 := Tryz.underlying3
  have u9 := Tryz.underlying9
  have u4 := Tryz.underlying4
  have hS : Tryz.prog.underlying 87 = some (.struct (Tryz.prog.fieldsOf 87)) := by kernel_rfl
  have hp : Tryz.prog.stoodInHeld 87 = false := by kernel_rfl
  rw [run_neq_struct, show (10000 : Nat) = 9999 + 1 from rfl, run_equalIn_agg w 9999 87 _ _ hS hp]
  simp only [Program.fieldsOf, Tryz.underlying87]
  simp [go_sem, u3]
theorem neqDg : Tryz.prog.eqGuardType Tryz.prog.depth 87 = false := by kernel_rfl
set_option maxRecDepth 100000 in
set_option maxHeartbeats 16000000 in
theorem rsame_any (m : Im) (p1 p2 : Ip) (w : World) (hv : ImR w m p1) (hv2 : ImR w m p2) (hw : Wf m 100000) : Calls Tryz.prog 28 #[imv m p1, imv m p2] w fun e w' => e = .returned (.bool true) ∧ Below w.heap.size w w' := by
  have HX := hide (fun W (h : Below w.heap.size w W) => hv.below h)
  have HY := hide (fun W (h : Below w.heap.size w W) => hv2.below h)
  have hl1 : m.br.length ≤ 100000 := hw.nb
  have hl2 : p1.ts.length ≤ 100000 := by rw [hv.len]; exact hw.nt
  have hl3 : m.cf.length ≤ 100000 := hw.nc
  have hl4 : m.dn.length ≤ 100000 := hw.nd
  have HLN : Hid (p1.ts.length = p2.ts.length) := hide (hv.len.trans hv2.len.symm)
  have HPS := hide (hv.e.trans hv2.e.symm)
  have HNP := hide (fun (t : Tq) (h : t ∈ p1.ts) => hv.np hw h)
  have HWP := hide (fun (t : Tq) (h : t ∈ p1.ts) (q : Pp) (hq : q ∈ t.ps) => hv.wp hw h hq)
  have HR0 := hide (Tb.mk' w (iml m p1) (iml m p2) 30 30)
  clear hv hv2 hw
  obtain ⟨ab1, aq1, ac1, ad1, cb1, cq1, cc1, cd1, ts1⟩ := p1
  obtain ⟨ab2, aq2, ac2, ad2, cb2, cq2, cc2, cd2, ts2⟩ := p2
  replace hl2 : ts1.length ≤ 100000 := hl2
  unfold imv
  unfold iml at HR0
  dsimp only at *
  go_enter Tryz.func28, Tryz.ntmps28
  go_upto_region 1 with fail
  generalize (w.alloc (.cells (List.toArray [Value.slice ab1 m.br.length cb1, .slice aq1 ts1.length cq1, .slice ac1 m.cf.length cc1, .slice ad1 m.dn.length cd1, .int .i64 m.la]) 30)).alloc (.cells (List.toArray [Value.slice ab2 m.br.length cb2, .slice aq2 ts2.length cq2, .slice ac2 m.cf.length cc2, .slice ad2 m.dn.length cd2, .int .i64 m.la]) 30) = X at HR0 ⊢
  have HR := hide HR0.out
  clear HR0
  have a0 := HR.out.a.at 0 _ rfl
  have a1 := HR.out.a.at 1 _ rfl
  have a2 := HR.out.a.at 2 _ rfl
  have a3 := HR.out.a.at 3 _ rfl
  have a4 := HR.out.a.at 4 _ rfl
  have b0 := HR.out.c.at 0 _ rfl
  have b1 := HR.out.c.at 1 _ rfl
  have b2 := HR.out.c.at 2 _ rfl
  have b3 := HR.out.c.at 3 _ rfl
  have b4 := HR.out.c.at 4 _ rfl
  have n1 : ((ts1.length : Int) != (ts2.length : Int)) = false := by simp [HLN.out]
  have n2 : (m.la != m.la) = false := by simp
  have n3 : ((m.br.length : Int) != (m.br.length : Int)) = false := by simp
  have n4 : ((m.cf.length : Int) != (m.cf.length : Int)) = false := by simp
  have n5 : ((m.dn.length : Int) != (m.dn.length : Int)) = false := by simp
  go_upto_region 4 with fail
  clear a0 a1 a2 a3 a4 b0 b1 b2 b3 b4 n1 n2 n3 n4 n5
  go_loopw [5] (fun i W => ∃ k : Nat, k ≤ m.br.length ∧ i = .int .i64 (k : Int) ∧ Tb w W [Value.slice ab1 m.br.length cb1, .slice aq1 ts1.length cq1, .slice ac1 m.cf.length cc1, .slice ad1 m.dn.length cd1, .int .i64 m.la] [Value.slice ab2 m.br.length cb2, .slice aq2 ts2.length cq2, .slice ac2 m.cf.length cc2, .slice ad2 m.dn.length cd2, .int .i64 m.la]) (fun i _ => m.br.length - (ivQ i).toNat)
  case atStart => exact ⟨0, Nat.zero_le _, rfl, HR.out⟩
  case round =>
    clear HR
    obtain ⟨k, hk, rfl, hr⟩ := hrel
    have HR := hide hr
    clear hr
    have a0 := HR.out.a.at 0 _ rfl
    by_cases hlt : k < m.br.length
    · have hltI : (k : Int) < (m.br.length : Int) := by omega
      obtain ⟨bx, ox, rfl, hrx⟩ := (HX.out wr HR.out.b).b.rg (show 0 < m.br.length by omega)
      obtain ⟨by_, oy, rfl, hry⟩ := (HY.out wr HR.out.b).b.rg (show 0 < m.br.length by omega)
      have HU := hide (fm_at encB hrx hlt)
      have HVV := hide (fm_at encB hry hlt)
      clear hrx hry
      generalize m.br[k] = x at HU HVV
      obtain ⟨x0, x1, x2, x3, x4⟩ := x
      unfold bkc at HU HVV
      dsimp only at HU HVV
      have b0 := HR.out.c.at 0 _ rfl
      have c0 : wr.cell? ⟨bx, ox + k * 5, none⟩ = some (.int .i64 x0) := HU.out 0 _ rfl
      have c1 : wr.cell? ⟨bx, ox + k * 5 + 1, none⟩ = some (.int .i64 x1) := HU.out 1 _ rfl
      have c2 : wr.cell? ⟨bx, ox + k * 5 + 2, none⟩ = some (.string ⟨x2.toArray⟩) := HU.out 2 _ rfl
      have c3 : wr.cell? ⟨bx, ox + k * 5 + 3, none⟩ = some (.bool x3) := HU.out 3 _ rfl
      have c4 : wr.cell? ⟨bx, ox + k * 5 + 4, none⟩ = some (.bool x4) := HU.out 4 _ rfl
      have d0 : wr.cell? ⟨by_, oy + k * 5, none⟩ = some (.int .i64 x0) := HVV.out 0 _ rfl
      have d1 : wr.cell? ⟨by_, oy + k * 5 + 1, none⟩ = some (.int .i64 x1) := HVV.out 1 _ rfl
      have d2 : wr.cell? ⟨by_, oy + k * 5 + 2, none⟩ = some (.string ⟨x2.toArray⟩) := HVV.out 2 _ rfl
      have d3 : wr.cell? ⟨by_, oy + k * 5 + 3, none⟩ = some (.bool x3) := HVV.out 3 _ rfl
      have d4 : wr.cell? ⟨by_, oy + k * 5 + 4, none⟩ = some (.bool x4) := HVV.out 4 _ rfl
      have e1 := neqB x0 x1 x2 x3 x4
      have e2 := neqBg
      go_wp2_with fail
      go_quiet (fail)
      replace HR := hide (HR.out.drewN nq)
      clear a0 b0 e1 e2 c0 d0 c1 d1 c2 d2 c3 d3 c4 d4
      go_wp2_with fail
      go_roundw
      case rel => exact ⟨k + 1, by omega, by go_num, HR.out⟩
      case measure => simp [ivQ]; omega
    · obtain rfl : k = m.br.length := by omega
      go_upto_region 9 with fail
      clear a0
      go_loopw [6] (fun i W => ∃ k : Nat, k ≤ ts1.length ∧ i = .int .i64 (k : Int) ∧ Tb w W [Value.slice ab1 m.br.length cb1, .slice aq1 ts1.length cq1, .slice ac1 m.cf.length cc1, .slice ad1 m.dn.length cd1, .int .i64 m.la] [Value.slice ab2 m.br.length cb2, .slice aq2 ts2.length cq2, .slice ac2 m.cf.length cc2, .slice ad2 m.dn.length cd2, .int .i64 m.la]) (fun i _ => ts1.length - (ivQ i).toNat)
      case atStart => exact ⟨0, Nat.zero_le _, rfl, HR.out⟩
      case round =>
        clear HR
        obtain ⟨k, hk, rfl, hr⟩ := hrel
        have HR := hide hr
        clear hr
        have a1 := HR.out.a.at 1 _ rfl
        by_cases hlt : k < ts1.length
        · have hltI : (k : Int) < (ts1.length : Int) := by omega
          have hlt2 : k < ts2.length := by have := HLN.out; omega
          have hlyI : (k : Int) < (ts2.length : Int) := by omega
          obtain ⟨bx, ox, rfl, hrx⟩ := (HX.out wr HR.out.b).t.rg (show 0 < ts1.length by omega)
          obtain ⟨by_, oy, rfl, hry⟩ := (HY.out wr HR.out.b).t.rg (show 0 < ts2.length by omega)
          have HU := hide (fm_at encT hrx hlt)
          have HVV := hide (fm_at encT hry hlt2)
          have HSP : Hid (∀ W, Below wr.heap.size wr W → Calls Tryz.prog 56 #[.agg (tpc ts1[k]).toArray, .agg (tpc ts2[k]).toArray] W fun e w' => e = .returned (.bool true) ∧ Below W.heap.size W w') := hide (fun W h => by
            have hb := bt HR.out.b h
            have e1 : (ts1[k]).tp = (ts2[k]).tp := by
              have h1 : (ts1.map Tq.tp)[k]? = some (ts1[k]).tp := by rw [List.getElem?_map, List.getElem?_eq_getElem hlt]; rfl
              have h2 : (ts2.map Tq.tp)[k]? = some (ts2[k]).tp := by rw [List.getElem?_map, List.getElem?_eq_getElem hlt2]; rfl
              rw [HPS.out, h2] at h1
              exact (Option.some.inj h1).symm
            exact rsamet_any ts1[k] ts2[k] W ((HX.out W hb).q _ (List.getElem_mem hlt)) ((HY.out W hb).q _ (List.getElem_mem hlt2)) e1 (HNP.out _ (List.getElem_mem hlt)) (fun q hq => HWP.out _ (List.getElem_mem hlt) q hq))
          clear hrx hry
          generalize ts1[k] = x at HU HSP
          generalize ts2[k] = y at HVV HSP
          go_upto_region 11 with fail
          clear a1
          have hdw : Below wr.heap.size wr wr.drew := (Below.refl _ _).drew
          refine wp_region_held_drew (S := fun W => Tb w W [Value.slice ab1 m.br.length cb1, .slice (some ⟨bx, ox, none⟩) ts1.length cq1, .slice ac1 m.cf.length cc1, .slice ad1 m.dn.length cd1, .int .i64 m.la] [Value.slice ab2 m.br.length cb2, .slice (some ⟨by_, oy, none⟩) ts2.length cq2, .slice ac2 m.cf.length cc2, .slice ad2 m.dn.length cd2, .int .i64 m.la] ∧ W.rangeAt bx (ox + k * 3) (tpc x) ∧ W.rangeAt by_ (oy + k * 3) (tpc y)) (by kernel_rfl) ⟨HR.out.below hdw, rg_bel HU.out hdw, rg_bel HVV.out hdw⟩ (fun hHeld => ?_)
          have HSM := hide (fun W (h : Below wr.drew.heap.size wr.drew W) => HSP.out W (bt (hdw) h))
          generalize wr.drew = V4 at HSM hHeld ⊢
          clear hdw
          refine wpAnyH_take (i := 0) (oi := _) (v := .pointer (some ⟨w.heap.size, 1, none⟩)) rfl (by kernel_rfl) (by kernel_rfl) (by kernel_rfl) (fun _ _ _ h => h) (Or.inl ⟨by rfl, by intro w hSw; go_simp⟩) hHeld ?_
          change wpAnyH _ _ _ _ _ _ _ (Act.put _ (some 75) _) _
          simp only [Act.put, List.setIfInBounds_toArray, List.set_cons_zero, List.set_cons_succ]
          refine wpAnyH_take (i := 1) (oi := _) (v := .slice (some ⟨bx, ox, none⟩) ts1.length cq1) rfl (by kernel_rfl) (by kernel_rfl) (by kernel_rfl) (fun _ _ _ h => h) (Or.inl ⟨by rfl, by intro w hSw; have h0 := hSw.1.a.at 1 _ rfl; go_simp⟩) hHeld ?_
          change wpAnyH _ _ _ _ _ _ _ (Act.put _ (some 76) _) _
          simp only [Act.put, List.setIfInBounds_toArray, List.set_cons_zero, List.set_cons_succ]
          refine wpAnyH_take (i := 2) (oi := _) (v := .int .i64 (k : Int)) rfl (by kernel_rfl) (by kernel_rfl) (by kernel_rfl) (fun _ _ _ h => h) (Or.inl ⟨by rfl, by intro w hSw; go_simp⟩) hHeld ?_
          change wpAnyH _ _ _ _ _ _ _ (Act.put _ (some 77) _) _
          simp only [Act.put, List.setIfInBounds_toArray, List.set_cons_zero, List.set_cons_succ]
          refine wpAnyH_take (i := 3) (oi := _) (v := .pointer (some ⟨bx, ox + k * 3, none⟩)) rfl (by kernel_rfl) (by kernel_rfl) (by kernel_rfl) (fun _ _ _ h => h) (Or.inl ⟨by rfl, by intro w hSw; go_simp⟩) hHeld ?_
          change wpAnyH _ _ _ _ _ _ _ (Act.put _ (some 78) _) _
          simp only [Act.put, List.setIfInBounds_toArray, List.set_cons_zero, List.set_cons_succ]
          refine wpAnyH_take (i := 4) (oi := _) (v := _) rfl (by kernel_rfl) (by kernel_rfl) (by kernel_rfl) (fun _ _ _ h => h) (yieldsIf_load_mid (by rfl) _ _ rfl _ _ rfl (tpc x) _ (fun W hW => hW.2.1) Tryz.underlying38 rfl (by kernel_rfl)) hHeld ?_
          change wpAnyH _ _ _ _ _ _ _ (Act.put _ (some 79) _) _
          simp only [Act.put, List.setIfInBounds_toArray, List.set_cons_zero, List.set_cons_succ]
          refine wpAnyH_take (i := 5) (oi := _) (v := .pointer (some ⟨w.heap.size + 1, 1, none⟩)) rfl (by kernel_rfl) (by kernel_rfl) (by kernel_rfl) (fun _ _ _ h => h) (Or.inl ⟨by rfl, by intro w hSw; go_simp⟩) hHeld ?_
          change wpAnyH _ _ _ _ _ _ _ (Act.put _ (some 80) _) _
          simp only [Act.put, List.setIfInBounds_toArray, List.set_cons_zero, List.set_cons_succ]
          refine wpAnyH_take (i := 6) (oi := _) (v := .slice (some ⟨by_, oy, none⟩) ts2.length cq2) rfl (by kernel_rfl) (by kernel_rfl) (by kernel_rfl) (fun _ _ _ h => h) (Or.inl ⟨by rfl, by intro w hSw; have h0 := hSw.1.c.at 1 _ rfl; go_simp⟩) hHeld ?_
          change wpAnyH _ _ _ _ _ _ _ (Act.put _ (some 81) _) _
          simp only [Act.put, List.setIfInBounds_toArray, List.set_cons_zero, List.set_cons_succ]
          refine wpAnyH_take (i := 7) (oi := _) (v := .int .i64 (k : Int)) rfl (by kernel_rfl) (by kernel_rfl) (by kernel_rfl) (fun _ _ _ h => h) (Or.inl ⟨by rfl, by intro w hSw; go_simp⟩) hHeld ?_
          change wpAnyH _ _ _ _ _ _ _ (Act.put _ (some 82) _) _
          simp only [Act.put, List.setIfInBounds_toArray, List.set_cons_zero, List.set_cons_succ]
          refine wpAnyH_take (i := 8) (oi := _) (v := .pointer (some ⟨by_, oy + k * 3, none⟩)) rfl (by kernel_rfl) (by kernel_rfl) (by kernel_rfl) (fun _ _ _ h => h) (Or.inl ⟨by rfl, by intro w hSw; go_simp⟩) hHeld ?_
          change wpAnyH _ _ _ _ _ _ _ (Act.put _ (some 83) _) _
          simp only [Act.put, List.setIfInBounds_toArray, List.set_cons_zero, List.set_cons_succ]
          refine wpAnyH_take (i := 9) (oi := _) (v := _) rfl (by kernel_rfl) (by kernel_rfl) (by kernel_rfl) (fun _ _ _ h => h) (yieldsIf_load_mid (by rfl) _ _ rfl _ _ rfl (tpc y) _ (fun W hW => hW.2.2) Tryz.underlying38 rfl (by kernel_rfl)) hHeld ?_
          change wpAnyH _ _ _ _ _ _ _ (Act.put _ (some 84) _) _
          simp only [Act.put, List.setIfInBounds_toArray, List.set_cons_zero, List.set_cons_succ]
          refine wpAnyH_ready (rs := [10]) (by kernel_rfl) (by simp) ?_
          refine AllReadyH.cons (o := _) rfl (fun K hK => ?_) AllReadyH.nil
          go_simp
          go_at_call 56
          refine (HSM.out V4 (Below.refl _ _)).mono ?_
          rintro e V6 ⟨rfl, hbx⟩
          go_wp2_with fail
          refine hK.out _ _ ⟨hHeld.1.below hbx, rg_bel hHeld.2.1 hbx, rg_bel hHeld.2.2 hbx⟩ (fun hHeld1 => ?_)
          clear hK K hHeld
          have hHeld := hHeld1
          clear hHeld1
          refine wpAnyH_take (i := 11) (oi := _) (v := .bool false) rfl (by kernel_rfl) (by kernel_rfl) (by kernel_rfl) (fun _ _ _ h => h) (Or.inl ⟨by rfl, by intro w hSw; go_simp⟩) hHeld ?_
          change wpAnyH _ _ _ _ _ _ _ (Act.put _ (some 86) _) _
          simp only [Act.put, List.setIfInBounds_toArray, List.set_cons_zero, List.set_cons_succ]
          refine wpAnyH_done (by kernel_rfl) ?_ _
          replace HR := hide hHeld.1
          clear hHeld
          go_wp2_with fail
          go_roundw
          case rel => exact ⟨k + 1, by omega, by go_num, HR.out⟩
          case measure => simp [ivQ]; omega
        · obtain rfl : k = ts1.length := by omega
          go_upto_region 14 with fail
          clear a1
          go_loopw [7] (fun i W => ∃ k : Nat, k ≤ m.cf.length ∧ i = .int .i64 (k : Int) ∧ Tb w W [Value.slice ab1 m.br.length cb1, .slice aq1 ts1.length cq1, .slice ac1 m.cf.length cc1, .slice ad1 m.dn.length cd1, .int .i64 m.la] [Value.slice ab2 m.br.length cb2, .slice aq2 ts2.length cq2, .slice ac2 m.cf.length cc2, .slice ad2 m.dn.length cd2, .int .i64 m.la]) (fun i _ => m.cf.length - (ivQ i).toNat)
          case atStart => exact ⟨0, Nat.zero_le _, rfl, HR.out⟩
          case round =>
            clear HR
            obtain ⟨k, hk, rfl, hr⟩ := hrel
            have HR := hide hr
            clear hr
            have a2 := HR.out.a.at 2 _ rfl
            by_cases hlt : k < m.cf.length
            · have hltI : (k : Int) < (m.cf.length : Int) := by omega
              obtain ⟨bx, ox, rfl, hrx⟩ := (HX.out wr HR.out.b).c.rg (show 0 < m.cf.length by omega)
              obtain ⟨by_, oy, rfl, hry⟩ := (HY.out wr HR.out.b).c.rg (show 0 < m.cf.length by omega)
              have HU := hide (fm_at encC hrx hlt)
              have HVV := hide (fm_at encC hry hlt)
              clear hrx hry
              generalize m.cf[k] = x at HU HVV
              obtain ⟨x0, x1, x2⟩ := x
              unfold cfc at HU HVV
              dsimp only at HU HVV
              have b2 := HR.out.c.at 2 _ rfl
              have c0 : wr.cell? ⟨bx, ox + k * 3, none⟩ = some (.int .i64 x0) := HU.out 0 _ rfl
              have c1 : wr.cell? ⟨bx, ox + k * 3 + 1, none⟩ = some (.string ⟨x1.toArray⟩) := HU.out 1 _ rfl
              have c2 : wr.cell? ⟨bx, ox + k * 3 + 2, none⟩ = some (.string ⟨x2.toArray⟩) := HU.out 2 _ rfl
              have d0 : wr.cell? ⟨by_, oy + k * 3, none⟩ = some (.int .i64 x0) := HVV.out 0 _ rfl
              have d1 : wr.cell? ⟨by_, oy + k * 3 + 1, none⟩ = some (.string ⟨x1.toArray⟩) := HVV.out 1 _ rfl
              have d2 : wr.cell? ⟨by_, oy + k * 3 + 2, none⟩ = some (.string ⟨x2.toArray⟩) := HVV.out 2 _ rfl
              have e1 := neqC x0 x1 x2
              have e2 := neqCg
              go_wp2_with fail
              go_quiet (fail)
              replace HR := hide (HR.out.drewN nq)
              clear a2 b2 e1 e2 c0 d0 c1 d1 c2 d2
              go_wp2_with fail
              go_roundw
              case rel => exact ⟨k + 1, by omega, by go_num, HR.out⟩
              case measure => simp [ivQ]; omega
            · obtain rfl : k = m.cf.length := by omega
              go_upto_region 19 with fail
              clear a2
              go_loopw [8] (fun i W => ∃ k : Nat, k ≤ m.dn.length ∧ i = .int .i64 (k : Int) ∧ Tb w W [Value.slice ab1 m.br.length cb1, .slice aq1 ts1.length cq1, .slice ac1 m.cf.length cc1, .slice ad1 m.dn.length cd1, .int .i64 m.la] [Value.slice ab2 m.br.length cb2, .slice aq2 ts2.length cq2, .slice ac2 m.cf.length cc2, .slice ad2 m.dn.length cd2, .int .i64 m.la]) (fun i _ => m.dn.length - (ivQ i).toNat)
              case atStart => exact ⟨0, Nat.zero_le _, rfl, HR.out⟩
              case round =>
                clear HR
                obtain ⟨k, hk, rfl, hr⟩ := hrel
                have HR := hide hr
                clear hr
                have a3 := HR.out.a.at 3 _ rfl
                by_cases hlt : k < m.dn.length
                · have hltI : (k : Int) < (m.dn.length : Int) := by omega
                  obtain ⟨bx, ox, rfl, hrx⟩ := (HX.out wr HR.out.b).d.rg (show 0 < m.dn.length by omega)
                  obtain ⟨by_, oy, rfl, hry⟩ := (HY.out wr HR.out.b).d.rg (show 0 < m.dn.length by omega)
                  have HU := hide (fm_at encD hrx hlt)
                  have HVV := hide (fm_at encD hry hlt)
                  clear hrx hry
                  generalize m.dn[k] = x at HU HVV
                  obtain ⟨x0, x1, x2⟩ := x
                  unfold dnc at HU HVV
                  dsimp only at HU HVV
                  have b3 := HR.out.c.at 3 _ rfl
                  have c0 : wr.cell? ⟨bx, ox + k * 3, none⟩ = some (.int .i64 x0) := HU.out 0 _ rfl
                  have c1 : wr.cell? ⟨bx, ox + k * 3 + 1, none⟩ = some (.int .i64 x1) := HU.out 1 _ rfl
                  have c2 : wr.cell? ⟨bx, ox + k * 3 + 2, none⟩ = some (.int .i64 x2) := HU.out 2 _ rfl
                  have d0 : wr.cell? ⟨by_, oy + k * 3, none⟩ = some (.int .i64 x0) := HVV.out 0 _ rfl
                  have d1 : wr.cell? ⟨by_, oy + k * 3 + 1, none⟩ = some (.int .i64 x1) := HVV.out 1 _ rfl
                  have d2 : wr.cell? ⟨by_, oy + k * 3 + 2, none⟩ = some (.int .i64 x2) := HVV.out 2 _ rfl
                  have e1 := neqD x0 x1 x2
                  have e2 := neqDg
                  go_wp2_with fail
                  go_quiet (fail)
                  replace HR := hide (HR.out.drewN nq)
                  clear a3 b3 e1 e2 c0 d0 c1 d1 c2 d2
                  go_wp2_with fail
                  go_roundw
                  case rel => exact ⟨k + 1, by omega, by go_num, HR.out⟩
                  case measure => simp [ivQ]; omega
                · obtain rfl : k = m.dn.length := by omega
                  go_wp2_with fail
                  go_ret
                  exact ⟨rfl, HR.out.b⟩
end Go.Proofs.YtfnemlbkmhcodaaGreat
