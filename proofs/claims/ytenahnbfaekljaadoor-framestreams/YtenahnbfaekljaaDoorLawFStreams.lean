/-
  FrameStreams: in whichever pieces bytes come, the same frames are told, one by one, and the same is wrong at last, at the same place. Conditions: the bytes' cells hold them, the cuts' too, errors.errorType holds the handle of the type error.
-/
import Derived.Test.YtenahnbfaekljaaDoorFst
import Derived.Test.YtenahnbfaekljaaDoorFwrong
import Derived.Test.YtenahnbfaekljaaDoorRefScan
import Derived.Test.YtenahnbfaekljaaDoorLawFNext
namespace Go.Proofs.YtenahnbfaekljaaDoor
open Go.RowKit

theorem mi_new (w : World) : Mi w.heap.size w.heap.size (w.alloc (.cells #[.slice none 0 0, .int .i64 0, .nilIface] 50)) (.slice none 0 0) (.slice none 0 0) 0 [] [] 0 [] :=
  ⟨⟨fun j hj => absurd hj (Nat.not_lt_zero _), rfl⟩, World.ownsRow_nil _ _ _ _, trivial, strm_new w, fun g hg => by cases hg⟩
theorem Mi.fl {B p : Nat} {W : World} {v y : Value} {P : List Int} {K : Nat} {ps : List (Int × Value)} (h : Mi B p W v y K ps P K ps) : Fl W y (it P K).1 := by
  obtain ⟨_, ho, hb, _⟩ := h
  exact fl_of_owns (by rw [it_len]; exact ho) hb
theorem it_body (l : List Int) (k : Nat) : ∀ f ∈ (it l k).1, f.2.length ≤ l.length := by
  induction k with
  | zero => intro f hf; simp [it] at hf
  | succ k ih =>
    intro f hf
    simp only [it] at hf
    rcases List.mem_append.1 hf with q | q
    · exact ih f q
    · simp at q
      subst q
      have := nextS_body (l.drop (it l k).2)
      rw [List.length_drop] at this
      simp only
      omega
set_option maxRecDepth 100000 in
set_option maxHeartbeats 8000000 in
theorem streams_big (ao co : Option Addr) (L C cap cc : Nat) (w : World) (h : 1200 < L ∨ (¬ 1200 < L ∧ 60 < C)) :
    Calls Tryd.prog 5 #[.slice ao L cap, .slice co C cc] w fun e w' => e = .returned (.bool true) ∧ Below w.heap.size w w' := by
  have h' : (1200 : Int) < (L : Int) ∨ (¬ (1200 : Int) < (L : Int) ∧ (60 : Int) < (C : Int)) := by omega
  rcases h' with h1 | ⟨h1, h2⟩
  all_goals
    go_enter Tryd.func5, Tryd.ntmps5
    go_wp2_with (first | (go_at_call 7; refine (works_any _).mono ?_; rintro e w6 ⟨rfl, hb6⟩))
    go_ret
    exact ⟨rfl, hb6⟩
set_option maxRecDepth 100000 in
set_option maxHeartbeats 8000000 in
theorem streams_law (v c : Value) (l cs : List Int) (w : World) (hv : Sl bc w v l) (hcv : Sl (fun x => .int .u16 x) w c cs) (hby : Byt l) (hcs : ∀ x ∈ cs, 0 ≤ x ∧ x ≤ 65535) (hg : Hnd w) :
    Calls Tryd.prog 5 #[v, c] w fun e w' => e = .returned (.bool true) ∧ Below w.heap.size w w' := by
  obtain ⟨ao, cap, hvf⟩ := hv.form
  obtain ⟨co, cc, hcf⟩ := hcv.form
  by_cases hbig : 1200 < l.length ∨ (¬ 1200 < l.length ∧ 60 < cs.length)
  · subst hvf hcf
    exact streams_big ao co l.length cs.length cap cc w hbig
  have hl : l.length ≤ 1200 := by omega
  have hcl : cs.length ≤ 60 := by omega
  have hl' : ¬ (1200 : Int) < (l.length : Int) := by omega
  have hcl' : ¬ (60 : Int) < (cs.length : Int) := by omega
  have HV := hide hv
  have HCV := hide hcv
  have HY := hide hby
  have HCS := hide hcs
  have HG := hide hg
  have HMI := hide (mi_new w)
  have HBA := hide ((Below.refl w.heap.size w).alloc (Nat.le_refl _) (.cells #[.slice none 0 0, .int .i64 0, .nilIface] 50))
  subst hvf hcf
  clear hv hcv hby hcs hg hbig
  go_enter Tryd.func5, Tryd.ntmps5
  go_wp2_with fail
  go_loopg [6, 7, 8] cs.length (fun g y n i wr => ∃ (j m k : Nat) (ps : List (Int × Value)) (sv : Value), j + g = cs.length ∧ i = .int .i64 (j : Int) ∧ n = .int .i64 (m : Int) ∧ m ≤ l.length ∧ Mi w.heap.size w.heap.size wr sv y k ps (l.take m) k ps ∧ Below w.heap.size w wr)
  case atStart => exact ⟨0, 0, 0, [], .slice none 0 0, by omega, rfl, rfl, Nat.zero_le _, HMI.out, HBA.out⟩
  case round =>
    obtain ⟨j, m, k, ps, sv, hjg, rfl, rfl, hm, hmi, hb⟩ := hrel
    have HM := hide hmi
    have HB := hide hb
    have hwr := hb.size
    clear hmi hb
    by_cases hgo : j < cs.length ∧ m < l.length
    · obtain ⟨hj, hml⟩ := hgo
      have hjI : (j : Int) < (cs.length : Int) := by omega
      have hmI : (m : Int) < (l.length : Int) := by omega
      obtain ⟨bc', oc', rfl, _, hcell⟩ := HCV.out.some_at (by omega)
      have cc0 := hcell j hj
      have cc1 : wr.cell? ⟨bc', oc' + j, none⟩ = some (.int .u16 cs[j]) := (HB.out.cell (p := ⟨bc', oc' + j, none⟩) (cell_block cc0)).trans cc0
      have hx := HCS.out cs[j] (List.getElem_mem hj)
      generalize cs[j] = x at *
      obtain ⟨hx0, hx1⟩ := hx
      clear hcell cc0
      obtain ⟨R, hR⟩ := Int.eq_ofNat_of_zero_le (show 0 ≤ x % 97 by omega)
      obtain ⟨D, hD⟩ := Int.eq_ofNat_of_zero_le (show 0 ≤ (l.length : Int) - (m : Int) by omega)
      have hDm : m + D = l.length := by omega
      by_cases hDR : D < R
      · have hDR' : (D : Int) < (R : Int) := by omega
        have hq : m + D ≤ l.length := by omega
        obtain ⟨u2, hs2, hu2⟩ := slice_mid_any _ l m (m + D) w HV.out (by omega) hq
        have hs2' : ∀ W, (Instr.slice 22 (.slice ao l.length cap) (some (.int .i64 (m : Int))) (some (.int .i64 ((m : Int) + (D : Int)))) none).run Tryd.prog W = .ok u2 W := fun W => by
          have := hs2 W
          rwa [Int.natCast_add] at this
        have hsl := hu2 wr (HV.out.below HB.out)
        rw [Nat.add_sub_cancel_left] at hsl
        have hcat : l.take m ++ (l.drop m).take D = l.take (m + D) := (List.take_add).symm
        have hfe := feed_mi w.heap.size w.heap.size sv u6 u2 (l.take m) ((l.drop m).take D) k ps wr HM.out hwr hsl (by rw [hcat]; exact fun x hx => HY.out x (List.mem_of_mem_take hx)) (by rw [hcat, List.length_take]; omega)
        rw [hcat] at hfe
        have HFE := hide hfe
        clear hs2 hu2 hsl hcat hfe
        go_wp2_with fail
        refine HFE.out.mono ?_
        rintro e w3 ⟨y1, m1, ps1, sv', rfl, ho1, hone, hmi3, hb3⟩
        have hkm : k + m1 ≤ 1200 := by
          have h1 := its_le hmi3.1.1
          have h2 := it_le (l.take (m + D)) (k + m1)
          rw [List.length_take] at h2
          omega
        have HO1 := hide ho1
        have HON := hide hone
        have HM3 := hide hmi3
        have HB3 := hide (HB.out.trans hb3)
        have hs3 := HB3.out.size
        clear ho1 hone hmi3 hb3 HFE
        go_wp2_with (first | (at_builtin; refine wpList_append_frs _ rfl _ _ rfl w.heap.size wr.heap.size _ k (fcs ps) rfl HM3.out.2.1 hs3 y1 m1 (fcs ps1) rfl HO1.out HON.out (by omega) ?_))
        intro w4 y4 hown4 hg4 hblk4
        have hap := append_mi HM3.out hown4 hg4 hblk4
        have HM4 := hide hap.1
        have HB4 := hide (HB3.out.trans hap.2)
        clear hown4 hg4 hblk4 hap
        go_wp2_with fail
        go_roundg (gk - 1)
        case measure => omega
        case rel => exact ⟨j + 1, m + D, k + m1, ps ++ ps1, sv', by omega, by go_num, by go_num, hq, HM4.out, HB4.out⟩
      · have hDR' : ¬ (D : Int) < (R : Int) := by omega
        have hq : m + R ≤ l.length := by omega
        obtain ⟨u2, hs2, hu2⟩ := slice_mid_any _ l m (m + R) w HV.out (by omega) hq
        have hs2' : ∀ W, (Instr.slice 22 (.slice ao l.length cap) (some (.int .i64 (m : Int))) (some (.int .i64 ((m : Int) + (R : Int)))) none).run Tryd.prog W = .ok u2 W := fun W => by
          have := hs2 W
          rwa [Int.natCast_add] at this
        have hsl := hu2 wr (HV.out.below HB.out)
        rw [Nat.add_sub_cancel_left] at hsl
        have hcat : l.take m ++ (l.drop m).take R = l.take (m + R) := (List.take_add).symm
        have hfe := feed_mi w.heap.size w.heap.size sv u6 u2 (l.take m) ((l.drop m).take R) k ps wr HM.out hwr hsl (by rw [hcat]; exact fun x hx => HY.out x (List.mem_of_mem_take hx)) (by rw [hcat, List.length_take]; omega)
        rw [hcat] at hfe
        have HFE := hide hfe
        clear hs2 hu2 hsl hcat hfe
        go_wp2_with fail
        refine HFE.out.mono ?_
        rintro e w3 ⟨y1, m1, ps1, sv', rfl, ho1, hone, hmi3, hb3⟩
        have hkm : k + m1 ≤ 1200 := by
          have h1 := its_le hmi3.1.1
          have h2 := it_le (l.take (m + R)) (k + m1)
          rw [List.length_take] at h2
          omega
        have HO1 := hide ho1
        have HON := hide hone
        have HM3 := hide hmi3
        have HB3 := hide (HB.out.trans hb3)
        have hs3 := HB3.out.size
        clear ho1 hone hmi3 hb3 HFE
        go_wp2_with (first | (at_builtin; refine wpList_append_frs _ rfl _ _ rfl w.heap.size wr.heap.size _ k (fcs ps) rfl HM3.out.2.1 hs3 y1 m1 (fcs ps1) rfl HO1.out HON.out (by omega) ?_))
        intro w4 y4 hown4 hg4 hblk4
        have hap := append_mi HM3.out hown4 hg4 hblk4
        have HM4 := hide hap.1
        have HB4 := hide (HB3.out.trans hap.2)
        clear hown4 hg4 hblk4 hap
        go_wp2_with fail
        go_roundg (gk - 1)
        case measure => omega
        case rel => exact ⟨j + 1, m + R, k + m1, ps ++ ps1, sv', by omega, by go_num, by go_num, hq, HM4.out, HB4.out⟩
    · have hor : ¬ (j : Int) < (cs.length : Int) ∨ ((j : Int) < (cs.length : Int) ∧ ¬ (m : Int) < (l.length : Int)) := by omega
      obtain ⟨u2, hs2, hu2⟩ := slice_from_any _ l m w HV.out hm
      have hcat : l.take m ++ l.drop m = l := List.take_append_drop m l
      have hfe := feed_mi w.heap.size w.heap.size sv u6 u2 (l.take m) (l.drop m) k ps wr HM.out hwr (hu2 wr (HV.out.below HB.out)) (by rw [hcat]; exact HY.out) (by rw [hcat]; omega)
      rw [hcat] at hfe
      have HFE := hide hfe
      clear hu2 hcat hfe hgo
      rcases hor with h1 | ⟨h1, h2⟩
      all_goals
        go_wp2_with fail
        refine HFE.out.mono ?_
        rintro e w3 ⟨y1, m1, ps1, sv', rfl, ho1, hone, hmi3, hb3⟩
        have hkm : k + m1 ≤ 1200 := by
          have h1 := its_le hmi3.1.1
          have h2 := it_le l (k + m1)
          omega
        have HO1 := hide ho1
        have HON := hide hone
        have HM3 := hide hmi3
        have HB3 := hide (HB.out.trans hb3)
        have hs3 := HB3.out.size
        clear ho1 hone hmi3 hb3 HFE HM
        go_wp2_with (first | (at_builtin; refine wpList_append_frs _ rfl _ _ rfl w.heap.size wr.heap.size _ k (fcs ps) rfl HM3.out.2.1 hs3 y1 m1 (fcs ps1) rfl HO1.out HON.out (by omega) ?_))
        intro w4 y4 hown4 hg4 hblk4
        have hap := append_mi HM3.out hown4 hg4 hblk4
        have HM4 := hide hap.1
        have HB4 := hide (HB3.out.trans hap.2)
        have HSC := hide (scan_any (.slice ao l.length cap) l w4 (HV.out.below HB4.out) (by omega) HY.out)
        clear hown4 hg4 hblk4 hap HM3 HO1 HON hs3 hwr
        generalize hK : k + m1 = K at *
        generalize hps : ps ++ ps1 = psK at *
        clear hK hps
        go_wp2_with fail
        refine HSC.out.mono ?_
        rintro e w5 ⟨y5, k5, ps5, u5, rfl, ⟨ao5, cap5, rfl⟩, hi5, hs5, ho5, hb5, hbel5⟩
        obtain rfl : k5 = K := its_one hi5 HM4.out.1.1 hs5 HM4.out.1.2
        have hfl5 : Fl w5 y5 (it l k5).1 := fl_of_owns (by rw [it_len]; exact ho5) hb5
        have hit := it_le l k5
        have hbod := it_body l k5
        have hlen : (it l k5).1.length = k5 := it_len l k5
        obtain ⟨n, hn⟩ : ∃ n, n = (it l k5).2 := ⟨_, rfl⟩
        obtain ⟨f, hf⟩ : ∃ f, f = nextS (l.drop n) := ⟨_, rfl⟩
        rw [← hn, ← hf] at hs5
        have hm4 := HM4.out.below hbel5
        have hst := hm4.2.2.2.1
        rw [← hn] at hst
        obtain ⟨M, hM⟩ : ∃ M, M = f.body.length := ⟨_, rfl⟩
        rw [← hn, ← hf, ← hM]
        have hba : Below w5.heap.size w5 (w5.alloc (.cells #[.int .i64 f.K, .slice ao5 M cap5, .int .i64 (f.size : Int), .int .i64 f.c, .string f.op, .int .i64 (f.wh : Int)] 43)) := (Below.refl _ _).alloc (Nat.le_refl _) _
        have HB6 := hide ((HB4.out.trans (hbel5.mono HB4.out.size)).trans (hba.mono (Nat.le_trans HB4.out.size hbel5.size)))
        have HSM := hide (fsame_any y4 y5 (it l k5).1 _ (hm4.fl.below hba) (hfl5.below hba) (by omega) (fun f hf => by have := hbod f hf; omega))
        have HST := hide (hst.below hba)
        have HFD := hide (fd_new w5 f.K (.slice ao5 M cap5) (f.size : Int) f.c f.op (f.wh : Int) 43)
        have HF := hide hf
        have HN : Hid (n ≤ l.length) := hide (by omega)
        have hn' : n ≤ l.length := by omega
        unfold fdv
        clear hfl5 hit hbod hlen hn hf hs5 hm4 hst hM ho5 hb5 hbel5 hi5 HSC HM4
        go_wp2_with fail
        refine HSM.out.mono ?_
        rintro e w7 ⟨rfl, hb7⟩
        obtain ⟨p0, p1, p2, p3, p4, p5⟩ := HFD.out.below hb7
        have HFD7 := hide (HFD.out.below hb7)
        have HB7 := hide (HB6.out.trans (hb7.mono HB6.out.size))
        have HST7 := hide (HST.out.below hb7)
        clear hb7 hba HSM
        by_cases hc : f.c = 0
        · have hc2 : (nextS (l.drop n)).c = 0 := by rw [← HF.out]; exact hc
          have hr7 := HST7.out
          rw [leftS_none hc2, errS_none hc2] at hr7
          obtain ⟨vo, vc, hvv⟩ := hr7.form
          rw [List.length_drop] at hvv
          obtain ⟨D, hD⟩ : ∃ D, D = l.length - n := ⟨_, rfl⟩
          have hDI : (l.length : Int) - (n : Int) = (D : Int) := by omega
          rw [← hD] at hvv
          subst hvv
          have HR7 : Hid (Rd w7 w.heap.size (.slice vo D vc) (n : Int) .nilIface) := hide hr7.1
          rw [hc] at p3
          clear hr7 hc2 hD
          go_wp2_with (first
            | (go_at_call 19; refine (serr_any _ _ _ _ _ HR7.out).mono ?_; rintro e w8 ⟨rfl, rfl⟩)
            | (go_at_call 20; refine (sleft_any _ _ _ _ _ _ _ HR7.out).mono ?_; rintro e w9 ⟨rfl, rfl⟩)
            | (go_at_call 7; refine (works_any _).mono ?_; rintro e w10 ⟨rfl, hb10⟩; have HB10 := hide (HB7.out.trans (hb10.mono HB7.out.size)); clear hb10))
          go_ret
          exact ⟨rfl, HB10.out⟩
        · have hc2 : (nextS (l.drop n)).c ≠ 0 := by rw [← HF.out]; exact hc
          have hr7 := HST7.out
          rw [show leftS l n = [] from if_neg hc2] at hr7
          obtain ⟨vo, vc, hvv⟩ := hr7.form
          subst hvv
          have hrd := hr7.1
          have hwr := fun W h => fwrong_s 0 l n hc2 W h
          rw [Nat.zero_add, ← HF.out] at hwr
          have hun : ∀ W, Hnd W → Calls Tryd.prog 21 #[ev (errS 0 l n), .string ⟨#[102, 114, 97, 109, 101]⟩] W fun e w' => e = .returned (.bool true) ∧ Below W.heap.size W w' := fun W h => by
            have hop : ∃ s c, errS 0 l n = some ((⟨#[102, 114, 97, 109, 101]⟩, ((0 + n : Nat) : Int)) :: s, c) ∧ s.length ≤ 2 := by
              unfold errS errF
              rw [if_neg hc2]
              by_cases h6 : (nextS (l.drop n)).op.data.size = 6
              · rw [if_pos h6]; exact ⟨_, _, rfl, by simp⟩
              · rw [if_neg h6]; exact ⟨_, _, rfl, by simp⟩
            obtain ⟨s, c', he, hsl⟩ := hop
            have h9 := under_ev (errS 0 l n) ⟨#[102, 114, 97, 109, 101]⟩ W h (by rw [he]; simp [stV]; omega)
            rw [show hasB ((stV (errS 0 l n)).map (·.1)) ⟨#[102, 114, 97, 109, 101]⟩ = true by rw [he]; simp [stV, hasB]] at h9
            exact h9
          generalize ev (errS 0 l n) = E at *
          have HER := hide (fun W (h : Below w7.heap.size w7 W) => serr_any _ _ _ _ W (hrd.below h))
          have HLE := hide (fun W (h : Below w7.heap.size w7 W) => sleft_any _ _ _ _ _ _ W (hrd.below h))
          have HWR := hide (fun W (h : Below w7.heap.size w7 W) => hwr W (HG.out.below (HB7.out.trans (h.mono HB7.out.size))))
          have HUN := hide (fun W (h : Below w7.heap.size w7 W) => hun W (HG.out.below (HB7.out.trans (h.mono HB7.out.size))))
          have hF : ∀ W, Below w7.heap.size w7 W → (W.cell? ⟨w5.heap.size, 3, none⟩ = some (.int .i64 f.c) ∧ W.cell? ⟨w5.heap.size, 4, none⟩ = some (.string f.op)) := fun W h => ⟨(HFD7.out.below h).2.2.2.1, (HFD7.out.below h).2.2.2.2.1⟩
          have HS0 := hide (hs_drew hF (Nat.le_refl _))
          have HFF := hide hF
          clear hF hr7 hrd hwr hun hc2 p0 p1 p2 p4 p5
          go_wp2_with fail
          go_region_held3 (fun W => (W.cell? ⟨w5.heap.size, 3, none⟩ = some (.int .i64 f.c) ∧ W.cell? ⟨w5.heap.size, 4, none⟩ = some (.string f.op)) ∧ Below w7.heap.size w7 W ∧ w7.heap.size ≤ W.heap.size)
            (first | with_reducible assumption | with_reducible exact hs_call HFF.out (by assumption) (by assumption) | with_reducible exact HS0.out)
            (first
              | (go_at_call 19; refine (HER.out _ ?_).mono ?_; exact And.left (And.right (by assumption)); rintro e w' ⟨rfl, rfl⟩)
              | (go_at_call 20; refine (HLE.out _ ?_).mono ?_; exact And.left (And.right (by assumption)); rintro e w' ⟨rfl, rfl⟩)
              | (go_at_call 15; refine (HWR.out _ ?_).mono ?_; exact And.left (And.right (by assumption)); rintro e w' ⟨rfl, hb⟩)
              | (go_at_call 21; refine (HUN.out _ ?_).mono ?_; exact And.left (And.right (by assumption)); rintro e w' ⟨rfl, hb⟩)
              | (go_at_call 7; refine (works_any _).mono ?_; rintro e w' ⟨rfl, hb⟩))
          have hfin : Below w7.heap.size w7 w' := And.left (And.right (by assumption))
          have HBF := hide (HB7.out.trans (hfin.mono HB7.out.size))
          clear hfin
          go_wp2_with fail
          go_ret
          exact ⟨rfl, HBF.out⟩
end Go.Proofs.YtenahnbfaekljaaDoor
