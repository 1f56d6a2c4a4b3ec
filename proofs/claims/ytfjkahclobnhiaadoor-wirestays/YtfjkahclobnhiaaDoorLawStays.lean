/-
  BEHIND THE FIRST THING THAT IS WRONG NOTHING IS READ ANY MORE, AND IT STAYS WHAT IS WRONG: WireStays answers true. Conditions: the slices' cells hold bytes and things to be read; errors.errorType holds the handle of the type error.
-/
import Derived.Test.YtfjkahclobnhiaaDoorWask
import Derived.Test.YtfjkahclobnhiaaDoorWorks
namespace Go.Proofs.YtfjkahclobnhiaaDoor
open Go.RowKit

set_option maxRecDepth 100000 in
set_option maxHeartbeats 8000000 in
theorem stays_out (xo ao bo : Option Addr) (X S R xc sc rc : Nat) (w : World) (hg : Hnd w) (hX : X ≤ 9223372036854775807) (hS : S ≤ 9223372036854775807) (hR : R ≤ 9223372036854775807)
    (h : 2000 < X ∨ (¬ 2000 < X ∧ 60 < S) ∨ (¬ 2000 < X ∧ ¬ 60 < S ∧ 60 < R)) :
    Calls Tryd.prog 7 #[.slice xo X xc, .slice ao S sc, .slice bo R rc] w fun e w' => e = .returned (.bool true) ∧ Below w.heap.size w w' := by
  have HW := hide (works_any w hg)
  clear hg
  rcases h with h1 | ⟨h1, h2⟩ | ⟨h1, h2, h3⟩
  all_goals
    go_enter Tryd.func7, Tryd.ntmps7
    go_wp2_with (first | (go_at_call 8; refine (HW.out).mono ?_; rintro e w' ⟨rfl, hb⟩))
    go_ret
    exact ⟨rfl, hb⟩
/-- What is wrong: nothing, or an error of one step. -/
def Er (e : Value) : Prop := e = .nilIface ∨ ∃ op wh c, e = ft op wh c
theorem Er.of (op : ByteArray) (a c : Int) : Er (erN op a c) := by
  unfold erN
  split
  · exact .inl rfl
  · exact .inr ⟨_, _, _, rfl⟩
theorem ask_step (p : Nat) (ao : Option Addr) (cap : Nat) (b : List Int) (a : Nat) (e : Value) (K M E : Int) (w : World) (hr : Rd w p (.slice ao b.length cap) a e) (he : Er e) (hv : Slx p bc w (.slice ao b.length cap) b) (hl : b.length ≤ 10000) (hby : Byt b) (ha : a ≤ b.length) (hM : M ≤ 9223372036854775807) (hE : E ≤ 9223372036854775807) :
    Calls Tryd.prog 21 #[.pointer (some ⟨p, 0, none⟩), .agg #[.int .i64 K, .int .i64 M, .int .i64 E]] w fun x w' => ∃ y, x = .returned y ∧ ∃ (a' : Nat) (e' : Value), a' ≤ b.length ∧ Er e' ∧ Rd w' p (.slice ao b.length cap) a' e' ∧ Bx p w w' := by
  rcases he with rfl | ⟨op, wh, c, rfl⟩
  · refine (got_any p _ b a K M E w hr hv hl hby ha hM hE).mono ?_
    rintro x w' ⟨vt, vr, rfl, _, _, h1, h2⟩
    exact ⟨_, rfl, _, _, askS_next b a K M E hby ha, Er.of _ _ _, h1, h2⟩
  · refine (got_err p ao b.length cap a K M E _ _ w hr hl ha hM).mono ?_
    rintro x w' ⟨vt, vr, rfl, _, _, h1, h2⟩
    exact ⟨_, rfl, a, _, ha, .inr ⟨_, _, _, rfl⟩, h1, h2⟩
set_option maxRecDepth 100000 in
set_option maxHeartbeats 8000000 in
theorem stays_main (vb vq vm : Value) (b : List Int) (q m : List (Int × Int × Int)) (w : World) (hg : Hnd w) (hb : Sl bc w vb b) (hq : Sa w vq q) (hm : Sa w vm m) (hby : Byt b) (hq64 : ∀ i (h : i < q.length), q[i].2.1 ≤ 9223372036854775807 ∧ q[i].2.2 ≤ 9223372036854775807) (hm64 : ∀ i (h : i < m.length), m[i].2.1 ≤ 9223372036854775807) (b1 : ¬ 2000 < b.length) (q1 : ¬ 60 < q.length) (m1 : ¬ 60 < m.length) :
    Calls Tryd.prog 7 #[vb, vq, vm] w fun e w' => e = .returned (.bool true) ∧ Below w.heap.size w w' := by
  have G0 := hide hg
  have HBY := hide hby
  have HQ64 := hide hq64
  have HM64 := hide hm64
  obtain ⟨qo, qc, hvq, hqg⟩ := hq.get
  obtain ⟨mo, mc, hvm, hmg⟩ := hm.get
  obtain ⟨xo, xc, hvb⟩ := hb.form
  subst hvq
  subst hvm
  subst hvb
  have HB := hide hb
  have HQG := hide hqg
  have HMG := hide hmg
  clear hg hb hq hm hby hq64 hm64 hqg hmg
  go_enter Tryd.func7, Tryd.ntmps7
  go_wp2_with (first | (go_at_call 20; refine (read_any _ b.length xc _).mono ?_; rintro e w1 ⟨rfl, hr1, hb1⟩; have HR1 := hide hr1; have HB1 := hide hb1; clear hr1 hb1))
  go_loopw [8] (fun i wr => ∃ j : Nat, j ≤ q.length ∧ i = .int .i64 j ∧ ∃ (a : Nat) (e : Value), a ≤ b.length ∧ Er e ∧ Rd wr w.heap.size (.slice xo b.length xc) a e ∧ Slx w.heap.size bc wr (.slice xo b.length xc) b ∧ Below w.heap.size w wr) (fun i _ => q.length - (intOf i).toNat)
  case atStart => exact ⟨0, Nat.zero_le _, rfl, 0, _, Nat.zero_le _, .inl rfl, HR1.out, (HB.out.out (Nat.le_refl _)).below HB1.out, HB1.out⟩
  case round =>
    obtain ⟨j, hj, rfl, a, e, ha, he, hr, hv, hbw⟩ := hrel
    by_cases hlt : j < q.length
    · obtain ⟨bb, o, rfl, hbl, hc0, hc1, hc2⟩ := HQG.out j hlt
      have c0 : wr.cell? ⟨bb, o + j * 3, none⟩ = some (.int .i64 q[j].1) := (hbw.cell (p := ⟨bb, o + j * 3, none⟩) hbl).trans hc0
      have c1 : wr.cell? ⟨bb, o + j * 3 + 1, none⟩ = some (.int .i64 q[j].2.1) := (hbw.cell (p := ⟨bb, o + j * 3 + 1, none⟩) hbl).trans hc1
      have c2 : wr.cell? ⟨bb, o + j * 3 + 2, none⟩ = some (.int .i64 q[j].2.2) := (hbw.cell (p := ⟨bb, o + j * 3 + 2, none⟩) hbl).trans hc2
      have HS := hide (ask_step w.heap.size xo xc b a e q[j].1 q[j].2.1 q[j].2.2 wr hr he hv (by omega) HBY.out ha (HQ64.out j hlt).1 (HQ64.out j hlt).2)
      have HV := hide hv
      have HBW := hide (And.intro hr hbw)
      clear hc0 hc1 hc2 hbl hr hv hbw he
      generalize q[j].1 = K at *
      generalize q[j].2.1 = M at *
      generalize q[j].2.2 = E at *
      go_wp2_with (first | (go_at_call 21; refine (HS.out).mono ?_; rintro x w2 ⟨y, rfl, a', e', ha', he', hr2, hx2⟩; have HN := hide (And.intro hr2 (And.intro (HV.out.bx hx2) (HBW.out.1.low HBW.out.2 hx2 (Nat.le_refl _)))); clear hr2 hx2))
      go_roundw
      case rel => exact ⟨j + 1, by omega, by go_num, a', e', ha', he', HN.out.1, HN.out.2.1, HN.out.2.2⟩
      case measure => simp [intOf]; omega
    · obtain rfl : j = q.length := by omega
      clear hlt HQG HB1 HR1 HB
      rcases he with rfl | ⟨op, wh, c, rfl⟩
      · have HR := hide hr
        have HW := hide (works_any wr (G0.out.below hbw))
        clear hr hv
        go_wp2_with (first
          | (go_at_call 26; refine (err_any _ _ _ _ _ HR.out).mono ?_; rintro e w' ⟨rfl, rfl⟩)
          | (go_at_call 8; refine (HW.out).mono ?_; rintro e w2 ⟨rfl, hb2⟩))
        go_ret
        exact ⟨rfl, hbw.trans (hb2.mono hbw.size)⟩
      · obtain ⟨U, hU⟩ : ∃ U, ft op wh c = .iface 89 U := ⟨_, rfl⟩
        have hof := fun W h => of_ev (some ([(op, wh)], c)) W h
        have hwe := fun W h => where_ev (some ([(op, wh)], c)) W h
        rw [show inV (stV (some ([(op, wh)], c))) = true from rfl] at hwe
        simp only [← ft_ev, hU] at hof hwe
        rw [hU] at hr
        generalize ofV (some ([(op, wh)], c)) = C at hof
        generalize atV (stV (some ([(op, wh)], c))) = D at hwe
        have HOF := hide hof
        have HWE := hide hwe
        have HR := hide hr
        have HBW := hide hbw
        clear hof hwe hr hbw hv hU
        go_wp2_with (first
          | (go_at_call 26; refine (err_any _ _ _ _ _ HR.out).mono ?_; rintro e w' ⟨rfl, rfl⟩))
        refine (HOF.out _ (G0.out.below HBW.out)).mono ?_
        rintro e w3 ⟨rfl, hb3⟩
        have HR3 := hide (HR.out.below hb3)
        have HB3 := hide (HBW.out.trans (hb3.mono HBW.out.size))
        clear hb3 HR
        go_wp2_with (first
          | (go_at_call 24; refine (at_any _ _ _ _ _ HR3.out).mono ?_; rintro e w' ⟨rfl, rfl⟩)
          | (go_at_call 26; refine (err_any _ _ _ _ _ HR3.out).mono ?_; rintro e w' ⟨rfl, rfl⟩))
        refine (HWE.out _ (G0.out.below HB3.out)).mono ?_
        rintro e w4 ⟨rfl, hb4⟩
        have HR4 := hide (HR3.out.below hb4)
        have HB4 := hide (HB3.out.trans (hb4.mono HB3.out.size))
        clear hb4 HR3
        go_wp2_with fail
        go_loopw [13] (fun i wr => ∃ j : Nat, j ≤ m.length ∧ i = .int .i64 j ∧ Rd wr w.heap.size (.slice xo b.length xc) a (.iface 89 U) ∧ Below w.heap.size w wr) (fun i _ => m.length - (intOf i).toNat)
        case atStart => exact ⟨0, Nat.zero_le _, rfl, HR4.out, HB4.out⟩
        case round =>
          obtain ⟨j, hj, rfl, hr, hbw⟩ := hrel
          by_cases hlt : j < m.length
          · obtain ⟨bb, o, rfl, hbl, hc0, hc1, hc2⟩ := HMG.out j hlt
            have c0 := (hbw.cell (p := ⟨bb, o + j * 3, none⟩) hbl).trans hc0
            have c1 := (hbw.cell (p := ⟨bb, o + j * 3 + 1, none⟩) hbl).trans hc1
            have c2 := (hbw.cell (p := ⟨bb, o + j * 3 + 2, none⟩) hbl).trans hc2
            have HS := hide (got_err w.heap.size xo b.length xc a m[j].1 m[j].2.1 m[j].2.2 _ _ _ hr (by omega) ha (HM64.out j hlt))
            have HRR := hide (And.intro hr hbw)
            clear hc0 hc1 hc2 hbl hr hbw
            generalize m[j].1 = K at *
            generalize m[j].2.1 = M at *
            generalize m[j].2.2 = E at *
            go_wp2_with (first | (go_at_call 21; refine (HS.out).mono ?_; rintro x w2 ⟨vt, vr, rfl, hst, hsr, hr2, hx2⟩; obtain ⟨to, tc, ht⟩ := hst.form; obtain ⟨ro, rc, hr⟩ := hsr.form; rw [List.length_nil] at ht hr; subst ht; subst hr; have HN := hide (And.intro hr2 (HRR.out.1.low HRR.out.2 hx2 (Nat.le_refl _))); clear hr2 hx2 hst hsr))
            go_roundw
            case rel => exact ⟨j + 1, by omega, by go_num, HN.out.1.alloc _, HN.out.2.alloc HN.out.2.size _⟩
            case measure => simp [intOf]; omega
          · obtain rfl : j = m.length := by omega
            have HR := hide hr
            have HBW2 := hide hbw
            have HE := hide (rend_err w.heap.size xo b.length xc a 89 U _ hr)
            clear hr hbw hlt HMG HR4
            go_wp2_with (first
              | (go_at_call 36; refine (refuse_some _ _ _ _ _ _ _ _ HR.out).mono ?_; rintro e w' ⟨rfl, rfl⟩))
            refine (HE.out).mono ?_
            rintro e w5 ⟨rfl, hr5, hx5⟩
            have HB5 := hide (HR.out.low HBW2.out hx5 (Nat.le_refl _))
            have HR5 := hide hr5
            clear hr5 hx5 HR
            go_wp2_with fail
            refine (HWE.out _ (G0.out.below HB5.out)).mono ?_
            rintro e w6 ⟨rfl, hb6⟩
            have HB6 := hide (HB5.out.trans (hb6.mono HB5.out.size))
            have HR6 := hide (HR5.out.below hb6)
            clear hb6 HR5
            go_wp2_with fail
            refine (HOF.out _ (G0.out.below HB6.out)).mono ?_
            rintro e w7 ⟨rfl, hb7⟩
            have HB7 := hide (HB6.out.trans (hb7.mono HB6.out.size))
            have HR7 := hide (HR6.out.below hb7)
            have HW := hide (works_any w7 (G0.out.below HB7.out))
            clear hb7 HR6
            go_wp2_with (first
              | (go_at_call 24; refine (at_any _ _ _ _ _ HR7.out).mono ?_; rintro e w' ⟨rfl, rfl⟩)
              | (go_at_call 8; refine (HW.out).mono ?_; rintro e w8 ⟨rfl, hb8⟩))
            go_ret
            exact ⟨rfl, HB7.out.trans (hb8.mono HB7.out.size)⟩
theorem stays_law (vb vq vm : Value) (b : List Int) (q m : List (Int × Int × Int)) (w : World) (hg : Hnd w) (hb : Sl bc w vb b) (hq : Sa w vq q) (hm : Sa w vm m) (hby : Byt b) (hq64 : ∀ i (h : i < q.length), q[i].2.1 ≤ 9223372036854775807 ∧ q[i].2.2 ≤ 9223372036854775807) (hm64 : ∀ i (h : i < m.length), m[i].2.1 ≤ 9223372036854775807) (hb63 : b.length ≤ 9223372036854775807) (hq63 : q.length ≤ 9223372036854775807) (hm63 : m.length ≤ 9223372036854775807) :
    Calls Tryd.prog 7 #[vb, vq, vm] w fun e w' => e = .returned (.bool true) ∧ Below w.heap.size w w' := by
  by_cases h : 2000 < b.length ∨ (¬ 2000 < b.length ∧ 60 < q.length) ∨ (¬ 2000 < b.length ∧ ¬ 60 < q.length ∧ 60 < m.length)
  · obtain ⟨xo, xc, rfl⟩ := hb.form
    obtain ⟨ao, sc, rfl, _⟩ := hq.get
    obtain ⟨bo, rc, rfl, _⟩ := hm.get
    exact stays_out xo ao bo b.length q.length m.length xc sc rc w hg hb63 hq63 hm63 h
  · exact stays_main vb vq vm b q m w hg hb hq hm hby hq64 hm64 (by omega) (by omega) (by omega)
end Go.Proofs.YtfjkahclobnhiaaDoor
