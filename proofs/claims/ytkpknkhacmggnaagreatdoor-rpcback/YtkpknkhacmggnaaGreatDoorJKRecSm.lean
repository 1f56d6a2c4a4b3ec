/-
  TWO RECORDS THE SAME (slices.Equal, record.sameNumbers, sameTexts, Same; castellanref02.Ints, castellanref05.Same): just if all their fields are. Conditions: the rows' cells hold them, no more than a hundred thousand numbers.
-/
import Derived.Test.YtkpknkhacmggnaaGreatDoorJKWputba5
import Derived.Deep.MidRow
import Derived.Deep.DeepCutAuto
namespace Go.Proofs.YtkpknkhacmggnaaGreatDoor
open Go.RowKit

def eqI (a b : List Int) : Bool := decide (a = b)
theorem eqI_no {a b : List Int} {j : Nat} (h : ¬ a.getD j 0 = b.getD j 0) : eqI a b = false := decide_eq_false (fun e => h (by rw [e]))
theorem eqI_len {a b : List Int} (h : ¬ a.length = b.length) : eqI a b = false := decide_eq_false (fun e => h (by rw [e]))
theorem eqI_yes {a b : List Int} (hl : a.length = b.length) (h : ∀ j, j < a.length → a.getD j 0 = b.getD j 0) : eqI a b = true := by
  refine decide_eq_true (List.ext_getElem hl fun i h1 h2 => ?_)
  have := h i h1
  simpa [List.getD, h1, h2] using this
set_option maxRecDepth 100000 in
set_option maxHeartbeats 4000000 in
theorem equal_some (b o cap b' o' cap' : Nat) (a c : List Int) (w : World) (hac : a.length = c.length) (hl : a.length ≤ 100000) (h3 : ∀ i (h : i < a.length), w.cell? ⟨b, o + i, none⟩ = some (ic a[i])) (h3' : ∀ i (h : i < c.length), w.cell? ⟨b', o' + i, none⟩ = some (ic c[i])) :
    Calls Tryz.prog 106 #[.slice (some ⟨b, o, none⟩) a.length cap, .slice (some ⟨b', o', none⟩) a.length cap'] w fun e w' => e = .returned (.bool (eqI a c)) ∧ Qt w w' := by
  obtain ⟨R, hR⟩ : ∃ R, R = eqI a c := ⟨_, rfl⟩
  rw [← hR]
  have HR := hide hR
  clear hR
  have H3 : Hid (∀ W, Qt w W → ∀ i, i < a.length → W.cell? ⟨b, o + i, none⟩ = some (.int .i64 (a.getD i 0))) := hide (fun W hW i hi => by
    have := h3 i hi
    rw [hW.below.cell (p := ⟨b, o + i, none⟩) (cell_block this), this]
    simp [List.getD, hi, ic])
  have H4 : Hid (∀ W, Qt w W → ∀ i, i < a.length → W.cell? ⟨b', o' + i, none⟩ = some (.int .i64 (c.getD i 0))) := hide (fun W hW i hi => by
    have hi' : i < c.length := by omega
    have := h3' i hi'
    rw [hW.below.cell (p := ⟨b', o' + i, none⟩) (cell_block this), this]
    simp [List.getD, hi', ic])
  have HAC := hide hac
  clear h3 h3' hac
  go_enter Tryz.func106, Tryz.ntmps106
  go_wp2_with fail
  go_loopw [13] (fun i wr => ∃ j : Nat, j ≤ a.length ∧ i = .int .i64 (j : Int) ∧ Hid (∀ m, m < j → a.getD m 0 = c.getD m 0) ∧ Qt w wr) (fun i _ => a.length - (intOf i).toNat)
  case atStart => exact ⟨0, Nat.zero_le _, rfl, hide (fun m hm => absurd hm (Nat.not_lt_zero _)), Qt.refl _⟩
  case round =>
    obtain ⟨j, hj, rfl, HN, hb⟩ := hrel
    have HB := hide hb
    clear hb
    by_cases hlt : j < a.length
    · have hltI : (j : Int) < (a.length : Int) := by omega
      have cj := H3.out wr HB.out j hlt
      have dj := H4.out wr HB.out j hlt
      obtain ⟨x, hx⟩ : ∃ x, x = a.getD j 0 := ⟨_, rfl⟩
      obtain ⟨y, hy⟩ : ∃ y, y = c.getD j 0 := ⟨_, rfl⟩
      rw [← hx] at cj
      rw [← hy] at dj
      have HX := hide hx
      have HY := hide hy
      clear hx hy
      by_cases he : x = y
      · subst he
        go_wp2_with fail
        go_quiet (fail)
        go_wp2_with fail
        go_roundw
        case rel => exact ⟨j + 1, by omega, by go_num, hide (fun m hm => by by_cases e : m = j; (subst e; rw [← HX.out, ← HY.out]); exact HN.out m (by omega)), HB.out.drewN _⟩
        case measure => simp [intOf]; omega
      · have HE : Hid (R = false) := hide (by rw [HR.out]; exact eqI_no (j := j) (by rw [← HX.out, ← HY.out]; exact he))
        have he' : (x != y) = true := by simpa using he
        go_wp2_with fail
        go_quiet (fail)
        go_wp2_with fail
        go_ret
        exact ⟨by rw [HE.out]; rfl, HB.out.drewN _⟩
    · obtain rfl : j = a.length := by omega
      have HE : Hid (R = true) := hide (by rw [HR.out]; exact eqI_yes HAC.out HN.out)
      clear hlt
      go_wp2_with fail
      go_ret
      exact ⟨by rw [HE.out]; rfl, HB.out⟩
set_option maxHeartbeats 4000000 in
theorem equal_none (ao bo : Option Addr) (cap cap' : Nat) (w : World) : Calls Tryz.prog 106 #[.slice ao 0 cap, .slice bo 0 cap'] w fun e w' => e = .returned (.bool (eqI [] [])) ∧ Qt w w' := by
  go_enter Tryz.func106, Tryz.ntmps106
  go_wp2_with fail
  refine wp_loop_rounds 1 ?_
  rw [rounds_succ]
  go_wp2_with fail
  go_ret
  exact ⟨rfl, Qt.refl _⟩
set_option maxHeartbeats 4000000 in
theorem equal_len (ao bo : Option Addr) (L M cap cap' : Nat) (w : World) (h : ¬ L = M) : Calls Tryz.prog 106 #[.slice ao L cap, .slice bo M cap'] w fun e w' => e = .returned (.bool false) ∧ Qt w w' := by
  have h' : ((L : Int) != (M : Int)) = true := by simpa using fun e => h (by omega)
  go_enter Tryz.func106, Tryz.ntmps106
  go_wp2_with fail
  go_ret
  exact ⟨rfl, Qt.refl _⟩
theorem equal_any (v u : Value) (a c : List Int) (w : World) (hv : Sl ic w v a) (hu : Sl ic w u c) (hl : a.length ≤ 100000) : Calls Tryz.prog 106 #[v, u] w fun e w' => e = .returned (.bool (eqI a c)) ∧ Qt w w' := by
  by_cases hac : a.length = c.length
  · rcases hv with ⟨ao, cap, rfl, rfl⟩ | ⟨b, o, cap, rfl, hc, h3⟩
    · obtain ⟨bo, cap', rfl⟩ := hu.form
      have : c = [] := List.length_eq_zero_iff.1 (by simpa using hac.symm)
      subst this
      exact equal_none ao bo cap cap' w
    · rcases hu with ⟨ao', cap', rfl, rfl⟩ | ⟨b', o', cap', rfl, hc', h3'⟩
      · have : a = [] := List.length_eq_zero_iff.1 (by simpa using hac)
        subst this
        exact equal_none _ _ cap cap' w
      · rw [← hac]
        exact equal_some b o cap b' o' cap' a c w hac hl h3 h3'
  · obtain ⟨ao, cap, rfl⟩ := hv.form
    obtain ⟨bo, cap', rfl⟩ := hu.form
    rw [eqI_len hac]
    exact equal_len ao bo _ _ cap cap' w hac
set_option maxRecDepth 100000 in
set_option maxHeartbeats 4000000 in
theorem ints_some (b o cap b' o' cap' : Nat) (a c : List Int) (w : World) (hac : a.length = c.length) (hl : a.length ≤ 100000) (h3 : ∀ i (h : i < a.length), w.cell? ⟨b, o + i, none⟩ = some (ic a[i])) (h3' : ∀ i (h : i < c.length), w.cell? ⟨b', o' + i, none⟩ = some (ic c[i])) :
    Calls Tryz.prog 146 #[.slice (some ⟨b, o, none⟩) a.length cap, .slice (some ⟨b', o', none⟩) a.length cap'] w fun e w' => e = .returned (.bool (eqI a c)) ∧ Qt w w' := by
  obtain ⟨R, hR⟩ : ∃ R, R = eqI a c := ⟨_, rfl⟩
  rw [← hR]
  have HR := hide hR
  clear hR
  have H3 : Hid (∀ W, Qt w W → ∀ i, i < a.length → W.cell? ⟨b, o + i, none⟩ = some (.int .i64 (a.getD i 0))) := hide (fun W hW i hi => by
    have := h3 i hi
    rw [hW.below.cell (p := ⟨b, o + i, none⟩) (cell_block this), this]
    simp [List.getD, hi, ic])
  have H4 : Hid (∀ W, Qt w W → ∀ i, i < a.length → W.cell? ⟨b', o' + i, none⟩ = some (.int .i64 (c.getD i 0))) := hide (fun W hW i hi => by
    have hi' : i < c.length := by omega
    have := h3' i hi'
    rw [hW.below.cell (p := ⟨b', o' + i, none⟩) (cell_block this), this]
    simp [List.getD, hi', ic])
  have HAC := hide hac
  clear h3 h3' hac
  go_enter Tryz.func146, Tryz.ntmps146
  go_wp2_with fail
  go_loopw [5] (fun i wr => ∃ j : Nat, j ≤ a.length ∧ i = .int .i64 (j : Int) ∧ Hid (∀ m, m < j → a.getD m 0 = c.getD m 0) ∧ Qt w wr) (fun i _ => a.length - (intOf i).toNat)
  case atStart => exact ⟨0, Nat.zero_le _, rfl, hide (fun m hm => absurd hm (Nat.not_lt_zero _)), Qt.refl _⟩
  case round =>
    obtain ⟨j, hj, rfl, HN, hb⟩ := hrel
    have HB := hide hb
    clear hb
    by_cases hlt : j < a.length
    · have hltI : (j : Int) < (a.length : Int) := by omega
      have cj := H3.out wr HB.out j hlt
      have dj := H4.out wr HB.out j hlt
      obtain ⟨x, hx⟩ : ∃ x, x = a.getD j 0 := ⟨_, rfl⟩
      obtain ⟨y, hy⟩ : ∃ y, y = c.getD j 0 := ⟨_, rfl⟩
      rw [← hx] at cj
      rw [← hy] at dj
      have HX := hide hx
      have HY := hide hy
      clear hx hy
      by_cases he : x = y
      · subst he
        go_wp2_with fail
        go_quiet (fail)
        go_wp2_with fail
        go_roundw
        case rel => exact ⟨j + 1, by omega, by go_num, hide (fun m hm => by by_cases e : m = j; (subst e; rw [← HX.out, ← HY.out]); exact HN.out m (by omega)), HB.out.drewN _⟩
        case measure => simp [intOf]; omega
      · have HE : Hid (R = false) := hide (by rw [HR.out]; exact eqI_no (j := j) (by rw [← HX.out, ← HY.out]; exact he))
        have he' : (x != y) = true := by simpa using he
        go_wp2_with fail
        go_quiet (fail)
        go_wp2_with fail
        go_ret
        exact ⟨by rw [HE.out]; rfl, HB.out.drewN _⟩
    · obtain rfl : j = a.length := by omega
      have HE : Hid (R = true) := hide (by rw [HR.out]; exact eqI_yes HAC.out HN.out)
      clear hlt
      go_wp2_with fail
      go_ret
      exact ⟨by rw [HE.out]; rfl, HB.out⟩
set_option maxHeartbeats 4000000 in
theorem ints_none (ao bo : Option Addr) (cap cap' : Nat) (w : World) : Calls Tryz.prog 146 #[.slice ao 0 cap, .slice bo 0 cap'] w fun e w' => e = .returned (.bool (eqI [] [])) ∧ Qt w w' := by
  go_enter Tryz.func146, Tryz.ntmps146
  go_wp2_with fail
  refine wp_loop_rounds 1 ?_
  rw [rounds_succ]
  go_wp2_with fail
  go_ret
  exact ⟨rfl, Qt.refl _⟩
set_option maxHeartbeats 4000000 in
theorem ints_len (ao bo : Option Addr) (L M cap cap' : Nat) (w : World) (h : ¬ L = M) : Calls Tryz.prog 146 #[.slice ao L cap, .slice bo M cap'] w fun e w' => e = .returned (.bool false) ∧ Qt w w' := by
  have h' : ((L : Int) != (M : Int)) = true := by simpa using fun e => h (by omega)
  go_enter Tryz.func146, Tryz.ntmps146
  go_wp2_with fail
  go_ret
  exact ⟨rfl, Qt.refl _⟩
theorem ints_any (v u : Value) (a c : List Int) (w : World) (hv : Sl ic w v a) (hu : Sl ic w u c) (hl : a.length ≤ 100000) : Calls Tryz.prog 146 #[v, u] w fun e w' => e = .returned (.bool (eqI a c)) ∧ Qt w w' := by
  by_cases hac : a.length = c.length
  · rcases hv with ⟨ao, cap, rfl, rfl⟩ | ⟨b, o, cap, rfl, hc, h3⟩
    · obtain ⟨bo, cap', rfl⟩ := hu.form
      have : c = [] := List.length_eq_zero_iff.1 (by simpa using hac.symm)
      subst this
      exact ints_none ao bo cap cap' w
    · rcases hu with ⟨ao', cap', rfl, rfl⟩ | ⟨b', o', cap', rfl, hc', h3'⟩
      · have : a = [] := List.length_eq_zero_iff.1 (by simpa using hac)
        subst this
        exact ints_none _ _ cap cap' w
      · rw [← hac]
        exact ints_some b o cap b' o' cap' a c w hac hl h3 h3'
  · obtain ⟨ao, cap, rfl⟩ := hv.form
    obtain ⟨bo, cap', rfl⟩ := hu.form
    rw [eqI_len hac]
    exact ints_len ao bo _ _ cap cap' w hac
/-- The cells that record.Same itself reads. -/
theorem six {W : World} {p : Nat} {x0 x1 x2 x3 x4 x5 x6 x7 x8 x9 x10 x11 x12 x13 x14 x15 x16 x17 : Value} (h : W.rangeAt p 0 [x0, x1, x2, x3, x4, x5, x6, x7, x8, x9, x10, x11, x12, x13, x14, x15, x16, x17]) : W.cell? ⟨p, 0, none⟩ = some x0 ∧ W.cell? ⟨p, 9, none⟩ = some x9 ∧ W.cell? ⟨p, 14, none⟩ = some x14 ∧ W.cell? ⟨p, 15, none⟩ = some x15 ∧ W.cell? ⟨p, 16, none⟩ = some x16 ∧ W.cell? ⟨p, 17, none⟩ = some x17 :=
  ⟨h 0 _ rfl, h 9 _ rfl, h 14 _ rfl, h 15 _ rfl, h 16 _ rfl, h 17 _ rfl⟩
/-- Two records in boxes of their own. -/
theorem lay2 (w : World) (A B : List Value) : ∃ X, Hid (X = (w.alloc (.cells A.toArray 58)).alloc (.cells B.toArray 58)) ∧ Hid (X.rangeAt w.heap.size 0 A) ∧ Hid (X.rangeAt (w.heap.size + 1) 0 B) ∧ Hid (Below w.heap.size w X) := by
  refine ⟨_, hide rfl, hide (World.rangeAt_alloc (range_new w _ _) _), hide ?_, hide (((Below.refl _ _).alloc (Nat.le_refl _) _).alloc (by simp) _)⟩
  have := range_new (w.alloc (.cells A.toArray 58)) B 58
  have hz : (w.alloc (.cells A.toArray 58)).heap.size = w.heap.size + 1 := by simp
  rwa [hz] at this
set_option maxRecDepth 100000 in
set_option maxHeartbeats 8000000 in
theorem snum_any (k br ep tp pa le cl se co k' br' ep' tp' pa' le' cl' se' co' : Int) (fl fl' : Bool) (nm ky va rk nm' ky' va' rk' : List UInt8) (a14 a15 a16 a17 b14 b15 b16 b17 : Option Addr) (c14 c15 c16 c17 d14 d15 d16 d17 : Nat) (ids isr ad dr ids' isr' ad' dr' : List Int) (w : World) :
    Calls Tryz.prog 104 #[.agg #[.int .i64 k, .int .i64 br, .int .i64 ep, .int .i64 tp, .int .i64 pa, .int .i64 le, .int .i64 cl, .int .i64 se, .int .i64 co, .bool fl, .string ⟨nm.toArray⟩, .string ⟨ky.toArray⟩, .string ⟨va.toArray⟩, .string ⟨rk.toArray⟩, .slice a14 ids.length c14, .slice a15 isr.length c15, .slice a16 ad.length c16, .slice a17 dr.length c17], .agg #[.int .i64 k', .int .i64 br', .int .i64 ep', .int .i64 tp', .int .i64 pa', .int .i64 le', .int .i64 cl', .int .i64 se', .int .i64 co', .bool fl', .string ⟨nm'.toArray⟩, .string ⟨ky'.toArray⟩, .string ⟨va'.toArray⟩, .string ⟨rk'.toArray⟩, .slice b14 ids'.length d14, .slice b15 isr'.length d15, .slice b16 ad'.length d16, .slice b17 dr'.length d17]] w fun e w' => e = .returned (.bool (decide (br = br' ∧ ep = ep' ∧ tp = tp' ∧ pa = pa' ∧ le = le' ∧ cl = cl' ∧ se = se' ∧ co = co'))) ∧ Below w.heap.size w w' := by
  obtain ⟨R, hR⟩ : ∃ R, R = decide (br = br' ∧ ep = ep' ∧ tp = tp' ∧ pa = pa' ∧ le = le' ∧ cl = cl' ∧ se = se' ∧ co = co') := ⟨_, rfl⟩
  rw [← hR]
  have HR := hide hR
  clear hR
  obtain ⟨X, HX, HQ, HP, HB⟩ := lay2 w [.int .i64 k, .int .i64 br, .int .i64 ep, .int .i64 tp, .int .i64 pa, .int .i64 le, .int .i64 cl, .int .i64 se, .int .i64 co, .bool fl, .string ⟨nm.toArray⟩, .string ⟨ky.toArray⟩, .string ⟨va.toArray⟩, .string ⟨rk.toArray⟩, .slice a14 ids.length c14, .slice a15 isr.length c15, .slice a16 ad.length c16, .slice a17 dr.length c17] [.int .i64 k', .int .i64 br', .int .i64 ep', .int .i64 tp', .int .i64 pa', .int .i64 le', .int .i64 cl', .int .i64 se', .int .i64 co', .bool fl', .string ⟨nm'.toArray⟩, .string ⟨ky'.toArray⟩, .string ⟨va'.toArray⟩, .string ⟨rk'.toArray⟩, .slice b14 ids'.length d14, .slice b15 isr'.length d15, .slice b16 ad'.length d16, .slice b17 dr'.length d17]
  go_enter Tryz.func104, Tryz.ntmps104
  go_upto_region 1 with fail
  show Code.wp _ _ _ _ _
  rw [← HX.out]
  clear HX
  by_cases hne : br = br'
  case neg =>
    have HE : Hid (R = false) := hide (by rw [HR.out]; simp [hne])
    have hn1 : (br == br') = false := by simpa using hne
    have hn2 : (br != br') = true := by simpa using hne
    obtain ⟨g0, g1, g2, g3, g4, g5, g6, g7, g8, g9, g10, g11, g12, g13, g14, g15, g16, g17⟩ := C18.of HQ.out
    obtain ⟨h0, h1, h2, h3, h4, h5, h6, h7, h8, h9, h10, h11, h12, h13, h14, h15, h16, h17⟩ := C18.of HP.out
    go_wp2_with (fail)
    go_ret
    exact ⟨by rw [HE.out]; rfl, HB.out⟩
  subst hne
  by_cases hne : ep = ep'
  case neg =>
    have HE : Hid (R = false) := hide (by rw [HR.out]; simp [hne])
    have hn1 : (ep == ep') = false := by simpa using hne
    have hn2 : (ep != ep') = true := by simpa using hne
    obtain ⟨g0, g1, g2, g3, g4, g5, g6, g7, g8, g9, g10, g11, g12, g13, g14, g15, g16, g17⟩ := C18.of HQ.out
    obtain ⟨h0, h1, h2, h3, h4, h5, h6, h7, h8, h9, h10, h11, h12, h13, h14, h15, h16, h17⟩ := C18.of HP.out
    go_wp2_with (fail)
    go_ret
    exact ⟨by rw [HE.out]; rfl, HB.out⟩
  subst hne
  by_cases hne : tp = tp'
  case neg =>
    have HE : Hid (R = false) := hide (by rw [HR.out]; simp [hne])
    have hn1 : (tp == tp') = false := by simpa using hne
    have hn2 : (tp != tp') = true := by simpa using hne
    obtain ⟨g0, g1, g2, g3, g4, g5, g6, g7, g8, g9, g10, g11, g12, g13, g14, g15, g16, g17⟩ := C18.of HQ.out
    obtain ⟨h0, h1, h2, h3, h4, h5, h6, h7, h8, h9, h10, h11, h12, h13, h14, h15, h16, h17⟩ := C18.of HP.out
    go_wp2_with (fail)
    go_ret
    exact ⟨by rw [HE.out]; rfl, HB.out⟩
  subst hne
  by_cases hne : pa = pa'
  case neg =>
    have HE : Hid (R = false) := hide (by rw [HR.out]; simp [hne])
    have hn1 : (pa == pa') = false := by simpa using hne
    have hn2 : (pa != pa') = true := by simpa using hne
    obtain ⟨g0, g1, g2, g3, g4, g5, g6, g7, g8, g9, g10, g11, g12, g13, g14, g15, g16, g17⟩ := C18.of HQ.out
    obtain ⟨h0, h1, h2, h3, h4, h5, h6, h7, h8, h9, h10, h11, h12, h13, h14, h15, h16, h17⟩ := C18.of HP.out
    go_wp2_with (fail)
    go_ret
    exact ⟨by rw [HE.out]; rfl, HB.out⟩
  subst hne
  by_cases hne : le = le'
  case neg =>
    have HE : Hid (R = false) := hide (by rw [HR.out]; simp [hne])
    have hn1 : (le == le') = false := by simpa using hne
    have hn2 : (le != le') = true := by simpa using hne
    obtain ⟨g0, g1, g2, g3, g4, g5, g6, g7, g8, g9, g10, g11, g12, g13, g14, g15, g16, g17⟩ := C18.of HQ.out
    obtain ⟨h0, h1, h2, h3, h4, h5, h6, h7, h8, h9, h10, h11, h12, h13, h14, h15, h16, h17⟩ := C18.of HP.out
    go_wp2_with (fail)
    go_ret
    exact ⟨by rw [HE.out]; rfl, HB.out⟩
  subst hne
  by_cases hne : cl = cl'
  case neg =>
    have HE : Hid (R = false) := hide (by rw [HR.out]; simp [hne])
    have hn1 : (cl == cl') = false := by simpa using hne
    have hn2 : (cl != cl') = true := by simpa using hne
    obtain ⟨g0, g1, g2, g3, g4, g5, g6, g7, g8, g9, g10, g11, g12, g13, g14, g15, g16, g17⟩ := C18.of HQ.out
    obtain ⟨h0, h1, h2, h3, h4, h5, h6, h7, h8, h9, h10, h11, h12, h13, h14, h15, h16, h17⟩ := C18.of HP.out
    go_wp2_with (fail)
    go_ret
    exact ⟨by rw [HE.out]; rfl, HB.out⟩
  subst hne
  by_cases hne : se = se'
  case neg =>
    have HE : Hid (R = false) := hide (by rw [HR.out]; simp [hne])
    have hn1 : (se == se') = false := by simpa using hne
    have hn2 : (se != se') = true := by simpa using hne
    obtain ⟨g0, g1, g2, g3, g4, g5, g6, g7, g8, g9, g10, g11, g12, g13, g14, g15, g16, g17⟩ := C18.of HQ.out
    obtain ⟨h0, h1, h2, h3, h4, h5, h6, h7, h8, h9, h10, h11, h12, h13, h14, h15, h16, h17⟩ := C18.of HP.out
    go_wp2_with (fail)
    go_ret
    exact ⟨by rw [HE.out]; rfl, HB.out⟩
  subst hne
  by_cases hne : co = co'
  case neg =>
    have HE : Hid (R = false) := hide (by rw [HR.out]; simp [hne])
    have hn1 : (co == co') = false := by simpa using hne
    have hn2 : (co != co') = true := by simpa using hne
    obtain ⟨g0, g1, g2, g3, g4, g5, g6, g7, g8, g9, g10, g11, g12, g13, g14, g15, g16, g17⟩ := C18.of HQ.out
    obtain ⟨h0, h1, h2, h3, h4, h5, h6, h7, h8, h9, h10, h11, h12, h13, h14, h15, h16, h17⟩ := C18.of HP.out
    go_wp2_with (fail)
    go_ret
    exact ⟨by rw [HE.out]; rfl, HB.out⟩
  subst hne
  have HE : Hid (R = true) := hide (by rw [HR.out]; simp)
  obtain ⟨g0, g1, g2, g3, g4, g5, g6, g7, g8, g9, g10, g11, g12, g13, g14, g15, g16, g17⟩ := C18.of HQ.out
  obtain ⟨h0, h1, h2, h3, h4, h5, h6, h7, h8, h9, h10, h11, h12, h13, h14, h15, h16, h17⟩ := C18.of HP.out
  go_wp2_with fail
  go_ret
  exact ⟨by rw [HE.out]; rfl, HB.out⟩
set_option maxRecDepth 100000 in
set_option maxHeartbeats 8000000 in
theorem stxt_any (k br ep tp pa le cl se co k' br' ep' tp' pa' le' cl' se' co' : Int) (fl fl' : Bool) (nm ky va rk nm' ky' va' rk' : List UInt8) (a14 a15 a16 a17 b14 b15 b16 b17 : Option Addr) (c14 c15 c16 c17 d14 d15 d16 d17 : Nat) (ids isr ad dr ids' isr' ad' dr' : List Int) (w : World) :
    Calls Tryz.prog 105 #[.agg #[.int .i64 k, .int .i64 br, .int .i64 ep, .int .i64 tp, .int .i64 pa, .int .i64 le, .int .i64 cl, .int .i64 se, .int .i64 co, .bool fl, .string ⟨nm.toArray⟩, .string ⟨ky.toArray⟩, .string ⟨va.toArray⟩, .string ⟨rk.toArray⟩, .slice a14 ids.length c14, .slice a15 isr.length c15, .slice a16 ad.length c16, .slice a17 dr.length c17], .agg #[.int .i64 k', .int .i64 br', .int .i64 ep', .int .i64 tp', .int .i64 pa', .int .i64 le', .int .i64 cl', .int .i64 se', .int .i64 co', .bool fl', .string ⟨nm'.toArray⟩, .string ⟨ky'.toArray⟩, .string ⟨va'.toArray⟩, .string ⟨rk'.toArray⟩, .slice b14 ids'.length d14, .slice b15 isr'.length d15, .slice b16 ad'.length d16, .slice b17 dr'.length d17]] w fun e w' => e = .returned (.bool (decide (nm = nm' ∧ ky = ky' ∧ va = va' ∧ rk = rk'))) ∧ Below w.heap.size w w' := by
  obtain ⟨R, hR⟩ : ∃ R, R = decide (nm = nm' ∧ ky = ky' ∧ va = va' ∧ rk = rk') := ⟨_, rfl⟩
  rw [← hR]
  have HR := hide hR
  clear hR
  obtain ⟨X, HX, HQ, HP, HB⟩ := lay2 w [.int .i64 k, .int .i64 br, .int .i64 ep, .int .i64 tp, .int .i64 pa, .int .i64 le, .int .i64 cl, .int .i64 se, .int .i64 co, .bool fl, .string ⟨nm.toArray⟩, .string ⟨ky.toArray⟩, .string ⟨va.toArray⟩, .string ⟨rk.toArray⟩, .slice a14 ids.length c14, .slice a15 isr.length c15, .slice a16 ad.length c16, .slice a17 dr.length c17] [.int .i64 k', .int .i64 br', .int .i64 ep', .int .i64 tp', .int .i64 pa', .int .i64 le', .int .i64 cl', .int .i64 se', .int .i64 co', .bool fl', .string ⟨nm'.toArray⟩, .string ⟨ky'.toArray⟩, .string ⟨va'.toArray⟩, .string ⟨rk'.toArray⟩, .slice b14 ids'.length d14, .slice b15 isr'.length d15, .slice b16 ad'.length d16, .slice b17 dr'.length d17]
  go_enter Tryz.func105, Tryz.ntmps105
  go_upto_region 1 with fail
  show Code.wp _ _ _ _ _
  rw [← HX.out]
  clear HX
  by_cases hne : nm = nm'
  case neg =>
    have HE : Hid (R = false) := hide (by rw [HR.out]; simp [hne])
    have hn1 : (nm == nm') = false := by simpa using hne
    have hn2 : (nm != nm') = true := by simpa using hne
    obtain ⟨g0, g1, g2, g3, g4, g5, g6, g7, g8, g9, g10, g11, g12, g13, g14, g15, g16, g17⟩ := C18.of HQ.out
    obtain ⟨h0, h1, h2, h3, h4, h5, h6, h7, h8, h9, h10, h11, h12, h13, h14, h15, h16, h17⟩ := C18.of HP.out
    go_wp2_with (fail)
    go_ret
    exact ⟨by rw [HE.out]; rfl, HB.out⟩
  subst hne
  by_cases hne : ky = ky'
  case neg =>
    have HE : Hid (R = false) := hide (by rw [HR.out]; simp [hne])
    have hn1 : (ky == ky') = false := by simpa using hne
    have hn2 : (ky != ky') = true := by simpa using hne
    obtain ⟨g0, g1, g2, g3, g4, g5, g6, g7, g8, g9, g10, g11, g12, g13, g14, g15, g16, g17⟩ := C18.of HQ.out
    obtain ⟨h0, h1, h2, h3, h4, h5, h6, h7, h8, h9, h10, h11, h12, h13, h14, h15, h16, h17⟩ := C18.of HP.out
    go_wp2_with (fail)
    go_ret
    exact ⟨by rw [HE.out]; rfl, HB.out⟩
  subst hne
  by_cases hne : va = va'
  case neg =>
    have HE : Hid (R = false) := hide (by rw [HR.out]; simp [hne])
    have hn1 : (va == va') = false := by simpa using hne
    have hn2 : (va != va') = true := by simpa using hne
    obtain ⟨g0, g1, g2, g3, g4, g5, g6, g7, g8, g9, g10, g11, g12, g13, g14, g15, g16, g17⟩ := C18.of HQ.out
    obtain ⟨h0, h1, h2, h3, h4, h5, h6, h7, h8, h9, h10, h11, h12, h13, h14, h15, h16, h17⟩ := C18.of HP.out
    go_wp2_with (fail)
    go_ret
    exact ⟨by rw [HE.out]; rfl, HB.out⟩
  subst hne
  by_cases hne : rk = rk'
  case neg =>
    have HE : Hid (R = false) := hide (by rw [HR.out]; simp [hne])
    have hn1 : (rk == rk') = false := by simpa using hne
    have hn2 : (rk != rk') = true := by simpa using hne
    obtain ⟨g0, g1, g2, g3, g4, g5, g6, g7, g8, g9, g10, g11, g12, g13, g14, g15, g16, g17⟩ := C18.of HQ.out
    obtain ⟨h0, h1, h2, h3, h4, h5, h6, h7, h8, h9, h10, h11, h12, h13, h14, h15, h16, h17⟩ := C18.of HP.out
    go_wp2_with (fail)
    go_ret
    exact ⟨by rw [HE.out]; rfl, HB.out⟩
  subst hne
  have HE : Hid (R = true) := hide (by rw [HR.out]; simp)
  obtain ⟨g0, g1, g2, g3, g4, g5, g6, g7, g8, g9, g10, g11, g12, g13, g14, g15, g16, g17⟩ := C18.of HQ.out
  obtain ⟨h0, h1, h2, h3, h4, h5, h6, h7, h8, h9, h10, h11, h12, h13, h14, h15, h16, h17⟩ := C18.of HP.out
  go_wp2_with fail
  go_ret
  exact ⟨by rw [HE.out]; rfl, HB.out⟩
end Go.Proofs.YtkpknkhacmggnaaGreatDoor
