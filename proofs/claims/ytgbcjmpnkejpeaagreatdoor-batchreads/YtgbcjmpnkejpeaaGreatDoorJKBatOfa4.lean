/-
  A BATCH IN NEW MEMORY (batch.Of, batch.Copy). Conditions: the records' cells hold them; no more than a hundred thousand, their rows likewise.
  ROWS OF BATCHES, three cells each, that grow one batch behind the other; records as batches of so many. Condition: fewer than a hundred thousand batches.
  RECORDS AS BATCHES OF SO MANY (batch.Split): what the mathematics says. Conditions: the records' cells hold them, no more than a thousand, their rows are not too long; the base is not too great.
  THE CHAPTER'S EXAMPLE OF A BATCH: it may be, its bytes, and what they are read as. No condition.
-/
import Derived.Test.YtgbcjmpnkejpeaaGreatDoorJKBatCla4
import Derived.Test.YtgbcjmpnkejpeaaGreatDoorJKBatSma2
namespace Go.Proofs.YtgbcjmpnkejpeaaGreatDoor
open Go.RowKit

theorem range_parts {W : World} {g : Nat} {qs : List Rp} {p : Rp} {rs : List Rp} (h1 : W.rangeAt g 0 (rcs qs)) (h2 : W.rangeAt g (qs.length * 18) (cel p)) (h3 : W.rangeAt g ((qs.length + 1) * 18) (rcs rs)) : W.rangeAt g 0 (rcs ((qs ++ [p]) ++ rs)) := fun j u hu => by
  rw [rcs_app, rcs_app, rcs_one] at hu
  rw [Nat.zero_add]
  have l1 := rcs_len qs
  have l2 := cel_len p
  by_cases c1 : j < qs.length * 18
  · rw [List.getElem?_append_left (by rw [List.length_append]; omega), List.getElem?_append_left (by omega)] at hu
    have := h1 j u hu
    rwa [Nat.zero_add] at this
  · by_cases c2 : j < (qs.length + 1) * 18
    · rw [List.getElem?_append_left (by rw [List.length_append]; omega), List.getElem?_append_right (by omega)] at hu
      have := h2 _ u hu
      rwa [show qs.length * 18 + (j - (rcs qs).length) = j by omega] at this
    · rw [List.getElem?_append_right (by rw [List.length_append]; omega), List.length_append] at hu
      have := h3 _ u hu
      rwa [show (qs.length + 1) * 18 + (j - ((rcs qs).length + (cel p).length)) = j by omega] at this
theorem range_left {W : World} {g o : Nat} {qs rs : List Rp} (h : W.rangeAt g o (rcs (qs ++ rs))) : W.rangeAt g o (rcs qs) := fun j u hu => h j u (by
  rw [rcs_app, List.getElem?_append_left (List.getElem?_eq_some_iff.1 hu).1]; exact hu)
theorem range_right {W : World} {g o : Nat} {qs rs : List Rp} (h : W.rangeAt g o (rcs (qs ++ rs))) : W.rangeAt g (o + qs.length * 18) (rcs rs) := fun j u hu => by
  have := h (qs.length * 18 + j) u (by rw [rcs_app, List.getElem?_append_right (by rw [rcs_len]; omega), rcs_len, Nat.add_sub_cancel_left]; exact hu)
  rwa [← Nat.add_assoc] at this
theorem range_cons {W : World} {g o : Nat} {p : Rp} {rs : List Rp} (h : W.rangeAt g o (rcs (p :: rs))) : W.rangeAt g o (cel p) ∧ W.rangeAt g (o + 18) (rcs rs) :=
  ⟨fun j u hu => h j u (by rw [rcs_cons, List.getElem?_append_left (List.getElem?_eq_some_iff.1 hu).1]; exact hu), fun j u hu => by
    have := h (18 + j) u (by rw [rcs_cons, List.getElem?_append_right (by rw [cel_len]; omega), cel_len, Nat.add_sub_cancel_left]; exact hu)
    rwa [← Nat.add_assoc] at this⟩
/-- Records of which the first ones have got rows of their own. -/
structure Ofs (g : Nat) (w Y W : World) (qs ps : List Rp) : Prop where
  rg : W.rangeAt g 0 (rcs (qs ++ ps.drop qs.length))
  fz : ∀ i, W.frozen? ⟨g, i, none⟩ = false
  rw : ∀ q ∈ qs, RwP (fun b => w.heap.size < b ∧ b ≠ g) W q
  rc : rcl qs = (rcl ps).take qs.length
  bx : Bx g Y W
  le : qs.length ≤ ps.length
theorem Ofs.step {g : Nat} {w Y W W' : World} {qs ps : List Rp} {p' : Rp} (h : Ofs g w Y W qs ps) (hlt : qs.length < ps.length) (hY : w.heap.size < Y.heap.size) (hgl : g < Y.heap.size) (hp : p'.1 = ps[qs.length].1) (ho : Ob g (qs.length * 18) W W' p') (hw : RwP (fun b => W.heap.size ≤ b) W' p') : Ofs g w Y W' (qs ++ [p']) ps := by
  have hd : ps.drop qs.length = ps[qs.length] :: ps.drop (qs.length + 1) := List.drop_eq_getElem_cons hlt
  have hrg := h.rg
  rw [hd] at hrg
  have h1 := range_left hrg
  have h2 := (range_cons (range_right hrg)).2
  have hz : w.heap.size < W.heap.size := Nat.lt_of_lt_of_le hY h.bx.size
  have hgW : g < W.heap.size := Nat.lt_of_lt_of_le hgl h.bx.size
  refine ⟨?_, ho.fz, fun q hq => ?_, ?_, h.bx.trans ho.bx, by rw [List.length_append]; exact hlt⟩
  · rw [List.length_append, List.length_singleton]
    refine range_parts (fun j u hu => ?_) ho.rg (fun j u hu => ?_)
    · have hj : j < qs.length * 18 := by have := (List.getElem?_eq_some_iff.1 hu).1; rwa [rcs_len] at this
      rw [ho.out _ (.inl (by omega))]
      exact h1 j u hu
    · rw [ho.out _ (.inr (by omega))]
      have := h2 j u hu
      rwa [show 0 + qs.length * 18 + 18 + j = (qs.length + 1) * 18 + j by omega] at this
  · rcases List.mem_append.1 hq with e | e
    · exact (h.rw q e).imp (fun _ _ k => k) (fun b i hl k => ho.bx.cell hl k.2)
    · simp at e
      subst e
      exact hw.imp (fun b _ k => ⟨by omega, by omega⟩) (fun _ _ _ _ => rfl)
  · have hl : qs.length < (rcl ps).length := by rw [rcl_len]; exact hlt
    rw [List.length_append, List.length_singleton, List.take_succ_eq_append_getElem hl, ← h.rc]
    simp [rcl, hp]
set_option maxRecDepth 100000 in
set_option maxHeartbeats 16000000 in
theorem of_some {ok : Nat → Prop} (t bs : Int) (ao : Option Addr) (cap : Nat) (ps : List Rp) (w : World) (hv : Rl (fun _ => True) ok w (.slice ao ps.length cap) ps) (hn : ps.length ≤ 100000) (hln : ∀ p ∈ ps, LnR p.1) :
    Calls Tryz.prog 26 #[.int .i64 t, .int .i64 bs, .slice ao ps.length cap] w fun e w' => ∃ v, e = .returned v ∧ IsB (fun b => w.heap.size ≤ b) (fun b => w.heap.size ≤ b) w' v ⟨t, bs, rcl ps⟩ ∧ Below w.heap.size w w' := by
  have hb0 : Below w.heap.size w (w.alloc (.cells #[.int .i64 0, .int .i64 0, .slice none 0 0] 48)) := (Below.refl _ _).alloc (Nat.le_refl _) _
  have HC := hide (cloneR_any ao cap ps (w.alloc (.cells #[.int .i64 0, .int .i64 0, .slice none 0 0] 48)) (hv.below hb0) hn)
  have HV := hide hv
  have HL := hide hln
  clear hv hln
  have k0 : (w.alloc (.cells #[.int .i64 0, .int .i64 0, .slice none 0 0] 48)).cell? ⟨w.heap.size, 0, none⟩ = some (.int .i64 0) := by simp
  have k1 : (w.alloc (.cells #[.int .i64 0, .int .i64 0, .slice none 0 0] 48)).cell? ⟨w.heap.size, 1, none⟩ = some (.int .i64 0) := by simp
  have k2 : (w.alloc (.cells #[.int .i64 0, .int .i64 0, .slice none 0 0] 48)).cell? ⟨w.heap.size, 2, none⟩ = some (.slice none 0 0) := by simp
  have kf : ∀ i, (w.alloc (.cells #[.int .i64 0, .int .i64 0, .slice none 0 0] 48)).frozen? ⟨w.heap.size, i, none⟩ = false := fun i => World.frozen?_alloc_at _ _ _ _ (by simp)
  have hs0 : (w.alloc (.cells #[.int .i64 0, .int .i64 0, .slice none 0 0] 48)).heap.size = w.heap.size + 1 := by simp
  have HB0 := hide hb0
  have HK := hide (And.intro k0 (And.intro k1 (And.intro k2 kf)))
  have HS0 := hide hs0
  clear hb0 k0 k1 k2 kf hs0
  go_enter Tryz.func26, Tryz.ntmps26
  go_upto_region 1 with fail
  generalize w.alloc (.cells #[.int .i64 0, .int .i64 0, .slice none 0 0] 48) = X0 at HC HB0 HK HS0 ⊢
  go_upto_region 2 with (first | (go_at_call 65; refine HC.out.mono ?_; rintro e W1 ⟨a', c', rfl, hgr, hb1⟩))
  have HGR := hide hgr
  have HB1 := hide hb1
  clear hgr hb1 HC
  obtain ⟨Y, hY⟩ : ∃ Y, Y = W1.alloc (.cells #[.int .i64 t, .int .i64 bs, .slice a' ps.length c'] 48) := ⟨_, rfl⟩
  have hbY : Below W1.heap.size W1 Y := by rw [hY]; exact (Below.refl _ _).alloc (Nat.le_refl _) _
  have y0 : Y.cell? ⟨W1.heap.size, 0, none⟩ = some (.int .i64 t) := by rw [hY]; simp
  have y1 : Y.cell? ⟨W1.heap.size, 1, none⟩ = some (.int .i64 bs) := by rw [hY]; simp
  have y2 : Y.cell? ⟨W1.heap.size, 2, none⟩ = some (.slice a' ps.length c') := by rw [hY]; simp
  have hb01 := HB1.out.trans (hbY.mono HB1.out.size)
  have hz : w.heap.size < X0.heap.size := by rw [HS0.out]; omega
  have hz1 : X0.heap.size ≤ W1.heap.size := HB1.out.size
  have HBY := hide (HB0.out.trans (hb01.mono (by omega)))
  have x0 : Y.cell? ⟨w.heap.size, 0, none⟩ = some (.int .i64 0) := (hb01.cell (p := ⟨w.heap.size, 0, none⟩) hz).trans HK.out.1
  have x1 : Y.cell? ⟨w.heap.size, 1, none⟩ = some (.int .i64 0) := (hb01.cell (p := ⟨w.heap.size, 1, none⟩) hz).trans HK.out.2.1
  have x2 : Y.cell? ⟨w.heap.size, 2, none⟩ = some (.slice none 0 0) := (hb01.cell (p := ⟨w.heap.size, 2, none⟩) hz).trans HK.out.2.2.1
  have xf : ∀ i, Y.frozen? ⟨w.heap.size, i, none⟩ = false := fun i => (hb01.frozen (p := ⟨w.heap.size, i, none⟩) hz).trans (HK.out.2.2.2 i)
  rw [← hY]
  have HGY : Hid (0 < ps.length → ∃ g, a' = some ⟨g, 0, none⟩ ∧ ps.length ≤ c' ∧ w.heap.size < g ∧ g < W1.heap.size ∧ Y.rangeAt g 0 (rcs ps) ∧ ∀ i, Y.frozen? ⟨g, i, none⟩ = false) := hide (fun h => by
    obtain ⟨g, e1, e2, e3, e4, e5, e6⟩ := HGR.out h
    exact ⟨g, e1, e2, by omega, e4, range_bel e5 hbY, fun i => (hbY.frozen (p := ⟨g, i, none⟩) e4).trans (e6 i)⟩)
  have hyl : W1.heap.size < Y.heap.size := cell_block y0
  clear hY hbY hb01 HGR HB1 HB0 HK HS0
  have hgz : w.heap.size < W1.heap.size := by omega
  clear hz hz1
  clear X0
  generalize W1.heap.size = D at *
  clear W1
  by_cases h0 : 0 < ps.length
  case neg =>
    have e : ps = [] := List.length_eq_zero_iff.1 (by omega)
    subst e
    have xf0 := xf 0
    have xf1 := xf 1
    have xf2 := xf 2
    simp only [List.length_nil] at *
    go_wp2_with fail
    refine wp_loop_rounds 1 ?_
    rw [rounds_succ]
    go_wp2_with fail
    exact bodyPost_ret (v := .agg #[.int .i64 t, .int .i64 bs, .slice a' 0 c']) (by simp [results, Tryz.results26, go_sem, x0, x1, x2]) rfl ⟨_, rfl, ⟨_, [], rfl, Rl.nil _ _ _ _ _, rfl⟩, ((HBY.out.setCell (by exact Nat.le_refl _) _).setCell (by exact Nat.le_refl _) _).setCell (by exact Nat.le_refl _) _⟩
  obtain ⟨g, rfl, hc', hg1, hg2, hg3, hg4⟩ := HGY.out h0
  clear HGY
  have HO : Hid (Ofs g w Y Y [] ps) := hide ⟨hg3, hg4, fun q hq => by simp at hq, by simp [rcl], Bx.refl _ _, Nat.zero_le _⟩
  have HX : Hid (Y.cell? ⟨w.heap.size, 0, none⟩ = some (.int .i64 0) ∧ Y.cell? ⟨w.heap.size, 1, none⟩ = some (.int .i64 0) ∧ Y.cell? ⟨w.heap.size, 2, none⟩ = some (.slice none 0 0) ∧ ∀ i, Y.frozen? ⟨w.heap.size, i, none⟩ = false) := hide ⟨x0, x1, x2, xf⟩
  have HYY : Hid (Y.cell? ⟨D, 0, none⟩ = some (.int .i64 t) ∧ Y.cell? ⟨D, 1, none⟩ = some (.int .i64 bs) ∧ Y.cell? ⟨D, 2, none⟩ = some (.slice (some ⟨g, 0, none⟩) ps.length c')) := hide ⟨y0, y1, y2⟩
  clear hg3 hg4 x0 x1 x2 xf y0 y1
  go_wp2_with fail
  clear y2
  go_loopw [17] (fun i wr => ∃ qs : List Rp, i = .int .i64 (qs.length : Int) ∧ Ofs g w Y wr qs ps) (fun i _ => ps.length - (intOf i).toNat)
  case atStart => exact ⟨[], rfl, HO.out⟩
  case round =>
    obtain ⟨qs, rfl, ho⟩ := hrel
    clear HO
    have HO := hide ho
    clear ho
    have y2 : wr.cell? ⟨D, 2, none⟩ = some (.slice (some ⟨g, 0, none⟩) ps.length c') := (HO.out.bx.cell hyl (by omega)).trans HYY.out.2.2
    by_cases hlt : qs.length < ps.length
    · have hltI : (qs.length : Int) < (ps.length : Int) := by omega
      have hcc : qs.length < c' := by omega
      have hd : ps.drop qs.length = ps[qs.length] :: ps.drop (qs.length + 1) := List.drop_eq_getElem_cons hlt
      have hrg := HO.out.rg
      rw [hd] at hrg
      have hr1 := (range_cons (range_right hrg)).1
      rw [Nat.zero_add] at hr1
      have HC := hide (own_any g (qs.length * 18) ps[qs.length] wr hr1 HO.out.fz ((HV.out.2 _ (List.getElem_mem hlt)).imp (fun b hl _ => by omega) (fun b i hl _ => by
        rw [HO.out.bx.cell (by have := HBY.out.size; omega) (by omega)]
        exact HBY.out.cell (p := ⟨b, i, none⟩) hl)) (HL.out _ (List.getElem_mem hlt)))
      have HST := hide (fun (W' : World) (p' : Rp) (h1 : p'.1 = ps[qs.length].1) h2 h3 => HO.out.step (W' := W') (p' := p') hlt (by omega) (by omega) h1 h2 h3)
      clear hd hrg hr1
      generalize ps[qs.length] = p at *
      go_wp2_with (first | (go_at_call 66; refine HC.out.mono ?_; rintro e w2 ⟨rfl, p', e1, e2, e3⟩; have HO2 := hide (HST.out w2 p' e1 e2 e3); clear e1 e2 e3))
      go_roundw
      case rel => exact ⟨qs ++ [p'], by simp, HO2.out⟩
      case measure => simp [intOf]; omega
    · have hge : ¬ (qs.length : Int) < (ps.length : Int) := by omega
      have hql : qs.length = ps.length := by have := HO.out.le; omega
      have x0 := (HO.out.bx.cell (i := 0) (show w.heap.size < Y.heap.size by omega) (by omega)).trans HX.out.1
      have x1 := (HO.out.bx.cell (i := 1) (show w.heap.size < Y.heap.size by omega) (by omega)).trans HX.out.2.1
      have x2 := (HO.out.bx.cell (i := 2) (show w.heap.size < Y.heap.size by omega) (by omega)).trans HX.out.2.2.1
      have xf : ∀ i, wr.frozen? ⟨w.heap.size, i, none⟩ = false := fun i => (HO.out.bx.frozen (show w.heap.size < Y.heap.size by omega) (by omega)).trans (HX.out.2.2.2 i)
      have xf0 := xf 0
      have xf1 := xf 1
      have xf2 := xf 2
      have y0 := (HO.out.bx.cell (i := 0) hyl (by omega)).trans HYY.out.1
      have y1 := (HO.out.bx.cell (i := 1) hyl (by omega)).trans HYY.out.2.1
      have HR : Hid (Rl (fun b => w.heap.size ≤ b) (fun b => w.heap.size ≤ b) (((wr.setCell ⟨w.heap.size, 0, none⟩ (.int .i64 t)).setCell ⟨w.heap.size, 1, none⟩ (.int .i64 bs)).setCell ⟨w.heap.size, 2, none⟩ (.slice (some ⟨g, 0, none⟩) ps.length c')) (.slice (some ⟨g, 0, none⟩) ps.length c') qs) := hide (by
        have hrg := HO.out.rg
        rw [hql, List.drop_length, List.append_nil] at hrg
        have hcell : ∀ b i, b ≠ w.heap.size → (((wr.setCell ⟨w.heap.size, 0, none⟩ (.int .i64 t)).setCell ⟨w.heap.size, 1, none⟩ (.int .i64 bs)).setCell ⟨w.heap.size, 2, none⟩ (.slice (some ⟨g, 0, none⟩) ps.length c')).cell? ⟨b, i, none⟩ = wr.cell? ⟨b, i, none⟩ := fun b i hb => by
          iterate 3 rw [World.cell?_setCell_other _ _ _ _ (fun e => hb (congrArg Addr.block e).symm)]
        exact ⟨.inr ⟨g, 0, c', by rw [hql], by omega, by omega, by omega, range_imp hrg (fun i _ => hcell g i (by omega))⟩, fun q hq => (HO.out.rw q hq).imp (fun b _ k => by have := k.1; omega) (fun b i _ k => hcell b i (by have := k.1; omega))⟩)
      have HRC : Hid (rcl qs = rcl ps) := hide (by rw [HO.out.rc, hql, ← rcl_len, List.take_length])
      have HBW : Hid (Below w.heap.size w wr) := hide (below_bx HBY.out HO.out.bx (by omega) HBY.out.size)
      clear HO HX HYY HV HL
      go_wp2_with fail
      exact bodyPost_ret (v := .agg #[.int .i64 t, .int .i64 bs, .slice (some ⟨g, 0, none⟩) ps.length c']) (by simp [results, Tryz.results26, go_sem, x0, x1, x2]) rfl ⟨_, rfl, ⟨_, qs, rfl, HR.out, HRC.out⟩, ((HBW.out.setCell (by exact Nat.le_refl _) _).setCell (by exact Nat.le_refl _) _).setCell (by exact Nat.le_refl _) _⟩
theorem of_any {okb ok : Nat → Prop} (t bs : Int) (u : Value) (ps : List Rp) (w : World) (hv : Rl okb ok w u ps) (hn : ps.length ≤ 100000) (hln : ∀ p ∈ ps, LnR p.1) :
    Calls Tryz.prog 26 #[.int .i64 t, .int .i64 bs, u] w fun e w' => ∃ v, e = .returned v ∧ IsB (fun b => w.heap.size ≤ b) (fun b => w.heap.size ≤ b) w' v ⟨t, bs, rcl ps⟩ ∧ Below w.heap.size w w' := by
  obtain ⟨ao, cap, rfl⟩ := hv.form
  exact of_some t bs ao cap ps w (hv.imp (fun _ _ _ => trivial) (fun _ _ q => q) (fun _ _ _ _ => rfl)) hn hln
set_option maxRecDepth 100000 in
set_option maxHeartbeats 16000000 in
theorem copy_go (t bs : Int) (ao : Option Addr) (n cap : Nat) (w : World) (Q : Value → World → Prop) (HC : Hid (∀ W, Below w.heap.size w W → w.heap.size + 2 ≤ W.heap.size → Calls Tryz.prog 26 #[.int .i64 t, .int .i64 bs, .slice ao n cap] W fun e w' => ∃ a c, e = .returned (.agg #[.int .i64 t, .int .i64 bs, .slice a n c]) ∧ Q (.agg #[.int .i64 t, .int .i64 bs, .slice a n c]) w' ∧ Below W.heap.size W w')) :
    Calls Tryz.prog 25 #[.agg #[.int .i64 t, .int .i64 bs, .slice ao n cap]] w fun e w' => ∃ v w1, e = .returned v ∧ Q v w1 ∧ w.heap.size + 2 ≤ w1.heap.size ∧ Below w.heap.size w w1 ∧ (∀ b i, b ≠ w.heap.size + 1 → w'.cell? ⟨b, i, none⟩ = w1.cell? ⟨b, i, none⟩) ∧ Below w.heap.size w w' := by
  have hb : Below w.heap.size w ((w.alloc (.cells #[.int .i64 t, .int .i64 bs, .slice ao n cap] 48)).alloc (.cells #[.int .i64 0, .int .i64 0, .slice none 0 0] 48)) := ((Below.refl _ _).alloc (Nat.le_refl _) _).alloc (by simp) _
  have HB := hide hb
  have hs : ((w.alloc (.cells #[.int .i64 t, .int .i64 bs, .slice ao n cap] 48)).alloc (.cells #[.int .i64 0, .int .i64 0, .slice none 0 0] 48)).heap.size = w.heap.size + 2 := by simp
  have HK : Hid (∀ W, Below ((w.alloc (.cells #[.int .i64 t, .int .i64 bs, .slice ao n cap] 48)).alloc (.cells #[.int .i64 0, .int .i64 0, .slice none 0 0] 48)).heap.size ((w.alloc (.cells #[.int .i64 t, .int .i64 bs, .slice ao n cap] 48)).alloc (.cells #[.int .i64 0, .int .i64 0, .slice none 0 0] 48)) W → (W.cell? ⟨w.heap.size + 1, 0, none⟩ = some (.int .i64 0) ∧ W.cell? ⟨w.heap.size + 1, 1, none⟩ = some (.int .i64 0) ∧ W.cell? ⟨w.heap.size + 1, 2, none⟩ = some (.slice none 0 0)) ∧ ∀ i, W.frozen? ⟨w.heap.size + 1, i, none⟩ = false) := hide (fun W h => by
    have hc : ∀ i, W.cell? ⟨w.heap.size + 1, i, none⟩ = _ := fun i => h.cell (p := ⟨w.heap.size + 1, i, none⟩) (by rw [hs]; show w.heap.size + 1 < _; omega)
    have hf : ∀ i, W.frozen? ⟨w.heap.size + 1, i, none⟩ = _ := fun i => h.frozen (p := ⟨w.heap.size + 1, i, none⟩) (by rw [hs]; show w.heap.size + 1 < _; omega)
    exact ⟨⟨by rw [hc]; simp, by rw [hc]; simp, by rw [hc]; simp⟩, fun i => by rw [hf]; exact World.frozen?_alloc_at _ _ _ _ (by simp)⟩)
  have HC2 := hide (HC.out _ hb (by rw [hs]; exact Nat.le_refl _))
  have HS := hide hs
  clear hb HC hs
  go_enter Tryz.func25, Tryz.ntmps25
  go_wp2_with (first | (go_at_call 26; refine HC2.out.mono ?_; rintro e W1 ⟨a1, c1, rfl, hq, hb1⟩; obtain ⟨⟨k0, k1, k2⟩, kf⟩ := HK.out W1 hb1; have kf0 := kf 0; have kf1 := kf 1; have kf2 := kf 2; have HQ := hide hq; have HB1 := hide (HB.out.trans (hb1.mono HB.out.size)); have HZ : Hid (w.heap.size + 2 ≤ W1.heap.size) := hide (by rw [← HS.out]; exact hb1.size); clear hq hb1 kf))
  exact bodyPost_ret (v := .agg #[.int .i64 t, .int .i64 bs, .slice a1 n c1]) (by simp [results, Tryz.results25, go_sem, k0, k1, k2]) rfl ⟨_, W1, rfl, HQ.out, HZ.out, HB1.out, fun b i hb => by iterate 3 rw [World.cell?_setCell_other _ _ _ _ (fun e => hb (congrArg Addr.block e).symm)], ((HB1.out.setCell (by exact Nat.le_succ _) _).setCell (by exact Nat.le_succ _) _).setCell (by exact Nat.le_succ _) _⟩
theorem copy_any {okb ok : Nat → Prop} (x : Bt) (v : Value) (w : World) (hv : IsB okb ok w v x) (hn : x.rs.length ≤ 100000) (hln : ∀ r ∈ x.rs, LnR r) : Calls Tryz.prog 25 #[v] w fun e w' => ∃ u, e = .returned u ∧ IsB (fun b => w.heap.size ≤ b) (fun b => w.heap.size ≤ b) w' u x ∧ Below w.heap.size w w' := by
  obtain ⟨t, b, rs⟩ := x
  obtain ⟨a1, ps, rfl, h2, h3⟩ := hv
  simp only at h3 hn hln
  subst h3
  obtain ⟨ao, cap, rfl⟩ := h2.form
  refine (copy_go t b ao ps.length cap w (fun v W => IsB (fun b => w.heap.size + 2 ≤ b) (fun b => w.heap.size + 2 ≤ b) W v ⟨t, b, rcl ps⟩) (hide fun W h hz => ?_)).mono ?_
  · refine (of_any t b _ ps W (h2.below h) (by rwa [rcl_len] at hn) (fun p hp => hln p.1 (List.mem_map.2 ⟨p, hp, rfl⟩))).mono ?_
    rintro e w' ⟨v, rfl, k1, k2⟩
    have k3 := k1
    obtain ⟨u, qs, rfl, k4, k5⟩ := k1
    obtain ⟨a, c, rfl⟩ := k4.form
    have hl : qs.length = ps.length := by rw [← rcl_len, ← rcl_len, k5]
    rw [hl] at k3 ⊢
    exact ⟨a, c, rfl, k3.imp (fun b _ q => by omega) (fun b _ q => by omega) (fun _ _ _ _ => rfl), k2⟩
  · rintro e w' ⟨v, w1, rfl, h4, h5, h6, h7, h8⟩
    exact ⟨v, rfl, h4.imp (fun b _ q => by omega) (fun b _ q => by omega) (fun b i _ q => h7 b i (by omega)), h8⟩
end Go.Proofs.YtgbcjmpnkejpeaaGreatDoor
namespace Go.Proofs.YtgbcjmpnkejpeaaGreatDoor
open Go.RowKit

/-- A batch in its cells: its term, its base, its slice, and the records in it. -/
structure Bq where
  t : Int
  b : Int
  u : Value
  ps : List Rp
def bce (q : Bq) : List Value := [.int .i64 q.t, .int .i64 q.b, q.u]
def bcs (qs : List Bq) : List Value := qs.flatMap bce
def btq (q : Bq) : Bt := ⟨q.t, q.b, rcl q.ps⟩
def bts (qs : List Bq) : List Bt := qs.map btq
theorem bcs_app (a c : List Bq) : bcs (a ++ c) = bcs a ++ bcs c := by unfold bcs; exact List.flatMap_append
theorem bcs_one (q : Bq) : bcs [q] = bce q := by simp [bcs]
theorem infoBt : (Tryz.prog.info? 48).map (fun i => (i.zero, i.size, i.bytes)) = some (some (.agg #[.int .i64 0, .int .i64 0, .slice none 0 0]), 3, 40) := by kernel_rfl
theorem run_append_bt (w : World) (ty : TypeId) (C : Nat) (v : Value) (n : Nat) (xs : List Value) (hown : w.ownsRow C 48 3 v n xs) (hB : C ≤ w.heap.size) (ad : Addr) (c : Nat) (news : List Value) (hl : news.length = 3)
    (hnews : ∀ j u, news[j]? = some u → w.cell? (ad.add j) = some u) (h1 : ∀ u ∈ news, u.oneCell' = true) (hn : n + 1 ≤ 100000) :
    ∃ v' w', (Builtin.append_ #[74, 74] ty #[v, .slice (some ad) 1 c]).run Tryz.prog w = .ok v' w' ∧ w'.ownsRow C 48 3 v' (n + 1) (xs ++ news) ∧ w.grownBy w' v.ownBlock ∧ (v'.ownBlock = v.ownBlock ∨ v'.ownBlock = some w.heap.size) := by
  obtain ⟨i0, hi, hz0, hz1, hz2⟩ := info_parts infoBt
  obtain ⟨v', w', e, ho, hg, _, hb⟩ := run_append_own_at (P := Tryz.prog) w C 74 ty 48 i0 (.agg #[.int .i64 0, .int .i64 0, .slice none 0 0]) 3 40 Tryz.underlying74 hi hz0 hz1 hz2 rfl (by decide) v n xs hown ad 1 c news (by omega) hnews h1 (by unfold maxLen; omega) (by omega) hB
  exact ⟨v', w', e, ho, hg, hb⟩
theorem wpList_append_bt (w : World) {ops : Array Oper} {rest : List Oper} {o : Oper} {a : Act} {Q : Exit → Act → World → Prop} (hgd : o.guard = none) (s x : Operand)
    (ho : o.op = .call { callee := .builtin .append, args := #[s, x], argTypes := #[74, 74] }) (C : Nat) (u : Value) (n : Nat) (xs : List Value) (hs : a.eval s = u) (hown : w.ownsRow C 48 3 u n xs) (hB : C ≤ w.heap.size) (ad : Addr) (c : Nat) (news : List Value)
    (hx : a.eval x = .slice (some ad) 1 c) (hl : news.length = 3) (hnews : ∀ j u, news[j]? = some u → w.cell? (ad.add j) = some u) (h1 : ∀ u ∈ news, u.oneCell' = true) (hn : n + 1 ≤ 100000)
    (h : ∀ w' v', w'.ownsRow C 48 3 v' (n + 1) (xs ++ news) → w.grownBy w' u.ownBlock → (v'.ownBlock = u.ownBlock ∨ v'.ownBlock = some w.heap.size) → wpList Tryz.prog ops Q rest (a.put o.dst v') w') : wpList Tryz.prog ops Q (o :: rest) a w := by
  refine wpList_plain hgd fun K hK => ?_
  obtain ⟨v', w', hrun, q1, q2, q3⟩ := run_append_bt w o.type C u n xs hown hB ad c news hl hnews h1 hn
  unfold Oper.wp
  simp [execOp, ho, resolve, invoke, builtin, hs, hx, hrun, Result.andThen]
  exact hK _ _ (h w' v' q1 q2 q3)
/-- A row of batches that is written on: all that was there stays. -/
structure Sx (w W : World) (y : Value) (qs : List Bq) : Prop where
  own : W.ownsRow w.heap.size 48 3 y qs.length (bcs qs)
  el : ∀ q ∈ qs, Rl (fun k => w.heap.size ≤ k ∧ y.ownBlock ≠ some k) (fun k => w.heap.size ≤ k ∧ y.ownBlock ≠ some k) W q.u q.ps
  be : Below w.heap.size w W
section
variable {w W W' : World} {y y' : Value} {qs : List Bq}
theorem Sx.below (h : Sx w W y qs) (hb : Below W.heap.size W W') : Sx w W' y qs :=
  ⟨owns_below h.own hb, fun q hq => (h.el q hq).below hb, h.be.trans (hb.mono h.be.size)⟩
theorem Sx.ob (h : Sx w W y qs) : ∀ g, y.ownBlock = some g → w.heap.size ≤ g ∧ g < W.heap.size := fun g hg => h.own.lt g hg
theorem sx_new (w : World) : Sx w w (.slice none 0 0) [] := ⟨World.ownsRow_nil _ _ _ _, fun q hq => by simp at hq, Below.refl _ _⟩
theorem Sx.app (h : Sx w W y qs) {q : Bq} (hq : Rl (fun k => w.heap.size ≤ k ∧ y.ownBlock ≠ some k) (fun k => w.heap.size ≤ k ∧ y.ownBlock ≠ some k) W q.u q.ps) (ho : W'.ownsRow w.heap.size 48 3 y' (qs.length + 1) (bcs qs ++ bce q)) (hg : W.grownBy W' y.ownBlock) (hu : y'.ownBlock = y.ownBlock ∨ y'.ownBlock = some W.heap.size) : Sx w W' y' (qs ++ [q]) := by
  have hc : ∀ k i, k < W.heap.size → y.ownBlock ≠ some k → W'.cell? ⟨k, i, none⟩ = W.cell? ⟨k, i, none⟩ := fun k i hk hn => World.cell?_of_block (hg.block k hk (fun e => hn e.symm))
  have hk : ∀ k, k < W.heap.size → w.heap.size ≤ k ∧ y.ownBlock ≠ some k → w.heap.size ≤ k ∧ y'.ownBlock ≠ some k := fun k hl hk => ⟨hk.1, by
    rcases hu with e | e
    · rw [e]; exact hk.2
    · rw [e]; intro q; cases q; omega⟩
  have hrow : ∀ r : Bq, Rl (fun k => w.heap.size ≤ k ∧ y.ownBlock ≠ some k) (fun k => w.heap.size ≤ k ∧ y.ownBlock ≠ some k) W r.u r.ps → Rl (fun k => w.heap.size ≤ k ∧ y'.ownBlock ≠ some k) (fun k => w.heap.size ≤ k ∧ y'.ownBlock ≠ some k) W' r.u r.ps := fun r hr => hr.imp hk hk (fun k i hl hk => hc k i hl (by rcases hk with q | q; (exact q.2); (exact q.2)))
  refine ⟨by rw [bcs_app, bcs_one, List.length_append]; exact ho, fun r hr => ?_, ⟨hg.os.trans h.be.os, hg.tape.trans h.be.tape, hg.output.trans h.be.output, Nat.le_trans h.be.size hg.size, fun k hk => (hg.block k (by have := h.be.size; omega) (fun e => by have := (h.ob k e.symm).1; omega)).trans (h.be.block k hk)⟩⟩
  rcases List.mem_append.1 hr with e | e
  · exact hrow r (h.el r e)
  · simp at e; subst e; exact hrow r hq
end
/-- The slice v holds the batches qs. -/
def Bl (W : World) (v : Value) (qs : List Bq) : Prop :=
  ((∃ ao cap, qs = [] ∧ v = .slice ao 0 cap) ∨ (∃ b o cap, v = .slice (some ⟨b, o, none⟩) qs.length cap ∧ qs.length ≤ cap ∧ 0 < qs.length ∧ W.rangeAt b o (bcs qs))) ∧ ∀ q ∈ qs, Rl (fun _ => True) (fun _ => True) W q.u q.ps
theorem Bl.below {W W' : World} {v : Value} {qs : List Bq} (h : Bl W v qs) (hb : Below W.heap.size W W') : Bl W' v qs := by
  refine ⟨?_, fun q hq => (h.2 q hq).below hb⟩
  rcases h.1 with h1 | ⟨b, o, cap, h1, h2, h3, h4⟩
  · exact .inl h1
  · exact .inr ⟨b, o, cap, h1, h2, h3, range_bel h4 hb⟩
theorem Bl.form {W : World} {v : Value} {qs : List Bq} (h : Bl W v qs) : ∃ ao cap, v = .slice ao qs.length cap := by
  rcases h.1 with ⟨ao, cap, rfl, rfl⟩ | ⟨b, o, cap, rfl, _⟩ <;> exact ⟨_, _, rfl⟩
theorem Sx.bl {w W : World} {y : Value} {qs : List Bq} (h : Sx w W y qs) : Bl W y qs := by
  refine ⟨?_, fun q hq => (h.el q hq).any⟩
  by_cases h0 : 0 < qs.length
  · obtain ⟨g, cap, rfl, _, e2, _, e4, _⟩ := owns_range h.own h0
    exact .inr ⟨g, 0, cap, rfl, e2, h0, e4⟩
  · have e : qs = [] := List.length_eq_zero_iff.1 (by omega)
    subst e
    rcases h.own.2 with ⟨rfl, _⟩ | ⟨g, cap, cur, rfl, _⟩ <;> exact .inl ⟨_, _, rfl, rfl⟩
theorem Sx.form {w W : World} {y : Value} {qs : List Bq} (h : Sx w W y qs) : ∃ ao cap, y = .slice ao qs.length cap := h.bl.form
/-- The k-th of so many records. -/
def chunk {α : Type} (m k : Nat) (l : List α) : List α := (l.drop (k * m)).take m
/-- Records as batches of m, the first k of them. -/
def splitK (t b : Int) (m k : Nat) (rs : List Rc) : List Bt := (List.range k).map fun (i : Nat) => ⟨t, b + (i : Int), chunk m i rs⟩
theorem splitK_succ (t b : Int) (m k : Nat) (rs : List Rc) : splitK t b m (k + 1) rs = splitK t b m k rs ++ [⟨t, b + (k : Int), chunk m k rs⟩] := by
  unfold splitK
  rw [List.range_succ, List.map_append]
  rfl
theorem chunk_map {α β : Type} (f : α → β) (m k : Nat) (l : List α) : chunk m k (l.map f) = (chunk m k l).map f := by
  unfold chunk
  rw [← List.map_drop, ← List.map_take]
theorem Rl.drop {okb ok : Nat → Prop} {W : World} {b o cap : Nat} {ps : List Rp} (h : Rl okb ok W (.slice (some ⟨b, o, none⟩) ps.length cap) ps) (j : Nat) (hj : j < ps.length) : Rl okb ok W (.slice (some ⟨b, o + j * 18, none⟩) (ps.length - j) (cap - j)) (ps.drop j) := by
  refine ⟨.inr ?_, fun p hp => h.2 p (List.mem_of_mem_drop hp)⟩
  rcases h.1 with ⟨_, _, e, _⟩ | ⟨b', o', c', e, h2, h3, h4, h5⟩
  · subst e; simp at hj
  · cases e
    refine ⟨b, o + j * 18, cap - j, by rw [List.length_drop], by rw [List.length_drop]; omega, h3, by rw [List.length_drop]; omega, ?_⟩
    have hr := h5
    rw [← List.take_append_drop j ps] at hr
    have := range_right hr
    rwa [List.length_take, Nat.min_eq_left (by omega)] at this
theorem Rl.take {okb ok : Nat → Prop} {W : World} {b o n cap : Nat} {ps : List Rp} (h : Rl okb ok W (.slice (some ⟨b, o, none⟩) n cap) ps) (hn : n = ps.length) (m : Nat) (hm : 0 < m) (hle : m ≤ ps.length) : Rl okb ok W (.slice (some ⟨b, o, none⟩) m cap) (ps.take m) := by
  subst hn
  refine ⟨.inr ?_, fun p hp => h.2 p (List.mem_of_mem_take hp)⟩
  rcases h.1 with ⟨_, _, e, _⟩ | ⟨b', o', c', e, h2, h3, h4, h5⟩
  · subst e; simp at hle; omega
  · cases e
    have hl : (ps.take m).length = m := by rw [List.length_take]; omega
    refine ⟨b, o, cap, by rw [hl], by omega, h3, by omega, ?_⟩
    have hr := h5
    rw [← List.take_append_drop m ps] at hr
    exact range_left hr
end Go.Proofs.YtgbcjmpnkejpeaaGreatDoor
namespace Go.Proofs.YtgbcjmpnkejpeaaGreatDoor
open Go.RowKit

set_option maxRecDepth 100000 in
set_option maxHeartbeats 4000000 in
theorem split_few (t bs most : Int) (u : Value) (w : World) (hm : most < 1) : Calls Tryz.prog 36 #[.int .i64 t, .int .i64 bs, .int .i64 most, u] w fun e w' => e = .returned (.slice none 0 0) ∧ Below w.heap.size w w' := by
  go_enter Tryz.func36, Tryz.ntmps36
  go_wp2_with fail
  go_ret
  exact ⟨rfl, Below.refl _ _⟩
set_option maxRecDepth 100000 in
set_option maxHeartbeats 4000000 in
theorem split_none (t bs most : Int) (ao : Option Addr) (cap : Nat) (w : World) (hm : ¬ most < 1) : Calls Tryz.prog 36 #[.int .i64 t, .int .i64 bs, .int .i64 most, .slice ao 0 cap] w fun e w' => e = .returned (.slice none 0 0) ∧ Below w.heap.size w w' := by
  go_enter Tryz.func36, Tryz.ntmps36
  go_wp2_with fail
  refine wp_loop_rounds 1 ?_
  rw [rounds_succ]
  go_wp2_with fail
  go_ret
  exact ⟨rfl, Below.refl _ _⟩
theorem fromR (a : Addr) (L C n : Nat) (h1 : n ≤ L) (W : World) : (Instr.slice 46 (.slice (some a) L C) (some (.int .i64 (n : Int))) none none).run Tryz.prog W = .ok (.slice (if C = n then some a else some (a.add (n * 18))) (L - n) (C - n)) W := by
  have g1 : (n : Int) ≤ (L : Int) := by omega
  simp [Instr.slice, go_sem, g1]
theorem uptoR (a : Addr) (L C n : Nat) (h1 : n ≤ C) (W : World) : (Instr.slice 46 (.slice (some a) L C) none (some (.int .i64 (n : Int))) none).run Tryz.prog W = .ok (.slice (some a) n C) W := by
  have g1 : (n : Int) ≤ (C : Int) := by omega
  simp [Instr.slice, go_sem, g1]
set_option maxRecDepth 100000 in
set_option maxHeartbeats 16000000 in
theorem split_some {ok : Nat → Prop} (t bs : Int) (m : Nat) (b o cap : Nat) (ps : List Rp) (w : World) (hm : 1 ≤ m) (hm2 : (m : Int) ≤ 9223372036854775807) (hb1 : -4611686018427387904 ≤ bs) (hb2 : bs ≤ 4611686018427387904) (hv : Rl (fun _ => True) ok w (.slice (some ⟨b, o, none⟩) ps.length cap) ps) (hn : ps.length ≤ 1000) (hn0 : 0 < ps.length) (hln : ∀ p ∈ ps, LnR p.1) :
    Calls Tryz.prog 36 #[.int .i64 t, .int .i64 bs, .int .i64 m, .slice (some ⟨b, o, none⟩) ps.length cap] w fun e w' => ∃ y qs k, e = .returned y ∧ Bl w' y qs ∧ bts qs = splitK t bs m k (rcl ps) ∧ (k * m < ps.length + m ∧ ps.length ≤ k * m) ∧ Below w.heap.size w w' := by
  have hmI : ¬ (m : Int) < 1 := by omega
  have hcap : ps.length ≤ cap := by
    rcases hv.1 with ⟨_, _, e, _⟩ | ⟨_, _, _, e, h2, _⟩
    · subst e; simp
    · cases e; exact h2
  have HV := hide hv
  have HL := hide hln
  clear hv hln
  have HS := hide (sx_new w)
  go_enter Tryz.func36, Tryz.ntmps36
  go_wp2_with fail
  go_loopw [3, 9] (fun lv y wr => ∃ (k : Nat) (qs : List Bq), Sx w wr y qs ∧ qs.length = k ∧ bts qs = splitK t bs m k (rcl ps) ∧ ((k * m < ps.length ∧ lv = .slice (some ⟨b, o + k * m * 18, none⟩) (ps.length - k * m) (cap - k * m)) ∨ (ps.length ≤ k * m ∧ k * m < ps.length + m ∧ ∃ ao c, lv = .slice ao 0 c))) (fun lv _ _ => match lv with | .slice _ n _ => n | _ => 0)
  case atStart => exact ⟨0, [], HS.out, rfl, rfl, .inl ⟨by omega, by simp⟩⟩
  case round =>
    obtain ⟨k, qs, hsx, hql, hbt, hcase⟩ := hrel
    clear HS
    have HS := hide hsx
    have HBT := hide hbt
    have HQL := hide hql
    clear hsx hbt hql
    rcases hcase with ⟨hlt, rfl⟩ | ⟨hge, hge2, ao, c, rfl⟩
    · have HR := hide (HV.out.drop (k * m) hlt)
      have hkm : (k + 1) * m = k * m + m := by rw [Nat.add_mul, Nat.one_mul]
      have hdl : (ps.drop (k * m)).length = ps.length - k * m := List.length_drop
      have HCH : Hid (chunk m k (rcl ps) = rcl ((ps.drop (k * m)).take m)) := hide (by unfold rcl; rw [chunk_map]; rfl)
      have HLD : Hid (∀ p ∈ ps.drop (k * m), LnR p.1) := hide (fun p hp => HL.out p (List.mem_of_mem_drop hp))
      have hk80 : k ≤ 1000 := by
        have : k * 1 ≤ k * m := Nat.mul_le_mul_left k hm
        omega
      generalize ps.drop (k * m) = rs at *
      have hcapC : rs.length ≤ cap - k * m := by omega
      have hJ : k * m + rs.length = ps.length := by omega
      have hlp : 0 < rs.length := by omega
      have hr1000 : rs.length ≤ 1000 := by omega
      rw [← hdl] at HR ⊢
      have HJ := hide hJ
      have HKM := hide hkm
      have HHL := hide hlt
      have HGE : Hid (m ≥ rs.length → ps.length ≤ (k + 1) * m ∧ (k + 1) * m < ps.length + m) := hide (fun h => by rw [hkm]; omega)
      have HLT : Hid (m < rs.length → (k + 1) * m < ps.length) := hide (fun h => by rw [hkm]; omega)
      have HOF : Hid (m < rs.length → Value.slice (some ⟨b, o + k * m * 18 + m * 18, none⟩) (rs.length - m) (cap - k * m - m) = .slice (some ⟨b, o + (k + 1) * m * 18, none⟩) (ps.length - (k + 1) * m) (cap - (k + 1) * m)) := hide (fun h => by
        rw [hkm, show o + (k * m + m) * 18 = o + k * m * 18 + m * 18 by omega, show ps.length - (k * m + m) = rs.length - m by omega, show cap - (k * m + m) = cap - k * m - m by omega])
      clear hJ hkm hlt hdl
      obtain ⟨ay, cy, hy⟩ := HS.out.form
      subst hy
      generalize hO : o + k * m * 18 = O at *
      generalize hC : cap - k * m = C at *
      clear hO hC
      have HQL2 : Hid (qs.length = k) := HQL
      have hlpI : (0 : Int) < (rs.length : Int) := by omega
      have hbk : IntKind.i64.wrap (bs + (qs.length : Int)) = bs + (qs.length : Int) := by have := HQL.out; rw [IntKind.wrap_i64]; omega
      by_cases hmin : m < rs.length
      · have hminI : (m : Int) ≤ (rs.length : Int) := by omega
        have hu := fun W => uptoR ⟨b, O, none⟩ rs.length C m (by omega) W
        have HT := hide (HR.out.take rfl m (by omega) (by omega))
        have hlt : (rs.take m).length = m := by rw [List.length_take]; omega
        have HC := hide (of_any t (bs + (qs.length : Int)) (.slice (some ⟨b, O, none⟩) m C) (rs.take m) wr (HT.out.below HS.out.be) (by omega) (fun p hp => HLD.out p (List.mem_of_mem_take hp)))
        clear HT hlt HR HLD
        go_upto_region 7 with (first | (go_at_call 26; refine HC.out.mono ?_; rintro e W1 ⟨vx, rfl, hx, hb1⟩; obtain ⟨u1, ps1, rfl, hl1, hp1⟩ := hx; obtain ⟨a1, c1, rfl⟩ := hl1.form; have hob := HS.out.ob; have hwz := HS.out.be.size; have hbl : Below W1.heap.size W1 (W1.alloc (.cells #[.int .i64 t, .int .i64 (bs + (qs.length : Int)), .slice a1 ps1.length c1] 48)) := (Below.refl _ _).alloc (Nat.le_refl _) _; have HS2 := hide ((HS.out.below hb1).below hbl); have HL2 : Hid (Rl (fun x => w.heap.size ≤ x ∧ (Value.slice ay qs.length cy).ownBlock ≠ some x) (fun x => w.heap.size ≤ x ∧ (Value.slice ay qs.length cy).ownBlock ≠ some x) (W1.alloc (.cells #[.int .i64 t, .int .i64 (bs + (qs.length : Int)), .slice a1 ps1.length c1] 48)) (.slice a1 ps1.length c1) ps1) := hide ((hl1.below hbl).imp (fun x _ q => ⟨by omega, fun e => by have := (hob x e).2; omega⟩) (fun x _ q => ⟨by omega, fun e => by have := (hob x e).2; omega⟩) (fun _ _ _ _ => rfl)); have HP1 := hide hp1; have HNW := hide (range_news (range_new W1 [.int .i64 t, .int .i64 (bs + (qs.length : Int)), .slice a1 ps1.length c1] 48)); have HZ : Hid (w.heap.size ≤ W1.heap.size + 1) := hide (by have := hb1.size; omega); clear hl1 hp1 hob hbl hb1 hwz) | (at_builtin; refine wpList_append_bt _ rfl _ _ rfl w.heap.size (.slice ay qs.length cy) qs.length (bcs qs) rfl HS2.out.own (by have := HS2.out.be.size; exact this) ⟨W1.heap.size, 0, none⟩ 1 (bce ⟨t, bs + (qs.length : Int), .slice a1 ps1.length c1, ps1⟩) rfl rfl HNW.out (fun u hu => by simp [bce] at hu; rcases hu with rfl | rfl | rfl <;> rfl) (by have := HQL.out; omega) ?_; intro V2 y2 ho hgr hub; have HS3 := hide (HS2.out.app (q := ⟨t, bs + (qs.length : Int), .slice a1 ps1.length c1, ps1⟩) HL2.out ho hgr hub); clear ho hgr hub HS2 HL2 HNW HS HC))
        have HB2 : Hid (bts (qs ++ [⟨t, bs + (qs.length : Int), .slice a1 ps1.length c1, ps1⟩]) = splitK t bs m (k + 1) (rcl ps)) := hide (by
          rw [splitK_succ, ← HBT.out, HCH.out]
          simp only [bts, List.map_append, List.map_cons, List.map_nil, btq]
          rw [HP1.out, HQL.out])
        clear hu
        have hf : ∀ W, (Instr.slice 46 (.slice (some ⟨b, O, none⟩) rs.length C) (some (.int .i64 (m : Int))) none none).run Tryz.prog W = .ok (.slice (some ⟨b, O + m * 18, none⟩) (rs.length - m) (C - m)) W := fun W => by
          have := fromR ⟨b, O, none⟩ rs.length C m (by omega) W
          rw [if_neg (by omega), Addr.add_lit] at this
          exact this
        go_wp2_with fail
        go_roundw
        case rel => exact ⟨k + 1, _, HS3.out, by rw [List.length_append, HQL.out]; rfl, HB2.out, .inl ⟨HLT.out hmin, HOF.out hmin⟩⟩
        case measure => simp; omega
      · by_cases heq : m = rs.length
        · subst heq
          have hu := fun W => uptoR ⟨b, O, none⟩ rs.length C rs.length (by omega) W
          have HT := hide (HR.out.take rfl rs.length (by omega) (by omega))
          have hlt : (rs.take rs.length).length = rs.length := by rw [List.length_take]; omega
          have HC := hide (of_any t (bs + (qs.length : Int)) (.slice (some ⟨b, O, none⟩) rs.length C) (rs.take rs.length) wr (HT.out.below HS.out.be) (by omega) (fun p hp => HLD.out p (List.mem_of_mem_take hp)))
          clear HT hlt HR HLD
          go_upto_region 7 with (first | (go_at_call 26; refine HC.out.mono ?_; rintro e W1 ⟨vx, rfl, hx, hb1⟩; obtain ⟨u1, ps1, rfl, hl1, hp1⟩ := hx; obtain ⟨a1, c1, rfl⟩ := hl1.form; have hob := HS.out.ob; have hwz := HS.out.be.size; have hbl : Below W1.heap.size W1 (W1.alloc (.cells #[.int .i64 t, .int .i64 (bs + (qs.length : Int)), .slice a1 ps1.length c1] 48)) := (Below.refl _ _).alloc (Nat.le_refl _) _; have HS2 := hide ((HS.out.below hb1).below hbl); have HL2 : Hid (Rl (fun x => w.heap.size ≤ x ∧ (Value.slice ay qs.length cy).ownBlock ≠ some x) (fun x => w.heap.size ≤ x ∧ (Value.slice ay qs.length cy).ownBlock ≠ some x) (W1.alloc (.cells #[.int .i64 t, .int .i64 (bs + (qs.length : Int)), .slice a1 ps1.length c1] 48)) (.slice a1 ps1.length c1) ps1) := hide ((hl1.below hbl).imp (fun x _ q => ⟨by omega, fun e => by have := (hob x e).2; omega⟩) (fun x _ q => ⟨by omega, fun e => by have := (hob x e).2; omega⟩) (fun _ _ _ _ => rfl)); have HP1 := hide hp1; have HNW := hide (range_news (range_new W1 [.int .i64 t, .int .i64 (bs + (qs.length : Int)), .slice a1 ps1.length c1] 48)); have HZ : Hid (w.heap.size ≤ W1.heap.size + 1) := hide (by have := hb1.size; omega); clear hl1 hp1 hob hbl hb1 hwz) | (at_builtin; refine wpList_append_bt _ rfl _ _ rfl w.heap.size (.slice ay qs.length cy) qs.length (bcs qs) rfl HS2.out.own (by have := HS2.out.be.size; exact this) ⟨W1.heap.size, 0, none⟩ 1 (bce ⟨t, bs + (qs.length : Int), .slice a1 ps1.length c1, ps1⟩) rfl rfl HNW.out (fun u hu => by simp [bce] at hu; rcases hu with rfl | rfl | rfl <;> rfl) (by have := HQL.out; omega) ?_; intro V2 y2 ho hgr hub; have HS3 := hide (HS2.out.app (q := ⟨t, bs + (qs.length : Int), .slice a1 ps1.length c1, ps1⟩) HL2.out ho hgr hub); clear ho hgr hub HS2 HL2 HNW HS HC))
          have HB2 : Hid (bts (qs ++ [⟨t, bs + (qs.length : Int), .slice a1 ps1.length c1, ps1⟩]) = splitK t bs rs.length (k + 1) (rcl ps)) := hide (by
            rw [splitK_succ, ← HBT.out, HCH.out]
            simp only [bts, List.map_append, List.map_cons, List.map_nil, btq]
            rw [HP1.out, HQL.out])
          clear hu
          obtain ⟨az, hf⟩ : ∃ az, ∀ W, (Instr.slice 46 (.slice (some ⟨b, O, none⟩) rs.length C) (some (.int .i64 (rs.length : Int))) none none).run Tryz.prog W = .ok (.slice az 0 (C - rs.length)) W := ⟨_, fun W => by
            have := fromR ⟨b, O, none⟩ rs.length C rs.length (Nat.le_refl _) W
            rw [Nat.sub_self] at this
            exact this⟩
          go_wp2_with fail
          go_roundw
          case rel => exact ⟨k + 1, _, HS3.out, by rw [List.length_append, HQL.out]; rfl, HB2.out, .inr ⟨(HGE.out (by omega)).1, (HGE.out (by omega)).2, az, C - rs.length, rfl⟩⟩
          case measure => simp; omega
        · have hminI : ¬ (m : Int) ≤ (rs.length : Int) := by omega
          have hlen : rs.take m = rs := List.take_of_length_le (by omega)
          have hlen2 : rs.take rs.length = rs := List.take_length
          have HE2 : Hid (rs.take m = rs.take rs.length) := hide (by rw [hlen, hlen2])
          clear hlen hlen2
          have hu := fun W => uptoR ⟨b, O, none⟩ rs.length C rs.length (by omega) W
          have HT := hide (HR.out.take rfl rs.length (by omega) (by omega))
          have hlt : (rs.take rs.length).length = rs.length := by rw [List.length_take]; omega
          have HC := hide (of_any t (bs + (qs.length : Int)) (.slice (some ⟨b, O, none⟩) rs.length C) (rs.take rs.length) wr (HT.out.below HS.out.be) (by omega) (fun p hp => HLD.out p (List.mem_of_mem_take hp)))
          clear HT hlt HR HLD
          go_upto_region 7 with (first | (go_at_call 26; refine HC.out.mono ?_; rintro e W1 ⟨vx, rfl, hx, hb1⟩; obtain ⟨u1, ps1, rfl, hl1, hp1⟩ := hx; obtain ⟨a1, c1, rfl⟩ := hl1.form; have hob := HS.out.ob; have hwz := HS.out.be.size; have hbl : Below W1.heap.size W1 (W1.alloc (.cells #[.int .i64 t, .int .i64 (bs + (qs.length : Int)), .slice a1 ps1.length c1] 48)) := (Below.refl _ _).alloc (Nat.le_refl _) _; have HS2 := hide ((HS.out.below hb1).below hbl); have HL2 : Hid (Rl (fun x => w.heap.size ≤ x ∧ (Value.slice ay qs.length cy).ownBlock ≠ some x) (fun x => w.heap.size ≤ x ∧ (Value.slice ay qs.length cy).ownBlock ≠ some x) (W1.alloc (.cells #[.int .i64 t, .int .i64 (bs + (qs.length : Int)), .slice a1 ps1.length c1] 48)) (.slice a1 ps1.length c1) ps1) := hide ((hl1.below hbl).imp (fun x _ q => ⟨by omega, fun e => by have := (hob x e).2; omega⟩) (fun x _ q => ⟨by omega, fun e => by have := (hob x e).2; omega⟩) (fun _ _ _ _ => rfl)); have HP1 := hide hp1; have HNW := hide (range_news (range_new W1 [.int .i64 t, .int .i64 (bs + (qs.length : Int)), .slice a1 ps1.length c1] 48)); have HZ : Hid (w.heap.size ≤ W1.heap.size + 1) := hide (by have := hb1.size; omega); clear hl1 hp1 hob hbl hb1 hwz) | (at_builtin; refine wpList_append_bt _ rfl _ _ rfl w.heap.size (.slice ay qs.length cy) qs.length (bcs qs) rfl HS2.out.own (by have := HS2.out.be.size; exact this) ⟨W1.heap.size, 0, none⟩ 1 (bce ⟨t, bs + (qs.length : Int), .slice a1 ps1.length c1, ps1⟩) rfl rfl HNW.out (fun u hu => by simp [bce] at hu; rcases hu with rfl | rfl | rfl <;> rfl) (by have := HQL.out; omega) ?_; intro V2 y2 ho hgr hub; have HS3 := hide (HS2.out.app (q := ⟨t, bs + (qs.length : Int), .slice a1 ps1.length c1, ps1⟩) HL2.out ho hgr hub); clear ho hgr hub HS2 HL2 HNW HS HC))
          have HB2 : Hid (bts (qs ++ [⟨t, bs + (qs.length : Int), .slice a1 ps1.length c1, ps1⟩]) = splitK t bs m (k + 1) (rcl ps)) := hide (by
            rw [splitK_succ, ← HBT.out, HCH.out]
            simp only [bts, List.map_append, List.map_cons, List.map_nil, btq]
            rw [HP1.out, HQL.out, HE2.out])
          clear hu
          obtain ⟨az, hf⟩ : ∃ az, ∀ W, (Instr.slice 46 (.slice (some ⟨b, O, none⟩) rs.length C) (some (.int .i64 (rs.length : Int))) none none).run Tryz.prog W = .ok (.slice az 0 (C - rs.length)) W := ⟨_, fun W => by
            have := fromR ⟨b, O, none⟩ rs.length C rs.length (Nat.le_refl _) W
            rw [Nat.sub_self] at this
            exact this⟩
          go_wp2_with fail
          go_roundw
          case rel => exact ⟨k + 1, _, HS3.out, by rw [List.length_append, HQL.out]; rfl, HB2.out, .inr ⟨(HGE.out (by omega)).1, (HGE.out (by omega)).2, az, C - rs.length, rfl⟩⟩
          case measure => simp; omega
    · go_wp2_with fail
      go_ret
      exact ⟨_, qs, k, rfl, HS.out.bl, HBT.out, ⟨hge2, hge⟩, HS.out.be⟩
/-- Records as batches of so many: how many batches, and which. -/
theorem split_any {okb ok : Nat → Prop} (t bs most : Int) (u : Value) (ps : List Rp) (w : World) (hm2 : most ≤ 9223372036854775807) (hb1 : -4611686018427387904 ≤ bs) (hb2 : bs ≤ 4611686018427387904) (hv : Rl okb ok w u ps) (hn : ps.length ≤ 1000) (hln : ∀ p ∈ ps, LnR p.1) :
    Calls Tryz.prog 36 #[.int .i64 t, .int .i64 bs, .int .i64 most, u] w fun e w' => ∃ y qs k, e = .returned y ∧ Bl w' y qs ∧ bts qs = splitK t bs most.toNat k (rcl ps) ∧ (if 1 ≤ most then k * most.toNat < ps.length + most.toNat ∧ ps.length ≤ k * most.toNat else k = 0) ∧ Below w.heap.size w w' := by
  have hnil : ∀ W, Bl W (.slice none 0 0) [] := fun W => ⟨.inl ⟨_, _, rfl, rfl⟩, fun q hq => by simp at hq⟩
  by_cases hm : most < 1
  · refine (split_few t bs most u w hm).mono ?_
    rintro e w' ⟨rfl, h⟩
    exact ⟨_, [], 0, rfl, hnil _, rfl, by rw [if_neg (by omega)], h⟩
  · obtain ⟨m, rfl⟩ : ∃ m : Nat, most = (m : Int) := ⟨most.toNat, by omega⟩
    rw [Int.toNat_natCast]
    by_cases h0 : 0 < ps.length
    · obtain ⟨ao, cap, rfl⟩ := hv.form
      obtain ⟨b, o, rfl, _⟩ := hv.rg h0
      refine (split_some t bs m b o cap ps w (by omega) hm2 hb1 hb2 (hv.imp (fun _ _ _ => trivial) (fun _ _ q => q) (fun _ _ _ _ => rfl)) hn h0 hln).mono ?_
      rintro e w' ⟨y, qs, k, rfl, h1, h2, h3, h4⟩
      exact ⟨y, qs, k, rfl, h1, h2, by rw [if_pos (by omega)]; exact h3, h4⟩
    · have e : ps = [] := List.length_eq_zero_iff.1 (by omega)
      subst e
      obtain ⟨ao, cap, rfl⟩ := hv.form
      refine (split_none t bs m ao cap w hm).mono ?_
      rintro e w' ⟨rfl, h⟩
      exact ⟨_, [], 0, rfl, hnil _, rfl, by rw [if_pos (by omega)]; simp; omega, h⟩
end Go.Proofs.YtgbcjmpnkejpeaaGreatDoor
namespace Go.Proofs.YtgbcjmpnkejpeaaGreatDoor
open Go.RowKit

def rn0 : Rc := ⟨1, 0, 0, 0, 0, 0, 0, 0, 0, false, [], [], [], [], [], [], [], []⟩
def rn1 : Rc := ⟨11, 0, 0, 2, 0, 0, 0, 0, 0, false, [], [], [], [], [], [], [], []⟩
def pl0 : Pl := ⟨none, none, none, none, 0, 0, 0, 0⟩
def exB : Bt := ⟨3, 9, [rn0, rn1]⟩
theorem chk0 : (chk rn0).2.2 = 0 := by decide
theorem chk1 : (chk rn1).2.2 = 0 := by decide
theorem ex_ok : (bw exB).c = 0 := by
  rw [bw_of (x := exB) (by decide) (by decide) (by decide) (fun r hr => by
    simp only [exB, List.mem_cons, List.not_mem_nil, or_false] at hr
    rcases hr with rfl | rfl
    · exact chk0
    · exact chk1)]
theorem ex_len : (bytL exB).length ≤ 300 := by decide
theorem ex_tx : ∀ r ∈ exB.rs, TxR r := fun r hr => by
  simp only [exB, List.mem_cons, List.not_mem_nil, or_false] at hr
  rcases hr with rfl | rfl <;> exact ⟨by decide, by decide, by decide, by decide⟩
theorem ex_ln : ∀ r ∈ exB.rs, LnR r := fun r hr => by
  simp only [exB, List.mem_cons, List.not_mem_nil, or_false] at hr
  rcases hr with rfl | rfl <;> exact ⟨by decide, by decide, by decide, by decide⟩
theorem rw_nil0 (ok : Nat → Prop) (W : World) (r : Rc) (h1 : r.ids = []) (h2 : r.isr = []) (h3 : r.ad = []) (h4 : r.dr = []) : RwP ok W (r, pl0) := by
  have hn : ∀ l : List Int, l = [] → Sli ok W (.slice none l.length 0) l := fun l e => by subst e; exact Sli.nil _ _ _ _
  exact ⟨hn _ h1, hn _ h2, hn _ h3, hn _ h4⟩
theorem build_two (W : World) : (Instr.buildSlice 46 2 #[(0, .agg (cel (rn0, pl0)).toArray), (1, .agg (cel (rn1, pl0)).toArray)]).run Tryz.prog W = .ok (.slice (some ⟨W.heap.size, 0, none⟩) 2 2) (W.alloc (.cells (rcs [(rn0, pl0), (rn1, pl0)]).toArray 35)) := by kernel_rfl
theorem wpList_build_two {ops : Array Oper} {rest : List Oper} {o : Oper} {a : Act} {w : World} {Q : Exit → Act → World → Prop} (hgd : o.guard = none) (x y : Operand) (ho : o.op = .buildSlice 46 2 #[(0, x), (1, y)]) (hx : a.eval x = .agg (cel (rn0, pl0)).toArray) (hy : a.eval y = .agg (cel (rn1, pl0)).toArray)
    (h : wpList Tryz.prog ops Q rest (a.put o.dst (.slice (some ⟨w.heap.size, 0, none⟩) 2 2)) (w.alloc (.cells (rcs [(rn0, pl0), (rn1, pl0)]).toArray 35))) : wpList Tryz.prog ops Q (o :: rest) a w := by
  refine wpList_plain hgd fun K hK => ?_
  have hb := build_two w
  unfold Oper.wp
  simp only [execOp, ho, List.map_toArray, List.map_cons, List.map_nil, hx, hy]
  simp [hb, Result.andThen]
  exact hK _ _ h
theorem ex_rl (w : World) : Rl (fun _ => True) (fun _ => True) (w.alloc (.cells (rcs [(rn0, pl0), (rn1, pl0)]).toArray 35)) (.slice (some ⟨w.heap.size, 0, none⟩) 2 2) [(rn0, pl0), (rn1, pl0)] := by
  refine ⟨.inr ⟨w.heap.size, 0, 2, rfl, by decide, trivial, by decide, range_new w _ _⟩, fun p hp => ?_⟩
  simp only [List.mem_cons, List.not_mem_nil, or_false] at hp
  rcases hp with rfl | rfl
  · exact rw_nil0 _ _ _ rfl rfl rfl rfl
  · exact rw_nil0 _ _ _ rfl rfl rfl rfl
theorem isB_form {okb ok : Nat → Prop} {W : World} {v : Value} {x : Bt} (h : IsB okb ok W v x) : ∃ ao cap ps, v = .agg #[.int .i64 x.t, .int .i64 x.b, .slice ao x.rs.length cap] ∧ Rl okb ok W (.slice ao x.rs.length cap) ps ∧ rcl ps = x.rs := by
  obtain ⟨u, ps, rfl, h2, h3⟩ := h
  obtain ⟨ao, cap, rfl⟩ := h2.form
  rw [show ps.length = x.rs.length by rw [← h3, rcl_len]] at h2 ⊢
  exact ⟨ao, cap, ps, rfl, h2, h3⟩
theorem isB_ex {okb ok : Nat → Prop} {W : World} {v : Value} (h : IsB okb ok W v exB) : ∃ ao cap ps, v = .agg #[.int .i64 3, .int .i64 9, .slice ao 2 cap] ∧ Rl okb ok W (.slice ao 2 cap) ps ∧ rcl ps = [rn0, rn1] := isB_form h
theorem two_of {ps : List Rp} {r0 r1 : Rc} (h : rcl ps = [r0, r1]) : ∃ p0 p1 : Rp, ps = [p0, p1] ∧ p0.1 = r0 := by
  have hl : ps.length = 2 := by rw [← rcl_len, h]; rfl
  rcases ps with _ | ⟨a, ps⟩
  · simp at hl
  rcases ps with _ | ⟨b, ps⟩
  · simp at hl
  rcases ps with _ | ⟨c, ps⟩
  · exact ⟨a, b, rfl, (List.cons.inj h).1⟩
  · simp at hl
theorem split_first (ao : Option Addr) (cap : Nat) (ps : List Rp) (w : World) (hv : Rl (fun _ => True) (fun _ => True) w (.slice ao 2 cap) ps) (hp : rcl ps = [rn0, rn1]) : 2 ≤ cap ∧ (∃ A, ao = some A) ∧ Rl (fun _ => True) (fun _ => True) w (.slice ao 1 cap) (ps.take 1) ∧ ∃ p, ps.take 1 = [p] ∧ LnR p.1 := by
  obtain ⟨p0, p1, rfl, h0⟩ := two_of hp
  have hl2 : [p0, p1].length = 2 := rfl
  obtain ⟨b, o, rfl, _⟩ := hv.rg (by rw [hl2]; decide)
  refine ⟨?_, ⟨_, rfl⟩, hv.take hl2.symm 1 (by decide) (by rw [hl2]; decide), p0, rfl, ?_⟩
  · rcases hv.1 with ⟨_, _, e, _⟩ | ⟨_, _, c', e, h, _⟩
    · cases e
    · have e3 := (Value.slice.inj e).2.2
      rw [e3]
      exact h
  · rw [h0]; exact ⟨by decide, by decide, by decide, by decide⟩
theorem put_ex {okb ok : Nat → Prop} (v : Value) (w : World) (hv : IsB okb ok w v exB) : Calls Tryz.prog 27 #[v] w fun e w' => ∃ y, e = .returned (.tuple #[y, .nilIface]) ∧ Sl bc w' y (bytL exB) ∧ Below w.heap.size w w' := by
  refine (bput_any exB v w hv ex_tx).mono ?_
  rintro e w' ⟨h1, h2⟩
  rw [if_pos ex_ok, if_pos (Nat.le_trans ex_len (by decide))] at h1
  obtain ⟨y, rfl, ho⟩ := h1
  exact ⟨y, rfl, ho.sl, h2⟩
theorem ex_byt : Byt (bytL exB) := by unfold Byt; decide
theorem read_ex (v : Value) (w : World) (hv : Sl bc w v (bytL exB)) (hg : Hnd w) : Calls Tryz.prog 30 #[v] w fun e w' => ∃ vx, e = .returned (.tuple #[vx, .nilIface]) ∧ IsB (fun k => w.heap.size ≤ k) (fun k => w.heap.size ≤ k) w' vx exB ∧ Below w.heap.size w w' := by
  have h := bread_any v (bytL exB) w hv (Nat.le_trans ex_len (by decide)) ex_byt hg
  rw [readB_back exB ex_ok (Nat.le_trans ex_len (by decide))] at h
  exact h
theorem put_none {okb ok : Nat → Prop} (v : Value) (w : World) (hv : IsB okb ok w v ⟨3, 9, []⟩) : Calls Tryz.prog 27 #[v] w fun e w' => e = .returned (.tuple #[.slice none 0 0, ft ⟨#[114, 101, 99, 111, 114, 100, 115]⟩ 0 6]) ∧ Below w.heap.size w w' := by
  refine (bput_any ⟨3, 9, []⟩ v w hv (fun r hr => by simp at hr)).mono ?_
  rintro e w' ⟨h1, h2⟩
  have hb : bw ⟨3, 9, []⟩ = ⟨⟨#[114, 101, 99, 111, 114, 100, 115]⟩, 0, 6, -1, 0⟩ := rfl
  rw [hb, if_neg (show ¬ (6 : Int) = 0 by decide)] at h1
  exact ⟨h1, h2⟩
theorem same_ex {okb ok okb' ok' : Nat → Prop} (v u : Value) (w : World) (hv : IsB okb ok w v exB) (hu : IsB okb' ok' w u exB) : Calls Tryz.prog 23 #[v, u] w fun e w' => e = .returned (.bool true) ∧ Below w.heap.size w w' := by
  have h := bsame_any exB exB v u w hv hu (by decide) ex_ln
  rw [sameBt_self] at h
  exact h
theorem same_no {okb ok okb' ok' : Nat → Prop} (v u : Value) (w : World) (hv : IsB okb ok w v exB) (hu : IsB okb' ok' w u ⟨3, 9, []⟩) : Calls Tryz.prog 23 #[v, u] w fun e w' => e = .returned (.bool false) ∧ Below w.heap.size w w' := by
  have h := bsame_any exB ⟨3, 9, []⟩ v u w hv hu (by decide) ex_ln
  rw [show sameBt exB ⟨3, 9, []⟩ = false from rfl] at h
  exact h
theorem check_ex {okb ok : Nat → Prop} (v : Value) (w : World) (hv : IsB okb ok w v exB) : Calls Tryz.prog 21 #[v] w fun e w' => e = .returned .nilIface ∧ Below w.heap.size w w' := by
  have h := bcheck_any exB v w hv ex_tx
  rw [show erB (bw exB) = .nilIface from if_pos ex_ok] at h
  exact h
theorem split_ex {okb ok : Nat → Prop} (u : Value) (p : Rp) (w : World) (hv : Rl okb ok w u [p]) (hln : LnR p.1) : Calls Tryz.prog 36 #[.int .i64 1, .int .i64 5, .int .i64 2, u] w fun e w' => ∃ g o cap, e = .returned (.slice (some ⟨g, o, none⟩) 1 cap) ∧ 1 ≤ cap ∧ w'.cell? ⟨g, o + 1, none⟩ = some (.int .i64 5) ∧ Below w.heap.size w w' := by
  refine (split_any 1 5 2 u [p] w (by decide) (by decide) (by decide) hv (by simp) (fun q hq => by simp at hq; subst hq; exact hln)).mono ?_
  rintro e w' ⟨y, qs, k, rfl, h1, h2, h3, h4⟩
  rw [if_pos (by decide)] at h3
  have hk : k = 1 := by
    have h5 := h3.1
    have h6 := h3.2
    simp at h5 h6
    omega
  subst hk
  have hl : qs.length = 1 := by
    have := congrArg List.length h2
    simpa [bts, splitK] using this
  obtain ⟨q, rfl⟩ : ∃ q, qs = [q] := by
    rcases qs with _ | ⟨q, qs⟩
    · simp at hl
    rcases qs with _ | ⟨q', qs⟩
    · exact ⟨q, rfl⟩
    · simp at hl
  have hb : q.b = 5 := by
    have h5 : [btq q] = [_] := h2
    have h6 := (List.cons.inj h5).1
    have h7 : q.b = (5 : Int) + ((0 : Nat) : Int) := congrArg Bt.b h6
    omega
  rcases h1.1 with ⟨_, _, e, _⟩ | ⟨g, o, cap, rfl, e2, _, e4⟩
  · cases e
  · have := e4 1 (.int .i64 q.b) (by rw [bcs_one]; rfl)
    rw [hb] at this
    exact ⟨g, o, cap, rfl, e2, this, h4⟩
/-- A batch in its cells. -/
theorem three_new (w : World) (x y z : Value) : ∀ W, Below (w.alloc (.cells #[x, y, z] 48)).heap.size (w.alloc (.cells #[x, y, z] 48)) W → W.cell? ⟨w.heap.size, 0, none⟩ = some x ∧ W.cell? ⟨w.heap.size, 1, none⟩ = some y ∧ W.cell? ⟨w.heap.size, 2, none⟩ = some z := fun W h => by
  have hc : ∀ i, W.cell? ⟨w.heap.size, i, none⟩ = _ := fun i => h.cell (p := ⟨w.heap.size, i, none⟩) (by simp)
  exact ⟨by rw [hc]; simp, by rw [hc]; simp, by rw [hc]; simp⟩
theorem is_rec (w : World) : Calls Tryz.prog 42 #[ft ⟨#[114, 101, 99, 111, 114, 100, 115]⟩ 0 6, .int .i64 6] w fun e w' => e = .returned (.bool true) ∧ Below w.heap.size w w' := by
  have h := is_ev (some ([(⟨#[114, 101, 99, 111, 114, 100, 115]⟩, 0)], 6)) 6 w
  rw [show isV (some ([(⟨#[114, 101, 99, 111, 114, 100, 115]⟩, 0)], 6)) 6 = true from rfl] at h
  exact h
end Go.Proofs.YtgbcjmpnkejpeaaGreatDoor
