/-
  A BATCH IN NEW MEMORY (batch.Of, batch.Copy). Conditions: the records' cells hold them; no more than a hundred thousand, their rows likewise.
  ROWS OF BATCHES, three cells each, that grow one batch behind the other; records as batches of so many. Condition: fewer than a hundred thousand batches.
-/
import Derived.Test.YtjjpfajbljbelaaGreatDoorJKBatCla5
import Derived.Test.YtjjpfajbljbelaaGreatDoorJKBatCka2
namespace Go.Proofs.YtjjpfajbljbelaaGreatDoor
open Go.RowKit
set_option maxRecDepth 100000
set_option maxHeartbeats 16000000
theorem range_parts {W : World} {g : Nat} {qs : List Rp} {p : Rp} {rs : List Rp} (h1 : W.rangeAt g 0 (rcs qs)) (h2 : W.rangeAt g (qs.length * 18) (cel p)) (h3 : W.rangeAt g ((qs.length + 1) * 18) (rcs rs)) : W.rangeAt g 0 (rcs ((qs ++ [p]) ++ rs)) := fun j u hu => by
 rw [rcs_app, rcs_app, rcs_one] at hu
 rw [Nat.zero_add]
 have l1 := rcs_len qs
 have l2 := cel_len p
 by_cases c1 : j < qs.length * 18
 ·rw [List.getElem?_append_left (by rw [List.length_append]; omega), List.getElem?_append_left (by omega)] at hu
  have := h1 j u hu
  rwa [Nat.zero_add] at this
 ·by_cases c2 : j < (qs.length + 1) * 18
  ·rw [List.getElem?_append_left (by rw [List.length_append]; omega), List.getElem?_append_right (by omega)] at hu
   have := h2 _ u hu
   rwa [show qs.length * 18 + (j - (rcs qs).length) = j by omega] at this
  ·rw [List.getElem?_append_right (by rw [List.length_append]; omega), List.length_append] at hu
   have := h3 _ u hu
   rwa [show (qs.length + 1) * 18 + (j - ((rcs qs).length + (cel p).length)) = j by omega] at this
theorem range_left {W : World} {g o : Nat} {qs rs : List Rp} (h : W.rangeAt g o (rcs (qs ++ rs))) : W.rangeAt g o (rcs qs) := fun j u hu => h j u (by
 rw [rcs_app, List.getElem?_append_left (List.getElem?_eq_some_iff.1 hu).1]; exact hu)
theorem range_right {W : World} {g o : Nat} {qs rs : List Rp} (h : W.rangeAt g o (rcs (qs ++ rs))) : W.rangeAt g (o + qs.length * 18) (rcs rs) := fun j u hu => by
 have := h (qs.length * 18 + j) u (by rw [rcs_app, List.getElem?_append_right (by rw [rcs_len]; omega), rcs_len, Nat.add_sub_cancel_left]; exact hu)
 rwa [← Nat.add_assoc] at this
theorem range_cons {W : World} {g o : Nat} {p : Rp} {rs : List Rp} (h : W.rangeAt g o (rcs (p :: rs))) : W.rangeAt g o (cel p) ∧ W.rangeAt g (o + 18) (rcs rs) :=
 ⟨fun j u hu => h j u (by rw [rcs_cons, List.getElem?_append_left (List.getElem?_eq_some_iff.1 hu).1]; exact hu), fun j u hu => by
  have := h (18 + j) u (by rw [rcs_cons, List.getElem?_append_right (by rw [cel_len]; omega), cel_len, Nat.add_sub_cancel_left]; exact hu)
  rwa [← Nat.add_assoc] at this⟩
structure Ofs (g : Nat) (w Y W : World) (qs ps : List Rp) : Prop where
 rg : W.rangeAt g 0 (rcs (qs ++ ps.drop qs.length))
 fz : ∀ i, W.frozen? ⟨g, i, none⟩ = false
 rw : ∀ q ∈ qs, RwP (fun b => w.heap.size < b ∧ b ≠ g) W q
 rc : rcl qs = (rcl ps).take qs.length
 bx : Bx g Y W
 le : qs.length ≤ ps.length
theorem Ofs.step {g : Nat} {w Y W W' : World} {qs ps : List Rp} {p' : Rp} (h : Ofs g w Y W qs ps) (hlt : qs.length < ps.length) (hY : w.heap.size < Y.heap.size) (hgl : g < Y.heap.size) (hp : p'.1 = ps[qs.length].1) (ho : Ob g (qs.length * 18) W W' p') (hw : RwP (fun b => W.heap.size ≤ b) W' p') : Ofs g w Y W' (qs ++ [p']) ps := by
 have hd : ps.drop qs.length = ps[qs.length] :: ps.drop (qs.length + 1) := List.drop_eq_getElem_cons hlt
 have hrg := h.rg
 rw [hd] at hrg
 have h1 := range_left hrg
 have h2 := (range_cons (range_right hrg)).2
 have hz : w.heap.size < W.heap.size := Nat.lt_of_lt_of_le hY h.bx.size
 have hgW : g < W.heap.size := Nat.lt_of_lt_of_le hgl h.bx.size
 refine ⟨?_, ho.fz, fun q hq => ?_, ?_, h.bx.trans ho.bx, by rw [List.length_append]; exact hlt⟩
 ·rw [List.length_append, List.length_singleton]
  refine range_parts (fun j u hu => ?_) ho.rg (fun j u hu => ?_)
  ·have hj : j < qs.length * 18 := by have := (List.getElem?_eq_some_iff.1 hu).1; rwa [rcs_len] at this
   rw [ho.out _ (.inl (by omega))]
   exact h1 j u hu
  ·rw [ho.out _ (.inr (by omega))]
   have := h2 j u hu
   rwa [show 0 + qs.length * 18 + 18 + j = (qs.length + 1) * 18 + j by omega] at this
 ·rcases List.mem_append.1 hq with e | e
  ·exact (h.rw q e).imp (fun _ _ k => k) (fun b i hl k => ho.bx.cell hl k.2)
  ·simp at e
   subst e
   exact hw.imp (fun b _ k => ⟨by omega, by omega⟩) (fun _ _ _ _ => rfl)
 ·have hl : qs.length < (rcl ps).length := by rw [rcl_len]; exact hlt
  rw [List.length_append, List.length_singleton, List.take_succ_eq_append_getElem hl, ← h.rc]
  simp [rcl, hp]
theorem of_some {ok : Nat → Prop} (t bs : Int) (ao : Option Addr) (cap : Nat) (ps : List Rp) (w : World) (hv : Rl (fun _ => True) ok w (.slice ao ps.length cap) ps) (hn : ps.length ≤ 100000) (hln : ∀ p ∈ ps, LnR p.1) :
  Calls Tryz.prog 78 #[.int .i64 t, .int .i64 bs, .slice ao ps.length cap] w fun e w' => ∃ v, e = .returned v ∧ IsB (fun b => w.heap.size ≤ b) (fun b => w.heap.size ≤ b) w' v ⟨t, bs, rcl ps⟩ ∧ Below w.heap.size w w' := by
 have hb0 : Below w.heap.size w (w.alloc (.cells #[.int .i64 0, .int .i64 0, .slice none 0 0] 48)) := (Below.refl _ _).alloc (Nat.le_refl _) _
 have HC := hide (cloneR_any ao cap ps (w.alloc (.cells #[.int .i64 0, .int .i64 0, .slice none 0 0] 48)) (hv.below hb0) hn)
 have HV := hide hv
 have HL := hide hln
 clear hv hln
 have k0 : (w.alloc (.cells #[.int .i64 0, .int .i64 0, .slice none 0 0] 48)).cell? ⟨w.heap.size, 0, none⟩ = some (.int .i64 0) := by simp
 have k1 : (w.alloc (.cells #[.int .i64 0, .int .i64 0, .slice none 0 0] 48)).cell? ⟨w.heap.size, 1, none⟩ = some (.int .i64 0) := by simp
 have k2 : (w.alloc (.cells #[.int .i64 0, .int .i64 0, .slice none 0 0] 48)).cell? ⟨w.heap.size, 2, none⟩ = some (.slice none 0 0) := by simp
 have kf : ∀ i, (w.alloc (.cells #[.int .i64 0, .int .i64 0, .slice none 0 0] 48)).frozen? ⟨w.heap.size, i, none⟩ = false := fun i => World.frozen?_alloc_at _ _ _ _ (by simp)
 have hs0 : (w.alloc (.cells #[.int .i64 0, .int .i64 0, .slice none 0 0] 48)).heap.size = w.heap.size + 1 := by simp
 have HB0 := hide hb0
 have HK := hide (And.intro k0 (And.intro k1 (And.intro k2 kf)))
 have HS0 := hide hs0
 clear hb0 k0 k1 k2 kf hs0
 go_enter Tryz.func78, Tryz.ntmps78
 go_upto_region 1 with fail
 generalize w.alloc (.cells #[.int .i64 0, .int .i64 0, .slice none 0 0] 48) = X0 at HC HB0 HK HS0 ⊢
 go_upto_region 2 with (first | (go_at_call 108; refine HC.out.mono ?_; rintro e W1 ⟨a', c', rfl, hgr, hb1⟩))
 have HGR := hide hgr
 have HB1 := hide hb1
 clear hgr hb1 HC
 obtain ⟨Y, hY⟩ : ∃ Y, Y = W1.alloc (.cells #[.int .i64 t, .int .i64 bs, .slice a' ps.length c'] 48) := ⟨_, rfl⟩
 have hbY : Below W1.heap.size W1 Y := by rw [hY]; exact (Below.refl _ _).alloc (Nat.le_refl _) _
 have y0 : Y.cell? ⟨W1.heap.size, 0, none⟩ = some (.int .i64 t) := by rw [hY]; simp
 have y1 : Y.cell? ⟨W1.heap.size, 1, none⟩ = some (.int .i64 bs) := by rw [hY]; simp
 have y2 : Y.cell? ⟨W1.heap.size, 2, none⟩ = some (.slice a' ps.length c') := by rw [hY]; simp
 have hb01 := HB1.out.trans (hbY.mono HB1.out.size)
 have hz : w.heap.size < X0.heap.size := by rw [HS0.out]; omega
 have hz1 : X0.heap.size ≤ W1.heap.size := HB1.out.size
 have HBY := hide (HB0.out.trans (hb01.mono (by omega)))
 have x0 : Y.cell? ⟨w.heap.size, 0, none⟩ = some (.int .i64 0) := (hb01.cell (p := ⟨w.heap.size, 0, none⟩) hz).trans HK.out.1
 have x1 : Y.cell? ⟨w.heap.size, 1, none⟩ = some (.int .i64 0) := (hb01.cell (p := ⟨w.heap.size, 1, none⟩) hz).trans HK.out.2.1
 have x2 : Y.cell? ⟨w.heap.size, 2, none⟩ = some (.slice none 0 0) := (hb01.cell (p := ⟨w.heap.size, 2, none⟩) hz).trans HK.out.2.2.1
 have xf : ∀ i, Y.frozen? ⟨w.heap.size, i, none⟩ = false := fun i => (hb01.frozen (p := ⟨w.heap.size, i, none⟩) hz).trans (HK.out.2.2.2 i)
 rw [← hY]
 have HGY : Hid (0 < ps.length → ∃ g, a' = some ⟨g, 0, none⟩ ∧ ps.length ≤ c' ∧ w.heap.size < g ∧ g < W1.heap.size ∧ Y.rangeAt g 0 (rcs ps) ∧ ∀ i, Y.frozen? ⟨g, i, none⟩ = false) := hide (fun h => by
  obtain ⟨g, e1, e2, e3, e4, e5, e6⟩ := HGR.out h
  exact ⟨g, e1, e2, by omega, e4, range_bel e5 hbY, fun i => (hbY.frozen (p := ⟨g, i, none⟩) e4).trans (e6 i)⟩)
 have hyl : W1.heap.size < Y.heap.size := cell_block y0
 clear hY hbY hb01 HGR HB1 HB0 HK HS0
 have hgz : w.heap.size < W1.heap.size := by omega
 clear hz hz1
 clear X0
 generalize W1.heap.size = D at *
 clear W1
 by_cases h0 : 0 < ps.length
 case neg =>
  have e : ps = [] := List.length_eq_zero_iff.1 (by omega)
  subst e
  have xf0 := xf 0
  have xf1 := xf 1
  have xf2 := xf 2
  simp only [List.length_nil] at *
  go_wp2_with fail
  refine wp_loop_rounds 1 ?_
  rw [rounds_succ]
  go_wp2_with fail
  exact bodyPost_ret (v := .agg #[.int .i64 t, .int .i64 bs, .slice a' 0 c']) (by simp [results, Tryz.results78, go_sem, x0, x1, x2]) rfl ⟨_, rfl, ⟨_, [], rfl, Rl.nil _ _ _ _ _, rfl⟩, ((HBY.out.setCell (by exact Nat.le_refl _) _).setCell (by exact Nat.le_refl _) _).setCell (by exact Nat.le_refl _) _⟩
 obtain ⟨g, rfl, hc', hg1, hg2, hg3, hg4⟩ := HGY.out h0
 clear HGY
 have HO : Hid (Ofs g w Y Y [] ps) := hide ⟨hg3, hg4, fun q hq => by simp at hq, by simp [rcl], Bx.refl _ _, Nat.zero_le _⟩
 have HX : Hid (Y.cell? ⟨w.heap.size, 0, none⟩ = some (.int .i64 0) ∧ Y.cell? ⟨w.heap.size, 1, none⟩ = some (.int .i64 0) ∧ Y.cell? ⟨w.heap.size, 2, none⟩ = some (.slice none 0 0) ∧ ∀ i, Y.frozen? ⟨w.heap.size, i, none⟩ = false) := hide ⟨x0, x1, x2, xf⟩
 have HYY : Hid (Y.cell? ⟨D, 0, none⟩ = some (.int .i64 t) ∧ Y.cell? ⟨D, 1, none⟩ = some (.int .i64 bs) ∧ Y.cell? ⟨D, 2, none⟩ = some (.slice (some ⟨g, 0, none⟩) ps.length c')) := hide ⟨y0, y1, y2⟩
 clear hg3 hg4 x0 x1 x2 xf y0 y1
 go_wp2_with fail
 clear y2
 go_loopw [17] (fun i wr => ∃ qs : List Rp, i = .int .i64 (qs.length : Int) ∧ Ofs g w Y wr qs ps) (fun i _ => ps.length - (intOf i).toNat)
 case atStart => exact ⟨[], rfl, HO.out⟩
 case round =>
  obtain ⟨qs, rfl, ho⟩ := hrel
  clear HO
  have HO := hide ho
  clear ho
  have y2 : wr.cell? ⟨D, 2, none⟩ = some (.slice (some ⟨g, 0, none⟩) ps.length c') := (HO.out.bx.cell hyl (by omega)).trans HYY.out.2.2
  by_cases hlt : qs.length < ps.length
  ·have hltI : (qs.length : Int) < (ps.length : Int) := by omega
   have hcc : qs.length < c' := by omega
   have hd : ps.drop qs.length = ps[qs.length] :: ps.drop (qs.length + 1) := List.drop_eq_getElem_cons hlt
   have hrg := HO.out.rg
   rw [hd] at hrg
   have hr1 := (range_cons (range_right hrg)).1
   rw [Nat.zero_add] at hr1
   have HC := hide (own_any g (qs.length * 18) ps[qs.length] wr hr1 HO.out.fz ((HV.out.2 _ (List.getElem_mem hlt)).imp (fun b hl _ => by omega) (fun b i hl _ => by
    rw [HO.out.bx.cell (by have := HBY.out.size; omega) (by omega)]
    exact HBY.out.cell (p := ⟨b, i, none⟩) hl)) (HL.out _ (List.getElem_mem hlt)))
   have HST := hide (fun (W' : World) (p' : Rp) (h1 : p'.1 = ps[qs.length].1) h2 h3 => HO.out.step (W' := W') (p' := p') hlt (by omega) (by omega) h1 h2 h3)
   clear hd hrg hr1
   generalize ps[qs.length] = p at *
   go_wp2_with (first | (go_at_call 109; refine HC.out.mono ?_; rintro e w2 ⟨rfl, p', e1, e2, e3⟩; have HO2 := hide (HST.out w2 p' e1 e2 e3); clear e1 e2 e3))
   go_roundw
   case rel => exact ⟨qs ++ [p'], by simp, HO2.out⟩
   case measure => simp [intOf]; omega
  ·have hge : ¬ (qs.length : Int) < (ps.length : Int) := by omega
   have hql : qs.length = ps.length := by have := HO.out.le; omega
   have x0 := (HO.out.bx.cell (i := 0) (show w.heap.size < Y.heap.size by omega) (by omega)).trans HX.out.1
   have x1 := (HO.out.bx.cell (i := 1) (show w.heap.size < Y.heap.size by omega) (by omega)).trans HX.out.2.1
   have x2 := (HO.out.bx.cell (i := 2) (show w.heap.size < Y.heap.size by omega) (by omega)).trans HX.out.2.2.1
   have xf : ∀ i, wr.frozen? ⟨w.heap.size, i, none⟩ = false := fun i => (HO.out.bx.frozen (show w.heap.size < Y.heap.size by omega) (by omega)).trans (HX.out.2.2.2 i)
   have xf0 := xf 0
   have xf1 := xf 1
   have xf2 := xf 2
   have y0 := (HO.out.bx.cell (i := 0) hyl (by omega)).trans HYY.out.1
   have y1 := (HO.out.bx.cell (i := 1) hyl (by omega)).trans HYY.out.2.1
   have HR : Hid (Rl (fun b => w.heap.size ≤ b) (fun b => w.heap.size ≤ b) (((wr.setCell ⟨w.heap.size, 0, none⟩ (.int .i64 t)).setCell ⟨w.heap.size, 1, none⟩ (.int .i64 bs)).setCell ⟨w.heap.size, 2, none⟩ (.slice (some ⟨g, 0, none⟩) ps.length c')) (.slice (some ⟨g, 0, none⟩) ps.length c') qs) := hide (by
    have hrg := HO.out.rg
    rw [hql, List.drop_length, List.append_nil] at hrg
    have hcell : ∀ b i, b ≠ w.heap.size → (((wr.setCell ⟨w.heap.size, 0, none⟩ (.int .i64 t)).setCell ⟨w.heap.size, 1, none⟩ (.int .i64 bs)).setCell ⟨w.heap.size, 2, none⟩ (.slice (some ⟨g, 0, none⟩) ps.length c')).cell? ⟨b, i, none⟩ = wr.cell? ⟨b, i, none⟩ := fun b i hb => by
     iterate 3 rw [World.cell?_setCell_other _ _ _ _ (fun e => hb (congrArg Addr.block e).symm)]
    exact ⟨.inr ⟨g, 0, c', by rw [hql], by omega, by omega, by omega, range_imp hrg (fun i _ => hcell g i (by omega))⟩, fun q hq => (HO.out.rw q hq).imp (fun b _ k => by have := k.1; omega) (fun b i _ k => hcell b i (by have := k.1; omega))⟩)
   have HRC : Hid (rcl qs = rcl ps) := hide (by rw [HO.out.rc, hql, ← rcl_len, List.take_length])
   have HBW : Hid (Below w.heap.size w wr) := hide (below_bx HBY.out HO.out.bx (by omega) HBY.out.size)
   clear HO HX HYY HV HL
   go_wp2_with fail
   exact bodyPost_ret (v := .agg #[.int .i64 t, .int .i64 bs, .slice (some ⟨g, 0, none⟩) ps.length c']) (by simp [results, Tryz.results78, go_sem, x0, x1, x2]) rfl ⟨_, rfl, ⟨_, qs, rfl, HR.out, HRC.out⟩, ((HBW.out.setCell (by exact Nat.le_refl _) _).setCell (by exact Nat.le_refl _) _).setCell (by exact Nat.le_refl _) _⟩
theorem of_any {okb ok : Nat → Prop} (t bs : Int) (u : Value) (ps : List Rp) (w : World) (hv : Rl okb ok w u ps) (hn : ps.length ≤ 100000) (hln : ∀ p ∈ ps, LnR p.1) :
  Calls Tryz.prog 78 #[.int .i64 t, .int .i64 bs, u] w fun e w' => ∃ v, e = .returned v ∧ IsB (fun b => w.heap.size ≤ b) (fun b => w.heap.size ≤ b) w' v ⟨t, bs, rcl ps⟩ ∧ Below w.heap.size w w' := by
 obtain ⟨ao, cap, rfl⟩ := hv.form
 exact of_some t bs ao cap ps w (hv.imp (fun _ _ _ => trivial) (fun _ _ q => q) (fun _ _ _ _ => rfl)) hn hln
theorem copy_go (t bs : Int) (ao : Option Addr) (n cap : Nat) (w : World) (Q : Value → World → Prop) (HC : Hid (∀ W, Below w.heap.size w W → w.heap.size + 2 ≤ W.heap.size → Calls Tryz.prog 78 #[.int .i64 t, .int .i64 bs, .slice ao n cap] W fun e w' => ∃ a c, e = .returned (.agg #[.int .i64 t, .int .i64 bs, .slice a n c]) ∧ Q (.agg #[.int .i64 t, .int .i64 bs, .slice a n c]) w' ∧ Below W.heap.size W w')) :
  Calls Tryz.prog 48 #[.agg #[.int .i64 t, .int .i64 bs, .slice ao n cap]] w fun e w' => ∃ v w1, e = .returned v ∧ Q v w1 ∧ w.heap.size + 2 ≤ w1.heap.size ∧ Below w.heap.size w w1 ∧ (∀ b i, b ≠ w.heap.size + 1 → w'.cell? ⟨b, i, none⟩ = w1.cell? ⟨b, i, none⟩) ∧ Below w.heap.size w w' := by
 have hb : Below w.heap.size w ((w.alloc (.cells #[.int .i64 t, .int .i64 bs, .slice ao n cap] 48)).alloc (.cells #[.int .i64 0, .int .i64 0, .slice none 0 0] 48)) := ((Below.refl _ _).alloc (Nat.le_refl _) _).alloc (by simp) _
 have HB := hide hb
 have hs : ((w.alloc (.cells #[.int .i64 t, .int .i64 bs, .slice ao n cap] 48)).alloc (.cells #[.int .i64 0, .int .i64 0, .slice none 0 0] 48)).heap.size = w.heap.size + 2 := by simp
 have HK : Hid (∀ W, Below ((w.alloc (.cells #[.int .i64 t, .int .i64 bs, .slice ao n cap] 48)).alloc (.cells #[.int .i64 0, .int .i64 0, .slice none 0 0] 48)).heap.size ((w.alloc (.cells #[.int .i64 t, .int .i64 bs, .slice ao n cap] 48)).alloc (.cells #[.int .i64 0, .int .i64 0, .slice none 0 0] 48)) W → (W.cell? ⟨w.heap.size + 1, 0, none⟩ = some (.int .i64 0) ∧ W.cell? ⟨w.heap.size + 1, 1, none⟩ = some (.int .i64 0) ∧ W.cell? ⟨w.heap.size + 1, 2, none⟩ = some (.slice none 0 0)) ∧ ∀ i, W.frozen? ⟨w.heap.size + 1, i, none⟩ = false) := hide (fun W h => by
  have hc : ∀ i, W.cell? ⟨w.heap.size + 1, i, none⟩ = _ := fun i => h.cell (p := ⟨w.heap.size + 1, i, none⟩) (by rw [hs]; show w.heap.size + 1 < _; omega)
  have hf : ∀ i, W.frozen? ⟨w.heap.size + 1, i, none⟩ = _ := fun i => h.frozen (p := ⟨w.heap.size + 1, i, none⟩) (by rw [hs]; show w.heap.size + 1 < _; omega)
  exact ⟨⟨by rw [hc]; simp, by rw [hc]; simp, by rw [hc]; simp⟩, fun i => by rw [hf]; exact World.frozen?_alloc_at _ _ _ _ (by simp)⟩)
 have HC2 := hide (HC.out _ hb (by rw [hs]; exact Nat.le_refl _))
 have HS := hide hs
 clear hb HC hs
 go_enter Tryz.func48, Tryz.ntmps48
 go_wp2_with (first | (go_at_call 78; refine HC2.out.mono ?_; rintro e W1 ⟨a1, c1, rfl, hq, hb1⟩; obtain ⟨⟨k0, k1, k2⟩, kf⟩ := HK.out W1 hb1; have kf0 := kf 0; have kf1 := kf 1; have kf2 := kf 2; have HQ := hide hq; have HB1 := hide (HB.out.trans (hb1.mono HB.out.size)); have HZ : Hid (w.heap.size + 2 ≤ W1.heap.size) := hide (by rw [← HS.out]; exact hb1.size); clear hq hb1 kf))
 exact bodyPost_ret (v := .agg #[.int .i64 t, .int .i64 bs, .slice a1 n c1]) (by simp [results, Tryz.results48, go_sem, k0, k1, k2]) rfl ⟨_, W1, rfl, HQ.out, HZ.out, HB1.out, fun b i hb => by iterate 3 rw [World.cell?_setCell_other _ _ _ _ (fun e => hb (congrArg Addr.block e).symm)], ((HB1.out.setCell (by exact Nat.le_succ _) _).setCell (by exact Nat.le_succ _) _).setCell (by exact Nat.le_succ _) _⟩
theorem copy_any {okb ok : Nat → Prop} (x : Bt) (v : Value) (w : World) (hv : IsB okb ok w v x) (hn : x.rs.length ≤ 100000) (hln : ∀ r ∈ x.rs, LnR r) : Calls Tryz.prog 48 #[v] w fun e w' => ∃ u, e = .returned u ∧ IsB (fun b => w.heap.size ≤ b) (fun b => w.heap.size ≤ b) w' u x ∧ Below w.heap.size w w' := by
 obtain ⟨t, b, rs⟩ := x
 obtain ⟨a1, ps, rfl, h2, h3⟩ := hv
 simp only at h3 hn hln
 subst h3
 obtain ⟨ao, cap, rfl⟩ := h2.form
 refine (copy_go t b ao ps.length cap w (fun v W => IsB (fun b => w.heap.size + 2 ≤ b) (fun b => w.heap.size + 2 ≤ b) W v ⟨t, b, rcl ps⟩) (hide fun W h hz => ?_)).mono ?_
 ·refine (of_any t b _ ps W (h2.below h) (by rwa [rcl_len] at hn) (fun p hp => hln p.1 (List.mem_map.2 ⟨p, hp, rfl⟩))).mono ?_
  rintro e w' ⟨v, rfl, k1, k2⟩
  have k3 := k1
  obtain ⟨u, qs, rfl, k4, k5⟩ := k1
  obtain ⟨a, c, rfl⟩ := k4.form
  have hl : qs.length = ps.length := by rw [← rcl_len, ← rcl_len, k5]
  rw [hl] at k3 ⊢
  exact ⟨a, c, rfl, k3.imp (fun b _ q => by omega) (fun b _ q => by omega) (fun _ _ _ _ => rfl), k2⟩
 ·rintro e w' ⟨v, w1, rfl, h4, h5, h6, h7, h8⟩
  exact ⟨v, rfl, h4.imp (fun b _ q => by omega) (fun b _ q => by omega) (fun b i _ q => h7 b i (by omega)), h8⟩
structure Bq where
 t : Int
 b : Int
 u : Value
 ps : List Rp
def bce (q : Bq) : List Value := [.int .i64 q.t, .int .i64 q.b, q.u]
def bcs (qs : List Bq) : List Value := qs.flatMap bce
def btq (q : Bq) : Bt := ⟨q.t, q.b, rcl q.ps⟩
def bts (qs : List Bq) : List Bt := qs.map btq
theorem bcs_app (a c : List Bq) : bcs (a ++ c) = bcs a ++ bcs c := by unfold bcs; exact List.flatMap_append
theorem bcs_one (q : Bq) : bcs [q] = bce q := by simp [bcs]
theorem bcs_cons (q : Bq) (qs : List Bq) : bcs (q :: qs) = bce q ++ bcs qs := by simp [bcs]
theorem bcs_len (qs : List Bq) : (bcs qs).length = qs.length * 3 := by
 induction qs with
 | nil => rfl
 | cons p ps ih => rw [bcs_cons, List.length_append, ih, List.length_cons]; simp only [bce, List.length_cons, List.length_nil]; omega
theorem bcs_get : ∀ (qs : List Bq) (i : Nat) (h : i < qs.length) (j : Nat) (u : Value), (bce qs[i])[j]? = some u → (bcs qs)[i * 3 + j]? = some u
 | [], i, h, _, _, _ => by simp at h
 | p :: ps, 0, _, j, u, hj => by
  have hl : j < (bce p).length := (List.getElem?_eq_some_iff.1 hj).1
  rw [bcs_cons, Nat.zero_mul, Nat.zero_add, List.getElem?_append_left hl]
  exact hj
 | p :: ps, i + 1, h, j, u, hj => by
  have hl : (bce p).length = 3 := rfl
  rw [bcs_cons, List.getElem?_append_right (by rw [hl]; omega), hl, show (i + 1) * 3 + j - 3 = i * 3 + j by omega]
  exact bcs_get ps i (by simpa using h) j u hj
theorem infoBt : (Tryz.prog.info? 48).map (fun i => (i.zero, i.size, i.bytes)) = some (some (.agg #[.int .i64 0, .int .i64 0, .slice none 0 0]), 3, 40) := by kernel_rfl
theorem run_append_bt (w : World) (ty : TypeId) (C : Nat) (v : Value) (n : Nat) (xs : List Value) (hown : w.ownsRow C 48 3 v n xs) (hB : C ≤ w.heap.size) (ad : Addr) (c : Nat) (news : List Value) (hl : news.length = 3)
  (hnews : ∀ j u, news[j]? = some u → w.cell? (ad.add j) = some u) (h1 : ∀ u ∈ news, u.oneCell' = true) (hn : n + 1 ≤ 100000) :
  ∃ v' w', (Builtin.append_ #[24, 24] ty #[v, .slice (some ad) 1 c]).run Tryz.prog w = .ok v' w' ∧ w'.ownsRow C 48 3 v' (n + 1) (xs ++ news) ∧ w.grownBy w' v.ownBlock ∧ (v'.ownBlock = v.ownBlock ∨ v'.ownBlock = some w.heap.size) := by
 obtain ⟨i0, hi, hz0, hz1, hz2⟩ := info_parts infoBt
 obtain ⟨v', w', e, ho, hg, _, hb⟩ := run_append_own_at (P := Tryz.prog) w C 24 ty 48 i0 (.agg #[.int .i64 0, .int .i64 0, .slice none 0 0]) 3 40 Tryz.underlying24 hi hz0 hz1 hz2 rfl (by decide) v n xs hown ad 1 c news (by omega) hnews h1 (by unfold maxLen; omega) (by omega) hB
 exact ⟨v', w', e, ho, hg, hb⟩
theorem wpList_append_bt (w : World) {ops : Array Oper} {rest : List Oper} {o : Oper} {a : Act} {Q : Exit → Act → World → Prop} (hgd : o.guard = none) (s x : Operand)
  (ho : o.op = .call { callee := .builtin .append, args := #[s, x], argTypes := #[24, 24] }) (C : Nat) (u : Value) (n : Nat) (xs : List Value) (hs : a.eval s = u) (hown : w.ownsRow C 48 3 u n xs) (hB : C ≤ w.heap.size) (ad : Addr) (c : Nat) (news : List Value)
  (hx : a.eval x = .slice (some ad) 1 c) (hl : news.length = 3) (hnews : ∀ j u, news[j]? = some u → w.cell? (ad.add j) = some u) (h1 : ∀ u ∈ news, u.oneCell' = true) (hn : n + 1 ≤ 100000)
  (h : ∀ w' v', w'.ownsRow C 48 3 v' (n + 1) (xs ++ news) → w.grownBy w' u.ownBlock → (v'.ownBlock = u.ownBlock ∨ v'.ownBlock = some w.heap.size) → wpList Tryz.prog ops Q rest (a.put o.dst v') w') : wpList Tryz.prog ops Q (o :: rest) a w := by
 refine wpList_plain hgd fun K hK => ?_
 obtain ⟨v', w', hrun, q1, q2, q3⟩ := run_append_bt w o.type C u n xs hown hB ad c news hl hnews h1 hn
 unfold Oper.wp
 simp [execOp, ho, resolve, invoke, builtin, hs, hx, hrun, Result.andThen]
 exact hK _ _ (h w' v' q1 q2 q3)
structure Sx (w W : World) (y : Value) (qs : List Bq) : Prop where
 own : W.ownsRow w.heap.size 48 3 y qs.length (bcs qs)
 el : ∀ q ∈ qs, Rl (fun k => w.heap.size ≤ k ∧ y.ownBlock ≠ some k) (fun k => w.heap.size ≤ k ∧ y.ownBlock ≠ some k) W q.u q.ps
 be : Below w.heap.size w W
section
variable {w W W' : World} {y y' : Value} {qs : List Bq}
theorem Sx.below (h : Sx w W y qs) (hb : Below W.heap.size W W') : Sx w W' y qs :=
 ⟨owns_below h.own hb, fun q hq => (h.el q hq).below hb, h.be.trans (hb.mono h.be.size)⟩
theorem Sx.ob (h : Sx w W y qs) : ∀ g, y.ownBlock = some g → w.heap.size ≤ g ∧ g < W.heap.size := fun g hg => h.own.lt g hg
theorem Sx.app (h : Sx w W y qs) {q : Bq} (hq : Rl (fun k => w.heap.size ≤ k ∧ y.ownBlock ≠ some k) (fun k => w.heap.size ≤ k ∧ y.ownBlock ≠ some k) W q.u q.ps) (ho : W'.ownsRow w.heap.size 48 3 y' (qs.length + 1) (bcs qs ++ bce q)) (hg : W.grownBy W' y.ownBlock) (hu : y'.ownBlock = y.ownBlock ∨ y'.ownBlock = some W.heap.size) : Sx w W' y' (qs ++ [q]) := by
 have hc : ∀ k i, k < W.heap.size → y.ownBlock ≠ some k → W'.cell? ⟨k, i, none⟩ = W.cell? ⟨k, i, none⟩ := fun k i hk hn => World.cell?_of_block (hg.block k hk (fun e => hn e.symm))
 have hk : ∀ k, k < W.heap.size → w.heap.size ≤ k ∧ y.ownBlock ≠ some k → w.heap.size ≤ k ∧ y'.ownBlock ≠ some k := fun k hl hk => ⟨hk.1, by
  rcases hu with e | e
  ·rw [e]; exact hk.2
  ·rw [e]; intro q; cases q; omega⟩
 have hrow : ∀ r : Bq, Rl (fun k => w.heap.size ≤ k ∧ y.ownBlock ≠ some k) (fun k => w.heap.size ≤ k ∧ y.ownBlock ≠ some k) W r.u r.ps → Rl (fun k => w.heap.size ≤ k ∧ y'.ownBlock ≠ some k) (fun k => w.heap.size ≤ k ∧ y'.ownBlock ≠ some k) W' r.u r.ps := fun r hr => hr.imp hk hk (fun k i hl hk => hc k i hl (by rcases hk with q | q; (exact q.2); (exact q.2)))
 refine ⟨by rw [bcs_app, bcs_one, List.length_append]; exact ho, fun r hr => ?_, ⟨hg.os.trans h.be.os, hg.tape.trans h.be.tape, hg.output.trans h.be.output, Nat.le_trans h.be.size hg.size, fun k hk => (hg.block k (by have := h.be.size; omega) (fun e => by have := (h.ob k e.symm).1; omega)).trans (h.be.block k hk)⟩⟩
 rcases List.mem_append.1 hr with e | e
 ·exact hrow r (h.el r e)
 ·simp at e; subst e; exact hrow r hq
end
def Bl (W : World) (v : Value) (qs : List Bq) : Prop :=
 ((∃ ao cap, qs = [] ∧ v = .slice ao 0 cap) ∨ (∃ b o cap, v = .slice (some ⟨b, o, none⟩) qs.length cap ∧ qs.length ≤ cap ∧ 0 < qs.length ∧ W.rangeAt b o (bcs qs))) ∧ ∀ q ∈ qs, Rl (fun _ => True) (fun _ => True) W q.u q.ps
theorem Bl.below {W W' : World} {v : Value} {qs : List Bq} (h : Bl W v qs) (hb : Below W.heap.size W W') : Bl W' v qs := by
 refine ⟨?_, fun q hq => (h.2 q hq).below hb⟩
 rcases h.1 with h1 | ⟨b, o, cap, h1, h2, h3, h4⟩
 ·exact .inl h1
 ·exact .inr ⟨b, o, cap, h1, h2, h3, range_bel h4 hb⟩
theorem Bl.form {W : World} {v : Value} {qs : List Bq} (h : Bl W v qs) : ∃ ao cap, v = .slice ao qs.length cap := by
 rcases h.1 with ⟨ao, cap, rfl, rfl⟩ | ⟨b, o, cap, rfl, _⟩ <;> exact ⟨_, _, rfl⟩
theorem Sx.bl {w W : World} {y : Value} {qs : List Bq} (h : Sx w W y qs) : Bl W y qs := by
 refine ⟨?_, fun q hq => (h.el q hq).any⟩
 by_cases h0 : 0 < qs.length
 ·obtain ⟨g, cap, rfl, _, e2, _, e4, _⟩ := owns_range h.own h0
  exact .inr ⟨g, 0, cap, rfl, e2, h0, e4⟩
 ·have e : qs = [] := List.length_eq_zero_iff.1 (by omega)
  subst e
  rcases h.own.2 with ⟨rfl, _⟩ | ⟨g, cap, cur, rfl, _⟩ <;> exact .inl ⟨_, _, rfl, rfl⟩
theorem Sx.form {w W : World} {y : Value} {qs : List Bq} (h : Sx w W y qs) : ∃ ao cap, y = .slice ao qs.length cap := h.bl.form
theorem Rl.drop {okb ok : Nat → Prop} {W : World} {b o cap : Nat} {ps : List Rp} (h : Rl okb ok W (.slice (some ⟨b, o, none⟩) ps.length cap) ps) (j : Nat) (hj : j < ps.length) : Rl okb ok W (.slice (some ⟨b, o + j * 18, none⟩) (ps.length - j) (cap - j)) (ps.drop j) := by
 refine ⟨.inr ?_, fun p hp => h.2 p (List.mem_of_mem_drop hp)⟩
 rcases h.1 with ⟨_, _, e, _⟩ | ⟨b', o', c', e, h2, h3, h4, h5⟩
 ·subst e; simp at hj
 ·cases e
  refine ⟨b, o + j * 18, cap - j, by rw [List.length_drop], by rw [List.length_drop]; omega, h3, by rw [List.length_drop]; omega, ?_⟩
  have hr := h5
  rw [← List.take_append_drop j ps] at hr
  have := range_right hr
  rwa [List.length_take, Nat.min_eq_left (by omega)] at this
theorem Rl.take {okb ok : Nat → Prop} {W : World} {b o n cap : Nat} {ps : List Rp} (h : Rl okb ok W (.slice (some ⟨b, o, none⟩) n cap) ps) (hn : n = ps.length) (m : Nat) (hm : 0 < m) (hle : m ≤ ps.length) : Rl okb ok W (.slice (some ⟨b, o, none⟩) m cap) (ps.take m) := by
 subst hn
 refine ⟨.inr ?_, fun p hp => h.2 p (List.mem_of_mem_take hp)⟩
 rcases h.1 with ⟨_, _, e, _⟩ | ⟨b', o', c', e, h2, h3, h4, h5⟩
 ·subst e; simp at hle; omega
 ·cases e
  have hl : (ps.take m).length = m := by rw [List.length_take]; omega
  refine ⟨b, o, cap, by rw [hl], by omega, h3, by omega, ?_⟩
  have hr := h5
  rw [← List.take_append_drop m ps] at hr
  exact range_left hr
end Go.Proofs.YtjjpfajbljbelaaGreatDoor
