/-
  COPIES OF ROWS IN NEW MEMORY (slices.Clone of numbers and of records), AND A RECORD THAT GETS ROWS OF ITS OWN (batch.own). Conditions: the cells hold what is copied; no more than a hundred thousand.
  ROWS OF RECORDS THAT GROW, one record behind the other, and a batch in its cells that is being filled. Condition: fewer than a hundred thousand records.
  A BATCH AS BYTES (batch.Put): what the mathematics says. Conditions: the records' cells hold them, their texts are not too long.
-/
import Derived.Test.YtgbcjmpnkejpeaaGreatDoorJBatMa3
import Derived.Test.YtgbcjmpnkejpeaaGreatDoorJWnexta3
import Derived.Maps.AppendAt
import Derived.Deep.RegionHeld3
import Derived.Deep.DeepCutAuto
import Derived.Test.YtgbcjmpnkejpeaaGreatDoorJBatCk
import Derived.Test.YtgbcjmpnkejpeaaGreatDoorJRecPuta3
namespace Go.Proofs.YtgbcjmpnkejpeaaGreatDoor
open Go.RowKit

theorem nilI_yes (n cap : Nat) (w : World) : (binOp .eql 33 (.slice none n cap) (.slice none 0 0)).run Tryz.prog w = .ok (.bool true) w := by kernel_rfl
theorem nilI_no (a : Addr) (n cap : Nat) (w : World) : (binOp .eql 33 (.slice (some a) n cap) (.slice none 0 0)).run Tryz.prog w = .ok (.bool false) w := by kernel_rfl
theorem nilR_yes (n cap : Nat) (w : World) : (binOp .eql 46 (.slice none n cap) (.slice none 0 0)).run Tryz.prog w = .ok (.bool true) w := by kernel_rfl
theorem nilR_no (a : Addr) (n cap : Nat) (w : World) : (binOp .eql 46 (.slice (some a) n cap) (.slice none 0 0)).run Tryz.prog w = .ok (.bool false) w := by kernel_rfl
theorem infoR : (Tryz.prog.info? 35).map (fun i => (i.zero, i.size, i.bytes)) = some (some (.agg #[.int .i64 0, .int .i64 0, .int .i64 0, .int .i64 0, .int .i64 0, .int .i64 0, .int .i64 0, .int .i64 0, .int .i64 0, .bool false, .string ⟨#[]⟩, .string ⟨#[]⟩, .string ⟨#[]⟩, .string ⟨#[]⟩, .slice none 0 0, .slice none 0 0, .slice none 0 0, .slice none 0 0]), 18, 240) := by kernel_rfl
set_option maxRecDepth 100000 in
set_option maxHeartbeats 4000000 in
theorem cloneI_zero (ao : Option Addr) (cap : Nat) (w : World) : Calls Tryz.prog 106 #[.slice ao 0 cap] w fun e w' => (∃ ao c, e = .returned (.slice ao 0 c)) ∧ Below w.heap.size w w' := by
  have e1 := nilI_yes
  have e2 := nilI_no
  cases ao with
  | none =>
    go_enter Tryz.func106, Tryz.ntmps106
    go_wp2
    go_ret
    exact ⟨⟨_, _, rfl⟩, Below.refl _ _⟩
  | some a =>
    go_enter Tryz.func106, Tryz.ntmps106
    go_wp2
    go_ret
    exact ⟨⟨_, _, rfl⟩, (Below.refl _ _).alloc (Nat.le_refl _) _⟩
set_option maxRecDepth 100000 in
set_option maxHeartbeats 4000000 in
theorem cloneI_some (b o cap : Nat) (l : List Int) (w : World) (hl : l.length ≤ 100000) (h3 : ∀ i (h : i < l.length), w.cell? ⟨b, o + i, none⟩ = some (ic l[i])) :
    Calls Tryz.prog 106 #[.slice (some ⟨b, o, none⟩) l.length cap] w fun e w' => ∃ v, e = .returned v ∧ w'.ownsRow w.heap.size 3 1 v l.length (l.map ic) ∧ Below w.heap.size w w' := by
  obtain ⟨i0, hi, hz0, hz1, hz2⟩ := info_parts infoI
  have H3 := hide h3
  clear h3
  have hown := owns_new w [] 3 (by decide)
  have HN := hide (Sl.news (f := ic) (w := w.alloc (.cells #[] 3)) (b := b) (o := o) (l := l) fun i hi => by rw [World.cell?_alloc_lt _ _ _ (cell_block (H3.out i hi))]; exact H3.out i hi)
  have e2 := nilI_no
  go_enter Tryz.func106, Tryz.ntmps106
  go_wp2_with (first
    | (at_builtin; refine wpList_append_own _ rfl _ _ 33 rfl w.heap.size 3 i0 (.int .i64 0) 1 8 Tryz.underlying33 hi hz0 hz1 hz2 rfl (by decide) _ _ _ rfl hown ⟨b, o, none⟩ l.length cap (l.map ic) rfl (by simp) HN.out (Sl.one (fun _ => rfl) l) ?c3 ?c4 ?c5 ?_))
  case c3 => unfold maxLen; simp; omega
  case c4 => simp; omega
  case c5 => simp
  · intro v' w2 hown' hgrow _
    have hB : Below w.heap.size w w2 := ((Below.refl _ _).alloc (Nat.le_refl _) _).grown hgrow (by simp) (fun j hj => (hown.lt j hj).1)
    have HO := hide hown'
    clear hown' hgrow hown
    go_wp2
    go_ret
    exact ⟨v', rfl, by simpa using HO.out, hB⟩
theorem cloneI_any (v : Value) (l : List Int) (w : World) (hv : Sl ic w v l) (hl : l.length ≤ 100000) : Calls Tryz.prog 106 #[v] w fun e w' => ∃ ao cap, e = .returned (.slice ao l.length cap) ∧ Sli (fun b => w.heap.size ≤ b) w' (.slice ao l.length cap) l ∧ Below w.heap.size w w' := by
  rcases hv with ⟨ao, cap, rfl, rfl⟩ | ⟨b, o, cap, rfl, _, h3⟩
  · refine (cloneI_zero ao cap w).mono ?_
    rintro e w' ⟨⟨ao', c', rfl⟩, hb⟩
    exact ⟨ao', c', rfl, Sli.nil _ _ _ _, hb⟩
  · refine (cloneI_some b o cap l w hl h3).mono ?_
    rintro e w' ⟨v, rfl, ho, hb⟩
    rcases sld_of_owns 0 ho with ⟨ao', c', rfl, rfl⟩ | ⟨b', o', c', e1, e2, e3, e4⟩
    · exact ⟨ao', c', rfl, Sli.nil _ _ _ _, hb⟩
    · exact ⟨_, _, by rw [e1], .inr ⟨b', o', c', rfl, e2, by omega, e4⟩, hb⟩
set_option maxRecDepth 100000 in
set_option maxHeartbeats 4000000 in
theorem cloneR_zero (ao : Option Addr) (cap : Nat) (w : World) : Calls Tryz.prog 65 #[.slice ao 0 cap] w fun e w' => (∃ ao c, e = .returned (.slice ao 0 c)) ∧ Below w.heap.size w w' := by
  have e1 := nilR_yes
  have e2 := nilR_no
  cases ao with
  | none =>
    go_enter Tryz.func65, Tryz.ntmps65
    go_wp2
    go_ret
    exact ⟨⟨_, _, rfl⟩, Below.refl _ _⟩
  | some a =>
    go_enter Tryz.func65, Tryz.ntmps65
    go_wp2
    go_ret
    exact ⟨⟨_, _, rfl⟩, (Below.refl _ _).alloc (Nat.le_refl _) _⟩
theorem owns_new18 (w : World) : (w.alloc (.cells #[] 35)).ownsRow w.heap.size 35 18 (.slice (some ⟨w.heap.size, 0, none⟩) 0 0) 0 [] :=
  ⟨by simp, .inr ⟨w.heap.size, 0, #[], rfl, Nat.le_refl _, Array.getElem?_push_size, Nat.le_refl _, Nat.zero_le _, by simp, by simp⟩⟩
/-- A row's cells as the source of an append. -/
theorem range_news {w : World} {b o : Nat} {cs : List Value} (h : w.rangeAt b o cs) : ∀ j u, cs[j]? = some u → w.cell? ((⟨b, o, none⟩ : Addr).add j) = some u := fun j u hj => by
  rw [Addr.add_lit]; exact h j u hj
set_option maxRecDepth 100000 in
set_option maxHeartbeats 4000000 in
theorem cloneR_some (b o cap : Nat) (ps : List Rp) (w : World) (hl : ps.length ≤ 100000) (h3 : w.rangeAt b o (rcs ps)) :
    Calls Tryz.prog 65 #[.slice (some ⟨b, o, none⟩) ps.length cap] w fun e w' => ∃ v, e = .returned v ∧ w'.ownsRow w.heap.size 35 18 v ps.length (rcs ps) ∧ Below w.heap.size w w' := by
  obtain ⟨i0, hi, hz0, hz1, hz2⟩ := info_parts infoR
  have hown := owns_new18 w
  have HN := hide (range_news (range_bel h3 ((Below.refl _ _).alloc (Nat.le_refl _) (.cells #[] 35))))
  have HLN := hide (rcs_len ps)
  have HON := hide (rcs_all ps)
  clear h3
  have e2 := nilR_no
  generalize rcs ps = cs at *
  go_enter Tryz.func65, Tryz.ntmps65
  go_wp2_with (first
    | (at_builtin; refine wpList_append_own _ rfl _ _ 46 rfl w.heap.size 35 i0 (.agg #[.int .i64 0, .int .i64 0, .int .i64 0, .int .i64 0, .int .i64 0, .int .i64 0, .int .i64 0, .int .i64 0, .int .i64 0, .bool false, .string ⟨#[]⟩, .string ⟨#[]⟩, .string ⟨#[]⟩, .string ⟨#[]⟩, .slice none 0 0, .slice none 0 0, .slice none 0 0, .slice none 0 0]) 18 240 Tryz.underlying46 hi hz0 hz1 hz2 rfl (by decide) _ _ _ rfl hown ⟨b, o, none⟩ ps.length cap cs rfl HLN.out HN.out HON.out ?c3 ?c4 ?c5 ?_))
  case c3 => unfold maxLen; omega
  case c4 => omega
  case c5 => simp
  · intro v' w2 hown' hgrow _
    have hB : Below w.heap.size w w2 := ((Below.refl _ _).alloc (Nat.le_refl _) _).grown hgrow (by simp) (fun j hj => (hown.lt j hj).1)
    have HO := hide hown'
    clear hown' hgrow hown
    go_wp2
    go_ret
    exact ⟨v', rfl, by simpa using HO.out, hB⟩
/-- What lies in a row that is owned. -/
theorem owns_range {w : World} {base : Nat} {e : TypeId} {v : Value} {n size : Nat} {xs : List Value} (h : w.ownsRow base e size v n xs) (hn : 0 < n) : ∃ g cap, v = .slice (some ⟨g, 0, none⟩) n cap ∧ base ≤ g ∧ n ≤ cap ∧ g < w.heap.size ∧ w.rangeAt g 0 xs ∧ ∀ i, w.frozen? ⟨g, i, none⟩ = false := by
  obtain ⟨h1, h2⟩ := h
  rcases h2 with ⟨rfl, rfl⟩ | ⟨g, cap, cur, rfl, a2, a3, a4, a5, a6, a7⟩
  · simp at hn
  · refine ⟨g, cap, rfl, a2, a4, (Array.getElem?_eq_some_iff.1 a3).1, fun j u hj => ?_, fun i => ?_⟩
    · have hj' : cur.toList[j]? = some u := by
        rw [← a7, List.getElem?_take] at hj
        split at hj
        · exact hj
        · simp at hj
      simp only [World.cell?, a3, Nat.zero_add]
      simpa using hj'
    · simp [World.frozen?, a3]
theorem cloneR_any {okb ok : Nat → Prop} (ao : Option Addr) (cap : Nat) (ps : List Rp) (w : World) (hv : Rl okb ok w (.slice ao ps.length cap) ps) (hl : ps.length ≤ 100000) : Calls Tryz.prog 65 #[.slice ao ps.length cap] w fun e w' => ∃ a' c', e = .returned (.slice a' ps.length c') ∧ (0 < ps.length → ∃ g, a' = some ⟨g, 0, none⟩ ∧ ps.length ≤ c' ∧ w.heap.size ≤ g ∧ g < w'.heap.size ∧ w'.rangeAt g 0 (rcs ps) ∧ ∀ i, w'.frozen? ⟨g, i, none⟩ = false) ∧ Below w.heap.size w w' := by
  by_cases h0 : 0 < ps.length
  · obtain ⟨b, o, rfl, h3⟩ := hv.rg h0
    refine (cloneR_some b o cap ps w hl h3).mono ?_
    rintro e w' ⟨v, rfl, ho, hb⟩
    obtain ⟨g, c', rfl, h1, h2, h4, h5, h6⟩ := owns_range ho h0
    exact ⟨_, _, rfl, fun _ => ⟨g, rfl, h2, h1, h4, h5, h6⟩, hb⟩
  · have e : ps = [] := List.length_eq_zero_iff.1 (by omega)
    subst e
    refine (cloneR_zero ao cap w).mono ?_
    rintro e w' ⟨⟨a', c', rfl⟩, hb⟩
    exact ⟨a', c', rfl, fun q => by simp at q, hb⟩
/-- A record in its cells within a row; what else lies in that row stays. -/
structure Ob (g o : Nat) (w W : World) (p : Rp) : Prop where
  rg : W.rangeAt g o (cel p)
  fz : ∀ i, W.frozen? ⟨g, i, none⟩ = false
  out : ∀ i, i < o ∨ o + 18 ≤ i → W.cell? ⟨g, i, none⟩ = w.cell? ⟨g, i, none⟩
  bx : Bx g w W
theorem Ob.lt {g o : Nat} {w W : World} {p : Rp} (h : Ob g o w W p) : g < W.heap.size := cell_block (h.rg 0 _ rfl)
theorem Ob.below {g o : Nat} {w W W' : World} {p : Rp} (h : Ob g o w W p) (hb : Below W.heap.size W W') : Ob g o w W' p :=
  have hl := h.lt
  ⟨range_bel h.rg hb, fun i => (hb.frozen (p := ⟨g, i, none⟩) hl).trans (h.fz i), fun i hi => (hb.cell (p := ⟨g, i, none⟩) hl).trans (h.out i hi), h.bx.call hb⟩
theorem Ob.set {g o : Nat} {w W : World} {p p' : Rp} (h : Ob g o w W p) (k : Nat) (x : Value) (hk : k < 18) (hp : cel p' = (cel p).set k x) : Ob g o w (W.setCell ⟨g, o + k, none⟩ x) p' := by
  have hkl : k < (cel p).length := hk
  refine ⟨fun j u hu => ?_, fun i => by simp [h.fz i], fun i hi => ?_, h.bx.set _ _⟩
  · rw [hp] at hu
    by_cases e : k = j
    · subst e
      rw [List.getElem?_set_self hkl] at hu
      cases hu
      exact World.cell?_setCell_same _ _ _ (h.rg k _ (List.getElem?_eq_getElem hkl))
    · rw [List.getElem?_set_ne e] at hu
      rw [World.cell?_setCell_other _ _ _ _ (fun q => e (by have := congrArg Addr.off q; simp at this; exact this))]
      exact h.rg j u hu
  · rw [World.cell?_setCell_other _ _ _ _ (fun q => by have := congrArg Addr.off q; simp at this; omega)]
    exact h.out i hi
set_option maxRecDepth 100000 in
set_option maxHeartbeats 16000000 in
theorem own_any (g o : Nat) (p : Rp) (w : World) (hrg : w.rangeAt g o (cel p)) (hfz : ∀ i, w.frozen? ⟨g, i, none⟩ = false) (hrw : RwP (fun b => b ≠ g) w p) (hln : LnR p.1) :
    Calls Tryz.prog 66 #[.pointer (some ⟨g, o, none⟩)] w fun e w' => e = .returned (.tuple #[]) ∧ ∃ p' : Rp, p'.1 = p.1 ∧ Ob g o w w' p' ∧ RwP (fun b => w.heap.size ≤ b) w' p' := by
  have HO : Hid (Ob g o w w p) := hide ⟨hrg, hfz, fun _ _ => rfl, Bx.refl _ _⟩
  have HW := hide hrw
  have HL := hide hln
  have hgl : g < w.heap.size := HO.out.lt
  clear hrg hfz hrw hln
  obtain ⟨r, ⟨a14, a15, a16, a17, c14, c15, c16, c17⟩⟩ := p
  go_enter Tryz.func66, Tryz.ntmps66
  have hc : w.cell? ⟨g, o + 14, none⟩ = some (.slice a14 r.ids.length c14) := HO.out.rg 14 _ rfl
  have HC := hide (cloneI_any (.slice a14 r.ids.length c14) r.ids w ((HW.out.h14.imp (ok' := fun b => b ≠ g) (fun _ _ q => q) (fun b i hl q => HO.out.bx.cell hl q)).sl) HL.out.ids)
  go_upto_region 1 with (first | (go_at_call 106; refine HC.out.mono ?_; rintro e V0 ⟨e14, d14, rfl, hs, hb⟩; have HO1 := hide (HO.out.below hb); have HS14 := hide hs; have HB := hide hb; clear hs hb; have hc1 : V0.cell? ⟨g, o + 14, none⟩ = some (.slice a14 r.ids.length c14) := HO1.out.rg 14 _ rfl; have hf1 := HO1.out.fz (o + 14)))
  have HO2 := hide (HO1.out.set (p' := (r, ⟨e14, a15, a16, a17, d14, c15, c16, c17⟩)) 14 (.slice e14 r.ids.length d14) (by decide) rfl)
  have hgV : g < V0.heap.size := HO1.out.lt
  have hz0 : w.heap.size ≤ w.heap.size := HO.out.bx.size
  replace HS14 := hide (HS14.out.imp (ok' := fun b => w.heap.size ≤ b) (W' := V0.setCell ⟨g, o + 14, none⟩ (.slice e14 r.ids.length d14)) (fun _ _ q => by omega) (fun b i _ q => World.cell?_setCell_other _ _ _ _ (fun e => by have := congrArg Addr.block e; simp at this; omega)))
  generalize V0.setCell ⟨g, o + 14, none⟩ (.slice e14 r.ids.length d14) = U0 at HO2 HS14 ⊢
  clear hc hc1 hf1 HC HB HO HO1 hgV
  have HO := HO2
  clear HO2
  have hc : U0.cell? ⟨g, o + 15, none⟩ = some (.slice a15 r.isr.length c15) := HO.out.rg 15 _ rfl
  have HC := hide (cloneI_any (.slice a15 r.isr.length c15) r.isr U0 ((HW.out.h15.imp (ok' := fun b => b ≠ g) (fun _ _ q => q) (fun b i hl q => HO.out.bx.cell hl q)).sl) HL.out.isr)
  go_upto_region 2 with (first | (go_at_call 106; refine HC.out.mono ?_; rintro e V1 ⟨e15, d15, rfl, hs, hb⟩; have HO1 := hide (HO.out.below hb); have HS15 := hide hs; have HB := hide hb; clear hs hb; have hc1 : V1.cell? ⟨g, o + 15, none⟩ = some (.slice a15 r.isr.length c15) := HO1.out.rg 15 _ rfl; have hf1 := HO1.out.fz (o + 15)))
  have HO2 := hide (HO1.out.set (p' := (r, ⟨e14, e15, a16, a17, d14, d15, c16, c17⟩)) 15 (.slice e15 r.isr.length d15) (by decide) rfl)
  have hgV : g < V1.heap.size := HO1.out.lt
  replace HS14 := hide ((HS14.out.below HB.out).imp (ok' := fun b => w.heap.size ≤ b) (W' := V1.setCell ⟨g, o + 15, none⟩ (.slice e15 r.isr.length d15)) (fun _ _ q => q) (fun b i _ q => World.cell?_setCell_other _ _ _ _ (fun e => by have := congrArg Addr.block e; simp at this; omega)))
  have hz1 : w.heap.size ≤ U0.heap.size := HO.out.bx.size
  replace HS15 := hide (HS15.out.imp (ok' := fun b => w.heap.size ≤ b) (W' := V1.setCell ⟨g, o + 15, none⟩ (.slice e15 r.isr.length d15)) (fun _ _ q => by omega) (fun b i _ q => World.cell?_setCell_other _ _ _ _ (fun e => by have := congrArg Addr.block e; simp at this; omega)))
  generalize V1.setCell ⟨g, o + 15, none⟩ (.slice e15 r.isr.length d15) = U1 at HO2 HS14 HS15 ⊢
  clear hc hc1 hf1 HC HB HO HO1 hgV
  have HO := HO2
  clear HO2
  have hc : U1.cell? ⟨g, o + 16, none⟩ = some (.slice a16 r.ad.length c16) := HO.out.rg 16 _ rfl
  have HC := hide (cloneI_any (.slice a16 r.ad.length c16) r.ad U1 ((HW.out.h16.imp (ok' := fun b => b ≠ g) (fun _ _ q => q) (fun b i hl q => HO.out.bx.cell hl q)).sl) HL.out.ad)
  go_upto_region 3 with (first | (go_at_call 106; refine HC.out.mono ?_; rintro e V2 ⟨e16, d16, rfl, hs, hb⟩; have HO1 := hide (HO.out.below hb); have HS16 := hide hs; have HB := hide hb; clear hs hb; have hc1 : V2.cell? ⟨g, o + 16, none⟩ = some (.slice a16 r.ad.length c16) := HO1.out.rg 16 _ rfl; have hf1 := HO1.out.fz (o + 16)))
  have HO2 := hide (HO1.out.set (p' := (r, ⟨e14, e15, e16, a17, d14, d15, d16, c17⟩)) 16 (.slice e16 r.ad.length d16) (by decide) rfl)
  have hgV : g < V2.heap.size := HO1.out.lt
  replace HS14 := hide ((HS14.out.below HB.out).imp (ok' := fun b => w.heap.size ≤ b) (W' := V2.setCell ⟨g, o + 16, none⟩ (.slice e16 r.ad.length d16)) (fun _ _ q => q) (fun b i _ q => World.cell?_setCell_other _ _ _ _ (fun e => by have := congrArg Addr.block e; simp at this; omega)))
  replace HS15 := hide ((HS15.out.below HB.out).imp (ok' := fun b => w.heap.size ≤ b) (W' := V2.setCell ⟨g, o + 16, none⟩ (.slice e16 r.ad.length d16)) (fun _ _ q => q) (fun b i _ q => World.cell?_setCell_other _ _ _ _ (fun e => by have := congrArg Addr.block e; simp at this; omega)))
  have hz2 : w.heap.size ≤ U1.heap.size := HO.out.bx.size
  replace HS16 := hide (HS16.out.imp (ok' := fun b => w.heap.size ≤ b) (W' := V2.setCell ⟨g, o + 16, none⟩ (.slice e16 r.ad.length d16)) (fun _ _ q => by omega) (fun b i _ q => World.cell?_setCell_other _ _ _ _ (fun e => by have := congrArg Addr.block e; simp at this; omega)))
  generalize V2.setCell ⟨g, o + 16, none⟩ (.slice e16 r.ad.length d16) = U2 at HO2 HS14 HS15 HS16 ⊢
  clear hc hc1 hf1 HC HB HO HO1 hgV
  have HO := HO2
  clear HO2
  have hc : U2.cell? ⟨g, o + 17, none⟩ = some (.slice a17 r.dr.length c17) := HO.out.rg 17 _ rfl
  have HC := hide (cloneI_any (.slice a17 r.dr.length c17) r.dr U2 ((HW.out.h17.imp (ok' := fun b => b ≠ g) (fun _ _ q => q) (fun b i hl q => HO.out.bx.cell hl q)).sl) HL.out.dr)
  go_wp2_with (first | (go_at_call 106; refine HC.out.mono ?_; rintro e V3 ⟨e17, d17, rfl, hs, hb⟩; have HO1 := hide (HO.out.below hb); have HS17 := hide hs; have HB := hide hb; clear hs hb; have hc1 : V3.cell? ⟨g, o + 17, none⟩ = some (.slice a17 r.dr.length c17) := HO1.out.rg 17 _ rfl; have hf1 := HO1.out.fz (o + 17)))
  have HO2 := hide (HO1.out.set (p' := (r, ⟨e14, e15, e16, e17, d14, d15, d16, d17⟩)) 17 (.slice e17 r.dr.length d17) (by decide) rfl)
  have hgV : g < V3.heap.size := HO1.out.lt
  replace HS14 := hide ((HS14.out.below HB.out).imp (ok' := fun b => w.heap.size ≤ b) (W' := V3.setCell ⟨g, o + 17, none⟩ (.slice e17 r.dr.length d17)) (fun _ _ q => q) (fun b i _ q => World.cell?_setCell_other _ _ _ _ (fun e => by have := congrArg Addr.block e; simp at this; omega)))
  replace HS15 := hide ((HS15.out.below HB.out).imp (ok' := fun b => w.heap.size ≤ b) (W' := V3.setCell ⟨g, o + 17, none⟩ (.slice e17 r.dr.length d17)) (fun _ _ q => q) (fun b i _ q => World.cell?_setCell_other _ _ _ _ (fun e => by have := congrArg Addr.block e; simp at this; omega)))
  replace HS16 := hide ((HS16.out.below HB.out).imp (ok' := fun b => w.heap.size ≤ b) (W' := V3.setCell ⟨g, o + 17, none⟩ (.slice e17 r.dr.length d17)) (fun _ _ q => q) (fun b i _ q => World.cell?_setCell_other _ _ _ _ (fun e => by have := congrArg Addr.block e; simp at this; omega)))
  have hz3 : w.heap.size ≤ U2.heap.size := HO.out.bx.size
  replace HS17 := hide (HS17.out.imp (ok' := fun b => w.heap.size ≤ b) (W' := V3.setCell ⟨g, o + 17, none⟩ (.slice e17 r.dr.length d17)) (fun _ _ q => by omega) (fun b i _ q => World.cell?_setCell_other _ _ _ _ (fun e => by have := congrArg Addr.block e; simp at this; omega)))
  generalize V3.setCell ⟨g, o + 17, none⟩ (.slice e17 r.dr.length d17) = U3 at HO2 HS14 HS15 HS16 HS17 ⊢
  clear hc hc1 hf1 HC HB HO HO1 hgV
  have HO := HO2
  clear HO2
  exact bodyPost_end (v := .tuple #[]) (by simp [results, Tryz.results66]) rfl ⟨rfl, _, rfl, HO.out, ⟨HS14.out, HS15.out, HS16.out, HS17.out⟩⟩
end Go.Proofs.YtgbcjmpnkejpeaaGreatDoor
namespace Go.Proofs.YtgbcjmpnkejpeaaGreatDoor
open Go.RowKit

theorem build_one (q : Rp) (W : World) : (Instr.buildSlice 46 1 #[(0, .agg (cel q).toArray)]).run Tryz.prog W = .ok (.slice (some ⟨W.heap.size, 0, none⟩) 1 1) (W.alloc (.cells (cel q).toArray 35)) := by
  obtain ⟨r, pl⟩ := q
  kernel_rfl
theorem run_append_rc (w : World) (ty : TypeId) (B : Nat) (v : Value) (n : Nat) (xs : List Value) (hown : w.ownsRow B 35 18 v n xs) (hB : B ≤ w.heap.size) (ad : Addr) (c : Nat) (news : List Value) (hl : news.length = 18)
    (hnews : ∀ j u, news[j]? = some u → w.cell? (ad.add j) = some u) (h1 : ∀ u ∈ news, u.oneCell' = true) (hn : n + 1 ≤ 100000) :
    ∃ v' w', (Builtin.append_ #[46, 46] ty #[v, .slice (some ad) 1 c]).run Tryz.prog w = .ok v' w' ∧ w'.ownsRow B 35 18 v' (n + 1) (xs ++ news) ∧ w.grownBy w' v.ownBlock ∧ (v'.ownBlock = v.ownBlock ∨ v'.ownBlock = some w.heap.size) := by
  obtain ⟨i0, hi, hz0, hz1, hz2⟩ := info_parts infoR
  obtain ⟨v', w', e, ho, hg, _, hb⟩ := run_append_own_at (P := Tryz.prog) w B 46 ty 35 i0 (.agg #[.int .i64 0, .int .i64 0, .int .i64 0, .int .i64 0, .int .i64 0, .int .i64 0, .int .i64 0, .int .i64 0, .int .i64 0, .bool false, .string ⟨#[]⟩, .string ⟨#[]⟩, .string ⟨#[]⟩, .string ⟨#[]⟩, .slice none 0 0, .slice none 0 0, .slice none 0 0, .slice none 0 0]) 18 240 Tryz.underlying46 hi hz0 hz1 hz2 rfl (by decide) v n xs hown ad 1 c news (by omega) hnews h1 (by unfold maxLen; omega) (by omega) hB
  exact ⟨v', w', e, ho, hg, hb⟩
theorem step_append_rc {ops : Array Oper} {o : Oper} {a : Act} {w : World} {K : Act → World → Prop} {Q : Exit → Act → World → Prop} {E : Prop} (hg : o.guard = none) (s x : Operand)
    (ho : o.op = .call { callee := .builtin .append, args := #[s, x], argTypes := #[46, 46] }) (B : Nat) (u : Value) (n : Nat) (xs : List Value) (hs : a.eval s = u) (hown : w.ownsRow B 35 18 u n xs) (hB : B ≤ w.heap.size) (ad : Addr) (c : Nat) (news : List Value)
    (hx : a.eval x = .slice (some ad) 1 c) (hl : news.length = 18) (hnews : ∀ j u, news[j]? = some u → w.cell? (ad.add j) = some u) (h1 : ∀ u ∈ news, u.oneCell' = true) (hn : n + 1 ≤ 100000)
    (h : ∀ w' v', w'.ownsRow B 35 18 v' (n + 1) (xs ++ news) → w.grownBy w' u.ownBlock → (v'.ownBlock = u.ownBlock ∨ v'.ownBlock = some w.heap.size) → K (a.put o.dst v') w') : if Region.wanted o (yielded ops a.tmps) = true then Oper.wp Tryz.prog o a w K Q else E := by
  have hw : Region.wanted o (yielded ops a.tmps) = true := by simp [Region.wanted, hg]
  rw [if_pos hw]
  obtain ⟨v', w', hrun, q1, q2, q3⟩ := run_append_rc w o.type B u n xs hown hB ad c news hl hnews h1 hn
  unfold Oper.wp
  simp [execOp, ho, resolve, invoke, builtin, hs, hx, hrun, Result.andThen]
  exact h w' v' q1 q2 q3
theorem step_build_rc {ops : Array Oper} {o : Oper} {a : Act} {w : World} {K : Act → World → Prop} {Q : Exit → Act → World → Prop} {E : Prop} (hg : o.guard = none) (x : Operand) (ho : o.op = .buildSlice 46 1 #[(0, x)]) (q : Rp) (hx : a.eval x = .agg (cel q).toArray)
    (h : K (a.put o.dst (.slice (some ⟨w.heap.size, 0, none⟩) 1 1)) (w.alloc (.cells (cel q).toArray 35))) : if Region.wanted o (yielded ops a.tmps) = true then Oper.wp Tryz.prog o a w K Q else E := by
  have hw : Region.wanted o (yielded ops a.tmps) = true := by simp [Region.wanted, hg]
  rw [if_pos hw]
  have hb := build_one q w
  unfold Oper.wp
  simp only [execOp, ho, List.map_toArray, List.map_cons, List.map_nil, hx]
  simp [hb, Result.andThen]
  exact h
theorem wpList_append_rc (w : World) {ops : Array Oper} {rest : List Oper} {o : Oper} {a : Act} {Q : Exit → Act → World → Prop} (hgd : o.guard = none) (s x : Operand)
    (ho : o.op = .call { callee := .builtin .append, args := #[s, x], argTypes := #[46, 46] }) (B : Nat) (u : Value) (n : Nat) (xs : List Value) (hs : a.eval s = u) (hown : w.ownsRow B 35 18 u n xs) (hB : B ≤ w.heap.size) (ad : Addr) (c : Nat) (news : List Value)
    (hx : a.eval x = .slice (some ad) 1 c) (hl : news.length = 18) (hnews : ∀ j u, news[j]? = some u → w.cell? (ad.add j) = some u) (h1 : ∀ u ∈ news, u.oneCell' = true) (hn : n + 1 ≤ 100000)
    (h : ∀ w' v', w'.ownsRow B 35 18 v' (n + 1) (xs ++ news) → w.grownBy w' u.ownBlock → (v'.ownBlock = u.ownBlock ∨ v'.ownBlock = some w.heap.size) → wpList Tryz.prog ops Q rest (a.put o.dst v') w') : wpList Tryz.prog ops Q (o :: rest) a w := by
  refine wpList_plain hgd fun K hK => ?_
  obtain ⟨v', w', hrun, q1, q2, q3⟩ := run_append_rc w o.type B u n xs hown hB ad c news hl hnews h1 hn
  unfold Oper.wp
  simp [execOp, ho, resolve, invoke, builtin, hs, hx, hrun, Result.andThen]
  exact hK _ _ (h w' v' q1 q2 q3)
/-- A batch that is being filled: its result's cells at R, its own at X, its records in a row that grows, all but the block p as it was. -/
structure Nx (w : World) (p : Nat) (W : World) (t b : Int) (u : Value) (ps : List Rp) : Prop where
  own : W.ownsRow (w.heap.size + 2) 35 18 u ps.length (rcs ps)
  rw : ∀ q ∈ ps, RwP (fun k => w.heap.size + 2 ≤ k ∧ u.ownBlock ≠ some k) W q
  x0 : W.cell? ⟨w.heap.size + 1, 0, none⟩ = some (.int .i64 t)
  x1 : W.cell? ⟨w.heap.size + 1, 1, none⟩ = some (.int .i64 b)
  x2 : W.cell? ⟨w.heap.size + 1, 2, none⟩ = some u
  xf : ∀ i, W.frozen? ⟨w.heap.size + 1, i, none⟩ = false
  r0 : W.cell? ⟨w.heap.size, 0, none⟩ = some (.int .i64 0)
  r1 : W.cell? ⟨w.heap.size, 1, none⟩ = some (.int .i64 0)
  r2 : W.cell? ⟨w.heap.size, 2, none⟩ = some (.slice none 0 0)
  rf : ∀ i, W.frozen? ⟨w.heap.size, i, none⟩ = false
  bx : Bx p w W
  hp : p < w.heap.size
section
variable {w W W' : World} {p : Nat} {t b t' b' : Int} {u u' : Value} {ps : List Rp}
theorem Nx.sz (h : Nx w p W t b u ps) : w.heap.size + 1 < W.heap.size := cell_block h.x0
theorem Nx.ob (h : Nx w p W t b u ps) : ∀ g, u.ownBlock = some g → w.heap.size + 2 ≤ g ∧ g < W.heap.size := fun g hg => h.own.lt g hg
theorem owns_bxp {B : Nat} {e : TypeId} {n size : Nat} {xs : List Value} (h : W.ownsRow B e size u n xs) (hb : Bx p W W') (hp : p < B) : W'.ownsRow B e size u n xs := by
  obtain ⟨h1, h2⟩ := h
  refine ⟨h1, ?_⟩
  rcases h2 with h2 | ⟨g, cap, cur, a1, a2, a3, a4⟩
  · exact .inl h2
  · refine .inr ⟨g, cap, cur, a1, a2, ?_, a4⟩
    rw [hb.block g (Array.getElem?_eq_some_iff.1 a3).1 (by omega)]
    exact a3
theorem Nx.step (h : Nx w p W t b u ps) (hb : Bx p W W') : Nx w p W' t b u ps := by
  have hz := h.sz
  have hX : w.heap.size + 1 ≠ p := by have := h.hp; omega
  have hR : w.heap.size ≠ p := by have := h.hp; omega
  have cX : ∀ i, W'.cell? ⟨w.heap.size + 1, i, none⟩ = W.cell? ⟨w.heap.size + 1, i, none⟩ := fun i => hb.cell hz hX
  have cR : ∀ i, W'.cell? ⟨w.heap.size, i, none⟩ = W.cell? ⟨w.heap.size, i, none⟩ := fun i => hb.cell (by omega) hR
  exact ⟨owns_bxp h.own hb (by have := h.hp; omega), fun q hq => (h.rw q hq).imp (fun _ _ k => k) (fun k i hl hk => hb.cell hl (by have := h.hp; have := hk.1; omega)), by rw [cX]; exact h.x0, by rw [cX]; exact h.x1, by rw [cX]; exact h.x2, fun i => by rw [hb.frozen hz hX]; exact h.xf i, by rw [cR]; exact h.r0, by rw [cR]; exact h.r1, by rw [cR]; exact h.r2, fun i => by rw [hb.frozen (by omega) hR]; exact h.rf i, h.bx.trans hb, h.hp⟩
theorem Nx.below (h : Nx w p W t b u ps) (hb : Below W.heap.size W W') : Nx w p W' t b u ps := h.step (Bx.of hb)
theorem nx_new (hp : p < w.heap.size) : Nx w p ((w.alloc (.cells #[.int .i64 0, .int .i64 0, .slice none 0 0] 48)).alloc (.cells #[.int .i64 0, .int .i64 0, .slice none 0 0] 48)) 0 0 (.slice none 0 0) [] :=
  have hbl : Below w.heap.size w ((w.alloc (.cells #[.int .i64 0, .int .i64 0, .slice none 0 0] 48)).alloc (.cells #[.int .i64 0, .int .i64 0, .slice none 0 0] 48)) := ((Below.refl _ _).alloc (Nat.le_refl _) _).alloc (by simp) _
  ⟨World.ownsRow_nil _ _ _ _, fun q hq => by simp at hq, by simp, by simp, by simp, fun i => by simp, by simp, by simp, by simp, fun i => by simp, Bx.of hbl, hp⟩
theorem owns_set {B : Nat} {e : TypeId} {n size X i : Nat} {x : Value} {xs : List Value} (h : W.ownsRow B e size u n xs) (hX : X < B) : (W.setCell ⟨X, i, none⟩ x).ownsRow B e size u n xs := by
  obtain ⟨h1, h2⟩ := h
  refine ⟨h1, ?_⟩
  rcases h2 with h2 | ⟨g, cap, cur, a1, a2, a3, a4⟩
  · exact .inl h2
  · refine .inr ⟨g, cap, cur, a1, a2, ?_, a4⟩
    rw [Below.heap_setCell _ _ _ _ (fun q => by simp at q; omega)]
    exact a3
theorem Nx.setX (h : Nx w p W t b u ps) (i : Nat) (x : Value) (h0 : (W.setCell ⟨w.heap.size + 1, i, none⟩ x).cell? ⟨w.heap.size + 1, 0, none⟩ = some (.int .i64 t')) (h1 : (W.setCell ⟨w.heap.size + 1, i, none⟩ x).cell? ⟨w.heap.size + 1, 1, none⟩ = some (.int .i64 b')) (h2 : (W.setCell ⟨w.heap.size + 1, i, none⟩ x).cell? ⟨w.heap.size + 1, 2, none⟩ = some u) : Nx w p (W.setCell ⟨w.heap.size + 1, i, none⟩ x) t' b' u ps := by
  have ho : ∀ k j, k ≠ w.heap.size + 1 → (W.setCell ⟨w.heap.size + 1, i, none⟩ x).cell? ⟨k, j, none⟩ = W.cell? ⟨k, j, none⟩ := fun k j hk => World.cell?_setCell_other _ _ _ _ (fun q => hk (congrArg Addr.block q).symm)
  exact ⟨owns_set h.own (by omega), fun q hq => (h.rw q hq).imp (fun _ _ k => k) (fun k j _ hk => ho k j (by have := hk.1; omega)), h0, h1, h2, fun j => by simp [h.xf j], by rw [ho _ _ (by omega)]; exact h.r0, by rw [ho _ _ (by omega)]; exact h.r1, by rw [ho _ _ (by omega)]; exact h.r2, fun j => by simp [h.rf j], h.bx.fresh (by omega), h.hp⟩
theorem Nx.set0 (h : Nx w p W t b u ps) (t' : Int) : Nx w p (W.setCell ⟨w.heap.size + 1, 0, none⟩ (.int .i64 t')) t' b u ps :=
  h.setX 0 _ (World.cell?_setCell_same _ _ _ h.x0) (by rw [cell_off (by omega)]; exact h.x1) (by rw [cell_off (by omega)]; exact h.x2)
theorem Nx.set1 (h : Nx w p W t b u ps) (b' : Int) : Nx w p (W.setCell ⟨w.heap.size + 1, 1, none⟩ (.int .i64 b')) t b' u ps :=
  h.setX 1 _ (by rw [cell_off (by omega)]; exact h.x0) (World.cell?_setCell_same _ _ _ h.x1) (by rw [cell_off (by omega)]; exact h.x2)
/-- One record more: the row is another one, or the same, longer; and it is stored. -/
theorem Nx.app (h : Nx w p W t b u ps) {q : Rp} (hq : RwP (fun k => w.heap.size + 2 ≤ k ∧ u.ownBlock ≠ some k) W q) (ho : W'.ownsRow (w.heap.size + 2) 35 18 u' (ps.length + 1) (rcs ps ++ cel q)) (hg : W.grownBy W' u.ownBlock) (hu : u'.ownBlock = u.ownBlock ∨ u'.ownBlock = some W.heap.size) : Nx w p (W'.setCell ⟨w.heap.size + 1, 2, none⟩ u') t b u' (ps ++ [q]) := by
  have hz := h.sz
  have hne : ∀ k, k < w.heap.size + 2 → u.ownBlock ≠ some k := fun k hk e => by have := (h.ob k e).1; omega
  have hc : ∀ k i, k < W.heap.size → u.ownBlock ≠ some k → W'.cell? ⟨k, i, none⟩ = W.cell? ⟨k, i, none⟩ := fun k i hk hn => World.cell?_of_block (hg.block k hk (fun e => hn e.symm))
  have hf : ∀ k i, k < W.heap.size → u.ownBlock ≠ some k → W'.frozen? ⟨k, i, none⟩ = W.frozen? ⟨k, i, none⟩ := fun k i hk hn => World.frozen?_of_block (hg.block k hk (fun e => hn e.symm))
  have hs : ∀ k j, k ≠ w.heap.size + 1 → (W'.setCell ⟨w.heap.size + 1, 2, none⟩ u').cell? ⟨k, j, none⟩ = W'.cell? ⟨k, j, none⟩ := fun k j hk => World.cell?_setCell_other _ _ _ _ (fun q => hk (congrArg Addr.block q).symm)
  have cX := fun i => hc (w.heap.size + 1) i hz (hne _ (by omega))
  have cR := fun i => hc w.heap.size i (by omega) (hne _ (by omega))
  have hrow : ∀ r : Rp, RwP (fun k => w.heap.size + 2 ≤ k ∧ u.ownBlock ≠ some k) W r → RwP (fun k => w.heap.size + 2 ≤ k ∧ u'.ownBlock ≠ some k) (W'.setCell ⟨w.heap.size + 1, 2, none⟩ u') r := fun r hr => hr.imp (fun k hl hk => ⟨hk.1, by
    rcases hu with e | e
    · rw [e]; exact hk.2
    · rw [e]; intro q; cases q; omega⟩) (fun k i hl hk => by rw [hs k i (by have := hk.1; omega)]; exact hc k i hl hk.2)
  have x2' : W'.cell? ⟨w.heap.size + 1, 2, none⟩ = some u := by rw [cX]; exact h.x2
  refine ⟨owns_set (by rw [rcs_app, rcs_one, List.length_append]; exact ho) (by omega), fun r hr => ?_, by rw [cell_off (by omega), cX]; exact h.x0, by rw [cell_off (by omega), cX]; exact h.x1, World.cell?_setCell_same _ _ _ x2', fun i => by simp [hf _ _ hz (hne _ (by omega)), h.xf i], by rw [hs _ _ (by omega), cR]; exact h.r0, by rw [hs _ _ (by omega), cR]; exact h.r1, by rw [hs _ _ (by omega), cR]; exact h.r2, fun i => by simp [hf w.heap.size i (by omega) (hne _ (by omega)), h.rf i], ?_, h.hp⟩
  · rcases List.mem_append.1 hr with e | e
    · exact hrow r (h.rw r e)
    · simp at e; subst e; exact hrow r hq
  · exact Bx.fresh ⟨hg.os.trans h.bx.os, hg.tape.trans h.bx.tape, hg.output.trans h.bx.output, Nat.le_trans h.bx.size hg.size, fun k hk hp => (hg.block k (by omega) (fun e => hne k (by omega) e.symm)).trans (h.bx.block k hk hp)⟩ (by omega)
end
end Go.Proofs.YtgbcjmpnkejpeaaGreatDoor
namespace Go.Proofs.YtgbcjmpnkejpeaaGreatDoor
open Go.RowKit

theorem wint_ow (B : Nat) (u : Value) (l0 : List Int) (k : Int) (w : World) (hu : Ow B w u l0) (hl0 : l0.length ≤ 900000) (hB : B ≤ w.heap.size) (hk : k ≤ 9223372036854775807) :
    Calls Tryz.prog 67 #[u, .int .i64 k] w fun e w' => ∃ v', e = .returned v' ∧ Ow B w' v' (l0 ++ intL k) ∧ Below B w w' := by
  obtain ⟨cur, h1, h2⟩ := hu
  refine (wint_any B u l0.length cur k w h1 hB hl0 hk).mono ?_
  rintro e w' ⟨v', cur', rfl, hp⟩
  exact ⟨v', rfl, Ow.put h2 hp, hp.below⟩
theorem Ow.form {B : Nat} {W : World} {v : Value} {l : List Int} (h : Ow B W v l) : ∃ ao cap, v = .slice ao l.length cap := h.sl.form
theorem range_old {B : Nat} {w Y W : World} {b o : Nat} {cs : List Value} (h : w.rangeAt b o cs) (hY : Below w.heap.size w Y) (hW : Below B Y W) (hB : w.heap.size ≤ B) : W.rangeAt b o cs := range_imp h (fun i hl => (hW.cell (p := ⟨b, i, none⟩) (by exact Nat.lt_of_lt_of_le hl hB)).trans (hY.cell (p := ⟨b, i, none⟩) hl))
theorem RwP.old {ok : Nat → Prop} {B : Nat} {w Y W : World} {p : Rp} (h : RwP ok w p) (hY : Below w.heap.size w Y) (hW : Below B Y W) (hB : w.heap.size ≤ B) : RwP (fun b => b < B) W p := h.imp (fun b hl _ => by omega) (fun b i hl _ => (hW.cell (p := ⟨b, i, none⟩) (by exact Nat.lt_of_lt_of_le hl hB)).trans (hY.cell (p := ⟨b, i, none⟩) hl))
set_option maxRecDepth 100000 in
set_option maxHeartbeats 16000000 in
theorem bput_bad (t bs : Int) (ao : Option Addr) (n cap : Nat) (F : TypeId) (U : Value) (w : World) (HC : Hid (∀ W, Below w.heap.size w W → Calls Tryz.prog 21 #[.agg #[.int .i64 t, .int .i64 bs, .slice ao n cap]] W fun e w' => e = .returned (.iface F U) ∧ Below W.heap.size W w')) :
    Calls Tryz.prog 27 #[.agg #[.int .i64 t, .int .i64 bs, .slice ao n cap]] w fun e w' => e = .returned (.tuple #[.slice none 0 0, .iface F U]) ∧ Below w.heap.size w w' := by
  have hb : Below w.heap.size w (w.alloc (.cells #[.int .i64 t, .int .i64 bs, .slice ao n cap] 48)) := (Below.refl _ _).alloc (Nat.le_refl _) _
  have HC2 := hide (HC.out _ hb)
  have HB := hide hb
  clear HC hb
  go_enter Tryz.func27, Tryz.ntmps27
  go_wp2_with (first | (go_at_call 21; refine HC2.out.mono ?_; rintro e w1 ⟨rfl, hb1⟩; have HB1 := hide (HB.out.trans (hb1.mono HB.out.size)); clear hb1))
  exact bodyPost_ret (v := .tuple #[.slice none 0 0, .iface F U]) (by simp [results, Tryz.results27, go_sem]) rfl ⟨rfl, HB1.out⟩
set_option maxRecDepth 100000 in
set_option maxHeartbeats 32000000 in
theorem bput_ok {ok : Nat → Prop} (t bs : Int) (ao : Option Addr) (cap : Nat) (ps : List Rp) (w : World) (hv : Rl (fun _ => True) ok w (.slice ao ps.length cap) ps) (htx : ∀ p ∈ ps, TxR p.1) (hc : (bw ⟨t, bs, rcl ps⟩).c = 0) :
    Calls Tryz.prog 27 #[.agg #[.int .i64 t, .int .i64 bs, .slice ao ps.length cap]] w fun e w' => (if (bytL ⟨t, bs, rcl ps⟩).length ≤ 16384 then ∃ y, e = .returned (.tuple #[y, .nilIface]) ∧ Ow (w.heap.size + 1) w' y (bytL ⟨t, bs, rcl ps⟩) else e = .returned (.tuple #[.slice none 0 0, ft ⟨#[98, 97, 116, 99, 104]⟩ (bytL ⟨t, bs, rcl ps⟩).length 6])) ∧ Below w.heap.size w w' := by
  obtain ⟨h1, h2, h3, h4⟩ := bw_ok hc
  simp only at h1 h2 h3 h4
  rw [rcl_len] at h3
  obtain ⟨b, o, rfl, hrg⟩ := hv.rg (by omega)
  have HC := hide (fun W (h : Below w.heap.size w W) => bcheck_go (ok := ok) t bs (some ⟨b, o, none⟩) cap ps W (fun _ => ⟨b, o, rfl, range_bel hrg h⟩) (fun p hp => (hv.2 p hp).below h) htx)
  rw [show erB (bw ⟨t, bs, rcl ps⟩) = .nilIface from if_pos hc] at HC
  have hhl := headL_len ⟨t, bs, rcl ps⟩
  have htot := putsL_len (rcl ps) h4
  rw [rcl_len] at htot
  have HH : Hid (headL ⟨t, bs, rcl ps⟩ = intL t ++ (intL bs ++ intL ps.length)) := hide (by unfold headL; simp only [rcl_len])
  have HBL : Hid (bytL ⟨t, bs, rcl ps⟩ = headL ⟨t, bs, rcl ps⟩ ++ putsL (rcl ps)) := hide rfl
  generalize bytL ⟨t, bs, rcl ps⟩ = Bs at *
  generalize headL ⟨t, bs, rcl ps⟩ = Hd at *
  have HR := hide hrg
  have HW := hide hv.2
  have H4 := hide h4
  have hn1 : 1 ≤ ps.length := h3.1
  have hn64 : ps.length ≤ 64 := h3.2
  have ht : t ≤ 9223372036854775807 := by omega
  have hbs : bs ≤ 9223372036854775807 := by omega
  have hb : Below w.heap.size w (w.alloc (.cells #[.int .i64 t, .int .i64 bs, .slice (some ⟨b, o, none⟩) ps.length cap] 48)) := (Below.refl _ _).alloc (Nat.le_refl _) _
  have HB := hide hb
  have hsz : (w.alloc (.cells #[.int .i64 t, .int .i64 bs, .slice (some ⟨b, o, none⟩) ps.length cap] 48)).heap.size = w.heap.size + 1 := by simp
  have hcell : ∀ W, Below (w.heap.size + 1) (w.alloc (.cells #[.int .i64 t, .int .i64 bs, .slice (some ⟨b, o, none⟩) ps.length cap] 48)) W → W.cell? ⟨w.heap.size, 0, none⟩ = some (.int .i64 t) ∧ W.cell? ⟨w.heap.size, 1, none⟩ = some (.int .i64 bs) ∧ W.cell? ⟨w.heap.size, 2, none⟩ = some (.slice (some ⟨b, o, none⟩) ps.length cap) := fun W h => by
    have hq : ∀ i, W.cell? ⟨w.heap.size, i, none⟩ = _ := fun i => h.cell (p := ⟨w.heap.size, i, none⟩) (by show w.heap.size < _; omega)
    exact ⟨by rw [hq]; simp, by rw [hq]; simp, by rw [hq]; simp⟩
  have HCL := hide hcell
  have HSZ := hide hsz
  clear hv htx hc h1 h2 h3 h4 hrg hb hcell hsz
  have hap : w.heap.size ≤ w.heap.size + 1 := Nat.le_succ _
  go_enter Tryz.func27, Tryz.ntmps27
  go_upto_region 1 with fail
  generalize w.alloc (.cells #[.int .i64 t, .int .i64 bs, .slice (some ⟨b, o, none⟩) ps.length cap] 48) = Y at HB HCL HSZ ⊢
  obtain ⟨i0, i1, i2⟩ := HCL.out Y (Below.refl _ _)
  go_upto_region 2 with (first | (go_at_call 21; refine (HC.out _ HB.out).mono ?_; rintro e W1 ⟨rfl, hb1⟩; have HB1 : Hid (Below (w.heap.size + 1) Y W1) := hide (hb1.mono (by rw [HSZ.out]; exact Nat.le_refl _)); clear hb1))
  clear i0 i1 i2 HC
  have hz1 : w.heap.size + 1 ≤ W1.heap.size := by have := HB1.out.size; rw [HSZ.out] at this; exact this
  obtain ⟨i0, i1, i2⟩ := HCL.out W1 HB1.out
  have HI := hide (wint_ow (w.heap.size + 1) (.slice none 0 0) [] t W1 (ow_nil _ _) (by decide) hz1 ht)
  rw [List.nil_append] at HI
  go_upto_region 5 with (first | (go_at_call 67; refine HI.out.mono ?_; rintro e W2 ⟨v2, rfl, ho2, hb2⟩))
  have HO2 := hide ho2
  have HB2 := hide (HB1.out.trans hb2)
  have hz2 : w.heap.size + 1 ≤ W2.heap.size := Nat.le_trans hz1 hb2.size
  clear ho2 hb2 HB1 HI i0 i1 i2
  obtain ⟨i0, i1, i2⟩ := HCL.out W2 HB2.out
  have l1 := intL_le t
  have HI := hide (wint_ow (w.heap.size + 1) v2 (intL t) bs W2 HO2.out (by omega) hz2 hbs)
  go_upto_region 6 with (first | (go_at_call 67; refine HI.out.mono ?_; rintro e W3 ⟨v3, rfl, ho3, hb3⟩))
  have HO3 := hide ho3
  have HB3 := hide (HB2.out.trans hb3)
  have hz3 : w.heap.size + 1 ≤ W3.heap.size := Nat.le_trans hz2 hb3.size
  clear ho3 hb3 HB2 HO2 HI i0 i1 i2
  clear hz2 hz1
  obtain ⟨i0, i1, i2⟩ := HCL.out W3 HB3.out
  have l2 := intL_le bs
  have HI := hide (wint_ow (w.heap.size + 1) v3 (intL t ++ intL bs) ps.length W3 HO3.out (by rw [List.length_append]; omega) hz3 (by omega))
  rw [List.append_assoc, ← HH.out] at HI
  go_upto_region 7 with (first | (go_at_call 67; refine HI.out.mono ?_; rintro e W4 ⟨v4, rfl, ho4, hb4⟩))
  have HO4 := hide ho4
  have HB4 := hide (HB3.out.trans hb4)
  clear ho4 hb4 HB3 HO3 HI i0 i1 i2 hz3
  obtain ⟨i0, i1, i2⟩ := HCL.out W4 HB4.out
  go_wp2_with fail
  clear i0 i1 i2
  go_loopw [5, 28] (fun y i wr => ∃ j : Nat, j ≤ ps.length ∧ i = .int .i64 (j : Int) ∧ Ow (w.heap.size + 1) wr y (Hd ++ putsL ((rcl ps).take j)) ∧ Below (w.heap.size + 1) Y wr) (fun _ i _ => ps.length - (intOf i).toNat)
  case atStart => exact ⟨0, Nat.zero_le _, rfl, by simpa [putsL] using HO4.out, HB4.out⟩
  case round =>
    obtain ⟨j, hj, rfl, ho, hb⟩ := hrel
    have HO := hide ho
    have HBR := hide hb
    clear ho hb HO4 HB4
    have hzr : w.heap.size + 1 ≤ wr.heap.size := by have := HBR.out.size; rw [HSZ.out] at this; exact this
    by_cases hlt : j < ps.length
    · have hltI : (j : Int) < (ps.length : Int) := by omega
      have hlr : j < (rcl ps).length := by rw [rcl_len]; exact hlt
      have hpj : (rcl ps)[j] = ps[j].1 := by simp [rcl]
      have HSN := hide (putsL_snoc (rcl ps) j hlr)
      rw [hpj] at HSN
      have hok : (chk ps[j].1).2.2 = 0 := H4.out _ (List.mem_map.2 ⟨ps[j], List.getElem_mem hlt, rfl⟩)
      have HE := hide (range_old (range_at HR.out hlt) HB.out HBR.out hap)
      have HP := hide ((HW.out _ (List.getElem_mem hlt)).old HB.out HBR.out hap)
      have HTN := hide (there_new wr)
      have hlen : (Hd ++ putsL ((rcl ps).take j)).length ≤ 700000 := by
        have := putsL_take_le (rcl ps) j
        rw [List.length_append]
        omega
      generalize ps[j] = p at *
      clear hpj
      go_upto_region 10 with (first | (refine wpList_load_mid rfl _ _ rfl _ _ rfl _ _ HE.out Tryz.underlying35 rfl (by kernel_rfl) ?_) | (refine wpList_store_mid rfl _ _ _ rfl wr.heap.size 0 (cel p).toArray rfl rfl HTN.out (by kernel_rfl) (cel_all _) ?_))
      obtain ⟨V, hV⟩ : ∃ V, V = (wr.alloc (.cells #[.int .i64 0, .int .i64 0, .int .i64 0, .int .i64 0, .int .i64 0, .int .i64 0, .int .i64 0, .int .i64 0, .int .i64 0, .bool false, .string ⟨#[]⟩, .string ⟨#[]⟩, .string ⟨#[]⟩, .string ⟨#[]⟩, .slice none 0 0, .slice none 0 0, .slice none 0 0, .slice none 0 0] 35)).setCells wr.heap.size 0 (cel p) := ⟨_, rfl⟩
      obtain ⟨hbV, hrV, _⟩ := laidP wr p hV
      rw [← hV]
      have HRV := hide hrV
      have HBV := hide (HBR.out.trans (hbV.mono hzr))
      have HOK := hide (cput_ok (w.heap.size + 1) u5 (Hd ++ putsL ((rcl ps).take j)) p.1 _ V (HO.out.below hbV) hlen (Nat.le_trans hzr hbV.size) (HP.out.below hbV).is hok)
      rw [List.append_assoc, ← HSN.out] at HOK
      clear hV hrV hbV HTN HE HP HO HSN
      go_wp2_with (first | (refine wpList_load_mid rfl _ _ rfl _ _ rfl _ _ HRV.out Tryz.underlying35 rfl (by kernel_rfl) ?_) | (go_at_call 39; refine HOK.out.mono ?_; rintro e W5 ⟨v5, rfl, ho5, hg5⟩; have HO5 := hide ho5; have HB5 := hide (HBV.out.trans hg5.below); clear ho5 hg5))
      go_roundw
      case rel => exact ⟨j + 1, by omega, by go_num, HO5.out, HB5.out⟩
      case measure => simp [intOf]; omega
    · obtain rfl : j = ps.length := by omega
      have HOF : Hid (Ow (w.heap.size + 1) wr u5 Bs) := hide (by have := HO.out; rwa [← rcl_len, List.take_length, ← HBL.out] at this)
      have HBF : Hid (Below w.heap.size w wr) := hide (HB.out.trans (HBR.out.mono hap))
      clear HO hlt HBR HR HW H4 HCL HH HBL hhl htot
      obtain ⟨a5, c5, e5⟩ := HOF.out.form
      subst e5
      by_cases hm : Bs.length ≤ 16384
      · have hmI : ¬ (16384 : Int) < (Bs.length : Int) := by omega
        go_wp2_with fail
        exact bodyPost_ret (v := .tuple #[.slice a5 Bs.length c5, .nilIface]) (by simp [results, Tryz.results27, go_sem]) rfl ⟨⟨_, rfl, HOF.out⟩, HBF.out⟩
      · have hmI : (16384 : Int) < (Bs.length : Int) := by omega
        go_wp2_with (first | (go_at_call 62; refine (new_any _ _ _ _).mono ?_; rintro e w9 ⟨rfl, hw9⟩; rw [hw9]; clear hw9 w9))
        exact bodyPost_ret (v := .tuple #[.slice none 0 0, ft ⟨#[98, 97, 116, 99, 104]⟩ Bs.length 6]) (by simp [results, Tryz.results27, go_sem, ft]) rfl ⟨rfl, HBF.out⟩
/-- What a call of Put leaves. -/
def PutP (x : Bt) (w : World) (e : Ending) (w' : World) : Prop :=
  (if (bw x).c = 0 then (if (bytL x).length ≤ 16384 then ∃ y, e = .returned (.tuple #[y, .nilIface]) ∧ Ow (w.heap.size + 1) w' y (bytL x) else e = .returned (.tuple #[.slice none 0 0, ft ⟨#[98, 97, 116, 99, 104]⟩ (bytL x).length 6])) else e = .returned (.tuple #[.slice none 0 0, erB (bw x)])) ∧ Below w.heap.size w w'
theorem bput_any {okb ok : Nat → Prop} (x : Bt) (v : Value) (w : World) (hv : IsB okb ok w v x) (htx : ∀ r ∈ x.rs, TxR r) : Calls Tryz.prog 27 #[v] w (PutP x w) := by
  have hck := fun W (h : Below w.heap.size w W) => bcheck_any x v W (hv.below h) htx
  obtain ⟨t, b, rs⟩ := x
  obtain ⟨u, ps, rfl, h2, h3⟩ := hv
  simp only at h3 htx
  subst h3
  obtain ⟨ao, cap, rfl⟩ := h2.form
  by_cases hc : (bw ⟨t, b, rcl ps⟩).c = 0
  · refine (bput_ok t b ao cap ps w (h2.imp (fun _ _ _ => trivial) (fun _ _ q => q) (fun _ _ _ _ => rfl)) (fun p hp => htx p.1 (List.mem_map.2 ⟨p, hp, rfl⟩)) hc).mono ?_
    rintro e w' h
    unfold PutP
    rw [if_pos hc]
    exact h
  · obtain ⟨F, U, e⟩ : ∃ F U, erB (bw ⟨t, b, rcl ps⟩) = .iface F U := by
      unfold erB
      rw [if_neg hc]
      split
      · exact ⟨_, _, rfl⟩
      · exact ⟨_, _, rfl⟩
    simp only [e] at hck
    refine (bput_bad t b ao ps.length cap F U w (hide hck)).mono ?_
    rintro e' w' ⟨rfl, h⟩
    unfold PutP
    rw [if_neg hc, e]
    exact ⟨rfl, h⟩
end Go.Proofs.YtgbcjmpnkejpeaaGreatDoor
