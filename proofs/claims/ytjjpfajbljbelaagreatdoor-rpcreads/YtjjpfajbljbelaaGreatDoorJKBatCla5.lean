/-
  COPIES OF ROWS IN NEW MEMORY (slices.Clone of numbers and of records), AND A RECORD THAT GETS ROWS OF ITS OWN (batch.own). Conditions: the cells hold what is copied; no more than a hundred thousand.
  ROWS OF RECORDS THAT GROW, one record behind the other, and a batch in its cells that is being filled. Condition: fewer than a hundred thousand records.
  Steps of a region that draws its order, with what is the same each time filled in; the slots' equations by short names. No program in it, no condition.
  THE BATCH THAT A READER READS NEXT (batch.Next): what the mathematics says. Conditions: the bytes' cells hold them, each is a byte, no more than a hundred thousand, they don't lie in the reader; errors.errorType is laid.
  A READER'S END, whatever was wrong before (wire.Reader.End); rows of records that may be are not too long. Conditions: what each theorem names.
-/
import Derived.Test.YtjjpfajbljbelaaGreatDoorJKRpcMa2
import Derived.Maps.AppendAt
import Derived.OrdersHeld
namespace Go.Proofs.YtjjpfajbljbelaaGreatDoor
open Go.RowKit
set_option maxRecDepth 100000
set_option maxHeartbeats 16000000
theorem nilI_yes (n cap : Nat) (w : World) : (binOp .eql 43 (.slice none n cap) (.slice none 0 0)).run Tryz.prog w = .ok (.bool true) w := by kernel_rfl
theorem nilI_no (a : Addr) (n cap : Nat) (w : World) : (binOp .eql 43 (.slice (some a) n cap) (.slice none 0 0)).run Tryz.prog w = .ok (.bool false) w := by kernel_rfl
theorem nilR_yes (n cap : Nat) (w : World) : (binOp .eql 46 (.slice none n cap) (.slice none 0 0)).run Tryz.prog w = .ok (.bool true) w := by kernel_rfl
theorem nilR_no (a : Addr) (n cap : Nat) (w : World) : (binOp .eql 46 (.slice (some a) n cap) (.slice none 0 0)).run Tryz.prog w = .ok (.bool false) w := by kernel_rfl
theorem infoR : (Tryz.prog.info? 45).map (fun i => (i.zero, i.size, i.bytes)) = some (some (.agg #[.int .i64 0, .int .i64 0, .int .i64 0, .int .i64 0, .int .i64 0, .int .i64 0, .int .i64 0, .int .i64 0, .int .i64 0, .bool false, .string ⟨#[]⟩, .string ⟨#[]⟩, .string ⟨#[]⟩, .string ⟨#[]⟩, .slice none 0 0, .slice none 0 0, .slice none 0 0, .slice none 0 0]), 18, 240) := by kernel_rfl
theorem cloneI_zero (ao : Option Addr) (cap : Nat) (w : World) : Calls Tryz.prog 136 #[.slice ao 0 cap] w fun e w' => (∃ ao c, e = .returned (.slice ao 0 c)) ∧ Below w.heap.size w w' := by
 have e1 := nilI_yes
 have e2 := nilI_no
 cases ao with
 | none =>
  go_enter Tryz.func136, Tryz.ntmps136
  go_wp2
  go_ret
  exact ⟨⟨_, _, rfl⟩, Below.refl _ _⟩
 | some a =>
  go_enter Tryz.func136, Tryz.ntmps136
  go_wp2
  go_ret
  exact ⟨⟨_, _, rfl⟩, (Below.refl _ _).alloc (Nat.le_refl _) _⟩
theorem cloneI_some (b o cap : Nat) (l : List Int) (w : World) (hl : l.length ≤ 100000) (h3 : ∀ i (h : i < l.length), w.cell? ⟨b, o + i, none⟩ = some (ic l[i])) :
  Calls Tryz.prog 136 #[.slice (some ⟨b, o, none⟩) l.length cap] w fun e w' => ∃ v, e = .returned v ∧ w'.ownsRow w.heap.size 3 1 v l.length (l.map ic) ∧ Below w.heap.size w w' := by
 obtain ⟨i0, hi, hz0, hz1, hz2⟩ := info_parts infoI
 have H3 := hide h3
 clear h3
 have hown := owns_new w [] 3 (by decide)
 have HN := hide (Sl.news (f := ic) (w := w.alloc (.cells #[] 3)) (b := b) (o := o) (l := l) fun i hi => by rw [World.cell?_alloc_lt _ _ _ (cell_block (H3.out i hi))]; exact H3.out i hi)
 have e2 := nilI_no
 go_enter Tryz.func136, Tryz.ntmps136
 go_wp2_with (first
  | (at_builtin; refine wpList_append_own _ rfl _ _ 43 rfl w.heap.size 3 i0 (.int .i64 0) 1 8 Tryz.underlying43 hi hz0 hz1 hz2 rfl (by decide) _ _ _ rfl hown ⟨b, o, none⟩ l.length cap (l.map ic) rfl (by simp) HN.out (Sl.one (fun _ => rfl) l) ?c3 ?c4 ?c5 ?_))
 case c3 => unfold maxLen; simp; omega
 case c4 => simp; omega
 case c5 => simp
 ·intro v' w2 hown' hgrow _
  have hB : Below w.heap.size w w2 := ((Below.refl _ _).alloc (Nat.le_refl _) _).grown hgrow (by simp) (fun j hj => (hown.lt j hj).1)
  have HO := hide hown'
  clear hown' hgrow hown
  go_wp2
  go_ret
  exact ⟨v', rfl, by simpa using HO.out, hB⟩
theorem cloneI_any (v : Value) (l : List Int) (w : World) (hv : Sl ic w v l) (hl : l.length ≤ 100000) : Calls Tryz.prog 136 #[v] w fun e w' => ∃ ao cap, e = .returned (.slice ao l.length cap) ∧ Sli (fun b => w.heap.size ≤ b) w' (.slice ao l.length cap) l ∧ Below w.heap.size w w' := by
 rcases hv with ⟨ao, cap, rfl, rfl⟩ | ⟨b, o, cap, rfl, _, h3⟩
 ·refine (cloneI_zero ao cap w).mono ?_
  rintro e w' ⟨⟨ao', c', rfl⟩, hb⟩
  exact ⟨ao', c', rfl, Sli.nil _ _ _ _, hb⟩
 ·refine (cloneI_some b o cap l w hl h3).mono ?_
  rintro e w' ⟨v, rfl, ho, hb⟩
  rcases sld_of_owns 0 ho with ⟨ao', c', rfl, rfl⟩ | ⟨b', o', c', e1, e2, e3, e4⟩
  ·exact ⟨ao', c', rfl, Sli.nil _ _ _ _, hb⟩
  ·exact ⟨_, _, by rw [e1], .inr ⟨b', o', c', rfl, e2, by omega, e4⟩, hb⟩
theorem cloneR_zero (ao : Option Addr) (cap : Nat) (w : World) : Calls Tryz.prog 108 #[.slice ao 0 cap] w fun e w' => (∃ ao c, e = .returned (.slice ao 0 c)) ∧ Below w.heap.size w w' := by
 have e1 := nilR_yes
 have e2 := nilR_no
 cases ao with
 | none =>
  go_enter Tryz.func108, Tryz.ntmps108
  go_wp2
  go_ret
  exact ⟨⟨_, _, rfl⟩, Below.refl _ _⟩
 | some a =>
  go_enter Tryz.func108, Tryz.ntmps108
  go_wp2
  go_ret
  exact ⟨⟨_, _, rfl⟩, (Below.refl _ _).alloc (Nat.le_refl _) _⟩
theorem owns_new18 (w : World) : (w.alloc (.cells #[] 45)).ownsRow w.heap.size 45 18 (.slice (some ⟨w.heap.size, 0, none⟩) 0 0) 0 [] :=
 ⟨by simp, .inr ⟨w.heap.size, 0, #[], rfl, Nat.le_refl _, Array.getElem?_push_size, Nat.le_refl _, Nat.zero_le _, by simp, by simp⟩⟩
theorem range_news {w : World} {b o : Nat} {cs : List Value} (h : w.rangeAt b o cs) : ∀ j u, cs[j]? = some u → w.cell? ((⟨b, o, none⟩ : Addr).add j) = some u := fun j u hj => by
 rw [Addr.add_lit]; exact h j u hj
theorem cloneR_some (b o cap : Nat) (ps : List Rp) (w : World) (hl : ps.length ≤ 100000) (h3 : w.rangeAt b o (rcs ps)) :
  Calls Tryz.prog 108 #[.slice (some ⟨b, o, none⟩) ps.length cap] w fun e w' => ∃ v, e = .returned v ∧ w'.ownsRow w.heap.size 45 18 v ps.length (rcs ps) ∧ Below w.heap.size w w' := by
 obtain ⟨i0, hi, hz0, hz1, hz2⟩ := info_parts infoR
 have hown := owns_new18 w
 have HN := hide (range_news (range_bel h3 ((Below.refl _ _).alloc (Nat.le_refl _) (.cells #[] 45))))
 have HLN := hide (rcs_len ps)
 have HON := hide (rcs_all ps)
 clear h3
 have e2 := nilR_no
 generalize rcs ps = cs at *
 go_enter Tryz.func108, Tryz.ntmps108
 go_wp2_with (first
  | (at_builtin; refine wpList_append_own _ rfl _ _ 46 rfl w.heap.size 45 i0 (.agg #[.int .i64 0, .int .i64 0, .int .i64 0, .int .i64 0, .int .i64 0, .int .i64 0, .int .i64 0, .int .i64 0, .int .i64 0, .bool false, .string ⟨#[]⟩, .string ⟨#[]⟩, .string ⟨#[]⟩, .string ⟨#[]⟩, .slice none 0 0, .slice none 0 0, .slice none 0 0, .slice none 0 0]) 18 240 Tryz.underlying46 hi hz0 hz1 hz2 rfl (by decide) _ _ _ rfl hown ⟨b, o, none⟩ ps.length cap cs rfl HLN.out HN.out HON.out ?c3 ?c4 ?c5 ?_))
 case c3 => unfold maxLen; omega
 case c4 => omega
 case c5 => simp
 ·intro v' w2 hown' hgrow _
  have hB : Below w.heap.size w w2 := ((Below.refl _ _).alloc (Nat.le_refl _) _).grown hgrow (by simp) (fun j hj => (hown.lt j hj).1)
  have HO := hide hown'
  clear hown' hgrow hown
  go_wp2
  go_ret
  exact ⟨v', rfl, by simpa using HO.out, hB⟩
theorem owns_range {w : World} {base : Nat} {e : TypeId} {v : Value} {n size : Nat} {xs : List Value} (h : w.ownsRow base e size v n xs) (hn : 0 < n) : ∃ g cap, v = .slice (some ⟨g, 0, none⟩) n cap ∧ base ≤ g ∧ n ≤ cap ∧ g < w.heap.size ∧ w.rangeAt g 0 xs ∧ ∀ i, w.frozen? ⟨g, i, none⟩ = false := by
 obtain ⟨h1, h2⟩ := h
 rcases h2 with ⟨rfl, rfl⟩ | ⟨g, cap, cur, rfl, a2, a3, a4, a5, a6, a7⟩
 ·simp at hn
 ·refine ⟨g, cap, rfl, a2, a4, (Array.getElem?_eq_some_iff.1 a3).1, fun j u hj => ?_, fun i => ?_⟩
  ·have hj' : cur.toList[j]? = some u := by
    rw [← a7, List.getElem?_take] at hj
    split at hj
    ·exact hj
    ·simp at hj
   simp only [World.cell?, a3, Nat.zero_add]
   simpa using hj'
  ·simp [World.frozen?, a3]
theorem cloneR_any {okb ok : Nat → Prop} (ao : Option Addr) (cap : Nat) (ps : List Rp) (w : World) (hv : Rl okb ok w (.slice ao ps.length cap) ps) (hl : ps.length ≤ 100000) : Calls Tryz.prog 108 #[.slice ao ps.length cap] w fun e w' => ∃ a' c', e = .returned (.slice a' ps.length c') ∧ (0 < ps.length → ∃ g, a' = some ⟨g, 0, none⟩ ∧ ps.length ≤ c' ∧ w.heap.size ≤ g ∧ g < w'.heap.size ∧ w'.rangeAt g 0 (rcs ps) ∧ ∀ i, w'.frozen? ⟨g, i, none⟩ = false) ∧ Below w.heap.size w w' := by
 by_cases h0 : 0 < ps.length
 ·obtain ⟨b, o, rfl, h3⟩ := hv.rg h0
  refine (cloneR_some b o cap ps w hl h3).mono ?_
  rintro e w' ⟨v, rfl, ho, hb⟩
  obtain ⟨g, c', rfl, h1, h2, h4, h5, h6⟩ := owns_range ho h0
  exact ⟨_, _, rfl, fun _ => ⟨g, rfl, h2, h1, h4, h5, h6⟩, hb⟩
 ·have e : ps = [] := List.length_eq_zero_iff.1 (by omega)
  subst e
  refine (cloneR_zero ao cap w).mono ?_
  rintro e w' ⟨⟨a', c', rfl⟩, hb⟩
  exact ⟨a', c', rfl, fun q => by simp at q, hb⟩
structure Ob (g o : Nat) (w W : World) (p : Rp) : Prop where
 rg : W.rangeAt g o (cel p)
 fz : ∀ i, W.frozen? ⟨g, i, none⟩ = false
 out : ∀ i, i < o ∨ o + 18 ≤ i → W.cell? ⟨g, i, none⟩ = w.cell? ⟨g, i, none⟩
 bx : Bx g w W
theorem Ob.lt {g o : Nat} {w W : World} {p : Rp} (h : Ob g o w W p) : g < W.heap.size := cell_block (h.rg 0 _ rfl)
theorem Ob.below {g o : Nat} {w W W' : World} {p : Rp} (h : Ob g o w W p) (hb : Below W.heap.size W W') : Ob g o w W' p :=
 have hl := h.lt
 ⟨range_bel h.rg hb, fun i => (hb.frozen (p := ⟨g, i, none⟩) hl).trans (h.fz i), fun i hi => (hb.cell (p := ⟨g, i, none⟩) hl).trans (h.out i hi), h.bx.call hb⟩
theorem Ob.set {g o : Nat} {w W : World} {p p' : Rp} (h : Ob g o w W p) (k : Nat) (x : Value) (hk : k < 18) (hp : cel p' = (cel p).set k x) : Ob g o w (W.setCell ⟨g, o + k, none⟩ x) p' := by
 have hkl : k < (cel p).length := hk
 refine ⟨fun j u hu => ?_, fun i => by simp [h.fz i], fun i hi => ?_, h.bx.set _ _⟩
 ·rw [hp] at hu
  by_cases e : k = j
  ·subst e
   rw [List.getElem?_set_self hkl] at hu
   cases hu
   exact World.cell?_setCell_same _ _ _ (h.rg k _ (List.getElem?_eq_getElem hkl))
  ·rw [List.getElem?_set_ne e] at hu
   rw [World.cell?_setCell_other _ _ _ _ (fun q => e (by have := congrArg Addr.off q; simp at this; exact this))]
   exact h.rg j u hu
 ·rw [World.cell?_setCell_other _ _ _ _ (fun q => by have := congrArg Addr.off q; simp at this; omega)]
  exact h.out i hi
theorem own_any (g o : Nat) (p : Rp) (w : World) (hrg : w.rangeAt g o (cel p)) (hfz : ∀ i, w.frozen? ⟨g, i, none⟩ = false) (hrw : RwP (fun b => b ≠ g) w p) (hln : LnR p.1) :
  Calls Tryz.prog 109 #[.pointer (some ⟨g, o, none⟩)] w fun e w' => e = .returned (.tuple #[]) ∧ ∃ p' : Rp, p'.1 = p.1 ∧ Ob g o w w' p' ∧ RwP (fun b => w.heap.size ≤ b) w' p' := by
 have HO : Hid (Ob g o w w p) := hide ⟨hrg, hfz, fun _ _ => rfl, Bx.refl _ _⟩
 have HW := hide hrw
 have HL := hide hln
 have hgl : g < w.heap.size := HO.out.lt
 clear hrg hfz hrw hln
 obtain ⟨r, ⟨a14, a15, a16, a17, c14, c15, c16, c17⟩⟩ := p
 go_enter Tryz.func109, Tryz.ntmps109
 have hc : w.cell? ⟨g, o + 14, none⟩ = some (.slice a14 r.ids.length c14) := HO.out.rg 14 _ rfl
 have HC := hide (cloneI_any (.slice a14 r.ids.length c14) r.ids w ((HW.out.h14.imp (ok' := fun b => b ≠ g) (fun _ _ q => q) (fun b i hl q => HO.out.bx.cell hl q)).sl) HL.out.ids)
 go_upto_region 1 with (first | (go_at_call 136; refine HC.out.mono ?_; rintro e V0 ⟨e14, d14, rfl, hs, hb⟩; have HO1 := hide (HO.out.below hb); have HS14 := hide hs; have HB := hide hb; clear hs hb; have hc1 : V0.cell? ⟨g, o + 14, none⟩ = some (.slice a14 r.ids.length c14) := HO1.out.rg 14 _ rfl; have hf1 := HO1.out.fz (o + 14)))
 have HO2 := hide (HO1.out.set (p' := (r, ⟨e14, a15, a16, a17, d14, c15, c16, c17⟩)) 14 (.slice e14 r.ids.length d14) (by decide) rfl)
 have hgV : g < V0.heap.size := HO1.out.lt
 have hz0 : w.heap.size ≤ w.heap.size := HO.out.bx.size
 replace HS14 := hide (HS14.out.imp (ok' := fun b => w.heap.size ≤ b) (W' := V0.setCell ⟨g, o + 14, none⟩ (.slice e14 r.ids.length d14)) (fun _ _ q => by omega) (fun b i _ q => World.cell?_setCell_other _ _ _ _ (fun e => by have := congrArg Addr.block e; simp at this; omega)))
 generalize V0.setCell ⟨g, o + 14, none⟩ (.slice e14 r.ids.length d14) = U0 at HO2 HS14 ⊢
 clear hc hc1 hf1 HC HB HO HO1 hgV
 have HO := HO2
 clear HO2
 have hc : U0.cell? ⟨g, o + 15, none⟩ = some (.slice a15 r.isr.length c15) := HO.out.rg 15 _ rfl
 have HC := hide (cloneI_any (.slice a15 r.isr.length c15) r.isr U0 ((HW.out.h15.imp (ok' := fun b => b ≠ g) (fun _ _ q => q) (fun b i hl q => HO.out.bx.cell hl q)).sl) HL.out.isr)
 go_upto_region 2 with (first | (go_at_call 136; refine HC.out.mono ?_; rintro e V1 ⟨e15, d15, rfl, hs, hb⟩; have HO1 := hide (HO.out.below hb); have HS15 := hide hs; have HB := hide hb; clear hs hb; have hc1 : V1.cell? ⟨g, o + 15, none⟩ = some (.slice a15 r.isr.length c15) := HO1.out.rg 15 _ rfl; have hf1 := HO1.out.fz (o + 15)))
 have HO2 := hide (HO1.out.set (p' := (r, ⟨e14, e15, a16, a17, d14, d15, c16, c17⟩)) 15 (.slice e15 r.isr.length d15) (by decide) rfl)
 have hgV : g < V1.heap.size := HO1.out.lt
 replace HS14 := hide ((HS14.out.below HB.out).imp (ok' := fun b => w.heap.size ≤ b) (W' := V1.setCell ⟨g, o + 15, none⟩ (.slice e15 r.isr.length d15)) (fun _ _ q => q) (fun b i _ q => World.cell?_setCell_other _ _ _ _ (fun e => by have := congrArg Addr.block e; simp at this; omega)))
 have hz1 : w.heap.size ≤ U0.heap.size := HO.out.bx.size
 replace HS15 := hide (HS15.out.imp (ok' := fun b => w.heap.size ≤ b) (W' := V1.setCell ⟨g, o + 15, none⟩ (.slice e15 r.isr.length d15)) (fun _ _ q => by omega) (fun b i _ q => World.cell?_setCell_other _ _ _ _ (fun e => by have := congrArg Addr.block e; simp at this; omega)))
 generalize V1.setCell ⟨g, o + 15, none⟩ (.slice e15 r.isr.length d15) = U1 at HO2 HS14 HS15 ⊢
 clear hc hc1 hf1 HC HB HO HO1 hgV
 have HO := HO2
 clear HO2
 have hc : U1.cell? ⟨g, o + 16, none⟩ = some (.slice a16 r.ad.length c16) := HO.out.rg 16 _ rfl
 have HC := hide (cloneI_any (.slice a16 r.ad.length c16) r.ad U1 ((HW.out.h16.imp (ok' := fun b => b ≠ g) (fun _ _ q => q) (fun b i hl q => HO.out.bx.cell hl q)).sl) HL.out.ad)
 go_upto_region 3 with (first | (go_at_call 136; refine HC.out.mono ?_; rintro e V2 ⟨e16, d16, rfl, hs, hb⟩; have HO1 := hide (HO.out.below hb); have HS16 := hide hs; have HB := hide hb; clear hs hb; have hc1 : V2.cell? ⟨g, o + 16, none⟩ = some (.slice a16 r.ad.length c16) := HO1.out.rg 16 _ rfl; have hf1 := HO1.out.fz (o + 16)))
 have HO2 := hide (HO1.out.set (p' := (r, ⟨e14, e15, e16, a17, d14, d15, d16, c17⟩)) 16 (.slice e16 r.ad.length d16) (by decide) rfl)
 have hgV : g < V2.heap.size := HO1.out.lt
 replace HS14 := hide ((HS14.out.below HB.out).imp (ok' := fun b => w.heap.size ≤ b) (W' := V2.setCell ⟨g, o + 16, none⟩ (.slice e16 r.ad.length d16)) (fun _ _ q => q) (fun b i _ q => World.cell?_setCell_other _ _ _ _ (fun e => by have := congrArg Addr.block e; simp at this; omega)))
 replace HS15 := hide ((HS15.out.below HB.out).imp (ok' := fun b => w.heap.size ≤ b) (W' := V2.setCell ⟨g, o + 16, none⟩ (.slice e16 r.ad.length d16)) (fun _ _ q => q) (fun b i _ q => World.cell?_setCell_other _ _ _ _ (fun e => by have := congrArg Addr.block e; simp at this; omega)))
 have hz2 : w.heap.size ≤ U1.heap.size := HO.out.bx.size
 replace HS16 := hide (HS16.out.imp (ok' := fun b => w.heap.size ≤ b) (W' := V2.setCell ⟨g, o + 16, none⟩ (.slice e16 r.ad.length d16)) (fun _ _ q => by omega) (fun b i _ q => World.cell?_setCell_other _ _ _ _ (fun e => by have := congrArg Addr.block e; simp at this; omega)))
 generalize V2.setCell ⟨g, o + 16, none⟩ (.slice e16 r.ad.length d16) = U2 at HO2 HS14 HS15 HS16 ⊢
 clear hc hc1 hf1 HC HB HO HO1 hgV
 have HO := HO2
 clear HO2
 have hc : U2.cell? ⟨g, o + 17, none⟩ = some (.slice a17 r.dr.length c17) := HO.out.rg 17 _ rfl
 have HC := hide (cloneI_any (.slice a17 r.dr.length c17) r.dr U2 ((HW.out.h17.imp (ok' := fun b => b ≠ g) (fun _ _ q => q) (fun b i hl q => HO.out.bx.cell hl q)).sl) HL.out.dr)
 go_wp2_with (first | (go_at_call 136; refine HC.out.mono ?_; rintro e V3 ⟨e17, d17, rfl, hs, hb⟩; have HO1 := hide (HO.out.below hb); have HS17 := hide hs; have HB := hide hb; clear hs hb; have hc1 : V3.cell? ⟨g, o + 17, none⟩ = some (.slice a17 r.dr.length c17) := HO1.out.rg 17 _ rfl; have hf1 := HO1.out.fz (o + 17)))
 have HO2 := hide (HO1.out.set (p' := (r, ⟨e14, e15, e16, e17, d14, d15, d16, d17⟩)) 17 (.slice e17 r.dr.length d17) (by decide) rfl)
 have hgV : g < V3.heap.size := HO1.out.lt
 replace HS14 := hide ((HS14.out.below HB.out).imp (ok' := fun b => w.heap.size ≤ b) (W' := V3.setCell ⟨g, o + 17, none⟩ (.slice e17 r.dr.length d17)) (fun _ _ q => q) (fun b i _ q => World.cell?_setCell_other _ _ _ _ (fun e => by have := congrArg Addr.block e; simp at this; omega)))
 replace HS15 := hide ((HS15.out.below HB.out).imp (ok' := fun b => w.heap.size ≤ b) (W' := V3.setCell ⟨g, o + 17, none⟩ (.slice e17 r.dr.length d17)) (fun _ _ q => q) (fun b i _ q => World.cell?_setCell_other _ _ _ _ (fun e => by have := congrArg Addr.block e; simp at this; omega)))
 replace HS16 := hide ((HS16.out.below HB.out).imp (ok' := fun b => w.heap.size ≤ b) (W' := V3.setCell ⟨g, o + 17, none⟩ (.slice e17 r.dr.length d17)) (fun _ _ q => q) (fun b i _ q => World.cell?_setCell_other _ _ _ _ (fun e => by have := congrArg Addr.block e; simp at this; omega)))
 have hz3 : w.heap.size ≤ U2.heap.size := HO.out.bx.size
 replace HS17 := hide (HS17.out.imp (ok' := fun b => w.heap.size ≤ b) (W' := V3.setCell ⟨g, o + 17, none⟩ (.slice e17 r.dr.length d17)) (fun _ _ q => by omega) (fun b i _ q => World.cell?_setCell_other _ _ _ _ (fun e => by have := congrArg Addr.block e; simp at this; omega)))
 generalize V3.setCell ⟨g, o + 17, none⟩ (.slice e17 r.dr.length d17) = U3 at HO2 HS14 HS15 HS16 HS17 ⊢
 clear hc hc1 hf1 HC HB HO HO1 hgV
 have HO := HO2
 clear HO2
 exact bodyPost_end (v := .tuple #[]) (by simp [results, Tryz.results109]) rfl ⟨rfl, _, rfl, HO.out, ⟨HS14.out, HS15.out, HS16.out, HS17.out⟩⟩
theorem build_one (q : Rp) (W : World) : (Instr.buildSlice 46 1 #[(0, .agg (cel q).toArray)]).run Tryz.prog W = .ok (.slice (some ⟨W.heap.size, 0, none⟩) 1 1) (W.alloc (.cells (cel q).toArray 45)) := by
 obtain ⟨r, pl⟩ := q
 kernel_rfl
theorem run_append_rc (w : World) (ty : TypeId) (B : Nat) (v : Value) (n : Nat) (xs : List Value) (hown : w.ownsRow B 45 18 v n xs) (hB : B ≤ w.heap.size) (ad : Addr) (c : Nat) (news : List Value) (hl : news.length = 18)
  (hnews : ∀ j u, news[j]? = some u → w.cell? (ad.add j) = some u) (h1 : ∀ u ∈ news, u.oneCell' = true) (hn : n + 1 ≤ 100000) :
  ∃ v' w', (Builtin.append_ #[46, 46] ty #[v, .slice (some ad) 1 c]).run Tryz.prog w = .ok v' w' ∧ w'.ownsRow B 45 18 v' (n + 1) (xs ++ news) ∧ w.grownBy w' v.ownBlock ∧ (v'.ownBlock = v.ownBlock ∨ v'.ownBlock = some w.heap.size) := by
 obtain ⟨i0, hi, hz0, hz1, hz2⟩ := info_parts infoR
 obtain ⟨v', w', e, ho, hg, _, hb⟩ := run_append_own_at (P := Tryz.prog) w B 46 ty 45 i0 (.agg #[.int .i64 0, .int .i64 0, .int .i64 0, .int .i64 0, .int .i64 0, .int .i64 0, .int .i64 0, .int .i64 0, .int .i64 0, .bool false, .string ⟨#[]⟩, .string ⟨#[]⟩, .string ⟨#[]⟩, .string ⟨#[]⟩, .slice none 0 0, .slice none 0 0, .slice none 0 0, .slice none 0 0]) 18 240 Tryz.underlying46 hi hz0 hz1 hz2 rfl (by decide) v n xs hown ad 1 c news (by omega) hnews h1 (by unfold maxLen; omega) (by omega) hB
 exact ⟨v', w', e, ho, hg, hb⟩
theorem step_append_rc {ops : Array Oper} {o : Oper} {a : Act} {w : World} {K : Act → World → Prop} {Q : Exit → Act → World → Prop} {E : Prop} (hg : o.guard = none) (s x : Operand)
  (ho : o.op = .call { callee := .builtin .append, args := #[s, x], argTypes := #[46, 46] }) (B : Nat) (u : Value) (n : Nat) (xs : List Value) (hs : a.eval s = u) (hown : w.ownsRow B 45 18 u n xs) (hB : B ≤ w.heap.size) (ad : Addr) (c : Nat) (news : List Value)
  (hx : a.eval x = .slice (some ad) 1 c) (hl : news.length = 18) (hnews : ∀ j u, news[j]? = some u → w.cell? (ad.add j) = some u) (h1 : ∀ u ∈ news, u.oneCell' = true) (hn : n + 1 ≤ 100000)
  (h : ∀ w' v', w'.ownsRow B 45 18 v' (n + 1) (xs ++ news) → w.grownBy w' u.ownBlock → (v'.ownBlock = u.ownBlock ∨ v'.ownBlock = some w.heap.size) → K (a.put o.dst v') w') : if Region.wanted o (yielded ops a.tmps) = true then Oper.wp Tryz.prog o a w K Q else E := by
 have hw : Region.wanted o (yielded ops a.tmps) = true := by simp [Region.wanted, hg]
 rw [if_pos hw]
 obtain ⟨v', w', hrun, q1, q2, q3⟩ := run_append_rc w o.type B u n xs hown hB ad c news hl hnews h1 hn
 unfold Oper.wp
 simp [execOp, ho, resolve, invoke, builtin, hs, hx, hrun, Result.andThen]
 exact h w' v' q1 q2 q3
theorem step_build_rc {ops : Array Oper} {o : Oper} {a : Act} {w : World} {K : Act → World → Prop} {Q : Exit → Act → World → Prop} {E : Prop} (hg : o.guard = none) (x : Operand) (ho : o.op = .buildSlice 46 1 #[(0, x)]) (q : Rp) (hx : a.eval x = .agg (cel q).toArray)
  (h : K (a.put o.dst (.slice (some ⟨w.heap.size, 0, none⟩) 1 1)) (w.alloc (.cells (cel q).toArray 45))) : if Region.wanted o (yielded ops a.tmps) = true then Oper.wp Tryz.prog o a w K Q else E := by
 have hw : Region.wanted o (yielded ops a.tmps) = true := by simp [Region.wanted, hg]
 rw [if_pos hw]
 have hb := build_one q w
 unfold Oper.wp
 simp only [execOp, ho, List.map_toArray, List.map_cons, List.map_nil, hx]
 simp [hb, Result.andThen]
 exact h
theorem wpList_append_rc (w : World) {ops : Array Oper} {rest : List Oper} {o : Oper} {a : Act} {Q : Exit → Act → World → Prop} (hgd : o.guard = none) (s x : Operand)
  (ho : o.op = .call { callee := .builtin .append, args := #[s, x], argTypes := #[46, 46] }) (B : Nat) (u : Value) (n : Nat) (xs : List Value) (hs : a.eval s = u) (hown : w.ownsRow B 45 18 u n xs) (hB : B ≤ w.heap.size) (ad : Addr) (c : Nat) (news : List Value)
  (hx : a.eval x = .slice (some ad) 1 c) (hl : news.length = 18) (hnews : ∀ j u, news[j]? = some u → w.cell? (ad.add j) = some u) (h1 : ∀ u ∈ news, u.oneCell' = true) (hn : n + 1 ≤ 100000)
  (h : ∀ w' v', w'.ownsRow B 45 18 v' (n + 1) (xs ++ news) → w.grownBy w' u.ownBlock → (v'.ownBlock = u.ownBlock ∨ v'.ownBlock = some w.heap.size) → wpList Tryz.prog ops Q rest (a.put o.dst v') w') : wpList Tryz.prog ops Q (o :: rest) a w := by
 refine wpList_plain hgd fun K hK => ?_
 obtain ⟨v', w', hrun, q1, q2, q3⟩ := run_append_rc w o.type B u n xs hown hB ad c news hl hnews h1 hn
 unfold Oper.wp
 simp [execOp, ho, resolve, invoke, builtin, hs, hx, hrun, Result.andThen]
 exact hK _ _ (h w' v' q1 q2 q3)
structure Nx (w : World) (p : Nat) (W : World) (t b : Int) (u : Value) (ps : List Rp) : Prop where
 own : W.ownsRow (w.heap.size + 2) 45 18 u ps.length (rcs ps)
 rw : ∀ q ∈ ps, RwP (fun k => w.heap.size + 2 ≤ k ∧ u.ownBlock ≠ some k) W q
 x0 : W.cell? ⟨w.heap.size + 1, 0, none⟩ = some (.int .i64 t)
 x1 : W.cell? ⟨w.heap.size + 1, 1, none⟩ = some (.int .i64 b)
 x2 : W.cell? ⟨w.heap.size + 1, 2, none⟩ = some u
 xf : ∀ i, W.frozen? ⟨w.heap.size + 1, i, none⟩ = false
 r0 : W.cell? ⟨w.heap.size, 0, none⟩ = some (.int .i64 0)
 r1 : W.cell? ⟨w.heap.size, 1, none⟩ = some (.int .i64 0)
 r2 : W.cell? ⟨w.heap.size, 2, none⟩ = some (.slice none 0 0)
 rf : ∀ i, W.frozen? ⟨w.heap.size, i, none⟩ = false
 bx : Bx p w W
 hp : p < w.heap.size
section
variable {w W W' : World} {p : Nat} {t b t' b' : Int} {u u' : Value} {ps : List Rp}
theorem Nx.sz (h : Nx w p W t b u ps) : w.heap.size + 1 < W.heap.size := cell_block h.x0
theorem Nx.ob (h : Nx w p W t b u ps) : ∀ g, u.ownBlock = some g → w.heap.size + 2 ≤ g ∧ g < W.heap.size := fun g hg => h.own.lt g hg
theorem owns_bxp {B : Nat} {e : TypeId} {n size : Nat} {xs : List Value} (h : W.ownsRow B e size u n xs) (hb : Bx p W W') (hp : p < B) : W'.ownsRow B e size u n xs := by
 obtain ⟨h1, h2⟩ := h
 refine ⟨h1, ?_⟩
 rcases h2 with h2 | ⟨g, cap, cur, a1, a2, a3, a4⟩
 ·exact .inl h2
 ·refine .inr ⟨g, cap, cur, a1, a2, ?_, a4⟩
  rw [hb.block g (Array.getElem?_eq_some_iff.1 a3).1 (by omega)]
  exact a3
theorem Nx.step (h : Nx w p W t b u ps) (hb : Bx p W W') : Nx w p W' t b u ps := by
 have hz := h.sz
 have hX : w.heap.size + 1 ≠ p := by have := h.hp; omega
 have hR : w.heap.size ≠ p := by have := h.hp; omega
 have cX : ∀ i, W'.cell? ⟨w.heap.size + 1, i, none⟩ = W.cell? ⟨w.heap.size + 1, i, none⟩ := fun i => hb.cell hz hX
 have cR : ∀ i, W'.cell? ⟨w.heap.size, i, none⟩ = W.cell? ⟨w.heap.size, i, none⟩ := fun i => hb.cell (by omega) hR
 exact ⟨owns_bxp h.own hb (by have := h.hp; omega), fun q hq => (h.rw q hq).imp (fun _ _ k => k) (fun k i hl hk => hb.cell hl (by have := h.hp; have := hk.1; omega)), by rw [cX]; exact h.x0, by rw [cX]; exact h.x1, by rw [cX]; exact h.x2, fun i => by rw [hb.frozen hz hX]; exact h.xf i, by rw [cR]; exact h.r0, by rw [cR]; exact h.r1, by rw [cR]; exact h.r2, fun i => by rw [hb.frozen (by omega) hR]; exact h.rf i, h.bx.trans hb, h.hp⟩
theorem Nx.below (h : Nx w p W t b u ps) (hb : Below W.heap.size W W') : Nx w p W' t b u ps := h.step (Bx.of hb)
theorem nx_new (hp : p < w.heap.size) : Nx w p ((w.alloc (.cells #[.int .i64 0, .int .i64 0, .slice none 0 0] 48)).alloc (.cells #[.int .i64 0, .int .i64 0, .slice none 0 0] 48)) 0 0 (.slice none 0 0) [] :=
 have hbl : Below w.heap.size w ((w.alloc (.cells #[.int .i64 0, .int .i64 0, .slice none 0 0] 48)).alloc (.cells #[.int .i64 0, .int .i64 0, .slice none 0 0] 48)) := ((Below.refl _ _).alloc (Nat.le_refl _) _).alloc (by simp) _
 ⟨World.ownsRow_nil _ _ _ _, fun q hq => by simp at hq, by simp, by simp, by simp, fun i => by simp, by simp, by simp, by simp, fun i => by simp, Bx.of hbl, hp⟩
theorem owns_set {B : Nat} {e : TypeId} {n size X i : Nat} {x : Value} {xs : List Value} (h : W.ownsRow B e size u n xs) (hX : X < B) : (W.setCell ⟨X, i, none⟩ x).ownsRow B e size u n xs := by
 obtain ⟨h1, h2⟩ := h
 refine ⟨h1, ?_⟩
 rcases h2 with h2 | ⟨g, cap, cur, a1, a2, a3, a4⟩
 ·exact .inl h2
 ·refine .inr ⟨g, cap, cur, a1, a2, ?_, a4⟩
  rw [Below.heap_setCell _ _ _ _ (fun q => by simp at q; omega)]
  exact a3
theorem Nx.setX (h : Nx w p W t b u ps) (i : Nat) (x : Value) (h0 : (W.setCell ⟨w.heap.size + 1, i, none⟩ x).cell? ⟨w.heap.size + 1, 0, none⟩ = some (.int .i64 t')) (h1 : (W.setCell ⟨w.heap.size + 1, i, none⟩ x).cell? ⟨w.heap.size + 1, 1, none⟩ = some (.int .i64 b')) (h2 : (W.setCell ⟨w.heap.size + 1, i, none⟩ x).cell? ⟨w.heap.size + 1, 2, none⟩ = some u) : Nx w p (W.setCell ⟨w.heap.size + 1, i, none⟩ x) t' b' u ps := by
 have ho : ∀ k j, k ≠ w.heap.size + 1 → (W.setCell ⟨w.heap.size + 1, i, none⟩ x).cell? ⟨k, j, none⟩ = W.cell? ⟨k, j, none⟩ := fun k j hk => World.cell?_setCell_other _ _ _ _ (fun q => hk (congrArg Addr.block q).symm)
 exact ⟨owns_set h.own (by omega), fun q hq => (h.rw q hq).imp (fun _ _ k => k) (fun k j _ hk => ho k j (by have := hk.1; omega)), h0, h1, h2, fun j => by simp [h.xf j], by rw [ho _ _ (by omega)]; exact h.r0, by rw [ho _ _ (by omega)]; exact h.r1, by rw [ho _ _ (by omega)]; exact h.r2, fun j => by simp [h.rf j], h.bx.fresh (by omega), h.hp⟩
theorem Nx.set0 (h : Nx w p W t b u ps) (t' : Int) : Nx w p (W.setCell ⟨w.heap.size + 1, 0, none⟩ (.int .i64 t')) t' b u ps :=
 h.setX 0 _ (World.cell?_setCell_same _ _ _ h.x0) (by rw [cell_off (by omega)]; exact h.x1) (by rw [cell_off (by omega)]; exact h.x2)
theorem Nx.set1 (h : Nx w p W t b u ps) (b' : Int) : Nx w p (W.setCell ⟨w.heap.size + 1, 1, none⟩ (.int .i64 b')) t b' u ps :=
 h.setX 1 _ (by rw [cell_off (by omega)]; exact h.x0) (World.cell?_setCell_same _ _ _ h.x1) (by rw [cell_off (by omega)]; exact h.x2)
theorem Nx.app (h : Nx w p W t b u ps) {q : Rp} (hq : RwP (fun k => w.heap.size + 2 ≤ k ∧ u.ownBlock ≠ some k) W q) (ho : W'.ownsRow (w.heap.size + 2) 45 18 u' (ps.length + 1) (rcs ps ++ cel q)) (hg : W.grownBy W' u.ownBlock) (hu : u'.ownBlock = u.ownBlock ∨ u'.ownBlock = some W.heap.size) : Nx w p (W'.setCell ⟨w.heap.size + 1, 2, none⟩ u') t b u' (ps ++ [q]) := by
 have hz := h.sz
 have hne : ∀ k, k < w.heap.size + 2 → u.ownBlock ≠ some k := fun k hk e => by have := (h.ob k e).1; omega
 have hc : ∀ k i, k < W.heap.size → u.ownBlock ≠ some k → W'.cell? ⟨k, i, none⟩ = W.cell? ⟨k, i, none⟩ := fun k i hk hn => World.cell?_of_block (hg.block k hk (fun e => hn e.symm))
 have hf : ∀ k i, k < W.heap.size → u.ownBlock ≠ some k → W'.frozen? ⟨k, i, none⟩ = W.frozen? ⟨k, i, none⟩ := fun k i hk hn => World.frozen?_of_block (hg.block k hk (fun e => hn e.symm))
 have hs : ∀ k j, k ≠ w.heap.size + 1 → (W'.setCell ⟨w.heap.size + 1, 2, none⟩ u').cell? ⟨k, j, none⟩ = W'.cell? ⟨k, j, none⟩ := fun k j hk => World.cell?_setCell_other _ _ _ _ (fun q => hk (congrArg Addr.block q).symm)
 have cX := fun i => hc (w.heap.size + 1) i hz (hne _ (by omega))
 have cR := fun i => hc w.heap.size i (by omega) (hne _ (by omega))
 have hrow : ∀ r : Rp, RwP (fun k => w.heap.size + 2 ≤ k ∧ u.ownBlock ≠ some k) W r → RwP (fun k => w.heap.size + 2 ≤ k ∧ u'.ownBlock ≠ some k) (W'.setCell ⟨w.heap.size + 1, 2, none⟩ u') r := fun r hr => hr.imp (fun k hl hk => ⟨hk.1, by
  rcases hu with e | e
  ·rw [e]; exact hk.2
  ·rw [e]; intro q; cases q; omega⟩) (fun k i hl hk => by rw [hs k i (by have := hk.1; omega)]; exact hc k i hl hk.2)
 have x2' : W'.cell? ⟨w.heap.size + 1, 2, none⟩ = some u := by rw [cX]; exact h.x2
 refine ⟨owns_set (by rw [rcs_app, rcs_one, List.length_append]; exact ho) (by omega), fun r hr => ?_, by rw [cell_off (by omega), cX]; exact h.x0, by rw [cell_off (by omega), cX]; exact h.x1, World.cell?_setCell_same _ _ _ x2', fun i => by simp [hf _ _ hz (hne _ (by omega)), h.xf i], by rw [hs _ _ (by omega), cR]; exact h.r0, by rw [hs _ _ (by omega), cR]; exact h.r1, by rw [hs _ _ (by omega), cR]; exact h.r2, fun i => by simp [hf w.heap.size i (by omega) (hne _ (by omega)), h.rf i], ?_, h.hp⟩
 ·rcases List.mem_append.1 hr with e | e
  ·exact hrow r (h.rw r e)
  ·simp at e; subst e; exact hrow r hq
 ·exact Bx.fresh ⟨hg.os.trans h.bx.os, hg.tape.trans h.bx.tape, hg.output.trans h.bx.output, Nat.le_trans h.bx.size hg.size, fun k hk hp => (hg.block k (by omega) (fun e => hne k (by omega) e.symm)).trans (h.bx.block k hk hp)⟩ (by omega)
end

theorem zA {α : Type} (l : List α) (i : Nat) (a : α) : l.toArray.setIfInBounds i a = (l.set i a).toArray := List.setIfInBounds_toArray ..
theorem zB {α : Type} (x : α) (l : List α) (a : α) : (x :: l).set 0 a = a :: l := List.set_cons_zero ..
theorem zC {α : Type} (x : α) (l : List α) (n : Nat) (a : α) : (x :: l).set (n + 1) a = x :: l.set n a := List.set_cons_succ ..
theorem tk {P : Program} {md : Region.Mode} {ops : Array Oper} {Q : Exit → Act → World → Prop} {S : World → Prop} {oi : Oper} {fuel : Nat} {listed : Array Bool} {a : Act} {w : World} (i d : Nat) (v : Value) (hi : ops[i]? = some oi) (hd : oi.dst = some d) (hS : S w)
    (h : wpAnyH P md ops Q S fuel (listed.setIfInBounds i true) (a.put (some d) v) w) (hs : Region.noSelect ops = true := by kernel_rfl) (hf : Region.free md ops listed i = true := by kernel_rfl) (hr : (Region.ready md ops listed).contains i = true := by kernel_rfl)
    (hQ : ∀ c a w, Q (.panic c) (a.put oi.dst v) w → Q (.panic c) a w := by exact fun _ _ _ h => h) (hy : YieldsIf P ops S oi v a := by exact Or.inl ⟨by rfl, by intro w hSw; go_simp⟩) : wpAnyH P md ops Q S (fuel + 1) listed a w :=
  wpAnyH_take hi hs hf hr hQ hy hS (by rw [hd]; exact h)
theorem tky {P : Program} {md : Region.Mode} {ops : Array Oper} {Q : Exit → Act → World → Prop} {S : World → Prop} {oi : Oper} {fuel : Nat} {listed : Array Bool} {a : Act} {w : World} (i d : Nat) (v : Value) (hi : ops[i]? = some oi) (hd : oi.dst = some d) (hy : YieldsIf P ops S oi v a) (hS : S w)
    (h : wpAnyH P md ops Q S fuel (listed.setIfInBounds i true) (a.put (some d) v) w) (hs : Region.noSelect ops = true := by kernel_rfl) (hf : Region.free md ops listed i = true := by kernel_rfl) (hr : (Region.ready md ops listed).contains i = true := by kernel_rfl)
    (hQ : ∀ c a w, Q (.panic c) (a.put oi.dst v) w → Q (.panic c) a w := by exact fun _ _ _ h => h) : wpAnyH P md ops Q S (fuel + 1) listed a w :=
  wpAnyH_take hi hs hf hr hQ hy hS (by rw [hd]; exact h)
theorem Nx.isB {w W : World} {p : Nat} {t b : Int} {u : Value} {ps : List Rp} (h : Nx w p W t b u ps) {W' : World} (hc : ∀ k i, k ≠ w.heap.size → W'.cell? ⟨k, i, none⟩ = W.cell? ⟨k, i, none⟩) : IsB (fun k => w.heap.size ≤ k) (fun k => w.heap.size ≤ k) W' (.agg #[.int .i64 t, .int .i64 b, u]) ⟨t, b, rcl ps⟩ := by
 refine ⟨u, ps, rfl, ⟨?_, fun q hq => (h.rw q hq).imp (fun k _ hk => by have := hk.1; omega) (fun k i _ hk => hc k i (by have := hk.1; omega))⟩, rfl⟩
 by_cases h0 : 0 < ps.length
 ·obtain ⟨g, cap, rfl, e1, e2, e3, e4, _⟩ := owns_range h.own h0
  exact .inr ⟨g, 0, cap, rfl, e2, by omega, h0, range_imp e4 (fun i _ => hc g i (by omega))⟩
 ·have e : ps = [] := List.length_eq_zero_iff.1 (by omega)
  subst e
  rcases h.own.2 with ⟨rfl, _⟩ | ⟨g, cap, cur, rfl, _⟩ <;> exact .inl ⟨_, _, rfl, rfl⟩
set_option maxRecDepth 100000 in
set_option maxHeartbeats 32000000 in
theorem next_go (p : Nat) (v : Value) (l : List Int) (s s1 s2 s3 s4 : Gs) (x1 x2 x3 : Int) (BB : Bool) (w : World) (hrd : RdG w p v s) (hv : Slx p bc w v l) (hl : l.length ≤ 100000) (hby : Byt l) (hs : s.pt ≤ l.length) (hg : Hnd w) (hpz : p ≠ 0)
  (HQ1 : Hid (gN 1073741824 l s = (s1, x1))) (HQ2 : Hid (gN 1073741824 l s1 = (s2, x2))) (HQ3 : Hid (gN 64 l s2 = (s3, x3))) (HBB : Hid (BB = (decide (x1 = 0) || decide (x3 = 0)))) (HS4 : Hid (s4 = if BB then refS ⟨#[98, 97, 116, 99, 104]⟩ 2 s3 else s3)) (h3 : 0 ≤ x3 ∧ x3 ≤ 64) :
  Calls Tryz.prog 54 #[.pointer (some ⟨p, 0, none⟩)] w fun e w' => ∃ vx, e = .returned vx ∧ IsB (fun k => w.heap.size ≤ k) (fun k => w.heap.size ≤ k) w' vx (nextG l s).2 ∧ RdG w' p v (nextG l s).1 ∧ Bx p w w' := by
 have hp : p < w.heap.size := hrd.lt
 have HN := hide (nx_new hp)
 have hb0 : Below w.heap.size w ((w.alloc (.cells #[.int .i64 0, .int .i64 0, .slice none 0 0] 48)).alloc (.cells #[.int .i64 0, .int .i64 0, .slice none 0 0] 48)) := ((Below.refl _ _).alloc (Nat.le_refl _) _).alloc (by simp) _
 have HR := hide (hrd.below hb0)
 have HV := hide hv
 have HBY := hide hby
 have HG := hide hg
 have hpt1 : s1.pt ≤ l.length := by have := gN_pt (m := 1073741824) hby hs; rw [HQ1.out] at this; exact this
 have hpt2 : s2.pt ≤ l.length := by have := gN_pt (m := 1073741824) hby hpt1; rw [HQ2.out] at this; exact this
 have hpt3 : s3.pt ≤ l.length := by have := gN_pt (m := 64) hby hpt2; rw [HQ3.out] at this; exact this
 have hpt4 : s4.pt ≤ l.length := by rw [HS4.out]; split; (rw [refS_pt]; exact hpt3); (exact hpt3)
 have HI1 := hide (fun W (h : RdG W p v s) (hb : Bx p w W) => rint_gs p v l 1073741824 s W h (HV.out.bx hb) hl hby hs (by decide) (by decide))
 have HI2 := hide (fun W (h : RdG W p v s1) (hb : Bx p w W) => rint_gs p v l 1073741824 s1 W h (HV.out.bx hb) hl hby hpt1 (by decide) (by decide))
 have HI3 := hide (fun W (h : RdG W p v s2) (hb : Bx p w W) => rint_gs p v l 64 s2 W h (HV.out.bx hb) hl hby hpt2 (by decide) (by decide))
 rw [HQ1.out] at HI1
 rw [HQ2.out] at HI2
 rw [HQ3.out] at HI3
 simp only at HI1 HI2 HI3
 have HNG : Hid (nextG l s = if (if (16384 : Int) < ((recsG l x3.toNat s4).1.pt : Int) - (s.pt : Int) then refS ⟨#[98, 97, 116, 99, 104]⟩ 6 (recsG l x3.toNat s4).1 else (recsG l x3.toNat s4).1).c = 0 then ((if (16384 : Int) < ((recsG l x3.toNat s4).1.pt : Int) - (s.pt : Int) then refS ⟨#[98, 97, 116, 99, 104]⟩ 6 (recsG l x3.toNat s4).1 else (recsG l x3.toNat s4).1), ⟨x1, x2, (recsG l x3.toNat s4).2⟩) else ((if (16384 : Int) < ((recsG l x3.toNat s4).1.pt : Int) - (s.pt : Int) then refS ⟨#[98, 97, 116, 99, 104]⟩ 6 (recsG l x3.toNat s4).1 else (recsG l x3.toNat s4).1), Bt.zero)) := hide (by
  have e4 : (if x1 = 0 ∨ x3 = 0 then refS ⟨#[98, 97, 116, 99, 104]⟩ 2 s3 else s3) = s4 := by
   rw [HS4.out, HBB.out]
   by_cases q : x1 = 0 ∨ x3 = 0
   ·rw [if_pos q, if_pos (by simpa using q)]
   ·rw [if_neg q, if_neg (by simpa using q)]
  unfold nextG
  simp only
  rw [HQ1.out]
  simp only
  rw [HQ2.out]
  simp only
  rw [HQ3.out]
  simp only
  rw [e4])
 generalize nextG l s = NG at HNG ⊢
 clear hrd hv hby hg hb0
 go_enter Tryz.func54, Tryz.ntmps54
 go_upto_region 2 with fail
 generalize (w.alloc (.cells #[.int .i64 0, .int .i64 0, .slice none 0 0] 48)).alloc (.cells #[.int .i64 0, .int .i64 0, .slice none 0 0] 48) = X0 at HN HR ⊢
 have HA := hide (at_any p v _ _ X0 HR.out)
 go_upto_region 3 with (first | (go_at_call 82; refine HA.out.mono ?_; rintro e w9 ⟨rfl, hw9⟩; rw [hw9]; clear hw9 w9))
 clear HA
 go_upto_region 4 with (first | (go_at_call 50; refine (HI1.out _ HR.out HN.out.bx).mono ?_; rintro e V1 ⟨rfl, hr1, hb1⟩; have HN1 := hide (HN.out.step hb1); have HR1 := hide hr1; clear hr1 hb1; have c5 := HN1.out.x0; have f5 := HN1.out.xf 0))
 have HN2 := hide (HN1.out.set0 x1)
 have HR2 : Hid (RdG (V1.setCell ⟨w.heap.size + 1, 0, none⟩ (.int .i64 x1)) p v s1) := hide (rdG_set HR1.out (by omega))
 generalize V1.setCell ⟨w.heap.size + 1, 0, none⟩ (.int .i64 x1) = X1 at HN2 HR2 ⊢
 clear HN HR HN1 HR1 c5 f5 HI1
 go_upto_region 5 with (first | (go_at_call 50; refine (HI2.out _ HR2.out HN2.out.bx).mono ?_; rintro e V2 ⟨rfl, hr1, hb1⟩; have HN3 := hide (HN2.out.step hb1); have HR3 := hide hr1; clear hr1 hb1; have c5 := HN3.out.x1; have f5 := HN3.out.xf 1))
 have HN4 := hide (HN3.out.set1 x2)
 have HR4 : Hid (RdG (V2.setCell ⟨w.heap.size + 1, 1, none⟩ (.int .i64 x2)) p v s2) := hide (rdG_set HR3.out (by omega))
 generalize V2.setCell ⟨w.heap.size + 1, 1, none⟩ (.int .i64 x2) = X2 at HN4 HR4 ⊢
 clear HN2 HR2 HN3 HR3 c5 f5 HI2
 go_upto_region 6 with (first | (go_at_call 50; refine (HI3.out _ HR4.out HN4.out.bx).mono ?_; rintro e V3 ⟨rfl, hr1, hb1⟩; have HN5 := hide (HN4.out.step hb1); have HR5 := hide hr1; clear hr1 hb1))
 clear HN4 HR4 HI3
 have c0 := HN5.out.x0
 go_cut [22] (fun b W => b = .bool BB ∧ W = V3)
 case first =>
  by_cases h1 : x1 = 0
  ·have h1b : (x1 == 0) = true := by simp [h1]
   go_wp2_with fail
   go_meet
   exact ⟨by rw [HBB.out]; simp [h1], rfl⟩
  ·have h1b : (x1 == 0) = false := by simp [h1]
   by_cases h2 : x3 = 0
   ·have h2b : (x3 == 0) = true := by simp [h2]
    go_wp2_with fail
    go_meet
    exact ⟨by rw [HBB.out]; simp [h2], rfl⟩
   ·have h2b : (x3 == 0) = false := by simp [h2]
    go_wp2_with fail
    go_meet
    exact ⟨by rw [HBB.out]; simp [h1, h2], rfl⟩
 case rest =>
  obtain ⟨rfl, rfl⟩ := hcut
  clear c0
  obtain ⟨Wq, rfl⟩ : ∃ x : World, x = wc := ⟨_, rfl⟩
  have HC := hide (refuse_gs p v s3 ⟨#[98, 97, 116, 99, 104]⟩ 2 Wq (by decide) HR5.out)
  go_upto_if 22 with fail
  go_cut [] (fun W => Nx w p W x1 x2 (.slice none 0 0) [] ∧ RdG W p v s4)
  case first =>
   cases BB with
   | true =>
    go_wp2_with (first | (go_at_call 55; refine HC.out.mono ?_; rintro e w5 ⟨rfl, hr5, hb5⟩))
    go_meet
    rw [HS4.out]
    exact ⟨HN5.out.step hb5, hr5⟩
   | false =>
    go_wp2_with fail
    go_meet
    rw [HS4.out]
    exact ⟨HN5.out, HR5.out⟩
  case rest =>
   obtain ⟨hn0, hr0⟩ := hcut
   have HN := hide hn0
   have HR := hide hr0
   clear hn0 hr0 HC HN5 HR5
   obtain ⟨W1, rfl⟩ : ∃ x : World, x = wc := ⟨_, rfl⟩
   clear Wq
   obtain ⟨M, hM⟩ : ∃ M : Nat, x3 = (M : Int) := ⟨x3.toNat, by omega⟩
   subst hM
   rw [Int.toNat_natCast] at HNG
   go_wp2_with fail
   go_loopw [26] (fun i wr => ∃ (j : Nat) (u : Value) (ps : List Rp), j ≤ M ∧ i = .int .i64 (j : Int) ∧ Nx w p wr x1 x2 u ps ∧ RdG wr p v (recsG l j s4).1 ∧ rcl ps = (recsG l j s4).2) (fun i _ => M - (intOf i).toNat)
   case atStart => exact ⟨0, .slice none 0 0, [], Nat.zero_le _, rfl, HN.out, HR.out, rfl⟩
   case round =>
    obtain ⟨j, u, ps, hj, rfl, hn, hr, hps⟩ := hrel
    clear HN HR
    have HN := hide hn
    have HR := hide hr
    have HPS := hide hps
    clear hn hr hps
    by_cases hlt : j < M
    ·have hltI : (j : Int) < (M : Int) := by omega
     have hptj := recs_pt HBY.out hpt4 j
     have hlps : ps.length ≤ 64 := by rw [← rcl_len, HPS.out, recs_len]; omega
     have HSU := hide (recsG_succ l j s4)
     generalize recsG l j s4 = Qj at *
     obtain ⟨sj, rsj⟩ := Qj
     simp only at HR HPS HSU hptj
     have HC := hide (fun W (h : RdG W p v sj) (hb : Bx p w W) => cread_any p v l sj W h (HV.out.bx hb) hl HBY.out hptj (hb.handle hpz HG.out) hpz)
     generalize readG l sj = RR at *
     obtain ⟨s', r⟩ := RR
     simp only at HC HSU
     obtain ⟨ao, cap, hu⟩ : ∃ ao cap, u = .slice ao ps.length cap := by
      rcases HN.out.own.2 with ⟨rfl, h0⟩ | ⟨g, cap, cur, rfl, _⟩
      ·exact ⟨none, 0, by rw [h0]⟩
      ·exact ⟨_, _, rfl⟩
     subst hu
     go_upto_region 10 with fail
     refine wp_region_held_drew (S := fun _ => True) (by kernel_rfl) trivial (fun hHeld => ?_)
     have HN0 := hide (HN.out.below ((Below.refl _ _).drew))
     have HR0 := hide (HR.out.below ((Below.refl _ _).drew))
     generalize wr.drew = W0 at HN0 HR0 ⊢
     clear HN HR
     refine tk 0 28 (.pointer (some ⟨w.heap.size + 1, 2, none⟩)) rfl rfl hHeld ?_
     simp only [Act.put, zA, zB, zC]
     refine tk 2 30 (.pointer (some ⟨p, 0, none⟩)) rfl rfl hHeld ?_
     simp only [Act.put, zA, zB, zC]
     refine wpAnyH_ready (rs := [1, 3]) (by kernel_rfl) (by simp) ?_
     refine AllReadyH.cons (o := _) rfl (fun K hK => ?_) (AllReadyH.cons (o := _) rfl (fun K hK => ?_) AllReadyH.nil)
     ·have i2 := HN0.out.x2
      go_simp
      clear i2
      refine hK.out _ _ ?_ (fun hHeld1 => ?_)
      ·exact trivial
      clear hK K hHeld
      have hHeld := hHeld1
      clear hHeld1
      refine wpAnyH_ready (rs := [3]) (by kernel_rfl) (by simp) ?_
      refine AllReadyH.cons (o := _) rfl (fun K hK => ?_) AllReadyH.nil
      go_simp
      go_at_call 83
      refine (HC.out _ HR0.out HN0.out.bx).mono ?_
      rintro e V1 ⟨vx, rfl, hx, hr, hb⟩
      go_wp2_with fail
      refine hK.out _ _ ?_ (fun hHeld1 => ?_)
      ·exact trivial
      clear hK K hHeld
      have hHeld := hHeld1
      clear hHeld1
      obtain ⟨q, hq1, rfl, hq2⟩ := isR_rp hx
      have HQR := hide hq1
      have hob := HN0.out.ob
      have hsz := HN0.out.sz
      have HQW : Hid (RwP (fun k => w.heap.size + 2 ≤ k ∧ (Value.slice ao ps.length cap).ownBlock ≠ some k) V1 q) := hide (hq2.imp (fun k _ hk => ⟨by omega, fun e => by have := (hob k e).2; omega⟩) (fun _ _ _ _ => rfl))
      have HR1 := hide hr
      have HN1 := hide (HN0.out.step hb)
      clear hx hq1 hq2 hr hb hob hsz HR0 HN0
      refine wpAnyH_ready (rs := [4]) (by kernel_rfl) (by simp) ?_
      refine AllReadyH.cons (o := _) rfl (fun K hK => ?_) AllReadyH.nil
      refine step_build_rc rfl _ rfl q rfl ?_
      show K (Act.put _ (some 32) _) _
      simp only [Act.put, zA, zB, zC]
      refine hK.out _ _ ?_ (fun hHeld1 => ?_)
      ·exact trivial
      clear hK K hHeld
      have hHeld := hHeld1
      clear hHeld1
      have hbl : Below V1.heap.size V1 (V1.alloc (.cells (cel q).toArray 45)) := (Below.refl _ _).alloc (Nat.le_refl _) _
      have HN2 := hide (HN1.out.below hbl)
      have HR2 := hide (HR1.out.below hbl)
      have HQ2 := hide (HQW.out.below hbl)
      have HNW := hide (range_news (range_new V1 (cel q) 45))
      generalize V1.alloc (.cells (cel q).toArray 45) = U2 at HN2 HR2 HQ2 HNW ⊢
      generalize V1.heap.size = D at HNW ⊢
      clear hbl HN1 HR1 HQW
      refine wpAnyH_ready (rs := [5]) (by kernel_rfl) (by simp) ?_
      refine AllReadyH.cons (o := _) rfl (fun K hK => ?_) AllReadyH.nil
      refine step_append_rc rfl _ _ rfl (w.heap.size + 2) (.slice ao ps.length cap) ps.length (rcs ps) rfl HN2.out.own (by have := HN2.out.sz; omega) ⟨D, 0, none⟩ 1 (cel q) rfl (cel_len q) HNW.out (cel_one q) (by omega) ?_
      intro V3 u' ho hgr hub
      have HNF := hide (HN2.out.app HQ2.out ho hgr hub)
      have hzV := HN2.out.sz
      have c5 : V3.cell? ⟨w.heap.size + 1, 2, none⟩ = some (.slice ao ps.length cap) := (World.cell?_of_block (hgr.block (w.heap.size + 1) hzV (fun e => by have := (HN2.out.ob _ e.symm).1; omega))).trans HN2.out.x2
      have f5 : V3.frozen? ⟨w.heap.size + 1, 2, none⟩ = false := (World.frozen?_of_block (hgr.block (w.heap.size + 1) hzV (fun e => by have := (HN2.out.ob _ e.symm).1; omega))).trans (HN2.out.xf 2)
      have HRF : Hid (RdG (V3.setCell ⟨w.heap.size + 1, 2, none⟩ u') p v s') := hide (rdG_set (by have hpl := HN2.out.hp; have hq : ∀ i, V3.cell? ⟨p, i, none⟩ = _ := fun i => World.cell?_of_block (hgr.block p (by omega) (fun e => by have := (HN2.out.ob _ e.symm).1; omega)); have hf : ∀ i, V3.frozen? ⟨p, i, none⟩ = _ := fun i => World.frozen?_of_block (hgr.block p (by omega) (fun e => by have := (HN2.out.ob _ e.symm).1; omega)); exact ⟨(hq 0).trans HR2.out.c0, (hq 1).trans HR2.out.c1, (hq 2).trans HR2.out.c2, fun i => (hf i).trans (HR2.out.fz i)⟩) (by omega))
      obtain ⟨a6, c6, hu6⟩ : ∃ a6 c6, u' = .slice a6 (ps.length + 1) c6 := by
       rcases ho.2 with ⟨_, h0⟩ | ⟨g, cap, cur, rfl, _⟩
       ·omega
       ·exact ⟨_, _, rfl⟩
      clear ho hgr hub HN2 HR2 HQ2 HNW
      subst hu6
      show K (Act.put _ (some 33) _) _
      simp only [Act.put, zA, zB, zC]
      refine hK.out _ _ ?_ (fun hHeld1 => ?_)
      ·exact trivial
      clear hK K hHeld
      have hHeld := hHeld1
      clear hHeld1
      refine tk 6 34 (.pointer (some ⟨w.heap.size + 1, 2, none⟩)) rfl rfl hHeld ?_
      simp only [Act.put, zA, zB, zC]
      refine wpAnyH_ready (rs := [7]) (by kernel_rfl) (by simp) ?_
      refine AllReadyH.cons (o := _) rfl (fun K hK => ?_) AllReadyH.nil
      go_simp
      clear c5 f5
      refine hK.out _ _ ?_ (fun hHeld1 => ?_)
      ·exact trivial
      clear hK K hHeld
      have hHeld := hHeld1
      clear hHeld1
      refine wpAnyH_done (by kernel_rfl) ?_ _
      go_wp2_with fail
      go_roundw
      case rel => exact ⟨j + 1, _, ps ++ [q], by omega, by go_num, HNF.out, by rw [HSU.out]; exact HRF.out, by rw [HSU.out]; simp only [rcl, List.map_append, List.map_cons, List.map_nil, HQR.out]; rw [← HPS.out]; rfl⟩
      case measure => simp [intOf]; omega
     ·go_simp
      go_at_call 83
      refine (HC.out _ HR0.out HN0.out.bx).mono ?_
      rintro e V1 ⟨vx, rfl, hx, hr, hb⟩
      go_wp2_with fail
      refine hK.out _ _ ?_ (fun hHeld1 => ?_)
      ·exact trivial
      clear hK K hHeld
      have hHeld := hHeld1
      clear hHeld1
      obtain ⟨q, hq1, rfl, hq2⟩ := isR_rp hx
      have HQR := hide hq1
      have hob := HN0.out.ob
      have hsz := HN0.out.sz
      have HQW : Hid (RwP (fun k => w.heap.size + 2 ≤ k ∧ (Value.slice ao ps.length cap).ownBlock ≠ some k) V1 q) := hide (hq2.imp (fun k _ hk => ⟨by omega, fun e => by have := (hob k e).2; omega⟩) (fun _ _ _ _ => rfl))
      have HR1 := hide hr
      have HN1 := hide (HN0.out.step hb)
      clear hx hq1 hq2 hr hb hob hsz HR0 HN0
      refine wpAnyH_ready (rs := [1, 4]) (by kernel_rfl) (by simp) ?_
      refine AllReadyH.cons (o := _) rfl (fun K hK => ?_) (AllReadyH.cons (o := _) rfl (fun K hK => ?_) AllReadyH.nil)
      ·have i2 := HN1.out.x2
       go_simp
       clear i2
       refine hK.out _ _ ?_ (fun hHeld1 => ?_)
       ·exact trivial
       clear hK K hHeld
       have hHeld := hHeld1
       clear hHeld1
       refine wpAnyH_ready (rs := [4]) (by kernel_rfl) (by simp) ?_
       refine AllReadyH.cons (o := _) rfl (fun K hK => ?_) AllReadyH.nil
       refine step_build_rc rfl _ rfl q rfl ?_
       show K (Act.put _ (some 32) _) _
       simp only [Act.put, zA, zB, zC]
       refine hK.out _ _ ?_ (fun hHeld1 => ?_)
       ·exact trivial
       clear hK K hHeld
       have hHeld := hHeld1
       clear hHeld1
       have hbl : Below V1.heap.size V1 (V1.alloc (.cells (cel q).toArray 45)) := (Below.refl _ _).alloc (Nat.le_refl _) _
       have HN2 := hide (HN1.out.below hbl)
       have HR2 := hide (HR1.out.below hbl)
       have HQ2 := hide (HQW.out.below hbl)
       have HNW := hide (range_news (range_new V1 (cel q) 45))
       generalize V1.alloc (.cells (cel q).toArray 45) = U2 at HN2 HR2 HQ2 HNW ⊢
       generalize V1.heap.size = D at HNW ⊢
       clear hbl HN1 HR1 HQW
       refine wpAnyH_ready (rs := [5]) (by kernel_rfl) (by simp) ?_
       refine AllReadyH.cons (o := _) rfl (fun K hK => ?_) AllReadyH.nil
       refine step_append_rc rfl _ _ rfl (w.heap.size + 2) (.slice ao ps.length cap) ps.length (rcs ps) rfl HN2.out.own (by have := HN2.out.sz; omega) ⟨D, 0, none⟩ 1 (cel q) rfl (cel_len q) HNW.out (cel_one q) (by omega) ?_
       intro V3 u' ho hgr hub
       have HNF := hide (HN2.out.app HQ2.out ho hgr hub)
       have hzV := HN2.out.sz
       have c5 : V3.cell? ⟨w.heap.size + 1, 2, none⟩ = some (.slice ao ps.length cap) := (World.cell?_of_block (hgr.block (w.heap.size + 1) hzV (fun e => by have := (HN2.out.ob _ e.symm).1; omega))).trans HN2.out.x2
       have f5 : V3.frozen? ⟨w.heap.size + 1, 2, none⟩ = false := (World.frozen?_of_block (hgr.block (w.heap.size + 1) hzV (fun e => by have := (HN2.out.ob _ e.symm).1; omega))).trans (HN2.out.xf 2)
       have HRF : Hid (RdG (V3.setCell ⟨w.heap.size + 1, 2, none⟩ u') p v s') := hide (rdG_set (by have hpl := HN2.out.hp; have hq : ∀ i, V3.cell? ⟨p, i, none⟩ = _ := fun i => World.cell?_of_block (hgr.block p (by omega) (fun e => by have := (HN2.out.ob _ e.symm).1; omega)); have hf : ∀ i, V3.frozen? ⟨p, i, none⟩ = _ := fun i => World.frozen?_of_block (hgr.block p (by omega) (fun e => by have := (HN2.out.ob _ e.symm).1; omega)); exact ⟨(hq 0).trans HR2.out.c0, (hq 1).trans HR2.out.c1, (hq 2).trans HR2.out.c2, fun i => (hf i).trans (HR2.out.fz i)⟩) (by omega))
       obtain ⟨a6, c6, hu6⟩ : ∃ a6 c6, u' = .slice a6 (ps.length + 1) c6 := by
        rcases ho.2 with ⟨_, h0⟩ | ⟨g, cap, cur, rfl, _⟩
        ·omega
        ·exact ⟨_, _, rfl⟩
       clear ho hgr hub HN2 HR2 HQ2 HNW
       subst hu6
       show K (Act.put _ (some 33) _) _
       simp only [Act.put, zA, zB, zC]
       refine hK.out _ _ ?_ (fun hHeld1 => ?_)
       ·exact trivial
       clear hK K hHeld
       have hHeld := hHeld1
       clear hHeld1
       refine tk 6 34 (.pointer (some ⟨w.heap.size + 1, 2, none⟩)) rfl rfl hHeld ?_
       simp only [Act.put, zA, zB, zC]
       refine wpAnyH_ready (rs := [7]) (by kernel_rfl) (by simp) ?_
       refine AllReadyH.cons (o := _) rfl (fun K hK => ?_) AllReadyH.nil
       go_simp
       clear c5 f5
       refine hK.out _ _ ?_ (fun hHeld1 => ?_)
       ·exact trivial
       clear hK K hHeld
       have hHeld := hHeld1
       clear hHeld1
       refine wpAnyH_done (by kernel_rfl) ?_ _
       go_wp2_with fail
       go_roundw
       case rel => exact ⟨j + 1, _, ps ++ [q], by omega, by go_num, HNF.out, by rw [HSU.out]; exact HRF.out, by rw [HSU.out]; simp only [rcl, List.map_append, List.map_cons, List.map_nil, HQR.out]; rw [← HPS.out]; rfl⟩
       case measure => simp [intOf]; omega
      ·refine step_build_rc rfl _ rfl q rfl ?_
       show K (Act.put _ (some 32) _) _
       simp only [Act.put, zA, zB, zC]
       refine hK.out _ _ ?_ (fun hHeld1 => ?_)
       ·exact trivial
       clear hK K hHeld
       have hHeld := hHeld1
       clear hHeld1
       have hbl : Below V1.heap.size V1 (V1.alloc (.cells (cel q).toArray 45)) := (Below.refl _ _).alloc (Nat.le_refl _) _
       have HN2 := hide (HN1.out.below hbl)
       have HR2 := hide (HR1.out.below hbl)
       have HQ2 := hide (HQW.out.below hbl)
       have HNW := hide (range_news (range_new V1 (cel q) 45))
       generalize V1.alloc (.cells (cel q).toArray 45) = U2 at HN2 HR2 HQ2 HNW ⊢
       generalize V1.heap.size = D at HNW ⊢
       clear hbl HN1 HR1 HQW
       refine wpAnyH_ready (rs := [1]) (by kernel_rfl) (by simp) ?_
       refine AllReadyH.cons (o := _) rfl (fun K hK => ?_) AllReadyH.nil
       have i2 := HN2.out.x2
       go_simp
       clear i2
       refine hK.out _ _ ?_ (fun hHeld1 => ?_)
       ·exact trivial
       clear hK K hHeld
       have hHeld := hHeld1
       clear hHeld1
       refine wpAnyH_ready (rs := [5]) (by kernel_rfl) (by simp) ?_
       refine AllReadyH.cons (o := _) rfl (fun K hK => ?_) AllReadyH.nil
       refine step_append_rc rfl _ _ rfl (w.heap.size + 2) (.slice ao ps.length cap) ps.length (rcs ps) rfl HN2.out.own (by have := HN2.out.sz; omega) ⟨D, 0, none⟩ 1 (cel q) rfl (cel_len q) HNW.out (cel_one q) (by omega) ?_
       intro V3 u' ho hgr hub
       have HNF := hide (HN2.out.app HQ2.out ho hgr hub)
       have hzV := HN2.out.sz
       have c5 : V3.cell? ⟨w.heap.size + 1, 2, none⟩ = some (.slice ao ps.length cap) := (World.cell?_of_block (hgr.block (w.heap.size + 1) hzV (fun e => by have := (HN2.out.ob _ e.symm).1; omega))).trans HN2.out.x2
       have f5 : V3.frozen? ⟨w.heap.size + 1, 2, none⟩ = false := (World.frozen?_of_block (hgr.block (w.heap.size + 1) hzV (fun e => by have := (HN2.out.ob _ e.symm).1; omega))).trans (HN2.out.xf 2)
       have HRF : Hid (RdG (V3.setCell ⟨w.heap.size + 1, 2, none⟩ u') p v s') := hide (rdG_set (by have hpl := HN2.out.hp; have hq : ∀ i, V3.cell? ⟨p, i, none⟩ = _ := fun i => World.cell?_of_block (hgr.block p (by omega) (fun e => by have := (HN2.out.ob _ e.symm).1; omega)); have hf : ∀ i, V3.frozen? ⟨p, i, none⟩ = _ := fun i => World.frozen?_of_block (hgr.block p (by omega) (fun e => by have := (HN2.out.ob _ e.symm).1; omega)); exact ⟨(hq 0).trans HR2.out.c0, (hq 1).trans HR2.out.c1, (hq 2).trans HR2.out.c2, fun i => (hf i).trans (HR2.out.fz i)⟩) (by omega))
       obtain ⟨a6, c6, hu6⟩ : ∃ a6 c6, u' = .slice a6 (ps.length + 1) c6 := by
        rcases ho.2 with ⟨_, h0⟩ | ⟨g, cap, cur, rfl, _⟩
        ·omega
        ·exact ⟨_, _, rfl⟩
       clear ho hgr hub HN2 HR2 HQ2 HNW
       subst hu6
       show K (Act.put _ (some 33) _) _
       simp only [Act.put, zA, zB, zC]
       refine hK.out _ _ ?_ (fun hHeld1 => ?_)
       ·exact trivial
       clear hK K hHeld
       have hHeld := hHeld1
       clear hHeld1
       refine tk 6 34 (.pointer (some ⟨w.heap.size + 1, 2, none⟩)) rfl rfl hHeld ?_
       simp only [Act.put, zA, zB, zC]
       refine wpAnyH_ready (rs := [7]) (by kernel_rfl) (by simp) ?_
       refine AllReadyH.cons (o := _) rfl (fun K hK => ?_) AllReadyH.nil
       go_simp
       clear c5 f5
       refine hK.out _ _ ?_ (fun hHeld1 => ?_)
       ·exact trivial
       clear hK K hHeld
       have hHeld := hHeld1
       clear hHeld1
       refine wpAnyH_done (by kernel_rfl) ?_ _
       go_wp2_with fail
       go_roundw
       case rel => exact ⟨j + 1, _, ps ++ [q], by omega, by go_num, HNF.out, by rw [HSU.out]; exact HRF.out, by rw [HSU.out]; simp only [rcl, List.map_append, List.map_cons, List.map_nil, HQR.out]; rw [← HPS.out]; rfl⟩
       case measure => simp [intOf]; omega
    ·obtain rfl : j = M := by omega
     have hptj := recs_pt HBY.out hpt4 j
     generalize recsG l j s4 = Qj at *
     obtain ⟨sj, rsj⟩ := Qj
     simp only at HR HPS HNG hptj
     subst rsj
     have HA := hide (at_any p v _ _ wr HR.out)
     have HRR := hide (fun W (h : RdG W p v sj) => refuse_gs p v sj ⟨#[98, 97, 116, 99, 104]⟩ 6 W (by decide) h)
     clear hlt
     have hsI : ((sj.pt : Int) - (s.pt : Int)) ≤ 100000 := by omega
     have r0 := HN.out.r0
     have r1 := HN.out.r1
     have r2 := HN.out.r2
     have rf0 := HN.out.rf 0
     have rf1 := HN.out.rf 1
     have rf2 := HN.out.rf 2
     have hRp : w.heap.size ≠ p := by omega
     by_cases hbig : (16384 : Int) < (sj.pt : Int) - (s.pt : Int)
     ·have hrb := refS_bad ⟨#[98, 97, 116, 99, 104]⟩ (c := 6) sj (by decide)
      have HNE : Hid (NG = (refS ⟨#[98, 97, 116, 99, 104]⟩ 6 sj, Bt.zero)) := hide (by rw [HNG.out, if_pos hbig, if_neg hrb])
      generalize refS ⟨#[98, 97, 116, 99, 104]⟩ 6 sj = s5 at *
      have HEE := hide (fun W (h : RdG W p v s5) => err_any p v _ _ W h)
      rw [show erN s5.op s5.pt s5.c = ft s5.op s5.pt s5.c from if_neg hrb] at HEE
      unfold ft at HEE
      clear r0 r1 r2 rf0 rf1 rf2
      go_wp2_with (first | (go_at_call 82; refine HA.out.mono ?_; rintro e w9 ⟨rfl, hw9⟩; rw [hw9]; clear hw9 w9) | (go_at_call 55; refine (HRR.out _ HR.out).mono ?_; rintro e V5 ⟨rfl, hr5, hb5⟩; have HN5 := hide (HN.out.step hb5); have HR5 := hide hr5; clear hr5 hb5; have r0 := HN5.out.r0; have r1 := HN5.out.r1; have r2 := HN5.out.r2; have rf0 := HN5.out.rf 0; have rf1 := HN5.out.rf 1; have rf2 := HN5.out.rf 2) | (go_at_call 84; refine (HEE.out _ HR5.out).mono ?_; rintro e w9 ⟨rfl, hw9⟩; rw [hw9]; clear hw9 w9))
      exact bodyPost_ret (v := .agg #[.int .i64 0, .int .i64 0, .slice none 0 0]) (by simp [results, Tryz.results54, go_sem, r0, r1, r2]) rfl ⟨_, rfl, by rw [HNE.out]; exact isB_zero _ _ _, by rw [HNE.out]; exact rdG_set (rdG_set (rdG_set HR5.out hRp) hRp) hRp, ((HN5.out.bx.fresh (Nat.le_refl _)).fresh (Nat.le_refl _)).fresh (Nat.le_refl _)⟩
     ·have HNE2 : Hid (NG = if sj.c = 0 then (sj, ⟨x1, x2, rcl ps⟩) else (sj, Bt.zero)) := hide (by rw [HNG.out, if_neg hbig])
      have HEE := hide (err_any p v _ _ wr HR.out)
      by_cases hc : sj.c = 0
      ·have HNE : Hid (NG = (sj, ⟨x1, x2, rcl ps⟩)) := hide (by rw [HNE2.out, if_pos hc])
       rw [show erN sj.op sj.pt sj.c = .nilIface from if_pos hc] at HEE
       have y0 := HN.out.x0
       have y1 := HN.out.x1
       have y2 := HN.out.x2
       obtain ⟨ao, cap, hu⟩ : ∃ ao cap, u = .slice ao ps.length cap := by
        rcases HN.out.own.2 with ⟨rfl, h0⟩ | ⟨g, cap, cur, rfl, _⟩
        ·exact ⟨none, 0, by rw [h0]⟩
        ·exact ⟨_, _, rfl⟩
       subst hu
       go_wp2_with (first | (go_at_call 82; refine HA.out.mono ?_; rintro e w9 ⟨rfl, hw9⟩; rw [hw9]; clear hw9 w9) | (go_at_call 84; refine HEE.out.mono ?_; rintro e w9 ⟨rfl, hw9⟩; rw [hw9]; clear hw9 w9))
       exact bodyPost_ret (v := .agg #[.int .i64 x1, .int .i64 x2, .slice ao ps.length cap]) (by simp [results, Tryz.results54, go_sem, r0, r1, r2]) rfl ⟨_, rfl, by rw [HNE.out]; exact HN.out.isB (fun k i hk => by iterate 3 rw [World.cell?_setCell_other _ _ _ _ (fun e => hk (congrArg Addr.block e).symm)]), by rw [HNE.out]; exact rdG_set (rdG_set (rdG_set HR.out hRp) hRp) hRp, ((HN.out.bx.fresh (Nat.le_refl _)).fresh (Nat.le_refl _)).fresh (Nat.le_refl _)⟩
      ·have HNE : Hid (NG = (sj, Bt.zero)) := hide (by rw [HNE2.out, if_neg hc])
       rw [show erN sj.op sj.pt sj.c = ft sj.op sj.pt sj.c from if_neg hc] at HEE
       unfold ft at HEE
       go_wp2_with (first | (go_at_call 82; refine HA.out.mono ?_; rintro e w9 ⟨rfl, hw9⟩; rw [hw9]; clear hw9 w9) | (go_at_call 84; refine HEE.out.mono ?_; rintro e w9 ⟨rfl, hw9⟩; rw [hw9]; clear hw9 w9))
       exact bodyPost_ret (v := .agg #[.int .i64 0, .int .i64 0, .slice none 0 0]) (by simp [results, Tryz.results54, go_sem, r0, r1, r2]) rfl ⟨_, rfl, by rw [HNE.out]; exact isB_zero _ _ _, by rw [HNE.out]; exact rdG_set (rdG_set (rdG_set HR.out hRp) hRp) hRp, ((HN.out.bx.fresh (Nat.le_refl _)).fresh (Nat.le_refl _)).fresh (Nat.le_refl _)⟩
theorem next_any (p : Nat) (v : Value) (l : List Int) (s : Gs) (w : World) (hrd : RdG w p v s) (hv : Slx p bc w v l) (hl : l.length ≤ 100000) (hby : Byt l) (hs : s.pt ≤ l.length) (hg : Hnd w) (hpz : p ≠ 0) :
  Calls Tryz.prog 54 #[.pointer (some ⟨p, 0, none⟩)] w fun e w' => ∃ vx, e = .returned vx ∧ IsB (fun k => w.heap.size ≤ k) (fun k => w.heap.size ≤ k) w' vx (nextG l s).2 ∧ RdG w' p v (nextG l s).1 ∧ Bx p w w' := by
 rcases h1 : gN 1073741824 l s with ⟨s1, x1⟩
 rcases h2 : gN 1073741824 l s1 with ⟨s2, x2⟩
 rcases h3 : gN 64 l s2 with ⟨s3, x3⟩
 refine next_go p v l s s1 s2 s3 _ x1 x2 x3 _ w hrd hv hl hby hs hg hpz (hide h1) (hide h2) (hide h3) (hide rfl) (hide rfl) ?_
 unfold gN at h3
 split at h3
 ·obtain ⟨_, e⟩ := Prod.mk.inj h3
  rw [← e]
  rcases hq : numS (l.drop s2.pt) 64 with ⟨c, k, n⟩
  by_cases hc : c = 0
  ·subst hc
   obtain ⟨_, _, e3, _, e5, _⟩ := numS_once (fun x hx => hby x (List.mem_of_mem_drop hx)) hq
   exact ⟨e3, e5⟩
  ·have := (numS_bad hq hc).2
   simp only
   omega
 ·obtain ⟨_, e⟩ := Prod.mk.inj h3
  rw [← e]
  omega
def endS (l : List Int) (s : Gs) : Gs := if s.pt < l.length then refS ⟨#[101, 110, 100]⟩ 5 s else s
theorem rend_gs (p : Nat) (ao : Option Addr) (cap : Nat) (l : List Int) (s : Gs) (w : World) (hr : RdG w p (.slice ao l.length cap) s) :
  Calls Tryz.prog 18 #[.pointer (some ⟨p, 0, none⟩)] w fun x w' => x = .returned (erN (endS l s).op (endS l s).pt (endS l s).c) ∧ RdG w' p (.slice ao l.length cap) (endS l s) ∧ Bx p w w' := by
 by_cases hc : s.c = 0
 ·have hr' : Rd w p (.slice ao l.length cap) s.pt .nilIface := by unfold RdG at hr; rwa [erN, if_pos hc] at hr
  refine (rend_any p ao l.length cap s.pt w hr').mono ?_
  rintro e w' ⟨rfl, h2, h3⟩
  unfold endS refS
  by_cases hp : s.pt < l.length
  ·rw [if_pos hp, if_pos hc]
   rw [show endC l.length s.pt = 5 by simp [endC, hp]] at h2 ⊢
   exact ⟨rfl, h2, h3⟩
  ·rw [if_neg hp]
   rw [show endC l.length s.pt = 0 by simp [endC, hp]] at h2 ⊢
   unfold RdG
   rw [hc]
   exact ⟨rfl, h2, h3⟩
 ·have hb := hr.bad hc
  have he : endS l s = s := by unfold endS refS; rw [if_neg hc]; split <;> rfl
  rw [he, show erN s.op s.pt s.c = ft s.op s.pt s.c from if_neg hc]
  refine (rend_err p ao l.length cap s.pt _ _ w hb).mono ?_
  rintro e w' ⟨rfl, h2, h3⟩
  exact ⟨rfl, by unfold RdG; rw [erN, if_neg hc]; exact h2, h3⟩
theorem chk_ln {r : Rc} (h : (chk r).2.2 = 0) : LnR r := by
 have hi := chk_is h
 have hrow : ∀ (l : List Int) (h : Bool), rowB l h = true → l.length ≤ 100000 := fun l h e => by
  have := rowB_asks e
  split at this
  ·have := this.1; omega
  ·rw [this]; simp
 exact ⟨hrow _ _ hi.ids, hrow _ _ hi.isr, hrow _ _ hi.ad, hrow _ _ hi.dr⟩
end Go.Proofs.YtjjpfajbljbelaaGreatDoor
