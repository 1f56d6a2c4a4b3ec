/-
  TWO RECORDS THE SAME (slices.Equal, record.sameNumbers, sameTexts, Same; castellanref02.Ints, castellanref05.Same): just if all their fields are. Conditions: the rows' cells hold them, no more than a hundred thousand numbers.
  fault.Path AND fault.Under, slices.Contains AND slices.Index at texts, at every error that a law makes. Conditions: errors.errorType holds the handle of the type error, and no more than a thousand steps.
  slices.Index AND slices.Contains at texts, fault.Under, and castellanref01.Texts: what is found among texts, and whether two lists of texts are the same. Conditions: the slices' cells hold the texts, and no more than a thousand of them.
-/
import Derived.Test.YtjjpfajbljbelaaGreatDoorJKWputba5
namespace Go.Proofs.YtjjpfajbljbelaaGreatDoor
open Go.RowKit
set_option maxRecDepth 100000
set_option maxHeartbeats 4000000
def eqI (a b : List Int) : Bool := decide (a = b)
theorem eqI_no {a b : List Int} {j : Nat} (h : ¬ a.getD j 0 = b.getD j 0) : eqI a b = false := decide_eq_false (fun e => h (by rw [e]))
theorem eqI_len {a b : List Int} (h : ¬ a.length = b.length) : eqI a b = false := decide_eq_false (fun e => h (by rw [e]))
theorem eqI_yes {a b : List Int} (hl : a.length = b.length) (h : ∀ j, j < a.length → a.getD j 0 = b.getD j 0) : eqI a b = true := by
 refine decide_eq_true (List.ext_getElem hl fun i h1 h2 => ?_)
 have := h i h1
 simpa [List.getD, h1, h2] using this
theorem equal_some (b o cap b' o' cap' : Nat) (a c : List Int) (w : World) (hac : a.length = c.length) (hl : a.length ≤ 100000) (h3 : ∀ i (h : i < a.length), w.cell? ⟨b, o + i, none⟩ = some (ic a[i])) (h3' : ∀ i (h : i < c.length), w.cell? ⟨b', o' + i, none⟩ = some (ic c[i])) :
  Calls Tryz.prog 106 #[.slice (some ⟨b, o, none⟩) a.length cap, .slice (some ⟨b', o', none⟩) a.length cap'] w fun e w' => e = .returned (.bool (eqI a c)) ∧ Qt w w' := by
 obtain ⟨R, hR⟩ : ∃ R, R = eqI a c := ⟨_, rfl⟩
 rw [← hR]
 have HR := hide hR
 clear hR
 have H3 : Hid (∀ W, Qt w W → ∀ i, i < a.length → W.cell? ⟨b, o + i, none⟩ = some (.int .i64 (a.getD i 0))) := hide (fun W hW i hi => by
  have := h3 i hi
  rw [hW.below.cell (p := ⟨b, o + i, none⟩) (cell_block this), this]
  simp [List.getD, hi, ic])
 have H4 : Hid (∀ W, Qt w W → ∀ i, i < a.length → W.cell? ⟨b', o' + i, none⟩ = some (.int .i64 (c.getD i 0))) := hide (fun W hW i hi => by
  have hi' : i < c.length := by omega
  have := h3' i hi'
  rw [hW.below.cell (p := ⟨b', o' + i, none⟩) (cell_block this), this]
  simp [List.getD, hi', ic])
 have HAC := hide hac
 clear h3 h3' hac
 go_enter Tryz.func106, Tryz.ntmps106
 go_wp2_with fail
 go_loopw [13] (fun i wr => ∃ j : Nat, j ≤ a.length ∧ i = .int .i64 (j : Int) ∧ Hid (∀ m, m < j → a.getD m 0 = c.getD m 0) ∧ Qt w wr) (fun i _ => a.length - (intOf i).toNat)
 case atStart => exact ⟨0, Nat.zero_le _, rfl, hide (fun m hm => absurd hm (Nat.not_lt_zero _)), Qt.refl _⟩
 case round =>
  obtain ⟨j, hj, rfl, HN, hb⟩ := hrel
  have HB := hide hb
  clear hb
  by_cases hlt : j < a.length
  ·have hltI : (j : Int) < (a.length : Int) := by omega
   have cj := H3.out wr HB.out j hlt
   have dj := H4.out wr HB.out j hlt
   obtain ⟨x, hx⟩ : ∃ x, x = a.getD j 0 := ⟨_, rfl⟩
   obtain ⟨y, hy⟩ : ∃ y, y = c.getD j 0 := ⟨_, rfl⟩
   rw [← hx] at cj
   rw [← hy] at dj
   have HX := hide hx
   have HY := hide hy
   clear hx hy
   by_cases he : x = y
   ·subst he
    go_wp2_with fail
    go_quiet (fail)
    go_wp2_with fail
    go_roundw
    case rel => exact ⟨j + 1, by omega, by go_num, hide (fun m hm => by by_cases e : m = j; (subst e; rw [← HX.out, ← HY.out]); exact HN.out m (by omega)), HB.out.drewN _⟩
    case measure => simp [intOf]; omega
   ·have HE : Hid (R = false) := hide (by rw [HR.out]; exact eqI_no (j := j) (by rw [← HX.out, ← HY.out]; exact he))
    have he' : (x != y) = true := by simpa using he
    go_wp2_with fail
    go_quiet (fail)
    go_wp2_with fail
    go_ret
    exact ⟨by rw [HE.out]; rfl, HB.out.drewN _⟩
  ·obtain rfl : j = a.length := by omega
   have HE : Hid (R = true) := hide (by rw [HR.out]; exact eqI_yes HAC.out HN.out)
   clear hlt
   go_wp2_with fail
   go_ret
   exact ⟨by rw [HE.out]; rfl, HB.out⟩
theorem equal_none (ao bo : Option Addr) (cap cap' : Nat) (w : World) : Calls Tryz.prog 106 #[.slice ao 0 cap, .slice bo 0 cap'] w fun e w' => e = .returned (.bool (eqI [] [])) ∧ Qt w w' := by
 go_enter Tryz.func106, Tryz.ntmps106
 go_wp2_with fail
 refine wp_loop_rounds 1 ?_
 rw [rounds_succ]
 go_wp2_with fail
 go_ret
 exact ⟨rfl, Qt.refl _⟩
theorem equal_len (ao bo : Option Addr) (L M cap cap' : Nat) (w : World) (h : ¬ L = M) : Calls Tryz.prog 106 #[.slice ao L cap, .slice bo M cap'] w fun e w' => e = .returned (.bool false) ∧ Qt w w' := by
 have h' : ((L : Int) != (M : Int)) = true := by simpa using fun e => h (by omega)
 go_enter Tryz.func106, Tryz.ntmps106
 go_wp2_with fail
 go_ret
 exact ⟨rfl, Qt.refl _⟩
theorem equal_any (v u : Value) (a c : List Int) (w : World) (hv : Sl ic w v a) (hu : Sl ic w u c) (hl : a.length ≤ 100000) : Calls Tryz.prog 106 #[v, u] w fun e w' => e = .returned (.bool (eqI a c)) ∧ Qt w w' := by
 by_cases hac : a.length = c.length
 ·rcases hv with ⟨ao, cap, rfl, rfl⟩ | ⟨b, o, cap, rfl, hc, h3⟩
  ·obtain ⟨bo, cap', rfl⟩ := hu.form
   have : c = [] := List.length_eq_zero_iff.1 (by simpa using hac.symm)
   subst this
   exact equal_none ao bo cap cap' w
  ·rcases hu with ⟨ao', cap', rfl, rfl⟩ | ⟨b', o', cap', rfl, hc', h3'⟩
   ·have : a = [] := List.length_eq_zero_iff.1 (by simpa using hac)
    subst this
    exact equal_none _ _ cap cap' w
   ·rw [← hac]
    exact equal_some b o cap b' o' cap' a c w hac hl h3 h3'
 ·obtain ⟨ao, cap, rfl⟩ := hv.form
  obtain ⟨bo, cap', rfl⟩ := hu.form
  rw [eqI_len hac]
  exact equal_len ao bo _ _ cap cap' w hac
theorem ints_some (b o cap b' o' cap' : Nat) (a c : List Int) (w : World) (hac : a.length = c.length) (hl : a.length ≤ 100000) (h3 : ∀ i (h : i < a.length), w.cell? ⟨b, o + i, none⟩ = some (ic a[i])) (h3' : ∀ i (h : i < c.length), w.cell? ⟨b', o' + i, none⟩ = some (ic c[i])) :
  Calls Tryz.prog 119 #[.slice (some ⟨b, o, none⟩) a.length cap, .slice (some ⟨b', o', none⟩) a.length cap'] w fun e w' => e = .returned (.bool (eqI a c)) ∧ Qt w w' := by
 obtain ⟨R, hR⟩ : ∃ R, R = eqI a c := ⟨_, rfl⟩
 rw [← hR]
 have HR := hide hR
 clear hR
 have H3 : Hid (∀ W, Qt w W → ∀ i, i < a.length → W.cell? ⟨b, o + i, none⟩ = some (.int .i64 (a.getD i 0))) := hide (fun W hW i hi => by
  have := h3 i hi
  rw [hW.below.cell (p := ⟨b, o + i, none⟩) (cell_block this), this]
  simp [List.getD, hi, ic])
 have H4 : Hid (∀ W, Qt w W → ∀ i, i < a.length → W.cell? ⟨b', o' + i, none⟩ = some (.int .i64 (c.getD i 0))) := hide (fun W hW i hi => by
  have hi' : i < c.length := by omega
  have := h3' i hi'
  rw [hW.below.cell (p := ⟨b', o' + i, none⟩) (cell_block this), this]
  simp [List.getD, hi', ic])
 have HAC := hide hac
 clear h3 h3' hac
 go_enter Tryz.func119, Tryz.ntmps119
 go_wp2_with fail
 go_loopw [5] (fun i wr => ∃ j : Nat, j ≤ a.length ∧ i = .int .i64 (j : Int) ∧ Hid (∀ m, m < j → a.getD m 0 = c.getD m 0) ∧ Qt w wr) (fun i _ => a.length - (intOf i).toNat)
 case atStart => exact ⟨0, Nat.zero_le _, rfl, hide (fun m hm => absurd hm (Nat.not_lt_zero _)), Qt.refl _⟩
 case round =>
  obtain ⟨j, hj, rfl, HN, hb⟩ := hrel
  have HB := hide hb
  clear hb
  by_cases hlt : j < a.length
  ·have hltI : (j : Int) < (a.length : Int) := by omega
   have cj := H3.out wr HB.out j hlt
   have dj := H4.out wr HB.out j hlt
   obtain ⟨x, hx⟩ : ∃ x, x = a.getD j 0 := ⟨_, rfl⟩
   obtain ⟨y, hy⟩ : ∃ y, y = c.getD j 0 := ⟨_, rfl⟩
   rw [← hx] at cj
   rw [← hy] at dj
   have HX := hide hx
   have HY := hide hy
   clear hx hy
   by_cases he : x = y
   ·subst he
    go_wp2_with fail
    go_quiet (fail)
    go_wp2_with fail
    go_roundw
    case rel => exact ⟨j + 1, by omega, by go_num, hide (fun m hm => by by_cases e : m = j; (subst e; rw [← HX.out, ← HY.out]); exact HN.out m (by omega)), HB.out.drewN _⟩
    case measure => simp [intOf]; omega
   ·have HE : Hid (R = false) := hide (by rw [HR.out]; exact eqI_no (j := j) (by rw [← HX.out, ← HY.out]; exact he))
    have he' : (x != y) = true := by simpa using he
    go_wp2_with fail
    go_quiet (fail)
    go_wp2_with fail
    go_ret
    exact ⟨by rw [HE.out]; rfl, HB.out.drewN _⟩
  ·obtain rfl : j = a.length := by omega
   have HE : Hid (R = true) := hide (by rw [HR.out]; exact eqI_yes HAC.out HN.out)
   clear hlt
   go_wp2_with fail
   go_ret
   exact ⟨by rw [HE.out]; rfl, HB.out⟩
theorem ints_none (ao bo : Option Addr) (cap cap' : Nat) (w : World) : Calls Tryz.prog 119 #[.slice ao 0 cap, .slice bo 0 cap'] w fun e w' => e = .returned (.bool (eqI [] [])) ∧ Qt w w' := by
 go_enter Tryz.func119, Tryz.ntmps119
 go_wp2_with fail
 refine wp_loop_rounds 1 ?_
 rw [rounds_succ]
 go_wp2_with fail
 go_ret
 exact ⟨rfl, Qt.refl _⟩
theorem ints_len (ao bo : Option Addr) (L M cap cap' : Nat) (w : World) (h : ¬ L = M) : Calls Tryz.prog 119 #[.slice ao L cap, .slice bo M cap'] w fun e w' => e = .returned (.bool false) ∧ Qt w w' := by
 have h' : ((L : Int) != (M : Int)) = true := by simpa using fun e => h (by omega)
 go_enter Tryz.func119, Tryz.ntmps119
 go_wp2_with fail
 go_ret
 exact ⟨rfl, Qt.refl _⟩
theorem ints_any (v u : Value) (a c : List Int) (w : World) (hv : Sl ic w v a) (hu : Sl ic w u c) (hl : a.length ≤ 100000) : Calls Tryz.prog 119 #[v, u] w fun e w' => e = .returned (.bool (eqI a c)) ∧ Qt w w' := by
 by_cases hac : a.length = c.length
 ·rcases hv with ⟨ao, cap, rfl, rfl⟩ | ⟨b, o, cap, rfl, hc, h3⟩
  ·obtain ⟨bo, cap', rfl⟩ := hu.form
   have : c = [] := List.length_eq_zero_iff.1 (by simpa using hac.symm)
   subst this
   exact ints_none ao bo cap cap' w
  ·rcases hu with ⟨ao', cap', rfl, rfl⟩ | ⟨b', o', cap', rfl, hc', h3'⟩
   ·have : a = [] := List.length_eq_zero_iff.1 (by simpa using hac)
    subst this
    exact ints_none _ _ cap cap' w
   ·rw [← hac]
    exact ints_some b o cap b' o' cap' a c w hac hl h3 h3'
 ·obtain ⟨ao, cap, rfl⟩ := hv.form
  obtain ⟨bo, cap', rfl⟩ := hu.form
  rw [eqI_len hac]
  exact ints_len ao bo _ _ cap cap' w hac
theorem six {W : World} {p : Nat} {x0 x1 x2 x3 x4 x5 x6 x7 x8 x9 x10 x11 x12 x13 x14 x15 x16 x17 : Value} (h : W.rangeAt p 0 [x0, x1, x2, x3, x4, x5, x6, x7, x8, x9, x10, x11, x12, x13, x14, x15, x16, x17]) : W.cell? ⟨p, 0, none⟩ = some x0 ∧ W.cell? ⟨p, 9, none⟩ = some x9 ∧ W.cell? ⟨p, 14, none⟩ = some x14 ∧ W.cell? ⟨p, 15, none⟩ = some x15 ∧ W.cell? ⟨p, 16, none⟩ = some x16 ∧ W.cell? ⟨p, 17, none⟩ = some x17 :=
 ⟨h 0 _ rfl, h 9 _ rfl, h 14 _ rfl, h 15 _ rfl, h 16 _ rfl, h 17 _ rfl⟩
theorem lay2 (w : World) (A B : List Value) : ∃ X, Hid (X = (w.alloc (.cells A.toArray 45)).alloc (.cells B.toArray 45)) ∧ Hid (X.rangeAt w.heap.size 0 A) ∧ Hid (X.rangeAt (w.heap.size + 1) 0 B) ∧ Hid (Below w.heap.size w X) := by
 refine ⟨_, hide rfl, hide (World.rangeAt_alloc (range_new w _ _) _), hide ?_, hide (((Below.refl _ _).alloc (Nat.le_refl _) _).alloc (by simp) _)⟩
 have := range_new (w.alloc (.cells A.toArray 45)) B 45
 have hz : (w.alloc (.cells A.toArray 45)).heap.size = w.heap.size + 1 := by simp
 rwa [hz] at this
open Go.RowKit Go.Extern.Stop Go.Stop Go.Extern
theorem info9 : (Tryz.prog.info? 9).map (fun i => (i.zero, i.size, i.bytes)) = some (some (.string ByteArray.empty), 1, 16) := by kernel_rfl
def sv (l : List (ByteArray × Int)) : List Value := l.map fun s => Value.string s.1
theorem sv_snoc (l : List (ByteArray × Int)) (k : Nat) (hk : k < l.length) : sv (l.take (k + 1)) = sv (l.take k) ++ [.string l[k].1] := by
 rw [List.take_succ_eq_append_getElem hk]
 simp only [sv, List.map_append, List.map_cons, List.map_nil]
theorem path_step {w wr w1 : World} {k : Nat} {l : List (ByteArray × Int)} {v v' : Value} {o o' : Obj} (hk : k < l.length) (hs : w.heap.size ≤ wr.heap.size) (hb : Below w.heap.size w wr)
  (hown : wr.ownsRow w.heap.size 9 1 v k (sv (l.take k)))
  (hown' : w1.ownsRow w.heap.size 9 1 v' (k + 1) ((sv (l.take k)) ++ [.string l[k].1])) (hgrow : ((wr.alloc o).alloc o').grownBy w1 v.ownBlock) :
  w1.ownsRow w.heap.size 9 1 v' (k + 1) (sv (l.take (k + 1))) ∧ Below w.heap.size w w1 ∧ w.heap.size ≤ w1.heap.size := by
 have hB : Below w.heap.size w w1 := (((hb.alloc hs o).alloc (by simp; omega) o').grown hgrow (by simp; omega) (fun j hj => (hown.lt j hj).1))
 exact ⟨by rw [sv_snoc l k hk]; exact hown', hB, hB.size⟩
theorem path_nil (w : World) (hg : Hnd w) : Calls Tryz.prog 67 #[.nilIface] w fun e w' => ∃ v, e = .returned v ∧ w'.ownsRow w.heap.size 9 1 v 0 [] ∧ Below w.heap.size w w' := by
 have HC := hide (outF_nil w hg)
 clear hg
 go_enter Tryz.func67, Tryz.ntmps67
 go_wp2
 refine wp_loop_rounds 1 ?_
 rw [rounds_succ]
 go_wp2_with (first | (go_at_call 64; refine (HC.out).mono ?_; rintro e w' ⟨rfl, hb⟩; have hz := hb.size))
 go_ret
 exact ⟨_, rfl, World.ownsRow_nil _ _ _ _, hb.alloc hz _⟩
set_option maxRecDepth 100000 in
set_option maxHeartbeats 4000000 in
theorem path_chn (l : List (ByteArray × Int)) (c : Int) (w : World) (hg : Hnd w) (hl : l.length ≤ 1000) :
  Calls Tryz.prog 67 #[chn l (bse c)] w fun e w' => ∃ v, e = .returned v ∧ w'.ownsRow w.heap.size 9 1 v l.length (sv l) ∧ Below w.heap.size w w' := by
 obtain ⟨i0, hi, hz0, hz1, hz2⟩ := info_parts info9
 have HG := hide hg
 clear hg
 go_enter Tryz.func67, Tryz.ntmps67
 go_wp2
 go_loopw [0, 3] (fun e v wr => ∃ k : Nat, k ≤ l.length ∧ e = chn (l.drop k) (bse c) ∧ wr.ownsRow w.heap.size 9 1 v k (sv (l.take k)) ∧ Below w.heap.size w wr ∧ w.heap.size ≤ wr.heap.size) (fun e _ _ => SizeOf.sizeOf e)
 case atStart => exact ⟨0, Nat.zero_le _, rfl, World.ownsRow_nil _ _ _ _, Below.refl _ _, Nat.le_refl _⟩
 case round =>
  obtain ⟨k, hk, he, hown, hb, hs⟩ := hrel
  have HW := hide (HG.out.below hb)
  by_cases hlt : k < l.length
  ·rw [List.drop_eq_getElem_cons hlt] at he
   simp only [chn] at he
   obtain ⟨ty, v, hv⟩ := chn_form (l.drop (k + 1)) c
   rw [hv] at he
   subst he
   have HV := hide hv
   clear hv
   generalize hsk : l[k] = sk at *
   have HS := hide hsk
   clear hsk
   have HC := hide (outF_hit sk.1 sk.2 ty v wr HW.out)
   go_wp2_with (first
    | (go_at_call 64; refine (HC.out).mono ?_; rintro e w' ⟨rfl, hb'⟩; have hz := hb'.size; have hown2 := owns_below hown hb')
    | (at_builtin; refine wpList_append_own _ rfl _ _ 124 rfl w.heap.size 9 i0 (.string ByteArray.empty) 1 16 Tryz.underlying124 hi hz0 hz1 hz2 rfl (by decide) _ _ _ rfl ((hown2.alloc _).alloc _) ⟨w'.heap.size + 1, 0, none⟩ 1 1 [.string sk.1] rfl rfl ?c1 ?c2 ?c3 ?c4 ?c5 ?_))
   case c1 =>
    intro j u hj
    match j, hj with
    | 0, hj => simp at hj; subst hj; simp [Addr.add, go_sem]
   case c2 => intro u hu; simp at hu; subst hu; rfl
   case c3 => unfold maxLen; omega
   case c4 => omega
   case c5 => simp; omega
   ·intro v' w1 hown' hgrow _
    have R := path_step (l := l) hlt (Nat.le_trans hs hz) (hb.trans (hb'.mono hs)) hown2 (by rw [HS.out]; exact hown') hgrow
    have cF : w1.cell? ⟨w'.heap.size, 2, none⟩ = some (.iface ty v) := hgrow.cell (by simp [go_sem]) (fun h => Nat.lt_irrefl _ (hown2.lt _ h.symm).2)
    clear hown' hgrow hown hown2 hb' hz HC
    go_wp2
    go_roundw
    case rel => exact ⟨k + 1, by omega, HV.out.symm, R.1, R.2.1, R.2.2⟩
    case measure => exact size_inner _ _ _
  ·obtain rfl : k = l.length := by omega
   rw [List.take_length] at hown
   have HC := hide (out_miss (some ([], c)) rfl wr HW.out)
   simp only [ev, chn] at HC
   rw [List.drop_length] at he
   simp only [chn] at he
   subst he
   clear hlt
   go_wp2_with (first | (go_at_call 64; refine (HC.out).mono ?_; rintro e w' ⟨rfl, hb'⟩; have hz := hb'.size))
   go_ret
   exact ⟨_, rfl, (owns_below hown hb').alloc _, (hb.trans (hb'.mono hs)).alloc (Nat.le_trans hs hz) _⟩
theorem path_ev (x : Option (List (ByteArray × Int) × Int)) (w : World) (hg : Hnd w) (hl : (stV x).length ≤ 1000) :
  Calls Tryz.prog 67 #[ev x] w fun e w' => ∃ v, e = .returned v ∧ w'.ownsRow w.heap.size 9 1 v (stV x).length (sv (stV x)) ∧ Below w.heap.size w w' := by
 rcases x with _ | ⟨l, c⟩
 ·exact path_nil w hg
 ·exact path_chn l c w hg hl
def Strs (W : World) (v : Value) (ss : List ByteArray) : Prop :=
 (∃ ao cap, ss = [] ∧ v = .slice ao 0 cap) ∨
 (∃ b o cap, v = .slice (some ⟨b, o, none⟩) ss.length cap ∧ ss.length ≤ cap ∧ ∀ i (h : i < ss.length), W.cell? ⟨b, o + i, none⟩ = some (.string ss[i]))
theorem Strs.below {w w' : World} {v : Value} {ss : List ByteArray} (h : Strs w v ss) (hb : Below w.heap.size w w') : Strs w' v ss := by
 rcases h with h | ⟨b, o, cap, h1, h2, h3⟩
 ·exact .inl h
 ·refine .inr ⟨b, o, cap, h1, h2, fun i hi => ?_⟩
  rw [hb.cell (p := ⟨b, o + i, none⟩) (block_of_cell (h3 i hi))]
  exact h3 i hi
theorem strs_of_owns {w : World} {base : Nat} {v : Value} {l : List (ByteArray × Int)} (h : w.ownsRow base 9 1 v l.length (sv l)) : Strs w v (l.map (·.1)) := by
 obtain ⟨h1, h2⟩ := h
 rcases h2 with ⟨rfl, hn⟩ | ⟨g, cap, cur, rfl, a2, a3, a4, a5, a6, a7⟩
 ·exact .inl ⟨_, _, by rw [List.length_eq_zero_iff] at hn; rw [hn]; rfl, rfl⟩
 ·refine .inr ⟨g, 0, cap, by simp, by simpa using a4, fun i hi => ?_⟩
  have hi' : i < l.length := by simpa using hi
  have e1 : (cur.toList.take (l.length * 1))[i]? = (sv l)[i]? := by rw [a7]
  rw [List.getElem?_take_of_lt (by omega)] at e1
  have e2 : (sv l)[i]? = some (.string (l.map (·.1))[i]) := by simp [sv, List.getElem?_eq_getElem hi']
  rw [e2] at e1
  simp only [World.cell?, a3]
  simpa using e1
def hasB (ss : List ByteArray) (s : ByteArray) : Bool := ss.any fun t => s.toList == t.toList
theorem has_no {ss : List ByteArray} {s : ByteArray} (h : ∀ j (hj : j < ss.length), (s.toList == ss[j].toList) = false) : hasB ss s = false := by
 simp only [hasB, List.any_eq_false]
 intro t ht
 obtain ⟨j, hj, rfl⟩ := List.getElem_of_mem ht
 simp [h j hj]
theorem has_yes {ss : List ByteArray} {s : ByteArray} {j : Nat} (hj : j < ss.length) (h : (s.toList == ss[j].toList) = true) : hasB ss s = true := by
 simp only [hasB, List.any_eq_true]
 exact ⟨_, List.getElem_mem hj, h⟩
set_option maxHeartbeats 4000000 in
theorem index_any (v : Value) (ss : List ByteArray) (s : ByteArray) (w : World) (hv : Strs w v ss) (hl : ss.length ≤ 1000) :
  Calls Tryz.prog 99 #[v, .string s] w fun e w' => (∃ n : Int, e = .returned (.int .i64 n) ∧ ((hasB ss s = true ∧ 0 ≤ n) ∨ (hasB ss s = false ∧ n = -1))) ∧ w' = w := by
 rcases hv with ⟨ao, cap, rfl, rfl⟩ | ⟨b, o, cap, rfl, h2, h3⟩
 ·go_enter Tryz.func99, Tryz.ntmps99
  go_wp2
  refine wp_loop_rounds 1 ?_
  rw [rounds_succ]
  go_wp2
  go_ret
  exact ⟨⟨_, rfl, .inr ⟨rfl, rfl⟩⟩, rfl⟩
 ·have H3 := hide h3
  clear h3
  go_enter Tryz.func99, Tryz.ntmps99
  go_wp2
  go_loop [8] (fun i => ∃ k : Nat, k ≤ ss.length ∧ i = .int .i64 k ∧ ∀ j (hj : j < ss.length), j < k → (s.toList == ss[j].toList) = false) (fun i => ss.length - (intOf i).toNat)
  case atStart => exact ⟨0, Nat.zero_le _, rfl, fun j _ h => absurd h (Nat.not_lt_zero _)⟩
  case round =>
   obtain ⟨k, hk, rfl, hno⟩ := hrel
   have HN := hide hno
   clear hno
   by_cases hlt : k < ss.length
   ·have hc := H3.out k hlt
    generalize hsk : ss[k] = sk at *
    have HS := hide hsk
    clear hsk
    go_wp2
    ·have hy : (s.toList == sk.toList) = true := by assumption
     go_ret
     exact ⟨⟨_, rfl, .inl ⟨has_yes hlt (by rw [HS.out]; exact hy), by omega⟩⟩, rfl⟩
    ·have hn : (s.toList == sk.toList) = false := by assumption
     refine ⟨⟨k + 1, by omega, by go_num, fun j hj h => ?_⟩, by simp [intOf]; omega⟩
     rcases Nat.lt_or_eq_of_le (Nat.le_of_lt_succ h) with h' | rfl
     ·exact HN.out j hj h'
     ·rw [HS.out]; exact hn
   ·go_wp2
    go_ret
    exact ⟨⟨_, rfl, .inr ⟨has_no fun j hj => HN.out j hj (by omega), rfl⟩⟩, rfl⟩
theorem contains_any (v : Value) (ss : List ByteArray) (s : ByteArray) (w : World) (hv : Strs w v ss) (hl : ss.length ≤ 1000) :
  Calls Tryz.prog 66 #[v, .string s] w fun e w' => e = .returned (.bool (hasB ss s)) ∧ w' = w := by
 have HC := hide (index_any v ss s w hv hl)
 clear hv hl
 go_enter Tryz.func66, Tryz.ntmps66
 go_wp2_with fail
 refine (HC.out).mono ?_
 rintro e w' ⟨⟨n, rfl, ⟨hy, hn⟩ | ⟨hy, rfl⟩⟩, rfl⟩
 ·have HY := hide hy
  clear hy
  go_wp2
  go_ret
  exact ⟨by rw [HY.out]; rfl, rfl⟩
 ·have HY := hide hy
  clear hy
  go_wp2
  go_ret
  exact ⟨by rw [HY.out]; rfl, rfl⟩
theorem under_ev (x : Option (List (ByteArray × Int) × Int)) (s : ByteArray) (w : World) (hg : Hnd w) (hl : (stV x).length ≤ 1000) :
  Calls Tryz.prog 32 #[ev x, .string s] w fun e w' => e = .returned (.bool (hasB ((stV x).map (·.1)) s)) ∧ Below w.heap.size w w' := by
 have HC := hide (path_ev x w hg hl)
 have HL := hide hl
 clear hg hl
 go_enter Tryz.func32, Tryz.ntmps32
 go_wp2_with fail
 refine (HC.out).mono ?_
 rintro e w' ⟨v, rfl, hown, hb⟩
 have HC2 := hide (contains_any v ((stV x).map (·.1)) s w' (strs_of_owns hown) (by simpa using HL.out))
 clear hown HC
 go_wp2_with fail
 refine (HC2.out).mono ?_
 rintro e w' ⟨rfl, rfl⟩
 go_wp2
 go_ret
 exact ⟨rfl, hb⟩
end Go.Proofs.YtjjpfajbljbelaaGreatDoor
