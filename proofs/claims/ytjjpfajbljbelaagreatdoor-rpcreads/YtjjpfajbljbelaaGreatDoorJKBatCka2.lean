/-
  WHAT IS WRONG WITH A BATCH FIRST (batch.Check, castellanref06.Check): what the mathematics says. Conditions: the records' cells hold them, their texts are not too long.
  WHETHER TWO BATCHES ARE THE SAME (batch.Same with slices.EqualFunc, castellanref06.Same): what the mathematics says. Conditions: the records' cells hold them, their rows are not too long.
-/
import Derived.Test.YtjjpfajbljbelaaGreatDoorJKRpcMa2
namespace Go.Proofs.YtjjpfajbljbelaaGreatDoor
open Go.RowKit
def erB (b : Bw) : Value := if b.c = 0 then .nilIface else if b.r < 0 then ft b.op b.pt b.c else .iface 98 (.agg #[.string ⟨#[114, 101, 99, 111, 114, 100]⟩, .int .i64 b.r, ft b.op b.i b.c])
def wrB (b : Bw) : Value := .agg #[.string b.op, .int .i64 b.pt, .int .i64 b.c, .int .i64 b.r]
theorem below_many {B X : Nat} {a : World} (hX : B ≤ X) : ∀ (vs : List Value) (o : Nat) {b : World}, Below B a b → Below B a (b.setCells X o vs)
 | [], _, _, h => h
 | _ :: vs, o, _, h => by
  rw [World.setCells]
  exact below_many hX vs (o + 1) (h.setCell (by exact hX) _)
theorem laidP (W : World) (p : Rp) {W1 : World} (h1 : W1 = (W.alloc (.cells #[.int .i64 0, .int .i64 0, .int .i64 0, .int .i64 0, .int .i64 0, .int .i64 0, .int .i64 0, .int .i64 0, .int .i64 0, .bool false, .string ⟨#[]⟩, .string ⟨#[]⟩, .string ⟨#[]⟩, .string ⟨#[]⟩, .slice none 0 0, .slice none 0 0, .slice none 0 0, .slice none 0 0] 45)).setCells W.heap.size 0 (cel p)) : Below W.heap.size W W1 ∧ W1.rangeAt W.heap.size 0 (cel p) ∧ W.heap.size < W1.heap.size := by
 have hbl : Below W.heap.size W (W.alloc (.cells #[.int .i64 0, .int .i64 0, .int .i64 0, .int .i64 0, .int .i64 0, .int .i64 0, .int .i64 0, .int .i64 0, .int .i64 0, .bool false, .string ⟨#[]⟩, .string ⟨#[]⟩, .string ⟨#[]⟩, .string ⟨#[]⟩, .slice none 0 0, .slice none 0 0, .slice none 0 0, .slice none 0 0] 45)) := (Below.refl _ _).alloc (Nat.le_refl _) _
 have hrg : W1.rangeAt W.heap.size 0 (cel p) := by rw [h1]; exact World.rangeAt_setCells_same _ _ _ _ (there_new W)
 exact ⟨by rw [h1]; exact below_many (Nat.le_refl _) _ _ hbl, hrg, cell_block (hrg 0 _ rfl)⟩
theorem bw_at {t b : Int} {ps : List Rp} {j : Nat} (h1 : ¬ (t < 1 ∨ 1073741824 < t)) (h2 : ¬ (b < 0 ∨ 1073741824 < b)) (h3 : ¬ (ps.length < 1 ∨ 64 < ps.length)) (hj : j < ps.length) (ha : ∀ r ∈ (rcl ps).take j, (chk r).2.2 = 0) (hc : (chk ps[j].1).2.2 ≠ 0) :
  bw ⟨t, b, rcl ps⟩ = ⟨(chk ps[j].1).1, j, (chk ps[j].1).2.2, j, (chk ps[j].1).2.1⟩ := by
 have hl : j < (rcl ps).length := by rw [rcl_len]; exact hj
 have e : (rcl ps)[j] = ps[j].1 := by simp [rcl]
 unfold bw
 simp only
 rw [if_neg h1, if_neg h2, rcl_len, if_neg h3, chkF_some (rcl ps) 0 j hl ha (by rw [e]; exact hc), e]
 simp only [Nat.zero_add]
theorem bw_fine {t b : Int} {ps : List Rp} (h1 : ¬ (t < 1 ∨ 1073741824 < t)) (h2 : ¬ (b < 0 ∨ 1073741824 < b)) (h3 : ¬ (ps.length < 1 ∨ 64 < ps.length)) (ha : ∀ r ∈ rcl ps, (chk r).2.2 = 0) :
  bw ⟨t, b, rcl ps⟩ = ⟨⟨#[]⟩, 0, 0, -1, 0⟩ := by
 unfold bw
 simp only
 rw [if_neg h1, if_neg h2, rcl_len, if_neg h3, chkF_none _ _ ha]
theorem ok_take {ps : List Rp} {j : Nat} (hj : j < ps.length) (h : ∀ r ∈ (rcl ps).take j, (chk r).2.2 = 0) (hn : (chk ps[j].1).2.2 = 0) : ∀ r ∈ (rcl ps).take (j + 1), (chk r).2.2 = 0 := by
 have hl : j < (rcl ps).length := by rw [rcl_len]; exact hj
 have e : (rcl ps)[j] = ps[j].1 := by simp [rcl]
 rw [List.take_succ_eq_append_getElem hl, e]
 intro r hr
 rcases List.mem_append.1 hr with q | q
 ·exact h r q
 ·simp at q; subst q; exact hn
set_option maxRecDepth 100000 in
set_option maxHeartbeats 16000000 in
theorem bcheck_go {ok : Nat → Prop} (t bs : Int) (ao : Option Addr) (cap : Nat) (ps : List Rp) (w : World) (hrg : 0 < ps.length → ∃ b o, ao = some ⟨b, o, none⟩ ∧ w.rangeAt b o (rcs ps)) (hrw : ∀ p ∈ ps, RwP ok w p) (htx : ∀ p ∈ ps, TxR p.1) :
  Calls Tryz.prog 77 #[.agg #[.int .i64 t, .int .i64 bs, .slice ao ps.length cap]] w fun e w' => e = .returned (erB (bw ⟨t, bs, rcl ps⟩)) ∧ Below w.heap.size w w' := by
 have HR := hide hrg
 have HW := hide hrw
 have HT := hide htx
 clear hrg hrw htx
 by_cases h1 : t < 1 ∨ 1073741824 < t
 ·have e : bw ⟨t, bs, rcl ps⟩ = ⟨⟨#[116, 101, 114, 109]⟩, t, 2, -1, 0⟩ := by unfold bw; simp only; rw [if_pos h1]
  rw [e]
  clear e HR HW HT
  by_cases h2 : t < 1
  ·go_enter Tryz.func77, Tryz.ntmps77
   go_wp2_with (first | (go_at_call 15; refine (new_any _ _ _ _).mono ?_; rintro e w9 ⟨rfl, hw9⟩; rw [hw9]; clear hw9 w9))
   go_ret
   exact ⟨rfl, (Below.refl _ _).alloc (Nat.le_refl _) _⟩
  ·have h3 : 1073741824 < t := by omega
   go_enter Tryz.func77, Tryz.ntmps77
   go_wp2_with (first | (go_at_call 15; refine (new_any _ _ _ _).mono ?_; rintro e w9 ⟨rfl, hw9⟩; rw [hw9]; clear hw9 w9))
   go_ret
   exact ⟨rfl, (Below.refl _ _).alloc (Nat.le_refl _) _⟩
 by_cases h2 : bs < 0 ∨ 1073741824 < bs
 ·have e : bw ⟨t, bs, rcl ps⟩ = ⟨⟨#[98, 97, 115, 101]⟩, bs, 2, -1, 0⟩ := by unfold bw; simp only; rw [if_neg h1, if_pos h2]
  rw [e]
  have k1 : ¬ t < 1 := by omega
  have k2 : ¬ 1073741824 < t := by omega
  clear e HR HW HT h1
  by_cases h2 : bs < 0
  ·go_enter Tryz.func77, Tryz.ntmps77
   go_wp2_with (first | (go_at_call 15; refine (new_any _ _ _ _).mono ?_; rintro e w9 ⟨rfl, hw9⟩; rw [hw9]; clear hw9 w9))
   go_ret
   exact ⟨rfl, (Below.refl _ _).alloc (Nat.le_refl _) _⟩
  ·have h3 : 1073741824 < bs := by omega
   go_enter Tryz.func77, Tryz.ntmps77
   go_wp2_with (first | (go_at_call 15; refine (new_any _ _ _ _).mono ?_; rintro e w9 ⟨rfl, hw9⟩; rw [hw9]; clear hw9 w9))
   go_ret
   exact ⟨rfl, (Below.refl _ _).alloc (Nat.le_refl _) _⟩
 by_cases h3 : ps.length < 1 ∨ 64 < ps.length
 ·have e : bw ⟨t, bs, rcl ps⟩ = ⟨⟨#[114, 101, 99, 111, 114, 100, 115]⟩, (ps.length : Int), 6, -1, 0⟩ := by unfold bw; simp only; rw [if_neg h1, if_neg h2, rcl_len, if_pos h3]
  rw [e]
  have k1 : ¬ t < 1 := by omega
  have k2 : ¬ 1073741824 < t := by omega
  have k3 : ¬ bs < 0 := by omega
  have k4 : ¬ 1073741824 < bs := by omega
  clear e HR HW HT h1 h2
  generalize ps.length = L at *
  by_cases h2 : L < 1
  ·obtain rfl : L = 0 := by omega
   go_enter Tryz.func77, Tryz.ntmps77
   go_wp2_with (first | (go_at_call 15; refine (new_any _ _ _ _).mono ?_; rintro e w9 ⟨rfl, hw9⟩; rw [hw9]; clear hw9 w9))
   go_ret
   exact ⟨rfl, (Below.refl _ _).alloc (Nat.le_refl _) _⟩
  ·have h5 : ¬ (L : Int) < 1 := by omega
   have h4 : (64 : Int) < (L : Int) := by omega
   go_enter Tryz.func77, Tryz.ntmps77
   go_wp2_with (first | (go_at_call 15; refine (new_any _ _ _ _).mono ?_; rintro e w9 ⟨rfl, hw9⟩; rw [hw9]; clear hw9 w9))
   go_ret
   exact ⟨rfl, (Below.refl _ _).alloc (Nat.le_refl _) _⟩
 obtain ⟨b, o, rfl, hrg⟩ := HR.out (by omega)
 clear HR
 have HR := hide hrg
 clear hrg
 have HAT := hide (fun j hj ha hc => bw_at (t := t) (b := bs) (ps := ps) (j := j) h1 h2 h3 hj ha hc)
 have HFI := hide (fun ha => bw_fine (t := t) (b := bs) (ps := ps) h1 h2 h3 ha)
 have k1 : ¬ t < 1 := by omega
 have k2 : ¬ 1073741824 < t := by omega
 have k3 : ¬ bs < 0 := by omega
 have k4 : ¬ 1073741824 < bs := by omega
 have k5 : ¬ (ps.length : Int) < 1 := by omega
 have k6 : ¬ (64 : Int) < (ps.length : Int) := by omega
 have hn : ps.length ≤ 64 := by omega
 clear h1 h2 h3
 go_enter Tryz.func77, Tryz.ntmps77
 go_wp2_with fail
 have HB0 : Hid (Below w.heap.size w (w.alloc (.cells #[.int .i64 t, .int .i64 bs, .slice (some ⟨b, o, none⟩) ps.length cap] 48))) := hide ((Below.refl _ _).alloc (Nat.le_refl _) _)
 generalize w.alloc (.cells #[.int .i64 t, .int .i64 bs, .slice (some ⟨b, o, none⟩) ps.length cap] 48) = X at HB0 ⊢
 go_loopw [46] (fun i wr => ∃ j : Nat, j ≤ ps.length ∧ i = .int .i64 (j : Int) ∧ (∀ r ∈ (rcl ps).take j, (chk r).2.2 = 0) ∧ Below w.heap.size w wr) (fun i _ => ps.length - (intOf i).toNat)
 case atStart => exact ⟨0, Nat.zero_le _, rfl, fun r hr => by simp at hr, HB0.out⟩
 case round =>
  obtain ⟨j, hj, rfl, hall, hb⟩ := hrel
  have HA := hide hall
  have HB := hide hb
  clear hall hb HB0
  by_cases hlt : j < ps.length
  ·have hltI : (j : Int) < (ps.length : Int) := by omega
   have HE := hide (range_bel (range_at HR.out hlt) HB.out)
   have HP := hide (HW.out _ (List.getElem_mem hlt))
   have HX := hide (HT.out _ (List.getElem_mem hlt))
   have HN := hide (fun h => HAT.out j hlt HA.out h)
   have HK := hide (fun h => ok_take hlt HA.out h)
   have HTN := hide (there_new wr)
   generalize ps[j] = p at *
   go_upto_region 11 with (first | (refine wpList_load_mid rfl _ _ rfl _ _ rfl _ _ HE.out Tryz.underlying45 rfl (by kernel_rfl) ?_) | (refine wpList_store_mid rfl _ _ _ rfl wr.heap.size 0 (cel p).toArray rfl rfl HTN.out (by kernel_rfl) (cel_all _) ?_))
   obtain ⟨V, hV⟩ : ∃ V, V = (wr.alloc (.cells #[.int .i64 0, .int .i64 0, .int .i64 0, .int .i64 0, .int .i64 0, .int .i64 0, .int .i64 0, .int .i64 0, .int .i64 0, .bool false, .string ⟨#[]⟩, .string ⟨#[]⟩, .string ⟨#[]⟩, .string ⟨#[]⟩, .slice none 0 0, .slice none 0 0, .slice none 0 0, .slice none 0 0] 45)).setCells wr.heap.size 0 (cel p) := ⟨_, rfl⟩
   obtain ⟨hbV, hrV, _⟩ := laidP wr p hV
   rw [← hV]
   have HRV := hide hrV
   have HBV := hide (HB.out.trans (hbV.mono HB.out.size))
   have HC := hide (ccheck_any p.1 _ V (HP.out.below HBV.out).is HX.out)
   clear hV hrV hbV HTN HE HB HP HX HT HW HAT HFI HR
   by_cases hc : (chk p.1).2.2 = 0
   ·rw [show erN (chk p.1).1 (chk p.1).2.1 (chk p.1).2.2 = .nilIface from if_pos hc] at HC
    go_wp2_with (first | (refine wpList_load_mid rfl _ _ rfl _ _ rfl _ _ HRV.out Tryz.underlying45 rfl (by kernel_rfl) ?_) | (go_at_call 107; refine HC.out.mono ?_; rintro e w5 ⟨rfl, hb5⟩; have HB5 := hide (HBV.out.trans (hb5.mono HBV.out.size)); clear hb5))
    go_roundw
    case rel => exact ⟨j + 1, by omega, by go_num, HK.out hc, HB5.out⟩
    case measure => simp [intOf]; omega
   ·rw [show erN (chk p.1).1 (chk p.1).2.1 (chk p.1).2.2 = ft (chk p.1).1 (chk p.1).2.1 (chk p.1).2.2 from if_neg hc] at HC
    have hw := HN.out hc
    unfold ft at HC
    go_wp2_with (first | (refine wpList_load_mid rfl _ _ rfl _ _ rfl _ _ HRV.out Tryz.underlying45 rfl (by kernel_rfl) ?_) | (go_at_call 107; refine HC.out.mono ?_; rintro e w5 ⟨rfl, hb5⟩; have HB5 := hide (HBV.out.trans (hb5.mono HBV.out.size)); clear hb5) | (go_at_call 72; refine (wrap_some _ _ _ _ _).mono ?_; rintro e w9 ⟨rfl, hw9⟩; rw [hw9]; clear hw9 w9))
    go_ret
    refine ⟨?_, HB5.out⟩
    rw [hw, erB]
    simp only
    rw [if_neg hc, if_neg (by omega)]
    rfl
  ·obtain rfl : j = ps.length := by omega
   have hf := HFI.out (by have := HA.out; rw [← rcl_len, List.take_length] at this; exact this)
   clear hlt HAT HFI HR HW HT
   go_wp2_with fail
   go_ret
   exact ⟨by rw [hf]; rfl, HB.out⟩
theorem bcheck_any {okb ok : Nat → Prop} (x : Bt) (v : Value) (w : World) (hv : IsB okb ok w v x) (htx : ∀ r ∈ x.rs, TxR r) : Calls Tryz.prog 77 #[v] w fun e w' => e = .returned (erB (bw x)) ∧ Below w.heap.size w w' := by
 obtain ⟨u, ps, rfl, h2, h3⟩ := hv
 obtain ⟨t, b, rs⟩ := x
 simp only at h3 htx ⊢
 subst h3
 obtain ⟨ao, cap, rfl⟩ := h2.form
 exact bcheck_go t b ao cap ps w h2.rg h2.2 (fun p hp => htx p.1 (List.mem_map.2 ⟨p, hp, rfl⟩))
set_option maxRecDepth 100000
set_option maxHeartbeats 16000000
def sameL (a b : List Rc) : Bool := decide (a.length = b.length) && (List.range a.length).all fun i => sameR (a.getD i Rc.zero) (b.getD i Rc.zero)
def sameBt (x y : Bt) : Bool := decide (x.t = y.t) && (decide (x.b = y.b) && sameL x.rs y.rs)
theorem sameL_len {a b : List Rc} (h : ¬ a.length = b.length) : sameL a b = false := by unfold sameL; rw [decide_eq_false h, Bool.false_and]
theorem rcl_at {ps : List Rp} {j : Nat} (h : j < ps.length) : (rcl ps).getD j Rc.zero = ps[j].1 := by simp [rcl, List.getD, h]
theorem sameL_no {ps qs : List Rp} {j : Nat} (hj : j < ps.length) (hk : j < qs.length) (h : sameR ps[j].1 qs[j].1 = false) : sameL (rcl ps) (rcl qs) = false := by
 unfold sameL
 have : ((List.range (rcl ps).length).all fun i => sameR ((rcl ps).getD i Rc.zero) ((rcl qs).getD i Rc.zero)) = false := by
  rw [List.all_eq_false]
  exact ⟨j, List.mem_range.2 (by rw [rcl_len]; exact hj), by rw [rcl_at hj, rcl_at hk, h]; decide⟩
 rw [this, Bool.and_false]
theorem sameL_yes {ps qs : List Rp} (hl : ps.length = qs.length) (h : ∀ i, i < ps.length → sameR ((rcl ps).getD i Rc.zero) ((rcl qs).getD i Rc.zero) = true) : sameL (rcl ps) (rcl qs) = true := by
 unfold sameL
 rw [decide_eq_true (by rw [rcl_len, rcl_len]; exact hl), Bool.true_and, List.all_eq_true]
 intro i hi
 exact h i (by have := List.mem_range.1 hi; rwa [rcl_len] at this)
theorem sameL_self (a : List Rc) : sameL a a = true := by
 unfold sameL
 rw [decide_eq_true rfl, Bool.true_and, List.all_eq_true]
 intro i _
 exact sameR_self _
theorem sameBt_self (x : Bt) : sameBt x x = true := by
 unfold sameBt
 rw [sameL_self, decide_eq_true rfl, decide_eq_true rfl]
 rfl
theorem eqf_len (ao bo : Option Addr) (L M cap cap' : Nat) (w : World) (h : ¬ L = M) : Calls Tryz.prog 73 #[.slice ao L cap, .slice bo M cap', .func (.func 74) #[] #[]] w fun e w' => e = .returned (.bool false) ∧ Below w.heap.size w w' := by
 have hI : ¬ (L : Int) = (M : Int) := by omega
 go_enter Tryz.func73, Tryz.ntmps73
 go_wp2_with fail
 go_ret
 exact ⟨rfl, Below.refl _ _⟩
theorem eqf_none (ao bo : Option Addr) (cap cap' : Nat) (w : World) : Calls Tryz.prog 73 #[.slice ao 0 cap, .slice bo 0 cap', .func (.func 74) #[] #[]] w fun e w' => e = .returned (.bool true) ∧ Below w.heap.size w w' := by
 go_enter Tryz.func73, Tryz.ntmps73
 go_wp2_with fail
 refine wp_loop_rounds 1 ?_
 rw [rounds_succ]
 go_wp2_with fail
 go_ret
 exact ⟨rfl, Below.refl _ _⟩
theorem bsame_go (t b t' b' : Int) (ao bo : Option Addr) (L M cap cap' : Nat) (R : Bool) (w : World) (HC : Hid (∀ W, Below w.heap.size w W → Calls Tryz.prog 73 #[.slice ao L cap, .slice bo M cap', .func (.func 74) #[] #[]] W fun e w' => e = .returned (.bool R) ∧ Below W.heap.size W w')) :
  Calls Tryz.prog 39 #[.agg #[.int .i64 t, .int .i64 b, .slice ao L cap], .agg #[.int .i64 t', .int .i64 b', .slice bo M cap']] w fun e w' => e = .returned (.bool (decide (t = t') && (decide (b = b') && R))) ∧ Below w.heap.size w w' := by
 have HB : Hid (Below w.heap.size w ((w.alloc (.cells #[.int .i64 t, .int .i64 b, .slice ao L cap] 48)).alloc (.cells #[.int .i64 t', .int .i64 b', .slice bo M cap'] 48))) := hide (((Below.refl _ _).alloc (Nat.le_refl _) _).alloc (by simp) _)
 have HC2 := hide (HC.out _ HB.out)
 have HB2 : Hid (∀ W', Below ((w.alloc (.cells #[.int .i64 t, .int .i64 b, .slice ao L cap] 48)).alloc (.cells #[.int .i64 t', .int .i64 b', .slice bo M cap'] 48)).heap.size ((w.alloc (.cells #[.int .i64 t, .int .i64 b, .slice ao L cap] 48)).alloc (.cells #[.int .i64 t', .int .i64 b', .slice bo M cap'] 48)) W' → Below w.heap.size w W') := hide (fun W' h => HB.out.trans (h.mono HB.out.size))
 clear HC
 by_cases h1 : t = t'
 ·subst h1
  by_cases h2 : b = b'
  ·subst h2
   rw [decide_eq_true rfl, decide_eq_true rfl, Bool.true_and, Bool.true_and]
   go_enter Tryz.func39, Tryz.ntmps39
   go_wp2_with (first | (go_at_call 73; refine HC2.out.mono ?_; rintro e w5 ⟨rfl, hb5⟩; have HB5 := hide (HB2.out _ hb5); clear hb5))
   go_ret
   exact ⟨rfl, HB5.out⟩
  ·rw [decide_eq_true rfl, decide_eq_false h2, Bool.true_and, Bool.false_and]
   go_enter Tryz.func39, Tryz.ntmps39
   go_wp2_with fail
   go_ret
   exact ⟨rfl, HB.out⟩
 ·rw [decide_eq_false h1, Bool.false_and]
  go_enter Tryz.func39, Tryz.ntmps39
  go_wp2_with fail
  go_ret
  exact ⟨rfl, HB.out⟩
theorem six_in (w : World) (x0 x1 x2 y0 y1 y2 : Value) {X : World} (hX : X = (w.alloc (.cells #[x0, x1, x2] 48)).alloc (.cells #[y0, y1, y2] 48)) : ∀ W, Below X.heap.size X W → (W.cell? ⟨w.heap.size, 0, none⟩ = some x0 ∧ W.cell? ⟨w.heap.size, 1, none⟩ = some x1 ∧ W.cell? ⟨w.heap.size, 2, none⟩ = some x2) ∧ (W.cell? ⟨w.heap.size + 1, 0, none⟩ = some y0 ∧ W.cell? ⟨w.heap.size + 1, 1, none⟩ = some y1 ∧ W.cell? ⟨w.heap.size + 1, 2, none⟩ = some y2) := by
 intro W hW
 have hs : X.heap.size = w.heap.size + 2 := by rw [hX]; simp
 have h1 : ∀ i, W.cell? ⟨w.heap.size, i, none⟩ = X.cell? ⟨w.heap.size, i, none⟩ := fun i => hW.cell (p := ⟨w.heap.size, i, none⟩) (by show w.heap.size < _; omega)
 have h2 : ∀ i, W.cell? ⟨w.heap.size + 1, i, none⟩ = X.cell? ⟨w.heap.size + 1, i, none⟩ := fun i => hW.cell (p := ⟨w.heap.size + 1, i, none⟩) (by show w.heap.size + 1 < _; omega)
 refine ⟨⟨?_, ?_, ?_⟩, ?_, ?_, ?_⟩
 ·rw [h1, hX]; simp
 ·rw [h1, hX]; simp
 ·rw [h1, hX]; simp
 ·rw [h2, hX]; simp
 ·rw [h2, hX]; simp
 ·rw [h2, hX]; simp
theorem rbsame_short (t b t' b' : Int) (ao bo : Option Addr) (L M cap cap' : Nat) (w : World) (h : ¬ (t = t' ∧ b = b' ∧ L = M)) :
  Calls Tryz.prog 63 #[.agg #[.int .i64 t, .int .i64 b, .slice ao L cap], .agg #[.int .i64 t', .int .i64 b', .slice bo M cap']] w fun e w' => e = .returned (.bool false) ∧ Below w.heap.size w w' := by
 have HB : Hid (Below w.heap.size w ((w.alloc (.cells #[.int .i64 t, .int .i64 b, .slice ao L cap] 48)).alloc (.cells #[.int .i64 t', .int .i64 b', .slice bo M cap'] 48))) := hide (((Below.refl _ _).alloc (Nat.le_refl _) _).alloc (by simp) _)
 by_cases h1 : t = t'
 ·subst h1
  by_cases h2 : b = b'
  ·subst h2
   have h3 : ¬ (L : Int) = (M : Int) := by
    intro e
    exact h ⟨rfl, rfl, by omega⟩
   clear h
   go_enter Tryz.func63, Tryz.ntmps63
   go_wp2_with fail
   go_ret
   exact ⟨rfl, HB.out⟩
  ·clear h
   go_enter Tryz.func63, Tryz.ntmps63
   go_wp2_with fail
   go_ret
   exact ⟨rfl, HB.out⟩
 ·clear h
  go_enter Tryz.func63, Tryz.ntmps63
  go_wp2_with fail
  go_ret
  exact ⟨rfl, HB.out⟩
theorem rbsame_none (t b : Int) (ao bo : Option Addr) (cap cap' : Nat) (w : World) :
  Calls Tryz.prog 63 #[.agg #[.int .i64 t, .int .i64 b, .slice ao 0 cap], .agg #[.int .i64 t, .int .i64 b, .slice bo 0 cap']] w fun e w' => e = .returned (.bool true) ∧ Below w.heap.size w w' := by
 have HB : Hid (Below w.heap.size w ((w.alloc (.cells #[.int .i64 t, .int .i64 b, .slice ao 0 cap] 48)).alloc (.cells #[.int .i64 t, .int .i64 b, .slice bo 0 cap'] 48))) := hide (((Below.refl _ _).alloc (Nat.le_refl _) _).alloc (by simp) _)
 go_enter Tryz.func63, Tryz.ntmps63
 go_wp2_with fail
 refine wp_loop_rounds 1 ?_
 rw [rounds_succ]
 go_wp2_with fail
 go_ret
 exact ⟨rfl, HB.out⟩
end Go.Proofs.YtjjpfajbljbelaaGreatDoor
