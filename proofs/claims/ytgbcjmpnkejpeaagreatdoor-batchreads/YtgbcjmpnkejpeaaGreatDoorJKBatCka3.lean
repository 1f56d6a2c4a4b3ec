/-
  WHAT IS WRONG WITH A BATCH FIRST (batch.Check, castellanref06.Check): what the mathematics says. Conditions: the records' cells hold them, their texts are not too long.
  A READER'S END, whatever was wrong before (wire.Reader.End); rows of records that may be are not too long. Conditions: what each theorem names.
  IS AN ERROR SUCH A ONE (castellanlaw05.wrong): of what a record's check told, and of what the document says. Condition: errors.errorType is laid.
-/
import Derived.Test.YtgbcjmpnkejpeaaGreatDoorJKRecPba4
import Derived.Test.YtgbcjmpnkejpeaaGreatDoorJKWrowda4
import Derived.Test.YtgbcjmpnkejpeaaGreatDoorJKRecRdba4
import Derived.Test.YtgbcjmpnkejpeaaGreatDoorJKRecSmb
import Derived.Test.YtgbcjmpnkejpeaaGreatDoorJKRecWkaa2
import Derived.Deep.RegionHeld3
namespace Go.Proofs.YtgbcjmpnkejpeaaGreatDoor
open Go.RowKit

/-- What is wrong with a batch, as the program's error. -/
def erB (b : Bw) : Value := if b.c = 0 then .nilIface else if b.r < 0 then ft b.op b.pt b.c else .iface 148 (.agg #[.string ⟨#[114, 101, 99, 111, 114, 100]⟩, .int .i64 b.r, ft b.op b.i b.c])
theorem below_many {B X : Nat} {a : World} (hX : B ≤ X) : ∀ (vs : List Value) (o : Nat) {b : World}, Below B a b → Below B a (b.setCells X o vs)
  | [], _, _, h => h
  | _ :: vs, o, _, h => by
    rw [World.setCells]
    exact below_many hX vs (o + 1) (h.setCell (by exact hX) _)
/-- A record laid into new cells. -/
theorem laidP (W : World) (p : Rp) {W1 : World} (h1 : W1 = (W.alloc (.cells #[.int .i64 0, .int .i64 0, .int .i64 0, .int .i64 0, .int .i64 0, .int .i64 0, .int .i64 0, .int .i64 0, .int .i64 0, .bool false, .string ⟨#[]⟩, .string ⟨#[]⟩, .string ⟨#[]⟩, .string ⟨#[]⟩, .slice none 0 0, .slice none 0 0, .slice none 0 0, .slice none 0 0] 35)).setCells W.heap.size 0 (cel p)) : Below W.heap.size W W1 ∧ W1.rangeAt W.heap.size 0 (cel p) ∧ W.heap.size < W1.heap.size := by
  have hbl : Below W.heap.size W (W.alloc (.cells #[.int .i64 0, .int .i64 0, .int .i64 0, .int .i64 0, .int .i64 0, .int .i64 0, .int .i64 0, .int .i64 0, .int .i64 0, .bool false, .string ⟨#[]⟩, .string ⟨#[]⟩, .string ⟨#[]⟩, .string ⟨#[]⟩, .slice none 0 0, .slice none 0 0, .slice none 0 0, .slice none 0 0] 35)) := (Below.refl _ _).alloc (Nat.le_refl _) _
  have hrg : W1.rangeAt W.heap.size 0 (cel p) := by rw [h1]; exact World.rangeAt_setCells_same _ _ _ _ (there_new W)
  exact ⟨by rw [h1]; exact below_many (Nat.le_refl _) _ _ hbl, hrg, cell_block (hrg 0 _ rfl)⟩
theorem bw_at {t b : Int} {ps : List Rp} {j : Nat} (h1 : ¬ (t < 1 ∨ 1073741824 < t)) (h2 : ¬ (b < 0 ∨ 1073741824 < b)) (h3 : ¬ (ps.length < 1 ∨ 64 < ps.length)) (hj : j < ps.length) (ha : ∀ r ∈ (rcl ps).take j, (chk r).2.2 = 0) (hc : (chk ps[j].1).2.2 ≠ 0) :
    bw ⟨t, b, rcl ps⟩ = ⟨(chk ps[j].1).1, j, (chk ps[j].1).2.2, j, (chk ps[j].1).2.1⟩ := by
  have hl : j < (rcl ps).length := by rw [rcl_len]; exact hj
  have e : (rcl ps)[j] = ps[j].1 := by simp [rcl]
  unfold bw
  simp only
  rw [if_neg h1, if_neg h2, rcl_len, if_neg h3, chkF_some (rcl ps) 0 j hl ha (by rw [e]; exact hc), e]
  simp only [Nat.zero_add]
theorem bw_fine {t b : Int} {ps : List Rp} (h1 : ¬ (t < 1 ∨ 1073741824 < t)) (h2 : ¬ (b < 0 ∨ 1073741824 < b)) (h3 : ¬ (ps.length < 1 ∨ 64 < ps.length)) (ha : ∀ r ∈ rcl ps, (chk r).2.2 = 0) :
    bw ⟨t, b, rcl ps⟩ = ⟨⟨#[]⟩, 0, 0, -1, 0⟩ := by
  unfold bw
  simp only
  rw [if_neg h1, if_neg h2, rcl_len, if_neg h3, chkF_none _ _ ha]
theorem ok_take {ps : List Rp} {j : Nat} (hj : j < ps.length) (h : ∀ r ∈ (rcl ps).take j, (chk r).2.2 = 0) (hn : (chk ps[j].1).2.2 = 0) : ∀ r ∈ (rcl ps).take (j + 1), (chk r).2.2 = 0 := by
  have hl : j < (rcl ps).length := by rw [rcl_len]; exact hj
  have e : (rcl ps)[j] = ps[j].1 := by simp [rcl]
  rw [List.take_succ_eq_append_getElem hl, e]
  intro r hr
  rcases List.mem_append.1 hr with q | q
  · exact h r q
  · simp at q; subst q; exact hn
set_option maxRecDepth 100000 in
set_option maxHeartbeats 16000000 in
theorem bcheck_go {ok : Nat → Prop} (t bs : Int) (ao : Option Addr) (cap : Nat) (ps : List Rp) (w : World) (hrg : 0 < ps.length → ∃ b o, ao = some ⟨b, o, none⟩ ∧ w.rangeAt b o (rcs ps)) (hrw : ∀ p ∈ ps, RwP ok w p) (htx : ∀ p ∈ ps, TxR p.1) :
    Calls Tryz.prog 21 #[.agg #[.int .i64 t, .int .i64 bs, .slice ao ps.length cap]] w fun e w' => e = .returned (erB (bw ⟨t, bs, rcl ps⟩)) ∧ Below w.heap.size w w' := by
  have HR := hide hrg
  have HW := hide hrw
  have HT := hide htx
  clear hrg hrw htx
  by_cases h1 : t < 1 ∨ 1073741824 < t
  · have e : bw ⟨t, bs, rcl ps⟩ = ⟨⟨#[116, 101, 114, 109]⟩, t, 2, -1, 0⟩ := by unfold bw; simp only; rw [if_pos h1]
    rw [e]
    clear e HR HW HT
    by_cases h2 : t < 1
    · go_enter Tryz.func21, Tryz.ntmps21
      go_wp2_with (first | (go_at_call 62; refine (new_any _ _ _ _).mono ?_; rintro e w9 ⟨rfl, hw9⟩; rw [hw9]; clear hw9 w9))
      go_ret
      exact ⟨rfl, (Below.refl _ _).alloc (Nat.le_refl _) _⟩
    · have h3 : 1073741824 < t := by omega
      go_enter Tryz.func21, Tryz.ntmps21
      go_wp2_with (first | (go_at_call 62; refine (new_any _ _ _ _).mono ?_; rintro e w9 ⟨rfl, hw9⟩; rw [hw9]; clear hw9 w9))
      go_ret
      exact ⟨rfl, (Below.refl _ _).alloc (Nat.le_refl _) _⟩
  by_cases h2 : bs < 0 ∨ 1073741824 < bs
  · have e : bw ⟨t, bs, rcl ps⟩ = ⟨⟨#[98, 97, 115, 101]⟩, bs, 2, -1, 0⟩ := by unfold bw; simp only; rw [if_neg h1, if_pos h2]
    rw [e]
    have k1 : ¬ t < 1 := by omega
    have k2 : ¬ 1073741824 < t := by omega
    clear e HR HW HT h1
    by_cases h2 : bs < 0
    · go_enter Tryz.func21, Tryz.ntmps21
      go_wp2_with (first | (go_at_call 62; refine (new_any _ _ _ _).mono ?_; rintro e w9 ⟨rfl, hw9⟩; rw [hw9]; clear hw9 w9))
      go_ret
      exact ⟨rfl, (Below.refl _ _).alloc (Nat.le_refl _) _⟩
    · have h3 : 1073741824 < bs := by omega
      go_enter Tryz.func21, Tryz.ntmps21
      go_wp2_with (first | (go_at_call 62; refine (new_any _ _ _ _).mono ?_; rintro e w9 ⟨rfl, hw9⟩; rw [hw9]; clear hw9 w9))
      go_ret
      exact ⟨rfl, (Below.refl _ _).alloc (Nat.le_refl _) _⟩
  by_cases h3 : ps.length < 1 ∨ 64 < ps.length
  · have e : bw ⟨t, bs, rcl ps⟩ = ⟨⟨#[114, 101, 99, 111, 114, 100, 115]⟩, (ps.length : Int), 6, -1, 0⟩ := by unfold bw; simp only; rw [if_neg h1, if_neg h2, rcl_len, if_pos h3]
    rw [e]
    have k1 : ¬ t < 1 := by omega
    have k2 : ¬ 1073741824 < t := by omega
    have k3 : ¬ bs < 0 := by omega
    have k4 : ¬ 1073741824 < bs := by omega
    clear e HR HW HT h1 h2
    generalize ps.length = L at *
    by_cases h2 : L < 1
    · obtain rfl : L = 0 := by omega
      go_enter Tryz.func21, Tryz.ntmps21
      go_wp2_with (first | (go_at_call 62; refine (new_any _ _ _ _).mono ?_; rintro e w9 ⟨rfl, hw9⟩; rw [hw9]; clear hw9 w9))
      go_ret
      exact ⟨rfl, (Below.refl _ _).alloc (Nat.le_refl _) _⟩
    · have h5 : ¬ (L : Int) < 1 := by omega
      have h4 : (64 : Int) < (L : Int) := by omega
      go_enter Tryz.func21, Tryz.ntmps21
      go_wp2_with (first | (go_at_call 62; refine (new_any _ _ _ _).mono ?_; rintro e w9 ⟨rfl, hw9⟩; rw [hw9]; clear hw9 w9))
      go_ret
      exact ⟨rfl, (Below.refl _ _).alloc (Nat.le_refl _) _⟩
  obtain ⟨b, o, rfl, hrg⟩ := HR.out (by omega)
  clear HR
  have HR := hide hrg
  clear hrg
  have HAT := hide (fun j hj ha hc => bw_at (t := t) (b := bs) (ps := ps) (j := j) h1 h2 h3 hj ha hc)
  have HFI := hide (fun ha => bw_fine (t := t) (b := bs) (ps := ps) h1 h2 h3 ha)
  have k1 : ¬ t < 1 := by omega
  have k2 : ¬ 1073741824 < t := by omega
  have k3 : ¬ bs < 0 := by omega
  have k4 : ¬ 1073741824 < bs := by omega
  have k5 : ¬ (ps.length : Int) < 1 := by omega
  have k6 : ¬ (64 : Int) < (ps.length : Int) := by omega
  have hn : ps.length ≤ 64 := by omega
  clear h1 h2 h3
  go_enter Tryz.func21, Tryz.ntmps21
  go_wp2_with fail
  have HB0 : Hid (Below w.heap.size w (w.alloc (.cells #[.int .i64 t, .int .i64 bs, .slice (some ⟨b, o, none⟩) ps.length cap] 48))) := hide ((Below.refl _ _).alloc (Nat.le_refl _) _)
  generalize w.alloc (.cells #[.int .i64 t, .int .i64 bs, .slice (some ⟨b, o, none⟩) ps.length cap] 48) = X at HB0 ⊢
  go_loopw [46] (fun i wr => ∃ j : Nat, j ≤ ps.length ∧ i = .int .i64 (j : Int) ∧ (∀ r ∈ (rcl ps).take j, (chk r).2.2 = 0) ∧ Below w.heap.size w wr) (fun i _ => ps.length - (intOf i).toNat)
  case atStart => exact ⟨0, Nat.zero_le _, rfl, fun r hr => by simp at hr, HB0.out⟩
  case round =>
    obtain ⟨j, hj, rfl, hall, hb⟩ := hrel
    have HA := hide hall
    have HB := hide hb
    clear hall hb HB0
    by_cases hlt : j < ps.length
    · have hltI : (j : Int) < (ps.length : Int) := by omega
      have HE := hide (range_bel (range_at HR.out hlt) HB.out)
      have HP := hide (HW.out _ (List.getElem_mem hlt))
      have HX := hide (HT.out _ (List.getElem_mem hlt))
      have HN := hide (fun h => HAT.out j hlt HA.out h)
      have HK := hide (fun h => ok_take hlt HA.out h)
      have HTN := hide (there_new wr)
      generalize ps[j] = p at *
      go_upto_region 11 with (first | (refine wpList_load_mid rfl _ _ rfl _ _ rfl _ _ HE.out Tryz.underlying35 rfl (by kernel_rfl) ?_) | (refine wpList_store_mid rfl _ _ _ rfl wr.heap.size 0 (cel p).toArray rfl rfl HTN.out (by kernel_rfl) (cel_all _) ?_))
      obtain ⟨V, hV⟩ : ∃ V, V = (wr.alloc (.cells #[.int .i64 0, .int .i64 0, .int .i64 0, .int .i64 0, .int .i64 0, .int .i64 0, .int .i64 0, .int .i64 0, .int .i64 0, .bool false, .string ⟨#[]⟩, .string ⟨#[]⟩, .string ⟨#[]⟩, .string ⟨#[]⟩, .slice none 0 0, .slice none 0 0, .slice none 0 0, .slice none 0 0] 35)).setCells wr.heap.size 0 (cel p) := ⟨_, rfl⟩
      obtain ⟨hbV, hrV, _⟩ := laidP wr p hV
      rw [← hV]
      have HRV := hide hrV
      have HBV := hide (HB.out.trans (hbV.mono HB.out.size))
      have HC := hide (ccheck_any p.1 _ V (HP.out.below HBV.out).is HX.out)
      clear hV hrV hbV HTN HE HB HP HX HT HW HAT HFI HR
      by_cases hc : (chk p.1).2.2 = 0
      · rw [show erN (chk p.1).1 (chk p.1).2.1 (chk p.1).2.2 = .nilIface from if_pos hc] at HC
        go_wp2_with (first | (refine wpList_load_mid rfl _ _ rfl _ _ rfl _ _ HRV.out Tryz.underlying35 rfl (by kernel_rfl) ?_) | (go_at_call 40; refine HC.out.mono ?_; rintro e w5 ⟨rfl, hb5⟩; have HB5 := hide (HBV.out.trans (hb5.mono HBV.out.size)); clear hb5))
        go_roundw
        case rel => exact ⟨j + 1, by omega, by go_num, HK.out hc, HB5.out⟩
        case measure => simp [intOf]; omega
      · rw [show erN (chk p.1).1 (chk p.1).2.1 (chk p.1).2.2 = ft (chk p.1).1 (chk p.1).2.1 (chk p.1).2.2 from if_neg hc] at HC
        have hw := HN.out hc
        unfold ft at HC
        go_wp2_with (first | (refine wpList_load_mid rfl _ _ rfl _ _ rfl _ _ HRV.out Tryz.underlying35 rfl (by kernel_rfl) ?_) | (go_at_call 40; refine HC.out.mono ?_; rintro e w5 ⟨rfl, hb5⟩; have HB5 := hide (HBV.out.trans (hb5.mono HBV.out.size)); clear hb5) | (go_at_call 63; refine (wrap_some _ _ _ _ _).mono ?_; rintro e w9 ⟨rfl, hw9⟩; rw [hw9]; clear hw9 w9))
        go_ret
        refine ⟨?_, HB5.out⟩
        rw [hw, erB]
        simp only
        rw [if_neg hc, if_neg (by omega)]
        rfl
    · obtain rfl : j = ps.length := by omega
      have hf := HFI.out (by have := HA.out; rw [← rcl_len, List.take_length] at this; exact this)
      clear hlt HAT HFI HR HW HT
      go_wp2_with fail
      go_ret
      exact ⟨by rw [hf]; rfl, HB.out⟩
theorem bcheck_any {okb ok : Nat → Prop} (x : Bt) (v : Value) (w : World) (hv : IsB okb ok w v x) (htx : ∀ r ∈ x.rs, TxR r) : Calls Tryz.prog 21 #[v] w fun e w' => e = .returned (erB (bw x)) ∧ Below w.heap.size w w' := by
  obtain ⟨u, ps, rfl, h2, h3⟩ := hv
  obtain ⟨t, b, rs⟩ := x
  simp only at h3 htx ⊢
  subst h3
  obtain ⟨ao, cap, rfl⟩ := h2.form
  exact bcheck_go t b ao cap ps w h2.rg h2.2 (fun p hp => htx p.1 (List.mem_map.2 ⟨p, hp, rfl⟩))
end Go.Proofs.YtgbcjmpnkejpeaaGreatDoor
namespace Go.Proofs.YtgbcjmpnkejpeaaGreatDoor
open Go.RowKit

/-- What a reader's End leaves. -/
def endS (l : List Int) (s : Gs) : Gs := if s.pt < l.length then refS ⟨#[101, 110, 100]⟩ 5 s else s
theorem rend_gs (p : Nat) (ao : Option Addr) (cap : Nat) (l : List Int) (s : Gs) (w : World) (hr : RdG w p (.slice ao l.length cap) s) :
    Calls Tryz.prog 17 #[.pointer (some ⟨p, 0, none⟩)] w fun x w' => x = .returned (erN (endS l s).op (endS l s).pt (endS l s).c) ∧ RdG w' p (.slice ao l.length cap) (endS l s) ∧ Bx p w w' := by
  by_cases hc : s.c = 0
  · have hr' : Rd w p (.slice ao l.length cap) s.pt .nilIface := by unfold RdG at hr; rwa [erN, if_pos hc] at hr
    refine (rend_any p ao l.length cap s.pt w hr').mono ?_
    rintro e w' ⟨rfl, h2, h3⟩
    unfold endS refS
    by_cases hp : s.pt < l.length
    · rw [if_pos hp, if_pos hc]
      rw [show endC l.length s.pt = 5 by simp [endC, hp]] at h2 ⊢
      exact ⟨rfl, h2, h3⟩
    · rw [if_neg hp]
      rw [show endC l.length s.pt = 0 by simp [endC, hp]] at h2 ⊢
      unfold RdG
      rw [hc]
      exact ⟨rfl, h2, h3⟩
  · have hb := hr.bad hc
    have he : endS l s = s := by unfold endS refS; rw [if_neg hc]; split <;> rfl
    rw [he, show erN s.op s.pt s.c = ft s.op s.pt s.c from if_neg hc]
    refine (rend_err p ao l.length cap s.pt _ _ w hb).mono ?_
    rintro e w' ⟨rfl, h2, h3⟩
    exact ⟨rfl, by unfold RdG; rw [erN, if_neg hc]; exact h2, h3⟩
theorem chk_ln {r : Rc} (h : (chk r).2.2 = 0) : LnR r := by
  have hi := chk_is h
  have hrow : ∀ (l : List Int) (h : Bool), rowB l h = true → l.length ≤ 100000 := fun l h e => by
    have := rowB_asks e
    split at this
    · have := this.1; omega
    · rw [this]; simp
  exact ⟨hrow _ _ hi.ids, hrow _ _ hi.isr, hrow _ _ hi.ad, hrow _ _ hi.dr⟩
theorem zero_ln : LnR Rc.zero := ⟨by decide, by decide, by decide, by decide⟩
theorem read_ln (l : List Int) (s : Gs) : LnR (readG l s).2 := by
  unfold readG
  simp only
  split
  · split
    · split
      · exact chk_ln (by assumption)
      · exact zero_ln
    · exact zero_ln
  · exact zero_ln
theorem rdG_bx {p q : Nat} {v : Value} {s : Gs} {W W' : World} (h : RdG W p v s) (hb : Bx q W W') (hq : p ≠ q) : RdG W' p v s :=
  have hl := h.lt
  ⟨(hb.cell hl hq).trans h.c0, (hb.cell hl hq).trans h.c1, (hb.cell hl hq).trans h.c2, fun i => (hb.frozen hl hq).trans (h.fz i)⟩
end Go.Proofs.YtgbcjmpnkejpeaaGreatDoor
namespace Go.Proofs.YtgbcjmpnkejpeaaGreatDoor
open Go.RowKit

end Go.Proofs.YtgbcjmpnkejpeaaGreatDoor
