/-
  WHAT IS WRONG WITH A MESSAGE FIRST, BY THE DOCUMENT (castellanref07.no, castellanref07.Check): what the mathematics says. Conditions: its slices' cells hold what they hold, its records' texts are not too long.
-/
import Derived.Test.YtjjpfajbljbelaaGreatDoorJKBatAla2
import Derived.Test.YtjjpfajbljbelaaGreatDoorJKBatPta4
namespace Go.Proofs.YtjjpfajbljbelaaGreatDoor
open Go.RowKit
set_option maxRecDepth 100000
set_option maxHeartbeats 64000000
def wrT (T : ByteArray × Int × Int) : Value := .agg #[.string T.1, .int .i64 T.2.1, .int .i64 T.2.2, .int .i64 (-1)]
theorem mno_any (op : ByteArray) (n c : Int) (w : World) : Calls Tryz.prog 19 #[.string op, .int .i64 n, .int .i64 c] w fun e w' => e = .returned (.agg #[.string op, .int .i64 n, .int .i64 c, .int .i64 (-1)]) ∧ Below w.heap.size w w' := by
 go_enter Tryz.func19, Tryz.ntmps19
 go_wp2_with fail
 exact bodyPost_ret (v := .agg #[.string op, .int .i64 n, .int .i64 c, .int .i64 (-1)]) (by simp [results, Tryz.results19, go_sem]) rfl ⟨rfl, (Below.refl _ _).alloc (Nat.le_refl _) _⟩
theorem chkBs_some : ∀ (xs : List Bt) (i j : Nat) (hj : j < xs.length), (∀ x ∈ xs.take j, (bw x).c = 0) → (bw xs[j]).c ≠ 0 → chkBs xs i = some (i + j, (bw xs[j]).op, (bw xs[j]).c)
 | [], _, j, hj, _, _ => by simp at hj
 | x :: xs, i, 0, _, _, h => by
  have h' : ¬ (bw x).c = 0 := h
  unfold chkBs
  rw [if_neg h']
  rfl
 | x :: xs, i, j + 1, hj, h, hn => by
  unfold chkBs
  rw [if_pos (h x (by simp))]
  have := chkBs_some xs (i + 1) j (by simpa using hj) (fun y hy => h y (by simp [hy])) hn
  rw [this, show i + 1 + j = i + (j + 1) by omega]
  rfl
theorem decide_not_eq (b : Bool) : decide (b = false) = !b := by cases b <;> rfl
theorem Bl.rg3 {w : World} {ao : Option Addr} {n cap : Nat} {qs : List Bq} (h : Bl w (.slice ao n cap) qs) : 0 < qs.length → ∃ b o, ao = some ⟨b, o, none⟩ ∧ w.rangeAt b o (bcs qs) := fun hp => by
 rcases h.1 with ⟨_, _, rfl, _⟩ | ⟨b, o, cap', e, _, _, h3⟩
 ·simp at hp
 ·cases e; exact ⟨b, o, rfl, h3⟩
structure Kq (w W : World) (L : List Value) : Prop where
 rg : W.rangeAt w.heap.size 0 L
 r0 : W.cell? ⟨w.heap.size + 1, 0, none⟩ = some (.string ⟨#[]⟩)
 r1 : W.cell? ⟨w.heap.size + 1, 1, none⟩ = some (.int .i64 0)
 r2 : W.cell? ⟨w.heap.size + 1, 2, none⟩ = some (.int .i64 0)
 r3 : W.cell? ⟨w.heap.size + 1, 3, none⟩ = some (.int .i64 0)
 rf : ∀ i, W.frozen? ⟨w.heap.size + 1, i, none⟩ = false
 be : Below w.heap.size w W
theorem Kq.below {w W W' : World} {L : List Value} (h : Kq w W L) (hb : Below W.heap.size W W') : Kq w W' L := by
 have hz : w.heap.size + 1 < W.heap.size := cell_block h.r0
 have hc : ∀ i, W'.cell? ⟨w.heap.size + 1, i, none⟩ = W.cell? ⟨w.heap.size + 1, i, none⟩ := fun i => hb.cell (p := ⟨w.heap.size + 1, i, none⟩) hz
 exact ⟨range_bel h.rg hb, (hc 0).trans h.r0, (hc 1).trans h.r1, (hc 2).trans h.r2, (hc 3).trans h.r3, fun i => (hb.frozen (p := ⟨w.heap.size + 1, i, none⟩) hz).trans (h.rf i), h.be.trans (hb.mono h.be.size)⟩
theorem kq_new (w : World) (L : List Value) {X : World} (hX : X = (w.alloc (.cells L.toArray 26)).alloc (.cells #[.string ⟨#[]⟩, .int .i64 0, .int .i64 0, .int .i64 0] 37)) : Kq w X L := by
 have hb : Below w.heap.size w X := by rw [hX]; exact ((Below.refl _ _).alloc (Nat.le_refl _) _).alloc (by simp) _
 exact ⟨by rw [hX]; exact range_bel (range_new w L 26) ((Below.refl _ _).alloc (Nat.le_refl _) _), by rw [hX]; simp, by rw [hX]; simp, by rw [hX]; simp, by rw [hX]; simp, fun i => by rw [hX]; simp, hb⟩
theorem Kq.put {w W : World} {L : List Value} (h : Kq w W L) (a b c d : Value) : ((((W.setCell ⟨w.heap.size + 1, 0, none⟩ a).setCell ⟨w.heap.size + 1, 1, none⟩ b).setCell ⟨w.heap.size + 1, 2, none⟩ c).setCell ⟨w.heap.size + 1, 3, none⟩ d).rangeAt (w.heap.size + 1) 0 [a, b, c, d] ∧ Below w.heap.size w ((((W.setCell ⟨w.heap.size + 1, 0, none⟩ a).setCell ⟨w.heap.size + 1, 1, none⟩ b).setCell ⟨w.heap.size + 1, 2, none⟩ c).setCell ⟨w.heap.size + 1, 3, none⟩ d) := by
 refine ⟨fun j u hj => ?_, (((h.be.setCell (by exact Nat.le_succ _) _).setCell (by exact Nat.le_succ _) _).setCell (by exact Nat.le_succ _) _).setCell (by exact Nat.le_succ _) _⟩
 have r0 := h.r0
 have r1 := h.r1
 have r2 := h.r2
 have r3 := h.r3
 have f0 := h.rf 0
 have f1 := h.rf 1
 have f2 := h.rf 2
 have f3 := h.rf 3
 match j, hj with
 | 0, hj => cases hj; simp [go_sem, *]
 | 1, hj => cases hj; simp [go_sem, *]
 | 2, hj => cases hj; simp [go_sem, *]
 | 3, hj => cases hj; simp [go_sem, *]
 | _ + 4, hj => cases hj
def headD (k fr tn t ld pa pt hi co sz po dl bl : Int) (F G G3 : Bool) (HA : Int → Bool) (NU : Int → Bool → Int → Bool) : ByteArray × Int × Int :=
 checkMB k fr t ld pa hi co sz dl bl (decide (k < 1) || decide (8 < k)) (decide (fr < 1) || (decide (1073741824 < fr) || (decide (tn < 1) || (decide (1073741824 < tn) || (fr == tn))))) (decide (t < 0) || decide (1073741824 < t)) F (!NU ld (HA 108) 1073741824) (!NU pa (HA 112) 1073741824 || !NU pt (HA 112) 1073741824) (!NU hi (HA 104) 1073741824) (!NU co (HA 99) 21) (!NU sz (HA 115) 1073741824 || !NU po (HA 111) 1073741824) G G3
def wrH (BT T : ByteArray × Int × Int) : Value := if T.2.2 = 0 then wrT BT else wrT T
theorem rmcheck_go (k fr tn t ld pa pt hi co sz po : Int) (pre ok : Bool) (ab ad : Option Addr) (nb cb nd cd : Nat) (HA : Int → Bool) (NU : Int → Bool → Int → Bool) (qs : List Bq) (w : World)
  (HH : Hid (∀ c W, Calls Tryz.prog 22 #[.int .i64 k, .int .u8 c] W fun e w' => e = .returned (.bool (HA c)) ∧ w' = W))
  (HN : Hid (∀ n b h W, Calls Tryz.prog 61 #[.int .i64 n, .bool b, .int .i64 h] W fun e w' => e = .returned (.bool (NU n b h)) ∧ w' = W))
  (hm : Bl w (.slice ab nb cb) qs) (hnb : qs.length = nb) (htx : ∀ x ∈ bts qs, ∀ r ∈ x.rs, TxR r) (F : Bool) (HF : Hid (((pre && !HA 97) || (ok && !HA 103)) = F)) (G G3 : Bool) (HG2 : Hid (G = true ↔ (512 < nd ∨ (0 < nd ∧ HA 100 = false)))) (HG3 : Hid (G3 = true ↔ (8 < nb ∨ (0 < nb ∧ HA 98 = false)))) (BT : ByteArray × Int × Int) (HBT : Hid (BT = match chkBs (bts qs) 0 with | none => (⟨#[]⟩, 0, 0) | some q => (q.2.1, (q.1 : Int), q.2.2)))
  (ANS : Value) (hT : ANS = wrH BT (headD k fr tn t ld pa pt hi co sz po nd nb F G G3 HA NU)) :
  Calls Tryz.prog 27 #[.agg #[.int .i64 k, .int .i64 fr, .int .i64 tn, .int .i64 t, .bool pre, .bool ok, .int .i64 ld, .int .i64 pa, .int .i64 pt, .int .i64 hi, .int .i64 co, .slice ab nb cb, .int .i64 sz, .int .i64 po, .slice ad nd cd]] w fun e w' => e = .returned ANS ∧ Below w.heap.size w w' := by
 have HT := hide hT
 have HM := hide hm
 have HTX := hide htx
 clear hT hm htx
 obtain ⟨X, hX⟩ : ∃ X, X = ((w.alloc (.cells #[.int .i64 k, .int .i64 fr, .int .i64 tn, .int .i64 t, .bool pre, .bool ok, .int .i64 ld, .int .i64 pa, .int .i64 pt, .int .i64 hi, .int .i64 co, .slice ab nb cb, .int .i64 sz, .int .i64 po, .slice ad nd cd] 26)).alloc (.cells #[.string ⟨#[]⟩, .int .i64 0, .int .i64 0, .int .i64 0] 37)) := ⟨_, rfl⟩
 have HK := hide (kq_new w [.int .i64 k, .int .i64 fr, .int .i64 tn, .int .i64 t, .bool pre, .bool ok, .int .i64 ld, .int .i64 pa, .int .i64 pt, .int .i64 hi, .int .i64 co, .slice ab nb cb, .int .i64 sz, .int .i64 po, .slice ad nd cd] hX)
 go_enter Tryz.func27, Tryz.ntmps27
 go_upto_region 1 with fail
 rw [← hX]
 clear hX
 obtain ⟨g0, g1, g2, g3, g4, g5, g6, g7, g8, g9, g10, g11, g12, g13, g14⟩ := C15.of HK.out.rg
 go_upto_region 2 with fail
 cases e1 : decide (k < 1)
 cases e2 : decide (8 < k)
 go_upto_region 4 with fail
 cases e3 : decide (fr < 1)
 cases e4 : decide (1073741824 < fr)
 cases e5 : decide (tn < 1)
 cases e6 : decide (1073741824 < tn)
 cases e7 : (fr == tn)
 go_upto_region 6 with fail
 cases e8 : decide (t < 0)
 cases e9 : decide (1073741824 < t)
 go_upto_region 8 with fail
 as_aux_lemma =>
  focus
   go_cut [70] (fun b W => b = .bool F ∧ W = X)
  case first =>
   cases pre <;> cases ok <;> cases h1 : HA 97 <;> cases h2 : HA 103
   all_goals
    go_wp2_with (go_at_call 22; refine (HH.out _ _).mono ?_; rintro e w1 ⟨rfl, hw1⟩; rw [hw1]; clear hw1 w1)
    go_meet
    exact ⟨by rw [← HF.out, h1, h2]; rfl, rfl⟩
  obtain ⟨rfl, rfl⟩ := hcut
  obtain ⟨X, rfl⟩ : ∃ x : World, x = wc := ⟨_, rfl⟩
  cases F
  go_upto_region 10 with fail
  focus
   cases e10 : NU ld (HA 108) 1073741824
   all_goals
    go_quiet (first | (go_at_call 22; exact Calls.quiet_of_same (HH.out _ _)) | (go_at_call 61; exact Calls.quiet_of_same (HN.out _ _ _ _)))
    replace HK := hide (HK.out.below (below_drewN (Below.refl _ _) nq))
    clear g0 g1 g2 g3 g4 g5 g6 g7 g8 g9 g10 g11 g12 g13 g14
    obtain ⟨X, hX⟩ : ∃ X', X' = X.drewN nq := ⟨_, rfl⟩
    rw [← hX] at HK ⊢
    clear hX
    obtain ⟨g0, g1, g2, g3, g4, g5, g6, g7, g8, g9, g10, g11, g12, g13, g14⟩ := C15.of HK.out.rg
  rotate_left
  go_upto_region 12 with fail
  as_aux_lemma =>
   focus
    cases e11 : NU pa (HA 112) 1073741824
    rotate_left
    cases e12 : NU pt (HA 112) 1073741824
    all_goals
     go_quiet (first | (go_at_call 22; exact Calls.quiet_of_same (HH.out _ _)) | (go_at_call 61; exact Calls.quiet_of_same (HN.out _ _ _ _)))
     replace HK := hide (HK.out.below (below_drewN (Below.refl _ _) nq))
     clear g0 g1 g2 g3 g4 g5 g6 g7 g8 g9 g10 g11 g12 g13 g14
     obtain ⟨X, hX⟩ : ∃ X', X' = X.drewN nq := ⟨_, rfl⟩
     rw [← hX] at HK ⊢
     clear hX
     obtain ⟨g0, g1, g2, g3, g4, g5, g6, g7, g8, g9, g10, g11, g12, g13, g14⟩ := C15.of HK.out.rg
   rotate_left
   go_upto_region 14 with fail
   focus
    cases e13 : NU hi (HA 104) 1073741824
    all_goals
     go_quiet (first | (go_at_call 22; exact Calls.quiet_of_same (HH.out _ _)) | (go_at_call 61; exact Calls.quiet_of_same (HN.out _ _ _ _)))
     replace HK := hide (HK.out.below (below_drewN (Below.refl _ _) nq))
     clear g0 g1 g2 g3 g4 g5 g6 g7 g8 g9 g10 g11 g12 g13 g14
     obtain ⟨X, hX⟩ : ∃ X', X' = X.drewN nq := ⟨_, rfl⟩
     rw [← hX] at HK ⊢
     clear hX
     obtain ⟨g0, g1, g2, g3, g4, g5, g6, g7, g8, g9, g10, g11, g12, g13, g14⟩ := C15.of HK.out.rg
   rotate_left
   go_upto_region 16 with fail
   as_aux_lemma =>
    focus
     cases e14 : NU co (HA 99) 21
     all_goals
      go_quiet (first | (go_at_call 22; exact Calls.quiet_of_same (HH.out _ _)) | (go_at_call 61; exact Calls.quiet_of_same (HN.out _ _ _ _)))
      replace HK := hide (HK.out.below (below_drewN (Below.refl _ _) nq))
      clear g0 g1 g2 g3 g4 g5 g6 g7 g8 g9 g10 g11 g12 g13 g14
      obtain ⟨X, hX⟩ : ∃ X', X' = X.drewN nq := ⟨_, rfl⟩
      rw [← hX] at HK ⊢
      clear hX
      obtain ⟨g0, g1, g2, g3, g4, g5, g6, g7, g8, g9, g10, g11, g12, g13, g14⟩ := C15.of HK.out.rg
    rotate_left
    go_upto_region 18 with fail
    focus
     cases e15 : NU sz (HA 115) 1073741824
     rotate_left
     cases e16 : NU po (HA 111) 1073741824
     all_goals
      go_quiet (first | (go_at_call 22; exact Calls.quiet_of_same (HH.out _ _)) | (go_at_call 61; exact Calls.quiet_of_same (HN.out _ _ _ _)))
      replace HK := hide (HK.out.below (below_drewN (Below.refl _ _) nq))
      clear g0 g1 g2 g3 g4 g5 g6 g7 g8 g9 g10 g11 g12 g13 g14
      obtain ⟨X, hX⟩ : ∃ X', X' = X.drewN nq := ⟨_, rfl⟩
      rw [← hX] at HK ⊢
      clear hX
      obtain ⟨g0, g1, g2, g3, g4, g5, g6, g7, g8, g9, g10, g11, g12, g13, g14⟩ := C15.of HK.out.rg
    rotate_left
    go_upto_region 20 with fail
    as_aux_lemma =>
     focus
      go_cut [147] (fun b W => b = .bool G ∧ W = X)
     case first =>
      by_cases h1 : 512 < nd
      ·have h1I : (512 : Int) < (nd : Int) := by omega
       go_wp2_with (go_at_call 22; refine (HH.out _ _).mono ?_; rintro e w1 ⟨rfl, hw1⟩; rw [hw1]; clear hw1 w1)
       go_meet
       exact ⟨congrArg Value.bool (HG2.out.2 (.inl h1)).symm, rfl⟩
      ·have h1I : ¬ (512 : Int) < (nd : Int) := by omega
       by_cases h2 : 0 < nd
       ·have h2I : (0 : Int) < (nd : Int) := by omega
        cases h3 : HA 100
        ·go_wp2_with (go_at_call 22; refine (HH.out _ _).mono ?_; rintro e w1 ⟨rfl, hw1⟩; rw [hw1]; clear hw1 w1)
         go_meet
         exact ⟨congrArg Value.bool (HG2.out.2 (.inr ⟨h2, h3⟩)).symm, rfl⟩
        ·go_wp2_with (go_at_call 22; refine (HH.out _ _).mono ?_; rintro e w1 ⟨rfl, hw1⟩; rw [hw1]; clear hw1 w1)
         go_meet
         exact ⟨congrArg Value.bool (Bool.eq_false_iff.2 (fun e => by rcases HG2.out.1 e with q | q; (exact h1 q); (rw [h3] at q; exact absurd q.2 (by decide)))).symm, rfl⟩
       ·have h2I : ¬ (0 : Int) < (nd : Int) := by omega
        go_wp2_with (go_at_call 22; refine (HH.out _ _).mono ?_; rintro e w1 ⟨rfl, hw1⟩; rw [hw1]; clear hw1 w1)
        go_meet
        exact ⟨congrArg Value.bool (Bool.eq_false_iff.2 (fun e => by rcases HG2.out.1 e with q | q; (exact h1 q); (exact h2 q.1))).symm, rfl⟩
     obtain ⟨rfl, rfl⟩ := hcut
     obtain ⟨X, rfl⟩ : ∃ x : World, x = wc := ⟨_, rfl⟩
     cases G
     go_upto_region 22 with fail
     focus
      go_cut [166] (fun b W => b = .bool G3 ∧ W = X)
     case first =>
      by_cases h1 : 8 < nb
      ·have h1I : (8 : Int) < (nb : Int) := by omega
       go_wp2_with (go_at_call 22; refine (HH.out _ _).mono ?_; rintro e w1 ⟨rfl, hw1⟩; rw [hw1]; clear hw1 w1)
       go_meet
       exact ⟨congrArg Value.bool (HG3.out.2 (.inl h1)).symm, rfl⟩
      ·have h1I : ¬ (8 : Int) < (nb : Int) := by omega
       by_cases h2 : 0 < nb
       ·have h2I : (0 : Int) < (nb : Int) := by omega
        cases h3 : HA 98
        ·go_wp2_with (go_at_call 22; refine (HH.out _ _).mono ?_; rintro e w1 ⟨rfl, hw1⟩; rw [hw1]; clear hw1 w1)
         go_meet
         exact ⟨congrArg Value.bool (HG3.out.2 (.inr ⟨h2, h3⟩)).symm, rfl⟩
        ·go_wp2_with (go_at_call 22; refine (HH.out _ _).mono ?_; rintro e w1 ⟨rfl, hw1⟩; rw [hw1]; clear hw1 w1)
         go_meet
         exact ⟨congrArg Value.bool (Bool.eq_false_iff.2 (fun e => by rcases HG3.out.1 e with q | q; (exact h1 q); (rw [h3] at q; exact absurd q.2 (by decide)))).symm, rfl⟩
       ·have h2I : ¬ (0 : Int) < (nb : Int) := by omega
        go_wp2_with (go_at_call 22; refine (HH.out _ _).mono ?_; rintro e w1 ⟨rfl, hw1⟩; rw [hw1]; clear hw1 w1)
        go_meet
        exact ⟨congrArg Value.bool (Bool.eq_false_iff.2 (fun e => by rcases HG3.out.1 e with q | q; (exact h1 q); (exact h2 q.1))).symm, rfl⟩
     obtain ⟨rfl, rfl⟩ := hcut
     obtain ⟨X, rfl⟩ : ∃ x : World, x = wc := ⟨_, rfl⟩
     cases G3
     as_aux_lemma =>
      have hAN : ANS = wrT BT := by
       rw [HT.out]
       simp [wrH, headD, checkMB, e1, e2, e3, e4, e5, e6, e7, e8, e9, e10, e11, e12, e13, e14, e15, e16]
      have HAN := hide hAN
      have hb8 : nb ≤ 8 := by
       have hG3 := mt HG3.out.2 (by decide)
       omega
      clear hAN HT HF HG2 HG3 e1 e2 e3 e4 e5 e6 e7 e8 e9 e10 e11 e12 e13 e14 e15 e16 HH HN
      clear g0 g1 g2 g3 g4 g5 g6 g7 g8 g9 g10 g11 g12 g13 g14
      have g11 := (C15.of HK.out.rg).c11
      go_wp2_with fail
      clear g11
      go_loopw [4] (fun i wr => ∃ j : Nat, j ≤ nb ∧ i = .int .i64 (j : Int) ∧ Hid (∀ x ∈ (bts qs).take j, (bw x).c = 0) ∧ Hid (Kq w wr [.int .i64 k, .int .i64 fr, .int .i64 tn, .int .i64 t, .bool pre, .bool ok, .int .i64 ld, .int .i64 pa, .int .i64 pt, .int .i64 hi, .int .i64 co, .slice ab nb cb, .int .i64 sz, .int .i64 po, .slice ad nd cd])) (fun i _ => nb - (intOf i).toNat)
      case atStart => exact ⟨0, Nat.zero_le _, rfl, hide (fun x hx => by simp at hx), HK⟩
      case round =>
       clear HK
       obtain ⟨j, hj, rfl, HA', HK⟩ := hrel
       have g11 := (C15.of HK.out.rg).c11
       by_cases hlt : j < nb
       ·have hltI : (j : Int) < (nb : Int) := by omega
        have hlq : j < qs.length := by omega
        have hlb : j < (bts qs).length := by rw [bts_len]; exact hlq
        have hbj : (bts qs)[j] = btq qs[j] := by simp [bts]
        obtain ⟨b, o, rfl, hrg⟩ := HM.out.rg3 (by omega)
        have HE := hide (range_bel (brange_at hrg hlq) HK.out.be)
        have HP := hide ((HM.out.2 _ (List.getElem_mem hlq)).below HK.out.be)
        have HXT := hide (HTX.out (btq qs[j]) (List.mem_map.2 ⟨_, List.getElem_mem hlq, rfl⟩))
        have HNO2 := hide (fun h => chkBs_some (bts qs) 0 j hlb HA'.out h)
        have HKE := hide (fun h => okb_take hlq HA'.out h)
        rw [hbj] at HNO2
        clear hrg hbj
        generalize qs[j] = p at *
        have HC := hide (rbcheck_any (okb := fun _ => True) (ok := fun _ => True) (btq p) (.agg (bce p).toArray) wr ⟨p.u, p.ps, rfl, HP.out, rfl⟩ HXT.out)
        unfold wrB at HC
        generalize bw (btq p) = bb at *
        obtain ⟨bop, bpt, bc', br, bi⟩ := bb
        simp only at HC HNO2 HKE
        clear HP HXT
        by_cases hc : bc' = 0
        ·have hc0 := hc
         rw [hc] at HC
         go_wp2_with (first | (refine wpList_load_mid rfl _ _ rfl _ _ rfl _ _ HE.out Tryz.underlying48 rfl (by kernel_rfl) ?_) | (go_at_call 62; refine HC.out.mono ?_; rintro e V ⟨rfl, hbn⟩; have HK2 := hide ((HK.out.below hbn).below ((Below.refl _ _).alloc (Nat.le_refl _) (.cells #[.string bop, .int .i64 bpt, .int .i64 0, .int .i64 br] 37))); clear hbn))
         go_roundw
         case rel => exact ⟨j + 1, by omega, by go_num, hide (HKE.out hc0), HK2⟩
         case measure => simp [intOf]; omega
        ·have hcb : (bc' == 0) = false := by simpa using hc
         have hn2 := HNO2.out hc
         rw [Nat.zero_add] at hn2
         have HANS : Hid (ANS = .agg #[.string bop, .int .i64 (j : Int), .int .i64 bc', .int .i64 (-1)]) := hide (by rw [HAN.out, HBT.out, hn2]; rfl)
         clear hn2 HNO2 HKE
         go_upto_region 28 with (first | (refine wpList_load_mid rfl _ _ rfl _ _ rfl _ _ HE.out Tryz.underlying48 rfl (by kernel_rfl) ?_) | (go_at_call 62; refine HC.out.mono ?_; rintro e V ⟨rfl, hbn⟩; have HK2 := hide ((HK.out.below hbn).below ((Below.refl _ _).alloc (Nat.le_refl _) (.cells #[.string bop, .int .i64 bpt, .int .i64 bc', .int .i64 br] 37))); clear hbn))
         have r0 := HK2.out.r0
         have r1 := HK2.out.r1
         have r2 := HK2.out.r2
         have r3 := HK2.out.r3
         have f0 := HK2.out.rf 0
         have f1 := HK2.out.rf 1
         have f2 := HK2.out.rf 2
         have f3 := HK2.out.rf 3
         go_wp2_with fail
         exact bodyPost_ret (v := .agg #[_, _, _, _]) (results_mid Tryz.results27 _ _ (w.heap.size + 1) _ _ rfl (HK2.out.put _ _ _ _).1 Tryz.underlying37 rfl (by kernel_rfl)) rfl ⟨by rw [HANS.out], (HK2.out.put _ _ _ _).2⟩
       ·obtain rfl : j = nb := by omega
        have hnone := chkBs_none (bts qs) 0 (by have := HA'.out; rwa [← hnb, ← bts_len, List.take_length] at this)
        have HANS : Hid (ANS = .agg #[.string ⟨#[]⟩, .int .i64 0, .int .i64 0, .int .i64 (-1)]) := hide (by rw [HAN.out, HBT.out, hnone]; rfl)
        clear hlt hnone
        have r0 := HK.out.r0
        have r1 := HK.out.r1
        have r2 := HK.out.r2
        have r3 := HK.out.r3
        have f0 := HK.out.rf 0
        have f1 := HK.out.rf 1
        have f2 := HK.out.rf 2
        have f3 := HK.out.rf 3
        go_wp2_with fail
        exact bodyPost_ret (v := .agg #[_, _, _, _]) (results_mid Tryz.results27 _ _ (w.heap.size + 1) _ _ rfl (HK.out.put _ _ _ _).1 Tryz.underlying37 rfl (by kernel_rfl)) rfl ⟨by rw [HANS.out], (HK.out.put _ _ _ _).2⟩
     all_goals as_aux_lemma =>
      go_wp2_with (go_at_call 19; refine (mno_any _ _ _ _).mono ?_; rintro e V ⟨rfl, hbn⟩; replace HK := hide (HK.out.below hbn); clear hbn g0 g1 g2 g3 g4 g5 g6 g7 g8 g9 g10 g11 g12 g13 g14; have r0 := HK.out.r0; have r1 := HK.out.r1; have r2 := HK.out.r2; have r3 := HK.out.r3; have f0 := HK.out.rf 0; have f1 := HK.out.rf 1; have f2 := HK.out.rf 2; have f3 := HK.out.rf 3)
      exact bodyPost_ret (v := .agg #[_, _, _, _]) (results_mid Tryz.results27 _ _ (w.heap.size + 1) _ _ rfl (HK.out.put _ _ _ _).1 Tryz.underlying37 rfl (by kernel_rfl)) rfl ⟨by rw [HT.out]; simp [wrH, wrT, headD, checkMB, *], (HK.out.put _ _ _ _).2⟩
    all_goals as_aux_lemma =>
     go_wp2_with (go_at_call 19; refine (mno_any _ _ _ _).mono ?_; rintro e V ⟨rfl, hbn⟩; replace HK := hide (HK.out.below hbn); clear hbn g0 g1 g2 g3 g4 g5 g6 g7 g8 g9 g10 g11 g12 g13 g14; have r0 := HK.out.r0; have r1 := HK.out.r1; have r2 := HK.out.r2; have r3 := HK.out.r3; have f0 := HK.out.rf 0; have f1 := HK.out.rf 1; have f2 := HK.out.rf 2; have f3 := HK.out.rf 3)
     exact bodyPost_ret (v := .agg #[_, _, _, _]) (results_mid Tryz.results27 _ _ (w.heap.size + 1) _ _ rfl (HK.out.put _ _ _ _).1 Tryz.underlying37 rfl (by kernel_rfl)) rfl ⟨by rw [HT.out]; simp [wrH, wrT, headD, checkMB, *], (HK.out.put _ _ _ _).2⟩
   all_goals as_aux_lemma =>
    go_wp2_with (go_at_call 19; refine (mno_any _ _ _ _).mono ?_; rintro e V ⟨rfl, hbn⟩; replace HK := hide (HK.out.below hbn); clear hbn g0 g1 g2 g3 g4 g5 g6 g7 g8 g9 g10 g11 g12 g13 g14; have r0 := HK.out.r0; have r1 := HK.out.r1; have r2 := HK.out.r2; have r3 := HK.out.r3; have f0 := HK.out.rf 0; have f1 := HK.out.rf 1; have f2 := HK.out.rf 2; have f3 := HK.out.rf 3)
    exact bodyPost_ret (v := .agg #[_, _, _, _]) (results_mid Tryz.results27 _ _ (w.heap.size + 1) _ _ rfl (HK.out.put _ _ _ _).1 Tryz.underlying37 rfl (by kernel_rfl)) rfl ⟨by rw [HT.out]; simp [wrH, wrT, headD, checkMB, *], (HK.out.put _ _ _ _).2⟩
  all_goals as_aux_lemma =>
   go_wp2_with (go_at_call 19; refine (mno_any _ _ _ _).mono ?_; rintro e V ⟨rfl, hbn⟩; replace HK := hide (HK.out.below hbn); clear hbn g0 g1 g2 g3 g4 g5 g6 g7 g8 g9 g10 g11 g12 g13 g14; have r0 := HK.out.r0; have r1 := HK.out.r1; have r2 := HK.out.r2; have r3 := HK.out.r3; have f0 := HK.out.rf 0; have f1 := HK.out.rf 1; have f2 := HK.out.rf 2; have f3 := HK.out.rf 3)
   exact bodyPost_ret (v := .agg #[_, _, _, _]) (results_mid Tryz.results27 _ _ (w.heap.size + 1) _ _ rfl (HK.out.put _ _ _ _).1 Tryz.underlying37 rfl (by kernel_rfl)) rfl ⟨by rw [HT.out]; simp [wrH, wrT, headD, checkMB, *], (HK.out.put _ _ _ _).2⟩
 all_goals as_aux_lemma =>
  go_wp2_with (go_at_call 19; refine (mno_any _ _ _ _).mono ?_; rintro e V ⟨rfl, hbn⟩; replace HK := hide (HK.out.below hbn); clear hbn g0 g1 g2 g3 g4 g5 g6 g7 g8 g9 g10 g11 g12 g13 g14; have r0 := HK.out.r0; have r1 := HK.out.r1; have r2 := HK.out.r2; have r3 := HK.out.r3; have f0 := HK.out.rf 0; have f1 := HK.out.rf 1; have f2 := HK.out.rf 2; have f3 := HK.out.rf 3)
  exact bodyPost_ret (v := .agg #[_, _, _, _]) (results_mid Tryz.results27 _ _ (w.heap.size + 1) _ _ rfl (HK.out.put _ _ _ _).1 Tryz.underlying37 rfl (by kernel_rfl)) rfl ⟨by rw [HT.out]; simp [wrH, wrT, headD, checkMB, *], (HK.out.put _ _ _ _).2⟩
theorem rmcheck_any (m : Ms) (v : Value) (w : World) (hv : IsM w v m) (htx : TxM m) : Calls Tryz.prog 27 #[v] w fun e w' => e = .returned (wrT (chkM m)) ∧ Below w.heap.size w w' := by
 obtain ⟨ab, cb, ad, cd, qs, rfl, hm⟩ := isM_form hv
 have hT : headM m = headD m.k m.fr m.tn m.t m.ld m.pa m.pt m.hi m.co m.sz m.po m.da.length m.bs.length ((m.pre && !hasM m.k 97) || (m.ok && !hasM m.k 103)) (decide (512 < m.da.length ∨ (0 < m.da.length ∧ hasM m.k 100 = false))) (decide (8 < m.bs.length ∨ (0 < m.bs.length ∧ hasM m.k 98 = false))) (fun c => hasM m.k c) (fun n b h => numB n b 0 h) := by
  unfold headM headD
  congr 1
  ·exact Bool.decide_or ..
  ·rw [← Bool.coe_iff_coe]; simp
  ·exact Bool.decide_or ..
  ·rw [← Bool.coe_iff_coe]; simp
  ·exact decide_not_eq _
  ·rw [Bool.decide_or, decide_not_eq, decide_not_eq]
  ·exact decide_not_eq _
  ·exact decide_not_eq _
  ·rw [Bool.decide_or, decide_not_eq, decide_not_eq]
 refine rmcheck_go m.k m.fr m.tn m.t m.ld m.pa m.pt m.hi m.co m.sz m.po m.pre m.ok ab ad m.bs.length cb m.da.length cd (fun c => hasM m.k c) (fun n b h => numB n b 0 h) qs w (hide (fun c W => rmhas_any m.k c W)) (hide (fun n b h W => rmnum_any n b h W)) hm.bl hm.len (by rw [hm.bs]; exact htx) _ (hide rfl) _ _ (hide decide_eq_true_iff) (hide decide_eq_true_iff) _ (hide rfl) _ ?_
 rw [← hT, chkM_head, hm.bs]
 unfold wrH
 split
 ·rfl
 ·rfl
end Go.Proofs.YtjjpfajbljbelaaGreatDoor
