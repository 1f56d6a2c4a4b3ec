/-
  BROKERS (castellanref05.Brokers, row, name).
  WHAT IS WRONG WITH A RECORD FIRST (castellanref05.numbers, Check).
-/
import Derived.Test.YtlggjgapdpkhiaaGreatJKSlca5
import Derived.WalkSmall
namespace Go.Proofs.YtlggjgapdpkhiaaGreat
open Go.RowKit
set_option maxRecDepth 100000
set_option maxHeartbeats 4000000
def okJ (l : List Int) (j : Nat) : Bool := decide (1 ≤ l.getD j 0 ∧ l.getD j 0 ≤ 64) && (List.range j).all fun k => decide (¬ l.getD k 0 = l.getD j 0)
def brokB (l : List Int) : Bool := decide (l.length ≤ 7) && (List.range l.length).all (okJ l)
theorem okJ_no {l : List Int} {j : Nat} (h : ¬ (1 ≤ l.getD j 0 ∧ l.getD j 0 ≤ 64)) : okJ l j = false := by
 unfold okJ; rw [decide_eq_false h, Bool.false_and]
theorem okJ_twice {l : List Int} {j k : Nat} (hk : k < j) (h : l.getD k 0 = l.getD j 0) : okJ l j = false := by
 unfold okJ
 rw [show ((List.range j).all fun k => decide (¬ l.getD k 0 = l.getD j 0)) = false by
  rw [List.all_eq_false]
  exact ⟨k, List.mem_range.2 hk, by rw [decide_eq_false (fun q => q h)]; decide⟩, Bool.and_false]
theorem okJ_yes {l : List Int} {j : Nat} (h : 1 ≤ l.getD j 0 ∧ l.getD j 0 ≤ 64) (hk : ∀ k, k < j → ¬ l.getD k 0 = l.getD j 0) : okJ l j = true := by
 unfold okJ
 rw [decide_eq_true h, Bool.true_and, List.all_eq_true]
 intro k hk'
 exact decide_eq_true (hk k (List.mem_range.1 hk'))
theorem brokB_no {l : List Int} {j : Nat} (hj : j < l.length) (h : okJ l j = false) : brokB l = false := by
 unfold brokB
 rw [show (List.range l.length).all (okJ l) = false by
  rw [List.all_eq_false]
  exact ⟨j, List.mem_range.2 hj, by simp [h]⟩, Bool.and_false]
theorem brokB_yes {l : List Int} (h7 : l.length ≤ 7) (h : ∀ j, j < l.length → okJ l j = true) : brokB l = true := by
 unfold brokB
 rw [decide_eq_true h7, Bool.true_and, List.all_eq_true]
 intro j hj
 exact h j (List.mem_range.1 hj)
def Qt (w W : World) : Prop := ∃ n, W = w.drewN n
theorem Qt.refl (w : World) : Qt w w := ⟨0, rfl⟩
theorem Qt.drewN {w W : World} (h : Qt w W) (n : Nat) : Qt w (W.drewN n) := by
 obtain ⟨m, rfl⟩ := h
 exact ⟨m + n, by rw [World.drewN_drewN]⟩
theorem Qt.below {w W : World} (h : Qt w W) : Below w.heap.size w W := by
 obtain ⟨m, rfl⟩ := h
 exact below_drewN (Below.refl _ _) m
theorem Calls.quiet_qt {P : Program} {f : FuncId} {args : Array Value} {w : World} {n : Nat} {v : Value} (h : Calls P f args (w.drewN n) fun e w' => e = .returned v ∧ Qt (w.drewN n) w') : Calls P f args (w.drewN n) fun e w'' => e = .returned v ∧ ∃ m, w'' = w.drewN m :=
 Calls.quiet_of h
theorem brok_some (b o cap : Nat) (l : List Int) (w : World) (h3 : ∀ i (h : i < l.length), w.cell? ⟨b, o + i, none⟩ = some (ic l[i])) :
  Calls Tryz.prog 134 #[.slice (some ⟨b, o, none⟩) l.length cap] w fun e w' => e = .returned (.bool (brokB l)) ∧ Qt w w' := by
 obtain ⟨R, hR⟩ : ∃ R, R = brokB l := ⟨_, rfl⟩
 rw [← hR]
 have HR := Hd hR
 clear hR
 by_cases h7 : 7 < l.length
 ·have HE : Hid (R = false) := Hd (by rw [HR.out]; unfold brokB; rw [decide_eq_false (by omega), Bool.false_and])
  have h7' : (7 : Int) < (l.length : Int) := by omega
  clear h3
  go_enter Tryz.func134, Tryz.ntmps134
  go_wp2_with fail
  go_ret
  exact ⟨by rw [HE.out]; rfl, Qt.refl _⟩
 have h7' : ¬ (7 : Int) < (l.length : Int) := by omega
 have H3 : Hid (∀ W, Qt w W → ∀ i, i < l.length → W.cell? ⟨b, o + i, none⟩ = some (.int .i64 (l.getD i 0))) := Hd (fun W hW i hi => by
  have := h3 i hi
  rw [hW.below.cell (p := ⟨b, o + i, none⟩) (cB this), this]
  simp [List.getD, hi, ic])
 clear h3
 go_enter Tryz.func134, Tryz.ntmps134
 go_wp2_with fail
 go_loopw [3] (fun i wr => ∃ j : Nat, j ≤ l.length ∧ i = .int .i64 (j : Int) ∧ Hid (∀ m, m < j → okJ l m = true) ∧ Qt w wr) (fun i _ => l.length - (intOf i).toNat)
 case atStart => exact ⟨0, Nat.zero_le _, rfl, Hd (fun m hm => absurd hm (Nat.not_lt_zero _)), Qt.refl _⟩
 case round =>
  obtain ⟨j, hj, rfl, HN, hb⟩ := hrel
  have HB := Hd hb
  clear hb
  by_cases hlt : j < l.length
  ·have hltI : (j : Int) < (l.length : Int) := by omega
   have cj := H3.out wr HB.out j hlt
   by_cases hlo : l.getD j 0 < 1 ∨ (¬ l.getD j 0 < 1 ∧ 64 < l.getD j 0)
   ·have HE : Hid (R = false) := Hd (by rw [HR.out]; exact brokB_no hlt (okJ_no (by omega)))
    generalize l.getD j 0 = x at *
    rcases hlo with h1 | ⟨h1, h2⟩
    all_goals
     go_wp2_with fail
     go_ret
     exact ⟨by rw [HE.out]; rfl, HB.out⟩
   ·have h1 : ¬ l.getD j 0 < 1 := by omega
    have h2 : ¬ 64 < l.getD j 0 := by omega
    clear hlo
    obtain ⟨x, hx⟩ : ∃ x, x = l.getD j 0 := ⟨_, rfl⟩
    rw [← hx] at cj h1 h2
    have HX := Hd hx
    clear hx
    go_wp2_with fail
    obtain ⟨wo, rfl⟩ : ∃ wo : World, wo = wr := ⟨_, rfl⟩
    go_loopw [4] (fun i wr => ∃ k : Nat, k ≤ j ∧ i = .int .i64 (k : Int) ∧ Hid (∀ m, m < k → ¬ l.getD m 0 = x) ∧ Qt w wr) (fun i _ => j - (intOf i).toNat)
    case atStart => exact ⟨0, Nat.zero_le _, rfl, Hd (fun m hm => absurd hm (Nat.not_lt_zero _)), HB.out⟩
    case round =>
     obtain ⟨k, hk, rfl, HK, hbk⟩ := hrel
     have HBK := Hd hbk
     clear hbk
     by_cases hkj : k < j
     ·have hkI : (k : Int) < (j : Int) := by omega
      have hkl : (k : Int) < (l.length : Int) := by omega
      have ck := H3.out wr HBK.out k (by omega)
      have cj2 := H3.out wr HBK.out j hlt
      rw [← HX.out] at cj2
      obtain ⟨y, hy⟩ : ∃ y, y = l.getD k 0 := ⟨_, rfl⟩
      rw [← hy] at ck
      have HY := Hd hy
      clear hy cj
      by_cases he : y = x
      ·have HE : Hid (R = false) := Hd (by rw [HR.out]; exact brokB_no hlt (okJ_twice hkj (by rw [← HY.out, ← HX.out]; exact he)))
       go_wp2_with fail
       go_quiet (fail)
       go_wp2_with fail
       go_ret
       exact ⟨by rw [HE.out]; rfl, HBK.out.drewN _⟩
      ·go_wp2_with fail
       go_quiet (fail)
       go_wp2_with fail
       go_roundw
       case rel => exact ⟨k + 1, by omega, by go_num, Hd (fun m hm => by by_cases e : m = k; (subst e; rw [← HY.out]; exact he); exact HK.out m (by omega)), HBK.out.drewN _⟩
       case measure => simp [intOf]; omega
     ·obtain rfl : k = j := by omega
      have HJ : Hid (okJ l k = true) := Hd (okJ_yes (by rw [← HX.out]; omega) (fun m hm => by rw [← HX.out]; exact HK.out m hm))
      clear hkj
      go_wp2_with fail
      go_roundw
      case rel => exact ⟨k + 1, by omega, by go_num, Hd (fun m hm => by by_cases e : m = k; (subst e; exact HJ.out); exact HN.out m (by omega)), HBK.out⟩
      case measure => simp [intOf]; omega
  ·obtain rfl : j = l.length := by omega
   have HE : Hid (R = true) := Hd (by rw [HR.out]; exact brokB_yes (by omega) HN.out)
   clear hlt
   go_wp2_with fail
   go_ret
   exact ⟨by rw [HE.out]; rfl, HB.out⟩
theorem brok_none (ao : Option Addr) (cap : Nat) (w : World) : Calls Tryz.prog 134 #[.slice ao 0 cap] w fun e w' => e = .returned (.bool (brokB [])) ∧ Qt w w' := by
 go_enter Tryz.func134, Tryz.ntmps134
 go_wp2_with fail
 refine wp_loop_rounds 1 ?_
 rw [rounds_succ]
 go_wp2_with fail
 go_ret
 exact ⟨rfl, Qt.refl _⟩
theorem brok_any (v : Value) (l : List Int) (w : World) (hv : Sl ic w v l) : Calls Tryz.prog 134 #[v] w fun e w' => e = .returned (.bool (brokB l)) ∧ Qt w w' := by
 rcases hv with ⟨ao, cap, rfl, rfl⟩ | ⟨b, o, cap, rfl, _, h3⟩
 ·exact brok_none ao cap w
 ·exact brok_some b o cap l w h3
def rowB (l : List Int) (asks : Bool) : Bool := if asks then brokB l else ((l.length : Int) == 0)
theorem row_any (v : Value) (l : List Int) (asks : Bool) (w : World) (hv : Sl ic w v l) : Calls Tryz.prog 105 #[v, .bool asks] w fun e w' => e = .returned (.bool (rowB l asks)) ∧ Qt w w' := by
 obtain ⟨R, hR⟩ : ∃ R, R = rowB l asks := ⟨_, rfl⟩
 rw [← hR]
 have HR := Hd hR
 have HB := Hd (brok_any v l w hv)
 obtain ⟨ao, cap, rfl⟩ := hv.form
 clear hR hv
 cases asks with
 | true =>
  have HE : Hid (R = brokB l) := Hd HR.out
  go_enter Tryz.func105, Tryz.ntmps105
  go_wp2_with fail
  refine HB.out.mono ?_
  rintro e w1 ⟨rfl, hb⟩
  go_wp2_with fail
  go_ret
  exact ⟨by rw [HE.out]; rfl, hb⟩
 | false =>
  have HE : Hid (R = ((l.length : Int) == 0)) := Hd HR.out
  go_enter Tryz.func105, Tryz.ntmps105
  go_wp2_with fail
  go_ret
  exact ⟨by rw [HE.out]; rfl, Qt.refl _⟩
def nameA (S : List UInt8) (asks : Bool) : Bool := if asks then nameB S else S.isEmpty
theorem namea_any (S : List UInt8) (asks : Bool) (w : World) (hS : S.length ≤ 1000) : Calls Tryz.prog 104 #[.string ⟨S.toArray⟩, .bool asks] w fun e w' => e = .returned (.bool (nameA S asks)) ∧ w' = w := by
 obtain ⟨R, hR⟩ : ∃ R, R = nameA S asks := ⟨_, rfl⟩
 rw [← hR]
 have HR := Hd hR
 have HB := Hd (name_any S w hS)
 have hdot : (⟨S.toArray⟩ : ByteArray).toList = S := by simp
 clear hR
 cases asks with
 | true =>
  have HE : Hid (R = nameB S) := Hd HR.out
  go_enter Tryz.func104, Tryz.ntmps104
  go_wp2_with fail
  refine HB.out.mono ?_
  rintro e w1 ⟨rfl, rfl⟩
  go_wp2_with fail
  go_ret
  exact ⟨by rw [HE.out]; rfl, rfl⟩
 | false =>
  have HE : Hid (R = S.isEmpty) := Hd HR.out
  go_enter Tryz.func104, Tryz.ntmps104
  go_wp2_with fail
  go_ret
  exact ⟨by rw [HE.out]; rfl, rfl⟩
end Go.Proofs.YtlggjgapdpkhiaaGreat
namespace Go.Proofs.YtlggjgapdpkhiaaGreat
open Go.RowKit
def wr3 (op : ByteArray) (a c : Int) : Value := .agg #[.string op, .int .i64 a, .int .i64 c]
def numsR (k br ep tp pa le cl se co : Int) : ByteArray × Int × Int :=
 if numB br (hasL k 98) 1 64 = false then (⟨#[98, 114, 111, 107, 101, 114]⟩, br, 2)
 else if numB ep (hasL k 101) 0 1073741824 = false then (⟨#[101, 112, 111, 99, 104]⟩, ep, 2)
 else if numB tp (hasL k 116) (if k = 10 then 0 else 1) 1073741824 = false then (⟨#[116, 111, 112, 105, 99]⟩, tp, 2)
 else if numB pa (hasL k 112) 0 255 = false then (⟨#[112, 97, 114, 116]⟩, pa, 2)
 else if numB le (hasL k 108) 0 64 = false then (⟨#[108, 101, 97, 100, 101, 114]⟩, le, 2)
 else if numB cl (hasL k 97) 1 1073741824 = false ∨ numB se (hasL k 97) 1 1073741824 = false ∨ numB co (hasL k 97) 0 21 = false then (⟨#[97, 115, 107, 101, 114]⟩, cl, 2)
 else (⟨#[]⟩, 0, 0)
structure Fr3 (W : World) (n : Nat) (x y z : Value) : Prop where
 c0 : W.cell? ⟨n, 0, none⟩ = some x
 c1 : W.cell? ⟨n, 1, none⟩ = some y
 c2 : W.cell? ⟨n, 2, none⟩ = some z
 f0 : W.frozen? ⟨n, 0, none⟩ = false
 f1 : W.frozen? ⟨n, 1, none⟩ = false
 f2 : W.frozen? ⟨n, 2, none⟩ = false
theorem Fr3.below {W W' : World} {n : Nat} {x y z : Value} (h : Fr3 W n x y z) (hb : Below W.heap.size W W') : Fr3 W' n x y z :=
 have hl : n < W.heap.size := cB h.c0
 ⟨(hb.cell (p := ⟨n, 0, none⟩) hl).trans h.c0, (hb.cell (p := ⟨n, 1, none⟩) hl).trans h.c1, (hb.cell (p := ⟨n, 2, none⟩) hl).trans h.c2, (hb.frozen (p := ⟨n, 0, none⟩) hl).trans h.f0, (hb.frozen (p := ⟨n, 1, none⟩) hl).trans h.f1, (hb.frozen (p := ⟨n, 2, none⟩) hl).trans h.f2⟩
theorem Fr3.set {W : World} {n : Nat} {x y z : Value} (h : Fr3 W n x y z) (x' y' z' : Value) : Fr3 (((W.setCell ⟨n, 0, none⟩ x').setCell ⟨n, 1, none⟩ y').setCell ⟨n, 2, none⟩ z') n x' y' z' := by
 have o : ∀ (v : World) (i j : Nat) (s : Value), ¬ i = j → (v.setCell ⟨n, i, none⟩ s).cell? ⟨n, j, none⟩ = v.cell? ⟨n, j, none⟩ := fun v i j s h => World.cell?_setCell_other _ _ _ _ (fun q => h (congrArg Addr.off q))
 refine ⟨?_, ?_, ?_, by simp [h.f0], by simp [h.f1], by simp [h.f2]⟩
 ·rw [o _ _ _ _ (by decide), o _ _ _ _ (by decide)]
  exact World.cell?_setCell_same _ _ _ h.c0
 ·rw [o _ _ _ _ (by decide)]
  exact World.cell?_setCell_same _ _ _ (u := y) (by rw [o _ _ _ _ (by decide)]; exact h.c1)
 ·exact World.cell?_setCell_same _ _ _ (u := z) (by rw [o _ _ _ _ (by decide), o _ _ _ _ (by decide)]; exact h.c2)
theorem bS {B : Nat} {w W : World} {n : Nat} (hb : Below B w W) (hn : B ≤ n) (x y z : Value) : Below B w (((W.setCell ⟨n, 0, none⟩ x).setCell ⟨n, 1, none⟩ y).setCell ⟨n, 2, none⟩ z) :=
 ((hb.setCell (p := ⟨n, 0, none⟩) hn x).setCell (p := ⟨n, 1, none⟩) hn y).setCell (p := ⟨n, 2, none⟩) hn z
structure Nm (W : World) (p q : Nat) (k br ep tp pa le cl se co : Int) : Prop where
 c0 : W.cell? ⟨p, 0, none⟩ = some (.int .i64 k)
 c1 : W.cell? ⟨p, 1, none⟩ = some (.int .i64 br)
 c2 : W.cell? ⟨p, 2, none⟩ = some (.int .i64 ep)
 c3 : W.cell? ⟨p, 3, none⟩ = some (.int .i64 tp)
 c4 : W.cell? ⟨p, 4, none⟩ = some (.int .i64 pa)
 c5 : W.cell? ⟨p, 5, none⟩ = some (.int .i64 le)
 c6 : W.cell? ⟨p, 6, none⟩ = some (.int .i64 cl)
 c7 : W.cell? ⟨p, 7, none⟩ = some (.int .i64 se)
 c8 : W.cell? ⟨p, 8, none⟩ = some (.int .i64 co)
 fr : Fr3 W q (.string ⟨#[]⟩) (.int .i64 0) (.int .i64 0)
theorem Nm.drewN {W : World} {p q : Nat} {k br ep tp pa le cl se co : Int} (h : Nm W p q k br ep tp pa le cl se co) (n : Nat) : Nm (W.drewN n) p q k br ep tp pa le cl se co :=
 ⟨h.c0, h.c1, h.c2, h.c3, h.c4, h.c5, h.c6, h.c7, h.c8, ⟨h.fr.c0, h.fr.c1, h.fr.c2, h.fr.f0, h.fr.f1, h.fr.f2⟩⟩
set_option maxRecDepth 100000 in
set_option maxHeartbeats 8000000 in
theorem numbers_any (k br ep tp pa le cl se co : Int) (x9 x10 x11 x12 x13 x14 x15 x16 x17 : Value) (w : World) :
  Calls Tryz.prog 102 #[.agg #[.int .i64 k, .int .i64 br, .int .i64 ep, .int .i64 tp, .int .i64 pa, .int .i64 le, .int .i64 cl, .int .i64 se, .int .i64 co, x9, x10, x11, x12, x13, x14, x15, x16, x17]] w fun e w' => e = .returned (wr3 (numsR k br ep tp pa le cl se co).1 (numsR k br ep tp pa le cl se co).2.1 (numsR k br ep tp pa le cl se co).2.2) ∧ Below w.heap.size w w' := by
 obtain ⟨lo, hlo⟩ : ∃ lo : Int, lo = if k = 10 then 0 else 1 := ⟨_, rfl⟩
 have HN0 := Hd (fun W => num_any br (hasL k 98) 1 64 W)
 have HN1 := Hd (fun W => num_any ep (hasL k 101) 0 1073741824 W)
 have HN2 := Hd (fun W => num_any tp (hasL k 116) lo 1073741824 W)
 have HN3 := Hd (fun W => num_any pa (hasL k 112) 0 255 W)
 have HN4 := Hd (fun W => num_any le (hasL k 108) 0 64 W)
 unfold numsR
 rw [← hlo]
 generalize numB br (hasL k 98) 1 64 = b0 at *
 generalize numB ep (hasL k 101) 0 1073741824 = b1 at *
 generalize numB tp (hasL k 116) lo 1073741824 = b2 at *
 generalize numB pa (hasL k 112) 0 255 = b3 at *
 generalize numB le (hasL k 108) 0 64 = b4 at *
 have hl : (k = 10 ∧ lo = 0) ∨ (¬ k = 10 ∧ lo = 1) := by
  by_cases hk : k = 10
  ·rw [if_pos hk] at hlo; exact .inl ⟨hk, hlo⟩
  ·rw [if_neg hk] at hlo; exact .inr ⟨hk, hlo⟩
 clear hlo
 have HQ : Hid (Nm ((w.alloc (.cells #[.int .i64 k, .int .i64 br, .int .i64 ep, .int .i64 tp, .int .i64 pa, .int .i64 le, .int .i64 cl, .int .i64 se, .int .i64 co, x9, x10, x11, x12, x13, x14, x15, x16, x17] 65)).alloc (.cells #[.string ⟨#[]⟩, .int .i64 0, .int .i64 0] 102)) w.heap.size (w.heap.size + 1) k br ep tp pa le cl se co) := Hd ⟨by simp, by simp, by simp, by simp, by simp, by simp, by simp, by simp, by simp, ⟨by simp, by simp, by simp, by simp, by simp, by simp⟩⟩
 have HB : Hid (Below w.heap.size w ((w.alloc (.cells #[.int .i64 k, .int .i64 br, .int .i64 ep, .int .i64 tp, .int .i64 pa, .int .i64 le, .int .i64 cl, .int .i64 se, .int .i64 co, x9, x10, x11, x12, x13, x14, x15, x16, x17] 65)).alloc (.cells #[.string ⟨#[]⟩, .int .i64 0, .int .i64 0] 102))) := Hd (((Below.refl _ _).alloc (Nat.le_refl _) _).alloc (by simp) _)
 obtain ⟨b5, hb5⟩ : ∃ b, numB cl (hasL k 97) 1 1073741824 = b := ⟨_, rfl⟩
 obtain ⟨b6, hb6⟩ : ∃ b, numB se (hasL k 97) 1 1073741824 = b := ⟨_, rfl⟩
 obtain ⟨b7, hb7⟩ : ∃ b, numB co (hasL k 97) 0 21 = b := ⟨_, rfl⟩
 rcases hl with ⟨rfl, rfl⟩ | ⟨hk, rfl⟩
 all_goals
  go_enter Tryz.func102, Tryz.ntmps102
  go_wp2_with fail
  generalize (w.alloc (.cells #[_, .int .i64 br, _, _, _, _, _, _, _, x9, x10, x11, x12, x13, x14, x15, x16, x17] 65)).alloc (.cells #[.string ⟨#[]⟩, .int .i64 0, .int .i64 0] 102) = X at *
  obtain ⟨c0, c1, c2, c3, c4, c5, c6, c7, c8, e0, e1, e2, f0, f1, f2⟩ := id HQ.out
  go_quiet (first | (go_at_call 103; exact Calls.quiet_of_same (has_any _ _ _)) | (go_at_call 132; first | exact Calls.quiet_of_same (HN0.out _)))
  replace HQ := Hd (HQ.out.drewN nq)
  replace HB := Hd (below_drewN HB.out nq)
  clear c0 c1 c2 c3 c4 c5 c6 c7 c8 e0 e1 e2 f0 f1 f2
  generalize X.drewN nq = X at *
  obtain ⟨c0, c1, c2, c3, c4, c5, c6, c7, c8, e0, e1, e2, f0, f1, f2⟩ := id HQ.out
  cases b0 with
  | false =>
   go_wp2_with fail
   have T := HQ.out.fr.set (.string ⟨#[98, 114, 111, 107, 101, 114]⟩) (.int .i64 br) (.int .i64 2)
   have hBf := bS HB.out (Nat.le_succ _) (.string ⟨#[98, 114, 111, 107, 101, 114]⟩) (.int .i64 br) (.int .i64 2)
   obtain ⟨WF, hWF⟩ : ∃ WF, WF = (((X.setCell ⟨w.heap.size + 1, 0, none⟩ (.string ⟨#[98, 114, 111, 107, 101, 114]⟩)).setCell ⟨w.heap.size + 1, 1, none⟩ (.int .i64 br)).setCell ⟨w.heap.size + 1, 2, none⟩ (.int .i64 2)) := ⟨_, rfl⟩
   rw [← hWF] at T hBf ⊢
   obtain ⟨t0, t1, t2, _, _, _⟩ := T
   exact bodyPost_ret (v := wr3 ⟨#[98, 114, 111, 107, 101, 114]⟩ br 2) (by simp [results, Tryz.results102, go_sem, wr3, t0, t1, t2]) rfl ⟨by first | rfl | simp [hb5, hb6, hb7], hBf⟩
  | true =>
   go_wp2_with fail
   go_quiet (first | (go_at_call 103; exact Calls.quiet_of_same (has_any _ _ _)) | (go_at_call 132; first | exact Calls.quiet_of_same (HN1.out _)))
   replace HQ := Hd (HQ.out.drewN nq)
   replace HB := Hd (below_drewN HB.out nq)
   clear c0 c1 c2 c3 c4 c5 c6 c7 c8 e0 e1 e2 f0 f1 f2
   generalize X.drewN nq = X at *
   obtain ⟨c0, c1, c2, c3, c4, c5, c6, c7, c8, e0, e1, e2, f0, f1, f2⟩ := id HQ.out
   cases b1 with
   | false =>
    go_wp2_with fail
    have T := HQ.out.fr.set (.string ⟨#[101, 112, 111, 99, 104]⟩) (.int .i64 ep) (.int .i64 2)
    have hBf := bS HB.out (Nat.le_succ _) (.string ⟨#[101, 112, 111, 99, 104]⟩) (.int .i64 ep) (.int .i64 2)
    obtain ⟨WF, hWF⟩ : ∃ WF, WF = (((X.setCell ⟨w.heap.size + 1, 0, none⟩ (.string ⟨#[101, 112, 111, 99, 104]⟩)).setCell ⟨w.heap.size + 1, 1, none⟩ (.int .i64 ep)).setCell ⟨w.heap.size + 1, 2, none⟩ (.int .i64 2)) := ⟨_, rfl⟩
    rw [← hWF] at T hBf ⊢
    obtain ⟨t0, t1, t2, _, _, _⟩ := T
    exact bodyPost_ret (v := wr3 ⟨#[101, 112, 111, 99, 104]⟩ ep 2) (by simp [results, Tryz.results102, go_sem, wr3, t0, t1, t2]) rfl ⟨by first | rfl | simp [hb5, hb6, hb7], hBf⟩
   | true =>
    go_wp2_with fail
    go_quiet (first | (go_at_call 103; exact Calls.quiet_of_same (has_any _ _ _)) | (go_at_call 132; first | exact Calls.quiet_of_same (HN2.out _)))
    replace HQ := Hd (HQ.out.drewN nq)
    replace HB := Hd (below_drewN HB.out nq)
    clear c0 c1 c2 c3 c4 c5 c6 c7 c8 e0 e1 e2 f0 f1 f2
    generalize X.drewN nq = X at *
    obtain ⟨c0, c1, c2, c3, c4, c5, c6, c7, c8, e0, e1, e2, f0, f1, f2⟩ := id HQ.out
    cases b2 with
    | false =>
     go_wp2_with fail
     have T := HQ.out.fr.set (.string ⟨#[116, 111, 112, 105, 99]⟩) (.int .i64 tp) (.int .i64 2)
     have hBf := bS HB.out (Nat.le_succ _) (.string ⟨#[116, 111, 112, 105, 99]⟩) (.int .i64 tp) (.int .i64 2)
     obtain ⟨WF, hWF⟩ : ∃ WF, WF = (((X.setCell ⟨w.heap.size + 1, 0, none⟩ (.string ⟨#[116, 111, 112, 105, 99]⟩)).setCell ⟨w.heap.size + 1, 1, none⟩ (.int .i64 tp)).setCell ⟨w.heap.size + 1, 2, none⟩ (.int .i64 2)) := ⟨_, rfl⟩
     rw [← hWF] at T hBf ⊢
     obtain ⟨t0, t1, t2, _, _, _⟩ := T
     exact bodyPost_ret (v := wr3 ⟨#[116, 111, 112, 105, 99]⟩ tp 2) (by simp [results, Tryz.results102, go_sem, wr3, t0, t1, t2]) rfl ⟨by first | rfl | simp [hb5, hb6, hb7], hBf⟩
    | true =>
     go_wp2_with fail
     go_quiet (first | (go_at_call 103; exact Calls.quiet_of_same (has_any _ _ _)) | (go_at_call 132; first | exact Calls.quiet_of_same (HN3.out _)))
     replace HQ := Hd (HQ.out.drewN nq)
     replace HB := Hd (below_drewN HB.out nq)
     clear c0 c1 c2 c3 c4 c5 c6 c7 c8 e0 e1 e2 f0 f1 f2
     generalize X.drewN nq = X at *
     obtain ⟨c0, c1, c2, c3, c4, c5, c6, c7, c8, e0, e1, e2, f0, f1, f2⟩ := id HQ.out
     cases b3 with
     | false =>
      go_wp2_with fail
      have T := HQ.out.fr.set (.string ⟨#[112, 97, 114, 116]⟩) (.int .i64 pa) (.int .i64 2)
      have hBf := bS HB.out (Nat.le_succ _) (.string ⟨#[112, 97, 114, 116]⟩) (.int .i64 pa) (.int .i64 2)
      obtain ⟨WF, hWF⟩ : ∃ WF, WF = (((X.setCell ⟨w.heap.size + 1, 0, none⟩ (.string ⟨#[112, 97, 114, 116]⟩)).setCell ⟨w.heap.size + 1, 1, none⟩ (.int .i64 pa)).setCell ⟨w.heap.size + 1, 2, none⟩ (.int .i64 2)) := ⟨_, rfl⟩
      rw [← hWF] at T hBf ⊢
      obtain ⟨t0, t1, t2, _, _, _⟩ := T
      exact bodyPost_ret (v := wr3 ⟨#[112, 97, 114, 116]⟩ pa 2) (by simp [results, Tryz.results102, go_sem, wr3, t0, t1, t2]) rfl ⟨by first | rfl | simp [hb5, hb6, hb7], hBf⟩
     | true =>
      go_wp2_with fail
      go_quiet (first | (go_at_call 103; exact Calls.quiet_of_same (has_any _ _ _)) | (go_at_call 132; first | exact Calls.quiet_of_same (HN4.out _)))
      replace HQ := Hd (HQ.out.drewN nq)
      replace HB := Hd (below_drewN HB.out nq)
      clear c0 c1 c2 c3 c4 c5 c6 c7 c8 e0 e1 e2 f0 f1 f2
      generalize X.drewN nq = X at *
      obtain ⟨c0, c1, c2, c3, c4, c5, c6, c7, c8, e0, e1, e2, f0, f1, f2⟩ := id HQ.out
      cases b4 with
      | false =>
       go_wp2_with fail
       have T := HQ.out.fr.set (.string ⟨#[108, 101, 97, 100, 101, 114]⟩) (.int .i64 le) (.int .i64 2)
       have hBf := bS HB.out (Nat.le_succ _) (.string ⟨#[108, 101, 97, 100, 101, 114]⟩) (.int .i64 le) (.int .i64 2)
       obtain ⟨WF, hWF⟩ : ∃ WF, WF = (((X.setCell ⟨w.heap.size + 1, 0, none⟩ (.string ⟨#[108, 101, 97, 100, 101, 114]⟩)).setCell ⟨w.heap.size + 1, 1, none⟩ (.int .i64 le)).setCell ⟨w.heap.size + 1, 2, none⟩ (.int .i64 2)) := ⟨_, rfl⟩
       rw [← hWF] at T hBf ⊢
       obtain ⟨t0, t1, t2, _, _, _⟩ := T
       exact bodyPost_ret (v := wr3 ⟨#[108, 101, 97, 100, 101, 114]⟩ le 2) (by simp [results, Tryz.results102, go_sem, wr3, t0, t1, t2]) rfl ⟨by first | rfl | simp [hb5, hb6, hb7], hBf⟩
      | true =>
       go_wp2_with fail
       rcases b5 with _ | _
       ·skip
        go_quiet (first | (go_at_call 103; exact Calls.quiet_of_same (has_any _ _ _)) | (go_at_call 132; exact Calls.quiet_of_same (num_any _ _ _ _ _)))
        replace HQ := Hd (HQ.out.drewN nq)
        replace HB := Hd (below_drewN HB.out nq)
        clear c0 c1 c2 c3 c4 c5 c6 c7 c8 e0 e1 e2 f0 f1 f2
        generalize X.drewN nq = X at *
        obtain ⟨c0, c1, c2, c3, c4, c5, c6, c7, c8, e0, e1, e2, f0, f1, f2⟩ := id HQ.out
        go_wp2_with fail
        have T := HQ.out.fr.set (.string ⟨#[97, 115, 107, 101, 114]⟩) (.int .i64 cl) (.int .i64 2)
        have hBf := bS HB.out (Nat.le_succ _) (.string ⟨#[97, 115, 107, 101, 114]⟩) (.int .i64 cl) (.int .i64 2)
        obtain ⟨WF, hWF⟩ : ∃ WF, WF = (((X.setCell ⟨w.heap.size + 1, 0, none⟩ (.string ⟨#[97, 115, 107, 101, 114]⟩)).setCell ⟨w.heap.size + 1, 1, none⟩ (.int .i64 cl)).setCell ⟨w.heap.size + 1, 2, none⟩ (.int .i64 2)) := ⟨_, rfl⟩
        rw [← hWF] at T hBf ⊢
        obtain ⟨t0, t1, t2, _, _, _⟩ := T
        exact bodyPost_ret (v := wr3 ⟨#[97, 115, 107, 101, 114]⟩ cl 2) (by simp [results, Tryz.results102, go_sem, wr3, t0, t1, t2]) rfl ⟨by first | rfl | simp [hb5, hb6, hb7], hBf⟩
       ·skip
        rcases b6 with _ | _
        ·skip
         go_quiet (first | (go_at_call 103; exact Calls.quiet_of_same (has_any _ _ _)) | (go_at_call 132; exact Calls.quiet_of_same (num_any _ _ _ _ _)))
         replace HQ := Hd (HQ.out.drewN nq)
         replace HB := Hd (below_drewN HB.out nq)
         clear c0 c1 c2 c3 c4 c5 c6 c7 c8 e0 e1 e2 f0 f1 f2
         generalize X.drewN nq = X at *
         obtain ⟨c0, c1, c2, c3, c4, c5, c6, c7, c8, e0, e1, e2, f0, f1, f2⟩ := id HQ.out
         go_wp2_with fail
         have T := HQ.out.fr.set (.string ⟨#[97, 115, 107, 101, 114]⟩) (.int .i64 cl) (.int .i64 2)
         have hBf := bS HB.out (Nat.le_succ _) (.string ⟨#[97, 115, 107, 101, 114]⟩) (.int .i64 cl) (.int .i64 2)
         obtain ⟨WF, hWF⟩ : ∃ WF, WF = (((X.setCell ⟨w.heap.size + 1, 0, none⟩ (.string ⟨#[97, 115, 107, 101, 114]⟩)).setCell ⟨w.heap.size + 1, 1, none⟩ (.int .i64 cl)).setCell ⟨w.heap.size + 1, 2, none⟩ (.int .i64 2)) := ⟨_, rfl⟩
         rw [← hWF] at T hBf ⊢
         obtain ⟨t0, t1, t2, _, _, _⟩ := T
         exact bodyPost_ret (v := wr3 ⟨#[97, 115, 107, 101, 114]⟩ cl 2) (by simp [results, Tryz.results102, go_sem, wr3, t0, t1, t2]) rfl ⟨by first | rfl | simp [hb5, hb6, hb7], hBf⟩
        ·skip
         rcases b7 with _ | _
         ·skip
          go_quiet (first | (go_at_call 103; exact Calls.quiet_of_same (has_any _ _ _)) | (go_at_call 132; exact Calls.quiet_of_same (num_any _ _ _ _ _)))
          replace HQ := Hd (HQ.out.drewN nq)
          replace HB := Hd (below_drewN HB.out nq)
          clear c0 c1 c2 c3 c4 c5 c6 c7 c8 e0 e1 e2 f0 f1 f2
          generalize X.drewN nq = X at *
          obtain ⟨c0, c1, c2, c3, c4, c5, c6, c7, c8, e0, e1, e2, f0, f1, f2⟩ := id HQ.out
          go_wp2_with fail
          have T := HQ.out.fr.set (.string ⟨#[97, 115, 107, 101, 114]⟩) (.int .i64 cl) (.int .i64 2)
          have hBf := bS HB.out (Nat.le_succ _) (.string ⟨#[97, 115, 107, 101, 114]⟩) (.int .i64 cl) (.int .i64 2)
          obtain ⟨WF, hWF⟩ : ∃ WF, WF = (((X.setCell ⟨w.heap.size + 1, 0, none⟩ (.string ⟨#[97, 115, 107, 101, 114]⟩)).setCell ⟨w.heap.size + 1, 1, none⟩ (.int .i64 cl)).setCell ⟨w.heap.size + 1, 2, none⟩ (.int .i64 2)) := ⟨_, rfl⟩
          rw [← hWF] at T hBf ⊢
          obtain ⟨t0, t1, t2, _, _, _⟩ := T
          exact bodyPost_ret (v := wr3 ⟨#[97, 115, 107, 101, 114]⟩ cl 2) (by simp [results, Tryz.results102, go_sem, wr3, t0, t1, t2]) rfl ⟨by first | rfl | simp [hb5, hb6, hb7], hBf⟩
         ·skip
          go_quiet (first | (go_at_call 103; exact Calls.quiet_of_same (has_any _ _ _)) | (go_at_call 132; exact Calls.quiet_of_same (num_any _ _ _ _ _)))
          replace HQ := Hd (HQ.out.drewN nq)
          replace HB := Hd (below_drewN HB.out nq)
          clear c0 c1 c2 c3 c4 c5 c6 c7 c8 e0 e1 e2 f0 f1 f2
          generalize X.drewN nq = X at *
          obtain ⟨c0, c1, c2, c3, c4, c5, c6, c7, c8, e0, e1, e2, f0, f1, f2⟩ := id HQ.out
          go_wp2_with fail
          have T := HQ.out.fr.set (.string ⟨#[]⟩) (.int .i64 0) (.int .i64 0)
          have hBf := bS HB.out (Nat.le_succ _) (.string ⟨#[]⟩) (.int .i64 0) (.int .i64 0)
          obtain ⟨WF, hWF⟩ : ∃ WF, WF = (((X.setCell ⟨w.heap.size + 1, 0, none⟩ (.string ⟨#[]⟩)).setCell ⟨w.heap.size + 1, 1, none⟩ (.int .i64 0)).setCell ⟨w.heap.size + 1, 2, none⟩ (.int .i64 0)) := ⟨_, rfl⟩
          rw [← hWF] at T hBf ⊢
          obtain ⟨t0, t1, t2, _, _, _⟩ := T
          exact bodyPost_ret (v := wr3 ⟨#[]⟩ 0 0) (by simp [results, Tryz.results102, go_sem, wr3, t0, t1, t2]) rfl ⟨by first | rfl | simp [hb5, hb6, hb7], hBf⟩
end Go.Proofs.YtlggjgapdpkhiaaGreat
