/-
  WHAT IS WRONG WITH A RECORD FIRST (castellanref05.Check).
-/
import Derived.Test.YtlggjgapdpkhiaaGreatJKRecBroa2
import Derived.Deep.MidRow
import Derived.Deep.DeepCutAuto
namespace Go.Proofs.YtlggjgapdpkhiaaGreat
open Go.RowKit
structure Rx (W : World) (p q : Nat) (k br ep tp pa le cl se co : Int) (fl : Bool) (nm ky va rk : List UInt8) (a14 a15 a16 a17 : Option Addr) (n14 n15 n16 n17 c14 c15 c16 c17 : Nat) : Prop where
 c0 : W.cell? ⟨p, 0, none⟩ = some (.int .i64 k)
 c1 : W.cell? ⟨p, 1, none⟩ = some (.int .i64 br)
 c2 : W.cell? ⟨p, 2, none⟩ = some (.int .i64 ep)
 c3 : W.cell? ⟨p, 3, none⟩ = some (.int .i64 tp)
 c4 : W.cell? ⟨p, 4, none⟩ = some (.int .i64 pa)
 c5 : W.cell? ⟨p, 5, none⟩ = some (.int .i64 le)
 c6 : W.cell? ⟨p, 6, none⟩ = some (.int .i64 cl)
 c7 : W.cell? ⟨p, 7, none⟩ = some (.int .i64 se)
 c8 : W.cell? ⟨p, 8, none⟩ = some (.int .i64 co)
 c9 : W.cell? ⟨p, 9, none⟩ = some (.bool fl)
 c10 : W.cell? ⟨p, 10, none⟩ = some (.string ⟨nm.toArray⟩)
 c11 : W.cell? ⟨p, 11, none⟩ = some (.string ⟨ky.toArray⟩)
 c12 : W.cell? ⟨p, 12, none⟩ = some (.string ⟨va.toArray⟩)
 c13 : W.cell? ⟨p, 13, none⟩ = some (.string ⟨rk.toArray⟩)
 c14 : W.cell? ⟨p, 14, none⟩ = some (.slice a14 n14 c14)
 c15 : W.cell? ⟨p, 15, none⟩ = some (.slice a15 n15 c15)
 c16 : W.cell? ⟨p, 16, none⟩ = some (.slice a16 n16 c16)
 c17 : W.cell? ⟨p, 17, none⟩ = some (.slice a17 n17 c17)
 fr : Fr3 W q (.string ⟨#[]⟩) (.int .i64 0) (.int .i64 0)
section
variable {W W' : World} {p q : Nat} {k br ep tp pa le cl se co : Int} {fl : Bool} {nm ky va rk : List UInt8} {a14 a15 a16 a17 : Option Addr} {n14 n15 n16 n17 c14 c15 c16 c17 : Nat}
theorem Rx.drewN (h : Rx W p q k br ep tp pa le cl se co fl nm ky va rk a14 a15 a16 a17 n14 n15 n16 n17 c14 c15 c16 c17) (n : Nat) : Rx (W.drewN n) p q k br ep tp pa le cl se co fl nm ky va rk a14 a15 a16 a17 n14 n15 n16 n17 c14 c15 c16 c17 :=
 ⟨h.c0, h.c1, h.c2, h.c3, h.c4, h.c5, h.c6, h.c7, h.c8, h.c9, h.c10, h.c11, h.c12, h.c13, h.c14, h.c15, h.c16, h.c17, ⟨h.fr.c0, h.fr.c1, h.fr.c2, h.fr.f0, h.fr.f1, h.fr.f2⟩⟩
theorem Rx.below (h : Rx W p q k br ep tp pa le cl se co fl nm ky va rk a14 a15 a16 a17 n14 n15 n16 n17 c14 c15 c16 c17) (hb : Below W.heap.size W W') : Rx W' p q k br ep tp pa le cl se co fl nm ky va rk a14 a15 a16 a17 n14 n15 n16 n17 c14 c15 c16 c17 :=
 have hl : p < W.heap.size := cB h.c0
 ⟨(hb.cell (p := ⟨p, 0, none⟩) hl).trans h.c0, (hb.cell (p := ⟨p, 1, none⟩) hl).trans h.c1, (hb.cell (p := ⟨p, 2, none⟩) hl).trans h.c2, (hb.cell (p := ⟨p, 3, none⟩) hl).trans h.c3, (hb.cell (p := ⟨p, 4, none⟩) hl).trans h.c4, (hb.cell (p := ⟨p, 5, none⟩) hl).trans h.c5, (hb.cell (p := ⟨p, 6, none⟩) hl).trans h.c6, (hb.cell (p := ⟨p, 7, none⟩) hl).trans h.c7, (hb.cell (p := ⟨p, 8, none⟩) hl).trans h.c8, (hb.cell (p := ⟨p, 9, none⟩) hl).trans h.c9, (hb.cell (p := ⟨p, 10, none⟩) hl).trans h.c10, (hb.cell (p := ⟨p, 11, none⟩) hl).trans h.c11, (hb.cell (p := ⟨p, 12, none⟩) hl).trans h.c12, (hb.cell (p := ⟨p, 13, none⟩) hl).trans h.c13, (hb.cell (p := ⟨p, 14, none⟩) hl).trans h.c14, (hb.cell (p := ⟨p, 15, none⟩) hl).trans h.c15, (hb.cell (p := ⟨p, 16, none⟩) hl).trans h.c16, (hb.cell (p := ⟨p, 17, none⟩) hl).trans h.c17, h.fr.below hb⟩
theorem Rx.range (h : Rx W p q k br ep tp pa le cl se co fl nm ky va rk a14 a15 a16 a17 n14 n15 n16 n17 c14 c15 c16 c17) : W.rangeAt p 0 [.int .i64 k, .int .i64 br, .int .i64 ep, .int .i64 tp, .int .i64 pa, .int .i64 le, .int .i64 cl, .int .i64 se, .int .i64 co, .bool fl, .string ⟨nm.toArray⟩, .string ⟨ky.toArray⟩, .string ⟨va.toArray⟩, .string ⟨rk.toArray⟩, .slice a14 n14 c14, .slice a15 n15 c15, .slice a16 n16 c16, .slice a17 n17 c17] := fun j v hv => by
 match j, hv with
 | 0, hv => cases hv; exact h.c0
 | 1, hv => cases hv; exact h.c1
 | 2, hv => cases hv; exact h.c2
 | 3, hv => cases hv; exact h.c3
 | 4, hv => cases hv; exact h.c4
 | 5, hv => cases hv; exact h.c5
 | 6, hv => cases hv; exact h.c6
 | 7, hv => cases hv; exact h.c7
 | 8, hv => cases hv; exact h.c8
 | 9, hv => cases hv; exact h.c9
 | 10, hv => cases hv; exact h.c10
 | 11, hv => cases hv; exact h.c11
 | 12, hv => cases hv; exact h.c12
 | 13, hv => cases hv; exact h.c13
 | 14, hv => cases hv; exact h.c14
 | 15, hv => cases hv; exact h.c15
 | 16, hv => cases hv; exact h.c16
 | 17, hv => cases hv; exact h.c17
 | _ + 18, hv => cases hv
theorem Rx.load {P : Program} (h : Rx W p q k br ep tp pa le cl se co fl nm ky va rk a14 a15 a16 a17 n14 n15 n16 n17 c14 c15 c16 c17) (ty : TypeId) (d : TypeDesc) (hu : P.underlying ty = some d) (hd : d.isRow = true) (hi : (P.info? ty).map (·.size) = some 18) : (Instr.loadAt ty (.pointer (some ⟨p, 0, none⟩))).run P W = .ok (.agg #[.int .i64 k, .int .i64 br, .int .i64 ep, .int .i64 tp, .int .i64 pa, .int .i64 le, .int .i64 cl, .int .i64 se, .int .i64 co, .bool fl, .string ⟨nm.toArray⟩, .string ⟨ky.toArray⟩, .string ⟨va.toArray⟩, .string ⟨rk.toArray⟩, .slice a14 n14 c14, .slice a15 n15 c15, .slice a16 n16 c16, .slice a17 n17 c17]) W :=
 run_loadAt_mid W p 0 ty _ d h.range hu hd hi
end
def checkR (k br ep tp pa le cl se co : Int) (fl : Bool) (nm ky va rk : List UInt8) (ids isr ad dr : List Int) : ByteArray × Int × Int :=
 if k < 1 ∨ 12 < k then (⟨#[107, 105, 110, 100]⟩, k, 5)
 else if (numsR k br ep tp pa le cl se co).2.2 ≠ 0 then numsR k br ep tp pa le cl se co
 else if fl = true ∧ hasL k 102 = false then (⟨#[102, 108, 97, 103]⟩, 1, 1)
 else if nameA nm (hasL k 110) = false ∨ nameA ky (hasL k 107) = false ∨ nameA rk (hasL k 114) = false then (⟨#[110, 97, 109, 101]⟩, nm.length, 1)
 else if 256 < va.length ∨ (va.isEmpty = false ∧ (fl = true ∨ hasL k 118 = false)) then (⟨#[118, 97, 108, 117, 101]⟩, va.length, 6)
 else if rowB ids (hasL k 105) = false ∨ rowB isr (hasL k 109) = false ∨ rowB ad (hasL k 120) = false ∨ rowB dr (hasL k 120) = false then (⟨#[114, 111, 119]⟩, ids.length, 18)
 else (⟨#[]⟩, 0, 0)
set_option maxRecDepth 100000 in
set_option maxHeartbeats 16000000 in
theorem check_any (k br ep tp pa le cl se co : Int) (fl : Bool) (nm ky va rk : List UInt8) (a14 a15 a16 a17 : Option Addr) (c14 c15 c16 c17 : Nat) (ids isr ad dr : List Int) (w : World) (hS1 : nm.length ≤ 1000) (hS2 : ky.length ≤ 1000) (hS3 : va.length ≤ 1000) (hS4 : rk.length ≤ 1000)
  (h14 : Sl ic w (.slice a14 ids.length c14) ids) (h15 : Sl ic w (.slice a15 isr.length c15) isr) (h16 : Sl ic w (.slice a16 ad.length c16) ad) (h17 : Sl ic w (.slice a17 dr.length c17) dr) :
  Calls Tryz.prog 64 #[.agg #[.int .i64 k, .int .i64 br, .int .i64 ep, .int .i64 tp, .int .i64 pa, .int .i64 le, .int .i64 cl, .int .i64 se, .int .i64 co, .bool fl, .string ⟨nm.toArray⟩, .string ⟨ky.toArray⟩, .string ⟨va.toArray⟩, .string ⟨rk.toArray⟩, .slice a14 ids.length c14, .slice a15 isr.length c15, .slice a16 ad.length c16, .slice a17 dr.length c17]] w fun e w' => e = .returned (wr3 (checkR k br ep tp pa le cl se co fl nm ky va rk ids isr ad dr).1 (checkR k br ep tp pa le cl se co fl nm ky va rk ids isr ad dr).2.1 (checkR k br ep tp pa le cl se co fl nm ky va rk ids isr ad dr).2.2) ∧ Below w.heap.size w w' := by
 obtain ⟨R, hR⟩ : ∃ R, R = checkR k br ep tp pa le cl se co fl nm ky va rk ids isr ad dr := ⟨_, rfl⟩
 rw [← hR]
 unfold checkR at hR
 have HR := Hd hR
 have H14 := Hd (fun W b (h : Below w.heap.size w W) => row_any _ ids b W (h14.below h))
 have H15 := Hd (fun W b (h : Below w.heap.size w W) => row_any _ isr b W (h15.below h))
 have H16 := Hd (fun W b (h : Below w.heap.size w W) => row_any _ ad b W (h16.below h))
 have H17 := Hd (fun W b (h : Below w.heap.size w W) => row_any _ dr b W (h17.below h))
 clear hR h14 h15 h16 h17
 have HQ : Hid (Rx ((w.alloc (.cells #[.int .i64 k, .int .i64 br, .int .i64 ep, .int .i64 tp, .int .i64 pa, .int .i64 le, .int .i64 cl, .int .i64 se, .int .i64 co, .bool fl, .string ⟨nm.toArray⟩, .string ⟨ky.toArray⟩, .string ⟨va.toArray⟩, .string ⟨rk.toArray⟩, .slice a14 ids.length c14, .slice a15 isr.length c15, .slice a16 ad.length c16, .slice a17 dr.length c17] 65)).alloc (.cells #[.string ⟨#[]⟩, .int .i64 0, .int .i64 0] 102)) w.heap.size (w.heap.size + 1) k br ep tp pa le cl se co fl nm ky va rk a14 a15 a16 a17 ids.length isr.length ad.length dr.length c14 c15 c16 c17) := Hd ⟨by simp, by simp, by simp, by simp, by simp, by simp, by simp, by simp, by simp, by simp, by simp, by simp, by simp, by simp, by simp, by simp, by simp, by simp, ⟨by simp, by simp, by simp, by simp, by simp, by simp⟩⟩
 have HB : Hid (Below w.heap.size w ((w.alloc (.cells #[.int .i64 k, .int .i64 br, .int .i64 ep, .int .i64 tp, .int .i64 pa, .int .i64 le, .int .i64 cl, .int .i64 se, .int .i64 co, .bool fl, .string ⟨nm.toArray⟩, .string ⟨ky.toArray⟩, .string ⟨va.toArray⟩, .string ⟨rk.toArray⟩, .slice a14 ids.length c14, .slice a15 isr.length c15, .slice a16 ad.length c16, .slice a17 dr.length c17] 65)).alloc (.cells #[.string ⟨#[]⟩, .int .i64 0, .int .i64 0] 102))) := Hd (((Below.refl _ _).alloc (Nat.le_refl _) _).alloc (by simp) _)
 go_enter Tryz.func64, Tryz.ntmps64
 go_upto_region 1 with fail
 generalize (w.alloc (.cells #[.int .i64 k, .int .i64 br, .int .i64 ep, .int .i64 tp, .int .i64 pa, .int .i64 le, .int .i64 cl, .int .i64 se, .int .i64 co, .bool fl, .string ⟨nm.toArray⟩, .string ⟨ky.toArray⟩, .string ⟨va.toArray⟩, .string ⟨rk.toArray⟩, .slice a14 ids.length c14, .slice a15 isr.length c15, .slice a16 ad.length c16, .slice a17 dr.length c17] 65)).alloc (.cells #[.string ⟨#[]⟩, .int .i64 0, .int .i64 0] 102) = X at HQ HB ⊢
 by_cases hk : k < 1 ∨ 12 < k
 ·have HR := Hd (HR.out.trans (if_pos hk))
  have hk' : k < 1 ∨ (¬ k < 1 ∧ 12 < k) := by omega
  obtain ⟨g0, g1, g2, g3, g4, g5, g6, g7, g8, g9, g10, g11, g12, g13, g14, g15, g16, g17, e0, e1, e2, f0, f1, f2⟩ := id HQ.out
  clear hk
  rcases hk' with hk | ⟨hk, hk'⟩
  all_goals
   go_wp2_with fail
   have T := HQ.out.fr.set (.string ⟨#[107, 105, 110, 100]⟩) (.int .i64 k) (.int .i64 5)
   have hBf := bS HB.out (Nat.le_succ _) (.string ⟨#[107, 105, 110, 100]⟩) (.int .i64 k) (.int .i64 5)
   obtain ⟨WF, hWF⟩ : ∃ WF, WF = (((X.setCell ⟨w.heap.size + 1, 0, none⟩ (.string ⟨#[107, 105, 110, 100]⟩)).setCell ⟨w.heap.size + 1, 1, none⟩ (.int .i64 k)).setCell ⟨w.heap.size + 1, 2, none⟩ (.int .i64 5)) := ⟨_, rfl⟩
   rw [← hWF] at T hBf ⊢
   obtain ⟨t0, t1, t2, _, _, _⟩ := T
   exact bodyPost_ret (v := wr3 ⟨#[107, 105, 110, 100]⟩ k 5) (by simp [results, Tryz.results64, go_sem, wr3, t0, t1, t2]) rfl ⟨by rw [HR.out], hBf⟩
 replace HR := Hd (HR.out.trans (if_neg hk))
 have g0 := HQ.out.c0
 have hk0 : ¬ k < 1 := by omega
 have hk1 : ¬ 12 < k := by omega
 clear hk
 go_upto_region 4 with fail
 obtain ⟨N, hN⟩ : ∃ N, N = numsR k br ep tp pa le cl se co := ⟨_, rfl⟩
 rw [← hN] at HR
 have HN := Hd (fun W x9 x10 x11 x12 x13 x14 x15 x16 x17 => numbers_any k br ep tp pa le cl se co x9 x10 x11 x12 x13 x14 x15 x16 x17 W)
 rw [← hN] at HN
 clear hN
 go_upto_region 5 with (first | (refine wpList_load_mid rfl _ _ rfl _ _ rfl _ _ HQ.out.range Tryz.underlying65 rfl (by kernel_rfl) ?_) | (go_at_call 102; refine (HN.out _ _ _ _ _ _ _ _ _ _).mono ?_; rintro e W ⟨rfl, hW⟩; unfold wr3))
 replace HQ := Hd ((HQ.out.below hW).below ((Below.refl _ _).alloc (Nat.le_refl _) (.cells #[.string N.1, .int .i64 N.2.1, .int .i64 N.2.2] 102)))
 replace HB := Hd ((HB.out.trans (hW.mono HB.out.size)).alloc (Nat.le_trans HB.out.size hW.size) (.cells #[.string N.1, .int .i64 N.2.1, .int .i64 N.2.2] 102))
 have n0 : (W.alloc (.cells #[.string N.1, .int .i64 N.2.1, .int .i64 N.2.2] 102)).cell? ⟨W.heap.size, 0, none⟩ = some (.string N.1) := by simp
 have n1 : (W.alloc (.cells #[.string N.1, .int .i64 N.2.1, .int .i64 N.2.2] 102)).cell? ⟨W.heap.size, 1, none⟩ = some (.int .i64 N.2.1) := by simp
 have n2 : (W.alloc (.cells #[.string N.1, .int .i64 N.2.1, .int .i64 N.2.2] 102)).cell? ⟨W.heap.size, 2, none⟩ = some (.int .i64 N.2.2) := by simp
 clear g0 hW
 generalize W.alloc (.cells #[.string N.1, .int .i64 N.2.1, .int .i64 N.2.2] 102) = Y at HQ HB n0 n1 n2 ⊢
 generalize W.heap.size = nW at n0 n1 n2 ⊢
 clear X
 obtain ⟨X, hX⟩ : ∃ X, X = Y := ⟨_, rfl⟩
 rw [← hX] at HQ HB n0 n1 n2 ⊢
 clear hX
 obtain ⟨g0, g1, g2, g3, g4, g5, g6, g7, g8, g9, g10, g11, g12, g13, g14, g15, g16, g17, e0, e1, e2, f0, f1, f2⟩ := id HQ.out
 by_cases hc : N.2.2 = 0
 case neg =>
  replace HR := Hd (HR.out.trans (if_pos hc))
  go_wp2_with fail
  have T := HQ.out.fr.set (.string N.1) (.int .i64 N.2.1) (.int .i64 N.2.2)
  have hBf := bS HB.out (Nat.le_succ _) (.string N.1) (.int .i64 N.2.1) (.int .i64 N.2.2)
  obtain ⟨WF, hWF⟩ : ∃ WF, WF = (((X.setCell ⟨w.heap.size + 1, 0, none⟩ (.string N.1)).setCell ⟨w.heap.size + 1, 1, none⟩ (.int .i64 N.2.1)).setCell ⟨w.heap.size + 1, 2, none⟩ (.int .i64 N.2.2)) := ⟨_, rfl⟩
  rw [← hWF] at T hBf ⊢
  obtain ⟨t0, t1, t2, _, _, _⟩ := T
  exact bodyPost_ret (v := wr3 N.1 N.2.1 N.2.2) (by simp [results, Tryz.results64, go_sem, wr3, t0, t1, t2]) rfl ⟨by rw [HR.out], hBf⟩
 replace HR := Hd (HR.out.trans (if_neg (fun h => h hc)))
 go_upto_region 7 with fail
 clear n0 n1 n2 hc
 obtain ⟨bf, hbf⟩ : ∃ b, hasL k 102 = b := ⟨_, rfl⟩
 obtain ⟨b1, hb1⟩ : ∃ b, nameA nm (hasL k 110) = b := ⟨_, rfl⟩
 obtain ⟨b2, hb2⟩ : ∃ b, nameA ky (hasL k 107) = b := ⟨_, rfl⟩
 obtain ⟨b3, hb3⟩ : ∃ b, nameA rk (hasL k 114) = b := ⟨_, rfl⟩
 obtain ⟨bv, hbv⟩ : ∃ b, hasL k 118 = b := ⟨_, rfl⟩
 obtain ⟨r1, hr1⟩ : ∃ b, rowB ids (hasL k 105) = b := ⟨_, rfl⟩
 obtain ⟨r2, hr2⟩ : ∃ b, rowB isr (hasL k 109) = b := ⟨_, rfl⟩
 obtain ⟨r3, hr3⟩ : ∃ b, rowB ad (hasL k 120) = b := ⟨_, rfl⟩
 obtain ⟨r4, hr4⟩ : ∃ b, rowB dr (hasL k 120) = b := ⟨_, rfl⟩
 rw [hbf, hb1, hb2, hb3, hbv, hr1, hr2, hr3, hr4] at HR
 cases fl with
 | true =>
  rcases bf with _ | _
  ·skip
   go_wp2_with (go_at_call 103; refine (has_any _ _ _).mono ?_; rintro e w1 ⟨rfl, hw1⟩; rw [hw1]; clear hw1 w1)
   have T := HQ.out.fr.set (.string ⟨#[102, 108, 97, 103]⟩) (.int .i64 1) (.int .i64 1)
   have hBf := bS HB.out (Nat.le_succ _) (.string ⟨#[102, 108, 97, 103]⟩) (.int .i64 1) (.int .i64 1)
   obtain ⟨WF, hWF⟩ : ∃ WF, WF = (((X.setCell ⟨w.heap.size + 1, 0, none⟩ (.string ⟨#[102, 108, 97, 103]⟩)).setCell ⟨w.heap.size + 1, 1, none⟩ (.int .i64 1)).setCell ⟨w.heap.size + 1, 2, none⟩ (.int .i64 1)) := ⟨_, rfl⟩
   rw [← hWF] at T hBf ⊢
   obtain ⟨t0, t1, t2, _, _, _⟩ := T
   have hR : R = ((⟨#[102, 108, 97, 103]⟩, 1, 1) : ByteArray × Int × Int) := HR.out.trans (by simp [*])
   exact bodyPost_ret (v := wr3 ⟨#[102, 108, 97, 103]⟩ 1 1) (by simp [results, Tryz.results64, go_sem, wr3, t0, t1, t2]) rfl ⟨by rw [hR], hBf⟩
  go_wp2_with (go_at_call 103; refine (has_any _ _ _).mono ?_; rintro e w1 ⟨rfl, hw1⟩; rw [hw1]; clear hw1 w1)
  rcases b1 with _ | _
  ·skip
   go_quiet (first | (go_at_call 103; exact Calls.quiet_of_same (has_any _ _ _)) | (go_at_call 104; exact Calls.quiet_of_same (namea_any _ _ _ (by assumption))) | (go_at_call 105; first | with_reducible exact Calls.quiet_qt (H14.out _ _ (below_drewN HB.out _)) | with_reducible exact Calls.quiet_qt (H15.out _ _ (below_drewN HB.out _)) | with_reducible exact Calls.quiet_qt (H16.out _ _ (below_drewN HB.out _)) | with_reducible exact Calls.quiet_qt (H17.out _ _ (below_drewN HB.out _))))
   replace HQ := Hd (HQ.out.drewN nq)
   replace HB := Hd (below_drewN HB.out nq)
   clear g0 g1 g2 g3 g4 g5 g6 g7 g8 g9 g10 g11 g12 g13 g14 g15 g16 g17 e0 e1 e2 f0 f1 f2
   generalize X.drewN nq = X at HQ HB ⊢
   obtain ⟨g0, g1, g2, g3, g4, g5, g6, g7, g8, g9, g10, g11, g12, g13, g14, g15, g16, g17, e0, e1, e2, f0, f1, f2⟩ := id HQ.out
   go_wp2_with fail
   have T := HQ.out.fr.set (.string ⟨#[110, 97, 109, 101]⟩) (.int .i64 nm.length) (.int .i64 1)
   have hBf := bS HB.out (Nat.le_succ _) (.string ⟨#[110, 97, 109, 101]⟩) (.int .i64 nm.length) (.int .i64 1)
   obtain ⟨WF, hWF⟩ : ∃ WF, WF = (((X.setCell ⟨w.heap.size + 1, 0, none⟩ (.string ⟨#[110, 97, 109, 101]⟩)).setCell ⟨w.heap.size + 1, 1, none⟩ (.int .i64 nm.length)).setCell ⟨w.heap.size + 1, 2, none⟩ (.int .i64 1)) := ⟨_, rfl⟩
   rw [← hWF] at T hBf ⊢
   obtain ⟨t0, t1, t2, _, _, _⟩ := T
   have hR : R = ((⟨#[110, 97, 109, 101]⟩, nm.length, 1) : ByteArray × Int × Int) := HR.out.trans (by simp [*])
   exact bodyPost_ret (v := wr3 ⟨#[110, 97, 109, 101]⟩ nm.length 1) (by simp [results, Tryz.results64, go_sem, wr3, t0, t1, t2]) rfl ⟨by rw [hR], hBf⟩
  rcases b2 with _ | _
  ·skip
   go_quiet (first | (go_at_call 103; exact Calls.quiet_of_same (has_any _ _ _)) | (go_at_call 104; exact Calls.quiet_of_same (namea_any _ _ _ (by assumption))) | (go_at_call 105; first | with_reducible exact Calls.quiet_qt (H14.out _ _ (below_drewN HB.out _)) | with_reducible exact Calls.quiet_qt (H15.out _ _ (below_drewN HB.out _)) | with_reducible exact Calls.quiet_qt (H16.out _ _ (below_drewN HB.out _)) | with_reducible exact Calls.quiet_qt (H17.out _ _ (below_drewN HB.out _))))
   replace HQ := Hd (HQ.out.drewN nq)
   replace HB := Hd (below_drewN HB.out nq)
   clear g0 g1 g2 g3 g4 g5 g6 g7 g8 g9 g10 g11 g12 g13 g14 g15 g16 g17 e0 e1 e2 f0 f1 f2
   generalize X.drewN nq = X at HQ HB ⊢
   obtain ⟨g0, g1, g2, g3, g4, g5, g6, g7, g8, g9, g10, g11, g12, g13, g14, g15, g16, g17, e0, e1, e2, f0, f1, f2⟩ := id HQ.out
   go_wp2_with fail
   have T := HQ.out.fr.set (.string ⟨#[110, 97, 109, 101]⟩) (.int .i64 nm.length) (.int .i64 1)
   have hBf := bS HB.out (Nat.le_succ _) (.string ⟨#[110, 97, 109, 101]⟩) (.int .i64 nm.length) (.int .i64 1)
   obtain ⟨WF, hWF⟩ : ∃ WF, WF = (((X.setCell ⟨w.heap.size + 1, 0, none⟩ (.string ⟨#[110, 97, 109, 101]⟩)).setCell ⟨w.heap.size + 1, 1, none⟩ (.int .i64 nm.length)).setCell ⟨w.heap.size + 1, 2, none⟩ (.int .i64 1)) := ⟨_, rfl⟩
   rw [← hWF] at T hBf ⊢
   obtain ⟨t0, t1, t2, _, _, _⟩ := T
   have hR : R = ((⟨#[110, 97, 109, 101]⟩, nm.length, 1) : ByteArray × Int × Int) := HR.out.trans (by simp [*])
   exact bodyPost_ret (v := wr3 ⟨#[110, 97, 109, 101]⟩ nm.length 1) (by simp [results, Tryz.results64, go_sem, wr3, t0, t1, t2]) rfl ⟨by rw [hR], hBf⟩
  rcases b3 with _ | _
  ·skip
   go_quiet (first | (go_at_call 103; exact Calls.quiet_of_same (has_any _ _ _)) | (go_at_call 104; exact Calls.quiet_of_same (namea_any _ _ _ (by assumption))) | (go_at_call 105; first | with_reducible exact Calls.quiet_qt (H14.out _ _ (below_drewN HB.out _)) | with_reducible exact Calls.quiet_qt (H15.out _ _ (below_drewN HB.out _)) | with_reducible exact Calls.quiet_qt (H16.out _ _ (below_drewN HB.out _)) | with_reducible exact Calls.quiet_qt (H17.out _ _ (below_drewN HB.out _))))
   replace HQ := Hd (HQ.out.drewN nq)
   replace HB := Hd (below_drewN HB.out nq)
   clear g0 g1 g2 g3 g4 g5 g6 g7 g8 g9 g10 g11 g12 g13 g14 g15 g16 g17 e0 e1 e2 f0 f1 f2
   generalize X.drewN nq = X at HQ HB ⊢
   obtain ⟨g0, g1, g2, g3, g4, g5, g6, g7, g8, g9, g10, g11, g12, g13, g14, g15, g16, g17, e0, e1, e2, f0, f1, f2⟩ := id HQ.out
   go_wp2_with fail
   have T := HQ.out.fr.set (.string ⟨#[110, 97, 109, 101]⟩) (.int .i64 nm.length) (.int .i64 1)
   have hBf := bS HB.out (Nat.le_succ _) (.string ⟨#[110, 97, 109, 101]⟩) (.int .i64 nm.length) (.int .i64 1)
   obtain ⟨WF, hWF⟩ : ∃ WF, WF = (((X.setCell ⟨w.heap.size + 1, 0, none⟩ (.string ⟨#[110, 97, 109, 101]⟩)).setCell ⟨w.heap.size + 1, 1, none⟩ (.int .i64 nm.length)).setCell ⟨w.heap.size + 1, 2, none⟩ (.int .i64 1)) := ⟨_, rfl⟩
   rw [← hWF] at T hBf ⊢
   obtain ⟨t0, t1, t2, _, _, _⟩ := T
   have hR : R = ((⟨#[110, 97, 109, 101]⟩, nm.length, 1) : ByteArray × Int × Int) := HR.out.trans (by simp [*])
   exact bodyPost_ret (v := wr3 ⟨#[110, 97, 109, 101]⟩ nm.length 1) (by simp [results, Tryz.results64, go_sem, wr3, t0, t1, t2]) rfl ⟨by rw [hR], hBf⟩
  go_quiet (first | (go_at_call 103; exact Calls.quiet_of_same (has_any _ _ _)) | (go_at_call 104; exact Calls.quiet_of_same (namea_any _ _ _ (by assumption))) | (go_at_call 105; first | with_reducible exact Calls.quiet_qt (H14.out _ _ (below_drewN HB.out _)) | with_reducible exact Calls.quiet_qt (H15.out _ _ (below_drewN HB.out _)) | with_reducible exact Calls.quiet_qt (H16.out _ _ (below_drewN HB.out _)) | with_reducible exact Calls.quiet_qt (H17.out _ _ (below_drewN HB.out _))))
  replace HQ := Hd (HQ.out.drewN nq)
  replace HB := Hd (below_drewN HB.out nq)
  clear g0 g1 g2 g3 g4 g5 g6 g7 g8 g9 g10 g11 g12 g13 g14 g15 g16 g17 e0 e1 e2 f0 f1 f2
  generalize X.drewN nq = X at HQ HB ⊢
  obtain ⟨g0, g1, g2, g3, g4, g5, g6, g7, g8, g9, g10, g11, g12, g13, g14, g15, g16, g17, e0, e1, e2, f0, f1, f2⟩ := id HQ.out
  by_cases hv : 256 < va.length
  ·skip
   go_wp2_with fail
   have T := HQ.out.fr.set (.string ⟨#[118, 97, 108, 117, 101]⟩) (.int .i64 va.length) (.int .i64 6)
   have hBf := bS HB.out (Nat.le_succ _) (.string ⟨#[118, 97, 108, 117, 101]⟩) (.int .i64 va.length) (.int .i64 6)
   obtain ⟨WF, hWF⟩ : ∃ WF, WF = (((X.setCell ⟨w.heap.size + 1, 0, none⟩ (.string ⟨#[118, 97, 108, 117, 101]⟩)).setCell ⟨w.heap.size + 1, 1, none⟩ (.int .i64 va.length)).setCell ⟨w.heap.size + 1, 2, none⟩ (.int .i64 6)) := ⟨_, rfl⟩
   rw [← hWF] at T hBf ⊢
   obtain ⟨t0, t1, t2, _, _, _⟩ := T
   have hR : R = ((⟨#[118, 97, 108, 117, 101]⟩, va.length, 6) : ByteArray × Int × Int) := HR.out.trans (by simp [*])
   exact bodyPost_ret (v := wr3 ⟨#[118, 97, 108, 117, 101]⟩ va.length 6) (by simp [results, Tryz.results64, go_sem, wr3, t0, t1, t2]) rfl ⟨by rw [hR], hBf⟩
  cases va with
  | nil =>
   go_wp2_with fail
   rcases r1 with _ | _
   ·skip
    go_quiet (first | (go_at_call 103; exact Calls.quiet_of_same (has_any _ _ _)) | (go_at_call 104; exact Calls.quiet_of_same (namea_any _ _ _ (by assumption))) | (go_at_call 105; first | with_reducible exact Calls.quiet_qt (H14.out _ _ (below_drewN HB.out _)) | with_reducible exact Calls.quiet_qt (H15.out _ _ (below_drewN HB.out _)) | with_reducible exact Calls.quiet_qt (H16.out _ _ (below_drewN HB.out _)) | with_reducible exact Calls.quiet_qt (H17.out _ _ (below_drewN HB.out _))))
    replace HQ := Hd (HQ.out.drewN nq)
    replace HB := Hd (below_drewN HB.out nq)
    clear g0 g1 g2 g3 g4 g5 g6 g7 g8 g9 g10 g11 g12 g13 g14 g15 g16 g17 e0 e1 e2 f0 f1 f2
    generalize X.drewN nq = X at HQ HB ⊢
    obtain ⟨g0, g1, g2, g3, g4, g5, g6, g7, g8, g9, g10, g11, g12, g13, g14, g15, g16, g17, e0, e1, e2, f0, f1, f2⟩ := id HQ.out
    go_wp2_with fail
    have T := HQ.out.fr.set (.string ⟨#[114, 111, 119]⟩) (.int .i64 ids.length) (.int .i64 18)
    have hBf := bS HB.out (Nat.le_succ _) (.string ⟨#[114, 111, 119]⟩) (.int .i64 ids.length) (.int .i64 18)
    obtain ⟨WF, hWF⟩ : ∃ WF, WF = (((X.setCell ⟨w.heap.size + 1, 0, none⟩ (.string ⟨#[114, 111, 119]⟩)).setCell ⟨w.heap.size + 1, 1, none⟩ (.int .i64 ids.length)).setCell ⟨w.heap.size + 1, 2, none⟩ (.int .i64 18)) := ⟨_, rfl⟩
    rw [← hWF] at T hBf ⊢
    obtain ⟨t0, t1, t2, _, _, _⟩ := T
    have hR : R = ((⟨#[114, 111, 119]⟩, ids.length, 18) : ByteArray × Int × Int) := HR.out.trans (by simp [*])
    exact bodyPost_ret (v := wr3 ⟨#[114, 111, 119]⟩ ids.length 18) (by simp [results, Tryz.results64, go_sem, wr3, t0, t1, t2]) rfl ⟨by rw [hR], hBf⟩
   rcases r2 with _ | _
   ·skip
    go_quiet (first | (go_at_call 103; exact Calls.quiet_of_same (has_any _ _ _)) | (go_at_call 104; exact Calls.quiet_of_same (namea_any _ _ _ (by assumption))) | (go_at_call 105; first | with_reducible exact Calls.quiet_qt (H14.out _ _ (below_drewN HB.out _)) | with_reducible exact Calls.quiet_qt (H15.out _ _ (below_drewN HB.out _)) | with_reducible exact Calls.quiet_qt (H16.out _ _ (below_drewN HB.out _)) | with_reducible exact Calls.quiet_qt (H17.out _ _ (below_drewN HB.out _))))
    replace HQ := Hd (HQ.out.drewN nq)
    replace HB := Hd (below_drewN HB.out nq)
    clear g0 g1 g2 g3 g4 g5 g6 g7 g8 g9 g10 g11 g12 g13 g14 g15 g16 g17 e0 e1 e2 f0 f1 f2
    generalize X.drewN nq = X at HQ HB ⊢
    obtain ⟨g0, g1, g2, g3, g4, g5, g6, g7, g8, g9, g10, g11, g12, g13, g14, g15, g16, g17, e0, e1, e2, f0, f1, f2⟩ := id HQ.out
    go_wp2_with fail
    have T := HQ.out.fr.set (.string ⟨#[114, 111, 119]⟩) (.int .i64 ids.length) (.int .i64 18)
    have hBf := bS HB.out (Nat.le_succ _) (.string ⟨#[114, 111, 119]⟩) (.int .i64 ids.length) (.int .i64 18)
    obtain ⟨WF, hWF⟩ : ∃ WF, WF = (((X.setCell ⟨w.heap.size + 1, 0, none⟩ (.string ⟨#[114, 111, 119]⟩)).setCell ⟨w.heap.size + 1, 1, none⟩ (.int .i64 ids.length)).setCell ⟨w.heap.size + 1, 2, none⟩ (.int .i64 18)) := ⟨_, rfl⟩
    rw [← hWF] at T hBf ⊢
    obtain ⟨t0, t1, t2, _, _, _⟩ := T
    have hR : R = ((⟨#[114, 111, 119]⟩, ids.length, 18) : ByteArray × Int × Int) := HR.out.trans (by simp [*])
    exact bodyPost_ret (v := wr3 ⟨#[114, 111, 119]⟩ ids.length 18) (by simp [results, Tryz.results64, go_sem, wr3, t0, t1, t2]) rfl ⟨by rw [hR], hBf⟩
   rcases r3 with _ | _
   ·skip
    go_quiet (first | (go_at_call 103; exact Calls.quiet_of_same (has_any _ _ _)) | (go_at_call 104; exact Calls.quiet_of_same (namea_any _ _ _ (by assumption))) | (go_at_call 105; first | with_reducible exact Calls.quiet_qt (H14.out _ _ (below_drewN HB.out _)) | with_reducible exact Calls.quiet_qt (H15.out _ _ (below_drewN HB.out _)) | with_reducible exact Calls.quiet_qt (H16.out _ _ (below_drewN HB.out _)) | with_reducible exact Calls.quiet_qt (H17.out _ _ (below_drewN HB.out _))))
    replace HQ := Hd (HQ.out.drewN nq)
    replace HB := Hd (below_drewN HB.out nq)
    clear g0 g1 g2 g3 g4 g5 g6 g7 g8 g9 g10 g11 g12 g13 g14 g15 g16 g17 e0 e1 e2 f0 f1 f2
    generalize X.drewN nq = X at HQ HB ⊢
    obtain ⟨g0, g1, g2, g3, g4, g5, g6, g7, g8, g9, g10, g11, g12, g13, g14, g15, g16, g17, e0, e1, e2, f0, f1, f2⟩ := id HQ.out
    go_wp2_with fail
    have T := HQ.out.fr.set (.string ⟨#[114, 111, 119]⟩) (.int .i64 ids.length) (.int .i64 18)
    have hBf := bS HB.out (Nat.le_succ _) (.string ⟨#[114, 111, 119]⟩) (.int .i64 ids.length) (.int .i64 18)
    obtain ⟨WF, hWF⟩ : ∃ WF, WF = (((X.setCell ⟨w.heap.size + 1, 0, none⟩ (.string ⟨#[114, 111, 119]⟩)).setCell ⟨w.heap.size + 1, 1, none⟩ (.int .i64 ids.length)).setCell ⟨w.heap.size + 1, 2, none⟩ (.int .i64 18)) := ⟨_, rfl⟩
    rw [← hWF] at T hBf ⊢
    obtain ⟨t0, t1, t2, _, _, _⟩ := T
    have hR : R = ((⟨#[114, 111, 119]⟩, ids.length, 18) : ByteArray × Int × Int) := HR.out.trans (by simp [*])
    exact bodyPost_ret (v := wr3 ⟨#[114, 111, 119]⟩ ids.length 18) (by simp [results, Tryz.results64, go_sem, wr3, t0, t1, t2]) rfl ⟨by rw [hR], hBf⟩
   rcases r4 with _ | _
   ·skip
    go_quiet (first | (go_at_call 103; exact Calls.quiet_of_same (has_any _ _ _)) | (go_at_call 104; exact Calls.quiet_of_same (namea_any _ _ _ (by assumption))) | (go_at_call 105; first | with_reducible exact Calls.quiet_qt (H14.out _ _ (below_drewN HB.out _)) | with_reducible exact Calls.quiet_qt (H15.out _ _ (below_drewN HB.out _)) | with_reducible exact Calls.quiet_qt (H16.out _ _ (below_drewN HB.out _)) | with_reducible exact Calls.quiet_qt (H17.out _ _ (below_drewN HB.out _))))
    replace HQ := Hd (HQ.out.drewN nq)
    replace HB := Hd (below_drewN HB.out nq)
    clear g0 g1 g2 g3 g4 g5 g6 g7 g8 g9 g10 g11 g12 g13 g14 g15 g16 g17 e0 e1 e2 f0 f1 f2
    generalize X.drewN nq = X at HQ HB ⊢
    obtain ⟨g0, g1, g2, g3, g4, g5, g6, g7, g8, g9, g10, g11, g12, g13, g14, g15, g16, g17, e0, e1, e2, f0, f1, f2⟩ := id HQ.out
    go_wp2_with fail
    have T := HQ.out.fr.set (.string ⟨#[114, 111, 119]⟩) (.int .i64 ids.length) (.int .i64 18)
    have hBf := bS HB.out (Nat.le_succ _) (.string ⟨#[114, 111, 119]⟩) (.int .i64 ids.length) (.int .i64 18)
    obtain ⟨WF, hWF⟩ : ∃ WF, WF = (((X.setCell ⟨w.heap.size + 1, 0, none⟩ (.string ⟨#[114, 111, 119]⟩)).setCell ⟨w.heap.size + 1, 1, none⟩ (.int .i64 ids.length)).setCell ⟨w.heap.size + 1, 2, none⟩ (.int .i64 18)) := ⟨_, rfl⟩
    rw [← hWF] at T hBf ⊢
    obtain ⟨t0, t1, t2, _, _, _⟩ := T
    have hR : R = ((⟨#[114, 111, 119]⟩, ids.length, 18) : ByteArray × Int × Int) := HR.out.trans (by simp [*])
    exact bodyPost_ret (v := wr3 ⟨#[114, 111, 119]⟩ ids.length 18) (by simp [results, Tryz.results64, go_sem, wr3, t0, t1, t2]) rfl ⟨by rw [hR], hBf⟩
   go_quiet (first | (go_at_call 103; exact Calls.quiet_of_same (has_any _ _ _)) | (go_at_call 104; exact Calls.quiet_of_same (namea_any _ _ _ (by assumption))) | (go_at_call 105; first | with_reducible exact Calls.quiet_qt (H14.out _ _ (below_drewN HB.out _)) | with_reducible exact Calls.quiet_qt (H15.out _ _ (below_drewN HB.out _)) | with_reducible exact Calls.quiet_qt (H16.out _ _ (below_drewN HB.out _)) | with_reducible exact Calls.quiet_qt (H17.out _ _ (below_drewN HB.out _))))
   replace HQ := Hd (HQ.out.drewN nq)
   replace HB := Hd (below_drewN HB.out nq)
   clear g0 g1 g2 g3 g4 g5 g6 g7 g8 g9 g10 g11 g12 g13 g14 g15 g16 g17 e0 e1 e2 f0 f1 f2
   generalize X.drewN nq = X at HQ HB ⊢
   obtain ⟨g0, g1, g2, g3, g4, g5, g6, g7, g8, g9, g10, g11, g12, g13, g14, g15, g16, g17, e0, e1, e2, f0, f1, f2⟩ := id HQ.out
   go_wp2_with fail
   have T := HQ.out.fr.set (.string ⟨#[]⟩) (.int .i64 0) (.int .i64 0)
   have hBf := bS HB.out (Nat.le_succ _) (.string ⟨#[]⟩) (.int .i64 0) (.int .i64 0)
   obtain ⟨WF, hWF⟩ : ∃ WF, WF = (((X.setCell ⟨w.heap.size + 1, 0, none⟩ (.string ⟨#[]⟩)).setCell ⟨w.heap.size + 1, 1, none⟩ (.int .i64 0)).setCell ⟨w.heap.size + 1, 2, none⟩ (.int .i64 0)) := ⟨_, rfl⟩
   rw [← hWF] at T hBf ⊢
   obtain ⟨t0, t1, t2, _, _, _⟩ := T
   have hR : R = ((⟨#[]⟩, 0, 0) : ByteArray × Int × Int) := HR.out.trans (by simp [*])
   exact bodyPost_ret (v := wr3 ⟨#[]⟩ 0 0) (by simp [results, Tryz.results64, go_sem, wr3, t0, t1, t2]) rfl ⟨by rw [hR], hBf⟩
  | cons c t =>
   have hv9 : t.length ≤ 255 := by
    have := hv
    simp only [List.length_cons] at this
    omega
   go_wp2_with fail
   have T := HQ.out.fr.set (.string ⟨#[118, 97, 108, 117, 101]⟩) (.int .i64 ((t.length : Int) + 1)) (.int .i64 6)
   have hBf := bS HB.out (Nat.le_succ _) (.string ⟨#[118, 97, 108, 117, 101]⟩) (.int .i64 ((t.length : Int) + 1)) (.int .i64 6)
   obtain ⟨WF, hWF⟩ : ∃ WF, WF = (((X.setCell ⟨w.heap.size + 1, 0, none⟩ (.string ⟨#[118, 97, 108, 117, 101]⟩)).setCell ⟨w.heap.size + 1, 1, none⟩ (.int .i64 ((t.length : Int) + 1))).setCell ⟨w.heap.size + 1, 2, none⟩ (.int .i64 6)) := ⟨_, rfl⟩
   rw [← hWF] at T hBf ⊢
   obtain ⟨t0, t1, t2, _, _, _⟩ := T
   have hR : R = ((⟨#[118, 97, 108, 117, 101]⟩, ((t.length : Int) + 1), 6) : ByteArray × Int × Int) := HR.out.trans (by simp [*])
   exact bodyPost_ret (v := wr3 ⟨#[118, 97, 108, 117, 101]⟩ ((t.length : Int) + 1) 6) (by simp [results, Tryz.results64, go_sem, wr3, t0, t1, t2]) rfl ⟨by rw [hR], hBf⟩
 | false =>
  go_wp2_with fail
  rcases b1 with _ | _
  ·skip
   go_quiet (first | (go_at_call 103; exact Calls.quiet_of_same (has_any _ _ _)) | (go_at_call 104; exact Calls.quiet_of_same (namea_any _ _ _ (by assumption))) | (go_at_call 105; first | with_reducible exact Calls.quiet_qt (H14.out _ _ (below_drewN HB.out _)) | with_reducible exact Calls.quiet_qt (H15.out _ _ (below_drewN HB.out _)) | with_reducible exact Calls.quiet_qt (H16.out _ _ (below_drewN HB.out _)) | with_reducible exact Calls.quiet_qt (H17.out _ _ (below_drewN HB.out _))))
   replace HQ := Hd (HQ.out.drewN nq)
   replace HB := Hd (below_drewN HB.out nq)
   clear g0 g1 g2 g3 g4 g5 g6 g7 g8 g9 g10 g11 g12 g13 g14 g15 g16 g17 e0 e1 e2 f0 f1 f2
   generalize X.drewN nq = X at HQ HB ⊢
   obtain ⟨g0, g1, g2, g3, g4, g5, g6, g7, g8, g9, g10, g11, g12, g13, g14, g15, g16, g17, e0, e1, e2, f0, f1, f2⟩ := id HQ.out
   go_wp2_with fail
   have T := HQ.out.fr.set (.string ⟨#[110, 97, 109, 101]⟩) (.int .i64 nm.length) (.int .i64 1)
   have hBf := bS HB.out (Nat.le_succ _) (.string ⟨#[110, 97, 109, 101]⟩) (.int .i64 nm.length) (.int .i64 1)
   obtain ⟨WF, hWF⟩ : ∃ WF, WF = (((X.setCell ⟨w.heap.size + 1, 0, none⟩ (.string ⟨#[110, 97, 109, 101]⟩)).setCell ⟨w.heap.size + 1, 1, none⟩ (.int .i64 nm.length)).setCell ⟨w.heap.size + 1, 2, none⟩ (.int .i64 1)) := ⟨_, rfl⟩
   rw [← hWF] at T hBf ⊢
   obtain ⟨t0, t1, t2, _, _, _⟩ := T
   have hR : R = ((⟨#[110, 97, 109, 101]⟩, nm.length, 1) : ByteArray × Int × Int) := HR.out.trans (by simp [*])
   exact bodyPost_ret (v := wr3 ⟨#[110, 97, 109, 101]⟩ nm.length 1) (by simp [results, Tryz.results64, go_sem, wr3, t0, t1, t2]) rfl ⟨by rw [hR], hBf⟩
  rcases b2 with _ | _
  ·skip
   go_quiet (first | (go_at_call 103; exact Calls.quiet_of_same (has_any _ _ _)) | (go_at_call 104; exact Calls.quiet_of_same (namea_any _ _ _ (by assumption))) | (go_at_call 105; first | with_reducible exact Calls.quiet_qt (H14.out _ _ (below_drewN HB.out _)) | with_reducible exact Calls.quiet_qt (H15.out _ _ (below_drewN HB.out _)) | with_reducible exact Calls.quiet_qt (H16.out _ _ (below_drewN HB.out _)) | with_reducible exact Calls.quiet_qt (H17.out _ _ (below_drewN HB.out _))))
   replace HQ := Hd (HQ.out.drewN nq)
   replace HB := Hd (below_drewN HB.out nq)
   clear g0 g1 g2 g3 g4 g5 g6 g7 g8 g9 g10 g11 g12 g13 g14 g15 g16 g17 e0 e1 e2 f0 f1 f2
   generalize X.drewN nq = X at HQ HB ⊢
   obtain ⟨g0, g1, g2, g3, g4, g5, g6, g7, g8, g9, g10, g11, g12, g13, g14, g15, g16, g17, e0, e1, e2, f0, f1, f2⟩ := id HQ.out
   go_wp2_with fail
   have T := HQ.out.fr.set (.string ⟨#[110, 97, 109, 101]⟩) (.int .i64 nm.length) (.int .i64 1)
   have hBf := bS HB.out (Nat.le_succ _) (.string ⟨#[110, 97, 109, 101]⟩) (.int .i64 nm.length) (.int .i64 1)
   obtain ⟨WF, hWF⟩ : ∃ WF, WF = (((X.setCell ⟨w.heap.size + 1, 0, none⟩ (.string ⟨#[110, 97, 109, 101]⟩)).setCell ⟨w.heap.size + 1, 1, none⟩ (.int .i64 nm.length)).setCell ⟨w.heap.size + 1, 2, none⟩ (.int .i64 1)) := ⟨_, rfl⟩
   rw [← hWF] at T hBf ⊢
   obtain ⟨t0, t1, t2, _, _, _⟩ := T
   have hR : R = ((⟨#[110, 97, 109, 101]⟩, nm.length, 1) : ByteArray × Int × Int) := HR.out.trans (by simp [*])
   exact bodyPost_ret (v := wr3 ⟨#[110, 97, 109, 101]⟩ nm.length 1) (by simp [results, Tryz.results64, go_sem, wr3, t0, t1, t2]) rfl ⟨by rw [hR], hBf⟩
  rcases b3 with _ | _
  ·skip
   go_quiet (first | (go_at_call 103; exact Calls.quiet_of_same (has_any _ _ _)) | (go_at_call 104; exact Calls.quiet_of_same (namea_any _ _ _ (by assumption))) | (go_at_call 105; first | with_reducible exact Calls.quiet_qt (H14.out _ _ (below_drewN HB.out _)) | with_reducible exact Calls.quiet_qt (H15.out _ _ (below_drewN HB.out _)) | with_reducible exact Calls.quiet_qt (H16.out _ _ (below_drewN HB.out _)) | with_reducible exact Calls.quiet_qt (H17.out _ _ (below_drewN HB.out _))))
   replace HQ := Hd (HQ.out.drewN nq)
   replace HB := Hd (below_drewN HB.out nq)
   clear g0 g1 g2 g3 g4 g5 g6 g7 g8 g9 g10 g11 g12 g13 g14 g15 g16 g17 e0 e1 e2 f0 f1 f2
   generalize X.drewN nq = X at HQ HB ⊢
   obtain ⟨g0, g1, g2, g3, g4, g5, g6, g7, g8, g9, g10, g11, g12, g13, g14, g15, g16, g17, e0, e1, e2, f0, f1, f2⟩ := id HQ.out
   go_wp2_with fail
   have T := HQ.out.fr.set (.string ⟨#[110, 97, 109, 101]⟩) (.int .i64 nm.length) (.int .i64 1)
   have hBf := bS HB.out (Nat.le_succ _) (.string ⟨#[110, 97, 109, 101]⟩) (.int .i64 nm.length) (.int .i64 1)
   obtain ⟨WF, hWF⟩ : ∃ WF, WF = (((X.setCell ⟨w.heap.size + 1, 0, none⟩ (.string ⟨#[110, 97, 109, 101]⟩)).setCell ⟨w.heap.size + 1, 1, none⟩ (.int .i64 nm.length)).setCell ⟨w.heap.size + 1, 2, none⟩ (.int .i64 1)) := ⟨_, rfl⟩
   rw [← hWF] at T hBf ⊢
   obtain ⟨t0, t1, t2, _, _, _⟩ := T
   have hR : R = ((⟨#[110, 97, 109, 101]⟩, nm.length, 1) : ByteArray × Int × Int) := HR.out.trans (by simp [*])
   exact bodyPost_ret (v := wr3 ⟨#[110, 97, 109, 101]⟩ nm.length 1) (by simp [results, Tryz.results64, go_sem, wr3, t0, t1, t2]) rfl ⟨by rw [hR], hBf⟩
  go_quiet (first | (go_at_call 103; exact Calls.quiet_of_same (has_any _ _ _)) | (go_at_call 104; exact Calls.quiet_of_same (namea_any _ _ _ (by assumption))) | (go_at_call 105; first | with_reducible exact Calls.quiet_qt (H14.out _ _ (below_drewN HB.out _)) | with_reducible exact Calls.quiet_qt (H15.out _ _ (below_drewN HB.out _)) | with_reducible exact Calls.quiet_qt (H16.out _ _ (below_drewN HB.out _)) | with_reducible exact Calls.quiet_qt (H17.out _ _ (below_drewN HB.out _))))
  replace HQ := Hd (HQ.out.drewN nq)
  replace HB := Hd (below_drewN HB.out nq)
  clear g0 g1 g2 g3 g4 g5 g6 g7 g8 g9 g10 g11 g12 g13 g14 g15 g16 g17 e0 e1 e2 f0 f1 f2
  generalize X.drewN nq = X at HQ HB ⊢
  obtain ⟨g0, g1, g2, g3, g4, g5, g6, g7, g8, g9, g10, g11, g12, g13, g14, g15, g16, g17, e0, e1, e2, f0, f1, f2⟩ := id HQ.out
  by_cases hv : 256 < va.length
  ·skip
   go_wp2_with fail
   have T := HQ.out.fr.set (.string ⟨#[118, 97, 108, 117, 101]⟩) (.int .i64 va.length) (.int .i64 6)
   have hBf := bS HB.out (Nat.le_succ _) (.string ⟨#[118, 97, 108, 117, 101]⟩) (.int .i64 va.length) (.int .i64 6)
   obtain ⟨WF, hWF⟩ : ∃ WF, WF = (((X.setCell ⟨w.heap.size + 1, 0, none⟩ (.string ⟨#[118, 97, 108, 117, 101]⟩)).setCell ⟨w.heap.size + 1, 1, none⟩ (.int .i64 va.length)).setCell ⟨w.heap.size + 1, 2, none⟩ (.int .i64 6)) := ⟨_, rfl⟩
   rw [← hWF] at T hBf ⊢
   obtain ⟨t0, t1, t2, _, _, _⟩ := T
   have hR : R = ((⟨#[118, 97, 108, 117, 101]⟩, va.length, 6) : ByteArray × Int × Int) := HR.out.trans (by simp [*])
   exact bodyPost_ret (v := wr3 ⟨#[118, 97, 108, 117, 101]⟩ va.length 6) (by simp [results, Tryz.results64, go_sem, wr3, t0, t1, t2]) rfl ⟨by rw [hR], hBf⟩
  cases va with
  | nil =>
   go_wp2_with fail
   rcases r1 with _ | _
   ·skip
    go_quiet (first | (go_at_call 103; exact Calls.quiet_of_same (has_any _ _ _)) | (go_at_call 104; exact Calls.quiet_of_same (namea_any _ _ _ (by assumption))) | (go_at_call 105; first | with_reducible exact Calls.quiet_qt (H14.out _ _ (below_drewN HB.out _)) | with_reducible exact Calls.quiet_qt (H15.out _ _ (below_drewN HB.out _)) | with_reducible exact Calls.quiet_qt (H16.out _ _ (below_drewN HB.out _)) | with_reducible exact Calls.quiet_qt (H17.out _ _ (below_drewN HB.out _))))
    replace HQ := Hd (HQ.out.drewN nq)
    replace HB := Hd (below_drewN HB.out nq)
    clear g0 g1 g2 g3 g4 g5 g6 g7 g8 g9 g10 g11 g12 g13 g14 g15 g16 g17 e0 e1 e2 f0 f1 f2
    generalize X.drewN nq = X at HQ HB ⊢
    obtain ⟨g0, g1, g2, g3, g4, g5, g6, g7, g8, g9, g10, g11, g12, g13, g14, g15, g16, g17, e0, e1, e2, f0, f1, f2⟩ := id HQ.out
    go_wp2_with fail
    have T := HQ.out.fr.set (.string ⟨#[114, 111, 119]⟩) (.int .i64 ids.length) (.int .i64 18)
    have hBf := bS HB.out (Nat.le_succ _) (.string ⟨#[114, 111, 119]⟩) (.int .i64 ids.length) (.int .i64 18)
    obtain ⟨WF, hWF⟩ : ∃ WF, WF = (((X.setCell ⟨w.heap.size + 1, 0, none⟩ (.string ⟨#[114, 111, 119]⟩)).setCell ⟨w.heap.size + 1, 1, none⟩ (.int .i64 ids.length)).setCell ⟨w.heap.size + 1, 2, none⟩ (.int .i64 18)) := ⟨_, rfl⟩
    rw [← hWF] at T hBf ⊢
    obtain ⟨t0, t1, t2, _, _, _⟩ := T
    have hR : R = ((⟨#[114, 111, 119]⟩, ids.length, 18) : ByteArray × Int × Int) := HR.out.trans (by simp [*])
    exact bodyPost_ret (v := wr3 ⟨#[114, 111, 119]⟩ ids.length 18) (by simp [results, Tryz.results64, go_sem, wr3, t0, t1, t2]) rfl ⟨by rw [hR], hBf⟩
   rcases r2 with _ | _
   ·skip
    go_quiet (first | (go_at_call 103; exact Calls.quiet_of_same (has_any _ _ _)) | (go_at_call 104; exact Calls.quiet_of_same (namea_any _ _ _ (by assumption))) | (go_at_call 105; first | with_reducible exact Calls.quiet_qt (H14.out _ _ (below_drewN HB.out _)) | with_reducible exact Calls.quiet_qt (H15.out _ _ (below_drewN HB.out _)) | with_reducible exact Calls.quiet_qt (H16.out _ _ (below_drewN HB.out _)) | with_reducible exact Calls.quiet_qt (H17.out _ _ (below_drewN HB.out _))))
    replace HQ := Hd (HQ.out.drewN nq)
    replace HB := Hd (below_drewN HB.out nq)
    clear g0 g1 g2 g3 g4 g5 g6 g7 g8 g9 g10 g11 g12 g13 g14 g15 g16 g17 e0 e1 e2 f0 f1 f2
    generalize X.drewN nq = X at HQ HB ⊢
    obtain ⟨g0, g1, g2, g3, g4, g5, g6, g7, g8, g9, g10, g11, g12, g13, g14, g15, g16, g17, e0, e1, e2, f0, f1, f2⟩ := id HQ.out
    go_wp2_with fail
    have T := HQ.out.fr.set (.string ⟨#[114, 111, 119]⟩) (.int .i64 ids.length) (.int .i64 18)
    have hBf := bS HB.out (Nat.le_succ _) (.string ⟨#[114, 111, 119]⟩) (.int .i64 ids.length) (.int .i64 18)
    obtain ⟨WF, hWF⟩ : ∃ WF, WF = (((X.setCell ⟨w.heap.size + 1, 0, none⟩ (.string ⟨#[114, 111, 119]⟩)).setCell ⟨w.heap.size + 1, 1, none⟩ (.int .i64 ids.length)).setCell ⟨w.heap.size + 1, 2, none⟩ (.int .i64 18)) := ⟨_, rfl⟩
    rw [← hWF] at T hBf ⊢
    obtain ⟨t0, t1, t2, _, _, _⟩ := T
    have hR : R = ((⟨#[114, 111, 119]⟩, ids.length, 18) : ByteArray × Int × Int) := HR.out.trans (by simp [*])
    exact bodyPost_ret (v := wr3 ⟨#[114, 111, 119]⟩ ids.length 18) (by simp [results, Tryz.results64, go_sem, wr3, t0, t1, t2]) rfl ⟨by rw [hR], hBf⟩
   rcases r3 with _ | _
   ·skip
    go_quiet (first | (go_at_call 103; exact Calls.quiet_of_same (has_any _ _ _)) | (go_at_call 104; exact Calls.quiet_of_same (namea_any _ _ _ (by assumption))) | (go_at_call 105; first | with_reducible exact Calls.quiet_qt (H14.out _ _ (below_drewN HB.out _)) | with_reducible exact Calls.quiet_qt (H15.out _ _ (below_drewN HB.out _)) | with_reducible exact Calls.quiet_qt (H16.out _ _ (below_drewN HB.out _)) | with_reducible exact Calls.quiet_qt (H17.out _ _ (below_drewN HB.out _))))
    replace HQ := Hd (HQ.out.drewN nq)
    replace HB := Hd (below_drewN HB.out nq)
    clear g0 g1 g2 g3 g4 g5 g6 g7 g8 g9 g10 g11 g12 g13 g14 g15 g16 g17 e0 e1 e2 f0 f1 f2
    generalize X.drewN nq = X at HQ HB ⊢
    obtain ⟨g0, g1, g2, g3, g4, g5, g6, g7, g8, g9, g10, g11, g12, g13, g14, g15, g16, g17, e0, e1, e2, f0, f1, f2⟩ := id HQ.out
    go_wp2_with fail
    have T := HQ.out.fr.set (.string ⟨#[114, 111, 119]⟩) (.int .i64 ids.length) (.int .i64 18)
    have hBf := bS HB.out (Nat.le_succ _) (.string ⟨#[114, 111, 119]⟩) (.int .i64 ids.length) (.int .i64 18)
    obtain ⟨WF, hWF⟩ : ∃ WF, WF = (((X.setCell ⟨w.heap.size + 1, 0, none⟩ (.string ⟨#[114, 111, 119]⟩)).setCell ⟨w.heap.size + 1, 1, none⟩ (.int .i64 ids.length)).setCell ⟨w.heap.size + 1, 2, none⟩ (.int .i64 18)) := ⟨_, rfl⟩
    rw [← hWF] at T hBf ⊢
    obtain ⟨t0, t1, t2, _, _, _⟩ := T
    have hR : R = ((⟨#[114, 111, 119]⟩, ids.length, 18) : ByteArray × Int × Int) := HR.out.trans (by simp [*])
    exact bodyPost_ret (v := wr3 ⟨#[114, 111, 119]⟩ ids.length 18) (by simp [results, Tryz.results64, go_sem, wr3, t0, t1, t2]) rfl ⟨by rw [hR], hBf⟩
   rcases r4 with _ | _
   ·skip
    go_quiet (first | (go_at_call 103; exact Calls.quiet_of_same (has_any _ _ _)) | (go_at_call 104; exact Calls.quiet_of_same (namea_any _ _ _ (by assumption))) | (go_at_call 105; first | with_reducible exact Calls.quiet_qt (H14.out _ _ (below_drewN HB.out _)) | with_reducible exact Calls.quiet_qt (H15.out _ _ (below_drewN HB.out _)) | with_reducible exact Calls.quiet_qt (H16.out _ _ (below_drewN HB.out _)) | with_reducible exact Calls.quiet_qt (H17.out _ _ (below_drewN HB.out _))))
    replace HQ := Hd (HQ.out.drewN nq)
    replace HB := Hd (below_drewN HB.out nq)
    clear g0 g1 g2 g3 g4 g5 g6 g7 g8 g9 g10 g11 g12 g13 g14 g15 g16 g17 e0 e1 e2 f0 f1 f2
    generalize X.drewN nq = X at HQ HB ⊢
    obtain ⟨g0, g1, g2, g3, g4, g5, g6, g7, g8, g9, g10, g11, g12, g13, g14, g15, g16, g17, e0, e1, e2, f0, f1, f2⟩ := id HQ.out
    go_wp2_with fail
    have T := HQ.out.fr.set (.string ⟨#[114, 111, 119]⟩) (.int .i64 ids.length) (.int .i64 18)
    have hBf := bS HB.out (Nat.le_succ _) (.string ⟨#[114, 111, 119]⟩) (.int .i64 ids.length) (.int .i64 18)
    obtain ⟨WF, hWF⟩ : ∃ WF, WF = (((X.setCell ⟨w.heap.size + 1, 0, none⟩ (.string ⟨#[114, 111, 119]⟩)).setCell ⟨w.heap.size + 1, 1, none⟩ (.int .i64 ids.length)).setCell ⟨w.heap.size + 1, 2, none⟩ (.int .i64 18)) := ⟨_, rfl⟩
    rw [← hWF] at T hBf ⊢
    obtain ⟨t0, t1, t2, _, _, _⟩ := T
    have hR : R = ((⟨#[114, 111, 119]⟩, ids.length, 18) : ByteArray × Int × Int) := HR.out.trans (by simp [*])
    exact bodyPost_ret (v := wr3 ⟨#[114, 111, 119]⟩ ids.length 18) (by simp [results, Tryz.results64, go_sem, wr3, t0, t1, t2]) rfl ⟨by rw [hR], hBf⟩
   go_quiet (first | (go_at_call 103; exact Calls.quiet_of_same (has_any _ _ _)) | (go_at_call 104; exact Calls.quiet_of_same (namea_any _ _ _ (by assumption))) | (go_at_call 105; first | with_reducible exact Calls.quiet_qt (H14.out _ _ (below_drewN HB.out _)) | with_reducible exact Calls.quiet_qt (H15.out _ _ (below_drewN HB.out _)) | with_reducible exact Calls.quiet_qt (H16.out _ _ (below_drewN HB.out _)) | with_reducible exact Calls.quiet_qt (H17.out _ _ (below_drewN HB.out _))))
   replace HQ := Hd (HQ.out.drewN nq)
   replace HB := Hd (below_drewN HB.out nq)
   clear g0 g1 g2 g3 g4 g5 g6 g7 g8 g9 g10 g11 g12 g13 g14 g15 g16 g17 e0 e1 e2 f0 f1 f2
   generalize X.drewN nq = X at HQ HB ⊢
   obtain ⟨g0, g1, g2, g3, g4, g5, g6, g7, g8, g9, g10, g11, g12, g13, g14, g15, g16, g17, e0, e1, e2, f0, f1, f2⟩ := id HQ.out
   go_wp2_with fail
   have T := HQ.out.fr.set (.string ⟨#[]⟩) (.int .i64 0) (.int .i64 0)
   have hBf := bS HB.out (Nat.le_succ _) (.string ⟨#[]⟩) (.int .i64 0) (.int .i64 0)
   obtain ⟨WF, hWF⟩ : ∃ WF, WF = (((X.setCell ⟨w.heap.size + 1, 0, none⟩ (.string ⟨#[]⟩)).setCell ⟨w.heap.size + 1, 1, none⟩ (.int .i64 0)).setCell ⟨w.heap.size + 1, 2, none⟩ (.int .i64 0)) := ⟨_, rfl⟩
   rw [← hWF] at T hBf ⊢
   obtain ⟨t0, t1, t2, _, _, _⟩ := T
   have hR : R = ((⟨#[]⟩, 0, 0) : ByteArray × Int × Int) := HR.out.trans (by simp [*])
   exact bodyPost_ret (v := wr3 ⟨#[]⟩ 0 0) (by simp [results, Tryz.results64, go_sem, wr3, t0, t1, t2]) rfl ⟨by rw [hR], hBf⟩
  | cons c t =>
   have hv9 : t.length ≤ 255 := by
    have := hv
    simp only [List.length_cons] at this
    omega
   rcases bv with _ | _
   ·skip
    go_wp2_with (go_at_call 103; refine (has_any _ _ _).mono ?_; rintro e w1 ⟨rfl, hw1⟩; rw [hw1]; clear hw1 w1)
    have T := HQ.out.fr.set (.string ⟨#[118, 97, 108, 117, 101]⟩) (.int .i64 ((t.length : Int) + 1)) (.int .i64 6)
    have hBf := bS HB.out (Nat.le_succ _) (.string ⟨#[118, 97, 108, 117, 101]⟩) (.int .i64 ((t.length : Int) + 1)) (.int .i64 6)
    obtain ⟨WF, hWF⟩ : ∃ WF, WF = (((X.setCell ⟨w.heap.size + 1, 0, none⟩ (.string ⟨#[118, 97, 108, 117, 101]⟩)).setCell ⟨w.heap.size + 1, 1, none⟩ (.int .i64 ((t.length : Int) + 1))).setCell ⟨w.heap.size + 1, 2, none⟩ (.int .i64 6)) := ⟨_, rfl⟩
    rw [← hWF] at T hBf ⊢
    obtain ⟨t0, t1, t2, _, _, _⟩ := T
    have hR : R = ((⟨#[118, 97, 108, 117, 101]⟩, ((t.length : Int) + 1), 6) : ByteArray × Int × Int) := HR.out.trans (by simp [*])
    exact bodyPost_ret (v := wr3 ⟨#[118, 97, 108, 117, 101]⟩ ((t.length : Int) + 1) 6) (by simp [results, Tryz.results64, go_sem, wr3, t0, t1, t2]) rfl ⟨by rw [hR], hBf⟩
   go_wp2_with (go_at_call 103; refine (has_any _ _ _).mono ?_; rintro e w1 ⟨rfl, hw1⟩; rw [hw1]; clear hw1 w1)
   rcases r1 with _ | _
   ·skip
    go_quiet (first | (go_at_call 103; exact Calls.quiet_of_same (has_any _ _ _)) | (go_at_call 104; exact Calls.quiet_of_same (namea_any _ _ _ (by assumption))) | (go_at_call 105; first | with_reducible exact Calls.quiet_qt (H14.out _ _ (below_drewN HB.out _)) | with_reducible exact Calls.quiet_qt (H15.out _ _ (below_drewN HB.out _)) | with_reducible exact Calls.quiet_qt (H16.out _ _ (below_drewN HB.out _)) | with_reducible exact Calls.quiet_qt (H17.out _ _ (below_drewN HB.out _))))
    replace HQ := Hd (HQ.out.drewN nq)
    replace HB := Hd (below_drewN HB.out nq)
    clear g0 g1 g2 g3 g4 g5 g6 g7 g8 g9 g10 g11 g12 g13 g14 g15 g16 g17 e0 e1 e2 f0 f1 f2
    generalize X.drewN nq = X at HQ HB ⊢
    obtain ⟨g0, g1, g2, g3, g4, g5, g6, g7, g8, g9, g10, g11, g12, g13, g14, g15, g16, g17, e0, e1, e2, f0, f1, f2⟩ := id HQ.out
    go_wp2_with fail
    have T := HQ.out.fr.set (.string ⟨#[114, 111, 119]⟩) (.int .i64 ids.length) (.int .i64 18)
    have hBf := bS HB.out (Nat.le_succ _) (.string ⟨#[114, 111, 119]⟩) (.int .i64 ids.length) (.int .i64 18)
    obtain ⟨WF, hWF⟩ : ∃ WF, WF = (((X.setCell ⟨w.heap.size + 1, 0, none⟩ (.string ⟨#[114, 111, 119]⟩)).setCell ⟨w.heap.size + 1, 1, none⟩ (.int .i64 ids.length)).setCell ⟨w.heap.size + 1, 2, none⟩ (.int .i64 18)) := ⟨_, rfl⟩
    rw [← hWF] at T hBf ⊢
    obtain ⟨t0, t1, t2, _, _, _⟩ := T
    have hR : R = ((⟨#[114, 111, 119]⟩, ids.length, 18) : ByteArray × Int × Int) := HR.out.trans (by simp [*])
    exact bodyPost_ret (v := wr3 ⟨#[114, 111, 119]⟩ ids.length 18) (by simp [results, Tryz.results64, go_sem, wr3, t0, t1, t2]) rfl ⟨by rw [hR], hBf⟩
   rcases r2 with _ | _
   ·skip
    go_quiet (first | (go_at_call 103; exact Calls.quiet_of_same (has_any _ _ _)) | (go_at_call 104; exact Calls.quiet_of_same (namea_any _ _ _ (by assumption))) | (go_at_call 105; first | with_reducible exact Calls.quiet_qt (H14.out _ _ (below_drewN HB.out _)) | with_reducible exact Calls.quiet_qt (H15.out _ _ (below_drewN HB.out _)) | with_reducible exact Calls.quiet_qt (H16.out _ _ (below_drewN HB.out _)) | with_reducible exact Calls.quiet_qt (H17.out _ _ (below_drewN HB.out _))))
    replace HQ := Hd (HQ.out.drewN nq)
    replace HB := Hd (below_drewN HB.out nq)
    clear g0 g1 g2 g3 g4 g5 g6 g7 g8 g9 g10 g11 g12 g13 g14 g15 g16 g17 e0 e1 e2 f0 f1 f2
    generalize X.drewN nq = X at HQ HB ⊢
    obtain ⟨g0, g1, g2, g3, g4, g5, g6, g7, g8, g9, g10, g11, g12, g13, g14, g15, g16, g17, e0, e1, e2, f0, f1, f2⟩ := id HQ.out
    go_wp2_with fail
    have T := HQ.out.fr.set (.string ⟨#[114, 111, 119]⟩) (.int .i64 ids.length) (.int .i64 18)
    have hBf := bS HB.out (Nat.le_succ _) (.string ⟨#[114, 111, 119]⟩) (.int .i64 ids.length) (.int .i64 18)
    obtain ⟨WF, hWF⟩ : ∃ WF, WF = (((X.setCell ⟨w.heap.size + 1, 0, none⟩ (.string ⟨#[114, 111, 119]⟩)).setCell ⟨w.heap.size + 1, 1, none⟩ (.int .i64 ids.length)).setCell ⟨w.heap.size + 1, 2, none⟩ (.int .i64 18)) := ⟨_, rfl⟩
    rw [← hWF] at T hBf ⊢
    obtain ⟨t0, t1, t2, _, _, _⟩ := T
    have hR : R = ((⟨#[114, 111, 119]⟩, ids.length, 18) : ByteArray × Int × Int) := HR.out.trans (by simp [*])
    exact bodyPost_ret (v := wr3 ⟨#[114, 111, 119]⟩ ids.length 18) (by simp [results, Tryz.results64, go_sem, wr3, t0, t1, t2]) rfl ⟨by rw [hR], hBf⟩
   rcases r3 with _ | _
   ·skip
    go_quiet (first | (go_at_call 103; exact Calls.quiet_of_same (has_any _ _ _)) | (go_at_call 104; exact Calls.quiet_of_same (namea_any _ _ _ (by assumption))) | (go_at_call 105; first | with_reducible exact Calls.quiet_qt (H14.out _ _ (below_drewN HB.out _)) | with_reducible exact Calls.quiet_qt (H15.out _ _ (below_drewN HB.out _)) | with_reducible exact Calls.quiet_qt (H16.out _ _ (below_drewN HB.out _)) | with_reducible exact Calls.quiet_qt (H17.out _ _ (below_drewN HB.out _))))
    replace HQ := Hd (HQ.out.drewN nq)
    replace HB := Hd (below_drewN HB.out nq)
    clear g0 g1 g2 g3 g4 g5 g6 g7 g8 g9 g10 g11 g12 g13 g14 g15 g16 g17 e0 e1 e2 f0 f1 f2
    generalize X.drewN nq = X at HQ HB ⊢
    obtain ⟨g0, g1, g2, g3, g4, g5, g6, g7, g8, g9, g10, g11, g12, g13, g14, g15, g16, g17, e0, e1, e2, f0, f1, f2⟩ := id HQ.out
    go_wp2_with fail
    have T := HQ.out.fr.set (.string ⟨#[114, 111, 119]⟩) (.int .i64 ids.length) (.int .i64 18)
    have hBf := bS HB.out (Nat.le_succ _) (.string ⟨#[114, 111, 119]⟩) (.int .i64 ids.length) (.int .i64 18)
    obtain ⟨WF, hWF⟩ : ∃ WF, WF = (((X.setCell ⟨w.heap.size + 1, 0, none⟩ (.string ⟨#[114, 111, 119]⟩)).setCell ⟨w.heap.size + 1, 1, none⟩ (.int .i64 ids.length)).setCell ⟨w.heap.size + 1, 2, none⟩ (.int .i64 18)) := ⟨_, rfl⟩
    rw [← hWF] at T hBf ⊢
    obtain ⟨t0, t1, t2, _, _, _⟩ := T
    have hR : R = ((⟨#[114, 111, 119]⟩, ids.length, 18) : ByteArray × Int × Int) := HR.out.trans (by simp [*])
    exact bodyPost_ret (v := wr3 ⟨#[114, 111, 119]⟩ ids.length 18) (by simp [results, Tryz.results64, go_sem, wr3, t0, t1, t2]) rfl ⟨by rw [hR], hBf⟩
   rcases r4 with _ | _
   ·skip
    go_quiet (first | (go_at_call 103; exact Calls.quiet_of_same (has_any _ _ _)) | (go_at_call 104; exact Calls.quiet_of_same (namea_any _ _ _ (by assumption))) | (go_at_call 105; first | with_reducible exact Calls.quiet_qt (H14.out _ _ (below_drewN HB.out _)) | with_reducible exact Calls.quiet_qt (H15.out _ _ (below_drewN HB.out _)) | with_reducible exact Calls.quiet_qt (H16.out _ _ (below_drewN HB.out _)) | with_reducible exact Calls.quiet_qt (H17.out _ _ (below_drewN HB.out _))))
    replace HQ := Hd (HQ.out.drewN nq)
    replace HB := Hd (below_drewN HB.out nq)
    clear g0 g1 g2 g3 g4 g5 g6 g7 g8 g9 g10 g11 g12 g13 g14 g15 g16 g17 e0 e1 e2 f0 f1 f2
    generalize X.drewN nq = X at HQ HB ⊢
    obtain ⟨g0, g1, g2, g3, g4, g5, g6, g7, g8, g9, g10, g11, g12, g13, g14, g15, g16, g17, e0, e1, e2, f0, f1, f2⟩ := id HQ.out
    go_wp2_with fail
    have T := HQ.out.fr.set (.string ⟨#[114, 111, 119]⟩) (.int .i64 ids.length) (.int .i64 18)
    have hBf := bS HB.out (Nat.le_succ _) (.string ⟨#[114, 111, 119]⟩) (.int .i64 ids.length) (.int .i64 18)
    obtain ⟨WF, hWF⟩ : ∃ WF, WF = (((X.setCell ⟨w.heap.size + 1, 0, none⟩ (.string ⟨#[114, 111, 119]⟩)).setCell ⟨w.heap.size + 1, 1, none⟩ (.int .i64 ids.length)).setCell ⟨w.heap.size + 1, 2, none⟩ (.int .i64 18)) := ⟨_, rfl⟩
    rw [← hWF] at T hBf ⊢
    obtain ⟨t0, t1, t2, _, _, _⟩ := T
    have hR : R = ((⟨#[114, 111, 119]⟩, ids.length, 18) : ByteArray × Int × Int) := HR.out.trans (by simp [*])
    exact bodyPost_ret (v := wr3 ⟨#[114, 111, 119]⟩ ids.length 18) (by simp [results, Tryz.results64, go_sem, wr3, t0, t1, t2]) rfl ⟨by rw [hR], hBf⟩
   go_quiet (first | (go_at_call 103; exact Calls.quiet_of_same (has_any _ _ _)) | (go_at_call 104; exact Calls.quiet_of_same (namea_any _ _ _ (by assumption))) | (go_at_call 105; first | with_reducible exact Calls.quiet_qt (H14.out _ _ (below_drewN HB.out _)) | with_reducible exact Calls.quiet_qt (H15.out _ _ (below_drewN HB.out _)) | with_reducible exact Calls.quiet_qt (H16.out _ _ (below_drewN HB.out _)) | with_reducible exact Calls.quiet_qt (H17.out _ _ (below_drewN HB.out _))))
   replace HQ := Hd (HQ.out.drewN nq)
   replace HB := Hd (below_drewN HB.out nq)
   clear g0 g1 g2 g3 g4 g5 g6 g7 g8 g9 g10 g11 g12 g13 g14 g15 g16 g17 e0 e1 e2 f0 f1 f2
   generalize X.drewN nq = X at HQ HB ⊢
   obtain ⟨g0, g1, g2, g3, g4, g5, g6, g7, g8, g9, g10, g11, g12, g13, g14, g15, g16, g17, e0, e1, e2, f0, f1, f2⟩ := id HQ.out
   go_wp2_with fail
   have T := HQ.out.fr.set (.string ⟨#[]⟩) (.int .i64 0) (.int .i64 0)
   have hBf := bS HB.out (Nat.le_succ _) (.string ⟨#[]⟩) (.int .i64 0) (.int .i64 0)
   obtain ⟨WF, hWF⟩ : ∃ WF, WF = (((X.setCell ⟨w.heap.size + 1, 0, none⟩ (.string ⟨#[]⟩)).setCell ⟨w.heap.size + 1, 1, none⟩ (.int .i64 0)).setCell ⟨w.heap.size + 1, 2, none⟩ (.int .i64 0)) := ⟨_, rfl⟩
   rw [← hWF] at T hBf ⊢
   obtain ⟨t0, t1, t2, _, _, _⟩ := T
   have hR : R = ((⟨#[]⟩, 0, 0) : ByteArray × Int × Int) := HR.out.trans (by simp [*])
   exact bodyPost_ret (v := wr3 ⟨#[]⟩ 0 0) (by simp [results, Tryz.results64, go_sem, wr3, t0, t1, t2]) rfl ⟨by rw [hR], hBf⟩
end Go.Proofs.YtlggjgapdpkhiaaGreat
