/-
  WHAT IS WRONG WITH A RECORD FIRST (castellanref05.numbers, Check): as one function of its fields. Conditions: its rows' cells hold them, texts of no more than a thousand letters.
-/
import Derived.Test.YtlggjgapdpkhiaaGreatDoorJKSlca4
namespace Go.Proofs.YtlggjgapdpkhiaaGreatDoor
open Go.RowKit
def wr3 (op : ByteArray) (a c : Int) : Value := .agg #[.string op, .int .i64 a, .int .i64 c]
def numsR (k br ep tp pa le cl se co : Int) : ByteArray × Int × Int :=
 if numB br (hasL k 98) 1 64 = false then (⟨#[98, 114, 111, 107, 101, 114]⟩, br, 2)
 else if numB ep (hasL k 101) 0 1073741824 = false then (⟨#[101, 112, 111, 99, 104]⟩, ep, 2)
 else if numB tp (hasL k 116) (if k = 10 then 0 else 1) 1073741824 = false then (⟨#[116, 111, 112, 105, 99]⟩, tp, 2)
 else if numB pa (hasL k 112) 0 255 = false then (⟨#[112, 97, 114, 116]⟩, pa, 2)
 else if numB le (hasL k 108) 0 64 = false then (⟨#[108, 101, 97, 100, 101, 114]⟩, le, 2)
 else if numB cl (hasL k 97) 1 1073741824 = false ∨ numB se (hasL k 97) 1 1073741824 = false ∨ numB co (hasL k 97) 0 21 = false then (⟨#[97, 115, 107, 101, 114]⟩, cl, 2)
 else (⟨#[]⟩, 0, 0)
structure Fr3 (W : World) (n : Nat) (x y z : Value) : Prop where
 c0 : W.cell? ⟨n, 0, none⟩ = some x
 c1 : W.cell? ⟨n, 1, none⟩ = some y
 c2 : W.cell? ⟨n, 2, none⟩ = some z
 f0 : W.frozen? ⟨n, 0, none⟩ = false
 f1 : W.frozen? ⟨n, 1, none⟩ = false
 f2 : W.frozen? ⟨n, 2, none⟩ = false
theorem Fr3.below {W W' : World} {n : Nat} {x y z : Value} (h : Fr3 W n x y z) (hb : Below W.heap.size W W') : Fr3 W' n x y z :=
 have hl : n < W.heap.size := cell_block h.c0
 ⟨(hb.cell (p := ⟨n, 0, none⟩) hl).trans h.c0, (hb.cell (p := ⟨n, 1, none⟩) hl).trans h.c1, (hb.cell (p := ⟨n, 2, none⟩) hl).trans h.c2, (hb.frozen (p := ⟨n, 0, none⟩) hl).trans h.f0, (hb.frozen (p := ⟨n, 1, none⟩) hl).trans h.f1, (hb.frozen (p := ⟨n, 2, none⟩) hl).trans h.f2⟩
theorem Fr3.set {W : World} {n : Nat} {x y z : Value} (h : Fr3 W n x y z) (x' y' z' : Value) : Fr3 (((W.setCell ⟨n, 0, none⟩ x').setCell ⟨n, 1, none⟩ y').setCell ⟨n, 2, none⟩ z') n x' y' z' := by
 have o : ∀ (v : World) (i j : Nat) (s : Value), ¬ i = j → (v.setCell ⟨n, i, none⟩ s).cell? ⟨n, j, none⟩ = v.cell? ⟨n, j, none⟩ := fun v i j s h => World.cell?_setCell_other _ _ _ _ (fun q => h (congrArg Addr.off q))
 refine ⟨?_, ?_, ?_, by simp [h.f0], by simp [h.f1], by simp [h.f2]⟩
 ·rw [o _ _ _ _ (by decide), o _ _ _ _ (by decide)]
  exact World.cell?_setCell_same _ _ _ h.c0
 ·rw [o _ _ _ _ (by decide)]
  exact World.cell?_setCell_same _ _ _ (u := y) (by rw [o _ _ _ _ (by decide)]; exact h.c1)
 ·exact World.cell?_setCell_same _ _ _ (u := z) (by rw [o _ _ _ _ (by decide), o _ _ _ _ (by decide)]; exact h.c2)
theorem below_set3 {B : Nat} {w W : World} {n : Nat} (hb : Below B w W) (hn : B ≤ n) (x y z : Value) : Below B w (((W.setCell ⟨n, 0, none⟩ x).setCell ⟨n, 1, none⟩ y).setCell ⟨n, 2, none⟩ z) :=
 ((hb.setCell (p := ⟨n, 0, none⟩) hn x).setCell (p := ⟨n, 1, none⟩) hn y).setCell (p := ⟨n, 2, none⟩) hn z
structure Nm (W : World) (p q : Nat) (k br ep tp pa le cl se co : Int) : Prop where
 c0 : W.cell? ⟨p, 0, none⟩ = some (.int .i64 k)
 c1 : W.cell? ⟨p, 1, none⟩ = some (.int .i64 br)
 c2 : W.cell? ⟨p, 2, none⟩ = some (.int .i64 ep)
 c3 : W.cell? ⟨p, 3, none⟩ = some (.int .i64 tp)
 c4 : W.cell? ⟨p, 4, none⟩ = some (.int .i64 pa)
 c5 : W.cell? ⟨p, 5, none⟩ = some (.int .i64 le)
 c6 : W.cell? ⟨p, 6, none⟩ = some (.int .i64 cl)
 c7 : W.cell? ⟨p, 7, none⟩ = some (.int .i64 se)
 c8 : W.cell? ⟨p, 8, none⟩ = some (.int .i64 co)
 fr : Fr3 W q (.string ⟨#[]⟩) (.int .i64 0) (.int .i64 0)
theorem Nm.drewN {W : World} {p q : Nat} {k br ep tp pa le cl se co : Int} (h : Nm W p q k br ep tp pa le cl se co) (n : Nat) : Nm (W.drewN n) p q k br ep tp pa le cl se co :=
 ⟨h.c0, h.c1, h.c2, h.c3, h.c4, h.c5, h.c6, h.c7, h.c8, ⟨h.fr.c0, h.fr.c1, h.fr.c2, h.fr.f0, h.fr.f1, h.fr.f2⟩⟩
set_option maxRecDepth 100000 in
set_option maxHeartbeats 8000000 in
theorem numbers_any (k br ep tp pa le cl se co : Int) (x9 x10 x11 x12 x13 x14 x15 x16 x17 : Value) (w : World) :
  Calls Tryz.prog 60 #[.agg #[.int .i64 k, .int .i64 br, .int .i64 ep, .int .i64 tp, .int .i64 pa, .int .i64 le, .int .i64 cl, .int .i64 se, .int .i64 co, x9, x10, x11, x12, x13, x14, x15, x16, x17]] w fun e w' => e = .returned (wr3 (numsR k br ep tp pa le cl se co).1 (numsR k br ep tp pa le cl se co).2.1 (numsR k br ep tp pa le cl se co).2.2) ∧ Below w.heap.size w w' := by
 obtain ⟨lo, hlo⟩ : ∃ lo : Int, lo = if k = 10 then 0 else 1 := ⟨_, rfl⟩
 have HN0 := hide (fun W => num_any br (hasL k 98) 1 64 W)
 have HN1 := hide (fun W => num_any ep (hasL k 101) 0 1073741824 W)
 have HN2 := hide (fun W => num_any tp (hasL k 116) lo 1073741824 W)
 have HN3 := hide (fun W => num_any pa (hasL k 112) 0 255 W)
 have HN4 := hide (fun W => num_any le (hasL k 108) 0 64 W)
 unfold numsR
 rw [← hlo]
 generalize numB br (hasL k 98) 1 64 = b0 at *
 generalize numB ep (hasL k 101) 0 1073741824 = b1 at *
 generalize numB tp (hasL k 116) lo 1073741824 = b2 at *
 generalize numB pa (hasL k 112) 0 255 = b3 at *
 generalize numB le (hasL k 108) 0 64 = b4 at *
 have hl : (k = 10 ∧ lo = 0) ∨ (¬ k = 10 ∧ lo = 1) := by
  by_cases hk : k = 10
  ·rw [if_pos hk] at hlo; exact .inl ⟨hk, hlo⟩
  ·rw [if_neg hk] at hlo; exact .inr ⟨hk, hlo⟩
 clear hlo
 have HQ : Hid (Nm ((w.alloc (.cells #[.int .i64 k, .int .i64 br, .int .i64 ep, .int .i64 tp, .int .i64 pa, .int .i64 le, .int .i64 cl, .int .i64 se, .int .i64 co, x9, x10, x11, x12, x13, x14, x15, x16, x17] 37)).alloc (.cells #[.string ⟨#[]⟩, .int .i64 0, .int .i64 0] 62)) w.heap.size (w.heap.size + 1) k br ep tp pa le cl se co) := hide ⟨by simp, by simp, by simp, by simp, by simp, by simp, by simp, by simp, by simp, ⟨by simp, by simp, by simp, by simp, by simp, by simp⟩⟩
 have HB : Hid (Below w.heap.size w ((w.alloc (.cells #[.int .i64 k, .int .i64 br, .int .i64 ep, .int .i64 tp, .int .i64 pa, .int .i64 le, .int .i64 cl, .int .i64 se, .int .i64 co, x9, x10, x11, x12, x13, x14, x15, x16, x17] 37)).alloc (.cells #[.string ⟨#[]⟩, .int .i64 0, .int .i64 0] 62))) := hide (((Below.refl _ _).alloc (Nat.le_refl _) _).alloc (by simp) _)
 obtain ⟨b5, hb5⟩ : ∃ b, numB cl (hasL k 97) 1 1073741824 = b := ⟨_, rfl⟩
 obtain ⟨b6, hb6⟩ : ∃ b, numB se (hasL k 97) 1 1073741824 = b := ⟨_, rfl⟩
 obtain ⟨b7, hb7⟩ : ∃ b, numB co (hasL k 97) 0 21 = b := ⟨_, rfl⟩
 rcases hl with ⟨rfl, rfl⟩ | ⟨hk, rfl⟩
 all_goals
  go_enter Tryz.func60, Tryz.ntmps60
  go_wp2_with fail
  generalize (w.alloc (.cells #[_, .int .i64 br, _, _, _, _, _, _, _, x9, x10, x11, x12, x13, x14, x15, x16, x17] 37)).alloc (.cells #[.string ⟨#[]⟩, .int .i64 0, .int .i64 0] 62) = X at *
  obtain ⟨c0, c1, c2, c3, c4, c5, c6, c7, c8, e0, e1, e2, f0, f1, f2⟩ := id HQ.out
  go_quiet (first | (go_at_call 61; exact Calls.quiet_of_same (has_any _ _ _)) | (go_at_call 106; first | exact Calls.quiet_of_same (HN0.out _)))
  replace HQ := hide (HQ.out.drewN nq)
  replace HB := hide (below_drewN HB.out nq)
  clear c0 c1 c2 c3 c4 c5 c6 c7 c8 e0 e1 e2 f0 f1 f2
  generalize X.drewN nq = X at *
  obtain ⟨c0, c1, c2, c3, c4, c5, c6, c7, c8, e0, e1, e2, f0, f1, f2⟩ := id HQ.out
  cases b0 with
  | false =>
   go_wp2_with fail
   have T := HQ.out.fr.set (.string ⟨#[98, 114, 111, 107, 101, 114]⟩) (.int .i64 br) (.int .i64 2)
   have hBf := below_set3 HB.out (Nat.le_succ _) (.string ⟨#[98, 114, 111, 107, 101, 114]⟩) (.int .i64 br) (.int .i64 2)
   obtain ⟨WF, hWF⟩ : ∃ WF, WF = (((X.setCell ⟨w.heap.size + 1, 0, none⟩ (.string ⟨#[98, 114, 111, 107, 101, 114]⟩)).setCell ⟨w.heap.size + 1, 1, none⟩ (.int .i64 br)).setCell ⟨w.heap.size + 1, 2, none⟩ (.int .i64 2)) := ⟨_, rfl⟩
   rw [← hWF] at T hBf ⊢
   obtain ⟨t0, t1, t2, _, _, _⟩ := T
   exact bodyPost_ret (v := wr3 ⟨#[98, 114, 111, 107, 101, 114]⟩ br 2) (by simp [results, Tryz.results60, go_sem, wr3, t0, t1, t2]) rfl ⟨by first | rfl | simp [hb5, hb6, hb7], hBf⟩
  | true =>
   go_wp2_with fail
   go_quiet (first | (go_at_call 61; exact Calls.quiet_of_same (has_any _ _ _)) | (go_at_call 106; first | exact Calls.quiet_of_same (HN1.out _)))
   replace HQ := hide (HQ.out.drewN nq)
   replace HB := hide (below_drewN HB.out nq)
   clear c0 c1 c2 c3 c4 c5 c6 c7 c8 e0 e1 e2 f0 f1 f2
   generalize X.drewN nq = X at *
   obtain ⟨c0, c1, c2, c3, c4, c5, c6, c7, c8, e0, e1, e2, f0, f1, f2⟩ := id HQ.out
   cases b1 with
   | false =>
    go_wp2_with fail
    have T := HQ.out.fr.set (.string ⟨#[101, 112, 111, 99, 104]⟩) (.int .i64 ep) (.int .i64 2)
    have hBf := below_set3 HB.out (Nat.le_succ _) (.string ⟨#[101, 112, 111, 99, 104]⟩) (.int .i64 ep) (.int .i64 2)
    obtain ⟨WF, hWF⟩ : ∃ WF, WF = (((X.setCell ⟨w.heap.size + 1, 0, none⟩ (.string ⟨#[101, 112, 111, 99, 104]⟩)).setCell ⟨w.heap.size + 1, 1, none⟩ (.int .i64 ep)).setCell ⟨w.heap.size + 1, 2, none⟩ (.int .i64 2)) := ⟨_, rfl⟩
    rw [← hWF] at T hBf ⊢
    obtain ⟨t0, t1, t2, _, _, _⟩ := T
    exact bodyPost_ret (v := wr3 ⟨#[101, 112, 111, 99, 104]⟩ ep 2) (by simp [results, Tryz.results60, go_sem, wr3, t0, t1, t2]) rfl ⟨by first | rfl | simp [hb5, hb6, hb7], hBf⟩
   | true =>
    go_wp2_with fail
    go_quiet (first | (go_at_call 61; exact Calls.quiet_of_same (has_any _ _ _)) | (go_at_call 106; first | exact Calls.quiet_of_same (HN2.out _)))
    replace HQ := hide (HQ.out.drewN nq)
    replace HB := hide (below_drewN HB.out nq)
    clear c0 c1 c2 c3 c4 c5 c6 c7 c8 e0 e1 e2 f0 f1 f2
    generalize X.drewN nq = X at *
    obtain ⟨c0, c1, c2, c3, c4, c5, c6, c7, c8, e0, e1, e2, f0, f1, f2⟩ := id HQ.out
    cases b2 with
    | false =>
     go_wp2_with fail
     have T := HQ.out.fr.set (.string ⟨#[116, 111, 112, 105, 99]⟩) (.int .i64 tp) (.int .i64 2)
     have hBf := below_set3 HB.out (Nat.le_succ _) (.string ⟨#[116, 111, 112, 105, 99]⟩) (.int .i64 tp) (.int .i64 2)
     obtain ⟨WF, hWF⟩ : ∃ WF, WF = (((X.setCell ⟨w.heap.size + 1, 0, none⟩ (.string ⟨#[116, 111, 112, 105, 99]⟩)).setCell ⟨w.heap.size + 1, 1, none⟩ (.int .i64 tp)).setCell ⟨w.heap.size + 1, 2, none⟩ (.int .i64 2)) := ⟨_, rfl⟩
     rw [← hWF] at T hBf ⊢
     obtain ⟨t0, t1, t2, _, _, _⟩ := T
     exact bodyPost_ret (v := wr3 ⟨#[116, 111, 112, 105, 99]⟩ tp 2) (by simp [results, Tryz.results60, go_sem, wr3, t0, t1, t2]) rfl ⟨by first | rfl | simp [hb5, hb6, hb7], hBf⟩
    | true =>
     go_wp2_with fail
     go_quiet (first | (go_at_call 61; exact Calls.quiet_of_same (has_any _ _ _)) | (go_at_call 106; first | exact Calls.quiet_of_same (HN3.out _)))
     replace HQ := hide (HQ.out.drewN nq)
     replace HB := hide (below_drewN HB.out nq)
     clear c0 c1 c2 c3 c4 c5 c6 c7 c8 e0 e1 e2 f0 f1 f2
     generalize X.drewN nq = X at *
     obtain ⟨c0, c1, c2, c3, c4, c5, c6, c7, c8, e0, e1, e2, f0, f1, f2⟩ := id HQ.out
     cases b3 with
     | false =>
      go_wp2_with fail
      have T := HQ.out.fr.set (.string ⟨#[112, 97, 114, 116]⟩) (.int .i64 pa) (.int .i64 2)
      have hBf := below_set3 HB.out (Nat.le_succ _) (.string ⟨#[112, 97, 114, 116]⟩) (.int .i64 pa) (.int .i64 2)
      obtain ⟨WF, hWF⟩ : ∃ WF, WF = (((X.setCell ⟨w.heap.size + 1, 0, none⟩ (.string ⟨#[112, 97, 114, 116]⟩)).setCell ⟨w.heap.size + 1, 1, none⟩ (.int .i64 pa)).setCell ⟨w.heap.size + 1, 2, none⟩ (.int .i64 2)) := ⟨_, rfl⟩
      rw [← hWF] at T hBf ⊢
      obtain ⟨t0, t1, t2, _, _, _⟩ := T
      exact bodyPost_ret (v := wr3 ⟨#[112, 97, 114, 116]⟩ pa 2) (by simp [results, Tryz.results60, go_sem, wr3, t0, t1, t2]) rfl ⟨by first | rfl | simp [hb5, hb6, hb7], hBf⟩
     | true =>
      go_wp2_with fail
      go_quiet (first | (go_at_call 61; exact Calls.quiet_of_same (has_any _ _ _)) | (go_at_call 106; first | exact Calls.quiet_of_same (HN4.out _)))
      replace HQ := hide (HQ.out.drewN nq)
      replace HB := hide (below_drewN HB.out nq)
      clear c0 c1 c2 c3 c4 c5 c6 c7 c8 e0 e1 e2 f0 f1 f2
      generalize X.drewN nq = X at *
      obtain ⟨c0, c1, c2, c3, c4, c5, c6, c7, c8, e0, e1, e2, f0, f1, f2⟩ := id HQ.out
      cases b4 with
      | false =>
       go_wp2_with fail
       have T := HQ.out.fr.set (.string ⟨#[108, 101, 97, 100, 101, 114]⟩) (.int .i64 le) (.int .i64 2)
       have hBf := below_set3 HB.out (Nat.le_succ _) (.string ⟨#[108, 101, 97, 100, 101, 114]⟩) (.int .i64 le) (.int .i64 2)
       obtain ⟨WF, hWF⟩ : ∃ WF, WF = (((X.setCell ⟨w.heap.size + 1, 0, none⟩ (.string ⟨#[108, 101, 97, 100, 101, 114]⟩)).setCell ⟨w.heap.size + 1, 1, none⟩ (.int .i64 le)).setCell ⟨w.heap.size + 1, 2, none⟩ (.int .i64 2)) := ⟨_, rfl⟩
       rw [← hWF] at T hBf ⊢
       obtain ⟨t0, t1, t2, _, _, _⟩ := T
       exact bodyPost_ret (v := wr3 ⟨#[108, 101, 97, 100, 101, 114]⟩ le 2) (by simp [results, Tryz.results60, go_sem, wr3, t0, t1, t2]) rfl ⟨by first | rfl | simp [hb5, hb6, hb7], hBf⟩
      | true =>
       go_wp2_with fail
       rcases b5 with _ | _
       ·skip
        go_quiet (first | (go_at_call 61; exact Calls.quiet_of_same (has_any _ _ _)) | (go_at_call 106; exact Calls.quiet_of_same (num_any _ _ _ _ _)))
        replace HQ := hide (HQ.out.drewN nq)
        replace HB := hide (below_drewN HB.out nq)
        clear c0 c1 c2 c3 c4 c5 c6 c7 c8 e0 e1 e2 f0 f1 f2
        generalize X.drewN nq = X at *
        obtain ⟨c0, c1, c2, c3, c4, c5, c6, c7, c8, e0, e1, e2, f0, f1, f2⟩ := id HQ.out
        go_wp2_with fail
        have T := HQ.out.fr.set (.string ⟨#[97, 115, 107, 101, 114]⟩) (.int .i64 cl) (.int .i64 2)
        have hBf := below_set3 HB.out (Nat.le_succ _) (.string ⟨#[97, 115, 107, 101, 114]⟩) (.int .i64 cl) (.int .i64 2)
        obtain ⟨WF, hWF⟩ : ∃ WF, WF = (((X.setCell ⟨w.heap.size + 1, 0, none⟩ (.string ⟨#[97, 115, 107, 101, 114]⟩)).setCell ⟨w.heap.size + 1, 1, none⟩ (.int .i64 cl)).setCell ⟨w.heap.size + 1, 2, none⟩ (.int .i64 2)) := ⟨_, rfl⟩
        rw [← hWF] at T hBf ⊢
        obtain ⟨t0, t1, t2, _, _, _⟩ := T
        exact bodyPost_ret (v := wr3 ⟨#[97, 115, 107, 101, 114]⟩ cl 2) (by simp [results, Tryz.results60, go_sem, wr3, t0, t1, t2]) rfl ⟨by first | rfl | simp [hb5, hb6, hb7], hBf⟩
       ·skip
        rcases b6 with _ | _
        ·skip
         go_quiet (first | (go_at_call 61; exact Calls.quiet_of_same (has_any _ _ _)) | (go_at_call 106; exact Calls.quiet_of_same (num_any _ _ _ _ _)))
         replace HQ := hide (HQ.out.drewN nq)
         replace HB := hide (below_drewN HB.out nq)
         clear c0 c1 c2 c3 c4 c5 c6 c7 c8 e0 e1 e2 f0 f1 f2
         generalize X.drewN nq = X at *
         obtain ⟨c0, c1, c2, c3, c4, c5, c6, c7, c8, e0, e1, e2, f0, f1, f2⟩ := id HQ.out
         go_wp2_with fail
         have T := HQ.out.fr.set (.string ⟨#[97, 115, 107, 101, 114]⟩) (.int .i64 cl) (.int .i64 2)
         have hBf := below_set3 HB.out (Nat.le_succ _) (.string ⟨#[97, 115, 107, 101, 114]⟩) (.int .i64 cl) (.int .i64 2)
         obtain ⟨WF, hWF⟩ : ∃ WF, WF = (((X.setCell ⟨w.heap.size + 1, 0, none⟩ (.string ⟨#[97, 115, 107, 101, 114]⟩)).setCell ⟨w.heap.size + 1, 1, none⟩ (.int .i64 cl)).setCell ⟨w.heap.size + 1, 2, none⟩ (.int .i64 2)) := ⟨_, rfl⟩
         rw [← hWF] at T hBf ⊢
         obtain ⟨t0, t1, t2, _, _, _⟩ := T
         exact bodyPost_ret (v := wr3 ⟨#[97, 115, 107, 101, 114]⟩ cl 2) (by simp [results, Tryz.results60, go_sem, wr3, t0, t1, t2]) rfl ⟨by first | rfl | simp [hb5, hb6, hb7], hBf⟩
        ·skip
         rcases b7 with _ | _
         ·skip
          go_quiet (first | (go_at_call 61; exact Calls.quiet_of_same (has_any _ _ _)) | (go_at_call 106; exact Calls.quiet_of_same (num_any _ _ _ _ _)))
          replace HQ := hide (HQ.out.drewN nq)
          replace HB := hide (below_drewN HB.out nq)
          clear c0 c1 c2 c3 c4 c5 c6 c7 c8 e0 e1 e2 f0 f1 f2
          generalize X.drewN nq = X at *
          obtain ⟨c0, c1, c2, c3, c4, c5, c6, c7, c8, e0, e1, e2, f0, f1, f2⟩ := id HQ.out
          go_wp2_with fail
          have T := HQ.out.fr.set (.string ⟨#[97, 115, 107, 101, 114]⟩) (.int .i64 cl) (.int .i64 2)
          have hBf := below_set3 HB.out (Nat.le_succ _) (.string ⟨#[97, 115, 107, 101, 114]⟩) (.int .i64 cl) (.int .i64 2)
          obtain ⟨WF, hWF⟩ : ∃ WF, WF = (((X.setCell ⟨w.heap.size + 1, 0, none⟩ (.string ⟨#[97, 115, 107, 101, 114]⟩)).setCell ⟨w.heap.size + 1, 1, none⟩ (.int .i64 cl)).setCell ⟨w.heap.size + 1, 2, none⟩ (.int .i64 2)) := ⟨_, rfl⟩
          rw [← hWF] at T hBf ⊢
          obtain ⟨t0, t1, t2, _, _, _⟩ := T
          exact bodyPost_ret (v := wr3 ⟨#[97, 115, 107, 101, 114]⟩ cl 2) (by simp [results, Tryz.results60, go_sem, wr3, t0, t1, t2]) rfl ⟨by first | rfl | simp [hb5, hb6, hb7], hBf⟩
         ·skip
          go_quiet (first | (go_at_call 61; exact Calls.quiet_of_same (has_any _ _ _)) | (go_at_call 106; exact Calls.quiet_of_same (num_any _ _ _ _ _)))
          replace HQ := hide (HQ.out.drewN nq)
          replace HB := hide (below_drewN HB.out nq)
          clear c0 c1 c2 c3 c4 c5 c6 c7 c8 e0 e1 e2 f0 f1 f2
          generalize X.drewN nq = X at *
          obtain ⟨c0, c1, c2, c3, c4, c5, c6, c7, c8, e0, e1, e2, f0, f1, f2⟩ := id HQ.out
          go_wp2_with fail
          have T := HQ.out.fr.set (.string ⟨#[]⟩) (.int .i64 0) (.int .i64 0)
          have hBf := below_set3 HB.out (Nat.le_succ _) (.string ⟨#[]⟩) (.int .i64 0) (.int .i64 0)
          obtain ⟨WF, hWF⟩ : ∃ WF, WF = (((X.setCell ⟨w.heap.size + 1, 0, none⟩ (.string ⟨#[]⟩)).setCell ⟨w.heap.size + 1, 1, none⟩ (.int .i64 0)).setCell ⟨w.heap.size + 1, 2, none⟩ (.int .i64 0)) := ⟨_, rfl⟩
          rw [← hWF] at T hBf ⊢
          obtain ⟨t0, t1, t2, _, _, _⟩ := T
          exact bodyPost_ret (v := wr3 ⟨#[]⟩ 0 0) (by simp [results, Tryz.results60, go_sem, wr3, t0, t1, t2]) rfl ⟨by first | rfl | simp [hb5, hb6, hb7], hBf⟩
end Go.Proofs.YtlggjgapdpkhiaaGreatDoor
