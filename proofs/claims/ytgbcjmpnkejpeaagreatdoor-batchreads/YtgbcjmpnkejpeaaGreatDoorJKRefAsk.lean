/-
  THE DOCUMENT's NEXT THING (castellanref02.Read), out of what its num, text and row tell. Conditions: the bytes' cells hold them, no more than four thousand.
-/
import Derived.Test.YtgbcjmpnkejpeaaGreatDoorJKRefNexta3
import Derived.Test.YtgbcjmpnkejpeaaGreatDoorJKRecChka2
namespace Go.Proofs.YtgbcjmpnkejpeaaGreatDoor
open Go.RowKit

/-- The world of Read as its boxes are made. -/
def raW (w : World) (a c wh K M E : Int) (op : ByteArray) : World :=
  (((w.alloc (.cells #[.int .i64 a, .int .i64 c, .string op, .int .i64 wh] 29)).alloc (.cells #[.int .i64 K, .int .i64 M, .int .i64 E] 143)).alloc (.cells #[.int .i64 0, .int .i64 0, .string ⟨#[]⟩, .int .i64 0] 29)).alloc (.cells #[.int .u64 0, .bool false, .slice none 0 0, .slice none 0 0] 139)
theorem raW_below (w : World) (a c wh K M E : Int) (op : ByteArray) : Below w.heap.size w (raW w a c wh K M E op) :=
  ((((Below.refl _ _).alloc (Nat.le_refl _) _).alloc (by simp) _).alloc (by simp; omega) _).alloc (by simp; omega) _
theorem raW_size (w : World) (a c wh K M E : Int) (op : ByteArray) : (raW w a c wh K M E op).heap.size = w.heap.size + 4 := by simp [raW, go_sem]
/-- The cells of the boxes, the state's and the thing's. -/
theorem raW_cells (w : World) (a c wh K M E : Int) (op : ByteArray) : ∀ W, Below (w.heap.size + 4) (raW w a c wh K M E op) W →
    (W.cell? ⟨w.heap.size, 0, none⟩ = some (.int .i64 a) ∧ W.cell? ⟨w.heap.size, 1, none⟩ = some (.int .i64 c) ∧ W.cell? ⟨w.heap.size, 2, none⟩ = some (.string op) ∧ W.cell? ⟨w.heap.size, 3, none⟩ = some (.int .i64 wh) ∧ W.cell? ⟨w.heap.size + 1, 1, none⟩ = some (.int .i64 M)) := by
  intro W hb
  refine ⟨?_, ?_, ?_, ?_, ?_⟩
  · rw [hb.cell (p := ⟨w.heap.size, 0, none⟩) (by show w.heap.size < _; omega)]; simp [raW, go_sem]
  · rw [hb.cell (p := ⟨w.heap.size, 1, none⟩) (by show w.heap.size < _; omega)]; simp [raW, go_sem]
  · rw [hb.cell (p := ⟨w.heap.size, 2, none⟩) (by show w.heap.size < _; omega)]; simp [raW, go_sem]
  · rw [hb.cell (p := ⟨w.heap.size, 3, none⟩) (by show w.heap.size < _; omega)]; simp [raW, go_sem]
  · rw [hb.cell (p := ⟨w.heap.size + 1, 1, none⟩) (by show w.heap.size + 1 < _; omega)]; simp [raW, go_sem]
/-- The cells of the results, as they begin. -/
theorem raW_outs (w : World) (a c wh K M E : Int) (op : ByteArray) : ∀ W, Below (w.heap.size + 4) (raW w a c wh K M E op) W →
    (W.cell? ⟨w.heap.size + 1 + 1, 0, none⟩ = some (.int .i64 0) ∧ W.cell? ⟨w.heap.size + 1 + 1, 1, none⟩ = some (.int .i64 0) ∧ W.cell? ⟨w.heap.size + 1 + 1, 2, none⟩ = some (.string ⟨#[]⟩) ∧ W.cell? ⟨w.heap.size + 1 + 1, 3, none⟩ = some (.int .i64 0)) ∧
    (W.cell? ⟨w.heap.size + 1 + 1 + 1, 0, none⟩ = some (.int .u64 0) ∧ W.cell? ⟨w.heap.size + 1 + 1 + 1, 1, none⟩ = some (.bool false) ∧ W.cell? ⟨w.heap.size + 1 + 1 + 1, 2, none⟩ = some (.slice none 0 0) ∧ W.cell? ⟨w.heap.size + 1 + 1 + 1, 3, none⟩ = some (.slice none 0 0)) ∧
    (∀ i, W.frozen? ⟨w.heap.size + 1 + 1, i, none⟩ = false) ∧ (∀ i, W.frozen? ⟨w.heap.size + 1 + 1 + 1, i, none⟩ = false) := by
  intro W hb
  have c2 : ∀ i, W.cell? ⟨w.heap.size + 1 + 1, i, none⟩ = (raW w a c wh K M E op).cell? ⟨w.heap.size + 1 + 1, i, none⟩ := fun i => hb.cell (p := ⟨w.heap.size + 1 + 1, i, none⟩) (by show w.heap.size + 1 + 1 < _; omega)
  have c3 : ∀ i, W.cell? ⟨w.heap.size + 1 + 1 + 1, i, none⟩ = (raW w a c wh K M E op).cell? ⟨w.heap.size + 1 + 1 + 1, i, none⟩ := fun i => hb.cell (p := ⟨w.heap.size + 1 + 1 + 1, i, none⟩) (by show w.heap.size + 1 + 1 + 1 < _; omega)
  refine ⟨⟨?_, ?_, ?_, ?_⟩, ⟨?_, ?_, ?_, ?_⟩, fun i => ?_, fun i => ?_⟩
  · rw [c2]; simp [raW, go_sem]
  · rw [c2]; simp [raW, go_sem]
  · rw [c2]; simp [raW, go_sem]
  · rw [c2]; simp [raW, go_sem]
  · rw [c3]; simp [raW, go_sem]
  · rw [c3]; simp [raW, go_sem]
  · rw [c3]; simp [raW, go_sem]
  · rw [c3]; simp [raW, go_sem]
  · rw [hb.frozen (p := ⟨w.heap.size + 1 + 1, i, none⟩) (by show w.heap.size + 1 + 1 < _; omega)]
    exact (((Below.refl _ (((w.alloc (.cells #[.int .i64 a, .int .i64 c, .string op, .int .i64 wh] 29)).alloc (.cells #[.int .i64 K, .int .i64 M, .int .i64 E] 143)).alloc (.cells #[.int .i64 0, .int .i64 0, .string ⟨#[]⟩, .int .i64 0] 29))).alloc (Nat.le_refl _) _).frozen (p := ⟨w.heap.size + 1 + 1, i, none⟩) (by simp)).trans (World.frozen?_alloc_at _ _ _ _ (by simp))
  · rw [hb.frozen (p := ⟨w.heap.size + 1 + 1 + 1, i, none⟩) (by show w.heap.size + 1 + 1 + 1 < _; omega)]
    exact World.frozen?_alloc_at _ _ _ _ (by simp)

set_option maxRecDepth 100000 in
set_option maxHeartbeats 8000000 in
theorem read_num0 (v : Value) (l : List Int) (a wh M MM E A C WH nn : Int) (op OP : ByteArray) (w : World) (hv : Sl bc w v l)
    (H15 : Hid (∀ W, Calls Tryz.prog 122 #[.int .i64 M] W fun e w' => e = .returned (.int .u64 MM) ∧ w' = W))
    (H14 : Hid (∀ W, Sl bc W v l → Calls Tryz.prog 121 #[v, .agg #[.int .i64 a, .int .i64 0, .string op, .int .i64 wh], .int .u64 MM] W fun e w' => e = .returned (.tuple #[.agg #[.int .i64 A, .int .i64 C, .string OP, .int .i64 WH], .int .u64 nn]) ∧ Below W.heap.size W w')) :
    Calls Tryz.prog 96 #[v, .agg #[.int .i64 a, .int .i64 0, .string op, .int .i64 wh], .agg #[.int .i64 0, .int .i64 M, .int .i64 E]] w fun e w' => e = .returned (.tuple #[.agg #[.int .i64 A, .int .i64 C, .string OP, .int .i64 WH], .agg #[.int .u64 nn, .bool false, .slice none 0 0, .slice none 0 0]]) ∧ Below w.heap.size w w' := by
  have HV := hide hv
  clear hv
  have hF := raW_cells w a 0 wh 0 M E op
  have HZ := hide (raW_outs w a 0 wh 0 M E op)
  have HR := hide (raW_below w a 0 wh 0 M E op)
  have hz := raW_size w a 0 wh 0 M E op
  have HS0 := hide (hs_drew hF (by omega))
  have HS1 := hide (hs_first hF (by omega))
  have HF := hide hF
  clear hF
  go_enter Tryz.func96, Tryz.ntmps96
  go_upto_region 6 with fail
  go_cut [8, 9] (fun p k W => ∃ g, p = .pointer (some ⟨g, 0, none⟩) ∧ k = .int .u64 nn ∧ (W.cell? ⟨g, 0, none⟩ = some (.int .i64 A) ∧ W.cell? ⟨g, 1, none⟩ = some (.int .i64 C) ∧ W.cell? ⟨g, 2, none⟩ = some (.string OP) ∧ W.cell? ⟨g, 3, none⟩ = some (.int .i64 WH)) ∧ w.heap.size + 4 ≤ g ∧ Below (w.heap.size + 4) (raW w a 0 wh 0 M E op) W ∧ w.heap.size + 4 ≤ W.heap.size)
  case first =>
    go_region_held3 (fun W => (W.cell? ⟨w.heap.size, 0, none⟩ = some (.int .i64 a) ∧ W.cell? ⟨w.heap.size, 1, none⟩ = some (.int .i64 0) ∧ W.cell? ⟨w.heap.size, 2, none⟩ = some (.string op) ∧ W.cell? ⟨w.heap.size, 3, none⟩ = some (.int .i64 wh) ∧ W.cell? ⟨w.heap.size + 1, 1, none⟩ = some (.int .i64 M)) ∧ Below (w.heap.size + 4) (raW w a 0 wh 0 M E op) W ∧ w.heap.size + 4 ≤ W.heap.size)
      (first | with_reducible assumption | with_reducible exact hs_call HF.out (by assumption) (by assumption) | with_reducible exact hs_alloc HF.out (by assumption) | with_reducible exact hs_set4 HF.out (by simp) (by assumption) | with_reducible exact hs_alloc HF.out KW.out | exact HS0.out | exact HS1.out _)
      (first
        | (go_at_call 122; refine (H15.out _).mono ?_; rintro e w' ⟨rfl, rfl⟩)
        | (go_at_call 121; refine (H14.out _ ?_).mono ?_; exact HV.out.below (HR.out.trans (Below.mono (And.left (And.right (by assumption))) (by omega))); rintro e w' ⟨rfl, hb⟩; obtain ⟨hcc, hf⟩ := bcell hb; have KW := hide (hs_call HF.out hb (by assumption))))
    all_goals go_wp2_with fail
    all_goals go_meet
    · exact ⟨_, rfl, rfl, ⟨by simp, by simp, by simp, by simp⟩, KW.out.2.2, (hs_alloc HF.out KW.out).2⟩
    all_goals
      have q0 : w'.cell? ⟨w.heap.size + 1 + 1 + 1 + 1, 0, none⟩ = some (.int .i64 0) := by rw [hcc _ _ (by simp)]; simp [go_sem]
      have q1 : w'.cell? ⟨w.heap.size + 1 + 1 + 1 + 1, 1, none⟩ = some (.int .i64 0) := by rw [hcc _ _ (by simp)]; simp [go_sem]
      have q2 : w'.cell? ⟨w.heap.size + 1 + 1 + 1 + 1, 2, none⟩ = some (.string ⟨#[]⟩) := by rw [hcc _ _ (by simp)]; simp [go_sem]
      have q3 : w'.cell? ⟨w.heap.size + 1 + 1 + 1 + 1, 3, none⟩ = some (.int .i64 0) := by rw [hcc _ _ (by simp)]; simp [go_sem]
      have T := four_cells (x := .int .i64 A) (y := .int .i64 C) (z := .string OP) (t := .int .i64 WH) q0 q1 q2 q3
      exact ⟨_, rfl, rfl, ⟨T.1, T.2.1, T.2.2.1, T.2.2.2⟩, by simp, (hs_set4 HF.out (by simp) KW.out).2⟩
  case rest =>
    obtain ⟨g, rfl, rfl, ⟨c0, c1, c2, c3⟩, hg, hB, hS⟩ := hcut
    obtain ⟨⟨r0, r1, r2, r3⟩, ⟨s0, s1, s2, s3⟩, f2, f3⟩ := HZ.out _ hB
    have f20 := f2 0
    have f21 := f2 1
    have f22 := f2 2
    have f23 := f2 3
    have f30 := f3 0
    have f31 := f3 1
    have f32 := f3 2
    have f33 := f3 3
    have hne : ¬ w.heap.size + 1 + 1 = g := by omega
    have hne2 : ¬ w.heap.size + 1 + 1 + 1 = g := by omega
    have HB := hide hB
    clear f2 f3 HZ H14 H15 hB HS0 HS1 HF
    go_wp2
    have T := set8 (x := .int .i64 A) (y := .int .i64 C) (z := .string OP) (t := .int .i64 WH) (a := .int .u64 nn) (b := .bool false) (c := .slice none 0 0) (d := .slice none 0 0) (by omega) r0 r1 r2 r3 s0 s1 s2 s3 _ rfl
    obtain ⟨⟨t0, t1, t2, t3⟩, u0, u1, u2, u3⟩ := T
    have hBB : Below w.heap.size w wc := HR.out.trans (HB.out.mono (by omega))
    exact bodyPost_ret (v := .tuple #[.agg #[.int .i64 A, .int .i64 C, .string OP, .int .i64 WH], .agg #[.int .u64 nn, .bool false, .slice none 0 0, .slice none 0 0]]) (by simp [results, Tryz.results96, go_sem, t0, t1, t2, t3, u0, u1, u2, u3]) rfl
      ⟨rfl, (((((((hBB.setCell (by simp; omega) _).setCell (by simp; omega) _).setCell (by simp; omega) _).setCell (by simp; omega) _).setCell (by simp; omega) _).setCell (by simp; omega) _).setCell (by simp; omega) _).setCell (by simp; omega) _⟩
set_option maxRecDepth 100000 in
set_option maxHeartbeats 8000000 in
theorem read_num1 (v : Value) (l : List Int) (a wh M MM E A C WH nn : Int) (op OP : ByteArray) (w : World) (hv : Sl bc w v l)
    (H15 : Hid (∀ W, Calls Tryz.prog 122 #[.int .i64 M] W fun e w' => e = .returned (.int .u64 MM) ∧ w' = W))
    (H14 : Hid (∀ W, Sl bc W v l → Calls Tryz.prog 121 #[v, .agg #[.int .i64 a, .int .i64 0, .string op, .int .i64 wh], .int .u64 MM] W fun e w' => e = .returned (.tuple #[.agg #[.int .i64 A, .int .i64 C, .string OP, .int .i64 WH], .int .u64 nn]) ∧ Below W.heap.size W w')) :
    Calls Tryz.prog 96 #[v, .agg #[.int .i64 a, .int .i64 0, .string op, .int .i64 wh], .agg #[.int .i64 1, .int .i64 M, .int .i64 E]] w fun e w' => e = .returned (.tuple #[.agg #[.int .i64 A, .int .i64 C, .string OP, .int .i64 WH], .agg #[.int .u64 nn, .bool false, .slice none 0 0, .slice none 0 0]]) ∧ Below w.heap.size w w' := by
  have HV := hide hv
  clear hv
  have hF := raW_cells w a 0 wh 1 M E op
  have HZ := hide (raW_outs w a 0 wh 1 M E op)
  have HR := hide (raW_below w a 0 wh 1 M E op)
  have hz := raW_size w a 0 wh 1 M E op
  have HS0 := hide (hs_drew hF (by omega))
  have HS1 := hide (hs_first hF (by omega))
  have HF := hide hF
  clear hF
  go_enter Tryz.func96, Tryz.ntmps96
  go_upto_region 6 with fail
  go_cut [8, 9] (fun p k W => ∃ g, p = .pointer (some ⟨g, 0, none⟩) ∧ k = .int .u64 nn ∧ (W.cell? ⟨g, 0, none⟩ = some (.int .i64 A) ∧ W.cell? ⟨g, 1, none⟩ = some (.int .i64 C) ∧ W.cell? ⟨g, 2, none⟩ = some (.string OP) ∧ W.cell? ⟨g, 3, none⟩ = some (.int .i64 WH)) ∧ w.heap.size + 4 ≤ g ∧ Below (w.heap.size + 4) (raW w a 0 wh 1 M E op) W ∧ w.heap.size + 4 ≤ W.heap.size)
  case first =>
    go_region_held3 (fun W => (W.cell? ⟨w.heap.size, 0, none⟩ = some (.int .i64 a) ∧ W.cell? ⟨w.heap.size, 1, none⟩ = some (.int .i64 0) ∧ W.cell? ⟨w.heap.size, 2, none⟩ = some (.string op) ∧ W.cell? ⟨w.heap.size, 3, none⟩ = some (.int .i64 wh) ∧ W.cell? ⟨w.heap.size + 1, 1, none⟩ = some (.int .i64 M)) ∧ Below (w.heap.size + 4) (raW w a 0 wh 1 M E op) W ∧ w.heap.size + 4 ≤ W.heap.size)
      (first | with_reducible assumption | with_reducible exact hs_call HF.out (by assumption) (by assumption) | with_reducible exact hs_alloc HF.out (by assumption) | with_reducible exact hs_set4 HF.out (by simp) (by assumption) | with_reducible exact hs_alloc HF.out KW.out | exact HS0.out | exact HS1.out _)
      (first
        | (go_at_call 122; refine (H15.out _).mono ?_; rintro e w' ⟨rfl, rfl⟩)
        | (go_at_call 121; refine (H14.out _ ?_).mono ?_; exact HV.out.below (HR.out.trans (Below.mono (And.left (And.right (by assumption))) (by omega))); rintro e w' ⟨rfl, hb⟩; obtain ⟨hcc, hf⟩ := bcell hb; have KW := hide (hs_call HF.out hb (by assumption))))
    all_goals go_wp2_with fail
    all_goals go_meet
    · exact ⟨_, rfl, rfl, ⟨by simp, by simp, by simp, by simp⟩, KW.out.2.2, (hs_alloc HF.out KW.out).2⟩
    all_goals
      have q0 : w'.cell? ⟨w.heap.size + 1 + 1 + 1 + 1, 0, none⟩ = some (.int .i64 0) := by rw [hcc _ _ (by simp)]; simp [go_sem]
      have q1 : w'.cell? ⟨w.heap.size + 1 + 1 + 1 + 1, 1, none⟩ = some (.int .i64 0) := by rw [hcc _ _ (by simp)]; simp [go_sem]
      have q2 : w'.cell? ⟨w.heap.size + 1 + 1 + 1 + 1, 2, none⟩ = some (.string ⟨#[]⟩) := by rw [hcc _ _ (by simp)]; simp [go_sem]
      have q3 : w'.cell? ⟨w.heap.size + 1 + 1 + 1 + 1, 3, none⟩ = some (.int .i64 0) := by rw [hcc _ _ (by simp)]; simp [go_sem]
      have T := four_cells (x := .int .i64 A) (y := .int .i64 C) (z := .string OP) (t := .int .i64 WH) q0 q1 q2 q3
      exact ⟨_, rfl, rfl, ⟨T.1, T.2.1, T.2.2.1, T.2.2.2⟩, by simp, (hs_set4 HF.out (by simp) KW.out).2⟩
  case rest =>
    obtain ⟨g, rfl, rfl, ⟨c0, c1, c2, c3⟩, hg, hB, hS⟩ := hcut
    obtain ⟨⟨r0, r1, r2, r3⟩, ⟨s0, s1, s2, s3⟩, f2, f3⟩ := HZ.out _ hB
    have f20 := f2 0
    have f21 := f2 1
    have f22 := f2 2
    have f23 := f2 3
    have f30 := f3 0
    have f31 := f3 1
    have f32 := f3 2
    have f33 := f3 3
    have hne : ¬ w.heap.size + 1 + 1 = g := by omega
    have hne2 : ¬ w.heap.size + 1 + 1 + 1 = g := by omega
    have HB := hide hB
    clear f2 f3 HZ H14 H15 hB HS0 HS1 HF
    go_wp2
    have T := set8 (x := .int .i64 A) (y := .int .i64 C) (z := .string OP) (t := .int .i64 WH) (a := .int .u64 nn) (b := .bool false) (c := .slice none 0 0) (d := .slice none 0 0) (by omega) r0 r1 r2 r3 s0 s1 s2 s3 _ rfl
    obtain ⟨⟨t0, t1, t2, t3⟩, u0, u1, u2, u3⟩ := T
    have hBB : Below w.heap.size w wc := HR.out.trans (HB.out.mono (by omega))
    exact bodyPost_ret (v := .tuple #[.agg #[.int .i64 A, .int .i64 C, .string OP, .int .i64 WH], .agg #[.int .u64 nn, .bool false, .slice none 0 0, .slice none 0 0]]) (by simp [results, Tryz.results96, go_sem, t0, t1, t2, t3, u0, u1, u2, u3]) rfl
      ⟨rfl, (((((((hBB.setCell (by simp; omega) _).setCell (by simp; omega) _).setCell (by simp; omega) _).setCell (by simp; omega) _).setCell (by simp; omega) _).setCell (by simp; omega) _).setCell (by simp; omega) _).setCell (by simp; omega) _⟩
theorem cell4 {w : World} {p : Addr} {x : Value} (h : w.cell? p = some x) (o1 o2 o3 o4 : Obj) : ((((w.alloc o1).alloc o2).alloc o3).alloc o4).cell? p = some x :=
  (((((Below.refl w.heap.size w).alloc (Nat.le_refl _) o1).alloc (by simp) o2).alloc (by simp; omega) o3).alloc (by simp; omega) o4 |>.cell (cell_block h)).trans h
set_option maxRecDepth 100000 in
set_option maxHeartbeats 8000000 in
theorem read_err (v : Value) (a c wh K M E : Int) (op : ByteArray) (w : World) (hc : (c != 0) = true) :
    Calls Tryz.prog 96 #[v, .agg #[.int .i64 a, .int .i64 c, .string op, .int .i64 wh], .agg #[.int .i64 K, .int .i64 M, .int .i64 E]] w fun e w' => e = .returned (.tuple #[.agg #[.int .i64 a, .int .i64 c, .string op, .int .i64 wh], .agg #[.int .u64 0, .bool false, .slice none 0 0, .slice none 0 0]]) ∧ Below w.heap.size w w' := by
  go_enter Tryz.func96, Tryz.ntmps96
  go_wp2
  exact bodyPost_ret (v := .tuple #[.agg #[.int .i64 a, .int .i64 c, .string op, .int .i64 wh], .agg #[.int .u64 0, .bool false, .slice none 0 0, .slice none 0 0]]) (by simp [results, Tryz.results96, go_sem]) rfl
    ⟨rfl, ((((Below.refl _ _).alloc (Nat.le_refl _) _).alloc (by simp) _).alloc (by simp; omega) _).alloc (by simp; omega) _⟩
set_option maxRecDepth 100000 in
set_option maxHeartbeats 8000000 in
theorem read_flag_short (ao : Option Addr) (L cap : Nat) (a wh M E : Int) (op : ByteArray) (w : World) (ha : ¬ a < (L : Int)) :
    Calls Tryz.prog 96 #[.slice ao L cap, .agg #[.int .i64 a, .int .i64 0, .string op, .int .i64 wh], .agg #[.int .i64 2, .int .i64 M, .int .i64 E]] w fun e w' => e = .returned (.tuple #[.agg #[.int .i64 a, .int .i64 3, .string ⟨#[102, 108, 97, 103]⟩, .int .i64 a], .agg #[.int .u64 0, .bool false, .slice none 0 0, .slice none 0 0]]) ∧ Below w.heap.size w w' := by
  have HC := hide (fun W => bad_any a 0 wh a 3 op ⟨#[102, 108, 97, 103]⟩ W rfl)
  unfold stv at HC
  go_enter Tryz.func96, Tryz.ntmps96
  go_wp2_with fail
  refine (HC.out _).mono ?_
  rintro e w' ⟨rfl, hb⟩
  have hB0 : Below (w.heap.size + 4) (raW w a 0 wh 2 M E op) w' := hb.mono (by first | simp | simp [raW_size])
  obtain ⟨⟨r0, r1, r2, r3⟩, ⟨s0, s1, s2, s3⟩, f2, f3⟩ := raW_outs w a 0 wh 2 M E op _ hB0
  have f20 := f2 0
  have f21 := f2 1
  have f22 := f2 2
  have f23 := f2 3
  have f30 := f3 0
  have f31 := f3 1
  have f32 := f3 2
  have f33 := f3 3
  have HB := hide hB0
  clear f2 f3 hb hB0
  go_wp2
  have T := set8 (x := .int .i64 a) (y := .int .i64 3) (z := .string ⟨#[102, 108, 97, 103]⟩) (t := .int .i64 a) (a := .int .u64 0) (b := .bool false) (c := .slice none 0 0) (d := .slice none 0 0) (by omega) r0 r1 r2 r3 s0 s1 s2 s3 _ rfl
  obtain ⟨⟨t0, t1, t2, t3⟩, u0, u1, u2, u3⟩ := T
  have hBB : Below w.heap.size w w' := (raW_below w a 0 wh 2 M E op).trans (HB.out.mono (by omega))
  exact bodyPost_ret (v := .tuple #[.agg #[.int .i64 a, .int .i64 3, .string ⟨#[102, 108, 97, 103]⟩, .int .i64 a], .agg #[.int .u64 0, .bool false, .slice none 0 0, .slice none 0 0]]) (by simp [results, Tryz.results96, go_sem, t0, t1, t2, t3, u0, u1, u2, u3]) rfl
    ⟨rfl, (((((((hBB.setCell (by simp; omega) _).setCell (by simp; omega) _).setCell (by simp; omega) _).setCell (by simp; omega) _).setCell (by simp; omega) _).setCell (by simp; omega) _).setCell (by simp; omega) _).setCell (by simp; omega) _⟩
set_option maxRecDepth 100000 in
set_option maxHeartbeats 8000000 in
theorem read_flag_kind (b o L cap a : Nat) (x wh M E : Int) (op : ByteArray) (w : World) (ha : a < L) (hx : 1 < x) (hc : w.cell? ⟨b, o + a, none⟩ = some (.int .u8 x)) :
    Calls Tryz.prog 96 #[.slice (some ⟨b, o, none⟩) L cap, .agg #[.int .i64 a, .int .i64 0, .string op, .int .i64 wh], .agg #[.int .i64 2, .int .i64 M, .int .i64 E]] w fun e w' => e = .returned (.tuple #[.agg #[.int .i64 a, .int .i64 5, .string ⟨#[102, 108, 97, 103]⟩, .int .i64 a], .agg #[.int .u64 0, .bool false, .slice none 0 0, .slice none 0 0]]) ∧ Below w.heap.size w w' := by
  have hc4 := cell4 hc
  have HC := hide (fun W => bad_any a 0 wh a 5 op ⟨#[102, 108, 97, 103]⟩ W rfl)
  unfold stv at HC
  go_enter Tryz.func96, Tryz.ntmps96
  go_wp2_with fail
  refine (HC.out _).mono ?_
  rintro e w' ⟨rfl, hb⟩
  have hB0 : Below (w.heap.size + 4) (raW w a 0 wh 2 M E op) w' := hb.mono (by first | simp | simp [raW_size])
  obtain ⟨⟨r0, r1, r2, r3⟩, ⟨s0, s1, s2, s3⟩, f2, f3⟩ := raW_outs w a 0 wh 2 M E op _ hB0
  have f20 := f2 0
  have f21 := f2 1
  have f22 := f2 2
  have f23 := f2 3
  have f30 := f3 0
  have f31 := f3 1
  have f32 := f3 2
  have f33 := f3 3
  have HB := hide hB0
  clear f2 f3 hb hB0
  go_wp2
  have T := set8 (x := .int .i64 a) (y := .int .i64 5) (z := .string ⟨#[102, 108, 97, 103]⟩) (t := .int .i64 a) (a := .int .u64 0) (b := .bool false) (c := .slice none 0 0) (d := .slice none 0 0) (by omega) r0 r1 r2 r3 s0 s1 s2 s3 _ rfl
  obtain ⟨⟨t0, t1, t2, t3⟩, u0, u1, u2, u3⟩ := T
  have hBB : Below w.heap.size w w' := (raW_below w a 0 wh 2 M E op).trans (HB.out.mono (by omega))
  exact bodyPost_ret (v := .tuple #[.agg #[.int .i64 a, .int .i64 5, .string ⟨#[102, 108, 97, 103]⟩, .int .i64 a], .agg #[.int .u64 0, .bool false, .slice none 0 0, .slice none 0 0]]) (by simp [results, Tryz.results96, go_sem, t0, t1, t2, t3, u0, u1, u2, u3]) rfl
    ⟨rfl, (((((((hBB.setCell (by simp; omega) _).setCell (by simp; omega) _).setCell (by simp; omega) _).setCell (by simp; omega) _).setCell (by simp; omega) _).setCell (by simp; omega) _).setCell (by simp; omega) _).setCell (by simp; omega) _⟩
set_option maxRecDepth 100000 in
set_option maxHeartbeats 8000000 in
theorem read_flag_ok (b o L cap a : Nat) (x wh M E : Int) (op : ByteArray) (w : World) (ha : a < L) (hL : L ≤ 10000) (hx : ¬ 1 < x) (hc : w.cell? ⟨b, o + a, none⟩ = some (.int .u8 x)) :
    Calls Tryz.prog 96 #[.slice (some ⟨b, o, none⟩) L cap, .agg #[.int .i64 a, .int .i64 0, .string op, .int .i64 wh], .agg #[.int .i64 2, .int .i64 M, .int .i64 E]] w fun e w' => e = .returned (.tuple #[.agg #[.int .i64 (a + 1 : Nat), .int .i64 0, .string ⟨#[]⟩, .int .i64 0], .agg #[.int .u64 0, .bool (x == 1), .slice none 0 0, .slice none 0 0]]) ∧ Below w.heap.size w w' := by
  have hc4 := cell4 hc
  go_enter Tryz.func96, Tryz.ntmps96
  go_wp2
  go_region
  go_wp2
  exact bodyPost_ret (v := .tuple #[.agg #[.int .i64 (a + 1 : Nat), .int .i64 0, .string ⟨#[]⟩, .int .i64 0], .agg #[.int .u64 0, .bool (x == 1), .slice none 0 0, .slice none 0 0]]) (by simp [results, Tryz.results96, go_sem]) rfl
    ⟨rfl, (((((Below.refl _ _).alloc (Nat.le_refl _) _).alloc (by simp) _).alloc (by simp; omega) _).alloc (by simp; omega) _).drew⟩
set_option maxRecDepth 100000 in
set_option maxHeartbeats 8000000 in
theorem read_text (v : Value) (a wh M E A C WH : Int) (t : List Int) (op OP : ByteArray) (lo : Nat) (w : World) (hlo : lo ≤ w.heap.size)
    (HC : Hid (∀ W, Below w.heap.size w W → Calls Tryz.prog 123 #[v, .agg #[.int .i64 a, .int .i64 0, .string op, .int .i64 wh], .int .i64 M] W fun e w' => ∃ u, e = .returned (.tuple #[.agg #[.int .i64 A, .int .i64 C, .string OP, .int .i64 WH], u]) ∧ Sld lo W.heap.size bc w' u t ∧ Below W.heap.size W w')) :
    Calls Tryz.prog 96 #[v, .agg #[.int .i64 a, .int .i64 0, .string op, .int .i64 wh], .agg #[.int .i64 3, .int .i64 M, .int .i64 E]] w fun e w' => ∃ u, e = .returned (.tuple #[.agg #[.int .i64 A, .int .i64 C, .string OP, .int .i64 WH], .agg #[.int .u64 0, .bool false, u, .slice none 0 0]]) ∧ Sld lo w.heap.size bc w' u t ∧ Below w.heap.size w w' := by
  have HRB := hide (raW_below w a 0 wh 3 M E op)
  go_enter Tryz.func96, Tryz.ntmps96
  go_wp2_with fail
  refine (HC.out _ HRB.out).mono ?_
  rintro e w' ⟨u, rfl, hsu, hb⟩
  obtain ⟨ao', cap', hV⟩ := hsu.sl.form
  subst hV
  have hB0 : Below (w.heap.size + 4) (raW w a 0 wh 3 M E op) w' := hb.mono (by first | simp | simp [raW_size])
  obtain ⟨⟨r0, r1, r2, r3⟩, ⟨s0, s1, s2, s3⟩, f2, f3⟩ := raW_outs w a 0 wh 3 M E op _ hB0
  have f20 := f2 0
  have f21 := f2 1
  have f22 := f2 2
  have f23 := f2 3
  have f30 := f3 0
  have f31 := f3 1
  have f32 := f3 2
  have f33 := f3 3
  have HB := hide hB0
  clear f2 f3 hb hB0
  have hz2 : w.heap.size + 1 + 1 < w'.heap.size := cell_block r0
  have hz3 : w.heap.size + 1 + 1 + 1 < w'.heap.size := cell_block s0
  have HSU := hide hsu
  clear hsu
  go_wp2
  have T := set8 (x := .int .i64 A) (y := .int .i64 C) (z := .string OP) (t := .int .i64 WH) (a := .int .u64 0) (b := .bool false) (c := .slice ao' t.length cap') (d := .slice none 0 0) (by omega) r0 r1 r2 r3 s0 s1 s2 s3
  have hB1 : Below w.heap.size w w' := (raW_below w a 0 wh 3 M E op).trans (HB.out.mono (by omega))
  have hS := HSU.out
  rw [raW_size] at hS
  have l1 : w.heap.size ≤ w.heap.size + 1 + 1 := by omega
  have l2 : w.heap.size + 1 + 1 < w.heap.size + 4 := by omega
  have l3 : w.heap.size ≤ w.heap.size + 1 + 1 + 1 := by omega
  have l4 : w.heap.size + 1 + 1 + 1 < w.heap.size + 4 := by omega
  have k1 : lo ≤ w.heap.size + 1 + 1 := by omega
  have k3 : lo ≤ w.heap.size + 1 + 1 + 1 := by omega
  have hfin := ((((((((hS.set 0 (.int .i64 A) k1 l2).set 1 (.int .i64 C) k1 l2).set 2 (.string OP) k1 l2).set 3 (.int .i64 WH) k1 l2).set 0 (.int .u64 0) k3 l4).set 1 (.bool false) k3 l4).set 2 (.slice ao' t.length cap') k3 l4).set 3 (.slice none 0 0) k3 l4).more (show w.heap.size ≤ w.heap.size + 4 by omega)
  have hBfin := (((((((hB1.setCell (p := ⟨w.heap.size + 1 + 1, 0, none⟩) l1 (.int .i64 A)).setCell (p := ⟨w.heap.size + 1 + 1, 1, none⟩) l1 (.int .i64 C)).setCell (p := ⟨w.heap.size + 1 + 1, 2, none⟩) l1 (.string OP)).setCell (p := ⟨w.heap.size + 1 + 1, 3, none⟩) l1 (.int .i64 WH)).setCell (p := ⟨w.heap.size + 1 + 1 + 1, 0, none⟩) l3 (.int .u64 0)).setCell (p := ⟨w.heap.size + 1 + 1 + 1, 1, none⟩) l3 (.bool false)).setCell (p := ⟨w.heap.size + 1 + 1 + 1, 2, none⟩) l3 (.slice ao' t.length cap')).setCell (p := ⟨w.heap.size + 1 + 1 + 1, 3, none⟩) l3 (.slice none 0 0)
  obtain ⟨WF, hWF⟩ : ∃ WF, WF = (((((((w'.setCell ⟨w.heap.size + 1 + 1, 0, none⟩ (.int .i64 A)).setCell ⟨w.heap.size + 1 + 1, 1, none⟩ (.int .i64 C)).setCell ⟨w.heap.size + 1 + 1, 2, none⟩ (.string OP)).setCell ⟨w.heap.size + 1 + 1, 3, none⟩ (.int .i64 WH)).setCell ⟨w.heap.size + 1 + 1 + 1, 0, none⟩ (.int .u64 0)).setCell ⟨w.heap.size + 1 + 1 + 1, 1, none⟩ (.bool false)).setCell ⟨w.heap.size + 1 + 1 + 1, 2, none⟩ (.slice ao' t.length cap')).setCell ⟨w.heap.size + 1 + 1 + 1, 3, none⟩ (.slice none 0 0) := ⟨_, rfl⟩
  obtain ⟨⟨t0, t1, t2, t3⟩, u0, u1, u2, u3⟩ := T WF hWF
  rw [← hWF] at hfin hBfin ⊢
  have z2 : w.heap.size + 1 + 1 < WF.heap.size := cell_block t0
  have z3 : w.heap.size + 1 + 1 + 1 < WF.heap.size := cell_block u0
  exact bodyPost_ret (v := .tuple #[.agg #[.int .i64 A, .int .i64 C, .string OP, .int .i64 WH], .agg #[.int .u64 0, .bool false, .slice ao' t.length cap', .slice none 0 0]]) (by simp [results, Tryz.results96, go_sem, t0, t1, t2, t3, u0, u1, u2, u3, z2, z3]) rfl
    ⟨_, rfl, hfin.below ((Below.refl _ WF).alloc (Nat.le_refl _) _), hBfin.alloc hBfin.size _⟩
set_option maxRecDepth 100000 in
set_option maxHeartbeats 8000000 in
theorem read_row (v : Value) (a wh K M E A C WH : Int) (t : List Int) (op OP : ByteArray) (lo : Nat) (w : World) (hlo : lo ≤ w.heap.size) (k0 : (K == 0) = false) (k1 : (K == 1) = false) (k2 : (K == 2) = false) (k3 : (K == 3) = false)
    (HC : Hid (∀ W, Below w.heap.size w W → Calls Tryz.prog 124 #[v, .agg #[.int .i64 a, .int .i64 0, .string op, .int .i64 wh], .int .i64 M, .int .i64 E] W fun e w' => ∃ u, e = .returned (.tuple #[.agg #[.int .i64 A, .int .i64 C, .string OP, .int .i64 WH], u]) ∧ Sld lo W.heap.size ic w' u t ∧ Below W.heap.size W w')) :
    Calls Tryz.prog 96 #[v, .agg #[.int .i64 a, .int .i64 0, .string op, .int .i64 wh], .agg #[.int .i64 K, .int .i64 M, .int .i64 E]] w fun e w' => ∃ u, e = .returned (.tuple #[.agg #[.int .i64 A, .int .i64 C, .string OP, .int .i64 WH], .agg #[.int .u64 0, .bool false, .slice none 0 0, u]]) ∧ Sld lo w.heap.size ic w' u t ∧ Below w.heap.size w w' := by
  have HRB := hide (raW_below w a 0 wh K M E op)
  go_enter Tryz.func96, Tryz.ntmps96
  go_wp2_with fail
  refine (HC.out _ HRB.out).mono ?_
  rintro e w' ⟨u, rfl, hsu, hb⟩
  obtain ⟨ao', cap', hV⟩ := hsu.sl.form
  subst hV
  have hB0 : Below (w.heap.size + 4) (raW w a 0 wh K M E op) w' := hb.mono (by first | simp | simp [raW_size])
  obtain ⟨⟨r0, r1, r2, r3⟩, ⟨s0, s1, s2, s3⟩, f2, f3⟩ := raW_outs w a 0 wh K M E op _ hB0
  have f20 := f2 0
  have f21 := f2 1
  have f22 := f2 2
  have f23 := f2 3
  have f30 := f3 0
  have f31 := f3 1
  have f32 := f3 2
  have f33 := f3 3
  have HB := hide hB0
  clear f2 f3 hb hB0
  have hz2 : w.heap.size + 1 + 1 < w'.heap.size := cell_block r0
  have hz3 : w.heap.size + 1 + 1 + 1 < w'.heap.size := cell_block s0
  have HSU := hide hsu
  clear hsu
  go_wp2
  have T := set8 (x := .int .i64 A) (y := .int .i64 C) (z := .string OP) (t := .int .i64 WH) (a := .int .u64 0) (b := .bool false) (c := .slice none 0 0) (d := .slice ao' t.length cap') (by omega) r0 r1 r2 r3 s0 s1 s2 s3
  have hB1 : Below w.heap.size w w' := (raW_below w a 0 wh K M E op).trans (HB.out.mono (by omega))
  have hS := HSU.out
  rw [raW_size] at hS
  have l1 : w.heap.size ≤ w.heap.size + 1 + 1 := by omega
  have l2 : w.heap.size + 1 + 1 < w.heap.size + 4 := by omega
  have l3 : w.heap.size ≤ w.heap.size + 1 + 1 + 1 := by omega
  have l4 : w.heap.size + 1 + 1 + 1 < w.heap.size + 4 := by omega
  have k1 : lo ≤ w.heap.size + 1 + 1 := by omega
  have k3 : lo ≤ w.heap.size + 1 + 1 + 1 := by omega
  have hfin := ((((((((hS.set 0 (.int .i64 A) k1 l2).set 1 (.int .i64 C) k1 l2).set 2 (.string OP) k1 l2).set 3 (.int .i64 WH) k1 l2).set 0 (.int .u64 0) k3 l4).set 1 (.bool false) k3 l4).set 2 (.slice none 0 0) k3 l4).set 3 (.slice ao' t.length cap') k3 l4).more (show w.heap.size ≤ w.heap.size + 4 by omega)
  have hBfin := (((((((hB1.setCell (p := ⟨w.heap.size + 1 + 1, 0, none⟩) l1 (.int .i64 A)).setCell (p := ⟨w.heap.size + 1 + 1, 1, none⟩) l1 (.int .i64 C)).setCell (p := ⟨w.heap.size + 1 + 1, 2, none⟩) l1 (.string OP)).setCell (p := ⟨w.heap.size + 1 + 1, 3, none⟩) l1 (.int .i64 WH)).setCell (p := ⟨w.heap.size + 1 + 1 + 1, 0, none⟩) l3 (.int .u64 0)).setCell (p := ⟨w.heap.size + 1 + 1 + 1, 1, none⟩) l3 (.bool false)).setCell (p := ⟨w.heap.size + 1 + 1 + 1, 2, none⟩) l3 (.slice none 0 0)).setCell (p := ⟨w.heap.size + 1 + 1 + 1, 3, none⟩) l3 (.slice ao' t.length cap')
  obtain ⟨WF, hWF⟩ : ∃ WF, WF = (((((((w'.setCell ⟨w.heap.size + 1 + 1, 0, none⟩ (.int .i64 A)).setCell ⟨w.heap.size + 1 + 1, 1, none⟩ (.int .i64 C)).setCell ⟨w.heap.size + 1 + 1, 2, none⟩ (.string OP)).setCell ⟨w.heap.size + 1 + 1, 3, none⟩ (.int .i64 WH)).setCell ⟨w.heap.size + 1 + 1 + 1, 0, none⟩ (.int .u64 0)).setCell ⟨w.heap.size + 1 + 1 + 1, 1, none⟩ (.bool false)).setCell ⟨w.heap.size + 1 + 1 + 1, 2, none⟩ (.slice none 0 0)).setCell ⟨w.heap.size + 1 + 1 + 1, 3, none⟩ (.slice ao' t.length cap') := ⟨_, rfl⟩
  obtain ⟨⟨t0, t1, t2, t3⟩, u0, u1, u2, u3⟩ := T WF hWF
  rw [← hWF] at hfin hBfin ⊢
  have z2 : w.heap.size + 1 + 1 < WF.heap.size := cell_block t0
  have z3 : w.heap.size + 1 + 1 + 1 < WF.heap.size := cell_block u0
  exact bodyPost_ret (v := .tuple #[.agg #[.int .i64 A, .int .i64 C, .string OP, .int .i64 WH], .agg #[.int .u64 0, .bool false, .slice none 0 0, .slice ao' t.length cap']]) (by simp [results, Tryz.results96, go_sem, t0, t1, t2, t3, u0, u1, u2, u3, z2, z3]) rfl
    ⟨_, rfl, hfin.below ((Below.refl _ WF).alloc (Nat.le_refl _) _), hBfin.alloc hBfin.size _⟩
end Go.Proofs.YtgbcjmpnkejpeaaGreatDoor
