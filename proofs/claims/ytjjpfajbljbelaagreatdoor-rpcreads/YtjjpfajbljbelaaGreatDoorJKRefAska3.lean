/-
  THE DOCUMENT's NEXT THING (castellanref02.Read), out of what its num, text and row tell. Conditions: the bytes' cells hold them, no more than four thousand.
  THE DOCUMENT's NEXT THING, WHATEVER IS ASKED: the same function 'askS' of the bytes that a reader's answers are. Conditions: the bytes' cells hold them, no more than four thousand.
  A CURSOR (castellanref05.Cursor): its cells, and what its methods read: what the mathematics says. Conditions: its bytes' cells hold them; no more than four thousand bytes.
-/
import Derived.Test.YtjjpfajbljbelaaGreatDoorJKRefRow
namespace Go.Proofs.YtjjpfajbljbelaaGreatDoor
open Go.RowKit
set_option maxRecDepth 100000
set_option maxHeartbeats 8000000
def raW (w : World) (a c wh K M E : Int) (op : ByteArray) : World :=
 (((w.alloc (.cells #[.int .i64 a, .int .i64 c, .string op, .int .i64 wh] 66)).alloc (.cells #[.int .i64 K, .int .i64 M, .int .i64 E] 114)).alloc (.cells #[.int .i64 0, .int .i64 0, .string ⟨#[]⟩, .int .i64 0] 66)).alloc (.cells #[.int .u64 0, .bool false, .slice none 0 0, .slice none 0 0] 110)
theorem raW_below (w : World) (a c wh K M E : Int) (op : ByteArray) : Below w.heap.size w (raW w a c wh K M E op) :=
 ((((Below.refl _ _).alloc (Nat.le_refl _) _).alloc (by simp) _).alloc (by simp; omega) _).alloc (by simp; omega) _
theorem raW_size (w : World) (a c wh K M E : Int) (op : ByteArray) : (raW w a c wh K M E op).heap.size = w.heap.size + 4 := by simp [raW, go_sem]
theorem raW_cells (w : World) (a c wh K M E : Int) (op : ByteArray) : ∀ W, Below (w.heap.size + 4) (raW w a c wh K M E op) W →
  (W.cell? ⟨w.heap.size, 0, none⟩ = some (.int .i64 a) ∧ W.cell? ⟨w.heap.size, 1, none⟩ = some (.int .i64 c) ∧ W.cell? ⟨w.heap.size, 2, none⟩ = some (.string op) ∧ W.cell? ⟨w.heap.size, 3, none⟩ = some (.int .i64 wh) ∧ W.cell? ⟨w.heap.size + 1, 1, none⟩ = some (.int .i64 M)) := by
 intro W hb
 refine ⟨?_, ?_, ?_, ?_, ?_⟩
 ·rw [hb.cell (p := ⟨w.heap.size, 0, none⟩) (by show w.heap.size < _; omega)]; simp [raW, go_sem]
 ·rw [hb.cell (p := ⟨w.heap.size, 1, none⟩) (by show w.heap.size < _; omega)]; simp [raW, go_sem]
 ·rw [hb.cell (p := ⟨w.heap.size, 2, none⟩) (by show w.heap.size < _; omega)]; simp [raW, go_sem]
 ·rw [hb.cell (p := ⟨w.heap.size, 3, none⟩) (by show w.heap.size < _; omega)]; simp [raW, go_sem]
 ·rw [hb.cell (p := ⟨w.heap.size + 1, 1, none⟩) (by show w.heap.size + 1 < _; omega)]; simp [raW, go_sem]
theorem raW_outs (w : World) (a c wh K M E : Int) (op : ByteArray) : ∀ W, Below (w.heap.size + 4) (raW w a c wh K M E op) W →
  (W.cell? ⟨w.heap.size + 1 + 1, 0, none⟩ = some (.int .i64 0) ∧ W.cell? ⟨w.heap.size + 1 + 1, 1, none⟩ = some (.int .i64 0) ∧ W.cell? ⟨w.heap.size + 1 + 1, 2, none⟩ = some (.string ⟨#[]⟩) ∧ W.cell? ⟨w.heap.size + 1 + 1, 3, none⟩ = some (.int .i64 0)) ∧
  (W.cell? ⟨w.heap.size + 1 + 1 + 1, 0, none⟩ = some (.int .u64 0) ∧ W.cell? ⟨w.heap.size + 1 + 1 + 1, 1, none⟩ = some (.bool false) ∧ W.cell? ⟨w.heap.size + 1 + 1 + 1, 2, none⟩ = some (.slice none 0 0) ∧ W.cell? ⟨w.heap.size + 1 + 1 + 1, 3, none⟩ = some (.slice none 0 0)) ∧
  (∀ i, W.frozen? ⟨w.heap.size + 1 + 1, i, none⟩ = false) ∧ (∀ i, W.frozen? ⟨w.heap.size + 1 + 1 + 1, i, none⟩ = false) := by
 intro W hb
 have c2 : ∀ i, W.cell? ⟨w.heap.size + 1 + 1, i, none⟩ = (raW w a c wh K M E op).cell? ⟨w.heap.size + 1 + 1, i, none⟩ := fun i => hb.cell (p := ⟨w.heap.size + 1 + 1, i, none⟩) (by show w.heap.size + 1 + 1 < _; omega)
 have c3 : ∀ i, W.cell? ⟨w.heap.size + 1 + 1 + 1, i, none⟩ = (raW w a c wh K M E op).cell? ⟨w.heap.size + 1 + 1 + 1, i, none⟩ := fun i => hb.cell (p := ⟨w.heap.size + 1 + 1 + 1, i, none⟩) (by show w.heap.size + 1 + 1 + 1 < _; omega)
 refine ⟨⟨?_, ?_, ?_, ?_⟩, ⟨?_, ?_, ?_, ?_⟩, fun i => ?_, fun i => ?_⟩
 ·rw [c2]; simp [raW, go_sem]
 ·rw [c2]; simp [raW, go_sem]
 ·rw [c2]; simp [raW, go_sem]
 ·rw [c2]; simp [raW, go_sem]
 ·rw [c3]; simp [raW, go_sem]
 ·rw [c3]; simp [raW, go_sem]
 ·rw [c3]; simp [raW, go_sem]
 ·rw [c3]; simp [raW, go_sem]
 ·rw [hb.frozen (p := ⟨w.heap.size + 1 + 1, i, none⟩) (by show w.heap.size + 1 + 1 < _; omega)]
  exact (((Below.refl _ (((w.alloc (.cells #[.int .i64 a, .int .i64 c, .string op, .int .i64 wh] 66)).alloc (.cells #[.int .i64 K, .int .i64 M, .int .i64 E] 114)).alloc (.cells #[.int .i64 0, .int .i64 0, .string ⟨#[]⟩, .int .i64 0] 66))).alloc (Nat.le_refl _) _).frozen (p := ⟨w.heap.size + 1 + 1, i, none⟩) (by simp)).trans (World.frozen?_alloc_at _ _ _ _ (by simp))
 ·rw [hb.frozen (p := ⟨w.heap.size + 1 + 1 + 1, i, none⟩) (by show w.heap.size + 1 + 1 + 1 < _; omega)]
  exact World.frozen?_alloc_at _ _ _ _ (by simp)
theorem read_num0 (v : Value) (l : List Int) (a wh M MM E A C WH nn : Int) (op OP : ByteArray) (w : World) (hv : Sl bc w v l)
  (H15 : Hid (∀ W, Calls Tryz.prog 86 #[.int .i64 M] W fun e w' => e = .returned (.int .u64 MM) ∧ w' = W))
  (H14 : Hid (∀ W, Sl bc W v l → Calls Tryz.prog 85 #[v, .agg #[.int .i64 a, .int .i64 0, .string op, .int .i64 wh], .int .u64 MM] W fun e w' => e = .returned (.tuple #[.agg #[.int .i64 A, .int .i64 C, .string OP, .int .i64 WH], .int .u64 nn]) ∧ Below W.heap.size W w')) :
  Calls Tryz.prog 56 #[v, .agg #[.int .i64 a, .int .i64 0, .string op, .int .i64 wh], .agg #[.int .i64 0, .int .i64 M, .int .i64 E]] w fun e w' => e = .returned (.tuple #[.agg #[.int .i64 A, .int .i64 C, .string OP, .int .i64 WH], .agg #[.int .u64 nn, .bool false, .slice none 0 0, .slice none 0 0]]) ∧ Below w.heap.size w w' := by
 have HV := hide hv
 clear hv
 have hF := raW_cells w a 0 wh 0 M E op
 have HZ := hide (raW_outs w a 0 wh 0 M E op)
 have HR := hide (raW_below w a 0 wh 0 M E op)
 have hz := raW_size w a 0 wh 0 M E op
 have HS0 := hide (hs_drew hF (by omega))
 have HS1 := hide (hs_first hF (by omega))
 have HF := hide hF
 clear hF
 go_enter Tryz.func56, Tryz.ntmps56
 go_upto_region 6 with fail
 go_cut [8, 9] (fun p k W => ∃ g, p = .pointer (some ⟨g, 0, none⟩) ∧ k = .int .u64 nn ∧ (W.cell? ⟨g, 0, none⟩ = some (.int .i64 A) ∧ W.cell? ⟨g, 1, none⟩ = some (.int .i64 C) ∧ W.cell? ⟨g, 2, none⟩ = some (.string OP) ∧ W.cell? ⟨g, 3, none⟩ = some (.int .i64 WH)) ∧ w.heap.size + 4 ≤ g ∧ Below (w.heap.size + 4) (raW w a 0 wh 0 M E op) W ∧ w.heap.size + 4 ≤ W.heap.size)
 case first =>
  go_region_held3 (fun W => (W.cell? ⟨w.heap.size, 0, none⟩ = some (.int .i64 a) ∧ W.cell? ⟨w.heap.size, 1, none⟩ = some (.int .i64 0) ∧ W.cell? ⟨w.heap.size, 2, none⟩ = some (.string op) ∧ W.cell? ⟨w.heap.size, 3, none⟩ = some (.int .i64 wh) ∧ W.cell? ⟨w.heap.size + 1, 1, none⟩ = some (.int .i64 M)) ∧ Below (w.heap.size + 4) (raW w a 0 wh 0 M E op) W ∧ w.heap.size + 4 ≤ W.heap.size)
   (first | with_reducible assumption | with_reducible exact hs_call HF.out (by assumption) (by assumption) | with_reducible exact hs_alloc HF.out (by assumption) | with_reducible exact hs_set4 HF.out (by simp) (by assumption) | with_reducible exact hs_alloc HF.out KW.out | exact HS0.out | exact HS1.out _)
   (first
    | (go_at_call 86; refine (H15.out _).mono ?_; rintro e w' ⟨rfl, rfl⟩)
    | (go_at_call 85; refine (H14.out _ ?_).mono ?_; exact HV.out.below (HR.out.trans (Below.mono (And.left (And.right (by assumption))) (by omega))); rintro e w' ⟨rfl, hb⟩; obtain ⟨hcc, hf⟩ := bcell hb; have KW := hide (hs_call HF.out hb (by assumption))))
  all_goals go_wp2_with fail
  all_goals go_meet
  ·exact ⟨_, rfl, rfl, ⟨by simp, by simp, by simp, by simp⟩, KW.out.2.2, (hs_alloc HF.out KW.out).2⟩
  all_goals
   have q0 : w'.cell? ⟨w.heap.size + 1 + 1 + 1 + 1, 0, none⟩ = some (.int .i64 0) := by rw [hcc _ _ (by simp)]; simp [go_sem]
   have q1 : w'.cell? ⟨w.heap.size + 1 + 1 + 1 + 1, 1, none⟩ = some (.int .i64 0) := by rw [hcc _ _ (by simp)]; simp [go_sem]
   have q2 : w'.cell? ⟨w.heap.size + 1 + 1 + 1 + 1, 2, none⟩ = some (.string ⟨#[]⟩) := by rw [hcc _ _ (by simp)]; simp [go_sem]
   have q3 : w'.cell? ⟨w.heap.size + 1 + 1 + 1 + 1, 3, none⟩ = some (.int .i64 0) := by rw [hcc _ _ (by simp)]; simp [go_sem]
   have T := four_cells (x := .int .i64 A) (y := .int .i64 C) (z := .string OP) (t := .int .i64 WH) q0 q1 q2 q3
   exact ⟨_, rfl, rfl, ⟨T.1, T.2.1, T.2.2.1, T.2.2.2⟩, by simp, (hs_set4 HF.out (by simp) KW.out).2⟩
 case rest =>
  obtain ⟨g, rfl, rfl, ⟨c0, c1, c2, c3⟩, hg, hB, hS⟩ := hcut
  obtain ⟨⟨r0, r1, r2, r3⟩, ⟨s0, s1, s2, s3⟩, f2, f3⟩ := HZ.out _ hB
  have f20 := f2 0
  have f21 := f2 1
  have f22 := f2 2
  have f23 := f2 3
  have f30 := f3 0
  have f31 := f3 1
  have f32 := f3 2
  have f33 := f3 3
  have hne : ¬ w.heap.size + 1 + 1 = g := by omega
  have hne2 : ¬ w.heap.size + 1 + 1 + 1 = g := by omega
  have HB := hide hB
  clear f2 f3 HZ H14 H15 hB HS0 HS1 HF
  go_wp2
  have T := set8 (x := .int .i64 A) (y := .int .i64 C) (z := .string OP) (t := .int .i64 WH) (a := .int .u64 nn) (b := .bool false) (c := .slice none 0 0) (d := .slice none 0 0) (by omega) r0 r1 r2 r3 s0 s1 s2 s3 _ rfl
  obtain ⟨⟨t0, t1, t2, t3⟩, u0, u1, u2, u3⟩ := T
  have hBB : Below w.heap.size w wc := HR.out.trans (HB.out.mono (by omega))
  exact bodyPost_ret (v := .tuple #[.agg #[.int .i64 A, .int .i64 C, .string OP, .int .i64 WH], .agg #[.int .u64 nn, .bool false, .slice none 0 0, .slice none 0 0]]) (by simp [results, Tryz.results56, go_sem, t0, t1, t2, t3, u0, u1, u2, u3]) rfl
   ⟨rfl, (((((((hBB.setCell (by simp; omega) _).setCell (by simp; omega) _).setCell (by simp; omega) _).setCell (by simp; omega) _).setCell (by simp; omega) _).setCell (by simp; omega) _).setCell (by simp; omega) _).setCell (by simp; omega) _⟩
theorem read_num1 (v : Value) (l : List Int) (a wh M MM E A C WH nn : Int) (op OP : ByteArray) (w : World) (hv : Sl bc w v l)
  (H15 : Hid (∀ W, Calls Tryz.prog 86 #[.int .i64 M] W fun e w' => e = .returned (.int .u64 MM) ∧ w' = W))
  (H14 : Hid (∀ W, Sl bc W v l → Calls Tryz.prog 85 #[v, .agg #[.int .i64 a, .int .i64 0, .string op, .int .i64 wh], .int .u64 MM] W fun e w' => e = .returned (.tuple #[.agg #[.int .i64 A, .int .i64 C, .string OP, .int .i64 WH], .int .u64 nn]) ∧ Below W.heap.size W w')) :
  Calls Tryz.prog 56 #[v, .agg #[.int .i64 a, .int .i64 0, .string op, .int .i64 wh], .agg #[.int .i64 1, .int .i64 M, .int .i64 E]] w fun e w' => e = .returned (.tuple #[.agg #[.int .i64 A, .int .i64 C, .string OP, .int .i64 WH], .agg #[.int .u64 nn, .bool false, .slice none 0 0, .slice none 0 0]]) ∧ Below w.heap.size w w' := by
 have HV := hide hv
 clear hv
 have hF := raW_cells w a 0 wh 1 M E op
 have HZ := hide (raW_outs w a 0 wh 1 M E op)
 have HR := hide (raW_below w a 0 wh 1 M E op)
 have hz := raW_size w a 0 wh 1 M E op
 have HS0 := hide (hs_drew hF (by omega))
 have HS1 := hide (hs_first hF (by omega))
 have HF := hide hF
 clear hF
 go_enter Tryz.func56, Tryz.ntmps56
 go_upto_region 6 with fail
 go_cut [8, 9] (fun p k W => ∃ g, p = .pointer (some ⟨g, 0, none⟩) ∧ k = .int .u64 nn ∧ (W.cell? ⟨g, 0, none⟩ = some (.int .i64 A) ∧ W.cell? ⟨g, 1, none⟩ = some (.int .i64 C) ∧ W.cell? ⟨g, 2, none⟩ = some (.string OP) ∧ W.cell? ⟨g, 3, none⟩ = some (.int .i64 WH)) ∧ w.heap.size + 4 ≤ g ∧ Below (w.heap.size + 4) (raW w a 0 wh 1 M E op) W ∧ w.heap.size + 4 ≤ W.heap.size)
 case first =>
  go_region_held3 (fun W => (W.cell? ⟨w.heap.size, 0, none⟩ = some (.int .i64 a) ∧ W.cell? ⟨w.heap.size, 1, none⟩ = some (.int .i64 0) ∧ W.cell? ⟨w.heap.size, 2, none⟩ = some (.string op) ∧ W.cell? ⟨w.heap.size, 3, none⟩ = some (.int .i64 wh) ∧ W.cell? ⟨w.heap.size + 1, 1, none⟩ = some (.int .i64 M)) ∧ Below (w.heap.size + 4) (raW w a 0 wh 1 M E op) W ∧ w.heap.size + 4 ≤ W.heap.size)
   (first | with_reducible assumption | with_reducible exact hs_call HF.out (by assumption) (by assumption) | with_reducible exact hs_alloc HF.out (by assumption) | with_reducible exact hs_set4 HF.out (by simp) (by assumption) | with_reducible exact hs_alloc HF.out KW.out | exact HS0.out | exact HS1.out _)
   (first
    | (go_at_call 86; refine (H15.out _).mono ?_; rintro e w' ⟨rfl, rfl⟩)
    | (go_at_call 85; refine (H14.out _ ?_).mono ?_; exact HV.out.below (HR.out.trans (Below.mono (And.left (And.right (by assumption))) (by omega))); rintro e w' ⟨rfl, hb⟩; obtain ⟨hcc, hf⟩ := bcell hb; have KW := hide (hs_call HF.out hb (by assumption))))
  all_goals go_wp2_with fail
  all_goals go_meet
  ·exact ⟨_, rfl, rfl, ⟨by simp, by simp, by simp, by simp⟩, KW.out.2.2, (hs_alloc HF.out KW.out).2⟩
  all_goals
   have q0 : w'.cell? ⟨w.heap.size + 1 + 1 + 1 + 1, 0, none⟩ = some (.int .i64 0) := by rw [hcc _ _ (by simp)]; simp [go_sem]
   have q1 : w'.cell? ⟨w.heap.size + 1 + 1 + 1 + 1, 1, none⟩ = some (.int .i64 0) := by rw [hcc _ _ (by simp)]; simp [go_sem]
   have q2 : w'.cell? ⟨w.heap.size + 1 + 1 + 1 + 1, 2, none⟩ = some (.string ⟨#[]⟩) := by rw [hcc _ _ (by simp)]; simp [go_sem]
   have q3 : w'.cell? ⟨w.heap.size + 1 + 1 + 1 + 1, 3, none⟩ = some (.int .i64 0) := by rw [hcc _ _ (by simp)]; simp [go_sem]
   have T := four_cells (x := .int .i64 A) (y := .int .i64 C) (z := .string OP) (t := .int .i64 WH) q0 q1 q2 q3
   exact ⟨_, rfl, rfl, ⟨T.1, T.2.1, T.2.2.1, T.2.2.2⟩, by simp, (hs_set4 HF.out (by simp) KW.out).2⟩
 case rest =>
  obtain ⟨g, rfl, rfl, ⟨c0, c1, c2, c3⟩, hg, hB, hS⟩ := hcut
  obtain ⟨⟨r0, r1, r2, r3⟩, ⟨s0, s1, s2, s3⟩, f2, f3⟩ := HZ.out _ hB
  have f20 := f2 0
  have f21 := f2 1
  have f22 := f2 2
  have f23 := f2 3
  have f30 := f3 0
  have f31 := f3 1
  have f32 := f3 2
  have f33 := f3 3
  have hne : ¬ w.heap.size + 1 + 1 = g := by omega
  have hne2 : ¬ w.heap.size + 1 + 1 + 1 = g := by omega
  have HB := hide hB
  clear f2 f3 HZ H14 H15 hB HS0 HS1 HF
  go_wp2
  have T := set8 (x := .int .i64 A) (y := .int .i64 C) (z := .string OP) (t := .int .i64 WH) (a := .int .u64 nn) (b := .bool false) (c := .slice none 0 0) (d := .slice none 0 0) (by omega) r0 r1 r2 r3 s0 s1 s2 s3 _ rfl
  obtain ⟨⟨t0, t1, t2, t3⟩, u0, u1, u2, u3⟩ := T
  have hBB : Below w.heap.size w wc := HR.out.trans (HB.out.mono (by omega))
  exact bodyPost_ret (v := .tuple #[.agg #[.int .i64 A, .int .i64 C, .string OP, .int .i64 WH], .agg #[.int .u64 nn, .bool false, .slice none 0 0, .slice none 0 0]]) (by simp [results, Tryz.results56, go_sem, t0, t1, t2, t3, u0, u1, u2, u3]) rfl
   ⟨rfl, (((((((hBB.setCell (by simp; omega) _).setCell (by simp; omega) _).setCell (by simp; omega) _).setCell (by simp; omega) _).setCell (by simp; omega) _).setCell (by simp; omega) _).setCell (by simp; omega) _).setCell (by simp; omega) _⟩
theorem cell4 {w : World} {p : Addr} {x : Value} (h : w.cell? p = some x) (o1 o2 o3 o4 : Obj) : ((((w.alloc o1).alloc o2).alloc o3).alloc o4).cell? p = some x :=
 (((((Below.refl w.heap.size w).alloc (Nat.le_refl _) o1).alloc (by simp) o2).alloc (by simp; omega) o3).alloc (by simp; omega) o4 |>.cell (cell_block h)).trans h
theorem read_err (v : Value) (a c wh K M E : Int) (op : ByteArray) (w : World) (hc : (c != 0) = true) :
  Calls Tryz.prog 56 #[v, .agg #[.int .i64 a, .int .i64 c, .string op, .int .i64 wh], .agg #[.int .i64 K, .int .i64 M, .int .i64 E]] w fun e w' => e = .returned (.tuple #[.agg #[.int .i64 a, .int .i64 c, .string op, .int .i64 wh], .agg #[.int .u64 0, .bool false, .slice none 0 0, .slice none 0 0]]) ∧ Below w.heap.size w w' := by
 go_enter Tryz.func56, Tryz.ntmps56
 go_wp2
 exact bodyPost_ret (v := .tuple #[.agg #[.int .i64 a, .int .i64 c, .string op, .int .i64 wh], .agg #[.int .u64 0, .bool false, .slice none 0 0, .slice none 0 0]]) (by simp [results, Tryz.results56, go_sem]) rfl
  ⟨rfl, ((((Below.refl _ _).alloc (Nat.le_refl _) _).alloc (by simp) _).alloc (by simp; omega) _).alloc (by simp; omega) _⟩
theorem read_flag_short (ao : Option Addr) (L cap : Nat) (a wh M E : Int) (op : ByteArray) (w : World) (ha : ¬ a < (L : Int)) :
  Calls Tryz.prog 56 #[.slice ao L cap, .agg #[.int .i64 a, .int .i64 0, .string op, .int .i64 wh], .agg #[.int .i64 2, .int .i64 M, .int .i64 E]] w fun e w' => e = .returned (.tuple #[.agg #[.int .i64 a, .int .i64 3, .string ⟨#[102, 108, 97, 103]⟩, .int .i64 a], .agg #[.int .u64 0, .bool false, .slice none 0 0, .slice none 0 0]]) ∧ Below w.heap.size w w' := by
 have HC := hide (fun W => bad_any a 0 wh a 3 op ⟨#[102, 108, 97, 103]⟩ W rfl)
 unfold stv at HC
 go_enter Tryz.func56, Tryz.ntmps56
 go_wp2_with fail
 refine (HC.out _).mono ?_
 rintro e w' ⟨rfl, hb⟩
 have hB0 : Below (w.heap.size + 4) (raW w a 0 wh 2 M E op) w' := hb.mono (by first | simp | simp [raW_size])
 obtain ⟨⟨r0, r1, r2, r3⟩, ⟨s0, s1, s2, s3⟩, f2, f3⟩ := raW_outs w a 0 wh 2 M E op _ hB0
 have f20 := f2 0
 have f21 := f2 1
 have f22 := f2 2
 have f23 := f2 3
 have f30 := f3 0
 have f31 := f3 1
 have f32 := f3 2
 have f33 := f3 3
 have HB := hide hB0
 clear f2 f3 hb hB0
 go_wp2
 have T := set8 (x := .int .i64 a) (y := .int .i64 3) (z := .string ⟨#[102, 108, 97, 103]⟩) (t := .int .i64 a) (a := .int .u64 0) (b := .bool false) (c := .slice none 0 0) (d := .slice none 0 0) (by omega) r0 r1 r2 r3 s0 s1 s2 s3 _ rfl
 obtain ⟨⟨t0, t1, t2, t3⟩, u0, u1, u2, u3⟩ := T
 have hBB : Below w.heap.size w w' := (raW_below w a 0 wh 2 M E op).trans (HB.out.mono (by omega))
 exact bodyPost_ret (v := .tuple #[.agg #[.int .i64 a, .int .i64 3, .string ⟨#[102, 108, 97, 103]⟩, .int .i64 a], .agg #[.int .u64 0, .bool false, .slice none 0 0, .slice none 0 0]]) (by simp [results, Tryz.results56, go_sem, t0, t1, t2, t3, u0, u1, u2, u3]) rfl
  ⟨rfl, (((((((hBB.setCell (by simp; omega) _).setCell (by simp; omega) _).setCell (by simp; omega) _).setCell (by simp; omega) _).setCell (by simp; omega) _).setCell (by simp; omega) _).setCell (by simp; omega) _).setCell (by simp; omega) _⟩
theorem read_flag_kind (b o L cap a : Nat) (x wh M E : Int) (op : ByteArray) (w : World) (ha : a < L) (hx : 1 < x) (hc : w.cell? ⟨b, o + a, none⟩ = some (.int .u8 x)) :
  Calls Tryz.prog 56 #[.slice (some ⟨b, o, none⟩) L cap, .agg #[.int .i64 a, .int .i64 0, .string op, .int .i64 wh], .agg #[.int .i64 2, .int .i64 M, .int .i64 E]] w fun e w' => e = .returned (.tuple #[.agg #[.int .i64 a, .int .i64 5, .string ⟨#[102, 108, 97, 103]⟩, .int .i64 a], .agg #[.int .u64 0, .bool false, .slice none 0 0, .slice none 0 0]]) ∧ Below w.heap.size w w' := by
 have hc4 := cell4 hc
 have HC := hide (fun W => bad_any a 0 wh a 5 op ⟨#[102, 108, 97, 103]⟩ W rfl)
 unfold stv at HC
 go_enter Tryz.func56, Tryz.ntmps56
 go_wp2_with fail
 refine (HC.out _).mono ?_
 rintro e w' ⟨rfl, hb⟩
 have hB0 : Below (w.heap.size + 4) (raW w a 0 wh 2 M E op) w' := hb.mono (by first | simp | simp [raW_size])
 obtain ⟨⟨r0, r1, r2, r3⟩, ⟨s0, s1, s2, s3⟩, f2, f3⟩ := raW_outs w a 0 wh 2 M E op _ hB0
 have f20 := f2 0
 have f21 := f2 1
 have f22 := f2 2
 have f23 := f2 3
 have f30 := f3 0
 have f31 := f3 1
 have f32 := f3 2
 have f33 := f3 3
 have HB := hide hB0
 clear f2 f3 hb hB0
 go_wp2
 have T := set8 (x := .int .i64 a) (y := .int .i64 5) (z := .string ⟨#[102, 108, 97, 103]⟩) (t := .int .i64 a) (a := .int .u64 0) (b := .bool false) (c := .slice none 0 0) (d := .slice none 0 0) (by omega) r0 r1 r2 r3 s0 s1 s2 s3 _ rfl
 obtain ⟨⟨t0, t1, t2, t3⟩, u0, u1, u2, u3⟩ := T
 have hBB : Below w.heap.size w w' := (raW_below w a 0 wh 2 M E op).trans (HB.out.mono (by omega))
 exact bodyPost_ret (v := .tuple #[.agg #[.int .i64 a, .int .i64 5, .string ⟨#[102, 108, 97, 103]⟩, .int .i64 a], .agg #[.int .u64 0, .bool false, .slice none 0 0, .slice none 0 0]]) (by simp [results, Tryz.results56, go_sem, t0, t1, t2, t3, u0, u1, u2, u3]) rfl
  ⟨rfl, (((((((hBB.setCell (by simp; omega) _).setCell (by simp; omega) _).setCell (by simp; omega) _).setCell (by simp; omega) _).setCell (by simp; omega) _).setCell (by simp; omega) _).setCell (by simp; omega) _).setCell (by simp; omega) _⟩
theorem read_flag_ok (b o L cap a : Nat) (x wh M E : Int) (op : ByteArray) (w : World) (ha : a < L) (hL : L ≤ 10000) (hx : ¬ 1 < x) (hc : w.cell? ⟨b, o + a, none⟩ = some (.int .u8 x)) :
  Calls Tryz.prog 56 #[.slice (some ⟨b, o, none⟩) L cap, .agg #[.int .i64 a, .int .i64 0, .string op, .int .i64 wh], .agg #[.int .i64 2, .int .i64 M, .int .i64 E]] w fun e w' => e = .returned (.tuple #[.agg #[.int .i64 (a + 1 : Nat), .int .i64 0, .string ⟨#[]⟩, .int .i64 0], .agg #[.int .u64 0, .bool (x == 1), .slice none 0 0, .slice none 0 0]]) ∧ Below w.heap.size w w' := by
 have hc4 := cell4 hc
 go_enter Tryz.func56, Tryz.ntmps56
 go_wp2
 go_region
 go_wp2
 exact bodyPost_ret (v := .tuple #[.agg #[.int .i64 (a + 1 : Nat), .int .i64 0, .string ⟨#[]⟩, .int .i64 0], .agg #[.int .u64 0, .bool (x == 1), .slice none 0 0, .slice none 0 0]]) (by simp [results, Tryz.results56, go_sem]) rfl
  ⟨rfl, (((((Below.refl _ _).alloc (Nat.le_refl _) _).alloc (by simp) _).alloc (by simp; omega) _).alloc (by simp; omega) _).drew⟩
theorem read_text (v : Value) (a wh M E A C WH : Int) (t : List Int) (op OP : ByteArray) (lo : Nat) (w : World) (hlo : lo ≤ w.heap.size)
  (HC : Hid (∀ W, Below w.heap.size w W → Calls Tryz.prog 88 #[v, .agg #[.int .i64 a, .int .i64 0, .string op, .int .i64 wh], .int .i64 M] W fun e w' => ∃ u, e = .returned (.tuple #[.agg #[.int .i64 A, .int .i64 C, .string OP, .int .i64 WH], u]) ∧ Sld lo W.heap.size bc w' u t ∧ Below W.heap.size W w')) :
  Calls Tryz.prog 56 #[v, .agg #[.int .i64 a, .int .i64 0, .string op, .int .i64 wh], .agg #[.int .i64 3, .int .i64 M, .int .i64 E]] w fun e w' => ∃ u, e = .returned (.tuple #[.agg #[.int .i64 A, .int .i64 C, .string OP, .int .i64 WH], .agg #[.int .u64 0, .bool false, u, .slice none 0 0]]) ∧ Sld lo w.heap.size bc w' u t ∧ Below w.heap.size w w' := by
 have HRB := hide (raW_below w a 0 wh 3 M E op)
 go_enter Tryz.func56, Tryz.ntmps56
 go_wp2_with fail
 refine (HC.out _ HRB.out).mono ?_
 rintro e w' ⟨u, rfl, hsu, hb⟩
 obtain ⟨ao', cap', hV⟩ := hsu.sl.form
 subst hV
 have hB0 : Below (w.heap.size + 4) (raW w a 0 wh 3 M E op) w' := hb.mono (by first | simp | simp [raW_size])
 obtain ⟨⟨r0, r1, r2, r3⟩, ⟨s0, s1, s2, s3⟩, f2, f3⟩ := raW_outs w a 0 wh 3 M E op _ hB0
 have f20 := f2 0
 have f21 := f2 1
 have f22 := f2 2
 have f23 := f2 3
 have f30 := f3 0
 have f31 := f3 1
 have f32 := f3 2
 have f33 := f3 3
 have HB := hide hB0
 clear f2 f3 hb hB0
 have hz2 : w.heap.size + 1 + 1 < w'.heap.size := cell_block r0
 have hz3 : w.heap.size + 1 + 1 + 1 < w'.heap.size := cell_block s0
 have HSU := hide hsu
 clear hsu
 go_wp2
 have T := set8 (x := .int .i64 A) (y := .int .i64 C) (z := .string OP) (t := .int .i64 WH) (a := .int .u64 0) (b := .bool false) (c := .slice ao' t.length cap') (d := .slice none 0 0) (by omega) r0 r1 r2 r3 s0 s1 s2 s3
 have hB1 : Below w.heap.size w w' := (raW_below w a 0 wh 3 M E op).trans (HB.out.mono (by omega))
 have hS := HSU.out
 rw [raW_size] at hS
 have l1 : w.heap.size ≤ w.heap.size + 1 + 1 := by omega
 have l2 : w.heap.size + 1 + 1 < w.heap.size + 4 := by omega
 have l3 : w.heap.size ≤ w.heap.size + 1 + 1 + 1 := by omega
 have l4 : w.heap.size + 1 + 1 + 1 < w.heap.size + 4 := by omega
 have k1 : lo ≤ w.heap.size + 1 + 1 := by omega
 have k3 : lo ≤ w.heap.size + 1 + 1 + 1 := by omega
 have hfin := ((((((((hS.set 0 (.int .i64 A) k1 l2).set 1 (.int .i64 C) k1 l2).set 2 (.string OP) k1 l2).set 3 (.int .i64 WH) k1 l2).set 0 (.int .u64 0) k3 l4).set 1 (.bool false) k3 l4).set 2 (.slice ao' t.length cap') k3 l4).set 3 (.slice none 0 0) k3 l4).more (show w.heap.size ≤ w.heap.size + 4 by omega)
 have hBfin := (((((((hB1.setCell (p := ⟨w.heap.size + 1 + 1, 0, none⟩) l1 (.int .i64 A)).setCell (p := ⟨w.heap.size + 1 + 1, 1, none⟩) l1 (.int .i64 C)).setCell (p := ⟨w.heap.size + 1 + 1, 2, none⟩) l1 (.string OP)).setCell (p := ⟨w.heap.size + 1 + 1, 3, none⟩) l1 (.int .i64 WH)).setCell (p := ⟨w.heap.size + 1 + 1 + 1, 0, none⟩) l3 (.int .u64 0)).setCell (p := ⟨w.heap.size + 1 + 1 + 1, 1, none⟩) l3 (.bool false)).setCell (p := ⟨w.heap.size + 1 + 1 + 1, 2, none⟩) l3 (.slice ao' t.length cap')).setCell (p := ⟨w.heap.size + 1 + 1 + 1, 3, none⟩) l3 (.slice none 0 0)
 obtain ⟨WF, hWF⟩ : ∃ WF, WF = (((((((w'.setCell ⟨w.heap.size + 1 + 1, 0, none⟩ (.int .i64 A)).setCell ⟨w.heap.size + 1 + 1, 1, none⟩ (.int .i64 C)).setCell ⟨w.heap.size + 1 + 1, 2, none⟩ (.string OP)).setCell ⟨w.heap.size + 1 + 1, 3, none⟩ (.int .i64 WH)).setCell ⟨w.heap.size + 1 + 1 + 1, 0, none⟩ (.int .u64 0)).setCell ⟨w.heap.size + 1 + 1 + 1, 1, none⟩ (.bool false)).setCell ⟨w.heap.size + 1 + 1 + 1, 2, none⟩ (.slice ao' t.length cap')).setCell ⟨w.heap.size + 1 + 1 + 1, 3, none⟩ (.slice none 0 0) := ⟨_, rfl⟩
 obtain ⟨⟨t0, t1, t2, t3⟩, u0, u1, u2, u3⟩ := T WF hWF
 rw [← hWF] at hfin hBfin ⊢
 have z2 : w.heap.size + 1 + 1 < WF.heap.size := cell_block t0
 have z3 : w.heap.size + 1 + 1 + 1 < WF.heap.size := cell_block u0
 exact bodyPost_ret (v := .tuple #[.agg #[.int .i64 A, .int .i64 C, .string OP, .int .i64 WH], .agg #[.int .u64 0, .bool false, .slice ao' t.length cap', .slice none 0 0]]) (by simp [results, Tryz.results56, go_sem, t0, t1, t2, t3, u0, u1, u2, u3, z2, z3]) rfl
  ⟨_, rfl, hfin.below ((Below.refl _ WF).alloc (Nat.le_refl _) _), hBfin.alloc hBfin.size _⟩
theorem read_row (v : Value) (a wh K M E A C WH : Int) (t : List Int) (op OP : ByteArray) (lo : Nat) (w : World) (hlo : lo ≤ w.heap.size) (k0 : (K == 0) = false) (k1 : (K == 1) = false) (k2 : (K == 2) = false) (k3 : (K == 3) = false)
  (HC : Hid (∀ W, Below w.heap.size w W → Calls Tryz.prog 89 #[v, .agg #[.int .i64 a, .int .i64 0, .string op, .int .i64 wh], .int .i64 M, .int .i64 E] W fun e w' => ∃ u, e = .returned (.tuple #[.agg #[.int .i64 A, .int .i64 C, .string OP, .int .i64 WH], u]) ∧ Sld lo W.heap.size ic w' u t ∧ Below W.heap.size W w')) :
  Calls Tryz.prog 56 #[v, .agg #[.int .i64 a, .int .i64 0, .string op, .int .i64 wh], .agg #[.int .i64 K, .int .i64 M, .int .i64 E]] w fun e w' => ∃ u, e = .returned (.tuple #[.agg #[.int .i64 A, .int .i64 C, .string OP, .int .i64 WH], .agg #[.int .u64 0, .bool false, .slice none 0 0, u]]) ∧ Sld lo w.heap.size ic w' u t ∧ Below w.heap.size w w' := by
 have HRB := hide (raW_below w a 0 wh K M E op)
 go_enter Tryz.func56, Tryz.ntmps56
 go_wp2_with fail
 refine (HC.out _ HRB.out).mono ?_
 rintro e w' ⟨u, rfl, hsu, hb⟩
 obtain ⟨ao', cap', hV⟩ := hsu.sl.form
 subst hV
 have hB0 : Below (w.heap.size + 4) (raW w a 0 wh K M E op) w' := hb.mono (by first | simp | simp [raW_size])
 obtain ⟨⟨r0, r1, r2, r3⟩, ⟨s0, s1, s2, s3⟩, f2, f3⟩ := raW_outs w a 0 wh K M E op _ hB0
 have f20 := f2 0
 have f21 := f2 1
 have f22 := f2 2
 have f23 := f2 3
 have f30 := f3 0
 have f31 := f3 1
 have f32 := f3 2
 have f33 := f3 3
 have HB := hide hB0
 clear f2 f3 hb hB0
 have hz2 : w.heap.size + 1 + 1 < w'.heap.size := cell_block r0
 have hz3 : w.heap.size + 1 + 1 + 1 < w'.heap.size := cell_block s0
 have HSU := hide hsu
 clear hsu
 go_wp2
 have T := set8 (x := .int .i64 A) (y := .int .i64 C) (z := .string OP) (t := .int .i64 WH) (a := .int .u64 0) (b := .bool false) (c := .slice none 0 0) (d := .slice ao' t.length cap') (by omega) r0 r1 r2 r3 s0 s1 s2 s3
 have hB1 : Below w.heap.size w w' := (raW_below w a 0 wh K M E op).trans (HB.out.mono (by omega))
 have hS := HSU.out
 rw [raW_size] at hS
 have l1 : w.heap.size ≤ w.heap.size + 1 + 1 := by omega
 have l2 : w.heap.size + 1 + 1 < w.heap.size + 4 := by omega
 have l3 : w.heap.size ≤ w.heap.size + 1 + 1 + 1 := by omega
 have l4 : w.heap.size + 1 + 1 + 1 < w.heap.size + 4 := by omega
 have k1 : lo ≤ w.heap.size + 1 + 1 := by omega
 have k3 : lo ≤ w.heap.size + 1 + 1 + 1 := by omega
 have hfin := ((((((((hS.set 0 (.int .i64 A) k1 l2).set 1 (.int .i64 C) k1 l2).set 2 (.string OP) k1 l2).set 3 (.int .i64 WH) k1 l2).set 0 (.int .u64 0) k3 l4).set 1 (.bool false) k3 l4).set 2 (.slice none 0 0) k3 l4).set 3 (.slice ao' t.length cap') k3 l4).more (show w.heap.size ≤ w.heap.size + 4 by omega)
 have hBfin := (((((((hB1.setCell (p := ⟨w.heap.size + 1 + 1, 0, none⟩) l1 (.int .i64 A)).setCell (p := ⟨w.heap.size + 1 + 1, 1, none⟩) l1 (.int .i64 C)).setCell (p := ⟨w.heap.size + 1 + 1, 2, none⟩) l1 (.string OP)).setCell (p := ⟨w.heap.size + 1 + 1, 3, none⟩) l1 (.int .i64 WH)).setCell (p := ⟨w.heap.size + 1 + 1 + 1, 0, none⟩) l3 (.int .u64 0)).setCell (p := ⟨w.heap.size + 1 + 1 + 1, 1, none⟩) l3 (.bool false)).setCell (p := ⟨w.heap.size + 1 + 1 + 1, 2, none⟩) l3 (.slice none 0 0)).setCell (p := ⟨w.heap.size + 1 + 1 + 1, 3, none⟩) l3 (.slice ao' t.length cap')
 obtain ⟨WF, hWF⟩ : ∃ WF, WF = (((((((w'.setCell ⟨w.heap.size + 1 + 1, 0, none⟩ (.int .i64 A)).setCell ⟨w.heap.size + 1 + 1, 1, none⟩ (.int .i64 C)).setCell ⟨w.heap.size + 1 + 1, 2, none⟩ (.string OP)).setCell ⟨w.heap.size + 1 + 1, 3, none⟩ (.int .i64 WH)).setCell ⟨w.heap.size + 1 + 1 + 1, 0, none⟩ (.int .u64 0)).setCell ⟨w.heap.size + 1 + 1 + 1, 1, none⟩ (.bool false)).setCell ⟨w.heap.size + 1 + 1 + 1, 2, none⟩ (.slice none 0 0)).setCell ⟨w.heap.size + 1 + 1 + 1, 3, none⟩ (.slice ao' t.length cap') := ⟨_, rfl⟩
 obtain ⟨⟨t0, t1, t2, t3⟩, u0, u1, u2, u3⟩ := T WF hWF
 rw [← hWF] at hfin hBfin ⊢
 have z2 : w.heap.size + 1 + 1 < WF.heap.size := cell_block t0
 have z3 : w.heap.size + 1 + 1 + 1 < WF.heap.size := cell_block u0
 exact bodyPost_ret (v := .tuple #[.agg #[.int .i64 A, .int .i64 C, .string OP, .int .i64 WH], .agg #[.int .u64 0, .bool false, .slice none 0 0, .slice ao' t.length cap']]) (by simp [results, Tryz.results56, go_sem, t0, t1, t2, t3, u0, u1, u2, u3, z2, z3]) rfl
  ⟨_, rfl, hfin.below ((Below.refl _ WF).alloc (Nat.le_refl _) _), hBfin.alloc hBfin.size _⟩
theorem refr_any (v : Value) (l : List Int) (a : Nat) (m m2 wh : Int) (op : ByteArray) (w W : World) (hv : Sl bc w v l) (hW : Below w.heap.size w W) (hl : l.length ≤ 4000) (hby : Byt l) (hm : m ≤ 9223372036854775807) (hm2 : m2 ≤ 9223372036854775807) (ha : a ≤ l.length) :
  Calls Tryz.prog 89 #[v, .agg #[.int .i64 a, .int .i64 0, .string op, .int .i64 wh], .int .i64 m, .int .i64 m2] W fun e w' => ∃ u, e = .returned (.tuple #[stX (rowS l a m m2).1 ⟨#[110, 117, 109]⟩ (rowS l a m m2).2.1 (rowS l a m m2).2.1, u]) ∧ Sld 0 W.heap.size ic w' u (rowR (rowS l a m m2)) ∧ Below W.heap.size W w' := by
 have H15 := hide (fun W => above_any m W hm)
 simp only [abv_eq] at H15
 have h14 := fun W (h : Sl bc W v l) => num_next v l a wh (abv' m) op W h hl hby
 have hbd : Byt (l.drop a) := hby.drop a
 have hrg := numS_range (l.drop a) (abv' m) hbd
 unfold rowS
 rcases hq : numS (l.drop a) (abv' m) with ⟨c, k, N⟩
 rw [hq] at h14 hrg
 simp only [stN] at h14 ⊢
 by_cases hc : c = 0
 ·subst hc
  obtain ⟨_, _, n0, n1, _, hkl⟩ := numS_once hbd hq
  rw [List.length_drop] at hkl
  simp only [if_true] at h14 ⊢
  have H14 := hide h14
  unfold stv at H14
  obtain ⟨N', rfl⟩ := Int.eq_ofNat_of_zero_le n0
  simp only [Int.toNat_natCast] at *
  exact row_some v l a wh m m2 (abv' m) (a + k) N' 0 op W (hv.below hW) hl hby (by omega) (by omega) hm2 (Nat.zero_le _) H15 H14
 ·obtain ⟨rfl, rfl⟩ := numS_bad hq hc
  simp only [if_neg hc] at h14 ⊢
  have H14 := hide h14
  unfold stv at H14
  refine (row_bad v l a wh m m2 (abv' m) a c a op _ W (hv.below hW) (by simpa using hc) H15 H14).mono ?_
  rintro e w' ⟨rfl, hb⟩
  exact ⟨.slice none 0 0, by simp [stX, hc, stv], by simp only [rowR, if_neg hc]; exact Sld.nil _ _ _ _ _ _, hb⟩
theorem refRead_any (v : Value) (l : List Int) (a : Nat) (K M E wh : Int) (op : ByteArray) (w0 w : World) (hv0 : Sl bc w0 v l) (hW0 : Below w0.heap.size w0 w) (hl : l.length ≤ 4000) (hby : Byt l) (ha : a ≤ l.length) (hM : M ≤ 9223372036854775807) (hE : E ≤ 9223372036854775807) :
  Calls Tryz.prog 56 #[v, .agg #[.int .i64 a, .int .i64 0, .string op, .int .i64 wh], .agg #[.int .i64 K, .int .i64 M, .int .i64 E]] w fun e w' => ∃ vt vr, e = .returned (.tuple #[stX (askS l a K M E).c (askS l a K M E).op (askS l a K M E).wh (askS l a K M E).next, .agg #[.int .u64 (askS l a K M E).n, .bool (askS l a K M E).f, vt, vr]]) ∧ Sld w0.heap.size w.heap.size bc w' vt (askS l a K M E).t ∧ Sld 0 w.heap.size ic w' vr (askS l a K M E).r ∧ Below w.heap.size w w' := by
 have hv := hv0.below hW0
 have H15 := hide (fun W => above_any M W hM)
 simp only [abv_eq] at H15
 by_cases h01 : K = 0 ∨ K = 1
 ·rw [askS, if_pos h01]
  simp only
  have h14 := fun W (h : Sl bc W v l) => num_next v l a wh (abv' M) op W h hl hby
  rcases hq : numS (l.drop a) (abv' M) with ⟨c, k, N⟩
  rw [hq] at h14
  simp only [stN] at h14 ⊢
  have hX : (if c = 0 then stv (a + k : Nat) 0 ⟨#[]⟩ 0 else stv a c ⟨#[110, 117, 109]⟩ a) = stX c ⟨#[110, 117, 109]⟩ a (a + k : Nat) := by
   unfold stX
   by_cases hc : c = 0
   ·rw [if_pos hc, if_pos hc]
   ·obtain ⟨rfl, rfl⟩ := numS_bad hq hc
    rw [if_neg hc, if_neg hc]; rfl
  rw [hX] at h14
  obtain ⟨A', C', OP', WH', hf⟩ := stX_form c ⟨#[110, 117, 109]⟩ a (a + k : Nat)
  rw [hf] at h14 ⊢
  have H14 := hide h14
  unfold stv at H14
  rcases h01 with rfl | rfl
  ·refine (read_num0 v l a wh M (abv' M) E A' C' WH' N op OP' w hv H15 H14).mono ?_
   rintro e w' ⟨rfl, hb⟩
   exact ⟨_, _, rfl, Sld.nil _ _ _ _ _ _, Sld.nil _ _ _ _ _ _, hb⟩
  ·refine (read_num1 v l a wh M (abv' M) E A' C' WH' N op OP' w hv H15 H14).mono ?_
   rintro e w' ⟨rfl, hb⟩
   exact ⟨_, _, rfl, Sld.nil _ _ _ _ _ _, Sld.nil _ _ _ _ _ _, hb⟩
 ·rw [askS, if_neg h01]
  by_cases h2 : K = 2
  ·subst h2
   rw [if_pos rfl]
   generalize hd : l.drop a = r
   have hlen : r.length = l.length - a := by rw [← hd, List.length_drop]
   rcases r with _ | ⟨x, r⟩
   ·obtain ⟨ao, cap, rfl⟩ := hv.form
    refine (read_flag_short ao l.length cap a wh M E op w (by simp at hlen; omega)).mono ?_
    rintro e w' ⟨rfl, hb⟩
    exact ⟨.slice none 0 0, .slice none 0 0, by simp [flagS, stX, stv], Sld.nil _ _ _ _ _ _, Sld.nil _ _ _ _ _ _, hb⟩
   ·have hal : a < l.length := by simp at hlen; omega
    have hx : l[a] = x := by
     have := List.drop_eq_getElem_cons hal
     rw [hd] at this
     exact (List.cons.inj this).1.symm
    rcases hv with ⟨ao, cap, rfl, rfl⟩ | ⟨b, o, cap, rfl, hcap, h3⟩
    ·simp at hal
    ·have hcell := h3 a hal
     rw [hx] at hcell
     by_cases h1 : 1 < x
     ·refine (read_flag_kind b o l.length cap a x wh M E op w hal h1 hcell).mono ?_
      rintro e w' ⟨rfl, hb⟩
      exact ⟨.slice none 0 0, .slice none 0 0, by simp [flagS, h1, stX, stv], Sld.nil _ _ _ _ _ _, Sld.nil _ _ _ _ _ _, hb⟩
     ·refine (read_flag_ok b o l.length cap a x wh M E op w hal (by omega) h1 hcell).mono ?_
      rintro e w' ⟨rfl, hb⟩
      exact ⟨.slice none 0 0, .slice none 0 0, by simp [flagS, h1, stX, stv], Sld.nil _ _ _ _ _ _, Sld.nil _ _ _ _ _ _, hb⟩
  ·rw [if_neg h2]
   by_cases h3 : K = 3
   ·subst h3
    rw [if_pos rfl]
    simp only
    have hc := fun W (h : Below w.heap.size w W) => reft_any v l a M wh op w0 W hv0 (hW0.trans (h.mono hW0.size)) hl hby hM ha
    obtain ⟨A', C', OP', WH', hf⟩ := stX_form (textS l a M).1 (textS l a M).2.1 a (textS l a M).2.2.1
    simp only [hf] at hc ⊢
    refine (read_text v a wh M E A' C' WH' _ op OP' w0.heap.size w hW0.size (hide hc)).mono ?_
    rintro e w' ⟨u, rfl, hs, hb⟩
    exact ⟨_, _, rfl, hs, Sld.nil _ _ _ _ _ _, hb⟩
   ·rw [if_neg h3]
    simp only
    have hc := fun W (h : Below w.heap.size w W) => refr_any v l a M E wh op w0 W hv0 (hW0.trans (h.mono hW0.size)) hl hby hM hE ha
    obtain ⟨A', C', OP', WH', hf⟩ := stX_form (rowS l a M E).1 ⟨#[110, 117, 109]⟩ (rowS l a M E).2.1 (rowS l a M E).2.1
    simp only [hf] at hc ⊢
    refine (read_row v a wh K M E A' C' WH' _ op OP' 0 w (Nat.zero_le _) (by simpa using fun h => h01 (.inl h)) (by simpa using fun h => h01 (.inr h)) (by simpa using h2) (by simpa using h3) (hide hc)).mono ?_
    rintro e w' ⟨u, rfl, hs, hb⟩
    exact ⟨_, _, rfl, Sld.nil _ _ _ _ _ _, hs, hb⟩
def whS (s : Gs) : Int := if s.c = 0 then 0 else (s.pt : Int)
structure CuG (W : World) (p : Nat) (v : Value) (s : Gs) : Prop where
 c0 : W.cell? ⟨p, 0, none⟩ = some v
 c1 : W.cell? ⟨p, 1, none⟩ = some (.int .i64 s.pt)
 c2 : W.cell? ⟨p, 2, none⟩ = some (.int .i64 s.c)
 c3 : W.cell? ⟨p, 3, none⟩ = some (.string s.op)
 c4 : W.cell? ⟨p, 4, none⟩ = some (.int .i64 (whS s))
 fz : ∀ i, W.frozen? ⟨p, i, none⟩ = false
theorem CuG.below {W W' : World} {p : Nat} {v : Value} {s : Gs} (h : CuG W p v s) (hb : Below W.heap.size W W') : CuG W' p v s :=
 have hl := cell_block h.c0
 ⟨(hb.cell (p := ⟨p, 0, none⟩) hl).trans h.c0, (hb.cell (p := ⟨p, 1, none⟩) hl).trans h.c1, (hb.cell (p := ⟨p, 2, none⟩) hl).trans h.c2, (hb.cell (p := ⟨p, 3, none⟩) hl).trans h.c3, (hb.cell (p := ⟨p, 4, none⟩) hl).trans h.c4, fun i => (hb.frozen (p := ⟨p, i, none⟩) hl).trans (h.fz i)⟩
end Go.Proofs.YtjjpfajbljbelaaGreatDoor
