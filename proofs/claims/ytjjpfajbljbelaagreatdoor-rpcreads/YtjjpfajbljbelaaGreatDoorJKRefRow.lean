/-
  THE DOCUMENT's NEXT ROW (castellanref02.row), out of what its num tells. Conditions: the bytes' cells hold them, no more than four thousand.
-/
import Derived.Test.YtjjpfajbljbelaaGreatDoorJKRefTexta2
namespace Go.Proofs.YtjjpfajbljbelaaGreatDoor
open Go.RowKit
set_option maxRecDepth 100000
set_option maxHeartbeats 8000000
def rbW (w : World) (a wh : Int) (op : ByteArray) : World :=
 (w.alloc (.cells #[.int .i64 a, .int .i64 0, .string op, .int .i64 wh] 66)).alloc (.cells #[.int .i64 0, .int .i64 0, .string ⟨#[]⟩, .int .i64 0] 66)
theorem rbW_below (w : World) (a wh : Int) (op : ByteArray) : Below w.heap.size w (rbW w a wh op) := ((Below.refl _ _).alloc (Nat.le_refl _) _).alloc (by simp) _
theorem rbW_size (w : World) (a wh : Int) (op : ByteArray) : (rbW w a wh op).heap.size = w.heap.size + 2 := by simp [rbW]
theorem rbW_cells (w : World) (a wh : Int) (op : ByteArray) : ∀ W, Below (w.heap.size + 2) (rbW w a wh op) W →
  (W.cell? ⟨w.heap.size, 0, none⟩ = some (.int .i64 a) ∧ W.cell? ⟨w.heap.size, 1, none⟩ = some (.int .i64 0) ∧ W.cell? ⟨w.heap.size, 2, none⟩ = some (.string op) ∧ W.cell? ⟨w.heap.size, 3, none⟩ = some (.int .i64 wh)) := by
 intro W hb
 refine ⟨?_, ?_, ?_, ?_⟩
 ·rw [hb.cell (p := ⟨w.heap.size, 0, none⟩) (by show w.heap.size < _; omega)]; simp [rbW, go_sem]
 ·rw [hb.cell (p := ⟨w.heap.size, 1, none⟩) (by show w.heap.size < _; omega)]; simp [rbW, go_sem]
 ·rw [hb.cell (p := ⟨w.heap.size, 2, none⟩) (by show w.heap.size < _; omega)]; simp [rbW, go_sem]
 ·rw [hb.cell (p := ⟨w.heap.size, 3, none⟩) (by show w.heap.size < _; omega)]; simp [rbW, go_sem]
theorem rbW_outs (w : World) (a wh : Int) (op : ByteArray) : ∀ W, Below (w.heap.size + 2) (rbW w a wh op) W →
  (W.cell? ⟨w.heap.size + 1, 0, none⟩ = some (.int .i64 0) ∧ W.cell? ⟨w.heap.size + 1, 1, none⟩ = some (.int .i64 0) ∧ W.cell? ⟨w.heap.size + 1, 2, none⟩ = some (.string ⟨#[]⟩) ∧ W.cell? ⟨w.heap.size + 1, 3, none⟩ = some (.int .i64 0)) ∧ (∀ i, W.frozen? ⟨w.heap.size + 1, i, none⟩ = false) := by
 intro W hb
 refine ⟨⟨?_, ?_, ?_, ?_⟩, fun i => ?_⟩
 ·rw [hb.cell (p := ⟨w.heap.size + 1, 0, none⟩) (by show w.heap.size + 1 < _; omega)]; simp [rbW, go_sem]
 ·rw [hb.cell (p := ⟨w.heap.size + 1, 1, none⟩) (by show w.heap.size + 1 < _; omega)]; simp [rbW, go_sem]
 ·rw [hb.cell (p := ⟨w.heap.size + 1, 2, none⟩) (by show w.heap.size + 1 < _; omega)]; simp [rbW, go_sem]
 ·rw [hb.cell (p := ⟨w.heap.size + 1, 3, none⟩) (by show w.heap.size + 1 < _; omega)]; simp [rbW, go_sem]
 ·rw [hb.frozen (p := ⟨w.heap.size + 1, i, none⟩) (by show w.heap.size + 1 < _; omega)]
  exact World.frozen?_alloc_at _ _ _ _ (by simp)
theorem row_bad (v : Value) (l : List Int) (a wh m m2 M A C WH : Int) (op OP : ByteArray) (w : World) (hv : Sl bc w v l) (hC : (C != 0) = true)
  (H15 : Hid (∀ W, Calls Tryz.prog 86 #[.int .i64 m] W fun e w' => e = .returned (.int .u64 M) ∧ w' = W))
  (H14 : Hid (∀ W, Sl bc W v l → Calls Tryz.prog 85 #[v, .agg #[.int .i64 a, .int .i64 0, .string op, .int .i64 wh], .int .u64 M] W fun e w' => e = .returned (.tuple #[.agg #[.int .i64 A, .int .i64 C, .string OP, .int .i64 WH], .int .u64 0]) ∧ Below W.heap.size W w')) :
  Calls Tryz.prog 89 #[v, .agg #[.int .i64 a, .int .i64 0, .string op, .int .i64 wh], .int .i64 m, .int .i64 m2] w fun e w' => e = .returned (.tuple #[.agg #[.int .i64 A, .int .i64 C, .string OP, .int .i64 WH], .slice none 0 0]) ∧ Below w.heap.size w w' := by
 have HV := hide hv
 clear hv
 have hF := rbW_cells w a wh op
 have HZ := hide (rbW_outs w a wh op)
 have HR := hide (rbW_below w a wh op)
 have hz := rbW_size w a wh op
 have HS0 := hide (hs_drew hF (by omega))
 have HS1 := hide (hs_first hF (by omega))
 have HF := hide hF
 clear hF
 go_enter Tryz.func89, Tryz.ntmps89
 go_upto_region 1 with fail
 go_cut [10, 11] (fun p k W => ∃ g, p = .pointer (some ⟨g, 0, none⟩) ∧ k = .int .u64 0 ∧ (W.cell? ⟨g, 0, none⟩ = some (.int .i64 A) ∧ W.cell? ⟨g, 1, none⟩ = some (.int .i64 C) ∧ W.cell? ⟨g, 2, none⟩ = some (.string OP) ∧ W.cell? ⟨g, 3, none⟩ = some (.int .i64 WH)) ∧ w.heap.size + 2 ≤ g ∧ Below (w.heap.size + 2) (rbW w a wh op) W ∧ w.heap.size + 2 ≤ W.heap.size)
 case first =>
  go_region_held3 (fun W => (W.cell? ⟨w.heap.size, 0, none⟩ = some (.int .i64 a) ∧ W.cell? ⟨w.heap.size, 1, none⟩ = some (.int .i64 0) ∧ W.cell? ⟨w.heap.size, 2, none⟩ = some (.string op) ∧ W.cell? ⟨w.heap.size, 3, none⟩ = some (.int .i64 wh)) ∧ Below (w.heap.size + 2) (rbW w a wh op) W ∧ w.heap.size + 2 ≤ W.heap.size)
   (first | with_reducible assumption | with_reducible exact hs_call HF.out (by assumption) (by assumption) | with_reducible exact hs_alloc HF.out (by assumption) | with_reducible exact hs_set4 HF.out (by simp) (by assumption) | with_reducible exact hs_alloc HF.out KW.out | exact HS0.out | exact HS1.out _)
   (first
    | (go_at_call 86; refine (H15.out _).mono ?_; rintro e w' ⟨rfl, rfl⟩)
    | (go_at_call 85; refine (H14.out _ ?_).mono ?_; exact HV.out.below (HR.out.trans (Below.mono (And.left (And.right (by assumption))) (by omega))); rintro e w' ⟨rfl, hb⟩; obtain ⟨hcc, hf⟩ := bcell hb; have KW := hide (hs_call HF.out hb (by assumption))))
  all_goals go_wp2_with fail
  all_goals go_meet
  ·exact ⟨_, rfl, rfl, ⟨by simp, by simp, by simp, by simp⟩, KW.out.2.2, (hs_alloc HF.out KW.out).2⟩
  all_goals
   have q0 : w'.cell? ⟨w.heap.size + 1 + 1, 0, none⟩ = some (.int .i64 0) := by rw [hcc _ _ (by simp)]; simp [go_sem]
   have q1 : w'.cell? ⟨w.heap.size + 1 + 1, 1, none⟩ = some (.int .i64 0) := by rw [hcc _ _ (by simp)]; simp [go_sem]
   have q2 : w'.cell? ⟨w.heap.size + 1 + 1, 2, none⟩ = some (.string ⟨#[]⟩) := by rw [hcc _ _ (by simp)]; simp [go_sem]
   have q3 : w'.cell? ⟨w.heap.size + 1 + 1, 3, none⟩ = some (.int .i64 0) := by rw [hcc _ _ (by simp)]; simp [go_sem]
   have T := four_cells (x := .int .i64 A) (y := .int .i64 C) (z := .string OP) (t := .int .i64 WH) q0 q1 q2 q3
   exact ⟨_, rfl, rfl, ⟨T.1, T.2.1, T.2.2.1, T.2.2.2⟩, by simp, (hs_set4 HF.out (by simp) KW.out).2⟩
 case rest =>
  obtain ⟨g, rfl, rfl, ⟨c0, c1, c2, c3⟩, hg, hB, hS⟩ := hcut
  obtain ⟨⟨r0, r1, r2, r3⟩, f2⟩ := HZ.out _ hB
  have f20 := f2 0
  have f21 := f2 1
  have f22 := f2 2
  have f23 := f2 3
  have hne : ¬ w.heap.size + 1 = g := by omega
  have hne2 : ¬ g = w.heap.size + 1 := by omega
  have HB := hide hB
  clear f2 HZ H14 H15 hB HS0 HS1 HF
  go_wp2_with fail
  refine wp_loop_rounds 1 ?_
  rw [rounds_succ]
  go_wp2_with fail
  have T := four_cells (x := .int .i64 A) (y := .int .i64 C) (z := .string OP) (t := .int .i64 WH) r0 r1 r2 r3
  have hBB : Below w.heap.size w wc := HR.out.trans (HB.out.mono (by omega))
  exact bodyPost_ret (v := .tuple #[.agg #[.int .i64 A, .int .i64 C, .string OP, .int .i64 WH], .slice none 0 0]) (by simp [results, Tryz.results89, go_sem, T.1, T.2.1, T.2.2.1, T.2.2.2]) rfl ⟨rfl, (((hBB.setCell (by simp) _).setCell (by simp) _).setCell (by simp) _).setCell (by simp) _⟩
theorem infoI' : (Tryz.prog.info? 3).map (fun i => (i.zero, i.size, i.bytes)) = some (some (.int .i64 0), 1, 8) := by kernel_rfl
def St4 (W : World) (g : Nat) (a c : Int) (op : ByteArray) (wh : Int) : Prop :=
 (W.cell? ⟨g, 0, none⟩ = some (.int .i64 a) ∧ W.cell? ⟨g, 1, none⟩ = some (.int .i64 c) ∧ W.cell? ⟨g, 2, none⟩ = some (.string op) ∧ W.cell? ⟨g, 3, none⟩ = some (.int .i64 wh)) ∧ ∀ i, W.frozen? ⟨g, i, none⟩ = false
theorem St4.below {W W' : World} {g : Nat} {a c wh : Int} {op : ByteArray} (h : St4 W g a c op wh) (hb : Below W.heap.size W W') : St4 W' g a c op wh := by
 obtain ⟨⟨h0, h1, h2, h3⟩, hf⟩ := h
 have hl : g < W.heap.size := cell_block h0
 exact ⟨⟨(hb.cell (p := ⟨g, 0, none⟩) hl).trans h0, (hb.cell (p := ⟨g, 1, none⟩) hl).trans h1, (hb.cell (p := ⟨g, 2, none⟩) hl).trans h2, (hb.cell (p := ⟨g, 3, none⟩) hl).trans h3⟩, fun i => (hb.frozen (p := ⟨g, i, none⟩) hl).trans (hf i)⟩
theorem St4.grown {W W' : World} {row : Option Nat} {g : Nat} {a c wh : Int} {op : ByteArray} (h : St4 W g a c op wh) (hg : W.grownBy W' row) (hr : ∀ k, row = some k → g < k) : St4 W' g a c op wh := by
 obtain ⟨⟨h0, h1, h2, h3⟩, hf⟩ := h
 have hne : some g ≠ row := fun q => Nat.lt_irrefl _ (hr g q.symm)
 have hbl : W'.heap[g]? = W.heap[g]? := hg.block g (cell_block h0) hne
 exact ⟨⟨(World.cell?_of_block hbl).trans h0, (World.cell?_of_block hbl).trans h1, (World.cell?_of_block hbl).trans h2, (World.cell?_of_block hbl).trans h3⟩, fun i => (World.frozen?_of_block hbl).trans (hf i)⟩
theorem St4.put {W : World} {g : Nat} {a c wh : Int} {op : ByteArray} (h : St4 W g a c op wh) (a' c' : Int) (op' : ByteArray) (wh' : Int) : St4 ((((W.setCell ⟨g, 0, none⟩ (.int .i64 a')).setCell ⟨g, 1, none⟩ (.int .i64 c')).setCell ⟨g, 2, none⟩ (.string op')).setCell ⟨g, 3, none⟩ (.int .i64 wh')) g a' c' op' wh' := by
 obtain ⟨⟨h0, h1, h2, h3⟩, hf⟩ := h
 exact ⟨four_cells h0 h1 h2 h3, fun i => by simp [hf i]⟩
theorem Bx.put4 {g : Nat} {a b : World} (h : Bx g a b) (x y z t : Value) : Bx g a ((((b.setCell ⟨g, 0, none⟩ x).setCell ⟨g, 1, none⟩ y).setCell ⟨g, 2, none⟩ z).setCell ⟨g, 3, none⟩ t) := (((h.set 0 x).set 1 y).set 2 z).set 3 t
theorem row_some (v : Value) (l : List Int) (a wh m m2 M : Int) (A N lo : Nat) (op : ByteArray) (w : World) (hv : Sl bc w v l) (hl : l.length ≤ 4000) (hby : Byt l) (hA : A ≤ l.length) (hN : (N : Int) ≤ 4611686018427387903) (hm2 : m2 ≤ 9223372036854775807) (hlo : lo ≤ w.heap.size)
  (H15 : Hid (∀ W, Calls Tryz.prog 86 #[.int .i64 m] W fun e w' => e = .returned (.int .u64 M) ∧ w' = W))
  (H14 : Hid (∀ W, Sl bc W v l → Calls Tryz.prog 85 #[v, .agg #[.int .i64 a, .int .i64 0, .string op, .int .i64 wh], .int .u64 M] W fun e w' => e = .returned (.tuple #[.agg #[.int .i64 (A : Int), .int .i64 0, .string ⟨#[]⟩, .int .i64 0], .int .u64 (N : Int)]) ∧ Below W.heap.size W w')) :
  Calls Tryz.prog 89 #[v, .agg #[.int .i64 a, .int .i64 0, .string op, .int .i64 wh], .int .i64 m, .int .i64 m2] w fun e w' => ∃ u, e = .returned (.tuple #[stX (rowI l (abv' m2) A N).1 ⟨#[110, 117, 109]⟩ (rowI l (abv' m2) A N).2.1 (rowI l (abv' m2) A N).2.1, u]) ∧ Sld lo w.heap.size ic w' u (rowR (rowI l (abv' m2) A N)) ∧ Below w.heap.size w w' := by
 obtain ⟨i0, hi, hzz0, hzz1, hzz2⟩ := info_parts infoI'
 have HV := hide hv
 have HBY := hide hby
 have H16 := hide (fun W => above_any m2 W hm2)
 simp only [abv_eq] at H16
 clear hv hby
 have hF := rbW_cells w a wh op
 have HZ := hide (rbW_outs w a wh op)
 have HR := hide (rbW_below w a wh op)
 have hz := rbW_size w a wh op
 have HS0 := hide (hs_drew hF (by omega))
 have HS1 := hide (hs_first hF (by omega))
 have HF := hide hF
 clear hF
 go_enter Tryz.func89, Tryz.ntmps89
 go_upto_region 1 with fail
 go_cut [10, 11] (fun p k W => ∃ g, p = .pointer (some ⟨g, 0, none⟩) ∧ k = .int .u64 (N : Int) ∧ St4 W g A 0 ⟨#[]⟩ 0 ∧ w.heap.size + 2 ≤ g ∧ Below (w.heap.size + 2) (rbW w a wh op) W ∧ w.heap.size + 2 ≤ W.heap.size)
 case first =>
  go_region_held3 (fun W => (W.cell? ⟨w.heap.size, 0, none⟩ = some (.int .i64 a) ∧ W.cell? ⟨w.heap.size, 1, none⟩ = some (.int .i64 0) ∧ W.cell? ⟨w.heap.size, 2, none⟩ = some (.string op) ∧ W.cell? ⟨w.heap.size, 3, none⟩ = some (.int .i64 wh)) ∧ Below (w.heap.size + 2) (rbW w a wh op) W ∧ w.heap.size + 2 ≤ W.heap.size)
   (first | with_reducible assumption | with_reducible exact hs_call HF.out (by assumption) (by assumption) | with_reducible exact hs_alloc HF.out (by assumption) | with_reducible exact hs_set4 HF.out (by simp) (by assumption) | with_reducible exact hs_alloc HF.out KW.out | exact HS0.out | exact HS1.out _)
   (first
    | (go_at_call 86; refine (H15.out _).mono ?_; rintro e w' ⟨rfl, rfl⟩)
    | (go_at_call 85; refine (H14.out _ ?_).mono ?_; exact HV.out.below (HR.out.trans (Below.mono (And.left (And.right (by assumption))) (by omega))); rintro e w' ⟨rfl, hb⟩; obtain ⟨hcc, hf⟩ := bcell hb; have KW := hide (hs_call HF.out hb (by assumption))))
  all_goals go_wp2_with fail
  all_goals go_meet
  ·exact ⟨_, rfl, rfl, ⟨⟨by simp, by simp, by simp, by simp⟩, fun i => World.frozen?_alloc_at _ _ _ _ (by simp)⟩, KW.out.2.2, (hs_alloc HF.out KW.out).2⟩
  all_goals
   have q0 : w'.cell? ⟨w.heap.size + 1 + 1, 0, none⟩ = some (.int .i64 0) := by rw [hcc _ _ (by simp)]; simp [go_sem]
   have q1 : w'.cell? ⟨w.heap.size + 1 + 1, 1, none⟩ = some (.int .i64 0) := by rw [hcc _ _ (by simp)]; simp [go_sem]
   have q2 : w'.cell? ⟨w.heap.size + 1 + 1, 2, none⟩ = some (.string ⟨#[]⟩) := by rw [hcc _ _ (by simp)]; simp [go_sem]
   have q3 : w'.cell? ⟨w.heap.size + 1 + 1, 3, none⟩ = some (.int .i64 0) := by rw [hcc _ _ (by simp)]; simp [go_sem]
   have qf : ∀ i, w'.frozen? ⟨w.heap.size + 1 + 1, i, none⟩ = false := fun i => by rw [hf _ _ (by simp)]; exact World.frozen?_alloc_at _ _ _ _ (by simp)
   have T : St4 w' (w.heap.size + 1 + 1) 0 0 ⟨#[]⟩ 0 := ⟨⟨q0, q1, q2, q3⟩, qf⟩
   exact ⟨_, rfl, rfl, T.put A 0 ⟨#[]⟩ 0, by simp, (hs_set4 HF.out (by simp) KW.out).2⟩
 case rest =>
  obtain ⟨g, rfl, rfl, hst, hg, hB, hS⟩ := hcut
  obtain ⟨wa, rfl⟩ : ∃ wa : World, wa = wc := ⟨_, rfl⟩
  obtain ⟨⟨r0, r1, r2, r3⟩, f2⟩ := HZ.out _ hB
  have hne : ¬ w.heap.size + 1 = g := by omega
  have hgl : g < wa.heap.size := cell_block hst.1.1
  have HB := hide hB
  have HST := hide hst
  have HO := hide (And.intro r0 (And.intro r1 (And.intro r2 (And.intro r3 f2))))
  have HWB := hide (HR.out.trans (hB.mono (by omega)))
  clear f2 HZ H14 H15 hB HS0 HS1 HF hst r0 r1 r2 r3
  go_wp2_with fail
  go_loopw [12, 13] (fun u i wr => ∃ j : Nat, j ≤ N ∧ i = .int .u64 j ∧ Bx g wa wr ∧
   (((rowI l (abv' m2) A j).1 = 0 ∧ St4 wr g (rowI l (abv' m2) A j).2.1 0 ⟨#[]⟩ 0 ∧ wr.ownsRow wa.heap.size 3 1 u (rowI l (abv' m2) A j).2.2.length ((rowI l (abv' m2) A j).2.2.map ic) ∧ (rowI l (abv' m2) A j).2.1 ≤ l.length ∧ (rowI l (abv' m2) A j).2.2.length + A ≤ (rowI l (abv' m2) A j).2.1) ∨
    ((rowI l (abv' m2) A j).1 ≠ 0 ∧ St4 wr g (rowI l (abv' m2) A j).2.1 (rowI l (abv' m2) A j).1 ⟨#[110, 117, 109]⟩ (rowI l (abv' m2) A j).2.1))) (fun _ i _ => N - (intOf i).toNat)
  case atStart =>
   exact ⟨0, Nat.zero_le _, rfl, Bx.refl _ _, .inl ⟨rfl, HST.out, ⟨rfl, .inl ⟨rfl, rfl⟩⟩, hA, by simp [rowI]⟩⟩
  case round =>
   obtain ⟨j, hj, rfl, hbx, hk⟩ := hrel
   obtain ⟨o0, o1, o2, o3, of⟩ := HO.out
   have hn1 : w.heap.size + 1 < wa.heap.size := by omega
   have r0 : wr.cell? ⟨w.heap.size + 1, 0, none⟩ = some (.int .i64 0) := (hbx.cell hn1 hne).trans o0
   have r1 : wr.cell? ⟨w.heap.size + 1, 1, none⟩ = some (.int .i64 0) := (hbx.cell hn1 hne).trans o1
   have r2 : wr.cell? ⟨w.heap.size + 1, 2, none⟩ = some (.string ⟨#[]⟩) := (hbx.cell hn1 hne).trans o2
   have r3 : wr.cell? ⟨w.heap.size + 1, 3, none⟩ = some (.int .i64 0) := (hbx.cell hn1 hne).trans o3
   have f0 : wr.frozen? ⟨w.heap.size + 1, 0, none⟩ = false := (hbx.frozen hn1 hne).trans (of 0)
   have f1 : wr.frozen? ⟨w.heap.size + 1, 1, none⟩ = false := (hbx.frozen hn1 hne).trans (of 1)
   have f2 : wr.frozen? ⟨w.heap.size + 1, 2, none⟩ = false := (hbx.frozen hn1 hne).trans (of 2)
   have f3 : wr.frozen? ⟨w.heap.size + 1, 3, none⟩ = false := (hbx.frozen hn1 hne).trans (of 3)
   have HBB := hide (HWB.out.trans ((hbx.below (Nat.le_of_lt hgl)).mono (show w.heap.size ≤ g by omega)))
   have hne2 : ¬ g = w.heap.size + 1 := by omega
   clear o0 o1 o2 o3 of
   rcases hk with ⟨hz0, hst, hown, hal, hln⟩ | ⟨hz0, hst⟩
   ·by_cases hlt : j < N
    ·rcases hq : numS (l.drop (rowI l (abv' m2) A j).2.1) (abv' m2) with ⟨c, k, x⟩
     have hnx := fun W (h : Sl bc W v l) => num_next v l (rowI l (abv' m2) A j).2.1 0 (abv' m2) ⟨#[]⟩ W h hl HBY.out
     have hbd := HBY.out.drop (rowI l (abv' m2) A j).2.1
     have hrg := numS_range (l.drop (rowI l (abv' m2) A j).2.1) (abv' m2) hbd
     rw [hq] at hnx hrg
     obtain ⟨x0, x1⟩ := hrg
     simp only [stN] at hnx x0 x1
     obtain ⟨A', C', OP', WH', hX, hK⟩ : ∃ A' C' OP' WH', (if c = 0 then stv ((rowI l (abv' m2) A j).2.1 + k : Nat) 0 ⟨#[]⟩ 0 else stv (rowI l (abv' m2) A j).2.1 c ⟨#[110, 117, 109]⟩ (rowI l (abv' m2) A j).2.1) = .agg #[.int .i64 A', .int .i64 C', .string OP', .int .i64 WH'] ∧
       ∀ W u, St4 W g A' C' OP' WH' → W.ownsRow wa.heap.size 3 1 u ((rowI l (abv' m2) A j).2.2.length + 1) ((rowI l (abv' m2) A j).2.2.map ic ++ [.int .i64 x]) →
       (((rowI l (abv' m2) A (j + 1)).1 = 0 ∧ St4 W g (rowI l (abv' m2) A (j + 1)).2.1 0 ⟨#[]⟩ 0 ∧ W.ownsRow wa.heap.size 3 1 u (rowI l (abv' m2) A (j + 1)).2.2.length ((rowI l (abv' m2) A (j + 1)).2.2.map ic) ∧ (rowI l (abv' m2) A (j + 1)).2.1 ≤ l.length ∧ (rowI l (abv' m2) A (j + 1)).2.2.length + A ≤ (rowI l (abv' m2) A (j + 1)).2.1) ∨
        ((rowI l (abv' m2) A (j + 1)).1 ≠ 0 ∧ St4 W g (rowI l (abv' m2) A (j + 1)).2.1 (rowI l (abv' m2) A (j + 1)).1 ⟨#[110, 117, 109]⟩ (rowI l (abv' m2) A (j + 1)).2.1)) := by
      by_cases hc : c = 0
      ·subst hc
       obtain ⟨_, hkn, _, _, _, hkl⟩ := numS_once hbd hq
       rw [List.length_drop] at hkl
       have hk1 : 1 ≤ k := by rw [hkn]; unfold numL; split; · simp
                              split; · simp
                              split <;> simp
       refine ⟨_, _, _, _, by rw [if_pos rfl]; rfl, fun W u h1 h2 => .inl ?_⟩
       rw [rowI_ok hz0 hq]
       refine ⟨rfl, h1, by simpa [ic] using h2, ?_, ?_⟩
       ·show (rowI l (abv' m2) A j).2.1 + k ≤ l.length
        omega
       ·show ((rowI l (abv' m2) A j).2.2 ++ [x]).length + A ≤ (rowI l (abv' m2) A j).2.1 + k
        simp; omega
      ·refine ⟨_, _, _, _, by rw [if_neg hc]; rfl, fun W u h1 h2 => .inr ?_⟩
       rw [rowI_bad hz0 hq hc]
       exact ⟨hc, h1⟩
     simp only [hX] at hnx
     unfold stv at hnx
     have HNX := hide hnx
     have HK := hide hK
     have HST2 := hide hst
     have HOW := hide hown
     have HBX := hide hbx
     have hwr := hbx.size
     have hgr : g < wr.heap.size := cell_block hst.1.1
     obtain ⟨⟨c0, c1, c2, c3⟩, cf⟩ := id hst
     have hF2 : ∀ W, Below wr.heap.size wr W → (W.cell? ⟨g, 0, none⟩ = some (.int .i64 (rowI l (abv' m2) A j).2.1) ∧ W.cell? ⟨g, 1, none⟩ = some (.int .i64 0) ∧ W.cell? ⟨g, 2, none⟩ = some (.string ⟨#[]⟩) ∧ W.cell? ⟨g, 3, none⟩ = some (.int .i64 0)) := fun W hb => (hst.below hb).1
     have HS0 := hide (hs_drew hF2 (Nat.le_refl _))
     have HS1 := hide (hs_first hF2 (Nat.le_refl _))
     have HF := hide hF2
     clear hF2 hnx hK hX hst hown hbx cf hq hbd hz0
     generalize (rowI l (abv' m2) A j).2.1 = a1 at *
     generalize hxs : (rowI l (abv' m2) A j).2.2 = xs at *
     clear hxs
     go_wp2_with fail
     go_cut [14, 15] from 24 to 47 (fun p kk W => ∃ g2, p = .pointer (some ⟨g2, 0, none⟩) ∧ kk = .int .u64 x ∧ (W.cell? ⟨g2, 0, none⟩ = some (.int .i64 A') ∧ W.cell? ⟨g2, 1, none⟩ = some (.int .i64 C') ∧ W.cell? ⟨g2, 2, none⟩ = some (.string OP') ∧ W.cell? ⟨g2, 3, none⟩ = some (.int .i64 WH')) ∧ wr.heap.size ≤ g2 ∧ Below wr.heap.size wr W ∧ wr.heap.size ≤ W.heap.size)
     case first =>
      go_region_held3 (fun W => (W.cell? ⟨g, 0, none⟩ = some (.int .i64 a1) ∧ W.cell? ⟨g, 1, none⟩ = some (.int .i64 0) ∧ W.cell? ⟨g, 2, none⟩ = some (.string ⟨#[]⟩) ∧ W.cell? ⟨g, 3, none⟩ = some (.int .i64 0)) ∧ Below wr.heap.size wr W ∧ wr.heap.size ≤ W.heap.size)
       (first | with_reducible assumption | with_reducible exact hs_call HF.out (by assumption) (by assumption) | with_reducible exact hs_alloc HF.out (by assumption) | with_reducible exact hs_set4 HF.out (by simp) (by assumption) | with_reducible exact hs_alloc HF.out KW.out | exact HS0.out | exact HS1.out _)
       (first
        | (go_at_call 86; refine (H16.out _).mono ?_; rintro e w' ⟨rfl, rfl⟩)
        | (go_at_call 85; refine (HNX.out _ ?_).mono ?_; exact HV.out.below (HBB.out.trans (Below.mono (And.left (And.right (by assumption))) (HBB.out.size))); rintro e w' ⟨rfl, hb⟩; obtain ⟨hcc, hf⟩ := bcell hb; have KW := hide (hs_call HF.out hb (by assumption))))
      all_goals go_wp2_with fail
      all_goals go_meet
      ·exact ⟨_, rfl, rfl, ⟨by simp, by simp, by simp, by simp⟩, KW.out.2.2, (hs_alloc HF.out KW.out).2⟩
      all_goals
       have q0 : w'.cell? ⟨wr.heap.size, 0, none⟩ = some (.int .i64 0) := by rw [hcc _ _ (by simp)]; simp [go_sem]
       have q1 : w'.cell? ⟨wr.heap.size, 1, none⟩ = some (.int .i64 0) := by rw [hcc _ _ (by simp)]; simp [go_sem]
       have q2 : w'.cell? ⟨wr.heap.size, 2, none⟩ = some (.string ⟨#[]⟩) := by rw [hcc _ _ (by simp)]; simp [go_sem]
       have q3 : w'.cell? ⟨wr.heap.size, 3, none⟩ = some (.int .i64 0) := by rw [hcc _ _ (by simp)]; simp [go_sem]
       have T := four_cells (x := .int .i64 A') (y := .int .i64 C') (z := .string OP') (t := .int .i64 WH') q0 q1 q2 q3
       exact ⟨_, rfl, rfl, ⟨T.1, T.2.1, T.2.2.1, T.2.2.2⟩, Nat.le_refl _, (hs_set4 HF.out (Nat.le_refl _) KW.out).2⟩
     case rest =>
      obtain ⟨g2, rfl, rfl, ⟨d0, d1, d2, d3⟩, hg2, hB2, hS2⟩ := hcut
      have hst3 := HST2.out.below hB2
      have HP := hide (hst3.put A' C' OP' WH')
      obtain ⟨⟨c0, c1, c2, c3⟩, cf⟩ := id hst3
      have cf0 := cf 0
      have cf1 := cf 1
      have cf2 := cf 2
      have cf3 := cf 3
      have hgg : ¬ g = g2 := by omega
      have hgg2 : ¬ g2 = g := by omega
      have hown3 := owns_bx (owns_below HOW.out hB2) ((Bx.refl g _).put4 (.int .i64 A') (.int .i64 C') (.string OP') (.int .i64 WH')) hgl
      have HBX3 := hide ((HBX.out.call hB2).put4 (.int .i64 A') (.int .i64 C') (.string OP') (.int .i64 WH'))
      clear hst3 cf r0 r1 r2 r3 f0 f1 f2 f3 HS0 HS1 HF HNX H16 HB HO hB2
      go_wp2_with (first | (at_builtin; refine wpList_append_own _ rfl _ _ 43 rfl wa.heap.size 3 i0 (.int .i64 0) 1 8 Tryz.underlying43 hi hzz0 hzz1 hzz2 rfl (by decide) _ _ _ rfl (hown3.alloc _) _ 1 1 [.int .i64 x] rfl rfl ?c1 ?c2 ?c3 ?c4 ?c5 ?_))
      case c1 =>
       intro j u hj
       match j, hj with
       | 0, hj => simp at hj; subst hj; simp [Addr.add, go_sem]
      case c2 => intro u hu; simp at hu; subst hu; rfl
      case c3 => unfold maxLen; omega
      case c4 => omega
      case c5 => simp; omega
      ·intro v' w3 hown' hgrow _
       have hge : ∀ k, Value.ownBlock _ = some k → wa.heap.size ≤ k := fun k hk => (hown3.lt k hk).1
       have hB3 : Bx g wa w3 := (HBX3.out.call ((Below.refl _ _).alloc (Nat.le_refl _) _)).grown hgrow hge
       have hS3 := (HP.out.below ((Below.refl _ _).alloc (Nat.le_refl _) _)).grown hgrow (fun k hk => Nat.lt_of_lt_of_le hgl (hge k hk))
       have HK3 := hide (HK.out w3 v' hS3 hown')
       have HB3 := hide hB3
       clear hown' hgrow hown3 hge hB3 hS3
       go_wp2_with fail
       go_roundw
       case rel => exact ⟨j + 1, by omega, by go_num, HB3.out, HK3.out⟩
       case measure => simp [intOf]; omega
    ·obtain rfl : j = N := by omega
     have HST2 := hide hst
     obtain ⟨⟨c0, c1, c2, c3⟩, cf⟩ := hst
     have HOW := hide hown
     have HZ0 := hide hz0
     clear hown hz0 cf hbx hlt
     go_wp2_with fail
     have T := four_cells (x := .int .i64 (rowI l (abv' m2) A j).2.1) (y := .int .i64 0) (z := .string ⟨#[]⟩) (t := .int .i64 0) r0 r1 r2 r3
     have l1 : lo ≤ w.heap.size + 1 := by omega
     have hsl := ((((((sld_of_owns lo HOW.out).set 0 (.int .i64 (rowI l (abv' m2) A j).2.1) l1 hn1).set 1 (.int .i64 0) l1 hn1).set 2 (.string ⟨#[]⟩) l1 hn1).set 3 (.int .i64 0) l1 hn1).more (show w.heap.size ≤ wa.heap.size by omega))
     refine bodyPost_ret (v := .tuple #[.agg #[.int .i64 (rowI l (abv' m2) A j).2.1, .int .i64 0, .string ⟨#[]⟩, .int .i64 0], u12]) (by simp [results, Tryz.results89, go_sem, T.1, T.2.1, T.2.2.1, T.2.2.2]) rfl ⟨u12, ?_, ?_, (((HBB.out.setCell (by simp) _).setCell (by simp) _).setCell (by simp) _).setCell (by simp) _⟩
     ·simp [stX, HZ0.out, stv]
     ·simp only [rowR, HZ0.out, if_true]; exact hsl
   ·have hC : ((rowI l (abv' m2) A j).1 == 0) = false := by simpa using hz0
    have hC2 : ((rowI l (abv' m2) A j).1 != 0) = true := by simpa using hz0
    have HZ2 : Hid (rowI l (abv' m2) A N = rowI l (abv' m2) A j) := hide (by have := rowI_stays hz0 (N - j); rw [← this]; congr 1; omega)
    obtain ⟨⟨c0, c1, c2, c3⟩, cf⟩ := hst
    clear cf hbx
    generalize hQ : rowI l (abv' m2) A j = z at *
    obtain ⟨C, B, xs⟩ := z
    simp only at *
    by_cases hlt : j < N
    ·go_wp2_with fail
     have T := four_cells (x := .int .i64 B) (y := .int .i64 C) (z := .string ⟨#[110, 117, 109]⟩) (t := .int .i64 B) r0 r1 r2 r3
     refine bodyPost_ret (v := .tuple #[.agg #[.int .i64 B, .int .i64 C, .string ⟨#[110, 117, 109]⟩, .int .i64 B], .slice none 0 0]) (by simp [results, Tryz.results89, go_sem, T.1, T.2.1, T.2.2.1, T.2.2.2]) rfl ⟨.slice none 0 0, ?_, ?_, (((HBB.out.setCell (by simp) _).setCell (by simp) _).setCell (by simp) _).setCell (by simp) _⟩
     ·rw [HZ2.out]; simp [stX, stv, hz0]
     ·rw [HZ2.out]; simp only [rowR, if_neg hz0]; exact Sld.nil _ _ _ _ _ _
    ·go_wp2_with fail
     have T := four_cells (x := .int .i64 B) (y := .int .i64 C) (z := .string ⟨#[110, 117, 109]⟩) (t := .int .i64 B) r0 r1 r2 r3
     refine bodyPost_ret (v := .tuple #[.agg #[.int .i64 B, .int .i64 C, .string ⟨#[110, 117, 109]⟩, .int .i64 B], .slice none 0 0]) (by simp [results, Tryz.results89, go_sem, T.1, T.2.1, T.2.2.1, T.2.2.2]) rfl ⟨.slice none 0 0, ?_, ?_, (((HBB.out.setCell (by simp) _).setCell (by simp) _).setCell (by simp) _).setCell (by simp) _⟩
     ·rw [HZ2.out]; simp [stX, stv, hz0]
     ·rw [HZ2.out]; simp only [rowR, if_neg hz0]; exact Sld.nil _ _ _ _ _ _
end Go.Proofs.YtjjpfajbljbelaaGreatDoor
