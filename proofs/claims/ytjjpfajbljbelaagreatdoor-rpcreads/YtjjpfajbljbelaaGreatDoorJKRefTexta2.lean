/-
  THE DOCUMENT's NEXT TEXT (castellanref02.text), out of what its num tells: something is wrong; bytes lack; they are there. Conditions: the bytes' cells hold them, no more than four thousand, and the numbers are in their bounds.
  THE DOCUMENT's NEXT TEXT (castellanref02.text), out of what its num tells: something is wrong; bytes lack; they are there. Conditions: the bytes' cells hold them, no more than four thousand, and the numbers are in their bounds.
-/
import Derived.Test.YtjjpfajbljbelaaGreatDoorJKRecChca3
namespace Go.Proofs.YtjjpfajbljbelaaGreatDoor
open Go.RowKit
set_option maxRecDepth 100000
set_option maxHeartbeats 8000000
def Kp (n : Nat) (a wh : Int) (op : ByteArray) (w W : World) : Prop :=
 W.cell? ⟨n, 0, none⟩ = some (.int .i64 a) ∧ W.cell? ⟨n, 1, none⟩ = some (.int .i64 0) ∧ W.cell? ⟨n, 2, none⟩ = some (.string op) ∧ W.cell? ⟨n, 3, none⟩ = some (.int .i64 wh) ∧
 (W.cell? ⟨n + 1, 0, none⟩ = some (.int .i64 0) ∧ W.cell? ⟨n + 1, 1, none⟩ = some (.int .i64 0) ∧ W.cell? ⟨n + 1, 2, none⟩ = some (.string ⟨#[]⟩) ∧ W.cell? ⟨n + 1, 3, none⟩ = some (.int .i64 0)) ∧
 (∀ i, W.frozen? ⟨n + 1, i, none⟩ = false) ∧ Below n w W ∧ n + 2 ≤ W.heap.size
theorem Kp.later {n : Nat} {a wh : Int} {op : ByteArray} {w W : World} {W' : World} (h : Kp n a wh op w W) (hb : Below (n + 2) W W') : Kp n a wh op w W' := by
 obtain ⟨h1, h2, h3, h4, ⟨r0, r1, r2, r3⟩, hf, hB, hz⟩ := h
 have c : ∀ k i x, k < n + 2 → W.cell? ⟨k, i, none⟩ = some x → W'.cell? ⟨k, i, none⟩ = some x := fun k i x hk hx => (hb.cell (p := ⟨k, i, none⟩) hk).trans hx
 exact ⟨c _ _ _ (by omega) h1, c _ _ _ (by omega) h2, c _ _ _ (by omega) h3, c _ _ _ (by omega) h4, ⟨c _ _ _ (by omega) r0, c _ _ _ (by omega) r1, c _ _ _ (by omega) r2, c _ _ _ (by omega) r3⟩,
  fun i => (hb.frozen (p := ⟨n + 1, i, none⟩) (by show n + 1 < n + 2; omega)).trans (hf i), hB.trans (hb.mono (by omega)), Nat.le_trans hz hb.size⟩
theorem Kp.size {n : Nat} {a wh : Int} {op : ByteArray} {w W : World} (h : Kp n a wh op w W) : n + 2 ≤ W.heap.size := h.2.2.2.2.2.2.2
theorem Kp.old {n : Nat} {a wh : Int} {op : ByteArray} {w W : World} (h : Kp n a wh op w W) : Below n w W := h.2.2.2.2.2.2.1
theorem Kp.call {n : Nat} {a wh : Int} {op : ByteArray} {w W : World} {W' : World} (h : Kp n a wh op w W) (hb : Below W.heap.size W W') : Kp n a wh op w W' := h.later (hb.mono h.size)
theorem Kp.alloc {n : Nat} {a wh : Int} {op : ByteArray} {w W : World} (h : Kp n a wh op w W) (o : Obj) : Kp n a wh op w (W.alloc o) := h.call ((Below.refl _ _).alloc (Nat.le_refl _) o)
theorem Kp.set {n : Nat} {a wh : Int} {op : ByteArray} {w W : World} {g : Nat} {x y z t : Value} (h : Kp n a wh op w W) (hg : n + 2 ≤ g) : Kp n a wh op w ((((W.setCell ⟨g, 0, none⟩ x).setCell ⟨g, 1, none⟩ y).setCell ⟨g, 2, none⟩ z).setCell ⟨g, 3, none⟩ t) :=
 h.later (((((Below.refl _ _).setCell (by exact hg) _).setCell (by exact hg) _).setCell (by exact hg) _).setCell (by exact hg) _)
theorem Kp.S {n : Nat} {a wh : Int} {op : ByteArray} {w W : World} (h : Kp n a wh op w W) : W.cell? ⟨n, 0, none⟩ = some (.int .i64 a) ∧ W.cell? ⟨n, 1, none⟩ = some (.int .i64 0) ∧ W.cell? ⟨n, 2, none⟩ = some (.string op) ∧ W.cell? ⟨n, 3, none⟩ = some (.int .i64 wh) ∧ Kp n a wh op w W := ⟨h.1, h.2.1, h.2.2.1, h.2.2.2.1, h⟩
theorem kpOf {n : Nat} {a wh : Int} {op : ByteArray} {w W : World} (h : W.cell? ⟨n, 0, none⟩ = some (.int .i64 a) ∧ W.cell? ⟨n, 1, none⟩ = some (.int .i64 0) ∧ W.cell? ⟨n, 2, none⟩ = some (.string op) ∧ W.cell? ⟨n, 3, none⟩ = some (.int .i64 wh) ∧ Kp n a wh op w W) : Kp n a wh op w W := h.2.2.2.2
theorem kS_call {n : Nat} {a wh : Int} {op : ByteArray} {w W : World} {W' : World} (hb : Below W.heap.size W W') (h : W.cell? ⟨n, 0, none⟩ = some (.int .i64 a) ∧ W.cell? ⟨n, 1, none⟩ = some (.int .i64 0) ∧ W.cell? ⟨n, 2, none⟩ = some (.string op) ∧ W.cell? ⟨n, 3, none⟩ = some (.int .i64 wh) ∧ Kp n a wh op w W) : W'.cell? ⟨n, 0, none⟩ = some (.int .i64 a) ∧ W'.cell? ⟨n, 1, none⟩ = some (.int .i64 0) ∧ W'.cell? ⟨n, 2, none⟩ = some (.string op) ∧ W'.cell? ⟨n, 3, none⟩ = some (.int .i64 wh) ∧ Kp n a wh op w W' := ((kpOf h).call hb).S
theorem kS_alloc {n : Nat} {a wh : Int} {op : ByteArray} {w W : World} {o : Obj} (h : W.cell? ⟨n, 0, none⟩ = some (.int .i64 a) ∧ W.cell? ⟨n, 1, none⟩ = some (.int .i64 0) ∧ W.cell? ⟨n, 2, none⟩ = some (.string op) ∧ W.cell? ⟨n, 3, none⟩ = some (.int .i64 wh) ∧ Kp n a wh op w W) : (W.alloc o).cell? ⟨n, 0, none⟩ = some (.int .i64 a) ∧ (W.alloc o).cell? ⟨n, 1, none⟩ = some (.int .i64 0) ∧ (W.alloc o).cell? ⟨n, 2, none⟩ = some (.string op) ∧ (W.alloc o).cell? ⟨n, 3, none⟩ = some (.int .i64 wh) ∧ Kp n a wh op w (W.alloc o) := ((kpOf h).alloc o).S
theorem kS_set {n : Nat} {a wh : Int} {op : ByteArray} {w W : World} {g : Nat} {x y z t : Value} (hg : n + 2 ≤ g) (h : W.cell? ⟨n, 0, none⟩ = some (.int .i64 a) ∧ W.cell? ⟨n, 1, none⟩ = some (.int .i64 0) ∧ W.cell? ⟨n, 2, none⟩ = some (.string op) ∧ W.cell? ⟨n, 3, none⟩ = some (.int .i64 wh) ∧ Kp n a wh op w W) : ((((W.setCell ⟨g, 0, none⟩ x).setCell ⟨g, 1, none⟩ y).setCell ⟨g, 2, none⟩ z).setCell ⟨g, 3, none⟩ t).cell? ⟨n, 0, none⟩ = some (.int .i64 a) ∧ ((((W.setCell ⟨g, 0, none⟩ x).setCell ⟨g, 1, none⟩ y).setCell ⟨g, 2, none⟩ z).setCell ⟨g, 3, none⟩ t).cell? ⟨n, 1, none⟩ = some (.int .i64 0) ∧ ((((W.setCell ⟨g, 0, none⟩ x).setCell ⟨g, 1, none⟩ y).setCell ⟨g, 2, none⟩ z).setCell ⟨g, 3, none⟩ t).cell? ⟨n, 2, none⟩ = some (.string op) ∧ ((((W.setCell ⟨g, 0, none⟩ x).setCell ⟨g, 1, none⟩ y).setCell ⟨g, 2, none⟩ z).setCell ⟨g, 3, none⟩ t).cell? ⟨n, 3, none⟩ = some (.int .i64 wh) ∧ Kp n a wh op w ((((W.setCell ⟨g, 0, none⟩ x).setCell ⟨g, 1, none⟩ y).setCell ⟨g, 2, none⟩ z).setCell ⟨g, 3, none⟩ t) := ((kpOf h).set hg).S
theorem text_bad (v : Value) (l : List Int) (a wh m M A C WH nn : Int) (op OP : ByteArray) (w : World) (hv : Sl bc w (v) l) (hC : (C != 0) = true)
  (H15 : Hid (∀ W, Calls Tryz.prog 86 #[.int .i64 m] W fun e w' => e = .returned (.int .u64 M) ∧ w' = W))
  (H14 : Hid (∀ W, Sl bc W (v) l → Calls Tryz.prog 85 #[v, .agg #[.int .i64 a, .int .i64 0, .string op, .int .i64 wh], .int .u64 M] W fun e w' => e = .returned (.tuple #[.agg #[.int .i64 A, .int .i64 C, .string OP, .int .i64 WH], .int .u64 nn]) ∧ Below W.heap.size W w')) :
  Calls Tryz.prog 88 #[v, .agg #[.int .i64 a, .int .i64 0, .string op, .int .i64 wh], .int .i64 m] w fun e w' => e = .returned (.tuple #[.agg #[.int .i64 A, .int .i64 C, .string OP, .int .i64 WH], .slice none 0 0]) ∧ Below w.heap.size w w' := by
 have HV := hide hv
 clear hv
 go_enter Tryz.func88, Tryz.ntmps88
 go_upto_region 1 with fail
 go_cut [8, 9] (fun p k W => ∃ g, p = .pointer (some ⟨g, 0, none⟩) ∧ k = .int .u64 nn ∧ (W.cell? ⟨g, 0, none⟩ = some (.int .i64 A) ∧ W.cell? ⟨g, 1, none⟩ = some (.int .i64 C) ∧ W.cell? ⟨g, 2, none⟩ = some (.string OP) ∧ W.cell? ⟨g, 3, none⟩ = some (.int .i64 WH)) ∧ w.heap.size + 2 ≤ g ∧ Kp w.heap.size a wh op w W)
 case first =>
  have k0 : Kp w.heap.size a wh op w ((w.alloc (.cells #[.int .i64 a, .int .i64 0, .string op, .int .i64 wh] 66)).alloc (.cells #[.int .i64 0, .int .i64 0, .string ⟨#[]⟩, .int .i64 0] 66)) :=
   ⟨by simp, by simp, by simp, by simp, ⟨by simp, by simp, by simp, by simp⟩, fun i => World.frozen?_alloc_at _ _ _ _ (by simp), ((Below.refl _ _).alloc (Nat.le_refl _) _).alloc (by simp) _, by simp⟩
  have K0 := hide k0
  clear k0
  go_region_held3 (fun W => W.cell? ⟨w.heap.size, 0, none⟩ = some (.int .i64 a) ∧ W.cell? ⟨w.heap.size, 1, none⟩ = some (.int .i64 0) ∧ W.cell? ⟨w.heap.size, 2, none⟩ = some (.string op) ∧ W.cell? ⟨w.heap.size, 3, none⟩ = some (.int .i64 wh) ∧ Kp w.heap.size a wh op w W)
   (first | with_reducible assumption | with_reducible exact kS_call (by assumption) (by assumption) | with_reducible exact kS_alloc (by assumption) | with_reducible exact (KW.out.alloc _).S | with_reducible exact kS_set (by simp) (by assumption) | with_reducible exact kS_call (Below.refl _ _).drew (K0.out.alloc _).S | with_reducible exact kS_call (Below.refl _ _).drew K0.out.S)
   (first
    | (go_at_call 86; refine (H15.out _).mono ?_; rintro e w' ⟨rfl, rfl⟩)
    | (go_at_call 85; refine (H14.out _ ?_).mono ?_; exact HV.out.below (kpOf (n := w.heap.size) (a := a) (wh := wh) (op := op) (w := w) (by assumption)).old; rintro e w' ⟨rfl, hb⟩; obtain ⟨hcc, hf⟩ := bcell hb; have KW := hide (kpOf (n := w.heap.size) (a := a) (wh := wh) (op := op) (w := w) (kS_call hb (by assumption)))))
  all_goals go_wp2_with fail
  all_goals go_meet
  ·exact ⟨_, rfl, rfl, ⟨by simp, by simp, by simp, by simp⟩, KW.out.size, KW.out.alloc _⟩
  all_goals
   have q0 : w'.cell? ⟨w.heap.size + 1 + 1, 0, none⟩ = some (.int .i64 0) := by rw [hcc _ _ (by simp)]; simp [go_sem]
   have q1 : w'.cell? ⟨w.heap.size + 1 + 1, 1, none⟩ = some (.int .i64 0) := by rw [hcc _ _ (by simp)]; simp [go_sem]
   have q2 : w'.cell? ⟨w.heap.size + 1 + 1, 2, none⟩ = some (.string ⟨#[]⟩) := by rw [hcc _ _ (by simp)]; simp [go_sem]
   have q3 : w'.cell? ⟨w.heap.size + 1 + 1, 3, none⟩ = some (.int .i64 0) := by rw [hcc _ _ (by simp)]; simp [go_sem]
   have T := four_cells (x := .int .i64 A) (y := .int .i64 C) (z := .string OP) (t := .int .i64 WH) q0 q1 q2 q3
   exact ⟨_, rfl, rfl, ⟨T.1, T.2.1, T.2.2.1, T.2.2.2⟩, by simp, KW.out.set (by simp)⟩
 case rest =>
  obtain ⟨g, rfl, rfl, ⟨c0, c1, c2, c3⟩, hg, kp⟩ := hcut
  have hne : ¬ w.heap.size + 1 = g := by omega
  have hne2 : ¬ g = w.heap.size + 1 := by omega
  obtain ⟨b0, b1, b2, b3, ⟨r0, r1, r2, r3⟩, hfz, hB, hz⟩ := kp
  have f0 := hfz 0
  have f1 := hfz 1
  have f2 := hfz 2
  have f3 := hfz 3
  clear hfz H14 H15
  go_wp2
  have T := four_cells (x := .int .i64 A) (y := .int .i64 C) (z := .string OP) (t := .int .i64 WH) r0 r1 r2 r3
  exact bodyPost_ret (v := .tuple #[.agg #[.int .i64 A, .int .i64 C, .string OP, .int .i64 WH], .slice none 0 0]) (by simp [results, Tryz.results88, go_sem, T.1, T.2.1, T.2.2.1, T.2.2.2]) rfl ⟨rfl, (((hB.setCell (by simp) _).setCell (by simp) _).setCell (by simp) _).setCell (by simp) _⟩
theorem text_ok (b o L cap : Nat) (l : List Int) (a wh m M A WH nn : Int) (op OP : ByteArray) (w : World) (hv : Sl bc w (.slice (some ⟨b, o, none⟩) L cap) l) (hL : L ≤ 4000) (hc : L ≤ cap) (hA : 0 ≤ A) (hn : 0 ≤ nn) (hfit : A + nn ≤ L) (hcap : ¬ cap = A.toNat)
  (H15 : Hid (∀ W, Calls Tryz.prog 86 #[.int .i64 m] W fun e w' => e = .returned (.int .u64 M) ∧ w' = W))
  (H14 : Hid (∀ W, Sl bc W (.slice (some ⟨b, o, none⟩) L cap) l → Calls Tryz.prog 85 #[.slice (some ⟨b, o, none⟩) L cap, .agg #[.int .i64 a, .int .i64 0, .string op, .int .i64 wh], .int .u64 M] W fun e w' => e = .returned (.tuple #[.agg #[.int .i64 A, .int .i64 0, .string OP, .int .i64 WH], .int .u64 nn]) ∧ Below W.heap.size W w')) :
  Calls Tryz.prog 88 #[.slice (some ⟨b, o, none⟩) L cap, .agg #[.int .i64 a, .int .i64 0, .string op, .int .i64 wh], .int .i64 m] w fun e w' => e = .returned (.tuple #[.agg #[.int .i64 (A + nn), .int .i64 0, .string ⟨#[]⟩, .int .i64 0], .slice (some ⟨b, o + A.toNat, none⟩) ((A + nn).toNat - A.toNat) (cap - A.toNat)]) ∧ Below w.heap.size w w' := by
 have HV := hide hv
 clear hv
 go_enter Tryz.func88, Tryz.ntmps88
 go_upto_region 1 with fail
 go_cut [8, 9] (fun p k W => ∃ g, p = .pointer (some ⟨g, 0, none⟩) ∧ k = .int .u64 nn ∧ (W.cell? ⟨g, 0, none⟩ = some (.int .i64 A) ∧ W.cell? ⟨g, 1, none⟩ = some (.int .i64 0) ∧ W.cell? ⟨g, 2, none⟩ = some (.string OP) ∧ W.cell? ⟨g, 3, none⟩ = some (.int .i64 WH)) ∧ w.heap.size + 2 ≤ g ∧ Kp w.heap.size a wh op w W)
 case first =>
  have k0 : Kp w.heap.size a wh op w ((w.alloc (.cells #[.int .i64 a, .int .i64 0, .string op, .int .i64 wh] 66)).alloc (.cells #[.int .i64 0, .int .i64 0, .string ⟨#[]⟩, .int .i64 0] 66)) :=
   ⟨by simp, by simp, by simp, by simp, ⟨by simp, by simp, by simp, by simp⟩, fun i => World.frozen?_alloc_at _ _ _ _ (by simp), ((Below.refl _ _).alloc (Nat.le_refl _) _).alloc (by simp) _, by simp⟩
  have K0 := hide k0
  clear k0
  go_region_held3 (fun W => W.cell? ⟨w.heap.size, 0, none⟩ = some (.int .i64 a) ∧ W.cell? ⟨w.heap.size, 1, none⟩ = some (.int .i64 0) ∧ W.cell? ⟨w.heap.size, 2, none⟩ = some (.string op) ∧ W.cell? ⟨w.heap.size, 3, none⟩ = some (.int .i64 wh) ∧ Kp w.heap.size a wh op w W)
   (first | with_reducible assumption | with_reducible exact kS_call (by assumption) (by assumption) | with_reducible exact kS_alloc (by assumption) | with_reducible exact (KW.out.alloc _).S | with_reducible exact kS_set (by simp) (by assumption) | with_reducible exact kS_call (Below.refl _ _).drew (K0.out.alloc _).S | with_reducible exact kS_call (Below.refl _ _).drew K0.out.S)
   (first
    | (go_at_call 86; refine (H15.out _).mono ?_; rintro e w' ⟨rfl, rfl⟩)
    | (go_at_call 85; refine (H14.out _ ?_).mono ?_; exact HV.out.below (kpOf (n := w.heap.size) (a := a) (wh := wh) (op := op) (w := w) (by assumption)).old; rintro e w' ⟨rfl, hb⟩; obtain ⟨hcc, hf⟩ := bcell hb; have KW := hide (kpOf (n := w.heap.size) (a := a) (wh := wh) (op := op) (w := w) (kS_call hb (by assumption)))))
  all_goals go_wp2_with fail
  all_goals go_meet
  ·exact ⟨_, rfl, rfl, ⟨by simp, by simp, by simp, by simp⟩, KW.out.size, KW.out.alloc _⟩
  all_goals
   have q0 : w'.cell? ⟨w.heap.size + 1 + 1, 0, none⟩ = some (.int .i64 0) := by rw [hcc _ _ (by simp)]; simp [go_sem]
   have q1 : w'.cell? ⟨w.heap.size + 1 + 1, 1, none⟩ = some (.int .i64 0) := by rw [hcc _ _ (by simp)]; simp [go_sem]
   have q2 : w'.cell? ⟨w.heap.size + 1 + 1, 2, none⟩ = some (.string ⟨#[]⟩) := by rw [hcc _ _ (by simp)]; simp [go_sem]
   have q3 : w'.cell? ⟨w.heap.size + 1 + 1, 3, none⟩ = some (.int .i64 0) := by rw [hcc _ _ (by simp)]; simp [go_sem]
   have T := four_cells (x := .int .i64 A) (y := .int .i64 0) (z := .string OP) (t := .int .i64 WH) q0 q1 q2 q3
   exact ⟨_, rfl, rfl, ⟨T.1, T.2.1, T.2.2.1, T.2.2.2⟩, by simp, KW.out.set (by simp)⟩
 case rest =>
  obtain ⟨g, rfl, rfl, ⟨c0, c1, c2, c3⟩, hg, kp⟩ := hcut
  have hne : ¬ w.heap.size + 1 = g := by omega
  have hne2 : ¬ g = w.heap.size + 1 := by omega
  obtain ⟨b0, b1, b2, b3, ⟨r0, r1, r2, r3⟩, hfz, hB, hz⟩ := kp
  have f0 := hfz 0
  have f1 := hfz 1
  have f2 := hfz 2
  have f3 := hfz 3
  clear hfz H14 H15
  go_wp2
  go_region
  go_wp2
  have T := four_cells (x := .int .i64 (A + nn)) (y := .int .i64 0) (z := .string ⟨#[]⟩) (t := .int .i64 0) r0 r1 r2 r3
  exact bodyPost_ret (v := .tuple #[.agg #[.int .i64 (A + nn), .int .i64 0, .string ⟨#[]⟩, .int .i64 0], .slice (some ⟨b, o + A.toNat, none⟩) ((A + nn).toNat - A.toNat) (cap - A.toNat)]) (by simp [results, Tryz.results88, go_sem, T.1, T.2.1, T.2.2.1, T.2.2.2]) rfl ⟨rfl, ((((hB.setCell (by simp) _).setCell (by simp) _).setCell (by simp) _).setCell (by simp) _).drew⟩
theorem text_short (b o L cap : Nat) (l : List Int) (a wh m M A WH nn : Int) (op OP : ByteArray) (w : World) (hv : Sl bc w (.slice (some ⟨b, o, none⟩) L cap) l) (hL : L ≤ 4000) (hA : 0 ≤ A) (_hn : 0 ≤ nn) (hAL : A ≤ L) (hfit : L - A < nn)
  (H15 : Hid (∀ W, Calls Tryz.prog 86 #[.int .i64 m] W fun e w' => e = .returned (.int .u64 M) ∧ w' = W))
  (H14 : Hid (∀ W, Sl bc W (.slice (some ⟨b, o, none⟩) L cap) l → Calls Tryz.prog 85 #[.slice (some ⟨b, o, none⟩) L cap, .agg #[.int .i64 a, .int .i64 0, .string op, .int .i64 wh], .int .u64 M] W fun e w' => e = .returned (.tuple #[.agg #[.int .i64 A, .int .i64 0, .string OP, .int .i64 WH], .int .u64 nn]) ∧ Below W.heap.size W w')) :
  Calls Tryz.prog 88 #[.slice (some ⟨b, o, none⟩) L cap, .agg #[.int .i64 a, .int .i64 0, .string op, .int .i64 wh], .int .i64 m] w fun e w' => e = .returned (.tuple #[.agg #[.int .i64 a, .int .i64 3, .string ⟨#[116, 101, 120, 116]⟩, .int .i64 a], .slice none 0 0]) ∧ Below w.heap.size w w' := by
 have HB := hide (fun W => bad_any a 0 0 a 3 ⟨#[]⟩ ⟨#[116, 101, 120, 116]⟩ W rfl)
 unfold stv at HB
 have HV := hide hv
 clear hv
 go_enter Tryz.func88, Tryz.ntmps88
 go_upto_region 1 with fail
 go_cut [8, 9] (fun p k W => ∃ g, p = .pointer (some ⟨g, 0, none⟩) ∧ k = .int .u64 nn ∧ (W.cell? ⟨g, 0, none⟩ = some (.int .i64 A) ∧ W.cell? ⟨g, 1, none⟩ = some (.int .i64 0) ∧ W.cell? ⟨g, 2, none⟩ = some (.string OP) ∧ W.cell? ⟨g, 3, none⟩ = some (.int .i64 WH)) ∧ w.heap.size + 2 ≤ g ∧ Kp w.heap.size a wh op w W)
 case first =>
  have k0 : Kp w.heap.size a wh op w ((w.alloc (.cells #[.int .i64 a, .int .i64 0, .string op, .int .i64 wh] 66)).alloc (.cells #[.int .i64 0, .int .i64 0, .string ⟨#[]⟩, .int .i64 0] 66)) :=
   ⟨by simp, by simp, by simp, by simp, ⟨by simp, by simp, by simp, by simp⟩, fun i => World.frozen?_alloc_at _ _ _ _ (by simp), ((Below.refl _ _).alloc (Nat.le_refl _) _).alloc (by simp) _, by simp⟩
  have K0 := hide k0
  clear k0
  go_region_held3 (fun W => W.cell? ⟨w.heap.size, 0, none⟩ = some (.int .i64 a) ∧ W.cell? ⟨w.heap.size, 1, none⟩ = some (.int .i64 0) ∧ W.cell? ⟨w.heap.size, 2, none⟩ = some (.string op) ∧ W.cell? ⟨w.heap.size, 3, none⟩ = some (.int .i64 wh) ∧ Kp w.heap.size a wh op w W)
   (first | with_reducible assumption | with_reducible exact kS_call (by assumption) (by assumption) | with_reducible exact kS_alloc (by assumption) | with_reducible exact (KW.out.alloc _).S | with_reducible exact kS_set (by simp) (by assumption) | with_reducible exact kS_call (Below.refl _ _).drew (K0.out.alloc _).S | with_reducible exact kS_call (Below.refl _ _).drew K0.out.S)
   (first
    | (go_at_call 86; refine (H15.out _).mono ?_; rintro e w' ⟨rfl, rfl⟩)
    | (go_at_call 85; refine (H14.out _ ?_).mono ?_; exact HV.out.below (kpOf (n := w.heap.size) (a := a) (wh := wh) (op := op) (w := w) (by assumption)).old; rintro e w' ⟨rfl, hb⟩; obtain ⟨hcc, hf⟩ := bcell hb; have KW := hide (kpOf (n := w.heap.size) (a := a) (wh := wh) (op := op) (w := w) (kS_call hb (by assumption)))))
  all_goals go_wp2_with fail
  all_goals go_meet
  ·exact ⟨_, rfl, rfl, ⟨by simp, by simp, by simp, by simp⟩, KW.out.size, KW.out.alloc _⟩
  all_goals
   have q0 : w'.cell? ⟨w.heap.size + 1 + 1, 0, none⟩ = some (.int .i64 0) := by rw [hcc _ _ (by simp)]; simp [go_sem]
   have q1 : w'.cell? ⟨w.heap.size + 1 + 1, 1, none⟩ = some (.int .i64 0) := by rw [hcc _ _ (by simp)]; simp [go_sem]
   have q2 : w'.cell? ⟨w.heap.size + 1 + 1, 2, none⟩ = some (.string ⟨#[]⟩) := by rw [hcc _ _ (by simp)]; simp [go_sem]
   have q3 : w'.cell? ⟨w.heap.size + 1 + 1, 3, none⟩ = some (.int .i64 0) := by rw [hcc _ _ (by simp)]; simp [go_sem]
   have T := four_cells (x := .int .i64 A) (y := .int .i64 0) (z := .string OP) (t := .int .i64 WH) q0 q1 q2 q3
   exact ⟨_, rfl, rfl, ⟨T.1, T.2.1, T.2.2.1, T.2.2.2⟩, by simp, KW.out.set (by simp)⟩
 case rest =>
  obtain ⟨g, rfl, rfl, ⟨c0, c1, c2, c3⟩, hg, kp⟩ := hcut
  have hne : ¬ w.heap.size + 1 = g := by omega
  have hne2 : ¬ g = w.heap.size + 1 := by omega
  obtain ⟨b0, b1, b2, b3, ⟨r0, r1, r2, r3⟩, hfz, hB, hz⟩ := kp
  have f0 := hfz 0
  have f1 := hfz 1
  have f2 := hfz 2
  have f3 := hfz 3
  clear hfz H14 H15
  have hz1 : w.heap.size + 1 < wc.heap.size := by omega
  go_wp2_with (first | (go_at_call 87; refine (HB.out _).mono ?_; rintro e w' ⟨rfl, hb⟩; obtain ⟨hcc, hf⟩ := bcell hb))
  have q : ∀ i x, wc.cell? ⟨w.heap.size + 1, i, none⟩ = some x → w'.cell? ⟨w.heap.size + 1, i, none⟩ = some x := fun i x hx => (hcc _ _ hz1).trans hx
  have T := four_cells (x := .int .i64 a) (y := .int .i64 3) (z := .string ⟨#[116, 101, 120, 116]⟩) (t := .int .i64 a) (q _ _ r0) (q _ _ r1) (q _ _ r2) (q _ _ r3)
  have hB2 : Below w.heap.size w w' := hB.trans (hb.mono (by omega))
  exact bodyPost_ret (v := .tuple #[.agg #[.int .i64 a, .int .i64 3, .string ⟨#[116, 101, 120, 116]⟩, .int .i64 a], .slice none 0 0]) (by simp [results, Tryz.results88, go_sem, T.1, T.2.1, T.2.2.1, T.2.2.2]) rfl ⟨rfl, (((hB2.setCell (by simp) _).setCell (by simp) _).setCell (by simp) _).setCell (by simp) _⟩
set_option maxRecDepth 100000 in
set_option maxHeartbeats 8000000 in
theorem text_end (b o cap : Nat) (l : List Int) (a wh m M WH : Int) (op OP : ByteArray) (w : World) (hv : Sl bc w (.slice (some ⟨b, o, none⟩) cap cap) l) (hL : cap ≤ 4000)
  (H15 : Hid (∀ W, Calls Tryz.prog 86 #[.int .i64 m] W fun e w' => e = .returned (.int .u64 M) ∧ w' = W))
  (H14 : Hid (∀ W, Sl bc W (.slice (some ⟨b, o, none⟩) cap cap) l → Calls Tryz.prog 85 #[.slice (some ⟨b, o, none⟩) cap cap, .agg #[.int .i64 a, .int .i64 0, .string op, .int .i64 wh], .int .u64 M] W fun e w' => e = .returned (.tuple #[.agg #[.int .i64 (cap : Int), .int .i64 0, .string OP, .int .i64 WH], .int .u64 0]) ∧ Below W.heap.size W w')) :
  Calls Tryz.prog 88 #[.slice (some ⟨b, o, none⟩) cap cap, .agg #[.int .i64 a, .int .i64 0, .string op, .int .i64 wh], .int .i64 m] w fun e w' => (∃ ao c, e = .returned (.tuple #[.agg #[.int .i64 (cap : Int), .int .i64 0, .string ⟨#[]⟩, .int .i64 0], .slice ao 0 c])) ∧ Below w.heap.size w w' := by
 have HV := hide hv
 clear hv
 go_enter Tryz.func88, Tryz.ntmps88
 go_upto_region 1 with fail
 go_cut [8, 9] (fun p k W => ∃ g, p = .pointer (some ⟨g, 0, none⟩) ∧ k = .int .u64 0 ∧ (W.cell? ⟨g, 0, none⟩ = some (.int .i64 (cap : Int)) ∧ W.cell? ⟨g, 1, none⟩ = some (.int .i64 0) ∧ W.cell? ⟨g, 2, none⟩ = some (.string OP) ∧ W.cell? ⟨g, 3, none⟩ = some (.int .i64 WH)) ∧ w.heap.size + 2 ≤ g ∧ Kp w.heap.size a wh op w W)
 case first =>
  have k0 : Kp w.heap.size a wh op w ((w.alloc (.cells #[.int .i64 a, .int .i64 0, .string op, .int .i64 wh] 66)).alloc (.cells #[.int .i64 0, .int .i64 0, .string ⟨#[]⟩, .int .i64 0] 66)) :=
   ⟨by simp, by simp, by simp, by simp, ⟨by simp, by simp, by simp, by simp⟩, fun i => World.frozen?_alloc_at _ _ _ _ (by simp), ((Below.refl _ _).alloc (Nat.le_refl _) _).alloc (by simp) _, by simp⟩
  have K0 := hide k0
  clear k0
  go_region_held3 (fun W => W.cell? ⟨w.heap.size, 0, none⟩ = some (.int .i64 a) ∧ W.cell? ⟨w.heap.size, 1, none⟩ = some (.int .i64 0) ∧ W.cell? ⟨w.heap.size, 2, none⟩ = some (.string op) ∧ W.cell? ⟨w.heap.size, 3, none⟩ = some (.int .i64 wh) ∧ Kp w.heap.size a wh op w W)
   (first | with_reducible assumption | with_reducible exact kS_call (by assumption) (by assumption) | with_reducible exact kS_alloc (by assumption) | with_reducible exact (KW.out.alloc _).S | with_reducible exact kS_set (by simp) (by assumption) | with_reducible exact kS_call (Below.refl _ _).drew (K0.out.alloc _).S | with_reducible exact kS_call (Below.refl _ _).drew K0.out.S)
   (first
    | (go_at_call 86; refine (H15.out _).mono ?_; rintro e w' ⟨rfl, rfl⟩)
    | (go_at_call 85; refine (H14.out _ ?_).mono ?_; exact HV.out.below (kpOf (n := w.heap.size) (a := a) (wh := wh) (op := op) (w := w) (by assumption)).old; rintro e w' ⟨rfl, hb⟩; obtain ⟨hcc, hf⟩ := bcell hb; have KW := hide (kpOf (n := w.heap.size) (a := a) (wh := wh) (op := op) (w := w) (kS_call hb (by assumption)))))
  all_goals go_wp2_with fail
  all_goals go_meet
  ·exact ⟨_, rfl, rfl, ⟨by simp, by simp, by simp, by simp⟩, KW.out.size, KW.out.alloc _⟩
  all_goals
   have q0 : w'.cell? ⟨w.heap.size + 1 + 1, 0, none⟩ = some (.int .i64 0) := by rw [hcc _ _ (by simp)]; simp [go_sem]
   have q1 : w'.cell? ⟨w.heap.size + 1 + 1, 1, none⟩ = some (.int .i64 0) := by rw [hcc _ _ (by simp)]; simp [go_sem]
   have q2 : w'.cell? ⟨w.heap.size + 1 + 1, 2, none⟩ = some (.string ⟨#[]⟩) := by rw [hcc _ _ (by simp)]; simp [go_sem]
   have q3 : w'.cell? ⟨w.heap.size + 1 + 1, 3, none⟩ = some (.int .i64 0) := by rw [hcc _ _ (by simp)]; simp [go_sem]
   have T := four_cells (x := .int .i64 (cap : Int)) (y := .int .i64 0) (z := .string OP) (t := .int .i64 WH) q0 q1 q2 q3
   exact ⟨_, rfl, rfl, ⟨T.1, T.2.1, T.2.2.1, T.2.2.2⟩, by simp, KW.out.set (by simp)⟩
 case rest =>
  obtain ⟨g, rfl, rfl, ⟨c0, c1, c2, c3⟩, hg, kp⟩ := hcut
  have hne : ¬ w.heap.size + 1 = g := by omega
  have hne2 : ¬ g = w.heap.size + 1 := by omega
  obtain ⟨b0, b1, b2, b3, ⟨r0, r1, r2, r3⟩, hfz, hB, hz⟩ := kp
  have f0 := hfz 0
  have f1 := hfz 1
  have f2 := hfz 2
  have f3 := hfz 3
  clear hfz H14 H15
  go_wp2
  go_region
  go_wp2
  have T := four_cells (x := .int .i64 (cap : Int)) (y := .int .i64 0) (z := .string ⟨#[]⟩) (t := .int .i64 0) r0 r1 r2 r3
  exact bodyPost_ret (v := .tuple #[.agg #[.int .i64 (cap : Int), .int .i64 0, .string ⟨#[]⟩, .int .i64 0], .slice (some ⟨b, o, none⟩) 0 0]) (by simp [results, Tryz.results88, go_sem, T.1, T.2.1, T.2.2.1, T.2.2.2]) rfl ⟨⟨_, _, rfl⟩, ((((hB.setCell (by simp) _).setCell (by simp) _).setCell (by simp) _).setCell (by simp) _).drew⟩
def stX (c : Int) (op : ByteArray) (wh next : Int) : Value := if c = 0 then stv next 0 ⟨#[]⟩ 0 else stv next c op wh
theorem stX_form (c : Int) (op : ByteArray) (wh next : Int) : ∃ A C OP WH, stX c op wh next = .agg #[.int .i64 A, .int .i64 C, .string OP, .int .i64 WH] := by
 unfold stX stv
 split
 ·exact ⟨_, _, _, _, rfl⟩
 ·exact ⟨_, _, _, _, rfl⟩
theorem abv_eq (m : Int) : abv m = abv' m := rfl
theorem reft_any (v : Value) (l : List Int) (a : Nat) (m wh : Int) (op : ByteArray) (w W : World) (hv : Sl bc w v l) (hW : Below w.heap.size w W) (hl : l.length ≤ 4000) (hby : Byt l) (hm : m ≤ 9223372036854775807) (ha : a ≤ l.length) :
  Calls Tryz.prog 88 #[v, .agg #[.int .i64 a, .int .i64 0, .string op, .int .i64 wh], .int .i64 m] W fun e w' => ∃ u, e = .returned (.tuple #[stX (textS l a m).1 (textS l a m).2.1 a (textS l a m).2.2.1, u]) ∧ Sld w.heap.size W.heap.size bc w' u (textS l a m).2.2.2 ∧ Below W.heap.size W w' := by
 have H15 := hide (fun W => above_any m W hm)
 simp only [abv_eq] at H15
 have h14 := fun W (h : Sl bc W v l) => num_next v l a wh (abv' m) op W h hl hby
 have hvW := hv.below hW
 have hbd : Byt (l.drop a) := hby.drop a
 have hrg := numS_range (l.drop a) (abv' m) hbd
 unfold textS
 rcases hq : numS (l.drop a) (abv' m) with ⟨c, k, N⟩
 rw [hq] at h14 hrg
 simp only [stN] at h14 ⊢
 by_cases hc : c = 0
 ·subst hc
  obtain ⟨_, _, n0, n1, _, hkl⟩ := numS_once hbd hq
  rw [List.length_drop] at hkl
  simp only [if_true] at h14 ⊢
  have H14 := hide h14
  unfold stv at H14
  rcases hv with ⟨ao, cap, rfl, rfl⟩ | ⟨b, o, cap, rfl, hcap, h3⟩
  ·simp [numS] at hq
  ·by_cases hs : ((l.length - (a + k) : Nat) : Int) < N
   ·rw [if_pos hs]
    refine (text_short b o l.length cap l a wh m (abv' m) (a + k : Nat) 0 N op _ W hvW hl (by omega) n0 (by omega) (by omega) H15 H14).mono ?_
    rintro e w' ⟨rfl, hb⟩
    exact ⟨_, rfl, Sld.nil _ _ _ _ _ _, hb⟩
   ·rw [if_neg hs]
    obtain ⟨N', rfl⟩ := Int.eq_ofNat_of_zero_le n0
    simp only [Int.toNat_natCast] at *
    by_cases hce : cap = a + k
    ·obtain rfl : N' = 0 := by omega
     have hLe : l.length = cap := by omega
     rw [← hce] at H14
     rw [hLe] at H14 hvW ⊢
     refine (text_end b o cap l a wh m (abv' m) 0 op _ W hvW (by omega) H15 H14).mono ?_
     rintro e w' ⟨⟨ao, cc, rfl⟩, hb⟩
     refine ⟨.slice ao 0 cc, ?_, ?_, hb⟩
     ·simp [stX, stv, hce]
     ·rw [List.take_zero]
      exact Sld.nil _ _ _ _ _ _
    ·refine (text_ok b o l.length cap l a wh m (abv' m) (a + k : Nat) 0 N' op _ W hvW hl hcap (by omega) (by omega) (by omega) (by omega) H15 H14).mono ?_
     rintro e w' ⟨rfl, hb⟩
     have hlen : ((l.drop (a + k)).take N').length = N' := by rw [List.length_take, List.length_drop]; omega
     refine ⟨_, rfl, ?_, hb⟩
     have e1 : (((a + k : Nat) : Int) + (N' : Int)).toNat - ((a + k : Nat) : Int).toNat = N' := by omega
     have e2 : ((a + k : Nat) : Int).toNat = a + k := by omega
     rw [e1, e2]
     by_cases hz : N' = 0
     ·subst hz
      rw [List.take_zero]
      exact Sld.nil _ _ _ _ _ _
     ·refine .inr ⟨b, o + (a + k), cap - (a + k), by rw [hlen], by rw [hlen]; omega, .inl (cell_block (h3 0 (by omega))), fun i hi => ?_⟩
      rw [hlen] at hi
      have h4 := h3 (a + k + i) (by omega)
      rw [← Nat.add_assoc] at h4
      have hB := hW.trans (hb.mono hW.size)
      rw [hB.cell (p := ⟨b, o + (a + k) + i, none⟩) (cell_block h4), h4]
      simp [List.getElem_take, List.getElem_drop]
 ·obtain ⟨rfl, rfl⟩ := numS_bad hq hc
  rw [if_neg hc]
  simp only [if_neg hc] at h14 ⊢
  have H14 := hide h14
  unfold stv at H14
  refine (text_bad v l a wh m (abv' m) a c a 0 op _ W hvW (by simpa using hc) H15 H14).mono ?_
  rintro e w' ⟨rfl, hb⟩
  exact ⟨.slice none 0 0, by simp [stX, hc, stv], Sld.nil _ _ _ _ _ _, hb⟩
end Go.Proofs.YtjjpfajbljbelaaGreatDoor
