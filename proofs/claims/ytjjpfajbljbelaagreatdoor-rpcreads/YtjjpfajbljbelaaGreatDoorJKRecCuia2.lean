/-
  A CURSOR's METHODS (castellanref05.Cursor): what they read next. Conditions: its bytes' cells hold them.
  A CURSOR's METHODS (castellanref05.Cursor) as functions of its state: Int. Conditions: its bytes' cells hold them, no more than four thousand bytes.
-/
import Derived.Test.YtjjpfajbljbelaaGreatDoorJKRefAska3
import Derived.Test.YtjjpfajbljbelaaGreatDoorJKBatCla5
namespace Go.Proofs.YtjjpfajbljbelaaGreatDoor
open Go.RowKit
set_option maxRecDepth 100000
set_option maxHeartbeats 16000000
structure B4 (W : World) (g : Nat) (x y z t : Value) : Prop where
 c0 : W.cell? ⟨g, 0, none⟩ = some x
 c1 : W.cell? ⟨g, 1, none⟩ = some y
 c2 : W.cell? ⟨g, 2, none⟩ = some z
 c3 : W.cell? ⟨g, 3, none⟩ = some t
 fz : ∀ i, W.frozen? ⟨g, i, none⟩ = false
theorem B4.lt {W : World} {g : Nat} {x y z t : Value} (h : B4 W g x y z t) : g < W.heap.size := cell_block h.c0
theorem B4.below {W W' : World} {g : Nat} {x y z t : Value} (h : B4 W g x y z t) (hb : Below W.heap.size W W') : B4 W' g x y z t :=
 have hl := h.lt
 ⟨(hb.cell (p := ⟨g, 0, none⟩) hl).trans h.c0, (hb.cell (p := ⟨g, 1, none⟩) hl).trans h.c1, (hb.cell (p := ⟨g, 2, none⟩) hl).trans h.c2, (hb.cell (p := ⟨g, 3, none⟩) hl).trans h.c3, fun i => (hb.frozen (p := ⟨g, i, none⟩) hl).trans (h.fz i)⟩
theorem B4.new (W : World) (x y z t : Value) (T : TypeId) : B4 (W.alloc (.cells #[x, y, z, t] T)) W.heap.size x y z t :=
 ⟨by simp, by simp, by simp, by simp, fun i => World.frozen?_alloc_at _ _ _ _ (by simp)⟩
theorem set_p {W : World} {p : Nat} {v x y z t x' y' z' t' : Value} (h : W.cell? ⟨p, 0, none⟩ = some v ∧ W.cell? ⟨p, 1, none⟩ = some x' ∧ W.cell? ⟨p, 2, none⟩ = some y' ∧ W.cell? ⟨p, 3, none⟩ = some z' ∧ W.cell? ⟨p, 4, none⟩ = some t') :
  ((((W.setCell ⟨p, 1, none⟩ x).setCell ⟨p, 2, none⟩ y).setCell ⟨p, 3, none⟩ z).setCell ⟨p, 4, none⟩ t).cell? ⟨p, 0, none⟩ = some v ∧ ((((W.setCell ⟨p, 1, none⟩ x).setCell ⟨p, 2, none⟩ y).setCell ⟨p, 3, none⟩ z).setCell ⟨p, 4, none⟩ t).cell? ⟨p, 1, none⟩ = some x ∧ ((((W.setCell ⟨p, 1, none⟩ x).setCell ⟨p, 2, none⟩ y).setCell ⟨p, 3, none⟩ z).setCell ⟨p, 4, none⟩ t).cell? ⟨p, 2, none⟩ = some y ∧ ((((W.setCell ⟨p, 1, none⟩ x).setCell ⟨p, 2, none⟩ y).setCell ⟨p, 3, none⟩ z).setCell ⟨p, 4, none⟩ t).cell? ⟨p, 3, none⟩ = some z ∧ ((((W.setCell ⟨p, 1, none⟩ x).setCell ⟨p, 2, none⟩ y).setCell ⟨p, 3, none⟩ z).setCell ⟨p, 4, none⟩ t).cell? ⟨p, 4, none⟩ = some t := by
 obtain ⟨h0, h1, h2, h3, h4⟩ := h
 have a1 := World.cell?_setCell_same _ _ x h1
 have b2 := (World.cell?_setCell_other W ⟨p, 1, none⟩ ⟨p, 2, none⟩ x (by simp)).trans h2
 have a2 := World.cell?_setCell_same _ _ y b2
 have b3 := (World.cell?_setCell_other _ ⟨p, 2, none⟩ ⟨p, 3, none⟩ y (by simp)).trans ((World.cell?_setCell_other W ⟨p, 1, none⟩ ⟨p, 3, none⟩ x (by simp)).trans h3)
 have a3 := World.cell?_setCell_same _ _ z b3
 have b4 := (World.cell?_setCell_other _ ⟨p, 3, none⟩ ⟨p, 4, none⟩ z (by simp)).trans ((World.cell?_setCell_other _ ⟨p, 2, none⟩ ⟨p, 4, none⟩ y (by simp)).trans ((World.cell?_setCell_other W ⟨p, 1, none⟩ ⟨p, 4, none⟩ x (by simp)).trans h4))
 have a4 := World.cell?_setCell_same _ _ t b4
 refine ⟨?_, ?_, ?_, ?_, a4⟩
 ·iterate 4 rw [World.cell?_setCell_other _ _ _ _ (by simp)]
  exact h0
 ·iterate 3 rw [World.cell?_setCell_other _ _ _ _ (by simp)]
  exact a1
 ·iterate 2 rw [World.cell?_setCell_other _ _ _ _ (by simp)]
  exact a2
 ·rw [World.cell?_setCell_other _ _ _ _ (by simp)]
  exact a3
theorem bx_p {w W : World} {p : Nat} {x y z t : Value} (hb : Below w.heap.size w W) : Bx p w ((((W.setCell ⟨p, 1, none⟩ x).setCell ⟨p, 2, none⟩ y).setCell ⟨p, 3, none⟩ z).setCell ⟨p, 4, none⟩ t) :=
 (((((Bx.of hb).set 1 x).set 2 y).set 3 z).set 4 t)
def Slk {α : Type} (ok : Nat → Prop) (f : α → Value) (W : World) (v : Value) (l : List α) : Prop :=
 (∃ ao cap, l = [] ∧ v = .slice ao 0 cap) ∨ (∃ b o cap, v = .slice (some ⟨b, o, none⟩) l.length cap ∧ l.length ≤ cap ∧ ok b ∧ 0 < l.length ∧ ∀ i (h : i < l.length), W.cell? ⟨b, o + i, none⟩ = some (f l[i]))
theorem Slk.imp {α : Type} {ok ok' : Nat → Prop} {f : α → Value} {W W' : World} {v : Value} {l : List α} (h : Slk ok f W v l) (hk : ∀ b, b < W.heap.size → ok b → ok' b) (hc : ∀ b i, b < W.heap.size → ok b → W'.cell? ⟨b, i, none⟩ = W.cell? ⟨b, i, none⟩) : Slk ok' f W' v l := by
 rcases h with h | ⟨b, o, cap, h1, h2, h3, h4, h5⟩
 ·exact .inl h
 ·have hl : b < W.heap.size := cell_block (h5 0 h4)
  exact .inr ⟨b, o, cap, h1, h2, hk b hl h3, h4, fun i hi => (hc b _ hl h3).trans (h5 i hi)⟩
theorem Sld.slk {α : Type} {lo hi : Nat} {f : α → Value} {W : World} {v : Value} {l : List α} (h : Sld lo hi f W v l) : Slk (fun b => b < lo ∨ hi ≤ b) f W v l := by
 rcases h with h | ⟨b, o, cap, h1, h2, h3, h4⟩
 ·exact .inl h
 ·by_cases h0 : 0 < l.length
  ·exact .inr ⟨b, o, cap, h1, h2, h3, h0, h4⟩
  ·have e : l = [] := List.length_eq_zero_iff.1 (by omega)
   subst e
   exact .inl ⟨_, _, rfl, h1⟩
theorem Slk.sl {α : Type} {ok : Nat → Prop} {f : α → Value} {W : World} {v : Value} {l : List α} (h : Slk ok f W v l) : Sl f W v l := by
 rcases h with h | ⟨b, o, cap, h1, h2, h3, h4, h5⟩
 ·exact .inl h
 ·exact .inr ⟨b, o, cap, h1, h2, h5⟩
theorem Slk.below {α : Type} {ok : Nat → Prop} {f : α → Value} {W W' : World} {v : Value} {l : List α} (h : Slk ok f W v l) (hb : Below W.heap.size W W') : Slk ok f W' v l := h.imp (fun _ _ k => k) (fun b i hl _ => hb.cell (p := ⟨b, i, none⟩) hl)
theorem Slk.off {α : Type} {ok : Nat → Prop} {f : α → Value} {W : World} {v : Value} {l : List α} (h : Slk ok f W v l) {g : Nat} (hg : W.heap.size ≤ g) : Slk (fun b => ok b ∧ ¬ b = g) f W v l := h.imp (fun b hl k => ⟨k, by omega⟩) (fun _ _ _ _ => rfl)
theorem Slk.set4 {α : Type} {ok : Nat → Prop} {f : α → Value} {W : World} {v : Value} {l : List α} (h : Slk ok f W v l) {g : Nat} (hg : ∀ b, ok b → ¬ b = g) (x y z t : Value) : Slk ok f ((((W.setCell ⟨g, 0, none⟩ x).setCell ⟨g, 1, none⟩ y).setCell ⟨g, 2, none⟩ z).setCell ⟨g, 3, none⟩ t) v l := h.imp (fun _ _ k => k) (fun b i _ k => by
 have hn := hg b k
 iterate 4 rw [World.cell?_setCell_other _ _ _ _ (fun e => hn (congrArg Addr.block e).symm)])
theorem Slk.setp {α : Type} {ok : Nat → Prop} {f : α → Value} {W : World} {v : Value} {l : List α} (h : Slk ok f W v l) {g : Nat} (hg : ∀ b, ok b → ¬ b = g) (x y z t : Value) : Slk ok f ((((W.setCell ⟨g, 1, none⟩ x).setCell ⟨g, 2, none⟩ y).setCell ⟨g, 3, none⟩ z).setCell ⟨g, 4, none⟩ t) v l := h.imp (fun _ _ k => k) (fun b i _ k => by
 have hn := hg b k
 iterate 4 rw [World.cell?_setCell_other _ _ _ _ (fun e => hn (congrArg Addr.block e).symm)])
def set4 (W : World) (g : Nat) (x y z t : Value) : World := (((W.setCell ⟨g, 0, none⟩ x).setCell ⟨g, 1, none⟩ y).setCell ⟨g, 2, none⟩ z).setCell ⟨g, 3, none⟩ t
theorem B4.set {W : World} {g : Nat} {x y z t : Value} (h : B4 W g x y z t) (x' y' z' t' : Value) : B4 (set4 W g x' y' z' t') g x' y' z' t' :=
 have T := four_cells (x := x') (y := y') (z := z') (t := t') h.c0 h.c1 h.c2 h.c3
 ⟨T.1, T.2.1, T.2.2.1, T.2.2.2, fun i => by unfold set4; simp [World.frozen?_setCell, h.fz]⟩
theorem B4.other {W : World} {g k : Nat} {x y z t : Value} (h : B4 W g x y z t) (hn : ¬ g = k) (x' y' z' t' : Value) : B4 (set4 W k x' y' z' t') g x y z t := by
 unfold set4
 refine ⟨?_, ?_, ?_, ?_, fun i => by simp [World.frozen?_setCell, h.fz]⟩
 ·iterate 4 rw [World.cell?_setCell_other _ _ _ _ (fun e => hn (congrArg Addr.block e).symm)]
  exact h.c0
 ·iterate 4 rw [World.cell?_setCell_other _ _ _ _ (fun e => hn (congrArg Addr.block e).symm)]
  exact h.c1
 ·iterate 4 rw [World.cell?_setCell_other _ _ _ _ (fun e => hn (congrArg Addr.block e).symm)]
  exact h.c2
 ·iterate 4 rw [World.cell?_setCell_other _ _ _ _ (fun e => hn (congrArg Addr.block e).symm)]
  exact h.c3
theorem cuint_go (p : Nat) (v : Value) (a c wh A C WH n M : Int) (op OP : ByteArray) (f : Bool) (nt nr : Nat) (w : World) (hp : p < w.heap.size) (hfz : ∀ i, w.frozen? ⟨p, i, none⟩ = false) (hw : IntKind.i64.wrap n = n)
  (hF : ∀ W, Below w.heap.size w W → (W.cell? ⟨p, 0, none⟩ = some v ∧ W.cell? ⟨p, 1, none⟩ = some (.int .i64 a) ∧ W.cell? ⟨p, 2, none⟩ = some (.int .i64 c) ∧ W.cell? ⟨p, 3, none⟩ = some (.string op) ∧ W.cell? ⟨p, 4, none⟩ = some (.int .i64 wh)))
  (HC : Hid (∀ W, Below w.heap.size w W → Calls Tryz.prog 56 #[v, .agg #[.int .i64 a, .int .i64 c, .string op, .int .i64 wh], .agg #[.int .i64 1, .int .i64 M, .int .i64 0]] W fun e w' => ∃ x1 x3 y1 y3, e = .returned (.tuple #[.agg #[.int .i64 A, .int .i64 C, .string OP, .int .i64 WH], .agg #[.int .u64 n, .bool f, .slice x1 nt x3, .slice y1 nr y3]]) ∧ Below W.heap.size W w')) :
  Calls Tryz.prog 20 #[.pointer (some ⟨p, 0, none⟩), .int .i64 M] w fun e w' => e = .returned (.int .i64 n) ∧ (w'.cell? ⟨p, 0, none⟩ = some v ∧ w'.cell? ⟨p, 1, none⟩ = some (.int .i64 A) ∧ w'.cell? ⟨p, 2, none⟩ = some (.int .i64 C) ∧ w'.cell? ⟨p, 3, none⟩ = some (.string OP) ∧ w'.cell? ⟨p, 4, none⟩ = some (.int .i64 WH)) ∧ (∀ i, w'.frozen? ⟨p, i, none⟩ = false) ∧ Bx p w w' := by
 have HS0 := hide (hs_drew hF (Nat.le_refl _))
 have HF := hide hF
 clear hF
 go_enter Tryz.func20, Tryz.ntmps20
 go_upto_region 1 with fail
 go_cut [5, 6] (fun x y W => ∃ g1 g2 x1 x3 y1 y3, x = .pointer (some ⟨g1, 0, none⟩) ∧ y = .pointer (some ⟨g2, 0, none⟩) ∧ B4 W g1 (.int .i64 A) (.int .i64 C) (.string OP) (.int .i64 WH) ∧ B4 W g2 (.int .u64 n) (.bool f) (.slice x1 nt x3) (.slice y1 nr y3) ∧ w.heap.size ≤ g1 ∧ w.heap.size ≤ g2 ∧ Below w.heap.size w W)
 case first =>
  refine wp_region_held_drew (S := fun W => (W.cell? ⟨p, 0, none⟩ = some v ∧ W.cell? ⟨p, 1, none⟩ = some (.int .i64 a) ∧ W.cell? ⟨p, 2, none⟩ = some (.int .i64 c) ∧ W.cell? ⟨p, 3, none⟩ = some (.string op) ∧ W.cell? ⟨p, 4, none⟩ = some (.int .i64 wh)) ∧ Below w.heap.size w W ∧ w.heap.size ≤ W.heap.size) (by kernel_rfl) HS0.out (fun hHeld => ?_)
  generalize w.drew = W0 at hHeld ⊢
  refine tk 0 8 (.pointer (some ⟨p, 0, none⟩)) rfl rfl hHeld ?_
  simp only [Act.put, zA, zB, zC]
  refine tk 1 9 (.pointer (some ⟨p, 0, none⟩)) rfl rfl hHeld ?_
  simp only [Act.put, zA, zB, zC]
  refine tk 2 10 (.pointer (some ⟨p, 0, none⟩)) rfl rfl hHeld ?_
  simp only [Act.put, zA, zB, zC]
  refine tk 3 11 (v) rfl rfl hHeld ?_
  simp only [Act.put, zA, zB, zC]
  refine tk 4 12 (.pointer (some ⟨p, 0, none⟩)) rfl rfl hHeld ?_
  simp only [Act.put, zA, zB, zC]
  refine tk 5 13 (.pointer (some ⟨p, 0, none⟩)) rfl rfl hHeld ?_
  simp only [Act.put, zA, zB, zC]
  refine tk 6 14 (.pointer (some ⟨p, 1, none⟩)) rfl rfl hHeld ?_
  simp only [Act.put, zA, zB, zC]
  refine tk 7 15 (.agg #[.int .i64 a, .int .i64 c, .string op, .int .i64 wh]) rfl rfl hHeld ?_
  simp only [Act.put, zA, zB, zC]
  refine tk 8 16 (.int .i64 M) rfl rfl hHeld ?_
  simp only [Act.put, zA, zB, zC]
  refine tk 9 17 (.agg #[.int .i64 1, .int .i64 M, .int .i64 0]) rfl rfl hHeld ?_
  simp only [Act.put, zA, zB, zC]
  refine wpAnyH_ready (rs := [10, 14, 15]) (by kernel_rfl) (by simp) ?_
  refine AllReadyH.cons (o := _) rfl (fun K hK => ?_) (AllReadyH.cons (o := _) rfl (fun K hK => ?_) (AllReadyH.cons (o := _) rfl (fun K hK => ?_) AllReadyH.nil))
  focus
   go_simp
   go_at_call 56
   refine (HC.out _ hHeld.2.1).mono ?_
   rintro e W1 ⟨x1, x3, y1, y3, rfl, hb⟩
   go_wp2_with fail
   refine hK.out _ _ ?_ (fun hHeld1 => ?_)
   ·exact hs_call HF.out hb hHeld
   clear hb
   clear hK K hHeld
   have hHeld := hHeld1
   clear hHeld1
   refine tk 11 7 (.tuple #[.agg #[.int .i64 A, .int .i64 C, .string OP, .int .i64 WH], .agg #[.int .u64 n, .bool f, .slice x1 nt x3, .slice y1 nr y3]]) rfl rfl hHeld ?_
   simp only [Act.put, zA, zB, zC]
   refine tk 12 19 (.agg #[.int .i64 A, .int .i64 C, .string OP, .int .i64 WH]) rfl rfl hHeld ?_
   simp only [Act.put, zA, zB, zC]
   refine tk 13 20 (.agg #[.int .u64 n, .bool f, .slice x1 nt x3, .slice y1 nr y3]) rfl rfl hHeld ?_
   simp only [Act.put, zA, zB, zC]
   refine wpAnyH_ready (rs := [14, 15]) (by kernel_rfl) (by simp) ?_
   refine AllReadyH.cons (o := _) rfl (fun K hK => ?_) (AllReadyH.cons (o := _) rfl (fun K hK => ?_) AllReadyH.nil)
   focus
    go_simp
    refine hK.out _ _ ?_ (fun hHeld1 => ?_)
    ·exact hs_alloc HF.out hHeld
    have HA := hide (B4.new W1 (.int .i64 0) (.int .i64 0) (.string ⟨#[]⟩) (.int .i64 0) 66)
    have GA : Hid (w.heap.size ≤ W1.heap.size) := hide hHeld.2.2
    generalize W1.alloc (.cells #[.int .i64 0, .int .i64 0, .string ⟨#[]⟩, .int .i64 0] 66) = W2 at HA hHeld1 ⊢
    generalize W1.heap.size = g1 at HA GA ⊢
    clear hK K hHeld
    have hHeld := hHeld1
    clear hHeld1
    refine wpAnyH_ready (rs := [15]) (by kernel_rfl) (by simp) ?_
    refine AllReadyH.cons (o := _) rfl (fun K hK => ?_) AllReadyH.nil
    go_simp
    refine hK.out _ _ ?_ (fun hHeld1 => ?_)
    ·exact hs_alloc HF.out hHeld
    have HB := hide (B4.new W2 (.int .u64 0) (.bool false) (.slice none 0 0) (.slice none 0 0) 110)
    have GB : Hid (w.heap.size ≤ W2.heap.size) := hide hHeld.2.2
    have HN : Hid (¬ g1 = W2.heap.size) := hide (by have := HA.out.lt; omega)
    replace HA := hide (HA.out.below ((Below.refl _ _).alloc (Nat.le_refl _) (.cells #[.int .u64 0, .bool false, .slice none 0 0, .slice none 0 0] 110)))
    generalize W2.alloc (.cells #[.int .u64 0, .bool false, .slice none 0 0, .slice none 0 0] 110) = W3 at HB hHeld1 HA ⊢
    generalize W2.heap.size = g2 at HB GB HN ⊢
    clear hK K hHeld
    have hHeld := hHeld1
    clear hHeld1
    obtain ⟨WZ, rfl⟩ : ∃ x : World, x = W3 := ⟨_, rfl⟩
   rotate_left 1
   focus
    go_simp
    refine hK.out _ _ ?_ (fun hHeld1 => ?_)
    ·exact hs_alloc HF.out hHeld
    have HB := hide (B4.new W1 (.int .u64 0) (.bool false) (.slice none 0 0) (.slice none 0 0) 110)
    have GB : Hid (w.heap.size ≤ W1.heap.size) := hide hHeld.2.2
    generalize W1.alloc (.cells #[.int .u64 0, .bool false, .slice none 0 0, .slice none 0 0] 110) = W2 at HB hHeld1 ⊢
    generalize W1.heap.size = g2 at HB GB ⊢
    clear hK K hHeld
    have hHeld := hHeld1
    clear hHeld1
    refine wpAnyH_ready (rs := [14]) (by kernel_rfl) (by simp) ?_
    refine AllReadyH.cons (o := _) rfl (fun K hK => ?_) AllReadyH.nil
    go_simp
    refine hK.out _ _ ?_ (fun hHeld1 => ?_)
    ·exact hs_alloc HF.out hHeld
    have HA := hide (B4.new W2 (.int .i64 0) (.int .i64 0) (.string ⟨#[]⟩) (.int .i64 0) 66)
    have GA : Hid (w.heap.size ≤ W2.heap.size) := hide hHeld.2.2
    have HN : Hid (¬ g2 = W2.heap.size) := hide (by have := HB.out.lt; omega)
    replace HB := hide (HB.out.below ((Below.refl _ _).alloc (Nat.le_refl _) (.cells #[.int .i64 0, .int .i64 0, .string ⟨#[]⟩, .int .i64 0] 66)))
    generalize W2.alloc (.cells #[.int .i64 0, .int .i64 0, .string ⟨#[]⟩, .int .i64 0] 66) = W3 at HA hHeld1 HB ⊢
    generalize W2.heap.size = g1 at HA GA HN ⊢
    clear hK K hHeld
    have hHeld := hHeld1
    clear hHeld1
    replace HN := hide (fun e => HN.out (Eq.symm e))
    obtain ⟨WZ, rfl⟩ : ∃ x : World, x = W3 := ⟨_, rfl⟩
   rotate_left 1
  rotate_left 2
  focus
   go_simp
   refine hK.out _ _ ?_ (fun hHeld1 => ?_)
   ·exact hs_alloc HF.out hHeld
   have HA := hide (B4.new W0 (.int .i64 0) (.int .i64 0) (.string ⟨#[]⟩) (.int .i64 0) 66)
   have GA : Hid (w.heap.size ≤ W0.heap.size) := hide hHeld.2.2
   generalize W0.alloc (.cells #[.int .i64 0, .int .i64 0, .string ⟨#[]⟩, .int .i64 0] 66) = W1 at HA hHeld1 ⊢
   generalize W0.heap.size = g1 at HA GA ⊢
   clear hK K hHeld
   have hHeld := hHeld1
   clear hHeld1
   refine wpAnyH_ready (rs := [10, 15]) (by kernel_rfl) (by simp) ?_
   refine AllReadyH.cons (o := _) rfl (fun K hK => ?_) (AllReadyH.cons (o := _) rfl (fun K hK => ?_) AllReadyH.nil)
   focus
    go_simp
    go_at_call 56
    refine (HC.out _ hHeld.2.1).mono ?_
    rintro e W2 ⟨x1, x3, y1, y3, rfl, hb⟩
    go_wp2_with fail
    refine hK.out _ _ ?_ (fun hHeld1 => ?_)
    ·exact hs_call HF.out hb hHeld
    replace HA := hide (HA.out.below hb)
    clear hb
    clear hK K hHeld
    have hHeld := hHeld1
    clear hHeld1
    refine tk 11 7 (.tuple #[.agg #[.int .i64 A, .int .i64 C, .string OP, .int .i64 WH], .agg #[.int .u64 n, .bool f, .slice x1 nt x3, .slice y1 nr y3]]) rfl rfl hHeld ?_
    simp only [Act.put, zA, zB, zC]
    refine tk 12 19 (.agg #[.int .i64 A, .int .i64 C, .string OP, .int .i64 WH]) rfl rfl hHeld ?_
    simp only [Act.put, zA, zB, zC]
    refine tk 13 20 (.agg #[.int .u64 n, .bool f, .slice x1 nt x3, .slice y1 nr y3]) rfl rfl hHeld ?_
    simp only [Act.put, zA, zB, zC]
    refine wpAnyH_ready (rs := [15]) (by kernel_rfl) (by simp) ?_
    refine AllReadyH.cons (o := _) rfl (fun K hK => ?_) AllReadyH.nil
    go_simp
    refine hK.out _ _ ?_ (fun hHeld1 => ?_)
    ·exact hs_alloc HF.out hHeld
    have HB := hide (B4.new W2 (.int .u64 0) (.bool false) (.slice none 0 0) (.slice none 0 0) 110)
    have GB : Hid (w.heap.size ≤ W2.heap.size) := hide hHeld.2.2
    have HN : Hid (¬ g1 = W2.heap.size) := hide (by have := HA.out.lt; omega)
    replace HA := hide (HA.out.below ((Below.refl _ _).alloc (Nat.le_refl _) (.cells #[.int .u64 0, .bool false, .slice none 0 0, .slice none 0 0] 110)))
    generalize W2.alloc (.cells #[.int .u64 0, .bool false, .slice none 0 0, .slice none 0 0] 110) = W3 at HB hHeld1 HA ⊢
    generalize W2.heap.size = g2 at HB GB HN ⊢
    clear hK K hHeld
    have hHeld := hHeld1
    clear hHeld1
    obtain ⟨WZ, rfl⟩ : ∃ x : World, x = W3 := ⟨_, rfl⟩
   rotate_left 1
   focus
    go_simp
    refine hK.out _ _ ?_ (fun hHeld1 => ?_)
    ·exact hs_alloc HF.out hHeld
    have HB := hide (B4.new W1 (.int .u64 0) (.bool false) (.slice none 0 0) (.slice none 0 0) 110)
    have GB : Hid (w.heap.size ≤ W1.heap.size) := hide hHeld.2.2
    have HN : Hid (¬ g1 = W1.heap.size) := hide (by have := HA.out.lt; omega)
    replace HA := hide (HA.out.below ((Below.refl _ _).alloc (Nat.le_refl _) (.cells #[.int .u64 0, .bool false, .slice none 0 0, .slice none 0 0] 110)))
    generalize W1.alloc (.cells #[.int .u64 0, .bool false, .slice none 0 0, .slice none 0 0] 110) = W2 at HB hHeld1 HA ⊢
    generalize W1.heap.size = g2 at HB GB HN ⊢
    clear hK K hHeld
    have hHeld := hHeld1
    clear hHeld1
    refine wpAnyH_ready (rs := [10]) (by kernel_rfl) (by simp) ?_
    refine AllReadyH.cons (o := _) rfl (fun K hK => ?_) AllReadyH.nil
    go_simp
    go_at_call 56
    refine (HC.out _ hHeld.2.1).mono ?_
    rintro e W3 ⟨x1, x3, y1, y3, rfl, hb⟩
    go_wp2_with fail
    refine hK.out _ _ ?_ (fun hHeld1 => ?_)
    ·exact hs_call HF.out hb hHeld
    replace HA := hide (HA.out.below hb)
    replace HB := hide (HB.out.below hb)
    clear hb
    clear hK K hHeld
    have hHeld := hHeld1
    clear hHeld1
    refine tk 11 7 (.tuple #[.agg #[.int .i64 A, .int .i64 C, .string OP, .int .i64 WH], .agg #[.int .u64 n, .bool f, .slice x1 nt x3, .slice y1 nr y3]]) rfl rfl hHeld ?_
    simp only [Act.put, zA, zB, zC]
    refine tk 12 19 (.agg #[.int .i64 A, .int .i64 C, .string OP, .int .i64 WH]) rfl rfl hHeld ?_
    simp only [Act.put, zA, zB, zC]
    refine tk 13 20 (.agg #[.int .u64 n, .bool f, .slice x1 nt x3, .slice y1 nr y3]) rfl rfl hHeld ?_
    simp only [Act.put, zA, zB, zC]
    obtain ⟨WZ, rfl⟩ : ∃ x : World, x = W3 := ⟨_, rfl⟩
   rotate_left 1
  rotate_left 2
  focus
   go_simp
   refine hK.out _ _ ?_ (fun hHeld1 => ?_)
   ·exact hs_alloc HF.out hHeld
   have HB := hide (B4.new W0 (.int .u64 0) (.bool false) (.slice none 0 0) (.slice none 0 0) 110)
   have GB : Hid (w.heap.size ≤ W0.heap.size) := hide hHeld.2.2
   generalize W0.alloc (.cells #[.int .u64 0, .bool false, .slice none 0 0, .slice none 0 0] 110) = W1 at HB hHeld1 ⊢
   generalize W0.heap.size = g2 at HB GB ⊢
   clear hK K hHeld
   have hHeld := hHeld1
   clear hHeld1
   refine wpAnyH_ready (rs := [10, 14]) (by kernel_rfl) (by simp) ?_
   refine AllReadyH.cons (o := _) rfl (fun K hK => ?_) (AllReadyH.cons (o := _) rfl (fun K hK => ?_) AllReadyH.nil)
   focus
    go_simp
    go_at_call 56
    refine (HC.out _ hHeld.2.1).mono ?_
    rintro e W2 ⟨x1, x3, y1, y3, rfl, hb⟩
    go_wp2_with fail
    refine hK.out _ _ ?_ (fun hHeld1 => ?_)
    ·exact hs_call HF.out hb hHeld
    replace HB := hide (HB.out.below hb)
    clear hb
    clear hK K hHeld
    have hHeld := hHeld1
    clear hHeld1
    refine tk 11 7 (.tuple #[.agg #[.int .i64 A, .int .i64 C, .string OP, .int .i64 WH], .agg #[.int .u64 n, .bool f, .slice x1 nt x3, .slice y1 nr y3]]) rfl rfl hHeld ?_
    simp only [Act.put, zA, zB, zC]
    refine tk 12 19 (.agg #[.int .i64 A, .int .i64 C, .string OP, .int .i64 WH]) rfl rfl hHeld ?_
    simp only [Act.put, zA, zB, zC]
    refine tk 13 20 (.agg #[.int .u64 n, .bool f, .slice x1 nt x3, .slice y1 nr y3]) rfl rfl hHeld ?_
    simp only [Act.put, zA, zB, zC]
    refine wpAnyH_ready (rs := [14]) (by kernel_rfl) (by simp) ?_
    refine AllReadyH.cons (o := _) rfl (fun K hK => ?_) AllReadyH.nil
    go_simp
    refine hK.out _ _ ?_ (fun hHeld1 => ?_)
    ·exact hs_alloc HF.out hHeld
    have HA := hide (B4.new W2 (.int .i64 0) (.int .i64 0) (.string ⟨#[]⟩) (.int .i64 0) 66)
    have GA : Hid (w.heap.size ≤ W2.heap.size) := hide hHeld.2.2
    have HN : Hid (¬ g2 = W2.heap.size) := hide (by have := HB.out.lt; omega)
    replace HB := hide (HB.out.below ((Below.refl _ _).alloc (Nat.le_refl _) (.cells #[.int .i64 0, .int .i64 0, .string ⟨#[]⟩, .int .i64 0] 66)))
    generalize W2.alloc (.cells #[.int .i64 0, .int .i64 0, .string ⟨#[]⟩, .int .i64 0] 66) = W3 at HA hHeld1 HB ⊢
    generalize W2.heap.size = g1 at HA GA HN ⊢
    clear hK K hHeld
    have hHeld := hHeld1
    clear hHeld1
    replace HN := hide (fun e => HN.out (Eq.symm e))
    obtain ⟨WZ, rfl⟩ : ∃ x : World, x = W3 := ⟨_, rfl⟩
   rotate_left 1
   focus
    go_simp
    refine hK.out _ _ ?_ (fun hHeld1 => ?_)
    ·exact hs_alloc HF.out hHeld
    have HA := hide (B4.new W1 (.int .i64 0) (.int .i64 0) (.string ⟨#[]⟩) (.int .i64 0) 66)
    have GA : Hid (w.heap.size ≤ W1.heap.size) := hide hHeld.2.2
    have HN : Hid (¬ g2 = W1.heap.size) := hide (by have := HB.out.lt; omega)
    replace HB := hide (HB.out.below ((Below.refl _ _).alloc (Nat.le_refl _) (.cells #[.int .i64 0, .int .i64 0, .string ⟨#[]⟩, .int .i64 0] 66)))
    generalize W1.alloc (.cells #[.int .i64 0, .int .i64 0, .string ⟨#[]⟩, .int .i64 0] 66) = W2 at HA hHeld1 HB ⊢
    generalize W1.heap.size = g1 at HA GA HN ⊢
    clear hK K hHeld
    have hHeld := hHeld1
    clear hHeld1
    refine wpAnyH_ready (rs := [10]) (by kernel_rfl) (by simp) ?_
    refine AllReadyH.cons (o := _) rfl (fun K hK => ?_) AllReadyH.nil
    go_simp
    go_at_call 56
    refine (HC.out _ hHeld.2.1).mono ?_
    rintro e W3 ⟨x1, x3, y1, y3, rfl, hb⟩
    go_wp2_with fail
    refine hK.out _ _ ?_ (fun hHeld1 => ?_)
    ·exact hs_call HF.out hb hHeld
    replace HA := hide (HA.out.below hb)
    replace HB := hide (HB.out.below hb)
    clear hb
    clear hK K hHeld
    have hHeld := hHeld1
    clear hHeld1
    refine tk 11 7 (.tuple #[.agg #[.int .i64 A, .int .i64 C, .string OP, .int .i64 WH], .agg #[.int .u64 n, .bool f, .slice x1 nt x3, .slice y1 nr y3]]) rfl rfl hHeld ?_
    simp only [Act.put, zA, zB, zC]
    refine tk 12 19 (.agg #[.int .i64 A, .int .i64 C, .string OP, .int .i64 WH]) rfl rfl hHeld ?_
    simp only [Act.put, zA, zB, zC]
    refine tk 13 20 (.agg #[.int .u64 n, .bool f, .slice x1 nt x3, .slice y1 nr y3]) rfl rfl hHeld ?_
    simp only [Act.put, zA, zB, zC]
    replace HN := hide (fun e => HN.out (Eq.symm e))
    obtain ⟨WZ, rfl⟩ : ∃ x : World, x = W3 := ⟨_, rfl⟩
   rotate_left 1
  rotate_left 2
  all_goals
   refine wpAnyH_ready (rs := [16]) (by kernel_rfl) (by simp) ?_
   refine AllReadyH.cons (o := _) rfl (fun K hK => ?_) AllReadyH.nil
   have i0 := HA.out.c0
   have i1 := HA.out.c1
   have i2 := HA.out.c2
   have i3 := HA.out.c3
   have k0 := HA.out.fz 0
   have k1 := HA.out.fz 1
   have k2 := HA.out.fz 2
   have k3 := HA.out.fz 3
   go_simp
   clear i0 i1 i2 i3 k0 k1 k2 k3
   refine hK.out _ _ ?_ (fun hHeld1 => ?_)
   ·exact hs_set4 HF.out GA.out hHeld
   replace HA := hide (HA.out.set (.int .i64 A) (.int .i64 C) (.string OP) (.int .i64 WH))
   replace HB := hide (HB.out.other (k := g1) (fun e => HN.out (e.symm)) (.int .i64 A) (.int .i64 C) (.string OP) (.int .i64 WH))
   unfold set4 at HA HB
   generalize (((WZ.setCell ⟨g1, 0, none⟩ (.int .i64 A)).setCell ⟨g1, 1, none⟩ (.int .i64 C)).setCell ⟨g1, 2, none⟩ (.string OP)).setCell ⟨g1, 3, none⟩ (.int .i64 WH) = W7 at HA HB hHeld1 ⊢
   clear hK K hHeld
   have hHeld := hHeld1
   clear hHeld1
   refine wpAnyH_ready (rs := [17]) (by kernel_rfl) (by simp) ?_
   refine AllReadyH.cons (o := _) rfl (fun K hK => ?_) AllReadyH.nil
   have i0 := HB.out.c0
   have i1 := HB.out.c1
   have i2 := HB.out.c2
   have i3 := HB.out.c3
   have k0 := HB.out.fz 0
   have k1 := HB.out.fz 1
   have k2 := HB.out.fz 2
   have k3 := HB.out.fz 3
   go_simp
   clear i0 i1 i2 i3 k0 k1 k2 k3
   refine hK.out _ _ ?_ (fun hHeld1 => ?_)
   ·exact hs_set4 HF.out GB.out hHeld
   replace HB := hide (HB.out.set (.int .u64 n) (.bool f) (.slice x1 nt x3) (.slice y1 nr y3))
   replace HA := hide (HA.out.other (k := g2) (fun e => HN.out (e)) (.int .u64 n) (.bool f) (.slice x1 nt x3) (.slice y1 nr y3))
   unfold set4 at HA HB
   generalize (((W7.setCell ⟨g2, 0, none⟩ (.int .u64 n)).setCell ⟨g2, 1, none⟩ (.bool f)).setCell ⟨g2, 2, none⟩ (.slice x1 nt x3)).setCell ⟨g2, 3, none⟩ (.slice y1 nr y3) = W8 at HA HB hHeld1 ⊢
   clear hK K hHeld
   have hHeld := hHeld1
   clear hHeld1
   refine wpAnyH_done (by kernel_rfl) ?_ _
   have HD := hide hHeld.2.1
   clear hHeld HF HC HS0
   go_wp2_with fail
   go_meet
   exact ⟨g1, g2, x1, x3, y1, y3, rfl, rfl, HA.out, HB.out, GA.out, GB.out, HD.out⟩
 case rest =>
  obtain ⟨g1, g2, x1, x3, y1, y3, rfl, rfl, hA, hB, h1, h2, hb⟩ := hcut
  obtain ⟨i0, i1, i2, i3, _⟩ := hA
  obtain ⟨j0, j1, j2, j3, _⟩ := hB
  obtain ⟨e0, e1, e2, e3, e4⟩ := HF.out _ hb
  have f1 : wc.frozen? ⟨p, 1, none⟩ = false := (hb.frozen (p := ⟨p, 1, none⟩) hp).trans (hfz 1)
  have f2 : wc.frozen? ⟨p, 2, none⟩ = false := (hb.frozen (p := ⟨p, 2, none⟩) hp).trans (hfz 2)
  have f3 : wc.frozen? ⟨p, 3, none⟩ = false := (hb.frozen (p := ⟨p, 3, none⟩) hp).trans (hfz 3)
  have f4 : wc.frozen? ⟨p, 4, none⟩ = false := (hb.frozen (p := ⟨p, 4, none⟩) hp).trans (hfz 4)
  have hn2 : ¬ p = g2 := by omega
  have hn3 : ¬ g2 = p := by omega
  have HFZ : Hid (∀ i, wc.frozen? ⟨p, i, none⟩ = false) := hide (fun i => (hb.frozen (p := ⟨p, i, none⟩) hp).trans (hfz i))
  have HB := hide hb
  have HE := hide (And.intro e0 (And.intro e1 (And.intro e2 (And.intro e3 e4))))
  clear hfz hb h1 h2
  go_wp2_with fail
  go_ret
  exact ⟨rfl, set_p HE.out, fun i => by simp [World.frozen?_setCell, HFZ.out], bx_p HB.out⟩
theorem cuflag_go (p : Nat) (v : Value) (a c wh A C WH n : Int) (op OP : ByteArray) (f : Bool) (nt nr : Nat) (w : World) (hp : p < w.heap.size) (hfz : ∀ i, w.frozen? ⟨p, i, none⟩ = false)
  (hF : ∀ W, Below w.heap.size w W → (W.cell? ⟨p, 0, none⟩ = some v ∧ W.cell? ⟨p, 1, none⟩ = some (.int .i64 a) ∧ W.cell? ⟨p, 2, none⟩ = some (.int .i64 c) ∧ W.cell? ⟨p, 3, none⟩ = some (.string op) ∧ W.cell? ⟨p, 4, none⟩ = some (.int .i64 wh)))
  (HC : Hid (∀ W, Below w.heap.size w W → Calls Tryz.prog 56 #[v, .agg #[.int .i64 a, .int .i64 c, .string op, .int .i64 wh], .agg #[.int .i64 2, .int .i64 0, .int .i64 0]] W fun e w' => ∃ x1 x3 y1 y3, e = .returned (.tuple #[.agg #[.int .i64 A, .int .i64 C, .string OP, .int .i64 WH], .agg #[.int .u64 n, .bool f, .slice x1 nt x3, .slice y1 nr y3]]) ∧ Below W.heap.size W w')) :
  Calls Tryz.prog 57 #[.pointer (some ⟨p, 0, none⟩)] w fun e w' => e = .returned (.bool f) ∧ (w'.cell? ⟨p, 0, none⟩ = some v ∧ w'.cell? ⟨p, 1, none⟩ = some (.int .i64 A) ∧ w'.cell? ⟨p, 2, none⟩ = some (.int .i64 C) ∧ w'.cell? ⟨p, 3, none⟩ = some (.string OP) ∧ w'.cell? ⟨p, 4, none⟩ = some (.int .i64 WH)) ∧ (∀ i, w'.frozen? ⟨p, i, none⟩ = false) ∧ Bx p w w' := by
 have HS0 := hide (hs_drew hF (Nat.le_refl _))
 have HF := hide hF
 clear hF
 go_enter Tryz.func57, Tryz.ntmps57
 go_upto_region 1 with fail
 go_cut [3, 4] (fun x y W => ∃ g1 g2 x1 x3 y1 y3, x = .pointer (some ⟨g1, 0, none⟩) ∧ y = .pointer (some ⟨g2, 0, none⟩) ∧ B4 W g1 (.int .i64 A) (.int .i64 C) (.string OP) (.int .i64 WH) ∧ B4 W g2 (.int .u64 n) (.bool f) (.slice x1 nt x3) (.slice y1 nr y3) ∧ w.heap.size ≤ g1 ∧ w.heap.size ≤ g2 ∧ Below w.heap.size w W)
 case first =>
  refine wp_region_held_drew (S := fun W => (W.cell? ⟨p, 0, none⟩ = some v ∧ W.cell? ⟨p, 1, none⟩ = some (.int .i64 a) ∧ W.cell? ⟨p, 2, none⟩ = some (.int .i64 c) ∧ W.cell? ⟨p, 3, none⟩ = some (.string op) ∧ W.cell? ⟨p, 4, none⟩ = some (.int .i64 wh)) ∧ Below w.heap.size w W ∧ w.heap.size ≤ W.heap.size) (by kernel_rfl) HS0.out (fun hHeld => ?_)
  generalize w.drew = W0 at hHeld ⊢
  refine tk 0 6 (.pointer (some ⟨p, 0, none⟩)) rfl rfl hHeld ?_
  simp only [Act.put, zA, zB, zC]
  refine tk 1 7 (.pointer (some ⟨p, 0, none⟩)) rfl rfl hHeld ?_
  simp only [Act.put, zA, zB, zC]
  refine tk 2 8 (.pointer (some ⟨p, 0, none⟩)) rfl rfl hHeld ?_
  simp only [Act.put, zA, zB, zC]
  refine tk 3 9 (v) rfl rfl hHeld ?_
  simp only [Act.put, zA, zB, zC]
  refine tk 4 10 (.pointer (some ⟨p, 0, none⟩)) rfl rfl hHeld ?_
  simp only [Act.put, zA, zB, zC]
  refine tk 5 11 (.pointer (some ⟨p, 0, none⟩)) rfl rfl hHeld ?_
  simp only [Act.put, zA, zB, zC]
  refine tk 6 12 (.pointer (some ⟨p, 1, none⟩)) rfl rfl hHeld ?_
  simp only [Act.put, zA, zB, zC]
  refine tk 7 13 (.agg #[.int .i64 a, .int .i64 c, .string op, .int .i64 wh]) rfl rfl hHeld ?_
  simp only [Act.put, zA, zB, zC]
  refine tk 8 14 (.agg #[.int .i64 2, .int .i64 0, .int .i64 0]) rfl rfl hHeld ?_
  simp only [Act.put, zA, zB, zC]
  refine wpAnyH_ready (rs := [9, 13, 14]) (by kernel_rfl) (by simp) ?_
  refine AllReadyH.cons (o := _) rfl (fun K hK => ?_) (AllReadyH.cons (o := _) rfl (fun K hK => ?_) (AllReadyH.cons (o := _) rfl (fun K hK => ?_) AllReadyH.nil))
  focus
   go_simp
   go_at_call 56
   refine (HC.out _ hHeld.2.1).mono ?_
   rintro e W1 ⟨x1, x3, y1, y3, rfl, hb⟩
   go_wp2_with fail
   refine hK.out _ _ ?_ (fun hHeld1 => ?_)
   ·exact hs_call HF.out hb hHeld
   clear hb
   clear hK K hHeld
   have hHeld := hHeld1
   clear hHeld1
   refine tk 10 5 (.tuple #[.agg #[.int .i64 A, .int .i64 C, .string OP, .int .i64 WH], .agg #[.int .u64 n, .bool f, .slice x1 nt x3, .slice y1 nr y3]]) rfl rfl hHeld ?_
   simp only [Act.put, zA, zB, zC]
   refine tk 11 16 (.agg #[.int .i64 A, .int .i64 C, .string OP, .int .i64 WH]) rfl rfl hHeld ?_
   simp only [Act.put, zA, zB, zC]
   refine tk 12 17 (.agg #[.int .u64 n, .bool f, .slice x1 nt x3, .slice y1 nr y3]) rfl rfl hHeld ?_
   simp only [Act.put, zA, zB, zC]
   refine wpAnyH_ready (rs := [13, 14]) (by kernel_rfl) (by simp) ?_
   refine AllReadyH.cons (o := _) rfl (fun K hK => ?_) (AllReadyH.cons (o := _) rfl (fun K hK => ?_) AllReadyH.nil)
   focus
    go_simp
    refine hK.out _ _ ?_ (fun hHeld1 => ?_)
    ·exact hs_alloc HF.out hHeld
    have HA := hide (B4.new W1 (.int .i64 0) (.int .i64 0) (.string ⟨#[]⟩) (.int .i64 0) 66)
    have GA : Hid (w.heap.size ≤ W1.heap.size) := hide hHeld.2.2
    generalize W1.alloc (.cells #[.int .i64 0, .int .i64 0, .string ⟨#[]⟩, .int .i64 0] 66) = W2 at HA hHeld1 ⊢
    generalize W1.heap.size = g1 at HA GA ⊢
    clear hK K hHeld
    have hHeld := hHeld1
    clear hHeld1
    refine wpAnyH_ready (rs := [14]) (by kernel_rfl) (by simp) ?_
    refine AllReadyH.cons (o := _) rfl (fun K hK => ?_) AllReadyH.nil
    go_simp
    refine hK.out _ _ ?_ (fun hHeld1 => ?_)
    ·exact hs_alloc HF.out hHeld
    have HB := hide (B4.new W2 (.int .u64 0) (.bool false) (.slice none 0 0) (.slice none 0 0) 110)
    have GB : Hid (w.heap.size ≤ W2.heap.size) := hide hHeld.2.2
    have HN : Hid (¬ g1 = W2.heap.size) := hide (by have := HA.out.lt; omega)
    replace HA := hide (HA.out.below ((Below.refl _ _).alloc (Nat.le_refl _) (.cells #[.int .u64 0, .bool false, .slice none 0 0, .slice none 0 0] 110)))
    generalize W2.alloc (.cells #[.int .u64 0, .bool false, .slice none 0 0, .slice none 0 0] 110) = W3 at HB hHeld1 HA ⊢
    generalize W2.heap.size = g2 at HB GB HN ⊢
    clear hK K hHeld
    have hHeld := hHeld1
    clear hHeld1
    obtain ⟨WZ, rfl⟩ : ∃ x : World, x = W3 := ⟨_, rfl⟩
   rotate_left 1
   focus
    go_simp
    refine hK.out _ _ ?_ (fun hHeld1 => ?_)
    ·exact hs_alloc HF.out hHeld
    have HB := hide (B4.new W1 (.int .u64 0) (.bool false) (.slice none 0 0) (.slice none 0 0) 110)
    have GB : Hid (w.heap.size ≤ W1.heap.size) := hide hHeld.2.2
    generalize W1.alloc (.cells #[.int .u64 0, .bool false, .slice none 0 0, .slice none 0 0] 110) = W2 at HB hHeld1 ⊢
    generalize W1.heap.size = g2 at HB GB ⊢
    clear hK K hHeld
    have hHeld := hHeld1
    clear hHeld1
    refine wpAnyH_ready (rs := [13]) (by kernel_rfl) (by simp) ?_
    refine AllReadyH.cons (o := _) rfl (fun K hK => ?_) AllReadyH.nil
    go_simp
    refine hK.out _ _ ?_ (fun hHeld1 => ?_)
    ·exact hs_alloc HF.out hHeld
    have HA := hide (B4.new W2 (.int .i64 0) (.int .i64 0) (.string ⟨#[]⟩) (.int .i64 0) 66)
    have GA : Hid (w.heap.size ≤ W2.heap.size) := hide hHeld.2.2
    have HN : Hid (¬ g2 = W2.heap.size) := hide (by have := HB.out.lt; omega)
    replace HB := hide (HB.out.below ((Below.refl _ _).alloc (Nat.le_refl _) (.cells #[.int .i64 0, .int .i64 0, .string ⟨#[]⟩, .int .i64 0] 66)))
    generalize W2.alloc (.cells #[.int .i64 0, .int .i64 0, .string ⟨#[]⟩, .int .i64 0] 66) = W3 at HA hHeld1 HB ⊢
    generalize W2.heap.size = g1 at HA GA HN ⊢
    clear hK K hHeld
    have hHeld := hHeld1
    clear hHeld1
    replace HN := hide (fun e => HN.out (Eq.symm e))
    obtain ⟨WZ, rfl⟩ : ∃ x : World, x = W3 := ⟨_, rfl⟩
   rotate_left 1
  rotate_left 2
  focus
   go_simp
   refine hK.out _ _ ?_ (fun hHeld1 => ?_)
   ·exact hs_alloc HF.out hHeld
   have HA := hide (B4.new W0 (.int .i64 0) (.int .i64 0) (.string ⟨#[]⟩) (.int .i64 0) 66)
   have GA : Hid (w.heap.size ≤ W0.heap.size) := hide hHeld.2.2
   generalize W0.alloc (.cells #[.int .i64 0, .int .i64 0, .string ⟨#[]⟩, .int .i64 0] 66) = W1 at HA hHeld1 ⊢
   generalize W0.heap.size = g1 at HA GA ⊢
   clear hK K hHeld
   have hHeld := hHeld1
   clear hHeld1
   refine wpAnyH_ready (rs := [9, 14]) (by kernel_rfl) (by simp) ?_
   refine AllReadyH.cons (o := _) rfl (fun K hK => ?_) (AllReadyH.cons (o := _) rfl (fun K hK => ?_) AllReadyH.nil)
   focus
    go_simp
    go_at_call 56
    refine (HC.out _ hHeld.2.1).mono ?_
    rintro e W2 ⟨x1, x3, y1, y3, rfl, hb⟩
    go_wp2_with fail
    refine hK.out _ _ ?_ (fun hHeld1 => ?_)
    ·exact hs_call HF.out hb hHeld
    replace HA := hide (HA.out.below hb)
    clear hb
    clear hK K hHeld
    have hHeld := hHeld1
    clear hHeld1
    refine tk 10 5 (.tuple #[.agg #[.int .i64 A, .int .i64 C, .string OP, .int .i64 WH], .agg #[.int .u64 n, .bool f, .slice x1 nt x3, .slice y1 nr y3]]) rfl rfl hHeld ?_
    simp only [Act.put, zA, zB, zC]
    refine tk 11 16 (.agg #[.int .i64 A, .int .i64 C, .string OP, .int .i64 WH]) rfl rfl hHeld ?_
    simp only [Act.put, zA, zB, zC]
    refine tk 12 17 (.agg #[.int .u64 n, .bool f, .slice x1 nt x3, .slice y1 nr y3]) rfl rfl hHeld ?_
    simp only [Act.put, zA, zB, zC]
    refine wpAnyH_ready (rs := [14]) (by kernel_rfl) (by simp) ?_
    refine AllReadyH.cons (o := _) rfl (fun K hK => ?_) AllReadyH.nil
    go_simp
    refine hK.out _ _ ?_ (fun hHeld1 => ?_)
    ·exact hs_alloc HF.out hHeld
    have HB := hide (B4.new W2 (.int .u64 0) (.bool false) (.slice none 0 0) (.slice none 0 0) 110)
    have GB : Hid (w.heap.size ≤ W2.heap.size) := hide hHeld.2.2
    have HN : Hid (¬ g1 = W2.heap.size) := hide (by have := HA.out.lt; omega)
    replace HA := hide (HA.out.below ((Below.refl _ _).alloc (Nat.le_refl _) (.cells #[.int .u64 0, .bool false, .slice none 0 0, .slice none 0 0] 110)))
    generalize W2.alloc (.cells #[.int .u64 0, .bool false, .slice none 0 0, .slice none 0 0] 110) = W3 at HB hHeld1 HA ⊢
    generalize W2.heap.size = g2 at HB GB HN ⊢
    clear hK K hHeld
    have hHeld := hHeld1
    clear hHeld1
    obtain ⟨WZ, rfl⟩ : ∃ x : World, x = W3 := ⟨_, rfl⟩
   rotate_left 1
   focus
    go_simp
    refine hK.out _ _ ?_ (fun hHeld1 => ?_)
    ·exact hs_alloc HF.out hHeld
    have HB := hide (B4.new W1 (.int .u64 0) (.bool false) (.slice none 0 0) (.slice none 0 0) 110)
    have GB : Hid (w.heap.size ≤ W1.heap.size) := hide hHeld.2.2
    have HN : Hid (¬ g1 = W1.heap.size) := hide (by have := HA.out.lt; omega)
    replace HA := hide (HA.out.below ((Below.refl _ _).alloc (Nat.le_refl _) (.cells #[.int .u64 0, .bool false, .slice none 0 0, .slice none 0 0] 110)))
    generalize W1.alloc (.cells #[.int .u64 0, .bool false, .slice none 0 0, .slice none 0 0] 110) = W2 at HB hHeld1 HA ⊢
    generalize W1.heap.size = g2 at HB GB HN ⊢
    clear hK K hHeld
    have hHeld := hHeld1
    clear hHeld1
    refine wpAnyH_ready (rs := [9]) (by kernel_rfl) (by simp) ?_
    refine AllReadyH.cons (o := _) rfl (fun K hK => ?_) AllReadyH.nil
    go_simp
    go_at_call 56
    refine (HC.out _ hHeld.2.1).mono ?_
    rintro e W3 ⟨x1, x3, y1, y3, rfl, hb⟩
    go_wp2_with fail
    refine hK.out _ _ ?_ (fun hHeld1 => ?_)
    ·exact hs_call HF.out hb hHeld
    replace HA := hide (HA.out.below hb)
    replace HB := hide (HB.out.below hb)
    clear hb
    clear hK K hHeld
    have hHeld := hHeld1
    clear hHeld1
    refine tk 10 5 (.tuple #[.agg #[.int .i64 A, .int .i64 C, .string OP, .int .i64 WH], .agg #[.int .u64 n, .bool f, .slice x1 nt x3, .slice y1 nr y3]]) rfl rfl hHeld ?_
    simp only [Act.put, zA, zB, zC]
    refine tk 11 16 (.agg #[.int .i64 A, .int .i64 C, .string OP, .int .i64 WH]) rfl rfl hHeld ?_
    simp only [Act.put, zA, zB, zC]
    refine tk 12 17 (.agg #[.int .u64 n, .bool f, .slice x1 nt x3, .slice y1 nr y3]) rfl rfl hHeld ?_
    simp only [Act.put, zA, zB, zC]
    obtain ⟨WZ, rfl⟩ : ∃ x : World, x = W3 := ⟨_, rfl⟩
   rotate_left 1
  rotate_left 2
  focus
   go_simp
   refine hK.out _ _ ?_ (fun hHeld1 => ?_)
   ·exact hs_alloc HF.out hHeld
   have HB := hide (B4.new W0 (.int .u64 0) (.bool false) (.slice none 0 0) (.slice none 0 0) 110)
   have GB : Hid (w.heap.size ≤ W0.heap.size) := hide hHeld.2.2
   generalize W0.alloc (.cells #[.int .u64 0, .bool false, .slice none 0 0, .slice none 0 0] 110) = W1 at HB hHeld1 ⊢
   generalize W0.heap.size = g2 at HB GB ⊢
   clear hK K hHeld
   have hHeld := hHeld1
   clear hHeld1
   refine wpAnyH_ready (rs := [9, 13]) (by kernel_rfl) (by simp) ?_
   refine AllReadyH.cons (o := _) rfl (fun K hK => ?_) (AllReadyH.cons (o := _) rfl (fun K hK => ?_) AllReadyH.nil)
   focus
    go_simp
    go_at_call 56
    refine (HC.out _ hHeld.2.1).mono ?_
    rintro e W2 ⟨x1, x3, y1, y3, rfl, hb⟩
    go_wp2_with fail
    refine hK.out _ _ ?_ (fun hHeld1 => ?_)
    ·exact hs_call HF.out hb hHeld
    replace HB := hide (HB.out.below hb)
    clear hb
    clear hK K hHeld
    have hHeld := hHeld1
    clear hHeld1
    refine tk 10 5 (.tuple #[.agg #[.int .i64 A, .int .i64 C, .string OP, .int .i64 WH], .agg #[.int .u64 n, .bool f, .slice x1 nt x3, .slice y1 nr y3]]) rfl rfl hHeld ?_
    simp only [Act.put, zA, zB, zC]
    refine tk 11 16 (.agg #[.int .i64 A, .int .i64 C, .string OP, .int .i64 WH]) rfl rfl hHeld ?_
    simp only [Act.put, zA, zB, zC]
    refine tk 12 17 (.agg #[.int .u64 n, .bool f, .slice x1 nt x3, .slice y1 nr y3]) rfl rfl hHeld ?_
    simp only [Act.put, zA, zB, zC]
    refine wpAnyH_ready (rs := [13]) (by kernel_rfl) (by simp) ?_
    refine AllReadyH.cons (o := _) rfl (fun K hK => ?_) AllReadyH.nil
    go_simp
    refine hK.out _ _ ?_ (fun hHeld1 => ?_)
    ·exact hs_alloc HF.out hHeld
    have HA := hide (B4.new W2 (.int .i64 0) (.int .i64 0) (.string ⟨#[]⟩) (.int .i64 0) 66)
    have GA : Hid (w.heap.size ≤ W2.heap.size) := hide hHeld.2.2
    have HN : Hid (¬ g2 = W2.heap.size) := hide (by have := HB.out.lt; omega)
    replace HB := hide (HB.out.below ((Below.refl _ _).alloc (Nat.le_refl _) (.cells #[.int .i64 0, .int .i64 0, .string ⟨#[]⟩, .int .i64 0] 66)))
    generalize W2.alloc (.cells #[.int .i64 0, .int .i64 0, .string ⟨#[]⟩, .int .i64 0] 66) = W3 at HA hHeld1 HB ⊢
    generalize W2.heap.size = g1 at HA GA HN ⊢
    clear hK K hHeld
    have hHeld := hHeld1
    clear hHeld1
    replace HN := hide (fun e => HN.out (Eq.symm e))
    obtain ⟨WZ, rfl⟩ : ∃ x : World, x = W3 := ⟨_, rfl⟩
   rotate_left 1
   focus
    go_simp
    refine hK.out _ _ ?_ (fun hHeld1 => ?_)
    ·exact hs_alloc HF.out hHeld
    have HA := hide (B4.new W1 (.int .i64 0) (.int .i64 0) (.string ⟨#[]⟩) (.int .i64 0) 66)
    have GA : Hid (w.heap.size ≤ W1.heap.size) := hide hHeld.2.2
    have HN : Hid (¬ g2 = W1.heap.size) := hide (by have := HB.out.lt; omega)
    replace HB := hide (HB.out.below ((Below.refl _ _).alloc (Nat.le_refl _) (.cells #[.int .i64 0, .int .i64 0, .string ⟨#[]⟩, .int .i64 0] 66)))
    generalize W1.alloc (.cells #[.int .i64 0, .int .i64 0, .string ⟨#[]⟩, .int .i64 0] 66) = W2 at HA hHeld1 HB ⊢
    generalize W1.heap.size = g1 at HA GA HN ⊢
    clear hK K hHeld
    have hHeld := hHeld1
    clear hHeld1
    refine wpAnyH_ready (rs := [9]) (by kernel_rfl) (by simp) ?_
    refine AllReadyH.cons (o := _) rfl (fun K hK => ?_) AllReadyH.nil
    go_simp
    go_at_call 56
    refine (HC.out _ hHeld.2.1).mono ?_
    rintro e W3 ⟨x1, x3, y1, y3, rfl, hb⟩
    go_wp2_with fail
    refine hK.out _ _ ?_ (fun hHeld1 => ?_)
    ·exact hs_call HF.out hb hHeld
    replace HA := hide (HA.out.below hb)
    replace HB := hide (HB.out.below hb)
    clear hb
    clear hK K hHeld
    have hHeld := hHeld1
    clear hHeld1
    refine tk 10 5 (.tuple #[.agg #[.int .i64 A, .int .i64 C, .string OP, .int .i64 WH], .agg #[.int .u64 n, .bool f, .slice x1 nt x3, .slice y1 nr y3]]) rfl rfl hHeld ?_
    simp only [Act.put, zA, zB, zC]
    refine tk 11 16 (.agg #[.int .i64 A, .int .i64 C, .string OP, .int .i64 WH]) rfl rfl hHeld ?_
    simp only [Act.put, zA, zB, zC]
    refine tk 12 17 (.agg #[.int .u64 n, .bool f, .slice x1 nt x3, .slice y1 nr y3]) rfl rfl hHeld ?_
    simp only [Act.put, zA, zB, zC]
    replace HN := hide (fun e => HN.out (Eq.symm e))
    obtain ⟨WZ, rfl⟩ : ∃ x : World, x = W3 := ⟨_, rfl⟩
   rotate_left 1
  rotate_left 2
  all_goals
   refine wpAnyH_ready (rs := [15]) (by kernel_rfl) (by simp) ?_
   refine AllReadyH.cons (o := _) rfl (fun K hK => ?_) AllReadyH.nil
   have i0 := HA.out.c0
   have i1 := HA.out.c1
   have i2 := HA.out.c2
   have i3 := HA.out.c3
   have k0 := HA.out.fz 0
   have k1 := HA.out.fz 1
   have k2 := HA.out.fz 2
   have k3 := HA.out.fz 3
   go_simp
   clear i0 i1 i2 i3 k0 k1 k2 k3
   refine hK.out _ _ ?_ (fun hHeld1 => ?_)
   ·exact hs_set4 HF.out GA.out hHeld
   replace HA := hide (HA.out.set (.int .i64 A) (.int .i64 C) (.string OP) (.int .i64 WH))
   replace HB := hide (HB.out.other (k := g1) (fun e => HN.out (e.symm)) (.int .i64 A) (.int .i64 C) (.string OP) (.int .i64 WH))
   unfold set4 at HA HB
   generalize (((WZ.setCell ⟨g1, 0, none⟩ (.int .i64 A)).setCell ⟨g1, 1, none⟩ (.int .i64 C)).setCell ⟨g1, 2, none⟩ (.string OP)).setCell ⟨g1, 3, none⟩ (.int .i64 WH) = W7 at HA HB hHeld1 ⊢
   clear hK K hHeld
   have hHeld := hHeld1
   clear hHeld1
   refine wpAnyH_ready (rs := [16]) (by kernel_rfl) (by simp) ?_
   refine AllReadyH.cons (o := _) rfl (fun K hK => ?_) AllReadyH.nil
   have i0 := HB.out.c0
   have i1 := HB.out.c1
   have i2 := HB.out.c2
   have i3 := HB.out.c3
   have k0 := HB.out.fz 0
   have k1 := HB.out.fz 1
   have k2 := HB.out.fz 2
   have k3 := HB.out.fz 3
   go_simp
   clear i0 i1 i2 i3 k0 k1 k2 k3
   refine hK.out _ _ ?_ (fun hHeld1 => ?_)
   ·exact hs_set4 HF.out GB.out hHeld
   replace HB := hide (HB.out.set (.int .u64 n) (.bool f) (.slice x1 nt x3) (.slice y1 nr y3))
   replace HA := hide (HA.out.other (k := g2) (fun e => HN.out (e)) (.int .u64 n) (.bool f) (.slice x1 nt x3) (.slice y1 nr y3))
   unfold set4 at HA HB
   generalize (((W7.setCell ⟨g2, 0, none⟩ (.int .u64 n)).setCell ⟨g2, 1, none⟩ (.bool f)).setCell ⟨g2, 2, none⟩ (.slice x1 nt x3)).setCell ⟨g2, 3, none⟩ (.slice y1 nr y3) = W8 at HA HB hHeld1 ⊢
   clear hK K hHeld
   have hHeld := hHeld1
   clear hHeld1
   refine wpAnyH_done (by kernel_rfl) ?_ _
   have HD := hide hHeld.2.1
   clear hHeld HF HC HS0
   go_wp2_with fail
   go_meet
   exact ⟨g1, g2, x1, x3, y1, y3, rfl, rfl, HA.out, HB.out, GA.out, GB.out, HD.out⟩
 case rest =>
  obtain ⟨g1, g2, x1, x3, y1, y3, rfl, rfl, hA, hB, h1, h2, hb⟩ := hcut
  obtain ⟨i0, i1, i2, i3, _⟩ := hA
  obtain ⟨j0, j1, j2, j3, _⟩ := hB
  obtain ⟨e0, e1, e2, e3, e4⟩ := HF.out _ hb
  have f1 : wc.frozen? ⟨p, 1, none⟩ = false := (hb.frozen (p := ⟨p, 1, none⟩) hp).trans (hfz 1)
  have f2 : wc.frozen? ⟨p, 2, none⟩ = false := (hb.frozen (p := ⟨p, 2, none⟩) hp).trans (hfz 2)
  have f3 : wc.frozen? ⟨p, 3, none⟩ = false := (hb.frozen (p := ⟨p, 3, none⟩) hp).trans (hfz 3)
  have f4 : wc.frozen? ⟨p, 4, none⟩ = false := (hb.frozen (p := ⟨p, 4, none⟩) hp).trans (hfz 4)
  have hn2 : ¬ p = g2 := by omega
  have hn3 : ¬ g2 = p := by omega
  have HFZ : Hid (∀ i, wc.frozen? ⟨p, i, none⟩ = false) := hide (fun i => (hb.frozen (p := ⟨p, i, none⟩) hp).trans (hfz i))
  have HB := hide hb
  have HE := hide (And.intro e0 (And.intro e1 (And.intro e2 (And.intro e3 e4))))
  clear hfz hb h1 h2
  go_wp2_with fail
  go_ret
  exact ⟨rfl, set_p HE.out, fun i => by simp [World.frozen?_setCell, HFZ.out], bx_p HB.out⟩
theorem st_gs (c : Int) (op : ByteArray) (n a : Nat) (h : c ≠ 0 → n = a) : stX c op (a : Int) (n : Int) = .agg #[.int .i64 ((mkS c op n a).pt : Int), .int .i64 (mkS c op n a).c, .string (mkS c op n a).op, .int .i64 (whS (mkS c op n a))] := by
 by_cases hc : c = 0
 ·subst hc
  simp [stX, stv, mkS, okS, whS]
 ·have := h hc
  subst this
  simp [stX, stv, mkS, whS, hc]
theorem CuG.cells {W : World} {p : Nat} {v : Value} {s : Gs} (h : CuG W p v s) : W.cell? ⟨p, 0, none⟩ = some v ∧ W.cell? ⟨p, 1, none⟩ = some (.int .i64 s.pt) ∧ W.cell? ⟨p, 2, none⟩ = some (.int .i64 s.c) ∧ W.cell? ⟨p, 3, none⟩ = some (.string s.op) ∧ W.cell? ⟨p, 4, none⟩ = some (.int .i64 (whS s)) := ⟨h.c0, h.c1, h.c2, h.c3, h.c4⟩
theorem cuint_gs (p : Nat) (v : Value) (l : List Int) (m : Int) (s : Gs) (w0 w : World) (hr : CuG w p v s) (hv : Sl bc w0 v l) (hW : Below w0.heap.size w0 w) (hl : l.length ≤ 4000) (hby : Byt l) (hs : s.pt ≤ l.length) (h0 : 0 ≤ m) (hm : m ≤ 1073741824) :
  Calls Tryz.prog 20 #[.pointer (some ⟨p, 0, none⟩), .int .i64 m] w fun e w' => e = .returned (.int .i64 (gN m l s).2) ∧ CuG w' p v (gN m l s).1 ∧ Bx p w w' := by
 have hp : p < w.heap.size := cell_block hr.c0
 have hF := fun W (h : Below w.heap.size w W) => (hr.below h).cells
 unfold gN
 by_cases hc : s.c = 0
 ·rw [if_pos hc]
  have hrg := numS_range (l.drop s.pt) m (fun x hx => hby x (List.mem_of_mem_drop hx))
  rcases hq : numS (l.drop s.pt) m with ⟨c, k, n⟩
  rw [hq] at hrg
  simp only at hrg
  have hbad : c ≠ 0 → s.pt + k = s.pt := fun q => by have := (numS_bad hq q).1; omega
  have hask : askS l s.pt 1 m 0 = ⟨c, ⟨#[110, 117, 109]⟩, s.pt, s.pt + k, n, false, [], []⟩ := by
   unfold askS
   rw [if_pos (Or.inr rfl), abv', if_neg (by omega), hq]
  have hwr : IntKind.i64.wrap n = n := by rw [IntKind.wrap_i64]; omega
  refine (cuint_go p v s.pt s.c (whS s) (mkS c ⟨#[110, 117, 109]⟩ (s.pt + k) s.pt).pt (mkS c ⟨#[110, 117, 109]⟩ (s.pt + k) s.pt).c (whS (mkS c ⟨#[110, 117, 109]⟩ (s.pt + k) s.pt)) n m s.op (mkS c ⟨#[110, 117, 109]⟩ (s.pt + k) s.pt).op false 0 0 w hp hr.fz hwr hF (hide fun W h => ?_)).mono ?_
  ·have hcall := refRead_any v l s.pt 1 m 0 (whS s) s.op w0 W hv (hW.trans (h.mono hW.size)) hl hby hs (by omega) (by omega)
   rw [hask] at hcall
   simp only at hcall
   rw [st_gs c _ _ _ hbad] at hcall
   rw [hc]
   refine hcall.mono ?_
   rintro e w' ⟨vt, vr, rfl, h1, h2, h3⟩
   obtain ⟨x1, x3, rfl⟩ := h1.sl.form
   obtain ⟨y1, y3, rfl⟩ := h2.sl.form
   exact ⟨x1, x3, y1, y3, rfl, h3⟩
  ·rintro e w' ⟨rfl, ⟨a0, a1, a2, a3, a4⟩, h2, h3⟩
   exact ⟨rfl, ⟨a0, a1, a2, a3, a4, h2⟩, h3⟩
 ·rw [if_neg hc]
  refine (cuint_go p v s.pt s.c (whS s) s.pt s.c (whS s) 0 m s.op s.op false 0 0 w hp hr.fz (by decide) hF (hide fun W h => ?_)).mono ?_
  ·refine (read_err v s.pt s.c (whS s) 1 m 0 s.op W (by simpa using hc)).mono ?_
   rintro e w' ⟨rfl, h3⟩
   exact ⟨_, _, _, _, rfl, h3⟩
  ·rintro e w' ⟨rfl, ⟨a0, a1, a2, a3, a4⟩, h2, h3⟩
   exact ⟨rfl, ⟨a0, a1, a2, a3, a4, h2⟩, h3⟩
end Go.Proofs.YtjjpfajbljbelaaGreatDoor
