/-
  A SLOT'S BLOCKS READ AND WRITTEN (slot.turnOf, saidOf, place, newest, putTurn, block): what the document says of them. Conditions: the cells hold bytes; turns from 0 to 255 where a block is written.
-/
import Derived.Test.YtmgfcgknajehaaaSlM
import Derived.Test.YtmgfcgknajehaaaChB
import Derived.Deep.MidRow
namespace Go.Proofs.Ytmgfcgknajehaaa
open Go.RowKit

set_option maxRecDepth 100000 in
set_option maxHeartbeats 4000000 in
theorem turnOf_any (b o n cap : Nat) (l : List Int) (w : World) (hn : 8 ≤ n) (hc : n ≤ cap) (hl : l.length = 8) (hb : Byt l) (hce : ∀ i (h : i < l.length), w.cell? ⟨b, o + i, none⟩ = some (.int .u8 l[i])) : Calls Try.prog 62 #[.slice (some ⟨b, o, none⟩) n cap] w fun e w' => e = .returned (.int .i64 (stp l)) ∧ w' = w := by
  have HL := hide hl
  have HBY := hide hb
  have HC := hide hce
  have hnI : (8 : Int) ≤ (n : Int) := by omega
  have hcI : (8 : Int) ≤ (cap : Int) := by omega
  have hc0 : ¬ cap = 0 := by omega
  clear hb hce
  go_enter Try.func62, Try.ntmps62
  go_wp2
  go_loopw [3, 9] (fun n i W => ∃ k : Nat, k ≤ 8 ∧ i = .int .i64 k ∧ n = .int .u64 (num8 (l.take k)) ∧ W = w) (fun _ i _ => 8 - (iv i).toNat)
  case atStart => exact ⟨0, by omega, rfl, by simp [num8], rfl⟩
  case round =>
    obtain ⟨k, hk, rfl, rfl, rfl⟩ := hrel
    have hbd := num8_bd k (l.take k) (by rw [List.length_take, HL.out]; omega) (fun x hx => HBY.out x (List.mem_of_mem_take hx))
    by_cases hlt : k < 8
    · have hkl : k < l.length := by omega
      have hx := HBY.out _ (List.getElem_mem hkl)
      have HN : Hid (num8 (l.take (k + 1)) = num8 (l.take k) * 256 + l[k]) := hide (by rw [take_step hkl, num8_snoc])
      have hce := HC.out k hkl
      have hn7 : num8 (l.take k) < 72057594037927936 := by
        have h1 : (256 : Int) ^ k ≤ 256 ^ 7 := by
          have := Nat.pow_le_pow_right (n := 256) (by decide) (show k ≤ 7 by omega)
          exact_mod_cast this
        have := hbd.2
        omega
      have hn0 := hbd.1
      generalize l[k] = x at hx HN hce
      generalize num8 (l.take k) = n at hn7 hn0 HN hbd
      obtain ⟨hx0, hx1⟩ := hx
      have hor : bits .or .u64 (n * 256) x = n * 256 + x := or_add64 hn0 hn7 hx0 hx1
      clear hbd
      go_wp2_with fail
      exact ⟨⟨k + 1, by omega, by go_num, by rw [HN.out], by trivial⟩, by simp [iv]; omega⟩
    · obtain rfl : k = 8 := by omega
      have e : l.take 8 = l := List.take_of_length_le (by omega)
      rw [e] at hbd ⊢
      by_cases ht : num8 l ≤ 1152921504606846976
      · have HS : Hid (stp l = num8 l) := hide (by unfold stp; rw [if_pos ht])
        generalize num8 l = n at ht hbd HS ⊢
        go_wp2
        go_ret
        exact ⟨by rw [HS.out]; rfl, rfl⟩
      · have HS : Hid (stp l = 0) := hide (by unfold stp; rw [if_neg ht])
        generalize num8 l = n at ht hbd ⊢
        go_wp2
        go_ret
        exact ⟨by rw [HS.out]; rfl, rfl⟩
set_option maxRecDepth 100000 in
set_option maxHeartbeats 4000000 in
theorem place_any (t : Int) (v : Value) (w : World) (hv : ∃ a n k, v = .slice a n k) (h0 : 0 ≤ t) : Calls Try.prog 50 #[.agg #[.int .i64 t, v]] w fun e w' => e = .returned (.int .i64 (t % 2)) ∧ Below w.heap.size w w' := by
  obtain ⟨a, n, k, rfl⟩ := hv
  have HB := hide ((Below.refl w.heap.size w).alloc (Nat.le_refl _) (.cells #[.int .i64 t, .slice a n k] 88))
  go_enter Try.func50, Try.ntmps50
  go_wp2
  go_ret
  exact ⟨rfl, HB.out⟩
/-- The newest one, with its slice. -/
def newVE (t0 : Int) (v0 : Value) : Int × Value := if t0 % 2 = 0 ∧ 0 ≤ t0 then (t0, v0) else (0, .slice none 0 0)
def newV (t0 : Int) (v0 : Value) (t1 : Int) (v1 : Value) : Int × Value := if t1 % 2 = 1 ∧ (newVE t0 v0).1 ≤ t1 then (t1, v1) else newVE t0 v0
def nk (t0 : Int) (v0 : Value) (t1 : Int) (v1 : Value) : Nat → Int × Value
  | 0 => (0, .slice none 0 0)
  | 1 => newVE t0 v0
  | _ => newV t0 v0 t1 v1
theorem newVE_form {t0 : Int} {v0 : Value} (h : ∃ a n k, v0 = .slice a n k) : ∃ a n k, (newVE t0 v0).2 = .slice a n k := by
  unfold newVE
  split
  · exact h
  · exact ⟨_, _, _, rfl⟩
/-- A box of two cells. -/
structure B2 (W : World) (g : Nat) (x y : Value) : Prop where
  c0 : W.cell? ⟨g, 0, none⟩ = some x
  c1 : W.cell? ⟨g, 1, none⟩ = some y
  fz : ∀ i, W.frozen? ⟨g, i, none⟩ = false
section
variable {W W' : World} {g : Nat} {x y : Value}
theorem B2.lt (h : B2 W g x y) : g < W.heap.size := cell_block h.c0
theorem B2.keepB (h : B2 W g x y) (hk : W'.heap[g]? = W.heap[g]?) : B2 W' g x y :=
  ⟨(World.cell?_of_block hk).trans h.c0, (World.cell?_of_block hk).trans h.c1, fun i => (World.frozen?_of_block (a := ⟨g, i, none⟩) hk).trans (h.fz i)⟩
theorem B2.below (h : B2 W g x y) (hb : Below W.heap.size W W') : B2 W' g x y := h.keepB (hb.block g h.lt)
theorem B2.new (W : World) (x y : Value) (T : TypeId) : B2 (W.alloc (.cells #[x, y] T)) W.heap.size x y :=
  ⟨World.cell?_alloc_at _ _ _ _ rfl, World.cell?_alloc_at _ _ _ _ rfl, fun i => by simp⟩
theorem B2.setO (h : B2 W g x y) {k i : Nat} (hk : g ≠ k) (v : Value) : B2 (W.setCell ⟨k, i, none⟩ v) g x y := h.keepB (Below.heap_setCell _ _ _ _ hk)
theorem B2.set (h : B2 W g x y) (x' y' : Value) : B2 ((W.setCell ⟨g, 0, none⟩ x').setCell ⟨g, 1, none⟩ y') g x' y' :=
  ⟨by rw [World.cell?_setCell_other _ _ _ _ (by simp)]; exact World.cell?_setCell_same _ _ _ h.c0, World.cell?_setCell_same _ _ _ (by rw [World.cell?_setCell_other _ _ _ _ (by simp)]; exact h.c1), fun i => by simp [h.fz i]⟩
theorem B2.rg (h : B2 W g x y) : W.rangeAt g 0 [x, y] := fun j v hv => by
  rw [Nat.zero_add]
  match j, hv with
  | 0, hv => cases hv; exact h.c0
  | 1, hv => cases hv; exact h.c1
end
theorem idxP0 (x0 y0 x1 y1 : Value) (W : World) : (Instr.index 90 (.agg #[x0, y0, x1, y1]) (.int .i64 0)).run Try.prog W = .ok (.agg #[x0, y0]) W := by kernel_rfl
theorem idxP1 (x0 y0 x1 y1 : Value) (W : World) : (Instr.index 90 (.agg #[x0, y0, x1, y1]) (.int .i64 1)).run Try.prog W = .ok (.agg #[x1, y1]) W := by kernel_rfl
theorem results_b2 {P : Program} {fn : Func} {q : Tmp} {ty : TypeId} (h : fn.results = #[.cell q ty]) (tmps : Array Value) (w : World) (b : Nat) (x y : Value) (d : TypeDesc) (hp : tmps.getD q undef = .pointer (some ⟨b, 0, none⟩)) (hc : B2 w b x y) (hu : P.underlying ty = some d) (hd : d.isRow = true) (hi : (P.info? ty).map (·.size) = some 2) : (results fn tmps).run P w = .ok (.agg #[x, y]) w := by
  have hp' : tmps[q]?.getD undef = .pointer (some ⟨b, 0, none⟩) := by simpa using hp
  simp [results, h, hp', asAddr, run_loadVar_mid w b 0 ty [x, y] d hc.rg hu hd hi]
set_option maxRecDepth 100000 in
set_option maxHeartbeats 8000000 in
theorem newest_any (t0 t1 : Int) (v0 v1 : Value) (w : World) (h0 : 0 ≤ t0) (h1 : 0 ≤ t1) (hv0 : ∃ a n k, v0 = .slice a n k) (hv1 : ∃ a n k, v1 = .slice a n k) : Calls Try.prog 46 #[.agg #[.int .i64 t0, v0, .int .i64 t1, v1]] w fun e w' => e = .returned (.agg #[.int .i64 (newV t0 v0 t1 v1).1, (newV t0 v0 t1 v1).2]) ∧ Below w.heap.size w w' := by
  obtain ⟨a0, n0, k0, rfl⟩ := hv0
  obtain ⟨a1, n1, k1, rfl⟩ := hv1
  go_enter Try.func46, Try.ntmps46
  have hs1 : (w.alloc (.cells #[.int .i64 t0, .slice a0 n0 k0, .int .i64 t1, .slice a1 n1 k1] 90)).heap.size = w.heap.size + 1 := by simp
  have hs2 : ((w.alloc (.cells #[.int .i64 t0, .slice a0 n0 k0, .int .i64 t1, .slice a1 n1 k1] 90)).alloc (.cells #[.int .i64 0, .slice none 0 0] 88)).heap.size = w.heap.size + 1 + 1 := by simp
  have HB1 := hide ((B2.new (w.alloc (.cells #[.int .i64 t0, .slice a0 n0 k0, .int .i64 t1, .slice a1 n1 k1] 90)) (.int .i64 0) (.slice none 0 0) 88).below ((Below.refl _ _).alloc (Nat.le_refl _) (.cells #[.int .i64 0, .slice none 0 0] 88)))
  have HB2 := hide (B2.new ((w.alloc (.cells #[.int .i64 t0, .slice a0 n0 k0, .int .i64 t1, .slice a1 n1 k1] 90)).alloc (.cells #[.int .i64 0, .slice none 0 0] 88)) (.int .i64 0) (.slice none 0 0) 88)
  have HBL : Hid (Below w.heap.size w (((w.alloc (.cells #[.int .i64 t0, .slice a0 n0 k0, .int .i64 t1, .slice a1 n1 k1] 90)).alloc (.cells #[.int .i64 0, .slice none 0 0] 88)).alloc (.cells #[.int .i64 0, .slice none 0 0] 88))) := hide ((((Below.refl _ _).alloc (Nat.le_refl _) _).alloc (by simp) _).alloc (by rw [hs2]; omega) _)
  rw [hs1] at HB1
  rw [hs2] at HB2
  clear hs1 hs2
  go_wp2
  generalize (((w.alloc (.cells #[.int .i64 t0, .slice a0 n0 k0, .int .i64 t1, .slice a1 n1 k1] 90)).alloc (.cells #[.int .i64 0, .slice none 0 0] 88)).alloc (.cells #[.int .i64 0, .slice none 0 0] 88)) = W1 at HB1 HB2 HBL ⊢
  go_loopw [7] (fun i W => ∃ k : Nat, k ≤ 2 ∧ i = .int .i64 k ∧ B2 W (w.heap.size + 1) (.int .i64 0) (.slice none 0 0) ∧ B2 W (w.heap.size + 1 + 1) (.int .i64 (nk t0 (.slice a0 n0 k0) t1 (.slice a1 n1 k1) k).1) (nk t0 (.slice a0 n0 k0) t1 (.slice a1 n1 k1) k).2 ∧ Below w.heap.size w W) (fun i _ => 2 - (iv i).toNat)
  case atStart => exact ⟨0, by omega, rfl, HB1.out, HB2.out, HBL.out⟩
  case round =>
    clear HB1 HB2 HBL
    obtain ⟨k, hk, rfl, hb1, hb2, hbl⟩ := hrel
    have HB1 := hide hb1
    have HB2 := hide hb2
    have HBL := hide hbl
    clear hb1 hb2 hbl
    rcases (show k = 0 ∨ k = 1 ∨ k = 2 by omega) with rfl | rfl | rfl
    · have hnx0 : nk t0 (.slice a0 n0 k0) t1 (.slice a1 n1 k1) 1 = newVE t0 (.slice a0 n0 k0) := rfl
      have HB2 : Hid (B2 wr (w.heap.size + 1 + 1) (.int .i64 0) (.slice none 0 0)) := HB2
      by_cases he : t0 % 2 = 0
      · have hnx : nk t0 (.slice a0 n0 k0) t1 (.slice a1 n1 k1) 1 = (t0, .slice a0 n0 k0) := by rw [hnx0]; unfold newVE; rw [if_pos ⟨he, h0⟩]
        clear hnx0
        have hb : (t0 % 2 == 0) = true := by simp [he]
        have hix := idxP0 (.int .i64 t0) (.slice a0 n0 k0) (.int .i64 t1) (.slice a1 n1 k1)
        have hiy : ∀ W, (Instr.index 90 (.agg #[.int .i64 t0, .slice a0 n0 k0, .int .i64 t1, .slice a1 n1 k1]) (.int .i64 ((0 : Nat) : Int))).run Try.prog W = .ok (.agg #[.int .i64 t0, .slice a0 n0 k0]) W := hix
        have hn1 : w.heap.size + 1 ≠ wr.heap.size := by have := HB1.out.lt; omega
        have hn2 : w.heap.size + 1 + 1 ≠ wr.heap.size := by have := HB2.out.lt; omega
        have HX := hide (B2.new wr (.int .i64 t0) (.slice a0 n0 k0) 88)
        have hal : Below wr.heap.size wr (wr.alloc (.cells #[.int .i64 t0, .slice a0 n0 k0] 88)) := (Below.refl _ _).alloc (Nat.le_refl _) _
        have HX1 := hide (HB1.out.below hal)
        have HX2 := hide (HB2.out.below hal)
        have HXB := hide (bt HBL.out hal)
        clear hal
        go_upto_region 5 with fail
        generalize hXW : (wr.alloc (.cells #[.int .i64 t0, .slice a0 n0 k0] 88)) = W2 at HX HX1 HX2 HXB ⊢
        clear hXW
        generalize wr.heap.size = g5 at HX hn1 hn2 ⊢
        have q0 := HX.out.c0
        have q1 := HX.out.c1
        go_upto_region 6 with (first | (go_at_call 50; refine (place_any t0 _ _ ⟨_, _, _, rfl⟩ (by omega)).mono ?_; rintro e W3 ⟨rfl, hb3⟩; have HY := hide (HX.out.below hb3); have HY1 := hide (HX1.out.below hb3); have HY2 := hide (HX2.out.below hb3); have HYB := hide (bt HXB.out hb3); have r0 := HY.out.c0; have r1 := HY.out.c1; have r2 := HY2.out.c0; clear hb3 q0 q1))
        have f0 := HY2.out.fz 0
        have f1 := HY2.out.fz 1
        have r3 := HY2.out.c1
        go_wp2_with fail
        exact ⟨⟨1, by omega, by go_num, (HY1.out.setO (by omega) _).setO (by omega) _, by rw [hnx]; exact HY2.out.set _ _, (HYB.out.setCell (by show w.heap.size ≤ w.heap.size + 1 + 1; omega) _).setCell (by show w.heap.size ≤ w.heap.size + 1 + 1; omega) _⟩, by simp [iv]⟩
      · have hnx : nk t0 (.slice a0 n0 k0) t1 (.slice a1 n1 k1) 1 = (0, .slice none 0 0) := by rw [hnx0]; unfold newVE; rw [if_neg (fun q => he q.1)]
        clear hnx0
        have hb : (t0 % 2 == 0) = false := by simp [he]
        have hix := idxP0 (.int .i64 t0) (.slice a0 n0 k0) (.int .i64 t1) (.slice a1 n1 k1)
        have hiy : ∀ W, (Instr.index 90 (.agg #[.int .i64 t0, .slice a0 n0 k0, .int .i64 t1, .slice a1 n1 k1]) (.int .i64 ((0 : Nat) : Int))).run Try.prog W = .ok (.agg #[.int .i64 t0, .slice a0 n0 k0]) W := hix
        have hn1 : w.heap.size + 1 ≠ wr.heap.size := by have := HB1.out.lt; omega
        have hn2 : w.heap.size + 1 + 1 ≠ wr.heap.size := by have := HB2.out.lt; omega
        have HX := hide (B2.new wr (.int .i64 t0) (.slice a0 n0 k0) 88)
        have hal : Below wr.heap.size wr (wr.alloc (.cells #[.int .i64 t0, .slice a0 n0 k0] 88)) := (Below.refl _ _).alloc (Nat.le_refl _) _
        have HX1 := hide (HB1.out.below hal)
        have HX2 := hide (HB2.out.below hal)
        have HXB := hide (bt HBL.out hal)
        clear hal
        go_upto_region 5 with fail
        generalize hXW : (wr.alloc (.cells #[.int .i64 t0, .slice a0 n0 k0] 88)) = W2 at HX HX1 HX2 HXB ⊢
        clear hXW
        generalize wr.heap.size = g5 at HX hn1 hn2 ⊢
        have q0 := HX.out.c0
        have q1 := HX.out.c1
        go_upto_region 6 with (first | (go_at_call 50; refine (place_any t0 _ _ ⟨_, _, _, rfl⟩ (by omega)).mono ?_; rintro e W3 ⟨rfl, hb3⟩; have HY := hide (HX.out.below hb3); have HY1 := hide (HX1.out.below hb3); have HY2 := hide (HX2.out.below hb3); have HYB := hide (bt HXB.out hb3); have r0 := HY.out.c0; have r1 := HY.out.c1; have r2 := HY2.out.c0; clear hb3 q0 q1))
        go_wp2_with fail
        exact ⟨⟨1, by omega, by go_num, HY1.out, by rw [hnx]; exact HY2.out, HYB.out⟩, by simp [iv]⟩
    · have hnx0 : nk t0 (.slice a0 n0 k0) t1 (.slice a1 n1 k1) (1 + 1) = newV t0 (.slice a0 n0 k0) t1 (.slice a1 n1 k1) := rfl
      have HB2 : Hid (B2 wr (w.heap.size + 1 + 1) (.int .i64 (newVE t0 (.slice a0 n0 k0)).1) (newVE t0 (.slice a0 n0 k0)).2) := HB2
      unfold newV at hnx0
      obtain ⟨ea, en, ek, hef⟩ := newVE_form (t0 := t0) ⟨a0, n0, k0, rfl⟩
      generalize hne : newVE t0 (.slice a0 n0 k0) = pv at HB2 hnx0 hef
      obtain ⟨pt, pw⟩ := pv
      simp only at hef hnx0 HB2
      subst hef
      clear hne
      by_cases he : t1 % 2 = 1
      · have hb : (t1 % 2 == 1) = true := by simp [he]
        by_cases hge : pt ≤ t1
        · have hnx : nk t0 (.slice a0 n0 k0) t1 (.slice a1 n1 k1) (1 + 1) = (t1, .slice a1 n1 k1) := by rw [hnx0, if_pos ⟨he, hge⟩]
          clear hnx0
          have hix := idxP1 (.int .i64 t0) (.slice a0 n0 k0) (.int .i64 t1) (.slice a1 n1 k1)
          have hiy : ∀ W, (Instr.index 90 (.agg #[.int .i64 t0, .slice a0 n0 k0, .int .i64 t1, .slice a1 n1 k1]) (.int .i64 ((1 : Nat) : Int))).run Try.prog W = .ok (.agg #[.int .i64 t1, .slice a1 n1 k1]) W := hix
          have hn1 : w.heap.size + 1 ≠ wr.heap.size := by have := HB1.out.lt; omega
          have hn2 : w.heap.size + 1 + 1 ≠ wr.heap.size := by have := HB2.out.lt; omega
          have HX := hide (B2.new wr (.int .i64 t1) (.slice a1 n1 k1) 88)
          have hal : Below wr.heap.size wr (wr.alloc (.cells #[.int .i64 t1, .slice a1 n1 k1] 88)) := (Below.refl _ _).alloc (Nat.le_refl _) _
          have HX1 := hide (HB1.out.below hal)
          have HX2 := hide (HB2.out.below hal)
          have HXB := hide (bt HBL.out hal)
          clear hal
          go_upto_region 5 with fail
          generalize hXW : (wr.alloc (.cells #[.int .i64 t1, .slice a1 n1 k1] 88)) = W2 at HX HX1 HX2 HXB ⊢
          clear hXW
          generalize wr.heap.size = g5 at HX hn1 hn2 ⊢
          have q0 := HX.out.c0
          have q1 := HX.out.c1
          go_upto_region 6 with (first | (go_at_call 50; refine (place_any t1 _ _ ⟨_, _, _, rfl⟩ (by omega)).mono ?_; rintro e W3 ⟨rfl, hb3⟩; have HY := hide (HX.out.below hb3); have HY1 := hide (HX1.out.below hb3); have HY2 := hide (HX2.out.below hb3); have HYB := hide (bt HXB.out hb3); have r0 := HY.out.c0; have r1 := HY.out.c1; have r2 := HY2.out.c0; clear hb3 q0 q1))
          have f0 := HY2.out.fz 0
          have f1 := HY2.out.fz 1
          have r3 := HY2.out.c1
          go_wp2_with fail
          exact ⟨⟨2, by omega, by go_num, (HY1.out.setO (by omega) _).setO (by omega) _, by rw [hnx]; exact HY2.out.set _ _, (HYB.out.setCell (by show w.heap.size ≤ w.heap.size + 1 + 1; omega) _).setCell (by show w.heap.size ≤ w.heap.size + 1 + 1; omega) _⟩, by simp [iv]⟩
        · have hnx : nk t0 (.slice a0 n0 k0) t1 (.slice a1 n1 k1) (1 + 1) = (pt, .slice ea en ek) := by rw [hnx0, if_neg (fun q => hge q.2)]
          clear hnx0
          have hix := idxP1 (.int .i64 t0) (.slice a0 n0 k0) (.int .i64 t1) (.slice a1 n1 k1)
          have hiy : ∀ W, (Instr.index 90 (.agg #[.int .i64 t0, .slice a0 n0 k0, .int .i64 t1, .slice a1 n1 k1]) (.int .i64 ((1 : Nat) : Int))).run Try.prog W = .ok (.agg #[.int .i64 t1, .slice a1 n1 k1]) W := hix
          have hn1 : w.heap.size + 1 ≠ wr.heap.size := by have := HB1.out.lt; omega
          have hn2 : w.heap.size + 1 + 1 ≠ wr.heap.size := by have := HB2.out.lt; omega
          have HX := hide (B2.new wr (.int .i64 t1) (.slice a1 n1 k1) 88)
          have hal : Below wr.heap.size wr (wr.alloc (.cells #[.int .i64 t1, .slice a1 n1 k1] 88)) := (Below.refl _ _).alloc (Nat.le_refl _) _
          have HX1 := hide (HB1.out.below hal)
          have HX2 := hide (HB2.out.below hal)
          have HXB := hide (bt HBL.out hal)
          clear hal
          go_upto_region 5 with fail
          generalize hXW : (wr.alloc (.cells #[.int .i64 t1, .slice a1 n1 k1] 88)) = W2 at HX HX1 HX2 HXB ⊢
          clear hXW
          generalize wr.heap.size = g5 at HX hn1 hn2 ⊢
          have q0 := HX.out.c0
          have q1 := HX.out.c1
          go_upto_region 6 with (first | (go_at_call 50; refine (place_any t1 _ _ ⟨_, _, _, rfl⟩ (by omega)).mono ?_; rintro e W3 ⟨rfl, hb3⟩; have HY := hide (HX.out.below hb3); have HY1 := hide (HX1.out.below hb3); have HY2 := hide (HX2.out.below hb3); have HYB := hide (bt HXB.out hb3); have r0 := HY.out.c0; have r1 := HY.out.c1; have r2 := HY2.out.c0; clear hb3 q0 q1))
          go_wp2_with fail
          exact ⟨⟨2, by omega, by go_num, HY1.out, by rw [hnx]; exact HY2.out, HYB.out⟩, by simp [iv]⟩
      · have hb : (t1 % 2 == 1) = false := by simp [he]
        have hnx : nk t0 (.slice a0 n0 k0) t1 (.slice a1 n1 k1) (1 + 1) = (pt, .slice ea en ek) := by rw [hnx0, if_neg (fun q => he q.1)]
        clear hnx0
        have hix := idxP1 (.int .i64 t0) (.slice a0 n0 k0) (.int .i64 t1) (.slice a1 n1 k1)
        have hiy : ∀ W, (Instr.index 90 (.agg #[.int .i64 t0, .slice a0 n0 k0, .int .i64 t1, .slice a1 n1 k1]) (.int .i64 ((1 : Nat) : Int))).run Try.prog W = .ok (.agg #[.int .i64 t1, .slice a1 n1 k1]) W := hix
        have hn1 : w.heap.size + 1 ≠ wr.heap.size := by have := HB1.out.lt; omega
        have hn2 : w.heap.size + 1 + 1 ≠ wr.heap.size := by have := HB2.out.lt; omega
        have HX := hide (B2.new wr (.int .i64 t1) (.slice a1 n1 k1) 88)
        have hal : Below wr.heap.size wr (wr.alloc (.cells #[.int .i64 t1, .slice a1 n1 k1] 88)) := (Below.refl _ _).alloc (Nat.le_refl _) _
        have HX1 := hide (HB1.out.below hal)
        have HX2 := hide (HB2.out.below hal)
        have HXB := hide (bt HBL.out hal)
        clear hal
        go_upto_region 5 with fail
        generalize hXW : (wr.alloc (.cells #[.int .i64 t1, .slice a1 n1 k1] 88)) = W2 at HX HX1 HX2 HXB ⊢
        clear hXW
        generalize wr.heap.size = g5 at HX hn1 hn2 ⊢
        have q0 := HX.out.c0
        have q1 := HX.out.c1
        go_upto_region 6 with (first | (go_at_call 50; refine (place_any t1 _ _ ⟨_, _, _, rfl⟩ (by omega)).mono ?_; rintro e W3 ⟨rfl, hb3⟩; have HY := hide (HX.out.below hb3); have HY1 := hide (HX1.out.below hb3); have HY2 := hide (HX2.out.below hb3); have HYB := hide (bt HXB.out hb3); have r0 := HY.out.c0; have r1 := HY.out.c1; have r2 := HY2.out.c0; clear hb3 q0 q1))
        go_wp2_with fail
        exact ⟨⟨2, by omega, by go_num, HY1.out, by rw [hnx]; exact HY2.out, HYB.out⟩, by simp [iv]⟩
    · have HB2 : Hid (B2 wr (w.heap.size + 1 + 1) (.int .i64 (newV t0 (.slice a0 n0 k0) t1 (.slice a1 n1 k1)).1) (newV t0 (.slice a0 n0 k0) t1 (.slice a1 n1 k1)).2) := HB2
      have hvf : ∃ a n k, (newV t0 (.slice a0 n0 k0) t1 (.slice a1 n1 k1)).2 = .slice a n k := by
        unfold newV
        split
        · exact ⟨_, _, _, rfl⟩
        · exact newVE_form ⟨_, _, _, rfl⟩
      obtain ⟨ea, en, ek, hef⟩ := hvf
      generalize hpv : newV t0 (.slice a0 n0 k0) t1 (.slice a1 n1 k1) = pv at HB2 hef
      obtain ⟨pt, pw⟩ := pv
      simp only at hef HB2
      subst hef
      have r0 := HB2.out.c0
      have r1 := HB2.out.c1
      have f0 := HB1.out.fz 0
      have f1 := HB1.out.fz 1
      have s0 := HB1.out.c0
      have s1 := HB1.out.c1
      have HS := hide (HB1.out.set (.int .i64 pt) (.slice ea en ek))
      skip
      go_wp2_with fail
      refine bodyPost_ret (v := .agg #[.int .i64 pt, .slice ea en ek]) (results_b2 Try.results46 _ _ (w.heap.size + 1) _ _ _ rfl HS.out Try.underlying88 rfl (by kernel_rfl)) rfl ⟨by rw [hpv], ?_⟩
      exact (HBL.out.setCell (by show w.heap.size ≤ w.heap.size + 1; omega) _).setCell (by show w.heap.size ≤ w.heap.size + 1; omega) _
end Go.Proofs.Ytmgfcgknajehaaa
