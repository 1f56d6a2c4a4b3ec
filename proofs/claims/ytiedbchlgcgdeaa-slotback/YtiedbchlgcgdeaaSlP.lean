/-
  A SLOT'S BLOCKS READ AND WRITTEN (slot.turnOf, saidOf, place, newest, putTurn, block): what the document says of them. Conditions: the cells hold bytes; turns from 0 to 255 where a block is written.
  WHAT A SLOT'S BLOCK SAYS, AND THE BLOCK THAT SAYS IT (slot.saidOf, putTurn, block). Conditions: the cells hold bytes; a value of at most 47 bytes.
  A VALUE AND THE BLOCK THAT SAYS IT (slot.say), THE VALUE THAT IS SAID (said.value), TWO TEXTS HELD AGAINST EACH OTHER (bytes.Equal). Condition: a value of at most 47 bytes.
  WHAT BOTH BLOCKS SAY (slot.read). No condition of its own.
  IS A VALUE SYNCED, OR ONE BEHIND IT (Slot.firm): of the two blocks as they are firm. Condition: fewer than thirty thousand blocks and writes.
  A SLOT IS OPENED (slot.Open), on a store where all is synced: the value that counts, firm; what is wrong at a block that is none. Condition: fewer than thirty thousand blocks.
-/
import Derived.Test.YtiedbchlgcgdeaaSlM
import Derived.Test.YtiedbchlgcgdeaaChB
import Derived.Deep.MidRow
import Derived.Test.YtiedbchlgcgdeaaChO
import Derived.Test.YtiedbchlgcgdeaaBcl
import Derived.Test.YtiedbchlgcgdeaaChSm
import Derived.Test.YtiedbchlgcgdeaaChH
namespace Go.Proofs.Ytiedbchlgcgdeaa
open Go.RowKit

set_option maxRecDepth 100000 in
set_option maxHeartbeats 4000000 in
theorem turnOf_any (b o n cap : Nat) (l : List Int) (w : World) (hn : 8 ≤ n) (hc : n ≤ cap) (hl : l.length = 8) (hb : Byt l) (hce : ∀ i (h : i < l.length), w.cell? ⟨b, o + i, none⟩ = some (.int .u8 l[i])) : Calls Try.prog 42 #[.slice (some ⟨b, o, none⟩) n cap] w fun e w' => e = .returned (.int .i64 (stp l)) ∧ w' = w := by
  have HL := hide hl
  have HBY := hide hb
  have HC := hide hce
  have hnI : (8 : Int) ≤ (n : Int) := by omega
  have hcI : (8 : Int) ≤ (cap : Int) := by omega
  have hc0 : ¬ cap = 0 := by omega
  clear hb hce
  go_enter Try.func42, Try.ntmps42
  go_wp2
  go_loopw [3, 9] (fun n i W => ∃ k : Nat, k ≤ 8 ∧ i = .int .i64 k ∧ n = .int .u64 (num8 (l.take k)) ∧ W = w) (fun _ i _ => 8 - (iv i).toNat)
  case atStart => exact ⟨0, by omega, rfl, by simp [num8], rfl⟩
  case round =>
    obtain ⟨k, hk, rfl, rfl, rfl⟩ := hrel
    have hbd := num8_bd k (l.take k) (by rw [List.length_take, HL.out]; omega) (fun x hx => HBY.out x (List.mem_of_mem_take hx))
    by_cases hlt : k < 8
    · have hkl : k < l.length := by omega
      have hx := HBY.out _ (List.getElem_mem hkl)
      have HN : Hid (num8 (l.take (k + 1)) = num8 (l.take k) * 256 + l[k]) := hide (by rw [take_step hkl, num8_snoc])
      have hce := HC.out k hkl
      have hn7 : num8 (l.take k) < 72057594037927936 := by
        have h1 : (256 : Int) ^ k ≤ 256 ^ 7 := by
          have := Nat.pow_le_pow_right (n := 256) (by decide) (show k ≤ 7 by omega)
          exact_mod_cast this
        have := hbd.2
        omega
      have hn0 := hbd.1
      generalize l[k] = x at hx HN hce
      generalize num8 (l.take k) = n at hn7 hn0 HN hbd
      obtain ⟨hx0, hx1⟩ := hx
      have hor : bits .or .u64 (n * 256) x = n * 256 + x := or_add64 hn0 hn7 hx0 hx1
      clear hbd
      go_wp2_with fail
      exact ⟨⟨k + 1, by omega, by go_num, by rw [HN.out], by trivial⟩, by simp [iv]; omega⟩
    · obtain rfl : k = 8 := by omega
      have e : l.take 8 = l := List.take_of_length_le (by omega)
      rw [e] at hbd ⊢
      by_cases ht : num8 l ≤ 1152921504606846976
      · have HS : Hid (stp l = num8 l) := hide (by unfold stp; rw [if_pos ht])
        generalize num8 l = n at ht hbd HS ⊢
        go_wp2
        go_ret
        exact ⟨by rw [HS.out]; rfl, rfl⟩
      · have HS : Hid (stp l = 0) := hide (by unfold stp; rw [if_neg ht])
        generalize num8 l = n at ht hbd ⊢
        go_wp2
        go_ret
        exact ⟨by rw [HS.out]; rfl, rfl⟩
set_option maxRecDepth 100000 in
set_option maxHeartbeats 4000000 in
theorem place_any (t : Int) (v : Value) (w : World) (hv : ∃ a n k, v = .slice a n k) (h0 : 0 ≤ t) : Calls Try.prog 23 #[.agg #[.int .i64 t, v]] w fun e w' => e = .returned (.int .i64 (t % 2)) ∧ Below w.heap.size w w' := by
  obtain ⟨a, n, k, rfl⟩ := hv
  have HB := hide ((Below.refl w.heap.size w).alloc (Nat.le_refl _) (.cells #[.int .i64 t, .slice a n k] 53))
  go_enter Try.func23, Try.ntmps23
  go_wp2
  go_ret
  exact ⟨rfl, HB.out⟩
/-- The newest one, with its slice. -/
def newVE (t0 : Int) (v0 : Value) : Int × Value := if t0 % 2 = 0 ∧ 0 ≤ t0 then (t0, v0) else (0, .slice none 0 0)
def newV (t0 : Int) (v0 : Value) (t1 : Int) (v1 : Value) : Int × Value := if t1 % 2 = 1 ∧ (newVE t0 v0).1 ≤ t1 then (t1, v1) else newVE t0 v0
def nk (t0 : Int) (v0 : Value) (t1 : Int) (v1 : Value) : Nat → Int × Value
  | 0 => (0, .slice none 0 0)
  | 1 => newVE t0 v0
  | _ => newV t0 v0 t1 v1
theorem newVE_form {t0 : Int} {v0 : Value} (h : ∃ a n k, v0 = .slice a n k) : ∃ a n k, (newVE t0 v0).2 = .slice a n k := by
  unfold newVE
  split
  · exact h
  · exact ⟨_, _, _, rfl⟩
/-- A box of two cells. -/
structure B2 (W : World) (g : Nat) (x y : Value) : Prop where
  c0 : W.cell? ⟨g, 0, none⟩ = some x
  c1 : W.cell? ⟨g, 1, none⟩ = some y
  fz : ∀ i, W.frozen? ⟨g, i, none⟩ = false
section
variable {W W' : World} {g : Nat} {x y : Value}
theorem B2.lt (h : B2 W g x y) : g < W.heap.size := cell_block h.c0
theorem B2.keepB (h : B2 W g x y) (hk : W'.heap[g]? = W.heap[g]?) : B2 W' g x y :=
  ⟨(World.cell?_of_block hk).trans h.c0, (World.cell?_of_block hk).trans h.c1, fun i => (World.frozen?_of_block (a := ⟨g, i, none⟩) hk).trans (h.fz i)⟩
theorem B2.below (h : B2 W g x y) (hb : Below W.heap.size W W') : B2 W' g x y := h.keepB (hb.block g h.lt)
theorem B2.new (W : World) (x y : Value) (T : TypeId) : B2 (W.alloc (.cells #[x, y] T)) W.heap.size x y :=
  ⟨World.cell?_alloc_at _ _ _ _ rfl, World.cell?_alloc_at _ _ _ _ rfl, fun i => by simp⟩
theorem B2.setO (h : B2 W g x y) {k i : Nat} (hk : g ≠ k) (v : Value) : B2 (W.setCell ⟨k, i, none⟩ v) g x y := h.keepB (Below.heap_setCell _ _ _ _ hk)
theorem B2.set (h : B2 W g x y) (x' y' : Value) : B2 ((W.setCell ⟨g, 0, none⟩ x').setCell ⟨g, 1, none⟩ y') g x' y' :=
  ⟨by rw [World.cell?_setCell_other _ _ _ _ (by simp)]; exact World.cell?_setCell_same _ _ _ h.c0, World.cell?_setCell_same _ _ _ (by rw [World.cell?_setCell_other _ _ _ _ (by simp)]; exact h.c1), fun i => by simp [h.fz i]⟩
theorem B2.rg (h : B2 W g x y) : W.rangeAt g 0 [x, y] := fun j v hv => by
  rw [Nat.zero_add]
  match j, hv with
  | 0, hv => cases hv; exact h.c0
  | 1, hv => cases hv; exact h.c1
end
theorem idxP0 (x0 y0 x1 y1 : Value) (W : World) : (Instr.index 55 (.agg #[x0, y0, x1, y1]) (.int .i64 0)).run Try.prog W = .ok (.agg #[x0, y0]) W := by kernel_rfl
theorem idxP1 (x0 y0 x1 y1 : Value) (W : World) : (Instr.index 55 (.agg #[x0, y0, x1, y1]) (.int .i64 1)).run Try.prog W = .ok (.agg #[x1, y1]) W := by kernel_rfl
theorem results_b2 {P : Program} {fn : Func} {q : Tmp} {ty : TypeId} (h : fn.results = #[.cell q ty]) (tmps : Array Value) (w : World) (b : Nat) (x y : Value) (d : TypeDesc) (hp : tmps.getD q undef = .pointer (some ⟨b, 0, none⟩)) (hc : B2 w b x y) (hu : P.underlying ty = some d) (hd : d.isRow = true) (hi : (P.info? ty).map (·.size) = some 2) : (results fn tmps).run P w = .ok (.agg #[x, y]) w := by
  have hp' : tmps[q]?.getD undef = .pointer (some ⟨b, 0, none⟩) := by simpa using hp
  simp [results, h, hp', asAddr, run_loadVar_mid w b 0 ty [x, y] d hc.rg hu hd hi]
set_option maxRecDepth 100000 in
set_option maxHeartbeats 8000000 in
theorem newest_any (t0 t1 : Int) (v0 v1 : Value) (w : World) (h0 : 0 ≤ t0) (h1 : 0 ≤ t1) (hv0 : ∃ a n k, v0 = .slice a n k) (hv1 : ∃ a n k, v1 = .slice a n k) : Calls Try.prog 18 #[.agg #[.int .i64 t0, v0, .int .i64 t1, v1]] w fun e w' => e = .returned (.agg #[.int .i64 (newV t0 v0 t1 v1).1, (newV t0 v0 t1 v1).2]) ∧ Below w.heap.size w w' := by
  obtain ⟨a0, n0, k0, rfl⟩ := hv0
  obtain ⟨a1, n1, k1, rfl⟩ := hv1
  go_enter Try.func18, Try.ntmps18
  have hs1 : (w.alloc (.cells #[.int .i64 t0, .slice a0 n0 k0, .int .i64 t1, .slice a1 n1 k1] 55)).heap.size = w.heap.size + 1 := by simp
  have hs2 : ((w.alloc (.cells #[.int .i64 t0, .slice a0 n0 k0, .int .i64 t1, .slice a1 n1 k1] 55)).alloc (.cells #[.int .i64 0, .slice none 0 0] 53)).heap.size = w.heap.size + 1 + 1 := by simp
  have HB1 := hide ((B2.new (w.alloc (.cells #[.int .i64 t0, .slice a0 n0 k0, .int .i64 t1, .slice a1 n1 k1] 55)) (.int .i64 0) (.slice none 0 0) 53).below ((Below.refl _ _).alloc (Nat.le_refl _) (.cells #[.int .i64 0, .slice none 0 0] 53)))
  have HB2 := hide (B2.new ((w.alloc (.cells #[.int .i64 t0, .slice a0 n0 k0, .int .i64 t1, .slice a1 n1 k1] 55)).alloc (.cells #[.int .i64 0, .slice none 0 0] 53)) (.int .i64 0) (.slice none 0 0) 53)
  have HBL : Hid (Below w.heap.size w (((w.alloc (.cells #[.int .i64 t0, .slice a0 n0 k0, .int .i64 t1, .slice a1 n1 k1] 55)).alloc (.cells #[.int .i64 0, .slice none 0 0] 53)).alloc (.cells #[.int .i64 0, .slice none 0 0] 53))) := hide ((((Below.refl _ _).alloc (Nat.le_refl _) _).alloc (by simp) _).alloc (by rw [hs2]; omega) _)
  rw [hs1] at HB1
  rw [hs2] at HB2
  clear hs1 hs2
  go_wp2
  generalize (((w.alloc (.cells #[.int .i64 t0, .slice a0 n0 k0, .int .i64 t1, .slice a1 n1 k1] 55)).alloc (.cells #[.int .i64 0, .slice none 0 0] 53)).alloc (.cells #[.int .i64 0, .slice none 0 0] 53)) = W1 at HB1 HB2 HBL ⊢
  go_loopw [7] (fun i W => ∃ k : Nat, k ≤ 2 ∧ i = .int .i64 k ∧ B2 W (w.heap.size + 1) (.int .i64 0) (.slice none 0 0) ∧ B2 W (w.heap.size + 1 + 1) (.int .i64 (nk t0 (.slice a0 n0 k0) t1 (.slice a1 n1 k1) k).1) (nk t0 (.slice a0 n0 k0) t1 (.slice a1 n1 k1) k).2 ∧ Below w.heap.size w W) (fun i _ => 2 - (iv i).toNat)
  case atStart => exact ⟨0, by omega, rfl, HB1.out, HB2.out, HBL.out⟩
  case round =>
    clear HB1 HB2 HBL
    obtain ⟨k, hk, rfl, hb1, hb2, hbl⟩ := hrel
    have HB1 := hide hb1
    have HB2 := hide hb2
    have HBL := hide hbl
    clear hb1 hb2 hbl
    rcases (show k = 0 ∨ k = 1 ∨ k = 2 by omega) with rfl | rfl | rfl
    · have hnx0 : nk t0 (.slice a0 n0 k0) t1 (.slice a1 n1 k1) 1 = newVE t0 (.slice a0 n0 k0) := rfl
      have HB2 : Hid (B2 wr (w.heap.size + 1 + 1) (.int .i64 0) (.slice none 0 0)) := HB2
      by_cases he : t0 % 2 = 0
      · have hnx : nk t0 (.slice a0 n0 k0) t1 (.slice a1 n1 k1) 1 = (t0, .slice a0 n0 k0) := by rw [hnx0]; unfold newVE; rw [if_pos ⟨he, h0⟩]
        clear hnx0
        have hb : (t0 % 2 == 0) = true := by simp [he]
        have hix := idxP0 (.int .i64 t0) (.slice a0 n0 k0) (.int .i64 t1) (.slice a1 n1 k1)
        have hiy : ∀ W, (Instr.index 55 (.agg #[.int .i64 t0, .slice a0 n0 k0, .int .i64 t1, .slice a1 n1 k1]) (.int .i64 ((0 : Nat) : Int))).run Try.prog W = .ok (.agg #[.int .i64 t0, .slice a0 n0 k0]) W := hix
        have hn1 : w.heap.size + 1 ≠ wr.heap.size := by have := HB1.out.lt; omega
        have hn2 : w.heap.size + 1 + 1 ≠ wr.heap.size := by have := HB2.out.lt; omega
        have HX := hide (B2.new wr (.int .i64 t0) (.slice a0 n0 k0) 53)
        have hal : Below wr.heap.size wr (wr.alloc (.cells #[.int .i64 t0, .slice a0 n0 k0] 53)) := (Below.refl _ _).alloc (Nat.le_refl _) _
        have HX1 := hide (HB1.out.below hal)
        have HX2 := hide (HB2.out.below hal)
        have HXB := hide (bt HBL.out hal)
        clear hal
        go_upto_region 5 with fail
        generalize hXW : (wr.alloc (.cells #[.int .i64 t0, .slice a0 n0 k0] 53)) = W2 at HX HX1 HX2 HXB ⊢
        clear hXW
        generalize wr.heap.size = g5 at HX hn1 hn2 ⊢
        have q0 := HX.out.c0
        have q1 := HX.out.c1
        go_upto_region 6 with (first | (go_at_call 23; refine (place_any t0 _ _ ⟨_, _, _, rfl⟩ (by omega)).mono ?_; rintro e W3 ⟨rfl, hb3⟩; have HY := hide (HX.out.below hb3); have HY1 := hide (HX1.out.below hb3); have HY2 := hide (HX2.out.below hb3); have HYB := hide (bt HXB.out hb3); have r0 := HY.out.c0; have r1 := HY.out.c1; have r2 := HY2.out.c0; clear hb3 q0 q1))
        have f0 := HY2.out.fz 0
        have f1 := HY2.out.fz 1
        have r3 := HY2.out.c1
        go_wp2_with fail
        exact ⟨⟨1, by omega, by go_num, (HY1.out.setO (by omega) _).setO (by omega) _, by rw [hnx]; exact HY2.out.set _ _, (HYB.out.setCell (by show w.heap.size ≤ w.heap.size + 1 + 1; omega) _).setCell (by show w.heap.size ≤ w.heap.size + 1 + 1; omega) _⟩, by simp [iv]⟩
      · have hnx : nk t0 (.slice a0 n0 k0) t1 (.slice a1 n1 k1) 1 = (0, .slice none 0 0) := by rw [hnx0]; unfold newVE; rw [if_neg (fun q => he q.1)]
        clear hnx0
        have hb : (t0 % 2 == 0) = false := by simp [he]
        have hix := idxP0 (.int .i64 t0) (.slice a0 n0 k0) (.int .i64 t1) (.slice a1 n1 k1)
        have hiy : ∀ W, (Instr.index 55 (.agg #[.int .i64 t0, .slice a0 n0 k0, .int .i64 t1, .slice a1 n1 k1]) (.int .i64 ((0 : Nat) : Int))).run Try.prog W = .ok (.agg #[.int .i64 t0, .slice a0 n0 k0]) W := hix
        have hn1 : w.heap.size + 1 ≠ wr.heap.size := by have := HB1.out.lt; omega
        have hn2 : w.heap.size + 1 + 1 ≠ wr.heap.size := by have := HB2.out.lt; omega
        have HX := hide (B2.new wr (.int .i64 t0) (.slice a0 n0 k0) 53)
        have hal : Below wr.heap.size wr (wr.alloc (.cells #[.int .i64 t0, .slice a0 n0 k0] 53)) := (Below.refl _ _).alloc (Nat.le_refl _) _
        have HX1 := hide (HB1.out.below hal)
        have HX2 := hide (HB2.out.below hal)
        have HXB := hide (bt HBL.out hal)
        clear hal
        go_upto_region 5 with fail
        generalize hXW : (wr.alloc (.cells #[.int .i64 t0, .slice a0 n0 k0] 53)) = W2 at HX HX1 HX2 HXB ⊢
        clear hXW
        generalize wr.heap.size = g5 at HX hn1 hn2 ⊢
        have q0 := HX.out.c0
        have q1 := HX.out.c1
        go_upto_region 6 with (first | (go_at_call 23; refine (place_any t0 _ _ ⟨_, _, _, rfl⟩ (by omega)).mono ?_; rintro e W3 ⟨rfl, hb3⟩; have HY := hide (HX.out.below hb3); have HY1 := hide (HX1.out.below hb3); have HY2 := hide (HX2.out.below hb3); have HYB := hide (bt HXB.out hb3); have r0 := HY.out.c0; have r1 := HY.out.c1; have r2 := HY2.out.c0; clear hb3 q0 q1))
        go_wp2_with fail
        exact ⟨⟨1, by omega, by go_num, HY1.out, by rw [hnx]; exact HY2.out, HYB.out⟩, by simp [iv]⟩
    · have hnx0 : nk t0 (.slice a0 n0 k0) t1 (.slice a1 n1 k1) (1 + 1) = newV t0 (.slice a0 n0 k0) t1 (.slice a1 n1 k1) := rfl
      have HB2 : Hid (B2 wr (w.heap.size + 1 + 1) (.int .i64 (newVE t0 (.slice a0 n0 k0)).1) (newVE t0 (.slice a0 n0 k0)).2) := HB2
      unfold newV at hnx0
      obtain ⟨ea, en, ek, hef⟩ := newVE_form (t0 := t0) ⟨a0, n0, k0, rfl⟩
      generalize hne : newVE t0 (.slice a0 n0 k0) = pv at HB2 hnx0 hef
      obtain ⟨pt, pw⟩ := pv
      simp only at hef hnx0 HB2
      subst hef
      clear hne
      by_cases he : t1 % 2 = 1
      · have hb : (t1 % 2 == 1) = true := by simp [he]
        by_cases hge : pt ≤ t1
        · have hnx : nk t0 (.slice a0 n0 k0) t1 (.slice a1 n1 k1) (1 + 1) = (t1, .slice a1 n1 k1) := by rw [hnx0, if_pos ⟨he, hge⟩]
          clear hnx0
          have hix := idxP1 (.int .i64 t0) (.slice a0 n0 k0) (.int .i64 t1) (.slice a1 n1 k1)
          have hiy : ∀ W, (Instr.index 55 (.agg #[.int .i64 t0, .slice a0 n0 k0, .int .i64 t1, .slice a1 n1 k1]) (.int .i64 ((1 : Nat) : Int))).run Try.prog W = .ok (.agg #[.int .i64 t1, .slice a1 n1 k1]) W := hix
          have hn1 : w.heap.size + 1 ≠ wr.heap.size := by have := HB1.out.lt; omega
          have hn2 : w.heap.size + 1 + 1 ≠ wr.heap.size := by have := HB2.out.lt; omega
          have HX := hide (B2.new wr (.int .i64 t1) (.slice a1 n1 k1) 53)
          have hal : Below wr.heap.size wr (wr.alloc (.cells #[.int .i64 t1, .slice a1 n1 k1] 53)) := (Below.refl _ _).alloc (Nat.le_refl _) _
          have HX1 := hide (HB1.out.below hal)
          have HX2 := hide (HB2.out.below hal)
          have HXB := hide (bt HBL.out hal)
          clear hal
          go_upto_region 5 with fail
          generalize hXW : (wr.alloc (.cells #[.int .i64 t1, .slice a1 n1 k1] 53)) = W2 at HX HX1 HX2 HXB ⊢
          clear hXW
          generalize wr.heap.size = g5 at HX hn1 hn2 ⊢
          have q0 := HX.out.c0
          have q1 := HX.out.c1
          go_upto_region 6 with (first | (go_at_call 23; refine (place_any t1 _ _ ⟨_, _, _, rfl⟩ (by omega)).mono ?_; rintro e W3 ⟨rfl, hb3⟩; have HY := hide (HX.out.below hb3); have HY1 := hide (HX1.out.below hb3); have HY2 := hide (HX2.out.below hb3); have HYB := hide (bt HXB.out hb3); have r0 := HY.out.c0; have r1 := HY.out.c1; have r2 := HY2.out.c0; clear hb3 q0 q1))
          have f0 := HY2.out.fz 0
          have f1 := HY2.out.fz 1
          have r3 := HY2.out.c1
          go_wp2_with fail
          exact ⟨⟨2, by omega, by go_num, (HY1.out.setO (by omega) _).setO (by omega) _, by rw [hnx]; exact HY2.out.set _ _, (HYB.out.setCell (by show w.heap.size ≤ w.heap.size + 1 + 1; omega) _).setCell (by show w.heap.size ≤ w.heap.size + 1 + 1; omega) _⟩, by simp [iv]⟩
        · have hnx : nk t0 (.slice a0 n0 k0) t1 (.slice a1 n1 k1) (1 + 1) = (pt, .slice ea en ek) := by rw [hnx0, if_neg (fun q => hge q.2)]
          clear hnx0
          have hix := idxP1 (.int .i64 t0) (.slice a0 n0 k0) (.int .i64 t1) (.slice a1 n1 k1)
          have hiy : ∀ W, (Instr.index 55 (.agg #[.int .i64 t0, .slice a0 n0 k0, .int .i64 t1, .slice a1 n1 k1]) (.int .i64 ((1 : Nat) : Int))).run Try.prog W = .ok (.agg #[.int .i64 t1, .slice a1 n1 k1]) W := hix
          have hn1 : w.heap.size + 1 ≠ wr.heap.size := by have := HB1.out.lt; omega
          have hn2 : w.heap.size + 1 + 1 ≠ wr.heap.size := by have := HB2.out.lt; omega
          have HX := hide (B2.new wr (.int .i64 t1) (.slice a1 n1 k1) 53)
          have hal : Below wr.heap.size wr (wr.alloc (.cells #[.int .i64 t1, .slice a1 n1 k1] 53)) := (Below.refl _ _).alloc (Nat.le_refl _) _
          have HX1 := hide (HB1.out.below hal)
          have HX2 := hide (HB2.out.below hal)
          have HXB := hide (bt HBL.out hal)
          clear hal
          go_upto_region 5 with fail
          generalize hXW : (wr.alloc (.cells #[.int .i64 t1, .slice a1 n1 k1] 53)) = W2 at HX HX1 HX2 HXB ⊢
          clear hXW
          generalize wr.heap.size = g5 at HX hn1 hn2 ⊢
          have q0 := HX.out.c0
          have q1 := HX.out.c1
          go_upto_region 6 with (first | (go_at_call 23; refine (place_any t1 _ _ ⟨_, _, _, rfl⟩ (by omega)).mono ?_; rintro e W3 ⟨rfl, hb3⟩; have HY := hide (HX.out.below hb3); have HY1 := hide (HX1.out.below hb3); have HY2 := hide (HX2.out.below hb3); have HYB := hide (bt HXB.out hb3); have r0 := HY.out.c0; have r1 := HY.out.c1; have r2 := HY2.out.c0; clear hb3 q0 q1))
          go_wp2_with fail
          exact ⟨⟨2, by omega, by go_num, HY1.out, by rw [hnx]; exact HY2.out, HYB.out⟩, by simp [iv]⟩
      · have hb : (t1 % 2 == 1) = false := by simp [he]
        have hnx : nk t0 (.slice a0 n0 k0) t1 (.slice a1 n1 k1) (1 + 1) = (pt, .slice ea en ek) := by rw [hnx0, if_neg (fun q => he q.1)]
        clear hnx0
        have hix := idxP1 (.int .i64 t0) (.slice a0 n0 k0) (.int .i64 t1) (.slice a1 n1 k1)
        have hiy : ∀ W, (Instr.index 55 (.agg #[.int .i64 t0, .slice a0 n0 k0, .int .i64 t1, .slice a1 n1 k1]) (.int .i64 ((1 : Nat) : Int))).run Try.prog W = .ok (.agg #[.int .i64 t1, .slice a1 n1 k1]) W := hix
        have hn1 : w.heap.size + 1 ≠ wr.heap.size := by have := HB1.out.lt; omega
        have hn2 : w.heap.size + 1 + 1 ≠ wr.heap.size := by have := HB2.out.lt; omega
        have HX := hide (B2.new wr (.int .i64 t1) (.slice a1 n1 k1) 53)
        have hal : Below wr.heap.size wr (wr.alloc (.cells #[.int .i64 t1, .slice a1 n1 k1] 53)) := (Below.refl _ _).alloc (Nat.le_refl _) _
        have HX1 := hide (HB1.out.below hal)
        have HX2 := hide (HB2.out.below hal)
        have HXB := hide (bt HBL.out hal)
        clear hal
        go_upto_region 5 with fail
        generalize hXW : (wr.alloc (.cells #[.int .i64 t1, .slice a1 n1 k1] 53)) = W2 at HX HX1 HX2 HXB ⊢
        clear hXW
        generalize wr.heap.size = g5 at HX hn1 hn2 ⊢
        have q0 := HX.out.c0
        have q1 := HX.out.c1
        go_upto_region 6 with (first | (go_at_call 23; refine (place_any t1 _ _ ⟨_, _, _, rfl⟩ (by omega)).mono ?_; rintro e W3 ⟨rfl, hb3⟩; have HY := hide (HX.out.below hb3); have HY1 := hide (HX1.out.below hb3); have HY2 := hide (HX2.out.below hb3); have HYB := hide (bt HXB.out hb3); have r0 := HY.out.c0; have r1 := HY.out.c1; have r2 := HY2.out.c0; clear hb3 q0 q1))
        go_wp2_with fail
        exact ⟨⟨2, by omega, by go_num, HY1.out, by rw [hnx]; exact HY2.out, HYB.out⟩, by simp [iv]⟩
    · have HB2 : Hid (B2 wr (w.heap.size + 1 + 1) (.int .i64 (newV t0 (.slice a0 n0 k0) t1 (.slice a1 n1 k1)).1) (newV t0 (.slice a0 n0 k0) t1 (.slice a1 n1 k1)).2) := HB2
      have hvf : ∃ a n k, (newV t0 (.slice a0 n0 k0) t1 (.slice a1 n1 k1)).2 = .slice a n k := by
        unfold newV
        split
        · exact ⟨_, _, _, rfl⟩
        · exact newVE_form ⟨_, _, _, rfl⟩
      obtain ⟨ea, en, ek, hef⟩ := hvf
      generalize hpv : newV t0 (.slice a0 n0 k0) t1 (.slice a1 n1 k1) = pv at HB2 hef
      obtain ⟨pt, pw⟩ := pv
      simp only at hef HB2
      subst hef
      have r0 := HB2.out.c0
      have r1 := HB2.out.c1
      have f0 := HB1.out.fz 0
      have f1 := HB1.out.fz 1
      have s0 := HB1.out.c0
      have s1 := HB1.out.c1
      have HS := hide (HB1.out.set (.int .i64 pt) (.slice ea en ek))
      skip
      go_wp2_with fail
      refine bodyPost_ret (v := .agg #[.int .i64 pt, .slice ea en ek]) (results_b2 Try.results18 _ _ (w.heap.size + 1) _ _ _ rfl HS.out Try.underlying53 rfl (by kernel_rfl)) rfl ⟨by rw [hpv], ?_⟩
      exact (HBL.out.setCell (by show w.heap.size ≤ w.heap.size + 1; omega) _).setCell (by show w.heap.size ≤ w.heap.size + 1; omega) _
end Go.Proofs.Ytiedbchlgcgdeaa
namespace Go.Proofs.Ytiedbchlgcgdeaa
open Go.RowKit

/-- The slice of what is said, in the block g. -/
def SaidV (g : Nat) (v : Value) (b : List Int) : Prop := (v = .slice none 0 0 ∧ (saidB b).2 = []) ∨ (v = .slice (some ⟨g, 0, none⟩) 64 64 ∧ (saidB b).2 = b)
/-- Nothing, or a block of sixty-four bytes, in a block of memory that may be. -/
def Sb (P : Nat → Prop) (W : World) (v : Value) (l : List Int) : Prop := (v = .slice none 0 0 ∧ l = []) ∨ ∃ g t, v = .slice (some ⟨g, 0, none⟩) 64 64 ∧ Rq W g t l ∧ l.length = 64 ∧ P g
theorem Sb.keep {P Q : Nat → Prop} {W W' : World} {v : Value} {l : List Int} (h : Sb P W v l) (hP : ∀ b, P b → b < W.heap.size → Q b) (hk : ∀ b, P b → b < W.heap.size → W'.heap[b]? = W.heap[b]?) : Sb Q W' v l :=
  h.imp id (fun ⟨g, t, e, hr, hl, hp⟩ => ⟨g, t, e, hr.keep (hk g hp hr.lt), hl, hP g hp hr.lt⟩)
theorem Sb.below {P : Nat → Prop} {W W' : World} {v : Value} {l : List Int} (h : Sb P W v l) (hb : Below W.heap.size W W') : Sb P W' v l := h.keep (fun _ p _ => p) (fun b _ hk => hb.block b hk)
theorem Sb.form {P : Nat → Prop} {W : World} {v : Value} {l : List Int} (h : Sb P W v l) : ∃ a n k, v = .slice a n k := by
  rcases h with ⟨e, _⟩ | ⟨g, t, e, _⟩ <;> exact ⟨_, _, _, e⟩
theorem Sb.sl {P : Nat → Prop} {W : World} {v : Value} {l : List Int} (h : Sb P W v l) : Sl bc W v l := by
  rcases h with ⟨rfl, rfl⟩ | ⟨g, t, rfl, hr, hl, _⟩
  · exact .inl ⟨_, _, rfl, rfl⟩
  · exact hr.all hl.symm
theorem SaidV.form {g : Nat} {v : Value} {b : List Int} (h : SaidV g v b) : ∃ a n k, v = .slice a n k := by
  rcases h with ⟨e, _⟩ | ⟨e, _⟩ <;> exact ⟨_, _, _, e⟩
theorem SaidV.sb {P : Nat → Prop} {W : World} {g : Nat} {v : Value} {b : List Int} {t : TypeId} (h : SaidV g v b) (hr : Rq W g t b) (hl : b.length = 64) (hp : P g) : Sb P W v (saidB b).2 := by
  rcases h with ⟨e, e2⟩ | ⟨e, e2⟩
  · exact .inl ⟨e, e2⟩
  · exact .inr ⟨g, t, e, by rw [e2]; exact hr, by rw [e2]; exact hl, hp⟩
theorem dig_at : ∀ (n k : Nat) (x : Int) (h : k < (dig n x).length), 0 ≤ x → (dig n x)[k] = x / 256 ^ (n - 1 - k) % 256
  | 0, k, x, h, _ => by rw [dig_len] at h; omega
  | n + 1, 0, x, h, h0 => by simp only [dig_cons n x h0]; simp
  | n + 1, k + 1, x, h, h0 => by
    have e := dig_cons n x h0
    have h' : k < (dig n x).length := by rw [dig_len] at h ⊢; omega
    have := dig_at n k x h' h0
    simp only [e, List.getElem_cons_succ]
    rw [this, show n + 1 - 1 - (k + 1) = n - 1 - k by omega]
theorem pt_step {z D : List Int} {p k : Nat} (hk : k < D.length) (hz : p + k < z.length) : (z.take p ++ (D.take k ++ z.drop (p + k))).set (p + k) D[k] = z.take p ++ (D.take (k + 1) ++ z.drop (p + (k + 1))) := by
  have h1 : (z.take p).length = p := by rw [List.length_take]; omega
  have h2 : (D.take k).length = k := by rw [List.length_take]; omega
  rw [List.set_append_right _ _ (by omega), h1, List.set_append_right _ _ (by omega), h2, show p + k - p - k = 0 by omega, List.drop_eq_getElem_cons (by omega), List.set_cons_zero, List.take_succ_eq_append_getElem hk, List.append_assoc]
  rfl
theorem pt_len {z D : List Int} {p k : Nat} (hk : k ≤ D.length) (hz : p + k ≤ z.length) : (z.take p ++ (D.take k ++ z.drop (p + k))).length = z.length := by
  simp only [List.length_append, List.length_take, List.length_drop]
  omega
set_option maxRecDepth 100000 in
set_option maxHeartbeats 8000000 in
theorem putTurn_any (g p n cap : Nat) (t : TypeId) (z : List Int) (x : Int) (w : World) (h0 : 0 ≤ x) (hn : 8 ≤ n) (hp : p + 8 ≤ z.length) (hr : Rq w g t z) : Calls Try.prog 37 #[.slice (some ⟨g, p, none⟩) n cap, .int .i64 x] w fun e w' => e = .returned (.tuple #[]) ∧ Rq w' g t (z.take p ++ (dig 8 x ++ z.drop (p + 8))) ∧ Ba (fun k => k = g) w w' := by
  have HR := hide hr
  have H8 : Hid ((dig 8 x).length = 8) := hide (dig_len 8 x)
  clear hr
  go_enter Try.func37, Try.ntmps37
  go_wp2
  go_loopw [5] (fun i W => ∃ k : Nat, k ≤ 8 ∧ i = .int .i64 k ∧ Rq W g t (z.take p ++ ((dig 8 x).take k ++ z.drop (p + k))) ∧ Ba (fun k => k = g) w W) (fun i _ => 8 - (iv i).toNat)
  case atStart => exact ⟨0, by omega, rfl, by rw [List.take_zero, List.nil_append, Nat.add_zero, List.take_append_drop]; exact HR.out, Ba.refl _ _⟩
  case round =>
    clear HR
    obtain ⟨k, hk, rfl, hr1, hb⟩ := hrel
    have HR := hide hr1
    have HB := hide hb
    clear hr1 hb
    by_cases hlt : k < 8
    · have hkl : k < (dig 8 x).length := by rw [H8.out]; exact hlt
      have hln := pt_len (z := z) (D := dig 8 x) (p := p) (k := k) (by rw [H8.out]; omega) (by omega)
      have c0 := HR.out.at (i := p + k) (by rw [hln]; omega)
      have f0 := HR.out.fz (p + k)
      have HS := hide (HR.out.set1 (p + k) ((dig 8 x)[k]))
      rw [pt_step hkl (by omega), dig_at 8 k x hkl h0] at HS
      have hsh : x / 2 ^ (8 * (7 - (k : Int))).toNat = x / 256 ^ (8 - 1 - k) := by
        have i := shr8 x (7 - k)
        rw [show ((7 - k : Nat) : Int) = 7 - (k : Int) by omega] at i
        exact i
      have hkI : (k : Int) < (n : Int) := by omega
      have hi7 : 0 ≤ 8 * (7 - (k : Int)) := by omega
      generalize (z.take p ++ ((dig 8 x).take k ++ z.drop (p + k)))[p + k]'(by rw [hln]; omega) = y at c0
      clear hln hkl
      go_wp2
      exact ⟨⟨k + 1, by omega, by go_num, HS.out, HB.out.set (fun _ => rfl) _ _⟩, by simp [iv]; omega⟩
    · obtain rfl : k = 8 := by omega
      have HF : Hid (Rq wr g t (z.take p ++ (dig 8 x ++ z.drop (p + 8)))) := hide (by have i := HR.out; rw [List.take_of_length_le (l := dig 8 x) (by rw [H8.out]; omega)] at i; exact i)
      clear HR
      go_wp2
      exact bodyPost_end (v := .tuple #[]) (by simp [results, Try.results37]) rfl ⟨rfl, HF.out, HB.out⟩
set_option maxRecDepth 100000 in
set_option maxHeartbeats 8000000 in
theorem saidOf_any (g : Nat) (t : TypeId) (b : List Int) (w : World) (hb : Blk b) (hr : Rq w g t b) : Calls Try.prog 34 #[.slice (some ⟨g, 0, none⟩) 64 64] w fun e w' => ∃ v, e = .returned (.agg #[.int .i64 (saidB b).1, v]) ∧ SaidV g v b ∧ Below w.heap.size w w' := by
  have hl : b.length = 64 := hb.1
  have H8 : Hid ((b.take 8).length = 8 ∧ Byt (b.take 8)) := hide ⟨by rw [List.length_take]; omega, fun x hx => hb.2 x (List.mem_of_mem_take hx)⟩
  have H9 : Hid ((b.drop 56).length = 8 ∧ Byt (b.drop 56)) := hide ⟨by rw [List.length_drop]; omega, fun x hx => hb.2 x (List.mem_of_mem_drop hx)⟩
  have hx8 := hb.2 _ (List.getElem_mem (show 8 < b.length by omega))
  obtain ⟨n, hn⟩ : ∃ n : Nat, b[8] = (n : Int) := ⟨(b[8]).toNat, by omega⟩
  have HG : Hid (b.getD 8 0 = (n : Int)) := hide (by rw [List.getD_eq_getElem?_getD, List.getElem?_eq_getElem (by omega)]; exact hn)
  have HBX := hide (B2.new w (.int .i64 0) (.slice none 0 0) 53)
  have hal : Below w.heap.size w (w.alloc (.cells #[.int .i64 0, .slice none 0 0] 53)) := (Below.refl _ _).alloc (Nat.le_refl _) _
  have HR1 := hide (hr.below hal)
  have HB1 := hide hal
  clear hr hal
  have HC : Hid (∀ W, Rq W g t b → (∀ i (h : i < (b.take 8).length), W.cell? ⟨g, 0 + i, none⟩ = some (.int .u8 (b.take 8)[i])) ∧ (∀ i (h : i < (b.drop 56).length), W.cell? ⟨g, 56 + i, none⟩ = some (.int .u8 (b.drop 56)[i])) ∧ W.cell? ⟨g, 8, none⟩ = some (.int .u8 (n : Int))) := hide (fun W h => ⟨fun i hi => by rw [Nat.zero_add, h.at (i := i) (by rw [H8.out.1] at hi; omega), List.getElem_take], fun i hi => by rw [h.at (i := 56 + i) (by rw [H9.out.1] at hi; omega), List.getElem_drop], by rw [h.at (i := 8) (by omega), hn]⟩)
  rw [hn] at hx8
  clear hn
  have hwr : IntKind.i64.wrap (n : Int) = (n : Int) := by rw [IntKind.wrap_i64]; omega
  go_enter Try.func34, Try.ntmps34
  go_upto_region 1 with fail
  generalize w.alloc (.cells #[.int .i64 0, .slice none 0 0] 53) = W1 at HBX HR1 HB1 ⊢
  have hdw : Below W1.heap.size W1 W1.drew := (Below.refl _ _).drew
  refine wp_region_held_drew (S := fun W => W.cell? ⟨g, 8, none⟩ = some (.int .u8 (n : Int))) (by kernel_rfl) (HC.out _ (HR1.out.below hdw)).2.2 (fun hHeld => ?_)
  have HBX2 := hide (HBX.out.below hdw)
  have HR2 := hide (HR1.out.below hdw)
  have HB2 := hide (bt HB1.out hdw)
  generalize W1.drew = W2 at HBX2 HR2 HB2 hHeld ⊢
  clear hdw HBX HR1 HB1
  refine wpAnyH_take (i := 0) (oi := _) (v := .slice (some ⟨g, 0, none⟩) 64 64) rfl (by kernel_rfl) (by kernel_rfl) (by kernel_rfl) (fun _ _ _ h => h) (Or.inl ⟨by rfl, by intro w hSw; go_simp⟩) hHeld ?_
  change wpAnyH _ _ _ _ _ _ _ (Act.put _ (some 5) _) _
  simp only [Act.put, List.setIfInBounds_toArray, List.set_cons_zero, List.set_cons_succ]
  refine wpAnyH_take (i := 2) (oi := _) (v := .slice (some ⟨g, 0, none⟩) 64 64) rfl (by kernel_rfl) (by kernel_rfl) (by kernel_rfl) (fun _ _ _ h => h) (Or.inl ⟨by rfl, by intro w hSw; go_simp⟩) hHeld ?_
  change wpAnyH _ _ _ _ _ _ _ (Act.put _ (some 7) _) _
  simp only [Act.put, List.setIfInBounds_toArray, List.set_cons_zero, List.set_cons_succ]
  refine wpAnyH_take (i := 3) (oi := _) (v := .pointer (some ⟨g, 8, none⟩)) rfl (by kernel_rfl) (by kernel_rfl) (by kernel_rfl) (fun _ _ _ h => h) (Or.inl ⟨by rfl, by intro w hSw; go_simp⟩) hHeld ?_
  change wpAnyH _ _ _ _ _ _ _ (Act.put _ (some 8) _) _
  simp only [Act.put, List.setIfInBounds_toArray, List.set_cons_zero, List.set_cons_succ]
  refine wpAnyH_take (i := 4) (oi := _) (v := .int .u8 (n : Int)) rfl (by kernel_rfl) (by kernel_rfl) (by kernel_rfl) (fun _ _ _ h => h) (Or.inl ⟨by rfl, by intro w hSw; go_simp⟩) hHeld ?_
  change wpAnyH _ _ _ _ _ _ _ (Act.put _ (some 9) _) _
  simp only [Act.put, List.setIfInBounds_toArray, List.set_cons_zero, List.set_cons_succ]
  refine wpAnyH_take (i := 5) (oi := _) (v := .int .i64 (n : Int)) rfl (by kernel_rfl) (by kernel_rfl) (by kernel_rfl) (fun _ _ _ h => h) (Or.inl ⟨by rfl, by intro w hSw; go_simp⟩) hHeld ?_
  change wpAnyH _ _ _ _ _ _ _ (Act.put _ (some 10) _) _
  simp only [Act.put, List.setIfInBounds_toArray, List.set_cons_zero, List.set_cons_succ]
  refine wpAnyH_ready (rs := [1]) (by kernel_rfl) (by simp) ?_
  refine AllReadyH.cons (o := _) rfl (fun K hK => ?_) AllReadyH.nil
  go_simp
  go_at_call 42
  refine (turnOf_any g 0 64 64 (b.take 8) _ (by decide) (by decide) H8.out.1 H8.out.2 (HC.out _ HR2.out).1).mono ?_
  rintro e W3 ⟨rfl, hw3⟩
  rw [hw3]
  clear hw3 W3
  go_wp2_with fail
  refine hK.out _ _ hHeld (fun hHeld1 => ?_)
  clear hK K hHeld
  have hHeld := hHeld1
  clear hHeld1
  refine wpAnyH_take (i := 6) (oi := _) (v := .int .i64 (stp (b.take 8))) rfl (by kernel_rfl) (by kernel_rfl) (by kernel_rfl) (fun _ _ _ h => h) (Or.inl ⟨by rfl, by intro w hSw; go_simp⟩) hHeld ?_
  change wpAnyH _ _ _ _ _ _ _ (Act.put _ (some 3) _) _
  simp only [Act.put, List.setIfInBounds_toArray, List.set_cons_zero, List.set_cons_succ]
  refine wpAnyH_take (i := 7) (oi := _) (v := .int .i64 (n : Int)) rfl (by kernel_rfl) (by kernel_rfl) (by kernel_rfl) (fun _ _ _ h => h) (Or.inl ⟨by rfl, by intro w hSw; go_simp⟩) hHeld ?_
  change wpAnyH _ _ _ _ _ _ _ (Act.put _ (some 4) _) _
  simp only [Act.put, List.setIfInBounds_toArray, List.set_cons_zero, List.set_cons_succ]
  refine wpAnyH_done (by kernel_rfl) ?_ _
  clear hHeld
  have hz0 := HBX2.out.c0
  have hz1 := HBX2.out.c1
  have f0 := HBX2.out.fz 0
  have f1 := HBX2.out.fz 1
  by_cases hc : stp (b.take 8) = stp (b.drop 56) ∧ (n : Int) ≤ 47
  · have HSD : Hid (saidB b = (stp (b.take 8), b)) := hide (by unfold saidB; rw [HG.out, if_pos hc])
    obtain ⟨hc1, hc2⟩ := hc
    have hq : (stp (b.take 8) != stp (b.drop 56)) = false := by simp [hc1]
    have HTO := hide hc1
    clear hc1
    have HS := hide (HBX2.out.set (.int .i64 (stp (b.take 8))) (.slice (some ⟨g, 0, none⟩) 64 64))
    generalize stp (b.take 8) = x at HS HSD hq HTO ⊢
    skip
    go_wp2_with (first | (go_at_call 42; refine (turnOf_any g 56 8 8 (b.drop 56) _ (by decide) (by decide) H9.out.1 H9.out.2 (HC.out _ HR2.out).2.1).mono ?_; rintro e W3 ⟨rfl, hw3⟩; rw [hw3]; clear hw3 W3))
    exact bodyPost_ret (v := .agg #[.int .i64 (x), .slice (some ⟨g, 0, none⟩) 64 64]) (results_b2 Try.results34 _ _ w.heap.size _ _ _ rfl HS.out Try.underlying53 rfl (by kernel_rfl)) rfl ⟨_, by rw [HSD.out], .inr ⟨rfl, by rw [HSD.out]⟩, (HB2.out.setCell (Nat.le_refl _) _).setCell (Nat.le_refl _) _⟩
  · have HSD : Hid (saidB b = (0, [])) := hide (by unfold saidB; rw [HG.out, if_neg hc])
    have HS := hide (HBX2.out.set (.int .i64 0) (.slice none 0 0))
    by_cases hc1 : stp (b.take 8) = stp (b.drop 56)
    · have hc2 : ¬ (n : Int) ≤ 47 := fun e => hc ⟨hc1, e⟩
      have hc3 : (47 : Int) < (n : Int) := by omega
      have hq : (stp (b.take 8) != stp (b.drop 56)) = false := by simp [hc1]
      clear hc hc1
      generalize stp (b.take 8) = x at HS HSD hq ⊢
      go_wp2_with (first | (go_at_call 42; refine (turnOf_any g 56 8 8 (b.drop 56) _ (by decide) (by decide) H9.out.1 H9.out.2 (HC.out _ HR2.out).2.1).mono ?_; rintro e W3 ⟨rfl, hw3⟩; rw [hw3]; clear hw3 W3))
      exact bodyPost_ret (v := .agg #[.int .i64 (0), .slice none 0 0]) (results_b2 Try.results34 _ _ w.heap.size _ _ _ rfl HS.out Try.underlying53 rfl (by kernel_rfl)) rfl ⟨_, by rw [HSD.out], .inl ⟨rfl, by rw [HSD.out]⟩, (HB2.out.setCell (Nat.le_refl _) _).setCell (Nat.le_refl _) _⟩
    · have hq : (stp (b.take 8) != stp (b.drop 56)) = true := by simp [hc1]
      clear hc hc1
      generalize stp (b.take 8) = x at HS HSD hq ⊢
      go_wp2_with (first | (go_at_call 42; refine (turnOf_any g 56 8 8 (b.drop 56) _ (by decide) (by decide) H9.out.1 H9.out.2 (HC.out _ HR2.out).2.1).mono ?_; rintro e W3 ⟨rfl, hw3⟩; rw [hw3]; clear hw3 W3))
      exact bodyPost_ret (v := .agg #[.int .i64 (0), .slice none 0 0]) (results_b2 Try.results34 _ _ w.heap.size _ _ _ rfl HS.out Try.underlying53 rfl (by kernel_rfl)) rfl ⟨_, by rw [HSD.out], .inl ⟨rfl, by rw [HSD.out]⟩, (HB2.out.setCell (Nat.le_refl _) _).setCell (Nat.le_refl _) _⟩
end Go.Proofs.Ytiedbchlgcgdeaa
namespace Go.Proofs.Ytiedbchlgcgdeaa
open Go.RowKit

theorem sb_1 (e : List Int) : zer.take 0 ++ (e ++ zer.drop (0 + 8)) = e ++ List.replicate 56 0 := rfl
theorem sb_2 {e : List Int} (he : e.length = 8) (x : Int) : (e ++ List.replicate 56 0).set 8 x = e ++ (x :: List.replicate 55 0) := by
  rw [List.set_append_right _ _ (by omega), he]
  rfl
theorem sb_3 {e V : List Int} (he : e.length = 8) (hV : V.length ≤ 47) (x : Int) : (e ++ (x :: List.replicate 55 0)).take 9 ++ (V.take 47 ++ (e ++ (x :: List.replicate 55 0)).drop (9 + Nat.min V.length 47)) = e ++ (x :: (V ++ List.replicate (55 - V.length) 0)) := by
  have h1 : e ++ (x :: List.replicate 55 0) = (e ++ [x]) ++ List.replicate 55 0 := by simp
  have hm : Nat.min V.length 47 = V.length := Nat.min_eq_left hV
  rw [hm, h1, List.take_left' (by simp [he]), List.take_of_length_le hV, List.drop_append, List.drop_of_length_le (by simp [he]), List.nil_append, List.drop_replicate]
  simp [he]
theorem sb_4 {e V : List Int} (he : e.length = 8) (hV : V.length ≤ 47) : (e ++ ((V.length : Int) :: (V ++ List.replicate (55 - V.length) 0))).take 56 ++ (e ++ (e ++ ((V.length : Int) :: (V ++ List.replicate (55 - V.length) 0))).drop (56 + 8)) = e ++ ((V.length : Int) :: V ++ List.replicate (47 - V.length) 0) ++ e := by
  have h1 : e ++ ((V.length : Int) :: (V ++ List.replicate (55 - V.length) 0)) = (e ++ ((V.length : Int) :: V ++ List.replicate (47 - V.length) 0)) ++ List.replicate 8 0 := by
    have : List.replicate (55 - V.length) (0 : Int) = List.replicate (47 - V.length) 0 ++ List.replicate 8 0 := by rw [List.replicate_append_replicate]; congr 1; omega
    rw [this]
    simp
  rw [h1, List.take_left' (by simp [he]; omega), List.drop_of_length_le (by simp [he]; omega), List.append_nil]
theorem sb_len {e V : List Int} (he : e.length = 8) (hV : V.length ≤ 47) (x : Int) : (e ++ (x :: (V ++ List.replicate (55 - V.length) 0))).length = 64 := by
  simp [he]
  omega
theorem Ba.of_eq {a b : World} {g B : Nat} {w0 : World} (h : Ba (fun k => k = g) a b) (hb : Below B w0 a) (hg : B ≤ g) (hB : B ≤ a.heap.size) : Below B w0 b := hb.trans (h.below hB (fun k e => by rw [e]; exact hg))
theorem bsC_inj {l m : List Int} (hl : Byt l) (hm : Byt m) (h : bsC l = bsC m) : l = m := by
  have back : ∀ {l : List Int}, Byt l → (bsC l).map (fun u => (u.toNat : Int)) = l := fun {l} hl => by
    unfold bsC
    rw [List.map_map]
    conv => rhs; rw [← List.map_id l]
    refine List.map_congr_left (fun x hx => ?_)
    have := hl x hx
    simp only [Function.comp, UInt8.toNat_ofNat', id]
    omega
  rw [← back hl, h, back hm]
set_option maxRecDepth 100000 in
set_option maxHeartbeats 8000000 in
theorem say_any (T : Int) (v : Value) (V : List Int) (w : World) (h0 : 0 ≤ T) (hv : Sl bc w v V) (hl : V.length ≤ 47) : Calls Try.prog 21 #[.int .i64 T, v] w fun e w' => ∃ g, e = .returned (.agg #[.int .i64 T, .slice (some ⟨g, 0, none⟩) 64 64]) ∧ Rq w' g 5 (blkS T V) ∧ w.heap.size ≤ g ∧ Below w.heap.size w w' := by
  obtain ⟨ao, cap, rfl⟩ := hv.form
  have hmk := make64c
  have H8 : Hid ((dig 8 T).length = 8) := hide (dig_len 8 T)
  have hal1 : Below w.heap.size w (w.alloc (.cells #[.int .i64 0, .slice none 0 0] 53)) := (Below.refl _ _).alloc (Nat.le_refl _) _
  have hal2 : Below (w.alloc (.cells #[.int .i64 0, .slice none 0 0] 53)).heap.size (w.alloc (.cells #[.int .i64 0, .slice none 0 0] 53)) ((w.alloc (.cells #[.int .i64 0, .slice none 0 0] 53)).alloc (.cells (bv zer).toArray 5)) := (Below.refl _ _).alloc (Nat.le_refl _) _
  have HBX := hide ((B2.new w (.int .i64 0) (.slice none 0 0) 53).below hal2)
  have HZ := hide (Rq.new (w.alloc (.cells #[.int .i64 0, .slice none 0 0] 53)) 5 zer)
  have HBL := hide (bt hal1 hal2)
  have HV := hide hv
  have hs1 : (w.alloc (.cells #[.int .i64 0, .slice none 0 0] 53)).heap.size = w.heap.size + 1 := Array.size_push _
  rw [hs1] at HZ
  clear hal1 hal2 hs1 hv
  go_enter Try.func21, Try.ntmps21
  go_upto_region 2 with fail
  clear hmk
  generalize ((w.alloc (.cells #[.int .i64 0, .slice none 0 0] 53)).alloc (.cells (bv zer).toArray 5)) = W2 at HBX HZ HBL ⊢
  have HG : Hid (w.heap.size < w.heap.size + 1) := hide (Nat.lt_succ_self _)
  generalize w.heap.size + 1 = g at HZ HG ⊢
  go_upto_region 3 with (first | (go_at_call 37; refine (putTurn_any g 0 64 64 5 zer T _ h0 (by decide) (by decide) HZ.out).mono ?_; rintro e W3 ⟨rfl, hr3, hb3⟩; rw [sb_1] at hr3; have HZ3 := hide hr3; have HBX3 := hide (HBX.out.keepB (hb3.block _ HBX.out.lt (by have := HG.out; omega))); have HBL3 := hide (hb3.of_eq HBL.out (Nat.le_of_lt HG.out) HBL.out.size); clear hr3 hb3))
  clear HBX HZ HBL
  have HL3 : Hid ((dig 8 T ++ List.replicate 56 0).length = 64) := hide (by rw [List.length_append, H8.out]; rfl)
  have c8 := HZ3.out.at (i := 8) (by rw [HL3.out]; decide)
  have f8 := HZ3.out.fz 8
  have HS4 := hide (HZ3.out.set1 8 (V.length : Int))
  rw [sb_2 H8.out] at HS4
  have HBX4 := hide (HBX3.out.setO (k := g) (i := 8) (by have := HG.out; omega) (.int .u8 (V.length : Int)))
  have HBL4 := hide (HBL3.out.setCell (p := ⟨g, 8, none⟩) (Nat.le_of_lt HG.out) (.int .u8 (V.length : Int)))
  have hm1 : (V.length : Int) % 256 = (V.length : Int) := by omega
  have hm2 : IntKind.u8.wrap (V.length : Int) = (V.length : Int) := by rw [IntKind.wrap_u8]; omega
  generalize (dig 8 T ++ List.replicate 56 0)[8]'(by rw [HL3.out]; decide) = y8 at c8
  go_upto_region 4 with fail
  clear c8 f8 hm1 hm2 HZ3 HBX3 HBL3 HL3
  generalize W3.setCell ⟨g, 8, none⟩ (.int .u8 (V.length : Int)) = W4 at HS4 HBX4 HBL4 ⊢
  go_upto_region 5 with (first | (refine wpList_copyR _ rfl _ _ rfl g 9 47 55 5 (dig 8 T ++ ((V.length : Int) :: List.replicate 55 0)) V _ rfl rfl HS4.out (HV.out.below HBL4.out) (by rw [List.length_append, H8.out]; simp) ?_; rw [sb_3 H8.out hl]))
  have HS6 := hide (HS4.out.set (dig 8 T ++ ((V.length : Int) :: (V ++ List.replicate (55 - V.length) 0))))
  have HBX6 := hide (HBX4.out.keepB (setRow_other W4 g w.heap.size (bv (dig 8 T ++ ((V.length : Int) :: (V ++ List.replicate (55 - V.length) 0)))).toArray (by have := HG.out; omega)))
  have HBL6 := hide (setRow_below HBL4.out (g := g) (Nat.le_of_lt HG.out) (bv (dig 8 T ++ ((V.length : Int) :: (V ++ List.replicate (55 - V.length) 0)))).toArray)
  generalize W4.setRow g (bv (dig 8 T ++ ((V.length : Int) :: (V ++ List.replicate (55 - V.length) 0)))).toArray = W6 at HS6 HBX6 HBL6 ⊢
  clear HS4 HBX4 HBL4
  go_upto_region 6 with (first | (go_at_call 37; refine (putTurn_any g 56 8 8 5 (dig 8 T ++ ((V.length : Int) :: (V ++ List.replicate (55 - V.length) 0))) T _ h0 (by decide) (by rw [sb_len H8.out hl]; decide) HS6.out).mono ?_; rintro e W8 ⟨rfl, hr8, hb8⟩; rw [sb_4 H8.out hl] at hr8; have HS8 := hide hr8; have HBX8 := hide (HBX6.out.keepB (hb8.block _ HBX6.out.lt (by have := HG.out; omega))); have HBL8 := hide (hb8.of_eq HBL6.out (Nat.le_of_lt HG.out) HBL6.out.size); clear hr8 hb8))
  clear HS6 HBX6 HBL6
  have k0 := HBX8.out.c0
  have k1 := HBX8.out.c1
  have f0 := HBX8.out.fz 0
  have f1 := HBX8.out.fz 1
  have HF := hide (HBX8.out.set (.int .i64 T) (.slice (some ⟨g, 0, none⟩) 64 64))
  have HRF : Hid (Rq ((W8.setCell ⟨w.heap.size, 0, none⟩ (.int .i64 T)).setCell ⟨w.heap.size, 1, none⟩ (.slice (some ⟨g, 0, none⟩) 64 64)) g 5 (blkS T V)) := hide ((HS8.out.keep (Below.heap_setCell _ _ _ _ (show g ≠ w.heap.size by have := HG.out; omega))).keep (Below.heap_setCell _ _ _ _ (show g ≠ w.heap.size by have := HG.out; omega)))
  go_wp2_with fail
  exact bodyPost_ret (v := .agg #[.int .i64 T, .slice (some ⟨g, 0, none⟩) 64 64]) (results_b2 Try.results21 _ _ w.heap.size _ _ _ rfl HF.out Try.underlying53 rfl (by kernel_rfl)) rfl ⟨g, rfl, HRF.out, Nat.le_of_lt HG.out, (HBL8.out.setCell (Nat.le_refl _) _).setCell (Nat.le_refl _) _⟩
set_option maxRecDepth 100000 in
set_option maxHeartbeats 8000000 in
theorem beqC_any (v u : Value) (l m : List Int) (w : World) (hv : Sl bc w v l) (hu : Sl bc w u m) (hl : Byt l) (hm : Byt m) : Calls Try.prog 36 #[v, u] w fun e w' => e = .returned (.bool (decide (l = m))) ∧ w' = w := by
  have h1 := str_ofC hv hl
  have h2 := str_ofC hu hm
  have HE : Hid (((bsC l) == (bsC m)) = decide (l = m)) := hide (by
    by_cases h : l = m
    · subst h; simp
    · rw [decide_eq_false h]
      have : ¬ bsC l = bsC m := fun e => h (bsC_inj hl hm e)
      simpa using this)
  obtain ⟨ao, cap, rfl⟩ := hv.form
  obtain ⟨bo, cap', rfl⟩ := hu.form
  clear hv hu hl hm
  generalize bsC l = S at *
  generalize bsC m = S' at *
  rw [← HE.out]
  clear HE
  cases e : (S == S')
  all_goals
    go_enter Try.func36, Try.ntmps36
    go_wp2_with fail
    go_ret
    exact ⟨by simp_all, rfl⟩
theorem own_slp {W : World} {B : Nat} {v : Value} {b : List Int} (h : W.ownsRow B 5 1 v b.length (bv b)) : Slp (fun k => B ≤ k) W v b := slp_of (sl_of_own h) (fr_own h (Nat.le_refl _))
theorem slice_94 (g n : Nat) (hn : n ≤ 47) (W : World) : (Instr.slice 23 (.slice (some ⟨g, 0, none⟩) 64 64) (some (.int .i64 9)) (some (.int .i64 (9 + (n : Int)))) none).run Try.prog W = .ok (.slice (some ⟨g, 9, none⟩) n 55) W := by
  have h2 : 9 + n ≤ 64 := by omega
  have h3 : (9 : Int) ≤ ((9 + n : Nat) : Int) := by omega
  have h4 : ((9 + n : Nat) : Int) ≤ 64 := by omega
  rw [show (9 + (n : Int)) = ((9 + n : Nat) : Int) by omega]
  generalize hm : 9 + n = m at h2 h3 h4
  simp [Instr.slice, go_sem, h3, h4]
  omega
theorem eql_nil (g : Nat) (W : World) : (binOp .eql 23 (.slice (some ⟨g, 0, none⟩) 64 64) (.slice none 0 0)).run Try.prog W = .ok (.bool false) W := by kernel_rfl
set_option maxRecDepth 100000 in
set_option maxHeartbeats 8000000 in
theorem value_any (T : Int) (g : Nat) (t : TypeId) (V : List Int) (w : World) (hr : Rq w g t (blkS T V)) (hl : V.length ≤ 47) : Calls Try.prog 30 #[.agg #[.int .i64 T, .slice (some ⟨g, 0, none⟩) 64 64]] w fun e w' => ∃ x, e = .returned x ∧ Slp (fun b => w.heap.size ≤ b) w' x V ∧ Below w.heap.size w w' := by
  have hal : Below w.heap.size w (w.alloc (.cells #[.int .i64 T, .slice (some ⟨g, 0, none⟩) 64 64] 53)) := (Below.refl _ _).alloc (Nat.le_refl _) _
  have HBX := hide (B2.new w (.int .i64 T) (.slice (some ⟨g, 0, none⟩) 64 64) 53)
  have HR := hide (hr.below hal)
  have HB := hide hal
  have HWS : Hid (w.heap.size ≤ (w.alloc (.cells #[.int .i64 T, .slice (some ⟨g, 0, none⟩) 64 64] 53)).heap.size) := hide hal.size
  clear hr hal
  have HL : Hid ((blkS T V).length = 64) := hide (blkS_len T hl)
  go_enter Try.func30, Try.ntmps30
  go_upto_region 1 with fail
  generalize (w.alloc (.cells #[.int .i64 T, .slice (some ⟨g, 0, none⟩) 64 64] 53)) = W1 at HBX HR HB HWS ⊢
  have k1 := HBX.out.c1
  have hen := eql_nil g
  go_upto_region 3 with fail
  clear k1 hen
  have HC8 : Hid (∀ W, Rq W g t (blkS T V) → W.cell? ⟨g, 8, none⟩ = some (.int .u8 (V.length : Int))) := hide (fun W h => by have i := h.at (i := 8) (by rw [HL.out]; decide); have j := (blkS_mid T V).1; rw [List.getD_eq_getElem?_getD, List.getElem?_eq_getElem (by rw [HL.out]; decide)] at j; rw [i]; exact congrArg (fun x => some (Value.int .u8 x)) j)
  have hdw : Below W1.heap.size W1 W1.drew := (Below.refl _ _).drew
  refine wp_region_held_drew (S := fun W => W.cell? ⟨w.heap.size, 1, none⟩ = some (.slice (some ⟨g, 0, none⟩) 64 64) ∧ W.cell? ⟨g, 8, none⟩ = some (.int .u8 (V.length : Int))) (by kernel_rfl) ⟨(HBX.out.below hdw).c1, HC8.out _ (HR.out.below hdw)⟩ (fun hHeld => ?_)
  have HBX2 := hide (HBX.out.below hdw)
  have HR2 := hide (HR.out.below hdw)
  have HB2 := hide (bt HB.out hdw)
  have HWS2 : Hid (w.heap.size ≤ W1.drew.heap.size) := hide (Nat.le_trans HWS.out hdw.size)
  generalize W1.drew = W2 at HBX2 HR2 HB2 HWS2 hHeld ⊢
  clear hdw HBX HR HB HWS
  have hwr1 : IntKind.i64.wrap (V.length : Int) = (V.length : Int) := by rw [IntKind.wrap_i64]; omega
  have hwr2 : IntKind.i64.wrap (9 + (V.length : Int)) = 9 + (V.length : Int) := by rw [IntKind.wrap_i64]; omega
  refine wpAnyH_take (i := 0) (oi := _) (v := .pointer (some ⟨w.heap.size, 1, none⟩)) rfl (by kernel_rfl) (by kernel_rfl) (by kernel_rfl) (fun _ _ _ h => h) (Or.inl ⟨by rfl, by intro w hSw; go_simp⟩) hHeld ?_
  change wpAnyH _ _ _ _ _ _ _ (Act.put _ (some 6) _) _
  simp only [Act.put, List.setIfInBounds_toArray, List.set_cons_zero, List.set_cons_succ]
  refine wpAnyH_take (i := 1) (oi := _) (v := .slice (some ⟨g, 0, none⟩) 64 64) rfl (by kernel_rfl) (by kernel_rfl) (by kernel_rfl) (fun _ _ _ h => h) (Or.inl ⟨by rfl, by intro w hSw; have h1 := hSw.1; go_simp⟩) hHeld ?_
  change wpAnyH _ _ _ _ _ _ _ (Act.put _ (some 7) _) _
  simp only [Act.put, List.setIfInBounds_toArray, List.set_cons_zero, List.set_cons_succ]
  refine wpAnyH_take (i := 2) (oi := _) (v := .pointer (some ⟨w.heap.size, 1, none⟩)) rfl (by kernel_rfl) (by kernel_rfl) (by kernel_rfl) (fun _ _ _ h => h) (Or.inl ⟨by rfl, by intro w hSw; go_simp⟩) hHeld ?_
  change wpAnyH _ _ _ _ _ _ _ (Act.put _ (some 8) _) _
  simp only [Act.put, List.setIfInBounds_toArray, List.set_cons_zero, List.set_cons_succ]
  refine wpAnyH_take (i := 3) (oi := _) (v := .slice (some ⟨g, 0, none⟩) 64 64) rfl (by kernel_rfl) (by kernel_rfl) (by kernel_rfl) (fun _ _ _ h => h) (Or.inl ⟨by rfl, by intro w hSw; have h1 := hSw.1; go_simp⟩) hHeld ?_
  change wpAnyH _ _ _ _ _ _ _ (Act.put _ (some 9) _) _
  simp only [Act.put, List.setIfInBounds_toArray, List.set_cons_zero, List.set_cons_succ]
  refine wpAnyH_take (i := 4) (oi := _) (v := .pointer (some ⟨g, 8, none⟩)) rfl (by kernel_rfl) (by kernel_rfl) (by kernel_rfl) (fun _ _ _ h => h) (Or.inl ⟨by rfl, by intro w hSw; go_simp⟩) hHeld ?_
  change wpAnyH _ _ _ _ _ _ _ (Act.put _ (some 10) _) _
  simp only [Act.put, List.setIfInBounds_toArray, List.set_cons_zero, List.set_cons_succ]
  refine wpAnyH_take (i := 5) (oi := _) (v := .int .u8 (V.length : Int)) rfl (by kernel_rfl) (by kernel_rfl) (by kernel_rfl) (fun _ _ _ h => h) (Or.inl ⟨by rfl, by intro w hSw; have h1 := hSw.2; go_simp⟩) hHeld ?_
  change wpAnyH _ _ _ _ _ _ _ (Act.put _ (some 11) _) _
  simp only [Act.put, List.setIfInBounds_toArray, List.set_cons_zero, List.set_cons_succ]
  refine wpAnyH_take (i := 6) (oi := _) (v := .int .i64 (V.length : Int)) rfl (by kernel_rfl) (by kernel_rfl) (by kernel_rfl) (fun _ _ _ h => h) (Or.inl ⟨by rfl, by intro w hSw; go_simp⟩) hHeld ?_
  change wpAnyH _ _ _ _ _ _ _ (Act.put _ (some 12) _) _
  simp only [Act.put, List.setIfInBounds_toArray, List.set_cons_zero, List.set_cons_succ]
  refine wpAnyH_take (i := 7) (oi := _) (v := .int .i64 (9 + (V.length : Int))) rfl (by kernel_rfl) (by kernel_rfl) (by kernel_rfl) (fun _ _ _ h => h) (Or.inl ⟨by rfl, by intro w hSw; go_simp⟩) hHeld ?_
  change wpAnyH _ _ _ _ _ _ _ (Act.put _ (some 13) _) _
  simp only [Act.put, List.setIfInBounds_toArray, List.set_cons_zero, List.set_cons_succ]
  have hsl : ∀ W, (Instr.slice 23 (.slice (some ⟨g, 0, none⟩) 64 64) (some (.int .i64 9)) (some (.int .i64 (9 + (V.length : Int)))) none).run Try.prog W = .ok (.slice (some ⟨g, 9, none⟩) V.length 55) W := fun W => slice_94 g V.length hl W
  refine wpAnyH_take (i := 8) (oi := _) (v := .slice (some ⟨g, 9, none⟩) V.length 55) rfl (by kernel_rfl) (by kernel_rfl) (by kernel_rfl) (fun _ _ _ h => h) (Or.inl ⟨by rfl, by intro w hSw; have h1 := hsl w; go_simp⟩) hHeld ?_
  change wpAnyH _ _ _ _ _ _ _ (Act.put _ (some 14) _) _
  simp only [Act.put, List.setIfInBounds_toArray, List.set_cons_zero, List.set_cons_succ]
  clear hsl
  have HSV : Hid (Sl bc W2 (.slice (some ⟨g, 9, none⟩) V.length 55) V) := hide (by have i := HR2.out.part (o := 9) (n := V.length) 55 (by rw [HL.out]; omega) (by omega); rw [(blkS_mid T V).2] at i; exact i)
  refine wpAnyH_ready (rs := [9]) (by kernel_rfl) (by simp) ?_
  refine AllReadyH.cons (o := _) rfl (fun K hK => ?_) AllReadyH.nil
  go_simp
  go_at_call 39
  refine (bclone_own _ V _ HSV.out (by omega)).mono ?_
  rintro e W3 ⟨v3, rfl, ho, hb⟩
  go_wp2_with fail
  refine hK.out _ _ ⟨(hb.cell (p := ⟨w.heap.size, 1, none⟩) HBX2.out.lt).trans hHeld.1, (hb.cell (p := ⟨g, 8, none⟩) HR2.out.lt).trans hHeld.2⟩ (fun hHeld1 => ?_)
  clear hK K hHeld
  have hHeld := hHeld1
  clear hHeld1
  have HO := hide (own_slp ho)
  have HB3 := hide (bt HB2.out hb)
  clear ho hb
  refine wpAnyH_take (i := 10) (oi := _) (v := v3) rfl (by kernel_rfl) (by kernel_rfl) (by kernel_rfl) (fun _ _ _ h => h) (Or.inl ⟨by rfl, by intro w hSw; go_simp⟩) hHeld ?_
  change wpAnyH _ _ _ _ _ _ _ (Act.put _ (some 2) _) _
  simp only [Act.put, List.setIfInBounds_toArray, List.set_cons_zero, List.set_cons_succ]
  refine wpAnyH_done (by kernel_rfl) ?_ _
  clear hHeld
  go_wp2_with fail
  go_ret
  exact ⟨_, rfl, HO.out.keep (fun b p _ => Nat.le_trans HWS2.out p) (fun _ _ _ => rfl), HB3.out⟩
end Go.Proofs.Ytiedbchlgcgdeaa
namespace Go.Proofs.Ytiedbchlgcgdeaa
open Go.RowKit

/-- A box of five cells: a slot. -/
structure B5 (W : World) (g : Nat) (x y z t q : Value) : Prop where
  c0 : W.cell? ⟨g, 0, none⟩ = some x
  c1 : W.cell? ⟨g, 1, none⟩ = some y
  c2 : W.cell? ⟨g, 2, none⟩ = some z
  c3 : W.cell? ⟨g, 3, none⟩ = some t
  c4 : W.cell? ⟨g, 4, none⟩ = some q
  fz : ∀ i, W.frozen? ⟨g, i, none⟩ = false
section
variable {W W' : World} {g : Nat} {x y z t q : Value}
theorem B5.lt (h : B5 W g x y z t q) : g < W.heap.size := cell_block h.c0
theorem B5.keepB (h : B5 W g x y z t q) (hk : W'.heap[g]? = W.heap[g]?) : B5 W' g x y z t q :=
  ⟨(World.cell?_of_block hk).trans h.c0, (World.cell?_of_block hk).trans h.c1, (World.cell?_of_block hk).trans h.c2, (World.cell?_of_block hk).trans h.c3, (World.cell?_of_block hk).trans h.c4, fun i => (World.frozen?_of_block (a := ⟨g, i, none⟩) hk).trans (h.fz i)⟩
theorem B5.below (h : B5 W g x y z t q) (hb : Below W.heap.size W W') : B5 W' g x y z t q := h.keepB (hb.block g h.lt)
theorem B5.new (W : World) (x y z t q : Value) (T : TypeId) : B5 (W.alloc (.cells #[x, y, z, t, q] T)) W.heap.size x y z t q :=
  ⟨World.cell?_alloc_at _ _ _ _ rfl, World.cell?_alloc_at _ _ _ _ rfl, World.cell?_alloc_at _ _ _ _ rfl, World.cell?_alloc_at _ _ _ _ rfl, World.cell?_alloc_at _ _ _ _ rfl, fun i => by simp⟩
theorem B5.set4 (h : B5 W g x y z t q) (v : Value) : B5 (W.setCell ⟨g, 4, none⟩ v) g x y z t v :=
  ⟨by rw [World.cell?_setCell_other _ _ _ _ (by simp)]; exact h.c0, by rw [World.cell?_setCell_other _ _ _ _ (by simp)]; exact h.c1, by rw [World.cell?_setCell_other _ _ _ _ (by simp)]; exact h.c2, by rw [World.cell?_setCell_other _ _ _ _ (by simp)]; exact h.c3, World.cell?_setCell_same _ _ _ h.c4, fun i => by simp [h.fz i]⟩
theorem B5.set2 (h : B5 W g x y z t q) (v : Value) : B5 (W.setCell ⟨g, 2, none⟩ v) g x y v t q :=
  ⟨by rw [World.cell?_setCell_other _ _ _ _ (by simp)]; exact h.c0, by rw [World.cell?_setCell_other _ _ _ _ (by simp)]; exact h.c1, World.cell?_setCell_same _ _ _ h.c2, by rw [World.cell?_setCell_other _ _ _ _ (by simp)]; exact h.c3, by rw [World.cell?_setCell_other _ _ _ _ (by simp)]; exact h.c4, fun i => by simp [h.fz i]⟩
theorem B5.set3 (h : B5 W g x y z t q) (v : Value) : B5 (W.setCell ⟨g, 3, none⟩ v) g x y z v q :=
  ⟨by rw [World.cell?_setCell_other _ _ _ _ (by simp)]; exact h.c0, by rw [World.cell?_setCell_other _ _ _ _ (by simp)]; exact h.c1, by rw [World.cell?_setCell_other _ _ _ _ (by simp)]; exact h.c2, World.cell?_setCell_same _ _ _ h.c3, by rw [World.cell?_setCell_other _ _ _ _ (by simp)]; exact h.c4, fun i => by simp [h.fz i]⟩
end
theorem Cw.ba {W W' : World} {B : Nat} {v : Value} {ps : List Ce} {g : Nat} (h : Cw W B v ps) (hb : Ba (fun k => k = g) W W') (hg : g < B) : Cw W' B v ps :=
  ⟨⟨h.own.1, h.own.2.imp id (fun ⟨k, cap, cur, a1, a2, a3, a4⟩ => ⟨k, cap, cur, a1, a2, (hb.block k (Array.getElem?_eq_some_iff.1 a3).1 (by omega)).trans a3, a4⟩)⟩, fun q hq => ⟨(h.mem q hq).1, (h.mem q hq).2.1, (hb.block _ (Array.getElem?_eq_some_iff.1 (h.mem q hq).2.2).1 (by have := (h.mem q hq).1; omega)).trans (h.mem q hq).2.2⟩⟩
theorem look_snoc {p : Int} {b : List Int} {a : Int} : ∀ {l : Cs}, (∀ q ∈ l, q.1 ≠ p) → look (l ++ [(p, b)]) a = if a = p then some b else look l a
  | [], _ => by
    simp only [List.nil_append, look]
    by_cases h : a = p
    · rw [if_pos h, if_pos h.symm]
    · rw [if_neg h, if_neg (fun e => h e.symm)]
  | q :: r, h => by
    have ih := look_snoc (b := b) (a := a) (l := r) (fun x hx => h x (List.mem_cons_of_mem _ hx))
    have hq := h q List.mem_cons_self
    rw [List.cons_append, look, look, ih]
    by_cases h1 : q.1 = a
    · rw [if_pos h1, if_pos h1, if_neg (fun e => hq (h1.trans e))]
    · rw [if_neg h1, if_neg h1]
theorem saidB_snoc {l : Cs} {k : Nat} (hk : k < l.length) (hl : Asc l) {a : Int} (ha : Num a) : saidB (vw (l.take (k + 1)) a) = if a = (l[k]).1 then saidB (l[k]).2 else saidB (vw (l.take k) a) := by
  have hne : ∀ q ∈ l.take k, q.1 ≠ (l[k]).1 := fun q hq => by
    have h1 := List.pairwise_append.1 (show (l.take k ++ l.drop k).Pairwise _ by rw [List.take_append_drop]; exact hl)
    have h2 := h1.2.2 q hq (l[k]) (by rw [List.drop_eq_getElem_cons hk]; exact List.mem_cons_self)
    omega
  rw [vw_num ha, vw_num ha, List.take_succ_eq_append_getElem hk, show [l[k]] = [((l[k]).1, (l[k]).2)] from rfl, look_snoc hne]
  split <;> rfl
theorem saidB_nn {b : List Int} (h : Blk b) : 0 ≤ (saidB b).1 := by
  unfold saidB
  have := stp_bd (l := b.take 8) (by rw [List.length_take, h.1]; decide) (fun x hx => h.2 x (List.mem_of_mem_take hx))
  split
  · exact this.1
  · exact Int.le_refl _
theorem fldS0 (x : Int) (y : Value) (W : World) : (Instr.field 53 (.agg #[.int .i64 x, y]) 0).run Try.prog W = .ok (.int .i64 x) W := by kernel_rfl
theorem newV_fst (x0 x1 : Sd) (v0 v1 : Value) : (newV x0.1 v0 x1.1 v1).1 = (newest x0 x1).1 := by
  unfold newV newest newO newVE newE
  by_cases h0 : x0.1 % 2 = 0 ∧ 0 ≤ x0.1
  · simp only [if_pos h0]
    split <;> rfl
  · simp only [if_neg h0]
    split <;> rfl
theorem newV_sb {P : Nat → Prop} {W : World} {x0 x1 : Sd} {v0 v1 : Value} (h0 : Sb P W v0 x0.2) (h1 : Sb P W v1 x1.2) : Sb P W (newV x0.1 v0 x1.1 v1).2 (newest x0 x1).2 := by
  unfold newV newest newO newVE newE
  by_cases h : x0.1 % 2 = 0 ∧ 0 ≤ x0.1
  · simp only [if_pos h]
    split
    · exact h1
    · exact h0
  · simp only [if_neg h]
    split
    · exact h1
    · exact .inl ⟨rfl, rfl⟩
/-- What read answers. -/
def ReaP (w w' : World) (e : Ending) (s : Dst) (a : Int) : Prop := ∃ v0 v1, e = .returned (.tuple #[.agg #[.int .i64 (saidB (vw s.tk a)).1, v0, .int .i64 (saidB (vw s.tk (a + 1))).1, v1], .nilIface]) ∧ Sb (fun b => w.heap.size + 1 < b) w' v0 (saidB (vw s.tk a)).2 ∧ Sb (fun b => w.heap.size + 1 < b) w' v1 (saidB (vw s.tk (a + 1))).2 ∧ Below w.heap.size w w'
theorem res_cp {P : Program} {fn : Func} {q r : Tmp} {ty : TypeId} (h : fn.results = #[.cell q ty, .tmp r]) (tmps : Array Value) (w : World) (b : Nat) (cs : List Value) (d : TypeDesc) (x : Value) (hp : tmps.getD q undef = .pointer (some ⟨b, 0, none⟩)) (hx : tmps.getD r undef = x) (hc : w.rangeAt b 0 cs) (hu : P.underlying ty = some d) (hd : d.isRow = true) (hi : (P.info? ty).map (·.size) = some cs.length) : (results fn tmps).run P w = .ok (.tuple #[.agg cs.toArray, x]) w := by
  have hp' : tmps[q]?.getD undef = .pointer (some ⟨b, 0, none⟩) := by simpa using hp
  have hx' : tmps[r]?.getD undef = x := by simpa using hx
  simp [results, h, hp', hx', asAddr, run_loadVar_mid w b 0 ty cs d hc hu hd hi]
theorem B4.rg4 {W : World} {g : Nat} {x y z u : Value} (h : B4 W g x y z u) : W.rangeAt g 0 [x, y, z, u] := fun j v hv => by
  rw [Nat.zero_add]
  match j, hv with
  | 0, hv => cases hv; exact h.c0
  | 1, hv => cases hv; exact h.c1
  | 2, hv => cases hv; exact h.c2
  | 3, hv => cases hv; exact h.c3
theorem infoP4 : (Try.prog.info? 55).map (·.size) = some 4 := by kernel_rfl
set_option maxRecDepth 100000 in
set_option maxHeartbeats 8000000 in
theorem read_ok {d bS bT : Nat} {u : Value} {s : Dst} (a : Int) (w : World) (hq : Dq w d bS bT u s) (ha : Num a) (ha1 : Num (a + 1)) : Calls Try.prog 17 #[.pointer (some ⟨d, 0, none⟩), .int .i64 a] w fun e w' => ReaP w w' e s a := by
  have hal0 : Below w.heap.size w (w.alloc (.cells #[.int .i64 0, .slice none 0 0, .int .i64 0, .slice none 0 0] 55)) := (Below.refl _ _).alloc (Nat.le_refl _) _
  have hal1 : Below (w.alloc (.cells #[.int .i64 0, .slice none 0 0, .int .i64 0, .slice none 0 0] 55)).heap.size (w.alloc (.cells #[.int .i64 0, .slice none 0 0, .int .i64 0, .slice none 0 0] 55)) ((w.alloc (.cells #[.int .i64 0, .slice none 0 0, .int .i64 0, .slice none 0 0] 55)).alloc (.cells #[.int .i64 0, .slice none 0 0, .int .i64 0, .slice none 0 0] 55)) := (Below.refl _ _).alloc (Nat.le_refl _) _
  have hs0 : (w.alloc (.cells #[.int .i64 0, .slice none 0 0, .int .i64 0, .slice none 0 0] 55)).heap.size = w.heap.size + 1 := Array.size_push _
  have HP : Hid (B4 ((w.alloc (.cells #[.int .i64 0, .slice none 0 0, .int .i64 0, .slice none 0 0] 55)).alloc (.cells #[.int .i64 0, .slice none 0 0, .int .i64 0, .slice none 0 0] 55)) (w.heap.size + 1) (.int .i64 0) (.slice none 0 0) (.int .i64 0) (.slice none 0 0)) := hide (by have i := b4_new (w.alloc (.cells #[.int .i64 0, .slice none 0 0, .int .i64 0, .slice none 0 0] 55)) (.int .i64 0) (.slice none 0 0) (.int .i64 0) (.slice none 0 0) 55; rw [hs0] at i; exact i)
  have HR := hide ((b4_new w (.int .i64 0) (.slice none 0 0) (.int .i64 0) (.slice none 0 0) 55).below hal1)
  have HB := hide (bt hal0 hal1)
  have HQ := hide (hq.below (bt hal0 hal1))
  have HOK := hide hq.ok
  have HOW : Hid (∀ k, Own d bS bT u k → k < w.heap.size) := hide (fun k e => hq.dk.lt e)
  have HA := hide ha
  have HA1 := hide ha1
  obtain ⟨ha0, hab⟩ := ha
  clear hal0 hal1 hs0 hq ha1
  go_enter Try.func17, Try.ntmps17
  go_upto_region 3 with fail
  generalize ((w.alloc (.cells #[.int .i64 0, .slice none 0 0, .int .i64 0, .slice none 0 0] 55)).alloc (.cells #[.int .i64 0, .slice none 0 0, .int .i64 0, .slice none 0 0] 55)) = W1 at HP HR HQ HB ⊢
  go_loopw [10] (fun i W => ∃ (k : Nat) (t0 t1 : Int) (v0 v1 : Value), k ≤ 2 ∧ i = .int .i64 k ∧ (∃ p n m, v0 = .slice p n m) ∧ (∃ p n m, v1 = .slice p n m) ∧ B4 W (w.heap.size + 1) (.int .i64 t0) v0 (.int .i64 t1) v1 ∧ B4 W w.heap.size (.int .i64 0) (.slice none 0 0) (.int .i64 0) (.slice none 0 0) ∧ (0 < k → t0 = (saidB (vw s.tk a)).1 ∧ Sb (fun b => w.heap.size + 1 < b) W v0 (saidB (vw s.tk a)).2) ∧ (1 < k → t1 = (saidB (vw s.tk (a + 1))).1 ∧ Sb (fun b => w.heap.size + 1 < b) W v1 (saidB (vw s.tk (a + 1))).2) ∧ Dq W d bS bT u s ∧ Below w.heap.size w W) (fun i _ => 2 - (iv i).toNat)
  case atStart => exact ⟨0, 0, 0, _, _, by omega, rfl, ⟨_, _, _, rfl⟩, ⟨_, _, _, rfl⟩, HP.out, HR.out, fun h => by omega, fun h => by omega, HQ.out, HB.out⟩
  case round =>
    clear HP HR HQ HB
    obtain ⟨k, t0, t1, v0, v1, hk, rfl, ⟨p0, n0, m0, rfl⟩, ⟨p1, n1, m1, rfl⟩, hp, hr, h0, h1, hq, hb⟩ := hrel
    have HP := hide hp
    have HRB := hide hr
    have H0 := hide h0
    have H1 := hide h1
    have HQ := hide hq
    have HB := hide hb
    clear hp hr h0 h1 hq hb
    rcases (show k = 0 ∨ k = 1 ∨ k = 2 by omega) with rfl | rfl | rfl
    · have HBK : Hid (Blk (vw s.tk a)) := hide (vw_blk HOK.out.tb a)
      have HLK : Hid ((look s.tk a).getD zer = vw s.tk a) := hide (by rw [vw_num HA.out])
      have hgl := HP.out.lt
      have hwr : a + 0 = a := by omega
      have hwr2 : IntKind.i64.wrap a = a := by rw [IntKind.wrap_i64]; omega
      go_upto_region 8 with (first | (go_at_call 33; refine (q_read a _ HQ.out HA.out).mono ?_; rintro e W2 ⟨rfl, hw2⟩; rw [HLK.out] at hw2; have HR2 : Hid (Rq W2 wr.heap.size 68 (vw s.tk a)) := hide (by rw [hw2]; exact Rq.new wr 68 _); have hal2 : Below wr.heap.size wr W2 := (by rw [hw2]; exact (Below.refl _ _).alloc (Nat.le_refl _) _); have HP2 := hide (HP.out.below hal2); have HRB2 := hide (HRB.out.below hal2); have HQ2 := hide (HQ.out.below hal2); have HB2 := hide (bt HB.out hal2); have HL2 := hide hal2; clear hw2 hal2))
      clear hwr HP HRB HQ HB hwr2
      have HGG : Hid (w.heap.size + 1 < wr.heap.size) := hide hgl
      clear hgl
      generalize hgq : wr.heap.size = gr at HR2 HGG ⊢
      go_upto_region 9 with (first | (go_at_call 34; refine (saidOf_any gr 68 (vw s.tk a) _ HBK.out HR2.out).mono ?_; rintro e W3 ⟨v3, rfl, hs3, hb3⟩; obtain ⟨p3, n3, m3, rfl⟩ := hs3.form; have HS3 := hide (hs3.sb (P := fun b => w.heap.size + 1 < b) (HR2.out.below hb3) HBK.out.1 HGG.out); have HP3 := hide (HP2.out.below hb3); have HRB3 := hide (HRB2.out.below hb3); have HQ3 := hide (HQ2.out.below hb3); have HB3 := hide (bt HB2.out hb3); have HL3 : Hid (Below wr.heap.size wr W3) := hide (bt HL2.out hb3); have q0 := HP3.out.c0; have q1 := HP3.out.c1; have f0 := HP3.out.fz 0; have f1 := HP3.out.fz 1; clear hs3 hb3))
      clear HR2 HP2 HRB2 HQ2 HB2
      go_wp2_with fail
      exact ⟨⟨1, _, _, _, _, by omega, by go_num, ⟨_, _, _, rfl⟩, ⟨_, _, _, rfl⟩, (HP3.out.set0 _).set1 _, (HRB3.out.setO (by omega) _).setO (by omega) _, fun _ => ⟨rfl, (HS3.out).keep (fun _ p _ => p) (fun b p _ => (Below.heap_setCell _ _ _ _ (by simp; omega)).trans (Below.heap_setCell _ _ _ _ (by simp; omega)))⟩, fun h => by omega, (HQ3.out.setC (fun e => by have := HOW.out _ e; omega) _ _).setC (fun e => by have := HOW.out _ e; omega) _ _, (HB3.out.setCell (Nat.le_succ _) _).setCell (Nat.le_succ _) _⟩, by simp [iv]⟩
    · have HBK : Hid (Blk (vw s.tk (a + 1))) := hide (vw_blk HOK.out.tb (a + 1))
      have HLK : Hid ((look s.tk (a + 1)).getD zer = vw s.tk (a + 1)) := hide (by rw [vw_num HA1.out])
      have hgl := HP.out.lt
      have hwr : IntKind.i64.wrap (a + 1) = a + 1 := by rw [IntKind.wrap_i64]; omega
      skip
      go_upto_region 8 with (first | (go_at_call 33; refine (q_read (a + 1) _ HQ.out HA1.out).mono ?_; rintro e W2 ⟨rfl, hw2⟩; rw [HLK.out] at hw2; have HR2 : Hid (Rq W2 wr.heap.size 68 (vw s.tk (a + 1))) := hide (by rw [hw2]; exact Rq.new wr 68 _); have hal2 : Below wr.heap.size wr W2 := (by rw [hw2]; exact (Below.refl _ _).alloc (Nat.le_refl _) _); have HP2 := hide (HP.out.below hal2); have HRB2 := hide (HRB.out.below hal2); have HQ2 := hide (HQ.out.below hal2); have HB2 := hide (bt HB.out hal2); have HL2 := hide hal2; clear hw2 hal2))
      clear hwr HP HRB HQ HB
      have HGG : Hid (w.heap.size + 1 < wr.heap.size) := hide hgl
      clear hgl
      generalize hgq : wr.heap.size = gr at HR2 HGG ⊢
      go_upto_region 9 with (first | (go_at_call 34; refine (saidOf_any gr 68 (vw s.tk (a + 1)) _ HBK.out HR2.out).mono ?_; rintro e W3 ⟨v3, rfl, hs3, hb3⟩; obtain ⟨p3, n3, m3, rfl⟩ := hs3.form; have HS3 := hide (hs3.sb (P := fun b => w.heap.size + 1 < b) (HR2.out.below hb3) HBK.out.1 HGG.out); have HP3 := hide (HP2.out.below hb3); have HRB3 := hide (HRB2.out.below hb3); have HQ3 := hide (HQ2.out.below hb3); have HB3 := hide (bt HB2.out hb3); have HL3 : Hid (Below wr.heap.size wr W3) := hide (bt HL2.out hb3); have q2 := HP3.out.c2; have q3 := HP3.out.c3; have f2 := HP3.out.fz 2; have f3 := HP3.out.fz 3; clear hs3 hb3))
      clear HR2 HP2 HRB2 HQ2 HB2
      go_wp2_with fail
      exact ⟨⟨2, _, _, _, _, by omega, by go_num, ⟨_, _, _, rfl⟩, ⟨_, _, _, rfl⟩, (HP3.out.set2 _).set3 _, (HRB3.out.setO (by omega) _).setO (by omega) _, fun _ => ⟨(H0.out (by omega)).1, (((H0.out (by omega)).2.below HL3.out)).keep (fun _ p _ => p) (fun b p _ => (Below.heap_setCell _ _ _ _ (by simp; omega)).trans (Below.heap_setCell _ _ _ _ (by simp; omega)))⟩, fun _ => ⟨rfl, (HS3.out).keep (fun _ p _ => p) (fun b p _ => (Below.heap_setCell _ _ _ _ (by simp; omega)).trans (Below.heap_setCell _ _ _ _ (by simp; omega)))⟩, (HQ3.out.setC (fun e => by have := HOW.out _ e; omega) _ _).setC (fun e => by have := HOW.out _ e; omega) _ _, (HB3.out.setCell (Nat.le_succ _) _).setCell (Nat.le_succ _) _⟩, by simp [iv]⟩
    · obtain ⟨e0, hs0⟩ := H0.out (by omega)
      obtain ⟨e1, hs1⟩ := H1.out (by omega)
      subst e0
      subst e1
      have HS0 := hide hs0
      have HS1 := hide hs1
      clear hs0 hs1 H0 H1
      skip
      have q0 := HP.out.c0
      have q1 := HP.out.c1
      have q2 := HP.out.c2
      have q3 := HP.out.c3
      have z0 := HRB.out.c0
      have z1 := HRB.out.c1
      have z2 := HRB.out.c2
      have z3 := HRB.out.c3
      have f0 := HRB.out.fz 0
      have f1 := HRB.out.fz 1
      have f2 := HRB.out.fz 2
      have f3 := HRB.out.fz 3
      have HF := hide ((((HRB.out.set0 (.int .i64 (saidB (vw s.tk a)).1)).set1 (.slice p0 n0 m0)).set2 (.int .i64 (saidB (vw s.tk (a + 1))).1)).set3 (.slice p1 n1 m1))
      have HK : Hid (∀ b, w.heap.size + 1 < b → ((((wr.setCell ⟨w.heap.size, 0, none⟩ (.int .i64 (saidB (vw s.tk a)).1)).setCell ⟨w.heap.size, 1, none⟩ (.slice p0 n0 m0)).setCell ⟨w.heap.size, 2, none⟩ (.int .i64 (saidB (vw s.tk (a + 1))).1)).setCell ⟨w.heap.size, 3, none⟩ (.slice p1 n1 m1)).heap[b]? = wr.heap[b]?) := hide (fun b hb => (Below.heap_setCell _ _ _ _ (by simp; omega)).trans ((Below.heap_setCell _ _ _ _ (by simp; omega)).trans ((Below.heap_setCell _ _ _ _ (by simp; omega)).trans (Below.heap_setCell _ _ _ _ (by simp; omega)))))
      go_wp2_with fail
      exact bodyPost_ret (v := .tuple #[.agg #[.int .i64 (saidB (vw s.tk a)).1, .slice p0 n0 m0, .int .i64 (saidB (vw s.tk (a + 1))).1, .slice p1 n1 m1], .nilIface]) (res_cp Try.results17 _ _ w.heap.size [_, _, _, _] _ _ rfl rfl HF.out.rg4 Try.underlying55 rfl infoP4) rfl ⟨.slice p0 n0 m0, .slice p1 n1 m1, rfl, HS0.out.keep (fun _ p _ => p) (fun b p _ => HK.out b p), HS1.out.keep (fun _ p _ => p) (fun b p _ => HK.out b p), (((HB.out.setCell (Nat.le_refl _) _).setCell (Nat.le_refl _) _).setCell (Nat.le_refl _) _).setCell (Nat.le_refl _) _⟩
def opSlot : ByteArray := ⟨#[115, 108, 111, 116]⟩
set_option maxRecDepth 100000 in
set_option maxHeartbeats 8000000 in
theorem read_bad {d bS bT : Nat} {u : Value} {s : Dst} (a : Int) (w : World) (hq : Dq w d bS bT u s) (ha : ¬ Num a) (hr : -1000 ≤ a ∧ a ≤ 2000000000) : Calls Try.prog 17 #[.pointer (some ⟨d, 0, none⟩), .int .i64 a] w fun e w' => e = .returned (.tuple #[.agg #[.int .i64 0, .slice none 0 0, .int .i64 0, .slice none 0 0], ev (some ([(opSlot, 0), (opBlock, a)], 2))]) ∧ Below w.heap.size w w' := by
  have hal0 : Below w.heap.size w (w.alloc (.cells #[.int .i64 0, .slice none 0 0, .int .i64 0, .slice none 0 0] 55)) := (Below.refl _ _).alloc (Nat.le_refl _) _
  have hal1 : Below (w.alloc (.cells #[.int .i64 0, .slice none 0 0, .int .i64 0, .slice none 0 0] 55)).heap.size (w.alloc (.cells #[.int .i64 0, .slice none 0 0, .int .i64 0, .slice none 0 0] 55)) ((w.alloc (.cells #[.int .i64 0, .slice none 0 0, .int .i64 0, .slice none 0 0] 55)).alloc (.cells #[.int .i64 0, .slice none 0 0, .int .i64 0, .slice none 0 0] 55)) := (Below.refl _ _).alloc (Nat.le_refl _) _
  have HR := hide ((b4_new w (.int .i64 0) (.slice none 0 0) (.int .i64 0) (.slice none 0 0) 55).below hal1)
  have HQ := hide (hq.below (bt hal0 hal1))
  have HB := hide (bt hal0 hal1)
  have HA := hide ha
  obtain ⟨hr0, hr1⟩ := hr
  have hwr : a + 0 = a := by omega
  clear hal0 hal1 hq
  go_enter Try.func17, Try.ntmps17
  go_upto_region 3 with fail
  generalize ((w.alloc (.cells #[.int .i64 0, .slice none 0 0, .int .i64 0, .slice none 0 0] 55)).alloc (.cells #[.int .i64 0, .slice none 0 0, .int .i64 0, .slice none 0 0] 55)) = W1 at HR HQ HB ⊢
  have z0 := HR.out.c0
  have z1 := HR.out.c1
  have z2 := HR.out.c2
  have z3 := HR.out.c3
  have f0 := HR.out.fz 0
  have f1 := HR.out.fz 1
  have f2 := HR.out.fz 2
  have f3 := HR.out.fz 3
  have HF := hide ((((HR.out.set0 (.int .i64 0)).set1 (.slice none 0 0)).set2 (.int .i64 0)).set3 (.slice none 0 0))
  refine wp_loop_rounds 1 ?_
  rw [rounds_succ]
  go_wp2_with (first | (go_at_call 33; refine (bread_bad a _ HQ.out.dk HA.out).mono ?_; rintro e w2 ⟨rfl, hw2⟩; rw [hw2]; clear hw2 w2) | (go_at_call 24; refine (wrap_some _ _ _ _ _).mono ?_; rintro e w3 ⟨rfl, hw3⟩; rw [hw3]; clear hw3 w3))
  exact bodyPost_ret (v := .tuple #[.agg #[.int .i64 0, .slice none 0 0, .int .i64 0, .slice none 0 0], ev (some ([(opSlot, 0), (opBlock, a)], 2))]) (res_cp Try.results17 _ _ w.heap.size [_, _, _, _] _ _ rfl rfl HF.out.rg4 Try.underlying55 rfl infoP4) rfl ⟨rfl, (((HB.out.setCell (Nat.le_refl _) _).setCell (Nat.le_refl _) _).setCell (Nat.le_refl _) _).setCell (Nat.le_refl _) _⟩
end Go.Proofs.Ytiedbchlgcgdeaa
namespace Go.Proofs.Ytiedbchlgcgdeaa
open Go.RowKit

theorem ne_step {cs : Cs} {k : Nat} {p : Int × List Int} (h : ∀ j (hl : j < cs.length), j < k → cs[j] ≠ p) (hk : ∀ hl : k < cs.length, cs[k] ≠ p) : ∀ j (hl : j < cs.length), j < k + 1 → cs[j] ≠ p := fun j hl hj => by
  rcases Nat.lt_succ_iff_lt_or_eq.1 hj with h1 | h1
  · exact h j hl h1
  · subst h1
    exact hk hl
theorem firmB_end {cs : Cs} {a T : Int} {B : List Int} (hT : T ≠ 0) (h : ∀ j (hl : j < cs.length), j < cs.length → cs[j] ≠ (a + T % 2, B)) : firmB cs a T B = decide (T < (slotB cs a).1) := by
  have h2 : ¬ look cs (a + T % 2) = some B := fun e => by
    obtain ⟨j, hj, e2⟩ := List.getElem_of_mem (look_mem e)
    exact h j hj hj e2
  unfold firmB
  by_cases h3 : T < (slotB cs a).1
  · rw [decide_eq_true h3, decide_eq_true (.inr (.inr h3))]
  · rw [decide_eq_false h3, decide_eq_false (fun e => e.elim hT (fun e => e.elim h2 h3))]
theorem firmB_hit {cs : Cs} (hA : Asc cs) {a T : Int} {B : List Int} {k : Nat} (hk : k < cs.length) (h : cs[k] = (a + T % 2, B)) : firmB cs a T B = true :=
  decide_eq_true (.inr (.inl ((mem_look hA).1 (by rw [← h]; exact List.getElem_mem hk))))
set_option maxRecDepth 100000 in
set_option maxHeartbeats 8000000 in
theorem firm_any {d bS bT : Nat} {u : Value} {s : Dst} (c : Nat) (a T : Int) (v : Value) (B : List Int) (z t q : Value) (w : World) (hx : B5 w c (.pointer (some ⟨d, 0, none⟩)) (.int .i64 a) z t q) (hq : Dq w d bS bT u s) (hw : s.wt < 30000) (ha : Num a) (ha1 : Num (a + 1)) (hT : 0 ≤ T) (hv : Sb (fun _ => True) w v B) (hB : Byt B) : Calls Try.prog 19 #[.pointer (some ⟨c, 0, none⟩), .agg #[.int .i64 T, v]] w fun e w' => e = .returned (.bool (firmB s.cs a T B)) ∧ Below w.heap.size w w' := by
  obtain ⟨pv, nv, mv, rfl⟩ := hv.form
  have hal0 : Below w.heap.size w (w.alloc (.cells #[.int .i64 T, .slice pv nv mv] 53)) := (Below.refl _ _).alloc (Nat.le_refl _) _
  have hs0 : (w.alloc (.cells #[.int .i64 T, .slice pv nv mv] 53)).heap.size = w.heap.size + 1 := Array.size_push _
  by_cases hT0 : T = 0
  · subst hT0
    have HB := hide hal0
    have HF : Hid (firmB s.cs a 0 B = true) := hide (decide_eq_true (.inl rfl))
    clear hal0 hs0
    go_enter Try.func19, Try.ntmps19
    go_wp2_with fail
    go_ret
    exact ⟨by rw [HF.out]; rfl, HB.out⟩
  · have hTz : (T == 0) = false := beq_eq_false_iff_ne.2 hT0
    have hal1 : Below (w.alloc (.cells #[.int .i64 T, .slice pv nv mv] 53)).heap.size (w.alloc (.cells #[.int .i64 T, .slice pv nv mv] 53)) ((w.alloc (.cells #[.int .i64 T, .slice pv nv mv] 53)).alloc (.cells #[.int .i64 0, .slice none 0 0, .int .i64 0, .slice none 0 0] 55)) := (Below.refl _ _).alloc (Nat.le_refl _) _
    have HP : Hid (B4 ((w.alloc (.cells #[.int .i64 T, .slice pv nv mv] 53)).alloc (.cells #[.int .i64 0, .slice none 0 0, .int .i64 0, .slice none 0 0] 55)) (w.heap.size + 1) (.int .i64 0) (.slice none 0 0) (.int .i64 0) (.slice none 0 0)) := hide (by have i := b4_new (w.alloc (.cells #[.int .i64 T, .slice pv nv mv] 53)) (.int .i64 0) (.slice none 0 0) (.int .i64 0) (.slice none 0 0) 55; rw [hs0] at i; exact i)
    have HBX := hide ((B2.new w (.int .i64 T) (.slice pv nv mv) 53).below hal1)
    have hal := bt hal0 hal1
    have HX := hide (hx.below hal)
    have HQ := hide (hq.below hal)
    have HV := hide (hv.below hal)
    have HB := hide hal
    have HOK := hide hq.ok
    have HCX : Hid (c < w.heap.size) := hide hx.lt
    have HBB := hide hB
    skip
    have HVP : Hid (Sb (fun b => b < w.heap.size) ((w.alloc (.cells #[.int .i64 T, .slice pv nv mv] 53)).alloc (.cells #[.int .i64 0, .slice none 0 0, .int .i64 0, .slice none 0 0] 55)) (.slice pv nv mv) B) := hide (by refine (hv.keep (Q := fun b => b < w.heap.size) (W' := w) (fun _ _ h => h) (fun _ _ _ => rfl)).below hal)
    have HGS : Hid ((w.heap.size + 1) < ((w.alloc (.cells #[.int .i64 T, .slice pv nv mv] 53)).alloc (.cells #[.int .i64 0, .slice none 0 0, .int .i64 0, .slice none 0 0] 55)).heap.size) := hide (by rw [show ((w.alloc (.cells #[.int .i64 T, .slice pv nv mv] 53)).alloc (.cells #[.int .i64 0, .slice none 0 0, .int .i64 0, .slice none 0 0] 55)).heap.size = (w.alloc (.cells #[.int .i64 T, .slice pv nv mv] 53)).heap.size + 1 from Array.size_push _, hs0]; omega)
    have HA := hide ha
    have HA1 := hide ha1
    clear hal hal0 hal1 hs0 hx hq ha1 hv HV hB
    go_enter Try.func19, Try.ntmps19
    go_upto_region 4 with fail
    clear hTz
    generalize ((w.alloc (.cells #[.int .i64 T, .slice pv nv mv] 53)).alloc (.cells #[.int .i64 0, .slice none 0 0, .int .i64 0, .slice none 0 0] 55)) = W1 at HP HBX HX HQ HVP HB HGS ⊢
    have x0 := HX.out.c0
    go_upto_region 5 with (first | (go_at_call 35; refine (q_cells _ HQ.out hw).mono ?_; rintro e W2 ⟨v1, ps, rfl, hc1, he1, hb1⟩; obtain ⟨a0, k0, rfl⟩ := cw_form hc1; have HC2 := hide hc1; have HE := hide he1; have HP2 := hide (HP.out.below hb1); have HBX2 := hide (HBX.out.below hb1); have HX2 := hide (HX.out.below hb1); have HV2 := hide (HVP.out.below hb1); have HB2 := hide (bt HB.out hb1); clear hc1 he1 hb1))
    clear x0 HP HX HQ HB HBX HVP
    have HPL : Hid (ps.length = s.cs.length ∧ ps.length < 30000) := hide (by have h1 := congrArg List.length HE.out; simp only [csOf, List.length_map] at h1; have h2 : s.wt = s.cs.length + s.lo.length := rfl; omega)
    have hpl := HPL.out.2
    go_loopw [18] (fun i W => ∃ (k : Nat) (v0 v1 : Value), k ≤ ps.length ∧ i = .int .i64 k ∧ (∃ p n m, v0 = .slice p n m) ∧ (∃ p n m, v1 = .slice p n m) ∧ B4 W (w.heap.size + 1) (.int .i64 (saidB (vw (s.cs.take k) a)).1) v0 (.int .i64 (saidB (vw (s.cs.take k) (a + 1))).1) v1 ∧ Ba (fun k => k = (w.heap.size + 1)) W2 W ∧ (∀ j (hl : j < s.cs.length), j < k → s.cs[j] ≠ (a + T % 2, B))) (fun i _ => ps.length - (iv i).toNat)
    case atStart => exact ⟨0, _, _, Nat.zero_le _, rfl, ⟨_, _, _, rfl⟩, ⟨_, _, _, rfl⟩, by rw [List.take_zero, vw_num HA.out, vw_num HA1.out, show ((look [] a).getD zer) = zer from rfl, show ((look [] (a + 1)).getD zer) = zer from rfl, saidB_zer]; exact HP2.out, Ba.refl _ _, fun j hl h => by omega⟩
    case round =>
      obtain ⟨k, v0, v1, hk, rfl, ⟨p0, n0, m0, rfl⟩, ⟨p1, n1, m1, rfl⟩, hp, hba, hne⟩ := hrel
      clear HP2
      have HP := hide hp
      have HBA := hide hba
      have HNE := hide hne
      have HC := hide (HC2.out.ba hba HGS.out)
      have HX := hide (HX2.out.keepB (hba.block _ HX2.out.lt (by have := HCX.out; omega)))
      have HBX := hide (HBX2.out.keepB (hba.block _ HBX2.out.lt (by omega)))
      have HV := hide (HV2.out.keep (Q := fun _ => True) (W' := wr) (fun _ _ _ => trivial) (fun b p hb => hba.block b hb (by omega)))
      have HBL := hide (hba.of_eq HB2.out (Nat.le_succ _) HB2.out.size)
      clear hp hba hne
      by_cases hlt : k < ps.length
      · have hlc : k < s.cs.length := by have := HPL.out.1; omega
        have HQ : Hid (((ps[k]).1, (ps[k]).2.2) = s.cs[k]) := hide (by have := congrArg (fun l => l[k]?) HE.out; simp only [csOf, List.getElem?_map, List.getElem?_eq_getElem hlt, List.getElem?_eq_getElem hlc, Option.map_some] at this; exact Option.some.inj this)
        have HBK : Hid (Num (s.cs[k]).1 ∧ Blk (s.cs[k]).2) := hide (HOK.out.cb _ (List.getElem_mem hlc))
        have HS0 := hide (saidB_snoc hlc HOK.out.asc HA.out)
        have HS1 := hide (saidB_snoc hlc HOK.out.asc HA1.out)
        obtain ⟨cb, rfl, e0, e1⟩ := cw_at HC.out hlt
        have HRW : Hid (Rq wr (ps[k]).2.1 68 (ps[k]).2.2) := hide (HC.out.mem _ (List.getElem_mem hlt)).2.2
        rw [← HQ.out] at HBK HS0 HS1
        simp only at HBK HS0 HS1
        generalize (ps[k]).1 = qa at e0 HBK HS0 HS1 HQ
        generalize (ps[k]).2.1 = qg at e1 HRW
        generalize (ps[k]).2.2 = qb at HBK HS0 HS1 HRW HQ
        generalize saidB (vw (s.cs.take k) a) = y0 at HS0 HP
        generalize saidB (vw (s.cs.take k) (a + 1)) = y1 at HS1 HP
        go_upto_region 7 with fail
        have hal := (Below.refl wr.heap.size wr).alloc (Nat.le_refl _) (.cells #[.int .i64 qa, .slice (some ⟨qg, 0, none⟩) 64 64] 81)
        have HK := hide (B2.new wr (.int .i64 qa) (.slice (some ⟨qg, 0, none⟩) 64 64) 81)
        have HP2 := hide (HP.out.below hal)
        have HX3 := hide (HX.out.below hal)
        have HBX3 := hide (HBX.out.below hal)
        have HV3 := hide (HV.out.below hal)
        have HR3 := hide (HRW.out.below hal)
        have HBA3 := hide (HBA.out.call hal)
        have HBL3 := hide (bt HBL.out hal)
        clear hal e0 e1 HRW HP HX HBX HV HBA HC HBL
        generalize wr.alloc (.cells #[.int .i64 qa, .slice (some ⟨qg, 0, none⟩) 64 64] 81) = W3 at HK HP2 HX3 HBX3 HV3 HR3 HBA3 HBL3 ⊢
        generalize wr.heap.size = bx at HK ⊢
        have hdw : Below W3.heap.size W3 W3.drew := (Below.refl _ _).drew
        refine wp_region_held_drew (S := fun W => W.cell? ⟨bx, 0, none⟩ = some (.int .i64 qa) ∧ W.cell? ⟨c, 1, none⟩ = some (.int .i64 a)) (by kernel_rfl) ⟨(HK.out.below hdw).c0, (HX3.out.below hdw).c1⟩ (fun hHeld => ?_)
        have HK4 := hide (HK.out.below hdw)
        have HP4 := hide (HP2.out.below hdw)
        have HBX4 := hide (HBX3.out.below hdw)
        have HV4 := hide (HV3.out.below hdw)
        have HR4 := hide (HR3.out.below hdw)
        have HBA4 := hide (HBA3.out.call hdw)
        have HBL4 := hide (bt HBL3.out hdw)
        generalize W3.drew = W4 at HK4 HP4 HBX4 HV4 HR4 HBA4 HBL4 hHeld ⊢
        clear hdw HK HP2 HX3 HBX3 HV3 HR3 HBA3 HBL3
        obtain ⟨hqa0, hqa1⟩ := HBK.out.1
        obtain ⟨ha0, ha1⟩ := HA.out
        have hwr : IntKind.i64.wrap (qa - a) = qa - a := by rw [IntKind.wrap_i64]; omega
        refine wpAnyH_take (i := 0) (oi := _) (v := .pointer (some ⟨bx, 0, none⟩)) rfl (by kernel_rfl) (by kernel_rfl) (by kernel_rfl) (fun _ _ _ h => h) (Or.inl ⟨by rfl, by intro w hSw; go_simp⟩) hHeld ?_
        change wpAnyH _ _ _ _ _ _ _ (Act.put _ (some 22) _) _
        simp only [Act.put, List.setIfInBounds_toArray, List.set_cons_zero, List.set_cons_succ]
        refine wpAnyH_take (i := 1) (oi := _) (v := .int .i64 qa) rfl (by kernel_rfl) (by kernel_rfl) (by kernel_rfl) (fun _ _ _ h => h) (Or.inl ⟨by rfl, by intro w hSw; have h1 := hSw.1; go_simp⟩) hHeld ?_
        change wpAnyH _ _ _ _ _ _ _ (Act.put _ (some 23) _) _
        simp only [Act.put, List.setIfInBounds_toArray, List.set_cons_zero, List.set_cons_succ]
        refine wpAnyH_take (i := 2) (oi := _) (v := .pointer (some ⟨c, 0, none⟩)) rfl (by kernel_rfl) (by kernel_rfl) (by kernel_rfl) (fun _ _ _ h => h) (Or.inl ⟨by rfl, by intro w hSw; go_simp⟩) hHeld ?_
        change wpAnyH _ _ _ _ _ _ _ (Act.put _ (some 24) _) _
        simp only [Act.put, List.setIfInBounds_toArray, List.set_cons_zero, List.set_cons_succ]
        refine wpAnyH_take (i := 3) (oi := _) (v := .pointer (some ⟨c, 0, none⟩)) rfl (by kernel_rfl) (by kernel_rfl) (by kernel_rfl) (fun _ _ _ h => h) (Or.inl ⟨by rfl, by intro w hSw; go_simp⟩) hHeld ?_
        change wpAnyH _ _ _ _ _ _ _ (Act.put _ (some 25) _) _
        simp only [Act.put, List.setIfInBounds_toArray, List.set_cons_zero, List.set_cons_succ]
        refine wpAnyH_take (i := 4) (oi := _) (v := .pointer (some ⟨c, 1, none⟩)) rfl (by kernel_rfl) (by kernel_rfl) (by kernel_rfl) (fun _ _ _ h => h) (Or.inl ⟨by rfl, by intro w hSw; go_simp⟩) hHeld ?_
        change wpAnyH _ _ _ _ _ _ _ (Act.put _ (some 26) _) _
        simp only [Act.put, List.setIfInBounds_toArray, List.set_cons_zero, List.set_cons_succ]
        refine wpAnyH_take (i := 5) (oi := _) (v := .int .i64 a) rfl (by kernel_rfl) (by kernel_rfl) (by kernel_rfl) (fun _ _ _ h => h) (Or.inl ⟨by rfl, by intro w hSw; have h1 := hSw.2; go_simp⟩) hHeld ?_
        change wpAnyH _ _ _ _ _ _ _ (Act.put _ (some 27) _) _
        simp only [Act.put, List.setIfInBounds_toArray, List.set_cons_zero, List.set_cons_succ]
        refine wpAnyH_take (i := 6) (oi := _) (v := .int .i64 (qa - a)) rfl (by kernel_rfl) (by kernel_rfl) (by kernel_rfl) (fun _ _ _ h => h) (Or.inl ⟨by rfl, by intro w hSw; go_simp⟩) hHeld ?_
        change wpAnyH _ _ _ _ _ _ _ (Act.put _ (some 28) _) _
        simp only [Act.put, List.setIfInBounds_toArray, List.set_cons_zero, List.set_cons_succ]
        refine wpAnyH_take (i := 7) (oi := _) (v := .int .i64 (qa - a)) rfl (by kernel_rfl) (by kernel_rfl) (by kernel_rfl) (fun _ _ _ h => h) (Or.inl ⟨by rfl, by intro w hSw; go_simp⟩) hHeld ?_
        change wpAnyH _ _ _ _ _ _ _ (Act.put _ (some 8) _) _
        simp only [Act.put, List.setIfInBounds_toArray, List.set_cons_zero, List.set_cons_succ]
        refine wpAnyH_done (by kernel_rfl) ?_ _
        clear hHeld hwr
        rcases (show qa < a ∨ (a ≤ qa ∧ a + 1 < qa) ∨ qa = a ∨ qa = a + 1 by omega) with hc | ⟨hc, hc2⟩ | rfl | rfl
        · have h1 : ¬ 0 ≤ qa - a := by omega
          go_wp2_with fail
          exact ⟨⟨k + 1, _, _, by omega, by go_num, ⟨_, _, _, rfl⟩, ⟨_, _, _, rfl⟩, by rw [HS0.out, HS1.out, if_neg (by omega), if_neg (by omega)]; exact HP4.out, HBA4.out, ne_step HNE.out (fun hl e => by rw [← HQ.out] at e; have := congrArg Prod.fst e; simp only at this; omega)⟩, by simp [iv]; omega⟩
        · have h1 : 0 ≤ qa - a := by omega
          have h2 : ¬ qa - a < 2 := by omega
          go_wp2_with fail
          exact ⟨⟨k + 1, _, _, by omega, by go_num, ⟨_, _, _, rfl⟩, ⟨_, _, _, rfl⟩, by rw [HS0.out, HS1.out, if_neg (by omega), if_neg (by omega)]; exact HP4.out, HBA4.out, ne_step HNE.out (fun hl e => by rw [← HQ.out] at e; have := congrArg Prod.fst e; simp only at this; omega)⟩, by simp [iv]; omega⟩
        · have hz : qa - qa = 0 := by omega
          simp only [hz]
          have b0 := HBX4.out.c0
          have b1 := HBX4.out.c1
          by_cases hT2 : T % 2 = 0
          · have hpl : ((0 : Int) == T % 2) = true := beq_iff_eq.2 (by omega)
            by_cases hqb : qb = B
            · have hdb : decide (qb = B) = true := decide_eq_true hqb
              have HF : Hid (firmB s.cs qa T B = true) := hide (firmB_hit HOK.out.asc hlc (by rw [← HQ.out, hqb]; exact congrArg (fun x => (x, B)) (by omega)))
              go_wp2_with (first | (go_at_call 23; refine (place_any T _ _ ⟨_, _, _, rfl⟩ hT).mono ?_; rintro e W5 ⟨rfl, hb5⟩; have HK5 := hide (HK4.out.below hb5); have HP5 := hide (HP4.out.below hb5); have HBX5 := hide (HBX4.out.below hb5); have HV5 := hide (HV4.out.below hb5); have HR5 := hide (HR4.out.below hb5); have HBA5 := hide (HBA4.out.call hb5); have HBL5 := hide (bt HBL4.out hb5); have k1 := HK5.out.c1; have b1 := HBX5.out.c1; clear hb5) | (go_at_call 36; refine (beqC_any _ _ qb B _ (HR5.out.all HBK.out.2.1.symm) HV5.out.sl HBK.out.2.2 HBB.out).mono ?_; rintro e W6 ⟨rfl, hw6⟩; rw [hw6, hdb]; clear hw6 W6))
              go_ret
              exact ⟨by rw [HF.out]; rfl, HBL5.out⟩
            · have hdb : decide (qb = B) = false := decide_eq_false hqb
              go_upto_region 11 with (first | (go_at_call 23; refine (place_any T _ _ ⟨_, _, _, rfl⟩ hT).mono ?_; rintro e W5 ⟨rfl, hb5⟩; have HK5 := hide (HK4.out.below hb5); have HP5 := hide (HP4.out.below hb5); have HBX5 := hide (HBX4.out.below hb5); have HV5 := hide (HV4.out.below hb5); have HR5 := hide (HR4.out.below hb5); have HBA5 := hide (HBA4.out.call hb5); have HBL5 := hide (bt HBL4.out hb5); have k1 := HK5.out.c1; have b1 := HBX5.out.c1; clear hb5) | (go_at_call 36; refine (beqC_any _ _ qb B _ (HR5.out.all HBK.out.2.1.symm) HV5.out.sl HBK.out.2.2 HBB.out).mono ?_; rintro e W6 ⟨rfl, hw6⟩; rw [hw6, hdb]; clear hw6 W6))
              clear b0
              go_wp2_with (first | (go_at_call 34; refine (saidOf_any qg 68 qb _ HBK.out.2 HR5.out).mono ?_; rintro e W7 ⟨v7, rfl, hs7, hb7⟩; obtain ⟨p7, n7, m7, rfl⟩ := hs7.form; have HP7 := hide (HP5.out.below hb7); have HBA7 := hide (HBA5.out.call hb7); have q0 := HP7.out.c0; have q1 := HP7.out.c1; have f0 := HP7.out.fz 0; have f1 := HP7.out.fz 1; clear hs7 hb7))
              exact ⟨⟨k + 1, _, _, by omega, by go_num, ⟨_, _, _, rfl⟩, ⟨_, _, _, rfl⟩, by rw [HS0.out, HS1.out, if_pos (by trivial), if_neg (by omega)]; exact (HP7.out.set0 _).set1 _, (HBA7.out.set (fun _ => rfl) _ _).set (fun _ => rfl) _ _, ne_step HNE.out (fun hl e => by rw [← HQ.out] at e; have := congrArg Prod.snd e; exact hqb this)⟩, by simp [iv]; omega⟩
          · have hpl : ((0 : Int) == T % 2) = false := beq_eq_false_iff_ne.2 (by omega)
            go_upto_region 11 with (first | (go_at_call 23; refine (place_any T _ _ ⟨_, _, _, rfl⟩ hT).mono ?_; rintro e W5 ⟨rfl, hb5⟩; have HK5 := hide (HK4.out.below hb5); have HP5 := hide (HP4.out.below hb5); have HBX5 := hide (HBX4.out.below hb5); have HV5 := hide (HV4.out.below hb5); have HR5 := hide (HR4.out.below hb5); have HBA5 := hide (HBA4.out.call hb5); have HBL5 := hide (bt HBL4.out hb5); have k1 := HK5.out.c1; have b1 := HBX5.out.c1; clear hb5))
            clear b0
            go_wp2_with (first | (go_at_call 34; refine (saidOf_any qg 68 qb _ HBK.out.2 HR5.out).mono ?_; rintro e W7 ⟨v7, rfl, hs7, hb7⟩; obtain ⟨p7, n7, m7, rfl⟩ := hs7.form; have HP7 := hide (HP5.out.below hb7); have HBA7 := hide (HBA5.out.call hb7); have q0 := HP7.out.c0; have q1 := HP7.out.c1; have f0 := HP7.out.fz 0; have f1 := HP7.out.fz 1; clear hs7 hb7))
            exact ⟨⟨k + 1, _, _, by omega, by go_num, ⟨_, _, _, rfl⟩, ⟨_, _, _, rfl⟩, by rw [HS0.out, HS1.out, if_pos (by trivial), if_neg (by omega)]; exact (HP7.out.set0 _).set1 _, (HBA7.out.set (fun _ => rfl) _ _).set (fun _ => rfl) _ _, ne_step HNE.out (fun hl e => by rw [← HQ.out] at e; have := congrArg Prod.fst e; simp only at this; omega)⟩, by simp [iv]; omega⟩
        · have hz : a + 1 - a = 1 := by omega
          simp only [hz]
          have b0 := HBX4.out.c0
          have b1 := HBX4.out.c1
          by_cases hT2 : T % 2 = 1
          · have hpl : ((1 : Int) == T % 2) = true := beq_iff_eq.2 (by omega)
            by_cases hqb : qb = B
            · have hdb : decide (qb = B) = true := decide_eq_true hqb
              have HF : Hid (firmB s.cs a T B = true) := hide (firmB_hit HOK.out.asc hlc (by rw [← HQ.out, hqb]; exact congrArg (fun x => (x, B)) (by omega)))
              go_wp2_with (first | (go_at_call 23; refine (place_any T _ _ ⟨_, _, _, rfl⟩ hT).mono ?_; rintro e W5 ⟨rfl, hb5⟩; have HK5 := hide (HK4.out.below hb5); have HP5 := hide (HP4.out.below hb5); have HBX5 := hide (HBX4.out.below hb5); have HV5 := hide (HV4.out.below hb5); have HR5 := hide (HR4.out.below hb5); have HBA5 := hide (HBA4.out.call hb5); have HBL5 := hide (bt HBL4.out hb5); have k1 := HK5.out.c1; have b1 := HBX5.out.c1; clear hb5) | (go_at_call 36; refine (beqC_any _ _ qb B _ (HR5.out.all HBK.out.2.1.symm) HV5.out.sl HBK.out.2.2 HBB.out).mono ?_; rintro e W6 ⟨rfl, hw6⟩; rw [hw6, hdb]; clear hw6 W6))
              go_ret
              exact ⟨by rw [HF.out]; rfl, HBL5.out⟩
            · have hdb : decide (qb = B) = false := decide_eq_false hqb
              go_upto_region 11 with (first | (go_at_call 23; refine (place_any T _ _ ⟨_, _, _, rfl⟩ hT).mono ?_; rintro e W5 ⟨rfl, hb5⟩; have HK5 := hide (HK4.out.below hb5); have HP5 := hide (HP4.out.below hb5); have HBX5 := hide (HBX4.out.below hb5); have HV5 := hide (HV4.out.below hb5); have HR5 := hide (HR4.out.below hb5); have HBA5 := hide (HBA4.out.call hb5); have HBL5 := hide (bt HBL4.out hb5); have k1 := HK5.out.c1; have b1 := HBX5.out.c1; clear hb5) | (go_at_call 36; refine (beqC_any _ _ qb B _ (HR5.out.all HBK.out.2.1.symm) HV5.out.sl HBK.out.2.2 HBB.out).mono ?_; rintro e W6 ⟨rfl, hw6⟩; rw [hw6, hdb]; clear hw6 W6))
              clear b0
              go_wp2_with (first | (go_at_call 34; refine (saidOf_any qg 68 qb _ HBK.out.2 HR5.out).mono ?_; rintro e W7 ⟨v7, rfl, hs7, hb7⟩; obtain ⟨p7, n7, m7, rfl⟩ := hs7.form; have HP7 := hide (HP5.out.below hb7); have HBA7 := hide (HBA5.out.call hb7); have q2 := HP7.out.c2; have q3 := HP7.out.c3; have f2 := HP7.out.fz 2; have f3 := HP7.out.fz 3; clear hs7 hb7))
              exact ⟨⟨k + 1, _, _, by omega, by go_num, ⟨_, _, _, rfl⟩, ⟨_, _, _, rfl⟩, by rw [HS0.out, HS1.out, if_neg (by omega), if_pos (by trivial)]; exact (HP7.out.set2 _).set3 _, (HBA7.out.set (fun _ => rfl) _ _).set (fun _ => rfl) _ _, ne_step HNE.out (fun hl e => by rw [← HQ.out] at e; have := congrArg Prod.snd e; exact hqb this)⟩, by simp [iv]; omega⟩
          · have hpl : ((1 : Int) == T % 2) = false := beq_eq_false_iff_ne.2 (by omega)
            go_upto_region 11 with (first | (go_at_call 23; refine (place_any T _ _ ⟨_, _, _, rfl⟩ hT).mono ?_; rintro e W5 ⟨rfl, hb5⟩; have HK5 := hide (HK4.out.below hb5); have HP5 := hide (HP4.out.below hb5); have HBX5 := hide (HBX4.out.below hb5); have HV5 := hide (HV4.out.below hb5); have HR5 := hide (HR4.out.below hb5); have HBA5 := hide (HBA4.out.call hb5); have HBL5 := hide (bt HBL4.out hb5); have k1 := HK5.out.c1; have b1 := HBX5.out.c1; clear hb5))
            clear b0
            go_wp2_with (first | (go_at_call 34; refine (saidOf_any qg 68 qb _ HBK.out.2 HR5.out).mono ?_; rintro e W7 ⟨v7, rfl, hs7, hb7⟩; obtain ⟨p7, n7, m7, rfl⟩ := hs7.form; have HP7 := hide (HP5.out.below hb7); have HBA7 := hide (HBA5.out.call hb7); have q2 := HP7.out.c2; have q3 := HP7.out.c3; have f2 := HP7.out.fz 2; have f3 := HP7.out.fz 3; clear hs7 hb7))
            exact ⟨⟨k + 1, _, _, by omega, by go_num, ⟨_, _, _, rfl⟩, ⟨_, _, _, rfl⟩, by rw [HS0.out, HS1.out, if_neg (by omega), if_pos (by trivial)]; exact (HP7.out.set2 _).set3 _, (HBA7.out.set (fun _ => rfl) _ _).set (fun _ => rfl) _ _, ne_step HNE.out (fun hl e => by rw [← HQ.out] at e; have := congrArg Prod.fst e; simp only at this; omega)⟩, by simp [iv]; omega⟩
      · obtain rfl : k = ps.length := by omega
        have e : s.cs.take ps.length = s.cs := List.take_of_length_le (by have := HPL.out.1; omega)
        rw [e] at HP
        clear e
        have HFE : Hid (firmB s.cs a T B = decide (T < (slotB s.cs a).1)) := hide (firmB_end hT0 (fun j hl _ => HNE.out j hl (by have := HPL.out.1; omega)))
        have HN0 := hide (saidB_nn (vw_blk HOK.out.cb a))
        have HN1 := hide (saidB_nn (vw_blk HOK.out.cb (a + 1)))
        have HF : Hid ((newV (saidB (vw s.cs a)).1 (.slice p0 n0 m0) (saidB (vw s.cs (a + 1))).1 (.slice p1 n1 m1)).1 = (slotB s.cs a).1) := hide (newV_fst _ _ _ _)
        generalize (saidB (vw s.cs a)).1 = t0 at HP HN0 HF
        generalize (saidB (vw s.cs (a + 1))).1 = t1 at HP HN1 HF
        generalize (slotB s.cs a).1 = nn at HF HFE
        go_upto_region 13 with fail
        have hdw : Below wr.heap.size wr wr.drew := (Below.refl _ _).drew
        refine wp_region_held_drew (S := fun W => B4 W (w.heap.size + 1) (.int .i64 t0) (.slice p0 n0 m0) (.int .i64 t1) (.slice p1 n1 m1) ∧ B2 W w.heap.size (.int .i64 T) (.slice pv nv mv)) (by kernel_rfl) ⟨HP.out.below hdw, HBX.out.below hdw⟩ (fun hHeld => ?_)
        have HBL1 := hide (bt HBL.out hdw)
        generalize wr.drew = W1 at HBL1 hHeld ⊢
        clear hdw HP HBX HBL
        refine wpAnyH_take (i := 0) (oi := _) (v := .agg #[.int .i64 t0, .slice p0 n0 m0, .int .i64 t1, .slice p1 n1 m1]) rfl (by kernel_rfl) (by kernel_rfl) (by kernel_rfl) (fun _ _ _ h => h) (Or.inl ⟨by rfl, by intro w hSw; have h0 := hSw.1.c0; have h1 := hSw.1.c1; have h2 := hSw.1.c2; have h3 := hSw.1.c3; go_simp⟩) hHeld ?_
        change wpAnyH _ _ _ _ _ _ _ (Act.put _ (some 52) _) _
        simp only [Act.put, List.setIfInBounds_toArray, List.set_cons_zero, List.set_cons_succ]
        refine wpAnyH_take (i := 3) (oi := _) (v := .pointer (some ⟨w.heap.size, 0, none⟩)) rfl (by kernel_rfl) (by kernel_rfl) (by kernel_rfl) (fun _ _ _ h => h) (Or.inl ⟨by rfl, by intro w hSw; go_simp⟩) hHeld ?_
        change wpAnyH _ _ _ _ _ _ _ (Act.put _ (some 55) _) _
        simp only [Act.put, List.setIfInBounds_toArray, List.set_cons_zero, List.set_cons_succ]
        refine wpAnyH_take (i := 4) (oi := _) (v := .int .i64 T) rfl (by kernel_rfl) (by kernel_rfl) (by kernel_rfl) (fun _ _ _ h => h) (Or.inl ⟨by rfl, by intro w hSw; have h0 := hSw.2.c0; go_simp⟩) hHeld ?_
        change wpAnyH _ _ _ _ _ _ _ (Act.put _ (some 56) _) _
        simp only [Act.put, List.setIfInBounds_toArray, List.set_cons_zero, List.set_cons_succ]
        refine wpAnyH_ready (rs := [1]) (by kernel_rfl) (by simp) ?_
        refine AllReadyH.cons (o := _) rfl (fun K hK => ?_) AllReadyH.nil
        go_simp
        go_at_call 18
        refine (newest_any t0 t1 _ _ _ HN0.out HN1.out ⟨_, _, _, rfl⟩ ⟨_, _, _, rfl⟩).mono ?_
        rintro e W5 ⟨rfl, hb5⟩
        rw [HF.out]
        generalize (newV t0 (.slice p0 n0 m0) t1 (.slice p1 n1 m1)).2 = vy
        go_wp2_with fail
        refine hK.out _ _ ⟨hHeld.1.below hb5, hHeld.2.below hb5⟩ (fun hHeld1 => ?_)
        clear hK K hHeld
        have hHeld := hHeld1
        clear hHeld1
        have HB5 := hide (bt HBL1.out hb5)
        clear hb5
        have hfl := fldS0 nn vy
        refine wpAnyH_take (i := 2) (oi := _) (v := .int .i64 nn) rfl (by kernel_rfl) (by kernel_rfl) (by kernel_rfl) (fun _ _ _ h => h) (Or.inl ⟨by rfl, by intro w hSw; have h1 := hfl w; go_simp⟩) hHeld ?_
        change wpAnyH _ _ _ _ _ _ _ (Act.put _ (some 54) _) _
        simp only [Act.put, List.setIfInBounds_toArray, List.set_cons_zero, List.set_cons_succ]
        clear hfl
        cases hdd : decide (T < nn)
        · refine wpAnyH_take (i := 5) (oi := _) (v := .bool false) rfl (by kernel_rfl) (by kernel_rfl) (by kernel_rfl) (fun _ _ _ h => h) (Or.inl ⟨by rfl, by intro w hSw; go_simp⟩) hHeld ?_
          change wpAnyH _ _ _ _ _ _ _ (Act.put _ (some 57) _) _
          simp only [Act.put, List.setIfInBounds_toArray, List.set_cons_zero, List.set_cons_succ]
          refine wpAnyH_take (i := 6) (oi := _) (v := .bool false) rfl (by kernel_rfl) (by kernel_rfl) (by kernel_rfl) (fun _ _ _ h => h) (Or.inl ⟨by rfl, by intro w hSw; go_simp⟩) hHeld ?_
          change wpAnyH _ _ _ _ _ _ _ (Act.put _ (some 4) _) _
          simp only [Act.put, List.setIfInBounds_toArray, List.set_cons_zero, List.set_cons_succ]
          refine wpAnyH_done (by kernel_rfl) ?_ _
          clear hHeld
          go_wp2_with fail
          go_ret
          exact ⟨by rw [HFE.out, hdd]; rfl, HB5.out⟩
        · refine wpAnyH_take (i := 5) (oi := _) (v := .bool true) rfl (by kernel_rfl) (by kernel_rfl) (by kernel_rfl) (fun _ _ _ h => h) (Or.inl ⟨by rfl, by intro w hSw; go_simp⟩) hHeld ?_
          change wpAnyH _ _ _ _ _ _ _ (Act.put _ (some 57) _) _
          simp only [Act.put, List.setIfInBounds_toArray, List.set_cons_zero, List.set_cons_succ]
          refine wpAnyH_take (i := 6) (oi := _) (v := .bool true) rfl (by kernel_rfl) (by kernel_rfl) (by kernel_rfl) (fun _ _ _ h => h) (Or.inl ⟨by rfl, by intro w hSw; go_simp⟩) hHeld ?_
          change wpAnyH _ _ _ _ _ _ _ (Act.put _ (some 4) _) _
          simp only [Act.put, List.setIfInBounds_toArray, List.set_cons_zero, List.set_cons_succ]
          refine wpAnyH_done (by kernel_rfl) ?_ _
          clear hHeld
          go_wp2_with fail
          go_ret
          exact ⟨by rw [HFE.out, hdd]; rfl, HB5.out⟩
end Go.Proofs.Ytiedbchlgcgdeaa
namespace Go.Proofs.Ytiedbchlgcgdeaa
open Go.RowKit

/-- A slot in its memory. -/
structure Slo (W : World) (c d bS bT : Nat) (u : Value) (s : Dst) (a T : Int) (v : Value) (V : List Int) (lz : Bool) : Prop where
  q : Dq W d bS bT u s
  x : B5 W c (.pointer (some ⟨d, 0, none⟩)) (.int .i64 a) (.int .i64 T) v (.bool lz)
  no : ¬ Own d bS bT u c
  sl : Sb (fun b => ¬ (Own d bS bT u b ∨ b = c)) W v (blkS T V)
theorem Slo.below {W W' : World} {c d bS bT : Nat} {u : Value} {s : Dst} {a T : Int} {v : Value} {V : List Int} {lz : Bool} (h : Slo W c d bS bT u s a T v V lz) (hb : Below W.heap.size W W') : Slo W' c d bS bT u s a T v V lz := ⟨h.q.below hb, h.x.below hb, h.no, h.sl.below hb⟩
/-- What Open answers. -/
def SopP (w w' : World) (e : Ending) (d bS bT : Nat) (u : Value) (s : Dst) (a T : Int) (V : List Int) : Prop := ∃ c v, e = .returned (.tuple #[.pointer (some ⟨c, 0, none⟩), .nilIface]) ∧ Slo w' c d bS bT u s a T v V false ∧ w.heap.size ≤ c ∧ Below w.heap.size w w'
set_option maxRecDepth 100000 in
set_option maxHeartbeats 8000000 in
theorem sopen_ok {d bS bT : Nat} {u : Value} {s : Dst} (a T : Int) (V : List Int) (w : World) (hq : Dq w d bS bT u s) (hlo : s.lo = []) (hw : s.wt < 30000) (ha : Num a) (ha1 : Num (a + 1)) (hN : slotB s.cs a = (T, blkS T V)) (hf : firmB s.cs a T (blkS T V) = true) (hT : 0 ≤ T) (hB : Byt (blkS T V)) : Calls Try.prog 8 #[.pointer (some ⟨d, 0, none⟩), .int .i64 a] w fun e w' => SopP w w' e d bS bT u s a T V := by
  have HQ := hide hq
  have HOK := hide hq.ok
  have HOW : Hid (∀ k, Own d bS bT u k → k < w.heap.size) := hide (fun k e => hq.dk.lt e)
  have HA := hide ha
  have HA1 := hide ha1
  have HFI := hide hf
  have HBY := hide hB
  have HNW : Hid (slotB s.tk a = (T, blkS T V)) := hide (by rw [show s.tk = s.cs by unfold Dst.tk; rw [hlo]; rfl]; exact hN)
  clear hq ha ha1 hN hf hlo hB
  go_enter Try.func8, Try.ntmps8
  go_upto_region 4 with (first | (go_at_call 17; refine (read_ok a _ HQ.out HA.out HA1.out).mono ?_; rintro e W2 ⟨v0, v1, rfl, hs0, hs1, hb2⟩; obtain ⟨p0, n0, m0, rfl⟩ := hs0.form; obtain ⟨p1, n1, m1, rfl⟩ := hs1.form; have HS0 := hide hs0; have HS1 := hide hs1; have HB2 := hide hb2; clear hs0 hs1 hb2))
  have HF1 : Hid ((newV (saidB (vw s.tk a)).1 (.slice p0 n0 m0) (saidB (vw s.tk (a + 1))).1 (.slice p1 n1 m1)).1 = T) := hide ((newV_fst _ _ _ _).trans (congrArg Prod.fst HNW.out))
  have HF2 : Hid (Sb (fun b => w.heap.size + 1 < b) W2 (newV (saidB (vw s.tk a)).1 (.slice p0 n0 m0) (saidB (vw s.tk (a + 1))).1 (.slice p1 n1 m1)).2 (blkS T V)) := hide (by have i := newV_sb HS0.out HS1.out; rw [show (newest (saidB (vw s.tk a)) (saidB (vw s.tk (a + 1)))).2 = blkS T V from congrArg Prod.snd HNW.out] at i; exact i)
  have hal2 : Below W2.heap.size W2 (W2.alloc (.cells #[.int .i64 (saidB (vw s.tk a)).1, .slice p0 n0 m0, .int .i64 (saidB (vw s.tk (a + 1))).1, .slice p1 n1 m1] 55)) := (Below.refl _ _).alloc (Nat.le_refl _) _
  have HP3 := hide (b4_new W2 (.int .i64 (saidB (vw s.tk a)).1) (.slice p0 n0 m0) (.int .i64 (saidB (vw s.tk (a + 1))).1) (.slice p1 n1 m1) 55)
  have HQ3 := hide ((HQ.out.below HB2.out).below hal2)
  have HB3 := hide (bt HB2.out hal2)
  have HF3 := hide (HF2.out.below hal2)
  clear hal2 HS0 HS1 HF2 HB2 HQ
  generalize W2.alloc (.cells #[.int .i64 (saidB (vw s.tk a)).1, .slice p0 n0 m0, .int .i64 (saidB (vw s.tk (a + 1))).1, .slice p1 n1 m1] 55) = W3 at HP3 HQ3 HB3 HF3 ⊢
  generalize W2.heap.size = gp at HP3 ⊢
  have HN0 := hide (saidB_nn (vw_blk HOK.out.tb a))
  have HN1 := hide (saidB_nn (vw_blk HOK.out.tb (a + 1)))
  generalize (saidB (vw s.tk a)).1 = t0 at HP3 HN0 HF1 HF3
  generalize (saidB (vw s.tk (a + 1))).1 = t1 at HP3 HN1 HF1 HF3
  obtain ⟨pv, nv, mv, hvf⟩ := HF3.out.form
  have q0 := HP3.out.c0
  have q1 := HP3.out.c1
  have q2 := HP3.out.c2
  have q3 := HP3.out.c3
  go_upto_region 7 with (first | (go_at_call 18; refine (newest_any t0 t1 _ _ _ HN0.out HN1.out ⟨_, _, _, rfl⟩ ⟨_, _, _, rfl⟩).mono ?_; rintro e W5 ⟨rfl, hb5⟩; rw [HF1.out, hvf]; have HQ5 := hide (HQ3.out.below hb5); have HB5 := hide (bt HB3.out hb5); have HS5 := hide (HF3.out.below hb5); clear hb5))
  rw [hvf] at HS5
  clear q0 q1 q2 q3 HP3 HQ3 HB3 HF1 HF3 HN0 HN1 hvf
  have hal5 : Below W5.heap.size W5 (W5.alloc (.cells #[.pointer (some ⟨d, 0, none⟩), .int .i64 a, .int .i64 T, .slice pv nv mv, .bool false] 60)) := (Below.refl _ _).alloc (Nat.le_refl _) _
  have HX6 := hide (B5.new W5 (.pointer (some ⟨d, 0, none⟩)) (.int .i64 a) (.int .i64 T) (.slice pv nv mv) (.bool false) 60)
  have HQ6 := hide (HQ5.out.below hal5)
  have HB6 := hide (bt HB5.out hal5)
  have HS6 := hide ((HS5.out.keep (Q := fun b => w.heap.size < b ∧ b ≠ W5.heap.size) (W' := W5) (fun b p hb => ⟨by omega, fun e => by omega⟩) (fun _ _ _ => rfl)).below hal5)
  have HCW : Hid (w.heap.size ≤ W5.heap.size) := hide HB5.out.size
  clear hal5 HQ5 HB5 HS5
  generalize W5.alloc (.cells #[.pointer (some ⟨d, 0, none⟩), .int .i64 a, .int .i64 T, .slice pv nv mv, .bool false] 60) = W6 at HX6 HQ6 HB6 HS6 ⊢
  generalize W5.heap.size = c at HX6 HS6 HCW ⊢
  have x2 := HX6.out.c2
  have x3 := HX6.out.c3
  go_upto_region 8 with (first | (go_at_call 19; refine (firm_any c a T _ (blkS T V) _ _ _ _ HX6.out HQ6.out hw HA.out HA1.out hT (HS6.out.keep (fun _ _ _ => trivial) (fun _ _ _ => rfl)) HBY.out).mono ?_; rintro e W7 ⟨rfl, hb7⟩; rw [HFI.out]; have HX7 := hide (HX6.out.below hb7); have HQ7 := hide (HQ6.out.below hb7); have HB7 := hide (bt HB6.out hb7); have HS7 := hide (HS6.out.below hb7); have x4 := HX7.out.c4; have f4 := HX7.out.fz 4; clear hb7))
  clear HX6 HQ6 HB6 HS6 x2 x3 x4 f4
  have HNO : Hid (¬ Own d bS bT u c) := hide (fun e => by have h1 := HOW.out c e; have h2 := HCW.out; omega)
  have HSS : Hid (∀ W : World, (∀ b, b < W7.heap.size → b ≠ c → W.heap[b]? = W7.heap[b]?) → Sb (fun b => ¬ (Own d bS bT u b ∨ b = c)) W (.slice pv nv mv) (blkS T V)) := hide (fun W hW => HS7.out.keep (fun b p _ e => e.elim (fun e => by have h1 := HOW.out b e; have h2 := p.1; omega) p.2) (fun b p hb => hW b hb p.2))
  have HX8 := hide (HX7.out.set4 (.bool false))
  go_wp2_with fail
  go_ret2
  exact ⟨c, .slice pv nv mv, rfl, ⟨HQ7.out.setC HNO.out _ _, HX8.out, HNO.out, HSS.out _ (fun b _ hb => Below.heap_setCell _ _ _ _ hb)⟩, HCW.out, HB7.out.setCell HCW.out _⟩
set_option maxRecDepth 100000 in
set_option maxHeartbeats 8000000 in
theorem sopen_bad {d bS bT : Nat} {u : Value} {s : Dst} (a : Int) (w : World) (hq : Dq w d bS bT u s) (ha : ¬ Num a) (hr : -1000 ≤ a ∧ a ≤ 2000000000) : Calls Try.prog 8 #[.pointer (some ⟨d, 0, none⟩), .int .i64 a] w fun e w' => e = .returned (.tuple #[.pointer none, ev (some ([(opSlot, 0), (opBlock, a)], 2))]) ∧ Below w.heap.size w w' := by
  have HQ := hide hq
  have HA := hide ha
  have HR := hide hr
  obtain ⟨F, U, hev⟩ : ∃ F U, ev (some ([(opSlot, 0), (opBlock, a)], 2)) = .iface F U := ⟨_, _, rfl⟩
  have HEV := hide hev
  rw [hev]
  clear hq ha hr hev
  go_enter Try.func8, Try.ntmps8
  go_wp2_with (first | (go_at_call 17; refine (read_bad a _ HQ.out HA.out HR.out).mono ?_; rintro e W2 ⟨rfl, hb2⟩; rw [HEV.out]; have HB2 := hide hb2; clear hb2))
  go_ret2
  exact ⟨rfl, bt HB2.out ((Below.refl _ _).alloc (Nat.le_refl _) _)⟩
end Go.Proofs.Ytiedbchlgcgdeaa
