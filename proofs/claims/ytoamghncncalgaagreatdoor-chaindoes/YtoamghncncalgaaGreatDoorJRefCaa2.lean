/-
  THE DOCUMENT's BLOCK OF A CHAIN (castellanref09.number, cell): eight bytes as a number, and what a block says. Condition: the cells hold bytes.
  A ROW OF BYTES THAT IS WRITTEN ON, WITH ALL ITS CELLS: what an append leaves of it, of any bytes, none among them. Condition: fewer than a million bytes.
-/
import Derived.Test.YtoamghncncalgaaGreatDoorJChVa2
import Derived.Deep.MidRow
import Derived.Test.YtoamghncncalgaaGreatDoorProg
import Derived.Test.YtoamghncncalgaaGreatDoorJSlca2
import Derived.Test.YtoamghncncalgaaGreatDoorJHelda2
import Derived.WalkKit
import Derived.WalkSpells
import Derived.Below
import Derived.Laws.CopyOwn
import Derived.Deep.AppendSrc
namespace Go.Proofs.YtoamghncncalgaaGreatDoor
open Go.RowKit

theorem num8_split (x : Int) (l : List Int) : num8 (x :: l) = x * 256 ^ l.length + num8 l := by
  have h : ∀ (l : List Int) (n : Int), l.foldl (fun n x => n * 256 + x) n = n * 256 ^ l.length + l.foldl (fun n x => n * 256 + x) 0 := by
    intro l
    induction l with
    | nil => intro n; simp
    | cons y r ih =>
      intro n
      rw [List.foldl_cons, List.foldl_cons, ih (n * 256 + y), ih (0 * 256 + y), List.length_cons, Int.pow_succ]
      have : (n * 256 + y) * 256 ^ r.length = n * (256 ^ r.length * 256) + y * 256 ^ r.length := by rw [Int.add_mul, Int.mul_assoc, Int.mul_comm 256]
      have e2 : (0 * 256 + y) * 256 ^ r.length = y * 256 ^ r.length := by rw [Int.zero_mul, Int.zero_add]
      omega
  show (x :: l).foldl _ 0 = _
  rw [List.foldl_cons, h, Int.zero_mul, Int.zero_add]
  rfl
theorem num8_big {l : List Int} (hl : l.length = 8) (hb : Byt l) (h0 : 0 < l.length) : (16 < l[0] → 1152921504606846976 < num8 l) ∧ (¬ 16 < l[0] → num8 l < 1224979098644774912) := by
  match l, hl with
  | x :: r, hl =>
    have hr : r.length = 7 := by simpa using hl
    have hx := hb x List.mem_cons_self
    have h7 := num8_bd 7 r (by omega) (fun y hy => hb y (List.mem_cons_of_mem _ hy))
    rw [num8_split, hr]
    have e : (256 : Int) ^ 7 = 72057594037927936 := by decide
    rw [e] at h7 ⊢
    simp only [List.getElem_cons_zero]
    constructor <;> intro h <;> omega
theorem eight_eq {b : List Int} (hb : b.length = 64) : b.take 8 = b.drop 56 ↔ ∀ k (h : k < 8), b[k]'(by omega) = b[56 + k]'(by omega) := by
  constructor
  · intro h k hk
    have := congrArg (fun l => l[k]?) h
    simp only [List.getElem?_take_of_lt hk, List.getElem?_drop] at this
    rw [List.getElem?_eq_getElem (by omega), List.getElem?_eq_getElem (by omega)] at this
    exact Option.some.inj this
  · intro h
    apply List.ext_getElem
    · rw [List.length_take, List.length_drop]; omega
    · intro k h1 h2
      rw [List.getElem_take, List.getElem_drop]
      exact h k (by rw [List.length_take] at h1; omega)
set_option maxRecDepth 100000 in
set_option maxHeartbeats 8000000 in
theorem rnum9_any (b o n cap : Nat) (l : List Int) (w : World) (hn : 8 ≤ n) (hl : l.length = 8) (hb : Byt l) (hce : ∀ i (h : i < l.length), w.cell? ⟨b, o + i, none⟩ = some (.int .u8 l[i])) : Calls Tryz.prog 36 #[.slice (some ⟨b, o, none⟩) n cap] w fun e w' => e = .returned (.int .i64 (stp l)) ∧ w' = w := by
  have HL := hide hl
  have HBY := hide hb
  have HC := hide hce
  have hnI : (8 : Int) ≤ (n : Int) := by omega
  have hnJ : (0 : Int) < (n : Int) := by omega
  have c0 : w.cell? ⟨b, o, none⟩ = some (.int .u8 l[0]) := hce 0 (by omega)
  have HBG := hide (num8_big hl hb (by omega))
  have h00 := hb _ (List.getElem_mem (show 0 < l.length by omega))
  clear hb hce
  go_enter Tryz.func36, Tryz.ntmps36
  by_cases h16 : 16 < l[0]
  · have HS : Hid (stp l = 0) := hide (by unfold stp; rw [if_neg (by have := HBG.out.1 h16; omega)])
    generalize l[0] = x0 at c0 h16 h00
    go_wp2
    go_ret
    exact ⟨by rw [HS.out]; rfl, rfl⟩
  · have HNB : Hid (num8 l < 1224979098644774912) := hide (HBG.out.2 h16)
    generalize l[0] = x0 at c0 h16 h00
    clear HBG
    go_wp2
    clear c0 h16 h00
    go_loopw [3, 4] (fun n i W => ∃ k : Nat, k ≤ 8 ∧ i = .int .i64 k ∧ n = .int .i64 (num8 (l.take k)) ∧ W = w) (fun _ i _ => 8 - (iv i).toNat)
    case atStart => exact ⟨0, by omega, rfl, by simp [num8], rfl⟩
    case round =>
      obtain ⟨k, hk, rfl, rfl, rfl⟩ := hrel
      have hbd := num8_bd k (l.take k) (by rw [List.length_take, HL.out]; omega) (fun x hx => HBY.out x (List.mem_of_mem_take hx))
      by_cases hlt : k < 8
      · have hkl : k < l.length := by omega
        have hx := HBY.out _ (List.getElem_mem hkl)
        have HN : Hid (num8 (l.take (k + 1)) = num8 (l.take k) * 256 + l[k]) := hide (by rw [take_step hkl, num8_snoc])
        have hce := HC.out k hkl
        have hn8 : num8 (l.take k) * 256 + l[k] < 9223372036854775808 := by
          by_cases h7 : k = 7
          · have e : l.take (k + 1) = l := List.take_of_length_le (by omega)
            have := HN.out
            rw [e] at this
            have := HNB.out
            omega
          · have h1 : (256 : Int) ^ k ≤ 256 ^ 6 := by
              have := Nat.pow_le_pow_right (n := 256) (by decide) (show k ≤ 6 by omega)
              exact_mod_cast this
            have e6 : (256 : Int) ^ 6 = 281474976710656 := by decide
            have := hbd.2
            omega
        have hn0 := hbd.1
        have hkI : (k : Int) < (n : Int) := by omega
        generalize l[k] = x at hx HN hce hn8
        generalize num8 (l.take k) = m at hn8 hn0 HN hbd
        obtain ⟨hx0, hx1⟩ := hx
        have hw1 : IntKind.i64.wrap (m * 256) = m * 256 := by rw [IntKind.wrap_i64]; omega
        have hw2 : IntKind.i64.wrap (m * 256 + x) = m * 256 + x := by rw [IntKind.wrap_i64]; omega
        have hw3 : IntKind.i64.wrap x = x := by rw [IntKind.wrap_i64]; omega
        clear hbd
        go_wp2_with fail
        exact ⟨⟨k + 1, by omega, by go_num, by rw [HN.out], by trivial⟩, by simp [iv]; omega⟩
      · obtain rfl : k = 8 := by omega
        have e : l.take 8 = l := List.take_of_length_le (by omega)
        rw [e] at hbd ⊢
        by_cases ht : num8 l ≤ 1152921504606846976
        · have HS : Hid (stp l = num8 l) := hide (by unfold stp; rw [if_pos ht])
          generalize num8 l = m at ht hbd HS ⊢
          go_wp2
          go_ret
          exact ⟨by rw [HS.out]; rfl, rfl⟩
        · have HS : Hid (stp l = 0) := hide (by unfold stp; rw [if_neg ht])
          generalize num8 l = m at ht hbd ⊢
          go_wp2
          go_ret
          exact ⟨by rw [HS.out]; rfl, rfl⟩
/-- What the document's cell has: stamp, whether a record begins, how many bytes are left. -/
def clS (b : List Int) : Int × Bool × Int := if b.take 8 = b.drop 56 then (stp (b.take 8), decide (128 ≤ b.getD 8 0), lfO b) else (0, false, 0)
def clV (g : Nat) (b : List Int) : Value := if b.take 8 = b.drop 56 then .slice (some ⟨g, 10, none⟩) 46 54 else .slice none 0 0
theorem clV_form (g : Nat) (b : List Int) : ∃ a n k, clV g b = .slice a n k := by
  unfold clV
  split <;> exact ⟨_, _, _, rfl⟩
theorem results_b4 {P : Program} {fn : Func} {q : Tmp} {ty : TypeId} (h : fn.results = #[.cell q ty]) (tmps : Array Value) (w : World) (b : Nat) (x y z u : Value) (d : TypeDesc) (hp : tmps.getD q undef = .pointer (some ⟨b, 0, none⟩)) (hc : B4 w b x y z u) (hu : P.underlying ty = some d) (hd : d.isRow = true) (hi : (P.info? ty).map (·.size) = some 4) : (results fn tmps).run P w = .ok (.agg #[x, y, z, u]) w := by
  have hp' : tmps[q]?.getD undef = .pointer (some ⟨b, 0, none⟩) := by simpa using hp
  simp [results, h, hp', asAddr, run_loadVar_mid w b 0 ty [x, y, z, u] d hc.rg hu hd hi]
set_option maxRecDepth 100000 in
set_option maxHeartbeats 8000000 in
theorem cell9_any (g : Nat) (b : List Int) (w : World) (hb : Blk b) (hce : ∀ i (h : i < b.length), w.cell? ⟨g, i, none⟩ = some (.int .u8 b[i])) : Calls Tryz.prog 70 #[.slice (some ⟨g, 0, none⟩) 64 64] w fun e w' => e = .returned (.agg #[.int .i64 (clS b).1, .bool (clS b).2.1, .int .i64 (clS b).2.2, clV g b]) ∧ Below w.heap.size w w' := by
  have hl : b.length = 64 := hb.1
  have HL := hide hl
  have hg : g < w.heap.size := cell_block (hce 0 (by omega))
  have HC := hide (fun (W : World) (h : Below w.heap.size w W) (i : Nat) (hi : i < b.length) => (h.cell (p := ⟨g, i, none⟩) hg).trans (hce i hi))
  have HBK := hide hb
  have HE := hide (eight_eq hl)
  have HP := hide (b4_new w (.int .i64 0) (.bool false) (.int .i64 0) (.slice none 0 0) 130)
  have HB := hide ((Below.refl w.heap.size w).alloc (Nat.le_refl _) (.cells #[.int .i64 0, .bool false, .int .i64 0, .slice none 0 0] 130))
  clear hb hce
  go_enter Tryz.func70, Tryz.ntmps70
  go_wp2
  generalize w.alloc (.cells #[.int .i64 0, .bool false, .int .i64 0, .slice none 0 0] 130) = W1 at HP HB ⊢
  go_loopw [3] (fun i W => ∃ k : Nat, k ≤ 8 ∧ i = .int .i64 k ∧ B4 W w.heap.size (.int .i64 0) (.bool false) (.int .i64 0) (.slice none 0 0) ∧ Below w.heap.size w W ∧ ∀ j (h : j < k) (h8 : j < 8), b[j]'(by omega) = b[56 + j]'(by omega)) (fun i _ => 8 - (iv i).toNat)
  case atStart => exact ⟨0, by omega, rfl, HP.out, HB.out, fun j h => by omega⟩
  case round =>
    clear HP HB
    obtain ⟨k, hk, rfl, hp, hbl, hall⟩ := hrel
    have HP := hide hp
    have HB := hide hbl
    have HALL := hide hall
    clear hp hbl hall
    by_cases hlt : k < 8
    · have hk1 : k < b.length := by have := HL.out; omega
      have hk2 : 56 + k < b.length := by have := HL.out; omega
      have HA2 : Hid ((b[k] = b[56 + k] → ∀ j (h : j < k + 1) (h8 : j < 8), b[j]'(by omega) = b[56 + j]'(by omega)) ∧ (b[k] ≠ b[56 + k] → b.take 8 ≠ b.drop 56)) := hide (by
        refine ⟨fun e j h h8 => ?_, fun e q => e (HE.out.1 q k hlt)⟩
        by_cases hj : j < k
        · exact HALL.out j hj h8
        · obtain rfl : j = k := by omega
          exact e)
      have HCC := hide (fun (W : World) (h : Below w.heap.size w W) => And.intro (HC.out W h k hk1) (HC.out W h (56 + k) hk2))
      have hx1 := HBK.out.2 _ (List.getElem_mem hk1)
      have hy1 := HBK.out.2 _ (List.getElem_mem hk2)
      generalize b[k] = x at HA2 HCC hx1
      generalize b[56 + k] = y at HA2 HCC hy1
      go_upto_region 4 with fail
      have hdw : Below wr.heap.size wr wr.drew := (Below.refl _ _).drew
      refine wp_region_held_drew (S := fun W => W.cell? ⟨g, k, none⟩ = some (.int .u8 x) ∧ W.cell? ⟨g, 56 + k, none⟩ = some (.int .u8 y)) (by kernel_rfl) (HCC.out _ (bt HB.out hdw)) (fun hHeld => ?_)
      have HP2 := hide (HP.out.below hdw)
      have HB2 := hide (bt HB.out hdw)
      generalize wr.drew = W2 at HP2 HB2 hHeld ⊢
      clear hdw HP HB
      have hI1 : (k : Int) < 64 := by omega
      have hI2 : 56 + (k : Int) < 64 := by omega
      have hI3 : IntKind.i64.wrap (56 + (k : Int)) = 56 + (k : Int) := by rw [IntKind.wrap_i64]; omega
      have hI4 : (56 + (k : Int)).toNat = 56 + k := by omega
      have hI5 : ¬ 56 + (k : Int) < 0 := by omega
      refine wpAnyH_take (i := 0) (oi := _) (v := .slice (some ⟨g, 0, none⟩) 64 64) rfl (by kernel_rfl) (by kernel_rfl) (by kernel_rfl) (fun _ _ _ h => h) (Or.inl ⟨by rfl, by intro w hSw; go_simp⟩) hHeld ?_
      change wpAnyH _ _ _ _ _ _ _ (Act.put _ (some 8) _) _
      simp only [Act.put, List.setIfInBounds_toArray, List.set_cons_zero, List.set_cons_succ]
      refine wpAnyH_take (i := 1) (oi := _) (v := .int .i64 (k : Int)) rfl (by kernel_rfl) (by kernel_rfl) (by kernel_rfl) (fun _ _ _ h => h) (Or.inl ⟨by rfl, by intro w hSw; go_simp⟩) hHeld ?_
      change wpAnyH _ _ _ _ _ _ _ (Act.put _ (some 9) _) _
      simp only [Act.put, List.setIfInBounds_toArray, List.set_cons_zero, List.set_cons_succ]
      refine wpAnyH_take (i := 2) (oi := _) (v := .pointer (some ⟨g, k, none⟩)) rfl (by kernel_rfl) (by kernel_rfl) (by kernel_rfl) (fun _ _ _ h => h) (Or.inl ⟨by rfl, by intro w hSw; go_simp⟩) hHeld ?_
      change wpAnyH _ _ _ _ _ _ _ (Act.put _ (some 10) _) _
      simp only [Act.put, List.setIfInBounds_toArray, List.set_cons_zero, List.set_cons_succ]
      refine wpAnyH_take (i := 3) (oi := _) (v := .int .u8 x) rfl (by kernel_rfl) (by kernel_rfl) (by kernel_rfl) (fun _ _ _ h => h) (Or.inl ⟨by rfl, by intro w hSw; have h1 := hSw.1; go_simp⟩) hHeld ?_
      change wpAnyH _ _ _ _ _ _ _ (Act.put _ (some 11) _) _
      simp only [Act.put, List.setIfInBounds_toArray, List.set_cons_zero, List.set_cons_succ]
      refine wpAnyH_take (i := 4) (oi := _) (v := .slice (some ⟨g, 0, none⟩) 64 64) rfl (by kernel_rfl) (by kernel_rfl) (by kernel_rfl) (fun _ _ _ h => h) (Or.inl ⟨by rfl, by intro w hSw; go_simp⟩) hHeld ?_
      change wpAnyH _ _ _ _ _ _ _ (Act.put _ (some 12) _) _
      simp only [Act.put, List.setIfInBounds_toArray, List.set_cons_zero, List.set_cons_succ]
      refine wpAnyH_take (i := 5) (oi := _) (v := .int .i64 (k : Int)) rfl (by kernel_rfl) (by kernel_rfl) (by kernel_rfl) (fun _ _ _ h => h) (Or.inl ⟨by rfl, by intro w hSw; go_simp⟩) hHeld ?_
      change wpAnyH _ _ _ _ _ _ _ (Act.put _ (some 13) _) _
      simp only [Act.put, List.setIfInBounds_toArray, List.set_cons_zero, List.set_cons_succ]
      refine wpAnyH_take (i := 6) (oi := _) (v := .int .i64 (56 + (k : Int))) rfl (by kernel_rfl) (by kernel_rfl) (by kernel_rfl) (fun _ _ _ h => h) (Or.inl ⟨by rfl, by intro w hSw; go_simp⟩) hHeld ?_
      change wpAnyH _ _ _ _ _ _ _ (Act.put _ (some 14) _) _
      simp only [Act.put, List.setIfInBounds_toArray, List.set_cons_zero, List.set_cons_succ]
      refine wpAnyH_take (i := 7) (oi := _) (v := .pointer (some ⟨g, 56 + k, none⟩)) rfl (by kernel_rfl) (by kernel_rfl) (by kernel_rfl) (fun _ _ _ h => h) (Or.inl ⟨by rfl, by intro w hSw; go_simp⟩) hHeld ?_
      change wpAnyH _ _ _ _ _ _ _ (Act.put _ (some 15) _) _
      simp only [Act.put, List.setIfInBounds_toArray, List.set_cons_zero, List.set_cons_succ]
      refine wpAnyH_take (i := 8) (oi := _) (v := .int .u8 y) rfl (by kernel_rfl) (by kernel_rfl) (by kernel_rfl) (fun _ _ _ h => h) (Or.inl ⟨by rfl, by intro w hSw; have h1 := hSw.2; go_simp⟩) hHeld ?_
      change wpAnyH _ _ _ _ _ _ _ (Act.put _ (some 16) _) _
      simp only [Act.put, List.setIfInBounds_toArray, List.set_cons_zero, List.set_cons_succ]
      by_cases hxy : x = y
      · have hq : (x != y) = false := by simp [hxy]
        refine wpAnyH_take (i := 9) (oi := _) (v := .bool false) rfl (by kernel_rfl) (by kernel_rfl) (by kernel_rfl) (fun _ _ _ h => h) (Or.inl ⟨by rfl, by intro w hSw; go_simp⟩) hHeld ?_
        change wpAnyH _ _ _ _ _ _ _ (Act.put _ (some 17) _) _
        simp only [Act.put, List.setIfInBounds_toArray, List.set_cons_zero, List.set_cons_succ]
        refine wpAnyH_done (by kernel_rfl) ?_ _
        clear hHeld
        go_wp2_with fail
        exact ⟨⟨k + 1, by omega, by go_num, HP2.out, HB2.out, HA2.out.1 hxy⟩, by simp [iv]; omega⟩
      · have hq : (x != y) = true := by simp [hxy]
        refine wpAnyH_take (i := 9) (oi := _) (v := .bool true) rfl (by kernel_rfl) (by kernel_rfl) (by kernel_rfl) (fun _ _ _ h => h) (Or.inl ⟨by rfl, by intro w hSw; go_simp⟩) hHeld ?_
        change wpAnyH _ _ _ _ _ _ _ (Act.put _ (some 17) _) _
        simp only [Act.put, List.setIfInBounds_toArray, List.set_cons_zero, List.set_cons_succ]
        refine wpAnyH_done (by kernel_rfl) ?_ _
        clear hHeld
        have hne := HA2.out.2 hxy
        have HS1 : Hid (clS b = (0, false, 0) ∧ clV g b = .slice none 0 0) := hide ⟨if_neg hne, if_neg hne⟩
        clear hne
        have z0 := HP2.out.c0
        have z1 := HP2.out.c1
        have z2 := HP2.out.c2
        have z3 := HP2.out.c3
        have f0 := HP2.out.fz 0
        have f1 := HP2.out.fz 1
        have f2 := HP2.out.fz 2
        have f3 := HP2.out.fz 3
        have HX3 := hide (HP2.out.all (.int .i64 0) (.bool false) (.int .i64 0) (.slice none 0 0))
        go_wp2_with fail
        exact bodyPost_ret (v := .agg #[.int .i64 0, .bool false, .int .i64 0, .slice none 0 0]) (results_b4 Tryz.results70 _ _ w.heap.size _ _ _ _ _ rfl HX3.out Tryz.underlying130 rfl (by kernel_rfl)) rfl ⟨by rw [HS1.out.1, HS1.out.2], (((HB2.out.setCell (Nat.le_refl _) _).setCell (Nat.le_refl _) _).setCell (Nat.le_refl _) _).setCell (Nat.le_refl _) _⟩
    · have heq : b.take 8 = b.drop 56 := HE.out.2 (fun j hj => HALL.out j (by omega) hj)
      have hk8 := HBK.out.2 _ (List.getElem_mem (show 8 < b.length by have := HL.out; omega))
      have hk9 := HBK.out.2 _ (List.getElem_mem (show 9 < b.length by have := HL.out; omega))
      have HCC := hide (fun (W : World) (h : Below w.heap.size w W) => And.intro (HC.out W h 8 (by have := HL.out; omega)) (HC.out W h 9 (by have := HL.out; omega)))
      have HG8 : Hid (b.getD 8 0 = b[8]'(by omega) ∧ b.getD 9 0 = b[9]'(by omega)) := hide ⟨by rw [List.getD_eq_getElem?_getD, List.getElem?_eq_getElem (by omega)]; rfl, by rw [List.getD_eq_getElem?_getD, List.getElem?_eq_getElem (by omega)]; rfl⟩
      have HSV : Hid (clS b = (stp (b.take 8), decide ((128 : Int) ≤ b[8]'(by omega)), (b[8]'(by omega)) % (128 : Int) * (256 : Int) + b[9]'(by omega)) ∧ clV g b = .slice (some ⟨g, 10, none⟩) 46 54) := hide ⟨by unfold clS; rw [if_pos heq, HG8.out.1]; unfold lfO; rw [HG8.out.1, HG8.out.2], if_pos heq⟩
      clear heq HG8 HE HALL
      generalize b[8] = x8 at hk8 HCC HSV
      generalize b[9] = x9 at hk9 HCC HSV
      have H8 : Hid ((b.take 8).length = 8 ∧ Byt (b.take 8)) := hide ⟨by rw [List.length_take]; have := HL.out; omega, fun x hx => HBK.out.2 x (List.mem_of_mem_take hx)⟩
      have HCE := hide (fun (W : World) (h : Below w.heap.size w W) (i : Nat) (hi : i < (b.take 8).length) => show W.cell? ⟨g, 0 + i, none⟩ = some (.int .u8 (b.take 8)[i]) from by rw [Nat.zero_add, List.getElem_take]; exact HC.out W h i (by rw [List.length_take] at hi; omega))
      obtain ⟨hx80, hx81⟩ := hk8
      obtain ⟨hx90, hx91⟩ := hk9
      go_upto_region 6 with fail
      have hdw : Below wr.heap.size wr wr.drew := (Below.refl _ _).drew
      refine wp_region_held_drew (S := fun W => W.cell? ⟨g, 8, none⟩ = some (.int .u8 x8) ∧ W.cell? ⟨g, 9, none⟩ = some (.int .u8 x9)) (by kernel_rfl) (HCC.out _ (bt HB.out hdw)) (fun hHeld => ?_)
      have HP2 := hide (HP.out.below hdw)
      have HB2 := hide (bt HB.out hdw)
      generalize wr.drew = W2 at HP2 HB2 hHeld ⊢
      clear hdw HP HB
      have htm : x8.tmod 128 = x8 % 128 := Int.tmod_eq_emod_of_nonneg hx80
      have w1 : IntKind.i64.wrap (x8 % 128) = x8 % 128 := by rw [IntKind.wrap_i64]; omega
      have w2 : IntKind.i64.wrap (x8 % 128 * 256) = x8 % 128 * 256 := by rw [IntKind.wrap_i64]; omega
      have w3 : IntKind.i64.wrap x9 = x9 := by rw [IntKind.wrap_i64]; omega
      have w4 : IntKind.i64.wrap (x8 % 128 * 256 + x9) = x8 % 128 * 256 + x9 := by rw [IntKind.wrap_i64]; omega
      refine wpAnyH_take (i := 0) (oi := _) (v := .slice (some ⟨g, 0, none⟩) 64 64) rfl (by kernel_rfl) (by kernel_rfl) (by kernel_rfl) (fun _ _ _ h => h) (Or.inl ⟨by rfl, by intro w hSw; go_simp⟩) hHeld ?_
      change wpAnyH _ _ _ _ _ _ _ (Act.put _ (some 19) _) _
      simp only [Act.put, List.setIfInBounds_toArray, List.set_cons_zero, List.set_cons_succ]
      refine wpAnyH_take (i := 1) (oi := _) (v := .slice (some ⟨g, 0, none⟩) 8 64) rfl (by kernel_rfl) (by kernel_rfl) (by kernel_rfl) (fun _ _ _ h => h) (Or.inl ⟨by rfl, by intro w hSw; go_simp⟩) hHeld ?_
      change wpAnyH _ _ _ _ _ _ _ (Act.put _ (some 20) _) _
      simp only [Act.put, List.setIfInBounds_toArray, List.set_cons_zero, List.set_cons_succ]
      refine wpAnyH_take (i := 3) (oi := _) (v := .slice (some ⟨g, 0, none⟩) 64 64) rfl (by kernel_rfl) (by kernel_rfl) (by kernel_rfl) (fun _ _ _ h => h) (Or.inl ⟨by rfl, by intro w hSw; go_simp⟩) hHeld ?_
      change wpAnyH _ _ _ _ _ _ _ (Act.put _ (some 22) _) _
      simp only [Act.put, List.setIfInBounds_toArray, List.set_cons_zero, List.set_cons_succ]
      refine wpAnyH_take (i := 4) (oi := _) (v := .pointer (some ⟨g, 8, none⟩)) rfl (by kernel_rfl) (by kernel_rfl) (by kernel_rfl) (fun _ _ _ h => h) (Or.inl ⟨by rfl, by intro w hSw; go_simp⟩) hHeld ?_
      change wpAnyH _ _ _ _ _ _ _ (Act.put _ (some 23) _) _
      simp only [Act.put, List.setIfInBounds_toArray, List.set_cons_zero, List.set_cons_succ]
      refine wpAnyH_take (i := 5) (oi := _) (v := .int .u8 x8) rfl (by kernel_rfl) (by kernel_rfl) (by kernel_rfl) (fun _ _ _ h => h) (Or.inl ⟨by rfl, by intro w hSw; have h1 := hSw.1; go_simp⟩) hHeld ?_
      change wpAnyH _ _ _ _ _ _ _ (Act.put _ (some 24) _) _
      simp only [Act.put, List.setIfInBounds_toArray, List.set_cons_zero, List.set_cons_succ]
      refine wpAnyH_take (i := 6) (oi := _) (v := .bool (decide (128 ≤ x8))) rfl (by kernel_rfl) (by kernel_rfl) (by kernel_rfl) (fun _ _ _ h => h) (Or.inl ⟨by rfl, by intro w hSw; go_simp⟩) hHeld ?_
      change wpAnyH _ _ _ _ _ _ _ (Act.put _ (some 25) _) _
      simp only [Act.put, List.setIfInBounds_toArray, List.set_cons_zero, List.set_cons_succ]
      refine wpAnyH_take (i := 7) (oi := _) (v := .slice (some ⟨g, 0, none⟩) 64 64) rfl (by kernel_rfl) (by kernel_rfl) (by kernel_rfl) (fun _ _ _ h => h) (Or.inl ⟨by rfl, by intro w hSw; go_simp⟩) hHeld ?_
      change wpAnyH _ _ _ _ _ _ _ (Act.put _ (some 26) _) _
      simp only [Act.put, List.setIfInBounds_toArray, List.set_cons_zero, List.set_cons_succ]
      refine wpAnyH_take (i := 8) (oi := _) (v := .pointer (some ⟨g, 8, none⟩)) rfl (by kernel_rfl) (by kernel_rfl) (by kernel_rfl) (fun _ _ _ h => h) (Or.inl ⟨by rfl, by intro w hSw; go_simp⟩) hHeld ?_
      change wpAnyH _ _ _ _ _ _ _ (Act.put _ (some 27) _) _
      simp only [Act.put, List.setIfInBounds_toArray, List.set_cons_zero, List.set_cons_succ]
      refine wpAnyH_take (i := 9) (oi := _) (v := .int .u8 x8) rfl (by kernel_rfl) (by kernel_rfl) (by kernel_rfl) (fun _ _ _ h => h) (Or.inl ⟨by rfl, by intro w hSw; have h1 := hSw.1; go_simp⟩) hHeld ?_
      change wpAnyH _ _ _ _ _ _ _ (Act.put _ (some 28) _) _
      simp only [Act.put, List.setIfInBounds_toArray, List.set_cons_zero, List.set_cons_succ]
      refine wpAnyH_take (i := 10) (oi := _) (v := .int .u8 (x8 % 128)) rfl (by kernel_rfl) (by kernel_rfl) (by kernel_rfl) (fun _ _ _ h => h) (Or.inl ⟨by rfl, by intro w hSw; go_simp⟩) hHeld ?_
      change wpAnyH _ _ _ _ _ _ _ (Act.put _ (some 29) _) _
      simp only [Act.put, List.setIfInBounds_toArray, List.set_cons_zero, List.set_cons_succ]
      refine wpAnyH_take (i := 11) (oi := _) (v := .int .i64 (x8 % 128)) rfl (by kernel_rfl) (by kernel_rfl) (by kernel_rfl) (fun _ _ _ h => h) (Or.inl ⟨by rfl, by intro w hSw; go_simp⟩) hHeld ?_
      change wpAnyH _ _ _ _ _ _ _ (Act.put _ (some 30) _) _
      simp only [Act.put, List.setIfInBounds_toArray, List.set_cons_zero, List.set_cons_succ]
      refine wpAnyH_take (i := 12) (oi := _) (v := .int .i64 (x8 % 128 * 256)) rfl (by kernel_rfl) (by kernel_rfl) (by kernel_rfl) (fun _ _ _ h => h) (Or.inl ⟨by rfl, by intro w hSw; go_simp⟩) hHeld ?_
      change wpAnyH _ _ _ _ _ _ _ (Act.put _ (some 31) _) _
      simp only [Act.put, List.setIfInBounds_toArray, List.set_cons_zero, List.set_cons_succ]
      refine wpAnyH_take (i := 13) (oi := _) (v := .slice (some ⟨g, 0, none⟩) 64 64) rfl (by kernel_rfl) (by kernel_rfl) (by kernel_rfl) (fun _ _ _ h => h) (Or.inl ⟨by rfl, by intro w hSw; go_simp⟩) hHeld ?_
      change wpAnyH _ _ _ _ _ _ _ (Act.put _ (some 32) _) _
      simp only [Act.put, List.setIfInBounds_toArray, List.set_cons_zero, List.set_cons_succ]
      refine wpAnyH_take (i := 14) (oi := _) (v := .pointer (some ⟨g, 9, none⟩)) rfl (by kernel_rfl) (by kernel_rfl) (by kernel_rfl) (fun _ _ _ h => h) (Or.inl ⟨by rfl, by intro w hSw; go_simp⟩) hHeld ?_
      change wpAnyH _ _ _ _ _ _ _ (Act.put _ (some 33) _) _
      simp only [Act.put, List.setIfInBounds_toArray, List.set_cons_zero, List.set_cons_succ]
      refine wpAnyH_take (i := 15) (oi := _) (v := .int .u8 x9) rfl (by kernel_rfl) (by kernel_rfl) (by kernel_rfl) (fun _ _ _ h => h) (Or.inl ⟨by rfl, by intro w hSw; have h1 := hSw.2; go_simp⟩) hHeld ?_
      change wpAnyH _ _ _ _ _ _ _ (Act.put _ (some 34) _) _
      simp only [Act.put, List.setIfInBounds_toArray, List.set_cons_zero, List.set_cons_succ]
      refine wpAnyH_take (i := 16) (oi := _) (v := .int .i64 x9) rfl (by kernel_rfl) (by kernel_rfl) (by kernel_rfl) (fun _ _ _ h => h) (Or.inl ⟨by rfl, by intro w hSw; go_simp⟩) hHeld ?_
      change wpAnyH _ _ _ _ _ _ _ (Act.put _ (some 35) _) _
      simp only [Act.put, List.setIfInBounds_toArray, List.set_cons_zero, List.set_cons_succ]
      refine wpAnyH_take (i := 17) (oi := _) (v := .int .i64 (x8 % 128 * 256 + x9)) rfl (by kernel_rfl) (by kernel_rfl) (by kernel_rfl) (fun _ _ _ h => h) (Or.inl ⟨by rfl, by intro w hSw; go_simp⟩) hHeld ?_
      change wpAnyH _ _ _ _ _ _ _ (Act.put _ (some 36) _) _
      simp only [Act.put, List.setIfInBounds_toArray, List.set_cons_zero, List.set_cons_succ]
      refine wpAnyH_take (i := 18) (oi := _) (v := .slice (some ⟨g, 0, none⟩) 64 64) rfl (by kernel_rfl) (by kernel_rfl) (by kernel_rfl) (fun _ _ _ h => h) (Or.inl ⟨by rfl, by intro w hSw; go_simp⟩) hHeld ?_
      change wpAnyH _ _ _ _ _ _ _ (Act.put _ (some 37) _) _
      simp only [Act.put, List.setIfInBounds_toArray, List.set_cons_zero, List.set_cons_succ]
      refine wpAnyH_take (i := 19) (oi := _) (v := .slice (some ⟨g, 10, none⟩) 46 54) rfl (by kernel_rfl) (by kernel_rfl) (by kernel_rfl) (fun _ _ _ h => h) (Or.inl ⟨by rfl, by intro w hSw; go_simp⟩) hHeld ?_
      change wpAnyH _ _ _ _ _ _ _ (Act.put _ (some 38) _) _
      simp only [Act.put, List.setIfInBounds_toArray, List.set_cons_zero, List.set_cons_succ]
      refine wpAnyH_ready (rs := [2]) (by kernel_rfl) (by simp) ?_
      refine AllReadyH.cons (o := _) rfl (fun K hK => ?_) AllReadyH.nil
      go_simp
      go_at_call 36
      refine (rnum9_any g 0 8 64 (b.take 8) _ (by decide) H8.out.1 H8.out.2 (HCE.out _ HB2.out)).mono ?_
      rintro e W3 ⟨rfl, hw3⟩
      rw [hw3]
      clear hw3 W3
      go_wp2_with fail
      refine hK.out _ _ hHeld (fun hHeld1 => ?_)
      clear hK K hHeld
      have hHeld := hHeld1
      clear hHeld1
      refine wpAnyH_take (i := 20) (oi := _) (v := .agg #[.int .i64 (stp (b.take 8)), .bool (decide (128 ≤ x8)), .int .i64 (x8 % 128 * 256 + x9), .slice (some ⟨g, 10, none⟩) 46 54]) rfl (by kernel_rfl) (by kernel_rfl) (by kernel_rfl) (fun _ _ _ h => h) (Or.inl ⟨by rfl, by intro w hSw; go_simp⟩) hHeld ?_
      change wpAnyH _ _ _ _ _ _ _ (Act.put _ (some 39) _) _
      simp only [Act.put, List.setIfInBounds_toArray, List.set_cons_zero, List.set_cons_succ]
      refine wpAnyH_ready (rs := [21]) (by kernel_rfl) (by simp) ?_
      refine AllReadyH.cons (o := _) rfl (fun K hK => ?_) AllReadyH.nil
      have z0 := HP2.out.c0
      have z1 := HP2.out.c1
      have z2 := HP2.out.c2
      have z3 := HP2.out.c3
      have f0 := HP2.out.fz 0
      have f1 := HP2.out.fz 1
      have f2 := HP2.out.fz 2
      have f3 := HP2.out.fz 3
      go_simp
      clear z0 z1 z2 z3 f0 f1 f2 f3
      have HX3 := hide (HP2.out.all (.int .i64 (stp (b.take 8))) (.bool (decide (128 ≤ x8))) (.int .i64 (x8 % 128 * 256 + x9)) (.slice (some ⟨g, 10, none⟩) 46 54))
      have HB3 := hide ((((HB2.out.setCell (p := ⟨w.heap.size, 0, none⟩) (Nat.le_refl _) (.int .i64 (stp (b.take 8)))).setCell (p := ⟨w.heap.size, 1, none⟩) (Nat.le_refl _) (.bool (decide (128 ≤ x8)))).setCell (p := ⟨w.heap.size, 2, none⟩) (Nat.le_refl _) (.int .i64 (x8 % 128 * 256 + x9))).setCell (p := ⟨w.heap.size, 3, none⟩) (Nat.le_refl _) (.slice (some ⟨g, 10, none⟩) 46 54))
      refine hK.out _ _ (HCC.out _ HB3.out) (fun hHeld1 => ?_)
      clear hK K hHeld
      have hHeld := hHeld1
      clear hHeld1
      refine wpAnyH_done (by kernel_rfl) ?_ _
      clear hHeld
      go_wp2_with fail
      exact bodyPost_ret (v := .agg #[.int .i64 (stp (b.take 8)), .bool (decide (128 ≤ x8)), .int .i64 (x8 % 128 * 256 + x9), .slice (some ⟨g, 10, none⟩) 46 54]) (results_b4 Tryz.results70 _ _ w.heap.size _ _ _ _ _ rfl HX3.out Tryz.underlying130 rfl (by kernel_rfl)) rfl ⟨by rw [HSV.out.1, HSV.out.2], HB3.out⟩
end Go.Proofs.YtoamghncncalgaaGreatDoor
namespace Go.Proofs.YtoamghncncalgaaGreatDoor
open Go.RowKit

theorem infoB : (Tryz.prog.info? 5).map (fun i => (i.zero, i.size, i.bytes)) = some (some (.int .u8 0), 1, 1) := by kernel_rfl
/-- The slice v, of length n, is nil or the head of a row of its own with the cells cur. -/
def Rw (B : Nat) (w : World) (v : Value) (n : Nat) (cur : List Value) : Prop :=
  n ≤ cur.length ∧ cur.length ≤ maxLen ∧ ((v = .slice none 0 0 ∧ cur = []) ∨ ∃ g, v = .slice (some ⟨g, 0, none⟩) n cur.length ∧ B ≤ g ∧ w.heap[g]? = some (.cells cur.toArray 5 (0, 0)))
theorem rw_nil (B : Nat) (w : World) : Rw B w (.slice none 0 0) 0 [] := ⟨Nat.le_refl _, Nat.zero_le _, .inl ⟨rfl, rfl⟩⟩
theorem Rw.below {B : Nat} {w w' : World} {v : Value} {n : Nat} {cur : List Value} (h : Rw B w v n cur) (hb : Below w.heap.size w w') : Rw B w' v n cur := by
  obtain ⟨h1, h2, h3⟩ := h
  refine ⟨h1, h2, ?_⟩
  rcases h3 with h3 | ⟨g, a1, a2, a3⟩
  · exact .inl h3
  · refine .inr ⟨g, a1, a2, ?_⟩
    rw [hb.block g (Array.getElem?_eq_some_iff.1 a3).1]
    exact a3
theorem Rw.owns {B : Nat} {w : World} {v : Value} {n : Nat} {cur : List Value} (h : Rw B w v n cur) : w.ownsRow B 5 1 v n (cur.take n) := by
  obtain ⟨h1, h2, h3⟩ := h
  refine ⟨by rw [List.length_take]; omega, ?_⟩
  rcases h3 with ⟨rfl, rfl⟩ | ⟨g, a1, a2, a3⟩
  · exact .inl ⟨rfl, by simpa using h1⟩
  · exact .inr ⟨g, cur.length, cur.toArray, a1, a2, a3, h1, h2, by simp, by simp⟩
theorem Rw.of {B : Nat} {w : World} {v : Value} {n : Nat} {xs : List Value} (h : w.ownsRow B 5 1 v n xs) : ∃ cur, Rw B w v n cur ∧ cur.take n = xs := by
  obtain ⟨h1, h2⟩ := h
  rcases h2 with ⟨rfl, rfl⟩ | ⟨g, cap, cur, rfl, a2, a3, a4, a5, a6, a7⟩
  · exact ⟨[], rw_nil _ _, by simp at h1; simp [h1]⟩
  · have e1 : cur.toList.length = cap := by simpa using a6
    exact ⟨cur.toList, ⟨by omega, by omega, .inr ⟨g, by rw [e1], a2, by simpa using a3⟩⟩, by simpa using a7⟩
/-- What was written behind: the bytes news. Where there was room for them the row is the same one, and what lies behind them has stayed. -/
structure Put (B : Nat) (w : World) (v : Value) (n : Nat) (cur : List Value) (w' : World) (v' : Value) (m : Nat) (cur' news : List Value) : Prop where
  rw : Rw B w' v' (n + m) cur'
  tk : cur'.take (n + m) = cur.take n ++ news
  len : news.length = m
  fit : n + m ≤ cur.length → v'.ownBlock = v.ownBlock ∧ cur'.length = cur.length ∧ cur'.drop (n + m) = cur.drop (n + m)
  below : Below B w w'
  grown : w.grownBy w' v.ownBlock
  blk : v'.ownBlock = v.ownBlock ∨ ∀ g, v'.ownBlock = some g → w.heap.size ≤ g
theorem Put.pre {B : Nat} {w W : World} {v : Value} {n : Nat} {cur : List Value} {w' : World} {v' : Value} {m : Nat} {cur' news : List Value} (h : Put B W v n cur w' v' m cur' news) (hB : B ≤ w.heap.size) (hb : Below w.heap.size w W) : Put B w v n cur w' v' m cur' news :=
  ⟨h.rw, h.tk, h.len, h.fit, (hb.mono hB).trans h.below, ⟨h.grown.os.trans hb.os, h.grown.tape.trans hb.tape, h.grown.output.trans hb.output, Nat.le_trans hb.size h.grown.size, fun k hk hp => (h.grown.block k (Nat.lt_of_lt_of_le hk hb.size) hp).trans (hb.block k hk)⟩,
    h.blk.imp id (fun q g hg => Nat.le_trans hb.size (q g hg))⟩
theorem Put.trans {B : Nat} {w w1 w2 : World} {v v1 v2 : Value} {n m1 m2 : Nat} {cur cur1 cur2 x1 x2 : List Value} (h : Put B w v n cur w1 v1 m1 cur1 x1) (k : Put B w1 v1 (n + m1) cur1 w2 v2 m2 cur2 x2) : Put B w v n cur w2 v2 (m1 + m2) cur2 (x1 ++ x2) := by
  refine ⟨by rw [← Nat.add_assoc]; exact k.rw, ?_, by rw [List.length_append, h.len, k.len], ?_, h.below.trans k.below, ⟨k.grown.os.trans h.grown.os, k.grown.tape.trans h.grown.tape, k.grown.output.trans h.grown.output, Nat.le_trans h.grown.size k.grown.size, fun i hi hp => ?_⟩, ?_⟩
  · rw [← Nat.add_assoc, k.tk, h.tk, List.append_assoc]
  · intro hf
    obtain ⟨a1, a2, a3⟩ := h.fit (by omega)
    obtain ⟨b1, b2, b3⟩ := k.fit (by omega)
    refine ⟨b1.trans a1, b2.trans a2, ?_⟩
    rw [← Nat.add_assoc, b3]
    have := congrArg (List.drop m2) a3
    rw [List.drop_drop, List.drop_drop] at this
    exact this
  · refine (k.grown.block i (Nat.lt_of_lt_of_le hi h.grown.size) ?_).trans (h.grown.block i hi hp)
    rcases h.blk with q | q
    · rw [q]; exact hp
    · intro e
      have := q i e.symm
      omega
  · rcases k.blk with q | q
    · rw [q]; exact h.blk
    · exact .inr fun g hg => Nat.le_trans h.grown.size (q g hg)
theorem run_append_rw (w : World) (ty : TypeId) (B : Nat) (v : Value) (n : Nat) (cur : List Value) (hr : Rw B w v n cur) (hB : B ≤ w.heap.size) (ad : Addr) (m c : Nat) (news : List Value) (hl : news.length = m) (hm : 0 < m)
    (hnews : ∀ j u, news[j]? = some u → w.cell? (ad.add j) = some u) (h1 : ∀ u ∈ news, u.oneCell' = true) (hn : n + m ≤ 1000000) :
    ∃ w' v' cur', (Builtin.append_ #[43, 43] ty #[v, .slice (some ad) m c]).run Tryz.prog w = .ok v' w' ∧ Put B w v n cur w' v' m cur' news := by
  obtain ⟨i0, hi, hz0, hz1, hz2⟩ := info_parts infoB
  obtain ⟨r1, r2, r3⟩ := id hr
  by_cases hf : n + m ≤ cur.length
  · rcases r3 with ⟨_, rfl⟩ | ⟨g, rfl, a2, a3⟩
    · simp at hf; omega
    · have e := run_append_room (P := Tryz.prog) w 43 ty 5 i0 Tryz.underlying43 hi g n cur.length cur.toArray a3 ad m c news (by rw [hz1]; omega) hnews h1 hf (by rw [hz1, hl]; simp; omega)
      rw [hz1] at e
      simp only [Nat.mul_one] at e
      have hlen : (cur.take n ++ news ++ cur.drop (n + news.length)).length = cur.length := by simp; omega
      refine ⟨_, _, cur.take n ++ news ++ cur.drop (n + news.length), e, ⟨by omega, by omega, .inr ⟨g, by rw [hlen], a2, setRow_heap w g _ _ 5 _ a3⟩⟩, ?_, hl, ?_, ?_, ?_, ?_⟩
      · rw [List.take_append_of_le_length (by simp; omega)]
        exact List.take_of_length_le (by simp; omega)
      · intro _
        refine ⟨rfl, hlen, ?_⟩
        rw [List.drop_append, List.drop_eq_nil_of_le (by simp; omega), List.nil_append, hl]
        have : n + m - (cur.take n ++ news).length = 0 := by simp; omega
        rw [this, List.drop_zero]
      · exact below_setRow (Below.refl _ _) a2 _
      · exact ⟨rfl, rfl, rfl, by simp, fun k _ hk => setRow_other w g k _ (fun e => hk (by rw [e]; rfl))⟩
      · exact .inl rfl
  · obtain ⟨v', w', e, hown, hg, _⟩ := run_append_own (P := Tryz.prog) w B 43 ty 5 i0 (.int .u8 0) 1 1 Tryz.underlying43 hi hz0 hz1 hz2 rfl (by decide) v n (cur.take n) hr.owns ad m c news (by omega) hnews h1 (by unfold maxLen; omega) (by omega) hB
    obtain ⟨cur', k1, k2⟩ := Rw.of hown
    refine ⟨w', v', cur', e, k1, k2, hl, fun h => absurd h hf, (Below.refl _ _).grown hg hB (fun j hj => (hr.owns.lt j hj).1), hg, .inr ?_⟩
    have hsrc : Src Tryz.prog i0.size 43 (.slice (some ad) m c) m news w := Src.ofSlice w Tryz.underlying43 ad m c news (by rw [hz1]; omega) hnews h1
    have hnew : ∃ G W, (Builtin.append_ #[43, 43] ty #[v, .slice (some ad) m c]).run Tryz.prog w = .ok (.slice (some ⟨w.heap.size, 0, none⟩) (n + m) G) W := by
      rcases r3 with ⟨rfl, rfl⟩ | ⟨g, rfl, a2, a3⟩
      · have hn0 : n = 0 := by simpa using r1
        subst hn0
        exact ⟨_, _, run_append_grow_src w 43 43 ty 5 i0 (.int .u8 0) Tryz.underlying43 hi hz0 none 0 0 [] (run_firstCells_none _ _ _ _ _) _ m news hsrc (by omega) (by omega) (growslice_fits (by omega) (by rw [hz2]; omega))⟩
      · refine ⟨_, _, run_append_grow_src w 43 43 ty 5 i0 (.int .u8 0) Tryz.underlying43 hi hz0 (some ⟨g, 0, none⟩) n cur.length (cur.take n) (run_firstCells_some _ _ _ _ _ _ _ (by rw [hz1, List.length_take]; omega) ?_) _ m news hsrc (by omega) (by omega) (growslice_fits (by omega) (by rw [hz2]; omega))⟩
        intro j u hj
        rw [Addr.add_lit]
        have hj' : cur[j]? = some u := by
          rw [List.getElem?_take] at hj
          split at hj
          · exact hj
          · simp at hj
        simp only [World.cell?, World.drew, a3, Nat.zero_add]
        simpa using hj'
    obtain ⟨G, W, e2⟩ := hnew
    rw [e] at e2
    cases e2
    intro g hg
    cases hg
    exact Nat.le_refl _
theorem wpList_append_rw (w : World) {ops : Array Oper} {rest : List Oper} {o : Oper} {a : Act} {Q : Exit → Act → World → Prop} (hgd : o.guard = none) (s x : Operand)
    (ho : o.op = .call { callee := .builtin .append, args := #[s, x], argTypes := #[43, 43] }) (B : Nat) (v : Value) (n : Nat) (cur : List Value) (hs : a.eval s = v) (hr : Rw B w v n cur) (hB : B ≤ w.heap.size) (ad : Addr) (m c : Nat) (news : List Value)
    (hx : a.eval x = .slice (some ad) m c) (hl : news.length = m) (hm : 0 < m) (hnews : ∀ j u, news[j]? = some u → w.cell? (ad.add j) = some u) (h1 : ∀ u ∈ news, u.oneCell' = true) (hn : n + m ≤ 1000000)
    (h : ∀ w' v' cur', Put B w v n cur w' v' m cur' news → wpList Tryz.prog ops Q rest (a.put o.dst v') w') : wpList Tryz.prog ops Q (o :: rest) a w := by
  refine wpList_plain hgd fun K hK => ?_
  obtain ⟨w', v', cur', hrun, hp⟩ := run_append_rw w o.type B v n cur hr hB ad m c news hl hm hnews h1 hn
  unfold Oper.wp
  simp [execOp, ho, resolve, invoke, builtin, hs, hx, hrun, Result.andThen]
  exact hK _ _ (h w' v' cur' hp)
theorem Put.post {B : Nat} {w : World} {v : Value} {n : Nat} {cur : List Value} {w' w2 : World} {v' : Value} {m : Nat} {cur' news : List Value} (h : Put B w v n cur w' v' m cur' news) (hB : B ≤ w'.heap.size) (hb : Below w'.heap.size w' w2) : Put B w v n cur w2 v' m cur' news :=
  ⟨h.rw.below hb, h.tk, h.len, h.fit, h.below.trans (hb.mono hB), ⟨hb.os.trans h.grown.os, hb.tape.trans h.grown.tape, hb.output.trans h.grown.output, Nat.le_trans h.grown.size hb.size, fun k hk hp => (hb.block k (Nat.lt_of_lt_of_le hk h.grown.size)).trans (h.grown.block k hk hp)⟩, h.blk⟩
theorem cells_at (w : World) (xs : List Value) (t : TypeId) : ∀ j u, xs[j]? = some u → (w.alloc (.cells xs.toArray t)).cell? ((⟨w.heap.size, 0, none⟩ : Addr).add j) = some u := by
  intro j u hj
  rw [Addr.add_lit, World.cell?_alloc_at _ _ _ _ rfl]
  simpa using hj
theorem one_bytes (l : List Int) : ∀ u ∈ bv l, u.oneCell' = true := Sl.one (f := bc) (fun _ => rfl) l
theorem Put.idle {B : Nat} {w : World} {v : Value} {n : Nat} {cur : List Value} (hr : Rw B w v n cur) : Put B w v n cur w v 0 cur (bv []) :=
  ⟨hr, by simp [bv_eq], rfl, fun _ => ⟨rfl, rfl, rfl⟩, Below.refl _ _, ⟨rfl, rfl, rfl, Nat.le_refl _, fun _ _ _ => rfl⟩, .inl rfl⟩
theorem run_append_sl (w : World) (ty : TypeId) (B : Nat) (v : Value) (n : Nat) (cur : List Value) (hr : Rw B w v n cur) (hB : B ≤ w.heap.size) (u : Value) (l : List Int) (hu : Sl bc w u l) (hn : n + l.length ≤ 1000000) :
    ∃ w' v' cur', (Builtin.append_ #[43, 43] ty #[v, u]).run Tryz.prog w = .ok v' w' ∧ Put B w v n cur w' v' l.length cur' (bv l) := by
  by_cases h0 : 0 < l.length
  · rcases hu with ⟨ao, cap, rfl, rfl⟩ | ⟨b, o, cap, rfl, h2, h3⟩
    · simp at h0
    · exact run_append_rw w ty B v n cur hr hB ⟨b, o, none⟩ l.length cap (bv l) (by simp [bv_eq]) h0 (by rw [bv_eq]; exact Sl.news h3) (one_bytes l) hn
  · obtain ⟨ao, cap, rfl⟩ := hu.form
    obtain rfl : l = [] := List.length_eq_zero_iff.1 (by omega)
    refine ⟨w, v, cur, ?_, Put.idle hr⟩
    obtain ⟨i0, hi, hz0, hz1, hz2⟩ := info_parts infoB
    have hl0 : ∀ a : Addr, (loadCells a 0).run Tryz.prog w = .ok #[] w := fun a => by simp [loadCells, loadCellsFrom]
    rcases hr.2.2 with ⟨rfl, rfl⟩ | ⟨g, rfl, _⟩
    · cases ao <;> simp [Builtin.append_, run_underlying Tryz.underlying43, sizeOf, typeInfo, hi, Builtin.lenOf, Builtin.firstCells, hl0]
    · have hle := hr.1
      cases ao <;> simp [Builtin.append_, run_underlying Tryz.underlying43, sizeOf, typeInfo, hi, Builtin.lenOf, Builtin.firstCells, hle, hl0, storeCells]
theorem wpList_append_sl (w : World) {ops : Array Oper} {rest : List Oper} {o : Oper} {a : Act} {Q : Exit → Act → World → Prop} (hgd : o.guard = none) (s x : Operand)
    (ho : o.op = .call { callee := .builtin .append, args := #[s, x], argTypes := #[43, 43] }) (B : Nat) (v : Value) (n : Nat) (cur : List Value) (hs : a.eval s = v) (hr : Rw B w v n cur) (hB : B ≤ w.heap.size) (u : Value) (l : List Int)
    (hx : a.eval x = u) (hu : Sl bc w u l) (hn : n + l.length ≤ 1000000)
    (h : ∀ w' v' cur', Put B w v n cur w' v' l.length cur' (bv l) → wpList Tryz.prog ops Q rest (a.put o.dst v') w') : wpList Tryz.prog ops Q (o :: rest) a w := by
  refine wpList_plain hgd fun K hK => ?_
  obtain ⟨w', v', cur', hrun, hp⟩ := run_append_sl w o.type B v n cur hr hB u l hu hn
  unfold Oper.wp
  simp [execOp, ho, resolve, invoke, builtin, hs, hx, hrun, Result.andThen]
  exact hK _ _ (h w' v' cur' hp)
theorem sl_new (w : World) (l : List Int) (hm : l.length ≤ maxLen) : Sl bc (w.alloc (.cells (bv l).toArray 5)) (.slice (some ⟨w.heap.size, 0, none⟩) l.length l.length) l := by
  have h := owns_new w (bv l) 5 (by rw [bv_eq]; simpa using hm)
  refine sl_of_owns (base := w.heap.size) (e := 5) ?_
  simpa [bv_eq] using h
end Go.Proofs.YtoamghncncalgaaGreatDoor
