/-
  IS A BLOCK A BEGINNING OF ONE, AND THE REST OF ANOTHER? (castellanlaw08.begun, mixed): where it is, true. Condition: blocks of sixty-four bytes.
-/
import Derived.Test.YtcgfgmnelaiojaaDoorBlkP
namespace Go.Proofs.YtcgfgmnelaiojaaDoor
open Go.RowKit

/-- A block's bytes in memory of their own. -/
def Ar (W : World) (g : Nat) (b : List Int) : Prop := Blk b ∧ W.heap[g]? = some (.cells (bv b).toArray 79 (0, 0))
theorem Ar.lt {W : World} {g : Nat} {b : List Int} (h : Ar W g b) : g < W.heap.size := (Array.getElem?_eq_some_iff.1 h.2).1
theorem Ar.keep {W W' : World} {g : Nat} {b : List Int} (h : Ar W g b) (he : W'.heap[g]? = W.heap[g]?) : Ar W' g b := ⟨h.1, he.trans h.2⟩
theorem Ar.below {W W' : World} {g : Nat} {b : List Int} (h : Ar W g b) (hb : Below W.heap.size W W') : Ar W' g b := h.keep (hb.block _ h.lt)
theorem Ar.cell {W : World} {g : Nat} {b : List Int} (h : Ar W g b) {i : Nat} (hi : i < b.length) : W.cell? ⟨g, i, none⟩ = some (.int .u8 b[i]) := arr_at h.2 (List.getElem?_eq_getElem hi)
theorem Ar.from {W : World} {g : Nat} {b : List Int} (h : Ar W g b) {k : Nat} (hk : k ≤ 64) : Sl bc W (.slice (some ⟨g, if k = 64 then 0 else k, none⟩) (64 - k) (64 - k)) (b.drop k) := by
  have hl : (b.drop k).length = 64 - k := by rw [List.length_drop, h.1.1]
  by_cases e : k = 64
  · subst e
    rw [List.drop_of_length_le (by rw [h.1.1]; exact Nat.le_refl _)]
    exact Sl.nil _ _ _ _
  · rw [if_neg e, ← hl]
    refine .inr ⟨g, k, _, rfl, Nat.le_refl _, fun i hi => ?_⟩
    have h2 : k + i < b.length := by rw [hl] at hi; rw [h.1.1]; omega
    rw [h.cell h2, List.getElem_drop]
    rfl
theorem sliceB_from (g k : Nat) (hk : k ≤ 64) (W : World) : (Instr.slice 38 (.slice (some ⟨g, 0, none⟩) 64 64) (some (.int .i64 (k : Int))) none none).run Tryd.prog W = .ok (.slice (some ⟨g, if k = 64 then 0 else k, none⟩) (64 - k) (64 - k)) W := by
  have h1 : (k : Int) ≤ 64 := by omega
  by_cases e : k = 64
  · subst e
    simp [Instr.slice, go_sem]
  · have e' : ¬ 64 = k := fun q => e q.symm
    simp [Instr.slice, go_sem, h1, e, e']
theorem callD {w W W' : World} (hb : Below W.heap.size W W') (h : True ∧ Below w.heap.size w W ∧ w.heap.size ≤ W.heap.size) : True ∧ Below w.heap.size w W' ∧ w.heap.size ≤ W'.heap.size := ⟨trivial, h.2.1.trans (hb.mono h.2.2), Nat.le_trans h.2.2 hb.size⟩
theorem keepD {w W : World} (h : Below w.heap.size w W) (n : Nat) : True ∧ Below w.heap.size w (W.drewN n).drew ∧ w.heap.size ≤ (W.drewN n).drew.heap.size := ⟨trivial, (below_drewN h n).drew, (below_drewN h n).drew.size⟩
set_option maxRecDepth 100000 in
set_option maxHeartbeats 4000000 in
theorem begun_any (gb gx gy : Nat) (b x y : List Int) (w : World) (hb : Ar w gb b) (hx : Ar w gx x) (hy : Ar w gy y) :
    Calls Tryd.prog 42 #[.slice (some ⟨gb, 0, none⟩) 64 64, .slice (some ⟨gx, 0, none⟩) 64 64, .slice (some ⟨gy, 0, none⟩) 64 64] w fun e w' => ∃ r, e = .returned (.bool r) ∧ (r = false → ¬ Bg b x y) ∧ Below w.heap.size w w' := by
  have HB := hide hb
  have HX := hide hx
  have HY := hide hy
  clear hb hx hy
  go_enter Tryd.func42, Tryd.ntmps42
  go_wp2
  go_loopw [7] (fun i W => ∃ k : Nat, k ≤ 64 ∧ i = .int .i64 k ∧ Below w.heap.size w W) (fun i _ => 64 - (iv i).toNat)
  case atStart => exact ⟨0, Nat.zero_le _, rfl, Below.refl _ _⟩
  case round =>
    obtain ⟨k, hk, rfl, hb⟩ := hrel
    have HW := hide hb
    clear hb
    have hsb := fun g => sliceB_from g k hk
    have HF : Hid (∀ W, Below w.heap.size w W → True) := hide (fun _ _ => trivial)
    have HS := hide (fun W (h : Below w.heap.size w W) => same_any _ _ (b.drop k) (y.drop k) W ((HB.out.below h).from hk) ((HY.out.below h).from hk) (by rw [List.length_drop, HB.out.1.1]; omega))
    by_cases hlt : k < 64
    · have hlz : (k : Int) < 64 := by omega
      have hc : wr.cell? ⟨gb, k, none⟩ = some (.int .u8 (b[k]'(by rw [HB.out.1.1]; exact hlt))) := (HB.out.below HW.out).cell (by rw [HB.out.1.1]; exact hlt)
      have hc' : wr.cell? ⟨gx, k, none⟩ = some (.int .u8 (x[k]'(by rw [HX.out.1.1]; exact hlt))) := (HX.out.below HW.out).cell (by rw [HX.out.1.1]; exact hlt)
      have HD : Hid (b[k]? = some (b[k]'(by rw [HB.out.1.1]; exact hlt)) ∧ x[k]? = some (x[k]'(by rw [HX.out.1.1]; exact hlt))) := hide ⟨List.getElem?_eq_getElem _, List.getElem?_eq_getElem _⟩
      generalize b[k]'(by rw [HB.out.1.1]; exact hlt) = p at hc HD
      generalize x[k]'(by rw [HX.out.1.1]; exact hlt) = q at hc' HD
      by_cases hpq : p = q
      · subst hpq
        go_wp2_with fail
        go_quiet (fail)
        go_wp2
        exact ⟨⟨k + 1, by omega, by go_num, below_drewN HW.out _⟩, by simp [iv]; omega⟩
      · have HNE : Hid (b[k]? ≠ x[k]?) := hide (fun e => hpq (by rw [HD.out.1, HD.out.2] at e; exact Option.some.inj e))
        have hz : (p == q) = false := beq_eq_false_iff_ne.2 hpq
        go_wp2_with fail
        go_quiet (fail)
        go_wp2_with fail
        have HD0 := hide (keepD HW.out)
        go_region_held3 (fun W => True ∧ Below w.heap.size w W ∧ w.heap.size ≤ W.heap.size)
          (first | with_reducible assumption | exact callD (by assumption) (by assumption) | with_reducible exact HD0.out _)
          (first
            | (go_at_call 21; refine (HS.out _ ?_).mono ?_; exact And.left (And.right (by assumption)); rintro e w' ⟨rfl, hb⟩))
        have hfin : Below w.heap.size w w' := And.left (And.right (by assumption))
        have HFI := hide hfin
        clear hfin
        go_wp2_with fail
        go_ret
        exact ⟨_, rfl, fun e hg => by rw [decide_eq_false_iff_not] at e; exact e (bg_rest HX.out.1.1 hg (.inr HNE.out)), HFI.out⟩
    · have HE : Hid (k = 64) := hide (by omega)
      have hlz : decide ((k : Int) < 64) = false := decide_eq_false (by omega)
      go_wp2_with fail
      go_quiet (fail)
      go_wp2_with fail
      have HD0 := hide (keepD HW.out)
      go_region_held3 (fun W => True ∧ Below w.heap.size w W ∧ w.heap.size ≤ W.heap.size)
        (first | with_reducible assumption | exact callD (by assumption) (by assumption) | with_reducible exact HD0.out _)
        (first
          | (go_at_call 21; refine (HS.out _ ?_).mono ?_; exact And.left (And.right (by assumption)); rintro e w' ⟨rfl, hb⟩))
      have hfin : Below w.heap.size w w' := And.left (And.right (by assumption))
      have HFI := hide hfin
      clear hfin
      go_wp2_with fail
      go_ret
      exact ⟨_, rfl, fun e hg => by rw [decide_eq_false_iff_not] at e; exact e (bg_rest HX.out.1.1 hg (k := 64) (.inl rfl)), HFI.out⟩
/-- The block's own row of rows: what was written, each in memory of its own. -/
abbrev Wo := Nat × List Int
def woc (q : Wo) : Value := .slice (some ⟨q.1, 0, none⟩) 64 64
theorem woc_one (l : List Wo) : ∀ u ∈ l.map woc, u.oneCell' = true := fun u hu => by
  obtain ⟨q, _, rfl⟩ := List.mem_map.1 hu
  rfl
structure Ww (W : World) (B : Nat) (v : Value) (ps : List Wo) : Prop where
  own : W.ownsRow B 38 1 v ps.length (ps.map woc)
  mem : ∀ q ∈ ps, B ≤ q.1 ∧ v.ownBlock ≠ some q.1 ∧ Ar W q.1 q.2
theorem ww_nil (W : World) (B : Nat) : Ww W B (.slice none 0 0) [] := ⟨World.ownsRow_nil _ _ _ _, fun q hq => by simp at hq⟩
theorem ww_form {W : World} {B : Nat} {v : Value} {ps : List Wo} (h : Ww W B v ps) : ∃ a c, v = .slice a ps.length c := by
  rcases h.own.2 with ⟨e, h0⟩ | ⟨g, cap, cur, e, _⟩
  · exact ⟨none, 0, by rw [e, h0]⟩
  · exact ⟨_, _, e⟩
theorem Ww.keep {W W' : World} {B : Nat} {v : Value} {ps : List Wo} (h : Ww W B v ps) (hk : ∀ k, B ≤ k → k < W.heap.size → W'.heap[k]? = W.heap[k]?) : Ww W' B v ps := by
  refine ⟨?_, fun q hq => ⟨(h.mem q hq).1, (h.mem q hq).2.1, (h.mem q hq).2.2.keep (hk _ (h.mem q hq).1 (h.mem q hq).2.2.lt)⟩⟩
  obtain ⟨h1, h2⟩ := h.own
  refine ⟨h1, ?_⟩
  rcases h2 with h2 | ⟨g, cap, cur, a1, a2, a3, a4⟩
  · exact .inl h2
  · exact .inr ⟨g, cap, cur, a1, a2, (hk g a2 (Array.getElem?_eq_some_iff.1 a3).1).trans a3, a4⟩
theorem Ww.below {W W' : World} {B : Nat} {v : Value} {ps : List Wo} (h : Ww W B v ps) (hb : Below W.heap.size W W') : Ww W' B v ps := h.keep (fun k _ hk => hb.block k hk)
theorem Ww.at {W : World} {B : Nat} {a0 : Option Addr} {n c : Nat} {ps : List Wo} (h : Ww W B (.slice a0 n c) ps) {k : Nat} (hk : k < ps.length) : ∃ cb, a0 = some ⟨cb, 0, none⟩ ∧ n = ps.length ∧ ps.length ≤ c ∧ W.cell? ⟨cb, k, none⟩ = some (.slice (some ⟨(ps[k]).1, 0, none⟩) 64 64) := by
  rcases h.own.2 with ⟨_, h0⟩ | ⟨g, cap, cur, e, a2, a3, a4, a5, a6, a7⟩
  · omega
  · cases e
    refine ⟨g, rfl, rfl, a4, ?_⟩
    have h1 : (ps.map woc)[k]? = some (woc ps[k]) := by rw [List.getElem?_map, List.getElem?_eq_getElem hk]; rfl
    rw [← a7, List.getElem?_take_of_lt (by omega)] at h1
    simp only [World.cell?, a3]
    simpa [woc] using h1
set_option maxRecDepth 100000 in
set_option maxHeartbeats 4000000 in
/-- The first n of a row of rows. -/
theorem mixed_any (gb gx gw cb n c : Nat) (b x y : List Int) (ps : List Wo) (w : World) (hn : ps.length = n) (hl : n < 100000) (hb : Ar w gb b) (hx : Ar w gx x) (hy : Ar w gw y) (hp : ∀ k (h : k < ps.length), w.cell? ⟨cb, k, none⟩ = some (.slice (some ⟨(ps[k]).1, 0, none⟩) 64 64) ∧ Ar w (ps[k]).1 (ps[k]).2) (v : Value) (hv : v = .slice (some ⟨cb, 0, none⟩) n c ∨ (n = 0 ∧ ∃ a0, v = .slice a0 0 c)) :
    Calls Tryd.prog 22 #[.slice (some ⟨gb, 0, none⟩) 64 64, .slice (some ⟨gx, 0, none⟩) 64 64, .slice (some ⟨gw, 0, none⟩) 64 64, v] w fun e w' => ∃ r, e = .returned (.bool r) ∧ (r = false → ¬ Bg b x y ∧ ∀ q ∈ ps, ¬ Bg b x q.2) ∧ Below w.heap.size w w' := by
  obtain ⟨a0, rfl, ha⟩ : ∃ a0, v = .slice a0 n c ∧ (0 < n → a0 = some ⟨cb, 0, none⟩) := by
    rcases hv with e | ⟨e0, a0, e⟩
    · exact ⟨_, e, fun _ => rfl⟩
    · subst e0; exact ⟨a0, e, fun q => by omega⟩
  have HA := hide ha
  have HP := hide hp
  have HX : Hid (∀ W, Below w.heap.size w W → Calls Tryd.prog 42 #[.slice (some ⟨gb, 0, none⟩) 64 64, .slice (some ⟨gx, 0, none⟩) 64 64, .slice (some ⟨gw, 0, none⟩) 64 64] W fun e w' => ∃ r, e = .returned (.bool r) ∧ (r = false → ¬ Bg b x y) ∧ Below W.heap.size W w') := hide (fun W h => begun_any gb gx gw b x y W (hb.below h) (hx.below h) (hy.below h))
  have HQ : Hid (∀ k (h : k < ps.length) W, Below w.heap.size w W → Calls Tryd.prog 42 #[.slice (some ⟨gb, 0, none⟩) 64 64, .slice (some ⟨gx, 0, none⟩) 64 64, .slice (some ⟨(ps[k]).1, 0, none⟩) 64 64] W fun e w' => ∃ r, e = .returned (.bool r) ∧ (r = false → ¬ Bg b x (ps[k]).2) ∧ Below W.heap.size W w') := hide (fun k h W hW => begun_any gb gx (ps[k]).1 b x (ps[k]).2 W (hb.below hW) (hx.below hW) ((HP.out k h).2.below hW))
  clear hp hb hx hy ha hv
  go_enter Tryd.func22, Tryd.ntmps22
  go_wp2_with (first | (go_at_call 42; refine (HX.out _ (Below.refl _ _)).mono ?_; rintro e w1 ⟨r, rfl, hr, hb1⟩; have HR := hide hr; have HB1 := hide hb1; clear hr hb1; cases r))
  · go_loopw [9] (fun i W => ∃ k : Nat, k ≤ n ∧ i = .int .i64 k ∧ Below w.heap.size w W ∧ ∀ j (h : j < ps.length), j < k → ¬ Bg b x (ps[j]).2) (fun i _ => n - (iv i).toNat)
    case atStart => exact ⟨0, Nat.zero_le _, rfl, HB1.out, fun j _ h => by omega⟩
    case round =>
      obtain ⟨k, hk, rfl, hb, hno⟩ := hrel
      have HW := hide hb
      have HNO := hide hno
      clear hb hno
      by_cases hlt : k < n
      · obtain rfl := HA.out (by omega)
        have hkp : k < ps.length := by omega
        have hc := (HW.out.cell (p := ⟨cb, k, none⟩) (cell_block (HP.out k hkp).1)).trans (HP.out k hkp).1
        have HQK : Hid (∀ W, Below w.heap.size w W → Calls Tryd.prog 42 #[.slice (some ⟨gb, 0, none⟩) 64 64, .slice (some ⟨gx, 0, none⟩) 64 64, .slice (some ⟨(ps[k]).1, 0, none⟩) 64 64] W fun e w' => ∃ r, e = .returned (.bool r) ∧ (r = false → ¬ Bg b x (ps[k]).2) ∧ Below W.heap.size W w') := hide (HQ.out k hkp)
        generalize (ps[k]).1 = gq at hc HQK
        go_wp2_with (first | (go_at_call 42; refine (HQK.out _ HW.out).mono ?_; rintro e w1 ⟨r2, rfl, hr2, hb2⟩; have HR2 := hide hr2; have HB2 := hide (HW.out.trans (hb2.mono HW.out.size)); clear hr2 hb2; cases r2))
        · exact ⟨⟨k + 1, by omega, by go_num, HB2.out, fun j h hj => by
            by_cases e : j = k
            · subst e; exact HR2.out (by trivial)
            · exact HNO.out j h (by omega)⟩, by simp [iv]; omega⟩
        · go_ret
          exact ⟨_, rfl, (fun e => by cases e), HB2.out⟩
      · go_wp2
        go_ret
        exact ⟨_, rfl, fun _ => ⟨HR.out (by trivial), fun q hq => by
          obtain ⟨j, hj, rfl⟩ := List.mem_iff_getElem.1 hq
          exact HNO.out j hj (by omega)⟩, HW.out⟩
  · go_ret
    exact ⟨_, rfl, (fun e => by cases e), HB1.out⟩
end Go.Proofs.YtcgfgmnelaiojaaDoor
