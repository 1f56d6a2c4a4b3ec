/-
  castellanref01.Both, at every two chains of at most a thousand steps. Conditions: the chains' cells hold their steps.
-/
import Derived.Test.YtdkbehbpdcfbdaaDoorWorks
namespace Go.Proofs.YtdkbehbpdcfbdaaDoor
open Go.RowKit Go.Extern.Stop Go.Stop Go.Extern

theorem info53 : (Tryd.prog.info? 53).map (fun i => (i.zero, i.size, i.bytes)) = some (some (.agg #[.string ByteArray.empty, .int .i64 0]), 2, 24) := by kernel_rfl

set_option maxHeartbeats 4000000 in
theorem refBoth_left (va : Value) (ao : Option Addr) (n cap : Nat) (kb : Int) (w : World) :
    Calls Tryd.prog 18 #[.agg #[va, .int .i64 0], .agg #[.slice ao n cap, .int .i64 kb]] w fun e w' => e = .returned (.agg #[.slice ao n cap, .int .i64 kb]) ∧ Below w.heap.size w w' := by
  go_enter Tryd.func18, Tryd.ntmps18
  go_wp2
  exact bodyPost_ret (v := .agg #[.slice ao n cap, .int .i64 kb]) (by simp [results, Tryd.results18, go_sem]) rfl ⟨rfl, (((Below.refl _ _).alloc (Nat.le_refl _) _).alloc (by simp) _).alloc (by simp; omega) _⟩
set_option maxHeartbeats 4000000 in
theorem refBoth_right (vb : Value) (ao : Option Addr) (n cap : Nat) (ka : Int) (w : World) (hk : (ka == 0) = false) :
    Calls Tryd.prog 18 #[.agg #[.slice ao n cap, .int .i64 ka], .agg #[vb, .int .i64 0]] w fun e w' => e = .returned (.agg #[.slice ao n cap, .int .i64 ka]) ∧ Below w.heap.size w w' := by
  go_enter Tryd.func18, Tryd.ntmps18
  go_wp2
  exact bodyPost_ret (v := .agg #[.slice ao n cap, .int .i64 ka]) (by simp [results, Tryd.results18, go_sem]) rfl ⟨rfl, (((Below.refl _ _).alloc (Nat.le_refl _) _).alloc (by simp) _).alloc (by simp; omega) _⟩

/-- A list of steps as cells. -/
def cv : List (ByteArray × Int) → List Value
  | [] => []
  | s :: l => .string s.1 :: .int .i64 s.2 :: cv l
theorem cv_len (l : List (ByteArray × Int)) : (cv l).length = l.length * 2 := by
  induction l with
  | nil => rfl
  | cons s l ih => simp only [cv, List.length_cons, ih]; omega
theorem cv_at : ∀ (l : List (ByteArray × Int)) (i : Nat) (h : i < l.length), (cv l)[i * 2]? = some (.string l[i].1) ∧ (cv l)[i * 2 + 1]? = some (.int .i64 l[i].2)
  | s :: l, 0, _ => ⟨rfl, rfl⟩
  | s :: l, i + 1, h => by
    have ih := cv_at l i (by simpa using h)
    rw [show (i + 1) * 2 = i * 2 + 2 by omega]
    simp only [cv, List.getElem?_cons_succ, List.getElem_cons_succ]
    exact ih
theorem cv_one (l : List (ByteArray × Int)) : ∀ u ∈ cv l, u.oneCell' = true := by
  induction l with
  | nil => intro u hu; cases hu
  | cons s l ih =>
    intro u hu
    simp only [cv, List.mem_cons] at hu
    rcases hu with rfl | rfl | hu
    · rfl
    · rfl
    · exact ih u hu
theorem cv_cells {W : World} {b o : Nat} {l : List (ByteArray × Int)} (h : ∀ i (h : i < l.length), W.cell? ⟨b, o + i * 2, none⟩ = some (.string l[i].1) ∧ W.cell? ⟨b, o + i * 2 + 1, none⟩ = some (.int .i64 l[i].2)) :
    ∀ j u, (cv l)[j]? = some u → W.cell? ((⟨b, o, none⟩ : Addr).add j) = some u := by
  intro j u hj
  have hlt : j < (cv l).length := (List.getElem?_eq_some_iff.1 hj).1
  rw [cv_len] at hlt
  rw [Addr.add_lit]
  have hi : j / 2 < l.length := by omega
  have hc := cv_at l (j / 2) hi
  have hw := h (j / 2) hi
  rcases Nat.mod_two_eq_zero_or_one j with hm | hm
  · have e : j / 2 * 2 = j := by omega
    rw [e] at hc hw
    rw [hc.1] at hj
    rw [hw.1, hj]
  · have e : j / 2 * 2 + 1 = j := by omega
    have e' : o + j / 2 * 2 + 1 = o + j := by omega
    rw [e] at hc
    rw [e'] at hw
    rw [hc.2] at hj
    rw [hw.2, hj]
theorem stp_of_owns {w : World} {base : Nat} {v : Value} {l : List (ByteArray × Int)} (h : w.ownsRow base 53 2 v l.length (cv l)) : Stp w v l := by
  obtain ⟨h1, h2⟩ := h
  rcases h2 with ⟨rfl, hn⟩ | ⟨g, cap, cur, rfl, a2, a3, a4, a5, a6, a7⟩
  · exact .inl ⟨_, _, List.length_eq_zero_iff.1 hn, rfl⟩
  · refine .inr ⟨g, 0, cap, rfl, a4, fun i hi => ?_⟩
    have hc := cv_at l i hi
    rw [← a7, List.getElem?_take_of_lt (by omega), List.getElem?_take_of_lt (by omega)] at hc
    simp only [World.cell?, a3, Nat.zero_add]
    simpa using hc

theorem block_at {w : World} {v : Value} {a : Addr} (h : w.cell? a = some v) : a.block < w.heap.size := by
  rcases Nat.lt_or_ge a.block w.heap.size with hl | hl
  · exact hl
  · simp [World.cell?, Array.getElem?_eq_none hl] at h

theorem append_nil (W : World) (g cap : Nat) : (Builtin.append_ #[22, 22] 22 #[.slice (some ⟨g, 0, none⟩) 1 1, .slice none 0 cap]).run Tryd.prog W = .ok (.slice (some ⟨g, 0, none⟩) 1 1) W := by kernel_rfl

set_option maxRecDepth 100000 in
set_option maxHeartbeats 4000000 in
theorem refBoth_new (ad : Addr) (cap : Nat) (l : List (ByteArray × Int)) (ka kb K : Int) (vb : Value) (w : World) (hka : (ka == 0) = false) (hkb : (kb == 0) = false) (hl : l.length ≤ 1000)
    (H27 : Hid (∀ W, Calls Tryd.prog 27 #[.agg #[vb, .int .i64 kb]] W fun e w' => e = .returned (.int .i64 K) ∧ Below W.heap.size W w'))
    (h3 : ∀ j u, (cv l)[j]? = some u → w.cell? (ad.add j) = some u) :
    Calls Tryd.prog 18 #[.agg #[.slice (some ad) l.length cap, .int .i64 ka], .agg #[vb, .int .i64 kb]] w fun e w' =>
      ∃ v', e = .returned (.agg #[v', .int .i64 ka]) ∧ w'.ownsRow w.heap.size 53 2 v' (l.length + 1) (cv ((⟨#[98, 111, 116, 104]⟩, K) :: l)) ∧ Below w.heap.size w w' := by
  obtain ⟨i0, hi, hz0, hz1, hz2⟩ := info_parts info53
  have H3 := hide h3
  clear h3
  go_enter Tryd.func18, Tryd.ntmps18
  go_wp2_with fail
  refine (H27.out _).mono ?_
  rintro e w1 ⟨rfl, hb1⟩
  have hB0 : Below w.heap.size w (((w.alloc (.cells #[.slice (some ad) l.length cap, .int .i64 ka] 24)).alloc (.cells #[vb, .int .i64 kb] 24)).alloc (.cells #[.slice none 0 0, .int .i64 0] 24)) := (((Below.refl _ _).alloc (Nat.le_refl _) _).alloc (by simp) _).alloc (by simp; omega) _
  have hB1 : Below w.heap.size w w1 := hB0.trans (hb1.mono (by simp; omega))
  obtain ⟨hc, hf⟩ := bcell hb1
  have hs : w.heap.size + 3 ≤ w1.heap.size := by have := hb1.size; simp at this; omega
  have c00 : w1.cell? ⟨w.heap.size, 0, none⟩ = some (.slice (some ad) l.length cap) := by rw [hc _ _ (by simp; omega), World.cell?_alloc_past _ _ _ (by simp; omega), World.cell?_alloc_past _ _ _ (by simp), World.cell?_alloc_at _ _ _ _ rfl]; rfl
  have c01 : w1.cell? ⟨w.heap.size, 1, none⟩ = some (.int .i64 ka) := by rw [hc _ _ (by simp; omega), World.cell?_alloc_past _ _ _ (by simp; omega), World.cell?_alloc_past _ _ _ (by simp), World.cell?_alloc_at _ _ _ _ rfl]; rfl
  have r0 : w1.cell? ⟨w.heap.size + 1 + 1, 0, none⟩ = some (.slice none 0 0) := by rw [hc _ _ (by simp), World.cell?_alloc_at _ _ _ _ (by simp)]; rfl
  have r1 : w1.cell? ⟨w.heap.size + 1 + 1, 1, none⟩ = some (.int .i64 0) := by rw [hc _ _ (by simp), World.cell?_alloc_at _ _ _ _ (by simp)]; rfl
  have f0 : w1.frozen? ⟨w.heap.size + 1 + 1, 0, none⟩ = false := by rw [hf _ _ (by simp)]; exact World.frozen?_alloc_at _ _ _ _ (by simp)
  have f1 : w1.frozen? ⟨w.heap.size + 1 + 1, 1, none⟩ = false := by rw [hf _ _ (by simp)]; exact World.frozen?_alloc_at _ _ _ _ (by simp)
  have hs1 : w.heap.size < w1.heap.size := by omega
  have own0 : (w1.alloc (.cells #[.string ⟨#[98, 111, 116, 104]⟩, .int .i64 K] 53)).ownsRow (w.heap.size + 3) 53 2 (.slice (some ⟨w1.heap.size, 0, none⟩) 1 1) 1 [.string ⟨#[98, 111, 116, 104]⟩, .int .i64 K] :=
    ⟨rfl, .inr ⟨w1.heap.size, 1, #[.string ⟨#[98, 111, 116, 104]⟩, .int .i64 K], rfl, hs, Array.getElem?_push_size, Nat.le_refl _, by unfold maxLen; omega, rfl, rfl⟩⟩
  have HN := hide (show ∀ j u, (cv l)[j]? = some u → (w1.alloc (.cells #[.string ⟨#[98, 111, 116, 104]⟩, .int .i64 K] 53)).cell? (ad.add j) = some u from fun j u hj => by
    have h := H3.out j u hj
    have hlt := block_at h
    rw [World.cell?_alloc_lt _ _ _ (show (ad.add j).block < w1.heap.size by omega), hB1.cell hlt]
    exact h)
  have OWN := hide own0
  have HB1 := hide hB1
  clear hc hf hb1 hB0 hB1 own0
  go_wp2_with (first
    | (at_builtin; refine wpList_append_own _ rfl _ _ 22 rfl (w.heap.size + 3) 53 i0 (.agg #[.string ByteArray.empty, .int .i64 0]) 2 24 Tryd.underlying22 hi hz0 hz1 hz2 rfl (by decide) _ _ _ rfl OWN.out ad l.length cap (cv l) rfl (cv_len l) HN.out (cv_one l) ?c3 ?c4 ?c5 ?_))
  case c3 => unfold maxLen; omega
  case c4 => omega
  case c5 => simp; omega
  · intro v' w2 hown' hgrow hne
    have hg : ∀ k o x, k < w1.heap.size → w1.cell? ⟨k, o, none⟩ = some x → w2.cell? ⟨k, o, none⟩ = some x := fun k o x hk hx =>
      hgrow.cell ((World.cell?_alloc_past _ _ _ hk).trans hx) (fun h => by simp [Value.ownBlock] at h; omega)
    have hgf : ∀ k o, k < w1.heap.size → w2.frozen? ⟨k, o, none⟩ = w1.frozen? ⟨k, o, none⟩ := fun k o hk => by
      rw [World.frozen?_of_block (w := w1.alloc (.cells #[.string ⟨#[98, 111, 116, 104]⟩, .int .i64 K] 53)) (hgrow.block k (by simp; omega) (fun h => by simp [Value.ownBlock] at h; omega))]
      exact World.frozen?_alloc_past _ _ _ hk
    have d01 := hg _ _ _ hs1 c01
    have q0 := hg _ _ _ (show w.heap.size + 1 + 1 < w1.heap.size by omega) r0
    have q1 := hg _ _ _ (show w.heap.size + 1 + 1 < w1.heap.size by omega) r1
    have p0 := (hgf (w.heap.size + 1 + 1) 0 (by omega)).trans f0
    have p1 := (hgf (w.heap.size + 1 + 1) 1 (by omega)).trans f1
    have hB2 : Below w.heap.size w w2 := (HB1.out.alloc (by omega) _).grown hgrow (by simp; omega) (fun j hj => by simp [Value.ownBlock] at hj; omega)
    obtain ⟨g, cap2, hv'⟩ : ∃ g cap2, v' = .slice (some ⟨g, 0, none⟩) (1 + l.length) cap2 := by
      rcases hown'.2 with ⟨h, _⟩ | ⟨g, cap2, cur, h, _⟩
      · exact absurd h hne
      · exact ⟨g, cap2, h⟩
    subst hv'
    have HO := hide hown'
    have HB2 := hide hB2
    clear hg hgf hown' hgrow hne hB2 c00 c01 r0 r1 f0 f1 OWN HN HB1 hs1 hs
    go_wp2
    have x0 : ((w2.setCell ⟨w.heap.size + 1 + 1, 0, none⟩ (.slice (some ⟨g, 0, none⟩) (1 + l.length) cap2)).setCell ⟨w.heap.size + 1 + 1, 1, none⟩ (.int .i64 ka)).cell? ⟨w.heap.size + 1 + 1, 0, none⟩ = some (.slice (some ⟨g, 0, none⟩) (1 + l.length) cap2) := by
      rw [World.cell?_setCell_other _ _ _ _ (by simp)]
      exact World.cell?_setCell_same _ _ _ q0
    have x1 : ((w2.setCell ⟨w.heap.size + 1 + 1, 0, none⟩ (.slice (some ⟨g, 0, none⟩) (1 + l.length) cap2)).setCell ⟨w.heap.size + 1 + 1, 1, none⟩ (.int .i64 ka)).cell? ⟨w.heap.size + 1 + 1, 1, none⟩ = some (.int .i64 ka) := by
      refine World.cell?_setCell_same _ _ _ (u := .int .i64 0) ?_
      rw [World.cell?_setCell_other _ _ _ _ (by simp)]
      exact q1
    refine bodyPost_ret (v := .agg #[.slice (some ⟨g, 0, none⟩) (1 + l.length) cap2, .int .i64 ka]) (by simp [results, Tryd.results18, go_sem, x0, x1]) rfl ⟨_, rfl, ?_, (HB2.out.setCell (by simp; omega) _).setCell (by simp; omega) _⟩
    rw [Nat.add_comm l.length 1]
    exact owns_mono (ownsRow_setCell_below (ownsRow_setCell_below HO.out (by simp) _) (by simp) _) (by omega)
set_option maxRecDepth 100000 in
set_option maxHeartbeats 4000000 in
theorem refBoth_none (cap : Nat) (ka kb K : Int) (vb : Value) (w : World) (hka : (ka == 0) = false) (hkb : (kb == 0) = false)
    (H27 : Hid (∀ W, Calls Tryd.prog 27 #[.agg #[vb, .int .i64 kb]] W fun e w' => e = .returned (.int .i64 K) ∧ Below W.heap.size W w')) :
    Calls Tryd.prog 18 #[.agg #[.slice none 0 cap, .int .i64 ka], .agg #[vb, .int .i64 kb]] w fun e w' =>
      ∃ v', e = .returned (.agg #[v', .int .i64 ka]) ∧ w'.ownsRow w.heap.size 53 2 v' 1 (cv [(⟨#[98, 111, 116, 104]⟩, K)]) ∧ Below w.heap.size w w' := by
  have hap := append_nil
  go_enter Tryd.func18, Tryd.ntmps18
  go_wp2_with fail
  refine (H27.out _).mono ?_
  rintro e w1 ⟨rfl, hb1⟩
  have hB0 : Below w.heap.size w (((w.alloc (.cells #[.slice none 0 cap, .int .i64 ka] 24)).alloc (.cells #[vb, .int .i64 kb] 24)).alloc (.cells #[.slice none 0 0, .int .i64 0] 24)) := (((Below.refl _ _).alloc (Nat.le_refl _) _).alloc (by simp) _).alloc (by simp; omega) _
  have hB1 : Below w.heap.size w w1 := hB0.trans (hb1.mono (by simp; omega))
  obtain ⟨hc, hf⟩ := bcell hb1
  have hs : w.heap.size + 3 ≤ w1.heap.size := by have := hb1.size; simp at this; omega
  have c00 : w1.cell? ⟨w.heap.size, 0, none⟩ = some (.slice none 0 cap) := by rw [hc _ _ (by simp; omega), World.cell?_alloc_past _ _ _ (by simp; omega), World.cell?_alloc_past _ _ _ (by simp), World.cell?_alloc_at _ _ _ _ rfl]; rfl
  have c01 : w1.cell? ⟨w.heap.size, 1, none⟩ = some (.int .i64 ka) := by rw [hc _ _ (by simp; omega), World.cell?_alloc_past _ _ _ (by simp; omega), World.cell?_alloc_past _ _ _ (by simp), World.cell?_alloc_at _ _ _ _ rfl]; rfl
  have r0 : w1.cell? ⟨w.heap.size + 1 + 1, 0, none⟩ = some (.slice none 0 0) := by rw [hc _ _ (by simp), World.cell?_alloc_at _ _ _ _ (by simp)]; rfl
  have r1 : w1.cell? ⟨w.heap.size + 1 + 1, 1, none⟩ = some (.int .i64 0) := by rw [hc _ _ (by simp), World.cell?_alloc_at _ _ _ _ (by simp)]; rfl
  have f0 : w1.frozen? ⟨w.heap.size + 1 + 1, 0, none⟩ = false := by rw [hf _ _ (by simp)]; exact World.frozen?_alloc_at _ _ _ _ (by simp)
  have f1 : w1.frozen? ⟨w.heap.size + 1 + 1, 1, none⟩ = false := by rw [hf _ _ (by simp)]; exact World.frozen?_alloc_at _ _ _ _ (by simp)
  have hs1 : w.heap.size < w1.heap.size := by omega
  have hs2 : w.heap.size + 1 + 1 < w1.heap.size := by omega
  have own0 : (w1.alloc (.cells #[.string ⟨#[98, 111, 116, 104]⟩, .int .i64 K] 53)).ownsRow (w.heap.size + 3) 53 2 (.slice (some ⟨w1.heap.size, 0, none⟩) 1 1) 1 [.string ⟨#[98, 111, 116, 104]⟩, .int .i64 K] :=
    ⟨rfl, .inr ⟨w1.heap.size, 1, #[.string ⟨#[98, 111, 116, 104]⟩, .int .i64 K], rfl, hs, Array.getElem?_push_size, Nat.le_refl _, by unfold maxLen; omega, rfl, rfl⟩⟩
  have OWN := hide own0
  have HB1 := hide hB1
  clear hc hf hb1 hB0 hB1 own0
  go_wp2
  have hY : ((w1.setCell ⟨w.heap.size + 1 + 1, 0, none⟩ (.slice (some ⟨w1.heap.size, 0, none⟩) 1 1)).setCell ⟨w.heap.size + 1 + 1, 1, none⟩ (.int .i64 ka)).heap.size = w1.heap.size := by simp
  have x0 : ((w1.setCell ⟨w.heap.size + 1 + 1, 0, none⟩ (.slice (some ⟨w1.heap.size, 0, none⟩) 1 1)).setCell ⟨w.heap.size + 1 + 1, 1, none⟩ (.int .i64 ka)).cell? ⟨w.heap.size + 1 + 1, 0, none⟩ = some (.slice (some ⟨w1.heap.size, 0, none⟩) 1 1) := by
    rw [World.cell?_setCell_other _ _ _ _ (by simp)]
    exact World.cell?_setCell_same _ _ _ r0
  have x1 : ((w1.setCell ⟨w.heap.size + 1 + 1, 0, none⟩ (.slice (some ⟨w1.heap.size, 0, none⟩) 1 1)).setCell ⟨w.heap.size + 1 + 1, 1, none⟩ (.int .i64 ka)).cell? ⟨w.heap.size + 1 + 1, 1, none⟩ = some (.int .i64 ka) := by
    refine World.cell?_setCell_same _ _ _ (u := .int .i64 0) ?_
    rw [World.cell?_setCell_other _ _ _ _ (by simp)]
    exact r1
  have hB : Below w.heap.size w ((w1.setCell ⟨w.heap.size + 1 + 1, 0, none⟩ (.slice (some ⟨w1.heap.size, 0, none⟩) 1 1)).setCell ⟨w.heap.size + 1 + 1, 1, none⟩ (.int .i64 ka)) := (HB1.out.setCell (by simp; omega) _).setCell (by simp; omega) _
  generalize (w1.setCell ⟨w.heap.size + 1 + 1, 0, none⟩ (.slice (some ⟨w1.heap.size, 0, none⟩) 1 1)).setCell ⟨w.heap.size + 1 + 1, 1, none⟩ (.int .i64 ka) = Y at *
  have y0 : (Y.alloc (.cells #[.string ⟨#[98, 111, 116, 104]⟩, .int .i64 K] 53)).cell? ⟨w.heap.size + 1 + 1, 0, none⟩ = some (.slice (some ⟨w1.heap.size, 0, none⟩) 1 1) := (World.cell?_alloc_past _ _ _ (by omega)).trans x0
  have y1 : (Y.alloc (.cells #[.string ⟨#[98, 111, 116, 104]⟩, .int .i64 K] 53)).cell? ⟨w.heap.size + 1 + 1, 1, none⟩ = some (.int .i64 ka) := (World.cell?_alloc_past _ _ _ (by omega)).trans x1
  refine bodyPost_ret (v := .agg #[.slice (some ⟨w1.heap.size, 0, none⟩) 1 1, .int .i64 ka]) (by simp [results, Tryd.results18, go_sem, y0, y1]) rfl ⟨_, rfl, ?_, hB.alloc (by omega) _⟩
  exact ⟨rfl, .inr ⟨w1.heap.size, 1, #[.string ⟨#[98, 111, 116, 104]⟩, .int .i64 K], rfl, by omega, by rw [← hY]; exact Array.getElem?_push_size, Nat.le_refl _, by unfold maxLen; omega, rfl, rfl⟩⟩

/-- Two chains as one, by the document. -/
def boC (la : List (ByteArray × Int)) (ka : Int) (lb : List (ByteArray × Int)) (kb : Int) : List (ByteArray × Int) × Int :=
  if ka = 0 then (lb, kb) else if kb = 0 then (la, ka) else ((⟨#[98, 111, 116, 104]⟩, ofC kb) :: la, ka)

theorem refBoth_any (va vb : Value) (la lb : List (ByteArray × Int)) (ka kb : Int) (w : World) (ha : Stp w va la) (hb : Stp w vb lb) (hl : la.length ≤ 1000) :
    Calls Tryd.prog 18 #[.agg #[va, .int .i64 ka], .agg #[vb, .int .i64 kb]] w fun e w' =>
      ∃ v', e = .returned (.agg #[v', .int .i64 (boC la ka lb kb).2]) ∧ Stp w' v' (boC la ka lb kb).1 ∧ Below w.heap.size w w' := by
  by_cases h0 : ka = 0
  · subst h0
    obtain ⟨ao, cap, rfl⟩ := hb.form
    refine (refBoth_left va ao lb.length cap kb w).mono ?_
    rintro e w' ⟨rfl, hB⟩
    exact ⟨_, rfl, hb.below hB, hB⟩
  · have hka : (ka == 0) = false := by rw [beq_eq_false_iff_ne]; exact h0
    by_cases h1 : kb = 0
    · subst h1
      obtain ⟨ao, cap, rfl⟩ := ha.form
      have e1 : boC la ka lb 0 = (la, ka) := by simp [boC, h0]
      rw [e1]
      refine (refBoth_right vb ao la.length cap ka w hka).mono ?_
      rintro e w' ⟨rfl, hB⟩
      exact ⟨_, rfl, ha.below hB, hB⟩
    · have hkb : (kb == 0) = false := by rw [beq_eq_false_iff_ne]; exact h1
      have e1 : boC la ka lb kb = ((⟨#[98, 111, 116, 104]⟩, ofC kb) :: la, ka) := by simp [boC, h0, h1]
      rw [e1]
      have key : Calls Tryd.prog 18 #[.agg #[va, .int .i64 ka], .agg #[vb, .int .i64 kb]] w fun e w' =>
          ∃ v', e = .returned (.agg #[v', .int .i64 ka]) ∧ w'.ownsRow w.heap.size 53 2 v' (la.length + 1) (cv ((⟨#[98, 111, 116, 104]⟩, ofC kb) :: la)) ∧ Below w.heap.size w w' := by
        rcases ha with ⟨ao, cap, rfl, rfl⟩ | ⟨b, o, cap, rfl, h2, h3⟩
        · cases ao with
          | none => exact refBoth_none cap ka kb (ofC kb) vb w hka hkb (fun W => refOf_any vb kb W)
          | some a => exact refBoth_new a cap [] ka kb (ofC kb) vb w hka hkb hl (fun W => refOf_any vb kb W) (fun j u hj => by cases hj)
        · exact refBoth_new ⟨b, o, none⟩ cap la ka kb (ofC kb) vb w hka hkb hl (fun W => refOf_any vb kb W) (cv_cells h3)
      refine key.mono ?_
      rintro e w' ⟨v', rfl, hown, hB⟩
      exact ⟨v', rfl, stp_of_owns hown, hB⟩

end Go.Proofs.YtdkbehbpdcfbdaaDoor
