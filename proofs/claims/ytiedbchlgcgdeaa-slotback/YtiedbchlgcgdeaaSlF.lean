/-
  A SLOT'S VALUE IS PUT, SYNCED AND TOLD (Slot.waits, Put, Sync, Value, Turn). Conditions: turns below 256; room for its blocks; fewer than twenty thousand blocks and writes.
-/
import Derived.Test.YtiedbchlgcgdeaaSlP
import Derived.Test.YtiedbchlgcgdeaaChU
namespace Go.Proofs.Ytiedbchlgcgdeaa
open Go.RowKit

def opTurn : ByteArray := ⟨#[116, 117, 114, 110]⟩
def opValue : ByteArray := ⟨#[118, 97, 108, 117, 101]⟩
section
variable {c d bS bT : Nat} {u : Value} {s : Dst} {a T : Int} {v : Value} {V : List Int} {lz : Bool}
set_option maxRecDepth 100000 in
set_option maxHeartbeats 16000000 in
theorem waits_yes (w : World) (h : Slo w c d bS bT u s a T v V true) (hw : s.wt < 30000) (ha : Num a) (ha1 : Num (a + 1)) (hT : 0 ≤ T) (hB : Byt (blkS T V)) (hf : firmB s.cs a T (blkS T V) = false) : Calls Try.prog 20 #[.pointer (some ⟨c, 0, none⟩)] w fun e w' => e = .returned (.bool true) ∧ Below w.heap.size w w' := by
  obtain ⟨pv, nv, mv, rfl⟩ := h.sl.form
  have HS := hide h
  have HA := hide ha
  have HA1 := hide ha1
  have HF := hide hf
  have HB := hide hB
  have x2 := h.x.c2
  have x3 := h.x.c3
  have x4 := h.x.c4
  clear h ha ha1 hf hB
  go_enter Try.func20, Try.ntmps20
  go_wp2_with (first | (go_at_call 19; refine (firm_any c a T _ (blkS T V) _ _ _ _ HS.out.x HS.out.q hw HA.out HA1.out hT (HS.out.sl.keep (fun _ _ _ => trivial) (fun _ _ _ => rfl)) HB.out).mono ?_; rintro e W7 ⟨rfl, hb7⟩; rw [HF.out]; have HB7 := hide hb7; clear hb7))
  go_ret
  exact ⟨rfl, HB7.out⟩
set_option maxRecDepth 100000 in
set_option maxHeartbeats 16000000 in
theorem waits_no (w : World) (h : Slo w c d bS bT u s a T v V false) (ha : Num a) (ha1 : Num (a + 1)) (hB : Byt (blkS T V)) (hN : slotB s.tk a = (T, blkS T V)) : Calls Try.prog 20 #[.pointer (some ⟨c, 0, none⟩)] w fun e w' => e = .returned (.bool false) ∧ Below w.heap.size w w' := by
  obtain ⟨pv, nv, mv, rfl⟩ := h.sl.form
  have HS := hide h
  have HA := hide ha
  have HA1 := hide ha1
  have HNW := hide hN
  have HBY := hide hB
  have x4 := h.x.c4
  clear h ha ha1 hN hB
  go_enter Try.func20, Try.ntmps20
  go_upto_region 3 with fail
  clear x4
  go_cut [3] (fun p W => ∃ (g : Nat) (v0 v1 : Value), p = .pointer (some ⟨g, 0, none⟩) ∧ B4 W g (.int .i64 (saidB (vw s.tk a)).1) v0 (.int .i64 (saidB (vw s.tk (a + 1))).1) v1 ∧ Sb (fun _ => True) W v0 (saidB (vw s.tk a)).2 ∧ Sb (fun _ => True) W v1 (saidB (vw s.tk (a + 1))).2 ∧ Below w.heap.size w W)
  case first =>
    have hdw : Below w.heap.size w w.drew := (Below.refl _ _).drew
    refine wp_region_held_drew (S := fun W => W.cell? ⟨c, 0, none⟩ = some (.pointer (some ⟨d, 0, none⟩)) ∧ W.cell? ⟨c, 1, none⟩ = some (.int .i64 a)) (by kernel_rfl) ⟨(HS.out.x.below hdw).c0, (HS.out.x.below hdw).c1⟩ (fun hHeld => ?_)
    have HB1 := hide hdw
    generalize w.drew = W1 at HB1 hHeld ⊢
    clear hdw
    have HCC : Hid (∀ W, Below w.heap.size w W → c < W.heap.size) := hide (fun W h => Nat.lt_of_lt_of_le HS.out.x.lt h.size)
    refine wpAnyH_take (i := 0) (oi := _) (v := .pointer (some ⟨c, 0, none⟩)) rfl (by kernel_rfl) (by kernel_rfl) (by kernel_rfl) (fun _ _ _ h => h) (Or.inl ⟨by rfl, by intro w hSw; go_simp⟩) hHeld ?_
    change wpAnyH _ _ _ _ _ _ _ (Act.put _ (some 20) _) _
    simp only [Act.put, List.setIfInBounds_toArray, List.set_cons_zero, List.set_cons_succ]
    refine wpAnyH_take (i := 1) (oi := _) (v := .pointer (some ⟨c, 0, none⟩)) rfl (by kernel_rfl) (by kernel_rfl) (by kernel_rfl) (fun _ _ _ h => h) (Or.inl ⟨by rfl, by intro w hSw; go_simp⟩) hHeld ?_
    change wpAnyH _ _ _ _ _ _ _ (Act.put _ (some 21) _) _
    simp only [Act.put, List.setIfInBounds_toArray, List.set_cons_zero, List.set_cons_succ]
    refine wpAnyH_take (i := 2) (oi := _) (v := .pointer (some ⟨c, 0, none⟩)) rfl (by kernel_rfl) (by kernel_rfl) (by kernel_rfl) (fun _ _ _ h => h) (Or.inl ⟨by rfl, by intro w hSw; go_simp⟩) hHeld ?_
    change wpAnyH _ _ _ _ _ _ _ (Act.put _ (some 22) _) _
    simp only [Act.put, List.setIfInBounds_toArray, List.set_cons_zero, List.set_cons_succ]
    refine wpAnyH_take (i := 3) (oi := _) (v := .pointer (some ⟨d, 0, none⟩)) rfl (by kernel_rfl) (by kernel_rfl) (by kernel_rfl) (fun _ _ _ h => h) (Or.inl ⟨by rfl, by intro w hSw; have h1 := hSw.1; go_simp⟩) hHeld ?_
    change wpAnyH _ _ _ _ _ _ _ (Act.put _ (some 23) _) _
    simp only [Act.put, List.setIfInBounds_toArray, List.set_cons_zero, List.set_cons_succ]
    refine wpAnyH_take (i := 4) (oi := _) (v := .pointer (some ⟨c, 0, none⟩)) rfl (by kernel_rfl) (by kernel_rfl) (by kernel_rfl) (fun _ _ _ h => h) (Or.inl ⟨by rfl, by intro w hSw; go_simp⟩) hHeld ?_
    change wpAnyH _ _ _ _ _ _ _ (Act.put _ (some 24) _) _
    simp only [Act.put, List.setIfInBounds_toArray, List.set_cons_zero, List.set_cons_succ]
    refine wpAnyH_take (i := 5) (oi := _) (v := .pointer (some ⟨c, 0, none⟩)) rfl (by kernel_rfl) (by kernel_rfl) (by kernel_rfl) (fun _ _ _ h => h) (Or.inl ⟨by rfl, by intro w hSw; go_simp⟩) hHeld ?_
    change wpAnyH _ _ _ _ _ _ _ (Act.put _ (some 25) _) _
    simp only [Act.put, List.setIfInBounds_toArray, List.set_cons_zero, List.set_cons_succ]
    refine wpAnyH_take (i := 6) (oi := _) (v := .pointer (some ⟨c, 1, none⟩)) rfl (by kernel_rfl) (by kernel_rfl) (by kernel_rfl) (fun _ _ _ h => h) (Or.inl ⟨by rfl, by intro w hSw; go_simp⟩) hHeld ?_
    change wpAnyH _ _ _ _ _ _ _ (Act.put _ (some 26) _) _
    simp only [Act.put, List.setIfInBounds_toArray, List.set_cons_zero, List.set_cons_succ]
    refine wpAnyH_take (i := 7) (oi := _) (v := .int .i64 a) rfl (by kernel_rfl) (by kernel_rfl) (by kernel_rfl) (fun _ _ _ h => h) (Or.inl ⟨by rfl, by intro w hSw; have h1 := hSw.2; go_simp⟩) hHeld ?_
    change wpAnyH _ _ _ _ _ _ _ (Act.put _ (some 27) _) _
    simp only [Act.put, List.setIfInBounds_toArray, List.set_cons_zero, List.set_cons_succ]
    refine wpAnyH_ready (rs := [8, 12]) (by kernel_rfl) (by simp) ?_
    refine AllReadyH.cons (o := _) rfl (fun K hK => ?_) (AllReadyH.cons (o := _) rfl (fun K hK => ?_) AllReadyH.nil)
    · go_simp
      go_at_call 17
      refine (read_ok a _ (HS.out.q.below HB1.out) HA.out HA1.out).mono ?_
      rintro e W3 ⟨v0, v1, rfl, hs0, hs1, hb⟩
      obtain ⟨p0, n0, m0, rfl⟩ := hs0.form
      obtain ⟨p1, n1, m1, rfl⟩ := hs1.form
      go_wp2_with fail
      refine hK.out _ _ ⟨(hb.cell (p := ⟨c, 0, none⟩) (HCC.out _ HB1.out)).trans hHeld.1, (hb.cell (p := ⟨c, 1, none⟩) (HCC.out _ HB1.out)).trans hHeld.2⟩ (fun hHeld1 => ?_)
      clear hK K hHeld
      have hHeld := hHeld1
      clear hHeld1
      refine wpAnyH_take (i := 9) (oi := _) (v := .tuple #[.agg #[.int .i64 (saidB (vw s.tk a)).1, .slice p0 n0 m0, .int .i64 (saidB (vw s.tk (a + 1))).1, .slice p1 n1 m1], .nilIface]) rfl (by kernel_rfl) (by kernel_rfl) (by kernel_rfl) (fun _ _ _ h => h) (Or.inl ⟨by rfl, by intro w hSw; go_simp⟩) hHeld ?_
      change wpAnyH _ _ _ _ _ _ _ (Act.put _ (some 19) _) _
      simp only [Act.put, List.setIfInBounds_toArray, List.set_cons_zero, List.set_cons_succ]
      refine wpAnyH_take (i := 10) (oi := _) (v := .agg #[.int .i64 (saidB (vw s.tk a)).1, .slice p0 n0 m0, .int .i64 (saidB (vw s.tk (a + 1))).1, .slice p1 n1 m1]) rfl (by kernel_rfl) (by kernel_rfl) (by kernel_rfl) (fun _ _ _ h => h) (Or.inl ⟨by rfl, by intro w hSw; go_simp⟩) hHeld ?_
      change wpAnyH _ _ _ _ _ _ _ (Act.put _ (some 29) _) _
      simp only [Act.put, List.setIfInBounds_toArray, List.set_cons_zero, List.set_cons_succ]
      refine wpAnyH_take (i := 11) (oi := _) (v := .nilIface) rfl (by kernel_rfl) (by kernel_rfl) (by kernel_rfl) (fun _ _ _ h => h) (Or.inl ⟨by rfl, by intro w hSw; go_simp⟩) hHeld ?_
      change wpAnyH _ _ _ _ _ _ _ (Act.put _ (some 30) _) _
      simp only [Act.put, List.setIfInBounds_toArray, List.set_cons_zero, List.set_cons_succ]
      have HB3 := hide (bt HB1.out hb)
      have HS30 := hide hs0
      have HS31 := hide hs1
      clear hs0 hs1 hb
      refine wpAnyH_ready (rs := [12]) (by kernel_rfl) (by simp) ?_
      refine AllReadyH.cons (o := _) rfl (fun K hK => ?_) AllReadyH.nil
      go_simp
      refine hK.out _ _ ⟨(((Below.refl _ _).alloc (Nat.le_refl _) _ : Below W3.heap.size W3 (W3.alloc (.cells #[.int .i64 0, .slice none 0 0, .int .i64 0, .slice none 0 0] 55))).cell (p := ⟨c, 0, none⟩) (HCC.out _ HB3.out)).trans hHeld.1, (((Below.refl _ _).alloc (Nat.le_refl _) _ : Below W3.heap.size W3 (W3.alloc (.cells #[.int .i64 0, .slice none 0 0, .int .i64 0, .slice none 0 0] 55))).cell (p := ⟨c, 1, none⟩) (HCC.out _ HB3.out)).trans hHeld.2⟩ (fun hHeld1 => ?_)
      clear hK K hHeld
      have hHeld := hHeld1
      clear hHeld1
      have hal : Below W3.heap.size W3 (W3.alloc (.cells #[.int .i64 0, .slice none 0 0, .int .i64 0, .slice none 0 0] 55)) := (Below.refl _ _).alloc (Nat.le_refl _) _
      have HG4 := hide (b4_new W3 (.int .i64 0) (.slice none 0 0) (.int .i64 0) (.slice none 0 0) 55)
      have HB4 := hide (bt HB3.out hal)
      have hcg : c ≠ W3.heap.size := by have := HCC.out _ HB3.out; omega
      have HG := HG4
      have HS0 := hide ((HS30.out.keep (Q := fun b => b ≠ W3.heap.size) (W' := W3) (fun b _ hb => by omega) (fun _ _ _ => rfl)).below hal)
      have HS1 := hide ((HS31.out.keep (Q := fun b => b ≠ W3.heap.size) (W' := W3) (fun b _ hb => by omega) (fun _ _ _ => rfl)).below hal)
      have HGE : Hid (w.heap.size ≤ W3.heap.size) := hide HB3.out.size
      clear hal HG4 HS30 HS31
      generalize W3.alloc (.cells #[.int .i64 0, .slice none 0 0, .int .i64 0, .slice none 0 0] 55) = W4 at HG HS0 HS1 HB4 hHeld ⊢
      generalize W3.heap.size = g at HG HS0 HS1 HGE hcg ⊢
      refine wpAnyH_ready (rs := [13]) (by kernel_rfl) (by simp) ?_
      refine AllReadyH.cons (o := _) rfl (fun K hK => ?_) AllReadyH.nil
      have k0 := HG.out.c0
      have k1 := HG.out.c1
      have k2 := HG.out.c2
      have k3 := HG.out.c3
      have f0 := HG.out.fz 0
      have f1 := HG.out.fz 1
      have f2 := HG.out.fz 2
      have f3 := HG.out.fz 3
      go_simp
      clear k0 k1 k2 k3 f0 f1 f2 f3
      have HK : Hid (∀ b, b ≠ g → ((((W4.setCell ⟨g, 0, none⟩ (.int .i64 (saidB (vw s.tk a)).1)).setCell ⟨g, 1, none⟩ (.slice p0 n0 m0)).setCell ⟨g, 2, none⟩ (.int .i64 (saidB (vw s.tk (a + 1))).1)).setCell ⟨g, 3, none⟩ (.slice p1 n1 m1)).heap[b]? = W4.heap[b]?) := hide (fun b hb => (Below.heap_setCell _ _ _ _ hb).trans ((Below.heap_setCell _ _ _ _ hb).trans ((Below.heap_setCell _ _ _ _ hb).trans (Below.heap_setCell _ _ _ _ hb))))
      refine hK.out _ _ ⟨(World.cell?_of_block (HK.out c hcg)).trans hHeld.1, (World.cell?_of_block (HK.out c hcg)).trans hHeld.2⟩ (fun hHeld1 => ?_)
      clear hK K hHeld
      have hHeld := hHeld1
      clear hHeld1
      refine wpAnyH_take (i := 14) (oi := _) (v := .nilIface) rfl (by kernel_rfl) (by kernel_rfl) (by kernel_rfl) (fun _ _ _ h => h) (Or.inl ⟨by rfl, by intro w hSw; go_simp⟩) hHeld ?_
      change wpAnyH _ _ _ _ _ _ _ (Act.put _ (some 4) _) _
      simp only [Act.put, List.setIfInBounds_toArray, List.set_cons_zero, List.set_cons_succ]
      refine wpAnyH_done (by kernel_rfl) ?_ _
      clear hHeld
      go_wp2_with fail
      go_meet
      exact ⟨g, .slice p0 n0 m0, .slice p1 n1 m1, rfl, (((HG.out.set0 _).set1 _).set2 _).set3 _, HS0.out.keep (fun _ _ _ => trivial) (fun b p _ => HK.out b p), HS1.out.keep (fun _ _ _ => trivial) (fun b p _ => HK.out b p), (((HB4.out.setCell HGE.out _).setCell HGE.out _).setCell HGE.out _).setCell HGE.out _⟩
    · go_simp
      refine hK.out _ _ ⟨(((Below.refl _ _).alloc (Nat.le_refl _) _ : Below W1.heap.size W1 (W1.alloc (.cells #[.int .i64 0, .slice none 0 0, .int .i64 0, .slice none 0 0] 55))).cell (p := ⟨c, 0, none⟩) (HCC.out _ HB1.out)).trans hHeld.1, (((Below.refl _ _).alloc (Nat.le_refl _) _ : Below W1.heap.size W1 (W1.alloc (.cells #[.int .i64 0, .slice none 0 0, .int .i64 0, .slice none 0 0] 55))).cell (p := ⟨c, 1, none⟩) (HCC.out _ HB1.out)).trans hHeld.2⟩ (fun hHeld1 => ?_)
      clear hK K hHeld
      have hHeld := hHeld1
      clear hHeld1
      have hal : Below W1.heap.size W1 (W1.alloc (.cells #[.int .i64 0, .slice none 0 0, .int .i64 0, .slice none 0 0] 55)) := (Below.refl _ _).alloc (Nat.le_refl _) _
      have HG3 := hide (b4_new W1 (.int .i64 0) (.slice none 0 0) (.int .i64 0) (.slice none 0 0) 55)
      have HB3 := hide (bt HB1.out hal)
      have hcg : c ≠ W1.heap.size := by have := HCC.out _ HB1.out; omega
      have HGE : Hid (w.heap.size ≤ W1.heap.size) := hide HB1.out.size
      clear hal
      generalize W1.alloc (.cells #[.int .i64 0, .slice none 0 0, .int .i64 0, .slice none 0 0] 55) = W3 at HG3 HB3 hHeld ⊢
      generalize W1.heap.size = g at HG3 HGE hcg ⊢
      refine wpAnyH_ready (rs := [8]) (by kernel_rfl) (by simp) ?_
      refine AllReadyH.cons (o := _) rfl (fun K hK => ?_) AllReadyH.nil
      go_simp
      go_at_call 17
      refine (read_ok a _ (HS.out.q.below HB3.out) HA.out HA1.out).mono ?_
      rintro e W4 ⟨v0, v1, rfl, hs0, hs1, hb⟩
      obtain ⟨p0, n0, m0, rfl⟩ := hs0.form
      obtain ⟨p1, n1, m1, rfl⟩ := hs1.form
      go_wp2_with fail
      refine hK.out _ _ ⟨(hb.cell (p := ⟨c, 0, none⟩) (HCC.out _ HB3.out)).trans hHeld.1, (hb.cell (p := ⟨c, 1, none⟩) (HCC.out _ HB3.out)).trans hHeld.2⟩ (fun hHeld1 => ?_)
      clear hK K hHeld
      have hHeld := hHeld1
      clear hHeld1
      refine wpAnyH_take (i := 9) (oi := _) (v := .tuple #[.agg #[.int .i64 (saidB (vw s.tk a)).1, .slice p0 n0 m0, .int .i64 (saidB (vw s.tk (a + 1))).1, .slice p1 n1 m1], .nilIface]) rfl (by kernel_rfl) (by kernel_rfl) (by kernel_rfl) (fun _ _ _ h => h) (Or.inl ⟨by rfl, by intro w hSw; go_simp⟩) hHeld ?_
      change wpAnyH _ _ _ _ _ _ _ (Act.put _ (some 19) _) _
      simp only [Act.put, List.setIfInBounds_toArray, List.set_cons_zero, List.set_cons_succ]
      refine wpAnyH_take (i := 10) (oi := _) (v := .agg #[.int .i64 (saidB (vw s.tk a)).1, .slice p0 n0 m0, .int .i64 (saidB (vw s.tk (a + 1))).1, .slice p1 n1 m1]) rfl (by kernel_rfl) (by kernel_rfl) (by kernel_rfl) (fun _ _ _ h => h) (Or.inl ⟨by rfl, by intro w hSw; go_simp⟩) hHeld ?_
      change wpAnyH _ _ _ _ _ _ _ (Act.put _ (some 29) _) _
      simp only [Act.put, List.setIfInBounds_toArray, List.set_cons_zero, List.set_cons_succ]
      refine wpAnyH_take (i := 11) (oi := _) (v := .nilIface) rfl (by kernel_rfl) (by kernel_rfl) (by kernel_rfl) (fun _ _ _ h => h) (Or.inl ⟨by rfl, by intro w hSw; go_simp⟩) hHeld ?_
      change wpAnyH _ _ _ _ _ _ _ (Act.put _ (some 30) _) _
      simp only [Act.put, List.setIfInBounds_toArray, List.set_cons_zero, List.set_cons_succ]
      have HB4 := hide (bt HB3.out hb)
      have HG := hide (HG3.out.below hb)
      have HLG := HG3.out.lt
      have HS0 := hide (hs0.keep (Q := fun b => b ≠ g) (W' := W4) (fun b p _ => by omega) (fun _ _ _ => rfl))
      have HS1 := hide (hs1.keep (Q := fun b => b ≠ g) (W' := W4) (fun b p _ => by omega) (fun _ _ _ => rfl))
      clear hs0 hs1 hb HG3 HLG
      refine wpAnyH_ready (rs := [13]) (by kernel_rfl) (by simp) ?_
      refine AllReadyH.cons (o := _) rfl (fun K hK => ?_) AllReadyH.nil
      have k0 := HG.out.c0
      have k1 := HG.out.c1
      have k2 := HG.out.c2
      have k3 := HG.out.c3
      have f0 := HG.out.fz 0
      have f1 := HG.out.fz 1
      have f2 := HG.out.fz 2
      have f3 := HG.out.fz 3
      go_simp
      clear k0 k1 k2 k3 f0 f1 f2 f3
      have HK : Hid (∀ b, b ≠ g → ((((W4.setCell ⟨g, 0, none⟩ (.int .i64 (saidB (vw s.tk a)).1)).setCell ⟨g, 1, none⟩ (.slice p0 n0 m0)).setCell ⟨g, 2, none⟩ (.int .i64 (saidB (vw s.tk (a + 1))).1)).setCell ⟨g, 3, none⟩ (.slice p1 n1 m1)).heap[b]? = W4.heap[b]?) := hide (fun b hb => (Below.heap_setCell _ _ _ _ hb).trans ((Below.heap_setCell _ _ _ _ hb).trans ((Below.heap_setCell _ _ _ _ hb).trans (Below.heap_setCell _ _ _ _ hb))))
      refine hK.out _ _ ⟨(World.cell?_of_block (HK.out c hcg)).trans hHeld.1, (World.cell?_of_block (HK.out c hcg)).trans hHeld.2⟩ (fun hHeld1 => ?_)
      clear hK K hHeld
      have hHeld := hHeld1
      clear hHeld1
      refine wpAnyH_take (i := 14) (oi := _) (v := .nilIface) rfl (by kernel_rfl) (by kernel_rfl) (by kernel_rfl) (fun _ _ _ h => h) (Or.inl ⟨by rfl, by intro w hSw; go_simp⟩) hHeld ?_
      change wpAnyH _ _ _ _ _ _ _ (Act.put _ (some 4) _) _
      simp only [Act.put, List.setIfInBounds_toArray, List.set_cons_zero, List.set_cons_succ]
      refine wpAnyH_done (by kernel_rfl) ?_ _
      clear hHeld
      go_wp2_with fail
      go_meet
      exact ⟨g, .slice p0 n0 m0, .slice p1 n1 m1, rfl, (((HG.out.set0 _).set1 _).set2 _).set3 _, HS0.out.keep (fun _ _ _ => trivial) (fun b p _ => HK.out b p), HS1.out.keep (fun _ _ _ => trivial) (fun b p _ => HK.out b p), (((HB4.out.setCell HGE.out _).setCell HGE.out _).setCell HGE.out _).setCell HGE.out _⟩
  case rest =>
    obtain ⟨g, v0, v1, rfl, hp, hs0, hs1, hb⟩ := hcut
    obtain ⟨p0, n0, m0, rfl⟩ := hs0.form
    obtain ⟨p1, n1, m1, rfl⟩ := hs1.form
    have HF1 : Hid ((newV (saidB (vw s.tk a)).1 (.slice p0 n0 m0) (saidB (vw s.tk (a + 1))).1 (.slice p1 n1 m1)).1 = T) := hide ((newV_fst _ _ _ _).trans (congrArg Prod.fst HNW.out))
    have HF2 : Hid (Sb (fun _ => True) wc (newV (saidB (vw s.tk a)).1 (.slice p0 n0 m0) (saidB (vw s.tk (a + 1))).1 (.slice p1 n1 m1)).2 (blkS T V)) := hide (by have i := newV_sb hs0 hs1; rw [show (newest (saidB (vw s.tk a)) (saidB (vw s.tk (a + 1)))).2 = blkS T V from congrArg Prod.snd HNW.out] at i; exact i)
    have HP := hide hp
    have HB := hide hb
    have HOK := hide HS.out.q.ok
    clear hp hs0 hs1 hb
    have HN0 := hide (saidB_nn (vw_blk HOK.out.tb a))
    have HN1 := hide (saidB_nn (vw_blk HOK.out.tb (a + 1)))
    generalize (saidB (vw s.tk a)).1 = t0 at HP HN0 HF1 HF2
    generalize (saidB (vw s.tk (a + 1))).1 = t1 at HP HN1 HF1 HF2
    obtain ⟨qv, rv, sv, hvf⟩ := HF2.out.form
    have q0 := HP.out.c0
    have q1 := HP.out.c1
    have q2 := HP.out.c2
    have q3 := HP.out.c3
    go_upto_region 5 with (first | (go_at_call 18; refine (newest_any t0 t1 _ _ _ HN0.out HN1.out ⟨_, _, _, rfl⟩ ⟨_, _, _, rfl⟩).mono ?_; rintro e W5 ⟨rfl, hb5⟩; rw [HF1.out, hvf]; have HB5 := hide (bt HB.out hb5); have HS5 := hide (HF2.out.below hb5); clear hb5))
    rw [hvf] at HS5
    clear q0 q1 q2 q3 HP HB HF1 HF2 HN0 HN1 hvf
    have hal : Below W5.heap.size W5 (W5.alloc (.cells #[.int .i64 T, .slice qv rv sv] 53)) := (Below.refl _ _).alloc (Nat.le_refl _) _
    have HG := hide (B2.new W5 (.int .i64 T) (.slice qv rv sv) 53)
    have HB6 := hide (bt HB5.out hal)
    have HS6 := hide (HS5.out.below hal)
    clear hal HB5 HS5
    generalize W5.alloc (.cells #[.int .i64 T, .slice qv rv sv] 53) = W6 at HG HB6 HS6 ⊢
    generalize W5.heap.size = gs at HG ⊢
    have hdw : Below W6.heap.size W6 W6.drew := (Below.refl _ _).drew
    refine wp_region_held_drew (S := fun W => W.cell? ⟨gs, 1, none⟩ = some (.slice qv rv sv) ∧ W.cell? ⟨c, 3, none⟩ = some (.slice pv nv mv)) (by kernel_rfl) ⟨(HG.out.below hdw).c1, (HS.out.x.below (bt HB6.out hdw)).c3⟩ (fun hHeld => ?_)
    have HB7 := hide (bt HB6.out hdw)
    have HS7 := hide (HS6.out.below hdw)
    generalize W6.drew = W7 at HB7 HS7 hHeld ⊢
    clear hdw HB6 HS6 HG
    refine wpAnyH_take (i := 0) (oi := _) (v := .pointer (some ⟨gs, 1, none⟩)) rfl (by kernel_rfl) (by kernel_rfl) (by kernel_rfl) (fun _ _ _ h => h) (Or.inl ⟨by rfl, by intro w hSw; go_simp⟩) hHeld ?_
    change wpAnyH _ _ _ _ _ _ _ (Act.put _ (some 33) _) _
    simp only [Act.put, List.setIfInBounds_toArray, List.set_cons_zero, List.set_cons_succ]
    refine wpAnyH_take (i := 1) (oi := _) (v := .slice qv rv sv) rfl (by kernel_rfl) (by kernel_rfl) (by kernel_rfl) (fun _ _ _ h => h) (Or.inl ⟨by rfl, by intro w hSw; have h1 := hSw.1; go_simp⟩) hHeld ?_
    change wpAnyH _ _ _ _ _ _ _ (Act.put _ (some 34) _) _
    simp only [Act.put, List.setIfInBounds_toArray, List.set_cons_zero, List.set_cons_succ]
    refine wpAnyH_take (i := 2) (oi := _) (v := .pointer (some ⟨c, 0, none⟩)) rfl (by kernel_rfl) (by kernel_rfl) (by kernel_rfl) (fun _ _ _ h => h) (Or.inl ⟨by rfl, by intro w hSw; go_simp⟩) hHeld ?_
    change wpAnyH _ _ _ _ _ _ _ (Act.put _ (some 35) _) _
    simp only [Act.put, List.setIfInBounds_toArray, List.set_cons_zero, List.set_cons_succ]
    refine wpAnyH_take (i := 3) (oi := _) (v := .pointer (some ⟨c, 0, none⟩)) rfl (by kernel_rfl) (by kernel_rfl) (by kernel_rfl) (fun _ _ _ h => h) (Or.inl ⟨by rfl, by intro w hSw; go_simp⟩) hHeld ?_
    change wpAnyH _ _ _ _ _ _ _ (Act.put _ (some 36) _) _
    simp only [Act.put, List.setIfInBounds_toArray, List.set_cons_zero, List.set_cons_succ]
    refine wpAnyH_take (i := 4) (oi := _) (v := .pointer (some ⟨c, 2, none⟩)) rfl (by kernel_rfl) (by kernel_rfl) (by kernel_rfl) (fun _ _ _ h => h) (Or.inl ⟨by rfl, by intro w hSw; go_simp⟩) hHeld ?_
    change wpAnyH _ _ _ _ _ _ _ (Act.put _ (some 37) _) _
    simp only [Act.put, List.setIfInBounds_toArray, List.set_cons_zero, List.set_cons_succ]
    refine wpAnyH_take (i := 5) (oi := _) (v := .pointer (some ⟨c, 3, none⟩)) rfl (by kernel_rfl) (by kernel_rfl) (by kernel_rfl) (fun _ _ _ h => h) (Or.inl ⟨by rfl, by intro w hSw; go_simp⟩) hHeld ?_
    change wpAnyH _ _ _ _ _ _ _ (Act.put _ (some 38) _) _
    simp only [Act.put, List.setIfInBounds_toArray, List.set_cons_zero, List.set_cons_succ]
    refine wpAnyH_take (i := 6) (oi := _) (v := .slice pv nv mv) rfl (by kernel_rfl) (by kernel_rfl) (by kernel_rfl) (fun _ _ _ h => h) (Or.inl ⟨by rfl, by intro w hSw; have h1 := hSw.2; go_simp⟩) hHeld ?_
    change wpAnyH _ _ _ _ _ _ _ (Act.put _ (some 39) _) _
    simp only [Act.put, List.setIfInBounds_toArray, List.set_cons_zero, List.set_cons_succ]
    refine wpAnyH_ready (rs := [7]) (by kernel_rfl) (by simp) ?_
    refine AllReadyH.cons (o := _) rfl (fun K hK => ?_) AllReadyH.nil
    go_simp
    go_at_call 36
    refine (beqC_any _ _ (blkS T V) (blkS T V) _ HS7.out.sl (HS.out.sl.below HB7.out).sl HBY.out HBY.out).mono ?_
    rintro e Wz ⟨rfl, hwz⟩
    rw [hwz, decide_eq_true (rfl : blkS T V = blkS T V)]
    clear hwz Wz
    go_wp2_with fail
    refine hK.out _ _ hHeld (fun hHeld1 => ?_)
    clear hK K hHeld
    have hHeld := hHeld1
    clear hHeld1
    refine wpAnyH_take (i := 8) (oi := _) (v := .bool false) rfl (by kernel_rfl) (by kernel_rfl) (by kernel_rfl) (fun _ _ _ h => h) (Or.inl ⟨by rfl, by intro w hSw; go_simp⟩) hHeld ?_
    change wpAnyH _ _ _ _ _ _ _ (Act.put _ (some 41) _) _
    simp only [Act.put, List.setIfInBounds_toArray, List.set_cons_zero, List.set_cons_succ]
    refine wpAnyH_take (i := 9) (oi := _) (v := .bool false) rfl (by kernel_rfl) (by kernel_rfl) (by kernel_rfl) (fun _ _ _ h => h) (Or.inl ⟨by rfl, by intro w hSw; go_simp⟩) hHeld ?_
    change wpAnyH _ _ _ _ _ _ _ (Act.put _ (some 42) _) _
    simp only [Act.put, List.setIfInBounds_toArray, List.set_cons_zero, List.set_cons_succ]
    refine wpAnyH_take (i := 10) (oi := _) (v := undef) rfl (by kernel_rfl) (by kernel_rfl) (by kernel_rfl) (fun _ _ _ h => h) (Or.inr ⟨by rfl, rfl⟩) hHeld ?_
    change wpAnyH _ _ _ _ _ _ _ (Act.put _ (some 43) _) _
    simp only [Act.put, List.setIfInBounds_toArray, List.set_cons_zero, List.set_cons_succ]
    refine wpAnyH_take (i := 11) (oi := _) (v := undef) rfl (by kernel_rfl) (by kernel_rfl) (by kernel_rfl) (fun _ _ _ h => h) (Or.inr ⟨by rfl, rfl⟩) hHeld ?_
    change wpAnyH _ _ _ _ _ _ _ (Act.put _ (some 44) _) _
    simp only [Act.put, List.setIfInBounds_toArray, List.set_cons_zero, List.set_cons_succ]
    refine wpAnyH_take (i := 12) (oi := _) (v := undef) rfl (by kernel_rfl) (by kernel_rfl) (by kernel_rfl) (fun _ _ _ h => h) (Or.inr ⟨by rfl, rfl⟩) hHeld ?_
    change wpAnyH _ _ _ _ _ _ _ (Act.put _ (some 45) _) _
    simp only [Act.put, List.setIfInBounds_toArray, List.set_cons_zero, List.set_cons_succ]
    refine wpAnyH_take (i := 13) (oi := _) (v := undef) rfl (by kernel_rfl) (by kernel_rfl) (by kernel_rfl) (fun _ _ _ h => h) (Or.inr ⟨by rfl, rfl⟩) hHeld ?_
    change wpAnyH _ _ _ _ _ _ _ (Act.put _ (some 46) _) _
    simp only [Act.put, List.setIfInBounds_toArray, List.set_cons_zero, List.set_cons_succ]
    refine wpAnyH_take (i := 14) (oi := _) (v := .bool false) rfl (by kernel_rfl) (by kernel_rfl) (by kernel_rfl) (fun _ _ _ h => h) (Or.inl ⟨by rfl, by intro w hSw; go_simp⟩) hHeld ?_
    change wpAnyH _ _ _ _ _ _ _ (Act.put _ (some 47) _) _
    simp only [Act.put, List.setIfInBounds_toArray, List.set_cons_zero, List.set_cons_succ]
    refine wpAnyH_take (i := 15) (oi := _) (v := .bool false) rfl (by kernel_rfl) (by kernel_rfl) (by kernel_rfl) (fun _ _ _ h => h) (Or.inl ⟨by rfl, by intro w hSw; go_simp⟩) hHeld ?_
    change wpAnyH _ _ _ _ _ _ _ (Act.put _ (some 2) _) _
    simp only [Act.put, List.setIfInBounds_toArray, List.set_cons_zero, List.set_cons_succ]
    refine wpAnyH_done (by kernel_rfl) ?_ _
    clear hHeld
    go_wp2_with fail
    go_ret
    exact ⟨rfl, HB7.out⟩
set_option maxRecDepth 100000 in
set_option maxHeartbeats 16000000 in
theorem sput_lim (c n cap : Nat) (ao : Option Addr) (w : World) (h : 47 < n) : Calls Try.prog 9 #[.pointer (some ⟨c, 0, none⟩), .slice ao n cap] w fun e w' => e = .returned (ev (some ([(opValue, (n : Int))], 6))) ∧ w' = w := by
  have hI : (47 : Int) < (n : Int) := by omega
  go_enter Try.func9, Try.ntmps9
  go_wp2_with (first | (go_at_call 16; refine (new_any _ _ _ _).mono ?_; rintro e w9 ⟨rfl, hw9⟩; rw [hw9]; clear hw9 w9))
  go_ret
  exact ⟨rfl, rfl⟩
set_option maxRecDepth 100000 in
set_option maxHeartbeats 16000000 in
theorem sput_state (ao : Option Addr) (n cap : Nat) (w : World) (h : Slo w c d bS bT u s a T v V true) (hn : n ≤ 47) (hw : s.wt < 30000) (ha : Num a) (ha1 : Num (a + 1)) (hT : 0 ≤ T) (hB : Byt (blkS T V)) (hf : firmB s.cs a T (blkS T V) = false) : Calls Try.prog 9 #[.pointer (some ⟨c, 0, none⟩), .slice ao n cap] w fun e w' => e = .returned (ev (some ([(opTurn, T)], 10))) ∧ Below w.heap.size w w' := by
  have HS := hide h
  have HA := hide ha
  have HA1 := hide ha1
  have HF := hide hf
  have HBY := hide hB
  have hnI : ¬ (47 : Int) < (n : Int) := by omega
  clear h ha ha1 hf hB
  go_enter Try.func9, Try.ntmps9
  go_wp2_with (first | (go_at_call 20; refine (waits_yes _ HS.out hw HA.out HA1.out hT HBY.out HF.out).mono ?_; rintro e W1 ⟨rfl, hb1⟩; have x2 := (HS.out.x.below hb1).c2; have HB1 := hide hb1; clear hb1) | (go_at_call 16; refine (new_any _ _ _ _).mono ?_; rintro e w9 ⟨rfl, hw9⟩; rw [hw9]; clear hw9 w9))
  go_ret
  exact ⟨rfl, HB1.out⟩
/-- What Put answers. -/
def PutP (w w' : World) (e : Ending) (c d bS bT : Nat) (u : Value) (s : Dst) (a T : Int) (X : List Int) : Prop := ∃ u' v', e = .returned .nilIface ∧ Slo w' c d bS bT u' (wrS s (a + (T + 1) % 2) (blkS (T + 1) X)) a (T + 1) v' X true ∧ Cx c d bS bT u w w' u'
set_option maxRecDepth 100000 in
set_option maxHeartbeats 16000000 in
theorem sput_ok (ao : Option Addr) (cap : Nat) (X : List Int) (w : World) (h : Slo w c d bS bT u s a T v V false) (hv : Sl bc w (.slice ao X.length cap) X) (hby : Byt X) (hn : X.length ≤ 47) (hw : s.wt < 20000) (hT : 0 ≤ T ∧ T < 255) (ha : Num a) (ha1 : Num (a + 1)) (hB : Byt (blkS T V)) (hN : slotB s.tk a = (T, blkS T V)) (hE : wrE s (a + (T + 1) % 2) (blkS (T + 1) X) = none) : Calls Try.prog 9 #[.pointer (some ⟨c, 0, none⟩), .slice ao X.length cap] w fun e w' => PutP w w' e c d bS bT u s a T X := by
  obtain ⟨pv, nv, mv, rfl⟩ := h.sl.form
  have HS0 := hide h
  have HV := hide hv
  have HE := hide hE
  have HA := hide ha
  have HA1 := hide ha1
  have HBY := hide hB
  have HNW := hide hN
  have HOW : Hid (∀ k, Own d bS bT u k → k < w.heap.size) := hide (fun k e => h.q.dk.lt e)
  have HCL : Hid (c < w.heap.size) := hide h.x.lt
  have hnI : ¬ (47 : Int) < (X.length : Int) := by omega
  obtain ⟨hT0, hT1⟩ := hT
  obtain ⟨ha0, hab⟩ := ha
  clear h hv hE ha1 hB hN
  go_enter Try.func9, Try.ntmps9
  go_upto_region 5 with (first | (go_at_call 20; refine (waits_no _ HS0.out HA.out HA1.out HBY.out HNW.out).mono ?_; rintro e W1 ⟨rfl, hb1⟩; have HB1 := hide hb1; have x2 := (HS0.out.x.below hb1).c2; clear hb1))
  have hwT : IntKind.i64.wrap (T + 1) = T + 1 := by rw [IntKind.wrap_i64]; omega
  go_upto_region 6 with (first | (go_at_call 21; refine (say_any (T + 1) _ X _ (by omega) (HV.out.below HB1.out) hn).mono ?_; rintro e W2 ⟨gb, rfl, hr, hgb, hb⟩; have HR2 := hide hr; have HGB : Hid (w.heap.size ≤ gb) := hide (Nat.le_trans HB1.out.size hgb); have HB2 := hide (bt HB1.out hb); clear hr hgb hb))
  clear x2 hwT
  have hal : Below W2.heap.size W2 (W2.alloc (.cells #[.int .i64 (T + 1), .slice (some ⟨gb, 0, none⟩) 64 64] 53)) := (Below.refl _ _).alloc (Nat.le_refl _) _
  have HG := hide (B2.new W2 (.int .i64 (T + 1)) (.slice (some ⟨gb, 0, none⟩) 64 64) 53)
  have HB3 := hide (bt HB2.out hal)
  have HR3 := hide (HR2.out.below hal)
  have HGE : Hid (w.heap.size ≤ W2.heap.size) := hide HB2.out.size
  have HGN : Hid (gb ≠ W2.heap.size) := hide (by have := HR2.out.lt; omega)
  clear hal HB1 HB2 HR2
  generalize W2.alloc (.cells #[.int .i64 (T + 1), .slice (some ⟨gb, 0, none⟩) 64 64] 53) = W3 at HG HB3 HR3 ⊢
  generalize W2.heap.size = g at HG HGE HGN ⊢
  have HS := hide (HS0.out.below HB3.out)
  have HOW3 : Hid (∀ k, w.heap.size ≤ k → ¬ Own d bS bT u k) := hide (fun k hk e => by have := HOW.out k e; omega)
  have hdw : Below W3.heap.size W3 W3.drew := (Below.refl _ _).drew
  refine wp_region_held_drew (S := fun W => W.cell? ⟨c, 0, none⟩ = some (.pointer (some ⟨d, 0, none⟩)) ∧ W.cell? ⟨c, 1, none⟩ = some (.int .i64 a) ∧ W.cell? ⟨g, 0, none⟩ = some (.int .i64 (T + 1)) ∧ W.cell? ⟨g, 1, none⟩ = some (.slice (some ⟨gb, 0, none⟩) 64 64)) (by kernel_rfl) ⟨(HS.out.x.below hdw).c0, (HS.out.x.below hdw).c1, (HG.out.below hdw).c0, (HG.out.below hdw).c1⟩ (fun hHeld => ?_)
  have HB4 := hide (bt HB3.out hdw)
  have HG4 := hide (HG.out.below hdw)
  have HR4 := hide (HR3.out.below hdw)
  generalize W3.drew = W4 at HB4 HG4 HR4 hHeld ⊢
  clear hdw HB3 HG HR3 HS
  have hwr : IntKind.i64.wrap (a + (T + 1) % 2) = a + (T + 1) % 2 := by rw [IntKind.wrap_i64]; omega
  refine wpAnyH_take (i := 0) (oi := _) (v := .pointer (some ⟨c, 0, none⟩)) rfl (by kernel_rfl) (by kernel_rfl) (by kernel_rfl) (fun _ _ _ h => h) (Or.inl ⟨by rfl, by intro w hSw; go_simp⟩) hHeld ?_
  change wpAnyH _ _ _ _ _ _ _ (Act.put _ (some 29) _) _
  simp only [Act.put, List.setIfInBounds_toArray, List.set_cons_zero, List.set_cons_succ]
  refine wpAnyH_take (i := 1) (oi := _) (v := .pointer (some ⟨c, 0, none⟩)) rfl (by kernel_rfl) (by kernel_rfl) (by kernel_rfl) (fun _ _ _ h => h) (Or.inl ⟨by rfl, by intro w hSw; go_simp⟩) hHeld ?_
  change wpAnyH _ _ _ _ _ _ _ (Act.put _ (some 30) _) _
  simp only [Act.put, List.setIfInBounds_toArray, List.set_cons_zero, List.set_cons_succ]
  refine wpAnyH_take (i := 2) (oi := _) (v := .pointer (some ⟨c, 0, none⟩)) rfl (by kernel_rfl) (by kernel_rfl) (by kernel_rfl) (fun _ _ _ h => h) (Or.inl ⟨by rfl, by intro w hSw; go_simp⟩) hHeld ?_
  change wpAnyH _ _ _ _ _ _ _ (Act.put _ (some 31) _) _
  simp only [Act.put, List.setIfInBounds_toArray, List.set_cons_zero, List.set_cons_succ]
  refine wpAnyH_take (i := 3) (oi := _) (v := .pointer (some ⟨d, 0, none⟩)) rfl (by kernel_rfl) (by kernel_rfl) (by kernel_rfl) (fun _ _ _ h => h) (Or.inl ⟨by rfl, by intro w hSw; have h1 := hSw.1; go_simp⟩) hHeld ?_
  change wpAnyH _ _ _ _ _ _ _ (Act.put _ (some 32) _) _
  simp only [Act.put, List.setIfInBounds_toArray, List.set_cons_zero, List.set_cons_succ]
  refine wpAnyH_take (i := 4) (oi := _) (v := .pointer (some ⟨c, 0, none⟩)) rfl (by kernel_rfl) (by kernel_rfl) (by kernel_rfl) (fun _ _ _ h => h) (Or.inl ⟨by rfl, by intro w hSw; go_simp⟩) hHeld ?_
  change wpAnyH _ _ _ _ _ _ _ (Act.put _ (some 33) _) _
  simp only [Act.put, List.setIfInBounds_toArray, List.set_cons_zero, List.set_cons_succ]
  refine wpAnyH_take (i := 5) (oi := _) (v := .pointer (some ⟨c, 0, none⟩)) rfl (by kernel_rfl) (by kernel_rfl) (by kernel_rfl) (fun _ _ _ h => h) (Or.inl ⟨by rfl, by intro w hSw; go_simp⟩) hHeld ?_
  change wpAnyH _ _ _ _ _ _ _ (Act.put _ (some 34) _) _
  simp only [Act.put, List.setIfInBounds_toArray, List.set_cons_zero, List.set_cons_succ]
  refine wpAnyH_take (i := 6) (oi := _) (v := .pointer (some ⟨c, 1, none⟩)) rfl (by kernel_rfl) (by kernel_rfl) (by kernel_rfl) (fun _ _ _ h => h) (Or.inl ⟨by rfl, by intro w hSw; go_simp⟩) hHeld ?_
  change wpAnyH _ _ _ _ _ _ _ (Act.put _ (some 35) _) _
  simp only [Act.put, List.setIfInBounds_toArray, List.set_cons_zero, List.set_cons_succ]
  refine wpAnyH_take (i := 7) (oi := _) (v := .int .i64 a) rfl (by kernel_rfl) (by kernel_rfl) (by kernel_rfl) (fun _ _ _ h => h) (Or.inl ⟨by rfl, by intro w hSw; have h1 := hSw.2.1; go_simp⟩) hHeld ?_
  change wpAnyH _ _ _ _ _ _ _ (Act.put _ (some 36) _) _
  simp only [Act.put, List.setIfInBounds_toArray, List.set_cons_zero, List.set_cons_succ]
  refine wpAnyH_take (i := 8) (oi := _) (v := .agg #[.int .i64 (T + 1), .slice (some ⟨gb, 0, none⟩) 64 64]) rfl (by kernel_rfl) (by kernel_rfl) (by kernel_rfl) (fun _ _ _ h => h) (Or.inl ⟨by rfl, by intro w hSw; have h1 := hSw.2.2.1; have h2 := hSw.2.2.2; go_simp⟩) hHeld ?_
  change wpAnyH _ _ _ _ _ _ _ (Act.put _ (some 37) _) _
  simp only [Act.put, List.setIfInBounds_toArray, List.set_cons_zero, List.set_cons_succ]
  refine wpAnyH_take (i := 11) (oi := _) (v := .pointer (some ⟨g, 1, none⟩)) rfl (by kernel_rfl) (by kernel_rfl) (by kernel_rfl) (fun _ _ _ h => h) (Or.inl ⟨by rfl, by intro w hSw; go_simp⟩) hHeld ?_
  change wpAnyH _ _ _ _ _ _ _ (Act.put _ (some 40) _) _
  simp only [Act.put, List.setIfInBounds_toArray, List.set_cons_zero, List.set_cons_succ]
  refine wpAnyH_take (i := 12) (oi := _) (v := .slice (some ⟨gb, 0, none⟩) 64 64) rfl (by kernel_rfl) (by kernel_rfl) (by kernel_rfl) (fun _ _ _ h => h) (Or.inl ⟨by rfl, by intro w hSw; have h2 := hSw.2.2.2; go_simp⟩) hHeld ?_
  change wpAnyH _ _ _ _ _ _ _ (Act.put _ (some 41) _) _
  simp only [Act.put, List.setIfInBounds_toArray, List.set_cons_zero, List.set_cons_succ]
  refine wpAnyH_ready (rs := [9]) (by kernel_rfl) (by simp) ?_
  refine AllReadyH.cons (o := _) rfl (fun K hK => ?_) AllReadyH.nil
  go_simp
  go_at_call 23
  refine (place_any (T + 1) _ _ ⟨_, _, _, rfl⟩ (by omega)).mono ?_
  rintro e W6 ⟨rfl, hb⟩
  go_wp2_with fail
  have hc4 : c < W4.heap.size := Nat.lt_of_lt_of_le HCL.out HB4.out.size
  refine hK.out _ _ ⟨(hb.cell (p := ⟨c, 0, none⟩) hc4).trans hHeld.1, (hb.cell (p := ⟨c, 1, none⟩) hc4).trans hHeld.2.1, (hb.cell (p := ⟨g, 0, none⟩) HG4.out.lt).trans hHeld.2.2.1, (hb.cell (p := ⟨g, 1, none⟩) HG4.out.lt).trans hHeld.2.2.2⟩ (fun hHeld1 => ?_)
  clear hK K hHeld
  have hHeld := hHeld1
  clear hHeld1
  have HB6 := hide (bt HB4.out hb)
  have HG6 := hide (HG4.out.below hb)
  have HR6 := hide (HR4.out.below hb)
  clear hb hc4 HB4 HG4 HR4
  refine wpAnyH_take (i := 10) (oi := _) (v := .int .i64 (a + (T + 1) % 2)) rfl (by kernel_rfl) (by kernel_rfl) (by kernel_rfl) (fun _ _ _ h => h) (Or.inl ⟨by rfl, by intro w hSw; go_simp⟩) hHeld ?_
  change wpAnyH _ _ _ _ _ _ _ (Act.put _ (some 39) _) _
  simp only [Act.put, List.setIfInBounds_toArray, List.set_cons_zero, List.set_cons_succ]
  refine wpAnyH_ready (rs := [13]) (by kernel_rfl) (by simp) ?_
  refine AllReadyH.cons (o := _) rfl (fun K hK => ?_) AllReadyH.nil
  go_simp
  go_at_call 22
  refine (q_writeN (a + (T + 1) % 2) _ (blkS (T + 1) X) _ (HS0.out.q.below HB6.out) (HR6.out.all (blkS_len _ hn).symm) (fun x hx => (blkS_blk hby hn (by omega) (by omega)).2 x hx) (by omega) HE.out).mono ?_
  rintro e W7 ⟨u7, rfl, hq7, hx7⟩
  go_wp2_with fail
  have hnc : ¬ Own d bS bT u c := HS0.out.no
  have hng : ¬ Own d bS bT u g := HOW3.out g HGE.out
  have hngb : ¬ Own d bS bT u gb := HOW3.out gb HGB.out
  have hc6 : c < W6.heap.size := Nat.lt_of_lt_of_le HCL.out HB6.out.size
  refine hK.out _ _ ⟨(hx7.cell hc6 hnc 0).trans hHeld.1, (hx7.cell hc6 hnc 1).trans hHeld.2.1, (hx7.cell HG6.out.lt hng 0).trans hHeld.2.2.1, (hx7.cell HG6.out.lt hng 1).trans hHeld.2.2.2⟩ (fun hHeld1 => ?_)
  clear hK K hHeld
  have hHeld := hHeld1
  clear hHeld1
  have HQ7 := hide hq7
  have HX7 := hide ((HS0.out.x.below HB6.out).keepB (hx7.ba.block c hc6 hnc))
  have HG7 := hide (HG6.out.keepB (hx7.ba.block g HG6.out.lt hng))
  have HN7 : Hid (¬ Own d bS bT u7 c) := hide (hx7.own hc6 hnc)
  have HS7 : Hid (Sb (fun b => ¬ (Own d bS bT u7 b ∨ b = c)) W7 (.slice (some ⟨gb, 0, none⟩) 64 64) (blkS (T + 1) X)) := hide (.inr ⟨gb, _, rfl, HR6.out.keep (hx7.ba.block gb HR6.out.lt hngb), blkS_len _ hn, fun e => e.elim (hx7.own HR6.out.lt hngb) (fun e => by have h1 := HCL.out; have h2 := HGB.out; omega)⟩)
  have HC7 : Hid (Cx c d bS bT u w W7 u7) := hide ((Cx.of (Dx.of HB6.out)).trans (Cx.of hx7))
  clear hq7 hx7 hnc hng hngb hc6
  refine wpAnyH_take (i := 14) (oi := _) (v := .nilIface) rfl (by kernel_rfl) (by kernel_rfl) (by kernel_rfl) (fun _ _ _ h => h) (Or.inl ⟨by rfl, by intro w hSw; go_simp⟩) hHeld ?_
  change wpAnyH _ _ _ _ _ _ _ (Act.put _ (some 6) _) _
  simp only [Act.put, List.setIfInBounds_toArray, List.set_cons_zero, List.set_cons_succ]
  refine wpAnyH_done (by kernel_rfl) ?_ _
  clear hHeld hwr HB6 HG6 HR6
  have g0 := HG7.out.c0
  have g1 := HG7.out.c1
  have x2 := HX7.out.c2
  have x3 := HX7.out.c3
  have x4 := HX7.out.c4
  have f2 := HX7.out.fz 2
  have f3 := HX7.out.fz 3
  have f4 := HX7.out.fz 4
  have HX8 := hide (((HX7.out.set2 (.int .i64 (T + 1))).set3 (.slice (some ⟨gb, 0, none⟩) 64 64)).set4 (.bool true))
  go_wp2_with fail
  go_ret
  exact ⟨u7, .slice (some ⟨gb, 0, none⟩) 64 64, rfl, ⟨((HQ7.out.setC HN7.out _ _).setC HN7.out _ _).setC HN7.out _ _, HX8.out, HN7.out, HS7.out.keep (fun _ p _ => p) (fun b p _ => (Below.heap_setCell _ _ _ _ (fun e => p (.inr e))).trans ((Below.heap_setCell _ _ _ _ (fun e => p (.inr e))).trans (Below.heap_setCell _ _ _ _ (fun e => p (.inr e)))))⟩, ⟨((HC7.out.ba.set (fun _ => .inr rfl) _ _).set (fun _ => .inr rfl) _ _).set (fun _ => .inr rfl) _ _, HC7.out.bl⟩⟩
set_option maxRecDepth 100000 in
set_option maxHeartbeats 16000000 in
theorem ssync_any (w : World) (h : Slo w c d bS bT u s a T v V lz) (hw : s.wt < 30000) : Calls Try.prog 10 #[.pointer (some ⟨c, 0, none⟩)] w fun e w' => e = .returned (.tuple #[]) ∧ Slo w' c d bS bT (.slice none 0 0) (syS s) a T v V false ∧ Cx c d bS bT u w w' (.slice none 0 0) := by
  have HS := hide h
  have x0 := h.x.c0
  clear h
  go_enter Try.func10, Try.ntmps10
  go_upto_region 1 with (first | (go_at_call 25; refine (q_sync _ HS.out.q hw).mono ?_; rintro e W1 ⟨rfl, hq, hx⟩; have HQ1 := hide hq; have HX1 := hide hx; clear hq hx))
  have HX := hide (HS.out.x.keepB (HX1.out.ba.block c HS.out.x.lt HS.out.no))
  have HNO : Hid (¬ Own d bS bT (.slice none 0 0) c) := hide (HX1.out.own HS.out.x.lt HS.out.no)
  have HSL : Hid (Sb (fun b => ¬ (Own d bS bT (.slice none 0 0) b ∨ b = c)) W1 v (blkS T V)) := hide (HS.out.sl.keep (fun b p hb e => e.elim (HX1.out.own hb (fun e => p (.inl e))) (fun e => p (.inr e))) (fun b p hb => HX1.out.ba.block b hb (fun e => p (.inl e))))
  have x4 := HX.out.c4
  have f4 := HX.out.fz 4
  have HX8 := hide (HX.out.set4 (.bool false))
  clear x0
  go_wp2_with fail
  exact bodyPost_end (v := .tuple #[]) (by simp [results, Try.results10]) rfl ⟨rfl, ⟨HQ1.out.setC HNO.out _ _, HX8.out, HNO.out, HSL.out.keep (fun _ p _ => p) (fun b p _ => Below.heap_setCell _ _ _ _ (fun e => p (.inr e)))⟩, ⟨(Cx.of HX1.out).ba.set (fun _ => .inr rfl) _ _, HX1.out.bl⟩⟩
set_option maxRecDepth 100000 in
set_option maxHeartbeats 16000000 in
theorem svalue_any (w : World) (h : Slo w c d bS bT u s a T v V lz) (hl : V.length ≤ 47) : Calls Try.prog 12 #[.pointer (some ⟨c, 0, none⟩)] w fun e w' => ∃ x, e = .returned x ∧ Slp (fun b => w.heap.size ≤ b) w' x V ∧ Below w.heap.size w w' := by
  rcases h.sl with ⟨_, e⟩ | ⟨g, t, rfl, hr, _, _⟩
  · have := blkS_len T hl
    rw [e] at this
    simp at this
  have HR := hide hr
  have x2 := h.x.c2
  have x3 := h.x.c3
  clear h hr
  go_enter Try.func12, Try.ntmps12
  go_wp2_with (first | (go_at_call 30; refine (value_any T g t V _ HR.out hl).mono ?_; rintro e W1 ⟨v1, rfl, ho, hb⟩; have HO := hide ho; have HB := hide hb; clear ho hb))
  go_ret
  exact ⟨_, rfl, HO.out, HB.out⟩
set_option maxRecDepth 100000 in
set_option maxHeartbeats 16000000 in
theorem sturn_any (w : World) (h : Slo w c d bS bT u s a T v V lz) : Calls Try.prog 13 #[.pointer (some ⟨c, 0, none⟩)] w fun e w' => e = .returned (.int .i64 T) ∧ w' = w := by
  have x2 := h.x.c2
  go_enter Try.func13, Try.ntmps13
  go_wp2
  go_ret
  exact ⟨rfl, rfl⟩
end
end Go.Proofs.Ytiedbchlgcgdeaa
