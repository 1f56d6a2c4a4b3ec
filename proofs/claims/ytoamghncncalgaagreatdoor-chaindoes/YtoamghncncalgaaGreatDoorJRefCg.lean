/-
  THE DOCUMENT's CHAIN TAKES A RECORD (castellanref09.Append): what is wrong, or its blocks, one behind the other. Conditions: fewer than eighty thousand blocks and writes; blocks below 2^30.
-/
import Derived.Test.YtoamghncncalgaaGreatDoorJRefCf
import Derived.Test.YtoamghncncalgaaGreatDoorJChSma2
namespace Go.Proofs.YtoamghncncalgaaGreatDoor
open Go.RowKit

theorem slc2 (b o L cap F E : Nat) (hF : F < L) (hFE : F ≤ E) (hE : E ≤ L) (hL : L ≤ cap) (W : World) : (Instr.slice 43 (.slice (some ⟨b, o, none⟩) L cap) (some (.int .i64 (F : Int))) (some (.int .i64 (E : Int))) none).run Tryz.prog W = .ok (.slice (some ⟨b, o + F, none⟩) (E - F) (cap - F)) W := by
  have h2 : (E : Int) ≤ (cap : Int) := by omega
  simp [Instr.slice, go_sem, h2]
  rw [if_pos hFE, if_neg (by omega)]
theorem sl_part {W : World} {g o cap : Nat} {b : List Int} (h : ∀ i (hi : i < b.length), W.cell? ⟨g, o + i, none⟩ = some (bc b[i])) (hc : b.length ≤ cap) {F E : Nat} (hF : F < b.length) (hFE : F ≤ E) (hE : E ≤ b.length) (h46 : E - F = ((b.drop F).take 46).length) : Sl bc W (.slice (some ⟨g, o + F, none⟩) (E - F) (cap - F)) ((b.drop F).take 46) :=
  .inr ⟨g, o + F, cap - F, by rw [← h46], by omega, fun i hi => by
    have h2 := h (F + i) (by omega)
    rw [← Nat.add_assoc] at h2
    rw [h2, List.getElem_take, List.getElem_drop]⟩
theorem padL_64 {b : List Int} (h : b.length = 64) : padL b = b := by
  unfold padL
  rw [h, List.drop_of_length_le (by simp [zer]), List.append_nil]
theorem wrS_pS {s : Dst} {nx sp : Int} {b : List Int} {k : Nat} (h0 : 0 ≤ nx) (h1 : nx + k ≤ 1073741824) (hr : ((pS s nx sp b k).tk.length : Int) < s.room) : wrS (pS s nx sp b k) (nx + k) (blkOf (sp + k) (decide (k = 0)) (b.drop (46 * k))) = pS s nx sp b (k + 1) ∧ wrC (pS s nx sp b k) (nx + k) (blkOf (sp + k) (decide (k = 0)) (b.drop (46 * k))) = 0 := by
  have h64 := blkOf_len (sp + k) (decide (k = 0)) (b.drop (46 * k))
  have hN : 0 ≤ nx + (k : Int) ∧ nx + (k : Int) ≤ 1073741824 := ⟨by omega, h1⟩
  have hR : (look (pS s nx sp b k).tk (nx + k)).isSome = true ∨ ((pS s nx sp b k).tk.length : Int) < (pS s nx sp b k).room := .inr hr
  constructor
  · unfold wrS
    rw [if_pos hN, if_pos (by omega), if_pos hR, padL_64 h64]
    simp only [pS, pieces_succ, List.append_assoc]
  · unfold wrC wrE
    rw [if_pos hN, if_pos (by omega), if_pos hR]
/-- What is refused leaves it as it was. -/
def ArP (w w' : World) (P : Nat → Prop) (e : Ending) (s : Dst) (base nx sp at_ code : Int) (t : Dst) (ny sy : Int) : Prop := ∃ v, e = .returned (.tuple #[v, .int .i64 at_, .int .i64 code]) ∧ Dc w' (fun k => P k ∨ w.heap.size ≤ k) v t base ny sy ∧ Below w.heap.size w w' ∧ s.room = s.room ∧ nx = nx ∧ sp = sp
set_option maxRecDepth 100000 in
set_option maxHeartbeats 8000000 in
theorem rappend_lim {P : Nat → Prop} (a1 a2 : Option Addr) (n1 k1 n2 k2 : Nat) (s : Dst) (base nx sp : Int) (ao : Option Addr) (m cap : Nat) (w : World) (hd : Dd w P (.agg #[.int .i64 s.room, .slice a1 n1 k1, .slice a2 n2 k2]) s) (hl : m = 0 ∨ 16448 < m) : Calls Tryz.prog 11 #[.agg #[.int .i64 s.room, .slice a1 n1 k1, .slice a2 n2 k2, .int .i64 base, .int .i64 nx, .int .i64 sp], .slice ao m cap] w fun e w' => ArP w w' P e s base nx sp 0 6 s nx sp := by
  have hcb := Cb.new w (.int .i64 s.room) (.slice a1 n1 k1) (.slice a2 n2 k2) (.int .i64 base) (.int .i64 nx) (.int .i64 sp)
  have HCB := hide hcb
  have HD := hide (hd.pn hcb.be (w.heap.size + 2))
  clear hcb hd
  go_enter Tryz.func11, Tryz.ntmps11
  go_upto_region 1 with fail
  generalize ((w.alloc (.cells #[.int .i64 s.room, .slice a1 n1 k1, .slice a2 n2 k2, .int .i64 base, .int .i64 nx, .int .i64 sp] 39)).alloc (.cells #[.int .i64 0, .slice none 0 0, .slice none 0 0, .int .i64 0, .int .i64 0, .int .i64 0] 39)) = W1 at HCB HD ⊢
  have x0 := HCB.out.x.at (i := 0) (by simp)
  have x1 := HCB.out.x.at (i := 1) (by simp)
  have x2 := HCB.out.x.at (i := 2) (by simp)
  have x3 := HCB.out.x.at (i := 3) (by simp)
  have x4 := HCB.out.x.at (i := 4) (by simp)
  have x5 := HCB.out.x.at (i := 5) (by simp)
  simp only [List.getElem_cons_zero, List.getElem_cons_succ] at x0 x1 x2 x3 x4 x5
  have z0 := HCB.out.y.at (i := 0) (by simp)
  have z1 := HCB.out.y.at (i := 1) (by simp)
  have z2 := HCB.out.y.at (i := 2) (by simp)
  have z3 := HCB.out.y.at (i := 3) (by simp)
  have z4 := HCB.out.y.at (i := 4) (by simp)
  have z5 := HCB.out.y.at (i := 5) (by simp)
  simp only [List.getElem_cons_zero, List.getElem_cons_succ] at z0 z1 z2 z3 z4 z5
  have f0 := HCB.out.y.fz 0
  have f1 := HCB.out.y.fz 1
  have f2 := HCB.out.y.fz 2
  have f3 := HCB.out.y.fz 3
  have f4 := HCB.out.y.fz 4
  have f5 := HCB.out.y.fz 5
  have HF := hide (HCB.out.y.all (.int .i64 s.room) (.slice a1 n1 k1) (.slice a2 n2 k2) (.int .i64 base) (.int .i64 nx) (.int .i64 sp))
  rcases hl with h1 | h1
  · subst h1
    go_wp2_with fail
    exact bodyPost_ret (v := .tuple #[.agg #[.int .i64 s.room, .slice a1 n1 k1, .slice a2 n2 k2, .int .i64 base, .int .i64 nx, .int .i64 sp], .int .i64 0, .int .i64 6]) (res_ct Tryz.results11 _ _ (w.heap.size + 1) [_, _, _, _, _, _] _ _ _ rfl rfl rfl HF.out Tryz.underlying39 rfl infoHc) rfl ⟨_, rfl, ⟨a1, a2, n1, k1, n2, k2, rfl, HD.out.pnO (by omega) (fun k hk _ => s6_heap (by omega) _ _ _ _ _ _)⟩, s6_below HCB.out.be (by omega) _ _ _ _ _ _, rfl, rfl, rfl⟩
  · have h2 : ((m : Int) == 0) = false := beq_eq_false_iff_ne.2 (by omega)
    have h3 : (16448 : Int) < (m : Int) := by omega
    go_wp2_with fail
    exact bodyPost_ret (v := .tuple #[.agg #[.int .i64 s.room, .slice a1 n1 k1, .slice a2 n2 k2, .int .i64 base, .int .i64 nx, .int .i64 sp], .int .i64 0, .int .i64 6]) (res_ct Tryz.results11 _ _ (w.heap.size + 1) [_, _, _, _, _, _] _ _ _ rfl rfl rfl HF.out Tryz.underlying39 rfl infoHc) rfl ⟨_, rfl, ⟨a1, a2, n1, k1, n2, k2, rfl, HD.out.pnO (by omega) (fun k hk _ => s6_heap (by omega) _ _ _ _ _ _)⟩, s6_below HCB.out.be (by omega) _ _ _ _ _ _, rfl, rfl, rfl⟩
set_option maxRecDepth 100000 in
set_option maxHeartbeats 8000000 in
theorem rappend_full {P : Nat → Prop} (a1 a2 : Option Addr) (n1 k1 n2 k2 : Nat) (s : Dst) (base nx sp : Int) (ao : Option Addr) (cap : Nat) (b : List Int) (n : Nat) (w : World) (hd : Dd w P (.agg #[.int .i64 s.room, .slice a1 n1 k1, .slice a2 n2 k2]) s) (hok : s.Ok) (hn8 : s.cs.length + s.lo.length < 70000) (hb : 0 < b.length ∧ b.length ≤ 16448) (hn : blks (b.length : Int) = n) (hf : s.room < (s.tk.length : Int) + (n : Int)) : Calls Tryz.prog 11 #[.agg #[.int .i64 s.room, .slice a1 n1 k1, .slice a2 n2 k2, .int .i64 base, .int .i64 nx, .int .i64 sp], .slice ao b.length cap] w fun e w' => ArP w w' P e s base nx sp 0 7 s nx sp := by
  have hcb := Cb.new w (.int .i64 s.room) (.slice a1 n1 k1) (.slice a2 n2 k2) (.int .i64 base) (.int .i64 nx) (.int .i64 sp)
  have HCB := hide hcb
  have HD := hide (hd.pn hcb.be (w.heap.size + 2))
  clear hcb hd
  have HOKK := hide hok
  have HA := hide hok.asc
  have HN := hide hn
  have hn1 : n ≤ 400 := by have h1 : blks (b.length : Int) ≤ 400 := (by unfold blks; split <;> omega); omega
  have g1 : ((b.length : Int) == 0) = false := beq_eq_false_iff_ne.2 (by omega)
  have g2 : ¬ (16448 : Int) < (b.length : Int) := by omega
  clear hn hok
  go_enter Tryz.func11, Tryz.ntmps11
  go_upto_region 1 with fail
  generalize ((w.alloc (.cells #[.int .i64 s.room, .slice a1 n1 k1, .slice a2 n2 k2, .int .i64 base, .int .i64 nx, .int .i64 sp] 39)).alloc (.cells #[.int .i64 0, .slice none 0 0, .slice none 0 0, .int .i64 0, .int .i64 0, .int .i64 0] 39)) = W1 at HCB HD ⊢
  go_upto_region 4 with (first | (go_at_call 41; refine (rblocks_any b.length _ hb.2).mono ?_; rintro e w9 ⟨rfl, hw9⟩; rw [hw9, HN.out]; clear hw9 w9))
  clear g1 g2
  have hdw : Below W1.heap.size W1 W1.drew := (Below.refl _ _).drew
  refine wp_region_held_drew (S := fun W => B6 W w.heap.size [.int .i64 s.room, .slice a1 n1 k1, .slice a2 n2 k2, .int .i64 base, .int .i64 nx, .int .i64 sp]) (by kernel_rfl) (HCB.out.x.below hdw) (fun hHeld => ?_)
  have HCB2 := hide (HCB.out.below hdw)
  have HD2 := hide (HD.out.below hdw)
  generalize W1.drew = W2 at HCB2 HD2 hHeld ⊢
  clear hdw HCB HD
  refine wpAnyH_take (i := 0) (oi := _) (v := .pointer (some ⟨w.heap.size, 0, none⟩)) rfl (by kernel_rfl) (by kernel_rfl) (by kernel_rfl) (fun _ _ _ h => h) (Or.inl ⟨by rfl, by intro w hSw; go_simp⟩) hHeld ?_
  change wpAnyH _ _ _ _ _ _ _ (Act.put _ (some 26) _) _
  simp only [Act.put, List.setIfInBounds_toArray, List.set_cons_zero, List.set_cons_succ]
  refine wpAnyH_take (i := 1) (oi := _) (v := .agg #[.int .i64 s.room, .slice a1 n1 k1, .slice a2 n2 k2]) rfl (by kernel_rfl) (by kernel_rfl) (by kernel_rfl) (fun _ _ _ h => h) (Or.inl ⟨by rfl, by intro w hSw; have h0 := hSw.at (i := 0) (by simp); have h1 := hSw.at (i := 1) (by simp); have h2 := hSw.at (i := 2) (by simp); simp only [List.getElem_cons_zero, List.getElem_cons_succ] at h0 h1 h2; go_simp⟩) hHeld ?_
  change wpAnyH _ _ _ _ _ _ _ (Act.put _ (some 27) _) _
  simp only [Act.put, List.setIfInBounds_toArray, List.set_cons_zero, List.set_cons_succ]
  refine wpAnyH_take (i := 3) (oi := _) (v := .int .i64 (n : Int)) rfl (by kernel_rfl) (by kernel_rfl) (by kernel_rfl) (fun _ _ _ h => h) (Or.inl ⟨by rfl, by intro w hSw; go_simp⟩) hHeld ?_
  change wpAnyH _ _ _ _ _ _ _ (Act.put _ (some 29) _) _
  simp only [Act.put, List.setIfInBounds_toArray, List.set_cons_zero, List.set_cons_succ]
  refine wpAnyH_take (i := 5) (oi := _) (v := .pointer (some ⟨w.heap.size, 0, none⟩)) rfl (by kernel_rfl) (by kernel_rfl) (by kernel_rfl) (fun _ _ _ h => h) (Or.inl ⟨by rfl, by intro w hSw; go_simp⟩) hHeld ?_
  change wpAnyH _ _ _ _ _ _ _ (Act.put _ (some 31) _) _
  simp only [Act.put, List.setIfInBounds_toArray, List.set_cons_zero, List.set_cons_succ]
  refine wpAnyH_take (i := 6) (oi := _) (v := .pointer (some ⟨w.heap.size, 0, none⟩)) rfl (by kernel_rfl) (by kernel_rfl) (by kernel_rfl) (fun _ _ _ h => h) (Or.inl ⟨by rfl, by intro w hSw; go_simp⟩) hHeld ?_
  change wpAnyH _ _ _ _ _ _ _ (Act.put _ (some 32) _) _
  simp only [Act.put, List.setIfInBounds_toArray, List.set_cons_zero, List.set_cons_succ]
  refine wpAnyH_take (i := 7) (oi := _) (v := .int .i64 s.room) rfl (by kernel_rfl) (by kernel_rfl) (by kernel_rfl) (fun _ _ _ h => h) (Or.inl ⟨by rfl, by intro w hSw; have h0 := hSw.at (i := 0) (by simp); simp only [List.getElem_cons_zero] at h0; go_simp⟩) hHeld ?_
  change wpAnyH _ _ _ _ _ _ _ (Act.put _ (some 33) _) _
  simp only [Act.put, List.setIfInBounds_toArray, List.set_cons_zero, List.set_cons_succ]
  refine wpAnyH_ready (rs := [2]) (by kernel_rfl) (by simp) ?_
  refine AllReadyH.cons (o := _) rfl (fun K hK => ?_) AllReadyH.nil
  go_simp
  go_at_call 42
  refine (rused_any _ s _ HD2.out HA.out (by omega)).mono ?_
  rintro e W3 ⟨rfl, hb3⟩
  go_wp2_with fail
  refine hK.out _ _ (hHeld.below hb3) (fun hHeld1 => ?_)
  clear hK K hHeld
  have hHeld := hHeld1
  clear hHeld1
  have HCB3 := hide (HCB2.out.below hb3)
  have HD3 := hide (HD2.out.below hb3)
  clear hb3 HCB2 HD2
  have htk : s.tk.length ≤ s.cs.length + s.lo.length := HOKK.out.tl
  have hwu : IntKind.i64.wrap ((s.tk.length : Int) + (n : Int)) = (s.tk.length : Int) + (n : Int) := by rw [IntKind.wrap_i64]; omega
  refine wpAnyH_take (i := 4) (oi := _) (v := .int .i64 ((s.tk.length : Int) + (n : Int))) rfl (by kernel_rfl) (by kernel_rfl) (by kernel_rfl) (fun _ _ _ h => h) (Or.inl ⟨by rfl, by intro w hSw; go_simp⟩) hHeld ?_
  change wpAnyH _ _ _ _ _ _ _ (Act.put _ (some 30) _) _
  simp only [Act.put, List.setIfInBounds_toArray, List.set_cons_zero, List.set_cons_succ]
  have hdf : decide (s.room < (s.tk.length : Int) + (n : Int)) = true := decide_eq_true hf
  refine wpAnyH_take (i := 8) (oi := _) (v := .bool true) rfl (by kernel_rfl) (by kernel_rfl) (by kernel_rfl) (fun _ _ _ h => h) (Or.inl ⟨by rfl, by intro w hSw; go_simp⟩) hHeld ?_
  change wpAnyH _ _ _ _ _ _ _ (Act.put _ (some 34) _) _
  simp only [Act.put, List.setIfInBounds_toArray, List.set_cons_zero, List.set_cons_succ]
  refine wpAnyH_take (i := 9) (oi := _) (v := .bool true) rfl (by kernel_rfl) (by kernel_rfl) (by kernel_rfl) (fun _ _ _ h => h) (Or.inl ⟨by rfl, by intro w hSw; go_simp⟩) hHeld ?_
  change wpAnyH _ _ _ _ _ _ _ (Act.put _ (some 35) _) _
  simp only [Act.put, List.setIfInBounds_toArray, List.set_cons_zero, List.set_cons_succ]
  refine wpAnyH_take (i := 10) (oi := _) (v := undef) rfl (by kernel_rfl) (by kernel_rfl) (by kernel_rfl) (fun _ _ _ h => h) (Or.inr ⟨by rfl, rfl⟩) hHeld ?_
  change wpAnyH _ _ _ _ _ _ _ (Act.put _ (some 36) _) _
  simp only [Act.put, List.setIfInBounds_toArray, List.set_cons_zero, List.set_cons_succ]
  refine wpAnyH_take (i := 11) (oi := _) (v := undef) rfl (by kernel_rfl) (by kernel_rfl) (by kernel_rfl) (fun _ _ _ h => h) (Or.inr ⟨by rfl, rfl⟩) hHeld ?_
  change wpAnyH _ _ _ _ _ _ _ (Act.put _ (some 37) _) _
  simp only [Act.put, List.setIfInBounds_toArray, List.set_cons_zero, List.set_cons_succ]
  refine wpAnyH_take (i := 12) (oi := _) (v := undef) rfl (by kernel_rfl) (by kernel_rfl) (by kernel_rfl) (fun _ _ _ h => h) (Or.inr ⟨by rfl, rfl⟩) hHeld ?_
  change wpAnyH _ _ _ _ _ _ _ (Act.put _ (some 38) _) _
  simp only [Act.put, List.setIfInBounds_toArray, List.set_cons_zero, List.set_cons_succ]
  refine wpAnyH_take (i := 13) (oi := _) (v := undef) rfl (by kernel_rfl) (by kernel_rfl) (by kernel_rfl) (fun _ _ _ h => h) (Or.inr ⟨by rfl, rfl⟩) hHeld ?_
  change wpAnyH _ _ _ _ _ _ _ (Act.put _ (some 39) _) _
  simp only [Act.put, List.setIfInBounds_toArray, List.set_cons_zero, List.set_cons_succ]
  refine wpAnyH_take (i := 14) (oi := _) (v := undef) rfl (by kernel_rfl) (by kernel_rfl) (by kernel_rfl) (fun _ _ _ h => h) (Or.inr ⟨by rfl, rfl⟩) hHeld ?_
  change wpAnyH _ _ _ _ _ _ _ (Act.put _ (some 40) _) _
  simp only [Act.put, List.setIfInBounds_toArray, List.set_cons_zero, List.set_cons_succ]
  refine wpAnyH_take (i := 15) (oi := _) (v := .bool true) rfl (by kernel_rfl) (by kernel_rfl) (by kernel_rfl) (fun _ _ _ h => h) (Or.inl ⟨by rfl, by intro w hSw; go_simp⟩) hHeld ?_
  change wpAnyH _ _ _ _ _ _ _ (Act.put _ (some 41) _) _
  simp only [Act.put, List.setIfInBounds_toArray, List.set_cons_zero, List.set_cons_succ]
  refine wpAnyH_done (by kernel_rfl) ?_ _
  clear hHeld
  have x0 := HCB3.out.x.at (i := 0) (by simp)
  have x1 := HCB3.out.x.at (i := 1) (by simp)
  have x2 := HCB3.out.x.at (i := 2) (by simp)
  have x3 := HCB3.out.x.at (i := 3) (by simp)
  have x4 := HCB3.out.x.at (i := 4) (by simp)
  have x5 := HCB3.out.x.at (i := 5) (by simp)
  simp only [List.getElem_cons_zero, List.getElem_cons_succ] at x0 x1 x2 x3 x4 x5
  have z0 := HCB3.out.y.at (i := 0) (by simp)
  have z1 := HCB3.out.y.at (i := 1) (by simp)
  have z2 := HCB3.out.y.at (i := 2) (by simp)
  have z3 := HCB3.out.y.at (i := 3) (by simp)
  have z4 := HCB3.out.y.at (i := 4) (by simp)
  have z5 := HCB3.out.y.at (i := 5) (by simp)
  simp only [List.getElem_cons_zero, List.getElem_cons_succ] at z0 z1 z2 z3 z4 z5
  have f0 := HCB3.out.y.fz 0
  have f1 := HCB3.out.y.fz 1
  have f2 := HCB3.out.y.fz 2
  have f3 := HCB3.out.y.fz 3
  have f4 := HCB3.out.y.fz 4
  have f5 := HCB3.out.y.fz 5
  have HF := hide (HCB3.out.y.all (.int .i64 s.room) (.slice a1 n1 k1) (.slice a2 n2 k2) (.int .i64 base) (.int .i64 nx) (.int .i64 sp))
  go_wp2_with fail
  exact bodyPost_ret (v := .tuple #[.agg #[.int .i64 s.room, .slice a1 n1 k1, .slice a2 n2 k2, .int .i64 base, .int .i64 nx, .int .i64 sp], .int .i64 0, .int .i64 7]) (res_ct Tryz.results11 _ _ (w.heap.size + 1) [_, _, _, _, _, _] _ _ _ rfl rfl rfl HF.out Tryz.underlying39 rfl infoHc) rfl ⟨_, rfl, ⟨a1, a2, n1, k1, n2, k2, rfl, HD3.out.pnO (by omega) (fun k hk _ => s6_heap (by omega) _ _ _ _ _ _)⟩, s6_below HCB3.out.be (by omega) _ _ _ _ _ _, rfl, rfl, rfl⟩
/-- The boxes of Append, while blocks are put. -/
structure Ab (w W : World) (g8 : Nat) (P : Nat → Prop) (s t : Dst) (x y : Value) (cl : List Value) (base ny sy : Int) : Prop where
  c : Cb w W cl
  o : B6 W g8 [.int .i64 s.room, x, y, .int .i64 base, .int .i64 ny, .int .i64 sy]
  d : Dd W (Pn P w.heap.size (g8 + 1)) (.agg #[.int .i64 s.room, x, y]) t
  lo : w.heap.size + 2 ≤ g8
theorem Ab.below {w W W' : World} {g8 : Nat} {P : Nat → Prop} {s t : Dst} {x y : Value} {cl : List Value} {base ny sy : Int} (h : Ab w W g8 P s t x y cl base ny sy) (hb : Below W.heap.size W W') : Ab w W' g8 P s t x y cl base ny sy := ⟨h.c.below hb, h.o.below hb, h.d.below hb, h.lo⟩
theorem B6.put {W : World} {g : Nat} {l : List Value} (h : B6 W g l) (x0 x1 x2 x3 x4 x5 : Value) : B6 (s6 W g x0 x1 x2 x3 x4 x5) g [x0, x1, x2, x3, x4, x5] := ⟨rfl, h.all x0 x1 x2 x3 x4 x5, fun i => by simp [s6, h.fz i]⟩
theorem Cb.keep {w W W' : World} {l : List Value} (h : Cb w W l) (hk : ∀ k, k < w.heap.size + 2 → W'.heap[k]? = W.heap[k]?) (hb : Below w.heap.size w W') (hs : W.heap.size ≤ W'.heap.size) : Cb w W' l := ⟨h.x.keepB (hk _ (by omega)), h.y.keepB (hk _ (by omega)), hb, Nat.le_trans h.sz hs⟩
theorem fill_rl (st : Int) (bg : Bool) (v : Value) (r : List Int) (rl : Nat) (w : World) (h0 : 0 ≤ st) (h1 : st ≤ 4611686018427387904) (hr : r.length = rl) (hl : rl ≤ 16448) (hv : Sl bc w v (r.take 46)) : Calls Tryz.prog 43 #[.int .i64 st, .bool bg, .int .i64 (rl : Int), v] w fun e w' => ∃ x, e = .returned x ∧ Sl bc w' x (blkOf st bg r) ∧ Below w.heap.size w w' := by
  subst hr
  exact fill_any st bg v r w h0 h1 hl hv
set_option maxRecDepth 100000 in
set_option maxHeartbeats 8000000 in
theorem rappend_ok {P : Nat → Prop} (a1 a2 : Option Addr) (n1 k1 n2 k2 : Nat) (s : Dst) (base nx sp : Int) (v : Value) (b : List Int) (n : Nat) (w : World) (hd : Dd w P (.agg #[.int .i64 s.room, .slice a1 n1 k1, .slice a2 n2 k2]) s) (hok : s.Ok) (hn8 : s.cs.length + s.lo.length < 70000) (hb : 0 < b.length ∧ b.length ≤ 16448) (hn : blks (b.length : Int) = n) (hv : Sl bc w v b) (hby : Byt b) (hx : 0 ≤ nx ∧ nx + n ≤ 1073741824) (hs : 0 ≤ sp ∧ sp ≤ 2305843009213693952) (hf : (s.tk.length : Int) + (n : Int) ≤ s.room) : Calls Tryz.prog 11 #[.agg #[.int .i64 s.room, .slice a1 n1 k1, .slice a2 n2 k2, .int .i64 base, .int .i64 nx, .int .i64 sp], v] w fun e w' => ArP w w' P e s base nx sp nx 0 (pS s nx sp b n) (nx + n) (sp + n) := by
  rcases hv with ⟨_, _, hz, _⟩ | ⟨gv, ov, cap, rfl, hcap, hce⟩
  · rw [hz] at hb; simp at hb
  have HCE : Hid (∀ W, Below w.heap.size w W → ∀ i (hi : i < b.length), W.cell? ⟨gv, ov + i, none⟩ = some (bc b[i])) := hide (fun W hW i hi => (hW.cell (p := ⟨gv, ov + i, none⟩) (cell_block (hce i hi))).trans (hce i hi))
  clear hce
  have hcb := Cb.new w (.int .i64 s.room) (.slice a1 n1 k1) (.slice a2 n2 k2) (.int .i64 base) (.int .i64 nx) (.int .i64 sp)
  have HCB := hide hcb
  have HD := hide (hd.pn hcb.be (w.heap.size + 2))
  have HDO : Hid (∀ W C, Below w.heap.size w W → Dd W (Pn P w.heap.size C) (.agg #[.int .i64 s.room, .slice a1 n1 k1, .slice a2 n2 k2]) s) := hide (fun W C h => hd.pn h C)
  clear hcb hd
  have HOKK := hide hok
  have HA := hide hok.asc
  have HN := hide hn
  have hn1 : n ≤ 400 := by have h1 : blks (b.length : Int) ≤ 400 := (by unfold blks; split <;> omega); omega
  have g1 : ((b.length : Int) == 0) = false := beq_eq_false_iff_ne.2 (by omega)
  have g2 : ¬ (16448 : Int) < (b.length : Int) := by omega
  clear hn hok
  go_enter Tryz.func11, Tryz.ntmps11
  go_upto_region 1 with fail
  generalize ((w.alloc (.cells #[.int .i64 s.room, .slice a1 n1 k1, .slice a2 n2 k2, .int .i64 base, .int .i64 nx, .int .i64 sp] 39)).alloc (.cells #[.int .i64 0, .slice none 0 0, .slice none 0 0, .int .i64 0, .int .i64 0, .int .i64 0] 39)) = W1 at HCB HD ⊢
  go_upto_region 4 with (first | (go_at_call 41; refine (rblocks_any b.length _ hb.2).mono ?_; rintro e w9 ⟨rfl, hw9⟩; rw [hw9, HN.out]; clear hw9 w9))
  clear g1 g2
  have hdw : Below W1.heap.size W1 W1.drew := (Below.refl _ _).drew
  refine wp_region_held_drew (S := fun W => B6 W w.heap.size [.int .i64 s.room, .slice a1 n1 k1, .slice a2 n2 k2, .int .i64 base, .int .i64 nx, .int .i64 sp]) (by kernel_rfl) (HCB.out.x.below hdw) (fun hHeld => ?_)
  have HCB2 := hide (HCB.out.below hdw)
  have HD2 := hide (HD.out.below hdw)
  generalize W1.drew = W2 at HCB2 HD2 hHeld ⊢
  clear hdw HCB HD
  refine wpAnyH_take (i := 0) (oi := _) (v := .pointer (some ⟨w.heap.size, 0, none⟩)) rfl (by kernel_rfl) (by kernel_rfl) (by kernel_rfl) (fun _ _ _ h => h) (Or.inl ⟨by rfl, by intro w hSw; go_simp⟩) hHeld ?_
  change wpAnyH _ _ _ _ _ _ _ (Act.put _ (some 26) _) _
  simp only [Act.put, List.setIfInBounds_toArray, List.set_cons_zero, List.set_cons_succ]
  refine wpAnyH_take (i := 1) (oi := _) (v := .agg #[.int .i64 s.room, .slice a1 n1 k1, .slice a2 n2 k2]) rfl (by kernel_rfl) (by kernel_rfl) (by kernel_rfl) (fun _ _ _ h => h) (Or.inl ⟨by rfl, by intro w hSw; have h0 := hSw.at (i := 0) (by simp); have h1 := hSw.at (i := 1) (by simp); have h2 := hSw.at (i := 2) (by simp); simp only [List.getElem_cons_zero, List.getElem_cons_succ] at h0 h1 h2; go_simp⟩) hHeld ?_
  change wpAnyH _ _ _ _ _ _ _ (Act.put _ (some 27) _) _
  simp only [Act.put, List.setIfInBounds_toArray, List.set_cons_zero, List.set_cons_succ]
  refine wpAnyH_take (i := 3) (oi := _) (v := .int .i64 (n : Int)) rfl (by kernel_rfl) (by kernel_rfl) (by kernel_rfl) (fun _ _ _ h => h) (Or.inl ⟨by rfl, by intro w hSw; go_simp⟩) hHeld ?_
  change wpAnyH _ _ _ _ _ _ _ (Act.put _ (some 29) _) _
  simp only [Act.put, List.setIfInBounds_toArray, List.set_cons_zero, List.set_cons_succ]
  refine wpAnyH_take (i := 5) (oi := _) (v := .pointer (some ⟨w.heap.size, 0, none⟩)) rfl (by kernel_rfl) (by kernel_rfl) (by kernel_rfl) (fun _ _ _ h => h) (Or.inl ⟨by rfl, by intro w hSw; go_simp⟩) hHeld ?_
  change wpAnyH _ _ _ _ _ _ _ (Act.put _ (some 31) _) _
  simp only [Act.put, List.setIfInBounds_toArray, List.set_cons_zero, List.set_cons_succ]
  refine wpAnyH_take (i := 6) (oi := _) (v := .pointer (some ⟨w.heap.size, 0, none⟩)) rfl (by kernel_rfl) (by kernel_rfl) (by kernel_rfl) (fun _ _ _ h => h) (Or.inl ⟨by rfl, by intro w hSw; go_simp⟩) hHeld ?_
  change wpAnyH _ _ _ _ _ _ _ (Act.put _ (some 32) _) _
  simp only [Act.put, List.setIfInBounds_toArray, List.set_cons_zero, List.set_cons_succ]
  refine wpAnyH_take (i := 7) (oi := _) (v := .int .i64 s.room) rfl (by kernel_rfl) (by kernel_rfl) (by kernel_rfl) (fun _ _ _ h => h) (Or.inl ⟨by rfl, by intro w hSw; have h0 := hSw.at (i := 0) (by simp); simp only [List.getElem_cons_zero] at h0; go_simp⟩) hHeld ?_
  change wpAnyH _ _ _ _ _ _ _ (Act.put _ (some 33) _) _
  simp only [Act.put, List.setIfInBounds_toArray, List.set_cons_zero, List.set_cons_succ]
  refine wpAnyH_ready (rs := [2]) (by kernel_rfl) (by simp) ?_
  refine AllReadyH.cons (o := _) rfl (fun K hK => ?_) AllReadyH.nil
  go_simp
  go_at_call 42
  refine (rused_any _ s _ HD2.out HA.out (by omega)).mono ?_
  rintro e W3 ⟨rfl, hb3⟩
  go_wp2_with fail
  refine hK.out _ _ (hHeld.below hb3) (fun hHeld1 => ?_)
  clear hK K hHeld
  have hHeld := hHeld1
  clear hHeld1
  have HCB3 := hide (HCB2.out.below hb3)
  have HD3 := hide (HD2.out.below hb3)
  clear hb3 HCB2 HD2
  have htk : s.tk.length ≤ s.cs.length + s.lo.length := HOKK.out.tl
  have hwu : IntKind.i64.wrap ((s.tk.length : Int) + (n : Int)) = (s.tk.length : Int) + (n : Int) := by rw [IntKind.wrap_i64]; omega
  refine wpAnyH_take (i := 4) (oi := _) (v := .int .i64 ((s.tk.length : Int) + (n : Int))) rfl (by kernel_rfl) (by kernel_rfl) (by kernel_rfl) (fun _ _ _ h => h) (Or.inl ⟨by rfl, by intro w hSw; go_simp⟩) hHeld ?_
  change wpAnyH _ _ _ _ _ _ _ (Act.put _ (some 30) _) _
  simp only [Act.put, List.setIfInBounds_toArray, List.set_cons_zero, List.set_cons_succ]
  have hdf : decide (s.room < (s.tk.length : Int) + (n : Int)) = false := decide_eq_false (by omega)
  refine wpAnyH_take (i := 8) (oi := _) (v := .bool false) rfl (by kernel_rfl) (by kernel_rfl) (by kernel_rfl) (fun _ _ _ h => h) (Or.inl ⟨by rfl, by intro w hSw; go_simp⟩) hHeld ?_
  change wpAnyH _ _ _ _ _ _ _ (Act.put _ (some 34) _) _
  simp only [Act.put, List.setIfInBounds_toArray, List.set_cons_zero, List.set_cons_succ]
  refine wpAnyH_take (i := 9) (oi := _) (v := .bool false) rfl (by kernel_rfl) (by kernel_rfl) (by kernel_rfl) (fun _ _ _ h => h) (Or.inl ⟨by rfl, by intro w hSw; go_simp⟩) hHeld ?_
  change wpAnyH _ _ _ _ _ _ _ (Act.put _ (some 35) _) _
  simp only [Act.put, List.setIfInBounds_toArray, List.set_cons_zero, List.set_cons_succ]
  have hwn : IntKind.i64.wrap (nx + (n : Int)) = nx + (n : Int) := by rw [IntKind.wrap_i64]; omega
  refine wpAnyH_take (i := 10) (oi := _) (v := .pointer (some ⟨w.heap.size, 4, none⟩)) rfl (by kernel_rfl) (by kernel_rfl) (by kernel_rfl) (fun _ _ _ h => h) (Or.inl ⟨by rfl, by intro w hSw; go_simp⟩) hHeld ?_
  change wpAnyH _ _ _ _ _ _ _ (Act.put _ (some 36) _) _
  simp only [Act.put, List.setIfInBounds_toArray, List.set_cons_zero, List.set_cons_succ]
  refine wpAnyH_take (i := 11) (oi := _) (v := .int .i64 nx) rfl (by kernel_rfl) (by kernel_rfl) (by kernel_rfl) (fun _ _ _ h => h) (Or.inl ⟨by rfl, by intro w hSw; have h4 := hSw.at (i := 4) (by simp); simp only [List.getElem_cons_zero, List.getElem_cons_succ] at h4; go_simp⟩) hHeld ?_
  change wpAnyH _ _ _ _ _ _ _ (Act.put _ (some 37) _) _
  simp only [Act.put, List.setIfInBounds_toArray, List.set_cons_zero, List.set_cons_succ]
  refine wpAnyH_take (i := 12) (oi := _) (v := .int .i64 (n : Int)) rfl (by kernel_rfl) (by kernel_rfl) (by kernel_rfl) (fun _ _ _ h => h) (Or.inl ⟨by rfl, by intro w hSw; go_simp⟩) hHeld ?_
  change wpAnyH _ _ _ _ _ _ _ (Act.put _ (some 38) _) _
  simp only [Act.put, List.setIfInBounds_toArray, List.set_cons_zero, List.set_cons_succ]
  refine wpAnyH_take (i := 13) (oi := _) (v := .int .i64 (nx + (n : Int))) rfl (by kernel_rfl) (by kernel_rfl) (by kernel_rfl) (fun _ _ _ h => h) (Or.inl ⟨by rfl, by intro w hSw; go_simp⟩) hHeld ?_
  change wpAnyH _ _ _ _ _ _ _ (Act.put _ (some 39) _) _
  simp only [Act.put, List.setIfInBounds_toArray, List.set_cons_zero, List.set_cons_succ]
  have hdn : decide ((1073741824 : Int) < nx + (n : Int)) = false := decide_eq_false (by omega)
  refine wpAnyH_take (i := 14) (oi := _) (v := .bool false) rfl (by kernel_rfl) (by kernel_rfl) (by kernel_rfl) (fun _ _ _ h => h) (Or.inl ⟨by rfl, by intro w hSw; go_simp⟩) hHeld ?_
  change wpAnyH _ _ _ _ _ _ _ (Act.put _ (some 40) _) _
  simp only [Act.put, List.setIfInBounds_toArray, List.set_cons_zero, List.set_cons_succ]
  refine wpAnyH_take (i := 15) (oi := _) (v := .bool false) rfl (by kernel_rfl) (by kernel_rfl) (by kernel_rfl) (fun _ _ _ h => h) (Or.inl ⟨by rfl, by intro w hSw; go_simp⟩) hHeld ?_
  change wpAnyH _ _ _ _ _ _ _ (Act.put _ (some 41) _) _
  simp only [Act.put, List.setIfInBounds_toArray, List.set_cons_zero, List.set_cons_succ]
  refine wpAnyH_done (by kernel_rfl) ?_ _
  clear hHeld hwu hdf hwn hdn htk
  have HDQ : Hid (Dd W3 (Pn P w.heap.size (W3.heap.size + 1)) (.agg #[.int .i64 s.room, .slice a1 n1 k1, .slice a2 n2 k2]) s) := hide (HDO.out W3 _ HCB3.out.be)
  have x0 := HCB3.out.x.at (i := 0) (by simp)
  have x1 := HCB3.out.x.at (i := 1) (by simp)
  have x2 := HCB3.out.x.at (i := 2) (by simp)
  have x3 := HCB3.out.x.at (i := 3) (by simp)
  have x4 := HCB3.out.x.at (i := 4) (by simp)
  have x5 := HCB3.out.x.at (i := 5) (by simp)
  simp only [List.getElem_cons_zero, List.getElem_cons_succ] at x0 x1 x2 x3 x4 x5
  go_upto_region 8 with fail
  clear x0 x1 x2 x3 x4 x5
  have hal : Below W3.heap.size W3 (W3.alloc (.cells #[.int .i64 s.room, .slice a1 n1 k1, .slice a2 n2 k2, .int .i64 base, .int .i64 nx, .int .i64 sp] 39)) := (Below.refl _ _).alloc (Nat.le_refl _) _
  have HAB : Hid (Ab w (W3.alloc (.cells #[.int .i64 s.room, .slice a1 n1 k1, .slice a2 n2 k2, .int .i64 base, .int .i64 nx, .int .i64 sp] 39)) W3.heap.size P s s (.slice a1 n1 k1) (.slice a2 n2 k2) [.int .i64 s.room, .slice a1 n1 k1, .slice a2 n2 k2, .int .i64 base, .int .i64 nx, .int .i64 sp] base nx sp) := hide ⟨HCB3.out.below hal, B6.new W3 _ _ _ _ _ _ _, HDQ.out.below hal, HCB3.out.sz⟩
  clear hal HCB3 HD3 HDQ
  generalize W3.alloc (.cells #[.int .i64 s.room, .slice a1 n1 k1, .slice a2 n2 k2, .int .i64 base, .int .i64 nx, .int .i64 sp] 39) = W4 at HAB ⊢
  generalize W3.heap.size = g8 at HAB ⊢
  go_loopw [9] (fun i W => ∃ (k : Nat) (b1 b2 : Option Addr) (m1 j1 m2 j2 : Nat), k ≤ n ∧ i = .int .i64 (k : Int) ∧ Ab w W g8 P s (pS s nx sp b k) (.slice b1 m1 j1) (.slice b2 m2 j2) [.int .i64 s.room, .slice a1 n1 k1, .slice a2 n2 k2, .int .i64 base, .int .i64 nx, .int .i64 sp] base (nx + k) (sp + k)) (fun i _ => n - (iv i).toNat)
  case atStart => exact ⟨0, a1, a2, n1, k1, n2, k2, Nat.zero_le _, rfl, by rw [pS_zero]; simpa using HAB.out⟩
  case round =>
    clear HAB
    obtain ⟨k, b1, b2, m1, j1, m2, j2, hk, rfl, hab⟩ := hrel
    have HAB := hide hab
    clear hab
    by_cases hlt : k < n
    · have hltI : (k : Int) < (n : Int) := by omega
      have HN2 := HN
      have h46 : 46 * k < b.length := by have h1 := HN.out; unfold blks at h1; split at h1 <;> omega
      have HPS := hide (wrS_pS (s := s) (sp := sp) (b := b) (k := k) hx.1 (by omega) (by have := pS_tk s nx sp b HA.out k; omega))
      have HAC : Hid (Asc (pS s nx sp b k).cs) := hide HA.out
      have HWT : Hid ((pS s nx sp b k).cs.length + (pS s nx sp b k).lo.length < 80000) := hide (by simp [pS, pieces]; omega)
      have HBB : Hid (Byt (blkOf (sp + (k : Int)) (decide (k = 0)) (b.drop (46 * k)))) := hide (fun x hx => (blkOf_blk _ _ (fun y hy => hby y (List.mem_of_mem_drop hy)) (by rw [List.length_drop]; omega)).2 x hx)
      have HRM : Hid ((pS s nx sp b k).room = s.room) := hide rfl
      obtain ⟨F, hF⟩ : ∃ F : Nat, F = 46 * k := ⟨_, rfl⟩
      obtain ⟨E, hE⟩ : ∃ E : Nat, E = min (F + 46) b.length := ⟨_, rfl⟩
      obtain ⟨rl, hrl⟩ : ∃ rl : Nat, (b.drop F).length = rl := ⟨_, rfl⟩
      obtain ⟨q, hq⟩ : ∃ q : Bool, decide (k = 0) = q := ⟨_, rfl⟩
      rw [← hF, hq] at HPS HBB
      have hFk : (46 : Int) * (k : Int) = (F : Int) := by omega
      have hwF : IntKind.i64.wrap (46 * (k : Int)) = (F : Int) := by rw [IntKind.wrap_i64]; omega
      have hwE : IntKind.i64.wrap ((F : Int) + 46) = (F : Int) + 46 := by rw [IntKind.wrap_i64]; omega
      have HR := hide hrl
      have HSE : Hid (E - F = ((b.drop F).take 46).length) := hide (by rw [List.length_take, List.length_drop]; omega)
      have hFL : F < b.length := by omega
      have hFE : F ≤ E := by omega
      have hEL : E ≤ b.length := by omega
      have hqI : ((k : Int) == 0) = q := by rw [← hq]; by_cases h : k = 0 <;> simp [h]
      have hsb : (b.length : Int) - (F : Int) = (rl : Int) := by rw [← hrl, List.length_drop]; omega
      have hrl16 : rl ≤ 16448 := by rw [← hrl, List.length_drop]; omega
      have hwl : IntKind.i64.wrap (rl : Int) = (rl : Int) := by rw [IntKind.wrap_i64]; omega
      have hwl2 : IntKind.i64.wrap ((b.length : Int) - (F : Int)) = (rl : Int) := by rw [hsb]; exact hwl
      have HEI : Hid ((E : Int) = if (b.length : Int) < (F : Int) + 46 then (b.length : Int) else (F : Int) + 46) := hide (by split <;> omega)
      clear hE hF hrl hq
      by_cases hend : (b.length : Int) < (F : Int) + 46
      · obtain rfl : E = b.length := by have h := HEI.out; rw [if_pos hend] at h; omega
        go_upto_region 14 with fail
        go_cut [12] (fun p W => ∃ (gB : Nat) (c1 c2 : Option Addr) (o1 q1 o2 q2 : Nat), p = .pointer (some ⟨gB, 0, none⟩) ∧ Cb w W [.int .i64 s.room, .slice a1 n1 k1, .slice a2 n2 k2, .int .i64 base, .int .i64 nx, .int .i64 sp] ∧ B6 W g8 [.int .i64 s.room, .slice b1 m1 j1, .slice b2 m2 j2, .int .i64 base, .int .i64 (nx + (k : Int)), .int .i64 (sp + (k : Int))] ∧ B3 W gB (.int .i64 s.room) (.slice c1 o1 q1) (.slice c2 o2 q2) ∧ Dd W (Pn P w.heap.size (g8 + 1)) (.agg #[.int .i64 s.room, .slice c1 o1 q1, .slice c2 o2 q2]) (pS s nx sp b (k + 1)) ∧ g8 < gB)
        case first =>
          have hdw : Below wr.heap.size wr wr.drew := (Below.refl _ _).drew
          refine wp_region_held_drew (S := fun W => B6 W w.heap.size [.int .i64 s.room, .slice a1 n1 k1, .slice a2 n2 k2, .int .i64 base, .int .i64 nx, .int .i64 sp] ∧ B6 W g8 [.int .i64 s.room, .slice b1 m1 j1, .slice b2 m2 j2, .int .i64 base, .int .i64 (nx + (k : Int)), .int .i64 (sp + (k : Int))]) (by kernel_rfl) ⟨HAB.out.c.x.below hdw, HAB.out.o.below hdw⟩ (fun hHeld => ?_)
          have HA1 := hide (HAB.out.below hdw)
          generalize wr.drew = V1 at HA1 hHeld ⊢
          clear hdw HAB
          have hwa : IntKind.i64.wrap (nx + (k : Int)) = nx + (k : Int) := by rw [IntKind.wrap_i64]; omega
          have hsl := slc2 gv ov b.length cap F b.length hFL hFE hEL hcap
          refine wpAnyH_take (i := 0) (oi := _) (v := .pointer (some ⟨g8, 0, none⟩)) rfl (by kernel_rfl) (by kernel_rfl) (by kernel_rfl) (fun _ _ _ h => h) (Or.inl ⟨by rfl, by intro w hSw; go_simp⟩) hHeld ?_
          change wpAnyH _ _ _ _ _ _ _ (Act.put _ (some 60) _) _
          simp only [Act.put, List.setIfInBounds_toArray, List.set_cons_zero, List.set_cons_succ]
          refine wpAnyH_take (i := 1) (oi := _) (v := .agg #[.int .i64 s.room, .slice b1 m1 j1, .slice b2 m2 j2]) rfl (by kernel_rfl) (by kernel_rfl) (by kernel_rfl) (fun _ _ _ h => h) (Or.inl ⟨by rfl, by intro w hSw; have h0 := hSw.2.at (i := 0) (by simp); have h1 := hSw.2.at (i := 1) (by simp); have h2 := hSw.2.at (i := 2) (by simp); simp only [List.getElem_cons_zero, List.getElem_cons_succ] at h0 h1 h2; go_simp⟩) hHeld ?_
          change wpAnyH _ _ _ _ _ _ _ (Act.put _ (some 61) _) _
          simp only [Act.put, List.setIfInBounds_toArray, List.set_cons_zero, List.set_cons_succ]
          refine wpAnyH_take (i := 2) (oi := _) (v := .pointer (some ⟨w.heap.size, 4, none⟩)) rfl (by kernel_rfl) (by kernel_rfl) (by kernel_rfl) (fun _ _ _ h => h) (Or.inl ⟨by rfl, by intro w hSw; go_simp⟩) hHeld ?_
          change wpAnyH _ _ _ _ _ _ _ (Act.put _ (some 62) _) _
          simp only [Act.put, List.setIfInBounds_toArray, List.set_cons_zero, List.set_cons_succ]
          refine wpAnyH_take (i := 3) (oi := _) (v := .int .i64 nx) rfl (by kernel_rfl) (by kernel_rfl) (by kernel_rfl) (fun _ _ _ h => h) (Or.inl ⟨by rfl, by intro w hSw; have h4 := hSw.1.at (i := 4) (by simp); simp only [List.getElem_cons_zero, List.getElem_cons_succ] at h4; go_simp⟩) hHeld ?_
          change wpAnyH _ _ _ _ _ _ _ (Act.put _ (some 63) _) _
          simp only [Act.put, List.setIfInBounds_toArray, List.set_cons_zero, List.set_cons_succ]
          refine wpAnyH_take (i := 4) (oi := _) (v := .int .i64 (k : Int)) rfl (by kernel_rfl) (by kernel_rfl) (by kernel_rfl) (fun _ _ _ h => h) (Or.inl ⟨by rfl, by intro w hSw; go_simp⟩) hHeld ?_
          change wpAnyH _ _ _ _ _ _ _ (Act.put _ (some 64) _) _
          simp only [Act.put, List.setIfInBounds_toArray, List.set_cons_zero, List.set_cons_succ]
          refine wpAnyH_take (i := 5) (oi := _) (v := .int .i64 (nx + (k : Int))) rfl (by kernel_rfl) (by kernel_rfl) (by kernel_rfl) (fun _ _ _ h => h) (Or.inl ⟨by rfl, by intro w hSw; go_simp⟩) hHeld ?_
          change wpAnyH _ _ _ _ _ _ _ (Act.put _ (some 65) _) _
          simp only [Act.put, List.setIfInBounds_toArray, List.set_cons_zero, List.set_cons_succ]
          refine wpAnyH_take (i := 6) (oi := _) (v := .pointer (some ⟨g8, 5, none⟩)) rfl (by kernel_rfl) (by kernel_rfl) (by kernel_rfl) (fun _ _ _ h => h) (Or.inl ⟨by rfl, by intro w hSw; go_simp⟩) hHeld ?_
          change wpAnyH _ _ _ _ _ _ _ (Act.put _ (some 66) _) _
          simp only [Act.put, List.setIfInBounds_toArray, List.set_cons_zero, List.set_cons_succ]
          refine wpAnyH_take (i := 7) (oi := _) (v := .int .i64 (sp + (k : Int))) rfl (by kernel_rfl) (by kernel_rfl) (by kernel_rfl) (fun _ _ _ h => h) (Or.inl ⟨by rfl, by intro w hSw; have h5 := hSw.2.at (i := 5) (by simp); simp only [List.getElem_cons_zero, List.getElem_cons_succ] at h5; go_simp⟩) hHeld ?_
          change wpAnyH _ _ _ _ _ _ _ (Act.put _ (some 67) _) _
          simp only [Act.put, List.setIfInBounds_toArray, List.set_cons_zero, List.set_cons_succ]
          refine wpAnyH_take (i := 8) (oi := _) (v := .int .i64 (k : Int)) rfl (by kernel_rfl) (by kernel_rfl) (by kernel_rfl) (fun _ _ _ h => h) (Or.inl ⟨by rfl, by intro w hSw; go_simp⟩) hHeld ?_
          change wpAnyH _ _ _ _ _ _ _ (Act.put _ (some 68) _) _
          simp only [Act.put, List.setIfInBounds_toArray, List.set_cons_zero, List.set_cons_succ]
          refine wpAnyH_take (i := 9) (oi := _) (v := .bool q) rfl (by kernel_rfl) (by kernel_rfl) (by kernel_rfl) (fun _ _ _ h => h) (Or.inl ⟨by rfl, by intro w hSw; go_simp⟩) hHeld ?_
          change wpAnyH _ _ _ _ _ _ _ (Act.put _ (some 69) _) _
          simp only [Act.put, List.setIfInBounds_toArray, List.set_cons_zero, List.set_cons_succ]
          refine wpAnyH_take (i := 10) (oi := _) (v := .slice (some ⟨gv, ov, none⟩) b.length cap) rfl (by kernel_rfl) (by kernel_rfl) (by kernel_rfl) (fun _ _ _ h => h) (Or.inl ⟨by rfl, by intro w hSw; go_simp⟩) hHeld ?_
          change wpAnyH _ _ _ _ _ _ _ (Act.put _ (some 70) _) _
          simp only [Act.put, List.setIfInBounds_toArray, List.set_cons_zero, List.set_cons_succ]
          refine wpAnyH_take (i := 11) (oi := _) (v := .int .i64 (b.length : Int)) rfl (by kernel_rfl) (by kernel_rfl) (by kernel_rfl) (fun _ _ _ h => h) (Or.inl ⟨by rfl, by intro w hSw; go_simp⟩) hHeld ?_
          change wpAnyH _ _ _ _ _ _ _ (Act.put _ (some 71) _) _
          simp only [Act.put, List.setIfInBounds_toArray, List.set_cons_zero, List.set_cons_succ]
          refine wpAnyH_take (i := 12) (oi := _) (v := .int .i64 (F : Int)) rfl (by kernel_rfl) (by kernel_rfl) (by kernel_rfl) (fun _ _ _ h => h) (Or.inl ⟨by rfl, by intro w hSw; go_simp⟩) hHeld ?_
          change wpAnyH _ _ _ _ _ _ _ (Act.put _ (some 72) _) _
          simp only [Act.put, List.setIfInBounds_toArray, List.set_cons_zero, List.set_cons_succ]
          refine wpAnyH_take (i := 13) (oi := _) (v := .int .i64 (rl : Int)) rfl (by kernel_rfl) (by kernel_rfl) (by kernel_rfl) (fun _ _ _ h => h) (Or.inl ⟨by rfl, by intro w hSw; go_simp⟩) hHeld ?_
          change wpAnyH _ _ _ _ _ _ _ (Act.put _ (some 73) _) _
          simp only [Act.put, List.setIfInBounds_toArray, List.set_cons_zero, List.set_cons_succ]
          refine wpAnyH_take (i := 14) (oi := _) (v := .slice (some ⟨gv, ov, none⟩) b.length cap) rfl (by kernel_rfl) (by kernel_rfl) (by kernel_rfl) (fun _ _ _ h => h) (Or.inl ⟨by rfl, by intro w hSw; go_simp⟩) hHeld ?_
          change wpAnyH _ _ _ _ _ _ _ (Act.put _ (some 74) _) _
          simp only [Act.put, List.setIfInBounds_toArray, List.set_cons_zero, List.set_cons_succ]
          refine wpAnyH_take (i := 15) (oi := _) (v := .int .i64 (F : Int)) rfl (by kernel_rfl) (by kernel_rfl) (by kernel_rfl) (fun _ _ _ h => h) (Or.inl ⟨by rfl, by intro w hSw; go_simp⟩) hHeld ?_
          change wpAnyH _ _ _ _ _ _ _ (Act.put _ (some 75) _) _
          simp only [Act.put, List.setIfInBounds_toArray, List.set_cons_zero, List.set_cons_succ]
          refine wpAnyH_take (i := 16) (oi := _) (v := .int .i64 (b.length : Int)) rfl (by kernel_rfl) (by kernel_rfl) (by kernel_rfl) (fun _ _ _ h => h) (Or.inl ⟨by rfl, by intro w hSw; go_simp⟩) hHeld ?_
          change wpAnyH _ _ _ _ _ _ _ (Act.put _ (some 76) _) _
          simp only [Act.put, List.setIfInBounds_toArray, List.set_cons_zero, List.set_cons_succ]
          refine wpAnyH_take (i := 17) (oi := _) (v := .slice (some ⟨gv, ov + F, none⟩) (b.length - F) (cap - F)) rfl (by kernel_rfl) (by kernel_rfl) (by kernel_rfl) (fun _ _ _ h => h) (Or.inl ⟨by rfl, by intro w hSw; have h1 := hsl w; go_simp⟩) hHeld ?_
          change wpAnyH _ _ _ _ _ _ _ (Act.put _ (some 77) _) _
          simp only [Act.put, List.setIfInBounds_toArray, List.set_cons_zero, List.set_cons_succ]
          clear hsl
          refine wpAnyH_ready (rs := [18, 23]) (by kernel_rfl) (by simp) ?_
          refine AllReadyH.cons (o := _) rfl (fun K hK => ?_) (AllReadyH.cons (o := _) rfl (fun K hK => ?_) AllReadyH.nil)
          · go_simp
            go_at_call 43
            refine (fill_rl (sp + (k : Int)) q _ (b.drop F) rl _ (by omega) (by omega) HR.out hrl16 (sl_part (HCE.out _ HA1.out.c.be) hcap hFL hFE hEL HSE.out)).mono ?_
            rintro e V2 ⟨x2, rfl, hs2, hb2⟩
            obtain ⟨ea, ek, rfl⟩ := hs2.form
            rw [blkOf_len] at hs2 ⊢
            go_wp2_with fail
            refine hK.out _ _ ⟨hHeld.1.below hb2, hHeld.2.below hb2⟩ (fun hHeld1 => ?_)
            clear hK K hHeld
            have hHeld := hHeld1
            clear hHeld1
            have HA2 := hide (HA1.out.below hb2)
            have HSF2 := hide hs2
            clear hb2 hs2
            refine wpAnyH_ready (rs := [19, 23]) (by kernel_rfl) (by simp) ?_
            refine AllReadyH.cons (o := _) rfl (fun K hK => ?_) (AllReadyH.cons (o := _) rfl (fun K hK => ?_) AllReadyH.nil)
            · go_simp
              go_at_call 26
              refine (rputA_any _ (nx + (k : Int)) _ (blkOf (sp + (k : Int)) q (b.drop F)) (pS s nx sp b k) _ HA2.out.d HAC.out HSF2.out HBB.out HWT.out).mono ?_
              rintro e V3 ⟨v3, rfl, hd3, hb3⟩
              rw [HPS.out.1] at hd3
              rw [HPS.out.2]
              obtain ⟨c1, o1, q1, c2, o2, q2, rfl⟩ := hd3.form9
              have hrm : (pS s nx sp b (k + 1)).room = s.room := rfl
              rw [hrm] at hd3 ⊢
              clear hrm
              go_wp2_with fail
              refine hK.out _ _ ⟨hHeld.1.below hb3, hHeld.2.below hb3⟩ (fun hHeld1 => ?_)
              clear hK K hHeld
              have hHeld := hHeld1
              clear hHeld1
              refine wpAnyH_take (i := 20) (oi := _) (v := .tuple #[.agg #[.int .i64 s.room, .slice c1 o1 q1, .slice c2 o2 q2], .int .i64 0]) rfl (by kernel_rfl) (by kernel_rfl) (by kernel_rfl) (fun _ _ _ h => h) (Or.inl ⟨by rfl, by intro w hSw; go_simp⟩) hHeld ?_
              change wpAnyH _ _ _ _ _ _ _ (Act.put _ (some 59) _) _
              simp only [Act.put, List.setIfInBounds_toArray, List.set_cons_zero, List.set_cons_succ]
              refine wpAnyH_take (i := 21) (oi := _) (v := .agg #[.int .i64 s.room, .slice c1 o1 q1, .slice c2 o2 q2]) rfl (by kernel_rfl) (by kernel_rfl) (by kernel_rfl) (fun _ _ _ h => h) (Or.inl ⟨by rfl, by intro w hSw; go_simp⟩) hHeld ?_
              change wpAnyH _ _ _ _ _ _ _ (Act.put _ (some 80) _) _
              simp only [Act.put, List.setIfInBounds_toArray, List.set_cons_zero, List.set_cons_succ]
              refine wpAnyH_take (i := 22) (oi := _) (v := .int .i64 0) rfl (by kernel_rfl) (by kernel_rfl) (by kernel_rfl) (fun _ _ _ h => h) (Or.inl ⟨by rfl, by intro w hSw; go_simp⟩) hHeld ?_
              change wpAnyH _ _ _ _ _ _ _ (Act.put _ (some 81) _) _
              simp only [Act.put, List.setIfInBounds_toArray, List.set_cons_zero, List.set_cons_succ]
              refine wpAnyH_ready (rs := [23]) (by kernel_rfl) (by simp) ?_
              refine AllReadyH.cons (o := _) rfl (fun K hK => ?_) AllReadyH.nil
              go_simp
              refine hK.out _ _ ⟨hHeld.1.below (al_d _ _), hHeld.2.below (al_d _ _)⟩ (fun hHeld1 => ?_)
              clear hK K hHeld
              have hHeld := hHeld1
              clear hHeld1
              have hal := al_d V3 (.cells #[.int .i64 0, .slice none 0 0, .slice none 0 0] 37)
              have HC := hide ((HA2.out.c.below hb3).below hal)
              have HO := hide ((HA2.out.o.below hb3).below hal)
              have HG0 := b3_new V3 (.int .i64 0) (.slice none 0 0) (.slice none 0 0) 37
              have HLO := hide HA2.out.lo
              have HLT0 : g8 < V3.heap.size := Nat.lt_of_lt_of_le HA2.out.o.lt hb3.size
              have HDn0 : Dd (V3.alloc (.cells #[.int .i64 0, .slice none 0 0, .slice none 0 0] 37)) (fun k => Pn P w.heap.size (g8 + 1) k ∧ k ≠ V3.heap.size) (.agg #[.int .i64 s.room, .slice c1 o1 q1, .slice c2 o2 q2]) (pS s nx sp b (k + 1)) := (hd3.pnC (Nat.succ_le_of_lt (HA2.out.o.lt))).keep (fun k p hk => ⟨p, by omega⟩) (fun k _ hk => hal.block k hk)
              have HG := hide HG0
              have HLT := hide HLT0
              have HDn := hide HDn0
              clear hal HG0 HLT0 HDn0
              generalize V3.alloc (.cells #[.int .i64 0, .slice none 0 0, .slice none 0 0] 37) = V9 at HC HO HG HDn hHeld ⊢
              generalize V3.heap.size = gB at HG HLT HDn ⊢
              refine wpAnyH_ready (rs := [24]) (by kernel_rfl) (by simp) ?_
              refine AllReadyH.cons (o := _) rfl (fun K hK => ?_) AllReadyH.nil
              have e0 := HG.out.c0
              have e1 := HG.out.c1
              have e2 := HG.out.c2
              have f0 := HG.out.fz 0
              have f1 := HG.out.fz 1
              have f2 := HG.out.fz 2
              go_simp
              clear e0 e1 e2 f0 f1 f2
              refine hK.out _ _ ⟨hHeld.1.keepB (set3_heap (by have h1 := HLT.out; have h2 := HLO.out; omega) _ _ _), hHeld.2.keepB (set3_heap (by have h1 := HLT.out; omega) _ _ _)⟩ (fun hHeld1 => ?_)
              clear hK K hHeld
              have hHeld := hHeld1
              clear hHeld1
              refine wpAnyH_take (i := 25) (oi := _) (v := .int .i64 0) rfl (by kernel_rfl) (by kernel_rfl) (by kernel_rfl) (fun _ _ _ h => h) (Or.inl ⟨by rfl, by intro w hSw; go_simp⟩) hHeld ?_
              change wpAnyH _ _ _ _ _ _ _ (Act.put _ (some 13) _) _
              simp only [Act.put, List.setIfInBounds_toArray, List.set_cons_zero, List.set_cons_succ]
              refine wpAnyH_done (by kernel_rfl) ?_ _
              clear hHeld
              go_wp2_with fail
              go_meet
              exact ⟨gB, c1, c2, o1, q1, o2, q2, rfl, HC.out.keep (fun k hk => set3_heap (by have h1 := HLT.out; have h2 := HLO.out; omega) _ _ _) (set3_below HC.out.be (by have h1 := HLT.out; have h2 := HLO.out; omega) _ _ _) (by simp), HO.out.keepB (set3_heap (by have h1 := HLT.out; omega) _ _ _), HG.out.all _ _ _, HDn.out.keep (fun k p _ => p.1) (fun k p _ => set3_heap p.2 _ _ _), HLT.out⟩
            · go_simp
              refine hK.out _ _ ⟨hHeld.1.below (al_d _ _), hHeld.2.below (al_d _ _)⟩ (fun hHeld1 => ?_)
              clear hK K hHeld
              have hHeld := hHeld1
              clear hHeld1
              have hal := al_d V2 (.cells #[.int .i64 0, .slice none 0 0, .slice none 0 0] 37)
              have HA5 := hide (HA2.out.below hal)
              have HG5 := hide (b3_new V2 (.int .i64 0) (.slice none 0 0) (.slice none 0 0) 37)
              have HLT : Hid (g8 < V2.heap.size) := hide HA2.out.o.lt
              have HLO := hide HA2.out.lo
              have HD5 : Hid (Dd (V2.alloc (.cells #[.int .i64 0, .slice none 0 0, .slice none 0 0] 37)) (fun k => Pn P w.heap.size (g8 + 1) k ∧ k ≠ V2.heap.size) (.agg #[.int .i64 s.room, .slice b1 m1 j1, .slice b2 m2 j2]) (pS s nx sp b k)) := hide (HA2.out.d.keep (fun k p hk => ⟨p, by omega⟩) (fun k _ hk => hal.block k hk))
              have HSF5 := hide (HSF2.out.below hal)
              clear hal
              generalize V2.alloc (.cells #[.int .i64 0, .slice none 0 0, .slice none 0 0] 37) = V5 at HA5 HG5 HD5 HSF5 hHeld ⊢
              generalize V2.heap.size = gB at HG5 HLT HD5 ⊢
              refine wpAnyH_ready (rs := [19]) (by kernel_rfl) (by simp) ?_
              refine AllReadyH.cons (o := _) rfl (fun K hK => ?_) AllReadyH.nil
              go_simp
              go_at_call 26
              refine (rputA_any _ (nx + (k : Int)) _ (blkOf (sp + (k : Int)) q (b.drop F)) (pS s nx sp b k) _ HD5.out HAC.out HSF5.out HBB.out HWT.out).mono ?_
              rintro e V6 ⟨v6, rfl, hd6, hb6⟩
              rw [HPS.out.1] at hd6
              rw [HPS.out.2]
              obtain ⟨c1, o1, q1, c2, o2, q2, rfl⟩ := hd6.form9
              have hrm : (pS s nx sp b (k + 1)).room = s.room := rfl
              rw [hrm] at hd6 ⊢
              clear hrm
              go_wp2_with fail
              refine hK.out _ _ ⟨hHeld.1.below hb6, hHeld.2.below hb6⟩ (fun hHeld1 => ?_)
              clear hK K hHeld
              have hHeld := hHeld1
              clear hHeld1
              refine wpAnyH_take (i := 20) (oi := _) (v := .tuple #[.agg #[.int .i64 s.room, .slice c1 o1 q1, .slice c2 o2 q2], .int .i64 0]) rfl (by kernel_rfl) (by kernel_rfl) (by kernel_rfl) (fun _ _ _ h => h) (Or.inl ⟨by rfl, by intro w hSw; go_simp⟩) hHeld ?_
              change wpAnyH _ _ _ _ _ _ _ (Act.put _ (some 59) _) _
              simp only [Act.put, List.setIfInBounds_toArray, List.set_cons_zero, List.set_cons_succ]
              refine wpAnyH_take (i := 21) (oi := _) (v := .agg #[.int .i64 s.room, .slice c1 o1 q1, .slice c2 o2 q2]) rfl (by kernel_rfl) (by kernel_rfl) (by kernel_rfl) (fun _ _ _ h => h) (Or.inl ⟨by rfl, by intro w hSw; go_simp⟩) hHeld ?_
              change wpAnyH _ _ _ _ _ _ _ (Act.put _ (some 80) _) _
              simp only [Act.put, List.setIfInBounds_toArray, List.set_cons_zero, List.set_cons_succ]
              refine wpAnyH_take (i := 22) (oi := _) (v := .int .i64 0) rfl (by kernel_rfl) (by kernel_rfl) (by kernel_rfl) (fun _ _ _ h => h) (Or.inl ⟨by rfl, by intro w hSw; go_simp⟩) hHeld ?_
              change wpAnyH _ _ _ _ _ _ _ (Act.put _ (some 81) _) _
              simp only [Act.put, List.setIfInBounds_toArray, List.set_cons_zero, List.set_cons_succ]
              have HC := hide (HA5.out.c.below hb6)
              have HO := hide (HA5.out.o.below hb6)
              have HG := hide (HG5.out.below hb6)
              have HDn : Hid (Dd V6 (fun k => Pn P w.heap.size (g8 + 1) k ∧ k ≠ gB) (.agg #[.int .i64 s.room, .slice c1 o1 q1, .slice c2 o2 q2]) (pS s nx sp b (k + 1))) := hide (hd6.keep (fun k p hk => p.elim id (fun e => ⟨.inr (by have h1 := HA5.out.o.lt; omega), by have h1 := HG5.out.lt9; omega⟩)) (fun _ _ _ => rfl))
              refine wpAnyH_ready (rs := [24]) (by kernel_rfl) (by simp) ?_
              refine AllReadyH.cons (o := _) rfl (fun K hK => ?_) AllReadyH.nil
              have e0 := HG.out.c0
              have e1 := HG.out.c1
              have e2 := HG.out.c2
              have f0 := HG.out.fz 0
              have f1 := HG.out.fz 1
              have f2 := HG.out.fz 2
              go_simp
              clear e0 e1 e2 f0 f1 f2
              refine hK.out _ _ ⟨hHeld.1.keepB (set3_heap (by have h1 := HLT.out; have h2 := HLO.out; omega) _ _ _), hHeld.2.keepB (set3_heap (by have h1 := HLT.out; omega) _ _ _)⟩ (fun hHeld1 => ?_)
              clear hK K hHeld
              have hHeld := hHeld1
              clear hHeld1
              refine wpAnyH_take (i := 25) (oi := _) (v := .int .i64 0) rfl (by kernel_rfl) (by kernel_rfl) (by kernel_rfl) (fun _ _ _ h => h) (Or.inl ⟨by rfl, by intro w hSw; go_simp⟩) hHeld ?_
              change wpAnyH _ _ _ _ _ _ _ (Act.put _ (some 13) _) _
              simp only [Act.put, List.setIfInBounds_toArray, List.set_cons_zero, List.set_cons_succ]
              refine wpAnyH_done (by kernel_rfl) ?_ _
              clear hHeld
              go_wp2_with fail
              go_meet
              exact ⟨gB, c1, c2, o1, q1, o2, q2, rfl, HC.out.keep (fun k hk => set3_heap (by have h1 := HLT.out; have h2 := HLO.out; omega) _ _ _) (set3_below HC.out.be (by have h1 := HLT.out; have h2 := HLO.out; omega) _ _ _) (by simp), HO.out.keepB (set3_heap (by have h1 := HLT.out; omega) _ _ _), HG.out.all _ _ _, HDn.out.keep (fun k p _ => p.1) (fun k p _ => set3_heap p.2 _ _ _), HLT.out⟩
          · go_simp
            refine hK.out _ _ ⟨hHeld.1.below (al_d _ _), hHeld.2.below (al_d _ _)⟩ (fun hHeld1 => ?_)
            clear hK K hHeld
            have hHeld := hHeld1
            clear hHeld1
            have hal := al_d V1 (.cells #[.int .i64 0, .slice none 0 0, .slice none 0 0] 37)
            have HA5 := hide (HA1.out.below hal)
            have HG5 := hide (b3_new V1 (.int .i64 0) (.slice none 0 0) (.slice none 0 0) 37)
            have HLT : Hid (g8 < V1.heap.size) := hide HA1.out.o.lt
            have HLO := hide HA1.out.lo
            have HD5 : Hid (Dd (V1.alloc (.cells #[.int .i64 0, .slice none 0 0, .slice none 0 0] 37)) (fun k => Pn P w.heap.size (g8 + 1) k ∧ k ≠ V1.heap.size) (.agg #[.int .i64 s.room, .slice b1 m1 j1, .slice b2 m2 j2]) (pS s nx sp b k)) := hide (HA1.out.d.keep (fun k p hk => ⟨p, by omega⟩) (fun k _ hk => hal.block k hk))
            clear hal
            generalize V1.alloc (.cells #[.int .i64 0, .slice none 0 0, .slice none 0 0] 37) = V5 at HA5 HG5 HD5 hHeld ⊢
            generalize V1.heap.size = gB at HG5 HLT HD5 ⊢
            have HD50 := HD5
            refine wpAnyH_ready (rs := [18]) (by kernel_rfl) (by simp) ?_
            refine AllReadyH.cons (o := _) rfl (fun K hK => ?_) AllReadyH.nil
            go_simp
            go_at_call 43
            refine (fill_rl (sp + (k : Int)) q _ (b.drop F) rl _ (by omega) (by omega) HR.out hrl16 (sl_part (HCE.out _ HA5.out.c.be) hcap hFL hFE hEL HSE.out)).mono ?_
            rintro e V7 ⟨x7, rfl, hs7, hb7⟩
            obtain ⟨ea, ek, rfl⟩ := hs7.form
            rw [blkOf_len] at hs7 ⊢
            go_wp2_with fail
            refine hK.out _ _ ⟨hHeld.1.below hb7, hHeld.2.below hb7⟩ (fun hHeld1 => ?_)
            clear hK K hHeld
            have hHeld := hHeld1
            clear hHeld1
            have HA7 := hide (HA5.out.below hb7)
            have HSF7 := hide hs7
            have HD7 := hide (HD5.out.below hb7)
            have HG7 := hide (HG5.out.below hb7)
            clear hb7 hs7 HA5 HD5 HG5 HD50
            have HA5 := HA7
            have HD5 := HD7
            have HG5 := HG7
            clear HA7 HD7 HG7
            refine wpAnyH_ready (rs := [19]) (by kernel_rfl) (by simp) ?_
            refine AllReadyH.cons (o := _) rfl (fun K hK => ?_) AllReadyH.nil
            go_simp
            go_at_call 26
            refine (rputA_any _ (nx + (k : Int)) _ (blkOf (sp + (k : Int)) q (b.drop F)) (pS s nx sp b k) _ HD5.out HAC.out HSF7.out HBB.out HWT.out).mono ?_
            rintro e V8 ⟨v8, rfl, hd8, hb8⟩
            rw [HPS.out.1] at hd8
            rw [HPS.out.2]
            obtain ⟨c1, o1, q1, c2, o2, q2, rfl⟩ := hd8.form9
            have hrm : (pS s nx sp b (k + 1)).room = s.room := rfl
            rw [hrm] at hd8 ⊢
            clear hrm
            go_wp2_with fail
            refine hK.out _ _ ⟨hHeld.1.below hb8, hHeld.2.below hb8⟩ (fun hHeld1 => ?_)
            clear hK K hHeld
            have hHeld := hHeld1
            clear hHeld1
            refine wpAnyH_take (i := 20) (oi := _) (v := .tuple #[.agg #[.int .i64 s.room, .slice c1 o1 q1, .slice c2 o2 q2], .int .i64 0]) rfl (by kernel_rfl) (by kernel_rfl) (by kernel_rfl) (fun _ _ _ h => h) (Or.inl ⟨by rfl, by intro w hSw; go_simp⟩) hHeld ?_
            change wpAnyH _ _ _ _ _ _ _ (Act.put _ (some 59) _) _
            simp only [Act.put, List.setIfInBounds_toArray, List.set_cons_zero, List.set_cons_succ]
            refine wpAnyH_take (i := 21) (oi := _) (v := .agg #[.int .i64 s.room, .slice c1 o1 q1, .slice c2 o2 q2]) rfl (by kernel_rfl) (by kernel_rfl) (by kernel_rfl) (fun _ _ _ h => h) (Or.inl ⟨by rfl, by intro w hSw; go_simp⟩) hHeld ?_
            change wpAnyH _ _ _ _ _ _ _ (Act.put _ (some 80) _) _
            simp only [Act.put, List.setIfInBounds_toArray, List.set_cons_zero, List.set_cons_succ]
            refine wpAnyH_take (i := 22) (oi := _) (v := .int .i64 0) rfl (by kernel_rfl) (by kernel_rfl) (by kernel_rfl) (fun _ _ _ h => h) (Or.inl ⟨by rfl, by intro w hSw; go_simp⟩) hHeld ?_
            change wpAnyH _ _ _ _ _ _ _ (Act.put _ (some 81) _) _
            simp only [Act.put, List.setIfInBounds_toArray, List.set_cons_zero, List.set_cons_succ]
            have HC := hide (HA5.out.c.below hb8)
            have HO := hide (HA5.out.o.below hb8)
            have HG := hide (HG5.out.below hb8)
            have HDn : Hid (Dd V8 (fun k => Pn P w.heap.size (g8 + 1) k ∧ k ≠ gB) (.agg #[.int .i64 s.room, .slice c1 o1 q1, .slice c2 o2 q2]) (pS s nx sp b (k + 1))) := hide (hd8.keep (fun k p hk => p.elim id (fun e => ⟨.inr (by have h1 := HA5.out.o.lt; omega), by have h1 := HG5.out.lt9; omega⟩)) (fun _ _ _ => rfl))
            refine wpAnyH_ready (rs := [24]) (by kernel_rfl) (by simp) ?_
            refine AllReadyH.cons (o := _) rfl (fun K hK => ?_) AllReadyH.nil
            have e0 := HG.out.c0
            have e1 := HG.out.c1
            have e2 := HG.out.c2
            have f0 := HG.out.fz 0
            have f1 := HG.out.fz 1
            have f2 := HG.out.fz 2
            go_simp
            clear e0 e1 e2 f0 f1 f2
            refine hK.out _ _ ⟨hHeld.1.keepB (set3_heap (by have h1 := HLT.out; have h2 := HLO.out; omega) _ _ _), hHeld.2.keepB (set3_heap (by have h1 := HLT.out; omega) _ _ _)⟩ (fun hHeld1 => ?_)
            clear hK K hHeld
            have hHeld := hHeld1
            clear hHeld1
            refine wpAnyH_take (i := 25) (oi := _) (v := .int .i64 0) rfl (by kernel_rfl) (by kernel_rfl) (by kernel_rfl) (fun _ _ _ h => h) (Or.inl ⟨by rfl, by intro w hSw; go_simp⟩) hHeld ?_
            change wpAnyH _ _ _ _ _ _ _ (Act.put _ (some 13) _) _
            simp only [Act.put, List.setIfInBounds_toArray, List.set_cons_zero, List.set_cons_succ]
            refine wpAnyH_done (by kernel_rfl) ?_ _
            clear hHeld
            go_wp2_with fail
            go_meet
            exact ⟨gB, c1, c2, o1, q1, o2, q2, rfl, HC.out.keep (fun k hk => set3_heap (by have h1 := HLT.out; have h2 := HLO.out; omega) _ _ _) (set3_below HC.out.be (by have h1 := HLT.out; have h2 := HLO.out; omega) _ _ _) (by simp), HO.out.keepB (set3_heap (by have h1 := HLT.out; omega) _ _ _), HG.out.all _ _ _, HDn.out.keep (fun k p _ => p.1) (fun k p _ => set3_heap p.2 _ _ _), HLT.out⟩
        case rest =>
          obtain ⟨gB, c1, c2, o1, q1, o2, q2, rfl, hc, ho, hg, hd, hlt2⟩ := hcut
          have HC := hide hc
          have HO := hide ho
          have HG := hide hg
          have HD5 := hide hd
          have HLT := hide hlt2
          have HLO := hide HAB.out.lo
          clear hc ho hg hd hlt2 HAB
          have hv1 : IntKind.i64.wrap (nx + (k : Int)) = nx + (k : Int) := by rw [IntKind.wrap_i64]; omega
          have hv2 : IntKind.i64.wrap (nx + (k : Int) + 1) = nx + (k : Int) + 1 := by rw [IntKind.wrap_i64]; omega
          have hv3 : IntKind.i64.wrap (sp + (k : Int) + 1) = sp + (k : Int) + 1 := by rw [IntKind.wrap_i64]; omega
          have hv4 : IntKind.i64.wrap ((k : Int) + 1) = (k : Int) + 1 := by rw [IntKind.wrap_i64]; omega
          have x3 := HC.out.x.at (i := 3) (by simp)
          have x4 := HC.out.x.at (i := 4) (by simp)
          simp only [List.getElem_cons_zero, List.getElem_cons_succ] at x3 x4
          have z0 := HO.out.at (i := 0) (by simp)
          have z1 := HO.out.at (i := 1) (by simp)
          have z2 := HO.out.at (i := 2) (by simp)
          have z3 := HO.out.at (i := 3) (by simp)
          have z4 := HO.out.at (i := 4) (by simp)
          have z5 := HO.out.at (i := 5) (by simp)
          simp only [List.getElem_cons_zero, List.getElem_cons_succ] at z0 z1 z2 z3 z4 z5
          have f0 := HO.out.fz 0
          have f1 := HO.out.fz 1
          have f2 := HO.out.fz 2
          have f3 := HO.out.fz 3
          have f4 := HO.out.fz 4
          have f5 := HO.out.fz 5
          have g0 := HG.out.c0
          have g1 := HG.out.c1
          have g2 := HG.out.c2
          have HAN : Hid (Ab w (s6 wc g8 (.int .i64 s.room) (.slice c1 o1 q1) (.slice c2 o2 q2) (.int .i64 base) (.int .i64 (nx + (k : Int) + 1)) (.int .i64 (sp + (k : Int) + 1))) g8 P s (pS s nx sp b (k + 1)) (.slice c1 o1 q1) (.slice c2 o2 q2) [.int .i64 s.room, .slice a1 n1 k1, .slice a2 n2 k2, .int .i64 base, .int .i64 nx, .int .i64 sp] base (nx + ((k + 1 : Nat) : Int)) (sp + ((k + 1 : Nat) : Int))) := hide (by rw [show nx + ((k + 1 : Nat) : Int) = nx + (k : Int) + 1 by omega, show sp + ((k + 1 : Nat) : Int) = sp + (k : Int) + 1 by omega]; exact ⟨HC.out.keep (fun j hj => s6_heap (by have h2 := HLO.out; omega) _ _ _ _ _ _) (s6_below HC.out.be (by have h2 := HLO.out; omega) _ _ _ _ _ _) (by simp [s6]), HO.out.put _ _ _ _ _ _, HD5.out.pnK (fun j hj _ => s6_heap (by have h2 := HLO.out; omega) _ _ _ _ _ _), HLO.out⟩)
          go_wp2_with fail
          exact ⟨⟨k + 1, c1, c2, o1, q1, o2, q2, by omega, by go_num, HAN.out⟩, by simp [iv]; omega⟩
      · have HEe : Hid ((F : Int) + 46 = (E : Int)) := hide (by rw [HEI.out, if_neg hend])
        go_upto_region 14 with fail
        rw [HEe.out]
        go_cut [12] (fun p W => ∃ (gB : Nat) (c1 c2 : Option Addr) (o1 q1 o2 q2 : Nat), p = .pointer (some ⟨gB, 0, none⟩) ∧ Cb w W [.int .i64 s.room, .slice a1 n1 k1, .slice a2 n2 k2, .int .i64 base, .int .i64 nx, .int .i64 sp] ∧ B6 W g8 [.int .i64 s.room, .slice b1 m1 j1, .slice b2 m2 j2, .int .i64 base, .int .i64 (nx + (k : Int)), .int .i64 (sp + (k : Int))] ∧ B3 W gB (.int .i64 s.room) (.slice c1 o1 q1) (.slice c2 o2 q2) ∧ Dd W (Pn P w.heap.size (g8 + 1)) (.agg #[.int .i64 s.room, .slice c1 o1 q1, .slice c2 o2 q2]) (pS s nx sp b (k + 1)) ∧ g8 < gB)
        case first =>
          have hdw : Below wr.heap.size wr wr.drew := (Below.refl _ _).drew
          refine wp_region_held_drew (S := fun W => B6 W w.heap.size [.int .i64 s.room, .slice a1 n1 k1, .slice a2 n2 k2, .int .i64 base, .int .i64 nx, .int .i64 sp] ∧ B6 W g8 [.int .i64 s.room, .slice b1 m1 j1, .slice b2 m2 j2, .int .i64 base, .int .i64 (nx + (k : Int)), .int .i64 (sp + (k : Int))]) (by kernel_rfl) ⟨HAB.out.c.x.below hdw, HAB.out.o.below hdw⟩ (fun hHeld => ?_)
          have HA1 := hide (HAB.out.below hdw)
          generalize wr.drew = V1 at HA1 hHeld ⊢
          clear hdw HAB
          have hwa : IntKind.i64.wrap (nx + (k : Int)) = nx + (k : Int) := by rw [IntKind.wrap_i64]; omega
          have hsl := slc2 gv ov b.length cap F E hFL hFE hEL hcap
          refine wpAnyH_take (i := 0) (oi := _) (v := .pointer (some ⟨g8, 0, none⟩)) rfl (by kernel_rfl) (by kernel_rfl) (by kernel_rfl) (fun _ _ _ h => h) (Or.inl ⟨by rfl, by intro w hSw; go_simp⟩) hHeld ?_
          change wpAnyH _ _ _ _ _ _ _ (Act.put _ (some 60) _) _
          simp only [Act.put, List.setIfInBounds_toArray, List.set_cons_zero, List.set_cons_succ]
          refine wpAnyH_take (i := 1) (oi := _) (v := .agg #[.int .i64 s.room, .slice b1 m1 j1, .slice b2 m2 j2]) rfl (by kernel_rfl) (by kernel_rfl) (by kernel_rfl) (fun _ _ _ h => h) (Or.inl ⟨by rfl, by intro w hSw; have h0 := hSw.2.at (i := 0) (by simp); have h1 := hSw.2.at (i := 1) (by simp); have h2 := hSw.2.at (i := 2) (by simp); simp only [List.getElem_cons_zero, List.getElem_cons_succ] at h0 h1 h2; go_simp⟩) hHeld ?_
          change wpAnyH _ _ _ _ _ _ _ (Act.put _ (some 61) _) _
          simp only [Act.put, List.setIfInBounds_toArray, List.set_cons_zero, List.set_cons_succ]
          refine wpAnyH_take (i := 2) (oi := _) (v := .pointer (some ⟨w.heap.size, 4, none⟩)) rfl (by kernel_rfl) (by kernel_rfl) (by kernel_rfl) (fun _ _ _ h => h) (Or.inl ⟨by rfl, by intro w hSw; go_simp⟩) hHeld ?_
          change wpAnyH _ _ _ _ _ _ _ (Act.put _ (some 62) _) _
          simp only [Act.put, List.setIfInBounds_toArray, List.set_cons_zero, List.set_cons_succ]
          refine wpAnyH_take (i := 3) (oi := _) (v := .int .i64 nx) rfl (by kernel_rfl) (by kernel_rfl) (by kernel_rfl) (fun _ _ _ h => h) (Or.inl ⟨by rfl, by intro w hSw; have h4 := hSw.1.at (i := 4) (by simp); simp only [List.getElem_cons_zero, List.getElem_cons_succ] at h4; go_simp⟩) hHeld ?_
          change wpAnyH _ _ _ _ _ _ _ (Act.put _ (some 63) _) _
          simp only [Act.put, List.setIfInBounds_toArray, List.set_cons_zero, List.set_cons_succ]
          refine wpAnyH_take (i := 4) (oi := _) (v := .int .i64 (k : Int)) rfl (by kernel_rfl) (by kernel_rfl) (by kernel_rfl) (fun _ _ _ h => h) (Or.inl ⟨by rfl, by intro w hSw; go_simp⟩) hHeld ?_
          change wpAnyH _ _ _ _ _ _ _ (Act.put _ (some 64) _) _
          simp only [Act.put, List.setIfInBounds_toArray, List.set_cons_zero, List.set_cons_succ]
          refine wpAnyH_take (i := 5) (oi := _) (v := .int .i64 (nx + (k : Int))) rfl (by kernel_rfl) (by kernel_rfl) (by kernel_rfl) (fun _ _ _ h => h) (Or.inl ⟨by rfl, by intro w hSw; go_simp⟩) hHeld ?_
          change wpAnyH _ _ _ _ _ _ _ (Act.put _ (some 65) _) _
          simp only [Act.put, List.setIfInBounds_toArray, List.set_cons_zero, List.set_cons_succ]
          refine wpAnyH_take (i := 6) (oi := _) (v := .pointer (some ⟨g8, 5, none⟩)) rfl (by kernel_rfl) (by kernel_rfl) (by kernel_rfl) (fun _ _ _ h => h) (Or.inl ⟨by rfl, by intro w hSw; go_simp⟩) hHeld ?_
          change wpAnyH _ _ _ _ _ _ _ (Act.put _ (some 66) _) _
          simp only [Act.put, List.setIfInBounds_toArray, List.set_cons_zero, List.set_cons_succ]
          refine wpAnyH_take (i := 7) (oi := _) (v := .int .i64 (sp + (k : Int))) rfl (by kernel_rfl) (by kernel_rfl) (by kernel_rfl) (fun _ _ _ h => h) (Or.inl ⟨by rfl, by intro w hSw; have h5 := hSw.2.at (i := 5) (by simp); simp only [List.getElem_cons_zero, List.getElem_cons_succ] at h5; go_simp⟩) hHeld ?_
          change wpAnyH _ _ _ _ _ _ _ (Act.put _ (some 67) _) _
          simp only [Act.put, List.setIfInBounds_toArray, List.set_cons_zero, List.set_cons_succ]
          refine wpAnyH_take (i := 8) (oi := _) (v := .int .i64 (k : Int)) rfl (by kernel_rfl) (by kernel_rfl) (by kernel_rfl) (fun _ _ _ h => h) (Or.inl ⟨by rfl, by intro w hSw; go_simp⟩) hHeld ?_
          change wpAnyH _ _ _ _ _ _ _ (Act.put _ (some 68) _) _
          simp only [Act.put, List.setIfInBounds_toArray, List.set_cons_zero, List.set_cons_succ]
          refine wpAnyH_take (i := 9) (oi := _) (v := .bool q) rfl (by kernel_rfl) (by kernel_rfl) (by kernel_rfl) (fun _ _ _ h => h) (Or.inl ⟨by rfl, by intro w hSw; go_simp⟩) hHeld ?_
          change wpAnyH _ _ _ _ _ _ _ (Act.put _ (some 69) _) _
          simp only [Act.put, List.setIfInBounds_toArray, List.set_cons_zero, List.set_cons_succ]
          refine wpAnyH_take (i := 10) (oi := _) (v := .slice (some ⟨gv, ov, none⟩) b.length cap) rfl (by kernel_rfl) (by kernel_rfl) (by kernel_rfl) (fun _ _ _ h => h) (Or.inl ⟨by rfl, by intro w hSw; go_simp⟩) hHeld ?_
          change wpAnyH _ _ _ _ _ _ _ (Act.put _ (some 70) _) _
          simp only [Act.put, List.setIfInBounds_toArray, List.set_cons_zero, List.set_cons_succ]
          refine wpAnyH_take (i := 11) (oi := _) (v := .int .i64 (b.length : Int)) rfl (by kernel_rfl) (by kernel_rfl) (by kernel_rfl) (fun _ _ _ h => h) (Or.inl ⟨by rfl, by intro w hSw; go_simp⟩) hHeld ?_
          change wpAnyH _ _ _ _ _ _ _ (Act.put _ (some 71) _) _
          simp only [Act.put, List.setIfInBounds_toArray, List.set_cons_zero, List.set_cons_succ]
          refine wpAnyH_take (i := 12) (oi := _) (v := .int .i64 (F : Int)) rfl (by kernel_rfl) (by kernel_rfl) (by kernel_rfl) (fun _ _ _ h => h) (Or.inl ⟨by rfl, by intro w hSw; go_simp⟩) hHeld ?_
          change wpAnyH _ _ _ _ _ _ _ (Act.put _ (some 72) _) _
          simp only [Act.put, List.setIfInBounds_toArray, List.set_cons_zero, List.set_cons_succ]
          refine wpAnyH_take (i := 13) (oi := _) (v := .int .i64 (rl : Int)) rfl (by kernel_rfl) (by kernel_rfl) (by kernel_rfl) (fun _ _ _ h => h) (Or.inl ⟨by rfl, by intro w hSw; go_simp⟩) hHeld ?_
          change wpAnyH _ _ _ _ _ _ _ (Act.put _ (some 73) _) _
          simp only [Act.put, List.setIfInBounds_toArray, List.set_cons_zero, List.set_cons_succ]
          refine wpAnyH_take (i := 14) (oi := _) (v := .slice (some ⟨gv, ov, none⟩) b.length cap) rfl (by kernel_rfl) (by kernel_rfl) (by kernel_rfl) (fun _ _ _ h => h) (Or.inl ⟨by rfl, by intro w hSw; go_simp⟩) hHeld ?_
          change wpAnyH _ _ _ _ _ _ _ (Act.put _ (some 74) _) _
          simp only [Act.put, List.setIfInBounds_toArray, List.set_cons_zero, List.set_cons_succ]
          refine wpAnyH_take (i := 15) (oi := _) (v := .int .i64 (F : Int)) rfl (by kernel_rfl) (by kernel_rfl) (by kernel_rfl) (fun _ _ _ h => h) (Or.inl ⟨by rfl, by intro w hSw; go_simp⟩) hHeld ?_
          change wpAnyH _ _ _ _ _ _ _ (Act.put _ (some 75) _) _
          simp only [Act.put, List.setIfInBounds_toArray, List.set_cons_zero, List.set_cons_succ]
          refine wpAnyH_take (i := 16) (oi := _) (v := .int .i64 (E : Int)) rfl (by kernel_rfl) (by kernel_rfl) (by kernel_rfl) (fun _ _ _ h => h) (Or.inl ⟨by rfl, by intro w hSw; go_simp⟩) hHeld ?_
          change wpAnyH _ _ _ _ _ _ _ (Act.put _ (some 76) _) _
          simp only [Act.put, List.setIfInBounds_toArray, List.set_cons_zero, List.set_cons_succ]
          refine wpAnyH_take (i := 17) (oi := _) (v := .slice (some ⟨gv, ov + F, none⟩) (E - F) (cap - F)) rfl (by kernel_rfl) (by kernel_rfl) (by kernel_rfl) (fun _ _ _ h => h) (Or.inl ⟨by rfl, by intro w hSw; have h1 := hsl w; go_simp⟩) hHeld ?_
          change wpAnyH _ _ _ _ _ _ _ (Act.put _ (some 77) _) _
          simp only [Act.put, List.setIfInBounds_toArray, List.set_cons_zero, List.set_cons_succ]
          clear hsl
          refine wpAnyH_ready (rs := [18, 23]) (by kernel_rfl) (by simp) ?_
          refine AllReadyH.cons (o := _) rfl (fun K hK => ?_) (AllReadyH.cons (o := _) rfl (fun K hK => ?_) AllReadyH.nil)
          · go_simp
            go_at_call 43
            refine (fill_rl (sp + (k : Int)) q _ (b.drop F) rl _ (by omega) (by omega) HR.out hrl16 (sl_part (HCE.out _ HA1.out.c.be) hcap hFL hFE hEL HSE.out)).mono ?_
            rintro e V2 ⟨x2, rfl, hs2, hb2⟩
            obtain ⟨ea, ek, rfl⟩ := hs2.form
            rw [blkOf_len] at hs2 ⊢
            go_wp2_with fail
            refine hK.out _ _ ⟨hHeld.1.below hb2, hHeld.2.below hb2⟩ (fun hHeld1 => ?_)
            clear hK K hHeld
            have hHeld := hHeld1
            clear hHeld1
            have HA2 := hide (HA1.out.below hb2)
            have HSF2 := hide hs2
            clear hb2 hs2
            refine wpAnyH_ready (rs := [19, 23]) (by kernel_rfl) (by simp) ?_
            refine AllReadyH.cons (o := _) rfl (fun K hK => ?_) (AllReadyH.cons (o := _) rfl (fun K hK => ?_) AllReadyH.nil)
            · go_simp
              go_at_call 26
              refine (rputA_any _ (nx + (k : Int)) _ (blkOf (sp + (k : Int)) q (b.drop F)) (pS s nx sp b k) _ HA2.out.d HAC.out HSF2.out HBB.out HWT.out).mono ?_
              rintro e V3 ⟨v3, rfl, hd3, hb3⟩
              rw [HPS.out.1] at hd3
              rw [HPS.out.2]
              obtain ⟨c1, o1, q1, c2, o2, q2, rfl⟩ := hd3.form9
              have hrm : (pS s nx sp b (k + 1)).room = s.room := rfl
              rw [hrm] at hd3 ⊢
              clear hrm
              go_wp2_with fail
              refine hK.out _ _ ⟨hHeld.1.below hb3, hHeld.2.below hb3⟩ (fun hHeld1 => ?_)
              clear hK K hHeld
              have hHeld := hHeld1
              clear hHeld1
              refine wpAnyH_take (i := 20) (oi := _) (v := .tuple #[.agg #[.int .i64 s.room, .slice c1 o1 q1, .slice c2 o2 q2], .int .i64 0]) rfl (by kernel_rfl) (by kernel_rfl) (by kernel_rfl) (fun _ _ _ h => h) (Or.inl ⟨by rfl, by intro w hSw; go_simp⟩) hHeld ?_
              change wpAnyH _ _ _ _ _ _ _ (Act.put _ (some 59) _) _
              simp only [Act.put, List.setIfInBounds_toArray, List.set_cons_zero, List.set_cons_succ]
              refine wpAnyH_take (i := 21) (oi := _) (v := .agg #[.int .i64 s.room, .slice c1 o1 q1, .slice c2 o2 q2]) rfl (by kernel_rfl) (by kernel_rfl) (by kernel_rfl) (fun _ _ _ h => h) (Or.inl ⟨by rfl, by intro w hSw; go_simp⟩) hHeld ?_
              change wpAnyH _ _ _ _ _ _ _ (Act.put _ (some 80) _) _
              simp only [Act.put, List.setIfInBounds_toArray, List.set_cons_zero, List.set_cons_succ]
              refine wpAnyH_take (i := 22) (oi := _) (v := .int .i64 0) rfl (by kernel_rfl) (by kernel_rfl) (by kernel_rfl) (fun _ _ _ h => h) (Or.inl ⟨by rfl, by intro w hSw; go_simp⟩) hHeld ?_
              change wpAnyH _ _ _ _ _ _ _ (Act.put _ (some 81) _) _
              simp only [Act.put, List.setIfInBounds_toArray, List.set_cons_zero, List.set_cons_succ]
              refine wpAnyH_ready (rs := [23]) (by kernel_rfl) (by simp) ?_
              refine AllReadyH.cons (o := _) rfl (fun K hK => ?_) AllReadyH.nil
              go_simp
              refine hK.out _ _ ⟨hHeld.1.below (al_d _ _), hHeld.2.below (al_d _ _)⟩ (fun hHeld1 => ?_)
              clear hK K hHeld
              have hHeld := hHeld1
              clear hHeld1
              have hal := al_d V3 (.cells #[.int .i64 0, .slice none 0 0, .slice none 0 0] 37)
              have HC := hide ((HA2.out.c.below hb3).below hal)
              have HO := hide ((HA2.out.o.below hb3).below hal)
              have HG0 := b3_new V3 (.int .i64 0) (.slice none 0 0) (.slice none 0 0) 37
              have HLO := hide HA2.out.lo
              have HLT0 : g8 < V3.heap.size := Nat.lt_of_lt_of_le HA2.out.o.lt hb3.size
              have HDn0 : Dd (V3.alloc (.cells #[.int .i64 0, .slice none 0 0, .slice none 0 0] 37)) (fun k => Pn P w.heap.size (g8 + 1) k ∧ k ≠ V3.heap.size) (.agg #[.int .i64 s.room, .slice c1 o1 q1, .slice c2 o2 q2]) (pS s nx sp b (k + 1)) := (hd3.pnC (Nat.succ_le_of_lt (HA2.out.o.lt))).keep (fun k p hk => ⟨p, by omega⟩) (fun k _ hk => hal.block k hk)
              have HG := hide HG0
              have HLT := hide HLT0
              have HDn := hide HDn0
              clear hal HG0 HLT0 HDn0
              generalize V3.alloc (.cells #[.int .i64 0, .slice none 0 0, .slice none 0 0] 37) = V9 at HC HO HG HDn hHeld ⊢
              generalize V3.heap.size = gB at HG HLT HDn ⊢
              refine wpAnyH_ready (rs := [24]) (by kernel_rfl) (by simp) ?_
              refine AllReadyH.cons (o := _) rfl (fun K hK => ?_) AllReadyH.nil
              have e0 := HG.out.c0
              have e1 := HG.out.c1
              have e2 := HG.out.c2
              have f0 := HG.out.fz 0
              have f1 := HG.out.fz 1
              have f2 := HG.out.fz 2
              go_simp
              clear e0 e1 e2 f0 f1 f2
              refine hK.out _ _ ⟨hHeld.1.keepB (set3_heap (by have h1 := HLT.out; have h2 := HLO.out; omega) _ _ _), hHeld.2.keepB (set3_heap (by have h1 := HLT.out; omega) _ _ _)⟩ (fun hHeld1 => ?_)
              clear hK K hHeld
              have hHeld := hHeld1
              clear hHeld1
              refine wpAnyH_take (i := 25) (oi := _) (v := .int .i64 0) rfl (by kernel_rfl) (by kernel_rfl) (by kernel_rfl) (fun _ _ _ h => h) (Or.inl ⟨by rfl, by intro w hSw; go_simp⟩) hHeld ?_
              change wpAnyH _ _ _ _ _ _ _ (Act.put _ (some 13) _) _
              simp only [Act.put, List.setIfInBounds_toArray, List.set_cons_zero, List.set_cons_succ]
              refine wpAnyH_done (by kernel_rfl) ?_ _
              clear hHeld
              go_wp2_with fail
              go_meet
              exact ⟨gB, c1, c2, o1, q1, o2, q2, rfl, HC.out.keep (fun k hk => set3_heap (by have h1 := HLT.out; have h2 := HLO.out; omega) _ _ _) (set3_below HC.out.be (by have h1 := HLT.out; have h2 := HLO.out; omega) _ _ _) (by simp), HO.out.keepB (set3_heap (by have h1 := HLT.out; omega) _ _ _), HG.out.all _ _ _, HDn.out.keep (fun k p _ => p.1) (fun k p _ => set3_heap p.2 _ _ _), HLT.out⟩
            · go_simp
              refine hK.out _ _ ⟨hHeld.1.below (al_d _ _), hHeld.2.below (al_d _ _)⟩ (fun hHeld1 => ?_)
              clear hK K hHeld
              have hHeld := hHeld1
              clear hHeld1
              have hal := al_d V2 (.cells #[.int .i64 0, .slice none 0 0, .slice none 0 0] 37)
              have HA5 := hide (HA2.out.below hal)
              have HG5 := hide (b3_new V2 (.int .i64 0) (.slice none 0 0) (.slice none 0 0) 37)
              have HLT : Hid (g8 < V2.heap.size) := hide HA2.out.o.lt
              have HLO := hide HA2.out.lo
              have HD5 : Hid (Dd (V2.alloc (.cells #[.int .i64 0, .slice none 0 0, .slice none 0 0] 37)) (fun k => Pn P w.heap.size (g8 + 1) k ∧ k ≠ V2.heap.size) (.agg #[.int .i64 s.room, .slice b1 m1 j1, .slice b2 m2 j2]) (pS s nx sp b k)) := hide (HA2.out.d.keep (fun k p hk => ⟨p, by omega⟩) (fun k _ hk => hal.block k hk))
              have HSF5 := hide (HSF2.out.below hal)
              clear hal
              generalize V2.alloc (.cells #[.int .i64 0, .slice none 0 0, .slice none 0 0] 37) = V5 at HA5 HG5 HD5 HSF5 hHeld ⊢
              generalize V2.heap.size = gB at HG5 HLT HD5 ⊢
              refine wpAnyH_ready (rs := [19]) (by kernel_rfl) (by simp) ?_
              refine AllReadyH.cons (o := _) rfl (fun K hK => ?_) AllReadyH.nil
              go_simp
              go_at_call 26
              refine (rputA_any _ (nx + (k : Int)) _ (blkOf (sp + (k : Int)) q (b.drop F)) (pS s nx sp b k) _ HD5.out HAC.out HSF5.out HBB.out HWT.out).mono ?_
              rintro e V6 ⟨v6, rfl, hd6, hb6⟩
              rw [HPS.out.1] at hd6
              rw [HPS.out.2]
              obtain ⟨c1, o1, q1, c2, o2, q2, rfl⟩ := hd6.form9
              have hrm : (pS s nx sp b (k + 1)).room = s.room := rfl
              rw [hrm] at hd6 ⊢
              clear hrm
              go_wp2_with fail
              refine hK.out _ _ ⟨hHeld.1.below hb6, hHeld.2.below hb6⟩ (fun hHeld1 => ?_)
              clear hK K hHeld
              have hHeld := hHeld1
              clear hHeld1
              refine wpAnyH_take (i := 20) (oi := _) (v := .tuple #[.agg #[.int .i64 s.room, .slice c1 o1 q1, .slice c2 o2 q2], .int .i64 0]) rfl (by kernel_rfl) (by kernel_rfl) (by kernel_rfl) (fun _ _ _ h => h) (Or.inl ⟨by rfl, by intro w hSw; go_simp⟩) hHeld ?_
              change wpAnyH _ _ _ _ _ _ _ (Act.put _ (some 59) _) _
              simp only [Act.put, List.setIfInBounds_toArray, List.set_cons_zero, List.set_cons_succ]
              refine wpAnyH_take (i := 21) (oi := _) (v := .agg #[.int .i64 s.room, .slice c1 o1 q1, .slice c2 o2 q2]) rfl (by kernel_rfl) (by kernel_rfl) (by kernel_rfl) (fun _ _ _ h => h) (Or.inl ⟨by rfl, by intro w hSw; go_simp⟩) hHeld ?_
              change wpAnyH _ _ _ _ _ _ _ (Act.put _ (some 80) _) _
              simp only [Act.put, List.setIfInBounds_toArray, List.set_cons_zero, List.set_cons_succ]
              refine wpAnyH_take (i := 22) (oi := _) (v := .int .i64 0) rfl (by kernel_rfl) (by kernel_rfl) (by kernel_rfl) (fun _ _ _ h => h) (Or.inl ⟨by rfl, by intro w hSw; go_simp⟩) hHeld ?_
              change wpAnyH _ _ _ _ _ _ _ (Act.put _ (some 81) _) _
              simp only [Act.put, List.setIfInBounds_toArray, List.set_cons_zero, List.set_cons_succ]
              have HC := hide (HA5.out.c.below hb6)
              have HO := hide (HA5.out.o.below hb6)
              have HG := hide (HG5.out.below hb6)
              have HDn : Hid (Dd V6 (fun k => Pn P w.heap.size (g8 + 1) k ∧ k ≠ gB) (.agg #[.int .i64 s.room, .slice c1 o1 q1, .slice c2 o2 q2]) (pS s nx sp b (k + 1))) := hide (hd6.keep (fun k p hk => p.elim id (fun e => ⟨.inr (by have h1 := HA5.out.o.lt; omega), by have h1 := HG5.out.lt9; omega⟩)) (fun _ _ _ => rfl))
              refine wpAnyH_ready (rs := [24]) (by kernel_rfl) (by simp) ?_
              refine AllReadyH.cons (o := _) rfl (fun K hK => ?_) AllReadyH.nil
              have e0 := HG.out.c0
              have e1 := HG.out.c1
              have e2 := HG.out.c2
              have f0 := HG.out.fz 0
              have f1 := HG.out.fz 1
              have f2 := HG.out.fz 2
              go_simp
              clear e0 e1 e2 f0 f1 f2
              refine hK.out _ _ ⟨hHeld.1.keepB (set3_heap (by have h1 := HLT.out; have h2 := HLO.out; omega) _ _ _), hHeld.2.keepB (set3_heap (by have h1 := HLT.out; omega) _ _ _)⟩ (fun hHeld1 => ?_)
              clear hK K hHeld
              have hHeld := hHeld1
              clear hHeld1
              refine wpAnyH_take (i := 25) (oi := _) (v := .int .i64 0) rfl (by kernel_rfl) (by kernel_rfl) (by kernel_rfl) (fun _ _ _ h => h) (Or.inl ⟨by rfl, by intro w hSw; go_simp⟩) hHeld ?_
              change wpAnyH _ _ _ _ _ _ _ (Act.put _ (some 13) _) _
              simp only [Act.put, List.setIfInBounds_toArray, List.set_cons_zero, List.set_cons_succ]
              refine wpAnyH_done (by kernel_rfl) ?_ _
              clear hHeld
              go_wp2_with fail
              go_meet
              exact ⟨gB, c1, c2, o1, q1, o2, q2, rfl, HC.out.keep (fun k hk => set3_heap (by have h1 := HLT.out; have h2 := HLO.out; omega) _ _ _) (set3_below HC.out.be (by have h1 := HLT.out; have h2 := HLO.out; omega) _ _ _) (by simp), HO.out.keepB (set3_heap (by have h1 := HLT.out; omega) _ _ _), HG.out.all _ _ _, HDn.out.keep (fun k p _ => p.1) (fun k p _ => set3_heap p.2 _ _ _), HLT.out⟩
          · go_simp
            refine hK.out _ _ ⟨hHeld.1.below (al_d _ _), hHeld.2.below (al_d _ _)⟩ (fun hHeld1 => ?_)
            clear hK K hHeld
            have hHeld := hHeld1
            clear hHeld1
            have hal := al_d V1 (.cells #[.int .i64 0, .slice none 0 0, .slice none 0 0] 37)
            have HA5 := hide (HA1.out.below hal)
            have HG5 := hide (b3_new V1 (.int .i64 0) (.slice none 0 0) (.slice none 0 0) 37)
            have HLT : Hid (g8 < V1.heap.size) := hide HA1.out.o.lt
            have HLO := hide HA1.out.lo
            have HD5 : Hid (Dd (V1.alloc (.cells #[.int .i64 0, .slice none 0 0, .slice none 0 0] 37)) (fun k => Pn P w.heap.size (g8 + 1) k ∧ k ≠ V1.heap.size) (.agg #[.int .i64 s.room, .slice b1 m1 j1, .slice b2 m2 j2]) (pS s nx sp b k)) := hide (HA1.out.d.keep (fun k p hk => ⟨p, by omega⟩) (fun k _ hk => hal.block k hk))
            clear hal
            generalize V1.alloc (.cells #[.int .i64 0, .slice none 0 0, .slice none 0 0] 37) = V5 at HA5 HG5 HD5 hHeld ⊢
            generalize V1.heap.size = gB at HG5 HLT HD5 ⊢
            have HD50 := HD5
            refine wpAnyH_ready (rs := [18]) (by kernel_rfl) (by simp) ?_
            refine AllReadyH.cons (o := _) rfl (fun K hK => ?_) AllReadyH.nil
            go_simp
            go_at_call 43
            refine (fill_rl (sp + (k : Int)) q _ (b.drop F) rl _ (by omega) (by omega) HR.out hrl16 (sl_part (HCE.out _ HA5.out.c.be) hcap hFL hFE hEL HSE.out)).mono ?_
            rintro e V7 ⟨x7, rfl, hs7, hb7⟩
            obtain ⟨ea, ek, rfl⟩ := hs7.form
            rw [blkOf_len] at hs7 ⊢
            go_wp2_with fail
            refine hK.out _ _ ⟨hHeld.1.below hb7, hHeld.2.below hb7⟩ (fun hHeld1 => ?_)
            clear hK K hHeld
            have hHeld := hHeld1
            clear hHeld1
            have HA7 := hide (HA5.out.below hb7)
            have HSF7 := hide hs7
            have HD7 := hide (HD5.out.below hb7)
            have HG7 := hide (HG5.out.below hb7)
            clear hb7 hs7 HA5 HD5 HG5 HD50
            have HA5 := HA7
            have HD5 := HD7
            have HG5 := HG7
            clear HA7 HD7 HG7
            refine wpAnyH_ready (rs := [19]) (by kernel_rfl) (by simp) ?_
            refine AllReadyH.cons (o := _) rfl (fun K hK => ?_) AllReadyH.nil
            go_simp
            go_at_call 26
            refine (rputA_any _ (nx + (k : Int)) _ (blkOf (sp + (k : Int)) q (b.drop F)) (pS s nx sp b k) _ HD5.out HAC.out HSF7.out HBB.out HWT.out).mono ?_
            rintro e V8 ⟨v8, rfl, hd8, hb8⟩
            rw [HPS.out.1] at hd8
            rw [HPS.out.2]
            obtain ⟨c1, o1, q1, c2, o2, q2, rfl⟩ := hd8.form9
            have hrm : (pS s nx sp b (k + 1)).room = s.room := rfl
            rw [hrm] at hd8 ⊢
            clear hrm
            go_wp2_with fail
            refine hK.out _ _ ⟨hHeld.1.below hb8, hHeld.2.below hb8⟩ (fun hHeld1 => ?_)
            clear hK K hHeld
            have hHeld := hHeld1
            clear hHeld1
            refine wpAnyH_take (i := 20) (oi := _) (v := .tuple #[.agg #[.int .i64 s.room, .slice c1 o1 q1, .slice c2 o2 q2], .int .i64 0]) rfl (by kernel_rfl) (by kernel_rfl) (by kernel_rfl) (fun _ _ _ h => h) (Or.inl ⟨by rfl, by intro w hSw; go_simp⟩) hHeld ?_
            change wpAnyH _ _ _ _ _ _ _ (Act.put _ (some 59) _) _
            simp only [Act.put, List.setIfInBounds_toArray, List.set_cons_zero, List.set_cons_succ]
            refine wpAnyH_take (i := 21) (oi := _) (v := .agg #[.int .i64 s.room, .slice c1 o1 q1, .slice c2 o2 q2]) rfl (by kernel_rfl) (by kernel_rfl) (by kernel_rfl) (fun _ _ _ h => h) (Or.inl ⟨by rfl, by intro w hSw; go_simp⟩) hHeld ?_
            change wpAnyH _ _ _ _ _ _ _ (Act.put _ (some 80) _) _
            simp only [Act.put, List.setIfInBounds_toArray, List.set_cons_zero, List.set_cons_succ]
            refine wpAnyH_take (i := 22) (oi := _) (v := .int .i64 0) rfl (by kernel_rfl) (by kernel_rfl) (by kernel_rfl) (fun _ _ _ h => h) (Or.inl ⟨by rfl, by intro w hSw; go_simp⟩) hHeld ?_
            change wpAnyH _ _ _ _ _ _ _ (Act.put _ (some 81) _) _
            simp only [Act.put, List.setIfInBounds_toArray, List.set_cons_zero, List.set_cons_succ]
            have HC := hide (HA5.out.c.below hb8)
            have HO := hide (HA5.out.o.below hb8)
            have HG := hide (HG5.out.below hb8)
            have HDn : Hid (Dd V8 (fun k => Pn P w.heap.size (g8 + 1) k ∧ k ≠ gB) (.agg #[.int .i64 s.room, .slice c1 o1 q1, .slice c2 o2 q2]) (pS s nx sp b (k + 1))) := hide (hd8.keep (fun k p hk => p.elim id (fun e => ⟨.inr (by have h1 := HA5.out.o.lt; omega), by have h1 := HG5.out.lt9; omega⟩)) (fun _ _ _ => rfl))
            refine wpAnyH_ready (rs := [24]) (by kernel_rfl) (by simp) ?_
            refine AllReadyH.cons (o := _) rfl (fun K hK => ?_) AllReadyH.nil
            have e0 := HG.out.c0
            have e1 := HG.out.c1
            have e2 := HG.out.c2
            have f0 := HG.out.fz 0
            have f1 := HG.out.fz 1
            have f2 := HG.out.fz 2
            go_simp
            clear e0 e1 e2 f0 f1 f2
            refine hK.out _ _ ⟨hHeld.1.keepB (set3_heap (by have h1 := HLT.out; have h2 := HLO.out; omega) _ _ _), hHeld.2.keepB (set3_heap (by have h1 := HLT.out; omega) _ _ _)⟩ (fun hHeld1 => ?_)
            clear hK K hHeld
            have hHeld := hHeld1
            clear hHeld1
            refine wpAnyH_take (i := 25) (oi := _) (v := .int .i64 0) rfl (by kernel_rfl) (by kernel_rfl) (by kernel_rfl) (fun _ _ _ h => h) (Or.inl ⟨by rfl, by intro w hSw; go_simp⟩) hHeld ?_
            change wpAnyH _ _ _ _ _ _ _ (Act.put _ (some 13) _) _
            simp only [Act.put, List.setIfInBounds_toArray, List.set_cons_zero, List.set_cons_succ]
            refine wpAnyH_done (by kernel_rfl) ?_ _
            clear hHeld
            go_wp2_with fail
            go_meet
            exact ⟨gB, c1, c2, o1, q1, o2, q2, rfl, HC.out.keep (fun k hk => set3_heap (by have h1 := HLT.out; have h2 := HLO.out; omega) _ _ _) (set3_below HC.out.be (by have h1 := HLT.out; have h2 := HLO.out; omega) _ _ _) (by simp), HO.out.keepB (set3_heap (by have h1 := HLT.out; omega) _ _ _), HG.out.all _ _ _, HDn.out.keep (fun k p _ => p.1) (fun k p _ => set3_heap p.2 _ _ _), HLT.out⟩
        case rest =>
          obtain ⟨gB, c1, c2, o1, q1, o2, q2, rfl, hc, ho, hg, hd, hlt2⟩ := hcut
          have HC := hide hc
          have HO := hide ho
          have HG := hide hg
          have HD5 := hide hd
          have HLT := hide hlt2
          have HLO := hide HAB.out.lo
          clear hc ho hg hd hlt2 HAB
          have hv1 : IntKind.i64.wrap (nx + (k : Int)) = nx + (k : Int) := by rw [IntKind.wrap_i64]; omega
          have hv2 : IntKind.i64.wrap (nx + (k : Int) + 1) = nx + (k : Int) + 1 := by rw [IntKind.wrap_i64]; omega
          have hv3 : IntKind.i64.wrap (sp + (k : Int) + 1) = sp + (k : Int) + 1 := by rw [IntKind.wrap_i64]; omega
          have hv4 : IntKind.i64.wrap ((k : Int) + 1) = (k : Int) + 1 := by rw [IntKind.wrap_i64]; omega
          have x3 := HC.out.x.at (i := 3) (by simp)
          have x4 := HC.out.x.at (i := 4) (by simp)
          simp only [List.getElem_cons_zero, List.getElem_cons_succ] at x3 x4
          have z0 := HO.out.at (i := 0) (by simp)
          have z1 := HO.out.at (i := 1) (by simp)
          have z2 := HO.out.at (i := 2) (by simp)
          have z3 := HO.out.at (i := 3) (by simp)
          have z4 := HO.out.at (i := 4) (by simp)
          have z5 := HO.out.at (i := 5) (by simp)
          simp only [List.getElem_cons_zero, List.getElem_cons_succ] at z0 z1 z2 z3 z4 z5
          have f0 := HO.out.fz 0
          have f1 := HO.out.fz 1
          have f2 := HO.out.fz 2
          have f3 := HO.out.fz 3
          have f4 := HO.out.fz 4
          have f5 := HO.out.fz 5
          have g0 := HG.out.c0
          have g1 := HG.out.c1
          have g2 := HG.out.c2
          have HAN : Hid (Ab w (s6 wc g8 (.int .i64 s.room) (.slice c1 o1 q1) (.slice c2 o2 q2) (.int .i64 base) (.int .i64 (nx + (k : Int) + 1)) (.int .i64 (sp + (k : Int) + 1))) g8 P s (pS s nx sp b (k + 1)) (.slice c1 o1 q1) (.slice c2 o2 q2) [.int .i64 s.room, .slice a1 n1 k1, .slice a2 n2 k2, .int .i64 base, .int .i64 nx, .int .i64 sp] base (nx + ((k + 1 : Nat) : Int)) (sp + ((k + 1 : Nat) : Int))) := hide (by rw [show nx + ((k + 1 : Nat) : Int) = nx + (k : Int) + 1 by omega, show sp + ((k + 1 : Nat) : Int) = sp + (k : Int) + 1 by omega]; exact ⟨HC.out.keep (fun j hj => s6_heap (by have h2 := HLO.out; omega) _ _ _ _ _ _) (s6_below HC.out.be (by have h2 := HLO.out; omega) _ _ _ _ _ _) (by simp [s6]), HO.out.put _ _ _ _ _ _, HD5.out.pnK (fun j hj _ => s6_heap (by have h2 := HLO.out; omega) _ _ _ _ _ _), HLO.out⟩)
          go_wp2_with fail
          exact ⟨⟨k + 1, c1, c2, o1, q1, o2, q2, by omega, by go_num, HAN.out⟩, by simp [iv]; omega⟩
    · obtain rfl : k = n := by omega
      have hnl : ¬ (k : Int) < (k : Int) := by omega
      go_upto_region 16 with fail
      have hdw : Below wr.heap.size wr wr.drew := (Below.refl _ _).drew
      refine wp_region_held_drew (S := fun W => B6 W w.heap.size [.int .i64 s.room, .slice a1 n1 k1, .slice a2 n2 k2, .int .i64 base, .int .i64 nx, .int .i64 sp] ∧ B6 W g8 [.int .i64 s.room, .slice b1 m1 j1, .slice b2 m2 j2, .int .i64 base, .int .i64 (nx + (k : Int)), .int .i64 (sp + (k : Int))]) (by kernel_rfl) ⟨HAB.out.c.x.below hdw, HAB.out.o.below hdw⟩ (fun hHeld => ?_)
      have HA1 := hide (HAB.out.below hdw)
      generalize wr.drew = W3 at HA1 hHeld ⊢
      clear hdw HAB
      have HCB3 := hide HA1.out.c
      refine wpAnyH_take (i := 0) (oi := _) (v := .agg #[.int .i64 s.room, .slice b1 m1 j1, .slice b2 m2 j2, .int .i64 base, .int .i64 (nx + (k : Int)), .int .i64 (sp + (k : Int))]) rfl (by kernel_rfl) (by kernel_rfl) (by kernel_rfl) (fun _ _ _ h => h) (Or.inl ⟨by rfl, by intro w hSw; have h0 := hSw.2.at (i := 0) (by simp); have h1 := hSw.2.at (i := 1) (by simp); have h2 := hSw.2.at (i := 2) (by simp); have h3 := hSw.2.at (i := 3) (by simp); have h4 := hSw.2.at (i := 4) (by simp); have h5 := hSw.2.at (i := 5) (by simp); simp only [List.getElem_cons_zero, List.getElem_cons_succ] at h0 h1 h2 h3 h4 h5; go_simp⟩) hHeld ?_
      change wpAnyH _ _ _ _ _ _ _ (Act.put _ (some 94) _) _
      simp only [Act.put, List.setIfInBounds_toArray, List.set_cons_zero, List.set_cons_succ]
      refine wpAnyH_take (i := 1) (oi := _) (v := .pointer (some ⟨w.heap.size, 4, none⟩)) rfl (by kernel_rfl) (by kernel_rfl) (by kernel_rfl) (fun _ _ _ h => h) (Or.inl ⟨by rfl, by intro w hSw; go_simp⟩) hHeld ?_
      change wpAnyH _ _ _ _ _ _ _ (Act.put _ (some 95) _) _
      simp only [Act.put, List.setIfInBounds_toArray, List.set_cons_zero, List.set_cons_succ]
      refine wpAnyH_take (i := 2) (oi := _) (v := .int .i64 nx) rfl (by kernel_rfl) (by kernel_rfl) (by kernel_rfl) (fun _ _ _ h => h) (Or.inl ⟨by rfl, by intro w hSw; have h4 := hSw.1.at (i := 4) (by simp); simp only [List.getElem_cons_zero, List.getElem_cons_succ] at h4; go_simp⟩) hHeld ?_
      change wpAnyH _ _ _ _ _ _ _ (Act.put _ (some 96) _) _
      simp only [Act.put, List.setIfInBounds_toArray, List.set_cons_zero, List.set_cons_succ]
      refine wpAnyH_ready (rs := [3]) (by kernel_rfl) (by simp) ?_
      refine AllReadyH.cons (o := _) rfl (fun K hK => ?_) AllReadyH.nil
      have z0 := HCB3.out.y.at (i := 0) (by simp)
      have z1 := HCB3.out.y.at (i := 1) (by simp)
      have z2 := HCB3.out.y.at (i := 2) (by simp)
      have z3 := HCB3.out.y.at (i := 3) (by simp)
      have z4 := HCB3.out.y.at (i := 4) (by simp)
      have z5 := HCB3.out.y.at (i := 5) (by simp)
      simp only [List.getElem_cons_zero, List.getElem_cons_succ] at z0 z1 z2 z3 z4 z5
      have f0 := HCB3.out.y.fz 0
      have f1 := HCB3.out.y.fz 1
      have f2 := HCB3.out.y.fz 2
      have f3 := HCB3.out.y.fz 3
      have f4 := HCB3.out.y.fz 4
      have f5 := HCB3.out.y.fz 5
      have HF := hide (HCB3.out.y.all (.int .i64 s.room) (.slice b1 m1 j1) (.slice b2 m2 j2) (.int .i64 base) (.int .i64 (nx + (k : Int))) (.int .i64 (sp + (k : Int))))
      have HK : Hid (∀ j, j ≠ w.heap.size + 1 → (s6 W3 (w.heap.size + 1) (.int .i64 s.room) (.slice b1 m1 j1) (.slice b2 m2 j2) (.int .i64 base) (.int .i64 (nx + (k : Int))) (.int .i64 (sp + (k : Int)))).heap[j]? = W3.heap[j]?) := hide (fun j hj => s6_heap hj _ _ _ _ _ _)
      go_simp
      clear z0 z1 z2 z3 z4 z5 f0 f1 f2 f3 f4 f5
      refine hK.out _ _ ⟨hHeld.1.keepB (HK.out w.heap.size (by omega)), hHeld.2.keepB (HK.out g8 (by have h1 := HA1.out.lo; omega))⟩ (fun hHeld1 => ?_)
      clear hK K hHeld
      have hHeld := hHeld1
      clear hHeld1
      refine wpAnyH_take (i := 4) (oi := _) (v := .int .i64 nx) rfl (by kernel_rfl) (by kernel_rfl) (by kernel_rfl) (fun _ _ _ h => h) (Or.inl ⟨by rfl, by intro w hSw; go_simp⟩) hHeld ?_
      change wpAnyH _ _ _ _ _ _ _ (Act.put _ (some 5) _) _
      simp only [Act.put, List.setIfInBounds_toArray, List.set_cons_zero, List.set_cons_succ]
      refine wpAnyH_take (i := 5) (oi := _) (v := .int .i64 0) rfl (by kernel_rfl) (by kernel_rfl) (by kernel_rfl) (fun _ _ _ h => h) (Or.inl ⟨by rfl, by intro w hSw; go_simp⟩) hHeld ?_
      change wpAnyH _ _ _ _ _ _ _ (Act.put _ (some 6) _) _
      simp only [Act.put, List.setIfInBounds_toArray, List.set_cons_zero, List.set_cons_succ]
      refine wpAnyH_done (by kernel_rfl) ?_ _
      clear hHeld
      go_wp2_with fail
      exact bodyPost_ret (v := .tuple #[.agg #[.int .i64 s.room, .slice b1 m1 j1, .slice b2 m2 j2, .int .i64 base, .int .i64 (nx + (k : Int)), .int .i64 (sp + (k : Int))], .int .i64 nx, .int .i64 0]) (res_ct Tryz.results11 _ _ (w.heap.size + 1) [_, _, _, _, _, _] _ _ _ rfl rfl rfl HF.out Tryz.underlying39 rfl infoHc) rfl ⟨_, rfl, ⟨b1, b2, m1, j1, m2, j2, rfl, (HA1.out.d.pnO (by have h1 := HA1.out.lo; omega) (fun j hj _ => HK.out j (by have h1 := HA1.out.lo; omega)))⟩, s6_below HCB3.out.be (by omega) _ _ _ _ _ _, rfl, rfl, rfl⟩
end Go.Proofs.YtoamghncncalgaaGreatDoor
