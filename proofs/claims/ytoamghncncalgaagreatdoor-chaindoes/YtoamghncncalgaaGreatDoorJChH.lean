/-
  THE HIGHEST STAMP of all blocks that are synced, from the base on (chain.highest). Condition: fewer than thirty thousand blocks and writes.
-/
import Derived.Test.YtoamghncncalgaaGreatDoorJChU
namespace Go.Proofs.YtoamghncncalgaaGreatDoor
open Go.RowKit

/-- The highest stamp, ahead or behind, of these blocks from base on. -/
def hiS (base : Int) (l : Cs) : Int := l.foldl (fun m p => if base ≤ p.1 then max (max m (stp (p.2.take 8))) (stp (p.2.drop 56)) else m) 0
theorem hi_step (base : Int) (l : Cs) (k : Nat) (h : k < l.length) : hiS base (l.take (k + 1)) = if base ≤ (l[k]).1 then max (max (hiS base (l.take k)) (stp ((l[k]).2.take 8))) (stp ((l[k]).2.drop 56)) else hiS base (l.take k) := by
  unfold hiS
  rw [take_step h, List.foldl_append]
  rfl
theorem stp_bd {l : List Int} (h : l.length = 8) (hb : ∀ x ∈ l, 0 ≤ x ∧ x ≤ 255) : 0 ≤ stp l ∧ stp l ≤ 1152921504606846976 := by
  have := num8_bd 8 l h hb
  unfold stp
  split <;> omega
theorem hiS_bd {base : Int} {l : Cs} (h : ∀ p ∈ l, Blk p.2) : 0 ≤ hiS base l ∧ hiS base l ≤ 1152921504606846976 := by
  unfold hiS
  suffices H : ∀ (l : Cs) (m : Int), (∀ p ∈ l, Blk p.2) → 0 ≤ m ∧ m ≤ 1152921504606846976 → 0 ≤ l.foldl (fun m p => if base ≤ p.1 then max (max m (stp (p.2.take 8))) (stp (p.2.drop 56)) else m) m ∧ l.foldl (fun m p => if base ≤ p.1 then max (max m (stp (p.2.take 8))) (stp (p.2.drop 56)) else m) m ≤ 1152921504606846976 from H l 0 h (by omega)
  intro l
  induction l with
  | nil => intro m _ hm; exact hm
  | cons p r ih =>
    intro m hp hm
    rw [List.foldl_cons]
    refine ih _ (fun q hq => hp q (List.mem_cons_of_mem _ hq)) ?_
    have hb := hp p List.mem_cons_self
    have h1 := stp_bd (l := p.2.take 8) (by rw [List.length_take, hb.1]; decide) (fun x hx => hb.2 x (List.mem_of_mem_take hx))
    have h2 := stp_bd (l := p.2.drop 56) (by rw [List.length_drop, hb.1]) (fun x hx => hb.2 x (List.mem_of_mem_drop hx))
    split <;> omega
theorem run_max3 (ts : Array TypeId) (t : TypeId) (x y z : Int) (W : World) : (Builtin.max_ ts t #[.int .i64 x, .int .i64 y, .int .i64 z]).run Tryz.prog W = .ok (.int .i64 (max (max x y) z)) W := by
  have e1 : (if x < y then y else x) = max x y := by split <;> omega
  have e2 : (if max x y < z then z else max x y) = max (max x y) z := by split <;> omega
  simp [Builtin.max_, Builtin.max2, e1, e2]
theorem yields_max3 {ops : Array Oper} {o : Oper} {a : Act} {S : World → Prop} (hw : Region.wanted o (yielded ops a.tmps) = true) (x y z : Operand) (ho : o.op = .call { callee := .builtin .max, args := #[x, y, z], argTypes := #[3, 3, 3] }) (p q r : Int) (hx : a.eval x = .int .i64 p) (hy : a.eval y = .int .i64 q) (hz : a.eval z = .int .i64 r) : YieldsIf Tryz.prog ops S o (.int .i64 (max (max p q) r)) a :=
  .inl ⟨hw, fun w _ => by
    simp [execOp, ho, resolve, invoke, builtin, hx, hy, hz, run_max3, Result.andThen]⟩
theorem cw_at {W : World} {B : Nat} {a0 : Option Addr} {n k0 : Nat} {ps : List Ce} (h : Cw W B (.slice a0 n k0) ps) {k : Nat} (hk : k < ps.length) : ∃ cb, a0 = some ⟨cb, 0, none⟩ ∧ W.cell? ⟨cb, k * 2, none⟩ = some (.int .i64 ps[k].1) ∧ W.cell? ⟨cb, k * 2 + 1, none⟩ = some (.slice (some ⟨(ps[k]).2.1, 0, none⟩) 64 64) := by
  rcases h.own.2 with ⟨_, h0⟩ | ⟨g, cap, cur, e, a2, a3, a4, a5, a6, a7⟩
  · omega
  · cases e
    have hg : ∀ (qs : List Ce) (i : Nat) (hi : i < qs.length), (ces qs)[i * 2]? = some (.int .i64 (qs[i]).1) ∧ (ces qs)[i * 2 + 1]? = some (.slice (some ⟨(qs[i]).2.1, 0, none⟩) 64 64) := by
      intro qs
      induction qs with
      | nil => intro i hi; simp at hi
      | cons q r ih =>
        intro i hi
        cases i with
        | zero => exact ⟨rfl, rfl⟩
        | succ i =>
          have := ih i (by simpa using hi)
          rw [show (i + 1) * 2 = i * 2 + 2 by omega]
          exact this
    obtain ⟨h1, h2⟩ := hg ps k hk
    have hl : (ces ps).length = ps.length * 2 := by
      have := congrArg List.length a7
      rw [List.length_take] at this
      unfold ces
      clear h1 h2 hg this a7 a6 a5 a4 a3 a2 h hk
      induction ps with
      | nil => rfl
      | cons q r ih => rw [List.flatMap_cons, List.length_append, ih, List.length_cons]; simp only [cec, List.length_cons, List.length_nil]; omega
    refine ⟨g, rfl, ?_, ?_⟩
    · rw [← a7, List.getElem?_take_of_lt (by omega)] at h1
      simp only [World.cell?, a3]
      simpa using h1
    · rw [← a7, List.getElem?_take_of_lt (by omega)] at h2
      simp only [World.cell?, a3]
      simpa using h2
set_option maxRecDepth 100000 in
set_option maxHeartbeats 8000000 in
theorem highest_any {c d bS bT : Nat} {u : Value} {s : Dst} {base nx sp : Int} (w : World) (h : Chn w c d bS bT u s base nx sp) (hw : s.wt < 30000) : Calls Tryz.prog 34 #[.pointer (some ⟨c, 0, none⟩)] w fun e w' => e = .returned (.int .i64 (hiS base s.cs)) ∧ Below w.heap.size w w' := by
  have HH := hide h
  clear h
  have x0 := HH.out.x.c0
  go_enter Tryz.func34, Tryz.ntmps34
  go_wp2_with (first | (go_at_call 57; refine (q_cells _ HH.out.q (by omega)).mono ?_; rintro e W1 ⟨v1, ps, rfl, hc1, he1, hb1⟩; obtain ⟨a0, k0, rfl⟩ := cw_form hc1; have HC1 := hide hc1; have HE1 := hide he1; have HB1 := hide hb1; clear hc1 he1 hb1))
  clear x0
  have HPL : Hid (ps.length = s.cs.length ∧ ps.length < 30000) := hide (by have h1 := congrArg List.length HE1.out; simp only [csOf, List.length_map] at h1; have h2 : s.wt = s.cs.length + s.lo.length := rfl; omega)
  have hpl := HPL.out.2
  go_loopw [3, 12] (fun m i W => ∃ k : Nat, k ≤ ps.length ∧ i = .int .i64 k ∧ m = .int .i64 (hiS base (s.cs.take k)) ∧ Below W1.heap.size W1 W) (fun _ i _ => ps.length - (iv i).toNat)
  case atStart => exact ⟨0, Nat.zero_le _, rfl, rfl, Below.refl _ _⟩
  case round =>
    obtain ⟨k, hk, rfl, rfl, hb⟩ := hrel
    have HB := hide hb
    have HBW := hide (bt HB1.out hb)
    clear hb
    by_cases hlt : k < ps.length
    · have hlc : k < s.cs.length := by have := HPL.out.1; omega
      have HQ : Hid (((ps[k]).1, (ps[k]).2.2) = s.cs[k]) := hide (by have := congrArg (fun l => l[k]?) HE1.out; simp only [csOf, List.getElem?_map, List.getElem?_eq_getElem hlt, List.getElem?_eq_getElem hlc, Option.map_some] at this; exact Option.some.inj this)
      have HBK : Hid (Blk (s.cs[k]).2) := hide (HH.out.q.ok.cb _ (List.getElem_mem hlc)).2
      have HST := hide (hi_step base s.cs k hlc)
      have HMB := hide (hiS_bd (base := base) (l := s.cs.take k) (fun p hp => (HH.out.q.ok.cb p (List.mem_of_mem_take hp)).2))
      obtain ⟨cb, rfl, c0, c1⟩ := cw_at (HC1.out.below HB.out) hlt
      have HRW : Hid (Rq wr (ps[k]).2.1 101 (ps[k]).2.2) := hide ((HC1.out.below HB.out).mem _ (List.getElem_mem hlt)).2.2
      rw [← HQ.out] at HBK HST
      simp only at HBK HST
      generalize (ps[k]).1 = qa at c0 HST
      generalize (ps[k]).2.1 = qg at c1 HRW
      generalize (ps[k]).2.2 = qb at HST HBK HRW
      generalize hiS base (s.cs.take k) = m at HST HMB ⊢
      clear HQ
      go_upto_region 5 with fail
      have hal := (Below.refl wr.heap.size wr).alloc (Nat.le_refl _) (.cells #[.int .i64 qa, .slice (some ⟨qg, 0, none⟩) 64 64] 88)
      have k0 : (wr.alloc (.cells #[.int .i64 qa, .slice (some ⟨qg, 0, none⟩) 64 64] 88)).cell? ⟨wr.heap.size, 0, none⟩ = some (.int .i64 qa) := World.cell?_alloc_at _ _ _ _ rfl
      have k1 : (wr.alloc (.cells #[.int .i64 qa, .slice (some ⟨qg, 0, none⟩) 64 64] 88)).cell? ⟨wr.heap.size, 1, none⟩ = some (.slice (some ⟨qg, 0, none⟩) 64 64) := World.cell?_alloc_at _ _ _ _ rfl
      have HB2 := hide (bt HB.out hal)
      have HR2 := hide (HRW.out.below hal)
      have HX2 := hide ((HH.out.below (bt HBW.out hal)).x)
      clear hal c0 c1 HRW
      generalize wr.alloc (.cells #[.int .i64 qa, .slice (some ⟨qg, 0, none⟩) 64 64] 88) = W2 at k0 k1 HB2 HR2 HX2 ⊢
      generalize wr.heap.size = bx at k0 k1 ⊢
      have HK1 := hide k1
      have x1 := HX2.out.c1
      by_cases hge : base ≤ qa
      · have hdg : decide (base ≤ qa) = true := by simpa using hge
        have HS2 : Hid (hiS base (s.cs.take (k + 1)) = max (max m (stp (qb.take 8))) (stp (qb.drop 56))) := hide (by rw [HST.out, if_pos hge])
        go_wp2_with fail
        go_quiet (fail)
        go_upto_region 6 with fail
        have hdw := below_drewN (Below.refl W2.heap.size W2) nq
        have HK2 : Hid ((W2.drewN nq).cell? ⟨bx, 1, none⟩ = some (.slice (some ⟨qg, 0, none⟩) 64 64)) := hide ((World.cell?_of_block (hdw.block bx (cell_block HK1.out))).trans HK1.out)
        have HB3 := hide (bt HB2.out hdw)
        have HR3 := hide (HR2.out.below hdw)
        clear k0 k1 x1 hdw hdg HB2 HR2 HX2 HK1
        generalize W2.drewN nq = W3 at HK2 HB3 HR3 ⊢
        have hdw : Below W3.heap.size W3 W3.drew := (Below.refl _ _).drew
        refine wp_region_held_drew (S := fun W => W.cell? ⟨bx, 1, none⟩ = some (.slice (some ⟨qg, 0, none⟩) 64 64)) (by kernel_rfl) ((World.cell?_of_block (hdw.block bx (cell_block HK2.out))).trans HK2.out) (fun hHeld => ?_)
        have HB4 := hide (bt HB3.out hdw)
        have HR4 := hide (HR3.out.below hdw)
        generalize W3.drew = W4 at HB4 HR4 hHeld ⊢
        clear hdw HK2 HB3 HR3
        have H6 : Hid (qb.length = 64) := hide HBK.out.1
        have H8 : Hid ((qb.take 8).length = 8 ∧ (qb.drop 56).length = 8) := hide ⟨by rw [List.length_take, H6.out]; decide, by rw [List.length_drop, H6.out]⟩
        have HY : Hid (Byt (qb.take 8) ∧ Byt (qb.drop 56)) := hide ⟨fun x hx => HBK.out.2 x (List.mem_of_mem_take hx), fun x hx => HBK.out.2 x (List.mem_of_mem_drop hx)⟩
        refine wpAnyH_take (i := 0) (oi := _) (v := .int .i64 m) rfl (by kernel_rfl) (by kernel_rfl) (by kernel_rfl) (fun _ _ _ h => h) (Or.inl ⟨by rfl, by intro w hSw; go_simp⟩) hHeld ?_
        change wpAnyH _ _ _ _ _ _ _ (Act.put _ (some 23) _) _
        simp only [Act.put, List.setIfInBounds_toArray, List.set_cons_zero, List.set_cons_succ]
        refine wpAnyH_take (i := 1) (oi := _) (v := .pointer (some ⟨bx, 1, none⟩)) rfl (by kernel_rfl) (by kernel_rfl) (by kernel_rfl) (fun _ _ _ h => h) (Or.inl ⟨by rfl, by intro w hSw; go_simp⟩) hHeld ?_
        change wpAnyH _ _ _ _ _ _ _ (Act.put _ (some 24) _) _
        simp only [Act.put, List.setIfInBounds_toArray, List.set_cons_zero, List.set_cons_succ]
        refine wpAnyH_take (i := 2) (oi := _) (v := .slice (some ⟨qg, 0, none⟩) 64 64) rfl (by kernel_rfl) (by kernel_rfl) (by kernel_rfl) (fun _ _ _ h => h) (Or.inl ⟨by rfl, by intro w hSw; have h1 := hSw; go_simp⟩) hHeld ?_
        change wpAnyH _ _ _ _ _ _ _ (Act.put _ (some 25) _) _
        simp only [Act.put, List.setIfInBounds_toArray, List.set_cons_zero, List.set_cons_succ]
        refine wpAnyH_take (i := 5) (oi := _) (v := .pointer (some ⟨bx, 1, none⟩)) rfl (by kernel_rfl) (by kernel_rfl) (by kernel_rfl) (fun _ _ _ h => h) (Or.inl ⟨by rfl, by intro w hSw; go_simp⟩) hHeld ?_
        change wpAnyH _ _ _ _ _ _ _ (Act.put _ (some 28) _) _
        simp only [Act.put, List.setIfInBounds_toArray, List.set_cons_zero, List.set_cons_succ]
        refine wpAnyH_take (i := 6) (oi := _) (v := .slice (some ⟨qg, 0, none⟩) 64 64) rfl (by kernel_rfl) (by kernel_rfl) (by kernel_rfl) (fun _ _ _ h => h) (Or.inl ⟨by rfl, by intro w hSw; have h1 := hSw; go_simp⟩) hHeld ?_
        change wpAnyH _ _ _ _ _ _ _ (Act.put _ (some 29) _) _
        simp only [Act.put, List.setIfInBounds_toArray, List.set_cons_zero, List.set_cons_succ]
        refine wpAnyH_ready (rs := [3]) (by kernel_rfl) (by simp) ?_
        refine AllReadyH.cons (o := _) rfl (fun K hK => ?_) AllReadyH.nil
        go_simp
        go_at_call 66
        refine (ahead_any _ qb _ (HR4.out.all H6.out.symm) H6.out).mono ?_
        rintro e W5 ⟨rfl, hbq⟩
        go_wp2_with fail
        refine hK.out _ _ ((World.cell?_of_block (hbq.block bx (cell_block hHeld))).trans hHeld) (fun hHeld1 => ?_)
        clear hK K hHeld
        have hHeld := hHeld1
        clear hHeld1
        have HB5 := hide (bt HB4.out hbq)
        have HR5 := hide (HR4.out.below hbq)
        clear hbq HB4 HR4
        refine wpAnyH_ready (rs := [4]) (by kernel_rfl) (by simp) ?_
        refine AllReadyH.cons (o := _) rfl (fun K hK => ?_) AllReadyH.nil
        go_simp
        go_at_call 67
        refine (stamp_any _ _ H8.out.1 HY.out.1).mono ?_
        rintro e W6 ⟨rfl, hbq⟩
        go_wp2_with fail
        refine hK.out _ _ ((World.cell?_of_block (hbq.block bx (cell_block hHeld))).trans hHeld) (fun hHeld1 => ?_)
        clear hK K hHeld
        have hHeld := hHeld1
        clear hHeld1
        have HB6 := hide (bt HB5.out hbq)
        have HR6 := hide (HR5.out.below hbq)
        clear hbq HB5 HR5
        refine wpAnyH_ready (rs := [7]) (by kernel_rfl) (by simp) ?_
        refine AllReadyH.cons (o := _) rfl (fun K hK => ?_) AllReadyH.nil
        go_simp
        go_at_call 68
        refine (behind_any _ qb _ (HR6.out.all H6.out.symm) H6.out).mono ?_
        rintro e W7 ⟨rfl, hbq⟩
        go_wp2_with fail
        refine hK.out _ _ ((World.cell?_of_block (hbq.block bx (cell_block hHeld))).trans hHeld) (fun hHeld1 => ?_)
        clear hK K hHeld
        have hHeld := hHeld1
        clear hHeld1
        have HB7 := hide (bt HB6.out hbq)
        have HR7 := hide (HR6.out.below hbq)
        clear hbq HB6 HR6
        refine wpAnyH_ready (rs := [8]) (by kernel_rfl) (by simp) ?_
        refine AllReadyH.cons (o := _) rfl (fun K hK => ?_) AllReadyH.nil
        go_simp
        go_at_call 67
        refine (stamp_any _ _ H8.out.2 HY.out.2).mono ?_
        rintro e W8 ⟨rfl, hbq⟩
        go_wp2_with fail
        refine hK.out _ _ ((World.cell?_of_block (hbq.block bx (cell_block hHeld))).trans hHeld) (fun hHeld1 => ?_)
        clear hK K hHeld
        have hHeld := hHeld1
        clear hHeld1
        have HB8 := hide (bt HB7.out hbq)
        have HR8 := hide (HR7.out.below hbq)
        clear hbq HB7 HR7
        generalize stp (qb.take 8) = s1 at HS2 ⊢
        generalize stp (qb.drop 56) = s2 at HS2 ⊢
        refine wpAnyH_take (i := 9) (oi := _) (v := .int .i64 (max (max m s1) s2)) rfl (by kernel_rfl) (by kernel_rfl) (by kernel_rfl) (fun _ _ _ h => h) (yields_max3 (by rfl) _ _ _ rfl _ _ _ rfl rfl rfl) hHeld ?_
        change wpAnyH _ _ _ _ _ _ _ (Act.put _ (some 32) _) _
        simp only [Act.put, List.setIfInBounds_toArray, List.set_cons_zero, List.set_cons_succ]
        refine wpAnyH_take (i := 10) (oi := _) (v := .int .i64 (max (max m s1) s2)) rfl (by kernel_rfl) (by kernel_rfl) (by kernel_rfl) (fun _ _ _ h => h) (Or.inl ⟨by rfl, by intro w hSw; go_simp⟩) hHeld ?_
        change wpAnyH _ _ _ _ _ _ _ (Act.put _ (some 3) _) _
        simp only [Act.put, List.setIfInBounds_toArray, List.set_cons_zero, List.set_cons_succ]
        refine wpAnyH_done (by kernel_rfl) ?_ _
        clear hHeld
        go_wp2
        exact ⟨⟨k + 1, by omega, by go_num, by rw [HS2.out], HB8.out⟩, by simp [iv]; omega⟩
      · have hdg : decide (base ≤ qa) = false := by simpa using hge
        have HS2 : Hid (hiS base (s.cs.take (k + 1)) = m) := hide (by rw [HST.out, if_neg hge])
        go_wp2_with fail
        go_quiet (fail)
        go_wp2
        exact ⟨⟨k + 1, by omega, by go_num, by rw [HS2.out], below_drewN HB2.out _⟩, by simp [iv]; omega⟩
    · obtain rfl : k = ps.length := by omega
      have HE : Hid (s.cs.take ps.length = s.cs) := hide (List.take_of_length_le (by have := HPL.out.1; omega))
      go_wp2
      go_ret
      exact ⟨by rw [HE.out]; rfl, HBW.out⟩
end Go.Proofs.YtoamghncncalgaaGreatDoor
