/-
  THE TURN THAT IS SYNCED (Slot.synced): of the two blocks as they are firm. Condition: fewer than thirty thousand blocks and writes.
-/
import Derived.Test.YtmgfcgknajehaaaSlC
import Derived.Test.YtmgfcgknajehaaaChH
namespace Go.Proofs.Ytmgfcgknajehaaa
open Go.RowKit

/-- A box of five cells: a slot. -/
structure B5 (W : World) (g : Nat) (x y z t q : Value) : Prop where
  c0 : W.cell? ⟨g, 0, none⟩ = some x
  c1 : W.cell? ⟨g, 1, none⟩ = some y
  c2 : W.cell? ⟨g, 2, none⟩ = some z
  c3 : W.cell? ⟨g, 3, none⟩ = some t
  c4 : W.cell? ⟨g, 4, none⟩ = some q
  fz : ∀ i, W.frozen? ⟨g, i, none⟩ = false
section
variable {W W' : World} {g : Nat} {x y z t q : Value}
theorem B5.lt (h : B5 W g x y z t q) : g < W.heap.size := cell_block h.c0
theorem B5.keepB (h : B5 W g x y z t q) (hk : W'.heap[g]? = W.heap[g]?) : B5 W' g x y z t q :=
  ⟨(World.cell?_of_block hk).trans h.c0, (World.cell?_of_block hk).trans h.c1, (World.cell?_of_block hk).trans h.c2, (World.cell?_of_block hk).trans h.c3, (World.cell?_of_block hk).trans h.c4, fun i => (World.frozen?_of_block (a := ⟨g, i, none⟩) hk).trans (h.fz i)⟩
theorem B5.below (h : B5 W g x y z t q) (hb : Below W.heap.size W W') : B5 W' g x y z t q := h.keepB (hb.block g h.lt)
theorem B5.new (W : World) (x y z t q : Value) (T : TypeId) : B5 (W.alloc (.cells #[x, y, z, t, q] T)) W.heap.size x y z t q :=
  ⟨World.cell?_alloc_at _ _ _ _ rfl, World.cell?_alloc_at _ _ _ _ rfl, World.cell?_alloc_at _ _ _ _ rfl, World.cell?_alloc_at _ _ _ _ rfl, World.cell?_alloc_at _ _ _ _ rfl, fun i => by simp⟩
theorem B5.set4 (h : B5 W g x y z t q) (v : Value) : B5 (W.setCell ⟨g, 4, none⟩ v) g x y z t v :=
  ⟨by rw [World.cell?_setCell_other _ _ _ _ (by simp)]; exact h.c0, by rw [World.cell?_setCell_other _ _ _ _ (by simp)]; exact h.c1, by rw [World.cell?_setCell_other _ _ _ _ (by simp)]; exact h.c2, by rw [World.cell?_setCell_other _ _ _ _ (by simp)]; exact h.c3, World.cell?_setCell_same _ _ _ h.c4, fun i => by simp [h.fz i]⟩
theorem B5.set2 (h : B5 W g x y z t q) (v : Value) : B5 (W.setCell ⟨g, 2, none⟩ v) g x y v t q :=
  ⟨by rw [World.cell?_setCell_other _ _ _ _ (by simp)]; exact h.c0, by rw [World.cell?_setCell_other _ _ _ _ (by simp)]; exact h.c1, World.cell?_setCell_same _ _ _ h.c2, by rw [World.cell?_setCell_other _ _ _ _ (by simp)]; exact h.c3, by rw [World.cell?_setCell_other _ _ _ _ (by simp)]; exact h.c4, fun i => by simp [h.fz i]⟩
theorem B5.set3 (h : B5 W g x y z t q) (v : Value) : B5 (W.setCell ⟨g, 3, none⟩ v) g x y z v q :=
  ⟨by rw [World.cell?_setCell_other _ _ _ _ (by simp)]; exact h.c0, by rw [World.cell?_setCell_other _ _ _ _ (by simp)]; exact h.c1, by rw [World.cell?_setCell_other _ _ _ _ (by simp)]; exact h.c2, World.cell?_setCell_same _ _ _ h.c3, by rw [World.cell?_setCell_other _ _ _ _ (by simp)]; exact h.c4, fun i => by simp [h.fz i]⟩
end
theorem Cw.ba {W W' : World} {B : Nat} {v : Value} {ps : List Ce} {g : Nat} (h : Cw W B v ps) (hb : Ba (fun k => k = g) W W') (hg : g < B) : Cw W' B v ps :=
  ⟨⟨h.own.1, h.own.2.imp id (fun ⟨k, cap, cur, a1, a2, a3, a4⟩ => ⟨k, cap, cur, a1, a2, (hb.block k (Array.getElem?_eq_some_iff.1 a3).1 (by omega)).trans a3, a4⟩)⟩, fun q hq => ⟨(h.mem q hq).1, (h.mem q hq).2.1, (hb.block _ (Array.getElem?_eq_some_iff.1 (h.mem q hq).2.2).1 (by have := (h.mem q hq).1; omega)).trans (h.mem q hq).2.2⟩⟩
theorem look_snoc {p : Int} {b : List Int} {a : Int} : ∀ {l : Cs}, (∀ q ∈ l, q.1 ≠ p) → look (l ++ [(p, b)]) a = if a = p then some b else look l a
  | [], _ => by
    simp only [List.nil_append, look]
    by_cases h : a = p
    · rw [if_pos h, if_pos h.symm]
    · rw [if_neg h, if_neg (fun e => h e.symm)]
  | q :: r, h => by
    have ih := look_snoc (b := b) (a := a) (l := r) (fun x hx => h x (List.mem_cons_of_mem _ hx))
    have hq := h q List.mem_cons_self
    rw [List.cons_append, look, look, ih]
    by_cases h1 : q.1 = a
    · rw [if_pos h1, if_pos h1, if_neg (fun e => hq (h1.trans e))]
    · rw [if_neg h1, if_neg h1]
theorem said_snoc {l : Cs} {k : Nat} (hk : k < l.length) (hl : Asc l) {a : Int} (ha : Num a) : said (vw (l.take (k + 1)) a) = if a = (l[k]).1 then said (l[k]).2 else said (vw (l.take k) a) := by
  have hne : ∀ q ∈ l.take k, q.1 ≠ (l[k]).1 := fun q hq => by
    have h1 := List.pairwise_append.1 (show (l.take k ++ l.drop k).Pairwise _ by rw [List.take_append_drop]; exact hl)
    have h2 := h1.2.2 q hq (l[k]) (by rw [List.drop_eq_getElem_cons hk]; exact List.mem_cons_self)
    omega
  rw [vw_num ha, vw_num ha, List.take_succ_eq_append_getElem hk, show [l[k]] = [((l[k]).1, (l[k]).2)] from rfl, look_snoc hne]
  split <;> rfl
theorem said_nn {b : List Int} (h : Blk b) : 0 ≤ (said b).1 := by
  unfold said
  have := stp_bd (l := b.take 8) (by rw [List.length_take, h.1]; decide) (fun x hx => h.2 x (List.mem_of_mem_take hx))
  split
  · exact this.1
  · exact Int.le_refl _
theorem fldS0 (x : Int) (y : Value) (W : World) : (Instr.field 88 (.agg #[.int .i64 x, y]) 0).run Try.prog W = .ok (.int .i64 x) W := by kernel_rfl
theorem newV_fst (x0 x1 : Sd) (v0 v1 : Value) : (newV x0.1 v0 x1.1 v1).1 = (newest x0 x1).1 := by
  unfold newV newest newO newVE newE
  by_cases h0 : x0.1 % 2 = 0 ∧ 0 ≤ x0.1
  · simp only [if_pos h0]
    split <;> rfl
  · simp only [if_neg h0]
    split <;> rfl
set_option maxRecDepth 100000 in
set_option maxHeartbeats 8000000 in
theorem synced_any {d bS bT : Nat} {u : Value} {s : Dst} (c : Nat) (a : Int) (z t q : Value) (w : World) (hx : B5 w c (.pointer (some ⟨d, 0, none⟩)) (.int .i64 a) z t q) (hq : Dq w d bS bT u s) (hw : s.wt < 30000) (ha : Num a) (ha1 : Num (a + 1)) : Calls Try.prog 47 #[.pointer (some ⟨c, 0, none⟩)] w fun e w' => e = .returned (.int .i64 (slotAt s.cs a).1) ∧ Below w.heap.size w w' := by
  have hal : Below w.heap.size w (w.alloc (.cells #[.int .i64 0, .slice none 0 0, .int .i64 0, .slice none 0 0] 90)) := (Below.refl _ _).alloc (Nat.le_refl _) _
  have HP := hide (b4_new w (.int .i64 0) (.slice none 0 0) (.int .i64 0) (.slice none 0 0) 90)
  have HX := hide (hx.below hal)
  have HQ := hide (hq.below hal)
  have HB := hide hal
  have HOK := hide hq.ok
  have HCX : Hid (c < w.heap.size) := hide hx.lt
  have HGS : Hid (w.heap.size < (w.alloc (.cells #[.int .i64 0, .slice none 0 0, .int .i64 0, .slice none 0 0] 90)).heap.size) := hide (by rw [show (w.alloc (.cells #[.int .i64 0, .slice none 0 0, .int .i64 0, .slice none 0 0] 90)).heap.size = w.heap.size + 1 from Array.size_push _]; omega)
  have HA := hide ha
  have HA1 := hide ha1
  clear hal hx hq ha1
  go_enter Try.func47, Try.ntmps47
  go_upto_region 2 with fail
  generalize (w.alloc (.cells #[.int .i64 0, .slice none 0 0, .int .i64 0, .slice none 0 0] 90)) = W1 at HP HX HQ HB HGS ⊢
  have HGG : Hid (w.heap.size ≤ w.heap.size) := hide (Nat.le_refl _)
  skip
  have x0 := HX.out.c0
  go_wp2_with (first | (go_at_call 56; refine (q_cells _ HQ.out hw).mono ?_; rintro e W2 ⟨v1, ps, rfl, hc1, he1, hb1⟩; obtain ⟨a0, k0, rfl⟩ := cw_form hc1; have HC2 := hide hc1; have HE := hide he1; have HP2 := hide (HP.out.below hb1); have HX2 := hide (HX.out.below hb1); have HB2 := hide (bt HB.out hb1); clear hc1 he1 hb1))
  clear x0 HP HX HQ HB
  have HPL : Hid (ps.length = s.cs.length ∧ ps.length < 30000) := hide (by have h1 := congrArg List.length HE.out; simp only [csOf, List.length_map] at h1; have h2 : s.wt = s.cs.length + s.lo.length := rfl; omega)
  have hpl := HPL.out.2
  go_loopw [13] (fun i W => ∃ (k : Nat) (v0 v1 : Value), k ≤ ps.length ∧ i = .int .i64 k ∧ (∃ p n m, v0 = .slice p n m) ∧ (∃ p n m, v1 = .slice p n m) ∧ B4 W w.heap.size (.int .i64 (said (vw (s.cs.take k) a)).1) v0 (.int .i64 (said (vw (s.cs.take k) (a + 1))).1) v1 ∧ Ba (fun k => k = w.heap.size) W2 W) (fun i _ => ps.length - (iv i).toNat)
  case atStart => exact ⟨0, _, _, Nat.zero_le _, rfl, ⟨_, _, _, rfl⟩, ⟨_, _, _, rfl⟩, by rw [List.take_zero, vw_num HA.out, vw_num HA1.out, show ((look [] a).getD zer) = zer from rfl, show ((look [] (a + 1)).getD zer) = zer from rfl, said_zer]; exact HP2.out, Ba.refl _ _⟩
  case round =>
    obtain ⟨k, v0, v1, hk, rfl, ⟨p0, n0, m0, rfl⟩, ⟨p1, n1, m1, rfl⟩, hp, hba⟩ := hrel
    clear HP2
    have HP := hide hp
    have HBA := hide hba
    have HC := hide (HC2.out.ba hba HGS.out)
    have HX := hide (HX2.out.keepB (hba.block _ HX2.out.lt (by have := HCX.out; omega)))
    have HBL := hide (hba.of_eq HB2.out (Nat.le_refl _) HB2.out.size)
    clear hp hba
    by_cases hlt : k < ps.length
    · have hlc : k < s.cs.length := by have := HPL.out.1; omega
      have HQ : Hid (((ps[k]).1, (ps[k]).2.2) = s.cs[k]) := hide (by have := congrArg (fun l => l[k]?) HE.out; simp only [csOf, List.getElem?_map, List.getElem?_eq_getElem hlt, List.getElem?_eq_getElem hlc, Option.map_some] at this; exact Option.some.inj this)
      have HBK : Hid (Num (s.cs[k]).1 ∧ Blk (s.cs[k]).2) := hide (HOK.out.cb _ (List.getElem_mem hlc))
      have HS0 := hide (said_snoc hlc HOK.out.asc HA.out)
      have HS1 := hide (said_snoc hlc HOK.out.asc HA1.out)
      obtain ⟨cb, rfl, e0, e1⟩ := cw_at HC.out hlt
      have HRW : Hid (Rq wr (ps[k]).2.1 79 (ps[k]).2.2) := hide (HC.out.mem _ (List.getElem_mem hlt)).2.2
      have HRG : Hid (w.heap.size < (ps[k]).2.1) := hide (by have h1 := (HC.out.mem _ (List.getElem_mem hlt)).1; have h2 := HGS.out; omega)
      rw [← HQ.out] at HBK HS0 HS1
      simp only at HBK HS0 HS1
      generalize (ps[k]).1 = qa at e0 HBK HS0 HS1
      generalize (ps[k]).2.1 = qg at e1 HRW HRG
      generalize (ps[k]).2.2 = qb at HBK HS0 HS1 HRW
      generalize said (vw (s.cs.take k) a) = y0 at HS0 HP
      generalize said (vw (s.cs.take k) (a + 1)) = y1 at HS1 HP
      clear HQ
      go_upto_region 5 with fail
      have hal := (Below.refl wr.heap.size wr).alloc (Nat.le_refl _) (.cells #[.int .i64 qa, .slice (some ⟨qg, 0, none⟩) 64 64] 107)
      have HK := hide (B2.new wr (.int .i64 qa) (.slice (some ⟨qg, 0, none⟩) 64 64) 107)
      have HP2 := hide (HP.out.below hal)
      have HX3 := hide (HX.out.below hal)
      have HR3 := hide (HRW.out.below hal)
      have HBA3 := hide (HBA.out.call hal)
      have HBX : Hid (w.heap.size < wr.heap.size) := hide HP.out.lt
      clear hal e0 e1 HRW HP HX HBA HC HBL
      generalize wr.alloc (.cells #[.int .i64 qa, .slice (some ⟨qg, 0, none⟩) 64 64] 107) = W3 at HK HP2 HX3 HR3 HBA3 ⊢
      generalize wr.heap.size = bx at HK HBX ⊢
      have hdw : Below W3.heap.size W3 W3.drew := (Below.refl _ _).drew
      refine wp_region_held_drew (S := fun W => W.cell? ⟨bx, 0, none⟩ = some (.int .i64 qa) ∧ W.cell? ⟨c, 1, none⟩ = some (.int .i64 a)) (by kernel_rfl) ⟨(HK.out.below hdw).c0, (HX3.out.below hdw).c1⟩ (fun hHeld => ?_)
      have HK4 := hide (HK.out.below hdw)
      have HP4 := hide (HP2.out.below hdw)
      have HR4 := hide (HR3.out.below hdw)
      have HBA4 := hide (HBA3.out.call hdw)
      generalize W3.drew = W4 at HK4 HP4 HR4 HBA4 hHeld ⊢
      clear hdw HK HP2 HX3 HR3 HBA3
      obtain ⟨hqa0, hqa1⟩ := HBK.out.1
      obtain ⟨ha0, ha1⟩ := HA.out
      have hwr : IntKind.i64.wrap (qa - a) = qa - a := by rw [IntKind.wrap_i64]; omega
      refine wpAnyH_take (i := 0) (oi := _) (v := .pointer (some ⟨bx, 0, none⟩)) rfl (by kernel_rfl) (by kernel_rfl) (by kernel_rfl) (fun _ _ _ h => h) (Or.inl ⟨by rfl, by intro w hSw; go_simp⟩) hHeld ?_
      change wpAnyH _ _ _ _ _ _ _ (Act.put _ (some 17) _) _
      simp only [Act.put, List.setIfInBounds_toArray, List.set_cons_zero, List.set_cons_succ]
      refine wpAnyH_take (i := 1) (oi := _) (v := .int .i64 qa) rfl (by kernel_rfl) (by kernel_rfl) (by kernel_rfl) (fun _ _ _ h => h) (Or.inl ⟨by rfl, by intro w hSw; have h1 := hSw.1; go_simp⟩) hHeld ?_
      change wpAnyH _ _ _ _ _ _ _ (Act.put _ (some 18) _) _
      simp only [Act.put, List.setIfInBounds_toArray, List.set_cons_zero, List.set_cons_succ]
      refine wpAnyH_take (i := 2) (oi := _) (v := .pointer (some ⟨c, 0, none⟩)) rfl (by kernel_rfl) (by kernel_rfl) (by kernel_rfl) (fun _ _ _ h => h) (Or.inl ⟨by rfl, by intro w hSw; go_simp⟩) hHeld ?_
      change wpAnyH _ _ _ _ _ _ _ (Act.put _ (some 19) _) _
      simp only [Act.put, List.setIfInBounds_toArray, List.set_cons_zero, List.set_cons_succ]
      refine wpAnyH_take (i := 3) (oi := _) (v := .pointer (some ⟨c, 0, none⟩)) rfl (by kernel_rfl) (by kernel_rfl) (by kernel_rfl) (fun _ _ _ h => h) (Or.inl ⟨by rfl, by intro w hSw; go_simp⟩) hHeld ?_
      change wpAnyH _ _ _ _ _ _ _ (Act.put _ (some 20) _) _
      simp only [Act.put, List.setIfInBounds_toArray, List.set_cons_zero, List.set_cons_succ]
      refine wpAnyH_take (i := 4) (oi := _) (v := .pointer (some ⟨c, 1, none⟩)) rfl (by kernel_rfl) (by kernel_rfl) (by kernel_rfl) (fun _ _ _ h => h) (Or.inl ⟨by rfl, by intro w hSw; go_simp⟩) hHeld ?_
      change wpAnyH _ _ _ _ _ _ _ (Act.put _ (some 21) _) _
      simp only [Act.put, List.setIfInBounds_toArray, List.set_cons_zero, List.set_cons_succ]
      refine wpAnyH_take (i := 5) (oi := _) (v := .int .i64 a) rfl (by kernel_rfl) (by kernel_rfl) (by kernel_rfl) (fun _ _ _ h => h) (Or.inl ⟨by rfl, by intro w hSw; have h1 := hSw.2; go_simp⟩) hHeld ?_
      change wpAnyH _ _ _ _ _ _ _ (Act.put _ (some 22) _) _
      simp only [Act.put, List.setIfInBounds_toArray, List.set_cons_zero, List.set_cons_succ]
      refine wpAnyH_take (i := 6) (oi := _) (v := .int .i64 (qa - a)) rfl (by kernel_rfl) (by kernel_rfl) (by kernel_rfl) (fun _ _ _ h => h) (Or.inl ⟨by rfl, by intro w hSw; go_simp⟩) hHeld ?_
      change wpAnyH _ _ _ _ _ _ _ (Act.put _ (some 23) _) _
      simp only [Act.put, List.setIfInBounds_toArray, List.set_cons_zero, List.set_cons_succ]
      refine wpAnyH_take (i := 7) (oi := _) (v := .int .i64 (qa - a)) rfl (by kernel_rfl) (by kernel_rfl) (by kernel_rfl) (fun _ _ _ h => h) (Or.inl ⟨by rfl, by intro w hSw; go_simp⟩) hHeld ?_
      change wpAnyH _ _ _ _ _ _ _ (Act.put _ (some 6) _) _
      simp only [Act.put, List.setIfInBounds_toArray, List.set_cons_zero, List.set_cons_succ]
      refine wpAnyH_done (by kernel_rfl) ?_ _
      clear hHeld hwr
      rcases (show qa < a ∨ (a ≤ qa ∧ a + 1 < qa) ∨ qa = a ∨ qa = a + 1 by omega) with hc | ⟨hc, hc2⟩ | rfl | rfl
      · have h1 : ¬ 0 ≤ qa - a := by omega
        go_wp2_with fail
        exact ⟨⟨k + 1, _, _, by omega, by go_num, ⟨_, _, _, rfl⟩, ⟨_, _, _, rfl⟩, by rw [HS0.out, HS1.out, if_neg (by omega), if_neg (by omega)]; exact HP4.out, HBA4.out⟩, by simp [iv]; omega⟩
      · have h1 : 0 ≤ qa - a := by omega
        have h2 : ¬ qa - a < 2 := by omega
        go_wp2_with fail
        exact ⟨⟨k + 1, _, _, by omega, by go_num, ⟨_, _, _, rfl⟩, ⟨_, _, _, rfl⟩, by rw [HS0.out, HS1.out, if_neg (by omega), if_neg (by omega)]; exact HP4.out, HBA4.out⟩, by simp [iv]; omega⟩
      · have hz : qa - qa = 0 := by omega
        simp only [hz]
        have k1 := HK4.out.c1
        go_upto_region 8 with (first | (go_at_call 45; refine (saidOf_any qg 79 qb _ HBK.out.2 HR4.out).mono ?_; rintro e W5 ⟨v5, rfl, hs5, hb5⟩; obtain ⟨p5, n5, m5, rfl⟩ := hs5.form; have HP5 := hide (HP4.out.below hb5); have HBA5 := hide (HBA4.out.call hb5); have q0 := HP5.out.c0; have q1 := HP5.out.c1; have f0 := HP5.out.fz 0; have f1 := HP5.out.fz 1; clear hs5 hb5 k1))
        go_wp2_with fail
        exact ⟨⟨k + 1, _, _, by omega, by go_num, ⟨_, _, _, rfl⟩, ⟨_, _, _, rfl⟩, by rw [HS0.out, HS1.out, if_pos (by trivial), if_neg (by omega)]; exact (HP5.out.set0 _).set1 _, (HBA5.out.set (fun _ => rfl) _ _).set (fun _ => rfl) _ _⟩, by simp [iv]; omega⟩
      · have hz : a + 1 - a = 1 := by omega
        simp only [hz]
        have k1 := HK4.out.c1
        go_upto_region 8 with (first | (go_at_call 45; refine (saidOf_any qg 79 qb _ HBK.out.2 HR4.out).mono ?_; rintro e W5 ⟨v5, rfl, hs5, hb5⟩; obtain ⟨p5, n5, m5, rfl⟩ := hs5.form; have HP5 := hide (HP4.out.below hb5); have HBA5 := hide (HBA4.out.call hb5); have q2 := HP5.out.c2; have q3 := HP5.out.c3; have f2 := HP5.out.fz 2; have f3 := HP5.out.fz 3; clear hs5 hb5 k1))
        go_wp2_with fail
        exact ⟨⟨k + 1, _, _, by omega, by go_num, ⟨_, _, _, rfl⟩, ⟨_, _, _, rfl⟩, by rw [HS0.out, HS1.out, if_neg (by omega), if_pos (by trivial)]; exact (HP5.out.set2 _).set3 _, (HBA5.out.set (fun _ => rfl) _ _).set (fun _ => rfl) _ _⟩, by simp [iv]; omega⟩
    · obtain rfl : k = ps.length := by omega
      have e : s.cs.take ps.length = s.cs := List.take_of_length_le (by have := HPL.out.1; omega)
      rw [e] at HP
      clear e
      have HN0 := hide (said_nn (vw_blk HOK.out.cb a))
      have HN1 := hide (said_nn (vw_blk HOK.out.cb (a + 1)))
      have HF : Hid ((newV (said (vw s.cs a)).1 (.slice p0 n0 m0) (said (vw s.cs (a + 1))).1 (.slice p1 n1 m1)).1 = (slotAt s.cs a).1) := hide (newV_fst _ _ _ _)
      generalize (said (vw s.cs a)).1 = t0 at HP HN0 HF
      generalize (said (vw s.cs (a + 1))).1 = t1 at HP HN1 HF
      have hfl := fldS0
      have q0 := HP.out.c0
      have q1 := HP.out.c1
      have q2 := HP.out.c2
      have q3 := HP.out.c3
      go_wp2_with (first | (go_at_call 46; refine (newest_any t0 t1 _ _ _ HN0.out HN1.out ⟨_, _, _, rfl⟩ ⟨_, _, _, rfl⟩).mono ?_; rintro e W5 ⟨rfl, hb5⟩; rw [HF.out]; have HB5 := hide (bt HBL.out hb5); clear hb5))
      go_ret
      exact ⟨rfl, HB5.out⟩
end Go.Proofs.Ytmgfcgknajehaaa
