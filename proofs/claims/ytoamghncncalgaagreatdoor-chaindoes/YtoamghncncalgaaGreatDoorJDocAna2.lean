/-
  A STORE WITH ONE MORE WRITE, AS THE DOCUMENT MAKES IT (castellanref08.and): a new row of writes. Condition: fewer than ninety thousand.
  A BLOCK IS FREED, A STORE IS WIPED (block.Free, Wipe): what the mathematics says. Condition: fewer than thirty thousand blocks and writes.
-/
import Derived.Test.YtoamghncncalgaaGreatDoorJDocPada2
import Derived.Test.YtoamghncncalgaaGreatDoorJDocVa2
import Derived.Test.YtoamghncncalgaaGreatDoorJBlkQa2
namespace Go.Proofs.YtoamghncncalgaaGreatDoor
open Go.RowKit

theorem dws_app (a b : List Dw) : dws (a ++ b) = dws a ++ dws b := by simp [dws, List.flatMap_append]
theorem dws_one (q : Dw) : dws [q] = dwc q := by simp [dws]
theorem dws_all (ls : List Dw) : ∀ u ∈ dws ls, u.oneCell' = true := fun u hu => by
  obtain ⟨q, _, h⟩ := List.mem_flatMap.1 hu
  exact dwc_one q u h
theorem infoDw : (Tryz.prog.info? 107).map (fun i => (i.zero, i.size, i.bytes)) = some (some (.agg #[.int .i64 0, .bool false, .slice none 0 0]), 3, 40) := by kernel_rfl
theorem run_app_none (w : World) (ty : TypeId) (a : Option Addr) (c : Nat) : (Builtin.append_ #[35, 35] ty #[.slice none 0 0, .slice a 0 c]).run Tryz.prog w = .ok (.slice none 0 0) w := by
  obtain ⟨i0, hi, hz0, hz1, hz2⟩ := info_parts infoDw
  cases a <;> simp [Builtin.append_, run_underlying Tryz.underlying35, sizeOf, typeInfo, hi, Builtin.lenOf, Builtin.firstCells, loadCells, loadCellsFrom]
theorem run_app_n {P : Nat → Prop} (w : World) (ty : TypeId) (B : Nat) (u : Value) (ls : List Dw) (hl : Ll w P u ls) (hB : B ≤ w.heap.size) (hn : ls.length ≤ 100000) :
    ∃ v' w', (Builtin.append_ #[35, 35] ty #[.slice none 0 0, u]).run Tryz.prog w = .ok v' w' ∧ w'.ownsRow B 107 3 v' ls.length (dws ls) ∧ Below w.heap.size w w' := by
  by_cases h0 : ls.length = 0
  · obtain ⟨a, c, rfl⟩ := hl.fm
    have e := List.length_eq_zero_iff.1 h0
    subst e
    exact ⟨_, _, run_app_none w ty a c, World.ownsRow_nil _ _ _ _, Below.refl _ _⟩
  · obtain ⟨b, o, c, rfl, _, r⟩ := hl.rg (by omega)
    obtain ⟨i0, hi, hz0, hz1, hz2⟩ := info_parts infoDw
    obtain ⟨v', w', hrun, ho', hg', _, _⟩ := run_append_own_at (P := Tryz.prog) w B 35 ty 107 i0 (.agg #[.int .i64 0, .bool false, .slice none 0 0]) 3 40 Tryz.underlying35 hi hz0 hz1 hz2 rfl (by decide) (.slice none 0 0) 0 [] (World.ownsRow_nil _ _ _ _) ⟨b, o, none⟩ ls.length c (dws ls) (by rw [dws_len]) (fun j u hu => by rw [Addr.add_lit]; exact r j u hu) (dws_all ls) (by unfold maxLen; omega) (by omega) hB
    refine ⟨v', w', hrun, ?_, (Below.refl _ _).grown hg' (Nat.le_refl _) (fun j e => by cases e)⟩
    rw [Nat.zero_add, List.nil_append] at ho'
    exact ho'
theorem wpList_appN {P : Nat → Prop} {ops : Array Oper} {rest : List Oper} {o : Oper} {a : Act} {Q : Exit → Act → World → Prop} (w : World) (hg : o.guard = none) (y z : Operand) (ho : o.op = .call { callee := .builtin .append, args := #[y, z], argTypes := #[35, 35] }) (hy : a.eval y = .slice none 0 0) (B : Nat) (u : Value) (ls : List Dw) (hz : a.eval z = u) (hl : Ll w P u ls) (hB : B ≤ w.heap.size) (hn : ls.length ≤ 100000)
    (h : ∀ v' w', w'.ownsRow B 107 3 v' ls.length (dws ls) → Below w.heap.size w w' → wpList Tryz.prog ops Q rest (a.put o.dst v') w') : wpList Tryz.prog ops Q (o :: rest) a w := by
  refine wpList_plain hg fun K hK => ?_
  obtain ⟨v', w', hrun, q1, q2⟩ := run_app_n w o.type B u ls hl hB hn
  unfold Oper.wp
  simp [execOp, ho, resolve, invoke, builtin, hy, hz, hrun, Result.andThen]
  exact hK _ _ (h v' w' q1 q2)
theorem wpList_appL {ops : Array Oper} {rest : List Oper} {o : Oper} {a : Act} {Q : Exit → Act → World → Prop} (w : World) (hg : o.guard = none) (y z : Operand) (ho : o.op = .call { callee := .builtin .append, args := #[y, z], argTypes := #[35, 35] }) (B : Nat) (v : Value) (ls : List Dw) (hy : a.eval y = v) (hown : w.ownsRow B 107 3 v ls.length (dws ls)) (hB : B ≤ w.heap.size) (ad : Addr) (c : Nat) (q : Dw) (hz : a.eval z = .slice (some ad) 1 c) (hnews : ∀ j u, (dwc q)[j]? = some u → w.cell? (ad.add j) = some u) (hn : ls.length + 1 ≤ 100000)
    (h : ∀ v' w', w'.ownsRow B 107 3 v' (ls ++ [q]).length (dws (ls ++ [q])) → w.grownBy w' v.ownBlock → wpList Tryz.prog ops Q rest (a.put o.dst v') w') : wpList Tryz.prog ops Q (o :: rest) a w := by
  refine wpList_plain hg fun K hK => ?_
  obtain ⟨i0, hi, hz0, hz1, hz2⟩ := info_parts infoDw
  obtain ⟨v', w', hrun, ho', hg', _, _⟩ := run_append_own_at (P := Tryz.prog) w B 35 o.type 107 i0 (.agg #[.int .i64 0, .bool false, .slice none 0 0]) 3 40 Tryz.underlying35 hi hz0 hz1 hz2 rfl (by decide) v ls.length (dws ls) hown ad 1 c (dwc q) rfl hnews (dwc_one q) (by unfold maxLen; omega) (by omega) hB
  unfold Oper.wp
  simp [execOp, ho, resolve, invoke, builtin, hy, hz, hrun, Result.andThen]
  exact hK _ _ (h v' w' (by rw [dws_app, dws_one, List.length_append]; exact ho') hg')
theorem Ll.of_own {W : World} {P : Nat → Prop} {B : Nat} {v : Value} {ls : List Dw} (h : W.ownsRow B 107 3 v ls.length (dws ls)) (ha : ∀ q ∈ ls, q.1.fr = false → P q.2 ∧ Au W q.2 q.1.by_) : Ll W (fun k => P k ∨ B ≤ k) v ls := by
  refine ⟨row_form h, fun h0 => ?_, fun q hq hf => ⟨.inl (ha q hq hf).1, (ha q hq hf).2⟩⟩
  rcases h.2 with ⟨_, h1⟩ | ⟨g, cap, cur, e, a2, a3, a4, a5, a6, a7⟩
  · omega
  · refine ⟨g, 0, cap, e, .inr a2, fun j u hu => ?_⟩
    have hj : j < (dws ls).length := (List.getElem?_eq_some_iff.1 hu).1
    rw [← a7] at hu
    rw [dws_len] at hj
    rw [List.getElem?_take_of_lt (by omega)] at hu
    simp only [World.cell?, a3, Nat.zero_add]
    simpa using hu
theorem row_keepB {W W' : World} {B n m : Nat} {e : TypeId} {v : Value} {xs : List Value} (h : W.ownsRow B e m v n xs) (hk : ∀ k, v.ownBlock = some k → W'.heap[k]? = W.heap[k]?) : W'.ownsRow B e m v n xs := by
  obtain ⟨h1, h2⟩ := h
  refine ⟨h1, ?_⟩
  rcases h2 with h2 | ⟨g, cap, cur, a1, a2, a3, a4⟩
  · exact .inl h2
  · exact .inr ⟨g, cap, cur, a1, a2, (hk g (by rw [a1]; rfl)).trans a3, a4⟩
theorem B3.keepB {W W' : World} {g : Nat} {x y z : Value} (h : B3 W g x y z) (hk : W'.heap[g]? = W.heap[g]?) : B3 W' g x y z :=
  ⟨(World.cell?_of_block hk).trans h.c0, (World.cell?_of_block hk).trans h.c1, (World.cell?_of_block hk).trans h.c2, fun i => (World.frozen?_of_block (a := ⟨g, i, none⟩) hk).trans (h.fz i)⟩
theorem set3_heap {W : World} {g k : Nat} (h : k ≠ g) (x y z : Value) : (((W.setCell ⟨g, 0, none⟩ x).setCell ⟨g, 1, none⟩ y).setCell ⟨g, 2, none⟩ z).heap[k]? = W.heap[k]? :=
  ((Below.heap_setCell _ _ _ _ h).trans (Below.heap_setCell _ _ _ _ h)).trans (Below.heap_setCell _ _ _ _ h)
/-- Four boxes. -/
theorem and_four (w : World) (n x : Int) (qf : Bool) (vc vl vb : Value) : B3 ((((w.alloc (.cells #[.int .i64 n, vc, vl] 37)).alloc (.cells #[.int .i64 x, .bool qf, vb] 107)).alloc (.cells #[.int .i64 0, .slice none 0 0, .slice none 0 0] 37)).alloc (.cells #[.int .i64 n, vc, .slice none 0 0] 37)) (w.heap.size + 1 + 1 + 1) (.int .i64 n) vc (.slice none 0 0) ∧ B3 ((((w.alloc (.cells #[.int .i64 n, vc, vl] 37)).alloc (.cells #[.int .i64 x, .bool qf, vb] 107)).alloc (.cells #[.int .i64 0, .slice none 0 0, .slice none 0 0] 37)).alloc (.cells #[.int .i64 n, vc, .slice none 0 0] 37)) (w.heap.size + 1 + 1) (.int .i64 0) (.slice none 0 0) (.slice none 0 0) ∧ B3 ((((w.alloc (.cells #[.int .i64 n, vc, vl] 37)).alloc (.cells #[.int .i64 x, .bool qf, vb] 107)).alloc (.cells #[.int .i64 0, .slice none 0 0, .slice none 0 0] 37)).alloc (.cells #[.int .i64 n, vc, .slice none 0 0] 37)) (w.heap.size + 1) (.int .i64 x) (.bool qf) vb ∧ Below w.heap.size w ((((w.alloc (.cells #[.int .i64 n, vc, vl] 37)).alloc (.cells #[.int .i64 x, .bool qf, vb] 107)).alloc (.cells #[.int .i64 0, .slice none 0 0, .slice none 0 0] 37)).alloc (.cells #[.int .i64 n, vc, .slice none 0 0] 37)) ∧ ((((w.alloc (.cells #[.int .i64 n, vc, vl] 37)).alloc (.cells #[.int .i64 x, .bool qf, vb] 107)).alloc (.cells #[.int .i64 0, .slice none 0 0, .slice none 0 0] 37)).alloc (.cells #[.int .i64 n, vc, .slice none 0 0] 37)).heap.size = w.heap.size + 1 + 1 + 1 + 1 := by
  have s1 : (w.alloc (.cells #[.int .i64 n, vc, vl] 37)).heap.size = w.heap.size + 1 := by simp
  have hb1 := al_d w (.cells #[.int .i64 n, vc, vl] 37)
  generalize w.alloc (.cells #[.int .i64 n, vc, vl] 37) = W1 at s1 hb1 ⊢
  have p2 := b3_new W1 (.int .i64 x) (.bool qf) vb 107
  have hb2 := bt hb1 (al_d W1 (.cells #[.int .i64 x, .bool qf, vb] 107))
  have s2 : (W1.alloc (.cells #[.int .i64 x, .bool qf, vb] 107)).heap.size = w.heap.size + 1 + 1 := by simp [s1]
  generalize W1.alloc (.cells #[.int .i64 x, .bool qf, vb] 107) = W2 at p2 hb2 s2 ⊢
  have r3 := b3_new W2 (.int .i64 0) (.slice none 0 0) (.slice none 0 0) 37
  have p3 := p2.below (al_d W2 (.cells #[.int .i64 0, .slice none 0 0, .slice none 0 0] 37))
  have hb3 := bt hb2 (al_d W2 (.cells #[.int .i64 0, .slice none 0 0, .slice none 0 0] 37))
  have s3 : (W2.alloc (.cells #[.int .i64 0, .slice none 0 0, .slice none 0 0] 37)).heap.size = w.heap.size + 1 + 1 + 1 := by simp [s2]
  generalize W2.alloc (.cells #[.int .i64 0, .slice none 0 0, .slice none 0 0] 37) = W3 at r3 p3 hb3 s3 ⊢
  have x4 := b3_new W3 (.int .i64 n) vc (.slice none 0 0) 37
  have p4 := p3.below (al_d W3 (.cells #[.int .i64 n, vc, .slice none 0 0] 37))
  have r4 := r3.below (al_d W3 (.cells #[.int .i64 n, vc, .slice none 0 0] 37))
  have hb4 := bt hb3 (al_d W3 (.cells #[.int .i64 n, vc, .slice none 0 0] 37))
  rw [s3] at x4
  rw [s2] at r4
  rw [s1] at p4
  exact ⟨x4, r4, p4, hb4, by simp [s3]⟩
set_option maxRecDepth 100000 in
set_option maxHeartbeats 4000000 in
theorem and_any {P : Nat → Prop} (n : Int) (vc vl : Value) (ls : List Dw) (q : Dw) (w : World) (hc : ∃ a n c, vc = .slice a n c) (hl : Ll w P vl ls) (hq : q.1.fr = false → P q.2 ∧ Au w q.2 q.1.by_) (hn : ls.length < 90000) : Calls Tryz.prog 62 #[.agg #[.int .i64 n, vc, vl], .agg (dwc q).toArray] w fun e w' => ∃ v, e = .returned (.agg #[.int .i64 n, vc, v]) ∧ Ll w' (fun k => P k ∨ w.heap.size ≤ k) v (ls ++ [q]) ∧ Below w.heap.size w w' := by
  obtain ⟨ca, cn, cc, rfl⟩ := hc
  obtain ⟨la, lc, rfl⟩ := hl.fm
  obtain ⟨ab, nb, cb, hv⟩ := dwv_form q
  have HDW : Hid (dwc q = [.int .i64 q.1.at_, .bool q.1.fr, .slice ab nb cb]) := hide (by unfold dwc; rw [hv])
  rw [HDW.out]
  have HL := hide hl
  have HQ := hide hq
  generalize q.1.at_ = x at HDW ⊢
  generalize q.1.fr = qf at HDW ⊢
  clear hl hq hv
  go_enter Tryz.func62, Tryz.ntmps62
  have HF4 := hide (and_four w n x qf (.slice ca cn cc) (.slice la ls.length lc) (.slice ab nb cb))
  go_upto_region 3 with (first | (at_builtin; refine wpList_appN _ rfl _ _ rfl rfl (w.heap.size + 1 + 1 + 1 + 1) _ ls rfl (HL.out.below HF4.out.2.2.2.1) (Nat.le_of_eq HF4.out.2.2.2.2.symm) (by omega) ?_; intro v5 W5 ho5 hb5; obtain ⟨a5, c5, rfl⟩ := row_form ho5; have HO5 := hide ho5; have HX5 := hide (HF4.out.1.below hb5); have HR5 := hide (HF4.out.2.1.below hb5); have HP5 := hide (HF4.out.2.2.1.below hb5); have HB5 := hide (bt HF4.out.2.2.2.1 hb5); have y2 := HX5.out.c2; have yf := HX5.out.fz 2; clear ho5 hb5))
  have hnX : ∀ k, (Value.slice a5 ls.length c5).ownBlock = some k → w.heap.size + 1 + 1 + 1 + 1 ≤ k := fun k e => (HO5.out.lt k e).1
  have HOV := hide (row_keepB HO5.out (W' := W5.setCell ⟨w.heap.size + 1 + 1 + 1, 2, none⟩ (.slice a5 ls.length c5)) (fun k e => Below.heap_setCell _ _ _ _ (by have := hnX k e; simp; omega)))
  have HXV := hide (HX5.out.set2 (.slice a5 ls.length c5))
  have HRV := hide (HR5.out.setO (k := w.heap.size + 1 + 1 + 1) (i := 2) (by omega) (.slice a5 ls.length c5))
  have HPV := hide (HP5.out.setO (k := w.heap.size + 1 + 1 + 1) (i := 2) (by omega) (.slice a5 ls.length c5))
  have HBV := hide (HB5.out.setCell (p := ⟨w.heap.size + 1 + 1 + 1, 2, none⟩) (by simp; omega) (.slice a5 ls.length c5))
  have HNX := hide hnX
  generalize W5.setCell ⟨w.heap.size + 1 + 1 + 1, 2, none⟩ (.slice a5 ls.length c5) = V at HOV HXV HRV HPV HBV ⊢
  have HSV : Hid (w.heap.size + 1 + 1 + 1 + 1 ≤ V.heap.size) := hide (by have := cell_block HXV.out.c0; simp only at this; omega)
  have HNW : Hid (∀ j u, (dwc q)[j]? = some u → (V.alloc (.cells #[.int .i64 x, .bool qf, .slice ab nb cb] 107)).cell? ((⟨V.heap.size, 0, none⟩ : Addr).add j) = some u) := hide (by rw [HDW.out]; exact range_newsN V _ _)
  clear hnX y2 yf HX5 HR5 HP5 HB5 HO5 HF4
  have x2 := HXV.out.c2
  obtain ⟨q0, q1, q2, _⟩ := HPV.out
  go_upto_region 4 with (first | (at_builtin; refine wpList_appL _ rfl _ _ rfl (w.heap.size + 1 + 1 + 1 + 1) _ ls rfl (owns_below HOV.out (al_d V _)) (Nat.le_trans HSV.out (al_d V _).size) ⟨V.heap.size, 0, none⟩ 1 q rfl HNW.out (by omega) ?_; intro v7 W7 ho7 hg7; obtain ⟨a7, c7, rfl⟩ := row_form ho7; have HO7 := hide ho7; have HX7 := hide ((HXV.out.below (al_d V _)).keepB (hg7.block _ (cell_block (HXV.out.below (al_d V _)).c0) (fun e => by have := HNX.out _ e.symm; omega))); have HR7 := hide ((HRV.out.below (al_d V _)).keepB (hg7.block _ (cell_block (HRV.out.below (al_d V _)).c0) (fun e => by have := HNX.out _ e.symm; omega))); have HB7 := hide ((bt HBV.out (al_d V _)).grown hg7 (bt HBV.out (al_d V _)).size (fun j e => by have := HNX.out _ e; omega)); have y2 := HX7.out.c2; have yf := HX7.out.fz 2; clear ho7 hg7))
  have ho7 := HO7.out
  rw [show (ls ++ [q]).length = ls.length + 1 by simp] at ho7
  have hn7 : ∀ k, (Value.slice a7 (ls.length + 1) c7).ownBlock = some k → w.heap.size + 1 + 1 + 1 + 1 ≤ k := fun k e => (ho7.lt k e).1
  have HO8 := hide (row_keepB ho7 (W' := W7.setCell ⟨w.heap.size + 1 + 1 + 1, 2, none⟩ (.slice a7 (ls.length + 1) c7)) (fun k e => Below.heap_setCell _ _ _ _ (by have := hn7 k e; simp; omega)))
  have HN7 := hide hn7
  have HX8 := hide (HX7.out.set2 (.slice a7 (ls.length + 1) c7))
  have HR8 := hide (HR7.out.setO (k := w.heap.size + 1 + 1 + 1) (i := 2) (by omega) (.slice a7 (ls.length + 1) c7))
  have HB8 := hide (HB7.out.setCell (p := ⟨w.heap.size + 1 + 1 + 1, 2, none⟩) (by simp; omega) (.slice a7 (ls.length + 1) c7))
  generalize W7.setCell ⟨w.heap.size + 1 + 1 + 1, 2, none⟩ (.slice a7 (ls.length + 1) c7) = Y at HO8 HX8 HR8 HB8 ⊢
  clear ho7 hn7 HO7 HX7 HR7 HB7 y2 yf x2 q0 q1 q2 HXV HRV HPV HBV HOV HNX HSV HNW
  have hrl : w.heap.size ≤ w.heap.size + 1 + 1 := by omega
  have HAU : Hid (∀ W, Below w.heap.size w W → ∀ p ∈ ls ++ [q], p.1.fr = false → P p.2 ∧ Au W p.2 p.1.by_) := hide (fun W hW p hp hf => by
    rcases List.mem_append.1 hp with e | e
    · obtain ⟨h1, h2⟩ := HL.out.au p e hf
      exact ⟨h1, h2.keep (hW.block _ h2.lt)⟩
    · simp at e; subst e
      obtain ⟨h1, h2⟩ := HQ.out hf
      exact ⟨h1, h2.keep (hW.block _ h2.lt)⟩)
  have HFI : Hid (∀ W, Below w.heap.size w W → W.ownsRow (w.heap.size + 1 + 1 + 1 + 1) 107 3 (.slice a7 (ls.length + 1) c7) (ls.length + 1) (dws (ls ++ [q])) → Ll W (fun k => P k ∨ w.heap.size ≤ k) (.slice a7 (ls.length + 1) c7) (ls ++ [q])) := hide (fun W hW ho => by
    rw [show ls.length + 1 = (ls ++ [q]).length by simp] at ho ⊢
    exact (Ll.of_own ho (HAU.out W hW)).keep (fun k h _ => h.imp id (fun h => by omega)) (fun _ _ _ => rfl))
  obtain ⟨x0, x1, x2, _⟩ := HX8.out
  obtain ⟨r0, r1, r2, rf⟩ := HR8.out
  have f0 := rf 0
  have f1 := rf 1
  have f2 := rf 2
  clear rf
  have HNR : Hid (∀ k, (Value.slice a7 (ls.length + 1) c7).ownBlock = some k → k ≠ w.heap.size + 1 + 1) := hide (fun k e => by have := HN7.out k e; omega)
  generalize w.heap.size + 1 + 1 + 1 = X at x0 x1 x2 ⊢
  generalize w.heap.size + 1 + 1 = R at r0 r1 r2 f0 f1 f2 hrl HR8 HNR ⊢
  go_wp2
  have HB9 := set3_below HB8.out hrl (.int .i64 n) (.slice ca cn cc) (.slice a7 (ls.length + 1) c7)
  exact bodyPost_ret (v := .agg #[_, _, _]) (res_one Tryz.results62 _ _ R [_, _, _] _ rfl (HR8.out.all (.int .i64 n) (.slice ca cn cc) (.slice a7 (ls.length + 1) c7)).rg Tryz.underlying37 rfl infoDd) rfl ⟨_, rfl, HFI.out _ HB9 (row_keepB HO8.out (fun k e => set3_heap (HNR.out k e) _ _ _)), HB9⟩
end Go.Proofs.YtoamghncncalgaaGreatDoor
namespace Go.Proofs.YtoamghncncalgaaGreatDoor
open Go.RowKit

theorem al_b0 (W : World) (o : Obj) : Below W.heap.size W (W.alloc o) := (Below.refl _ _).alloc (Nat.le_refl _) o
def wfr (a : Int) : Wr := ⟨a, true, zer⟩
theorem run_buildF (a : Int) (w : World) : (Instr.build 103 #[(0, .int .i64 a), (1, .bool true)]).run Tryz.prog w = .ok (.agg (wcl (wfr a)).toArray) w := by kernel_rfl
theorem run_buildZ (w : World) : (Instr.build 101 #[]).run Tryz.prog w = .ok (.agg (bv zer).toArray) w := by kernel_rfl
section
variable {ops : Array Oper} {rest : List Oper} {o : Oper} {a : Act} {Q : Exit → Act → World → Prop}
theorem wpList_buildF (w : World) (hg : o.guard = none) (x : Operand) (ho : o.op = .build 103 #[(0, x), (1, .const (.bool true))]) (n : Int) (hx : a.eval x = .int .i64 n) (h : wpList Tryz.prog ops Q rest (a.put o.dst (.agg (wcl (wfr n)).toArray)) w) : wpList Tryz.prog ops Q (o :: rest) a w := by
  refine wpList_plain hg fun K hK => ?_
  have hc : a.eval (.const (.bool true)) = .bool true := rfl
  unfold Oper.wp
  simp only [execOp, ho, List.map_toArray, List.map_cons, List.map_nil, hx, hc]
  simp [run_buildF, Result.andThen]
  exact hK _ _ h
theorem wpList_buildZ (w : World) (hg : o.guard = none) (ho : o.op = .build 101 #[]) (h : wpList Tryz.prog ops Q rest (a.put o.dst (.agg (bv zer).toArray)) w) : wpList Tryz.prog ops Q (o :: rest) a w := by
  refine wpList_plain hg fun K hK => ?_
  unfold Oper.wp
  simp only [execOp, ho, List.map_toArray, List.map_nil]
  simp [run_buildZ, Result.andThen]
  exact hK _ _ h
theorem wpList_putM (w : World) (hg : o.guard = none) (x y z : Operand) (ho : o.op = .mapUpdate 78 x y z) (b : Nat) (n : Int) (c : List Int) (l : Cs) (hx : a.eval x = .map (some b)) (hy : a.eval y = .int .i64 n) (hz : a.eval z = .agg (bv c).toArray) (hm : Mp w b l) (hl : Asc l) (hn : l.length < 100000) (ha : Num n)
    (h : ∀ w', Mp w' b (insM n c l) → w.grownBy w' (some b) → wpList Tryz.prog ops Q rest (a.put o.dst undef) w') : wpList Tryz.prog ops Q (o :: rest) a w := by
  refine wpList_plain hg fun K hK => ?_
  obtain ⟨w', hrun, q1, q2, _⟩ := hm.put hl hn ha c
  unfold Oper.wp
  simp only [execOp, ho, hx, hy, hz]
  simp [hrun, Result.andThen]
  exact hK _ _ (h w' q1 q2)
end
theorem run_clearM {W : World} {b : Nat} {l : Cs} (h : Mp W b l) (ty : TypeId) : ∃ W', (Builtin.clear_ #[78] ty #[.map (some b)]).run Tryz.prog W = .ok (.tuple #[]) W' ∧ Mp W' b [] ∧ W.grownBy W' (some b) := by
  obtain ⟨es, clock, hb, F, hs, hD⟩ := h
  refine ⟨ChangeMaps.setBlock W b (.map #[] clock), ?_, ⟨#[], clock, ChangeMaps.heap_setBlock_same hb _, ⟨by simp, MapKept.stamped_empty clock, by simp⟩, Nat.le_refl _, rfl⟩, ⟨rfl, rfl, rfl, by simp [ChangeMaps.setBlock], fun i _ hi => ChangeMaps.heap_setBlock_other hb _ (fun e => hi (by rw [e]))⟩⟩
  simp [Builtin.clear_, run_underlying Tryz.underlying78, MapKept.run_getObj_map hb, MapKept.run_setObj_map _ hb, ChangeMaps.setBlock, Result.andThen]
section
variable {d bS bT : Nat} {u : Value} {s : Dst}
def frE (a : Int) : Option (List (ByteArray × Int) × Int) := if 0 ≤ a ∧ a ≤ 1073741824 then none else some ([(opBlock, a)], 2)
def frS (s : Dst) (a : Int) : Dst := if 0 ≤ a ∧ a ≤ 1073741824 then ⟨s.room, s.cs, s.lo ++ [wfr a]⟩ else s
theorem frS_ok {s : Dst} (h : s.Ok) (a : Int) : (frS s a).Ok := by
  unfold frS
  split
  · rename_i ha
    refine ⟨h.asc, h.cb, fun w hw => ?_⟩
    rcases List.mem_append.1 hw with e | e
    · exact h.lb w e
    · simp at e
      rw [e]
      exact ⟨ha, blk_zer, fun _ => rfl⟩
  · exact h
theorem frS_wt (s : Dst) (a : Int) : (frS s a).wt ≤ s.wt + 1 := by
  unfold frS
  split
  · simp [Dst.wt]; omega
  · omega
set_option maxRecDepth 100000 in
theorem bfree_bad (a : Int) (w : World) (ha : ¬ Num a) : Calls Tryz.prog 47 #[.pointer (some ⟨d, 0, none⟩), .int .i64 a] w fun e w' => e = .returned (bft opBlock a 2) ∧ w' = w := by
  have HA := hide ha
  clear ha
  go_enter Tryz.func47, Tryz.ntmps47
  go_wp2_with (first | (go_at_call 59; refine (check_bad _ _ HA.out).mono ?_; rintro e w9 ⟨rfl, hw9⟩; rw [hw9]; clear hw9 w9))
  go_ret
  exact ⟨rfl, rfl⟩
set_option maxRecDepth 100000 in
set_option maxHeartbeats 4000000 in
theorem bfree_ok (a : Int) (w : World) (h : Dk w d bS bT u s s.tk s.lo) (hO : s.Ok) (ha : Num a) (hn : s.wt < 30000) : Calls Tryz.prog 47 #[.pointer (some ⟨d, 0, none⟩), .int .i64 a] w fun e w' => ∃ u', e = .returned .nilIface ∧ Dk w' d bS bT u' s (stT s.tk (wfr a)) (s.lo ++ [wfr a]) ∧ Dx d bS bT u w w' u' := by
  obtain ⟨al, cl, rfl⟩ := h.ro.form
  have HH := hide h
  have HA := hide ha
  have HTA := hide hO.ta
  have HTN : Hid (s.tk.length < 100000) := hide (by have := hO.tl; omega)
  have HLN : Hid (s.lo.length + 1 ≤ 100000) := hide (by have : s.lo.length ≤ s.wt := Nat.le_add_left _ _; omega)
  obtain ⟨c, HC⟩ : ∃ c, Hid ((look s.tk a).getD zer = c) := ⟨_, rfl⟩
  obtain ⟨q, HQ⟩ : ∃ q, Hid ((look s.tk a).isSome = q) := ⟨_, rfl⟩
  have HCL : Hid (c.length = 64) := hide (by rw [← HC.out]; exact at_len hO.tb a)
  have j2 := h.c2
  clear h ha hO
  go_enter Tryz.func47, Tryz.ntmps47
  go_upto_region 5 with (first | (go_at_call 59; refine (check_ok _ _ HA.out).mono ?_; rintro e w9 ⟨rfl, hw9⟩; rw [hw9]; clear hw9 w9) | (refine wpList_lookOk2 _ rfl _ _ rfl _ _ _ rfl rfl HH.out.mt HA.out c q HC.out HQ.out ?_) | (refine wpList_allocB _ rfl rfl ?_) | (refine wpList_storeB _ rfl _ _ rfl zer _ zer_len HCL.out rfl rfl ?_))
  have hbl := al_b0 w (.cells (bv c).toArray 101)
  have HD1 := hide (HH.out.below hbl)
  have HX1 : Hid (Dx d bS bT (.slice al s.lo.length cl) w (w.alloc (.cells (bv c).toArray 101)) (.slice al s.lo.length cl)) := hide (Dx.of hbl)
  generalize w.alloc (.cells (bv c).toArray 101) = V at HD1 HX1 ⊢
  clear hbl HH j2
  have i2 := HD1.out.c2
  have i3 := HD1.out.c3
  cases q
  · have HT : Hid (stT s.tk (wfr a) = s.tk) := hide (by simp only [stT, wfr, HQ.out]; rfl)
    have f3 := HD1.out.fz 3
    go_wp2_with (first | (refine wpList_buildF _ rfl _ rfl _ rfl ?_) | (refine wpList_bldW _ rfl _ rfl (wfr a) zer_len rfl ?_) | (at_builtin; refine wpList_appW _ rfl _ _ rfl _ _ rfl (HD1.out.ro.alloc _) ⟨_, 0, none⟩ 1 (wfr a) rfl zer_len (range_newsW (range_newW V _ _)) HLN.out ?_; intro v' W7 hlo hgr hub; have HF := hide ((HD1.out.below (al_b0 V _)).putL hgr hlo hub); have HXF := hide ((HX1.out.call (al_b0 V _)).turnL hgr hub); have c7 : W7.cell? ⟨d, 3, none⟩ = some _ := (World.cell?_of_block (hgr.block d (HD1.out.below (al_b0 V _)).dl (fun e => HD1.out.du e.symm))).trans (HD1.out.below (al_b0 V _)).c3; have f7 : W7.frozen? ⟨d, 3, none⟩ = false := (World.frozen?_of_block (hgr.block d (HD1.out.below (al_b0 V _)).dl (fun e => HD1.out.du e.symm))).trans ((HD1.out.below (al_b0 V _)).fz 3); obtain ⟨a6, c6, hu6⟩ := hlo.form; simp only [List.length_append, List.length_cons, List.length_nil, Nat.zero_add] at hu6; subst hu6; clear hlo hgr hub))
    go_ret
    exact ⟨_, rfl, by rw [HT.out]; exact HF.out, HXF.out⟩
  · have HT : Hid (stT s.tk (wfr a) = insM a zer s.tk) := hide (by simp only [stT, wfr, HQ.out]; rfl)
    go_upto_region 7 with (first | (refine wpList_buildZ _ rfl rfl ?_) | (refine wpList_putM _ rfl _ _ _ rfl _ _ zer _ rfl rfl rfl HD1.out.mt HTA.out HTN.out HA.out ?_; intro W5 hm5 hg5; have HD5 := hide (HD1.out.putT hg5 hm5); have HX5 := hide (HX1.out.turnT hg5); clear hm5 hg5))
    clear i2 i3 HD1 HX1
    have i3 := HD5.out.c3
    have f3 := HD5.out.fz 3
    go_wp2_with (first | (refine wpList_buildF _ rfl _ rfl _ rfl ?_) | (refine wpList_bldW _ rfl _ rfl (wfr a) zer_len rfl ?_) | (at_builtin; refine wpList_appW _ rfl _ _ rfl _ _ rfl (HD5.out.ro.alloc _) ⟨_, 0, none⟩ 1 (wfr a) rfl zer_len (range_newsW (range_newW W5 _ _)) HLN.out ?_; intro v' W7 hlo hgr hub; have HF := hide ((HD5.out.below (al_b0 W5 _)).putL hgr hlo hub); have HXF := hide ((HX5.out.call (al_b0 W5 _)).turnL hgr hub); have c7 : W7.cell? ⟨d, 3, none⟩ = some _ := (World.cell?_of_block (hgr.block d (HD5.out.below (al_b0 W5 _)).dl (fun e => HD5.out.du e.symm))).trans (HD5.out.below (al_b0 W5 _)).c3; have f7 : W7.frozen? ⟨d, 3, none⟩ = false := (World.frozen?_of_block (hgr.block d (HD5.out.below (al_b0 W5 _)).dl (fun e => HD5.out.du e.symm))).trans ((HD5.out.below (al_b0 W5 _)).fz 3); obtain ⟨a6, c6, hu6⟩ := hlo.form; simp only [List.length_append, List.length_cons, List.length_nil, Nat.zero_add] at hu6; subst hu6; clear hlo hgr hub))
    go_ret
    exact ⟨_, rfl, by rw [HT.out]; exact HF.out, HXF.out⟩
theorem q_free (a : Int) (w : World) (h : Dq w d bS bT u s) (hn : s.wt < 30000) :
    Calls Tryz.prog 47 #[.pointer (some ⟨d, 0, none⟩), .int .i64 a] w fun e w' => ∃ u', e = .returned (ev (frE a)) ∧ Dq w' d bS bT u' (frS s a) ∧ Dx d bS bT u w w' u' := by
  have hok := frS_ok h.ok a
  by_cases h1 : 0 ≤ a ∧ a ≤ 1073741824
  · have e1 : frE a = none := by unfold frE; rw [if_pos h1]
    have e2 : frS s a = ⟨s.room, s.cs, s.lo ++ [wfr a]⟩ := by unfold frS; rw [if_pos h1]
    refine (bfree_ok a w h.dk h.ok h1 hn).mono ?_
    rintro e w' ⟨u', rfl, hd, hx⟩
    rw [e1]
    rw [e2] at hok ⊢
    refine ⟨u', rfl, ⟨?_, hok⟩, hx⟩
    have et : (Dst.tk ⟨s.room, s.cs, s.lo ++ [wfr a]⟩) = stT s.tk (wfr a) := tkO_snoc _ _ _
    rw [et]
    exact ⟨hd.c0, hd.c1, hd.c2, hd.c3, hd.fz, hd.ms, hd.mt, hd.ro, hd.ne, hd.du⟩
  · have e1 : frE a = some ([(opBlock, a)], 2) := by unfold frE; rw [if_neg h1]
    have e2 : frS s a = s := by unfold frS; rw [if_neg h1]
    refine (bfree_bad a w h1).mono ?_
    rintro e w' ⟨rfl, rfl⟩
    rw [e1, e2]
    exact ⟨u, rfl, h, Dx.refl⟩
end
end Go.Proofs.YtoamghncncalgaaGreatDoor
