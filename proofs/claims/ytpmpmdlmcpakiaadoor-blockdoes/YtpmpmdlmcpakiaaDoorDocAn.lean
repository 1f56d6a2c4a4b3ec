/-
  A STORE WITH ONE MORE WRITE, AS THE DOCUMENT MAKES IT (castellanref08.and): a new row of writes. Condition: fewer than ninety thousand.
-/
import Derived.Test.YtpmpmdlmcpakiaaDoorDoc0
import Derived.Test.YtpmpmdlmcpakiaaDoorDocPt
namespace Go.Proofs.YtpmpmdlmcpakiaaDoor
open Go.RowKit

theorem dws_app (a b : List Dw) : dws (a ++ b) = dws a ++ dws b := by simp [dws, List.flatMap_append]
theorem dws_one (q : Dw) : dws [q] = dwc q := by simp [dws]
theorem dws_all (ls : List Dw) : ∀ u ∈ dws ls, u.oneCell' = true := fun u hu => by
  obtain ⟨q, _, h⟩ := List.mem_flatMap.1 hu
  exact dwc_one q u h
theorem infoDw : (Tryd.prog.info? 76).map (fun i => (i.zero, i.size, i.bytes)) = some (some (.agg #[.int .i64 0, .bool false, .slice none 0 0]), 3, 40) := by kernel_rfl
theorem run_app_none (w : World) (ty : TypeId) (a : Option Addr) (c : Nat) : (Builtin.append_ #[33, 33] ty #[.slice none 0 0, .slice a 0 c]).run Tryd.prog w = .ok (.slice none 0 0) w := by
  obtain ⟨i0, hi, hz0, hz1, hz2⟩ := info_parts infoDw
  cases a <;> simp [Builtin.append_, run_underlying Tryd.underlying33, sizeOf, typeInfo, hi, Builtin.lenOf, Builtin.firstCells, loadCells, loadCellsFrom]
theorem run_app_n {P : Nat → Prop} (w : World) (ty : TypeId) (B : Nat) (u : Value) (ls : List Dw) (hl : Ll w P u ls) (hB : B ≤ w.heap.size) (hn : ls.length ≤ 100000) :
    ∃ v' w', (Builtin.append_ #[33, 33] ty #[.slice none 0 0, u]).run Tryd.prog w = .ok v' w' ∧ w'.ownsRow B 76 3 v' ls.length (dws ls) ∧ Below w.heap.size w w' := by
  by_cases h0 : ls.length = 0
  · obtain ⟨a, c, rfl⟩ := hl.fm
    have e := List.length_eq_zero_iff.1 h0
    subst e
    exact ⟨_, _, run_app_none w ty a c, World.ownsRow_nil _ _ _ _, Below.refl _ _⟩
  · obtain ⟨b, o, c, rfl, _, r⟩ := hl.rg (by omega)
    obtain ⟨i0, hi, hz0, hz1, hz2⟩ := info_parts infoDw
    obtain ⟨v', w', hrun, ho', hg', _, _⟩ := run_append_own_at (P := Tryd.prog) w B 33 ty 76 i0 (.agg #[.int .i64 0, .bool false, .slice none 0 0]) 3 40 Tryd.underlying33 hi hz0 hz1 hz2 rfl (by decide) (.slice none 0 0) 0 [] (World.ownsRow_nil _ _ _ _) ⟨b, o, none⟩ ls.length c (dws ls) (by rw [dws_len]) (fun j u hu => by rw [Addr.add_lit]; exact r j u hu) (dws_all ls) (by unfold maxLen; omega) (by omega) hB
    refine ⟨v', w', hrun, ?_, (Below.refl _ _).grown hg' (Nat.le_refl _) (fun j e => by cases e)⟩
    rw [Nat.zero_add, List.nil_append] at ho'
    exact ho'
theorem wpList_appN {P : Nat → Prop} {ops : Array Oper} {rest : List Oper} {o : Oper} {a : Act} {Q : Exit → Act → World → Prop} (w : World) (hg : o.guard = none) (y z : Operand) (ho : o.op = .call { callee := .builtin .append, args := #[y, z], argTypes := #[33, 33] }) (hy : a.eval y = .slice none 0 0) (B : Nat) (u : Value) (ls : List Dw) (hz : a.eval z = u) (hl : Ll w P u ls) (hB : B ≤ w.heap.size) (hn : ls.length ≤ 100000)
    (h : ∀ v' w', w'.ownsRow B 76 3 v' ls.length (dws ls) → Below w.heap.size w w' → wpList Tryd.prog ops Q rest (a.put o.dst v') w') : wpList Tryd.prog ops Q (o :: rest) a w := by
  refine wpList_plain hg fun K hK => ?_
  obtain ⟨v', w', hrun, q1, q2⟩ := run_app_n w o.type B u ls hl hB hn
  unfold Oper.wp
  simp [execOp, ho, resolve, invoke, builtin, hy, hz, hrun, Result.andThen]
  exact hK _ _ (h v' w' q1 q2)
theorem wpList_appL {ops : Array Oper} {rest : List Oper} {o : Oper} {a : Act} {Q : Exit → Act → World → Prop} (w : World) (hg : o.guard = none) (y z : Operand) (ho : o.op = .call { callee := .builtin .append, args := #[y, z], argTypes := #[33, 33] }) (B : Nat) (v : Value) (ls : List Dw) (hy : a.eval y = v) (hown : w.ownsRow B 76 3 v ls.length (dws ls)) (hB : B ≤ w.heap.size) (ad : Addr) (c : Nat) (q : Dw) (hz : a.eval z = .slice (some ad) 1 c) (hnews : ∀ j u, (dwc q)[j]? = some u → w.cell? (ad.add j) = some u) (hn : ls.length + 1 ≤ 100000)
    (h : ∀ v' w', w'.ownsRow B 76 3 v' (ls ++ [q]).length (dws (ls ++ [q])) → w.grownBy w' v.ownBlock → wpList Tryd.prog ops Q rest (a.put o.dst v') w') : wpList Tryd.prog ops Q (o :: rest) a w := by
  refine wpList_plain hg fun K hK => ?_
  obtain ⟨i0, hi, hz0, hz1, hz2⟩ := info_parts infoDw
  obtain ⟨v', w', hrun, ho', hg', _, _⟩ := run_append_own_at (P := Tryd.prog) w B 33 o.type 76 i0 (.agg #[.int .i64 0, .bool false, .slice none 0 0]) 3 40 Tryd.underlying33 hi hz0 hz1 hz2 rfl (by decide) v ls.length (dws ls) hown ad 1 c (dwc q) rfl hnews (dwc_one q) (by unfold maxLen; omega) (by omega) hB
  unfold Oper.wp
  simp [execOp, ho, resolve, invoke, builtin, hy, hz, hrun, Result.andThen]
  exact hK _ _ (h v' w' (by rw [dws_app, dws_one, List.length_append]; exact ho') hg')
theorem Ll.of_own {W : World} {P : Nat → Prop} {B : Nat} {v : Value} {ls : List Dw} (h : W.ownsRow B 76 3 v ls.length (dws ls)) (ha : ∀ q ∈ ls, q.1.fr = false → P q.2 ∧ Au W q.2 q.1.by_) : Ll W (fun k => P k ∨ B ≤ k) v ls := by
  refine ⟨row_form h, fun h0 => ?_, fun q hq hf => ⟨.inl (ha q hq hf).1, (ha q hq hf).2⟩⟩
  rcases h.2 with ⟨_, h1⟩ | ⟨g, cap, cur, e, a2, a3, a4, a5, a6, a7⟩
  · omega
  · refine ⟨g, 0, cap, e, .inr a2, fun j u hu => ?_⟩
    have hj : j < (dws ls).length := (List.getElem?_eq_some_iff.1 hu).1
    rw [← a7] at hu
    rw [dws_len] at hj
    rw [List.getElem?_take_of_lt (by omega)] at hu
    simp only [World.cell?, a3, Nat.zero_add]
    simpa using hu
theorem row_keepB {W W' : World} {B n m : Nat} {e : TypeId} {v : Value} {xs : List Value} (h : W.ownsRow B e m v n xs) (hk : ∀ k, v.ownBlock = some k → W'.heap[k]? = W.heap[k]?) : W'.ownsRow B e m v n xs := by
  obtain ⟨h1, h2⟩ := h
  refine ⟨h1, ?_⟩
  rcases h2 with h2 | ⟨g, cap, cur, a1, a2, a3, a4⟩
  · exact .inl h2
  · exact .inr ⟨g, cap, cur, a1, a2, (hk g (by rw [a1]; rfl)).trans a3, a4⟩
theorem B3.keepB {W W' : World} {g : Nat} {x y z : Value} (h : B3 W g x y z) (hk : W'.heap[g]? = W.heap[g]?) : B3 W' g x y z :=
  ⟨(World.cell?_of_block hk).trans h.c0, (World.cell?_of_block hk).trans h.c1, (World.cell?_of_block hk).trans h.c2, fun i => (World.frozen?_of_block (a := ⟨g, i, none⟩) hk).trans (h.fz i)⟩
theorem set3_heap {W : World} {g k : Nat} (h : k ≠ g) (x y z : Value) : (((W.setCell ⟨g, 0, none⟩ x).setCell ⟨g, 1, none⟩ y).setCell ⟨g, 2, none⟩ z).heap[k]? = W.heap[k]? :=
  ((Below.heap_setCell _ _ _ _ h).trans (Below.heap_setCell _ _ _ _ h)).trans (Below.heap_setCell _ _ _ _ h)
/-- Four boxes. -/
theorem and_four (w : World) (n x : Int) (qf : Bool) (vc vl vb : Value) : B3 ((((w.alloc (.cells #[.int .i64 n, vc, vl] 35)).alloc (.cells #[.int .i64 x, .bool qf, vb] 76)).alloc (.cells #[.int .i64 0, .slice none 0 0, .slice none 0 0] 35)).alloc (.cells #[.int .i64 n, vc, .slice none 0 0] 35)) (w.heap.size + 1 + 1 + 1) (.int .i64 n) vc (.slice none 0 0) ∧ B3 ((((w.alloc (.cells #[.int .i64 n, vc, vl] 35)).alloc (.cells #[.int .i64 x, .bool qf, vb] 76)).alloc (.cells #[.int .i64 0, .slice none 0 0, .slice none 0 0] 35)).alloc (.cells #[.int .i64 n, vc, .slice none 0 0] 35)) (w.heap.size + 1 + 1) (.int .i64 0) (.slice none 0 0) (.slice none 0 0) ∧ B3 ((((w.alloc (.cells #[.int .i64 n, vc, vl] 35)).alloc (.cells #[.int .i64 x, .bool qf, vb] 76)).alloc (.cells #[.int .i64 0, .slice none 0 0, .slice none 0 0] 35)).alloc (.cells #[.int .i64 n, vc, .slice none 0 0] 35)) (w.heap.size + 1) (.int .i64 x) (.bool qf) vb ∧ Below w.heap.size w ((((w.alloc (.cells #[.int .i64 n, vc, vl] 35)).alloc (.cells #[.int .i64 x, .bool qf, vb] 76)).alloc (.cells #[.int .i64 0, .slice none 0 0, .slice none 0 0] 35)).alloc (.cells #[.int .i64 n, vc, .slice none 0 0] 35)) ∧ ((((w.alloc (.cells #[.int .i64 n, vc, vl] 35)).alloc (.cells #[.int .i64 x, .bool qf, vb] 76)).alloc (.cells #[.int .i64 0, .slice none 0 0, .slice none 0 0] 35)).alloc (.cells #[.int .i64 n, vc, .slice none 0 0] 35)).heap.size = w.heap.size + 1 + 1 + 1 + 1 := by
  have s1 : (w.alloc (.cells #[.int .i64 n, vc, vl] 35)).heap.size = w.heap.size + 1 := by simp
  have hb1 := al_d w (.cells #[.int .i64 n, vc, vl] 35)
  generalize w.alloc (.cells #[.int .i64 n, vc, vl] 35) = W1 at s1 hb1 ⊢
  have p2 := b3_new W1 (.int .i64 x) (.bool qf) vb 76
  have hb2 := bt hb1 (al_d W1 (.cells #[.int .i64 x, .bool qf, vb] 76))
  have s2 : (W1.alloc (.cells #[.int .i64 x, .bool qf, vb] 76)).heap.size = w.heap.size + 1 + 1 := by simp [s1]
  generalize W1.alloc (.cells #[.int .i64 x, .bool qf, vb] 76) = W2 at p2 hb2 s2 ⊢
  have r3 := b3_new W2 (.int .i64 0) (.slice none 0 0) (.slice none 0 0) 35
  have p3 := p2.below (al_d W2 (.cells #[.int .i64 0, .slice none 0 0, .slice none 0 0] 35))
  have hb3 := bt hb2 (al_d W2 (.cells #[.int .i64 0, .slice none 0 0, .slice none 0 0] 35))
  have s3 : (W2.alloc (.cells #[.int .i64 0, .slice none 0 0, .slice none 0 0] 35)).heap.size = w.heap.size + 1 + 1 + 1 := by simp [s2]
  generalize W2.alloc (.cells #[.int .i64 0, .slice none 0 0, .slice none 0 0] 35) = W3 at r3 p3 hb3 s3 ⊢
  have x4 := b3_new W3 (.int .i64 n) vc (.slice none 0 0) 35
  have p4 := p3.below (al_d W3 (.cells #[.int .i64 n, vc, .slice none 0 0] 35))
  have r4 := r3.below (al_d W3 (.cells #[.int .i64 n, vc, .slice none 0 0] 35))
  have hb4 := bt hb3 (al_d W3 (.cells #[.int .i64 n, vc, .slice none 0 0] 35))
  rw [s3] at x4
  rw [s2] at r4
  rw [s1] at p4
  exact ⟨x4, r4, p4, hb4, by simp [s3]⟩
set_option maxRecDepth 100000 in
set_option maxHeartbeats 4000000 in
theorem and_any {P : Nat → Prop} (n : Int) (vc vl : Value) (ls : List Dw) (q : Dw) (w : World) (hc : ∃ a n c, vc = .slice a n c) (hl : Ll w P vl ls) (hq : q.1.fr = false → P q.2 ∧ Au w q.2 q.1.by_) (hn : ls.length < 90000) : Calls Tryd.prog 43 #[.agg #[.int .i64 n, vc, vl], .agg (dwc q).toArray] w fun e w' => ∃ v, e = .returned (.agg #[.int .i64 n, vc, v]) ∧ Ll w' (fun k => P k ∨ w.heap.size ≤ k) v (ls ++ [q]) ∧ Below w.heap.size w w' := by
  obtain ⟨ca, cn, cc, rfl⟩ := hc
  obtain ⟨la, lc, rfl⟩ := hl.fm
  obtain ⟨ab, nb, cb, hv⟩ := dwv_form q
  have HDW : Hid (dwc q = [.int .i64 q.1.at_, .bool q.1.fr, .slice ab nb cb]) := hide (by unfold dwc; rw [hv])
  rw [HDW.out]
  have HL := hide hl
  have HQ := hide hq
  generalize q.1.at_ = x at HDW ⊢
  generalize q.1.fr = qf at HDW ⊢
  clear hl hq hv
  go_enter Tryd.func43, Tryd.ntmps43
  have HF4 := hide (and_four w n x qf (.slice ca cn cc) (.slice la ls.length lc) (.slice ab nb cb))
  go_upto_region 3 with (first | (at_builtin; refine wpList_appN _ rfl _ _ rfl rfl (w.heap.size + 1 + 1 + 1 + 1) _ ls rfl (HL.out.below HF4.out.2.2.2.1) (Nat.le_of_eq HF4.out.2.2.2.2.symm) (by omega) ?_; intro v5 W5 ho5 hb5; obtain ⟨a5, c5, rfl⟩ := row_form ho5; have HO5 := hide ho5; have HX5 := hide (HF4.out.1.below hb5); have HR5 := hide (HF4.out.2.1.below hb5); have HP5 := hide (HF4.out.2.2.1.below hb5); have HB5 := hide (bt HF4.out.2.2.2.1 hb5); have y2 := HX5.out.c2; have yf := HX5.out.fz 2; clear ho5 hb5))
  have hnX : ∀ k, (Value.slice a5 ls.length c5).ownBlock = some k → w.heap.size + 1 + 1 + 1 + 1 ≤ k := fun k e => (HO5.out.lt k e).1
  have HOV := hide (row_keepB HO5.out (W' := W5.setCell ⟨w.heap.size + 1 + 1 + 1, 2, none⟩ (.slice a5 ls.length c5)) (fun k e => Below.heap_setCell _ _ _ _ (by have := hnX k e; simp; omega)))
  have HXV := hide (HX5.out.set2 (.slice a5 ls.length c5))
  have HRV := hide (HR5.out.setO (k := w.heap.size + 1 + 1 + 1) (i := 2) (by omega) (.slice a5 ls.length c5))
  have HPV := hide (HP5.out.setO (k := w.heap.size + 1 + 1 + 1) (i := 2) (by omega) (.slice a5 ls.length c5))
  have HBV := hide (HB5.out.setCell (p := ⟨w.heap.size + 1 + 1 + 1, 2, none⟩) (by simp; omega) (.slice a5 ls.length c5))
  have HNX := hide hnX
  generalize W5.setCell ⟨w.heap.size + 1 + 1 + 1, 2, none⟩ (.slice a5 ls.length c5) = V at HOV HXV HRV HPV HBV ⊢
  have HSV : Hid (w.heap.size + 1 + 1 + 1 + 1 ≤ V.heap.size) := hide (by have := cell_block HXV.out.c0; simp only at this; omega)
  have HNW : Hid (∀ j u, (dwc q)[j]? = some u → (V.alloc (.cells #[.int .i64 x, .bool qf, .slice ab nb cb] 76)).cell? ((⟨V.heap.size, 0, none⟩ : Addr).add j) = some u) := hide (by rw [HDW.out]; exact range_newsN V _ _)
  clear hnX y2 yf HX5 HR5 HP5 HB5 HO5 HF4
  have x2 := HXV.out.c2
  obtain ⟨q0, q1, q2, _⟩ := HPV.out
  go_upto_region 4 with (first | (at_builtin; refine wpList_appL _ rfl _ _ rfl (w.heap.size + 1 + 1 + 1 + 1) _ ls rfl (owns_below HOV.out (al_d V _)) (Nat.le_trans HSV.out (al_d V _).size) ⟨V.heap.size, 0, none⟩ 1 q rfl HNW.out (by omega) ?_; intro v7 W7 ho7 hg7; obtain ⟨a7, c7, rfl⟩ := row_form ho7; have HO7 := hide ho7; have HX7 := hide ((HXV.out.below (al_d V _)).keepB (hg7.block _ (cell_block (HXV.out.below (al_d V _)).c0) (fun e => by have := HNX.out _ e.symm; omega))); have HR7 := hide ((HRV.out.below (al_d V _)).keepB (hg7.block _ (cell_block (HRV.out.below (al_d V _)).c0) (fun e => by have := HNX.out _ e.symm; omega))); have HB7 := hide ((bt HBV.out (al_d V _)).grown hg7 (bt HBV.out (al_d V _)).size (fun j e => by have := HNX.out _ e; omega)); have y2 := HX7.out.c2; have yf := HX7.out.fz 2; clear ho7 hg7))
  have ho7 := HO7.out
  rw [show (ls ++ [q]).length = ls.length + 1 by simp] at ho7
  have hn7 : ∀ k, (Value.slice a7 (ls.length + 1) c7).ownBlock = some k → w.heap.size + 1 + 1 + 1 + 1 ≤ k := fun k e => (ho7.lt k e).1
  have HO8 := hide (row_keepB ho7 (W' := W7.setCell ⟨w.heap.size + 1 + 1 + 1, 2, none⟩ (.slice a7 (ls.length + 1) c7)) (fun k e => Below.heap_setCell _ _ _ _ (by have := hn7 k e; simp; omega)))
  have HN7 := hide hn7
  have HX8 := hide (HX7.out.set2 (.slice a7 (ls.length + 1) c7))
  have HR8 := hide (HR7.out.setO (k := w.heap.size + 1 + 1 + 1) (i := 2) (by omega) (.slice a7 (ls.length + 1) c7))
  have HB8 := hide (HB7.out.setCell (p := ⟨w.heap.size + 1 + 1 + 1, 2, none⟩) (by simp; omega) (.slice a7 (ls.length + 1) c7))
  generalize W7.setCell ⟨w.heap.size + 1 + 1 + 1, 2, none⟩ (.slice a7 (ls.length + 1) c7) = Y at HO8 HX8 HR8 HB8 ⊢
  clear ho7 hn7 HO7 HX7 HR7 HB7 y2 yf x2 q0 q1 q2 HXV HRV HPV HBV HOV HNX HSV HNW
  have hrl : w.heap.size ≤ w.heap.size + 1 + 1 := by omega
  have HAU : Hid (∀ W, Below w.heap.size w W → ∀ p ∈ ls ++ [q], p.1.fr = false → P p.2 ∧ Au W p.2 p.1.by_) := hide (fun W hW p hp hf => by
    rcases List.mem_append.1 hp with e | e
    · obtain ⟨h1, h2⟩ := HL.out.au p e hf
      exact ⟨h1, h2.keep (hW.block _ h2.lt)⟩
    · simp at e; subst e
      obtain ⟨h1, h2⟩ := HQ.out hf
      exact ⟨h1, h2.keep (hW.block _ h2.lt)⟩)
  have HFI : Hid (∀ W, Below w.heap.size w W → W.ownsRow (w.heap.size + 1 + 1 + 1 + 1) 76 3 (.slice a7 (ls.length + 1) c7) (ls.length + 1) (dws (ls ++ [q])) → Ll W (fun k => P k ∨ w.heap.size ≤ k) (.slice a7 (ls.length + 1) c7) (ls ++ [q])) := hide (fun W hW ho => by
    rw [show ls.length + 1 = (ls ++ [q]).length by simp] at ho ⊢
    exact (Ll.of_own ho (HAU.out W hW)).keep (fun k h _ => h.imp id (fun h => by omega)) (fun _ _ _ => rfl))
  obtain ⟨x0, x1, x2, _⟩ := HX8.out
  obtain ⟨r0, r1, r2, rf⟩ := HR8.out
  have f0 := rf 0
  have f1 := rf 1
  have f2 := rf 2
  clear rf
  have HNR : Hid (∀ k, (Value.slice a7 (ls.length + 1) c7).ownBlock = some k → k ≠ w.heap.size + 1 + 1) := hide (fun k e => by have := HN7.out k e; omega)
  generalize w.heap.size + 1 + 1 + 1 = X at x0 x1 x2 ⊢
  generalize w.heap.size + 1 + 1 = R at r0 r1 r2 f0 f1 f2 hrl HR8 HNR ⊢
  go_wp2
  have HB9 := set3_below HB8.out hrl (.int .i64 n) (.slice ca cn cc) (.slice a7 (ls.length + 1) c7)
  exact bodyPost_ret (v := .agg #[_, _, _]) (res_one Tryd.results43 _ _ R [_, _, _] _ rfl (HR8.out.all (.int .i64 n) (.slice ca cn cc) (.slice a7 (ls.length + 1) c7)).rg Tryd.underlying35 rfl infoDd) rfl ⟨_, rfl, HFI.out _ HB9 (row_keepB HO8.out (fun k e => set3_heap (HNR.out k e) _ _ _)), HB9⟩
end Go.Proofs.YtpmpmdlmcpakiaaDoor
