/-
  THE DOCUMENT's SMALL STEPS (castellanref08.right, pad): whether there may be such a block; a block with noughts behind. Condition: not more than a hundred thousand bytes.
  THE DOCUMENT's ANSWERS OVER A STORE THAT HAS NOTHING (castellanref08): each call comes to its end, and turns nothing old. Condition: not more than a hundred thousand bytes.
-/
import Derived.Test.YtoamghncncalgaaGreatDoorJBlkWa2
namespace Go.Proofs.YtoamghncncalgaaGreatDoor
open Go.RowKit

def iw : Value → Int
  | .int _ q => q
  | _ => 0
set_option maxRecDepth 100000 in
theorem right_ok (a : Int) (w : World) (h : Num a) : Calls Tryz.prog 60 #[.int .i64 a] w fun e w' => e = .returned (.bool true) ∧ w' = w := by
  obtain ⟨h1, h2⟩ := h
  go_enter Tryz.func60, Tryz.ntmps60
  go_wp2
  go_ret
  exact ⟨by simp, rfl⟩
set_option maxRecDepth 100000 in
theorem right_bad (a : Int) (w : World) (h : ¬ Num a) : Calls Tryz.prog 60 #[.int .i64 a] w fun e w' => e = .returned (.bool false) ∧ w' = w := by
  unfold Num at h
  go_enter Tryz.func60, Tryz.ntmps60
  go_wp2
  all_goals
    go_ret
    refine ⟨?_, rfl⟩
    first | (simp; done) | (simp; omega)
theorem make64 (W : World) : (Instr.makeSlice 43 (.int .i64 64) (.int .i64 64)).run Tryz.prog W = .ok (.slice (some ⟨W.heap.size, 0, none⟩) 64 64) (W.alloc (.cells (bv zer).toArray 5)) := by kernel_rfl
theorem arr_set {W : World} {g : Nat} {b : List Int} {t : TypeId} (h : W.heap[g]? = some (.cells (bv b).toArray t (0, 0))) (i : Nat) (x : Int) : (W.setCell ⟨g, i, none⟩ (.int .u8 x)).heap[g]? = some (.cells (bv (b.set i x)).toArray t (0, 0)) := by
  rw [setCell_eq_setRow W g i _ t (0, 0) _ h, setRow_heap W g _ _ t (0, 0) h]
  congr 2
  simp [bv, List.map_set]
theorem arr_new0 (W : World) (b : List Int) (t : TypeId) : (W.alloc (.cells (bv b).toArray t)).heap[W.heap.size]? = some (.cells (bv b).toArray t (0, 0)) := Array.getElem?_push_size
theorem arr_at0 {W : World} {g : Nat} {b : List Int} {t : TypeId} (h : W.heap[g]? = some (.cells (bv b).toArray t (0, 0))) {i : Nat} {x : Int} (hx : b[i]? = some x) : W.cell? ⟨g, i, none⟩ = some (.int .u8 x) := by
  simp [World.cell?, h, bv, hx]
theorem mix_set {b : List Int} {k : Nat} (h : k < b.length) (h2 : k < 64) : (b.take k ++ zer.drop k).set k b[k] = b.take (k + 1) ++ zer.drop (k + 1) := by
  rw [List.set_append_right _ _ (by rw [List.length_take]; omega), List.length_take, Nat.min_eq_left (by omega), Nat.sub_self, List.take_succ_eq_append_getElem h, List.append_assoc]
  congr 1
  rw [show zer.drop k = zer[k]'(by rw [zer_len]; exact h2) :: zer.drop (k + 1) from List.drop_eq_getElem_cons (by rw [zer_len]; exact h2)]
  rfl
theorem mix_len {b : List Int} {k : Nat} (h : k ≤ b.length) (h2 : k ≤ 64) : (b.take k ++ zer.drop k).length = 64 := by
  rw [List.length_append, List.length_take, List.length_drop, zer_len]; omega
set_option maxRecDepth 100000 in
set_option maxHeartbeats 4000000 in
theorem pad_any (v : Value) (b : List Int) (w : World) (hv : Sl bc w v b) (hl : b.length ≤ 100000) : Calls Tryz.prog 54 #[v] w fun e w' => e = .returned (.slice (some ⟨w.heap.size, 0, none⟩) 64 64) ∧ w'.heap[w.heap.size]? = some (.cells (bv ((b.take 64) ++ zer.drop b.length)).toArray 5 (0, 0)) ∧ Below w.heap.size w w' := by
  obtain ⟨ao, cap, rfl⟩ := hv.form
  have hmk := make64
  have HV := hide hv
  clear hv
  go_enter Tryz.func54, Tryz.ntmps54
  go_wp2
  clear hmk
  go_loopw [4] (fun i W => ∃ k : Nat, k ≤ b.length ∧ k ≤ 64 ∧ i = .int .i64 k ∧ W.heap[w.heap.size]? = some (.cells (bv (b.take k ++ zer.drop k)).toArray 5 (0, 0)) ∧ Below w.heap.size w W) (fun i _ => 64 - (iw i).toNat)
  case atStart => exact ⟨0, Nat.zero_le _, Nat.zero_le _, rfl, by simpa using arr_new0 w zer 5, (Below.refl _ _).alloc (Nat.le_refl _) _⟩
  case round =>
    obtain ⟨k, hk, hk2, rfl, hg, hb⟩ := hrel
    by_cases hlt : k < b.length
    · by_cases hlt2 : k < 64
      · rcases HV.out with ⟨_, _, e, _⟩ | ⟨gb, go, cap', e, h2, h3⟩
        · rw [e] at hlt; simp at hlt
        cases e
        have hc : wr.cell? ⟨gb, go + k, none⟩ = some (.int .u8 b[k]) := (hb.cell (p := ⟨gb, go + k, none⟩) (cell_block (h3 k hlt))).trans (h3 k hlt)
        have HS := hide (arr_set hg k b[k])
        rw [mix_set hlt hlt2] at HS
        have hm := mix_len hk hk2
        have hc2 : wr.cell? ⟨w.heap.size, k, none⟩ = some (.int .u8 ((b.take k ++ zer.drop k)[k]'(by rw [hm]; exact hlt2))) := arr_at0 hg (List.getElem?_eq_getElem _)
        have hf2 : wr.frozen? ⟨w.heap.size, k, none⟩ = false := by simp only [World.frozen?, hg]; simp
        have HB := hide hb
        generalize b[k] = x at hc HS
        generalize (b.take k ++ zer.drop k)[k]'(by rw [hm]; exact hlt2) = y at hc2
        clear hg hb hm h2 h3
        go_wp2
        exact ⟨⟨k + 1, by omega, by omega, by go_num, HS.out, HB.out.setCell (by exact Nat.le_refl _) _⟩, by simp [iw]; omega⟩
      · have HG := hide hg
        have HB := hide hb
        clear hg hb
        obtain rfl : k = 64 := by omega
        go_wp2
        go_ret
        exact ⟨rfl, by have := HG.out; rwa [show zer.drop 64 = zer.drop b.length from by rw [List.drop_eq_nil_of_le (by rw [zer_len]; omega), List.drop_eq_nil_of_le (by rw [zer_len]; omega)]] at this, HB.out⟩
    · have HG := hide hg
      have HB := hide hb
      clear hg hb
      obtain rfl : k = b.length := by omega
      go_wp2
      all_goals
        go_ret
        exact ⟨rfl, by rw [List.take_of_length_le hk2]; have := HG.out; rwa [List.take_length] at this, HB.out⟩
end Go.Proofs.YtoamghncncalgaaGreatDoor
namespace Go.Proofs.YtoamghncncalgaaGreatDoor
open Go.RowKit

/-- The document's store that has nothing. -/
abbrev zd (n : Int) : Value := .agg #[.int .i64 n, .slice none 0 0, .slice none 0 0]
/-- A store as the document has it. -/
def Dv (v : Value) : Prop := ∃ r a1 n1 c1 a2 n2 c2, v = .agg #[.int .i64 r, .slice a1 n1 c1, .slice a2 n2 c2]
theorem dv_z (n : Int) : Dv (zd n) := ⟨_, _, _, _, _, _, _, rfl⟩
set_option maxRecDepth 100000 in
theorem find0 (a : Int) (w : World) : Calls Tryz.prog 53 #[.slice none 0 0, .int .i64 a] w fun e w' => e = .returned (.tuple #[.slice none 0 0, .bool false]) ∧ w' = w := by
  go_enter Tryz.func53, Tryz.ntmps53
  go_wp2
  refine wp_loop_rounds 1 ?_
  rw [rounds_succ]
  go_wp2
  go_ret2
  exact ⟨rfl, rfl⟩
set_option maxRecDepth 100000 in
theorem taken0 (n a : Int) (w : World) : Calls Tryz.prog 61 #[zd n, .int .i64 a] w fun e w' => e = .returned (.bool false) ∧ Below w.heap.size w w' := by
  go_enter Tryz.func61, Tryz.ntmps61
  go_wp2_with (first | (go_at_call 53; refine (find0 _ _).mono ?_; rintro e w9 ⟨rfl, hw9⟩; rw [hw9]; clear hw9 w9))
  refine wp_loop_rounds 1 ?_
  rw [rounds_succ]
  go_wp2
  go_ret
  exact ⟨rfl, (Below.refl _ _).alloc (Nat.le_refl _) _⟩
set_option maxRecDepth 100000 in
theorem used0 (n : Int) (w : World) : Calls Tryz.prog 42 #[zd n] w fun e w' => e = .returned (.int .i64 0) ∧ Below w.heap.size w w' := by
  go_enter Tryz.func42, Tryz.ntmps42
  go_wp2
  refine wp_loop_rounds 1 ?_
  rw [rounds_succ]
  go_wp2
  go_ret
  exact ⟨rfl, (Below.refl _ _).alloc (Nat.le_refl _) _⟩
theorem run_app00 (w : World) (ty : TypeId) : (Builtin.append_ #[35, 35] ty #[.slice none 0 0, .slice none 0 0]).run Tryz.prog w = .ok (.slice none 0 0) w := by
  obtain ⟨i0, hi, hz0, hz1, hz2⟩ := info_parts (show (Tryz.prog.info? 107).map (fun i => (i.zero, i.size, i.bytes)) = some (some (.agg #[.int .i64 0, .bool false, .slice none 0 0]), 3, 40) by kernel_rfl)
  simp [Builtin.append_, run_underlying Tryz.underlying35, sizeOf, typeInfo, hi, Builtin.lenOf, Builtin.firstCells]
theorem wpList_app00 {ops : Array Oper} {rest : List Oper} {o : Oper} {a : Act} {Q : Exit → Act → World → Prop} (w : World) (hg : o.guard = none) (y z : Operand) (ho : o.op = .call { callee := .builtin .append, args := #[y, z], argTypes := #[35, 35] }) (hy : a.eval y = .slice none 0 0) (hz : a.eval z = .slice none 0 0)
    (h : wpList Tryz.prog ops Q rest (a.put o.dst (.slice none 0 0)) w) : wpList Tryz.prog ops Q (o :: rest) a w := by
  refine wpList_plain hg fun K hK => ?_
  unfold Oper.wp
  simp [execOp, ho, resolve, invoke, builtin, hy, hz, run_app00, Result.andThen]
  exact hK _ _ h
theorem wpList_app01 {ops : Array Oper} {rest : List Oper} {o : Oper} {a : Act} {Q : Exit → Act → World → Prop} (w : World) (hg : o.guard = none) (y z : Operand) (ho : o.op = .call { callee := .builtin .append, args := #[y, z], argTypes := #[35, 35] }) (hy : a.eval y = .slice none 0 0) (ad : Addr) (c : Nat) (news : List Value) (hz : a.eval z = .slice (some ad) 1 c) (hl : news.length = 3) (hnews : ∀ j u, news[j]? = some u → w.cell? (ad.add j) = some u) (h1 : ∀ u ∈ news, u.oneCell' = true)
    (h : ∀ a' c' w', Below w.heap.size w w' → wpList Tryz.prog ops Q rest (a.put o.dst (.slice a' 1 c')) w') : wpList Tryz.prog ops Q (o :: rest) a w := by
  refine wpList_plain hg fun K hK => ?_
  obtain ⟨i0, hi, hz0, hz1, hz2⟩ := info_parts (show (Tryz.prog.info? 107).map (fun i => (i.zero, i.size, i.bytes)) = some (some (.agg #[.int .i64 0, .bool false, .slice none 0 0]), 3, 40) by kernel_rfl)
  obtain ⟨v', w', hrun, ho', hg', _, hb⟩ := run_append_own_at (P := Tryz.prog) w w.heap.size 35 o.type 107 i0 (.agg #[.int .i64 0, .bool false, .slice none 0 0]) 3 40 Tryz.underlying35 hi hz0 hz1 hz2 rfl (by decide) (.slice none 0 0) 0 [] (World.ownsRow_nil _ _ _ _) ad 1 c news (by omega) hnews h1 (by unfold maxLen; omega) (by omega) (Nat.le_refl _)
  obtain ⟨a', c', rfl⟩ : ∃ a' c', v' = .slice a' 1 c' := by
    rcases ho'.2 with ⟨_, h0⟩ | ⟨g, cap, cur, e, _⟩
    · omega
    · exact ⟨_, _, e⟩
  unfold Oper.wp
  simp [execOp, ho, resolve, invoke, builtin, hy, hz, hrun, Result.andThen]
  exact hK _ _ (h a' c' w' ((Below.refl _ _).grown hg' (Nat.le_refl _) (fun j e => by cases e)))
theorem range_newsN (W : World) (cs : List Value) (t : TypeId) : ∀ j u, cs[j]? = some u → (W.alloc (.cells cs.toArray t)).cell? ((⟨W.heap.size, 0, none⟩ : Addr).add j) = some u := fun j u hu => by
  rw [Addr.add_lit, Nat.zero_add, World.cell?_alloc_at _ _ _ _ rfl]
  simpa using hu
/-- Three cells of a block. -/
structure B3 (W : World) (g : Nat) (x y z : Value) : Prop where
  c0 : W.cell? ⟨g, 0, none⟩ = some x
  c1 : W.cell? ⟨g, 1, none⟩ = some y
  c2 : W.cell? ⟨g, 2, none⟩ = some z
  fz : ∀ i, W.frozen? ⟨g, i, none⟩ = false
theorem B3.below {W W' : World} {g : Nat} {x y z : Value} (h : B3 W g x y z) (hb : Below W.heap.size W W') : B3 W' g x y z :=
  have hl := cell_block h.c0
  ⟨(hb.cell (p := ⟨g, 0, none⟩) hl).trans h.c0, (hb.cell (p := ⟨g, 1, none⟩) hl).trans h.c1, (hb.cell (p := ⟨g, 2, none⟩) hl).trans h.c2, fun i => (hb.frozen (p := ⟨g, i, none⟩) hl).trans (h.fz i)⟩
theorem B3.set2 {W : World} {g : Nat} {x y z : Value} (h : B3 W g x y z) (z' : Value) : B3 (W.setCell ⟨g, 2, none⟩ z') g x y z' :=
  ⟨by rw [World.cell?_setCell_other _ _ _ _ (by simp)]; exact h.c0, by rw [World.cell?_setCell_other _ _ _ _ (by simp)]; exact h.c1, World.cell?_setCell_same _ _ _ h.c2, fun i => by simp [h.fz i]⟩
theorem B3.setO {W : World} {g k i : Nat} {x y z : Value} (h : B3 W g x y z) (hk : g ≠ k) (v : Value) : B3 (W.setCell ⟨k, i, none⟩ v) g x y z :=
  have ho : ∀ j, (W.setCell ⟨k, i, none⟩ v).cell? ⟨g, j, none⟩ = W.cell? ⟨g, j, none⟩ := fun j => World.cell?_setCell_other _ _ _ _ (fun q => hk (congrArg Addr.block q).symm)
  ⟨(ho 0).trans h.c0, (ho 1).trans h.c1, (ho 2).trans h.c2, fun i => by simp [h.fz i]⟩
/-- A struct of three cells is stored. -/
theorem B3.all {W : World} {g : Nat} {x y z : Value} (h : B3 W g x y z) (x' y' z' : Value) : B3 (((W.setCell ⟨g, 0, none⟩ x').setCell ⟨g, 1, none⟩ y').setCell ⟨g, 2, none⟩ z') g x' y' z' := by
  have h0 : (W.setCell ⟨g, 0, none⟩ x').cell? ⟨g, 0, none⟩ = some x' := World.cell?_setCell_same _ _ _ h.c0
  have h1 : ((W.setCell ⟨g, 0, none⟩ x').setCell ⟨g, 1, none⟩ y').cell? ⟨g, 1, none⟩ = some y' := World.cell?_setCell_same _ _ _ (u := y) (by rw [World.cell?_setCell_other _ _ _ _ (by simp)]; exact h.c1)
  refine ⟨?_, ?_, World.cell?_setCell_same _ _ _ (u := z) (by rw [World.cell?_setCell_other _ _ _ _ (by simp), World.cell?_setCell_other _ _ _ _ (by simp)]; exact h.c2), fun i => by simp [h.fz i]⟩
  · rw [World.cell?_setCell_other _ _ _ _ (by simp), World.cell?_setCell_other _ _ _ _ (by simp)]; exact h0
  · rw [World.cell?_setCell_other _ _ _ _ (by simp)]; exact h1
theorem B3.rg {W : World} {g : Nat} {x y z : Value} (h : B3 W g x y z) : W.rangeAt g 0 [x, y, z] := fun j v hv => by
  match j, hv with
  | 0, hv => cases hv; exact h.c0
  | 1, hv => cases hv; exact h.c1
  | 2, hv => cases hv; exact h.c2
theorem res_one {P : Program} {fn : Func} {q : Tmp} {ty : TypeId} (h : fn.results = #[.cell q ty]) (tmps : Array Value) (w : World) (b : Nat) (cs : List Value) (d : TypeDesc) (hp : tmps.getD q undef = .pointer (some ⟨b, 0, none⟩)) (hc : w.rangeAt b 0 cs) (hu : P.underlying ty = some d) (hd : d.isRow = true) (hi : (P.info? ty).map (·.size) = some cs.length) :
    (results fn tmps).run P w = .ok (.agg cs.toArray) w := by
  have hp' : tmps[q]?.getD undef = .pointer (some ⟨b, 0, none⟩) := by simpa using hp
  simp [results, h, hp', asAddr, run_loadVar_mid w b 0 ty cs d hc hu hd hi]
theorem res_two {P : Program} {fn : Func} {q r : Tmp} {ty : TypeId} (h : fn.results = #[.cell q ty, .tmp r]) (tmps : Array Value) (w : World) (b : Nat) (cs : List Value) (d : TypeDesc) (v : Value) (hp : tmps.getD q undef = .pointer (some ⟨b, 0, none⟩)) (hr : tmps.getD r undef = v) (hc : w.rangeAt b 0 cs) (hu : P.underlying ty = some d) (hd : d.isRow = true) (hi : (P.info? ty).map (·.size) = some cs.length) :
    (results fn tmps).run P w = .ok (.tuple #[.agg cs.toArray, v]) w := by
  have hp' : tmps[q]?.getD undef = .pointer (some ⟨b, 0, none⟩) := by simpa using hp
  have hr' : tmps[r]?.getD undef = v := by simpa using hr
  simp [results, h, hp', hr', asAddr, run_loadVar_mid w b 0 ty cs d hc hu hd hi]
theorem set3_below {B g : Nat} {a W : World} (h : Below B a W) (hg : B ≤ g) (x y z : Value) : Below B a (((W.setCell ⟨g, 0, none⟩ x).setCell ⟨g, 1, none⟩ y).setCell ⟨g, 2, none⟩ z) := ((h.setCell (by exact hg) _).setCell (by exact hg) _).setCell (by exact hg) _
theorem infoDd : (Tryz.prog.info? 37).map (·.size) = some 3 := by kernel_rfl
theorem b3_new (W : World) (x y z : Value) (t : TypeId) : B3 (W.alloc (.cells #[x, y, z] t)) W.heap.size x y z := by
  have hc : ∀ i, (W.alloc (.cells #[x, y, z] t)).cell? ⟨W.heap.size, i, none⟩ = #[x, y, z][i]? := fun i => World.cell?_alloc_at _ _ _ _ rfl
  exact ⟨hc 0, hc 1, hc 2, fun i => by simp⟩
theorem al_d (W : World) (o : Obj) : Below W.heap.size W (W.alloc o) := (Below.refl _ _).alloc (Nat.le_refl _) o
set_option maxRecDepth 100000 in
set_option maxHeartbeats 4000000 in
theorem and0 (n x : Int) (q : Bool) (ab : Option Addr) (nb cb : Nat) (w : World) : Calls Tryz.prog 62 #[zd n, .agg #[.int .i64 x, .bool q, .slice ab nb cb]] w fun e w' => ∃ v, e = .returned v ∧ Dv v ∧ Below w.heap.size w w' := by
  go_enter Tryz.func62, Tryz.ntmps62
  go_upto_region 3 with (first | (at_builtin; refine wpList_app00 _ rfl _ _ rfl rfl rfl ?_))
  have hb1 := al_d w (.cells #[.int .i64 n, .slice none 0 0, .slice none 0 0] 37)
  generalize hW1 : w.alloc (.cells #[.int .i64 n, .slice none 0 0, .slice none 0 0] 37) = W1 at hb1 ⊢
  have s1 : W1.heap.size = w.heap.size + 1 := by rw [← hW1]; simp
  have p2 := b3_new W1 (.int .i64 x) (.bool q) (.slice ab nb cb) 107
  have hb2 := bt hb1 (al_d W1 (.cells #[.int .i64 x, .bool q, .slice ab nb cb] 107))
  have s2 : (W1.alloc (.cells #[.int .i64 x, .bool q, .slice ab nb cb] 107)).heap.size = w.heap.size + 1 + 1 := by simp [s1]
  generalize W1.alloc (.cells #[.int .i64 x, .bool q, .slice ab nb cb] 107) = W2 at p2 hb2 s2 ⊢
  have r3 := b3_new W2 (.int .i64 0) (.slice none 0 0) (.slice none 0 0) 37
  have p3 := p2.below (al_d W2 (.cells #[.int .i64 0, .slice none 0 0, .slice none 0 0] 37))
  have hb3 := bt hb2 (al_d W2 (.cells #[.int .i64 0, .slice none 0 0, .slice none 0 0] 37))
  have s3 : (W2.alloc (.cells #[.int .i64 0, .slice none 0 0, .slice none 0 0] 37)).heap.size = w.heap.size + 1 + 1 + 1 := by simp [s2]
  generalize W2.alloc (.cells #[.int .i64 0, .slice none 0 0, .slice none 0 0] 37) = W3 at r3 p3 hb3 s3 ⊢
  have x4 := b3_new W3 (.int .i64 n) (.slice none 0 0) (.slice none 0 0) 37
  have p4 := p3.below (al_d W3 (.cells #[.int .i64 n, .slice none 0 0, .slice none 0 0] 37))
  have r4 := r3.below (al_d W3 (.cells #[.int .i64 n, .slice none 0 0, .slice none 0 0] 37))
  have hb4 := bt hb3 (al_d W3 (.cells #[.int .i64 n, .slice none 0 0, .slice none 0 0] 37))
  generalize W3.alloc (.cells #[.int .i64 n, .slice none 0 0, .slice none 0 0] 37) = W4 at x4 p4 r4 hb4 ⊢
  rw [s3] at x4
  rw [s2] at r4
  rw [s1] at p4
  clear hb1 hb2 hb3 p2 p3 r3 s1 s2 s3 hW1
  obtain ⟨x0, x1, x2, xf⟩ := x4
  obtain ⟨q0, q1, q2, _⟩ := p4
  obtain ⟨r0, r1, r2, rf⟩ := r4
  have hwr : w.heap.size ≤ w.heap.size + 1 + 1 := by omega
  have hwx : w.heap.size ≤ w.heap.size + 1 + 1 + 1 := by omega
  have hne : w.heap.size + 1 + 1 ≠ w.heap.size + 1 + 1 + 1 := by omega
  generalize w.heap.size + 1 + 1 + 1 = X at x0 x1 x2 xf hwx hne ⊢
  generalize w.heap.size + 1 + 1 = R at r0 r1 r2 rf hwr hne ⊢
  generalize w.heap.size + 1 = Pq at q0 q1 q2 ⊢
  have HX : Hid (B3 W4 X (.int .i64 n) (.slice none 0 0) (.slice none 0 0)) := hide ⟨x0, x1, x2, xf⟩
  have HR : Hid (B3 W4 R (.int .i64 0) (.slice none 0 0) (.slice none 0 0)) := hide ⟨r0, r1, r2, rf⟩
  have HB := hide hb4
  clear r0 r1 r2 rf x0 x1 xf hb4
  go_upto_region 4 with (first | (at_builtin; refine wpList_app01 _ rfl _ _ rfl rfl ⟨W4.heap.size, 0, none⟩ 1 [.int .i64 x, .bool q, .slice ab nb cb] rfl rfl (range_newsN W4 _ _) (fun u hu => by simp only [List.mem_cons, List.not_mem_nil, or_false] at hu; rcases hu with rfl | rfl | rfl <;> rfl) ?_; intro a7 c7 W7 hb7; have HX7 := hide (HX.out.below (bt (al_d W4 _) hb7)); have HR7 := hide (HR.out.below (bt (al_d W4 _) hb7)); have HB7 := hide (bt HB.out (bt (al_d W4 _) hb7)); have y2 := HX7.out.c2; have yf := HX7.out.fz 2; clear hb7))
  have HX8 := hide (HX7.out.set2 (.slice a7 1 c7))
  have HR8 := hide (HR7.out.setO (i := 2) hne (.slice a7 1 c7))
  have HB8 := hide (HB7.out.setCell (p := ⟨X, 2, none⟩) (by exact hwx) (.slice a7 1 c7))
  generalize W7.setCell ⟨X, 2, none⟩ (.slice a7 1 c7) = V at HX8 HR8 HB8 ⊢
  clear y2 yf HX7 HR7 HB7 HX HR HB q0 q1 q2 x2
  obtain ⟨x0, x1, x2, _⟩ := HX8.out
  obtain ⟨r0, r1, r2, rf⟩ := HR8.out
  have f0 := rf 0
  have f1 := rf 1
  have f2 := rf 2
  clear rf
  go_wp2
  exact bodyPost_ret (v := .agg #[_, _, _]) (res_one Tryz.results62 _ _ R [_, _, _] _ rfl (HR8.out.all (.int .i64 n) (.slice none 0 0) (.slice a7 1 c7)).rg Tryz.underlying37 rfl infoDd) rfl ⟨_, rfl, ⟨_, _, _, _, _, _, _, rfl⟩, set3_below HB8.out hwr _ _ _⟩
end Go.Proofs.YtoamghncncalgaaGreatDoor
