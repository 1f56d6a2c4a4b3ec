/-
  A BLOCK IS FREED, A STORE IS WIPED (block.Free, Wipe): what the mathematics says. Condition: fewer than thirty thousand blocks and writes.
-/
import Derived.Test.YtmgfcgknajehaaaBlkQ
namespace Go.Proofs.Ytmgfcgknajehaaa
open Go.RowKit

theorem al_b0 (W : World) (o : Obj) : Below W.heap.size W (W.alloc o) := (Below.refl _ _).alloc (Nat.le_refl _) o
def wfr (a : Int) : Wr := ⟨a, true, zer⟩
theorem run_buildF (a : Int) (w : World) : (Instr.build 81 #[(0, .int .i64 a), (1, .bool true)]).run Try.prog w = .ok (.agg (wcl (wfr a)).toArray) w := by kernel_rfl
theorem run_buildZ (w : World) : (Instr.build 79 #[]).run Try.prog w = .ok (.agg (bv zer).toArray) w := by kernel_rfl
section
variable {ops : Array Oper} {rest : List Oper} {o : Oper} {a : Act} {Q : Exit → Act → World → Prop}
theorem wpList_buildF (w : World) (hg : o.guard = none) (x : Operand) (ho : o.op = .build 81 #[(0, x), (1, .const (.bool true))]) (n : Int) (hx : a.eval x = .int .i64 n) (h : wpList Try.prog ops Q rest (a.put o.dst (.agg (wcl (wfr n)).toArray)) w) : wpList Try.prog ops Q (o :: rest) a w := by
  refine wpList_plain hg fun K hK => ?_
  have hc : a.eval (.const (.bool true)) = .bool true := rfl
  unfold Oper.wp
  simp only [execOp, ho, List.map_toArray, List.map_cons, List.map_nil, hx, hc]
  simp [run_buildF, Result.andThen]
  exact hK _ _ h
theorem wpList_buildZ (w : World) (hg : o.guard = none) (ho : o.op = .build 79 #[]) (h : wpList Try.prog ops Q rest (a.put o.dst (.agg (bv zer).toArray)) w) : wpList Try.prog ops Q (o :: rest) a w := by
  refine wpList_plain hg fun K hK => ?_
  unfold Oper.wp
  simp only [execOp, ho, List.map_toArray, List.map_nil]
  simp [run_buildZ, Result.andThen]
  exact hK _ _ h
theorem wpList_putM (w : World) (hg : o.guard = none) (x y z : Operand) (ho : o.op = .mapUpdate 83 x y z) (b : Nat) (n : Int) (c : List Int) (l : Cs) (hx : a.eval x = .map (some b)) (hy : a.eval y = .int .i64 n) (hz : a.eval z = .agg (bv c).toArray) (hm : Mp w b l) (hl : Asc l) (hn : l.length < 100000) (ha : Num n)
    (h : ∀ w', Mp w' b (insM n c l) → w.grownBy w' (some b) → wpList Try.prog ops Q rest (a.put o.dst undef) w') : wpList Try.prog ops Q (o :: rest) a w := by
  refine wpList_plain hg fun K hK => ?_
  obtain ⟨w', hrun, q1, q2, _⟩ := hm.put hl hn ha c
  unfold Oper.wp
  simp only [execOp, ho, hx, hy, hz]
  simp [hrun, Result.andThen]
  exact hK _ _ (h w' q1 q2)
end
theorem run_clearM {W : World} {b : Nat} {l : Cs} (h : Mp W b l) (ty : TypeId) : ∃ W', (Builtin.clear_ #[83] ty #[.map (some b)]).run Try.prog W = .ok (.tuple #[]) W' ∧ Mp W' b [] ∧ W.grownBy W' (some b) := by
  obtain ⟨es, clock, hb, F, hs, hD⟩ := h
  refine ⟨ChangeMaps.setBlock W b (.map #[] clock), ?_, ⟨#[], clock, ChangeMaps.heap_setBlock_same hb _, ⟨by simp, MapKept.stamped_empty clock, by simp⟩, Nat.le_refl _, rfl⟩, ⟨rfl, rfl, rfl, by simp [ChangeMaps.setBlock], fun i _ hi => ChangeMaps.heap_setBlock_other hb _ (fun e => hi (by rw [e]))⟩⟩
  simp [Builtin.clear_, run_underlying Try.underlying83, MapKept.run_getObj_map hb, MapKept.run_setObj_map _ hb, ChangeMaps.setBlock, Result.andThen]
section
variable {d bS bT : Nat} {u : Value} {s : Dst}
def frE (a : Int) : Option (List (ByteArray × Int) × Int) := if 0 ≤ a ∧ a ≤ 1073741824 then none else some ([(opBlock, a)], 2)
def frS (s : Dst) (a : Int) : Dst := if 0 ≤ a ∧ a ≤ 1073741824 then ⟨s.room, s.cs, s.lo ++ [wfr a]⟩ else s
theorem frS_ok {s : Dst} (h : s.Ok) (a : Int) : (frS s a).Ok := by
  unfold frS
  split
  · rename_i ha
    refine ⟨h.asc, h.cb, fun w hw => ?_⟩
    rcases List.mem_append.1 hw with e | e
    · exact h.lb w e
    · simp at e
      rw [e]
      exact ⟨ha, blk_zer, fun _ => rfl⟩
  · exact h
theorem frS_wt (s : Dst) (a : Int) : (frS s a).wt ≤ s.wt + 1 := by
  unfold frS
  split
  · simp [Dst.wt]; omega
  · omega
set_option maxRecDepth 100000 in
theorem bfree_bad (a : Int) (w : World) (ha : ¬ Num a) : Calls Try.prog 54 #[.pointer (some ⟨d, 0, none⟩), .int .i64 a] w fun e w' => e = .returned (bft opBlock a 2) ∧ w' = w := by
  have HA := hide ha
  clear ha
  go_enter Try.func54, Try.ntmps54
  go_wp2_with (first | (go_at_call 61; refine (check_bad _ _ HA.out).mono ?_; rintro e w9 ⟨rfl, hw9⟩; rw [hw9]; clear hw9 w9))
  go_ret
  exact ⟨rfl, rfl⟩
set_option maxRecDepth 100000 in
set_option maxHeartbeats 4000000 in
theorem bfree_ok (a : Int) (w : World) (h : Dk w d bS bT u s s.tk s.lo) (hO : s.Ok) (ha : Num a) (hn : s.wt < 30000) : Calls Try.prog 54 #[.pointer (some ⟨d, 0, none⟩), .int .i64 a] w fun e w' => ∃ u', e = .returned .nilIface ∧ Dk w' d bS bT u' s (stT s.tk (wfr a)) (s.lo ++ [wfr a]) ∧ Dx d bS bT u w w' u' := by
  obtain ⟨al, cl, rfl⟩ := h.ro.form
  have HH := hide h
  have HA := hide ha
  have HTA := hide hO.ta
  have HTN : Hid (s.tk.length < 100000) := hide (by have := hO.tl; omega)
  have HLN : Hid (s.lo.length + 1 ≤ 100000) := hide (by have : s.lo.length ≤ s.wt := Nat.le_add_left _ _; omega)
  obtain ⟨c, HC⟩ : ∃ c, Hid ((look s.tk a).getD zer = c) := ⟨_, rfl⟩
  obtain ⟨q, HQ⟩ : ∃ q, Hid ((look s.tk a).isSome = q) := ⟨_, rfl⟩
  have HCL : Hid (c.length = 64) := hide (by rw [← HC.out]; exact at_len hO.tb a)
  have j2 := h.c2
  clear h ha hO
  go_enter Try.func54, Try.ntmps54
  go_upto_region 5 with (first | (go_at_call 61; refine (check_ok _ _ HA.out).mono ?_; rintro e w9 ⟨rfl, hw9⟩; rw [hw9]; clear hw9 w9) | (refine wpList_lookOk2 _ rfl _ _ rfl _ _ _ rfl rfl HH.out.mt HA.out c q HC.out HQ.out ?_) | (refine wpList_allocB _ rfl rfl ?_) | (refine wpList_storeB _ rfl _ _ rfl zer _ zer_len HCL.out rfl rfl ?_))
  have hbl := al_b0 w (.cells (bv c).toArray 79)
  have HD1 := hide (HH.out.below hbl)
  have HX1 : Hid (Dx d bS bT (.slice al s.lo.length cl) w (w.alloc (.cells (bv c).toArray 79)) (.slice al s.lo.length cl)) := hide (Dx.of hbl)
  generalize w.alloc (.cells (bv c).toArray 79) = V at HD1 HX1 ⊢
  clear hbl HH j2
  have i2 := HD1.out.c2
  have i3 := HD1.out.c3
  cases q
  · have HT : Hid (stT s.tk (wfr a) = s.tk) := hide (by simp only [stT, wfr, HQ.out]; rfl)
    have f3 := HD1.out.fz 3
    go_wp2_with (first | (refine wpList_buildF _ rfl _ rfl _ rfl ?_) | (refine wpList_bldW _ rfl _ rfl (wfr a) zer_len rfl ?_) | (at_builtin; refine wpList_appW _ rfl _ _ rfl _ _ rfl (HD1.out.ro.alloc _) ⟨_, 0, none⟩ 1 (wfr a) rfl zer_len (range_newsW (range_newW V _ _)) HLN.out ?_; intro v' W7 hlo hgr hub; have HF := hide ((HD1.out.below (al_b0 V _)).putL hgr hlo hub); have HXF := hide ((HX1.out.call (al_b0 V _)).turnL hgr hub); have c7 : W7.cell? ⟨d, 3, none⟩ = some _ := (World.cell?_of_block (hgr.block d (HD1.out.below (al_b0 V _)).dl (fun e => HD1.out.du e.symm))).trans (HD1.out.below (al_b0 V _)).c3; have f7 : W7.frozen? ⟨d, 3, none⟩ = false := (World.frozen?_of_block (hgr.block d (HD1.out.below (al_b0 V _)).dl (fun e => HD1.out.du e.symm))).trans ((HD1.out.below (al_b0 V _)).fz 3); obtain ⟨a6, c6, hu6⟩ := hlo.form; simp only [List.length_append, List.length_cons, List.length_nil, Nat.zero_add] at hu6; subst hu6; clear hlo hgr hub))
    go_ret
    exact ⟨_, rfl, by rw [HT.out]; exact HF.out, HXF.out⟩
  · have HT : Hid (stT s.tk (wfr a) = insM a zer s.tk) := hide (by simp only [stT, wfr, HQ.out]; rfl)
    go_upto_region 7 with (first | (refine wpList_buildZ _ rfl rfl ?_) | (refine wpList_putM _ rfl _ _ _ rfl _ _ zer _ rfl rfl rfl HD1.out.mt HTA.out HTN.out HA.out ?_; intro W5 hm5 hg5; have HD5 := hide (HD1.out.putT hg5 hm5); have HX5 := hide (HX1.out.turnT hg5); clear hm5 hg5))
    clear i2 i3 HD1 HX1
    have i3 := HD5.out.c3
    have f3 := HD5.out.fz 3
    go_wp2_with (first | (refine wpList_buildF _ rfl _ rfl _ rfl ?_) | (refine wpList_bldW _ rfl _ rfl (wfr a) zer_len rfl ?_) | (at_builtin; refine wpList_appW _ rfl _ _ rfl _ _ rfl (HD5.out.ro.alloc _) ⟨_, 0, none⟩ 1 (wfr a) rfl zer_len (range_newsW (range_newW W5 _ _)) HLN.out ?_; intro v' W7 hlo hgr hub; have HF := hide ((HD5.out.below (al_b0 W5 _)).putL hgr hlo hub); have HXF := hide ((HX5.out.call (al_b0 W5 _)).turnL hgr hub); have c7 : W7.cell? ⟨d, 3, none⟩ = some _ := (World.cell?_of_block (hgr.block d (HD5.out.below (al_b0 W5 _)).dl (fun e => HD5.out.du e.symm))).trans (HD5.out.below (al_b0 W5 _)).c3; have f7 : W7.frozen? ⟨d, 3, none⟩ = false := (World.frozen?_of_block (hgr.block d (HD5.out.below (al_b0 W5 _)).dl (fun e => HD5.out.du e.symm))).trans ((HD5.out.below (al_b0 W5 _)).fz 3); obtain ⟨a6, c6, hu6⟩ := hlo.form; simp only [List.length_append, List.length_cons, List.length_nil, Nat.zero_add] at hu6; subst hu6; clear hlo hgr hub))
    go_ret
    exact ⟨_, rfl, by rw [HT.out]; exact HF.out, HXF.out⟩
theorem q_free (a : Int) (w : World) (h : Dq w d bS bT u s) (hn : s.wt < 30000) :
    Calls Try.prog 54 #[.pointer (some ⟨d, 0, none⟩), .int .i64 a] w fun e w' => ∃ u', e = .returned (ev (frE a)) ∧ Dq w' d bS bT u' (frS s a) ∧ Dx d bS bT u w w' u' := by
  have hok := frS_ok h.ok a
  by_cases h1 : 0 ≤ a ∧ a ≤ 1073741824
  · have e1 : frE a = none := by unfold frE; rw [if_pos h1]
    have e2 : frS s a = ⟨s.room, s.cs, s.lo ++ [wfr a]⟩ := by unfold frS; rw [if_pos h1]
    refine (bfree_ok a w h.dk h.ok h1 hn).mono ?_
    rintro e w' ⟨u', rfl, hd, hx⟩
    rw [e1]
    rw [e2] at hok ⊢
    refine ⟨u', rfl, ⟨?_, hok⟩, hx⟩
    have et : (Dst.tk ⟨s.room, s.cs, s.lo ++ [wfr a]⟩) = stT s.tk (wfr a) := tkO_snoc _ _ _
    rw [et]
    exact ⟨hd.c0, hd.c1, hd.c2, hd.c3, hd.fz, hd.ms, hd.mt, hd.ro, hd.ne, hd.du⟩
  · have e1 : frE a = some ([(opBlock, a)], 2) := by unfold frE; rw [if_neg h1]
    have e2 : frS s a = s := by unfold frS; rw [if_neg h1]
    refine (bfree_bad a w h1).mono ?_
    rintro e w' ⟨rfl, rfl⟩
    rw [e1, e2]
    exact ⟨u, rfl, h, Dx.refl⟩
end
end Go.Proofs.Ytmgfcgknajehaaa
