/-
  A WRITE IS TORN (block.tear): its first bytes alone are new. No condition.
-/
import Derived.Test.YtiedbchlgcgdeaaBlkKp
namespace Go.Proofs.Ytiedbchlgcgdeaa
open Go.RowKit

theorem torn_no {x : Wr} {old : List Int} {cut : Int} (h : ¬ (x.fr = false ∧ 0 ≤ cut ∧ cut < 64)) : torn x old cut = x := by
  unfold torn
  rw [if_neg h]
theorem torn_yes {a : Int} {b old : List Int} {n : Nat} (h : n < 64) : torn ⟨a, false, b⟩ old (n : Int) = ⟨a, false, b.take n ++ old.drop n⟩ := by
  unfold torn
  rw [if_pos ⟨rfl, by omega, by omega⟩]
  simp
theorem wpList_boxB {ops : Array Oper} {rest : List Oper} {o : Oper} {a : Act} {Q : Exit → Act → World → Prop} (w : World) (hg : o.guard = none) (x : Operand) (ho : o.op = .box 68 x) (b : List Int) (hx : a.eval x = .agg (bv b).toArray)
    (h : wpList Try.prog ops Q rest (a.put o.dst (.pointer (some ⟨w.heap.size, 0, none⟩))) (w.alloc (.cells (bv b).toArray 68))) : wpList Try.prog ops Q (o :: rest) a w := by
  refine wpList_plain hg fun K hK => ?_
  unfold Oper.wp
  simp only [execOp, ho, hx]
  simp [Instr.box, newVar, Value.cells, Result.andThen]
  exact hK _ _ h
theorem slc_arr (g o n : Nat) (hn : n < 64) (W : World) : (Instr.sliceAt 68 (.pointer (some ⟨g, o, none⟩)) (some (.int .i64 (n : Int))) none none).run Try.prog W = .ok (.slice (some ⟨g, o + n, none⟩) (64 - n) (64 - n)) W := by
  have h1 : (n : Int) ≤ 64 := by omega
  have h2 : ¬ 64 = n := by omega
  simp [Instr.sliceAt, go_sem, h1]
  omega
theorem yields_slc {ops : Array Oper} {o : Oper} {a : Act} {S : World → Prop} (hw : Region.wanted o (yielded ops a.tmps) = true) (x y : Operand) (ho : o.op = .slice 68 x (some y) none none) (g k n : Nat) (hx : a.eval x = .pointer (some ⟨g, k, none⟩)) (hy : a.eval y = .int .i64 (n : Int)) (hn : n < 64) : YieldsIf Try.prog ops S o (.slice (some ⟨g, k + n, none⟩) (64 - n) (64 - n)) a :=
  .inl ⟨hw, fun w _ => by
    unfold execOp
    simp only [ho, Option.map, hx, hy]
    simp [slc_arr g k n hn w, Result.andThen]⟩
theorem wcl_len' {x : Wr} (h : x.by_.length = 64) : (wcl x).length = 66 := by simp [wcl, bv_len, h]
theorem torn_range {W : World} {g o n : Nat} {a : Int} {b old : List Int} (hb : b.length = 64) (ho : old.length = 64) (hn : n < 64) (h : W.rangeAt g o (wcl ⟨a, false, b⟩)) :
    (W.setCells g (o + 2 + n) (bv (old.drop n))).rangeAt g o (wcl ⟨a, false, b.take n ++ old.drop n⟩) := fun j v hv => by
  have hlen : (bv (old.drop n)).length = 64 - n := by rw [bv_len, List.length_drop, ho]
  have hj : j < 66 := by
    have := (List.getElem?_eq_some_iff.1 hv).1
    simp [wcl, bv_len, hb, ho] at this
    omega
  by_cases hlt : j < 2 + n
  · rw [World.cell?_setCells_out g _ _ _ _ (fun _ _ => .inl (by show o + j < o + 2 + n; omega))]
    refine h j v ?_
    rw [← hv]
    match j, hlt with
    | 0, _ => rfl
    | 1, _ => rfl
    | i + 2, hi =>
      show (bv b)[i]? = (bv (b.take n ++ old.drop n))[i]?
      simp only [bv]
      rw [List.getElem?_map, List.getElem?_map, List.getElem?_append_left (by rw [List.length_take, hb]; omega), List.getElem?_take_of_lt (by omega)]
  · have hex : ∀ i, i < 66 → (W.cell? ⟨g, o + i, none⟩).isSome = true := fun i hi => by
      rw [h i _ (List.getElem?_eq_getElem (by rw [wcl_len' hb]; exact hi))]
      rfl
    have := World.cell?_setCells_in g (bv (old.drop n)) (o + 2 + n) W (fun i hi => by
      rw [hlen] at hi
      have := hex (2 + n + i) (by omega)
      rwa [← Nat.add_assoc, ← Nat.add_assoc] at this) (j - (2 + n)) (by rw [hlen]; omega)
    rw [show o + 2 + n + (j - (2 + n)) = o + j by omega] at this
    rw [this, ← hv]
    obtain ⟨i, rfl⟩ : ∃ i, j = i + 2 := ⟨j - 2, by omega⟩
    show _ = (bv (b.take n ++ old.drop n))[i]?
    have e1 : i + 2 - (2 + n) = i - n := by omega
    simp only [bv, e1]
    rw [List.getElem?_map, List.getElem?_append_right (by rw [List.length_take, hb]; omega), List.length_take, hb, Nat.min_eq_left (by omega), List.getElem_map]
    rw [List.getElem?_eq_getElem (by rw [List.length_drop, ho]; omega)]
    rfl
theorem ba_cells {W : World} {g : Nat} : ∀ (vs : List Value) (o : Nat), Ba (fun k => k = g) W (W.setCells g o vs) := by
  intro vs
  induction vs generalizing W with
  | nil => intro o; exact Ba.refl _ _
  | cons v r ih =>
    intro o
    rw [World.setCells]
    exact Ba.trans (p := fun k => k = g) (q := fun k => k = g) ((Ba.refl (fun k => k = g) W).set (g := g) (fun _ => rfl) o v) (ih (o + 1)) (fun _ _ e => e)
set_option maxRecDepth 100000 in
set_option maxHeartbeats 4000000 in
theorem btear_no (g o : Nat) (x : Wr) (old : List Int) (cut : Int) (w : World) (hr : w.rangeAt g o (wcl x)) (hx : Blk x.by_) (hc : ¬ (x.fr = false ∧ 0 ≤ cut ∧ cut < 64)) :
    Calls Try.prog 28 #[.pointer (some ⟨g, o, none⟩), .agg (bv old).toArray, .int .i64 cut] w fun e w' => e = .returned (.tuple #[]) ∧ w'.rangeAt g o (wcl (torn x old cut)) ∧ Ba (fun k => k = g) w w' := by
  rw [torn_no hc]
  have HR := hide hr
  have hbl : Below w.heap.size w (w.alloc (.cells (bv old).toArray 68)) := (Below.refl _ _).alloc (Nat.le_refl _) _
  have HR1 := hide (range_belW hr hbl)
  have HB := hide (Ba.of (p := fun k => k = g) hbl)
  have c1 := HR1.out 1 _ rfl
  obtain ⟨xa, xf, xb⟩ := x
  simp only at c1
  clear hr hbl
  cases xf
  · by_cases h0 : 0 ≤ cut
    · have h1 : ¬ cut < 64 := fun q => hc ⟨rfl, h0, q⟩
      clear hc
      go_enter Try.func28, Try.ntmps28
      go_wp2_with (first | (refine wpList_boxB _ rfl _ rfl old rfl ?_))
      exact bodyPost_end (v := .tuple #[]) (by simp [results, Try.results28]) rfl ⟨rfl, HR1.out, HB.out⟩
    · clear hc
      go_enter Try.func28, Try.ntmps28
      go_wp2_with (first | (refine wpList_boxB _ rfl _ rfl old rfl ?_))
      exact bodyPost_end (v := .tuple #[]) (by simp [results, Try.results28]) rfl ⟨rfl, HR1.out, HB.out⟩
  · clear hc
    go_enter Try.func28, Try.ntmps28
    go_wp2_with (first | (refine wpList_boxB _ rfl _ rfl old rfl ?_))
    exact bodyPost_end (v := .tuple #[]) (by simp [results, Try.results28]) rfl ⟨rfl, HR1.out, HB.out⟩
set_option maxRecDepth 100000 in
set_option maxHeartbeats 4000000 in
theorem btear_yes (g o n : Nat) (xa : Int) (xb old : List Int) (cur : Array Value) (t : TypeId) (w : World) (hr : w.rangeAt g o (wcl ⟨xa, false, xb⟩)) (hx : Blk xb) (ho : old.length = 64) (hn : n < 64) (hg : w.heap[g]? = some (.cells cur t (0, 0))) :
    Calls Try.prog 28 #[.pointer (some ⟨g, o, none⟩), .agg (bv old).toArray, .int .i64 (n : Int)] w fun e w' => e = .returned (.tuple #[]) ∧ w'.rangeAt g o (wcl ⟨xa, false, xb.take n ++ old.drop n⟩) ∧ Ba (fun k => k = g) w w' := by
  have hgl : g < w.heap.size := (Array.getElem?_eq_some_iff.1 hg).1
  have hbl : Below w.heap.size w (w.alloc (.cells (bv old).toArray 68)) := (Below.refl _ _).alloc (Nat.le_refl _) _
  have HR1 := hide (range_belW hr hbl)
  have HB := hide (Ba.of (p := fun k => k = g) hbl)
  have hg1 := (hbl.block g hgl).trans hg
  have HG : Hid ((w.alloc (.cells (bv old).toArray 68)).rangeAt w.heap.size 0 (bv old)) := hide (range_newW w _ _)
  have h64 : (64 : Int) - (n : Int) = ((64 - n : Nat) : Int) := by omega
  have hlen : (bv (old.drop n)).length = 64 - n := by rw [bv_len, List.length_drop, ho]
  have hcp : ∀ ty, (Builtin.copy_ #[23, 23] ty #[.slice (some ⟨g, o + 2 + n, none⟩) (64 - n) (64 - n), .slice (some ⟨w.heap.size, n, none⟩) (64 - n) (64 - n)]).run Try.prog ((w.alloc (.cells (bv old).toArray 68)).drew) = .ok (.int .i64 ((64 - n : Nat) : Int)) (((w.alloc (.cells (bv old).toArray 68)).drew).setCells g (o + 2 + n) (bv (old.drop n))) := fun ty => by
    have := run_copy_cells (P := Try.prog) ((w.alloc (.cells (bv old).toArray 68)).drew) 23 23 ty 5 g (o + 2 + n) (64 - n) (64 - n) ⟨w.heap.size, n, none⟩ (64 - n) (64 - n) (bv (old.drop n)) Try.underlying23 infoU (by rw [hlen]; exact (Nat.min_self _).symm)
      (fun j v hv => by
        rw [Addr.add_lit]
        have := HG.out (n + j) v (by
          simp only [bv] at hv ⊢
          rw [List.getElem?_map] at hv ⊢
          rw [← List.getElem?_drop]
          exact hv)
        rwa [Nat.zero_add] at this) (fun j hj => by
        rw [hlen] at hj
        have := HR1.out (2 + n + j) _ (List.getElem?_eq_getElem (by rw [wcl_len' hx.1]; omega))
        rw [← Nat.add_assoc, ← Nat.add_assoc] at this
        exact (congrArg Option.isSome this).trans rfl) (fun j _ => by
        have : (w.alloc (.cells (bv old).toArray 68)).frozen? ⟨g, o + 2 + n + j, none⟩ = false := by simp only [World.frozen?, hg1]; simp
        exact this) (bv_one _)
    rw [this, hlen]
    rfl
  have HT : Hid ((((w.alloc (.cells (bv old).toArray 68)).drew).setCells g (o + 2 + n) (bv (old.drop n))).rangeAt g o (wcl ⟨xa, false, xb.take n ++ old.drop n⟩)) := hide (torn_range (W := (w.alloc (.cells (bv old).toArray 68)).drew) hx.1 ho hn HR1.out)
  have HBT : Hid (Ba (fun k => k = g) w (((w.alloc (.cells (bv old).toArray 68)).drew).setCells g (o + 2 + n) (bv (old.drop n)))) := hide ((HB.out.call (Below.refl _ _).drew).trans (ba_cells _ _) (fun _ _ e => e))
  have c1 := HR1.out 1 _ rfl
  clear hr hbl HB hg hg1
  go_enter Try.func28, Try.ntmps28
  go_upto_region 2 with (first | (refine wpList_boxB _ rfl _ rfl old rfl ?_))
  refine wp_region_held_drew (S := fun _ => True) (by kernel_rfl) trivial (fun hHeld => ?_)
  refine wpAnyH_take (i := 0) (oi := _) (v := .pointer (some ⟨g, o, none⟩)) rfl (by kernel_rfl) (by kernel_rfl) (by kernel_rfl) (fun _ _ _ h => h) (Or.inl ⟨by rfl, by intro w hSw; go_simp⟩) hHeld ?_
  change wpAnyH _ _ _ _ _ _ _ (Act.put _ (some 19) _) _
  simp only [Act.put, List.setIfInBounds_toArray, List.set_cons_zero, List.set_cons_succ]
  refine wpAnyH_take (i := 1) (oi := _) (v := .pointer (some ⟨g, o, none⟩)) rfl (by kernel_rfl) (by kernel_rfl) (by kernel_rfl) (fun _ _ _ h => h) (Or.inl ⟨by rfl, by intro w hSw; go_simp⟩) hHeld ?_
  change wpAnyH _ _ _ _ _ _ _ (Act.put _ (some 20) _) _
  simp only [Act.put, List.setIfInBounds_toArray, List.set_cons_zero, List.set_cons_succ]
  refine wpAnyH_take (i := 2) (oi := _) (v := .pointer (some ⟨g, o + 2, none⟩)) rfl (by kernel_rfl) (by kernel_rfl) (by kernel_rfl) (fun _ _ _ h => h) (Or.inl ⟨by rfl, by intro w hSw; go_simp⟩) hHeld ?_
  change wpAnyH _ _ _ _ _ _ _ (Act.put _ (some 21) _) _
  simp only [Act.put, List.setIfInBounds_toArray, List.set_cons_zero, List.set_cons_succ]
  refine wpAnyH_take (i := 3) (oi := _) (v := .int .i64 (n : Int)) rfl (by kernel_rfl) (by kernel_rfl) (by kernel_rfl) (fun _ _ _ h => h) (Or.inl ⟨by rfl, by intro w hSw; go_simp⟩) hHeld ?_
  change wpAnyH _ _ _ _ _ _ _ (Act.put _ (some 22) _) _
  simp only [Act.put, List.setIfInBounds_toArray, List.set_cons_zero, List.set_cons_succ]
  refine wpAnyH_take (i := 4) (oi := _) (v := .slice (some ⟨g, o + 2 + n, none⟩) (64 - n) (64 - n)) rfl (by kernel_rfl) (by kernel_rfl) (by kernel_rfl) (fun _ _ _ h => h) (yields_slc (by rfl) _ _ rfl _ _ n rfl rfl hn) hHeld ?_
  change wpAnyH _ _ _ _ _ _ _ (Act.put _ (some 23) _) _
  simp only [Act.put, List.setIfInBounds_toArray, List.set_cons_zero, List.set_cons_succ]
  refine wpAnyH_take (i := 5) (oi := _) (v := .int .i64 (n : Int)) rfl (by kernel_rfl) (by kernel_rfl) (by kernel_rfl) (fun _ _ _ h => h) (Or.inl ⟨by rfl, by intro w hSw; go_simp⟩) hHeld ?_
  change wpAnyH _ _ _ _ _ _ _ (Act.put _ (some 24) _) _
  simp only [Act.put, List.setIfInBounds_toArray, List.set_cons_zero, List.set_cons_succ]
  refine wpAnyH_take (i := 6) (oi := _) (v := .slice (some ⟨w.heap.size, 0 + n, none⟩) (64 - n) (64 - n)) rfl (by kernel_rfl) (by kernel_rfl) (by kernel_rfl) (fun _ _ _ h => h) (yields_slc (by rfl) _ _ rfl _ _ n rfl rfl hn) hHeld ?_
  change wpAnyH _ _ _ _ _ _ _ (Act.put _ (some 25) _) _
  simp only [Act.put, List.setIfInBounds_toArray, List.set_cons_zero, List.set_cons_succ]
  rw [Nat.zero_add]
  refine wpAnyH_ready (rs := [7]) (by kernel_rfl) (by simp) ?_
  refine AllReadyH.cons (o := _) rfl (fun K hK => ?_) AllReadyH.nil
  have hc1 := hcp 3
  go_simp
  refine hK.out _ _ trivial (fun hHeld1 => ?_)
  clear hK K hHeld hHeld1
  refine wpAnyH_done (by kernel_rfl) ?_ _
  go_wp2
  exact bodyPost_end (v := .tuple #[]) (by simp [results, Try.results28]) rfl ⟨rfl, HT.out, HBT.out⟩
end Go.Proofs.Ytiedbchlgcgdeaa
