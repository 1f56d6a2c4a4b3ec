/-
  THE NUMBERS OF A MAP's BLOCKS, SORTED (slices.Sorted of maps.Keys): a row of its own that holds them, rising. Condition: fewer than a hundred thousand.
  ALL BLOCKS THAT ARE SYNCED, BY THEIR NUMBERS (block.Cells): a row of its own, each block's bytes in memory of their own. Condition: fewer than a hundred thousand.
-/
import Derived.Test.YtoamghncncalgaaGreatDoorJBlkCra2
import Derived.Test.YtoamghncncalgaaGreatDoorJBlkVa2
import Derived.Lib.SlKeysI
namespace Go.Proofs.YtoamghncncalgaaGreatDoor
open Go.RowKit Go.Maps Go.Sort Go.Shelf

theorem sortsA (m : Nat) : AnyZI.SortsIn Tryz.prog sortedA_ren Fence.wide m :=
  ⟨fun blk off cap ss W hH hblk hsz => callsIn_wide.2 (AnyM.slices_Sort_int sortA blk off cap ss W hH hblk hsz),
   fun p cap W => callsIn_wide.2 (AnyM.slices_Sort_int_none sortA p cap W)⟩
theorem keys_call (mb : Option Nat) (W : World) : Calls Tryz.prog 78 #[.map mb] W fun e w' => e = .returned (.func (.func 90) #[] #[.pointer (some ⟨W.heap.size, 0, none⟩)]) ∧ w' = W.alloc (.cells #[.map mb] 78) :=
  (callsIn_wide (n := 5)).1 (AnyZI.keys_in keysA Fence.wide 5 trivial rfl mb W)
theorem sorted_call (b nn : Nat) (D0 : DataW Unit) (R : Value → Option (DataW Unit × List MemPlace)) (w : World) (hown : w.ownsMap Tryz.prog 3 R b nn D0) (hmax : Maps.size D0 ≤ maxLen) (hbytes : Maps.size D0 * 8 ≤ 140737488355328) :
    Calls Tryz.prog 77 #[.func (.func 90) #[] #[.pointer (some ⟨w.heap.size, 0, none⟩)]] (w.alloc (.cells #[.map (some b)] 78)) fun e w' => ∃ (v : Value) (ss : List Int), e = .returned v ∧ ss.Perm (intKeys D0) ∧
      w'.ownsRow w.heap.size 3 1 v ss.length ((ss.mergeSort (fun x y => decide (x ≤ y))).map encZ) ∧ Below w.heap.size w w' := by
  have hbl := hown.lt
  have hseq : SeqGives Fence.wide 2 Tryz.prog 90 #[.pointer (some ⟨w.heap.size, 0, none⟩)] encZ (fun ss => ss.Perm (intKeys D0)) (Maps.size D0) (w.alloc (.cells #[.map (some b)] 78)) :=
    AnyZI.keys_gives (ρ := keysA_ren) { keysA with } Fence.wide _ trivial rfl (by omega) w.heap.size b nn D0 _ (by simp) (by simp) (by
      obtain ⟨es, clock, hb, Ft, hs, hD⟩ := hown
      exact ⟨es, clock, (Below.heap_alloc _ _ b hbl).trans hb, Ft, hs, hD⟩)
  have cS := AnyZI.sorted_in sortedA Fence.wide 5 trivial trivial trivial trivial rfl (by omega) (sortsA _) (enters_of Tryz.func89 (by kernel_rfl) rfl) 90 #[.pointer (some ⟨w.heap.size, 0, none⟩)] trivial (enters_of Tryz.func90 (by kernel_rfl) rfl) _ _ hmax hbytes _ hseq
  change CallsIn _ _ Tryz.prog 77 _ _ _ at cS
  refine ((callsIn_wide (n := 5)).1 cS).mono ?_
  rintro e w' ⟨v, ss, rfl, hS, hrow, _, hb⟩
  exact ⟨v, ss, rfl, hS, ownsRow_base_a hrow (by simp), ((Below.refl _ w).alloc (Nat.le_refl _) _).trans (hb.mono (by simp))⟩
theorem keys_dm (l : Cs) : intKeys (dm l : DataW Unit) = l.map (·.1) := by
  simp [intKeys, dm, Go.intOf]
theorem sorted_keys {l : Cs} (h : Asc l) {ss : List Int} (hp : ss.Perm (l.map (·.1))) : ss.mergeSort (fun x y => decide (x ≤ y)) = l.map (·.1) := by
  have hs : (l.map (·.1)).Pairwise (fun x y => decide (x ≤ y) = true) := by
    rw [List.pairwise_map]
    exact h.imp (fun {a b} hab => by simp; omega)
  have h1 : (ss.mergeSort (fun x y => decide (x ≤ y))).Perm (l.map (·.1)) := (List.mergeSort_perm _ _).trans hp
  have h2 : (ss.mergeSort (fun x y => decide (x ≤ y))).Pairwise (fun x y => decide (x ≤ y) = true) := List.pairwise_mergeSort (fun a b c => by simp; omega) (fun a b => by simp; omega) ss
  exact List.Perm.eq_of_pairwise (le := fun x y => decide (x ≤ y) = true) (fun a b _ _ q1 q2 => by simp at q1 q2; omega) h2 hs h1
/-- The numbers of a map's blocks, sorted. -/
theorem sorted_any (b : Nat) (l : Cs) (w : World) (hm : Mp w b l) (hA : Asc l) (hn : l.length < 100000) :
    Calls Tryz.prog 77 #[.func (.func 90) #[] #[.pointer (some ⟨w.heap.size, 0, none⟩)]] (w.alloc (.cells #[.map (some b)] 78)) fun e w' => ∃ v, e = .returned v ∧ Sl ic w' v (l.map (·.1)) ∧ Below w.heap.size w w' := by
  have hsz : Maps.size (dm l : DataW Unit) = l.length := dm_size l
  refine (sorted_call b _ _ _ w hm (by rw [hsz]; unfold maxLen; omega) (by rw [hsz]; omega)).mono ?_
  rintro e w' ⟨v, ss, rfl, hp, hr, hb⟩
  rw [keys_dm] at hp
  refine ⟨v, rfl, ?_, hb⟩
  rw [sorted_keys hA hp, hp.length_eq] at hr
  exact sl_of_owns hr
end Go.Proofs.YtoamghncncalgaaGreatDoor
namespace Go.Proofs.YtoamghncncalgaaGreatDoor
open Go.RowKit

/-- A cell that is told: its number, the block in which its bytes lie, they. -/
abbrev Ce := Int × Nat × List Int
def cec (q : Ce) : List Value := [.int .i64 q.1, .slice (some ⟨q.2.1, 0, none⟩) 64 64]
def ces (ps : List Ce) : List Value := ps.flatMap cec
theorem ces_app (a b : List Ce) : ces (a ++ b) = ces a ++ ces b := by simp [ces, List.flatMap_append]
theorem ces_one (q : Ce) : ces [q] = cec q := by simp [ces]
theorem cec_one (q : Ce) : ∀ u ∈ cec q, u.oneCell' = true := fun u hu => by
  simp only [cec, List.mem_cons, List.not_mem_nil, or_false] at hu
  rcases hu with rfl | rfl <;> rfl
/-- What is told of the blocks l: a row of its own, from block B on. -/
structure Cw (W : World) (B : Nat) (v : Value) (ps : List Ce) : Prop where
  own : W.ownsRow B 88 2 v ps.length (ces ps)
  mem : ∀ q ∈ ps, B ≤ q.2.1 ∧ v.ownBlock ≠ some q.2.1 ∧ W.heap[q.2.1]? = some (.cells (bv q.2.2).toArray 101 (0, 0))
def csOf (ps : List Ce) : Cs := ps.map fun q => (q.1, q.2.2)
theorem Cw.below {W W' : World} {B : Nat} {v : Value} {ps : List Ce} (h : Cw W B v ps) (hb : Below W.heap.size W W') : Cw W' B v ps :=
  ⟨owns_below h.own hb, fun q hq => ⟨(h.mem q hq).1, (h.mem q hq).2.1, (hb.block _ (Array.getElem?_eq_some_iff.1 (h.mem q hq).2.2).1).trans (h.mem q hq).2.2⟩⟩
theorem cw_nil (W : World) (B : Nat) : Cw W B (.slice none 0 0) [] := ⟨World.ownsRow_nil _ _ _ _, fun q hq => by simp at hq⟩
theorem cw_form {W : World} {B : Nat} {v : Value} {ps : List Ce} (h : Cw W B v ps) : ∃ a c, v = .slice a ps.length c := by
  rcases h.own.2 with ⟨e, h0⟩ | ⟨g, cap, cur, e, _⟩
  · exact ⟨none, 0, by rw [e, h0]⟩
  · exact ⟨_, _, e⟩
theorem infoCe : (Tryz.prog.info? 88).map (fun i => (i.zero, i.size, i.bytes)) = some (some (.agg #[.int .i64 0, .slice none 0 0]), 2, 32) := by kernel_rfl
theorem run_append_ce (w : World) (ty : TypeId) (B : Nat) (v : Value) (ps : List Ce) (hown : Cw w B v ps) (hB : B ≤ w.heap.size) (ad : Addr) (c : Nat) (q : Ce) (hnews : ∀ j u, (cec q)[j]? = some u → w.cell? (ad.add j) = some u)
    (hq : B ≤ q.2.1 ∧ v.ownBlock ≠ some q.2.1 ∧ w.heap[q.2.1]? = some (.cells (bv q.2.2).toArray 101 (0, 0))) (hn : ps.length + 1 ≤ 100000) :
    ∃ v' w', (Builtin.append_ #[34, 34] ty #[v, .slice (some ad) 1 c]).run Tryz.prog w = .ok v' w' ∧ Cw w' B v' (ps ++ [q]) ∧ w.grownBy w' v.ownBlock := by
  obtain ⟨i0, hi, hz0, hz1, hz2⟩ := info_parts infoCe
  obtain ⟨v', w', e, ho, hg, _, hb⟩ := run_append_own_at (P := Tryz.prog) w B 34 ty 88 i0 (.agg #[.int .i64 0, .slice none 0 0]) 2 32 Tryz.underlying34 hi hz0 hz1 hz2 rfl (by decide) v ps.length (ces ps) hown.own ad 1 c (cec q) rfl hnews (cec_one q) (by unfold maxLen; omega) (by omega) hB
  have hm : ∀ r : Ce, (B ≤ r.2.1 ∧ v.ownBlock ≠ some r.2.1 ∧ w.heap[r.2.1]? = some (.cells (bv r.2.2).toArray 101 (0, 0))) → (B ≤ r.2.1 ∧ v'.ownBlock ≠ some r.2.1 ∧ w'.heap[r.2.1]? = some (.cells (bv r.2.2).toArray 101 (0, 0))) := fun r hr => by
    have hlt := (Array.getElem?_eq_some_iff.1 hr.2.2).1
    refine ⟨hr.1, ?_, (hg.block _ hlt (fun e => hr.2.1 e.symm)).trans hr.2.2⟩
    rcases hb with q | q
    · rw [q]; exact hr.2.1
    · rw [q]; intro e; have := Option.some.inj e; omega
  refine ⟨v', w', e, ⟨by rw [ces_app, ces_one, List.length_append]; exact ho, fun r hr => ?_⟩, hg⟩
  rcases List.mem_append.1 hr with h | h
  · exact hm r (hown.mem r h)
  · simp at h; rw [h]; exact hm q hq
theorem wpList_appC {ops : Array Oper} {rest : List Oper} {o : Oper} {a : Act} {Q : Exit → Act → World → Prop} (w : World) (hg : o.guard = none) (y z : Operand) (ho : o.op = .call { callee := .builtin .append, args := #[y, z], argTypes := #[34, 34] }) (B : Nat) (v : Value) (ps : List Ce) (hy : a.eval y = v) (hown : Cw w B v ps) (hB : B ≤ w.heap.size) (ad : Addr) (c : Nat) (q : Ce) (hz : a.eval z = .slice (some ad) 1 c) (hnews : ∀ j u, (cec q)[j]? = some u → w.cell? (ad.add j) = some u)
    (hq : B ≤ q.2.1 ∧ v.ownBlock ≠ some q.2.1 ∧ w.heap[q.2.1]? = some (.cells (bv q.2.2).toArray 101 (0, 0))) (hn : ps.length + 1 ≤ 100000)
    (h : ∀ v' w', Cw w' B v' (ps ++ [q]) → w.grownBy w' v.ownBlock → wpList Tryz.prog ops Q rest (a.put o.dst v') w') : wpList Tryz.prog ops Q (o :: rest) a w := by
  refine wpList_plain hg fun K hK => ?_
  obtain ⟨v', w', hrun, q1, q2⟩ := run_append_ce w o.type B v ps hown hB ad c q hnews hq hn
  unfold Oper.wp
  simp [execOp, ho, resolve, invoke, builtin, hy, hz, hrun, Result.andThen]
  exact hK _ _ (h v' w' q1 q2)
theorem wpList_look2 {ops : Array Oper} {rest : List Oper} {o : Oper} {a : Act} {Q : Exit → Act → World → Prop} (w : World) (hg : o.guard = none) (x y : Operand) (ho : o.op = .lookup 78 x y false) (b : Nat) (n : Int) (l : Cs) (hx : a.eval x = .map (some b)) (hy : a.eval y = .int .i64 n) (hm : Mp w b l) (hn : Num n) (c : List Int) (hc : (look l n).getD zer = c)
    (h : wpList Tryz.prog ops Q rest (a.put o.dst (.agg (bv c).toArray)) w) : wpList Tryz.prog ops Q (o :: rest) a w := by
  subst hc
  exact wpList_look w hg x y ho b n l hx hy hm hn h
theorem csOf_app (a b : List Ce) : csOf (a ++ b) = csOf a ++ csOf b := by simp [csOf]
section
variable {d bS bT : Nat} {u : Value} {s : Dst} {tk : Cs} {lo : List Wr}
set_option maxRecDepth 100000 in
set_option maxHeartbeats 8000000 in
theorem bcells_any (w : World) (h : Dk w d bS bT u s tk lo) (hA : Asc s.cs) (hb : ∀ p ∈ s.cs, Num p.1 ∧ Blk p.2) (hn : s.cs.length < 100000) :
    Calls Tryz.prog 57 #[.pointer (some ⟨d, 0, none⟩)] w fun e w' => ∃ v ps, e = .returned v ∧ Cw w' w.heap.size v ps ∧ csOf ps = s.cs ∧ Below w.heap.size w w' := by
  have HH := hide h
  have HA := hide hA
  have HB := hide hb
  have j1 := h.c1
  clear h hA hb
  go_enter Tryz.func57, Tryz.ntmps57
  go_wp2_with (first
    | (go_at_call 78; refine (keys_call _ _).mono ?_; rintro e w1 ⟨rfl, hw1⟩; rw [hw1]; clear hw1 w1)
    | (go_at_call 77; refine (sorted_any bS s.cs w HH.out.ms HA.out hn).mono ?_; rintro e w2 ⟨kv, rfl, hks, hb2⟩; obtain ⟨ak, ck, rfl⟩ := hks.form; have HKS := hide hks; have HB2 := hide hb2; clear hks hb2 j1))
  have hkl : (s.cs.map (·.1)).length = s.cs.length := by simp
  rw [hkl] at HKS
  have HD2 := hide (HH.out.below HB2.out)
  go_loopw [3, 14] (fun t i W => ∃ (k : Nat) (ps : List Ce), k ≤ s.cs.length ∧ i = .int .i64 k ∧ Cw W w2.heap.size t ps ∧ csOf ps = s.cs.take k ∧ Below w2.heap.size w2 W) (fun _ i _ => s.cs.length - (iv i).toNat)
  case atStart => exact ⟨0, [], Nat.zero_le _, rfl, cw_nil _ _, rfl, Below.refl _ _⟩
  case round =>
    obtain ⟨k, ps, hk, rfl, hcw, hps, hbw⟩ := hrel
    by_cases hlt : k < s.cs.length
    · rcases HKS.out with ⟨_, _, e, _⟩ | ⟨kb, ko, ck', e, h2, h3⟩
      · rw [List.map_eq_nil_iff] at e; rw [e] at hlt; simp at hlt
      have hka : kb < w2.heap.size ∧ w2.cell? ⟨kb, ko + k, none⟩ = some (.int .i64 s.cs[k].1) := by
        have := h3 k (by rw [hkl]; exact hlt)
        simp only [List.getElem_map] at this
        exact ⟨cell_block this, this⟩
      have hck : wr.cell? ⟨kb, ko + k, none⟩ = some (.int .i64 s.cs[k].1) := (hbw.cell (p := ⟨kb, ko + k, none⟩) hka.1).trans hka.2
      rw [hkl] at e
      cases e
      have HT : Hid (s.cs.take (k + 1) = s.cs.take k ++ [s.cs[k]]) := hide (take_step hlt)
      have HNB : Hid (Num s.cs[k].1 ∧ Blk s.cs[k].2) := hide (HB.out _ (List.getElem_mem hlt))
      have HLK : Hid ((look s.cs s.cs[k].1).getD zer = s.cs[k].2) := hide (by rw [(mem_look HA.out (a := s.cs[k].1) (b := s.cs[k].2)).1 (List.getElem_mem hlt)]; rfl)
      have HPL : Hid (ps.length + 1 ≤ 100000) := hide (by have := congrArg List.length hps; simp [csOf] at this; omega)
      obtain ⟨av, cv, rfl⟩ := cw_form hcw
      have HCW := hide hcw
      have HPS := hide hps
      have HBW := hide hbw
      have HD3 := hide (HD2.out.below HBW.out)
      generalize s.cs[k] = x at hck HT HNB HLK
      obtain ⟨xa, xb⟩ := x
      simp only at hck HNB HLK
      have i1 := HD3.out.c1
      clear hcw hps hbw h2 h3 hka
      go_upto_region 6 with (first | (refine wpList_look2 _ rfl _ _ rfl _ _ _ rfl rfl HD3.out.ms HNB.out.1 xb HLK.out ?_) | (refine wpList_allocB _ rfl rfl ?_) | (refine wpList_storeB _ rfl _ _ rfl zer _ zer_len HNB.out.2.1 rfl rfl ?_))
      clear i1 hck
      have hbl : Below wr.heap.size wr (wr.alloc (.cells (bv xb).toArray 101)) := (Below.refl _ _).alloc (Nat.le_refl _) _
      have HCW1 := hide (HCW.out.below hbl)
      have HBW1 := hide (HBW.out.trans (hbl.mono HBW.out.size))
      have HG : Hid ((wr.alloc (.cells (bv xb).toArray 101)).heap[wr.heap.size]? = some (.cells (bv xb).toArray 101 (0, 0))) := hide Array.getElem?_push_size
      have HGB : Hid (w2.heap.size ≤ wr.heap.size) := hide HBW.out.size
      have HGU : Hid ((Value.slice av ps.length cv).ownBlock ≠ some wr.heap.size) := hide (fun e => by have := (HCW.out.own.lt _ e).2; omega)
      generalize wr.alloc (.cells (bv xb).toArray 101) = V at HCW1 HBW1 HG ⊢
      generalize wr.heap.size = G at HG HGB HGU ⊢
      clear hbl HCW HBW HD3
      have hal : ∀ o, Below V.heap.size V (V.alloc o) := fun o => (Below.refl _ _).alloc (Nat.le_refl _) o
      go_wp2_with (first | (at_builtin; refine wpList_appC _ rfl _ _ rfl w2.heap.size _ ps rfl (HCW1.out.below (hal _)) (Nat.le_trans HBW1.out.size (hal _).size) ⟨V.heap.size, 0, none⟩ 1 (xa, G, xb) rfl (range_newsW (range_newW V (cec (xa, G, xb)) _)) ⟨HGB.out, HGU.out, ((hal _).block G (Array.getElem?_eq_some_iff.1 HG.out).1).trans HG.out⟩ HPL.out ?_; intro v' W7 hcw hgr; have HCW2 := hide hcw; have HGR := hide hgr; clear hcw hgr))
      refine ⟨⟨k + 1, ps ++ [(xa, G, xb)], by omega, by go_num, HCW2.out, by rw [csOf_app, HPS.out, HT.out]; rfl, ?_⟩, by simp [iv]; omega⟩
      have h7 := HBW1.out.trans ((hal (.cells (cec (xa, G, xb)).toArray 88)).mono HBW1.out.size)
      exact h7.grown HGR.out h7.size (fun j e => (HCW1.out.own.lt j e).1)
    · have HE : Hid (s.cs.take k = s.cs) := hide (List.take_of_length_le (by omega))
      have HCW := hide hcw
      have HPS := hide hps
      have HBW := hide hbw
      clear hcw hps hbw
      go_wp2
      go_ret
      exact ⟨_, ps, rfl, ⟨owns_mono HCW.out.own HB2.out.size, fun q hq => ⟨Nat.le_trans HB2.out.size (HCW.out.mem q hq).1, (HCW.out.mem q hq).2⟩⟩, by rw [HPS.out, HE.out], HB2.out.trans (HBW.out.mono HB2.out.size)⟩
end
end Go.Proofs.YtoamghncncalgaaGreatDoor
