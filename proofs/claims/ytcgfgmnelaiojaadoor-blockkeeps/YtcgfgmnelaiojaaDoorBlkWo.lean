/-
  BLOCKS THAT WERE READ, KEPT IN A ROW: one more; what stays of them while a store is turned. Condition: fewer than a hundred thousand.
-/
import Derived.Test.YtcgfgmnelaiojaaDoorBlkBg
import Derived.Test.YtcgfgmnelaiojaaDoorBlkN
namespace Go.Proofs.YtcgfgmnelaiojaaDoor
open Go.RowKit

theorem infoBs : (Tryd.prog.info? 38).map (fun i => (i.zero, i.size, i.bytes)) = some (some (.slice none 0 0), 1, 24) := by kernel_rfl
theorem ww_ne {W : World} {B g n : Nat} {v : Value} {xs : List Value} {b : List Int} (h : W.ownsRow B 38 1 v n xs) (ha : Ar W g b) : v.ownBlock ≠ some g := fun e => by
  rcases h.2 with ⟨rfl, _⟩ | ⟨g', cap, cur, rfl, a2, a3, _⟩
  · cases e
  · cases e
    have := a3.symm.trans ha.2
    simp at this
theorem run_append_wo (w : World) (ty : TypeId) (B : Nat) (v : Value) (ps : List Wo) (hown : Ww w B v ps) (hB : B ≤ w.heap.size) (ad : Addr) (c : Nat) (q : Wo) (hnews : ∀ j u, [woc q][j]? = some u → w.cell? (ad.add j) = some u) (hq : B ≤ q.1 ∧ Ar w q.1 q.2) (hn : ps.length + 1 ≤ 100000) :
    ∃ v' w', (Builtin.append_ #[49, 49] ty #[v, .slice (some ad) 1 c]).run Tryd.prog w = .ok v' w' ∧ Ww w' B v' (ps ++ [q]) ∧ w.grownBy w' v.ownBlock ∧ (v'.ownBlock = v.ownBlock ∨ v'.ownBlock = some w.heap.size) := by
  obtain ⟨i0, hi, hz0, hz1, hz2⟩ := info_parts infoBs
  obtain ⟨v', w', e, ho, hg, _, hb⟩ := run_append_own_at (P := Tryd.prog) w B 49 ty 38 i0 (.slice none 0 0) 1 24 Tryd.underlying49 hi hz0 hz1 hz2 rfl (by decide) v ps.length (ps.map woc) hown.own ad 1 c [woc q] rfl hnews (woc_one [q]) (by unfold maxLen; omega) (by omega) hB
  have hk : ∀ g b, Ar w g b → Ar w' g b := fun g b h => h.keep (hg.block g h.lt (fun e => ww_ne hown.own h e.symm))
  have ho' : w'.ownsRow B 38 1 v' (ps ++ [q]).length ((ps ++ [q]).map woc) := by rw [List.map_append, List.length_append]; exact ho
  refine ⟨v', w', e, ⟨ho', fun r hr => ?_⟩, hg, hb⟩
  rcases List.mem_append.1 hr with h | h
  · have h2 := hk _ _ (hown.mem r h).2.2
    exact ⟨(hown.mem r h).1, ww_ne ho' h2, h2⟩
  · simp at h; rw [h]
    exact ⟨hq.1, ww_ne ho' (hk _ _ hq.2), hk _ _ hq.2⟩
theorem wpList_appWo {ops : Array Oper} {rest : List Oper} {o : Oper} {a : Act} {Q : Exit → Act → World → Prop} (w : World) (hg : o.guard = none) (y z : Operand) (ho : o.op = .call { callee := .builtin .append, args := #[y, z], argTypes := #[49, 49] }) (B : Nat) (v : Value) (ps : List Wo) (hy : a.eval y = v) (hown : Ww w B v ps) (hB : B ≤ w.heap.size) (ad : Addr) (c : Nat) (q : Wo) (hz : a.eval z = .slice (some ad) 1 c) (hnews : ∀ j u, [woc q][j]? = some u → w.cell? (ad.add j) = some u)
    (hq : B ≤ q.1 ∧ Ar w q.1 q.2) (hn : ps.length + 1 ≤ 100000)
    (h : ∀ v' w', Ww w' B v' (ps ++ [q]) → w.grownBy w' v.ownBlock → (v'.ownBlock = v.ownBlock ∨ v'.ownBlock = some w.heap.size) → wpList Tryd.prog ops Q rest (a.put o.dst v') w') : wpList Tryd.prog ops Q (o :: rest) a w := by
  refine wpList_plain hg fun K hK => ?_
  obtain ⟨v', w', hrun, q1, q2, q3⟩ := run_append_wo w o.type B v ps hown hB ad c q hnews hq hn
  unfold Oper.wp
  simp [execOp, ho, resolve, invoke, builtin, hy, hz, hrun, Result.andThen]
  exact hK _ _ (h v' w' q1 q2 q3)
section
variable {d bS bT : Nat} {u : Value} {s : Dst}
theorem Dq.keep {W W' : World} (h : Dq W d bS bT u s) (hk : ∀ k, Own d bS bT u k → W'.heap[k]? = W.heap[k]?) : Dq W' d bS bT u s := ⟨h.dk.keep hk, h.ok⟩
/-- The row of what was read, and the block that it was read of first, lie where no store is. -/
structure Wx (W : World) (B d bS bT : Nat) (u v : Value) (ps : List Wo) (g : Nat) (x : List Int) : Prop where
  ww : Ww W B v ps
  no : ∀ k, v.ownBlock = some k → ¬ Own d bS bT u k
  na : ∀ q ∈ ps, ¬ Own d bS bT u q.1
  ar : Ar W g x
  ng : ¬ Own d bS bT u g
theorem Wx.step {W W' : World} {B : Nat} {u' v : Value} {ps : List Wo} {g : Nat} {x : List Int} (h : Wx W B d bS bT u v ps g x) (hx : Dx d bS bT u W W' u') : Wx W' B d bS bT u' v ps g x := by
  have hl : ∀ k, v.ownBlock = some k → k < W.heap.size := fun k e => (h.ww.own.lt k e).2
  refine ⟨⟨?_, fun q hq => ⟨(h.ww.mem q hq).1, (h.ww.mem q hq).2.1, (h.ww.mem q hq).2.2.keep (hx.ba.block _ (h.ww.mem q hq).2.2.lt (h.na q hq))⟩⟩, fun k e => hx.own (hl k e) (h.no k e), fun q hq => hx.own (h.ww.mem q hq).2.2.lt (h.na q hq), h.ar.keep (hx.ba.block _ h.ar.lt h.ng), hx.own h.ar.lt h.ng⟩
  obtain ⟨h1, h2⟩ := h.ww.own
  refine ⟨h1, ?_⟩
  rcases h2 with h2 | ⟨g', cap, cur, a1, a2, a3, a4⟩
  · exact .inl h2
  · have e : v.ownBlock = some g' := by rw [a1]; rfl
    exact .inr ⟨g', cap, cur, a1, a2, (hx.ba.block _ (hl _ e) (h.no _ e)).trans a3, a4⟩
theorem Wx.call {W W' : World} {B : Nat} {v : Value} {ps : List Wo} {g : Nat} {x : List Int} (h : Wx W B d bS bT u v ps g x) (hb : Below W.heap.size W W') : Wx W' B d bS bT u v ps g x := h.step (Dx.of hb)
/-- Behind one more. -/
theorem Wx.more {W W' : World} {B : Nat} {v v' : Value} {ps : List Wo} {q : Wo} {g : Nat} {x : List Int} (h : Wx W B d bS bT u v ps g x) (hd : Dq W d bS bT u s) (hw : Ww W' B v' (ps ++ [q])) (hg : W.grownBy W' v.ownBlock) (hu : v'.ownBlock = v.ownBlock ∨ v'.ownBlock = some W.heap.size) (hq : ¬ Own d bS bT u q.1) : Wx W' B d bS bT u v' (ps ++ [q]) g x ∧ Dq W' d bS bT u s := by
  refine ⟨⟨hw, fun k e => ?_, fun r hr => ?_, h.ar.keep (hg.block g h.ar.lt (fun e => ww_ne h.ww.own h.ar e.symm)), h.ng⟩, hd.keep (fun k hk => hg.block k (hd.dk.lt hk) (fun e => h.no k e.symm hk))⟩
  · rcases hu with q1 | q1
    · exact h.no k (by rw [← q1]; exact e)
    · rw [q1] at e; cases e
      intro hk; have := hd.dk.lt hk; omega
  · rcases List.mem_append.1 hr with e | e
    · exact h.na r e
    · simp at e; rw [e]; exact hq
end
end Go.Proofs.YtcgfgmnelaiojaaDoor
