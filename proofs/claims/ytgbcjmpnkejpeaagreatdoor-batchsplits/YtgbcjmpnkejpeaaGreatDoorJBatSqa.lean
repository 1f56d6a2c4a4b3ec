/-
  ROWS OF BATCHES WHOSE LAST ONE IS BEING FILLED, the records' own rows lying in older memory. Condition: fewer than a hundred thousand batches and records.
-/
import Derived.Test.YtgbcjmpnkejpeaaGreatDoorJBatOfa3
namespace Go.Proofs.YtgbcjmpnkejpeaaGreatDoor
open Go.RowKit

/-- A row of batches, all of them filled. -/
structure Sz (w W : World) (y : Value) (qs : List Bq) : Prop where
  own : W.ownsRow w.heap.size 48 3 y qs.length (bcs qs)
  el : ∀ q ∈ qs, Rl (fun k => w.heap.size ≤ k ∧ y.ownBlock ≠ some k) (fun k => k < w.heap.size) W q.u q.ps
  be : Below w.heap.size w W
/-- A row of batches and one more, whose records are written on. -/
structure Sy (w W : World) (y : Value) (fs : List Bq) (l : Bq) : Prop where
  own : W.ownsRow w.heap.size 48 3 y (fs.length + 1) (bcs fs ++ bce l)
  el : ∀ q ∈ fs, Rl (fun k => w.heap.size ≤ k ∧ y.ownBlock ≠ some k ∧ l.u.ownBlock ≠ some k) (fun k => k < w.heap.size) W q.u q.ps
  la : W.ownsRow w.heap.size 35 18 l.u l.ps.length (rcs l.ps)
  ne : ∀ g, l.u.ownBlock = some g → y.ownBlock ≠ some g
  rw : ∀ q ∈ l.ps, RwP (fun k => k < w.heap.size) W q
  be : Below w.heap.size w W
/-- The same, its last batch in a box, too. -/
structure Sb (w W : World) (y : Value) (fs : List Bq) (l : Bq) (d : Nat) : Prop where
  own : W.ownsRow w.heap.size 48 3 y (fs.length + 1) (bcs fs ++ bce l)
  el : ∀ q ∈ fs, Rl (fun k => w.heap.size ≤ k ∧ y.ownBlock ≠ some k ∧ l.u.ownBlock ≠ some k ∧ k ≠ d) (fun k => k < w.heap.size) W q.u q.ps
  la : W.ownsRow w.heap.size 35 18 l.u l.ps.length (rcs l.ps)
  ne : ∀ g, l.u.ownBlock = some g → y.ownBlock ≠ some g
  rw : ∀ q ∈ l.ps, RwP (fun k => k < w.heap.size) W q
  be : Below w.heap.size w W
  x0 : W.cell? ⟨d, 0, none⟩ = some (.int .i64 l.t)
  x1 : W.cell? ⟨d, 1, none⟩ = some (.int .i64 l.b)
  x2 : W.cell? ⟨d, 2, none⟩ = some l.u
  xf : ∀ i, W.frozen? ⟨d, i, none⟩ = false
  dy : y.ownBlock ≠ some d
  dl : l.u.ownBlock ≠ some d
  hd : w.heap.size ≤ d
section
variable {w W W' : World} {y y' : Value} {qs fs : List Bq} {l : Bq} {d : Nat}
theorem sz_new (w : World) : Sz w w (.slice none 0 0) [] := ⟨World.ownsRow_nil _ _ _ _, fun q hq => by simp at hq, Below.refl _ _⟩
theorem Sz.below (h : Sz w W y qs) (hb : Below W.heap.size W W') : Sz w W' y qs :=
  ⟨owns_below h.own hb, fun q hq => (h.el q hq).below hb, h.be.trans (hb.mono h.be.size)⟩
theorem Sy.below (h : Sy w W y fs l) (hb : Below W.heap.size W W') : Sy w W' y fs l :=
  ⟨owns_below h.own hb, fun q hq => (h.el q hq).below hb, owns_below h.la hb, h.ne, fun q hq => (h.rw q hq).below hb, h.be.trans (hb.mono h.be.size)⟩
theorem Sb.below (h : Sb w W y fs l d) (hb : Below W.heap.size W W') : Sb w W' y fs l d :=
  have hdW : d < W.heap.size := cell_block h.x0
  have hc : ∀ i, W'.cell? ⟨d, i, none⟩ = W.cell? ⟨d, i, none⟩ := fun i => hb.cell (p := ⟨d, i, none⟩) hdW
  have hf : ∀ i, W'.frozen? ⟨d, i, none⟩ = W.frozen? ⟨d, i, none⟩ := fun i => hb.frozen (p := ⟨d, i, none⟩) hdW
  ⟨owns_below h.own hb, fun q hq => (h.el q hq).below hb, owns_below h.la hb, h.ne, fun q hq => (h.rw q hq).below hb, h.be.trans (hb.mono h.be.size), by rw [hc]; exact h.x0, by rw [hc]; exact h.x1, by rw [hc]; exact h.x2, fun i => by rw [hf]; exact h.xf i, h.dy, h.dl, h.hd⟩
/-- The last batch's records, as they lie. -/
theorem Sy.last (h : Sy w W y fs l) : Rl (fun k => w.heap.size ≤ k ∧ y.ownBlock ≠ some k) (fun k => k < w.heap.size) W l.u l.ps := by
  refine ⟨?_, h.rw⟩
  by_cases h0 : 0 < l.ps.length
  · obtain ⟨g, cap, e, e1, e2, e3, e4, _⟩ := owns_range h.la h0
    exact .inr ⟨g, 0, cap, e, e2, ⟨e1, h.ne g (by rw [e]; rfl)⟩, h0, e4⟩
  · have e : l.ps = [] := List.length_eq_zero_iff.1 (by omega)
    rw [e]
    rcases h.la.2 with ⟨e1, _⟩ | ⟨g, cap, cur, e1, _⟩
    · exact .inl ⟨_, _, rfl, e1⟩
    · rw [e] at e1; exact .inl ⟨_, _, rfl, e1⟩
theorem Sy.sz (h : Sy w W y fs l) : Sz w W y (fs ++ [l]) := by
  refine ⟨by rw [bcs_app, bcs_one, List.length_append]; exact h.own, fun q hq => ?_, h.be⟩
  rcases List.mem_append.1 hq with e | e
  · exact (h.el q e).imp (fun k _ hk => ⟨hk.1, hk.2.1⟩) (fun _ _ k => k) (fun _ _ _ _ => rfl)
  · simp at e; subst e; exact h.last
theorem Sz.bl (h : Sz w W y qs) : Bl W y qs := by
  refine ⟨?_, fun q hq => (h.el q hq).any⟩
  by_cases h0 : 0 < qs.length
  · obtain ⟨g, cap, rfl, _, e2, _, e4, _⟩ := owns_range h.own h0
    exact .inr ⟨g, 0, cap, rfl, e2, h0, e4⟩
  · have e : qs = [] := List.length_eq_zero_iff.1 (by omega)
    subst e
    rcases h.own.2 with ⟨rfl, _⟩ | ⟨g, cap, cur, rfl, _⟩ <;> exact .inl ⟨_, _, rfl, rfl⟩
/-- One empty batch more. -/
theorem Sz.app (h : Sz w W y qs) (t b : Int) (ho : W'.ownsRow w.heap.size 48 3 y' (qs.length + 1) (bcs qs ++ bce ⟨t, b, .slice none 0 0, []⟩)) (hg : W.grownBy W' y.ownBlock) (hu : y'.ownBlock = y.ownBlock ∨ y'.ownBlock = some W.heap.size) : Sy w W' y' qs ⟨t, b, .slice none 0 0, []⟩ := by
  refine ⟨ho, fun q hq => (h.el q hq).imp (fun k hl hk => ⟨hk.1, ?_, fun e => by simp [Value.ownBlock] at e⟩) (fun _ _ k => k) (fun k i hl hk => ?_), World.ownsRow_nil _ _ _ _, fun g e => by simp [Value.ownBlock] at e, fun q hq => by simp at hq, ?_⟩
  · rcases hu with e | e
    · rw [e]; exact hk.2
    · rw [e]; intro q; cases q; omega
  · refine World.cell?_of_block (hg.block k hl (fun e => ?_))
    rcases hk with ⟨_, h2⟩ | h2
    · exact h2 e.symm
    · have := (h.own.lt k e.symm).1; omega
  · exact ⟨hg.os.trans h.be.os, hg.tape.trans h.be.tape, hg.output.trans h.be.output, Nat.le_trans h.be.size hg.size, fun k hk => (hg.block k (by have := h.be.size; omega) (fun e => by have := (h.own.lt k e.symm).1; omega)).trans (h.be.block k hk)⟩
/-- The last batch is laid into a box of its own. -/
theorem Sy.box (h : Sy w W y fs l) : Sb w (W.alloc (.cells #[.int .i64 l.t, .int .i64 l.b, l.u] 48)) y fs l W.heap.size := by
  have hbl : Below W.heap.size W (W.alloc (.cells #[.int .i64 l.t, .int .i64 l.b, l.u] 48)) := (Below.refl _ _).alloc (Nat.le_refl _) _
  have k := h.below hbl
  refine ⟨k.own, fun q hq => ((h.el q hq).imp (okb' := (fun k => w.heap.size ≤ k ∧ y.ownBlock ≠ some k ∧ l.u.ownBlock ≠ some k ∧ k ≠ W.heap.size)) (fun k hl hk => ⟨hk.1, hk.2.1, hk.2.2, by omega⟩) (fun _ _ k => k) (fun _ _ _ _ => rfl)).below hbl, k.la, k.ne, k.rw, k.be, by simp, by simp, by simp, fun i => by simp, fun e => ?_, fun e => ?_, h.be.size⟩
  · have := (h.own.lt _ e).2; omega
  · have := (h.la.lt _ e).2; omega
theorem owns_ne {C : Nat} {e : TypeId} {u : Value} {n size X i : Nat} {x : Value} {xs : List Value} (h : W.ownsRow C e size u n xs) (hX : u.ownBlock ≠ some X) : (W.setCell ⟨X, i, none⟩ x).ownsRow C e size u n xs :=
  h.kept (row := some X) ⟨rfl, rfl, rfl, by simp, fun k _ hk => Below.heap_setCell _ _ _ _ (fun q => hk (by rw [q]))⟩ (.inr hX)
theorem bce_set (fs : List Bq) (l : Bq) (u : Value) : (((bcs fs ++ bce l).set (fs.length * 3) (.int .i64 l.t)).set (fs.length * 3 + 1) (.int .i64 l.b)).set (fs.length * 3 + 2) u = bcs fs ++ [.int .i64 l.t, .int .i64 l.b, u] := by
  have hl := bcs_len fs
  rw [List.set_append_right _ _ (by omega), List.set_append_right _ _ (by omega), List.set_append_right _ _ (by omega), hl, Nat.sub_self, Nat.add_sub_cancel_left, Nat.add_sub_cancel_left]
  rfl
/-- One record more in the last batch: in the box, and back in its place. -/
theorem Sb.fin {g cap : Nat} {u' : Value} {q : Rp} (h : Sb w W y fs l d) (hy : y = .slice (some ⟨g, 0, none⟩) (fs.length + 1) cap) (hq : RwP (fun k => k < w.heap.size) W q) (ho : W'.ownsRow w.heap.size 35 18 u' (l.ps.length + 1) (rcs l.ps ++ cel q)) (hg : W.grownBy W' l.u.ownBlock) (hu : u'.ownBlock = l.u.ownBlock ∨ u'.ownBlock = some W.heap.size) :
    ((W'.cell? ⟨d, 0, none⟩ = some (.int .i64 l.t) ∧ W'.cell? ⟨d, 1, none⟩ = some (.int .i64 l.b) ∧ W'.cell? ⟨d, 2, none⟩ = some l.u ∧ (∀ i, W'.frozen? ⟨d, i, none⟩ = false)) ∧
    ((W'.setCell ⟨d, 2, none⟩ u').cell? ⟨d, 0, none⟩ = some (.int .i64 l.t) ∧ (W'.setCell ⟨d, 2, none⟩ u').cell? ⟨d, 1, none⟩ = some (.int .i64 l.b) ∧ (W'.setCell ⟨d, 2, none⟩ u').cell? ⟨d, 2, none⟩ = some u') ∧
    ((W'.setCell ⟨d, 2, none⟩ u').cell? ⟨g, fs.length * 3, none⟩ = some (.int .i64 l.t) ∧ (W'.setCell ⟨d, 2, none⟩ u').cell? ⟨g, fs.length * 3 + 1, none⟩ = some (.int .i64 l.b) ∧ (W'.setCell ⟨d, 2, none⟩ u').cell? ⟨g, fs.length * 3 + 2, none⟩ = some l.u ∧ ∀ i, (W'.setCell ⟨d, 2, none⟩ u').frozen? ⟨g, i, none⟩ = false)) ∧
    Sy w ((((W'.setCell ⟨d, 2, none⟩ u').setCell ⟨g, fs.length * 3, none⟩ (.int .i64 l.t)).setCell ⟨g, fs.length * 3 + 1, none⟩ (.int .i64 l.b)).setCell ⟨g, fs.length * 3 + 2, none⟩ u') y fs ⟨l.t, l.b, u', l.ps ++ [q]⟩ := by
  have hyg : y.ownBlock = some g := by rw [hy]; rfl
  have hlg : l.u.ownBlock ≠ some g := fun e => h.ne g e hyg
  have hgd : d ≠ g := fun e => h.dy (by rw [hyg, e])
  have hdW : d < W.heap.size := cell_block h.x0
  have hgW := h.own.lt g hyg
  have hu1 : ∀ k, k < W.heap.size → l.u.ownBlock ≠ some k → u'.ownBlock ≠ some k := fun k hk hn => by
    rcases hu with e | e
    · rw [e]; exact hn
    · rw [e]; intro q; cases q; omega
  have hc : ∀ k i, k < W.heap.size → l.u.ownBlock ≠ some k → W'.cell? ⟨k, i, none⟩ = W.cell? ⟨k, i, none⟩ := fun k i hk hn => World.cell?_of_block (hg.block k hk (fun e => hn e.symm))
  have hf : ∀ k i, k < W.heap.size → l.u.ownBlock ≠ some k → W'.frozen? ⟨k, i, none⟩ = W.frozen? ⟨k, i, none⟩ := fun k i hk hn => World.frozen?_of_block (hg.block k hk (fun e => hn e.symm))
  have hs : ∀ k j, k ≠ d → (W'.setCell ⟨d, 2, none⟩ u').cell? ⟨k, j, none⟩ = W'.cell? ⟨k, j, none⟩ := fun k j hk => World.cell?_setCell_other _ _ _ _ (fun q => hk (congrArg Addr.block q).symm)
  have own1 : (W'.setCell ⟨d, 2, none⟩ u').ownsRow w.heap.size 48 3 y (fs.length + 1) (bcs fs ++ bce l) := owns_ne (h.own.kept hg (.inr (by rw [hyg]; exact fun e => hlg e.symm))) h.dy
  have own2 := own1
  rw [hy] at own2
  have at3 : ∀ i v, (bce l)[i]? = some v → (W'.setCell ⟨d, 2, none⟩ u').cell? ⟨g, fs.length * 3 + i, none⟩ = some v := fun i v hv => by
    have hi : i < 3 := (List.getElem?_eq_some_iff.1 hv).1
    rw [own2.cellAt _ (by omega), List.getElem?_append_right (by rw [bcs_len]; omega), bcs_len, Nat.add_sub_cancel_left]
    exact hv
  refine ⟨⟨⟨by rw [hc _ _ hdW h.dl]; exact h.x0, by rw [hc _ _ hdW h.dl]; exact h.x1, by rw [hc _ _ hdW h.dl]; exact h.x2, fun i => by rw [hf _ _ hdW h.dl]; exact h.xf i⟩, ⟨by rw [cell_off (by omega), hc _ _ hdW h.dl]; exact h.x0, by rw [cell_off (by omega), hc _ _ hdW h.dl]; exact h.x1, World.cell?_setCell_same _ _ _ (by rw [hc _ _ hdW h.dl]; exact h.x2)⟩, at3 0 _ rfl, at3 1 _ rfl, at3 2 _ rfl, fun i => own2.frozenAt i⟩, ?_⟩
  have st := ((((own2.stored (fs.length * 3) (.int .i64 l.t)).1).stored (fs.length * 3 + 1) (.int .i64 l.b)).1.stored (fs.length * 3 + 2) u').1
  rw [bce_set] at st
  have hcells : ∀ k i, k < W.heap.size → l.u.ownBlock ≠ some k → k ≠ d → k ≠ g → ((((W'.setCell ⟨d, 2, none⟩ u').setCell ⟨g, fs.length * 3, none⟩ (.int .i64 l.t)).setCell ⟨g, fs.length * 3 + 1, none⟩ (.int .i64 l.b)).setCell ⟨g, fs.length * 3 + 2, none⟩ u').cell? ⟨k, i, none⟩ = W.cell? ⟨k, i, none⟩ := fun k i hk h1 h2 h3 => by
    rw [World.cell?_setCell_other _ _ _ _ (fun q => h3 (congrArg Addr.block q).symm), World.cell?_setCell_other _ _ _ _ (fun q => h3 (congrArg Addr.block q).symm), World.cell?_setCell_other _ _ _ _ (fun q => h3 (congrArg Addr.block q).symm), hs k i h2]
    exact hc k i hk h1
  have low : ∀ k, k < w.heap.size → k < W.heap.size ∧ l.u.ownBlock ≠ some k ∧ k ≠ d ∧ k ≠ g := fun k hk => ⟨by have := h.be.size; omega, fun e => by have := (h.la.lt k e).1; omega, by have := h.hd; omega, by omega⟩
  have hrow : ∀ r : Rp, RwP (fun k => k < w.heap.size) W r → RwP (fun k => k < w.heap.size) ((((W'.setCell ⟨d, 2, none⟩ u').setCell ⟨g, fs.length * 3, none⟩ (.int .i64 l.t)).setCell ⟨g, fs.length * 3 + 1, none⟩ (.int .i64 l.b)).setCell ⟨g, fs.length * 3 + 2, none⟩ u') r := fun r hr => hr.imp (fun _ _ k => k) (fun k i _ hk => by obtain ⟨e1, e2, e3, e4⟩ := low k hk; exact hcells k i e1 e2 e3 e4)
  refine ⟨by rw [hy]; exact st, fun r hr => (h.el r hr).imp (fun k hl hk => ⟨hk.1, hk.2.1, hu1 k hl hk.2.2.1⟩) (fun _ _ k => k) (fun k i hl hk => ?_), ?_, fun k e => ?_, fun r hr => ?_, ?_⟩
  · rcases hk with hk | hk
    · exact hcells k i hl hk.2.2.1 hk.2.2.2 (fun e => hk.2.1 (by rw [hyg, e]))
    · obtain ⟨e1, e2, e3, e4⟩ := low k hk
      exact hcells k i e1 e2 e3 e4
  · show World.ownsRow _ w.heap.size 35 18 u' (l.ps ++ [q]).length (rcs (l.ps ++ [q]))
    rw [rcs_app, rcs_one, List.length_append]
    have n1 : u'.ownBlock ≠ some g := hu1 g hgW.2 hlg
    exact owns_ne (owns_ne (owns_ne (owns_ne ho (hu1 d hdW h.dl)) n1) n1) n1
  · rw [hyg]
    intro q
    cases q
    exact hu1 g hgW.2 hlg e
  · rcases List.mem_append.1 hr with e | e
    · exact hrow r (h.rw r e)
    · simp at e; subst e; exact hrow _ hq
  · refine ⟨hg.os.trans h.be.os, hg.tape.trans h.be.tape, hg.output.trans h.be.output, ?_, fun k hk => ?_⟩
    · have := Nat.le_trans h.be.size hg.size
      simpa using this
    · obtain ⟨e1, e2, e3, e4⟩ := low k hk
      rw [Below.heap_setCell _ _ _ _ e4, Below.heap_setCell _ _ _ _ e4, Below.heap_setCell _ _ _ _ e4, Below.heap_setCell _ _ _ _ e3]
      exact (hg.block k e1 (fun e => e2 e.symm)).trans (h.be.block k hk)
end
end Go.Proofs.YtgbcjmpnkejpeaaGreatDoor
