/-
  A ROW OF BYTES THAT IS WRITTEN ON, WITH ALL ITS CELLS: what an append leaves of it, of any bytes, none among them. Condition: fewer than a million bytes.
-/
import Derived.Test.YtkihdceieljkgaaProg
import Derived.Test.YtkihdceieljkgaaSlc
import Derived.Test.YtkihdceieljkgaaWnum
import Derived.WalkKit
import Derived.WalkSpells
import Derived.Below
import Derived.Laws.CopyOwn
import Derived.Deep.AppendSrc
namespace Go.Proofs.Ytkihdceieljkgaa
open Go.RowKit

theorem infoB : (Try.prog.info? 5).map (fun i => (i.zero, i.size, i.bytes)) = some (some (.int .u8 0), 1, 1) := by kernel_rfl
/-- The slice v, of length n, is nil or the head of a row of its own with the cells cur. -/
def Rw (B : Nat) (w : World) (v : Value) (n : Nat) (cur : List Value) : Prop :=
  n ≤ cur.length ∧ cur.length ≤ maxLen ∧ ((v = .slice none 0 0 ∧ cur = []) ∨ ∃ g, v = .slice (some ⟨g, 0, none⟩) n cur.length ∧ B ≤ g ∧ w.heap[g]? = some (.cells cur.toArray 5 (0, 0)))
theorem rw_nil (B : Nat) (w : World) : Rw B w (.slice none 0 0) 0 [] := ⟨Nat.le_refl _, Nat.zero_le _, .inl ⟨rfl, rfl⟩⟩
theorem Rw.below {B : Nat} {w w' : World} {v : Value} {n : Nat} {cur : List Value} (h : Rw B w v n cur) (hb : Below w.heap.size w w') : Rw B w' v n cur := by
  obtain ⟨h1, h2, h3⟩ := h
  refine ⟨h1, h2, ?_⟩
  rcases h3 with h3 | ⟨g, a1, a2, a3⟩
  · exact .inl h3
  · refine .inr ⟨g, a1, a2, ?_⟩
    rw [hb.block g (Array.getElem?_eq_some_iff.1 a3).1]
    exact a3
theorem Rw.owns {B : Nat} {w : World} {v : Value} {n : Nat} {cur : List Value} (h : Rw B w v n cur) : w.ownsRow B 5 1 v n (cur.take n) := by
  obtain ⟨h1, h2, h3⟩ := h
  refine ⟨by rw [List.length_take]; omega, ?_⟩
  rcases h3 with ⟨rfl, rfl⟩ | ⟨g, a1, a2, a3⟩
  · exact .inl ⟨rfl, by simpa using h1⟩
  · exact .inr ⟨g, cur.length, cur.toArray, a1, a2, a3, h1, h2, by simp, by simp⟩
theorem Rw.of {B : Nat} {w : World} {v : Value} {n : Nat} {xs : List Value} (h : w.ownsRow B 5 1 v n xs) : ∃ cur, Rw B w v n cur ∧ cur.take n = xs := by
  obtain ⟨h1, h2⟩ := h
  rcases h2 with ⟨rfl, rfl⟩ | ⟨g, cap, cur, rfl, a2, a3, a4, a5, a6, a7⟩
  · exact ⟨[], rw_nil _ _, by simp at h1; simp [h1]⟩
  · have e1 : cur.toList.length = cap := by simpa using a6
    exact ⟨cur.toList, ⟨by omega, by omega, .inr ⟨g, by rw [e1], a2, by simpa using a3⟩⟩, by simpa using a7⟩
/-- What was written behind: the bytes news. Where there was room for them the row is the same one, and what lies behind them has stayed. -/
structure Put (B : Nat) (w : World) (v : Value) (n : Nat) (cur : List Value) (w' : World) (v' : Value) (m : Nat) (cur' news : List Value) : Prop where
  rw : Rw B w' v' (n + m) cur'
  tk : cur'.take (n + m) = cur.take n ++ news
  len : news.length = m
  fit : n + m ≤ cur.length → v'.ownBlock = v.ownBlock ∧ cur'.length = cur.length ∧ cur'.drop (n + m) = cur.drop (n + m)
  below : Below B w w'
  grown : w.grownBy w' v.ownBlock
  blk : v'.ownBlock = v.ownBlock ∨ ∀ g, v'.ownBlock = some g → w.heap.size ≤ g
theorem Put.pre {B : Nat} {w W : World} {v : Value} {n : Nat} {cur : List Value} {w' : World} {v' : Value} {m : Nat} {cur' news : List Value} (h : Put B W v n cur w' v' m cur' news) (hB : B ≤ w.heap.size) (hb : Below w.heap.size w W) : Put B w v n cur w' v' m cur' news :=
  ⟨h.rw, h.tk, h.len, h.fit, (hb.mono hB).trans h.below, ⟨h.grown.os.trans hb.os, h.grown.tape.trans hb.tape, h.grown.output.trans hb.output, Nat.le_trans hb.size h.grown.size, fun k hk hp => (h.grown.block k (Nat.lt_of_lt_of_le hk hb.size) hp).trans (hb.block k hk)⟩,
    h.blk.imp id (fun q g hg => Nat.le_trans hb.size (q g hg))⟩
theorem Put.trans {B : Nat} {w w1 w2 : World} {v v1 v2 : Value} {n m1 m2 : Nat} {cur cur1 cur2 x1 x2 : List Value} (h : Put B w v n cur w1 v1 m1 cur1 x1) (k : Put B w1 v1 (n + m1) cur1 w2 v2 m2 cur2 x2) : Put B w v n cur w2 v2 (m1 + m2) cur2 (x1 ++ x2) := by
  refine ⟨by rw [← Nat.add_assoc]; exact k.rw, ?_, by rw [List.length_append, h.len, k.len], ?_, h.below.trans k.below, ⟨k.grown.os.trans h.grown.os, k.grown.tape.trans h.grown.tape, k.grown.output.trans h.grown.output, Nat.le_trans h.grown.size k.grown.size, fun i hi hp => ?_⟩, ?_⟩
  · rw [← Nat.add_assoc, k.tk, h.tk, List.append_assoc]
  · intro hf
    obtain ⟨a1, a2, a3⟩ := h.fit (by omega)
    obtain ⟨b1, b2, b3⟩ := k.fit (by omega)
    refine ⟨b1.trans a1, b2.trans a2, ?_⟩
    rw [← Nat.add_assoc, b3]
    have := congrArg (List.drop m2) a3
    rw [List.drop_drop, List.drop_drop] at this
    exact this
  · refine (k.grown.block i (Nat.lt_of_lt_of_le hi h.grown.size) ?_).trans (h.grown.block i hi hp)
    rcases h.blk with q | q
    · rw [q]; exact hp
    · intro e
      have := q i e.symm
      omega
  · rcases k.blk with q | q
    · rw [q]; exact h.blk
    · exact .inr fun g hg => Nat.le_trans h.grown.size (q g hg)
theorem run_append_rw (w : World) (ty : TypeId) (B : Nat) (v : Value) (n : Nat) (cur : List Value) (hr : Rw B w v n cur) (hB : B ≤ w.heap.size) (ad : Addr) (m c : Nat) (news : List Value) (hl : news.length = m) (hm : 0 < m)
    (hnews : ∀ j u, news[j]? = some u → w.cell? (ad.add j) = some u) (h1 : ∀ u ∈ news, u.oneCell' = true) (hn : n + m ≤ 1000000) :
    ∃ w' v' cur', (Builtin.append_ #[31, 31] ty #[v, .slice (some ad) m c]).run Try.prog w = .ok v' w' ∧ Put B w v n cur w' v' m cur' news := by
  obtain ⟨i0, hi, hz0, hz1, hz2⟩ := info_parts infoB
  obtain ⟨r1, r2, r3⟩ := id hr
  by_cases hf : n + m ≤ cur.length
  · rcases r3 with ⟨_, rfl⟩ | ⟨g, rfl, a2, a3⟩
    · simp at hf; omega
    · have e := run_append_room (P := Try.prog) w 31 ty 5 i0 Try.underlying31 hi g n cur.length cur.toArray a3 ad m c news (by rw [hz1]; omega) hnews h1 hf (by rw [hz1, hl]; simp; omega)
      rw [hz1] at e
      simp only [Nat.mul_one] at e
      have hlen : (cur.take n ++ news ++ cur.drop (n + news.length)).length = cur.length := by simp; omega
      refine ⟨_, _, cur.take n ++ news ++ cur.drop (n + news.length), e, ⟨by omega, by omega, .inr ⟨g, by rw [hlen], a2, setRow_heap w g _ _ 5 _ a3⟩⟩, ?_, hl, ?_, ?_, ?_, ?_⟩
      · rw [List.take_append_of_le_length (by simp; omega)]
        exact List.take_of_length_le (by simp; omega)
      · intro _
        refine ⟨rfl, hlen, ?_⟩
        rw [List.drop_append, List.drop_eq_nil_of_le (by simp; omega), List.nil_append, hl]
        have : n + m - (cur.take n ++ news).length = 0 := by simp; omega
        rw [this, List.drop_zero]
      · exact below_setRow (Below.refl _ _) a2 _
      · exact ⟨rfl, rfl, rfl, by simp, fun k _ hk => setRow_other w g k _ (fun e => hk (by rw [e]; rfl))⟩
      · exact .inl rfl
  · obtain ⟨v', w', e, hown, hg, _⟩ := run_append_own (P := Try.prog) w B 31 ty 5 i0 (.int .u8 0) 1 1 Try.underlying31 hi hz0 hz1 hz2 rfl (by decide) v n (cur.take n) hr.owns ad m c news (by omega) hnews h1 (by unfold maxLen; omega) (by omega) hB
    obtain ⟨cur', k1, k2⟩ := Rw.of hown
    refine ⟨w', v', cur', e, k1, k2, hl, fun h => absurd h hf, (Below.refl _ _).grown hg hB (fun j hj => (hr.owns.lt j hj).1), hg, .inr ?_⟩
    have hsrc : Src Try.prog i0.size 31 (.slice (some ad) m c) m news w := Src.ofSlice w Try.underlying31 ad m c news (by rw [hz1]; omega) hnews h1
    have hnew : ∃ G W, (Builtin.append_ #[31, 31] ty #[v, .slice (some ad) m c]).run Try.prog w = .ok (.slice (some ⟨w.heap.size, 0, none⟩) (n + m) G) W := by
      rcases r3 with ⟨rfl, rfl⟩ | ⟨g, rfl, a2, a3⟩
      · have hn0 : n = 0 := by simpa using r1
        subst hn0
        exact ⟨_, _, run_append_grow_src w 31 31 ty 5 i0 (.int .u8 0) Try.underlying31 hi hz0 none 0 0 [] (run_firstCells_none _ _ _ _ _) _ m news hsrc (by omega) (by omega) (growslice_fits (by omega) (by rw [hz2]; omega))⟩
      · refine ⟨_, _, run_append_grow_src w 31 31 ty 5 i0 (.int .u8 0) Try.underlying31 hi hz0 (some ⟨g, 0, none⟩) n cur.length (cur.take n) (run_firstCells_some _ _ _ _ _ _ _ (by rw [hz1, List.length_take]; omega) ?_) _ m news hsrc (by omega) (by omega) (growslice_fits (by omega) (by rw [hz2]; omega))⟩
        intro j u hj
        rw [Addr.add_lit]
        have hj' : cur[j]? = some u := by
          rw [List.getElem?_take] at hj
          split at hj
          · exact hj
          · simp at hj
        simp only [World.cell?, World.drew, a3, Nat.zero_add]
        simpa using hj'
    obtain ⟨G, W, e2⟩ := hnew
    rw [e] at e2
    cases e2
    intro g hg
    cases hg
    exact Nat.le_refl _
theorem wpList_append_rw (w : World) {ops : Array Oper} {rest : List Oper} {o : Oper} {a : Act} {Q : Exit → Act → World → Prop} (hgd : o.guard = none) (s x : Operand)
    (ho : o.op = .call { callee := .builtin .append, args := #[s, x], argTypes := #[31, 31] }) (B : Nat) (v : Value) (n : Nat) (cur : List Value) (hs : a.eval s = v) (hr : Rw B w v n cur) (hB : B ≤ w.heap.size) (ad : Addr) (m c : Nat) (news : List Value)
    (hx : a.eval x = .slice (some ad) m c) (hl : news.length = m) (hm : 0 < m) (hnews : ∀ j u, news[j]? = some u → w.cell? (ad.add j) = some u) (h1 : ∀ u ∈ news, u.oneCell' = true) (hn : n + m ≤ 1000000)
    (h : ∀ w' v' cur', Put B w v n cur w' v' m cur' news → wpList Try.prog ops Q rest (a.put o.dst v') w') : wpList Try.prog ops Q (o :: rest) a w := by
  refine wpList_plain hgd fun K hK => ?_
  obtain ⟨w', v', cur', hrun, hp⟩ := run_append_rw w o.type B v n cur hr hB ad m c news hl hm hnews h1 hn
  unfold Oper.wp
  simp [execOp, ho, resolve, invoke, builtin, hs, hx, hrun, Result.andThen]
  exact hK _ _ (h w' v' cur' hp)
theorem Put.post {B : Nat} {w : World} {v : Value} {n : Nat} {cur : List Value} {w' w2 : World} {v' : Value} {m : Nat} {cur' news : List Value} (h : Put B w v n cur w' v' m cur' news) (hB : B ≤ w'.heap.size) (hb : Below w'.heap.size w' w2) : Put B w v n cur w2 v' m cur' news :=
  ⟨h.rw.below hb, h.tk, h.len, h.fit, h.below.trans (hb.mono hB), ⟨hb.os.trans h.grown.os, hb.tape.trans h.grown.tape, hb.output.trans h.grown.output, Nat.le_trans h.grown.size hb.size, fun k hk hp => (hb.block k (Nat.lt_of_lt_of_le hk h.grown.size)).trans (h.grown.block k hk hp)⟩, h.blk⟩
theorem cells_at (w : World) (xs : List Value) (t : TypeId) : ∀ j u, xs[j]? = some u → (w.alloc (.cells xs.toArray t)).cell? ((⟨w.heap.size, 0, none⟩ : Addr).add j) = some u := by
  intro j u hj
  rw [Addr.add_lit, World.cell?_alloc_at _ _ _ _ rfl]
  simpa using hj
theorem one_bytes (l : List Int) : ∀ u ∈ bv l, u.oneCell' = true := Sl.one (f := bc) (fun _ => rfl) l
theorem Put.idle {B : Nat} {w : World} {v : Value} {n : Nat} {cur : List Value} (hr : Rw B w v n cur) : Put B w v n cur w v 0 cur (bv []) :=
  ⟨hr, by simp [bv_eq], rfl, fun _ => ⟨rfl, rfl, rfl⟩, Below.refl _ _, ⟨rfl, rfl, rfl, Nat.le_refl _, fun _ _ _ => rfl⟩, .inl rfl⟩
theorem run_append_sl (w : World) (ty : TypeId) (B : Nat) (v : Value) (n : Nat) (cur : List Value) (hr : Rw B w v n cur) (hB : B ≤ w.heap.size) (u : Value) (l : List Int) (hu : Sl bc w u l) (hn : n + l.length ≤ 1000000) :
    ∃ w' v' cur', (Builtin.append_ #[31, 31] ty #[v, u]).run Try.prog w = .ok v' w' ∧ Put B w v n cur w' v' l.length cur' (bv l) := by
  by_cases h0 : 0 < l.length
  · rcases hu with ⟨ao, cap, rfl, rfl⟩ | ⟨b, o, cap, rfl, h2, h3⟩
    · simp at h0
    · exact run_append_rw w ty B v n cur hr hB ⟨b, o, none⟩ l.length cap (bv l) (by simp [bv_eq]) h0 (by rw [bv_eq]; exact Sl.news h3) (one_bytes l) hn
  · obtain ⟨ao, cap, rfl⟩ := hu.form
    obtain rfl : l = [] := List.length_eq_zero_iff.1 (by omega)
    refine ⟨w, v, cur, ?_, Put.idle hr⟩
    obtain ⟨i0, hi, hz0, hz1, hz2⟩ := info_parts infoB
    have hl0 : ∀ a : Addr, (loadCells a 0).run Try.prog w = .ok #[] w := fun a => by simp [loadCells, loadCellsFrom]
    rcases hr.2.2 with ⟨rfl, rfl⟩ | ⟨g, rfl, _⟩
    · cases ao <;> simp [Builtin.append_, run_underlying Try.underlying31, sizeOf, typeInfo, hi, Builtin.lenOf, Builtin.firstCells, hl0]
    · have hle := hr.1
      cases ao <;> simp [Builtin.append_, run_underlying Try.underlying31, sizeOf, typeInfo, hi, Builtin.lenOf, Builtin.firstCells, hle, hl0, storeCells]
theorem wpList_append_sl (w : World) {ops : Array Oper} {rest : List Oper} {o : Oper} {a : Act} {Q : Exit → Act → World → Prop} (hgd : o.guard = none) (s x : Operand)
    (ho : o.op = .call { callee := .builtin .append, args := #[s, x], argTypes := #[31, 31] }) (B : Nat) (v : Value) (n : Nat) (cur : List Value) (hs : a.eval s = v) (hr : Rw B w v n cur) (hB : B ≤ w.heap.size) (u : Value) (l : List Int)
    (hx : a.eval x = u) (hu : Sl bc w u l) (hn : n + l.length ≤ 1000000)
    (h : ∀ w' v' cur', Put B w v n cur w' v' l.length cur' (bv l) → wpList Try.prog ops Q rest (a.put o.dst v') w') : wpList Try.prog ops Q (o :: rest) a w := by
  refine wpList_plain hgd fun K hK => ?_
  obtain ⟨w', v', cur', hrun, hp⟩ := run_append_sl w o.type B v n cur hr hB u l hu hn
  unfold Oper.wp
  simp [execOp, ho, resolve, invoke, builtin, hs, hx, hrun, Result.andThen]
  exact hK _ _ (h w' v' cur' hp)
theorem sl_new (w : World) (l : List Int) (hm : l.length ≤ maxLen) : Sl bc (w.alloc (.cells (bv l).toArray 5)) (.slice (some ⟨w.heap.size, 0, none⟩) l.length l.length) l := by
  have h := owns_new w (bv l) 5 (by rw [bv_eq]; simpa using hm)
  refine sl_of_owns (base := w.heap.size) (e := 5) ?_
  simpa [bv_eq] using h
end Go.Proofs.Ytkihdceieljkgaa
