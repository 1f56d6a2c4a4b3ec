/-
  ROWS OF FRAMES: their cells, their bodies, an append to one that is written on; and what stays where some blocks are written. Condition: fewer than a hundred thousand frames.
-/
import Derived.Test.YtenahnbfaekljaaFnext
namespace Go.Proofs.Ytenahnbfaekljaa
open Go.RowKit

/-- All that was there stays, but for the blocks of S. -/
structure Ex (S : Nat → Prop) (w w' : World) : Prop where
  os : w'.os = w.os
  tape : w'.tape = w.tape
  output : w'.output = w.output
  size : w.heap.size ≤ w'.heap.size
  block : ∀ k, k < w.heap.size → ¬ S k → w'.heap[k]? = w.heap[k]?
theorem Ex.refl (S : Nat → Prop) (w : World) : Ex S w w := ⟨rfl, rfl, rfl, Nat.le_refl _, fun _ _ _ => rfl⟩
theorem Ex.trans {S : Nat → Prop} {a b c : World} (h : Ex S a b) (k : Ex S b c) : Ex S a c :=
  ⟨k.os.trans h.os, k.tape.trans h.tape, k.output.trans h.output, Nat.le_trans h.size k.size, fun i hi hp => (k.block i (Nat.lt_of_lt_of_le hi h.size) hp).trans (h.block i hi hp)⟩
theorem Ex.of {S : Nat → Prop} {a b : World} (k : Below a.heap.size a b) : Ex S a b := ⟨k.os, k.tape, k.output, k.size, fun i hi _ => k.block i hi⟩
theorem Ex.grown {S : Nat → Prop} {a b : World} {r : Option Nat} (k : a.grownBy b r) (h : ∀ g, r = some g → S g) : Ex S a b := ⟨k.os, k.tape, k.output, k.size, fun i hi hp => k.block i hi (fun e => hp (h i e.symm))⟩
theorem Ex.set {S : Nat → Prop} {p : Nat} (a : World) (h : S p) (i : Nat) (x : Value) : Ex S a (a.setCell ⟨p, i, none⟩ x) :=
  ⟨rfl, rfl, rfl, by simp [World.setCell], fun _ _ hp => Below.heap_setCell _ _ _ _ (fun e => hp (by rw [e]; exact h))⟩
theorem Ex.mono {S T : Nat → Prop} {a b : World} (h : Ex S a b) (hs : ∀ k, k < a.heap.size → S k → T k) : Ex T a b := ⟨h.os, h.tape, h.output, h.size, fun i hi hp => h.block i hi (fun q => hp (hs i hi q))⟩
theorem Ex.below {S : Nat → Prop} {B : Nat} {a b : World} (h : Ex S a b) (hB : B ≤ a.heap.size) (hs : ∀ k, k < B → ¬ S k) : Below B a b := ⟨h.os, h.tape, h.output, h.size, fun k hk => h.block k (by omega) (hs k hk)⟩
theorem Ex.cell {S : Nat → Prop} {a b : World} (h : Ex S a b) {g i : Nat} (hg : g < a.heap.size) (hs : ¬ S g) : b.cell? ⟨g, i, none⟩ = a.cell? ⟨g, i, none⟩ := World.cell?_of_block (h.block g hg hs)
/-- A slice of bytes whose block is one that may be. -/
def Slo (ok : Nat → Prop) (W : World) (v : Value) (l : List Int) : Prop :=
  (∃ ao cap, l = [] ∧ v = .slice ao 0 cap) ∨
  (∃ b o cap, v = .slice (some ⟨b, o, none⟩) l.length cap ∧ l.length ≤ cap ∧ ok b ∧ ∀ i (h : i < l.length), W.cell? ⟨b, o + i, none⟩ = some (bc l[i]))
theorem Slo.sl {ok : Nat → Prop} {W : World} {v : Value} {l : List Int} (h : Slo ok W v l) : Sl bc W v l := by
  rcases h with h | ⟨b, o, cap, h1, h2, _, h3⟩
  · exact .inl h
  · exact .inr ⟨b, o, cap, h1, h2, h3⟩
theorem Sld.slo {hi : Nat} {W : World} {v : Value} {l : List Int} (h : Sld 0 hi bc W v l) : Slo (fun b => hi ≤ b ∧ b < W.heap.size) W v l := by
  rcases h with h | ⟨b, o, cap, h1, h2, hp, h3⟩
  · exact .inl h
  · by_cases hl : 0 < l.length
    · exact .inr ⟨b, o, cap, h1, h2, ⟨by omega, cell_block (h3 0 hl)⟩, h3⟩
    · exact .inl ⟨_, _, List.length_eq_zero_iff.1 (by omega), by rw [h1, show l.length = 0 by omega]⟩
theorem Slo.mono {ok ok' : Nat → Prop} {W : World} {v : Value} {l : List Int} (h : Slo ok W v l) (hk : ∀ b, b < W.heap.size → ok b → ok' b) : Slo ok' W v l := by
  rcases h with h | ⟨b, o, cap, h1, h2, h4, h3⟩
  · exact .inl h
  · by_cases hl : 0 < l.length
    · exact .inr ⟨b, o, cap, h1, h2, hk b (cell_block (h3 0 hl)) h4, h3⟩
    · exact .inl ⟨_, _, List.length_eq_zero_iff.1 (by omega), by rw [h1, show l.length = 0 by omega]⟩
theorem Slo.ex {ok S : Nat → Prop} {W W' : World} {v : Value} {l : List Int} (h : Slo ok W v l) (hx : Ex S W W') (hs : ∀ b, ok b → ¬ S b) : Slo ok W' v l := by
  rcases h with h | ⟨b, o, cap, h1, h2, h4, h3⟩
  · exact .inl h
  · exact .inr ⟨b, o, cap, h1, h2, h4, fun i hi => (hx.cell (cell_block (h3 i hi)) (hs b h4)).trans (h3 i hi)⟩
theorem Slo.below {ok : Nat → Prop} {W W' : World} {v : Value} {l : List Int} (h : Slo ok W v l) (hb : Below W.heap.size W W') : Slo ok W' v l :=
  h.ex (Ex.of (S := fun _ => False) hb) (fun _ _ q => q)
/-- The cells of frames. -/
def fcs (ps : List (Int × Value)) : List Value := ps.flatMap fun p => [.int .i64 p.1, p.2]
theorem fcs_len (ps : List (Int × Value)) : (fcs ps).length = ps.length * 2 := by
  induction ps with
  | nil => rfl
  | cons p ps ih => simp only [fcs, List.flatMap_cons, List.length_append, List.length_cons, List.length_nil] at *; omega
theorem fcs_app (a b : List (Int × Value)) : fcs (a ++ b) = fcs a ++ fcs b := by simp [fcs, List.flatMap_append]
theorem fcs_get (ps : List (Int × Value)) (i : Nat) (h : i < ps.length) : (fcs ps)[i * 2]? = some (.int .i64 ps[i].1) ∧ (fcs ps)[i * 2 + 1]? = some ps[i].2 := by
  induction ps generalizing i with
  | nil => simp at h
  | cons p ps ih =>
    have e : fcs (p :: ps) = .int .i64 p.1 :: p.2 :: fcs ps := rfl
    cases i with
    | zero => exact ⟨rfl, rfl⟩
    | succ i =>
      have h2 := ih i (by simpa using h)
      have e1 : (i + 1) * 2 = i * 2 + 1 + 1 := by omega
      rw [e, e1, List.getElem?_cons_succ, List.getElem?_cons_succ, List.getElem?_cons_succ, List.getElem?_cons_succ]
      exact h2
/-- The frames' kinds, and their bodies. -/
def Bod (ok : Nat → Prop) (W : World) : List (Int × Value) → List (Int × List Int) → Prop
  | [], [] => True
  | p :: ps, f :: fs => (p.1 = f.1 ∧ Slo ok W p.2 f.2) ∧ Bod ok W ps fs
  | _, _ => False
theorem Bod.len {ok : Nat → Prop} {W : World} : ∀ {ps : List (Int × Value)} {fs : List (Int × List Int)}, Bod ok W ps fs → ps.length = fs.length
  | [], [], _ => rfl
  | _ :: _, _ :: _, h => by have := Bod.len h.2; simp only [List.length_cons]; omega
  | [], _ :: _, h => h.elim
  | _ :: _, [], h => h.elim
theorem Bod.app {ok : Nat → Prop} {W : World} : ∀ {ps : List (Int × Value)} {fs : List (Int × List Int)} {qs : List (Int × Value)} {gs : List (Int × List Int)}, Bod ok W ps fs → Bod ok W qs gs → Bod ok W (ps ++ qs) (fs ++ gs)
  | [], [], _, _, _, k => k
  | _ :: _, _ :: _, _, _, h, k => ⟨h.1, Bod.app h.2 k⟩
  | [], _ :: _, _, _, h, _ => h.elim
  | _ :: _, [], _, _, h, _ => h.elim
theorem Bod.imp {ok ok' : Nat → Prop} {W W' : World} (hi : ∀ v l, Slo ok W v l → Slo ok' W' v l) : ∀ {ps : List (Int × Value)} {fs : List (Int × List Int)}, Bod ok W ps fs → Bod ok' W' ps fs
  | [], [], _ => trivial
  | _ :: _, _ :: _, h => ⟨⟨h.1.1, hi _ _ h.1.2⟩, Bod.imp hi h.2⟩
  | [], _ :: _, h => h.elim
  | _ :: _, [], h => h.elim
theorem Bod.get {ok : Nat → Prop} {W : World} : ∀ {ps : List (Int × Value)} {fs : List (Int × List Int)}, Bod ok W ps fs → ∀ i (h : i < ps.length) (h' : i < fs.length), ps[i].1 = fs[i].1 ∧ Slo ok W ps[i].2 fs[i].2
  | [], [], _, i, h, _ => by simp at h
  | _ :: _, _ :: _, h, 0, _, _ => h.1
  | _ :: _, _ :: _, h, i + 1, h1, h2 => Bod.get h.2 i (by simpa using h1) (by simpa using h2)
  | [], _ :: _, h, _, _, _ => h.elim
  | _ :: _, [], h, _, _, _ => h.elim
theorem Bod.one {ok : Nat → Prop} {W : World} {K : Int} {u : Value} {l : List Int} (h : Slo ok W u l) : Bod ok W [(K, u)] [(K, l)] := ⟨⟨rfl, h⟩, trivial⟩
theorem Bod.cells {ok : Nat → Prop} {W : World} : ∀ {ps : List (Int × Value)} {fs : List (Int × List Int)}, Bod ok W ps fs → ∀ u ∈ fcs ps, u.oneCell' = true
  | [], [], _, u, hu => by simp [fcs] at hu
  | p :: ps, f :: fs, h, u, hu => by
    have e : fcs (p :: ps) = .int .i64 p.1 :: p.2 :: fcs ps := rfl
    rw [e] at hu
    rcases List.mem_cons.1 hu with rfl | hu
    · rfl
    · rcases List.mem_cons.1 hu with rfl | hu
      · obtain ⟨ao, cap, e2⟩ := h.1.2.sl.form
        rw [e2]; rfl
      · exact Bod.cells h.2 u hu
  | [], _ :: _, h, _, _ => h.elim
  | _ :: _, [], h, _, _ => h.elim
theorem infoF : (Try.prog.info? 40).map (fun i => (i.zero, i.size, i.bytes)) = some (some (.agg #[.int .i64 0, .slice none 0 0]), 2, 32) := by kernel_rfl
/-- An append to a row of frames: the same row, or a new one. -/
theorem run_append_fr (w : World) (ty : TypeId) (B : Nat) (v : Value) (n : Nat) (xs : List Value) (hown : w.ownsRow B 40 2 v n xs) (hB : B ≤ w.heap.size) (ad : Addr) (m c : Nat) (news : List Value) (hl : news.length = m * 2) (hm : 0 < m)
    (hnews : ∀ j u, news[j]? = some u → w.cell? (ad.add j) = some u) (h1 : ∀ u ∈ news, u.oneCell' = true) (hn : n + m ≤ 100000) :
    ∃ v' w', (Builtin.append_ #[22, 22] ty #[v, .slice (some ad) m c]).run Try.prog w = .ok v' w' ∧ w'.ownsRow B 40 2 v' (n + m) (xs ++ news) ∧ w.grownBy w' v.ownBlock ∧ (v'.ownBlock = v.ownBlock ∨ ∀ g, v'.ownBlock = some g → w.heap.size ≤ g) := by
  obtain ⟨i0, hi, hz0, hz1, hz2⟩ := info_parts infoF
  obtain ⟨v', w', e, ho, hg, _⟩ := run_append_own (P := Try.prog) w B 22 ty 40 i0 (.agg #[.int .i64 0, .slice none 0 0]) 2 32 Try.underlying22 hi hz0 hz1 hz2 rfl (by decide) v n xs hown ad m c news hl hnews h1 (by unfold maxLen; omega) (by omega) hB
  refine ⟨v', w', e, ho, hg, ?_⟩
  have hsrc : Src Try.prog i0.size 22 (.slice (some ad) m c) m news w := Src.ofSlice w Try.underlying22 ad m c news (by rw [hz1]; omega) hnews h1
  obtain ⟨h2, h3⟩ := hown
  rcases h3 with ⟨rfl, rfl⟩ | ⟨g, cap, cur, rfl, a2, a3, a4, a5, a6, a7⟩
  · right
    have e2 := run_append_grow_src w 22 22 ty 40 i0 (.agg #[.int .i64 0, .slice none 0 0]) Try.underlying22 hi hz0 none 0 0 [] (run_firstCells_none _ _ _ _ _) _ m news hsrc (by omega) (by omega) (growslice_fits (by omega) (by rw [hz2]; omega))
    rw [e] at e2
    cases e2
    intro g hg
    cases hg
    exact Nat.le_refl _
  · by_cases hf : n + m ≤ cap
    · left
      have e2 := run_append_room (P := Try.prog) w 22 ty 40 i0 Try.underlying22 hi g n cap cur a3 ad m c news (by rw [hz1]; omega) hnews h1 hf (by rw [hz1, hl]; omega)
      rw [e] at e2
      cases e2
      rfl
    · right
      have e2 := run_append_grow_src w 22 22 ty 40 i0 (.agg #[.int .i64 0, .slice none 0 0]) Try.underlying22 hi hz0 (some ⟨g, 0, none⟩) n cap xs (run_firstCells_some _ _ _ _ _ _ _ (by rw [hz1, h2]) (by
        intro j u hj
        rw [Addr.add_lit]
        have hj' : cur.toList[j]? = some u := by
          rw [← a7, List.getElem?_take] at hj
          split at hj
          · exact hj
          · simp at hj
        simp only [World.cell?, World.drew, a3, Nat.zero_add]
        simpa using hj')) _ m news hsrc (by omega) (by omega) (growslice_fits (by omega) (by rw [hz2]; omega))
      rw [e] at e2
      cases e2
      intro g hg
      cases hg
      exact Nat.le_refl _
theorem wpList_append_fr (w : World) {ops : Array Oper} {rest : List Oper} {o : Oper} {a : Act} {Q : Exit → Act → World → Prop} (hgd : o.guard = none) (s x : Operand)
    (ho : o.op = .call { callee := .builtin .append, args := #[s, x], argTypes := #[22, 22] }) (B : Nat) (v : Value) (n : Nat) (xs : List Value) (hs : a.eval s = v) (hown : w.ownsRow B 40 2 v n xs) (hB : B ≤ w.heap.size) (ad : Addr) (m c : Nat) (news : List Value)
    (hx : a.eval x = .slice (some ad) m c) (hl : news.length = m * 2) (hm : 0 < m) (hnews : ∀ j u, news[j]? = some u → w.cell? (ad.add j) = some u) (h1 : ∀ u ∈ news, u.oneCell' = true) (hn : n + m ≤ 100000)
    (h : ∀ w' v', w'.ownsRow B 40 2 v' (n + m) (xs ++ news) → w.grownBy w' v.ownBlock → (v'.ownBlock = v.ownBlock ∨ ∀ g, v'.ownBlock = some g → w.heap.size ≤ g) → wpList Try.prog ops Q rest (a.put o.dst v') w') : wpList Try.prog ops Q (o :: rest) a w := by
  refine wpList_plain hgd fun K hK => ?_
  obtain ⟨v', w', hrun, q1, q2, q3⟩ := run_append_fr w o.type B v n xs hown hB ad m c news hl hm hnews h1 hn
  unfold Oper.wp
  simp [execOp, ho, resolve, invoke, builtin, hs, hx, hrun, Result.andThen]
  exact hK _ _ (h w' v' q1 q2 q3)
theorem owns_cells {w : World} {B : Nat} {e : TypeId} {v : Value} {n : Nat} {xs : List Value} {s : Nat} (h : w.ownsRow B e s v n xs) (hn : 0 < n) : ∃ g cap, v = .slice (some ⟨g, 0, none⟩) n cap ∧ B ≤ g ∧ n ≤ cap ∧ g < w.heap.size ∧ ∀ j u, xs[j]? = some u → w.cell? ⟨g, j, none⟩ = some u := by
  obtain ⟨h1, h2⟩ := h
  rcases h2 with ⟨rfl, rfl⟩ | ⟨g, cap, cur, rfl, a2, a3, a4, a5, a6, a7⟩
  · simp at hn
  · refine ⟨g, cap, rfl, a2, a4, (Array.getElem?_eq_some_iff.1 a3).1, fun j u hj => ?_⟩
    have hj' : cur.toList[j]? = some u := by
      rw [← a7, List.getElem?_take] at hj
      split at hj
      · exact hj
      · simp at hj
    simp only [World.cell?, a3]
    simpa using hj'
/-- An append of a row of frames, be it empty. -/
theorem run_append_frs (w : World) (ty : TypeId) (B B' : Nat) (v : Value) (n : Nat) (xs : List Value) (hown : w.ownsRow B 40 2 v n xs) (hB : B ≤ w.heap.size) (u : Value) (m : Nat) (news : List Value) (hu : w.ownsRow B' 40 2 u m news) (h1 : ∀ u ∈ news, u.oneCell' = true) (hn : n + m ≤ 100000) :
    ∃ v' w', (Builtin.append_ #[22, 22] ty #[v, u]).run Try.prog w = .ok v' w' ∧ w'.ownsRow B 40 2 v' (n + m) (xs ++ news) ∧ w.grownBy w' v.ownBlock ∧ (v'.ownBlock = v.ownBlock ∨ ∀ g, v'.ownBlock = some g → w.heap.size ≤ g) := by
  by_cases h0 : 0 < m
  · obtain ⟨g, cap, rfl, _, _, _, hc⟩ := owns_cells hu h0
    exact run_append_fr w ty B v n xs hown hB ⟨g, 0, none⟩ m cap news hu.1 h0 (fun j y hj => by rw [Addr.add_lit, Nat.zero_add]; exact hc j y hj) h1 hn
  · obtain rfl : m = 0 := by omega
    obtain ⟨h3, h4⟩ := hu
    obtain rfl : news = [] := List.length_eq_zero_iff.1 (by omega)
    have hform : ∃ ao cap, u = .slice ao 0 cap := by
      rcases h4 with ⟨rfl, _⟩ | ⟨g, cap, cur, rfl, _⟩ <;> exact ⟨_, _, rfl⟩
    obtain ⟨ao, cap, rfl⟩ := hform
    refine ⟨v, w, ?_, by simpa using hown, ⟨rfl, rfl, rfl, Nat.le_refl _, fun _ _ _ => rfl⟩, .inl rfl⟩
    obtain ⟨i0, hi, hz0, hz1, hz2⟩ := info_parts infoF
    have hl0 : ∀ a : Addr, (loadCells a 0).run Try.prog w = .ok #[] w := fun a => by simp [loadCells, loadCellsFrom]
    rcases hown.2 with ⟨rfl, _⟩ | ⟨g, cap', cur, rfl, _, _, hle, _⟩
    · cases ao <;> simp [Builtin.append_, run_underlying Try.underlying22, sizeOf, typeInfo, hi, Builtin.lenOf, Builtin.firstCells, hl0]
    · cases ao <;> simp [Builtin.append_, run_underlying Try.underlying22, sizeOf, typeInfo, hi, Builtin.lenOf, Builtin.firstCells, hle, hl0, storeCells]
theorem wpList_append_frs (w : World) {ops : Array Oper} {rest : List Oper} {o : Oper} {a : Act} {Q : Exit → Act → World → Prop} (hgd : o.guard = none) (s x : Operand)
    (ho : o.op = .call { callee := .builtin .append, args := #[s, x], argTypes := #[22, 22] }) (B B' : Nat) (v : Value) (n : Nat) (xs : List Value) (hs : a.eval s = v) (hown : w.ownsRow B 40 2 v n xs) (hB : B ≤ w.heap.size) (u : Value) (m : Nat) (news : List Value)
    (hx : a.eval x = u) (hu : w.ownsRow B' 40 2 u m news) (h1 : ∀ u ∈ news, u.oneCell' = true) (hn : n + m ≤ 100000)
    (h : ∀ w' v', w'.ownsRow B 40 2 v' (n + m) (xs ++ news) → w.grownBy w' v.ownBlock → (v'.ownBlock = v.ownBlock ∨ ∀ g, v'.ownBlock = some g → w.heap.size ≤ g) → wpList Try.prog ops Q rest (a.put o.dst v') w') : wpList Try.prog ops Q (o :: rest) a w := by
  refine wpList_plain hgd fun K hK => ?_
  obtain ⟨v', w', hrun, q1, q2, q3⟩ := run_append_frs w o.type B B' v n xs hown hB u m news hu h1 hn
  unfold Oper.wp
  simp [execOp, ho, resolve, invoke, builtin, hs, hx, hrun, Result.andThen]
  exact hK _ _ (h w' v' q1 q2 q3)
end Go.Proofs.Ytenahnbfaekljaa
