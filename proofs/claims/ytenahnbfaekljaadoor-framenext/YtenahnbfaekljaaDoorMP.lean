/-
  ROWS OF FRAMES: their cells, their bodies, an append to one that is written on; and what stays where some blocks are written. Condition: fewer than a hundred thousand frames.
  WHAT A STREAM KEEPS BEHIND A CALL, WHAT IS WRONG WITH IT, HOW MUCH IS LEFT (frame.Stream.forget, Err, Left). Conditions: the stream's cells hold what they do, no more than ten thousand bytes are left.
  BYTES THAT COME TO A STREAM (frame.Stream.Feed): which frames are told, what is wrong, what is left. Conditions: the stream's cells hold what they do, no more than five thousand bytes.
-/
import Derived.Test.YtenahnbfaekljaaDoorMO
import Derived.WalkMore
import Derived.Deep.LoopGhost
namespace Go.Proofs.YtenahnbfaekljaaDoor
open Go.RowKit

/-- All that was there stays, but for the blocks of S. -/
structure Ex (S : Nat → Prop) (w w' : World) : Prop where
  os : w'.os = w.os
  tape : w'.tape = w.tape
  output : w'.output = w.output
  size : w.heap.size ≤ w'.heap.size
  block : ∀ k, k < w.heap.size → ¬ S k → w'.heap[k]? = w.heap[k]?
theorem Ex.refl (S : Nat → Prop) (w : World) : Ex S w w := ⟨rfl, rfl, rfl, Nat.le_refl _, fun _ _ _ => rfl⟩
theorem Ex.trans {S : Nat → Prop} {a b c : World} (h : Ex S a b) (k : Ex S b c) : Ex S a c :=
  ⟨k.os.trans h.os, k.tape.trans h.tape, k.output.trans h.output, Nat.le_trans h.size k.size, fun i hi hp => (k.block i (Nat.lt_of_lt_of_le hi h.size) hp).trans (h.block i hi hp)⟩
theorem Ex.of {S : Nat → Prop} {a b : World} (k : Below a.heap.size a b) : Ex S a b := ⟨k.os, k.tape, k.output, k.size, fun i hi _ => k.block i hi⟩
theorem Ex.grown {S : Nat → Prop} {a b : World} {r : Option Nat} (k : a.grownBy b r) (h : ∀ g, r = some g → S g) : Ex S a b := ⟨k.os, k.tape, k.output, k.size, fun i hi hp => k.block i hi (fun e => hp (h i e.symm))⟩
theorem Ex.set {S : Nat → Prop} {p : Nat} (a : World) (h : S p) (i : Nat) (x : Value) : Ex S a (a.setCell ⟨p, i, none⟩ x) :=
  ⟨rfl, rfl, rfl, by simp [World.setCell], fun _ _ hp => Below.heap_setCell _ _ _ _ (fun e => hp (by rw [e]; exact h))⟩
theorem Ex.mono {S T : Nat → Prop} {a b : World} (h : Ex S a b) (hs : ∀ k, k < a.heap.size → S k → T k) : Ex T a b := ⟨h.os, h.tape, h.output, h.size, fun i hi hp => h.block i hi (fun q => hp (hs i hi q))⟩
theorem Ex.below {S : Nat → Prop} {B : Nat} {a b : World} (h : Ex S a b) (hB : B ≤ a.heap.size) (hs : ∀ k, k < B → ¬ S k) : Below B a b := ⟨h.os, h.tape, h.output, h.size, fun k hk => h.block k (by omega) (hs k hk)⟩
theorem Ex.cell {S : Nat → Prop} {a b : World} (h : Ex S a b) {g i : Nat} (hg : g < a.heap.size) (hs : ¬ S g) : b.cell? ⟨g, i, none⟩ = a.cell? ⟨g, i, none⟩ := World.cell?_of_block (h.block g hg hs)
/-- A slice of bytes whose block is one that may be. -/
def Slo (ok : Nat → Prop) (W : World) (v : Value) (l : List Int) : Prop :=
  (∃ ao cap, l = [] ∧ v = .slice ao 0 cap) ∨
  (∃ b o cap, v = .slice (some ⟨b, o, none⟩) l.length cap ∧ l.length ≤ cap ∧ ok b ∧ ∀ i (h : i < l.length), W.cell? ⟨b, o + i, none⟩ = some (bc l[i]))
theorem Slo.sl {ok : Nat → Prop} {W : World} {v : Value} {l : List Int} (h : Slo ok W v l) : Sl bc W v l := by
  rcases h with h | ⟨b, o, cap, h1, h2, _, h3⟩
  · exact .inl h
  · exact .inr ⟨b, o, cap, h1, h2, h3⟩
theorem Sld.slo {hi : Nat} {W : World} {v : Value} {l : List Int} (h : Sld 0 hi bc W v l) : Slo (fun b => hi ≤ b ∧ b < W.heap.size) W v l := by
  rcases h with h | ⟨b, o, cap, h1, h2, hp, h3⟩
  · exact .inl h
  · by_cases hl : 0 < l.length
    · exact .inr ⟨b, o, cap, h1, h2, ⟨by omega, cell_block (h3 0 hl)⟩, h3⟩
    · exact .inl ⟨_, _, List.length_eq_zero_iff.1 (by omega), by rw [h1, show l.length = 0 by omega]⟩
theorem Slo.mono {ok ok' : Nat → Prop} {W : World} {v : Value} {l : List Int} (h : Slo ok W v l) (hk : ∀ b, b < W.heap.size → ok b → ok' b) : Slo ok' W v l := by
  rcases h with h | ⟨b, o, cap, h1, h2, h4, h3⟩
  · exact .inl h
  · by_cases hl : 0 < l.length
    · exact .inr ⟨b, o, cap, h1, h2, hk b (cell_block (h3 0 hl)) h4, h3⟩
    · exact .inl ⟨_, _, List.length_eq_zero_iff.1 (by omega), by rw [h1, show l.length = 0 by omega]⟩
theorem Slo.ex {ok S : Nat → Prop} {W W' : World} {v : Value} {l : List Int} (h : Slo ok W v l) (hx : Ex S W W') (hs : ∀ b, ok b → ¬ S b) : Slo ok W' v l := by
  rcases h with h | ⟨b, o, cap, h1, h2, h4, h3⟩
  · exact .inl h
  · exact .inr ⟨b, o, cap, h1, h2, h4, fun i hi => (hx.cell (cell_block (h3 i hi)) (hs b h4)).trans (h3 i hi)⟩
theorem Slo.below {ok : Nat → Prop} {W W' : World} {v : Value} {l : List Int} (h : Slo ok W v l) (hb : Below W.heap.size W W') : Slo ok W' v l :=
  h.ex (Ex.of (S := fun _ => False) hb) (fun _ _ q => q)
/-- The cells of frames. -/
def fcs (ps : List (Int × Value)) : List Value := ps.flatMap fun p => [.int .i64 p.1, p.2]
theorem fcs_len (ps : List (Int × Value)) : (fcs ps).length = ps.length * 2 := by
  induction ps with
  | nil => rfl
  | cons p ps ih => simp only [fcs, List.flatMap_cons, List.length_append, List.length_cons, List.length_nil] at *; omega
theorem fcs_app (a b : List (Int × Value)) : fcs (a ++ b) = fcs a ++ fcs b := by simp [fcs, List.flatMap_append]
theorem fcs_get (ps : List (Int × Value)) (i : Nat) (h : i < ps.length) : (fcs ps)[i * 2]? = some (.int .i64 ps[i].1) ∧ (fcs ps)[i * 2 + 1]? = some ps[i].2 := by
  induction ps generalizing i with
  | nil => simp at h
  | cons p ps ih =>
    have e : fcs (p :: ps) = .int .i64 p.1 :: p.2 :: fcs ps := rfl
    cases i with
    | zero => exact ⟨rfl, rfl⟩
    | succ i =>
      have h2 := ih i (by simpa using h)
      have e1 : (i + 1) * 2 = i * 2 + 1 + 1 := by omega
      rw [e, e1, List.getElem?_cons_succ, List.getElem?_cons_succ, List.getElem?_cons_succ, List.getElem?_cons_succ]
      exact h2
/-- The frames' kinds, and their bodies. -/
def Bod (ok : Nat → Prop) (W : World) : List (Int × Value) → List (Int × List Int) → Prop
  | [], [] => True
  | p :: ps, f :: fs => (p.1 = f.1 ∧ Slo ok W p.2 f.2) ∧ Bod ok W ps fs
  | _, _ => False
theorem Bod.len {ok : Nat → Prop} {W : World} : ∀ {ps : List (Int × Value)} {fs : List (Int × List Int)}, Bod ok W ps fs → ps.length = fs.length
  | [], [], _ => rfl
  | _ :: _, _ :: _, h => by have := Bod.len h.2; simp only [List.length_cons]; omega
  | [], _ :: _, h => h.elim
  | _ :: _, [], h => h.elim
theorem Bod.app {ok : Nat → Prop} {W : World} : ∀ {ps : List (Int × Value)} {fs : List (Int × List Int)} {qs : List (Int × Value)} {gs : List (Int × List Int)}, Bod ok W ps fs → Bod ok W qs gs → Bod ok W (ps ++ qs) (fs ++ gs)
  | [], [], _, _, _, k => k
  | _ :: _, _ :: _, _, _, h, k => ⟨h.1, Bod.app h.2 k⟩
  | [], _ :: _, _, _, h, _ => h.elim
  | _ :: _, [], _, _, h, _ => h.elim
theorem Bod.imp {ok ok' : Nat → Prop} {W W' : World} (hi : ∀ v l, Slo ok W v l → Slo ok' W' v l) : ∀ {ps : List (Int × Value)} {fs : List (Int × List Int)}, Bod ok W ps fs → Bod ok' W' ps fs
  | [], [], _ => trivial
  | _ :: _, _ :: _, h => ⟨⟨h.1.1, hi _ _ h.1.2⟩, Bod.imp hi h.2⟩
  | [], _ :: _, h => h.elim
  | _ :: _, [], h => h.elim
theorem Bod.get {ok : Nat → Prop} {W : World} : ∀ {ps : List (Int × Value)} {fs : List (Int × List Int)}, Bod ok W ps fs → ∀ i (h : i < ps.length) (h' : i < fs.length), ps[i].1 = fs[i].1 ∧ Slo ok W ps[i].2 fs[i].2
  | [], [], _, i, h, _ => by simp at h
  | _ :: _, _ :: _, h, 0, _, _ => h.1
  | _ :: _, _ :: _, h, i + 1, h1, h2 => Bod.get h.2 i (by simpa using h1) (by simpa using h2)
  | [], _ :: _, h, _, _, _ => h.elim
  | _ :: _, [], h, _, _, _ => h.elim
theorem Bod.one {ok : Nat → Prop} {W : World} {K : Int} {u : Value} {l : List Int} (h : Slo ok W u l) : Bod ok W [(K, u)] [(K, l)] := ⟨⟨rfl, h⟩, trivial⟩
theorem Bod.cells {ok : Nat → Prop} {W : World} : ∀ {ps : List (Int × Value)} {fs : List (Int × List Int)}, Bod ok W ps fs → ∀ u ∈ fcs ps, u.oneCell' = true
  | [], [], _, u, hu => by simp [fcs] at hu
  | p :: ps, f :: fs, h, u, hu => by
    have e : fcs (p :: ps) = .int .i64 p.1 :: p.2 :: fcs ps := rfl
    rw [e] at hu
    rcases List.mem_cons.1 hu with rfl | hu
    · rfl
    · rcases List.mem_cons.1 hu with rfl | hu
      · obtain ⟨ao, cap, e2⟩ := h.1.2.sl.form
        rw [e2]; rfl
      · exact Bod.cells h.2 u hu
  | [], _ :: _, h, _, _ => h.elim
  | _ :: _, [], h, _, _ => h.elim
theorem infoF : (Tryd.prog.info? 24).map (fun i => (i.zero, i.size, i.bytes)) = some (some (.agg #[.int .i64 0, .slice none 0 0]), 2, 32) := by kernel_rfl
/-- An append to a row of frames: the same row, or a new one. -/
theorem run_append_fr (w : World) (ty : TypeId) (B : Nat) (v : Value) (n : Nat) (xs : List Value) (hown : w.ownsRow B 24 2 v n xs) (hB : B ≤ w.heap.size) (ad : Addr) (m c : Nat) (news : List Value) (hl : news.length = m * 2) (hm : 0 < m)
    (hnews : ∀ j u, news[j]? = some u → w.cell? (ad.add j) = some u) (h1 : ∀ u ∈ news, u.oneCell' = true) (hn : n + m ≤ 100000) :
    ∃ v' w', (Builtin.append_ #[26, 26] ty #[v, .slice (some ad) m c]).run Tryd.prog w = .ok v' w' ∧ w'.ownsRow B 24 2 v' (n + m) (xs ++ news) ∧ w.grownBy w' v.ownBlock ∧ (v'.ownBlock = v.ownBlock ∨ ∀ g, v'.ownBlock = some g → w.heap.size ≤ g) := by
  obtain ⟨i0, hi, hz0, hz1, hz2⟩ := info_parts infoF
  obtain ⟨v', w', e, ho, hg, _⟩ := run_append_own (P := Tryd.prog) w B 26 ty 24 i0 (.agg #[.int .i64 0, .slice none 0 0]) 2 32 Tryd.underlying26 hi hz0 hz1 hz2 rfl (by decide) v n xs hown ad m c news hl hnews h1 (by unfold maxLen; omega) (by omega) hB
  refine ⟨v', w', e, ho, hg, ?_⟩
  have hsrc : Src Tryd.prog i0.size 26 (.slice (some ad) m c) m news w := Src.ofSlice w Tryd.underlying26 ad m c news (by rw [hz1]; omega) hnews h1
  obtain ⟨h2, h3⟩ := hown
  rcases h3 with ⟨rfl, rfl⟩ | ⟨g, cap, cur, rfl, a2, a3, a4, a5, a6, a7⟩
  · right
    have e2 := run_append_grow_src w 26 26 ty 24 i0 (.agg #[.int .i64 0, .slice none 0 0]) Tryd.underlying26 hi hz0 none 0 0 [] (run_firstCells_none _ _ _ _ _) _ m news hsrc (by omega) (by omega) (growslice_fits (by omega) (by rw [hz2]; omega))
    rw [e] at e2
    cases e2
    intro g hg
    cases hg
    exact Nat.le_refl _
  · by_cases hf : n + m ≤ cap
    · left
      have e2 := run_append_room (P := Tryd.prog) w 26 ty 24 i0 Tryd.underlying26 hi g n cap cur a3 ad m c news (by rw [hz1]; omega) hnews h1 hf (by rw [hz1, hl]; omega)
      rw [e] at e2
      cases e2
      rfl
    · right
      have e2 := run_append_grow_src w 26 26 ty 24 i0 (.agg #[.int .i64 0, .slice none 0 0]) Tryd.underlying26 hi hz0 (some ⟨g, 0, none⟩) n cap xs (run_firstCells_some _ _ _ _ _ _ _ (by rw [hz1, h2]) (by
        intro j u hj
        rw [Addr.add_lit]
        have hj' : cur.toList[j]? = some u := by
          rw [← a7, List.getElem?_take] at hj
          split at hj
          · exact hj
          · simp at hj
        simp only [World.cell?, World.drew, a3, Nat.zero_add]
        simpa using hj')) _ m news hsrc (by omega) (by omega) (growslice_fits (by omega) (by rw [hz2]; omega))
      rw [e] at e2
      cases e2
      intro g hg
      cases hg
      exact Nat.le_refl _
theorem wpList_append_fr (w : World) {ops : Array Oper} {rest : List Oper} {o : Oper} {a : Act} {Q : Exit → Act → World → Prop} (hgd : o.guard = none) (s x : Operand)
    (ho : o.op = .call { callee := .builtin .append, args := #[s, x], argTypes := #[26, 26] }) (B : Nat) (v : Value) (n : Nat) (xs : List Value) (hs : a.eval s = v) (hown : w.ownsRow B 24 2 v n xs) (hB : B ≤ w.heap.size) (ad : Addr) (m c : Nat) (news : List Value)
    (hx : a.eval x = .slice (some ad) m c) (hl : news.length = m * 2) (hm : 0 < m) (hnews : ∀ j u, news[j]? = some u → w.cell? (ad.add j) = some u) (h1 : ∀ u ∈ news, u.oneCell' = true) (hn : n + m ≤ 100000)
    (h : ∀ w' v', w'.ownsRow B 24 2 v' (n + m) (xs ++ news) → w.grownBy w' v.ownBlock → (v'.ownBlock = v.ownBlock ∨ ∀ g, v'.ownBlock = some g → w.heap.size ≤ g) → wpList Tryd.prog ops Q rest (a.put o.dst v') w') : wpList Tryd.prog ops Q (o :: rest) a w := by
  refine wpList_plain hgd fun K hK => ?_
  obtain ⟨v', w', hrun, q1, q2, q3⟩ := run_append_fr w o.type B v n xs hown hB ad m c news hl hm hnews h1 hn
  unfold Oper.wp
  simp [execOp, ho, resolve, invoke, builtin, hs, hx, hrun, Result.andThen]
  exact hK _ _ (h w' v' q1 q2 q3)
theorem owns_cells {w : World} {B : Nat} {e : TypeId} {v : Value} {n : Nat} {xs : List Value} {s : Nat} (h : w.ownsRow B e s v n xs) (hn : 0 < n) : ∃ g cap, v = .slice (some ⟨g, 0, none⟩) n cap ∧ B ≤ g ∧ n ≤ cap ∧ g < w.heap.size ∧ ∀ j u, xs[j]? = some u → w.cell? ⟨g, j, none⟩ = some u := by
  obtain ⟨h1, h2⟩ := h
  rcases h2 with ⟨rfl, rfl⟩ | ⟨g, cap, cur, rfl, a2, a3, a4, a5, a6, a7⟩
  · simp at hn
  · refine ⟨g, cap, rfl, a2, a4, (Array.getElem?_eq_some_iff.1 a3).1, fun j u hj => ?_⟩
    have hj' : cur.toList[j]? = some u := by
      rw [← a7, List.getElem?_take] at hj
      split at hj
      · exact hj
      · simp at hj
    simp only [World.cell?, a3]
    simpa using hj'
/-- An append of a row of frames, be it empty. -/
theorem run_append_frs (w : World) (ty : TypeId) (B B' : Nat) (v : Value) (n : Nat) (xs : List Value) (hown : w.ownsRow B 24 2 v n xs) (hB : B ≤ w.heap.size) (u : Value) (m : Nat) (news : List Value) (hu : w.ownsRow B' 24 2 u m news) (h1 : ∀ u ∈ news, u.oneCell' = true) (hn : n + m ≤ 100000) :
    ∃ v' w', (Builtin.append_ #[26, 26] ty #[v, u]).run Tryd.prog w = .ok v' w' ∧ w'.ownsRow B 24 2 v' (n + m) (xs ++ news) ∧ w.grownBy w' v.ownBlock ∧ (v'.ownBlock = v.ownBlock ∨ ∀ g, v'.ownBlock = some g → w.heap.size ≤ g) := by
  by_cases h0 : 0 < m
  · obtain ⟨g, cap, rfl, _, _, _, hc⟩ := owns_cells hu h0
    exact run_append_fr w ty B v n xs hown hB ⟨g, 0, none⟩ m cap news hu.1 h0 (fun j y hj => by rw [Addr.add_lit, Nat.zero_add]; exact hc j y hj) h1 hn
  · obtain rfl : m = 0 := by omega
    obtain ⟨h3, h4⟩ := hu
    obtain rfl : news = [] := List.length_eq_zero_iff.1 (by omega)
    have hform : ∃ ao cap, u = .slice ao 0 cap := by
      rcases h4 with ⟨rfl, _⟩ | ⟨g, cap, cur, rfl, _⟩ <;> exact ⟨_, _, rfl⟩
    obtain ⟨ao, cap, rfl⟩ := hform
    refine ⟨v, w, ?_, by simpa using hown, ⟨rfl, rfl, rfl, Nat.le_refl _, fun _ _ _ => rfl⟩, .inl rfl⟩
    obtain ⟨i0, hi, hz0, hz1, hz2⟩ := info_parts infoF
    have hl0 : ∀ a : Addr, (loadCells a 0).run Tryd.prog w = .ok #[] w := fun a => by simp [loadCells, loadCellsFrom]
    rcases hown.2 with ⟨rfl, _⟩ | ⟨g, cap', cur, rfl, _, _, hle, _⟩
    · cases ao <;> simp [Builtin.append_, run_underlying Tryd.underlying26, sizeOf, typeInfo, hi, Builtin.lenOf, Builtin.firstCells, hl0]
    · cases ao <;> simp [Builtin.append_, run_underlying Tryd.underlying26, sizeOf, typeInfo, hi, Builtin.lenOf, Builtin.firstCells, hle, hl0, storeCells]
theorem wpList_append_frs (w : World) {ops : Array Oper} {rest : List Oper} {o : Oper} {a : Act} {Q : Exit → Act → World → Prop} (hgd : o.guard = none) (s x : Operand)
    (ho : o.op = .call { callee := .builtin .append, args := #[s, x], argTypes := #[26, 26] }) (B B' : Nat) (v : Value) (n : Nat) (xs : List Value) (hs : a.eval s = v) (hown : w.ownsRow B 24 2 v n xs) (hB : B ≤ w.heap.size) (u : Value) (m : Nat) (news : List Value)
    (hx : a.eval x = u) (hu : w.ownsRow B' 24 2 u m news) (h1 : ∀ u ∈ news, u.oneCell' = true) (hn : n + m ≤ 100000)
    (h : ∀ w' v', w'.ownsRow B 24 2 v' (n + m) (xs ++ news) → w.grownBy w' v.ownBlock → (v'.ownBlock = v.ownBlock ∨ ∀ g, v'.ownBlock = some g → w.heap.size ≤ g) → wpList Tryd.prog ops Q rest (a.put o.dst v') w') : wpList Tryd.prog ops Q (o :: rest) a w := by
  refine wpList_plain hgd fun K hK => ?_
  obtain ⟨v', w', hrun, q1, q2, q3⟩ := run_append_frs w o.type B B' v n xs hown hB u m news hu h1 hn
  unfold Oper.wp
  simp [execOp, ho, resolve, invoke, builtin, hs, hx, hrun, Result.andThen]
  exact hK _ _ (h w' v' q1 q2 q3)
end Go.Proofs.YtenahnbfaekljaaDoor
namespace Go.Proofs.YtenahnbfaekljaaDoor
open Go.RowKit

theorem Rd.setv {W : World} {p : Nat} {v : Value} {a : Int} {e : Value} (h : Rd W p v a e) (v' : Value) : Rd (W.setCell ⟨p, 0, none⟩ v') p v' a e :=
  ⟨World.cell?_setCell_same _ _ _ h.c0, by rw [World.cell?_setCell_other _ _ _ _ (by simp)]; exact h.c1, by rw [World.cell?_setCell_other _ _ _ _ (by simp)]; exact h.c2, fun i => by simp [h.fz i]⟩
theorem serr_any (p : Nat) (v : Value) (a : Int) (e : Value) (w : World) (hr : Rd w p v a e) : Calls Tryd.prog 19 #[.pointer (some ⟨p, 0, none⟩)] w fun x w' => x = .returned e ∧ w' = w := by
  obtain ⟨c0, c1, c2, fz⟩ := hr
  go_enter Tryd.func19, Tryd.ntmps19
  go_wp2
  go_ret
  exact ⟨rfl, rfl⟩
theorem sleft_any (p : Nat) (ao : Option Addr) (L cap : Nat) (a : Int) (e : Value) (w : World) (hr : Rd w p (.slice ao L cap) a e) : Calls Tryd.prog 20 #[.pointer (some ⟨p, 0, none⟩)] w fun x w' => x = .returned (.int .i64 (L : Int)) ∧ w' = w := by
  obtain ⟨c0, c1, c2, fz⟩ := hr
  go_enter Tryd.func20, Tryd.ntmps20
  go_wp2
  go_ret
  exact ⟨rfl, rfl⟩
set_option maxHeartbeats 4000000 in
theorem forget_err (p : Nat) (v : Value) (a m : Nat) (t : TypeId) (u : Value) (w : World) (hr : Rd w p v a (.iface t u)) (ha : a ≤ 1000000) (hm : m ≤ 1000000) :
    Calls Tryd.prog 35 #[.pointer (some ⟨p, 0, none⟩), .int .i64 (m : Int)] w fun x w' => x = .returned (.tuple #[]) ∧ w' = (w.setCell ⟨p, 1, none⟩ (.int .i64 ((a : Int) + (m : Int)))).setCell ⟨p, 0, none⟩ (.slice none 0 0) := by
  obtain ⟨c0, c1, c2, fz⟩ := hr
  have f0 := fz 0
  have f1 := fz 1
  clear fz
  go_enter Tryd.func35, Tryd.ntmps35
  go_wp2_with fail
  exact bodyPost_end (v := .tuple #[]) (by simp [results, Tryd.results35]) rfl ⟨rfl, rfl⟩
set_option maxHeartbeats 4000000 in
theorem forget_none (p : Nat) (v : Value) (a : Nat) (w : World) (hr : Rd w p v a .nilIface) (ha : a ≤ 1000000) :
    Calls Tryd.prog 35 #[.pointer (some ⟨p, 0, none⟩), .int .i64 0] w fun x w' => x = .returned (.tuple #[]) ∧ w' = w.setCell ⟨p, 1, none⟩ (.int .i64 (a : Int)) := by
  obtain ⟨c0, c1, c2, fz⟩ := hr
  have f1 := fz 1
  clear fz
  go_enter Tryd.func35, Tryd.ntmps35
  go_wp2_with fail
  exact bodyPost_end (v := .tuple #[]) (by simp [results, Tryd.results35]) rfl ⟨rfl, rfl⟩
set_option maxHeartbeats 4000000 in
theorem forget_more (p : Nat) (v : Value) (l : List Int) (a m : Nat) (w : World) (hr : Rd w p v a .nilIface) (ha : a ≤ 1000000) (hm0 : 0 < m) (hm : m ≤ l.length) (hl : l.length ≤ 10000) (hv : Slo (fun b => b ≠ p) w v l) :
    Calls Tryd.prog 35 #[.pointer (some ⟨p, 0, none⟩), .int .i64 (m : Int)] w fun x w' => x = .returned (.tuple #[]) ∧ ∃ v', Rd w' p v' ((a : Int) + (m : Int)) .nilIface ∧ w'.ownsRow w.heap.size 5 1 v' (l.drop m).length (bv (l.drop m)) ∧ Ex (fun k => k = p) w w' := by
  obtain ⟨c0, c1, c2, fz⟩ := id hr
  obtain ⟨u, hs, hu⟩ := slice_from_any v l m w hv.sl hm
  have hx1 : Ex (fun k => k = p) w (w.setCell ⟨p, 1, none⟩ (.int .i64 ((a : Int) + (m : Int)))) := Ex.set (S := fun k => k = p) w rfl 1 _
  have hv1 := hv.ex hx1 (fun _ h => h)
  have HC := hide (bclone_own u (l.drop m) _ (hu _ hv1.sl) (by rw [List.length_drop]; omega))
  have HR := hide (hr.seta ((a : Int) + (m : Int)))
  have HX := hide hx1
  have f1 := fz 1
  have f0 := fz 0
  have hm1 : (0 : Int) < (m : Int) := by omega
  clear fz hr hv hu hv1 hx1
  go_enter Tryd.func35, Tryd.ntmps35
  go_wp2_with fail
  refine HC.out.mono ?_
  rintro e w1 ⟨y, rfl, ho, hb⟩
  obtain ⟨ao, cap, hy⟩ := (sl_of_owns (l := l.drop m) (f := bc) ho).form
  obtain ⟨M, hM⟩ : ∃ M, M = (l.drop m).length := ⟨_, rfl⟩
  rw [← hM] at hy
  clear hM
  subst hy
  have hr1 := HR.out.below hb
  obtain ⟨d0, d1, d2, gz⟩ := id hr1
  have g0 := gz 0
  have HR1 := hide hr1
  have HO := hide ho
  have HX1 := hide (HX.out.trans (Ex.of hb))
  have hlt := HR.out.lt
  have HLT := hide hlt
  clear gz hr1 ho hb hlt
  go_wp2_with fail
  refine bodyPost_end (v := .tuple #[]) (by simp [results, Tryd.results35]) rfl ⟨rfl, _, HR1.out.setv _, ?_, HX1.out.trans (Ex.set (S := fun k => k = p) _ rfl 0 _)⟩
  have h1 := HO.out
  obtain ⟨q1, q2⟩ := h1
  refine ⟨q1, ?_⟩
  rcases q2 with q2 | ⟨g, cap, cur, a1, a2, a3, a4⟩
  · exact .inl q2
  · have hsz : w.heap.size = (w.setCell ⟨p, 1, none⟩ (.int .i64 ((a : Int) + (m : Int)))).heap.size := by simp [World.setCell]
    refine .inr ⟨g, cap, cur, a1, by omega, ?_, a4⟩
    rw [Below.heap_setCell _ _ _ _ (fun e => by have := HLT.out; simp at e; omega)]
    exact a3
end Go.Proofs.YtenahnbfaekljaaDoor
namespace Go.Proofs.YtenahnbfaekljaaDoor
open Go.RowKit

/-- A stream at block p: the bytes that are left, in memory of its own, how many were told, what is wrong. -/
def Strm (B : Nat) (W : World) (p : Nat) (v : Value) (L : List Int) (a : Int) (e : Value) : Prop :=
  Rd W p v a e ∧ v.ownBlock ≠ some p ∧ B ≤ p ∧ ∃ cur, Rw B W v L.length cur ∧ cur.take L.length = bv L
/-- What is left, and what is wrong, where n bytes were told. -/
def leftS (A : List Int) (n : Nat) : List Int := if (nextS (A.drop n)).c = 0 then A.drop n else []
def errS (a : Nat) (A : List Int) (n : Nat) : Option (List (ByteArray × Int) × Int) := match errF (nextS (A.drop n)) with
  | none => none
  | some (l, c) => some ((⟨#[102, 114, 97, 109, 101]⟩, (a + n : Nat)) :: l, c)
theorem Rw.sl {B : Nat} {W : World} {v : Value} {L : List Int} {cur : List Value} (h : Rw B W v L.length cur) (hc : cur.take L.length = bv L) : Sl bc W v L := by
  have := h.owns
  rw [hc] at this
  exact sl_of_owns this
set_option maxHeartbeats 4000000 in
theorem feed_err (p : Nat) (v u : Value) (a : Int) (t : TypeId) (x : Value) (w : World) (hr : Rd w p v a (.iface t x)) :
    Calls Tryd.prog 16 #[.pointer (some ⟨p, 0, none⟩), u] w fun x w' => x = .returned (.slice none 0 0) ∧ w' = w := by
  obtain ⟨c0, c1, c2, fz⟩ := hr
  go_enter Tryd.func16, Tryd.ntmps16
  go_wp2_with fail
  go_step3
  go_wp2_with fail
  rw [Exit.noGoto_ret]
  go_ret
  exact ⟨rfl, rfl⟩
theorem owns_ex {S : Nat → Prop} {w w' : World} {base n size : Nat} {e : TypeId} {v : Value} {xs : List Value} (h : w.ownsRow base e size v n xs) (hx : Ex S w w') (hs : ∀ g, v.ownBlock = some g → ¬ S g) : w'.ownsRow base e size v n xs := by
  obtain ⟨h1, h2⟩ := h
  refine ⟨h1, ?_⟩
  rcases h2 with h2 | ⟨g, cap, cur, a1, a2, a3, a4⟩
  · exact .inl h2
  · refine .inr ⟨g, cap, cur, a1, a2, ?_, a4⟩
    rw [hx.block g (Array.getElem?_eq_some_iff.1 a3).1 (hs g (by rw [a1]; rfl))]
    exact a3
theorem Rw.ex {S : Nat → Prop} {B : Nat} {w w' : World} {v : Value} {n : Nat} {cur : List Value} (h : Rw B w v n cur) (hx : Ex S w w') (hs : ∀ g, v.ownBlock = some g → ¬ S g) : Rw B w' v n cur := by
  obtain ⟨h1, h2, h3⟩ := h
  refine ⟨h1, h2, ?_⟩
  rcases h3 with h3 | ⟨g, a1, a2, a3⟩
  · exact .inl h3
  · refine .inr ⟨g, a1, a2, ?_⟩
    rw [hx.block g (Array.getElem?_eq_some_iff.1 a3).1 (hs g (by rw [a1]; rfl))]
    exact a3
theorem Rw.lt {B : Nat} {w : World} {v : Value} {n : Nat} {cur : List Value} (h : Rw B w v n cur) : ∀ g, v.ownBlock = some g → B ≤ g ∧ g < w.heap.size := by
  intro g hg
  rcases h.2.2 with ⟨rfl, _⟩ | ⟨g', rfl, a2, a3⟩
  · cases hg
  · cases hg
    exact ⟨a2, (Array.getElem?_eq_some_iff.1 a3).1⟩
/-- What a call of Feed leaves. -/
def FeedP (B p : Nat) (v : Value) (A : List Int) (a : Nat) (w : World) (x : Ending) (w' : World) : Prop :=
  ∃ y k ps v', x = .returned y ∧ Its A k ∧ (nextS (A.drop (it A k).2)).size = 0 ∧
      w'.ownsRow w.heap.size 24 2 y k (fcs ps) ∧ Bod (fun b => w.heap.size ≤ b ∧ some b ≠ v'.ownBlock) w' ps (it A k).1 ∧
      Strm B w' p v' (leftS A (it A k).2) ((a + (it A k).2 : Nat) : Int) (ev (errS a A (it A k).2)) ∧
      (v'.ownBlock = v.ownBlock ∨ ∀ g, v'.ownBlock = some g → w.heap.size ≤ g) ∧ Ex (fun k => k = p ∨ some k = v.ownBlock) w w' ∧ ∀ g, y.ownBlock = some g → v'.ownBlock ≠ some g
theorem feed_end {B p a k : Nat} {v v' y : Value} {A : List Int} {ps : List (Int × Value)} {w w2 wX w6 : World} (hits : Its A k) (hsz : (nextS (A.drop (it A k).2)).size = 0) (hX : Ex (fun k => k = p ∨ some k = v.ownBlock) w w2) (hp : p < w.heap.size) (hb : Below w2.heap.size w2 wX)
    (hown : wX.ownsRow w2.heap.size 24 2 y k (fcs ps)) (hbod : Bod (fun b => w2.heap.size ≤ b ∧ b < wX.heap.size) wX ps (it A k).1) (hx6 : Ex (fun k => k = p) wX w6)
    (hst : Strm B w6 p v' (leftS A (it A k).2) ((a + (it A k).2 : Nat) : Int) (ev (errS a A (it A k).2))) (hv1 : v'.ownBlock = v.ownBlock ∨ ∀ g, v'.ownBlock = some g → w.heap.size ≤ g) (hv2 : ∀ g, v'.ownBlock = some g → g < w2.heap.size ∨ wX.heap.size ≤ g) : FeedP B p v A a w (.returned y) w6 := by
  have hs := hX.size
  refine ⟨y, k, ps, v', rfl, hits, hsz, ?_, ?_, hst, hv1, hX.trans ((Ex.of hb).trans (hx6.mono (fun _ _ h => .inl h))), fun g hg e => ?_⟩
  · refine owns_mono (owns_ex hown hx6 (fun g hg e => ?_)) hs
    have := (hown.lt g hg).1
    omega
  · refine Bod.imp (fun u l h => ?_) hbod
    have h1 := h.ex hx6 (fun b hb e => by have := hb.1; omega)
    refine h1.mono (fun b _ hb => ⟨by omega, fun e => ?_⟩)
    rcases hv2 b e.symm with q | q <;> omega
  · have h1 := hown.lt g hg
    rcases hv2 g e with q | q <;> omega
theorem feed_step {w2 wr w3 w5 : World} {k : Nat} {y y5 ub : Value} {ps : List (Int × Value)} {fs : List (Int × List Int)} {K : Int} {body : List Int} {o o' : Obj} (hb : Below w2.heap.size w2 wr) (hown : wr.ownsRow w2.heap.size 24 2 y k (fcs ps))
    (hbod : Bod (fun b => w2.heap.size ≤ b ∧ some b ≠ y.ownBlock) wr ps fs) (hb3 : Below wr.heap.size wr w3) (hub : Sld 0 wr.heap.size bc w3 ub body) (hg5 : ((w3.alloc o).alloc o').grownBy w5 y.ownBlock) (hblk : y5.ownBlock = y.ownBlock ∨ ∀ g, y5.ownBlock = some g → w3.heap.size + 1 + 1 ≤ g) :
    Bod (fun b => w2.heap.size ≤ b ∧ some b ≠ y5.ownBlock) w5 (ps ++ [(K, ub)]) (fs ++ [(K, body)]) ∧ Below w2.heap.size w2 w5 := by
  have hsr := hb.size
  have hs3 := hb3.size
  have hylt : ∀ g, y.ownBlock = some g → w2.heap.size ≤ g ∧ g < wr.heap.size := fun g h => hown.lt g h
  have hal : Below w3.heap.size w3 ((w3.alloc o).alloc o') := ((Below.refl _ _).alloc (Nat.le_refl _) o).alloc (by simp) o'
  have hx35 : Ex (fun k => some k = y.ownBlock) w3 w5 := (Ex.of hal).trans (Ex.grown hg5 (fun g h => h.symm))
  have hxr5 : Ex (fun k => some k = y.ownBlock) wr w5 := (Ex.of hb3).trans hx35
  refine ⟨Bod.app (Bod.imp (fun u l h => ?_) hbod) (Bod.one ?_), ?_⟩
  · have h1 : Slo (fun b => (w2.heap.size ≤ b ∧ some b ≠ y5.ownBlock) ∧ some b ≠ y.ownBlock) wr u l := h.mono (fun b hlt hb => ⟨⟨hb.1, fun e => by
      rcases hblk with q | q
      · rw [q] at e; exact hb.2 e
      · have := q b e.symm; omega⟩, hb.2⟩)
    exact (h1.ex hxr5 (fun b hb => hb.2)).mono (fun b _ hb => hb.1)
  · have h1 := hub.slo.ex hx35 (fun b hb e => by have := (hylt b e.symm).2; omega)
    refine h1.mono (fun b _ hb => ⟨by omega, fun e => ?_⟩)
    rcases hblk with q | q
    · rw [q] at e; have := (hylt b e.symm).2; omega
    · have := q b e.symm; omega
  · exact hb.trans (hxr5.below hsr (fun k hk e => by have := (hylt k e.symm).1; omega))
theorem Bod.fresh {w2 W : World} {y : Value} {ps : List (Int × Value)} {fs : List (Int × List Int)} (h : Bod (fun b => w2.heap.size ≤ b ∧ some b ≠ y.ownBlock) W ps fs) : Bod (fun b => w2.heap.size ≤ b ∧ b < W.heap.size) W ps fs :=
  Bod.imp (fun _ _ h => h.mono (fun _ hl hb => ⟨hb.1, hl⟩)) h
theorem Bod.below {ok : Nat → Prop} {W W' : World} {ps : List (Int × Value)} {fs : List (Int × List Int)} (h : Bod ok W ps fs) (hb : Below W.heap.size W W') : Bod ok W' ps fs := Bod.imp (fun _ _ h => h.below hb) h
theorem forget_ok (B p : Nat) (v : Value) (A : List Int) (cur : List Value) (a m : Nat) (W : World) (hr : Rd W p v (a : Int) .nilIface) (hrw : Rw B W v A.length cur) (htk : cur.take A.length = bv A) (hvp : v.ownBlock ≠ some p) (hBp : B ≤ p) (ha : a ≤ 5000) (hm : m ≤ A.length) (hl : A.length ≤ 5000) :
    Calls Tryd.prog 35 #[.pointer (some ⟨p, 0, none⟩), .int .i64 (m : Int)] W fun x w6 => x = .returned (.tuple #[]) ∧ ∃ v', Strm B w6 p v' (A.drop m) ((a + m : Nat) : Int) .nilIface ∧ (v'.ownBlock = v.ownBlock ∨ ∀ g, v'.ownBlock = some g → W.heap.size ≤ g) ∧ Ex (fun k => k = p) W w6 := by
  have hplt := hr.lt
  by_cases h0 : m = 0
  · subst h0
    refine (forget_none p v a W hr (by omega)).mono ?_
    rintro e w6 ⟨rfl, rfl⟩
    have hx : Ex (fun k => k = p) W (W.setCell ⟨p, 1, none⟩ (.int .i64 (a : Int))) := Ex.set (S := fun k => k = p) W rfl 1 _
    refine ⟨rfl, v, ⟨hr.seta (a : Int), hvp, hBp, cur, ?_, htk⟩, .inl rfl, hx⟩
    exact hrw.ex hx (fun g hg e => hvp (by rw [hg, e]))
  · have hslo : Slo (fun b => b ≠ p) W v A := by
      rcases hrw.sl htk with h | ⟨b, o, cap, h1, h2, h3⟩
      · exact .inl h
      · exact .inr ⟨b, o, cap, h1, h2, fun e => hvp (by rw [h1, e]; rfl), h3⟩
    refine (forget_more p v A a m W hr (by omega) (by omega) hm (by omega) hslo).mono ?_
    rintro e w6 ⟨rfl, v', hr', ho, hx⟩
    have hlt : ∀ g, v'.ownBlock = some g → W.heap.size ≤ g := fun g hg => (ho.lt g hg).1
    obtain ⟨cur', k1, k2⟩ := Rw.of ho
    refine ⟨rfl, v', ⟨?_, fun e => ?_, hBp, cur', ⟨k1.1, k1.2.1, ?_⟩, k2⟩, .inr hlt, hx⟩
    · rw [show ((a + m : Nat) : Int) = (a : Int) + (m : Int) by omega]; exact hr'
    · have := hlt p e; omega
    · rcases k1.2.2 with q | ⟨g, q1, q2, q3⟩
      · exact .inl q
      · exact .inr ⟨g, q1, by omega, q3⟩
theorem forget_bad (B p : Nat) (v : Value) (a m : Nat) (t : TypeId) (u : Value) (W : World) (hr : Rd W p v (a : Int) (.iface t u)) (hBp : B ≤ p) (ha : a ≤ 5000) (hm : m ≤ 5000) :
    Calls Tryd.prog 35 #[.pointer (some ⟨p, 0, none⟩), .int .i64 (m : Int)] W fun x w6 => x = .returned (.tuple #[]) ∧ Strm B w6 p (.slice none 0 0) [] ((a + m : Nat) : Int) (.iface t u) ∧ Ex (fun k => k = p) W w6 := by
  refine (forget_err p v a m t u W hr (by omega) (by omega)).mono ?_
  rintro e w6 ⟨rfl, rfl⟩
  refine ⟨rfl, ⟨?_, by simp [Value.ownBlock], hBp, [], rw_nil _ _, rfl⟩, (Ex.set (S := fun k => k = p) W rfl 1 _).trans (Ex.set (S := fun k => k = p) _ rfl 0 _)⟩
  rw [show ((a + m : Nat) : Int) = (a : Int) + (m : Int) by omega]
  exact (hr.seta _).setv _
set_option maxRecDepth 100000 in
set_option maxHeartbeats 4000000 in
theorem feed_core (B p : Nat) (v u : Value) (L Q A : List Int) (a : Nat) (w : World) (hst : Strm B w p v L (a : Int) .nilIface) (hB : B ≤ w.heap.size) (hu : Sl bc w u Q) (hAq : A = L ++ Q) (hby : Byt A) (hlen : A.length ≤ 5000) (ha : a ≤ 5000) :
    Calls Tryd.prog 16 #[.pointer (some ⟨p, 0, none⟩), u] w (FeedP B p v A a w) := by
  obtain ⟨hr, hvp, hBp, cur, hrw, hcur⟩ := hst
  have hA : A.length = L.length + Q.length := by rw [hAq]; exact List.length_append
  have hAb : bv A = bv L ++ bv Q := by rw [hAq]; simp [bv]
  have HA := hide hA
  have HAB := hide hAb
  have hLQ : L.length + Q.length ≤ 5000 := by omega
  clear hA hAb hAq
  have hplt := hr.lt
  obtain ⟨c0, c1, c2, fz⟩ := id hr
  have HR := hide hr
  have HRW := hide hrw
  have HU := hide hu
  have HCU := hide hcur
  have HY := hide hby
  clear hr fz hrw hu hcur hby
  go_enter Tryd.func16, Tryd.ntmps16
  go_wp2_with fail
  go_step3
  go_wp2_with (first | (at_builtin; refine wpList_append_sl _ rfl _ _ rfl B _ L.length cur rfl HRW.out hB _ Q rfl HU.out (by omega) ?_))
  intro w1 v1 cur1 hp1
  have hcell : ∀ i, w1.cell? ⟨p, i, none⟩ = w.cell? ⟨p, i, none⟩ := fun i => World.cell?_of_block (hp1.grown.block p hplt (Ne.symm hvp))
  have hfroz : ∀ i, w1.frozen? ⟨p, i, none⟩ = w.frozen? ⟨p, i, none⟩ := fun i => World.frozen?_of_block (hp1.grown.block p hplt (Ne.symm hvp))
  have hr1 : Rd w1 p v a .nilIface := ⟨(hcell 0).trans HR.out.c0, (hcell 1).trans HR.out.c1, (hcell 2).trans HR.out.c2, fun i => (hfroz i).trans (HR.out.fz i)⟩
  have hx1 : Ex (fun k => k = p ∨ some k = v.ownBlock) w w1 := Ex.grown hp1.grown (fun g h => .inr h.symm)
  have hblk : v1.ownBlock = v.ownBlock ∨ ∀ g, v1.ownBlock = some g → w.heap.size ≤ g := hp1.blk
  have hv1p : v1.ownBlock ≠ some p := by
    rcases hblk with q | q
    · rw [q]; exact hvp
    · intro e; have := q p e; omega
  have hrw1 : Rw B w1 v1 A.length cur1 := by rw [HA.out]; exact hp1.rw
  have htk1 : cur1.take A.length = bv A := by rw [HA.out, hp1.tk, HCU.out, HAB.out]
  obtain ⟨ao1, e1, _⟩ := rw_form hrw1
  subst e1
  have hx2 := hx1.trans (Ex.set (S := fun k => k = p ∨ some k = v.ownBlock) w1 (.inl rfl) 0 (.slice ao1 A.length cur1.length))
  have hr2 := hr1.setv (.slice ao1 A.length cur1.length)
  have hrw2 : Rw B (w1.setCell ⟨p, 0, none⟩ (.slice ao1 A.length cur1.length)) (.slice ao1 A.length cur1.length) A.length cur1 := by
    obtain ⟨q1, q2, q3⟩ := hrw1
    refine ⟨q1, q2, ?_⟩
    rcases q3 with q3 | ⟨g, b1, b2, b3⟩
    · exact .inl q3
    · refine .inr ⟨g, b1, b2, ?_⟩
      rw [Below.heap_setCell _ _ _ _ (fun e => hv1p (by rw [b1]; simp at e; simp [Value.ownBlock, e]))]
      exact b3
  obtain ⟨d0, d1, d2, gz⟩ := id hr1
  have g0 := gz 0
  have HX2 := hide hx2
  have HR2 := hide hr2
  have HRW2 := hide hrw2
  have HTK := hide htk1
  have HBLK := hide hblk
  have HV1P := hide hv1p
  clear hp1 hcell hfroz hr1 hx1 hblk hv1p hrw1 htk1 hx2 hr2 hrw2 gz HRW HU HCU
  go_wp2_with fail
  go_step3
  go_wp2_with fail
  obtain ⟨w2, hw2⟩ : ∃ w2, w2 = w1.setCell ⟨p, 0, none⟩ (.slice ao1 A.length cur1.length) := ⟨_, rfl⟩
  rw [← hw2] at HX2 HR2 HRW2 ⊢
  clear hw2 d0 d1 d2 g0 c0 c1 c2
  have hws : w.heap.size ≤ w2.heap.size := HX2.out.size
  go_loopg [5, 6] A.length (fun g y n wr => ∃ (k : Nat) (ps : List (Int × Value)), (it A k).2 + g = A.length ∧ n = .int .i64 ((it A k).2 : Int) ∧ Its A k ∧ wr.ownsRow w2.heap.size 24 2 y k (fcs ps) ∧ Bod (fun b => w2.heap.size ≤ b ∧ some b ≠ y.ownBlock) wr ps (it A k).1 ∧ Below w2.heap.size w2 wr)
  case atStart => exact ⟨0, [], by simp [it], rfl, fun j hj => absurd hj (Nat.not_lt_zero _), World.ownsRow_nil _ _ _ _, trivial, Below.refl _ _⟩
  case round =>
    obtain ⟨k, ps, hg, rfl, hits, hown, hbod, hb⟩ := hrel
    have hle := it_le A k
    obtain ⟨u2, hs2, hu2⟩ := slice_from_any _ A (it A k).2 w2 (HRW2.out.sl HTK.out) hle
    have hr := HR2.out.below hb
    have hxn := nx_any u2 (A.drop (it A k).2) wr (hu2 wr ((HRW2.out.sl HTK.out).below hb)) (by rw [List.length_drop]; omega) (fun x hx => HY.out x (List.mem_of_mem_drop hx))
    have HN := hide hxn
    have HITS := hide hits
    have HOWN := hide hown
    have HBOD := hide hbod
    have HB := hide hb
    have HRr := hide hr
    obtain ⟨c0, c1, c2, fz⟩ := id hr
    clear hr fz hxn hits hown hbod hb hu2
    by_cases hsz : (nextS (A.drop (it A k).2)).size = 0
    · have HSZ := hide hsz
      have hkk := its_le HITS.out
      by_cases hc : (nextS (A.drop (it A k).2)).c = 0
      · rw [show errF (nextS (A.drop (it A k).2)) = none from if_pos hc] at HN
        simp only [ev] at HN
        have HE : Hid (errS a A (it A k).2 = none) := hide (by unfold errS; rw [show errF (nextS (A.drop (it A k).2)) = none from if_pos hc])
        have HL : Hid (leftS A (it A k).2 = A.drop (it A k).2) := hide (if_pos hc)
        rw [hsz] at HN
        clear hc hsz
        generalize (nextS (A.drop (it A k).2)).K = fK at HN
        generalize (nextS (A.drop (it A k).2)).body = fB at HN
        go_wp2_with fail
        refine HN.out.mono ?_
        rintro e w3 ⟨ub, rfl, hub, hb3⟩
        obtain ⟨ao3, cap3, hub1⟩ := hub.sl.form
        subst hub1
        generalize fB.length = M at *
        unfold fdt
        have hbX : Below wr.heap.size wr (w3.alloc (.cells #[.int .i64 fK, .slice ao3 M cap3] 24)) := hb3.alloc hb3.size _
        have HBX := hide (HB.out.trans (hbX.mono HB.out.size))
        have HOX := hide (owns_below HOWN.out hbX)
        have HDX := hide ((HBOD.out.fresh.below hbX))
        have HRX := hide (HRr.out.below hbX)
        have hszX := hbX.size
        have HSX := hide hszX
        clear hub hb3 hbX hszX
        have HRWX := hide (HRW2.out.below HBX.out)
        have HC := hide (forget_ok B p _ A cur1 a (it A k).2 _ HRX.out HRWX.out HTK.out HV1P.out hBp ha hle hlen)
        go_wp2_with fail
        refine HC.out.mono ?_
        rintro e w6 ⟨rfl, v', hst, hv', hx6⟩
        have HFE : Hid (FeedP B p v A a w (.returned u5) w6) := hide (by
          refine feed_end HITS.out HSZ.out HX2.out hplt HBX.out HOX.out (Bod.imp (fun _ _ h => h.mono (fun b hb q => ⟨q.1, hb⟩)) HDX.out) hx6 (by rw [HL.out, HE.out]; exact hst) ?_ ?_
          · rcases hv' with q | q
            · rw [q]; exact HBLK.out
            · exact .inr fun g hg => Nat.le_trans (Nat.le_trans hws HBX.out.size) (q g hg)
          · intro g hg
            rcases hv' with q | q
            · exact .inl (HRW2.out.lt g (by rw [← q]; exact hg)).2
            · exact .inr (q g hg))
        clear hst hv' hx6 HC HN
        go_wp2_with fail
        rw [Exit.noGoto_ret]
        go_ret
        exact HFE.out
      · have hop : ∃ l c, errF (nextS (A.drop (it A k).2)) = some (l, c) := by
          unfold errF
          rw [if_neg hc]
          split <;> exact ⟨_, _, rfl⟩
        obtain ⟨el, ec, he⟩ := hop
        obtain ⟨ty, tv, htv⟩ := chn_form el ec
        have HE : Hid (ev (errS a A (it A k).2) = .iface 66 (.agg #[.string ⟨#[102, 114, 97, 109, 101]⟩, .int .i64 ((a : Int) + ((it A k).2 : Int)), .iface ty tv])) := hide (by unfold errS; rw [he]; simp only [ev, chn, htv]; simp)
        rw [he] at HN
        simp only [ev, htv] at HN
        have HL : Hid (leftS A (it A k).2 = []) := hide (if_neg hc)
        rw [hsz] at HN
        clear hc hsz he htv
        generalize (nextS (A.drop (it A k).2)).K = fK at HN
        generalize (nextS (A.drop (it A k).2)).body = fB at HN
        go_wp2_with fail
        refine HN.out.mono ?_
        rintro e w3 ⟨ub, rfl, hub, hb3⟩
        obtain ⟨ao3, cap3, hub1⟩ := hub.sl.form
        subst hub1
        generalize fB.length = M at *
        unfold fdt
        have hbX : Below wr.heap.size wr (w3.alloc (.cells #[.int .i64 fK, .slice ao3 M cap3] 24)) := hb3.alloc hb3.size _
        have HBX := hide (HB.out.trans (hbX.mono HB.out.size))
        have HOX := hide (owns_below HOWN.out hbX)
        have HDX := hide ((HBOD.out.fresh.below hbX))
        have hrX := HRr.out.below hbX
        obtain ⟨d0, d1, d2, gz⟩ := id hrX
        have g2 := gz 2
        have HRX := hide (hrX.sete (.iface 66 (.agg #[.string ⟨#[102, 114, 97, 109, 101]⟩, .int .i64 ((a : Int) + ((it A k).2 : Int)), .iface ty tv])))
        have HC := hide (forget_bad B p _ a (it A k).2 _ _ _ HRX.out hBp ha (by omega))
        clear hub hb3 hbX gz hrX
        go_wp2_with (first | (go_at_call 34; refine (wrap_some _ _ _ _ _).mono ?_; rintro e w4 ⟨rfl, rfl⟩) | (go_at_call 35; refine HC.out.mono ?_; rintro e w6 ⟨rfl, hst, hx6⟩; have HST := hide hst; have HX6 := hide hx6; clear hst hx6))
        rw [Exit.noGoto_ret]
        go_ret
        refine feed_end HITS.out HSZ.out HX2.out hplt HBX.out HOX.out (Bod.imp (fun _ _ h => h.mono (fun b hb q => ⟨q.1, hb⟩)) HDX.out) ((Ex.set (S := fun k => k = p) _ rfl 2 _).trans HX6.out) (by rw [HL.out, HE.out]; exact HST.out) ?_ ?_
        · exact .inr fun g hg => by simp [Value.ownBlock] at hg
        · intro g hg; simp [Value.ownBlock] at hg
    · have hc := nextS_c hsz
      rw [show errF (nextS (A.drop (it A k).2)) = none from if_pos hc] at HN
      simp only [ev] at HN
      have hfz := nextS_size (A.drop (it A k).2)
      rw [List.length_drop] at hfz
      generalize hf : nextS (A.drop (it A k).2) = f at *
      have HF := hide hf
      clear hf
      have hszI : ¬ (f.size : Int) = 0 := by omega
      go_wp2_with fail
      refine HN.out.mono ?_
      rintro e w3 ⟨ub, rfl, hub, hb3⟩
      obtain ⟨ao3, cap3, hub1⟩ := hub.sl.form
      obtain ⟨M, hM⟩ : ∃ M, M = f.body.length := ⟨_, rfl⟩
      rw [← hM] at hub1
      clear hM
      subst hub1
      have HUB := hide hub
      have HB3 := hide hb3
      have HOWN3 := hide (((owns_below HOWN.out hb3).alloc (.cells #[.int .i64 f.K, .slice ao3 M cap3] 24)).alloc (.cells #[.int .i64 f.K, .slice ao3 M cap3] 24))
      have hsz3 : w2.heap.size ≤ ((w3.alloc (.cells #[.int .i64 f.K, .slice ao3 M cap3] 24)).alloc (.cells #[.int .i64 f.K, .slice ao3 M cap3] 24)).heap.size := by
        have h1 := HB.out.size
        have h2 := hb3.size
        simp
        omega
      have HZ3 := hide hsz3
      have hcl : ∀ j u, [Value.int .i64 f.K, Value.slice ao3 M cap3][j]? = some u → ((w3.alloc (.cells #[.int .i64 f.K, .slice ao3 M cap3] 24)).alloc (.cells #[.int .i64 f.K, .slice ao3 M cap3] 24)).cell? ((⟨w3.heap.size + 1, 0, none⟩ : Addr).add j) = some u := by
        have := cells_at (w3.alloc (.cells #[.int .i64 f.K, .slice ao3 M cap3] 24)) [Value.int .i64 f.K, Value.slice ao3 M cap3] 24
        simpa using this
      have HCL := hide hcl
      have hkk := its_le HITS.out
      clear hub hb3 hsz3 hcl
      unfold fdt
      go_wp2_with (first | (at_builtin; refine wpList_append_fr _ rfl _ _ rfl w2.heap.size _ k (fcs ps) rfl HOWN3.out HZ3.out ⟨w3.heap.size + 1, 0, none⟩ 1 1 [.int .i64 f.K, .slice ao3 M cap3] rfl rfl (by omega) HCL.out (by intro u hu; simp at hu; rcases hu with rfl | rfl <;> rfl) (by omega) ?_))
      intro w5 y5 hown5 hg5 hblk5
      have hstep := feed_step (K := f.K) (body := f.body) (ub := .slice ao3 M cap3) HB.out HOWN.out HBOD.out HB3.out HUB.out hg5 hblk5
      have HSTEP := hide hstep
      have HOWN5 := hide hown5
      clear hown5 hg5 hblk5 hstep HOWN3 HCL HN
      go_wp2_with fail
      go_roundg (gk - f.size)
      case measure => omega
      case rel =>
        refine ⟨k + 1, ps ++ [(f.K, .slice ao3 M cap3)], ?_, ?_, its_succ HITS.out (by rw [HF.out]; exact hsz), ?_, ?_, HSTEP.out.2⟩
        · simp only [it, HF.out]; omega
        · simp only [it, HF.out]; simp
        · rw [fcs_app]; exact HOWN5.out
        · simp only [it, HF.out]; exact HSTEP.out.1
end Go.Proofs.YtenahnbfaekljaaDoor
