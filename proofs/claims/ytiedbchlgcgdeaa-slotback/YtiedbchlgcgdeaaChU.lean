/-
  RECORDS ARE WRITTEN (chain.put, Append), the store is synced (chain.Sync), and what is asked (chain.Next, Stamp). Condition: fewer than thirty thousand blocks and writes.
-/
import Derived.Test.YtiedbchlgcgdeaaChR
namespace Go.Proofs.Ytiedbchlgcgdeaa
open Go.RowKit

theorem Sl.someC {α : Type} {f : α → Value} {w : World} {ao : Option Addr} {n cap : Nat} {l : List α} (h : Sl f w (.slice ao n cap) l) (h0 : 0 < l.length) : ∃ g o, ao = some ⟨g, o, none⟩ ∧ l.length ≤ cap ∧ ∀ i (hi : i < l.length), w.cell? ⟨g, o + i, none⟩ = some (f l[i]) := by
  rcases h with ⟨_, _, rfl, _⟩ | ⟨g, o, c, e, h2, h3⟩
  · simp at h0
  · cases e; exact ⟨g, o, rfl, h2, h3⟩
theorem Sl.noneN {α : Type} {f : α → Value} {w : World} {L cap : Nat} {l : List α} (h : Sl f w (.slice none L cap) l) : l = [] := by
  rcases h with ⟨ao, cap, h, _⟩ | ⟨b, o, cap, h, _⟩
  · exact h
  · cases h
theorem fromC_run (a : Addr) (L cap n : Nat) (h1 : n ≤ L) (W : World) : (Instr.slice 23 (.slice (some a) L cap) (some (.int .i64 (n : Int))) none none).run Try.prog W = .ok (.slice (if cap = n then some a else some (a.add n)) (L - n) (cap - n)) W := by
  have g1 : (n : Int) ≤ (L : Int) := by omega
  simp [Instr.slice, go_sem, g1]
theorem sliceC_from (v : Value) (b : List Int) (n : Nat) (w : World) (hv : Sl bc w v b) (hn : n ≤ b.length) :
    ∃ u, (∀ W, (Instr.slice 23 v (some (.int .i64 (n : Int))) none none).run Try.prog W = .ok u W) ∧ ∀ W, Sl bc W v b → Sl bc W u (b.drop n) := by
  by_cases h0 : n < b.length
  · obtain ⟨ao, cap, rfl⟩ := hv.form
    obtain ⟨g, o, rfl, hc, _⟩ := hv.someC (by omega)
    refine ⟨_, fromC_run _ b.length cap n hn, fun W hW => ?_⟩
    obtain ⟨g', o', h1, h2, h3⟩ := hW.someC (by omega)
    cases h1
    have hl : (b.drop n).length = b.length - n := by rw [List.length_drop]
    refine .inr ⟨g, o + n, cap - n, by rw [if_neg (by omega), hl, Addr.add_lit], by rw [hl]; omega, fun i hi => ?_⟩
    rw [hl] at hi
    rw [Nat.add_assoc, h3 (n + i) (by omega)]
    simp [List.getElem_drop]
  · obtain rfl : n = b.length := by omega
    obtain ⟨ao, cap, rfl⟩ := hv.form
    rw [List.drop_length]
    cases ao with
    | none =>
      obtain rfl := hv.noneN
      refine ⟨.slice none 0 cap, fun W => ?_, fun W _ => Sl.nil _ _ _ _⟩
      simp [Instr.slice, go_sem]
    | some a =>
      refine ⟨_, fromC_run a b.length cap b.length (Nat.le_refl _), fun W _ => ?_⟩
      rw [Nat.sub_self]
      exact Sl.nil _ _ _ _
/-- What a call of a chain has turned: the store's blocks, the chain's own, and new ones. -/
structure Cx (c d bS bT : Nat) (u : Value) (w w' : World) (u' : Value) : Prop where
  ba : Ba (fun k => Own d bS bT u k ∨ k = c) w w'
  bl : ∀ k, u'.ownBlock = some k → u.ownBlock = some k ∨ w.heap.size ≤ k
section
variable {c d bS bT : Nat} {u u' u'' : Value} {w w' w'' : World}
theorem Cx.of (h : Dx d bS bT u w w' u') : Cx c d bS bT u w w' u' := ⟨h.ba.trans (Ba.refl (fun k => Own d bS bT u k) _) (fun _ _ e => e) |> fun q => ⟨q.os, q.tape, q.output, q.size, fun k hk hn => q.block k hk (fun e => hn (.inl e))⟩, h.bl⟩
theorem Cx.refl : Cx c d bS bT u w w u := Cx.of Dx.refl
theorem Cx.trans (h : Cx c d bS bT u w w' u') (k : Cx c d bS bT u' w' w'' u'') : Cx c d bS bT u w w'' u'' :=
  ⟨h.ba.trans k.ba (fun i hi e => by
    rcases e with (e | e | e | e) | e
    · exact .inl (.inl e)
    · exact .inl (.inr (.inl e))
    · exact .inl (.inr (.inr (.inl e)))
    · rcases h.bl i e with q | q
      · exact .inl (.inr (.inr (.inr q)))
      · omega
    · exact .inr e), fun i e => by
    rcases k.bl i e with q | q
    · exact h.bl i q
    · exact .inr (Nat.le_trans h.ba.size q)⟩
theorem Cx.call (h : Cx c d bS bT u w w' u') (k : Below w'.heap.size w' w'') : Cx c d bS bT u w w'' u' := h.trans (Cx.of (Dx.of k))
theorem Cx.set (h : Cx c d bS bT u w w' u') (i : Nat) (v : Value) : Cx c d bS bT u w (w'.setCell ⟨c, i, none⟩ v) u' := ⟨h.ba.set (fun _ => .inr rfl) i v, h.bl⟩
theorem Cx.own (h : Cx c d bS bT u w w' u') {k : Nat} (hk : k < w.heap.size) (hp : ¬ Own d bS bT u k) : ¬ Own d bS bT u' k := fun e => by
  rcases e with e | e | e | e
  · exact hp (.inl e)
  · exact hp (.inr (.inl e))
  · exact hp (.inr (.inr (.inl e)))
  · rcases h.bl k e with q | q
    · exact hp (.inr (.inr (.inr q)))
    · omega
theorem Dx.b4 {g : Nat} {x y z v : Value} (h : Dx d bS bT u w w' u') (hg : ¬ Own d bS bT u g) (hb : B4 w g x y z v) : B4 w' g x y z v := hb.keepB (h.ba.block g hb.lt hg)
theorem Dq.setC {s : Dst} {W : World} (h : Dq W d bS bT u s) {g : Nat} (hg : ¬ Own d bS bT u g) (i : Nat) (x : Value) : Dq (W.setCell ⟨g, i, none⟩ x) d bS bT u s :=
  ⟨h.dk.keep (fun k hk => Below.heap_setCell _ _ _ _ (fun e => hg ((show k = g from e) ▸ hk))), h.ok⟩
end
/-- The blocks of a record. -/
def pieces (a st : Int) (b : List Int) (n : Nat) : List Wr := (List.range n).map fun (i : Nat) => (⟨a + (i : Int), false, blkOf (st + (i : Int)) (decide (i = 0)) (b.drop (46 * i))⟩ : Wr)
theorem pieces_succ (a st : Int) (b : List Int) (n : Nat) : pieces a st b (n + 1) = pieces a st b n ++ [⟨a + n, false, blkOf (st + n) (decide (n = 0)) (b.drop (46 * n))⟩] := by simp [pieces, List.range_succ]
def pS (s : Dst) (a st : Int) (b : List Int) (n : Nat) : Dst := ⟨s.room, s.cs, s.lo ++ pieces a st b n⟩
theorem pS_zero (s : Dst) (a st : Int) (b : List Int) : pS s a st b 0 = s := by simp [pS, pieces]
theorem pS_tk (s : Dst) (a st : Int) (b : List Int) (hs : Asc s.cs) : ∀ n, (pS s a st b n).tk.length ≤ s.tk.length + n
  | 0 => by rw [pS_zero]; exact Nat.le_refl _
  | n + 1 => by
    have ih := pS_tk s a st b hs n
    have e : (pS s a st b (n + 1)).tk = stT (pS s a st b n).tk ⟨a + n, false, blkOf (st + n) (decide (n = 0)) (b.drop (46 * n))⟩ := by
      show tkO s.cs (s.lo ++ pieces a st b (n + 1)) = _
      rw [pieces_succ, ← List.append_assoc, tkO_snoc]
      rfl
    have h2 := stT_len (asc_tkO hs (s.lo ++ pieces a st b n)) ⟨a + n, false, blkOf (st + n) (decide (n = 0)) (b.drop (46 * n))⟩
    rw [e]
    exact Nat.le_trans h2 (by have : (tkO s.cs (s.lo ++ pieces a st b n)).length ≤ s.tk.length + n := ih; omega)
theorem pS_wt (s : Dst) (a st : Int) (b : List Int) (n : Nat) : (pS s a st b n).wt = s.wt + n := by simp [pS, Dst.wt, pieces]; omega
theorem pad_blk {b : List Int} (h : b.length = 64) : padL b = b := by unfold padL; rw [h, List.drop_eq_nil_of_le (by rw [zer_len]; exact Nat.le_refl _), List.append_nil]
theorem pS_step {s : Dst} {a st : Int} {b : List Int} {n : Nat} (hN : Num (a + n)) (hr : (look (pS s a st b n).tk (a + n)).isSome = true ∨ ((pS s a st b n).tk.length : Int) < s.room) : wrE (pS s a st b n) (a + n) (blkOf (st + n) (decide (n = 0)) (b.drop (46 * n))) = none ∧ wrS (pS s a st b n) (a + n) (blkOf (st + n) (decide (n = 0)) (b.drop (46 * n))) = pS s a st b (n + 1) := by
  have hl := blkOf_len (st + n) (decide (n = 0)) (b.drop (46 * n))
  constructor
  · unfold wrE
    rw [if_pos (show 0 ≤ a + (n : Int) ∧ a + n ≤ 1073741824 from hN), if_pos (by omega), if_pos (c := (look (pS s a st b n).tk (a + n)).isSome = true ∨ ((pS s a st b n).tk.length : Int) < (pS s a st b n).room) hr]
  · unfold wrS
    rw [if_pos (show 0 ≤ a + (n : Int) ∧ a + n ≤ 1073741824 from hN), if_pos (by omega), if_pos (c := (look (pS s a st b n).tk (a + n)).isSome = true ∨ ((pS s a st b n).tk.length : Int) < (pS s a st b n).room) hr, pad_blk hl]
    unfold pS
    rw [pieces_succ, List.append_assoc]
theorem yields_from {ops : Array Oper} {o : Oper} {a : Act} {S : World → Prop} (hw : Region.wanted o (yielded ops a.tmps) = true) (x y : Operand) (ho : o.op = .slice 23 x (some y) none none) (v v' : Value) (n : Nat) (hx : a.eval x = v) (hy : a.eval y = .int .i64 (n : Int)) (hr : ∀ W, (Instr.slice 23 v (some (.int .i64 (n : Int))) none none).run Try.prog W = .ok v' W) : YieldsIf Try.prog ops S o v' a :=
  .inl ⟨hw, fun w _ => by
    unfold execOp
    simp only [ho, hx, Option.map_some, Option.map_none, hy]
    have h2 : (Instr.sliceAt 23 v (some (.int .i64 (n : Int))) none none).run Try.prog w = .ok v' w := by
      unfold Instr.sliceAt
      simp only [Sem.run_bind, run_underlying Try.underlying23, Result.andThen_ok]
      exact hr w
    simp [h2, Result.andThen]⟩
def opRecord : ByteArray := ⟨#[114, 101, 99, 111, 114, 100]⟩
def opAppend : ByteArray := ⟨#[97, 112, 112, 101, 110, 100]⟩
end Go.Proofs.Ytiedbchlgcgdeaa
