/-
  THE DOCUMENT's MESSAGE THAT IS BEING READ (castellanref07.Read), in its cells, beside its cursor. Condition: fewer than a hundred thousand batches.
-/
import Derived.Test.YtjjpfajbljbelaaGreatDoorJKRpcDk
import Derived.Test.YtjjpfajbljbelaaGreatDoorJKBatRna2
namespace Go.Proofs.YtjjpfajbljbelaaGreatDoor
open Go.RowKit
def sN (l : List Int) (b : Bool) (s : Gs) : Gs × Int := if b then gN 1073741824 l s else (s, 0)
def sF (l : List Int) (b : Bool) (s : Gs) : Gs × Bool := if b then gF l s else (s, false)
def sD (l : List Int) (b : Bool) (s : Gs) : Gs × List Int := if b then gD l s else (s, [])
def s8 (l : List Int) (b : Bool) (s : Gs) : Gs × Int := if b then gN 8 l s else (s, 0)
theorem body_chain {l : List Int} {k : Int} {s a b c d e f g h i j n q t : Gs} {xa xb xc xf xg xh xi xj xn xq : Int} {xd xe : Bool} {xt : List Int} {u : Gs} {xu : Int}
  (h1 : sN l true s = (a, xa)) (h2 : sN l true a = (b, xb)) (h3' : sN l true b = (c, xc)) (h4 : sF l (hasM k 97) c = (d, xd)) (h5 : sF l (hasM k 103) d = (e, xe)) (h6 : sN l (hasM k 108) e = (f, xf)) (h7 : sN l (hasM k 112) f = (g, xg)) (h8 : sN l (hasM k 112) g = (h, xh)) (h9 : sN l (hasM k 104) h = (i, xi)) (h10 : sN l (hasM k 99) i = (j, xj)) (h11 : sN l (hasM k 115) j = (n, xn)) (h12 : sN l (hasM k 111) n = (q, xq)) (h13 : sD l (hasM k 100) q = (t, xt)) (h14 : s8 l (hasM k 98) t = (u, xu)) :
  bodyM l k s = ((batsG l xu.toNat u).1, ⟨k, xa, xb, xc, xd, xe, xf, xg, xh, xi, xj, xn, xq, xt, (batsG l xu.toNat u).2⟩) := by
 have e1 : fL 0 (gN 1073741824 l) h3 s = (c, [xa, xb, xc]) := by
  rw [show fL 0 (gN 1073741824 l) h3 s = ((sN l true (sN l true (sN l true s).1).1).1, [(sN l true s).2, (sN l true (sN l true s).1).2, (sN l true (sN l true (sN l true s).1).1).2]) from rfl, h1]
  simp only
  rw [h2]
  simp only
  rw [h3']
 have e2 : fL false (gF l) (hF2 k) c = (e, [xd, xe]) := by
  rw [show fL false (gF l) (hF2 k) c = ((sF l (hasM k 103) (sF l (hasM k 97) c).1).1, [(sF l (hasM k 97) c).2, (sF l (hasM k 103) (sF l (hasM k 97) c).1).2]) from rfl, h4]
  simp only
  rw [h5]
 have e3 : fL 0 (gN 1073741824 l) (hN7 k) e = (q, [xf, xg, xh, xi, xj, xn, xq]) := by
  unfold hN7
  unfold sN at h6 h7 h8 h9 h10 h11 h12
  simp only [fL, h6, h7, h8, h9, h10, h11, h12]
 have e4 : fL [] (gD l) [hasM k 100] q = (t, [xt]) := by
  rw [show fL [] (gD l) [hasM k 100] q = ((sD l (hasM k 100) q).1, [(sD l (hasM k 100) q).2]) from rfl, h13]
 have e5 : fL 0 (gN 8 l) [hasM k 98] t = (u, [xu]) := by
  rw [show fL 0 (gN 8 l) [hasM k 98] t = ((s8 l (hasM k 98) t).1, [(s8 l (hasM k 98) t).2]) from rfl, h14]
 unfold bodyM
 simp only
 rw [e1]
 simp only
 rw [e2]
 simp only
 rw [e3]
 simp only
 rw [e4]
 simp only
 rw [e5]
 rfl
theorem sN_pt {l : List Int} (hb : Byt l) {b : Bool} {s s' : Gs} {x : Int} (h : sN l b s = (s', x)) (hs : s.pt ≤ l.length) : s'.pt ≤ l.length := by
 have e := congrArg (fun q => q.1.pt) h
 unfold sN at e
 simp only at e
 rw [← e]
 split
 ·exact gN_pt hb hs
 ·exact hs
theorem sF_pt {l : List Int} (hb : Byt l) {b : Bool} {s s' : Gs} {x : Bool} (h : sF l b s = (s', x)) (hs : s.pt ≤ l.length) : s'.pt ≤ l.length := by
 have e := congrArg (fun q => q.1.pt) h
 unfold sF at e
 simp only at e
 rw [← e]
 split
 ·exact gF_pt hb hs
 ·exact hs
theorem sD_pt {l : List Int} (hb : Byt l) {b : Bool} {s s' : Gs} {x : List Int} (h : sD l b s = (s', x)) (hs : s.pt ≤ l.length) : s'.pt ≤ l.length := by
 have e := congrArg (fun q => q.1.pt) h
 unfold sD at e
 simp only at e
 rw [← e]
 split
 ·exact gD_pt hb hs
 ·exact hs
theorem s8_pt {l : List Int} (hb : Byt l) {b : Bool} {s s' : Gs} {x : Int} (h : s8 l b s = (s', x)) (hs : s.pt ≤ l.length) : s'.pt ≤ l.length ∧ 0 ≤ x ∧ x ≤ 8 := by
 have e := congrArg (fun q => q.1.pt) h
 have e2 := congrArg (fun q => q.2) h
 unfold s8 at e e2
 simp only at e e2
 rw [← e, ← e2]
 cases b with
 | true => exact ⟨gN_pt hb hs, gN_range hb 8 (by decide)⟩
 | false => exact ⟨hs, Int.le_refl 0, show (0 : Int) ≤ 8 by decide⟩
structure Fd (N : Nat) (w W : World) (v : Value) (s : Gs) (m : Ms) (ub ud : Value) (qs : List Bq) : Prop where
 cu : CuG W w.heap.size v s
 rg : W.rangeAt (w.heap.size + 1) 0 (cellsM m ub ud)
 fz : ∀ i, W.frozen? ⟨w.heap.size + 1, i, none⟩ = false
 own : W.ownsRow (w.heap.size + 2) 48 3 ub qs.length (bcs qs)
 el : ∀ q ∈ qs, Rl (fun k => (w.heap.size + 2 ≤ k ∧ ub.ownBlock ≠ some k)) (fun k => (w.heap.size + 2 ≤ k ∧ ub.ownBlock ≠ some k)) W q.u q.ps
 bs : bts qs = m.bs
 da : Sln (fun k => ((k < N ∨ w.heap.size + 2 ≤ k) ∧ ub.ownBlock ≠ some k)) W ud m.da
 be : Below w.heap.size w W
 hN : N ≤ w.heap.size
section
variable {N : Nat} {w W W' : World} {v : Value} {s s' : Gs} {m m' : Ms} {ub ud ub' ud' : Value} {qs : List Bq}
theorem Fd.sz (h : Fd N w W v s m ub ud qs) : w.heap.size + 1 < W.heap.size := cell_block (h.rg 0 _ rfl)
theorem Fd.ob (h : Fd N w W v s m ub ud qs) : ∀ g, ub.ownBlock = some g → w.heap.size + 2 ≤ g ∧ g < W.heap.size := fun g hg => h.own.lt g hg
theorem Fd.step (h : Fd N w W v s m ub ud qs) (hr : CuG W' w.heap.size v s') (hb : Bx w.heap.size W W') : Fd N w W' v s' m ub ud qs := by
 have hz := h.sz
 have hX : w.heap.size + 1 ≠ w.heap.size := by omega
 have hN := h.hN
 exact ⟨hr, range_imp h.rg (fun i _ => hb.cell hz hX), fun i => by rw [hb.frozen hz hX]; exact h.fz i, owns_bxp h.own hb (by omega), fun q hq => (h.el q hq).imp (fun _ _ k => k) (fun _ _ k => k) (fun k i hl hk => hb.cell hl (by rcases hk with q | q <;> have := q.1 <;> omega)), h.bs, h.da.imp (fun _ _ k => k) (fun k i hl hk => hb.cell hl (by have := hk.1; omega)), h.be.trans (hb.below (by omega)), hN⟩
theorem Fd.below (h : Fd N w W v s m ub ud qs) (hb : Below W.heap.size W W') : Fd N w W' v s m ub ud qs := h.step (h.cu.below hb) (Bx.of hb)
theorem Fd.set (h : Fd N w W v s m ub ud qs) {i : Nat} {x : Value} (hi : i < 15) (hc : cellsM m' ub ud' = (cellsM m ub ud).set i x) (hm : m'.bs = m.bs) (hd : Sln (fun k => ((k < N ∨ w.heap.size + 2 ≤ k) ∧ ub.ownBlock ≠ some k)) W ud' m'.da) : Fd N w (W.setCell ⟨w.heap.size + 1, i, none⟩ x) v s m' ub ud' qs := by
 have ho : ∀ b j, b ≠ w.heap.size + 1 → (W.setCell ⟨w.heap.size + 1, i, none⟩ x).cell? ⟨b, j, none⟩ = W.cell? ⟨b, j, none⟩ := fun b j hb => World.cell?_setCell_other _ _ _ _ (fun q => hb (congrArg Addr.block q).symm)
 have hN := h.hN
 refine ⟨cuG_set h.cu (by omega), by rw [hc]; exact range_set h.rg hi, fun j => by simp [h.fz j], owns_set h.own (by omega), fun q hq => (h.el q hq).imp (fun _ _ k => k) (fun _ _ k => k) (fun k j hl hk => ho k j (by rcases hk with q | q <;> have := q.1 <;> omega)), by rw [hm]; exact h.bs, hd.imp (fun _ _ k => k) (fun k j _ hk => ho k j (by have := hk.1; omega)), h.be.setCell (by exact Nat.le_succ _) _, hN⟩
theorem Fd.app (h : Fd N w W v s m ub ud qs) {q : Bq} (hq : Rl (fun k => (w.heap.size + 2 ≤ k ∧ ub.ownBlock ≠ some k)) (fun k => (w.heap.size + 2 ≤ k ∧ ub.ownBlock ≠ some k)) W q.u q.ps) (ho : W'.ownsRow (w.heap.size + 2) 48 3 ub' (qs.length + 1) (bcs qs ++ bce q)) (hg : W.grownBy W' ub.ownBlock) (hu : ub'.ownBlock = ub.ownBlock ∨ ub'.ownBlock = some W.heap.size) (hm : m' = { m with bs := m.bs ++ [btq q] }) : Fd N w (W'.setCell ⟨w.heap.size + 1, 11, none⟩ ub') v s m' ub' ud (qs ++ [q]) := by
 subst hm
 have hz := h.sz
 have hN := h.hN
 have hne : ∀ k, k < w.heap.size + 2 → ub.ownBlock ≠ some k := fun k hk e => by have := (h.ob k e).1; omega
 have hc : ∀ k i, k < W.heap.size → ub.ownBlock ≠ some k → W'.cell? ⟨k, i, none⟩ = W.cell? ⟨k, i, none⟩ := fun k i hk hn => World.cell?_of_block (hg.block k hk (fun e => hn e.symm))
 have hf : ∀ k i, k < W.heap.size → ub.ownBlock ≠ some k → W'.frozen? ⟨k, i, none⟩ = W.frozen? ⟨k, i, none⟩ := fun k i hk hn => World.frozen?_of_block (hg.block k hk (fun e => hn e.symm))
 have hs : ∀ k j, k ≠ w.heap.size + 1 → (W'.setCell ⟨w.heap.size + 1, 11, none⟩ ub').cell? ⟨k, j, none⟩ = W'.cell? ⟨k, j, none⟩ := fun k j hk => World.cell?_setCell_other _ _ _ _ (fun q => hk (congrArg Addr.block q).symm)
 have hko : ∀ k, k < W.heap.size → ub.ownBlock ≠ some k → ub'.ownBlock ≠ some k := fun k hl hk => by
  rcases hu with e | e
  ·rw [e]; exact hk
  ·rw [e]; intro q; cases q; omega
 have hk' : ∀ k, k < W.heap.size → (w.heap.size + 2 ≤ k ∧ ub.ownBlock ≠ some k) → (w.heap.size + 2 ≤ k ∧ ub'.ownBlock ≠ some k) := fun k hl hk => ⟨hk.1, hko k hl hk.2⟩
 have hcc : ∀ k i, k < W.heap.size → (k ≠ w.heap.size + 1 ∧ ub.ownBlock ≠ some k) → (W'.setCell ⟨w.heap.size + 1, 11, none⟩ ub').cell? ⟨k, i, none⟩ = W.cell? ⟨k, i, none⟩ := fun k i hl hk => by
  rw [hs k i hk.1]; exact hc k i hl hk.2
 have hrow : ∀ r : Bq, Rl (fun k => (w.heap.size + 2 ≤ k ∧ ub.ownBlock ≠ some k)) (fun k => (w.heap.size + 2 ≤ k ∧ ub.ownBlock ≠ some k)) W r.u r.ps → Rl (fun k => w.heap.size + 2 ≤ k ∧ ub'.ownBlock ≠ some k) (fun k => w.heap.size + 2 ≤ k ∧ ub'.ownBlock ≠ some k) (W'.setCell ⟨w.heap.size + 1, 11, none⟩ ub') r.u r.ps := fun r hr => hr.imp hk' hk' (fun k i hl hk => hcc k i hl (by rcases hk with q | q <;> exact ⟨by have := q.1; omega, q.2⟩))
 have hrg : W'.rangeAt (w.heap.size + 1) 0 (cellsM m ub ud) := range_imp h.rg (fun i hl => hc _ i hl (hne _ (by omega)))
 have hp : w.heap.size < W.heap.size := by omega
 have hn0 := hne w.heap.size (by omega)
 refine ⟨cuG_set ⟨(hc _ 0 hp hn0).trans h.cu.c0, (hc _ 1 hp hn0).trans h.cu.c1, (hc _ 2 hp hn0).trans h.cu.c2, (hc _ 3 hp hn0).trans h.cu.c3, (hc _ 4 hp hn0).trans h.cu.c4, fun i => (hf _ i hp hn0).trans (h.cu.fz i)⟩ (by omega), range_set hrg (i := 11) (show 11 < 15 by decide), fun i => by simp [hf _ i hz (hne _ (by omega)), h.fz i], owns_set (by rw [bcs_app, bcs_one, List.length_append]; exact ho) (by omega), fun r hr => ?_, by simp [bts, h.bs.symm], h.da.imp (fun k hl hk => ⟨hk.1, hko k hl hk.2⟩) (fun k i hl hk => hcc k i hl ⟨by have := hk.1; omega, hk.2⟩), ?_, hN⟩
 ·rcases List.mem_append.1 hr with e | e
  ·exact hrow r (h.el r e)
  ·simp at e; subst e; exact hrow r hq
 ·exact (h.be.trans ⟨hg.os, hg.tape, hg.output, hg.size, fun k hk => hg.block k (by omega) (fun e => hne k (by omega) e.symm)⟩).setCell (by exact Nat.le_succ _) _
theorem Fd.is (h : Fd N w W v s m ub ud qs) (hc : ∀ k i, k < N ∨ w.heap.size + 2 ≤ k → k < W.heap.size → W'.cell? ⟨k, i, none⟩ = W.cell? ⟨k, i, none⟩) : IsM W' (.agg (cellsM m ub ud).toArray) m := by
 refine ⟨ub, ud, qs, rfl, ⟨⟨?_, fun q hq => ((h.el q hq).imp (ok' := fun _ => True) (okb' := fun _ => True) (fun _ _ _ => trivial) (fun _ _ _ => trivial) (fun k i hl hk => hc k i (by rcases hk with q | q <;> exact .inr q.1) hl)).any⟩, h.bs, (h.da.imp (fun _ _ q => q) (fun k i hl hk => hc k i hk.1 hl)).sl⟩⟩
 by_cases h0 : 0 < qs.length
 ·obtain ⟨g, cap, rfl, e1, e2, e3, e4, _⟩ := owns_range h.own h0
  exact .inr ⟨g, 0, cap, rfl, e2, h0, range_imp e4 (fun i hl => hc g i (.inr e1) hl)⟩
 ·have e : qs = [] := List.length_eq_zero_iff.1 (by omega)
  subst e
  rcases h.own.2 with ⟨rfl, _⟩ | ⟨g, cap, cur, rfl, _⟩ <;> exact .inl ⟨_, _, rfl, rfl⟩
end
theorem cu_new (w : World) (v : Value) : CuG (w.alloc (.cells #[v, .int .i64 0, .int .i64 0, .string ⟨#[]⟩, .int .i64 0] 68)) w.heap.size v (okS 0) := ⟨by simp, by simp [okS], by simp [okS], by simp [okS], by simp [okS, whS], fun i => World.frozen?_alloc_at _ _ _ _ (by simp)⟩
theorem fd_of {N : Nat} {w Y W : World} {v : Value} {k : Int} (hN : N ≤ w.heap.size) (hc : CuG Y w.heap.size v (okS 0)) (hb : Below w.heap.size w Y) (hz : Y.heap.size = w.heap.size + 1) (hb1 : Below Y.heap.size Y W) (hr : W.rangeAt Y.heap.size 0 (cellsM ⟨k, 0, 0, 0, false, false, 0, 0, 0, 0, 0, 0, 0, [], []⟩ (.slice none 0 0) (.slice none 0 0))) (hf : ∀ i, W.frozen? ⟨Y.heap.size, i, none⟩ = false) : Fd N w W v (okS 0) ⟨k, 0, 0, 0, false, false, 0, 0, 0, 0, 0, 0, 0, [], []⟩ (.slice none 0 0) (.slice none 0 0) [] := by
 rw [hz] at hr hf
 exact ⟨hc.below hb1, hr, hf, World.ownsRow_nil _ _ _ _, fun q hq => by simp at hq, rfl, Sln.nil _ _ _ _, hb.trans (hb1.mono (by omega)), hN⟩
structure Ed (w Y : World) (cs : List Value) : Prop where
 r1 : Y.rangeAt (w.heap.size + 1) 0 cs
 t2 : Y.there (w.heap.size + 1 + 1) 0 4
 lt : w.heap.size + 1 + 1 < Y.heap.size
 be : Below w.heap.size w Y
theorem ed_one {w Y : World} {cs : List Value} (hl : cs.length = 15) (h1 : Y.there (w.heap.size + 1) 0 15) (h2 : Y.there (w.heap.size + 1 + 1) 0 4) (hb : Below w.heap.size w Y) : Ed w (Y.setCells (w.heap.size + 1) 0 cs) cs := by
 refine ⟨World.rangeAt_setCells_same _ _ _ _ (by rw [hl]; exact h1), World.there_setCells h2 _ _ _, ?_, below_many (by omega) _ _ hb⟩
 obtain ⟨x, hx⟩ := Option.isSome_iff_exists.1 ((World.there_setCells h2 (w.heap.size + 1) 0 cs) 0 (by decide)).1
 exact cell_block hx
theorem Ed.below {w Y Y' : World} {cs : List Value} (h : Ed w Y cs) (hb : Below Y.heap.size Y Y') : Ed w Y' cs := by
 have := h.lt
 exact ⟨range_imp h.r1 (fun i hl => hb.cell (p := ⟨w.heap.size + 1, _, none⟩) (by show w.heap.size + 1 < _; omega)), there_bel h.t2 hb (by omega), Nat.lt_of_lt_of_le h.lt hb.size, h.be.trans (hb.mono h.be.size)⟩
theorem Ed.fin {w Y : World} {cs cs' : List Value} (h : Ed w Y cs) (hl : cs'.length = 4) : (Y.setCells (w.heap.size + 1 + 1) 0 cs').rangeAt (w.heap.size + 1) 0 cs ∧ (Y.setCells (w.heap.size + 1 + 1) 0 cs').rangeAt (w.heap.size + 1 + 1) 0 cs' ∧ Below w.heap.size w (Y.setCells (w.heap.size + 1 + 1) 0 cs') :=
 ⟨range_imp h.r1 (fun i _ => cell_many (by omega) _ _), World.rangeAt_setCells_same _ _ _ _ (by rw [hl]; exact h.t2), below_many (by omega) _ _ h.be⟩
theorem rd_math {k : Int} {l : List Int} {sF : Gs} {mF : Ms} (hk : ¬ (k < 1 ∨ 8 < k)) (hby : Byt l) (h1 : (bodyM l k (okS 0)).1 = sF) (h2 : sF.c = 0 → (bodyM l k (okS 0)).2 = mF) :
  ((endS l sF).c ≠ 0 → readM k l = (((endS l sF).op, whS (endS l sF), (endS l sF).c), Ms.zero)) ∧ ((endS l sF).c = 0 → TxM mF ∧ ((chkM mF).2.2 ≠ 0 → readM k l = (chkM mF, Ms.zero)) ∧ ((chkM mF).2.2 = 0 → readM k l = ((⟨#[]⟩, 0, 0), mF))) := by
 have hr : readM k l = if (endS l sF).c ≠ 0 then (((endS l sF).op, whS (endS l sF), (endS l sF).c), Ms.zero) else if (chkM (bodyM l k (okS 0)).2).2.2 ≠ 0 then (chkM (bodyM l k (okS 0)).2, Ms.zero) else ((⟨#[]⟩, 0, 0), (bodyM l k (okS 0)).2) := by
  unfold readM
  rw [if_neg hk]
  simp only
  rw [h1]
 refine ⟨fun h => by rw [hr, if_pos h], fun h => ?_⟩
 have hc : sF.c = 0 := by
  by_cases hc : sF.c = 0
  ·exact hc
  ·refine absurd ?_ hc
   rw [← h]
   unfold endS refS
   rw [if_neg hc]
   split <;> rfl
 have hm := h2 hc
 rw [hm] at hr
 obtain ⟨b, _, _, _, _, _, hok⟩ := bodyM_run l hby k 0 (Nat.zero_le _) (by rw [h1]; exact hc)
 rw [hm] at hok
 rw [if_neg (fun q => q h)] at hr
 exact ⟨(msOk_tx hok).1, fun q => by rw [hr, if_pos q], fun q => by rw [hr, if_neg (fun z => z q)]⟩
theorem results_two {P : Program} {fn : Func} {q r : Tmp} {ty ty' : TypeId} (h : fn.results = #[.cell q ty, .cell r ty']) (tmps : Array Value) (w : World) (b : Nat) (cs : List Value) (d : TypeDesc) (b' : Nat) (cs' : List Value) (d' : TypeDesc) (hp : tmps.getD q undef = .pointer (some ⟨b, 0, none⟩)) (hp2 : tmps.getD r undef = .pointer (some ⟨b', 0, none⟩)) (hc : w.rangeAt b 0 cs) (hu : P.underlying ty = some d) (hd : d.isRow = true) (hi : (P.info? ty).map (·.size) = some cs.length) (hc' : w.rangeAt b' 0 cs') (hu' : P.underlying ty' = some d') (hd' : d'.isRow = true) (hi' : (P.info? ty').map (·.size) = some cs'.length) :
  (results fn tmps).run P w = .ok (.tuple #[.agg cs.toArray, .agg cs'.toArray]) w := by
 have hp' : tmps[q]?.getD undef = .pointer (some ⟨b, 0, none⟩) := by simpa using hp
 have hp2' : tmps[r]?.getD undef = .pointer (some ⟨b', 0, none⟩) := by simpa using hp2
 simp [results, h, hp', hp2', asAddr, run_loadVar_mid w b 0 ty cs d hc hu hd hi, run_loadVar_mid w b' 0 ty' cs' d' hc' hu' hd' hi']
theorem res_there (w : World) (k : Int) (v : Value) {X : World} (hX : X = (((w.alloc (.cells #[.int .i64 k, v] 32)).alloc (.cells #[.int .i64 0, .int .i64 0, .int .i64 0, .int .i64 0, .bool false, .bool false, .int .i64 0, .int .i64 0, .int .i64 0, .int .i64 0, .int .i64 0, .slice none 0 0, .int .i64 0, .int .i64 0, .slice none 0 0] 26)).alloc (.cells #[.string ⟨#[]⟩, .int .i64 0, .int .i64 0, .int .i64 0] 37))) : X.heap.size = w.heap.size + 1 + 1 + 1 ∧ Below w.heap.size w X ∧ X.cell? ⟨w.heap.size, 0, none⟩ = some (.int .i64 k) ∧ X.cell? ⟨w.heap.size, 1, none⟩ = some v ∧ X.there (w.heap.size + 1) 0 15 ∧ X.there (w.heap.size + 1 + 1) 0 4 := by
 subst hX
 have a1 : (w.alloc (.cells #[.int .i64 k, v] 32)).heap.size = w.heap.size + 1 := by simp
 have c0 : (w.alloc (.cells #[.int .i64 k, v] 32)).cell? ⟨w.heap.size, 0, none⟩ = some (.int .i64 k) := by simp
 have c1 : (w.alloc (.cells #[.int .i64 k, v] 32)).cell? ⟨w.heap.size, 1, none⟩ = some v := by simp
 have b1 : Below w.heap.size w (w.alloc (.cells #[.int .i64 k, v] 32)) := (Below.refl _ _).alloc (Nat.le_refl _) _
 generalize w.alloc (.cells #[.int .i64 k, v] 32) = X1 at *
 have t1 := there_newM X1
 have b2 : Below X1.heap.size X1 (X1.alloc (.cells #[.int .i64 0, .int .i64 0, .int .i64 0, .int .i64 0, .bool false, .bool false, .int .i64 0, .int .i64 0, .int .i64 0, .int .i64 0, .int .i64 0, .slice none 0 0, .int .i64 0, .int .i64 0, .slice none 0 0] 26)) := (Below.refl _ _).alloc (Nat.le_refl _) _
 have a2 : (X1.alloc (.cells #[.int .i64 0, .int .i64 0, .int .i64 0, .int .i64 0, .bool false, .bool false, .int .i64 0, .int .i64 0, .int .i64 0, .int .i64 0, .int .i64 0, .slice none 0 0, .int .i64 0, .int .i64 0, .slice none 0 0] 26)).heap.size = X1.heap.size + 1 := by simp
 generalize X1.alloc (.cells #[.int .i64 0, .int .i64 0, .int .i64 0, .int .i64 0, .bool false, .bool false, .int .i64 0, .int .i64 0, .int .i64 0, .int .i64 0, .int .i64 0, .slice none 0 0, .int .i64 0, .int .i64 0, .slice none 0 0] 26) = X2 at *
 have b3 : Below X2.heap.size X2 (X2.alloc (.cells #[.string ⟨#[]⟩, .int .i64 0, .int .i64 0, .int .i64 0] 37)) := (Below.refl _ _).alloc (Nat.le_refl _) _
 have t2 : (X2.alloc (.cells #[.string ⟨#[]⟩, .int .i64 0, .int .i64 0, .int .i64 0] 37)).there X2.heap.size 0 4 := fun j hj => ⟨(range_new X2 [.string ⟨#[]⟩, .int .i64 0, .int .i64 0, .int .i64 0] 37).isSome j hj, by simp⟩
 have a3 : (X2.alloc (.cells #[.string ⟨#[]⟩, .int .i64 0, .int .i64 0, .int .i64 0] 37)).heap.size = X2.heap.size + 1 := by simp
 generalize X2.alloc (.cells #[.string ⟨#[]⟩, .int .i64 0, .int .i64 0, .int .i64 0] 37) = X3 at *
 have b13 : Below X1.heap.size X1 X3 := b2.trans (b3.mono b2.size)
 rw [a1] at t1
 rw [a2, a1] at t2
 refine ⟨by omega, b1.trans (b13.mono b1.size), (b13.cell (p := ⟨w.heap.size, 0, none⟩) (by show w.heap.size < _; omega)).trans c0, (b13.cell (p := ⟨w.heap.size, 1, none⟩) (by show w.heap.size < _; omega)).trans c1, there_bel t1 b3 (by omega), t2⟩
end Go.Proofs.YtjjpfajbljbelaaGreatDoor
