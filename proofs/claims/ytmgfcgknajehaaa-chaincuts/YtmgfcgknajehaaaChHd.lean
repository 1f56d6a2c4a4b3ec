/-
  LINKS IN A ROW THAT GROWS BESIDE A CHAIN: what a call keeps of them, one more, their beginning. Conditions: those of its parts.
-/
import Derived.Test.YtmgfcgknajehaaaChPy
namespace Go.Proofs.Ytmgfcgknajehaaa
open Go.RowKit

theorem Lw.mono {W : World} {B C : Nat} {v : Value} {qs : List Lc} (h : Lw W B v qs) (hc : C ≤ B) : Lw W C v qs :=
  ⟨⟨h.own.1, h.own.2.imp id (fun ⟨g, cap, cur, a1, a2, a3⟩ => ⟨g, cap, cur, a1, Nat.le_trans hc a2, a3⟩)⟩, h.mem⟩
theorem wpList_appLw {ops : Array Oper} {rest : List Oper} {o : Oper} {a : Act} {Q : Exit → Act → World → Prop} (w : World) (hw : Region.wanted o (yielded ops a.tmps) = true) (y z : Operand) (ho : o.op = .call { callee := .builtin .append, args := #[y, z], argTypes := #[32, 32] }) (B : Nat) (v : Value) (qs : List Lc) (hy : a.eval y = v) (hown : Lw w B v qs) (hB : B ≤ w.heap.size) (ad : Addr) (c : Nat) (q : Lc) (hz : a.eval z = .slice (some ad) 1 c) (hnews : ∀ j u, (lkc q)[j]? = some u → w.cell? (ad.add j) = some u) (hone : ∃ a n k, q.2.1 = .slice a n k) (hq : Slp (fun b => v.ownBlock ≠ some b) w q.2.1 q.2.2) (hn : qs.length + 1 ≤ 2000000000)
    (h : ∀ v' w', Lw w' B v' (qs ++ [q]) → w.grownBy w' v.ownBlock → (v'.ownBlock = v.ownBlock ∨ v'.ownBlock = some w.heap.size) → wpList Try.prog ops Q rest (a.put o.dst v') w') : wpList Try.prog ops Q (o :: rest) a w := by
  refine wpList_step fun K hK => ?_
  rw [if_pos hw]
  obtain ⟨i0, hi, hz0, hz1, hz2⟩ := info_parts infoLk
  obtain ⟨v', w', hrun, ho', hg', _, hk⟩ := run_append_own_at (P := Try.prog) w B 32 o.type 40 i0 (.agg #[.int .i64 0, .slice none 0 0]) 2 32 Try.underlying32 hi hz0 hz1 hz2 rfl (by decide) v qs.length (qs.flatMap lkc) hown.own ad 1 c (lkc q) rfl hnews (fun u hu => by
    obtain ⟨a9, n9, k9, e9⟩ := hone
    simp only [lkc, List.mem_cons, List.not_mem_nil, or_false] at hu
    rcases hu with rfl | rfl
    · rfl
    · rw [e9]; rfl) (by unfold maxLen; omega) (by omega) hB
  unfold Oper.wp
  simp [execOp, ho, resolve, invoke, builtin, hy, hz, hrun, Result.andThen]
  refine hK _ _ (h v' w' ⟨?_, ?_⟩ hg' hk)
  · rw [List.length_append, List.flatMap_append]
    simpa using ho'
  · have step : ∀ p : Lc, Slp (fun b => v.ownBlock ≠ some b) w p.2.1 p.2.2 → Slp (fun b => v'.ownBlock ≠ some b) w' p.2.1 p.2.2 := fun p hp => hp.keep (fun b h1 h2 => by
      rcases hk with e | e
      · rw [e]; exact h1
      · rw [e]; intro e2; cases e2; omega) (fun b h1 h2 => hg'.block b h2 (fun e => h1 e.symm))
    intro p hp
    rcases List.mem_append.1 hp with e | e
    · exact step p (hown.mem p e)
    · simp at e; rw [e]; exact step q hq
theorem wpList_appLz {ops : Array Oper} {rest : List Oper} {o : Oper} {a : Act} {Q : Exit → Act → World → Prop} (w : World) (hg : o.guard = none) (y z : Operand) (ho : o.op = .call { callee := .builtin .append, args := #[y, z], argTypes := #[32, 32] }) (B : Nat) (v : Value) (qs : List Lc) (hy : a.eval y = v) (hown : Lw w B v qs) (hB : B ≤ w.heap.size) (ad : Addr) (c : Nat) (q : Lc) (hz : a.eval z = .slice (some ad) 1 c) (hnews : ∀ j u, (lkc q)[j]? = some u → w.cell? (ad.add j) = some u) (hone : ∃ a n k, q.2.1 = .slice a n k) (hq : Slp (fun b => v.ownBlock ≠ some b) w q.2.1 q.2.2) (hn : qs.length + 1 ≤ 2000000000)
    (h : ∀ v' w', Lw w' B v' (qs ++ [q]) → w.grownBy w' v.ownBlock → (v'.ownBlock = v.ownBlock ∨ v'.ownBlock = some w.heap.size) → wpList Try.prog ops Q rest (a.put o.dst v') w') : wpList Try.prog ops Q (o :: rest) a w :=
  wpList_appLw w (by simp only [Region.wanted, hg]) y z ho B v qs hy hown hB ad c q hz hnews hone hq hn h
/-- Links beside a chain and its store. -/
structure Hd (w W : World) (c d bS bT : Nat) (u v : Value) (qs : List Lc) : Prop where
  lw : Lw W w.heap.size v qs
  ap : ∀ k, v.ownBlock = some k → ¬ (Own d bS bT u k ∨ k = c)
  me : ∀ q ∈ qs, Slp (fun b => v.ownBlock ≠ some b ∧ ¬ (Own d bS bT u b ∨ b = c)) W q.2.1 q.2.2 ∧ Byt q.2.2
section
variable {w W W' : World} {c c' d bS bT : Nat} {u u' v v' : Value} {qs : List Lc}
theorem Hd.keep (h : Hd w W c d bS bT u v qs) (hk : ∀ k, k < W.heap.size → ¬ (Own d bS bT u k ∨ k = c) → W'.heap[k]? = W.heap[k]?) (ho : ∀ k, k < W.heap.size → ¬ (Own d bS bT u k ∨ k = c) → ¬ (Own d bS bT u' k ∨ k = c')) : Hd w W' c' d bS bT u' v qs :=
  ⟨⟨⟨h.lw.own.1, h.lw.own.2.imp id (fun ⟨g, cap, cur, a1, a2, a3, a4⟩ => ⟨g, cap, cur, a1, a2, (hk g (Array.getElem?_eq_some_iff.1 a3).1 (h.ap g (by rw [a1]; rfl))).trans a3, a4⟩)⟩, fun q hq => (h.me q hq).1.keep (fun _ p _ => p.1) (fun b p hb => hk b hb p.2)⟩, fun k e => ho k (h.lw.own.lt k e).2 (h.ap k e), fun q hq => ⟨(h.me q hq).1.keep (fun b p hb => ⟨p.1, ho b hb p.2⟩) (fun b p hb => hk b hb p.2), (h.me q hq).2⟩⟩
theorem Hd.below (h : Hd w W c d bS bT u v qs) (hb : Below W.heap.size W W') : Hd w W' c d bS bT u v qs := h.keep (fun k hk _ => hb.block k hk) (fun _ _ e => e)
theorem Hd.cx (h : Hd w W c d bS bT u v qs) (hx : Cx c d bS bT u W W' u') : Hd w W' c d bS bT u' v qs := h.keep (fun k hk hn => hx.ba.block k hk hn) (fun _ hk hn => hx.out hk hn)
/-- The chain is another one. -/
theorem Hd.other (h : Hd w W c d bS bT u v qs) (hb : Below W.heap.size W W') (hc : W.heap.size ≤ c') : Hd w W' c' d bS bT u v qs := h.keep (fun k hk _ => hb.block k hk) (fun k hk hn e => e.elim (fun e => hn (.inl e)) (fun e => by omega))
/-- Links that were found. -/
theorem hd_new {c2 : Nat} (hl : Lw W (c2 + 1) v qs) (hm : ∀ q ∈ qs, Slp (fun b => v.ownBlock ≠ some b ∧ c2 < b) W q.2.1 q.2.2) (hc : ∀ k, Own d bS bT u k ∨ k = c → k ≤ c2) (hw : w.heap.size ≤ c2) (hb : ∀ l ∈ lkO qs, Byt l.2) : Hd w W c d bS bT u v qs :=
  ⟨hl.mono (by omega), fun k e e2 => by have h1 := (hl.own.lt k e).1; have h2 := hc k e2; omega, fun q hq => ⟨(hm q hq).keep (fun b p _ => ⟨p.1, fun e => by have h1 := hc b e; have h2 := p.2; omega⟩) (fun _ _ _ => rfl), hb (q.1, q.2.2) (List.mem_map.2 ⟨q, hq, rfl⟩)⟩⟩
/-- One more. -/
theorem Hd.grow {q : Lc} (h : Hd w W c d bS bT u v qs) (hlt : ∀ k, Own d bS bT u k ∨ k = c → k < W.heap.size) (hl : Lw W' w.heap.size v' (qs ++ [q])) (hg : W.grownBy W' v.ownBlock) (ho : v'.ownBlock = v.ownBlock ∨ v'.ownBlock = some W.heap.size) (hq : Slp (fun b => v.ownBlock ≠ some b ∧ ¬ (Own d bS bT u b ∨ b = c)) W q.2.1 q.2.2) (hy : Byt q.2.2) : Hd w W' c d bS bT u v' (qs ++ [q]) := by
  have step : ∀ p : Lc, Slp (fun b => v.ownBlock ≠ some b ∧ ¬ (Own d bS bT u b ∨ b = c)) W p.2.1 p.2.2 → Slp (fun b => v'.ownBlock ≠ some b ∧ ¬ (Own d bS bT u b ∨ b = c)) W' p.2.1 p.2.2 := fun p hp => hp.keep (fun b h1 h2 => ⟨by
    rcases ho with e | e
    · rw [e]; exact h1.1
    · rw [e]; intro e2; cases e2; omega, h1.2⟩) (fun b h1 h2 => hg.block b h2 (fun e => h1.1 e.symm))
  refine ⟨hl, fun k e => ?_, fun p hp => ?_⟩
  · rcases ho with e2 | e2
    · exact h.ap k (e2.symm.trans e)
    · rw [e2] at e
      cases e
      exact fun e => by have := hlt _ e; omega
  · rcases List.mem_append.1 hp with e | e
    · exact ⟨step p (h.me p e).1, (h.me p e).2⟩
    · simp at e; rw [e]; exact ⟨step q hq, hy⟩
theorem lrd_own {B : Nat} (h : Lw W B v qs) (hb : ∀ q ∈ qs, Byt q.2.2) : Lrd W v qs := by
  refine ⟨?_, fun q hq => ⟨(h.mem q hq).sl, hb q hq⟩⟩
  rcases h.own.2 with ⟨e, h0⟩ | ⟨g, cap, cur, e, a2, a3, a4, a5, a6, a7⟩
  · exact ⟨none, 0, by rw [e, h0], fun q => by omega⟩
  · refine ⟨some ⟨g, 0, none⟩, cap, e, fun _ => ⟨g, 0, rfl, fun j x hj => ?_⟩⟩
    have hl : j < (qs.flatMap lkc).length := (List.getElem?_eq_some_iff.1 hj).1
    have h1 : (qs.flatMap lkc).length = qs.length * 2 := h.own.1
    rw [← a7, List.getElem?_take_of_lt (by omega)] at hj
    simp only [World.cell?, a3, Nat.zero_add]
    simpa using hj
theorem Hd.lrd (h : Hd w W c d bS bT u v qs) : Lrd W v qs := lrd_own h.lw (fun q hq => (h.me q hq).2)
/-- Their beginning. -/
theorem Lrd.take {ao : Option Addr} {n cap k : Nat} (h : Lrd W (.slice ao n cap) qs) (hk : k ≤ qs.length) : Lrd W (.slice ao k cap) (qs.take k) := by
  obtain ⟨⟨ao', cap', e, hr⟩, h2⟩ := h
  cases e
  have hl : (qs.take k).length = k := by rw [List.length_take]; omega
  refine ⟨⟨ao, cap, by rw [hl], fun h0 => ?_⟩, fun q hq => h2 q (List.mem_of_mem_take hq)⟩
  obtain ⟨b, o, e1, e2⟩ := hr (by omega)
  refine ⟨b, o, e1, fun j x hj => e2 j x ?_⟩
  have : qs.flatMap lkc = (qs.take k).flatMap lkc ++ (qs.drop k).flatMap lkc := by rw [← List.flatMap_append, List.take_append_drop]
  rw [this, List.getElem?_append_left (List.getElem?_eq_some_iff.1 hj).1]
  exact hj
theorem lkO_take (qs : List Lc) (k : Nat) : lkO (qs.take k) = (lkO qs).take k := by simp [lkO, List.map_take]
theorem lkO_len (qs : List Lc) : (lkO qs).length = qs.length := by simp [lkO]
theorem lkO_snoc (qs : List Lc) (q : Lc) : lkO (qs ++ [q]) = lkO qs ++ [(q.1, q.2.2)] := by simp [lkO]
/-- How a slice of links lies: nowhere, or with room. -/
theorem Lw.two {B : Nat} (h : Lw W B v qs) : (v = .slice none 0 0 ∧ qs = []) ∨ ∃ g cap, v = .slice (some ⟨g, 0, none⟩) qs.length cap ∧ qs.length ≤ cap ∧ cap ≤ maxLen := by
  rcases h.own.2 with ⟨e, h0⟩ | ⟨g, cap, cur, e, a2, a3, a4, a5, a6, a7⟩
  · exact .inl ⟨e, List.length_eq_zero_iff.1 h0⟩
  · exact .inr ⟨g, cap, e, a4, a5⟩
end
theorem Chn.grow {W W' : World} {c d bS bT : Nat} {u v : Value} {s : Dst} {base nx sp : Int} (h : Chn W c d bS bT u s base nx sp) (hg : W.grownBy W' v.ownBlock) (ha : ∀ k, v.ownBlock = some k → ¬ (Own d bS bT u k ∨ k = c)) : Chn W' c d bS bT u s base nx sp := h.keep (fun k e => hg.block k (h.lt e) (fun q => ha k q.symm e))
theorem Nc.grow {w W W' : World} {c d bS bT : Nat} {u v : Value} (h : Nc w W c d bS bT u) (hg : W.grownBy W' v.ownBlock) (ha : ∀ k, v.ownBlock = some k → w.heap.size ≤ k) : Nc w W' c d bS bT u := ⟨below_gr h.be hg ha h.be.size, h.ow⟩
/-- A chain is opened beside another one. -/
theorem open_hd {c0 d bS bT : Nat} {u : Value} {s : Dst} {nx y : Int} {L : List Lk} (w W : World) (h : Dq W d bS bT u s) (hO : Opn s.tk 3 0 L nx y) (hw : s.wt < 30000) (hc0 : c0 < W.heap.size) (hww : w.heap.size ≤ W.heap.size) : Calls Try.prog 11 #[.pointer (some ⟨d, 0, none⟩), .int .i64 3, .int .i64 3] W fun e w' => ∃ c vl qs, e = .returned (.tuple #[.pointer (some ⟨c, 0, none⟩), vl, .nilIface]) ∧ Chn w' c d bS bT u s 3 nx (max y (hiS 3 s.cs) + 1) ∧ Hd w w' c0 d bS bT u vl qs ∧ Hd w w' c d bS bT u vl qs ∧ lkO qs = L ∧ W.heap.size ≤ c ∧ Below W.heap.size W w' := by
  refine (open_ok 3 3 W h (by decide) (by decide) (by decide) hw).mono ?_
  rintro e w' ⟨c, vl, qs, a9, last9, rfl, h1, h2, h3, h4, _, _, h7, h8⟩
  obtain ⟨e1, rfl, rfl⟩ := h4.det hO
  have hb : ∀ l ∈ lkO qs, Byt l.2 := h4.byt (fun q => vw_blk h.ok.tb q)
  refine ⟨c, vl, qs, rfl, h1, hd_new h2 h3 (fun k e => ?_) (by omega) hb, hd_new h2 h3 (fun k e => ?_) (by omega) hb, e1, h7, h8⟩
  · rcases e with e | e
    · have := h.dk.lt e; omega
    · omega
  · rcases e with e | e
    · have := h.dk.lt e; omega
    · omega
end Go.Proofs.Ytmgfcgknajehaaa
