/-
  A CHAIN THAT IS PLAYED WITH, AND A ROW BESIDE IT THAT GROWS: what each call keeps of both. Conditions: those of its parts.
-/
import Derived.Test.YtmgfcgknajehaaaChWk
import Derived.Test.YtmgfcgknajehaaaChPs
import Derived.Test.YtmgfcgknajehaaaChIw
import Derived.Test.YtmgfcgknajehaaaChLi
import Derived.Test.YtmgfcgknajehaaaChBk
import Derived.Test.YtmgfcgknajehaaaChSm
namespace Go.Proofs.Ytmgfcgknajehaaa
open Go.RowKit

theorem wpList_appIz {ops : Array Oper} {rest : List Oper} {o : Oper} {a : Act} {Q : Exit → Act → World → Prop} (w : World) (hg : o.guard = none) (y z : Operand) (ho : o.op = .call { callee := .builtin .append, args := #[y, z], argTypes := #[24, 24] }) (B : Nat) (v : Value) (xs : List Int) (hy : a.eval y = v) (hown : Iw w B v xs) (hB : B ≤ w.heap.size) (ad : Addr) (c : Nat) (x : Int) (hz : a.eval z = .slice (some ad) 1 c) (hnews : w.cell? (ad.add 0) = some (.int .i64 x)) (hn : xs.length + 1 ≤ 2000000000)
    (h : ∀ v' w', Iw w' B v' (xs ++ [x]) → w.grownBy w' v.ownBlock → (v'.ownBlock = v.ownBlock ∨ v'.ownBlock = some w.heap.size) → wpList Try.prog ops Q rest (a.put o.dst v') w') : wpList Try.prog ops Q (o :: rest) a w := by
  refine wpList_plain hg fun K hK => ?_
  obtain ⟨i0, hi, hz0, hz1, hz2⟩ := info_parts infoIw
  obtain ⟨v', w', hrun, ho', hg', _, hk⟩ := run_append_own_at (P := Try.prog) w B 24 o.type 3 i0 (.int .i64 0) 1 8 Try.underlying24 hi hz0 hz1 hz2 rfl (by decide) v xs.length (xs.map ic) hown ad 1 c [.int .i64 x] rfl (fun j u hj => by
    cases j with
    | zero => simp at hj; rw [← hj]; exact hnews
    | succ j => simp at hj) (fun u hu => by
    simp at hu
    rw [hu]; rfl) (by unfold maxLen; omega) (by omega) hB
  unfold Oper.wp
  simp [execOp, ho, resolve, invoke, builtin, hy, hz, hrun, Result.andThen]
  refine hK _ _ (h v' w' ?_ hg' hk)
  unfold Iw
  rw [List.length_append, List.map_append]
  exact ho'
theorem below_gr {C : Nat} {w W W' : World} {row : Option Nat} (h : Below C w W) (hg : W.grownBy W' row) (hrow : ∀ k, row = some k → C ≤ k) (hC : C ≤ W.heap.size) : Below C w W' :=
  ⟨hg.os.trans h.os, hg.tape.trans h.tape, hg.output.trans h.output, Nat.le_trans h.size hg.size, fun k hk => (hg.block k (by omega) (fun e => by have := hrow k e.symm; omega)).trans (h.block k hk)⟩
/-- Blocks that stay as they are, where the chain's and the row's alone turn. -/
theorem Chn.keep {W W' : World} {c d bS bT : Nat} {u : Value} {s : Dst} {base nx sp : Int} (h : Chn W c d bS bT u s base nx sp) (hk : ∀ k, Own d bS bT u k ∨ k = c → W'.heap[k]? = W.heap[k]?) : Chn W' c d bS bT u s base nx sp :=
  ⟨⟨h.q.dk.keep (fun k e => hk k (.inl e)), h.q.ok⟩, h.x.keepB (hk c (.inr rfl)), h.no⟩
theorem Chn.lt {W : World} {c d bS bT : Nat} {u : Value} {s : Dst} {base nx sp : Int} (h : Chn W c d bS bT u s base nx sp) {k : Nat} (hk : Own d bS bT u k ∨ k = c) : k < W.heap.size := hk.elim (fun e => h.q.dk.lt e) (fun e => by rw [e]; exact h.x.lt)
/-- What is outside the chain's memory stays outside. -/
theorem Cx.out {W W' : World} {c d bS bT : Nat} {u u' : Value} (hx : Cx c d bS bT u W W' u') {k : Nat} (hk : k < W.heap.size) (hn : ¬ (Own d bS bT u k ∨ k = c)) : ¬ (Own d bS bT u' k ∨ k = c) := fun e => by
  rcases e with (e | e | e | e) | e
  · exact hn (.inl (.inl e))
  · exact hn (.inl (.inr (.inl e)))
  · exact hn (.inl (.inr (.inr (.inl e))))
  · rcases hx.bl k e with q | q
    · exact hn (.inl (.inr (.inr (.inr q))))
    · omega
  · exact hn (.inr e)
structure Pd (w W : World) (c d bS bT : Nat) (u st : Value) (s : Dst) (nx sp : Int) (L : List Lk) (fm : Nat) (M : Int) (xs : List Int) : Prop where
  ch : Chn W c d bS bT u s 3 nx sp
  nc : Nc w W c d bS bT u
  ps : Ps M s nx sp L fm
  iw : Iw W w.heap.size st xs
  ap : ∀ k, st.ownBlock = some k → ¬ (Own d bS bT u k ∨ k = c)
section
variable {w W W' : World} {c d bS bT : Nat} {u u' st st' : Value} {s s' : Dst} {nx sp nx' sp' M M' : Int} {L L' : List Lk} {fm fm' : Nat} {xs : List Int}
theorem Pd.below (h : Pd w W c d bS bT u st s nx sp L fm M xs) (hb : Below W.heap.size W W') : Pd w W' c d bS bT u st s nx sp L fm M xs := ⟨h.ch.below hb, h.nc.call hb, h.ps, h.iw.below hb, h.ap⟩
theorem Pd.mono (h : Pd w W c d bS bT u st s nx sp L fm M xs) (hM : M ≤ M') (h2 : M' ≤ 200) : Pd w W c d bS bT u st s nx sp L fm M' xs := ⟨h.ch, h.nc, h.ps.mono hM h2, h.iw, h.ap⟩
/-- Behind a call of the chain. -/
theorem Pd.cx (h : Pd w W c d bS bT u st s nx sp L fm M xs) (hc : Chn W' c d bS bT u' s' 3 nx' sp') (hx : Cx c d bS bT u W W' u') (hp : Ps M' s' nx' sp' L' fm') : Pd w W' c d bS bT u' st s' nx' sp' L' fm' M' xs :=
  ⟨hc, h.nc.step hx, hp, h.iw.keep (fun k e => hx.ba.block k (h.iw.lt k e).2 (h.ap k e)), fun k e => hx.out (h.iw.lt k e).2 (h.ap k e)⟩
/-- One number more. -/
theorem Pd.grow {x : Int} (h : Pd w W c d bS bT u st s nx sp L fm M xs) (hi : Iw W' w.heap.size st' (xs ++ [x])) (hg : W.grownBy W' st.ownBlock) (ho : st'.ownBlock = st.ownBlock ∨ st'.ownBlock = some W.heap.size) : Pd w W' c d bS bT u st' s nx sp L fm M (xs ++ [x]) :=
  ⟨h.ch.keep (fun k e => hg.block k (h.ch.lt e) (fun q => h.ap k q.symm e)), ⟨below_gr h.nc.be hg (fun k e => (h.iw.lt k e).1) h.nc.be.size, h.nc.ow⟩, h.ps, hi, fun k e => by
    rcases ho with q | q
    · exact h.ap k (q.symm.trans e)
    · rw [q] at e
      cases e
      exact fun e => by have := h.ch.lt e; omega⟩
/-- Its beginning. -/
theorem Pd.row (h : Pd w W c d bS bT u st s nx sp L fm M xs) {ys : List Int} (hi : Iw W w.heap.size st' ys) (ho : st'.ownBlock = st.ownBlock) : Pd w W c d bS bT u st' s nx sp L fm M ys := ⟨h.ch, h.nc, h.ps, hi, fun k e => h.ap k (ho.symm.trans e)⟩
end
/-- The records that are found are bytes. -/
theorem own_byt {b : List Int} (h : Blk b) : Byt (pcs b).own := fun x hx => h.2 x (List.mem_of_mem_drop (List.mem_of_mem_take hx))
theorem recG_byt {t : Cs} (hb : ∀ q, Blk (vw t q)) : ∀ (n : Nat) (a : Int) (p : Pc) (b : List Int) (r : List Int × Int), Byt b → recG t n a p b = some r → Byt r.1
  | 0, a, p, b, r, hp, h => by simp only [recG, Option.some.injEq] at h; rw [← h]; exact hp
  | n + 1, a, p, b, r, hp, h => by
    unfold recG at h
    split at h
    · split at h
      · cases h
      · exact recG_byt hb n _ _ _ r (fun x hx => (List.mem_append.1 hx).elim (hp x) (own_byt (hb a) x)) h
    · simp only [Option.some.injEq] at h; rw [← h]; exact hp
theorem Opn.byt {t : Cs} (hb : ∀ q, Blk (vw t q)) {a last : Int} {L : List Lk} {x y : Int} (h : Opn t a last L x y) : ∀ l ∈ L, Byt l.2 := by
  induction h with
  | stop => intro l hl; simp at hl
  | more h1 _ ih =>
    intro l hl
    rcases List.mem_append.1 hl with e | e
    · split at e
      · simp at e
      · simp at e
        rw [e]
        unfold recS at h1
        split at h1
        · cases h1
        · exact recG_byt hb _ _ _ _ _ (own_byt (hb _)) h1
    · exact ih l e
/-- How high it gets: so many acts, of so many bytes. -/
def mB (ps : List Ap) (k : Nat) : Int := (k : Int) + (sumB (ps.take k) : Int) / 46
theorem mB_le {ps : List Ap} (h : liC ps = true) {k : Nat} (hk : k ≤ ps.length) : mB ps k ≤ 105 := by
  have h1 := liC_is h
  have h2 := sumB_le ps k
  unfold mB
  omega
theorem mB_step {ps : List Ap} {k : Nat} (hk : k < ps.length) : mB ps k + blks ((ps[k]).1.by_.length : Int) ≤ mB ps (k + 1) := by
  unfold mB
  rw [sumB_step hk]
  have := blks_div (n := ((ps[k]).1.by_.length : Int)) (by omega)
  push_cast
  omega
theorem mB_one {ps : List Ap} {k : Nat} (hk : k < ps.length) : mB ps k + 1 ≤ mB ps (k + 1) := by
  have := mB_step hk
  have := blks_pos ((ps[k]).1.by_.length : Int)
  omega
end Go.Proofs.Ytmgfcgknajehaaa
