/-
  NUMBERS IN A ROW OF ITS OWN: one more, its beginning, one of them. No condition of its own.
-/
import Derived.Test.YtmgfcgknajehaaaChO
namespace Go.Proofs.Ytmgfcgknajehaaa
open Go.RowKit

/-- The slice v holds these numbers, in memory of its own. -/
def Iw (W : World) (B : Nat) (v : Value) (xs : List Int) : Prop := W.ownsRow B 3 1 v xs.length (xs.map ic)
theorem iw_nil (W : World) (B : Nat) : Iw W B (.slice none 0 0) [] := World.ownsRow_nil _ _ _ _
theorem Iw.below {W W' : World} {B : Nat} {v : Value} {xs : List Int} (h : Iw W B v xs) (hb : Below W.heap.size W W') : Iw W' B v xs := owns_below h hb
theorem Iw.form {W : World} {B : Nat} {v : Value} {xs : List Int} (h : Iw W B v xs) : ∃ a k, v = .slice a xs.length k := by
  rcases h.2 with ⟨e, h0⟩ | ⟨g, cap, cur, e, _⟩
  · rw [e, h0]; exact ⟨_, _, rfl⟩
  · exact ⟨_, _, e⟩
theorem Iw.lt {W : World} {B : Nat} {v : Value} {xs : List Int} (h : Iw W B v xs) : ∀ k, v.ownBlock = some k → B ≤ k ∧ k < W.heap.size := fun k e => World.ownsRow.lt h k e
/-- Its block is as it was. -/
theorem Iw.keep {W W' : World} {B : Nat} {v : Value} {xs : List Int} (h : Iw W B v xs) (hk : ∀ k, v.ownBlock = some k → W'.heap[k]? = W.heap[k]?) : Iw W' B v xs :=
  ⟨h.1, h.2.imp id (fun ⟨g, cap, cur, a1, a2, a3, a4⟩ => ⟨g, cap, cur, a1, a2, (hk g (by rw [a1]; rfl)).trans a3, a4⟩)⟩
theorem Iw.at {W : World} {B : Nat} {v : Value} {xs : List Int} (h : Iw W B v xs) {k : Nat} (hk : k < xs.length) : ∃ g cap, v = .slice (some ⟨g, 0, none⟩) xs.length cap ∧ xs.length ≤ cap ∧ W.cell? ⟨g, 0 + k, none⟩ = some (.int .i64 xs[k]) := by
  rcases h.2 with ⟨_, h0⟩ | ⟨g, cap, cur, e, a2, a3, a4, a5, a6, a7⟩
  · omega
  · refine ⟨g, cap, e, a4, ?_⟩
    have h1 : (xs.map ic)[k]? = some (.int .i64 xs[k]) := by simp [ic, hk]
    rw [← a7, List.getElem?_take_of_lt (by omega)] at h1
    simp only [World.cell?, a3, Nat.zero_add]
    simpa using h1
/-- Its beginning. -/
theorem Iw.cut {W : World} {B : Nat} {g cap : Nat} {xs : List Int} (h : Iw W B (.slice (some ⟨g, 0, none⟩) xs.length cap) xs) {k : Nat} (hk : k ≤ xs.length) : Iw W B (.slice (some ⟨g, 0, none⟩) k cap) (xs.take k) := by
  have hl : (xs.take k).length = k := by rw [List.length_take]; omega
  refine ⟨by simp, ?_⟩
  rcases h.2 with ⟨e, _⟩ | ⟨g', cap', cur, e, a2, a3, a4, a5, a6, a7⟩
  · cases e
  · cases e
    refine .inr ⟨g, cap, cur, by rw [hl], a2, a3, by rw [hl]; omega, a5, a6, ?_⟩
    rw [hl, List.map_take, ← a7, List.take_take, Nat.min_eq_left (by omega), Nat.mul_one]
theorem infoIw : (Try.prog.info? 3).map (fun i => (i.zero, i.size, i.bytes)) = some (some (.int .i64 0), 1, 8) := by kernel_rfl
theorem wpList_appIw {ops : Array Oper} {rest : List Oper} {o : Oper} {a : Act} {Q : Exit → Act → World → Prop} (w : World) (hg : o.guard = none) (y z : Operand) (ho : o.op = .call { callee := .builtin .append, args := #[y, z], argTypes := #[24, 24] }) (B : Nat) (v : Value) (xs : List Int) (hy : a.eval y = v) (hown : Iw w B v xs) (hB : B ≤ w.heap.size) (ad : Addr) (c : Nat) (x : Int) (hz : a.eval z = .slice (some ad) 1 c) (hnews : w.cell? (ad.add 0) = some (.int .i64 x)) (hn : xs.length + 1 ≤ 2000000000)
    (h : ∀ v' w', Iw w' B v' (xs ++ [x]) → w.grownBy w' v.ownBlock → wpList Try.prog ops Q rest (a.put o.dst v') w') : wpList Try.prog ops Q (o :: rest) a w := by
  refine wpList_plain hg fun K hK => ?_
  obtain ⟨i0, hi, hz0, hz1, hz2⟩ := info_parts infoIw
  obtain ⟨v', w', hrun, ho', hg', _, hk⟩ := run_append_own_at (P := Try.prog) w B 24 o.type 3 i0 (.int .i64 0) 1 8 Try.underlying24 hi hz0 hz1 hz2 rfl (by decide) v xs.length (xs.map ic) hown ad 1 c [.int .i64 x] rfl (fun j u hj => by
    cases j with
    | zero => simp at hj; rw [← hj]; exact hnews
    | succ j => simp at hj) (fun u hu => by
    simp at hu
    rw [hu]; rfl) (by unfold maxLen; omega) (by omega) hB
  unfold Oper.wp
  simp [execOp, ho, resolve, invoke, builtin, hy, hz, hrun, Result.andThen]
  refine hK _ _ (h v' w' ?_ hg')
  unfold Iw
  rw [List.length_append, List.map_append]
  exact ho'
end Go.Proofs.Ytmgfcgknajehaaa
