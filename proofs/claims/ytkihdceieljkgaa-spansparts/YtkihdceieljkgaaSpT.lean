/-
  TWO LOGS OF ONE BEGINNING: terms that are raised from a place on, in their row; what makes the two logs part there. Conditions: no more than sixty steps each.
-/
import Derived.Test.YtkihdceieljkgaaSpN
import Derived.Test.YtkihdceieljkgaaRwa
import Derived.Laws.OwnMore
namespace Go.Proofs.Ytkihdceieljkgaa
open Go.RowKit

/-- Terms, raised by d from P on up to k. -/
def bumpK (ts : List Int) (P : Nat) (d : Int) (k : Nat) : List Int := ts.mapIdx fun j x => if P ≤ j ∧ j < k then x + d else x
theorem bumpK_len (ts : List Int) (P : Nat) (d : Int) (k : Nat) : (bumpK ts P d k).length = ts.length := by simp [bumpK]
theorem bumpK_at {ts : List Int} {P : Nat} {d : Int} {k j : Nat} (h : j < (bumpK ts P d k).length) : (bumpK ts P d k)[j] = if P ≤ j ∧ j < k then ts[j]'(by rwa [bumpK_len] at h) + d else ts[j]'(by rwa [bumpK_len] at h) := by simp [bumpK]
theorem bumpK_none (ts : List Int) (P : Nat) (d : Int) : bumpK ts P d P = ts := by
  apply List.ext_getElem (bumpK_len _ _ _ _)
  intro i h1 h2
  rw [bumpK_at, if_neg (by omega)]
theorem bumpK_step {ts : List Int} {P : Nat} {d : Int} {k : Nat} (hP : P ≤ k) (hk : k < ts.length) : (bumpK ts P d k).set k (ts[k] + d) = bumpK ts P d (k + 1) := by
  apply List.ext_getElem (by rw [List.length_set, bumpK_len, bumpK_len])
  intro i h1 h2
  rw [bumpK_at h2, List.getElem_set]
  by_cases e : k = i
  · subst e
    rw [if_pos rfl, if_pos (by omega)]
  · rw [if_neg e, bumpK_at]
    by_cases h : P ≤ i ∧ i < k
    · rw [if_pos h, if_pos (by omega)]
    · rw [if_neg h, if_neg (by omega)]
theorem bumpK_get {ts : List Int} {P : Nat} {d : Int} {k : Nat} (hk : k < ts.length) : (bumpK ts P d k)[k]'(by rw [bumpK_len]; exact hk) = ts[k] := by rw [bumpK_at, if_neg (by omega)]
/-- A term is written in its row. -/
theorem btcs_set : ∀ (ts : List Int) (k : Nat) (x : Int), (btcs ts).set (k * 3) (.int .i64 x) = btcs (ts.set k x)
  | [], _, _ => by simp [btcs]
  | t :: r, 0, x => rfl
  | t :: r, k + 1, x => by
    have := btcs_set r k x
    show (btc t ++ btcs r).set ((k + 1) * 3) _ = btc t ++ btcs (r.set k x)
    rw [← this, show (k + 1) * 3 = k * 3 + 1 + 1 + 1 by omega]
    rfl
theorem Bow.cell {W : World} {B g n cap : Nat} {ts : List Int} (h : Bow W B (.slice (some ⟨g, 0, none⟩) n cap) ts) {k : Nat} (hk : k < ts.length) : W.cell? ⟨g, k * 3, none⟩ = some (.int .i64 ts[k]) := by
  obtain ⟨b, o, cap', e, _, c⟩ := h.sbt.at hk
  cases (Value.slice.inj e).1
  rwa [Nat.zero_add] at c
theorem Bow.two {W : World} {B : Nat} {v : Value} {ts : List Int} (h : Bow W B v ts) {k : Nat} (hk : k < ts.length) : ∃ g cap, v = .slice (some ⟨g, 0, none⟩) ts.length cap ∧ ts.length ≤ cap ∧ B ≤ g ∧ g < W.heap.size ∧ ∀ i, W.frozen? ⟨g, i, none⟩ = false := by
  rcases h.2 with ⟨e, h0⟩ | ⟨g, cap, cur, e, a2, a3, a4, a5, a6, a7⟩
  · omega
  · exact ⟨g, cap, e, a4, a2, (Array.getElem?_eq_some_iff.1 a3).1, fun i => by simp [World.frozen?, a3]⟩
theorem Bow.form {W : World} {B : Nat} {v : Value} {ts : List Int} (h : Bow W B v ts) : ∃ a k, v = .slice a ts.length k := h.sbt.form
theorem Bow.set {W : World} {B g n cap : Nat} {ts : List Int} (h : Bow W B (.slice (some ⟨g, 0, none⟩) n cap) ts) {k : Nat} (hk : k < ts.length) (x : Int) : Bow (W.setCell ⟨g, k * 3, none⟩ (.int .i64 x)) B (.slice (some ⟨g, 0, none⟩) n cap) (ts.set k x) := by
  obtain ⟨b, o, cap', e, _, _⟩ := h.sbt.at hk
  have en : n = ts.length := (Value.slice.inj e).2.1
  subst en
  have h1 : W.ownsRow B 42 3 (.slice (some ⟨g, 0, none⟩) ts.length cap) ts.length (btcs ts) := h
  have := (h1.stored (k * 3) (.int .i64 x)).1
  unfold Bow
  rw [List.length_set, ← btcs_set]
  exact this
/-- Another block is written. -/
theorem Bow.other {W : World} {B : Nat} {v : Value} {ts : List Int} (h : Bow W B v ts) {g : Nat} (hg : v.ownBlock ≠ some g) (i : Nat) (x : Value) : Bow (W.setCell ⟨g, i, none⟩ x) B v ts := by
  refine ⟨h.1, h.2.imp id (fun ⟨k, cap, cur, a1, a2, a3, a4⟩ => ⟨k, cap, cur, a1, a2, ?_, a4⟩)⟩
  refine (Below.heap_setCell _ _ _ _ (fun e => hg ?_)).trans a3
  rw [a1]
  simpa [Value.ownBlock] using e
/-- Bytes behind bytes, in a row of the law's own. -/
theorem app_two {B : Nat} {w0 w1 w2 : World} {v0 v1 v2 : Value} {c1 c2 : List Value} {l m : List Int} (h1 : Put B w0 v0 0 [] w1 v1 l.length c1 (bv l)) (h2 : Put B w1 v1 (0 + l.length) c1 w2 v2 m.length c2 (bv m)) : Sl u8v w2 v2 (l ++ m) ∧ Below B w0 w2 := by
  have ho := h2.rw.owns
  have t1 := h1.tk
  have t2 := h2.tk
  rw [t1, List.take_nil, List.nil_append] at t2
  rw [t2, Nat.zero_add, ← List.length_append] at ho
  refine ⟨sl_of_owns (f := u8v) (base := B) (e := 5) ?_, h1.below.trans h2.below⟩
  have e : (l ++ m).map u8v = bv l ++ bv m := by rw [List.map_append]; rfl
  rw [e]
  exact ho
theorem ris_at {l m : List Int} {j : Nat} (h : j < (risT (l ++ m)).length) (hj : j < l.length) : (risT (l ++ m))[j] = acT l (j + 1) := by
  rw [show (risT (l ++ m))[j] = acT (l ++ m) (j + 1) from risK_at (k := (l ++ m).length) h]
  exact acT_app l m (j + 1) (by omega)
/-- The two logs. -/
theorem two_of {b m o : List Int} (hb : b.length ≤ 60) (hm : m.length ≤ 60) (ho : o.length ≤ 60) : Two (bumpK (risT (b ++ m)) b.length 500 (b ++ m).length) (bumpK (risT (b ++ o)) b.length 1000 (b ++ o).length) b.length := by
  have bd : ∀ (m : List Int) (hm : m.length ≤ 60) (i : Nat) (h : i < (risT (b ++ m)).length), 1 ≤ (risT (b ++ m))[i] ∧ (risT (b ++ m))[i] ≤ 241 := fun m hm i h => by
    have := risT_mem (List.getElem_mem h)
    rw [List.length_append] at this
    omega
  have hl : ∀ m : List Int, (risT (b ++ m)).length = b.length + m.length := fun m => by rw [risT_len, List.length_append]
  have at_ : ∀ (m : List Int) (d : Int) (i : Nat) (h : i < (bumpK (risT (b ++ m)) b.length d (b ++ m).length).length), (bumpK (risT (b ++ m)) b.length d (b ++ m).length)[i] = if b.length ≤ i then (risT (b ++ m))[i]'(by rwa [bumpK_len] at h) + d else (risT (b ++ m))[i]'(by rwa [bumpK_len] at h) := fun m d i h => by
    have h' := h
    rw [bumpK_len, hl] at h'
    rw [bumpK_at]
    by_cases e : b.length ≤ i
    · rw [if_pos e, if_pos ⟨e, by rw [List.length_append]; exact h'⟩]
    · rw [if_neg e, if_neg (fun q => e q.1)]
  have up_ : ∀ (m : List Int) (d : Int) (hd : 0 ≤ d), Up (bumpK (risT (b ++ m)) b.length d (b ++ m).length) := fun m d hd i j hj hij => by
    have hj' := hj
    rw [bumpK_len] at hj'
    have u := risT_up (b ++ m) i j hj' hij
    rw [at_ m d i (by omega), at_ m d j hj]
    split <;> split <;> omega
  have pos_ : ∀ (m : List Int) (hm : m.length ≤ 60) (d : Int) (hd : 0 ≤ d), ∀ x ∈ bumpK (risT (b ++ m)) b.length d (b ++ m).length, 0 < x := fun m hm d hd x hx => by
    obtain ⟨i, hi, rfl⟩ := List.getElem_of_mem hx
    have hi' := hi
    rw [bumpK_len] at hi'
    have := bd m hm i hi'
    rw [at_ m d i hi]
    split <;> omega
  refine ⟨pos_ m hm 500 (by omega), pos_ o ho 1000 (by omega), up_ m 500 (by omega), up_ o 1000 (by omega), by rw [bumpK_len, hl]; omega, by rw [bumpK_len, hl]; omega, fun i h => ?_, fun i j hi hj h => ?_, fun i j hi hj h => ?_⟩
  · rw [at_ m 500 i (by rw [bumpK_len, hl]; omega), at_ o 1000 i (by rw [bumpK_len, hl]; omega), if_neg (by omega), if_neg (by omega), ris_at (by rw [hl]; omega) h, ris_at (by rw [hl]; omega) h]
  · have hi' := hi
    have hj' := hj
    rw [bumpK_len] at hi' hj'
    have h1 := bd m hm i hi'
    have h2 := bd o ho j hj'
    rw [at_ m 500 i hi, at_ o 1000 j hj, if_pos h]
    split <;> omega
  · have hi' := hi
    rw [bumpK_len] at hi'
    have hj' : j < (risT (b ++ o)).length := by rw [hl]; omega
    have h1 := bd m hm i hi'
    have h2 := bd o ho j hj'
    rw [at_ m 500 i hi, at_ o 1000 j (by rw [bumpK_len]; exact hj'), if_pos h, if_neg (by omega)]
    omega
end Go.Proofs.Ytkihdceieljkgaa
