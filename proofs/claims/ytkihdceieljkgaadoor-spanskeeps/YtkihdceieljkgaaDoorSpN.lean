/-
  BATCHES WHOSE TERMS RISE (castellanlaw13.rising): a row of the law's own, each term by a step of nought, one or two. Conditions: the steps are bytes; no more than a thousand.
-/
import Derived.Test.YtkihdceieljkgaaDoorSpO
namespace Go.Proofs.YtkihdceieljkgaaDoor
open Go.RowKit

/-- A batch's three cells: its term alone is told. -/
def btc (t : Int) : List Value := [.int .i64 t, .int .i64 0, .slice none 0 0]
def btcs (ts : List Int) : List Value := ts.flatMap btc
theorem btcs_len (ts : List Int) : (btcs ts).length = ts.length * 3 := lm_lenS btc 3 (fun _ => rfl) ts
theorem btcs_app (l m : List Int) : btcs (l ++ m) = btcs l ++ btcs m := List.flatMap_append
theorem infoBtc : (Tryd.prog.info? 59).map (fun i => (i.zero, i.size, i.bytes)) = some (some (.agg #[.int .i64 0, .int .i64 0, .slice none 0 0]), 3, 40) := by kernel_rfl
/-- A row of batches in memory from B on, that is the call's own. -/
def Bow (W : World) (B : Nat) (v : Value) (ts : List Int) : Prop := W.ownsRow B 59 3 v ts.length (btcs ts)
theorem bow_nil (W : World) (B : Nat) : Bow W B (.slice none 0 0) [] := World.ownsRow_nil _ _ _ _
theorem Bow.below {W W' : World} {B : Nat} {v : Value} {ts : List Int} (h : Bow W B v ts) (hb : Below W.heap.size W W') : Bow W' B v ts := owns_below h hb
theorem Bow.mono {W : World} {B C : Nat} {v : Value} {ts : List Int} (h : Bow W B v ts) (hc : C ≤ B) : Bow W C v ts := owns_mono h hc
theorem Bow.sbt {W : World} {B : Nat} {v : Value} {ts : List Int} (h : Bow W B v ts) : Sbt W v ts := by
  rcases h.2 with ⟨e, h0⟩ | ⟨g, cap, cur, e, a2, a3, a4, a5, a6, a7⟩
  · exact ⟨none, 0, by rw [e, h0], by omega, fun q => by omega⟩
  · refine ⟨some ⟨g, 0, none⟩, cap, e, a4, fun _ => ⟨g, 0, rfl, fun k hk => ?_⟩⟩
    have h1 := lm_getS btc 3 (fun _ => rfl) ts k hk 0 (.int .i64 ts[k]) rfl
    rw [show ts.flatMap btc = btcs ts from rfl, ← a7, List.getElem?_take_of_lt (by omega)] at h1
    simp only [World.cell?, a3, Nat.zero_add]
    simpa using h1
theorem btc_one (ts : List Int) : ∀ u ∈ btcs ts, u.oneCell' = true := fun u hu => by
  obtain ⟨p, _, hp⟩ := List.mem_flatMap.1 hu
  simp only [btc, List.mem_cons, List.not_mem_nil, or_false] at hp
  rcases hp with rfl | rfl | rfl <;> rfl
theorem wpList_appBt {ops : Array Oper} {rest : List Oper} {o : Oper} {a : Act} {Q : Exit → Act → World → Prop} (w : World) (hg : o.guard = none) (y z : Operand) (ho : o.op = .call { callee := .builtin .append, args := #[y, z], argTypes := #[39, 39] }) (B : Nat) (v : Value) (l : List Int) (hy : a.eval y = v) (hown : Bow w B v l) (hB : B ≤ w.heap.size) (ad : Addr) (c : Nat) (q : Int) (hz : a.eval z = .slice (some ad) 1 c) (hnews : ∀ j u, (btcs [q])[j]? = some u → w.cell? (ad.add j) = some u) (hn : l.length + 1 ≤ 2000000000)
    (h : ∀ v' w', Bow w' B v' (l ++ [q]) → w.grownBy w' v.ownBlock → Below B w w' → wpList Tryd.prog ops Q rest (a.put o.dst v') w') : wpList Tryd.prog ops Q (o :: rest) a w := by
  refine wpList_plain hg fun K hK => ?_
  obtain ⟨i0, hi, hz0, hz1, hz2⟩ := info_parts infoBtc
  obtain ⟨v', w', hrun, ho', hg', _, hk⟩ := run_append_own_at (P := Tryd.prog) w B 39 o.type 59 i0 (.agg #[.int .i64 0, .int .i64 0, .slice none 0 0]) 3 40 Tryd.underlying39 hi hz0 hz1 hz2 rfl (by decide) v l.length (btcs l) hown ad 1 c (btcs [q]) rfl hnews (btc_one [q]) (by unfold maxLen; omega) (by omega) hB
  unfold Oper.wp
  simp [execOp, ho, resolve, invoke, builtin, hy, hz, hrun, Result.andThen]
  refine hK _ _ (h v' w' ?_ hg' ((Below.refl B w).grown hg' hB (fun k e => (hown.lt k e).1)))
  unfold Bow
  rw [List.length_append, btcs_app]
  exact ho'
theorem btc_new {w : World} {q : Int} {t : TypeId} : ∀ j u, (btcs [q])[j]? = some u → (w.alloc (.cells #[.int .i64 q, .int .i64 0, .slice none 0 0] t)).cell? ((⟨w.heap.size, 0, none⟩ : Addr).add j) = some u := fun j u hj => by
  rw [Addr.add_lit, Nat.zero_add, World.cell?_alloc_at _ _ _ _ rfl]
  simpa [btcs, btc] using hj
/-- The terms, step by step. -/
def acT (l : List Int) : Nat → Int
  | 0 => 1
  | k + 1 => acT l k + (l[k]?.getD 0) % 3
def risK (l : List Int) (k : Nat) : List Int := (List.range k).map fun j => acT l (j + 1)
def risT (l : List Int) : List Int := risK l l.length
theorem risK_succ (l : List Int) (k : Nat) : risK l (k + 1) = risK l k ++ [acT l (k + 1)] := by simp [risK, List.range_succ]
theorem risK_len (l : List Int) (k : Nat) : (risK l k).length = k := by simp [risK]
theorem risT_len (l : List Int) : (risT l).length = l.length := risK_len _ _
theorem risK_at {l : List Int} {k j : Nat} (h : j < (risK l k).length) : (risK l k)[j] = acT l (j + 1) := by simp [risK]
theorem acT_pos (l : List Int) : ∀ k, 1 ≤ acT l k
  | 0 => by show (1 : Int) ≤ 1; omega
  | k + 1 => by have := acT_pos l k; show 1 ≤ acT l k + _ % 3; omega
theorem acT_le (l : List Int) : ∀ k : Nat, acT l k ≤ 1 + 2 * (k : Int)
  | 0 => by show (1 : Int) ≤ _; omega
  | k + 1 => by have := acT_le l k; show acT l k + _ % 3 ≤ _; omega
theorem acT_up (l : List Int) : ∀ d k, acT l k ≤ acT l (k + d)
  | 0, _ => Int.le_refl _
  | d + 1, k => by have := acT_up l d k; show _ ≤ acT l (k + d) + _ % 3; omega
theorem risT_up (l : List Int) : Up (risT l) := fun i j hj hij => by
  have hj' := hj
  rw [risT_len] at hj'
  have e1 : (risT l)[i]'(by omega) = acT l (i + 1) := risK_at (k := l.length) _
  have e2 : (risT l)[j] = acT l (j + 1) := risK_at (k := l.length) _
  rw [e1, e2]
  have := acT_up l (j - i) (i + 1)
  rwa [show i + 1 + (j - i) = j + 1 by omega] at this
theorem risT_mem {l : List Int} {x : Int} (h : x ∈ risT l) : 0 < x ∧ x ≤ 1 + 2 * (l.length : Int) := by
  obtain ⟨j, hj, rfl⟩ := List.mem_map.1 h
  simp only [List.mem_range] at hj
  have h1 := acT_pos l (j + 1)
  have h2 := acT_le l (j + 1)
  omega
theorem acT_app (l m : List Int) : ∀ k, k ≤ l.length → acT (l ++ m) k = acT l k
  | 0, _ => rfl
  | k + 1, h => by
    show acT (l ++ m) k + _ = acT l k + _
    rw [acT_app l m k (by omega), List.getElem?_append_left (by omega)]
abbrev u8v (x : Int) : Value := .int .u8 x
end Go.Proofs.YtkihdceieljkgaaDoor
