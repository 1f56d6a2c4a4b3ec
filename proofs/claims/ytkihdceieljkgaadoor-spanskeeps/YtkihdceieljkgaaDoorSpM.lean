/-
  THE MATHEMATICS OF SPANS: what the chapter's functions answer, as functions of lists; what the spans of batches tell of their terms; where two logs part. No program in sight.
-/
import Derived.WalkKit
namespace Go.Proofs.YtkihdceieljkgaaDoor
open Go.RowKit

/-- A span: its term, and where it begins. -/
abbrev Spn := Int × Int
/-- Starts rise. -/
def Ris (l : List Spn) : Prop := l.Pairwise (fun a b => a.2 < b.2)
/-- Terms and starts rise. -/
def Ris2 (l : List Spn) : Prop := l.Pairwise (fun a b => a.1 < b.1 ∧ a.2 < b.2)
theorem Ris2.ris {l : List Spn} (h : Ris2 l) : Ris l := h.imp And.right
/-- Spans that begin ahead of an offset. -/
def cutL (l : List Spn) (s : Int) : List Spn := l.filter (fun p => decide (p.2 < s))
/-- One of a term behind them, if there is none, or the last one's term is less. -/
def snocL (l : List Spn) (t s : Int) : List Spn := if l = [] ∨ (l.getLast?.getD (0, 0)).1 < t then l ++ [(t, s)] else l
def addL (l : List Spn) (t s : Int) : List Spn := snocL (cutL l s) t s
theorem cutL_len (l : List Spn) (s : Int) : (cutL l s).length ≤ l.length := List.length_filter_le _ _
theorem snocL_len (l : List Spn) (t s : Int) : (snocL l t s).length ≤ l.length + 1 := by
  unfold snocL
  split
  · simp
  · omega
theorem addL_len (l : List Spn) (t s : Int) : (addL l t s).length ≤ l.length + 1 := by
  have h1 := snocL_len (cutL l s) t s
  have h2 := cutL_len l s
  unfold addL
  omega
/-- What begins ahead is a beginning, if starts rise. -/
theorem cutL_take {l : List Spn} {s : Int} {k : Nat} (h1 : ∀ i (h : i < l.length), i < k → (l[i]).2 < s) (h2 : ∀ i (h : i < l.length), k ≤ i → s ≤ (l[i]).2) : cutL l s = l.take k := by
  have e : l = l.take k ++ l.drop k := (List.take_append_drop k l).symm
  unfold cutL
  conv => lhs; rw [e]
  rw [List.filter_append]
  have f1 : (l.take k).filter (fun p => decide (p.2 < s)) = l.take k := List.filter_eq_self.2 (fun p hp => by
    obtain ⟨i, hi, rfl⟩ := List.getElem_of_mem hp
    simp only [List.length_take] at hi
    rw [List.getElem_take]
    exact decide_eq_true (h1 i (by omega) (by omega)))
  have f2 : (l.drop k).filter (fun p => decide (p.2 < s)) = [] := List.filter_eq_nil_iff.2 (fun p hp => by
    obtain ⟨i, hi, rfl⟩ := List.getElem_of_mem hp
    simp only [List.length_drop] at hi
    rw [List.getElem_drop]
    have := h2 (k + i) (by omega) (by omega)
    simp
    omega)
  rw [f1, f2, List.append_nil]
/-- From the end: all from k on begin at it or behind, and the one ahead of it does not. -/
theorem cutL_back {l : List Spn} {s : Int} {k : Nat} (hr : Ris l) (h1 : ∀ (h : k - 1 < l.length), 0 < k → (l[k - 1]).2 < s) (hk : k ≤ l.length) (h2 : ∀ i (h : i < l.length), k ≤ i → s ≤ (l[i]).2) : cutL l s = l.take k :=
  cutL_take (fun i h hi => by
    have h3 := h1 (by omega) (by omega)
    by_cases e : i = k - 1
    · subst e; exact h3
    · have := List.pairwise_iff_getElem.1 hr i (k - 1) h (by omega) (by omega)
      omega) h2
/-- From the beginning: all ahead of k begin ahead, and the next one does not. -/
theorem cutL_front {l : List Spn} {s : Int} {k : Nat} (hr : Ris l) (h1 : ∀ i (h : i < l.length), i < k → (l[i]).2 < s) (h2 : ∀ (h : k < l.length), s ≤ (l[k]).2) : cutL l s = l.take k :=
  cutL_take h1 (fun i h hi => by
    have h3 := h2 (by omega)
    by_cases e : i = k
    · subst e; exact h3
    · have := List.pairwise_iff_getElem.1 hr k i (by omega) h (by omega)
      omega)
theorem cutL_all {l : List Spn} {s : Int} (h : ∀ p ∈ l, p.2 < s) : cutL l s = l := List.filter_eq_self.2 (fun p hp => decide_eq_true (h p hp))
/-- The spans of the first k batches' terms from base on, behind what has a term. -/
def spk (base t : Int) (ts : List Int) : Nat → List Spn
  | 0 => if 0 < base then [(t, base - 1)] else []
  | k + 1 => addL (spk base t ts k) (ts[k]?.getD 0) (base + k)
theorem snocL_mem {l : List Spn} {t s : Int} {p : Spn} (h : p ∈ snocL l t s) : p ∈ l ∨ p = (t, s) := by
  unfold snocL at h
  split at h
  · simpa using h
  · exact .inl h
theorem addL_mem {l : List Spn} {t s : Int} {p : Spn} (h : p ∈ addL l t s) : p ∈ l ∨ p = (t, s) :=
  (snocL_mem h).imp (fun h => (List.mem_filter.1 h).1) id
theorem spk_lt (base t : Int) (ts : List Int) : ∀ k, ∀ p ∈ spk base t ts k, p.2 < base + k
  | 0, p, h => by
    unfold spk at h
    split at h
    · simp at h; subst h; show base - 1 < _; omega
    · simp at h
  | k + 1, p, h => by
    rcases addL_mem h with h | rfl
    · have := spk_lt base t ts k p h; omega
    · show base + (k : Int) < _; omega
theorem spk_succ (base t : Int) (ts : List Int) (k : Nat) : spk base t ts (k + 1) = snocL (spk base t ts k) (ts[k]?.getD 0) (base + k) := by
  show snocL (cutL _ _) _ _ = _
  rw [cutL_all (spk_lt base t ts k)]
theorem snocL_ris {l : List Spn} {t s : Int} (h : Ris l) (hs : ∀ p ∈ l, p.2 < s) : Ris (snocL l t s) := by
  unfold snocL
  split
  · exact List.pairwise_append.2 ⟨h, List.pairwise_singleton _ _, fun a ha b hb => by simp at hb; subst hb; exact hs a ha⟩
  · exact h
theorem spk_ris (base t : Int) (ts : List Int) : ∀ k, Ris (spk base t ts k)
  | 0 => by
    unfold spk
    split
    · exact List.pairwise_singleton _ _
    · exact List.Pairwise.nil
  | k + 1 => by rw [spk_succ]; exact snocL_ris (spk_ris base t ts k) (spk_lt base t ts k)
theorem spk_len (base t : Int) (ts : List Int) : ∀ k, (spk base t ts k).length ≤ k + 1
  | 0 => by
    unfold spk
    split <;> simp
  | k + 1 => by
    have h1 := addL_len (spk base t ts k) (ts[k]?.getD 0) (base + k)
    have h2 := spk_len base t ts k
    show (addL _ _ _).length ≤ _
    omega
theorem spk_more (base t : Int) (ts us : List Int) : ∀ k, k ≤ ts.length → spk base t (ts ++ us) k = spk base t ts k
  | 0, _ => rfl
  | k + 1, h => by
    show addL _ _ _ = addL _ _ _
    rw [spk_more base t ts us k (by omega), List.getElem?_append_left (by omega)]
theorem spk_take (base t : Int) (ts : List Int) (n : Nat) (hn : n ≤ ts.length) : spk base t (ts.take n) n = spk base t ts n := by
  have := spk_more base t (ts.take n) (ts.drop n) n (by simp; omega)
  rw [List.take_append_drop] at this
  exact this.symm
/-- The whole: spans of batches. -/
def ofL (base t : Int) (ts : List Int) : List Spn := spk base t ts ts.length

/-- Where a term ends (13.4). -/
def endR : List Spn → Int → Int → Option (Int × Int)
  | [], _, _ => none
  | p :: r, t, e => if p.1 ≤ t then some (p.1, e) else endR r t p.2
def endL (l : List Spn) (t e : Int) : Option (Int × Int) := endR l.reverse t e
theorem endL_snoc (l : List Spn) (p : Spn) (t e : Int) : endL (l ++ [p]) t e = if p.1 ≤ t then some (p.1, e) else endL l t p.2 := by
  unfold endL
  rw [List.reverse_append]
  rfl
theorem endL_nil (t e : Int) : endL [] t e = none := rfl
/-- One step from the end on. -/
theorem endL_step (l : List Spn) (k : Nat) (h : k < l.length) (t e : Int) : endL (l.take (k + 1)) t e = if (l[k]).1 ≤ t then some ((l[k]).1, e) else endL (l.take k) t (l[k]).2 := by
  rw [← endL_snoc, List.take_succ_eq_append_getElem h]
def firstL (l : List Spn) : Int := (l.head?.getD (0, 0)).2
/-- 13.5. -/
def partL (l : List Spn) (e lt at_ : Int) : Int × Int × Bool :=
  match endL l lt e with
  | none => (0, firstL l, true)
  | some r => if r.1 = lt ∧ at_ ≤ r.2 then (0, 0, false) else (r.1, r.2, true)
/-- 13.6. -/
def keepL (l : List Spn) (e t u : Int) : Int :=
  match endL l t e with
  | none => firstL l
  | some r => if r.1 = t ∧ u < r.2 then u else r.2
/-- 13.1: what is wrong with a span, by the one ahead: a code, or nought. -/
def badN (x : Int) : Bool := decide (x < 0) || decide (1073741824 < x)
def badC (i : Bool) (q p : Spn) : Int := if badN p.1 || badN p.2 then 2 else if i && (decide (p.1 ≤ q.1) || decide (p.2 ≤ q.2)) then 10 else 0
def badL (l : List Spn) (k : Nat) : Int := badC (decide (0 < k)) (l[k - 1]?.getD (0, 0)) (l[k]?.getD (0, 0))
def chkS (l : List Spn) : Nat → Nat → Int × Nat
  | 0, _ => (0, 0)
  | n + 1, k => if badL l k = 0 then chkS l n (k + 1) else (badL l k, k)
def chkL (l : List Spn) : Int × Nat := chkS l l.length 0
theorem chkS_good {l : List Spn} : ∀ (n k : Nat), k + n ≤ l.length → (∀ j, j < l.length → badL l j = 0) → chkS l n k = (0, 0)
  | 0, _, _, _ => rfl
  | n + 1, k, h, hg => by
    unfold chkS
    rw [if_pos (hg k (by omega))]
    exact chkS_good n (k + 1) (by omega) hg
theorem chkS_zero {l : List Spn} : ∀ (n k : Nat), (chkS l n k).1 = 0 → ∀ j, k ≤ j → j < k + n → badL l j = 0
  | 0, _, _, j, h1, h2 => by omega
  | n + 1, k, h, j, h1, h2 => by
    unfold chkS at h
    split at h
    · rename_i hb
      by_cases e : j = k
      · rw [e]; exact hb
      · exact chkS_zero n (k + 1) h j (by omega) (by omega)
    · rename_i hb; exact absurd h hb
theorem chkS_code {l : List Spn} : ∀ (n k : Nat), (chkS l n k).1 = 0 ∨ (chkS l n k).1 = 2 ∨ (chkS l n k).1 = 10
  | 0, _ => .inl rfl
  | n + 1, k => by
    unfold chkS
    split
    · exact chkS_code n (k + 1)
    · unfold badL badC
      dsimp only
      split
      · exact .inr (.inl rfl)
      · split
        · exact .inr (.inr rfl)
        · exact .inl rfl
theorem chkS_fst {l : List Spn} : ∀ (n k : Nat), (chkS l n k).1 = 0 → chkS l n k = (0, 0)
  | 0, _, _ => rfl
  | n + 1, k, h => by
    unfold chkS at h ⊢
    split at h
    · rename_i hb; rw [if_pos hb]; exact chkS_fst n (k + 1) h
    · rename_i hb; exact absurd h hb
theorem chkS_lt {l : List Spn} : ∀ (n k : Nat), (chkS l n k).2 ≤ k + n
  | 0, _ => Nat.zero_le _
  | n + 1, k => by
    unfold chkS
    split
    · have := chkS_lt (l := l) n (k + 1); omega
    · show k ≤ _; omega
theorem ris2_of {l : List Spn} (h : ∀ j, j < l.length → badL l j = 0) : Ris2 l := by
  have step : ∀ j (h1 : j + 1 < l.length), (l[j]).1 < (l[j + 1]).1 ∧ (l[j]).2 < (l[j + 1]).2 := fun j h1 => by
    have hb := h (j + 1) h1
    unfold badL badC at hb
    rw [List.getElem?_eq_getElem h1, List.getElem?_eq_getElem (by omega : j + 1 - 1 < l.length)] at hb
    simp only [Option.getD_some, Nat.add_sub_cancel] at hb
    split at hb
    · omega
    · split at hb
      · omega
      · rename_i hx
        simp at hx
        exact hx
  have far : ∀ d i (h1 : i + d + 1 < l.length), (l[i]).1 < (l[i + d + 1]).1 ∧ (l[i]).2 < (l[i + d + 1]).2 := by
    intro d
    induction d with
    | zero => exact fun i h1 => step i h1
    | succ d ih =>
      intro i h1
      have a := ih i (by omega)
      have b := step (i + d + 1) h1
      have e : i + (d + 1) + 1 = i + d + 1 + 1 := by omega
      simp only [e]
      exact ⟨Int.lt_trans a.1 b.1, Int.lt_trans a.2 b.2⟩
  refine List.pairwise_iff_getElem.2 (fun i j hi hj hij => ?_)
  have := far (j - i - 1) i (by omega)
  simp only [show i + (j - i - 1) + 1 = j by omega] at this
  exact this
theorem chk_ris {l : List Spn} (h : (chkL l).1 = 0) : Ris2 l := ris2_of (fun j hj => chkS_zero l.length 0 h j (Nat.zero_le _) (by omega))
theorem chk_good {l : List Spn} (hr : Ris2 l) (hn : ∀ p ∈ l, badN p.1 = false ∧ badN p.2 = false) : chkL l = (0, 0) := by
  refine chkS_good _ _ (by omega) (fun j hj => ?_)
  unfold badL badC
  rw [List.getElem?_eq_getElem hj]
  obtain ⟨h1, h2⟩ := hn _ (List.getElem_mem hj)
  simp only [Option.getD_some, h1, h2, Bool.or_self, Bool.false_eq_true, if_false]
  by_cases h0 : 0 < j
  · rw [List.getElem?_eq_getElem (by omega : j - 1 < l.length)]
    have := List.pairwise_iff_getElem.1 hr (j - 1) j (by omega) hj (by omega)
    simp only [Option.getD_some]
    rw [if_neg]
    simp
    omega
  · rw [if_neg]
    simp
    omega

/-- The term at an offset, as the spans tell it (13.7). -/
def lookL (l : List Spn) (x : Int) : Int := l.foldl (fun a p => if p.2 ≤ x then p.1 else a) 0
theorem lookL_snoc (l : List Spn) (p : Spn) (x : Int) : lookL (l ++ [p]) x = if p.2 ≤ x then p.1 else lookL l x := by
  unfold lookL
  rw [List.foldl_append]
  rfl
def lastT (l : List Spn) : Int := (l.getLast?.getD (0, 0)).1
theorem lastT_snoc (l : List Spn) (p : Spn) : lastT (l ++ [p]) = p.1 := by simp [lastT]
theorem snocL_lastT (l : List Spn) (t s : Int) : snocL l t s = if l = [] ∨ lastT l < t then l ++ [(t, s)] else l := rfl
theorem ris2_last {l : List Spn} (h : Ris2 l) : ∀ p ∈ l, p.1 ≤ lastT l := by
  intro p hp
  rcases List.eq_nil_or_concat l with rfl | ⟨m, q, rfl⟩
  · simp at hp
  · rw [List.concat_eq_append] at *
    rw [lastT_snoc]
    rcases List.mem_append.1 hp with hp | hp
    · have := (List.pairwise_append.1 h).2.2 p hp q (by simp); omega
    · simp at hp; rw [hp]; exact Int.le_refl _
/-- Terms of batches that rise. -/
def Up (ts : List Int) : Prop := ∀ i j (hj : j < ts.length) (hij : i ≤ j), ts[i]'(by omega) ≤ ts[j]
structure Tel (base : Int) (ts : List Int) (k : Nat) : Prop where
  last : lastT (spk base 0 ts k) = if k = 0 then 0 else ts[k - 1]?.getD 0
  nil : spk base 0 ts k = [] → k = 0
  ris : Ris2 (spk base 0 ts k)
  num : ∀ p ∈ spk base 0 ts k, (0 ≤ p.1 ∧ (p.1 = 0 ∨ p.1 ∈ ts)) ∧ 0 ≤ p.2
  look : ∀ i, i < k → lookL (spk base 0 ts k) (base + i) = ts[i]?.getD 0
  all : 0 < k → lookL (spk base 0 ts k) (base + k) = lastT (spk base 0 ts k)
theorem tel_any {base : Int} {ts : List Int} (hb : 0 ≤ base) (hu : Up ts) (hp : ∀ t ∈ ts, 0 < t) : ∀ k, k ≤ ts.length → Tel base ts k
  | 0, _ => by
    have e : spk base 0 ts 0 = if 0 < base then [(0, base - 1)] else [] := rfl
    by_cases h : 0 < base
    · rw [if_pos h] at e
      refine ⟨by rw [e]; rfl, fun _ => rfl, by rw [e]; exact List.pairwise_singleton _ _, fun p hq => ?_, fun i hi => by omega, fun h => by omega⟩
      rw [e] at hq
      simp at hq
      subst hq
      exact ⟨⟨Int.le_refl _, .inl rfl⟩, by show 0 ≤ base - 1; omega⟩
    · rw [if_neg h] at e
      exact ⟨by rw [e]; rfl, fun _ => rfl, by rw [e]; exact List.Pairwise.nil, fun p hq => by rw [e] at hq; simp at hq, fun i hi => by omega, fun h => by omega⟩
  | k + 1, hk => by
    have ih := tel_any hb hu hp k (by omega)
    have hlt := spk_lt base 0 ts k
    have e := (spk_succ base 0 ts k).trans (snocL_lastT _ _ _)
    have hg : ts[k]?.getD 0 = ts[k]'(by omega) := by rw [List.getElem?_eq_getElem (by omega)]; rfl
    have hpos : 0 < ts[k]?.getD 0 := by rw [hg]; exact hp _ (List.getElem_mem _)
    by_cases hc : spk base 0 ts k = [] ∨ lastT (spk base 0 ts k) < ts[k]?.getD 0
    · rw [if_pos hc] at e
      have hlast : ∀ p ∈ spk base 0 ts k, p.1 < ts[k]?.getD 0 := fun p hq => by
        rcases hc with hc | hc
        · rw [hc] at hq; simp at hq
        · have := ris2_last ih.ris p hq; omega
      refine ⟨by rw [e, lastT_snoc]; simp, fun q => by rw [e] at q; simp at q, ?_, fun p hq => ?_, fun i hi => ?_, fun _ => ?_⟩
      · rw [e]
        exact List.pairwise_append.2 ⟨ih.ris, List.pairwise_singleton _ _, fun a ha b hb => by simp at hb; subst hb; exact ⟨hlast a ha, hlt a ha⟩⟩
      · rw [e] at hq
        rcases List.mem_append.1 hq with hq | hq
        · exact ih.num p hq
        · simp only [List.mem_singleton] at hq
          subst hq
          refine ⟨⟨Int.le_of_lt hpos, .inr ?_⟩, ?_⟩
          · show ts[k]?.getD 0 ∈ ts
            rw [hg]
            exact List.getElem_mem _
          · show 0 ≤ base + (k : Int)
            omega
      · rw [e, lookL_snoc]
        by_cases hik : i = k
        · subst hik
          rw [if_pos (Int.le_refl _)]
        · rw [if_neg (by show ¬ base + (k : Int) ≤ base + (i : Int); omega)]
          exact ih.look i (by omega)
      · rw [e, lookL_snoc, lastT_snoc, if_pos (by show base + (k : Int) ≤ base + ((k + 1 : Nat) : Int); omega)]
    · rw [if_neg hc] at e
      have hne : spk base 0 ts k ≠ [] := fun q => hc (.inl q)
      have hle : ts[k]?.getD 0 ≤ lastT (spk base 0 ts k) := Int.not_lt.1 (fun q => hc (.inr q))
      have h0 : 0 < k := by
        rcases Nat.eq_zero_or_pos k with h0 | h0
        · have := ih.last; rw [if_pos h0] at this; omega
        · exact h0
      have hl := ih.last
      rw [if_neg (by omega : ¬ k = 0)] at hl
      have hg1 : ts[k - 1]?.getD 0 = ts[k - 1]'(by omega) := by rw [List.getElem?_eq_getElem (by omega)]; rfl
      have heq : lastT (spk base 0 ts k) = ts[k]?.getD 0 := by
        have := hu (k - 1) k (by omega) (by omega)
        rw [hl, hg1] at hle ⊢
        rw [hg] at hle ⊢
        omega
      refine ⟨by rw [e, heq]; simp, fun q => by rw [e] at q; exact absurd q hne, by rw [e]; exact ih.ris, by rw [e]; exact ih.num, fun i hi => ?_, fun _ => ?_⟩
      · rw [e]
        by_cases hik : i = k
        · subst hik
          rw [ih.all h0, heq]
        · exact ih.look i (by omega)
      · rw [e]
        obtain ⟨m, q, hm⟩ := (List.eq_nil_or_concat (spk base 0 ts k)).resolve_left hne
        rw [List.concat_eq_append] at hm
        rw [hm, lookL_snoc, lastT_snoc, if_pos]
        have := hlt q (by rw [hm]; simp)
        omega

/-- Where a term ends, of spans of batches whose terms are no greater than it up to m, and greater from m on. -/
theorem end_spk {ts : List Int} {t : Int} {m : Nat} (hp : ∀ x ∈ ts, 0 < x) (hu : Up ts) (h1 : ∀ i (h : i < ts.length), i < m → ts[i] ≤ t) (h2 : ∀ i (h : i < ts.length), m ≤ i → t < ts[i]) : ∀ k, k ≤ ts.length → endL (spk 0 0 ts k) t k = if min k m = 0 then none else some (ts[min k m - 1]?.getD 0, ((min k m : Nat) : Int))
  | 0, _ => by
    rw [if_pos (Nat.zero_min _)]
    rfl
  | k + 1, hk => by
    have ih := end_spk hp hu h1 h2 k (by omega)
    have T := tel_any (Int.le_refl 0) hu hp k (by omega)
    have e := (spk_succ 0 0 ts k).trans (snocL_lastT _ _ _)
    have hg : ts[k]?.getD 0 = ts[k]'(by omega) := by rw [List.getElem?_eq_getElem (by omega)]; rfl
    by_cases hc : spk 0 0 ts k = [] ∨ lastT (spk 0 0 ts k) < ts[k]?.getD 0
    · rw [e, if_pos hc, endL_snoc]
      by_cases hkm : k < m
      · rw [if_pos (by show ts[k]?.getD 0 ≤ t; rw [hg]; exact h1 k (by omega) hkm), show min (k + 1) m = k + 1 by omega, if_neg (by omega)]
        rfl
      · rw [if_neg (by show ¬ ts[k]?.getD 0 ≤ t; rw [hg]; exact Int.not_le.2 (h2 k (by omega) (by omega)))]
        show endL _ _ (0 + (k : Int)) = _
        rw [Int.zero_add, ih, show min k m = m by omega, show min (k + 1) m = m by omega]
    · rw [e, if_neg hc]
      have hne : spk 0 0 ts k ≠ [] := fun q => hc (.inl q)
      have hle : ts[k]?.getD 0 ≤ lastT (spk 0 0 ts k) := Int.not_lt.1 (fun q => hc (.inr q))
      have h0 : 0 < k := by
        rcases Nat.eq_zero_or_pos k with h0 | h0
        · exfalso; apply hne; rw [h0]; rfl
        · exact h0
      have hl := T.last
      rw [if_neg (by omega : ¬ k = 0)] at hl
      have hg1 : ts[k - 1]?.getD 0 = ts[k - 1]'(by omega) := by rw [List.getElem?_eq_getElem (by omega)]; rfl
      have heq : lastT (spk 0 0 ts k) = ts[k]'(by omega) := by
        have := hu (k - 1) k (by omega) (by omega)
        rw [hl, hg1] at hle ⊢
        rw [hg] at hle
        omega
      obtain ⟨l, q, hm⟩ := (List.eq_nil_or_concat (spk 0 0 ts k)).resolve_left hne
      rw [List.concat_eq_append] at hm
      rw [hm, lastT_snoc] at heq
      rw [hm, endL_snoc] at ih ⊢
      by_cases hkm : k < m
      · rw [if_pos (by rw [heq]; exact h1 k (by omega) hkm), show min (k + 1) m = k + 1 by omega, if_neg (by omega), heq]
        show _ = some (ts[k]?.getD 0, _)
        rw [hg]
      · have hgt : ¬ q.1 ≤ t := by rw [heq]; exact Int.not_le.2 (h2 k (by omega) (by omega))
        rw [if_neg hgt] at ih ⊢
        rw [ih, show min k m = m by omega, show min (k + 1) m = m by omega]
theorem first_snoc (l : List Spn) (t s : Int) (h : l ≠ []) : firstL (snocL l t s) = firstL l := by
  unfold snocL
  split
  · cases l with
    | nil => exact absurd rfl h
    | cons => rfl
  · rfl
theorem first_spk (ts : List Int) : ∀ k, firstL (spk 0 0 ts k) = 0
  | 0 => rfl
  | k + 1 => by
    rw [spk_succ]
    by_cases h : spk 0 0 ts k = []
    · rw [h]
      unfold snocL
      rw [if_pos (.inl rfl)]
      have h0 : k = 0 := by
        rcases Nat.eq_zero_or_pos k with h0 | h0
        · exact h0
        · exfalso
          obtain ⟨j, rfl⟩ : ∃ j, k = j + 1 := ⟨k - 1, by omega⟩
          rw [spk_succ] at h
          unfold snocL at h
          split at h
          · simp at h
          · rename_i hx; exact hx (.inl h)
      subst h0
      rfl
    · rw [first_snoc _ _ _ h]
      exact first_spk ts k
/-- TWO LOGS that are the same up to m, and part there. -/
structure Two (A C : List Int) (m : Nat) : Prop where
  pa : ∀ x ∈ A, 0 < x
  pc : ∀ x ∈ C, 0 < x
  ua : Up A
  uc : Up C
  la : m ≤ A.length
  lc : m ≤ C.length
  same : ∀ i (h : i < m), A[i] = C[i]
  far : ∀ i j (hi : i < A.length) (hj : j < C.length), m ≤ j → A[i] < C[j]
  up : ∀ i j (hi : i < A.length) (hj : j < m), m ≤ i → C[j] < A[i]
/-- The last term of a log up to n. -/
def lastN (C : List Int) (n : Nat) : Int := if n = 0 then 0 else C[n - 1]?.getD 0
/-- At its end, if that lies behind m: it parts, and is cut back to m. -/
theorem two_back {A C : List Int} {m : Nat} (h : Two A C m) (hm : m < C.length) : ∃ t u, partL (ofL 0 0 A) A.length (lastN C C.length) C.length = (t, u, true) ∧ keepL (ofL 0 0 C) C.length t u = m := by
  have hl : lastN C C.length = C[C.length - 1]'(by omega) := by
    unfold lastN
    rw [if_neg (by omega), List.getElem?_eq_getElem (by omega)]
    rfl
  have e1 := end_spk h.pa h.ua (t := lastN C C.length) (m := A.length) (fun i hi _ => by rw [hl]; exact Int.le_of_lt (h.far i _ hi _ (by omega))) (fun i hi q => by omega) A.length (Nat.le_refl _)
  rw [Nat.min_self] at e1
  by_cases ha : A.length = 0
  · rw [if_pos ha] at e1
    refine ⟨0, 0, ?_, ?_⟩
    · unfold partL ofL
      rw [e1]
      show (0, firstL _, true) = _
      rw [first_spk]
    · have e2 := end_spk h.pc h.uc (t := 0) (m := 0) (fun i hi q => by omega) (fun i hi q => h.pc _ (List.getElem_mem _)) C.length (Nat.le_refl _)
      rw [if_pos (Nat.min_zero _)] at e2
      unfold keepL ofL
      rw [e2]
      show firstL _ = _
      rw [first_spk]
      have := h.la
      omega
  · rw [if_neg ha] at e1
    have hga : A[A.length - 1]?.getD 0 = A[A.length - 1]'(by omega) := by rw [List.getElem?_eq_getElem (by omega)]; rfl
    refine ⟨A[A.length - 1]?.getD 0, A.length, ?_, ?_⟩
    · unfold partL ofL
      rw [e1]
      have hne : ¬ A[A.length - 1]?.getD 0 = lastN C C.length := by
        rw [hga, hl]
        have := h.far (A.length - 1) (C.length - 1) (by omega) (by omega) (by omega)
        omega
      show (if _ ∧ _ then _ else _) = _
      rw [if_neg (fun q => hne q.1)]
    · have e2 := end_spk h.pc h.uc (t := A[A.length - 1]?.getD 0) (m := m) (fun i hi q => by
        rw [hga]
        by_cases hx : m ≤ A.length - 1
        · exact Int.le_of_lt (h.up (A.length - 1) i (by omega) q hx)
        · have := h.la
          rw [← h.same i q]
          exact h.ua i (A.length - 1) (by omega) (by omega)) (fun i hi q => by rw [hga]; exact h.far _ _ (by omega) hi q) C.length (Nat.le_refl _)
      rw [show min C.length m = m by omega] at e2
      unfold keepL ofL
      rw [e2]
      by_cases h0 : m = 0
      · rw [if_pos h0]
        show firstL _ = _
        rw [first_spk, h0]
        rfl
      · rw [if_neg h0]
        show (if _ ∧ _ then _ else _) = _
        have := h.la
        split
        · rename_i hx
          obtain ⟨_, hx⟩ := hx
          have hx' : (A.length : Int) < (m : Int) := hx
          omega
        · rfl
/-- At m it parts no more. -/
theorem two_on {A C : List Int} {m : Nat} (h : Two A C m) (h0 : 0 < m) : partL (ofL 0 0 A) A.length (lastN C m) m = (0, 0, false) := by
  have hl : lastN C m = A[m - 1]'(by have := h.la; omega) := by
    have := h.lc
    unfold lastN
    rw [if_neg (by omega), List.getElem?_eq_getElem (by omega), h.same (m - 1) (by omega)]
    rfl
  have hla := h.la
  have e1 := end_spk h.pa h.ua (t := lastN C m) (m := m) (fun i hi q => by rw [hl]; exact h.ua i (m - 1) (by omega) (by omega)) (fun i hi q => by
    rw [hl, h.same (m - 1) (by omega)]
    exact h.up i (m - 1) hi (by omega) q) A.length (Nat.le_refl _)
  rw [show min A.length m = m by omega, if_neg (by omega)] at e1
  unfold partL ofL
  rw [e1]
  show (if _ ∧ _ then _ else _) = _
  rw [if_pos]
  exact ⟨by rw [hl, List.getElem?_eq_getElem (by omega)]; rfl, Int.le_refl _⟩
end Go.Proofs.YtkihdceieljkgaaDoor
