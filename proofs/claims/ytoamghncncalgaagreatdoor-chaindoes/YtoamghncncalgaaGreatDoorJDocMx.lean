/-
  BOTH CHAINS SIDE BY SIDE: what a cut leaves, which blocks there are, how far records are found. Mathematics alone: no call in it. No condition of its own.
-/
import Derived.Test.YtoamghncncalgaaGreatDoorJRefCh
import Derived.Test.YtoamghncncalgaaGreatDoorJDocCra2
namespace Go.Proofs.YtoamghncncalgaaGreatDoor

/-- All blocks are below H. -/
def KB (H : Int) (s : Dst) : Prop := (∀ p ∈ s.cs, p.1 < H) ∧ ∀ x ∈ s.lo, x.at_ < H
theorem stT_kb {H : Int} {t : Cs} {x : Wr} (h : ∀ p ∈ t, p.1 < H) (hx : x.at_ < H) : ∀ p ∈ stT t x, p.1 < H := by
  unfold stT
  split
  · split
    · exact ins_all (P := fun p => p.1 < H) h hx
    · exact h
  · exact ins_all (P := fun p => p.1 < H) h hx
theorem stS_kb {H : Int} {t : Cs} {x : Wr} (h : ∀ p ∈ t, p.1 < H) (hx : x.at_ < H) : ∀ p ∈ stS t x, p.1 < H := by
  unfold stS
  split
  · exact del_all (P := fun p => p.1 < H) h
  · exact ins_all (P := fun p => p.1 < H) h hx
theorem tkO_kb {H : Int} : ∀ {lo : List Wr} {t : Cs}, (∀ p ∈ t, p.1 < H) → (∀ x ∈ lo, x.at_ < H) → ∀ p ∈ tkO t lo, p.1 < H
  | [], _, h, _ => h
  | x :: r, t, h, hx => tkO_kb (lo := r) (t := stT t x) (stT_kb h (hx x List.mem_cons_self)) (fun y hy => hx y (List.mem_cons_of_mem _ hy))
theorem syn_kb {H : Int} : ∀ {lo : List Wr} {t : Cs}, (∀ p ∈ t, p.1 < H) → (∀ x ∈ lo, x.at_ < H) → ∀ p ∈ syn t lo, p.1 < H
  | [], _, h, _ => h
  | x :: r, t, h, hx => syn_kb (lo := r) (t := stS t x) (stS_kb h (hx x List.mem_cons_self)) (fun y hy => hx y (List.mem_cons_of_mem _ hy))
theorem KB.tk {H : Int} {s : Dst} (h : KB H s) : ∀ p ∈ s.tk, p.1 < H := tkO_kb h.1 h.2
theorem KB.mono {H K : Int} {s : Dst} (h : KB H s) (hk : H ≤ K) : KB K s := ⟨fun p hp => Int.lt_of_lt_of_le (h.1 p hp) hk, fun x hx => Int.lt_of_lt_of_le (h.2 x hx) hk⟩
theorem KB.sync {H : Int} {s : Dst} (h : KB H s) : KB H (syS s) := ⟨syn_kb h.1 h.2, fun x hx => by simp [syS] at hx⟩
theorem KB.crash {H : Int} {s : Dst} (h : KB H s) (ks : List Int) (cut : Int) : KB H (crS s ks cut) := by
  refine ⟨?_, fun x hx => by simp [crS] at hx⟩
  show ∀ p ∈ crs s.cs (kpt ks s.lo) cut, _
  have hk : ∀ x ∈ kpt ks s.lo, x.at_ < H := fun x hx => h.2 x (kpt_sub hx)
  rcases nil_or_snoc (kpt ks s.lo) with e | ⟨K0, x, e⟩
  · rw [e]
    exact h.1
  · rw [e] at hk
    rw [e, crs_snoc]
    exact stS_kb (syn_kb h.1 (fun y hy => hk y (List.mem_append_left _ hy))) (by rw [torn_at]; exact hk x (by simp))
theorem KB.pS {H a st : Int} {s : Dst} {b : List Int} {n : Nat} (h : KB H s) (ha : a + n ≤ H) : KB H (pS s a st b n) := ⟨h.1, fun x hx => by
  rcases List.mem_append.1 hx with e | e
  · exact h.2 x e
  · obtain ⟨i, hi, rfl⟩ := List.mem_map.1 e
    have := List.mem_range.1 hi
    show a + (i : Int) < H
    omega⟩
theorem KB.frN {H a : Int} {s : Dst} {n : Nat} (h : KB H s) (ha : a + n ≤ H) : KB H (frN s (trL a n)) := ⟨h.1, fun x hx => by
  rcases List.mem_append.1 hx with e | e
  · exact h.2 x e
  · obtain ⟨y, hy, rfl⟩ := List.mem_map.1 e
    obtain ⟨i, hi, rfl⟩ := List.mem_map.1 hy
    have := List.mem_range.1 hi
    show a + (i : Int) < H
    omega⟩
theorem mem_trL {a x : Int} {n : Nat} : x ∈ trL a n ↔ a ≤ x ∧ x < a + n := by
  unfold trL
  constructor
  · intro h
    obtain ⟨i, hi, rfl⟩ := List.mem_map.1 h
    have := List.mem_range.1 hi
    omega
  · intro h
    exact List.mem_map.2 ⟨(x - a).toNat, List.mem_range.2 (by omega), by omega⟩
theorem mem_rngN {lo hi x : Int} {l : Cs} : x ∈ rngN lo hi l ↔ ∃ p ∈ l, (lo ≤ p.1 ∧ p.1 < hi) ∧ p.1 = x := by
  unfold rngN
  constructor
  · intro h
    obtain ⟨p, hp, e⟩ := List.mem_map.1 h
    obtain ⟨h1, h2⟩ := List.mem_filter.1 hp
    simp only [Bool.and_eq_true, decide_eq_true_eq] at h2
    exact ⟨p, h1, h2, e⟩
  · rintro ⟨p, h1, h2, e⟩
    exact List.mem_map.2 ⟨p, List.mem_filter.2 ⟨h1, by simpa using h2⟩, e⟩
theorem look_frees (x : Int) : ∀ (l : List Int) (C : Cs), look (syn C (l.map wfr)) x = if x ∈ l then none else look C x
  | [], C => by simp [syn]
  | y :: l, C => by
    have ih := look_frees x l (delM y C)
    show look (syn (stS C (wfr y)) (l.map wfr)) x = _
    rw [show stS C (wfr y) = delM y C from rfl, ih, look_del]
    by_cases h1 : x ∈ l
    · rw [if_pos h1, if_pos (List.mem_cons_of_mem _ h1)]
    · rw [if_neg h1]
      by_cases h2 : x = y
      · rw [if_pos h2, if_pos (by rw [h2]; exact List.mem_cons_self)]
      · rw [if_neg h2, if_neg (fun e => (List.mem_cons.1 e).elim h2 h1)]
theorem syn_len_fr : ∀ (l : List Int) (C : Cs), (syn C (l.map wfr)).length ≤ C.length
  | [], _ => Nat.le_refl _
  | y :: l, C => Nat.le_trans (syn_len_fr l (delM y C)) (List.length_filter_le _ _)
theorem frees_eq {C : Cs} (hC : Asc C) {lo hi : Int} {m : Nat} (h : hi = lo + m) : syn C ((trL lo m).map wfr) = syn C ((rngN lo hi C).map wfr) := by
  refine asc_ext (asc_syn hC _) (asc_syn hC _) (fun x => ?_)
  rw [look_frees, look_frees]
  by_cases h1 : x ∈ rngN lo hi C
  · obtain ⟨p, _, h2, e⟩ := mem_rngN.1 h1
    rw [if_pos h1, if_pos (mem_trL.2 (by omega))]
  · rw [if_neg h1]
    by_cases h2 : x ∈ trL lo m
    · rw [if_pos h2]
      cases hl : look C x with
      | none => rfl
      | some b => exact absurd (mem_rngN.2 ⟨(x, b), look_mem hl, by have := mem_trL.1 h2; simp only; omega, rfl⟩) h1
    · rw [if_neg h2]
theorem pS_one (s : Dst) (a sp : Int) : pS s a sp [] 1 = ⟨s.room, s.cs, s.lo ++ [⟨a, false, blkOf sp true []⟩]⟩ := by
  simp [pS, pieces]
theorem cu_ok {s : Dst} {a sp : Int} (ha : Num a) (hr : (look s.tk a).isSome = true ∨ (s.tk.length : Int) < s.room) : cuC s a sp = 0 ∧ cuB s a sp = pS s a sp [] 1 := by
  have h64 := blkOf_len sp true []
  have hN : 0 ≤ a ∧ a ≤ 1073741824 := ha
  constructor
  · unfold cuC wrC wrE
    rw [if_pos hN, if_pos (by omega), if_pos hr]
  · unfold cuB wrS
    rw [if_pos hN, if_pos (by omega), if_pos hr, padL_64 h64, pS_one]
theorem cu_full {s : Dst} {a sp : Int} (ha : Num a) (hr : ¬ ((look s.tk a).isSome = true ∨ (s.tk.length : Int) < s.room)) : cuC s a sp = 7 ∧ cuB s a sp = s := by
  have h64 := blkOf_len sp true []
  have hN : 0 ≤ a ∧ a ≤ 1073741824 := ha
  constructor
  · unfold cuC wrC wrE
    rw [if_pos hN, if_pos (by omega), if_neg hr]
  · unfold cuB wrS
    rw [if_pos hN, if_pos (by omega), if_neg hr]
/-- Both cuts leave the same. -/
theorem cut_eq {s : Dst} {a sp nx : Int} {m : Nat} (hA : Asc s.cs) (hm : nx = a + 1 + m) : syS (frN (pS s a sp [] 1) (trL (a + 1) m)) = cutS s a sp nx := by
  have e : syn s.cs (s.lo ++ pieces a sp [] 1 ++ (trL (a + 1) m).map wfr) = syn (syn s.cs (s.lo ++ pieces a sp [] 1)) ((trL (a + 1) m).map wfr) := by
    unfold syn
    rw [List.foldl_append]
  show (⟨s.room, syn s.cs (s.lo ++ pieces a sp [] 1 ++ (trL (a + 1) m).map wfr), []⟩ : Dst) = ⟨s.room, syn (syn s.cs (s.lo ++ pieces a sp [] 1)) ([] ++ (rngN (a + 1) nx (syn s.cs (s.lo ++ pieces a sp [] 1))).map wfr), []⟩
  rw [e, List.nil_append, frees_eq (asc_syn hA _) hm]
theorem cutS_wt {s : Dst} {a sp nx : Int} (hA : Asc s.cs) : (cutS s a sp nx).wt ≤ s.wt + 1 := by
  show (syn (syn s.cs (s.lo ++ pieces a sp [] 1)) ([] ++ (rngN (a + 1) nx (syn s.cs (s.lo ++ pieces a sp [] 1))).map wfr)).length + 0 ≤ s.wt + 1
  rw [List.nil_append]
  have h1 := syn_len_fr (rngN (a + 1) nx (syn s.cs (s.lo ++ pieces a sp [] 1))) (syn s.cs (s.lo ++ pieces a sp [] 1))
  have h2 := syn_len hA (l := s.lo ++ pieces a sp [] 1)
  have h3 : (pieces a sp [] 1).length = 1 := by simp [pieces]
  rw [List.length_append, h3] at h2
  have h4 : s.wt = s.cs.length + s.lo.length := rfl
  omega
theorem KB.cut {H a sp nx : Int} {s : Dst} (h : KB H s) (ha : a < H) (hx : nx ≤ H) : KB H (cutS s a sp nx) := by
  have h1 : KB H (Go.Proofs.YtoamghncncalgaaGreatDoor.pS s a sp [] 1) := h.pS (by omega)
  have h2 := h1.sync
  refine KB.sync ⟨h2.1, fun x hx => ?_⟩
  rcases List.mem_append.1 hx with e | e
  · exact h2.2 x e
  · obtain ⟨y, hy, rfl⟩ := List.mem_map.1 e
    obtain ⟨p, hp, h3, h4⟩ := mem_rngN.1 hy
    show y < H
    omega
/-- A block that has a stamp is there. -/
theorem st_mem {t : Cs} {a : Int} (h : 0 < (pcs (vw t a)).st) : ∃ b, (a, b) ∈ t := by
  by_cases hn : Num a
  · cases hk : look t a with
    | some q => exact ⟨q, look_mem hk⟩
    | none =>
      rw [vw_num hn, hk] at h
      simp [pcs_zer] at h
  · rw [vw_bad hn] at h
    simp [pcs_zer] at h
theorem recG_cnt {t : Cs} (hb : ∀ q, Blk (vw t q)) : ∀ (n : Nat) (a : Int) (p : Pc) (b : List Int) (r : List Int × Int), 0 < p.st → recG t n a p b = some r → ∃ k : Nat, r.1.length ≤ b.length + 46 * k ∧ ∀ i : Nat, i < k → ∃ q, (a + i, q) ∈ t
  | 0, a, p, b, r, _, h => by
    simp only [recG, Option.some.injEq] at h
    exact ⟨0, by rw [← h]; simp, fun i hi => by omega⟩
  | n + 1, a, p, b, r, hp, h => by
    unfold recG at h
    split at h
    · split at h
      · cases h
      · rename_i hc
        have hst : (pcs (vw t a)).st = p.st + 1 := by
          by_cases e : (pcs (vw t a)).st = p.st + 1
          · exact e
          · exact absurd (.inr (.inl e)) hc
        obtain ⟨k, h1, h2⟩ := recG_cnt hb n (a + 1) _ _ r (by omega) h
        have ho := own_len (hb a)
        rw [List.length_append] at h1
        refine ⟨k + 1, by omega, fun i hi => ?_⟩
        cases i with
        | zero => simpa using st_mem (t := t) (a := a) (by omega)
        | succ i =>
          obtain ⟨q, hq⟩ := h2 i (by omega)
          exact ⟨q, by rw [show a + ((i + 1 : Nat) : Int) = a + 1 + (i : Int) by omega]; exact hq⟩
    · simp only [Option.some.injEq] at h
      exact ⟨0, by rw [← h]; simp, fun i hi => by omega⟩
theorem recS_hi {t : Cs} (hb : ∀ q, Blk (vw t q)) {a last H : Int} {b : List Int} {st : Int} (hk : ∀ p ∈ t, p.1 < H) (hl : 0 ≤ last) (h : recS t a last = some (b, st)) : a + blks b.length ≤ H := by
  unfold recS at h
  split at h
  · cases h
  · rename_i hc
    have hst : last < (pcs (vw t a)).st := by
      by_cases e : (pcs (vw t a)).st ≤ last
      · exact absurd (.inr (.inl e)) hc
      · omega
    obtain ⟨k, h1, h2⟩ := recG_cnt hb 400 (a + 1) _ _ _ (by omega) h
    obtain ⟨q0, hq0⟩ := st_mem (t := t) (a := a) (by omega)
    have ho := own_len (hb a)
    simp only at h1
    have h3 := hk _ hq0
    simp only at h3
    have h4 : a + (k : Int) < H := by
      cases k with
      | zero => simpa using h3
      | succ k =>
        obtain ⟨q, hq⟩ := h2 k (by omega)
        have := hk _ hq
        simp only at this
        omega
    have h5 : blks (b.length : Int) ≤ (k : Int) + 1 := by
      unfold blks
      split <;> omega
    omega
theorem Opn.hi {t : Cs} (hb : ∀ q, Blk (vw t q)) {a last H : Int} {L : List Lk} {x y : Int} (hk : ∀ p ∈ t, p.1 < H) (h : Opn t a last L x y) (hl : 0 ≤ last) (ha : a ≤ H) : x ≤ H := by
  induction h with
  | stop => exact ha
  | more h1 _ ih =>
    have h2 := recS_last h1
    simp only at h2
    exact ih (by omega) (recS_hi hb hk hl h1)
theorem Opn.last_bd {t : Cs} (hb : ∀ q, Blk (vw t q)) {a last : Int} {L : List Lk} {x y : Int} (h : Opn t a last L x y) (hl : 0 ≤ last ∧ last ≤ 1152921504606846976) : 0 ≤ y ∧ y ≤ 1152921504606846976 := by
  induction h with
  | stop => exact hl
  | more h1 _ ih =>
    have h2 := recS_last h1
    have h3 := recS_bd hb h1
    simp only at h2 h3
    exact ih ⟨by omega, by omega⟩
end Go.Proofs.YtoamghncncalgaaGreatDoor
