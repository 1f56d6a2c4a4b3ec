/-
  A CHAIN BETWEEN ITS CALLS, AS LISTS: what is firm, and records behind it that are not yet; appended to, synced, crashed: what is found. Mathematics alone: no program in it. Condition: stamps below 256.
  A CHAIN BETWEEN ITS CALLS, AS LISTS: what is firm, and the records behind it that are not yet; opened, appended to, synced, crashed. Mathematics alone: no program in it. Condition: stamps below 256.
  A CHAIN BETWEEN ITS CALLS, AS LISTS: behind a crash; cut at a record. Mathematics alone: no program in it. Condition: stamps below 256.
  HOW HIGH A CHAIN GETS, AS LISTS: blocks below a bound; the next stamp does not rise behind a crash. Mathematics alone: no program in it. Condition: stamps below 256.
  A CHAIN THAT IS PLAYED WITH, AS LISTS: what holds between any two acts, and what each act makes of it. Mathematics alone: no program in it. Conditions: room for 4,000 blocks, at most 200 written.
-/
import Derived.Test.YtmgfcgknajehaaaChE
import Derived.Test.YtmgfcgknajehaaaChU
import Derived.Test.YtmgfcgknajehaaaChH
import Derived.Test.YtmgfcgknajehaaaChC
namespace Go.Proofs.Ytmgfcgknajehaaa

theorem blks_lt {k : Nat} {n : Int} (h : k = 0 ∨ 46 * (k : Int) < n) : (k : Int) < blks n := by
  unfold blks
  split <;> omega
theorem endR_le : ∀ (rs : List (List Int)) (j : Nat), j ≤ endR j rs
  | [], _ => Nat.le_refl _
  | x :: xs, j => by
    have := endR_le xs (j + (blks x.length).toNat)
    simp only [endR]
    omega
theorem endR_snoc : ∀ (rs : List (List Int)) (j : Nat) (b : List Int), endR j (rs ++ [b]) = endR j rs + (blks b.length).toNat
  | [], _, _ => rfl
  | x :: xs, j, b => by simp only [List.cons_append, endR]; exact endR_snoc xs _ b
theorem lkR_snoc (a : Int) : ∀ (rs : List (List Int)) (j : Nat) (b : List Int), lkR a j (rs ++ [b]) = lkR a j rs ++ [(a + (endR j rs : Int), b)]
  | [], _, _ => rfl
  | x :: xs, j, b => by simp only [List.cons_append, lkR, endR]; rw [lkR_snoc a xs _ b]
theorem isRecs_snoc {B : Nat → List Int} {st : Int} : ∀ {rs : List (List Int)} {j : Nat} {b : List Int}, isRecs B st j rs → (0 < b.length ∧ b.length ≤ 16448 ∧ isRec B st (endR j rs) b) → isRecs B st j (rs ++ [b])
  | [], _, _, _, h => ⟨h, trivial⟩
  | _ :: xs, _, _, h, hb => ⟨h.1, isRecs_snoc (rs := xs) h.2 hb⟩
theorem isRecs_congr {B C : Nat → List Int} {st : Int} : ∀ {rs : List (List Int)} {j : Nat}, (∀ i, i < endR j rs → C i = B i) → isRecs B st j rs → isRecs C st j rs
  | [], _, _, _ => trivial
  | b :: xs, j, hc, h => by
    have hle := endR_le xs (j + (blks b.length).toNat)
    simp only [endR] at hc
    refine ⟨⟨h.1.1, h.1.2.1, fun k hk => ?_⟩, isRecs_congr (rs := xs) hc h.2⟩
    rw [hc (j + k) (by have := blks_lt (k := k) (n := b.length) (by omega); omega)]
    exact h.1.2.2 k hk
/-- All blocks whole: all records are found. -/
theorem found_all {t : Cs} {a st : Int} {B : Nat → List Int} {n : Nat} (hv : ∀ i : Nat, i < n → vw t (a + i) = B i) (hs : 0 < st) (hst : st + n + 16448 ≤ 1152921504606846976) (hend : ∀ last, (n = 0 ∨ st ≤ last) → recS t (a + n) last = none ∨ n = 0) : ∀ (rs : List (List Int)) (i : Nat) (last : Int), isRecs B st i rs → endR i rs = n → (i = 0 → last < st) → (0 < i → last = st + i - 1) → (n = 0 → recS t a last = none) → ∃ last', Opn t (a + i) last (lkR a i rs) (a + n) last' ∧ (n = i → last' = last) ∧ (i < n → last' = st + n - 1)
  | [], i, last, _, he, hi0, hi1, h0 => by
    simp only [endR] at he
    subst he
    refine ⟨last, .stop ?_, fun _ => rfl, fun h => absurd h (Nat.lt_irrefl _)⟩
    by_cases hi : i = 0
    · subst hi; simpa using h0 rfl
    · rcases hend last (.inr (by have := hi1 (by omega); omega)) with h | h
      · exact h
      · exact absurd h hi
  | b :: r, i, last, hr, he, hi0, hi1, h0 => by
    obtain ⟨⟨hb0, hb1, hb2⟩, hr2⟩ := hr
    have hpos := blks_pos b.length
    have h1 := endR_le r (i + (blks b.length).toNat)
    simp only [endR] at he
    have hla : last < st + i := by
      by_cases h : i = 0
      · have := hi0 h; omega
      · have := hi1 (by omega); omega
    have hw : ∀ k : Nat, k = 0 ∨ 46 * k < b.length → vw t (a + ((i + k : Nat) : Int)) = B (i + k) := fun k hk => hv (i + k) (by have := blks_lt (k := k) (n := b.length) (by omega); omega)
    have hrec : recS t (a + i) last = some (b, st + i + blks b.length - 1) := by
      refine rec_put hb1 (by omega) (by omega) hla ?_ (fun j hj hj2 => ?_)
      · have := hw 0 (.inl rfl)
        rw [Nat.add_zero] at this
        rw [this]
        have := hb2 0 (.inl rfl)
        simpa using this
      · have h5 := hw j (.inr hj2)
        rw [show a + (i : Int) + (j : Int) = a + ((i + j : Nat) : Int) by omega, h5, hb2 j (.inr hj2), decide_eq_false (by omega)]
        congr 1
        omega
    obtain ⟨last', hO, hl'⟩ := found_all hv hs hst hend r (i + (blks b.length).toNat) (st + i + blks b.length - 1) hr2 he (fun h => by omega) (fun _ => by omega) (fun h => by omega)
    refine ⟨last', ?_, ?_⟩
    · have h6 := Opn.more hrec (by rw [show a + (i : Int) + blks b.length = a + ((i + (blks b.length).toNat : Nat) : Int) by omega]; exact hO)
      rw [if_neg (by omega)] at h6
      exact h6
    · refine ⟨fun h => by omega, fun _ => ?_⟩
      by_cases h : n = i + (blks b.length).toNat
      · rw [hl'.1 h]; omega
      · exact hl'.2 (by omega)
end Go.Proofs.Ytmgfcgknajehaaa
namespace Go.Proofs.Ytmgfcgknajehaaa

structure Plx (s : Dst) (nx sp : Int) (L : List Lk) (fm : Nat) (a st last0 : Int) (B : Nat → List Int) (n : Nat) (L0 : List Lk) (rs : List (List Int)) : Prop where
  lo : s.lo = wrs a B n
  nx : nx = a + n
  sp : sp = st + n
  p0 : 0 < st
  l0 : 0 ≤ last0 ∧ last0 < st
  low : 3 ≤ a ∧ ∀ p ∈ s.cs, 3 ≤ p.1
  sm : Sma st s.cs
  op : Opn s.cs 3 0 L0 a last0
  rc : isRecs B st 0 rs
  en : endR 0 rs = n
  li : L = L0 ++ lkR a 0 rs
  fm : fm = L0.length
  bs : ∀ j : Nat, j < n → Blk (B j) ∧ (B j).take 8 = e8 (st + j) ∧ (B j).drop 56 = e8 (st + j)
/-- A chain's state: its next block and stamp, its records, and how many of them are firm. -/
def Pl (s : Dst) (nx sp : Int) (L : List Lk) (fm : Nat) : Prop := ∃ a st last0 B n L0 rs, Plx s nx sp L fm a st last0 B n L0 rs
theorem st_e8 {b : List Int} {x : Int} (h1 : b.take 8 = e8 x) (h2 : b.drop 56 = e8 x) (hx : x ≤ 1152921504606846976) : (pcs b).st = x := by
  simp only [pcs, h1, h2, if_true]
  unfold stp
  rw [num_e8, if_pos hx]
theorem hiS_ge {base : Int} {l : Cs} {p : Int × List Int} (hp : p ∈ l) (hb : base ≤ p.1) : stp (p.2.take 8) ≤ hiS base l ∧ stp (p.2.drop 56) ≤ hiS base l := by
  unfold hiS
  suffices H : ∀ (l : Cs) (m : Int), m ≤ l.foldl (fun m p => if base ≤ p.1 then max (max m (stp (p.2.take 8))) (stp (p.2.drop 56)) else m) m ∧ (p ∈ l → stp (p.2.take 8) ≤ l.foldl (fun m p => if base ≤ p.1 then max (max m (stp (p.2.take 8))) (stp (p.2.drop 56)) else m) m ∧ stp (p.2.drop 56) ≤ l.foldl (fun m p => if base ≤ p.1 then max (max m (stp (p.2.take 8))) (stp (p.2.drop 56)) else m) m) from (H l 0).2 hp
  intro l
  induction l with
  | nil => intro m; exact ⟨Int.le_refl _, fun h => by simp at h⟩
  | cons x r ih =>
    intro m
    obtain ⟨h1, h2⟩ := ih (if base ≤ x.1 then max (max m (stp (x.2.take 8))) (stp (x.2.drop 56)) else m)
    refine ⟨?_, fun h => ?_⟩
    · refine Int.le_trans ?_ h1
      split <;> omega
    · rcases List.mem_cons.1 h with e | e
      · subst e
        simp only [List.foldl_cons]
        rw [if_pos hb] at h1 ⊢
        exact ⟨by omega, by omega⟩
      · exact h2 e
/-- A chain that was opened anew. -/
theorem pl_open {s : Dst} {k a last : Int} {L : List Lk} (hl : s.lo = []) (hlow : ∀ p ∈ s.cs, 3 ≤ p.1) (hsm : Sma k s.cs) (hk : k ≤ 256) (ho : Opn s.cs 3 0 L a last) : Pl s a (max last (hiS 3 s.cs) + 1) L L.length := by
  have hle := ho.le
  refine ⟨a, max last (hiS 3 s.cs) + 1, last, fun _ => [], 0, L, [], hl, by simp, by simp, by omega, by omega, ⟨hle.1, hlow⟩, ?_, ho, trivial, rfl, by simp [lkR], rfl, fun j hj => by omega⟩
  intro p hp
  obtain ⟨x, y, h1, h2, h3, h4⟩ := hsm p hp
  have hh := hiS_ge hp (hlow p hp)
  rw [h1, h2] at hh
  unfold stp at hh
  rw [num_e8, num_e8, if_pos (by omega), if_pos (by omega)] at hh
  exact ⟨x, y, h1, h2, by omega, by omega⟩
theorem syn_wrs {cs : Cs} {a : Int} {B : Nat → List Int} {n i : Nat} (hi : i < n) : look (syn cs (wrs a B n)) (a + i) = some (B i) :=
  syn_at (w := ⟨a + (i : Int), false, B i⟩) (wrs_dis a B n) (fun x hx => by obtain ⟨j, _, rfl⟩ := List.mem_map.1 hx; rfl) (List.mem_map.2 ⟨i, List.mem_range.2 hi, rfl⟩)
theorem wrs_out {a q : Int} {B : Nat → List Int} {n : Nat} (h : q < a ∨ a + n ≤ q) : ∀ w ∈ wrs a B n, w.at_ ≠ q := fun w hw => by
  obtain ⟨j, hj, rfl⟩ := List.mem_map.1 hw
  have := List.mem_range.1 hj
  simp only
  omega
theorem recS_low {t : Cs} {a last : Int} (h : (pcs (vw t a)).st ≤ last) : recS t a last = none := by
  unfold recS
  rw [if_pos (.inr (.inl h))]
theorem sma_syn {k : Int} : ∀ {lo : List Wr} {t : Cs}, Sma k t → (∀ w ∈ lo, w.fr = true ∨ Sme k w.by_) → Sma k (syn t lo)
  | [], _, h, _ => h
  | w :: r, t, h, hw => sma_syn (lo := r) (t := stS t w) (by
      unfold stS
      split
      · exact del_all h
      · rename_i hf
        exact ins_all h ((hw w List.mem_cons_self).resolve_left (by simpa using hf))) (fun x hx => hw x (List.mem_cons_of_mem _ hx))
theorem low_syn {k : Int} : ∀ {lo : List Wr} {t : Cs}, (∀ p ∈ t, k ≤ p.1) → (∀ w ∈ lo, k ≤ w.at_) → ∀ p ∈ syn t lo, k ≤ p.1
  | [], _, h, _ => h
  | w :: r, t, h, hw => low_syn (lo := r) (t := stS t w) (by
      unfold stS
      split
      · exact del_all (P := fun p => k ≤ p.1) h
      · exact ins_all (P := fun p => k ≤ p.1) h (hw w List.mem_cons_self)) (fun x hx => hw x (List.mem_cons_of_mem _ hx))
theorem Plx.sme {s : Dst} {nx sp : Int} {L : List Lk} {fm : Nat} {a st last0 : Int} {B : Nat → List Int} {n : Nat} {L0 : List Lk} {rs : List (List Int)} (h : Plx s nx sp L fm a st last0 B n L0 rs) {j : Nat} (hj : j < n) : Sme sp (B j) := by
  have := h.bs j hj
  have hp := h.p0
  have hs := h.sp
  exact ⟨st + j, st + j, this.2.1, this.2.2, by omega, by omega⟩
/-- What is synced is firm. -/
theorem Plx.syn {s : Dst} {nx sp : Int} {L : List Lk} {fm : Nat} {a st last0 : Int} {B : Nat → List Int} {n : Nat} {L0 : List Lk} {rs : List (List Int)} (h : Plx s nx sp L fm a st last0 B n L0 rs) (hok : s.Ok) (hsp : sp ≤ 256) : ∃ last', Opn (syn s.cs s.lo) 3 0 L nx last' ∧ 0 ≤ last' ∧ last' < sp ∧ Sma sp (syn s.cs s.lo) ∧ ∀ p ∈ syn s.cs s.lo, 3 ≤ p.1 := by
  have hsp2 := h.sp
  have hp0 := h.p0
  have hl0 := h.l0
  have hNum : ∀ i : Nat, i < n → Num (a + i) := fun i hi => (hok.lb ⟨a + (i : Int), false, B i⟩ (by rw [h.lo]; exact List.mem_map.2 ⟨i, List.mem_range.2 hi, rfl⟩)).1
  have hv : ∀ i : Nat, i < n → vw (Go.Proofs.Ytmgfcgknajehaaa.syn s.cs s.lo) (a + i) = B i := fun i hi => by
    rw [vw_num (hNum i hi), h.lo, syn_wrs hi]; rfl
  have hout : ∀ q, q < a ∨ a + n ≤ q → vw (Go.Proofs.Ytmgfcgknajehaaa.syn s.cs s.lo) q = vw s.cs q := fun q hq => by
    unfold vw
    rw [h.lo, look_syn (wrs_out hq)]
  obtain ⟨last', h1, h2, h3⟩ := found_all (a := a) (st := st) hv hp0 (by omega) (fun last hl => by
    by_cases hn : n = 0
    · exact .inr hn
    · left
      refine recS_low ?_
      rw [hout _ (.inr (Int.le_refl _))]
      have := sme_st (sma_vw h.sm hp0 (a + n))
      omega) rs 0 last0 h.rc h.en (fun _ => hl0.2) (fun h => absurd h (Nat.lt_irrefl _)) (fun hn => by
      have := h.op.end
      rw [h.lo, hn]
      exact this)
  have hb : ∀ q, Blk (vw s.cs q) := fun q => vw_blk hok.cb q
  rw [Int.natCast_zero, Int.add_zero] at h1
  have h4 := h.op.ext hb (fun q q1 q2 => hout q (.inl q2)) h1
  rw [← h.li, ← h.nx] at h4
  refine ⟨last', h4, ?_, ?_, sma_syn (fun p hp => (h.sm p hp).mono (by omega)) (fun w hw => ?_), low_syn h.low.2 (fun w hw => ?_)⟩
  · by_cases hn : n = 0
    · rw [h2 hn]; omega
    · rw [h3 (by omega)]; omega
  · by_cases hn : n = 0
    · rw [h2 hn]; omega
    · rw [h3 (by omega)]; omega
  · rw [h.lo] at hw
    obtain ⟨j, hj, rfl⟩ := List.mem_map.1 hw
    exact .inr (h.sme (List.mem_range.1 hj))
  · rw [h.lo] at hw
    obtain ⟨j, hj, rfl⟩ := List.mem_map.1 hw
    have := h.low.1
    simp only
    omega
theorem pl_sync {s : Dst} {nx sp : Int} {L : List Lk} {fm : Nat} (h : Pl s nx sp L fm) (hok : s.Ok) (hsp : sp ≤ 256) : Pl (syS s) nx sp L L.length := by
  obtain ⟨a, st, last0, B, n, L0, rs, h⟩ := h
  obtain ⟨last', h1, h2, h3, h4, h5⟩ := h.syn hok hsp
  exact ⟨nx, sp, last', fun _ => [], 0, L, [], rfl, by simp, by simp, by omega, ⟨h2, h3⟩, ⟨h1.le.1, h5⟩, h4, h1, trivial, rfl, by simp [lkR], rfl, fun j hj => by omega⟩
/-- A record more. -/
theorem pl_app {s : Dst} {nx sp : Int} {L : List Lk} {fm : Nat} {b : List Int} {m : Nat} (h : Pl s nx sp L fm) (hb : Byt b) (h0 : 0 < b.length) (hl : b.length ≤ 16448) (hm : blks b.length = m) (hsp : sp + m ≤ 256) : Pl (pS s nx sp b m) (nx + m) (sp + m) (L ++ [(nx, b)]) fm := by
  obtain ⟨a, st, last0, B, n, L0, rs, h⟩ := h
  have hnx := h.nx
  have hs := h.sp
  have hp := h.p0
  have hB1 : ∀ j, j < n → (fun j : Nat => if j < n then B j else blkOf (st + j) (decide (j = n)) (b.drop (46 * (j - n)))) j = B j := fun j hj => if_pos hj
  have hB2 : ∀ k, (fun j : Nat => if j < n then B j else blkOf (st + j) (decide (j = n)) (b.drop (46 * (j - n)))) (n + k) = blkOf (st + ((n + k : Nat) : Int)) (decide (k = 0)) (b.drop (46 * k)) := fun k => by
    show (if n + k < n then _ else _) = _
    rw [if_neg (by omega), show n + k - n = k by omega]
    congr 1
    exact decide_eq_decide.2 ⟨fun h => by omega, fun h => by omega⟩
  generalize (fun j : Nat => if j < n then B j else blkOf (st + j) (decide (j = n)) (b.drop (46 * (j - n)))) = C at hB1 hB2
  refine ⟨a, st, last0, C, n + m, L0, rs ++ [b], ?_, by omega, by omega, hp, h.l0, h.low, h.sm, h.op, isRecs_snoc (isRecs_congr (fun i hi => hB1 i (by rw [← h.en]; exact hi)) h.rc) ⟨h0, hl, ?_⟩, ?_, ?_, h.fm, fun j hj => ?_⟩
  · show s.lo ++ pieces nx sp b m = _
    rw [h.lo]
    unfold wrs pieces
    rw [List.range_add, List.map_append, List.map_map]
    congr 1
    · refine List.map_congr_left fun i hi => ?_
      rw [hB1 i (List.mem_range.1 hi)]
    · refine List.map_congr_left fun i _ => ?_
      simp only [Function.comp]
      rw [hB2 i, hnx, hs]
      congr 1
      · omega
      · congr 1; omega
  · rw [h.en]
    exact fun k _ => hB2 k
  · rw [endR_snoc, h.en, hm]; rfl
  · rw [lkR_snoc, h.en, h.li, hnx, List.append_assoc]
  · by_cases hjn : j < n
    · rw [hB1 j hjn]; exact h.bs j hjn
    · obtain ⟨k, rfl⟩ : ∃ k, j = n + k := ⟨j - n, by omega⟩
      rw [hB2 k]
      refine ⟨blkOf_blk _ _ (fun x hx => ?_) (by rw [List.length_drop]; omega), ?_, ?_⟩
      · exact hb x (List.mem_of_mem_drop hx)
      · rw [blkOf_take, dig_e8 (by omega) (by omega)]
      · rw [blkOf_drop, dig_e8 (by omega) (by omega)]
end Go.Proofs.Ytmgfcgknajehaaa
namespace Go.Proofs.Ytmgfcgknajehaaa

theorem lkR_len (a : Int) : ∀ (rs : List (List Int)) (i : Nat), (lkR a i rs).length = rs.length
  | [], _ => rfl
  | _ :: xs, i => by simp only [lkR, List.length_cons]; rw [lkR_len a xs]
theorem lkR_take (a : Int) : ∀ (rs : List (List Int)) (i k : Nat), lkR a i (rs.take k) = (lkR a i rs).take k
  | [], _, k => by simp [lkR]
  | x :: xs, i, 0 => by simp [lkR]
  | x :: xs, i, k + 1 => by simp only [List.take_succ_cons, lkR]; rw [lkR_take a xs]
/-- The last stamp is one that a block has, or the first one. -/
theorem Opn.lastS {t : Cs} {k : Int} (hs : ∀ q, (pcs (vw t q)).st < k) {a last : Int} {L : List Lk} {x y : Int} (h : Opn t a last L x y) (hb : ∀ q, Blk (vw t q)) (hl : last < k) : y < k := by
  induction h with
  | stop _ => exact hl
  | @more a last b st _ _ _ h1 _ ih =>
    refine ih ?_
    obtain ⟨_, _, h3⟩ := recS_st h1
    have hlen := recS_len hb h1
    have hlast : ∀ (n : Nat) (a : Int) (p : Pc) (c : List Int) (r : List Int × Int), p.st < k → recG t n a p c = some r → r.2 < k := by
      intro n
      induction n with
      | zero => intro a p c r hp h; simp only [recG, Option.some.injEq] at h; rw [← h]; exact hp
      | succ n ihn =>
        intro a p c r hp h
        unfold recG at h
        split at h
        · split at h
          · cases h
          · exact ihn _ _ _ r (hs a) h
        · simp only [Option.some.injEq] at h; rw [← h]; exact hp
    unfold recS at h1
    split at h1
    · cases h1
    · exact hlast _ _ _ _ _ (hs a) h1
/-- Behind a crash: a beginning of the records, all that were firm among them. -/
theorem pl_crash {s : Dst} {nx sp : Int} {L : List Lk} {fm : Nat} (h : Pl s nx sp L fm) (hok : s.Ok) (hsp : sp ≤ 256) (ks : List Int) (cut : Int) : ∃ k x y, Opn (crS s ks cut).cs 3 0 (L.take k) x y ∧ y < sp ∧ fm ≤ k ∧ k ≤ L.length ∧ Sma sp (crS s ks cut).cs ∧ (∀ p ∈ (crS s ks cut).cs, 3 ≤ p.1) ∧ x ≤ nx := by
  obtain ⟨a, st, last0, B, n, L0, rs, h⟩ := h
  have hsp2 := h.sp
  have hp0 := h.p0
  have hl0 := h.l0
  have hok2 := crS_ok hok ks cut
  show ∃ k x y, Opn (crs s.cs (kpt ks s.lo) cut) 3 0 (L.take k) x y ∧ y < sp ∧ fm ≤ k ∧ k ≤ L.length ∧ Sma sp (crs s.cs (kpt ks s.lo) cut) ∧ (∀ p ∈ crs s.cs (kpt ks s.lo) cut, 3 ≤ p.1) ∧ x ≤ nx
  have hcb : ∀ p ∈ crs s.cs (kpt ks s.lo) cut, Num p.1 ∧ Blk p.2 := hok2.cb
  have hasc : Asc (crs s.cs (kpt ks s.lo) cut) := hok2.asc
  have hb2 : ∀ q, Blk (vw (crs s.cs (kpt ks s.lo) cut) q) := fun q => vw_blk hcb q
  have hb : ∀ q, Blk (vw s.cs q) := fun q => vw_blk hok.cb q
  obtain ⟨hmix, hout⟩ := crs_mix (t0 := s.cs) (a := a) (st := st) (cut := cut) (B := B) (n := n) (ks := ks) h.sm hp0 h.bs
  rw [← h.lo] at hmix hout
  have hBs : ∀ j : Nat, j < n → (pcs (B j)).st = st + j := fun j hj => st_e8 (h.bs j hj).2.1 (h.bs j hj).2.2 (by omega)
  obtain ⟨k, hk, x, y, hO, hx⟩ := found_mix hb2 hmix hout (fun q => sme_st (sma_vw h.sm hp0 q)) hp0 (by omega) hBs h.op.end hl0 rs 0 last0 h.rc h.en (fun _ => rfl) (fun e => absurd e (Nat.lt_irrefl _))
  rw [Int.natCast_zero, Int.add_zero] at hO
  have h4 := h.op.ext hb (fun q q1 q2 => hout q (.inl q2)) hO
  have hK : ∀ w ∈ kpt ks s.lo, ∃ i : Nat, i < n ∧ w = ⟨a + (i : Int), false, B i⟩ := fun w hw => by
    have := (kpt_sublist ks s.lo).subset hw
    rw [h.lo] at this
    obtain ⟨i, hi, rfl⟩ := List.mem_map.1 this
    exact ⟨i, List.mem_range.1 hi, rfl⟩
  have hsm : Sma sp (crs s.cs (kpt ks s.lo) cut) := fun p hp => by
    have hl := (mem_look hasc).1 (show (p.1, p.2) ∈ _ from hp)
    by_cases hin : ∃ w ∈ kpt ks s.lo, w.at_ = p.1
    · obtain ⟨w, hw, e⟩ := hin
      have hd : Dis (kpt ks s.lo) := by rw [h.lo]; exact List.Pairwise.sublist (kpt_sublist ks _) (wrs_dis a B n)
      have hat := crs_at (cs := s.cs) (cut := cut) hd (fun x hx => by obtain ⟨i, _, rfl⟩ := hK x hx; rfl) hw
      rw [e, hl] at hat
      obtain ⟨i, hi, rfl⟩ := hK w hw
      rcases hat with g | ⟨g1, g2, g⟩
      · rw [Option.some.inj g]; exact h.sme hi
      · rw [Option.some.inj g]
        rcases sme_torn (cut := cut.toNat) (h.bs i hi).1 ((sma_look h.sm hp0 p.1).mono (show st ≤ st + i by omega)) (h.bs i hi).2.1 (h.bs i hi).2.2 (by omega) with g3 | g3
        · simp only
          rw [g3]
          exact (sma_look h.sm hp0 p.1).mono (by omega)
        · exact g3.2.mono (by omega)
    · rw [look_crs (fun w hw e => hin ⟨w, hw, e⟩)] at hl
      exact (h.sm _ (look_mem hl)).mono (by omega)
  have hlw : ∀ p ∈ crs s.cs (kpt ks s.lo) cut, 3 ≤ p.1 := fun p hp => by
    have hl := (mem_look hasc).1 (show (p.1, p.2) ∈ _ from hp)
    by_cases hin : ∃ w ∈ kpt ks s.lo, w.at_ = p.1
    · obtain ⟨w, hw, e⟩ := hin
      obtain ⟨i, hi, rfl⟩ := hK w hw
      have := h.low.1
      simp only at e
      omega
    · rw [look_crs (fun w hw e => hin ⟨w, hw, e⟩)] at hl
      exact h.low.2 _ (look_mem hl)
  have hen : ∀ (rs : List (List Int)) (i k : Nat), endR i (rs.take k) ≤ endR i rs := by
    intro rs
    induction rs with
    | nil => intro i k; simp
    | cons z zs ih =>
      intro i k
      cases k with
      | zero => simp only [List.take_zero, endR]; have := endR_le zs (i + (blks z.length).toNat); omega
      | succ k => simp only [List.take_succ_cons, endR]; exact ih _ k
  refine ⟨L0.length + k, x, y, ?_, ?_, by rw [h.fm]; omega, ?_, hsm, hlw, ?_⟩
  · rw [h.li, List.take_length_add_append, ← lkR_take]
    exact h4
  · exact h4.lastS (fun q => sme_st (sma_vw hsm (by omega) q)) hb2 (by omega)
  · rw [h.li, List.length_append, lkR_len]; omega
  · have := hen rs 0 k
    have h5 := h.en
    have h6 := h.nx
    omega
/-- Up to one of the records. -/
theorem Opn.upto {t t' : Cs} (hb : ∀ q, Blk (vw t q)) {a last : Int} {L : List Lk} {x y : Int} (h : Opn t a last L x y) : ∀ {k : Nat} (hk : k < L.length), a ≤ (L[k]).1 ∧ (L[k]).1 < x ∧ Num (L[k]).1 ∧ ∃ y1, last ≤ y1 ∧ y1 < y ∧ ((∀ q : Int, a ≤ q → q < (L[k]).1 → vw t' q = vw t q) → ∀ {M : List Lk} {x' y' : Int}, Opn t' (L[k]).1 y1 M x' y' → Opn t' a last (L.take k ++ M) x' y') := by
  induction h with
  | stop _ => intro k hk; simp at hk
  | @more a last b st L a' last' h1 h2 ih =>
    intro k hk
    have hle := h2.le
    have hp := blks_pos b.length
    have hla := recS_last h1
    simp only at hla
    by_cases hb0 : b.length = 0
    · simp only [if_pos hb0, List.nil_append] at hk ⊢
      obtain ⟨i1, i2, i3, y1, i4, i5, i6⟩ := ih hk
      refine ⟨by omega, i2, i3, y1, by omega, i5, fun hv M x' y' hO => ?_⟩
      have := Opn.more (recS_same hb h1 (fun q q1 q2 => hv q q1 (by omega))) (i6 (fun q q1 q2 => hv q (by omega) q2) hO)
      rw [if_pos hb0] at this
      exact this
    · simp only [if_neg hb0, List.cons_append, List.nil_append] at hk ⊢
      cases k with
      | zero =>
        simp only [List.getElem_cons_zero, List.take_zero, List.nil_append]
        exact ⟨Int.le_refl _, by omega, recS_num h1, last, Int.le_refl _, by omega, fun _ _ _ _ hO => hO⟩
      | succ k =>
        simp only [List.getElem_cons_succ, List.take_succ_cons, List.cons_append]
        obtain ⟨i1, i2, i3, y1, i4, i5, i6⟩ := ih (k := k) (by simpa using hk)
        refine ⟨by omega, i2, i3, y1, by omega, i5, fun hv M x' y' hO => ?_⟩
        have := Opn.more (recS_same hb h1 (fun q q1 q2 => hv q q1 (by omega))) (i6 (fun q q1 q2 => hv q (by omega) q2) hO)
        rw [if_neg hb0] at this
        exact this
/-- A mark: all records from one on are gone. -/
theorem pl_cut {s : Dst} {nx sp : Int} {L : List Lk} {fm : Nat} (h : Pl s nx sp L fm) (hok : s.Ok) (hsp : sp + 1 ≤ 256) {k : Nat} (hk : k < L.length) : 3 ≤ (L[k]).1 ∧ (L[k]).1 < nx ∧ Num (L[k]).1 ∧ Pl (cutS s (L[k]).1 sp nx) ((L[k]).1 + 1) (sp + 1) (L.take k) k := by
  obtain ⟨a, st, last0, B, n, L0, rs, h⟩ := h
  obtain ⟨y, h1, h2, h3, h4, h5⟩ := h.syn hok (by omega)
  have hcb : ∀ p ∈ syn s.cs s.lo, Num p.1 ∧ Blk p.2 := (syS_ok hok).cb
  have hb : ∀ q, Blk (vw (syn s.cs s.lo) q) := fun q => vw_blk hcb q
  obtain ⟨i1, i2, i3, y1, i4, i5, i6⟩ := h1.upto (t' := (cutS s (L[k]).1 sp nx).cs) hb hk
  refine ⟨i1, i2, i3, ?_⟩
  generalize (L[k]).1 = z at i1 i2 i3 i6 ⊢
  have e0 : pieces z sp [] 1 = [⟨z, false, blkOf sp true []⟩] := by simp [pieces]
  have e1 : (syS (pS s z sp [] 1)).cs = stS (syn s.cs s.lo) ⟨z, false, blkOf sp true []⟩ := by
    show syn s.cs (s.lo ++ pieces z sp [] 1) = _
    rw [e0, syn_snoc]
  have e2 : (cutS s z sp nx).cs = syn (stS (syn s.cs s.lo) ⟨z, false, blkOf sp true []⟩) ((rngN (z + 1) nx (stS (syn s.cs s.lo) ⟨z, false, blkOf sp true []⟩)).map wfr) := by
    unfold cutS
    rw [e1]
    show syn (syS (pS s z sp [] 1)).cs ([] ++ _) = _
    rw [e1, List.nil_append]
  have e3 : (cutS s z sp nx).lo = [] := rfl
  have hr : ∀ w ∈ (rngN (z + 1) nx (stS (syn s.cs s.lo) ⟨z, false, blkOf sp true []⟩)).map wfr, w.fr = true ∧ z + 1 ≤ w.at_ := fun w hw => by
    obtain ⟨q, hq, rfl⟩ := List.mem_map.1 hw
    obtain ⟨p, hp, rfl⟩ := List.mem_map.1 hq
    have := (List.mem_filter.1 hp).2
    simp only [Bool.and_eq_true, decide_eq_true_eq] at this
    exact ⟨rfl, this.1⟩
  rw [e2] at i6
  have hsm : Sma (sp + 1) (cutS s z sp nx).cs := by
    rw [e2]
    refine sma_syn ?_ (fun w hw => .inl (hr w hw).1)
    exact sma_syn (lo := [⟨z, false, blkOf sp true []⟩]) (fun p hp => (h4 p hp).mono (by omega)) (fun w hw => by
      rw [List.mem_singleton.1 hw]
      exact .inr (sme_blk true [] (by omega) (by omega) (by omega)))
  have hlw : ∀ p ∈ (cutS s z sp nx).cs, 3 ≤ p.1 := by
    rw [e2]
    refine low_syn ?_ (fun w hw => by have := (hr w hw).2; omega)
    exact low_syn (lo := [⟨z, false, blkOf sp true []⟩]) h5 (fun w hw => by rw [List.mem_singleton.1 hw]; exact i1)
  have hst : ∀ q, (pcs (vw (cutS s z sp nx).cs q)).st < sp + 1 := fun q => sme_st (sma_vw hsm (by omega) q)
  rw [e2] at hst
  have hvz : ∀ q, q ≤ z → look (syn (stS (syn s.cs s.lo) ⟨z, false, blkOf sp true []⟩) ((rngN (z + 1) nx (stS (syn s.cs s.lo) ⟨z, false, blkOf sp true []⟩)).map wfr)) q = look (stS (syn s.cs s.lo) ⟨z, false, blkOf sp true []⟩) q := fun q hq => look_syn (fun w hw e => by have := (hr w hw).2; omega)
  have hO : Opn (syn (stS (syn s.cs s.lo) ⟨z, false, blkOf sp true []⟩) ((rngN (z + 1) nx (stS (syn s.cs s.lo) ⟨z, false, blkOf sp true []⟩)).map wfr)) z y1 [] (z + 1) sp := by
    have hrec := rec_put (t := syn (stS (syn s.cs s.lo) ⟨z, false, blkOf sp true []⟩) ((rngN (z + 1) nx (stS (syn s.cs s.lo) ⟨z, false, blkOf sp true []⟩)).map wfr)) (b := []) (a := z) (st := sp) (last := y1) (by simp) (by omega) (by simp; omega) (by omega) (by
      rw [vw_num i3, hvz z (Int.le_refl _), look_stS_at (w := ⟨z, false, blkOf sp true []⟩) rfl]; rfl) (fun j _ hj => by simp at hj)
    have hbl : blks ((([] : List Int).length : Nat) : Int) = 1 := by simp [blks]
    rw [hbl, show sp + 1 - 1 = sp by omega] at hrec
    have := Opn.more hrec (by rw [hbl]; exact .stop (recS_low (by have := hst (z + 1); omega)))
    simpa using this
  have hOO := i6 (fun q q1 q2 => by
    unfold vw
    rw [hvz q (by omega), look_stS (by simp only; omega)]) hO
  rw [List.append_nil, ← e2] at hOO
  refine ⟨z + 1, sp + 1, sp, fun _ => [], 0, L.take k, [], e3, by simp, by simp, by omega, ⟨by omega, by omega⟩, ⟨by omega, hlw⟩, hsm, hOO, trivial, rfl, by simp [lkR], ?_, fun j hj => by omega⟩
  rw [List.length_take, Nat.min_eq_left (by omega)]
end Go.Proofs.Ytmgfcgknajehaaa
namespace Go.Proofs.Ytmgfcgknajehaaa

/-- No more blocks than numbers. -/
theorem asc_room : ∀ {t : Cs} {a M : Int}, Asc t → (∀ p ∈ t, a ≤ p.1 ∧ p.1 < M) → a ≤ M → (t.length : Int) ≤ M - a
  | [], a, M, _, _, h => by simp; omega
  | p :: r, a, M, hA, hp, h => by
    have h1 := hp p List.mem_cons_self
    obtain ⟨h2, h3⟩ := List.pairwise_cons.1 hA
    have ih := asc_room (a := p.1 + 1) (M := M) h3 (fun q hq => ⟨by have := h2 q hq; omega, (hp q (List.mem_cons_of_mem _ hq)).2⟩) (by omega)
    rw [List.length_cons]
    omega
theorem hiS_lt {base k : Int} {l : Cs} (h : Sma k l) (hk : 0 < k) (hk2 : k ≤ 256) : hiS base l < k := by
  unfold hiS
  suffices H : ∀ (l : Cs) (m : Int), Sma k l → m < k → l.foldl (fun m p => if base ≤ p.1 then max (max m (stp (p.2.take 8))) (stp (p.2.drop 56)) else m) m < k from H l 0 h hk
  intro l
  induction l with
  | nil => intro m _ hm; exact hm
  | cons x r ih =>
    intro m hS hm
    refine ih _ (fun p hp => hS p (List.mem_cons_of_mem _ hp)) ?_
    obtain ⟨u, v, h1, h2, h3, h4⟩ := hS x List.mem_cons_self
    show (if base ≤ x.1 then max (max m (stp (x.2.take 8))) (stp (x.2.drop 56)) else m) < k
    split
    · rw [h1, h2]
      unfold stp
      rw [num_e8, num_e8, if_pos (by omega), if_pos (by omega)]
      omega
    · exact hm
/-- All blocks are below a bound. -/
def Bd (M : Int) (t : Cs) : Prop := ∀ p ∈ t, p.1 < M
theorem Bd.mono {M N : Int} {t : Cs} (h : Bd M t) (hn : M ≤ N) : Bd N t := fun p hp => by have := h p hp; omega
theorem bd_syn {M : Int} : ∀ {lo : List Wr} {t : Cs}, Bd M t → (∀ w ∈ lo, w.fr = true ∨ w.at_ < M) → Bd M (syn t lo)
  | [], _, h, _ => h
  | w :: r, t, h, hw => bd_syn (lo := r) (t := stS t w) (by
      unfold stS
      split
      · exact del_all (P := fun p => p.1 < M) h
      · rename_i hf
        exact ins_all (P := fun p => p.1 < M) h ((hw w List.mem_cons_self).resolve_left (by simpa using hf))) (fun x hx => hw x (List.mem_cons_of_mem _ hx))
theorem Plx.at_lt {s : Dst} {nx sp : Int} {L : List Lk} {fm : Nat} {a st last0 : Int} {B : Nat → List Int} {n : Nat} {L0 : List Lk} {rs : List (List Int)} (h : Plx s nx sp L fm a st last0 B n L0 rs) {w : Wr} (hw : w ∈ s.lo) : 3 ≤ w.at_ ∧ w.at_ < nx ∧ w.fr = false := by
  rw [h.lo] at hw
  obtain ⟨j, hj, rfl⟩ := List.mem_map.1 hw
  have := List.mem_range.1 hj
  have := h.nx
  have := h.low.1
  exact ⟨by simp only; omega, by simp only; omega, rfl⟩
theorem bd_sync {s : Dst} {nx sp M : Int} {L : List Lk} {fm : Nat} (h : Pl s nx sp L fm) (hM : Bd M s.cs) (hn : nx ≤ M) : Bd M (syS s).cs := by
  obtain ⟨a, st, last0, B, n, L0, rs, h⟩ := h
  exact bd_syn hM (fun w hw => .inr (by have := (h.at_lt hw).2.1; omega))
theorem bd_crash {s : Dst} {nx sp M : Int} {L : List Lk} {fm : Nat} (h : Pl s nx sp L fm) (hok : s.Ok) (hM : Bd M s.cs) (hn : nx ≤ M) (ks : List Int) (cut : Int) : Bd M (crS s ks cut).cs := by
  obtain ⟨a, st, last0, B, n, L0, rs, h⟩ := h
  intro p hp
  have hl := (mem_look (crS_ok hok ks cut).asc).1 (show (p.1, p.2) ∈ _ from hp)
  by_cases hin : ∃ w ∈ kpt ks s.lo, w.at_ = p.1
  · obtain ⟨w, hw, e⟩ := hin
    have := (h.at_lt ((kpt_sublist ks s.lo).subset hw)).2.1
    omega
  · have hl2 : look (crs s.cs (kpt ks s.lo) cut) p.1 = some p.2 := hl
    rw [look_crs (fun w hw e => hin ⟨w, hw, e⟩)] at hl2
    exact hM _ (look_mem hl2)
theorem bd_cut {s : Dst} {nx sp M z : Int} {L : List Lk} {fm : Nat} (h : Pl s nx sp L fm) (hM : Bd M s.cs) (hn : nx ≤ M) (hz : z < nx) : Bd M (cutS s z sp nx).cs := by
  have h1 := bd_sync h hM hn
  have e1 : (syS (pS s z sp [] 1)).cs = stS (syn s.cs s.lo) ⟨z, false, blkOf sp true []⟩ := by
    show syn s.cs (s.lo ++ pieces z sp [] 1) = _
    rw [show pieces z sp [] 1 = [⟨z, false, blkOf sp true []⟩] by simp [pieces], syn_snoc]
  show Bd M (syn (syS (pS s z sp [] 1)).cs ([] ++ _))
  rw [List.nil_append, e1]
  refine bd_syn (bd_syn (lo := [⟨z, false, blkOf sp true []⟩]) h1 (fun w hw => ?_)) (fun w hw => ?_)
  · rw [List.mem_singleton.1 hw]; exact .inr (by simp only; omega)
  · obtain ⟨q, _, rfl⟩ := List.mem_map.1 hw
    exact .inl rfl
theorem tkO_rng {M : Int} : ∀ {lo : List Wr} {t : Cs}, (∀ p ∈ t, 3 ≤ p.1 ∧ p.1 < M) → (∀ w ∈ lo, 3 ≤ w.at_ ∧ w.at_ < M) → ∀ p ∈ tkO t lo, 3 ≤ p.1 ∧ p.1 < M
  | [], _, h, _ => h
  | w :: r, t, h, hw => tkO_rng (lo := r) (t := stT t w) (by
      have h1 := hw w List.mem_cons_self
      unfold stT
      split
      · split
        · exact ins_all (P := fun p => 3 ≤ p.1 ∧ p.1 < M) h h1
        · exact h
      · exact ins_all (P := fun p => 3 ≤ p.1 ∧ p.1 < M) h h1) (fun x hx => hw x (List.mem_cons_of_mem _ hx))
/-- How many blocks are taken. -/
theorem pl_tk {s : Dst} {nx sp M : Int} {L : List Lk} {fm : Nat} (h : Pl s nx sp L fm) (hok : s.Ok) (hM : Bd M s.cs) (hn : nx ≤ M) : (s.tk.length : Int) ≤ M - 3 := by
  obtain ⟨a, st, last0, B, n, L0, rs, h⟩ := h
  have hnx := h.nx
  have hlo := h.low.1
  refine asc_room (asc_tkO hok.asc s.lo) (tkO_rng (fun p hp => ⟨h.low.2 p hp, hM p hp⟩) (fun w hw => ?_)) (by omega)
  have := h.at_lt hw
  exact ⟨this.1, by omega⟩
/-- A record's blocks, counted by its bytes. -/
theorem blks_div {n : Int} (h : 0 ≤ n) : blks n ≤ n / 46 + 1 := by
  unfold blks
  split <;> omega
end Go.Proofs.Ytmgfcgknajehaaa
namespace Go.Proofs.Ytmgfcgknajehaaa

structure Ps (M : Int) (s : Dst) (nx sp : Int) (L : List Lk) (fm : Nat) : Prop where
  pl : Pl s nx sp L fm
  ok : s.Ok
  rm : s.room = 4000
  bd : Bd (3 + M) s.cs
  n1 : nx ≤ 3 + M
  s1 : sp ≤ 1 + M
  m : M ≤ 200
section
variable {M nx sp : Int} {s : Dst} {L : List Lk} {fm : Nat}
theorem Ps.mono (h : Ps M s nx sp L fm) {N : Int} (hN : M ≤ N) (h2 : N ≤ 200) : Ps N s nx sp L fm := ⟨h.pl, h.ok, h.rm, h.bd.mono (by omega), by have := h.n1; omega, by have := h.s1; omega, h2⟩
theorem Ps.tk (h : Ps M s nx sp L fm) : (s.tk.length : Int) ≤ M := by
  have := pl_tk h.pl h.ok h.bd h.n1
  omega
theorem Ps.pos (h : Ps M s nx sp L fm) : 3 ≤ nx ∧ 1 ≤ sp ∧ (s.lo.length : Int) ≤ nx - 3 := by
  obtain ⟨a, st, last0, B, n, L0, rs, h⟩ := h.pl
  have h1 := h.low.1
  have h2 := h.nx
  have h3 := h.sp
  have h4 := h.p0
  refine ⟨by omega, by omega, ?_⟩
  rw [h.lo]
  simp only [wrs, List.length_map, List.length_range]
  omega
theorem Ps.wt (h : Ps M s nx sp L fm) : (s.wt : Int) ≤ 2 * M := by
  have h1 := h.pos
  have h2 := h.n1
  have h3 : (s.cs.length : Int) ≤ M := by
    have := asc_room (a := 3) (M := 3 + M) h.ok.asc (fun p hp => ⟨by obtain ⟨a, st, last0, B, n, L0, rs, h⟩ := h.pl; exact h.low.2 p hp, h.bd p hp⟩) (by omega)
    omega
  have : s.wt = s.cs.length + s.lo.length := rfl
  omega
theorem ps_new : Ps 0 ⟨4000, [], []⟩ 3 1 [] 0 := by
  have hO : Opn [] 3 0 [] 3 0 := .stop (by rfl)
  refine ⟨?_, ⟨List.Pairwise.nil, fun p hp => by simp at hp, fun w hw => by simp at hw⟩, rfl, fun p hp => by simp at hp, by omega, by omega, by omega⟩
  exact pl_open (s := ⟨4000, [], []⟩) (k := 1) rfl (fun p hp => by simp at hp) (fun p hp => by simp at hp) (by decide) hO
theorem ps_app {b : List Int} {m : Nat} (h : Ps M s nx sp L fm) (hb : Byt b) (h0 : 0 < b.length) (hl : b.length ≤ 16448) (hm : blks b.length = m) (hM : M + m ≤ 200) (hok : (pS s nx sp b m).Ok) : Ps (M + m) (pS s nx sp b m) (nx + m) (sp + m) (L ++ [(nx, b)]) fm := by
  have h1 := h.s1
  have h2 := h.n1
  exact ⟨pl_app h.pl hb h0 hl hm (by omega), hok, h.rm, h.bd.mono (by omega), by omega, by omega, hM⟩
theorem ps_sync (h : Ps M s nx sp L fm) : Ps M (syS s) nx sp L L.length :=
  ⟨pl_sync h.pl h.ok (by have := h.s1; have := h.m; omega), syS_ok h.ok, h.rm, bd_sync h.pl h.bd h.n1, h.n1, h.s1, h.m⟩
theorem ps_cut (h : Ps M s nx sp L fm) {k : Nat} (hk : k < L.length) (hM : M + 1 ≤ 200) (hok : (cutS s (L[k]).1 sp nx).Ok) : (3 ≤ (L[k]).1 ∧ (L[k]).1 < nx ∧ Num (L[k]).1) ∧ Ps (M + 1) (cutS s (L[k]).1 sp nx) ((L[k]).1 + 1) (sp + 1) (L.take k) k := by
  have h1 := h.s1
  have h2 := h.n1
  obtain ⟨i1, i2, i3, i4⟩ := pl_cut h.pl h.ok (by omega) hk
  exact ⟨⟨i1, i2, i3⟩, i4, hok, h.rm, (bd_cut h.pl h.bd h.n1 i2).mono (by omega), by omega, by omega, hM⟩
theorem ps_crash (h : Ps M s nx sp L fm) (ks : List Int) (cut : Int) : ∃ k x y, Opn (crS s ks cut).tk 3 0 (L.take k) x y ∧ fm ≤ k ∧ k ≤ L.length ∧ Ps M (crS s ks cut) x (max y (hiS 3 (crS s ks cut).cs) + 1) (L.take k) (L.take k).length := by
  have h1 := h.s1
  have h2 := h.m
  have h3 := h.n1
  have h4 := h.pos
  obtain ⟨k, x, y, i1, i2, i3, i4, i5, i6, i7⟩ := pl_crash h.pl h.ok (by omega) ks cut
  have i8 := hiS_lt (base := 3) i5 (by omega) (by omega)
  exact ⟨k, x, y, i1, i3, i4, pl_open rfl i6 i5 (by omega) i1, crS_ok h.ok ks cut, h.rm, bd_crash h.pl h.ok h.bd h.n1 ks cut, by omega, by omega, h2⟩
/-- A chain with nothing loose, opened once more: the same records. -/
theorem ps_found (h : Ps M s nx sp L fm) (hl : s.lo = []) : ∃ y, Opn s.tk 3 0 L nx y := by
  obtain ⟨a, st, last0, B, n, L0, rs, h⟩ := h.pl
  have h1 := h.lo
  rw [hl] at h1
  have hn : n = 0 := by
    have := congrArg List.length h1
    simpa [wrs] using this.symm
  subst hn
  have hrs : rs = [] := by
    cases rs with
    | nil => rfl
    | cons b r =>
      have := h.en
      have := endR_le r (0 + (blks b.length).toNat)
      have := blks_pos b.length
      simp only [endR] at *
      omega
  subst hrs
  have h2 := h.op
  have h3 := h.li
  have h4 := h.nx
  simp only [lkR, List.append_nil, Int.natCast_zero, Int.add_zero] at h3 h4
  refine ⟨last0, ?_⟩
  show Opn (tkO s.cs s.lo) 3 0 L nx last0
  rw [hl, h3, h4]
  exact h2
end
end Go.Proofs.Ytmgfcgknajehaaa
