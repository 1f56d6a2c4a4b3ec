/-
  A SLOT'S TWO BLOCKS, AS LISTS: what a block says, which of both is the newest, what a value that is put, synced, lost and torn makes of them. Mathematics alone: no program in it. Condition: turns below 256.
-/
import Derived.Test.YtiedbchlgcgdeaaChE
import Derived.Test.YtiedbchlgcgdeaaBlkQ
namespace Go.Proofs.Ytiedbchlgcgdeaa

abbrev Sd := Int × List Int
/-- What a block says. -/
def said (b : List Int) : Sd := if stp (b.take 8) = stp (b.drop 56) ∧ b.getD 8 0 ≤ 47 then (stp (b.take 8), (b.drop 9).take (b.getD 8 0).toNat) else (0, [])
/-- The one of both that counts. -/
def newE (x : Sd) : Sd := if x.1 % 2 = 0 ∧ 0 ≤ x.1 then x else (0, [])
def newO (l y : Sd) : Sd := if y.1 % 2 = 1 ∧ l.1 ≤ y.1 then y else l
def newest (x y : Sd) : Sd := newO (newE x) y
def slotAt (t : Cs) (a : Int) : Sd := newest (said (vw t a)) (said (vw t (a + 1)))
/-- The block that says it. -/
def blkS (n : Int) (v : List Int) : List Int := dig 8 n ++ ((v.length : Int) :: v ++ List.replicate (47 - v.length) 0) ++ dig 8 n
theorem blkS_len (n : Int) {v : List Int} (h : v.length ≤ 47) : (blkS n v).length = 64 := by
  simp only [blkS, List.length_append, List.length_cons, List.length_replicate, dig_len]
  omega
theorem blkS_take (n : Int) (v : List Int) : (blkS n v).take 8 = dig 8 n := by
  unfold blkS
  rw [List.append_assoc, List.take_append_of_le_length (by rw [dig_len]; omega), List.take_of_length_le (by rw [dig_len]; omega)]
theorem blkS_drop (n : Int) {v : List Int} (h : v.length ≤ 47) : (blkS n v).drop 56 = dig 8 n :=
  List.drop_left' (by simp only [List.length_append, List.length_cons, List.length_replicate, dig_len]; omega)
theorem blkS_mid (n : Int) (v : List Int) : (blkS n v).getD 8 0 = v.length ∧ ((blkS n v).drop 9).take v.length = v := by
  have h8 : (dig 8 n).length = 8 := dig_len 8 n
  unfold blkS
  generalize dig 8 n = e at h8
  constructor
  · rw [List.append_assoc, List.getD_eq_getElem?_getD, List.getElem?_append_right (by omega), h8]
    rfl
  · rw [List.append_assoc, List.drop_append, List.drop_of_length_le (by omega), List.nil_append, h8]
    show (v ++ List.replicate (47 - v.length) 0 ++ e).take v.length = v
    rw [List.append_assoc, List.take_append_of_le_length (Nat.le_refl _), List.take_length]
theorem blkS_blk {n : Int} {v : List Int} (hb : Byt v) (h : v.length ≤ 47) (h0 : 0 ≤ n) (h1 : n < 256) : Blk (blkS n v) := by
  refine ⟨blkS_len n h, fun x hx => ?_⟩
  rw [blkS, dig_e8 h0 h1] at hx
  have he : ∀ y ∈ e8 n, 0 ≤ y ∧ y ≤ 255 := fun y hy => by simp [e8] at hy; omega
  rcases List.mem_append.1 hx with hx | hx
  · rcases List.mem_append.1 hx with hx | hx
    · exact he x hx
    · rcases List.mem_append.1 hx with hx | hx
      · rcases List.mem_cons.1 hx with hx | hx
        · omega
        · exact hb x hx
      · have := List.eq_of_mem_replicate hx
        omega
  · exact he x hx
theorem stp_e8 {x : Int} (h : x ≤ 1152921504606846976) : stp (e8 x) = x := by unfold stp; rw [num_e8, if_pos h]
theorem said_blk {n : Int} {v : List Int} (h : v.length ≤ 47) (h0 : 0 ≤ n) (h1 : n < 256) : said (blkS n v) = (n, v) := by
  unfold said
  rw [blkS_take, blkS_drop n h, (blkS_mid n v).1, if_pos ⟨rfl, by omega⟩, dig_e8 h0 h1, stp_e8 (by omega), Int.toNat_natCast, (blkS_mid n v).2]
theorem said_zer : said zer = (0, []) := by decide +kernel
/-- A block of the edges x and y, y below k, says a turn below k. -/
theorem said_low {b : List Int} {x y k : Int} (h1 : b.take 8 = e8 x) (h2 : b.drop 56 = e8 y) (hx : 0 ≤ x ∧ x ≤ 256) (hy : 0 ≤ y ∧ y < k) (hk : k ≤ 256) : 0 ≤ (said b).1 ∧ (said b).1 < k := by
  unfold said
  rw [h1, h2, stp_e8 (by omega), stp_e8 (by omega)]
  split
  · rename_i h
    simp only
    omega
  · simp only
    omega
/-- Both blocks, where all is synced: the value V of the turn T, and something elder, or torn, beside. -/
structure Sf (a : Int) (t : Cs) (T : Int) (V : List Int) : Prop where
  lo : 0 ≤ T
  ln : V.length ≤ 47
  by_ : Byt V
  at_ : 0 < T → vw t (a + T % 2) = blkS T V
  no : T = 0 → V = [] ∧ vw t a = zer
  ot : ∃ x y, (vw t (a + (T + 1) % 2)).take 8 = e8 x ∧ (vw t (a + (T + 1) % 2)).drop 56 = e8 y ∧ (0 ≤ x ∧ x ≤ T + 1) ∧ 0 ≤ y ∧ (y < T ∨ y = 0)
theorem newE_le {x : Sd} {k : Int} (h : x.1 < k) (hk : 0 < k) : (newE x).1 ≤ k := by
  unfold newE
  split
  · omega
  · show (0 : Int) ≤ k
    omega
theorem newE_pos {T : Int} {V : List Int} (h : T % 2 = 0) (h0 : 0 ≤ T) : newE (T, V) = (T, V) := if_pos ⟨h, h0⟩
theorem Sf.new {a T : Int} {t : Cs} {V : List Int} (h : Sf a t T V) (hT : T < 255) : slotAt t a = (T, V) := by
  obtain ⟨x, y, h1, h2, h3, h4, h5⟩ := h.ot
  have h0 := h.lo
  have hl := h.ln
  unfold slotAt newest
  by_cases hz : T = 0
  · subst hz
    obtain ⟨rfl, hz⟩ := h.no rfl
    rw [hz, said_zer, newE_pos rfl (by omega)]
    have hs := said_low (k := 1) h1 h2 (by omega) (by omega) (by omega)
    simp only [Int.zero_add, show (1 : Int) % 2 = 1 from rfl] at hs
    exact if_neg (by omega)
  · have hs := said_low (k := T) h1 h2 (by omega) (by omega) (by omega)
    have ha := h.at_ (by omega)
    rcases (show T % 2 = 0 ∨ T % 2 = 1 by omega) with e | e
    · rw [show (T + 1) % 2 = 1 by omega] at hs
      rw [e, Int.add_zero] at ha
      rw [ha, said_blk hl (by omega) (by omega), newE_pos e h0]
      exact if_neg (fun q => by have := q.2; simp only at this; omega)
    · rw [show (T + 1) % 2 = 0 by omega, Int.add_zero] at hs
      rw [e] at ha
      rw [ha, said_blk hl (by omega) (by omega)]
      exact if_pos ⟨e, newE_le hs.2 (by omega)⟩
theorem Sf.same {a T : Int} {t t' : Cs} {V : List Int} (h : Sf a t T V) (h0 : vw t' a = vw t a) (h1 : vw t' (a + 1) = vw t (a + 1)) : Sf a t' T V := by
  have e : ∀ k : Int, k % 2 = 0 ∨ k % 2 = 1 → vw t' (a + k % 2) = vw t (a + k % 2) := fun k hk => by
    rcases hk with e | e
    · rw [e, Int.add_zero, h0]
    · rw [e, h1]
  obtain ⟨x, y, i⟩ := h.ot
  rw [← e (T + 1) (by omega)] at i
  exact ⟨h.lo, h.ln, h.by_, fun hT => by rw [e T (by omega)]; exact h.at_ hT, fun hT => by rw [h0]; exact h.no hT, x, y, i⟩
theorem sf_none (a r : Int) : Sf a (Dst.tk ⟨r, [], []⟩) 0 [] := by
  have hz : ∀ q, vw (Dst.tk ⟨r, [], []⟩) q = zer := fun q => by
    unfold vw
    split <;> rfl
  exact ⟨Int.le_refl _, by simp, fun x hx => by simp at hx, fun h => by omega, fun _ => ⟨rfl, hz a⟩, 0, 0, by rw [hz]; rfl, by rw [hz]; rfl, by omega, by omega, by omega⟩
/-- The next one beside. -/
theorem Sf.next {a T : Int} {t t' : Cs} {V X : List Int} (h : Sf a t T V) (hX : X.length ≤ 47) (hb : Byt X) (hT : T < 255) (hn : vw t' (a + (T + 1) % 2) = blkS (T + 1) X) (ho : vw t' (a + T % 2) = vw t (a + T % 2)) : Sf a t' (T + 1) X := by
  have h0 := h.lo
  refine ⟨by omega, hX, hb, fun _ => hn, fun e => by omega, ?_⟩
  rw [show (T + 1 + 1) % 2 = T % 2 by omega, ho]
  by_cases hz : T = 0
  · subst hz
    have := (h.no rfl).2
    rw [show a + (0 : Int) % 2 = a by simp, this]
    exact ⟨0, 0, rfl, rfl, by omega, by omega, by omega⟩
  · rw [h.at_ (by omega), blkS_take, blkS_drop T h.ln, dig_e8 (by omega) (by omega)]
    exact ⟨T, T, rfl, rfl, by omega, by omega, by omega⟩
/-- A block of the edges n, torn over one whose edges are x and y: the elder one, or the edges n and y. -/
theorem torn_edge {n x y : Int} {old new : List Int} {cut : Nat} (hn : new.length = 64) (he1 : new.take 8 = e8 n) (he2 : new.drop 56 = e8 n) (h3 : old.take 8 = e8 x) (h4 : old.drop 56 = e8 y) (hc : cut < 64) : (new.take cut ++ old.drop cut = old) ∨ ((new.take cut ++ old.drop cut).take 8 = e8 n ∧ (new.take cut ++ old.drop cut).drop 56 = e8 y) := by
  by_cases hc8 : cut ≤ 7
  · left
    have e1 : new.take cut = old.take cut := by
      have a1 : new.take cut = (new.take 8).take cut := by rw [List.take_take, Nat.min_eq_left (by omega)]
      have a2 : old.take cut = (old.take 8).take cut := by rw [List.take_take, Nat.min_eq_left (by omega)]
      rw [a1, a2, he1, h3]
      have : cut = 0 ∨ cut = 1 ∨ cut = 2 ∨ cut = 3 ∨ cut = 4 ∨ cut = 5 ∨ cut = 6 ∨ cut = 7 := by omega
      rcases this with rfl | rfl | rfl | rfl | rfl | rfl | rfl | rfl <;> rfl
    rw [e1, List.take_append_drop]
  · right
    have hl : (new.take cut).length = cut := by rw [List.length_take, hn]; omega
    refine ⟨?_, ?_⟩
    · rw [List.take_append_of_le_length (by omega), List.take_take, Nat.min_eq_left (by omega), he1]
    · by_cases hc56 : cut ≤ 56
      · rw [List.drop_append, List.drop_of_length_le (by omega), List.nil_append, hl, List.drop_drop, show cut + (56 - cut) = 56 by omega, h4]
      · rw [List.drop_append, hl, show 56 - cut = 0 by omega, List.drop_zero]
        have a1 : (new.take cut).drop 56 = (new.drop 56).take (cut - 56) := by rw [List.drop_take]
        have a2 : old.drop cut = (old.drop 56).drop (cut - 56) := by rw [List.drop_drop, show 56 + (cut - 56) = cut by omega]
        rw [a1, a2, he2, h4]
        have : cut = 57 ∨ cut = 58 ∨ cut = 59 ∨ cut = 60 ∨ cut = 61 ∨ cut = 62 ∨ cut = 63 := by omega
        rcases this with rfl | rfl | rfl | rfl | rfl | rfl | rfl <;> rfl
/-- A slot between its calls: firm with the turn T, or with a value of the turn T that is put and not synced. -/
def Ss (a : Int) (s : Dst) (T : Int) (V : List Int) (lz : Bool) : Prop := if lz then ∃ V0, Sf a s.cs (T - 1) V0 ∧ Byt V ∧ V.length ≤ 47 ∧ s.lo = [⟨a + T % 2, false, blkS T V⟩] else Sf a s.cs T V ∧ s.lo = []
theorem ss_firm {a T : Int} {s : Dst} {V : List Int} (h : Sf a s.cs T V) (hl : s.lo = []) : Ss a s T V false := ⟨h, hl⟩
theorem vw_ins {t : Cs} {a q : Int} {b : List Int} (ha : Num a) : vw (insM a b t) q = if q = a then b else vw t q := by
  by_cases e : q = a
  · subst e
    rw [vw_num ha, look_ins, if_pos rfl, if_pos rfl]
    rfl
  · rw [if_neg e]
    unfold vw
    rw [look_ins, if_neg e]
section
variable {a T : Int} {s : Dst} {V : List Int}
/-- What there is, synced or not. -/
theorem Ss.now {lz : Bool} (h : Ss a s T V lz) (hT : T < 255) (ha : Num a) (ha1 : Num (a + 1)) : slotAt s.tk a = (T, V) := by
  cases lz with
  | false =>
    obtain ⟨h1, h2⟩ := h
    show slotAt (tkO s.cs s.lo) a = _
    rw [h2]
    exact h1.new hT
  | true =>
    obtain ⟨V0, h1, h2, h3, h4⟩ := h
    have hN : Num (a + T % 2) := by rcases (show T % 2 = 0 ∨ T % 2 = 1 by omega) with e | e <;> rw [e] <;> simpa using ‹_›
    have := h1.next (t' := insM (a + T % 2) (blkS T V) s.cs) h3 h2 (by omega) (by rw [Int.sub_add_cancel, vw_ins hN, if_pos rfl]) (by rw [vw_ins hN, if_neg (by omega)])
    rw [Int.sub_add_cancel] at this
    show slotAt (tkO s.cs s.lo) a = _
    rw [h4]
    exact this.new hT
/-- How high the turn is that is synced. -/
theorem Ss.firm {lz : Bool} (h : Ss a s T V lz) (hT : T < 255) : (slotAt s.cs a).1 = if lz then T - 1 else T := by
  cases lz with
  | false => rw [h.1.new hT]; rfl
  | true => obtain ⟨V0, h1, _⟩ := h; rw [h1.new (by omega)]; rfl
theorem Ss.sync {lz : Bool} (h : Ss a s T V lz) (hT : T < 255) (ha : Num a) (ha1 : Num (a + 1)) : Ss a (syS s) T V false := by
  cases lz with
  | false =>
    obtain ⟨h1, h2⟩ := h
    refine ⟨?_, rfl⟩
    show Sf a (syn s.cs s.lo) T V
    rw [h2]
    exact h1
  | true =>
    obtain ⟨V0, h1, h2, h3, h4⟩ := h
    have hN : Num (a + T % 2) := by rcases (show T % 2 = 0 ∨ T % 2 = 1 by omega) with e | e <;> rw [e] <;> simpa using ‹_›
    refine ⟨?_, rfl⟩
    have := h1.next (t' := insM (a + T % 2) (blkS T V) s.cs) h3 h2 (by omega) (by rw [Int.sub_add_cancel, vw_ins hN, if_pos rfl]) (by rw [vw_ins hN, if_neg (by omega)])
    rw [Int.sub_add_cancel] at this
    show Sf a (syn s.cs s.lo) T V
    rw [h4]
    exact this
/-- Behind a crash: the one that was synced last, or the one that was put since. -/
theorem Ss.crash {lz : Bool} (h : Ss a s T V lz) (hT : T < 255) (ha : Num a) (ha1 : Num (a + 1)) (ks : List Int) (cut : Int) : Ss a (crS s ks cut) T V false ∨ ∃ V0, lz = true ∧ (∀ V1, Sf a s.cs (T - 1) V1 → V0 = V1) ∧ Ss a (crS s ks cut) (T - 1) V0 false := by
  cases lz with
  | false =>
    obtain ⟨h1, h2⟩ := h
    left
    refine ⟨?_, rfl⟩
    show Sf a (crs s.cs (kpt ks s.lo) cut) T V
    rw [h2, show kpt ks [] = [] by cases ks <;> rfl]
    exact h1
  | true =>
    obtain ⟨V0, h1, h2, h3, h4⟩ := h
    have hu : ∀ V1, Sf a s.cs (T - 1) V1 → V0 = V1 := fun V1 i => by
      have e1 := h1.new (by omega)
      have e2 := i.new (by omega)
      rw [e1] at e2
      exact congrArg Prod.snd e2
    have hN : Num (a + T % 2) := by rcases (show T % 2 = 0 ∨ T % 2 = 1 by omega) with e | e <;> rw [e] <;> simpa using ‹_›
    have hlo := h1.lo
    have hcs : (crS s ks cut).cs = crs s.cs (kpt ks s.lo) cut := rfl
    have hk : kpt ks s.lo = [] ∨ kpt ks s.lo = [⟨a + T % 2, false, blkS T V⟩] := by
      rw [h4]
      cases ks with
      | nil => exact .inl rfl
      | cons k r =>
        unfold kpt
        rw [show kpt r [] = [] by cases r <;> rfl]
        split
        · exact .inr rfl
        · exact .inl rfl
    rcases hk with hk | hk
    · right
      refine ⟨V0, rfl, hu, ?_, rfl⟩
      rw [hcs, hk]
      exact h1
    · have hcr : crs s.cs [⟨a + T % 2, false, blkS T V⟩] cut = insM (a + T % 2) (torn ⟨a + T % 2, false, blkS T V⟩ ((look s.cs (a + T % 2)).getD zer) cut).by_ s.cs := by
        have := crs_snoc s.cs [] ⟨a + T % 2, false, blkS T V⟩ cut
        rw [List.nil_append] at this
        rw [this]
        show stS s.cs _ = _
        unfold stS torn
        split <;> rfl
      by_cases hc : 0 ≤ cut ∧ cut < 64
      · have htb : (torn ⟨a + T % 2, false, blkS T V⟩ ((look s.cs (a + T % 2)).getD zer) cut).by_ = (blkS T V).take cut.toNat ++ (vw s.cs (a + T % 2)).drop cut.toNat := by
          rw [vw_num hN]
          unfold torn
          rw [if_pos ⟨rfl, hc⟩]
        right
        refine ⟨V0, rfl, hu, ?_, rfl⟩
        rw [hcs, hk, hcr, htb]
        obtain ⟨x, y, i1, i2, i3, i4, i5⟩ := h1.ot
        rw [Int.sub_add_cancel] at i1 i2
        have i6 := torn_edge (cut := cut.toNat) (blkS_len T h3) (by rw [blkS_take, dig_e8 (by omega) (by omega)]) (by rw [blkS_drop T h3, dig_e8 (by omega) (by omega)]) i1 i2 (by omega)
        have hvo : ∀ q b, q ≠ a + T % 2 → vw (insM (a + T % 2) b s.cs) q = vw s.cs q := fun q b hq => by rw [vw_ins hN, if_neg hq]
        refine ⟨hlo, h1.ln, h1.by_, fun hp => ?_, fun hz => ?_, ?_⟩
        · rw [hvo _ _ (by omega)]; exact h1.at_ hp
        · have := h1.no hz
          rw [hvo _ _ (by omega)]; exact this
        · rw [Int.sub_add_cancel, vw_ins hN, if_pos rfl]
          rcases i6 with i6 | i6
          · rw [i6]
            exact ⟨x, y, i1, i2, by omega, i4, i5⟩
          · exact ⟨T, y, i6.1, i6.2, by omega, i4, i5⟩
      · left
        have htb : (torn ⟨a + T % 2, false, blkS T V⟩ ((look s.cs (a + T % 2)).getD zer) cut).by_ = blkS T V := by
          unfold torn
          rw [if_neg (fun e => hc e.2)]
        refine ⟨?_, rfl⟩
        rw [hcs, hk, hcr, htb]
        have := h1.next (t' := insM (a + T % 2) (blkS T V) s.cs) h3 h2 (by omega) (by rw [Int.sub_add_cancel, vw_ins hN, if_pos rfl]) (by rw [vw_ins hN, if_neg (by omega)])
        rw [Int.sub_add_cancel] at this
        exact this
end
/-- What a block says, with the block itself. -/
def saidB (b : List Int) : Sd := if stp (b.take 8) = stp (b.drop 56) ∧ b.getD 8 0 ≤ 47 then (stp (b.take 8), b) else (0, [])
def slotB (t : Cs) (a : Int) : Sd := newest (saidB (vw t a)) (saidB (vw t (a + 1)))
theorem saidB_fst (b : List Int) : (saidB b).1 = (said b).1 := by
  unfold saidB said
  split <;> rfl
theorem blkS_zer : blkS 0 [] = zer := by decide +kernel
theorem saidB_zer : saidB zer = (0, zer) := by decide +kernel
theorem saidB_blk {n : Int} {v : List Int} (h : v.length ≤ 47) (h0 : 0 ≤ n) (h1 : n < 256) : saidB (blkS n v) = (n, blkS n v) := by
  unfold saidB
  rw [blkS_take, blkS_drop n h, (blkS_mid n v).1, if_pos ⟨rfl, by omega⟩, dig_e8 h0 h1, stp_e8 (by omega)]
theorem Sf.newB {a T : Int} {t : Cs} {V : List Int} (h : Sf a t T V) (hT : T < 255) : slotB t a = (T, blkS T V) := by
  obtain ⟨x, y, h1, h2, h3, h4, h5⟩ := h.ot
  have h0 := h.lo
  have hl := h.ln
  unfold slotB newest
  by_cases hz : T = 0
  · subst hz
    obtain ⟨rfl, hz⟩ := h.no rfl
    rw [hz, saidB_zer, newE_pos rfl (by omega), blkS_zer]
    have hs := said_low (k := 1) h1 h2 (by omega) (by omega) (by omega)
    simp only [Int.zero_add, show (1 : Int) % 2 = 1 from rfl, ← saidB_fst] at hs
    exact if_neg (by omega)
  · have hs := said_low (k := T) h1 h2 (by omega) (by omega) (by omega)
    have ha := h.at_ (by omega)
    rw [← saidB_fst] at hs
    rcases (show T % 2 = 0 ∨ T % 2 = 1 by omega) with e | e
    · rw [show (T + 1) % 2 = 1 by omega] at hs
      rw [e, Int.add_zero] at ha
      rw [ha, saidB_blk hl (by omega) (by omega), newE_pos e h0]
      exact if_neg (fun q => by have := q.2; simp only at this; omega)
    · rw [show (T + 1) % 2 = 0 by omega, Int.add_zero] at hs
      rw [e] at ha
      rw [ha, saidB_blk hl (by omega) (by omega)]
      exact if_pos ⟨e, newE_le hs.2 (by omega)⟩
/-- Is a value synced, or one behind it? -/
def firmB (cs : Cs) (a T : Int) (B : List Int) : Bool := decide (T = 0 ∨ look cs (a + T % 2) = some B ∨ T < (slotB cs a).1)
theorem Sf.firm {a T : Int} {t : Cs} {V : List Int} (h : Sf a t T V) (hT : T < 255) : firmB t a T (blkS T V) = true := by
  refine decide_eq_true ?_
  by_cases hz : T = 0
  · exact .inl hz
  · refine .inr (.inl ?_)
    have h0 := h.lo
    have ha := h.at_ (by omega)
    cases hl : look t (a + T % 2) with
    | some b =>
      unfold vw at ha
      rw [hl] at ha
      split at ha
      · exact congrArg some ha
      · have := congrArg (fun l => stp (l.take 8)) ha
        simp only [blkS_take, dig_e8 h0 (show T < 256 by omega), stp_e8 (show T ≤ 1152921504606846976 by omega)] at this
        rw [show stp (zer.take 8) = 0 by decide +kernel] at this
        omega
    | none =>
      have hv : vw t (a + T % 2) = zer := by
        unfold vw
        rw [hl]
        split <;> rfl
      rw [hv] at ha
      have := congrArg (fun l => stp (l.take 8)) ha
      simp only [blkS_take, dig_e8 h0 (show T < 256 by omega), stp_e8 (show T ≤ 1152921504606846976 by omega)] at this
      rw [show stp (zer.take 8) = 0 by decide +kernel] at this
      omega
section
variable {a T : Int} {s : Dst} {V : List Int}
theorem Ss.nowB {lz : Bool} (h : Ss a s T V lz) (hT : T < 255) (ha : Num a) (ha1 : Num (a + 1)) : slotB s.tk a = (T, blkS T V) := by
  cases lz with
  | false =>
    obtain ⟨h1, h2⟩ := h
    show slotB (tkO s.cs s.lo) a = _
    rw [h2]
    exact h1.newB hT
  | true =>
    obtain ⟨V0, h1, h2, h3, h4⟩ := h
    have hN : Num (a + T % 2) := by rcases (show T % 2 = 0 ∨ T % 2 = 1 by omega) with e | e <;> rw [e] <;> simpa using ‹_›
    have := h1.next (t' := insM (a + T % 2) (blkS T V) s.cs) h3 h2 (by omega) (by rw [Int.sub_add_cancel, vw_ins hN, if_pos rfl]) (by rw [vw_ins hN, if_neg (by omega)])
    rw [Int.sub_add_cancel] at this
    show slotB (tkO s.cs s.lo) a = _
    rw [h4]
    exact this.newB hT
theorem Ss.loose (h : Ss a s T V true) (hT : T < 255) (ha : Num a) (ha1 : Num (a + 1)) : firmB s.cs a T (blkS T V) = false := by
  obtain ⟨V0, h1, h2, h3, h4⟩ := h
  have h0 := h1.lo
  refine decide_eq_false (fun e => ?_)
  rcases e with e | e | e
  · omega
  · obtain ⟨x, y, i1, i2, i3, i4, i5⟩ := h1.ot
    rw [Int.sub_add_cancel] at i2
    have hN : Num (a + T % 2) := by rcases (show T % 2 = 0 ∨ T % 2 = 1 by omega) with e | e <;> rw [e] <;> simpa using ‹_›
    rw [vw_num hN, e] at i2
    have i6 : (blkS T V).drop 56 = e8 y := i2
    rw [blkS_drop T h3, dig_e8 (by omega) (by omega)] at i6
    have := congrArg stp i6
    rw [stp_e8 (by omega), stp_e8 (by omega)] at this
    omega
  · rw [h1.newB (by omega)] at e
    simp only at e
    omega
end
end Go.Proofs.Ytiedbchlgcgdeaa
