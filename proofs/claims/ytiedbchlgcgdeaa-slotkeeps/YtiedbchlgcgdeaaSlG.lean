/-
  A SLOT BETWEEN ITS CALLS, ON A STORE OF ITS OWN: what a put, a sync and a crash make of it; acts that are light (castellanlaw10.light). Conditions: turns below 255, room for two blocks.
-/
import Derived.Test.YtiedbchlgcgdeaaSlWk
import Derived.Test.YtiedbchlgcgdeaaFrameOp10
namespace Go.Proofs.Ytiedbchlgcgdeaa
open Go.RowKit

theorem two_keys {a : Int} : ∀ {l : Cs}, Asc l → (∀ p ∈ l, p.1 = a ∨ p.1 = a + 1) → l.length ≤ 2 ∧ ∀ A, (A = a ∨ A = a + 1) → look l A = none → l.length ≤ 1
  | [], _, _ => ⟨by simp, fun _ _ _ => by simp⟩
  | [p], _, _ => ⟨by simp, fun _ _ _ => by simp⟩
  | [p, q], h, hk => by
    refine ⟨by simp, fun A hA hl => ?_⟩
    have h1 := hk p (by simp)
    have h2 := hk q (by simp)
    have h3 := List.rel_of_pairwise_cons h (show q ∈ [q] by simp)
    simp only [look] at hl
    split at hl
    · cases hl
    · split at hl
      · cases hl
      · omega
  | p :: q :: r :: t, h, hk => by
    have h1 := hk p (by simp)
    have h2 := hk q (by simp)
    have h3 := hk r (by simp)
    have h4 := List.rel_of_pairwise_cons h (show q ∈ q :: r :: t by simp)
    have h5 := List.rel_of_pairwise_cons (List.Pairwise.of_cons h) (show r ∈ r :: t by simp)
    omega
structure Sg (r a : Int) (s : Dst) (T : Int) (V : List Int) (lz : Bool) : Prop where
  ss : Ss a s T V lz
  ky : ∀ p ∈ s.cs, p.1 = a ∨ p.1 = a + 1
  rm : s.room = r
  r2 : 2 ≤ r
section
variable {r a T : Int} {s : Dst} {V : List Int} {lz : Bool}
theorem sg_new (hr : 2 ≤ r) : Sg r a ⟨r, [], []⟩ 0 [] false := ⟨⟨sf_none a r, rfl⟩, fun p hp => by simp at hp, rfl, hr⟩
theorem Sg.nn (h : Sg r a s T V lz) : (0 ≤ T ∧ (lz = true → 1 ≤ T)) ∧ V.length ≤ 47 ∧ Byt V := by
  cases lz with
  | false => obtain ⟨h1, _⟩ := h.ss; exact ⟨⟨h1.lo, fun e => by cases e⟩, h1.ln, h1.by_⟩
  | true =>
    obtain ⟨V0, h1, h2, h3, _⟩ := h.ss
    have := h1.lo
    exact ⟨⟨by omega, fun _ => by omega⟩, h3, h2⟩
theorem Sg.lol (h : Sg r a s T V lz) : s.lo.length ≤ 1 := by
  cases lz with
  | false => rw [h.ss.2]; simp
  | true => obtain ⟨V0, h1, h2, h3, h4⟩ := h.ss; rw [h4]; simp
theorem Sg.wt (h : Sg r a s T V lz) (hok : s.Ok) : s.wt ≤ 3 := by
  have h1 := (two_keys hok.asc h.ky).1
  have h2 := h.lol
  unfold Dst.wt
  omega
theorem Sg.at (h : Sg r a s T V false) (hT : T < 255) : slotAt s.cs a = (T, V) ∧ s.lo = [] := ⟨h.ss.1.new hT, h.ss.2⟩
theorem Sg.by8 (h : Sg r a s T V lz) (hT : T < 255) : Byt (blkS T V) := fun x hx => (blkS_blk h.nn.2.2 h.nn.2.1 h.nn.1.1 (by omega)).2 x hx
theorem Sg.nowB (h : Sg r a s T V lz) (hT : T < 255) (ha : Num a) (ha1 : Num (a + 1)) : slotB s.tk a = (T, blkS T V) := h.ss.nowB hT ha ha1
theorem Sg.fm (h : Sg r a s T V false) (hT : T < 255) : slotB s.cs a = (T, blkS T V) ∧ firmB s.cs a T (blkS T V) = true := ⟨h.ss.1.newB hT, h.ss.1.firm hT⟩
theorem Sg.ls (h : Sg r a s T V true) (hT : T < 255) (ha : Num a) (ha1 : Num (a + 1)) : firmB s.cs a T (blkS T V) = false := h.ss.loose hT ha ha1
theorem Sg.st (h : Sg r a s T V true) (hT : T < 255) : (slotAt s.cs a).1 < T := by
  have := Ss.firm h.ss hT
  rw [this, if_pos rfl]
  omega
theorem padS {n : Int} {v : List Int} (h : v.length ≤ 47) : padL (blkS n v) = blkS n v := by
  unfold padL
  rw [blkS_len n h, List.drop_of_length_le (by simp [zer]), List.append_nil]
theorem Sg.put (h : Sg r a s T V false) (hok : s.Ok) (ha : Num a) (ha1 : Num (a + 1)) {X : List Int} (hX : X.length ≤ 47) (hb : Byt X) : wrE s (a + (T + 1) % 2) (blkS (T + 1) X) = none ∧ Sg r a (wrS s (a + (T + 1) % 2) (blkS (T + 1) X)) (T + 1) X true := by
  have hN : Num (a + (T + 1) % 2) := by rcases (show (T + 1) % 2 = 0 ∨ (T + 1) % 2 = 1 by omega) with e | e <;> rw [e] <;> simpa using ‹_›
  have htk : s.tk = s.cs := by unfold Dst.tk; rw [h.ss.2]; rfl
  have h2 := (two_keys hok.asc h.ky).2 (a + (T + 1) % 2) (by omega)
  have hr := h.r2
  have hrm := h.rm
  have h3 : (look s.tk (a + (T + 1) % 2)).isSome = true ∨ (s.tk.length : Int) < s.room := by
    rw [htk]
    cases hl : look s.cs (a + (T + 1) % 2) with
    | none => exact .inr (by have := h2 hl; omega)
    | some b => exact .inl rfl
  have h64 : (blkS (T + 1) X).length ≤ 64 := by rw [blkS_len _ hX]; omega
  have hN' : 0 ≤ a + (T + 1) % 2 ∧ a + (T + 1) % 2 ≤ 1073741824 := hN
  have e1 : wrE s (a + (T + 1) % 2) (blkS (T + 1) X) = none := by unfold wrE; rw [if_pos hN', if_pos h64, if_pos h3]
  have e2 : wrS s (a + (T + 1) % 2) (blkS (T + 1) X) = ⟨s.room, s.cs, s.lo ++ [⟨a + (T + 1) % 2, false, blkS (T + 1) X⟩]⟩ := by unfold wrS; rw [if_pos hN', if_pos h64, if_pos h3, padS hX]
  refine ⟨e1, ?_⟩
  rw [e2]
  refine ⟨⟨V, by rw [Int.add_sub_cancel]; exact h.ss.1, hb, hX, ?_⟩, h.ky, h.rm, h.r2⟩
  show s.lo ++ _ = _
  rw [h.ss.2]
  rfl
theorem Sg.sync (h : Sg r a s T V lz) (hT : T < 255) (ha : Num a) (ha1 : Num (a + 1)) : Sg r a (syS s) T V false := by
  refine ⟨h.ss.sync hT ha ha1, ?_, h.rm, h.r2⟩
  show ∀ p ∈ syn s.cs s.lo, _
  cases lz with
  | false => rw [h.ss.2]; exact h.ky
  | true =>
    obtain ⟨V0, h1, h2, h3, h4⟩ := h.ss
    rw [h4]
    exact ins_all (P := fun p => p.1 = a ∨ p.1 = a + 1) h.ky (by simp only; omega)
theorem Sg.crash (h : Sg r a s T V lz) (hT : T < 255) (ha : Num a) (ha1 : Num (a + 1)) (ks : List Int) (cut : Int) : Sg r a (crS s ks cut) T V false ∨ ∃ V0, lz = true ∧ (∀ V1, Sf a s.cs (T - 1) V1 → V0 = V1) ∧ Sg r a (crS s ks cut) (T - 1) V0 false := by
  have hky : ∀ p ∈ (crS s ks cut).cs, p.1 = a ∨ p.1 = a + 1 := by
    show ∀ p ∈ crs s.cs (kpt ks s.lo) cut, _
    cases lz with
    | false =>
      rw [h.ss.2, show kpt ks [] = [] by cases ks <;> rfl]
      exact h.ky
    | true =>
      obtain ⟨V0, h1, h2, h3, h4⟩ := h.ss
      have hk : kpt ks s.lo = [] ∨ kpt ks s.lo = [⟨a + T % 2, false, blkS T V⟩] := by
        rw [h4]
        cases ks with
        | nil => exact .inl rfl
        | cons k r =>
          unfold kpt
          rw [show kpt r [] = [] by cases r <;> rfl]
          split
          · exact .inr rfl
          · exact .inl rfl
      rcases hk with hk | hk
      · rw [hk]; exact h.ky
      · rw [hk]
        have := crs_snoc s.cs [] ⟨a + T % 2, false, blkS T V⟩ cut
        rw [List.nil_append] at this
        rw [this]
        show ∀ p ∈ stS s.cs _, _
        unfold stS torn
        split
        · exact ins_all (P := fun p => p.1 = a ∨ p.1 = a + 1) h.ky (by simp only; omega)
        · exact ins_all (P := fun p => p.1 = a ∨ p.1 = a + 1) h.ky (by simp only; omega)
  rcases Ss.crash h.ss hT ha ha1 ks cut with i | ⟨V0, i1, i2, i3⟩
  · exact .inl ⟨i, hky, h.rm, h.r2⟩
  · exact .inr ⟨V0, i1, i2, i3, hky, h.rm, h.r2⟩
/-- What lay firm ahead of a put. -/
theorem Sg.was (h : Sg r a s T V false) {X : List Int} {s' : Dst} (h' : s' = wrS s (a + (T + 1) % 2) (blkS (T + 1) X)) : Sf a s'.cs (T + 1 - 1) V := by
  have : s'.cs = s.cs := by rw [h']; unfold wrS; split <;> (try split) <;> (try split) <;> rfl
  rw [this, Int.add_sub_cancel]
  exact h.ss.1
end
def liS (ps : List Aq) : Bool := decide (ps.length ≤ 60) && ps.all fun p => decide (p.1.by_.length ≤ 100) && decide (p.1.ks.length ≤ 20)
set_option maxRecDepth 100000 in
set_option maxHeartbeats 4000000 in
theorem lightS_any (v : Value) (ps : List Aq) (w : World) (hv : Ax w v ps) : Calls Try.prog 5 #[v] w fun e w' => e = .returned (.bool (liS ps)) ∧ w' = w := by
  obtain ⟨⟨ao, cap, rfl, hr⟩, hp⟩ := hv
  have HR := hide hr
  have HP := hide hp
  clear hr hp
  by_cases h60 : ps.length ≤ 60
  · go_enter Try.func5, Try.ntmps5
    go_wp2
    go_loopw [3] (fun i W => ∃ k : Nat, k ≤ ps.length ∧ i = .int .i64 k ∧ W = w ∧ ((ps.take k).all fun p => decide (p.1.by_.length ≤ 100) && decide (p.1.ks.length ≤ 20)) = true) (fun i _ => ps.length - (iv i).toNat)
    case atStart => exact ⟨0, Nat.zero_le _, rfl, rfl, rfl⟩
    case round =>
      obtain ⟨k, hk, rfl, rfl, hall⟩ := hrel
      by_cases hlt : k < ps.length
      · obtain ⟨b, o, rfl, hrg⟩ := HR.out (by omega)
        have he := Ax.at hrg hlt
        have c1 := he 1 _ rfl
        have c2 := he 2 _ rfl
        obtain ⟨a2, k2, e2⟩ := (HP.out _ (List.getElem_mem hlt)).1.form
        obtain ⟨a3, k3, e3⟩ := (HP.out _ (List.getElem_mem hlt)).2.2.form
        rw [e2] at c1
        rw [e3] at c2
        have HT : Hid ((ps.take (k + 1)).all (fun p => decide (p.1.by_.length ≤ 100) && decide (p.1.ks.length ≤ 20)) = (decide (ps[k].1.by_.length ≤ 100) && decide (ps[k].1.ks.length ≤ 20))) := hide (by rw [take_step hlt, List.all_append, hall]; simp)
        have HF : Hid ((decide (ps[k].1.by_.length ≤ 100) && decide (ps[k].1.ks.length ≤ 20)) = false → liS ps = false) := hide (fun hq => by
          unfold liS
          rw [show (ps.all fun p => decide (p.1.by_.length ≤ 100) && decide (p.1.ks.length ≤ 20)) = false from List.all_eq_false.2 ⟨ps[k], List.getElem_mem hlt, by rw [hq]; simp⟩, Bool.and_false])
        generalize ps[k].1.by_.length = n2 at c1 HT HF
        generalize ps[k].1.ks.length = n3 at c2 HT HF
        have hltI : (k : Int) < (ps.length : Int) := by omega
        clear he hrg e2 e3 hall HP
        by_cases h2 : n2 ≤ 100
        · have h2I : ¬ (100 : Int) < (n2 : Int) := by omega
          by_cases h3 : n3 ≤ 20
          · have h3I : ¬ (20 : Int) < (n3 : Int) := by omega
            go_wp2_with fail
            exact ⟨⟨k + 1, by omega, by go_num, by trivial, by rw [HT.out]; simp [h2, h3]⟩, by simp [iv]; omega⟩
          · have h3I : (20 : Int) < (n3 : Int) := by omega
            go_wp2_with fail
            go_ret
            exact ⟨by rw [HF.out (by simp; omega)]; rfl, rfl⟩
        · have h2I : (100 : Int) < (n2 : Int) := by omega
          go_wp2_with fail
          go_ret
          exact ⟨by rw [HF.out (by simp; omega)]; rfl, rfl⟩
      · have HT : Hid (liS ps = true) := hide (by
          unfold liS
          rw [List.take_of_length_le (by omega)] at hall
          rw [decide_eq_true h60, Bool.true_and]
          exact hall)
        clear hall
        go_wp2
        go_ret
        exact ⟨by rw [HT.out]; rfl, rfl⟩
  · have HF : Hid (liS ps = false) := hide (by unfold liS; rw [decide_eq_false h60, Bool.false_and])
    go_enter Try.func5, Try.ntmps5
    go_wp2
    go_ret
    exact ⟨by rw [HF.out]; rfl, rfl⟩
theorem liS_is {ps : List Aq} (h : liS ps = true) : ps.length ≤ 60 ∧ ∀ p ∈ ps, p.1.by_.length ≤ 100 ∧ p.1.ks.length ≤ 20 := by
  unfold liS at h
  simp only [Bool.and_eq_true, decide_eq_true_eq, List.all_eq_true] at h
  exact h
end Go.Proofs.Ytiedbchlgcgdeaa
