/-
  A STORE's CALLS, each with the state that it leaves: New, Write, Read, Sync, Crash, Used, Loose, Room, Cells over one word for a store in its memory. Condition: fewer than thirty thousand blocks and writes.
-/
import Derived.Test.YtiedbchlgcgdeaaBlkCe
namespace Go.Proofs.Ytiedbchlgcgdeaa
open Go.RowKit

/-- How much a store has. -/
def Dst.wt (s : Dst) : Nat := s.cs.length + s.lo.length
structure Dq (W : World) (d bS bT : Nat) (u : Value) (s : Dst) : Prop where
  dk : Dk W d bS bT u s s.tk s.lo
  ok : s.Ok
theorem Dq.below {W W' : World} {d bS bT : Nat} {u : Value} {s : Dst} (h : Dq W d bS bT u s) (hb : Below W.heap.size W W') : Dq W' d bS bT u s := ⟨h.dk.below hb, h.ok⟩
theorem Dst.Ok.tb {s : Dst} (h : s.Ok) : ∀ p ∈ s.tk, Num p.1 ∧ Blk p.2 := tkO_all h.cb (fun w hw => ⟨(h.lb w hw).1, (h.lb w hw).2.1⟩)
theorem Dst.Ok.ta {s : Dst} (h : s.Ok) : Asc s.tk := asc_tkO h.asc _
theorem Dst.Ok.tl {s : Dst} (h : s.Ok) : s.tk.length ≤ s.wt := tkO_len h.asc
/-- What is wrong with a write, and what it leaves. -/
def wrE (s : Dst) (a : Int) (b : List Int) : Option (List (ByteArray × Int) × Int) :=
  if 0 ≤ a ∧ a ≤ 1073741824 then (if b.length ≤ 64 then (if (look s.tk a).isSome = true ∨ (s.tk.length : Int) < s.room then none else some ([(opBlock, a)], 7)) else some ([(opSize, (b.length : Int))], 6)) else some ([(opBlock, a)], 2)
def wrS (s : Dst) (a : Int) (b : List Int) : Dst :=
  if 0 ≤ a ∧ a ≤ 1073741824 then (if b.length ≤ 64 then (if (look s.tk a).isSome = true ∨ (s.tk.length : Int) < s.room then ⟨s.room, s.cs, s.lo ++ [⟨a, false, padL b⟩]⟩ else s) else s) else s
def syS (s : Dst) : Dst := ⟨s.room, syn s.cs s.lo, []⟩
def crS (s : Dst) (ks : List Int) (cut : Int) : Dst := ⟨s.room, crs s.cs (kpt ks s.lo) cut, []⟩
theorem wrS_ok {s : Dst} (h : s.Ok) (a : Int) {b : List Int} (hb : Byt b) : (wrS s a b).Ok := by
  unfold wrS
  split
  · rename_i ha
    split
    · rename_i hl
      split
      · refine ⟨h.asc, h.cb, fun w hw => ?_⟩
        rcases List.mem_append.1 hw with e | e
        · exact h.lb w e
        · simp at e
          rw [e]
          exact ⟨ha, padL_blk hl hb, fun q => by cases q⟩
      · exact h
    · exact h
  · exact h
theorem wrS_wt (s : Dst) (a : Int) (b : List Int) : (wrS s a b).wt ≤ s.wt + 1 := by
  unfold wrS
  split
  · split
    · split
      · simp [Dst.wt]; omega
      · omega
    · omega
  · omega
theorem syS_ok {s : Dst} (h : s.Ok) : (syS s).Ok := ⟨asc_syn h.asc _, syn_all h.cb (fun w hw => ⟨(h.lb w hw).1, (h.lb w hw).2.1⟩), fun w hw => by simp [syS] at hw⟩
theorem syS_wt {s : Dst} (h : s.Ok) : (syS s).wt ≤ s.wt := by
  have := syn_len h.asc (l := s.lo)
  simp only [Dst.wt, syS, List.length_nil]
  omega
theorem crS_ok {s : Dst} (h : s.Ok) (ks : List Int) (cut : Int) : (crS s ks cut).Ok := ⟨asc_crs h.asc _ _, crs_all h.cb (fun w hw => ⟨(h.lb w (kpt_sub hw)).1, (h.lb w (kpt_sub hw)).2.1⟩), fun w hw => by simp [crS] at hw⟩
theorem crs_len {cs : Cs} (h : Asc cs) (K : List Wr) (cut : Int) : (crs cs K cut).length ≤ cs.length + K.length := by
  rcases nil_or_snoc K with rfl | ⟨K0, x, rfl⟩
  · exact Nat.le_refl _
  · rw [crs_snoc]
    have h1 := stS_len (asc_syn h K0) (torn x ((look (syn cs K0) x.at_).getD zer) cut)
    have h2 := syn_len h (l := K0)
    rw [List.length_append]
    simp only [List.length_cons, List.length_nil]
    omega
theorem crS_wt {s : Dst} (h : s.Ok) (ks : List Int) (cut : Int) : (crS s ks cut).wt ≤ s.wt := by
  have h1 := crs_len h.asc (kpt ks s.lo) cut
  have h2 := kpt_len ks s.lo
  simp only [Dst.wt, crS, List.length_nil]
  omega
section
variable {d bS bT : Nat} {u : Value} {s : Dst}
theorem q_new (a : Int) (w : World) (h : Num a) : Calls Try.prog 7 #[.int .i64 a] w fun e w' => e = .returned (.tuple #[.pointer (some ⟨w.heap.size + 2, 0, none⟩), .nilIface]) ∧ Dq w' (w.heap.size + 2) w.heap.size (w.heap.size + 1) (.slice none 0 0) ⟨a, [], []⟩ ∧ Below w.heap.size w w' := by
  refine (bnew_ok a w h).mono ?_
  rintro e w' ⟨rfl, h1, h2⟩
  exact ⟨rfl, ⟨h1, ⟨asc_nil, fun p hp => by simp at hp, fun p hp => by simp at hp⟩⟩, h2⟩
theorem q_write (a : Int) (v : Value) (b : List Int) (w : World) (h : Dq w d bS bT u s) (hv : Sl bc w v b) (hby : Byt b) (hn : s.wt < 30000) :
    Calls Try.prog 22 #[.pointer (some ⟨d, 0, none⟩), .int .i64 a, v] w fun e w' => ∃ u', e = .returned (ev (wrE s a b)) ∧ Dq w' d bS bT u' (wrS s a b) ∧ Dx d bS bT u w w' u' := by
  have hok := wrS_ok h.ok a hby
  have htl := h.ok.tl
  have hlo : s.lo.length ≤ s.wt := Nat.le_add_left _ _
  by_cases h1 : 0 ≤ a ∧ a ≤ 1073741824
  · by_cases h2 : b.length ≤ 64
    · by_cases h3 : (look s.tk a).isSome = true ∨ (s.tk.length : Int) < s.room
      · have e1 : wrE s a b = none := by unfold wrE; rw [if_pos h1, if_pos h2, if_pos h3]
        have e2 : wrS s a b = ⟨s.room, s.cs, s.lo ++ [⟨a, false, padL b⟩]⟩ := by unfold wrS; rw [if_pos h1, if_pos h2, if_pos h3]
        have fin : Calls Try.prog 22 #[.pointer (some ⟨d, 0, none⟩), .int .i64 a, v] w fun e w' => ∃ u', e = .returned .nilIface ∧ Dk w' d bS bT u' s (insM a (padL b) s.tk) (s.lo ++ [⟨a, false, padL b⟩]) ∧ Dx d bS bT u w w' u' := by
          cases hq : (look s.tk a).isSome with
          | true => exact bwrite_over a v b w h.dk h.ok.ta h.ok.tb hv hby h2 h1 _ rfl hq (by omega) (by omega)
          | false => exact bwrite_new a v b w h.dk h.ok.ta h.ok.tb hv hby h2 h1 _ rfl hq (h3.resolve_left (by rw [hq]; simp)) (by omega) (by omega)
        refine fin.mono ?_
        rintro e w' ⟨u', rfl, hd, hx⟩
        rw [e1]
        rw [e2] at hok ⊢
        refine ⟨u', rfl, ⟨?_, hok⟩, hx⟩
        have et : (Dst.tk ⟨s.room, s.cs, s.lo ++ [⟨a, false, padL b⟩]⟩) = insM a (padL b) s.tk := tkO_snoc _ _ _
        rw [et]
        exact ⟨hd.c0, hd.c1, hd.c2, hd.c3, hd.fz, hd.ms, hd.mt, hd.ro, hd.ne, hd.du⟩
      · have e1 : wrE s a b = some ([(opBlock, a)], 7) := by unfold wrE; rw [if_pos h1, if_pos h2, if_neg h3]
        have e2 : wrS s a b = s := by unfold wrS; rw [if_pos h1, if_pos h2, if_neg h3]
        have hq : (look s.tk a).isSome = false := by
          cases hq : (look s.tk a).isSome
          · rfl
          · exact absurd (.inl hq) h3
        refine (bwrite_full a v b w h.dk h.ok.tb hv h2 h1 _ rfl hq (by omega)).mono ?_
        rintro e w' ⟨rfl, hb⟩
        rw [e1, e2]
        exact ⟨u, rfl, h.below hb, Dx.of hb⟩
    · have e1 : wrE s a b = some ([(opSize, (b.length : Int))], 6) := by unfold wrE; rw [if_pos h1, if_neg h2]
      have e2 : wrS s a b = s := by unfold wrS; rw [if_pos h1, if_neg h2]
      obtain ⟨ao, cap, rfl⟩ := hv.form
      refine (bwrite_long a ao b.length cap w h1 (by omega)).mono ?_
      rintro e w' ⟨rfl, rfl⟩
      rw [e1, e2]
      exact ⟨u, rfl, h, Dx.refl⟩
  · have e1 : wrE s a b = some ([(opBlock, a)], 2) := by unfold wrE; rw [if_neg h1]
    have e2 : wrS s a b = s := by unfold wrS; rw [if_neg h1]
    refine (bwrite_bad a v w h1).mono ?_
    rintro e w' ⟨rfl, rfl⟩
    rw [e1, e2]
    exact ⟨u, rfl, h, Dx.refl⟩
theorem q_sync (w : World) (h : Dq w d bS bT u s) (hn : s.wt < 30000) :
    Calls Try.prog 25 #[.pointer (some ⟨d, 0, none⟩)] w fun e w' => e = .returned (.tuple #[]) ∧ Dq w' d bS bT (.slice none 0 0) (syS s) ∧ Dx d bS bT u w w' (.slice none 0 0) := by
  have : s.cs.length + s.lo.length = s.wt := rfl
  refine (bsync_any w h.dk h.ok (by omega)).mono ?_
  rintro e w' ⟨rfl, hd, hx⟩
  exact ⟨rfl, ⟨hd, syS_ok h.ok⟩, hx⟩
theorem q_crash (kv : Value) (ks : List Int) (cut : Int) (w : World) (h : Dq w d bS bT u s) (hk : Sl ic w kv ks) (hn : s.wt < 30000) :
    Calls Try.prog 11 #[.pointer (some ⟨d, 0, none⟩), kv, .int .i64 cut] w fun e w' => e = .returned (.tuple #[]) ∧ Dq w' d bS bT (.slice none 0 0) (crS s ks cut) ∧ Dx d bS bT u w w' (.slice none 0 0) := by
  have : s.cs.length + s.lo.length = s.wt := rfl
  refine (bcrash_any kv ks cut w h.dk h.ok hk (by omega)).mono ?_
  rintro e w' ⟨rfl, hd, hx⟩
  exact ⟨rfl, ⟨hd, crS_ok h.ok ks cut⟩, hx⟩
theorem q_read (a : Int) (w : World) (h : Dq w d bS bT u s) (ha : Num a) : Calls Try.prog 33 #[.pointer (some ⟨d, 0, none⟩), .int .i64 a] w fun e w' => e = .returned (.tuple #[.slice (some ⟨w.heap.size, 0, none⟩) 64 64, .nilIface]) ∧ w' = w.alloc (.cells (bv ((look s.tk a).getD zer)).toArray 68) :=
  bread_ok a w h.dk h.ok.tb ha
theorem q_cells (w : World) (h : Dq w d bS bT u s) (hn : s.wt < 30000) : Calls Try.prog 35 #[.pointer (some ⟨d, 0, none⟩)] w fun e w' => ∃ v ps, e = .returned v ∧ Cw w' w.heap.size v ps ∧ csOf ps = s.cs ∧ Below w.heap.size w w' := by
  have : s.cs.length + s.lo.length = s.wt := rfl
  exact bcells_any w h.dk h.ok.asc h.ok.cb (by omega)
theorem q_writeN (a : Int) (v : Value) (b : List Int) (w : World) (h : Dq w d bS bT u s) (hv : Sl bc w v b) (hby : Byt b) (hn : s.wt < 30000) (hE : wrE s a b = none) :
    Calls Try.prog 22 #[.pointer (some ⟨d, 0, none⟩), .int .i64 a, v] w fun e w' => ∃ u', e = .returned .nilIface ∧ Dq w' d bS bT u' (wrS s a b) ∧ Dx d bS bT u w w' u' := by
  refine (q_write a v b w h hv hby hn).mono ?_
  rintro e w' ⟨u', rfl, h1, h2⟩
  rw [hE]
  exact ⟨u', rfl, h1, h2⟩
/-- All that has turned since w is new. -/
structure Nb (w W : World) (d bS bT : Nat) (u : Value) : Prop where
  be : Below w.heap.size w W
  ow : ∀ k, Own d bS bT u k → w.heap.size ≤ k
theorem Nb.step {w W W' : World} {u' : Value} (h : Nb w W d bS bT u) (hx : Dx d bS bT u W W' u') : Nb w W' d bS bT u' :=
  ⟨h.be.trans (hx.ba.below h.be.size h.ow), fun k hk => by
    rcases hk with e | e | e | e
    · exact h.ow k (.inl e)
    · exact h.ow k (.inr (.inl e))
    · exact h.ow k (.inr (.inr (.inl e)))
    · rcases hx.bl k e with q | q
      · exact h.ow k (.inr (.inr (.inr q)))
      · exact Nat.le_trans h.be.size q⟩
theorem Nb.call {w W W' : World} (h : Nb w W d bS bT u) (hb : Below W.heap.size W W') : Nb w W' d bS bT u := h.step (Dx.of hb)
theorem q_new2 (a : Int) (w0 w : World) (h : Num a) (h0 : Below w0.heap.size w0 w) : Calls Try.prog 7 #[.int .i64 a] w fun e w' => ∃ d bS bT, e = .returned (.tuple #[.pointer (some ⟨d, 0, none⟩), .nilIface]) ∧ Dq w' d bS bT (.slice none 0 0) ⟨a, [], []⟩ ∧ Nb w0 w' d bS bT (.slice none 0 0) ∧ Nb w w' d bS bT (.slice none 0 0) := by
  refine (q_new a w h).mono ?_
  rintro e w' ⟨rfl, h1, h2⟩
  refine ⟨_, _, _, rfl, h1, ⟨h0.trans (h2.mono h0.size), fun k hk => ?_⟩, ⟨h2, fun k hk => ?_⟩⟩ <;> have := h0.size <;> rcases hk with e | e | e | e <;> first | omega | cases e
end
end Go.Proofs.Ytiedbchlgcgdeaa
