/-
  A STORE's CALLS, each with the state that it leaves: New, Write, Read, Sync, Crash, Used, Loose, Room, Cells over one word for a store in its memory. Condition: fewer than thirty thousand blocks and writes.
  BLOCKS IN A ROW THAT CAME IN, OPENED: they lie in their cells, two each: a number, and bytes. No condition of its own.
-/
import Derived.Test.YtoamghncncalgaaGreatDoorJBlkKya2
import Derived.Test.YtoamghncncalgaaGreatDoorJFramea2
import Derived.Deep.Strs
namespace Go.Proofs.YtoamghncncalgaaGreatDoor
open Go.RowKit

/-- How much a store has. -/
def Dst.wt (s : Dst) : Nat := s.cs.length + s.lo.length
structure Dq (W : World) (d bS bT : Nat) (u : Value) (s : Dst) : Prop where
  dk : Dk W d bS bT u s s.tk s.lo
  ok : s.Ok
theorem Dq.below {W W' : World} {d bS bT : Nat} {u : Value} {s : Dst} (h : Dq W d bS bT u s) (hb : Below W.heap.size W W') : Dq W' d bS bT u s := ⟨h.dk.below hb, h.ok⟩
theorem Dst.Ok.tb {s : Dst} (h : s.Ok) : ∀ p ∈ s.tk, Num p.1 ∧ Blk p.2 := tkO_all h.cb (fun w hw => ⟨(h.lb w hw).1, (h.lb w hw).2.1⟩)
theorem Dst.Ok.ta {s : Dst} (h : s.Ok) : Asc s.tk := asc_tkO h.asc _
theorem Dst.Ok.tl {s : Dst} (h : s.Ok) : s.tk.length ≤ s.wt := tkO_len h.asc
/-- What is wrong with a write, and what it leaves. -/
def wrE (s : Dst) (a : Int) (b : List Int) : Option (List (ByteArray × Int) × Int) :=
  if 0 ≤ a ∧ a ≤ 1073741824 then (if b.length ≤ 64 then (if (look s.tk a).isSome = true ∨ (s.tk.length : Int) < s.room then none else some ([(opBlock, a)], 7)) else some ([(opSize, (b.length : Int))], 6)) else some ([(opBlock, a)], 2)
def wrS (s : Dst) (a : Int) (b : List Int) : Dst :=
  if 0 ≤ a ∧ a ≤ 1073741824 then (if b.length ≤ 64 then (if (look s.tk a).isSome = true ∨ (s.tk.length : Int) < s.room then ⟨s.room, s.cs, s.lo ++ [⟨a, false, padL b⟩]⟩ else s) else s) else s
def syS (s : Dst) : Dst := ⟨s.room, syn s.cs s.lo, []⟩
def crS (s : Dst) (ks : List Int) (cut : Int) : Dst := ⟨s.room, crs s.cs (kpt ks s.lo) cut, []⟩
theorem wrS_ok {s : Dst} (h : s.Ok) (a : Int) {b : List Int} (hb : Byt b) : (wrS s a b).Ok := by
  unfold wrS
  split
  · rename_i ha
    split
    · rename_i hl
      split
      · refine ⟨h.asc, h.cb, fun w hw => ?_⟩
        rcases List.mem_append.1 hw with e | e
        · exact h.lb w e
        · simp at e
          rw [e]
          exact ⟨ha, padL_blk hl hb, fun q => by cases q⟩
      · exact h
    · exact h
  · exact h
theorem wrS_wt (s : Dst) (a : Int) (b : List Int) : (wrS s a b).wt ≤ s.wt + 1 := by
  unfold wrS
  split
  · split
    · split
      · simp [Dst.wt]; omega
      · omega
    · omega
  · omega
theorem syS_ok {s : Dst} (h : s.Ok) : (syS s).Ok := ⟨asc_syn h.asc _, syn_all h.cb (fun w hw => ⟨(h.lb w hw).1, (h.lb w hw).2.1⟩), fun w hw => by simp [syS] at hw⟩
theorem syS_wt {s : Dst} (h : s.Ok) : (syS s).wt ≤ s.wt := by
  have := syn_len h.asc (l := s.lo)
  simp only [Dst.wt, syS, List.length_nil]
  omega
theorem crS_ok {s : Dst} (h : s.Ok) (ks : List Int) (cut : Int) : (crS s ks cut).Ok := ⟨asc_crs h.asc _ _, crs_all h.cb (fun w hw => ⟨(h.lb w (kpt_sub hw)).1, (h.lb w (kpt_sub hw)).2.1⟩), fun w hw => by simp [crS] at hw⟩
theorem crs_len {cs : Cs} (h : Asc cs) (K : List Wr) (cut : Int) : (crs cs K cut).length ≤ cs.length + K.length := by
  rcases nil_or_snoc K with rfl | ⟨K0, x, rfl⟩
  · exact Nat.le_refl _
  · rw [crs_snoc]
    have h1 := stS_len (asc_syn h K0) (torn x ((look (syn cs K0) x.at_).getD zer) cut)
    have h2 := syn_len h (l := K0)
    rw [List.length_append]
    simp only [List.length_cons, List.length_nil]
    omega
theorem crS_wt {s : Dst} (h : s.Ok) (ks : List Int) (cut : Int) : (crS s ks cut).wt ≤ s.wt := by
  have h1 := crs_len h.asc (kpt ks s.lo) cut
  have h2 := kpt_len ks s.lo
  simp only [Dst.wt, crS, List.length_nil]
  omega
section
variable {d bS bT : Nat} {u : Value} {s : Dst}
theorem q_new (a : Int) (w : World) (h : Num a) : Calls Tryz.prog 7 #[.int .i64 a] w fun e w' => e = .returned (.tuple #[.pointer (some ⟨w.heap.size + 2, 0, none⟩), .nilIface]) ∧ Dq w' (w.heap.size + 2) w.heap.size (w.heap.size + 1) (.slice none 0 0) ⟨a, [], []⟩ ∧ Below w.heap.size w w' := by
  refine (bnew_ok a w h).mono ?_
  rintro e w' ⟨rfl, h1, h2⟩
  exact ⟨rfl, ⟨h1, ⟨asc_nil, fun p hp => by simp at hp, fun p hp => by simp at hp⟩⟩, h2⟩
theorem q_write (a : Int) (v : Value) (b : List Int) (w : World) (h : Dq w d bS bT u s) (hv : Sl bc w v b) (hby : Byt b) (hn : s.wt < 30000) :
    Calls Tryz.prog 25 #[.pointer (some ⟨d, 0, none⟩), .int .i64 a, v] w fun e w' => ∃ u', e = .returned (ev (wrE s a b)) ∧ Dq w' d bS bT u' (wrS s a b) ∧ Dx d bS bT u w w' u' := by
  have hok := wrS_ok h.ok a hby
  have htl := h.ok.tl
  have hlo : s.lo.length ≤ s.wt := Nat.le_add_left _ _
  by_cases h1 : 0 ≤ a ∧ a ≤ 1073741824
  · by_cases h2 : b.length ≤ 64
    · by_cases h3 : (look s.tk a).isSome = true ∨ (s.tk.length : Int) < s.room
      · have e1 : wrE s a b = none := by unfold wrE; rw [if_pos h1, if_pos h2, if_pos h3]
        have e2 : wrS s a b = ⟨s.room, s.cs, s.lo ++ [⟨a, false, padL b⟩]⟩ := by unfold wrS; rw [if_pos h1, if_pos h2, if_pos h3]
        have fin : Calls Tryz.prog 25 #[.pointer (some ⟨d, 0, none⟩), .int .i64 a, v] w fun e w' => ∃ u', e = .returned .nilIface ∧ Dk w' d bS bT u' s (insM a (padL b) s.tk) (s.lo ++ [⟨a, false, padL b⟩]) ∧ Dx d bS bT u w w' u' := by
          cases hq : (look s.tk a).isSome with
          | true => exact bwrite_over a v b w h.dk h.ok.ta h.ok.tb hv hby h2 h1 _ rfl hq (by omega) (by omega)
          | false => exact bwrite_new a v b w h.dk h.ok.ta h.ok.tb hv hby h2 h1 _ rfl hq (h3.resolve_left (by rw [hq]; simp)) (by omega) (by omega)
        refine fin.mono ?_
        rintro e w' ⟨u', rfl, hd, hx⟩
        rw [e1]
        rw [e2] at hok ⊢
        refine ⟨u', rfl, ⟨?_, hok⟩, hx⟩
        have et : (Dst.tk ⟨s.room, s.cs, s.lo ++ [⟨a, false, padL b⟩]⟩) = insM a (padL b) s.tk := tkO_snoc _ _ _
        rw [et]
        exact ⟨hd.c0, hd.c1, hd.c2, hd.c3, hd.fz, hd.ms, hd.mt, hd.ro, hd.ne, hd.du⟩
      · have e1 : wrE s a b = some ([(opBlock, a)], 7) := by unfold wrE; rw [if_pos h1, if_pos h2, if_neg h3]
        have e2 : wrS s a b = s := by unfold wrS; rw [if_pos h1, if_pos h2, if_neg h3]
        have hq : (look s.tk a).isSome = false := by
          cases hq : (look s.tk a).isSome
          · rfl
          · exact absurd (.inl hq) h3
        refine (bwrite_full a v b w h.dk h.ok.tb hv h2 h1 _ rfl hq (by omega)).mono ?_
        rintro e w' ⟨rfl, hb⟩
        rw [e1, e2]
        exact ⟨u, rfl, h.below hb, Dx.of hb⟩
    · have e1 : wrE s a b = some ([(opSize, (b.length : Int))], 6) := by unfold wrE; rw [if_pos h1, if_neg h2]
      have e2 : wrS s a b = s := by unfold wrS; rw [if_pos h1, if_neg h2]
      obtain ⟨ao, cap, rfl⟩ := hv.form
      refine (bwrite_long a ao b.length cap w h1 (by omega)).mono ?_
      rintro e w' ⟨rfl, rfl⟩
      rw [e1, e2]
      exact ⟨u, rfl, h, Dx.refl⟩
  · have e1 : wrE s a b = some ([(opBlock, a)], 2) := by unfold wrE; rw [if_neg h1]
    have e2 : wrS s a b = s := by unfold wrS; rw [if_neg h1]
    refine (bwrite_bad a v w h1).mono ?_
    rintro e w' ⟨rfl, rfl⟩
    rw [e1, e2]
    exact ⟨u, rfl, h, Dx.refl⟩
theorem q_sync (w : World) (h : Dq w d bS bT u s) (hn : s.wt < 30000) :
    Calls Tryz.prog 27 #[.pointer (some ⟨d, 0, none⟩)] w fun e w' => e = .returned (.tuple #[]) ∧ Dq w' d bS bT (.slice none 0 0) (syS s) ∧ Dx d bS bT u w w' (.slice none 0 0) := by
  have : s.cs.length + s.lo.length = s.wt := rfl
  refine (bsync_any w h.dk h.ok (by omega)).mono ?_
  rintro e w' ⟨rfl, hd, hx⟩
  exact ⟨rfl, ⟨hd, syS_ok h.ok⟩, hx⟩
theorem q_crash (kv : Value) (ks : List Int) (cut : Int) (w : World) (h : Dq w d bS bT u s) (hk : Sl ic w kv ks) (hn : s.wt < 30000) :
    Calls Tryz.prog 21 #[.pointer (some ⟨d, 0, none⟩), kv, .int .i64 cut] w fun e w' => e = .returned (.tuple #[]) ∧ Dq w' d bS bT (.slice none 0 0) (crS s ks cut) ∧ Dx d bS bT u w w' (.slice none 0 0) := by
  have : s.cs.length + s.lo.length = s.wt := rfl
  refine (bcrash_any kv ks cut w h.dk h.ok hk (by omega)).mono ?_
  rintro e w' ⟨rfl, hd, hx⟩
  exact ⟨rfl, ⟨hd, crS_ok h.ok ks cut⟩, hx⟩
theorem q_read (a : Int) (w : World) (h : Dq w d bS bT u s) (ha : Num a) : Calls Tryz.prog 81 #[.pointer (some ⟨d, 0, none⟩), .int .i64 a] w fun e w' => e = .returned (.tuple #[.slice (some ⟨w.heap.size, 0, none⟩) 64 64, .nilIface]) ∧ w' = w.alloc (.cells (bv ((look s.tk a).getD zer)).toArray 101) :=
  bread_ok a w h.dk h.ok.tb ha
theorem q_cells (w : World) (h : Dq w d bS bT u s) (hn : s.wt < 30000) : Calls Tryz.prog 57 #[.pointer (some ⟨d, 0, none⟩)] w fun e w' => ∃ v ps, e = .returned v ∧ Cw w' w.heap.size v ps ∧ csOf ps = s.cs ∧ Below w.heap.size w w' := by
  have : s.cs.length + s.lo.length = s.wt := rfl
  exact bcells_any w h.dk h.ok.asc h.ok.cb (by omega)
theorem q_used (w : World) (h : Dq w d bS bT u s) : Calls Tryz.prog 37 #[.pointer (some ⟨d, 0, none⟩)] w fun e w' => e = .returned (.int .i64 s.tk.length) ∧ w' = w := bused_any w h.dk
theorem q_loose (w : World) (h : Dq w d bS bT u s) : Calls Tryz.prog 58 #[.pointer (some ⟨d, 0, none⟩)] w fun e w' => e = .returned (.int .i64 s.lo.length) ∧ w' = w := bloose_any w h.dk
theorem q_room (w : World) (h : Dq w d bS bT u s) : Calls Tryz.prog 38 #[.pointer (some ⟨d, 0, none⟩)] w fun e w' => e = .returned (.int .i64 s.room) ∧ w' = w := broom_any w h.dk
theorem q_writeN (a : Int) (v : Value) (b : List Int) (w : World) (h : Dq w d bS bT u s) (hv : Sl bc w v b) (hby : Byt b) (hn : s.wt < 30000) (hE : wrE s a b = none) :
    Calls Tryz.prog 25 #[.pointer (some ⟨d, 0, none⟩), .int .i64 a, v] w fun e w' => ∃ u', e = .returned .nilIface ∧ Dq w' d bS bT u' (wrS s a b) ∧ Dx d bS bT u w w' u' := by
  refine (q_write a v b w h hv hby hn).mono ?_
  rintro e w' ⟨u', rfl, h1, h2⟩
  rw [hE]
  exact ⟨u', rfl, h1, h2⟩
/-- All that has turned since w is new. -/
structure Nb (w W : World) (d bS bT : Nat) (u : Value) : Prop where
  be : Below w.heap.size w W
  ow : ∀ k, Own d bS bT u k → w.heap.size ≤ k
theorem Nb.step {w W W' : World} {u' : Value} (h : Nb w W d bS bT u) (hx : Dx d bS bT u W W' u') : Nb w W' d bS bT u' :=
  ⟨h.be.trans (hx.ba.below h.be.size h.ow), fun k hk => by
    rcases hk with e | e | e | e
    · exact h.ow k (.inl e)
    · exact h.ow k (.inr (.inl e))
    · exact h.ow k (.inr (.inr (.inl e)))
    · rcases hx.bl k e with q | q
      · exact h.ow k (.inr (.inr (.inr q)))
      · exact Nat.le_trans h.be.size q⟩
theorem Nb.call {w W W' : World} (h : Nb w W d bS bT u) (hb : Below W.heap.size W W') : Nb w W' d bS bT u := h.step (Dx.of hb)
theorem q_new2 (a : Int) (w0 w : World) (h : Num a) (h0 : Below w0.heap.size w0 w) : Calls Tryz.prog 7 #[.int .i64 a] w fun e w' => ∃ d bS bT, e = .returned (.tuple #[.pointer (some ⟨d, 0, none⟩), .nilIface]) ∧ Dq w' d bS bT (.slice none 0 0) ⟨a, [], []⟩ ∧ Nb w0 w' d bS bT (.slice none 0 0) ∧ Nb w w' d bS bT (.slice none 0 0) := by
  refine (q_new a w h).mono ?_
  rintro e w' ⟨rfl, h1, h2⟩
  refine ⟨_, _, _, rfl, h1, ⟨h0.trans (h2.mono h0.size), fun k hk => ?_⟩, ⟨h2, fun k hk => ?_⟩⟩ <;> have := h0.size <;> rcases hk with e | e | e | e <;> first | omega | cases e
end
end Go.Proofs.YtoamghncncalgaaGreatDoor
namespace Go.Proofs.YtoamghncncalgaaGreatDoor
open Go.ChangeShapes Go.WideShapes Go.ChangeAt Go.RowKit Go.Joins
set_option maxRecDepth 100000

/-- A block's number, its bytes, and where they lie. -/
abbrev Cq := (Int × List Int) × Value
def cql (p : Cq) : List Value := [.int .u8 p.1.1, p.2]
def cqs (ps : List Cq) : List Value := ps.flatMap cql
def CqP (W : World) (p : Cq) : Prop := Sl bc W p.2 p.1.2 ∧ Byt p.1.2 ∧ 0 ≤ p.1.1 ∧ p.1.1 ≤ 255
theorem CqP.below {W W' : World} {p : Cq} (h : CqP W p) (hb : Below W.heap.size W W') : CqP W' p := ⟨h.1.below hb, h.2⟩
/-- The slice v holds these blocks. -/
def Aq (W : World) (v : Value) (ps : List Cq) : Prop := (∃ ao cap, v = .slice ao ps.length cap ∧ (0 < ps.length → ∃ b o, ao = some ⟨b, o, none⟩ ∧ W.rangeAt b o (cqs ps))) ∧ ∀ p ∈ ps, CqP W p
theorem cqs_len (ps : List Cq) : (cqs ps).length = ps.length * 2 := by
  induction ps with
  | nil => rfl
  | cons p r ih => simp only [cqs, List.flatMap_cons, List.length_append, List.length_cons] at ih ⊢; rw [ih]; simp only [cql, List.length_cons, List.length_nil]; omega
theorem cqs_get : ∀ (ps : List Cq) (i : Nat) (h : i < ps.length) (j : Nat) (u : Value), (cql ps[i])[j]? = some u → (cqs ps)[i * 2 + j]? = some u
  | [], i, h, _, _, _ => by simp at h
  | p :: ps, 0, _, j, u, hj => by
    have hl : j < (cql p).length := (List.getElem?_eq_some_iff.1 hj).1
    show (cql p ++ cqs ps)[0 * 2 + j]? = _
    rw [Nat.zero_mul, Nat.zero_add, List.getElem?_append_left hl]
    exact hj
  | p :: ps, i + 1, h, j, u, hj => by
    show (cql p ++ cqs ps)[(i + 1) * 2 + j]? = _
    rw [List.getElem?_append_right (by simp only [cql, List.length_cons, List.length_nil]; omega), show (i + 1) * 2 + j - (cql p).length = i * 2 + j by simp only [cql, List.length_cons, List.length_nil]; omega]
    exact cqs_get ps i (by simpa using h) j u hj
theorem Aq.at {W : World} {b o : Nat} {ps : List Cq} (h : W.rangeAt b o (cqs ps)) {i : Nat} (hi : i < ps.length) : W.rangeAt b (o + i * 2) (cql ps[i]) := fun j u hu => by
  rw [Nat.add_assoc]
  exact h _ u (cqs_get ps i hi j u hu)
theorem cellsCq : Tryz.prog.cellsOf 67 = 2 := by kernel_rfl
theorem cellsU2 : Tryz.prog.cellsOf 5 = 1 := by kernel_rfl
theorem cellsB2 : Tryz.prog.cellsOf 43 = 1 := by kernel_rfl
section
variable {H : Type} {enc : TypeId × Value → H}
theorem open_b2 {W : World} {n : Nat} {u : Value} {x : DataW H × List MemPlace} (h : DataW.trod enc Tryz.prog W 0 (fun _ => true) true n 43 [u] = some x) : ∃ l : List Int, Sl bc W u l ∧ Byt l := by
  rcases open_ints Tryz.underlying43 Tryz.underlying5 (by kernel_rfl) h with ⟨hcs, rfl⟩ | ⟨a, len, cap, zs, hcs, _, hle, hmax, hall, rfl, hcell, hwf⟩
  · simp at hcs
    subst hcs
    exact ⟨[], Sl.nil _ _ _ _, fun y hy => by simp at hy⟩
  · simp at hcs
    subst hcs
    rw [if_pos rfl] at hall
    have hl : (zs.take len).length = len := by rw [List.length_take]; omega
    refine ⟨zs.take len, ?_, fun y hy => ?_⟩
    · by_cases h0 : len = 0
      · subst h0
        exact .inl ⟨some a, cap, by simp, by simp⟩
      · obtain ⟨b, off, rfl, hcc⟩ := ints_at hcell (by omega)
        exact .inr ⟨b, off, cap, by rw [hl], by omega, fun i hi => by
          rw [hl] at hi
          rw [hcc i (by omega), List.getElem_take]
          simp [List.getD, show i < zs.length by omega, bc]⟩
    · have := hwf y (List.mem_of_mem_take hy)
      simp only [Lit.wf, Bool.and_eq_true, decide_eq_true_eq, show IntKind.u8.min = 0 by decide, show IntKind.u8.max = 255 by decide] at this
      exact this
theorem open_cq {W : World} {fuel : Nat} {c0 c1 : Value} {x : DataW H × List MemPlace} (hf : DataW.trod enc Tryz.prog W 0 (fun _ => true) true fuel 67 [c0, c1] = some x) : ∃ p : Cq, [c0, c1] = cql p ∧ CqP W p := by
  obtain ⟨xs, n, _, _, _, hlen, hfi⟩ := DataW.trod_struct Tryz.underlying67 hf
  have hlen' : xs.length = 2 := hlen
  have t0 : DataW.trod enc Tryz.prog W 0 (fun _ => true) true n 5 [c0] = some (xs[0]'(by omega)) := by
    have q := hfi 0 _ rfl
    rw [List.getElem?_eq_getElem (show 0 < xs.length by omega)] at q
    change DataW.trod enc Tryz.prog W 0 (fun _ => true) true n 5 (List.take (Tryz.prog.cellsOf 5) (List.drop 0 [c0, c1])) = _ at q
    rw [cellsU2] at q
    exact q
  obtain ⟨k0, e0, _, hwf⟩ := DataW.trod_int (t := 5) Tryz.underlying5 t0
  simp only [List.cons.injEq, and_true] at e0
  subst e0
  have t1 : DataW.trod enc Tryz.prog W 0 (fun _ => true) true n 43 [c1] = some (xs[1]'(by omega)) := by
    have q := hfi 1 _ rfl
    rw [List.getElem?_eq_getElem (show 1 < xs.length by omega)] at q
    change DataW.trod enc Tryz.prog W 0 (fun _ => true) true n 43 (List.take (Tryz.prog.cellsOf 43) (List.drop 1 [.int .u8 k0, c1])) = _ at q
    rw [cellsB2] at q
    exact q
  obtain ⟨l2, s2, b2⟩ := open_b2 t1
  have hk : 0 ≤ k0 ∧ k0 ≤ 255 := by
    simp only [Lit.wf, Bool.and_eq_true, decide_eq_true_eq, show IntKind.u8.min = 0 by decide, show IntKind.u8.max = 255 by decide] at hwf
    exact hwf
  exact ⟨((k0, l2), c1), rfl, s2, b2, hk.1, hk.2⟩
theorem open_cp {W : World} {n : Nat} {a : Addr} {cs : List Value} {x : DataW H × List MemPlace} (hc : W.cells? 0 a (Tryz.prog.cellsOf 67) = some cs)
    (h : DataW.trod enc Tryz.prog W 0 (fun _ => true) true n 67 cs = some x) : ∃ p : Cq, (∀ j u, (cql p)[j]? = some u → W.cell? (a.add j) = some u) ∧ CqP W p := by
  rw [cellsCq] at hc
  obtain ⟨_, hl, hcell⟩ := World.cells?_some hc
  match cs, hl with
  | [c0, c1], _ =>
    obtain ⟨p, h1, h2⟩ := open_cq h
    refine ⟨p, fun j u hj => ?_, h2⟩
    rw [← h1] at hj
    obtain ⟨hlt, hv⟩ := List.getElem?_eq_some_iff.1 hj
    have hlt5 : j < 2 := by simpa using hlt
    rw [hcell j (by simpa using hlt5)]
    exact hj
/-- Blocks that came in, opened. -/
theorem open_cqs {W : World} {base : Nat} {v : Value} {d : DataW H} {p : List MemPlace} (hv : Value.okWide Tryz.prog W .any base 65 v) (h : DataW.Trod enc Tryz.prog W 0 (fun _ => true) true 65 v d p) : ∃ ps : List Cq, Aq W v ps ∧ ps.length ≤ maxLen := by
  obtain ⟨a0, len, cap, rfl⟩ := okWide_slice Tryz.underlying65 hv
  obtain ⟨fuel, hf⟩ := h
  rcases Deep.open_slice (t := 65) Tryz.underlying65 hf with ⟨e0, _⟩ | ⟨a, len', cap', q, n, D, Pl, e0, _, hlen, hcap, hq, hx, hel⟩
  · simp [Value.cells] at e0
    obtain ⟨rfl, rfl, rfl⟩ := e0
    exact ⟨[], ⟨⟨_, _, rfl, fun q => by simp at q⟩, fun p hp => by simp at hp⟩, Nat.zero_le _⟩
  · simp [Value.cells] at e0
    obtain ⟨rfl, rfl, rfl⟩ := e0
    rw [if_pos rfl] at hq
    subst hq
    have hs : ∀ i, i < len → ∃ p : Cq, (∀ j u, (cql p)[j]? = some u → W.cell? ((a.add (i * 2)).add j) = some u) ∧ CqP W p := by
      intro i hi
      obtain ⟨cs', hc, ht⟩ := hel i (by omega)
      have := open_cp hc ht
      rwa [cellsCq] at this
    haveI : Inhabited Cq := ⟨((0, []), .nilIface)⟩
    obtain ⟨f, hf⟩ := Deep.choose_lt hs
    have hl : ((List.range len).map f).length = len := by simp
    refine ⟨(List.range len).map f, ⟨⟨some a, _, by rw [hl], fun h0 => ?_⟩, fun p hp => ?_⟩, by rw [hl]; omega⟩
    · rw [hl] at h0
      obtain ⟨b, o, sp⟩ := a
      have hsp : sp = none := by simpa [Addr.add] using World.cell?_spot ((hf 0 (by omega)).1 0 _ rfl)
      subst hsp
      refine ⟨b, o, rfl, fun j u hj => ?_⟩
      have hjl : j < ((List.range len).map f).length * 2 := by have := (List.getElem?_eq_some_iff.1 hj).1; rwa [cqs_len] at this
      rw [hl] at hjl
      have hi : j / 2 < len := by omega
      have hget : ((List.range len).map f)[j / 2]'(by rw [hl]; exact hi) = f (j / 2) := by simp
      have hm : j % 2 < 2 := by omega
      obtain ⟨u', hu'⟩ : ∃ u', (cql (f (j / 2)))[j % 2]? = some u' := ⟨_, List.getElem?_eq_getElem (by simp only [cql, List.length_cons, List.length_nil]; omega)⟩
      have h2 := cqs_get ((List.range len).map f) (j / 2) (by rw [hl]; exact hi) (j % 2) u' (by rw [hget]; exact hu')
      rw [show j / 2 * 2 + j % 2 = j by omega, hj] at h2
      cases h2
      have h3 := (hf (j / 2) hi).1 (j % 2) u hu'
      rw [Addr.add_lit, Addr.add_lit, Nat.add_assoc, show j / 2 * 2 + j % 2 = j by omega] at h3
      exact h3
    · obtain ⟨i, hi, rfl⟩ := List.mem_map.1 hp
      exact (hf i (List.mem_range.1 hi)).2
end
end Go.Proofs.YtoamghncncalgaaGreatDoor
