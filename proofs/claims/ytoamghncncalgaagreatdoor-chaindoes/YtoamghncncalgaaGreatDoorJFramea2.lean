/-
  THE FRAME OF THE LAWS' PROOFS: what the listed variable's condition gives a walk, a world that meets it, and a slice of numbers that comes in, opened: they lie in its cells. No condition of its own.
  BLOCKS, BY THEIR NUMBERS, AS RISING LISTS: what is found behind a write, a freeing; what is taken, synced, forgotten, kept in a crash, and torn. Mathematics alone: no program in it, no condition.
-/
import Derived.Test.YtoamghncncalgaaGreatDoorCards
import Derived.Test.YtoamghncncalgaaGreatDoorTie
import Derived.Test.YtoamghncncalgaaGreatDoorJIsca2
import Derived.ProofKit
import Derived.OpenShut
import Derived.ShutString
import Derived.ChangeOld
import Derived.LaidHandle
import Derived.Lib.SmallJoins
import Derived.Deep.Slices
import Derived.Deep.DeepHandedRow
import Derived.Maps.OwnSet
import Derived.Lib.SlKeysI
namespace Go.Proofs.YtoamghncncalgaaGreatDoor
open Go.ChangeShapes Go.WideShapes Go.ChangeAt Go.RowKit Go.Joins
set_option maxRecDepth 100000

theorem own : ownKnob Tryz.prog.godebug = none := by kernel_rfl
theorem laidOut : laidOutB Tryz.prog = true := by kernel_rfl
theorem et : Tryz.prog.globalNamed "errors.errorType" = some 0 := by kernel_rfl
theorem oneRow : ((List.range 231).filter fun t => Tryz.prog.rowNamed t [101, 114, 114, 111, 114]) = [27] := by kernel_rfl
theorem typesSize : Tryz.prog.types.size = 231 := by kernel_rfl

/-- What the condition gives a walk: the variable's one cell. -/
theorem handle_of_laid {W : World} (h : laidMetH Tryz.prog [("errors.errorType", Rows.laid_errors_errorType)] W) : Hnd W := by
  have h' : laidMet Tryz.prog [] W ∧ handlesMet Tryz.prog [("errors.errorType", Rows.laid_errors_errorType)] W := h
  obtain ⟨name, u, ty, e1, e2, e3, e4, e5⟩ := h'.2 _ (List.mem_singleton.2 rfl)
  have en : name = [101, 114, 114, 111, 114] := (Option.some.inj e1).symm
  subst en
  have hu : some u = some 164 := e2.symm.trans (by kernel_rfl)
  obtain rfl := Option.some.inj hu
  have hm : ty ∈ (List.range 231).filter fun t => Tryz.prog.rowNamed t [101, 114, 114, 111, 114] := List.mem_filter.2 ⟨List.mem_range.2 (by rw [← typesSize]; exact e3), e4⟩
  rw [oneRow] at hm
  obtain rfl := List.mem_singleton.1 hm
  have hh : typeHandle Tryz.prog 27 = .pointer (some ⟨1, 27, none⟩) := by kernel_rfl
  rw [hh] at e5
  unfold Hnd
  simpa using World.var?_cell et e5 0

/-- A world with the variable's cell laid. -/
def layHnd (w : World) : World :=
  { w with heap := w.heap.modify 0 fun
      | .cells _ t frozen => .cells #[.iface 164 (.agg #[.pointer (some ⟨1, 27, none⟩)])] t frozen
      | o => o }
theorem laid_met (os : Os) (args : Array Value) : laidMetH Tryz.prog [("errors.errorType", Rows.laid_errors_errorType)] ((layHnd (World.holding Tryz.prog os ⟨#[], #[], []⟩)).forCall (fun _ _ => 0) ⟨#[], args, []⟩).memory :=
  laidMetH_of_parts (laidMet_nil _ _) (by kernel_rfl)

section
variable {H : Type} {enc : TypeId × Value → H}

/-- A slice of numbers that came in, opened. -/
theorem open_nums {W : World} {base : Nat} {t e : TypeId} {k : IntKind} {v : Value} {d : DataW H} {p : List MemPlace} (ht : Tryz.prog.underlying t = some (.slice e)) (he : Tryz.prog.underlying e = some (.int k)) (hc : Tryz.prog.cellsOf e = 1)
    (hv : Value.okWide Tryz.prog W .any base t v) (h : DataW.Trod enc Tryz.prog W 0 (fun _ => true) true t v d p) : ∃ l : List Int, Sl (fun x => .int k x) W v l ∧ l.length ≤ maxLen ∧ ∀ n ∈ l, (Lit.int k n).wf = true := by
  obtain ⟨a0, len, cap, rfl⟩ := okWide_slice ht hv
  obtain ⟨fuel, hf⟩ := h
  rcases open_ints ht he hc hf with ⟨hcs, _⟩ | ⟨a, len', cap', zs, hcs, _, hle, hmax, hall, _, hcell, hwf⟩
  · simp [Value.cells] at hcs
    obtain ⟨rfl, rfl, rfl⟩ := hcs
    exact ⟨[], .inl ⟨_, _, rfl, rfl⟩, Nat.zero_le _, fun n hn => by cases hn⟩
  · simp [Value.cells] at hcs
    obtain ⟨rfl, rfl, rfl⟩ := hcs
    rw [if_pos rfl] at hall
    have hl : (zs.take len).length = len := by rw [List.length_take]; omega
    refine ⟨zs.take len, ?_, by omega, fun n hn => hwf n (List.mem_of_mem_take hn)⟩
    by_cases h0 : len = 0
    · subst h0
      exact .inl ⟨_, _, by simp, rfl⟩
    · obtain ⟨b, off, rfl, hcc⟩ := ints_at hcell (by omega)
      refine .inr ⟨b, off, cap, by rw [hl], by omega, fun i hi => ?_⟩
      rw [hl] at hi
      rw [hcc i (by omega), List.getElem_take]
      simp [List.getD, show i < zs.length by omega]
end
end Go.Proofs.YtoamghncncalgaaGreatDoor
namespace Go.Proofs.YtoamghncncalgaaGreatDoor

abbrev Cs := List (Int × List Int)
/-- The block with the number a. -/
def look : Cs → Int → Option (List Int)
  | [], _ => none
  | p :: r, a => if p.1 = a then some p.2 else look r a
/-- Written. -/
def insM (a : Int) (b : List Int) : Cs → Cs
  | [] => [(a, b)]
  | p :: r => if a < p.1 then (a, b) :: p :: r else if a = p.1 then (a, b) :: r else p :: insM a b r
/-- Freed. -/
def delM (a : Int) (l : Cs) : Cs := l.filter fun p => decide (p.1 ≠ a)
/-- The numbers rise. -/
def Asc (l : Cs) : Prop := l.Pairwise fun p q => p.1 < q.1
theorem look_ins (a : Int) (b : List Int) (c : Int) : ∀ l : Cs, look (insM a b l) c = if c = a then some b else look l c
  | [] => by
    simp only [insM, look]
    by_cases h : c = a
    · rw [if_pos h, if_pos h.symm]
    · rw [if_neg h, if_neg (fun e => h e.symm)]
  | p :: r => by
    unfold insM
    by_cases h1 : a < p.1
    · rw [if_pos h1]
      by_cases h : c = a
      · rw [if_pos h, look, if_pos h.symm]
      · rw [if_neg h, look, if_neg (fun e => h e.symm)]
    · rw [if_neg h1]
      by_cases h2 : a = p.1
      · rw [if_pos h2]
        by_cases h : c = a
        · rw [if_pos h, look, if_pos h.symm]
        · rw [if_neg h, look, if_neg (fun e => h e.symm), look, if_neg (fun e => h (e.symm.trans h2.symm))]
      · rw [if_neg h2, look, look, look_ins a b c r]
        by_cases h : c = a
        · rw [if_pos h, if_neg (fun e => h2 (h.symm.trans e.symm)), if_pos h]
        · simp only [if_neg h]
theorem look_del (a c : Int) : ∀ l : Cs, look (delM a l) c = if c = a then none else look l c
  | [] => by simp [delM, look]
  | p :: r => by
    have ih := look_del a c r
    unfold delM at ih ⊢
    rw [List.filter_cons]
    by_cases h : p.1 = a
    · rw [if_neg (by simp [h]), ih, look]
      by_cases h2 : c = a
      · simp [h2]
      · rw [if_neg h2, if_neg h2, if_neg (fun e => h2 (e.symm.trans h))]
    · rw [if_pos (by simp [h]), look, ih, look]
      by_cases h2 : c = a
      · rw [if_pos h2, if_pos h2, if_neg (fun e => h (e.trans h2))]
      · simp only [if_neg h2]
theorem ins_mem {a : Int} {b : List Int} {q : Int × List Int} : ∀ {l : Cs}, q ∈ insM a b l → q = (a, b) ∨ q ∈ l
  | [], h => by simpa [insM] using h
  | p :: r, h => by
    unfold insM at h
    split at h
    · rcases List.mem_cons.1 h with h | h
      · exact .inl h
      · exact .inr h
    · split at h
      · rcases List.mem_cons.1 h with h | h
        · exact .inl h
        · exact .inr (List.mem_cons_of_mem _ h)
      · rcases List.mem_cons.1 h with h | h
        · exact .inr (by rw [h]; exact List.mem_cons_self)
        · rcases ins_mem h with h | h
          · exact .inl h
          · exact .inr (List.mem_cons_of_mem _ h)
theorem asc_nil : Asc [] := List.Pairwise.nil
theorem asc_ins (a : Int) (b : List Int) : ∀ {l : Cs}, Asc l → Asc (insM a b l)
  | [], _ => by simp [insM, Asc]
  | p :: r, h => by
    obtain ⟨h1, h2⟩ := List.pairwise_cons.1 h
    unfold insM
    split
    · rename_i ha
      exact List.pairwise_cons.2 ⟨fun q hq => by
        rcases List.mem_cons.1 hq with e | e
        · rw [e]; exact ha
        · have := h1 q e; simp only; omega, h⟩
    · split
      · rename_i _ ha
        exact List.pairwise_cons.2 ⟨fun q hq => by have := h1 q hq; simp only; omega, h2⟩
      · rename_i ha hb
        refine List.pairwise_cons.2 ⟨fun q hq => ?_, asc_ins a b h2⟩
        rcases ins_mem hq with e | e
        · rw [e]; simp only; omega
        · exact h1 q e
theorem asc_del (a : Int) {l : Cs} (h : Asc l) : Asc (delM a l) := List.Pairwise.filter _ h
theorem look_low {l : Cs} {a : Int} (h : ∀ q ∈ l, a < q.1) : look l a = none := by
  induction l with
  | nil => rfl
  | cons p r ih =>
    rw [look, if_neg (by have := h p List.mem_cons_self; omega)]
    exact ih (fun q hq => h q (List.mem_cons_of_mem _ hq))
theorem mem_look {l : Cs} (hl : Asc l) {a : Int} {b : List Int} : (a, b) ∈ l ↔ look l a = some b := by
  induction l with
  | nil => simp [look]
  | cons p r ih =>
    obtain ⟨h1, h2⟩ := List.pairwise_cons.1 hl
    rw [look, List.mem_cons]
    by_cases h : p.1 = a
    · rw [if_pos h]
      constructor
      · rintro (e | e)
        · rw [← e]
        · have := h1 _ e; simp only at this; omega
      · intro e
        refine .inl ?_
        cases e
        rw [← h]
    · rw [if_neg h, ← ih h2]
      constructor
      · rintro (e | e)
        · rw [← e] at h; exact absurd rfl h
        · exact e
      · exact .inr
theorem asc_ext : ∀ {l m : Cs}, Asc l → Asc m → (∀ a, look l a = look m a) → l = m
  | [], [], _, _, _ => rfl
  | [], q :: s, _, _, h => by have := h q.1; simp [look] at this
  | p :: r, [], _, _, h => by have := h p.1; simp [look] at this
  | p :: r, q :: s, hl, hm, h => by
    obtain ⟨h1, h2⟩ := List.pairwise_cons.1 hl
    obtain ⟨k1, k2⟩ := List.pairwise_cons.1 hm
    have e1 : p.1 = q.1 := by
      by_cases e : p.1 = q.1
      · exact e
      · rcases Int.lt_or_lt_of_ne e with hlt | hlt
        · have := h p.1
          rw [look, if_pos rfl, look, if_neg (fun e' => e e'.symm), look_low (fun x hx => by have := k1 x hx; omega)] at this
          simp at this
        · have := h q.1
          rw [look, if_neg e, look_low (fun x hx => by have := h1 x hx; omega), look, if_pos rfl] at this
          simp at this
    have e2 : p.2 = q.2 := by
      have := h p.1
      rw [look, if_pos rfl, look, if_pos e1.symm] at this
      simpa using this
    have e3 : r = s := asc_ext h2 k2 (fun a => by
      by_cases ha : a = p.1
      · rw [look_low (fun x hx => by have := h1 x hx; omega), look_low (fun x hx => by have := k1 x hx; omega)]
      · have := h a
        rw [look, if_neg (fun e => ha e.symm), look, if_neg (fun e => ha (by rw [e1]; exact e.symm))] at this
        exact this)
    rw [e3, show p = q from Prod.ext e1 e2]
theorem ins_len (a : Int) (b : List Int) : ∀ {l : Cs}, Asc l → (insM a b l).length = if (look l a).isSome then l.length else l.length + 1
  | [], _ => by simp [insM, look]
  | p :: r, h => by
    obtain ⟨h1, h2⟩ := List.pairwise_cons.1 h
    unfold insM
    by_cases ha : a < p.1
    · have e : look (p :: r) a = none := look_low (fun x hx => by
        rcases List.mem_cons.1 hx with e | e
        · rw [e]; exact ha
        · have := h1 x e; omega)
      rw [if_pos ha, e]
      simp
    · rw [if_neg ha]
      by_cases hb : a = p.1
      · have e : look (p :: r) a = some p.2 := by rw [look, if_pos hb.symm]
        rw [if_pos hb, e]; simp
      · have e : look (p :: r) a = look r a := by rw [look, if_neg (fun e => hb e.symm)]
        rw [if_neg hb, e, List.length_cons, ins_len a b h2]
        cases (look r a).isSome <;> simp
theorem del_none {a : Int} {l : Cs} (hl : Asc l) (h : look l a = none) : delM a l = l := asc_ext (asc_del a hl) hl (fun c => by
  rw [look_del]
  split
  · rename_i e; rw [e, h]
  · rfl)

/-! ### as a map's datum -/
section
variable {H : Type}
/-- A block's bytes as a datum. -/
def dd (b : List Int) : DataW H := .agg (b.map fun x => .lit (.int .u8 x))
theorem dd_inj {b c : List Int} (h : (dd b : DataW H) = dd c) : b = c := by
  simp only [dd, DataW.agg.injEq] at h
  have := congrArg (List.map (fun d : DataW H => match d with | .lit (.int _ x) => x | _ => 0)) h
  simpa [List.map_map, Function.comp_def] using this
/-- Blocks as a map that is read. -/
def dm (l : Cs) : DataW H := .map (l.map fun p => (.int .i64 p.1, dd p.2))
theorem insert_low {a : Int} {d : DataW H} : ∀ {l : Cs}, (∀ q ∈ l, a < q.1) → DataW.insert (Lit.int .i64 a, d) (l.map fun p => (Lit.int .i64 p.1, (dd p.2 : DataW H))) = (Lit.int .i64 a, d) :: l.map fun p => (Lit.int .i64 p.1, dd p.2)
  | [], _ => rfl
  | p :: r, h => by
    rw [List.map_cons, DataW.insert, if_pos (by simpa [Lit.before] using h p List.mem_cons_self)]
theorem filter_low {a : Int} {l : Cs} (h : ∀ q ∈ l, a < q.1) : (l.map fun p => (Lit.int .i64 p.1, (dd p.2 : DataW H))).filter (fun p => !p.1.sameKey (Lit.int .i64 a)) = l.map fun p => (Lit.int .i64 p.1, dd p.2) := by
  rw [List.filter_eq_self]
  intro p hp
  obtain ⟨q, hq, rfl⟩ := List.mem_map.1 hp
  have := h q hq
  simp [Lit.sameKey]
  omega
theorem dm_put_aux (a : Int) (b : List Int) : ∀ {l : Cs}, Asc l → DataW.insert (Lit.int .i64 a, (dd b : DataW H)) ((l.map fun p => (Lit.int .i64 p.1, (dd p.2 : DataW H))).filter fun p => !p.1.sameKey (Lit.int .i64 a)) = (insM a b l).map fun p => (Lit.int .i64 p.1, dd p.2)
  | [], _ => rfl
  | p :: r, h => by
    obtain ⟨h1, h2⟩ := List.pairwise_cons.1 h
    unfold insM
    by_cases ha : a < p.1
    · rw [if_pos ha, filter_low (fun q hq => by
        rcases List.mem_cons.1 hq with e | e
        · rw [e]; exact ha
        · have := h1 q e; omega)]
      rw [insert_low (fun q hq => by
        rcases List.mem_cons.1 hq with e | e
        · rw [e]; exact ha
        · have := h1 q e; omega)]
      rfl
    · rw [if_neg ha]
      by_cases hb : a = p.1
      · rw [if_pos hb, List.map_cons, List.filter_cons, if_neg (by simp [Lit.sameKey, hb]), filter_low (fun q hq => by have := h1 q hq; omega), insert_low (fun q hq => by have := h1 q hq; omega)]
        rfl
      · rw [if_neg hb, List.map_cons, List.filter_cons, if_pos (by simp [Lit.sameKey]; omega), DataW.insert, if_neg (by simp [Lit.before]; omega), dm_put_aux a b h2]
        rfl
theorem dm_put {l : Cs} (h : Asc l) (a : Int) (b : List Int) : (dm l : DataW H).put (.int .i64 a) (dd b) = dm (insM a b l) := by
  show DataW.map _ = _
  rw [dm_put_aux a b h]
  rfl
theorem dm_del (l : Cs) (a : Int) : (dm l : DataW H).del (.int .i64 a) = dm (delM a l) := by
  show DataW.map _ = _
  unfold dm delM
  rw [List.filter_map]
  congr 2
  apply List.filter_congr
  intro p _
  simp [Lit.sameKey]
theorem dm_find (a : Int) : ∀ l : Cs, (l.map fun p => (Lit.int .i64 p.1, (dd p.2 : DataW H))).find? (fun p => p.1.sameKey (.int .i64 a)) = (look l a).map fun b => (Lit.int .i64 a, dd b)
  | [] => rfl
  | p :: r => by
    rw [List.map_cons, List.find?_cons, look]
    by_cases h : p.1 = a
    · simp [Lit.sameKey, h]
    · rw [if_neg h, ← dm_find a r]
      simp [Lit.sameKey, h]
theorem any_find {α : Type} (f : α → Bool) : ∀ l : List α, (l.find? f).isSome = l.any f
  | [] => rfl
  | p :: r => by
    rw [List.find?_cons, List.any_cons, ← any_find f r]
    cases f p <;> rfl
theorem dm_has (l : Cs) (a : Int) : Maps.has (dm l : DataW H) (.int .i64 a) = (look l a).isSome := by
  show (l.map fun p => (Lit.int .i64 p.1, (dd p.2 : DataW H))).any (fun p => p.1.sameKey (.int .i64 a)) = _
  rw [← any_find, dm_find]
  simp
theorem dm_at (l : Cs) (a : Int) (z : List Int) : (dm l : DataW H).atKey (.int .i64 a) (dd z) = dd ((look l a).getD z) := by
  show (match (l.map fun p => (Lit.int .i64 p.1, (dd p.2 : DataW H))).find? (fun p => p.1.sameKey (.int .i64 a)) with | some p => p.2 | none => dd z) = _
  rw [dm_find]
  cases look l a <;> rfl
theorem dm_size (l : Cs) : Maps.size (dm l : DataW H) = l.length := by simp [Maps.size, dm]
end

/-! ### what a store has -/
/-- A write that is not synced: free, or with that content. -/
structure Wr where
  at_ : Int
  fr : Bool
  by_ : List Int
def zer : List Int := List.replicate 64 0
/-- What is taken behind a write. -/
def stT (t : Cs) (w : Wr) : Cs := if w.fr then (if (look t w.at_).isSome then insM w.at_ zer t else t) else insM w.at_ w.by_ t
def tkO (cs : Cs) (lo : List Wr) : Cs := lo.foldl stT cs
/-- What is synced behind a write. -/
def stS (c : Cs) (w : Wr) : Cs := if w.fr then delM w.at_ c else insM w.at_ w.by_ c
def syn (cs : Cs) (lo : List Wr) : Cs := lo.foldl stS cs
/-- A block as it is synced, put where it is taken. -/
def stF (c t : Cs) (w : Wr) : Cs := match look c w.at_ with
  | some b => insM w.at_ b t
  | none => delM w.at_ t
theorem tkO_snoc (cs : Cs) (lo : List Wr) (w : Wr) : tkO cs (lo ++ [w]) = stT (tkO cs lo) w := by simp [tkO]
theorem syn_snoc (cs : Cs) (lo : List Wr) (w : Wr) : syn cs (lo ++ [w]) = stS (syn cs lo) w := by simp [syn]
theorem asc_stT {t : Cs} (h : Asc t) (w : Wr) : Asc (stT t w) := by
  unfold stT
  split
  · split
    · exact asc_ins _ _ h
    · exact h
  · exact asc_ins _ _ h
theorem asc_stS {t : Cs} (h : Asc t) (w : Wr) : Asc (stS t w) := by
  unfold stS
  split
  · exact asc_del _ h
  · exact asc_ins _ _ h
theorem asc_stF {t : Cs} (c : Cs) (h : Asc t) (w : Wr) : Asc (stF c t w) := by
  unfold stF
  split
  · exact asc_ins _ _ h
  · exact asc_del _ h
theorem asc_tkO {cs : Cs} (h : Asc cs) (lo : List Wr) : Asc (tkO cs lo) := by
  unfold tkO
  induction lo generalizing cs with
  | nil => exact h
  | cons w r ih => exact ih (asc_stT h w)
theorem asc_syn {cs : Cs} (h : Asc cs) (lo : List Wr) : Asc (syn cs lo) := by
  unfold syn
  induction lo generalizing cs with
  | nil => exact h
  | cons w r ih => exact ih (asc_stS h w)
theorem asc_fgt {t : Cs} (c : Cs) (h : Asc t) (lo : List Wr) : Asc (lo.foldl (stF c) t) := by
  induction lo generalizing t with
  | nil => exact h
  | cons w r ih => exact ih (asc_stF c h w)
theorem look_stF (c t : Cs) (w : Wr) (a : Int) : look (stF c t w) a = if a = w.at_ then look c a else look t a := by
  unfold stF
  split
  · rename_i b hb
    rw [look_ins]
    split
    · rename_i e; rw [e, hb]
    · rfl
  · rename_i hb
    rw [look_del]
    split
    · rename_i e; rw [e, hb]
    · rfl
theorem look_fgt (c : Cs) (a : Int) (lo : List Wr) : ∀ t : Cs, look (lo.foldl (stF c) t) a = if ∃ w ∈ lo, w.at_ = a then look c a else look t a := by
  induction lo with
  | nil => intro t; simp
  | cons w r ih =>
    intro t
    rw [List.foldl_cons, ih, look_stF]
    by_cases h : ∃ w ∈ r, w.at_ = a
    · obtain ⟨x, hx, e⟩ := h
      rw [if_pos ⟨x, hx, e⟩, if_pos ⟨x, List.mem_cons_of_mem _ hx, e⟩]
    · rw [if_neg h]
      by_cases h2 : a = w.at_
      · rw [if_pos h2, if_pos ⟨w, List.mem_cons_self, h2.symm⟩]
      · rw [if_neg h2, if_neg]
        rintro ⟨x, hx, e⟩
        rcases List.mem_cons.1 hx with hx | hx
        · exact h2 (by rw [← hx]; exact e.symm)
        · exact h ⟨x, hx, e⟩
theorem look_stT {t : Cs} {w : Wr} {a : Int} (h : w.at_ ≠ a) : look (stT t w) a = look t a := by
  unfold stT
  split
  · split
    · rw [look_ins, if_neg (fun e => h e.symm)]
    · rfl
  · rw [look_ins, if_neg (fun e => h e.symm)]
theorem look_stS {t : Cs} {w : Wr} {a : Int} (h : w.at_ ≠ a) : look (stS t w) a = look t a := by
  unfold stS
  split
  · rw [look_del, if_neg (fun e => h e.symm)]
  · rw [look_ins, if_neg (fun e => h e.symm)]
theorem look_tkO {a : Int} : ∀ {lo : List Wr} {cs : Cs}, (∀ w ∈ lo, w.at_ ≠ a) → look (tkO cs lo) a = look cs a
  | [], _, _ => rfl
  | w :: r, cs, h => by
    show look (tkO (stT cs w) r) a = _
    rw [look_tkO (fun x hx => h x (List.mem_cons_of_mem _ hx)), look_stT (h w List.mem_cons_self)]
theorem look_syn {a : Int} : ∀ {lo : List Wr} {cs : Cs}, (∀ w ∈ lo, w.at_ ≠ a) → look (syn cs lo) a = look cs a
  | [], _, _ => rfl
  | w :: r, cs, h => by
    show look (syn (stS cs w) r) a = _
    rw [look_syn (fun x hx => h x (List.mem_cons_of_mem _ hx)), look_stS (h w List.mem_cons_self)]
/-- What was not synced is forgotten: what is taken is what is synced. -/
theorem fgt_is {cs c : Cs} {lo : List Wr} (h1 : Asc cs) (h2 : Asc c) (h : ∀ a, (∀ w ∈ lo, w.at_ ≠ a) → look c a = look cs a) : lo.foldl (stF c) (tkO cs lo) = c :=
  asc_ext (asc_fgt c (asc_tkO h1 lo) lo) h2 (fun a => by
    rw [look_fgt]
    split
    · rfl
    · rename_i hn
      have hn' : ∀ w ∈ lo, w.at_ ≠ a := fun w hw e => hn ⟨w, hw, e⟩
      rw [look_tkO hn', h a hn'])
/-- The writes that are kept. -/
def kpt : List Int → List Wr → List Wr
  | k :: ks, w :: ws => if k ≠ 0 then w :: kpt ks ws else kpt ks ws
  | _, _ => []
theorem kpt_sub : ∀ {ks : List Int} {lo : List Wr} {w : Wr}, w ∈ kpt ks lo → w ∈ lo
  | k :: ks, x :: ws, w, h => by
    unfold kpt at h
    split at h
    · rcases List.mem_cons.1 h with e | e
      · rw [e]; exact List.mem_cons_self
      · exact List.mem_cons_of_mem _ (kpt_sub e)
    · exact List.mem_cons_of_mem _ (kpt_sub h)
  | [], _, _, h => by simp [kpt] at h
  | _ :: _, [], _, h => by simp [kpt] at h
theorem kpt_snoc : ∀ {ks : List Int} {ws : List Wr} (k : Int) (w : Wr), ks.length = ws.length → kpt (ks ++ [k]) (ws ++ [w]) = kpt ks ws ++ (if k ≠ 0 then [w] else [])
  | [], [], k, w, _ => by
    simp only [List.nil_append, kpt]
  | [], _ :: _, _, _, h => by simp at h
  | _ :: _, [], _, _, h => by simp at h
  | a :: ks, b :: ws, k, w, h => by
    simp only [List.cons_append, kpt]
    rw [kpt_snoc k w (by simpa using h)]
    split <;> simp
/-- A write of which the first bytes alone are new. -/
def torn (w : Wr) (old : List Int) (cut : Int) : Wr := if w.fr = false ∧ 0 ≤ cut ∧ cut < 64 then { w with by_ := w.by_.take cut.toNat ++ old.drop cut.toNat } else w
theorem torn_at (w : Wr) (old : List Int) (cut : Int) : (torn w old cut).at_ = w.at_ := by
  unfold torn; split <;> rfl
theorem mem_dropL {α : Type} {x : α} {l : List α} (h : x ∈ l.dropLast) : x ∈ l := by
  rw [List.dropLast_eq_take] at h
  exact List.mem_of_mem_take h
/-- What is synced behind a crash. -/
def crs (cs : Cs) (K : List Wr) (cut : Int) : Cs := match K.getLast? with
  | none => cs
  | some w => stS (syn cs K.dropLast) (torn w ((look (syn cs K.dropLast) w.at_).getD zer) cut)
theorem asc_crs {cs : Cs} (h : Asc cs) (K : List Wr) (cut : Int) : Asc (crs cs K cut) := by
  unfold crs
  split
  · exact h
  · exact asc_stS (asc_syn h _) _
theorem look_crs {a : Int} {cs : Cs} {K : List Wr} {cut : Int} (h : ∀ w ∈ K, w.at_ ≠ a) : look (crs cs K cut) a = look cs a := by
  unfold crs
  split
  · rfl
  · rename_i w hw
    rw [look_stS (by rw [torn_at]; exact h w (List.mem_of_getLast? hw)), look_syn (fun x hx => h x (mem_dropL hx))]
theorem sync_fgt {cs : Cs} {lo : List Wr} (h : Asc cs) : lo.foldl (stF (syn cs lo)) (tkO cs lo) = syn cs lo := fgt_is h (asc_syn h lo) (fun _ q => look_syn q)
theorem crash_fgt {cs : Cs} {lo : List Wr} (h : Asc cs) (ks : List Int) (cut : Int) : lo.foldl (stF (crs cs (kpt ks lo) cut)) (tkO cs lo) = crs cs (kpt ks lo) cut :=
  fgt_is h (asc_crs h _ _) (fun _ q => look_crs (fun w hw => q w (kpt_sub hw)))
/-- A store's state: its room, what is synced, the writes that are not. -/
structure Dst where
  room : Int
  cs : Cs
  lo : List Wr
def Dst.tk (s : Dst) : Cs := tkO s.cs s.lo
/-- A block: sixty-four bytes. -/
def Blk (b : List Int) : Prop := b.length = 64 ∧ ∀ x ∈ b, 0 ≤ x ∧ x ≤ 255
def Num (a : Int) : Prop := 0 ≤ a ∧ a ≤ 1073741824
/-- All that a store has is right. -/
structure Dst.Ok (s : Dst) : Prop where
  asc : Asc s.cs
  cb : ∀ p ∈ s.cs, Num p.1 ∧ Blk p.2
  lb : ∀ w ∈ s.lo, Num w.at_ ∧ Blk w.by_ ∧ (w.fr = true → w.by_ = zer)
theorem blk_zer : Blk zer := ⟨by simp [zer], fun x hx => by simp [zer] at hx; omega⟩
theorem ins_all {P : Int × List Int → Prop} {a : Int} {b : List Int} {l : Cs} (h : ∀ p ∈ l, P p) (hn : P (a, b)) : ∀ p ∈ insM a b l, P p := fun p hp => by
  rcases ins_mem hp with e | e
  · rw [e]; exact hn
  · exact h p e
theorem del_all {P : Int × List Int → Prop} {a : Int} {l : Cs} (h : ∀ p ∈ l, P p) : ∀ p ∈ delM a l, P p := fun p hp => h p (List.mem_filter.1 hp).1
theorem stT_all {t : Cs} {w : Wr} (h : ∀ p ∈ t, Num p.1 ∧ Blk p.2) (hw : Num w.at_ ∧ Blk w.by_) : ∀ p ∈ stT t w, Num p.1 ∧ Blk p.2 := by
  unfold stT
  split
  · split
    · exact ins_all h ⟨hw.1, blk_zer⟩
    · exact h
  · exact ins_all h hw
theorem stS_all {t : Cs} {w : Wr} (h : ∀ p ∈ t, Num p.1 ∧ Blk p.2) (hw : Num w.at_ ∧ Blk w.by_) : ∀ p ∈ stS t w, Num p.1 ∧ Blk p.2 := by
  unfold stS
  split
  · exact del_all h
  · exact ins_all h hw
theorem tkO_all : ∀ {lo : List Wr} {t : Cs}, (∀ p ∈ t, Num p.1 ∧ Blk p.2) → (∀ w ∈ lo, Num w.at_ ∧ Blk w.by_) → ∀ p ∈ tkO t lo, Num p.1 ∧ Blk p.2
  | [], _, h, _ => h
  | w :: r, t, h, hw => tkO_all (lo := r) (t := stT t w) (stT_all h (hw w List.mem_cons_self)) (fun x hx => hw x (List.mem_cons_of_mem _ hx))
theorem syn_all : ∀ {lo : List Wr} {t : Cs}, (∀ p ∈ t, Num p.1 ∧ Blk p.2) → (∀ w ∈ lo, Num w.at_ ∧ Blk w.by_) → ∀ p ∈ syn t lo, Num p.1 ∧ Blk p.2
  | [], _, h, _ => h
  | w :: r, t, h, hw => syn_all (lo := r) (t := stS t w) (stS_all h (hw w List.mem_cons_self)) (fun x hx => hw x (List.mem_cons_of_mem _ hx))
theorem look_mem : ∀ {l : Cs} {a : Int} {b : List Int}, look l a = some b → (a, b) ∈ l
  | [], _, _, h => by simp [look] at h
  | p :: r, a, b, h => by
    rw [look] at h
    split at h
    · rename_i e
      cases h
      rw [← e]
      exact List.mem_cons_self
    · exact List.mem_cons_of_mem _ (look_mem h)
theorem look_blk {l : Cs} (h : ∀ p ∈ l, Num p.1 ∧ Blk p.2) (a : Int) : Blk ((look l a).getD zer) := by
  cases hb : look l a with
  | none => exact blk_zer
  | some b => exact (h _ (look_mem hb)).2
theorem blk_tear {x y : List Int} (hx : Blk x) (hy : Blk y) (n : Nat) : Blk (x.take n ++ y.drop n) := by
  refine ⟨by rw [List.length_append, List.length_take, List.length_drop, hx.1, hy.1]; omega, fun z hz => ?_⟩
  rcases List.mem_append.1 hz with e | e
  · exact hx.2 z (List.mem_of_mem_take e)
  · exact hy.2 z (List.mem_of_mem_drop e)
theorem torn_ok {w : Wr} {old : List Int} {cut : Int} (hw : Num w.at_ ∧ Blk w.by_) (ho : Blk old) : Num (torn w old cut).at_ ∧ Blk (torn w old cut).by_ := by
  unfold torn
  split
  · exact ⟨hw.1, blk_tear hw.2 ho _⟩
  · exact hw
theorem crs_all {cs : Cs} {K : List Wr} {cut : Int} (h : ∀ p ∈ cs, Num p.1 ∧ Blk p.2) (hK : ∀ w ∈ K, Num w.at_ ∧ Blk w.by_) : ∀ p ∈ crs cs K cut, Num p.1 ∧ Blk p.2 := by
  unfold crs
  split
  · exact h
  · rename_i w hw
    have h1 := syn_all (lo := K.dropLast) h (fun x hx => hK x (mem_dropL hx))
    exact stS_all h1 (torn_ok (hK w (List.mem_of_getLast? hw)) (look_blk h1 _))
end Go.Proofs.YtoamghncncalgaaGreatDoor
