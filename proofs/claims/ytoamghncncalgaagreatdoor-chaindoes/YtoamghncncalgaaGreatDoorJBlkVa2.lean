/-
  A STORE IN ITS MEMORY: its cells, its two maps, its row of writes; what a map of blocks answers, and becomes; what stays where other memory is written. Condition: fewer than a hundred thousand blocks.
  fault.New, Wrap, Of, Where, Again AND Both, at every error that a law makes: nil, or a chain of Faults about a Code or about what errors.New made. Condition: errors.errorType holds the handle of the type error.
-/
import Derived.Test.YtoamghncncalgaaGreatDoorProg
import Derived.Test.YtoamghncncalgaaGreatDoorJFramea2
import Derived.Test.YtoamghncncalgaaGreatDoorJHelda2
import Derived.WalkKit
import Derived.WalkSpells
import Derived.WalkSmall
import Derived.Below
import Derived.Maps.OwnSet
import Derived.Maps.AppendAt
import Derived.Deep.MidRow
import Derived.Deep.WholeRow
import Derived.Deep.RegionHeld3
import Derived.Deep.RegionHeldLaw
import Derived.Deep.QuietTactic
import Derived.BigQuiet
import Derived.Test.YtoamghncncalgaaGreatDoorJIsca2
namespace Go.Proofs.YtoamghncncalgaaGreatDoor
open Go.RowKit Go.Maps

def unb : List Value → Option (List Int)
  | [] => some []
  | .int .u8 x :: r => (unb r).map (x :: ·)
  | _ :: _ => none
theorem unb_bv : ∀ b : List Int, unb (bv b) = some b
  | [] => rfl
  | x :: r => by
    show (unb (bv r)).map (x :: ·) = _
    rw [unb_bv r]
    rfl
theorem unb_inv : ∀ {l : List Value} {b : List Int}, unb l = some b → l = bv b
  | [], b, h => by cases h; rfl
  | v :: r, b, h => by
    unfold unb at h
    split at h
    · rename_i e; cases e
    · rename_i x r' e
      cases e
      cases hr : unb r with
      | none => rw [hr] at h; cases h
      | some c =>
        rw [hr] at h
        cases h
        rw [unb_inv hr]
        rfl
    · cases h
/-- How a block's value reads. -/
def rdB (v : Value) : Option (DataW Unit × List MemPlace) := match v with
  | .agg cs => (unb cs.toList).map fun b => (dd b, [])
  | _ => none
theorem rdB_mk (b : List Int) : rdB (.agg (bv b).toArray) = some (dd b, []) := by
  show (unb (bv b)).map _ = _
  rw [unb_bv]
  rfl
theorem rdB_inv {v : Value} {b : List Int} {ps : List MemPlace} (h : rdB v = some (dd b, ps)) : v = .agg (bv b).toArray := by
  cases v <;> try (cases h; done)
  rename_i cs
  cases hc : unb cs.toList with
  | none => simp only [rdB, hc] at h; cases h
  | some c =>
    simp only [rdB, hc, Option.map_some, Option.some.injEq, Prod.mk.injEq] at h
    have e := dd_inj h.1
    subst e
    have := unb_inv hc
    rw [show cs = cs.toList.toArray by simp, this]
theorem keyI : Keyed Tryz.prog 3 := int_keyed Tryz.underlying3
theorem key_num {a : Int} (h : Num a) : keyOf Tryz.prog 3 (.int .i64 a) = some (.int .i64 a) := keyOf_int_mk Tryz.underlying3 (WalkArith.wf_i64 (by have := h.1; have := h.2; omega))
theorem zeroB (w : World) : (zeroValue 101).run Tryz.prog w = .ok (.agg (bv zer).toArray) w := by kernel_rfl
theorem infoBl : (Tryz.prog.info? 101).map (·.size) = some 64 := by kernel_rfl
theorem infoWr : (Tryz.prog.info? 103).map (·.size) = some 66 := by kernel_rfl
theorem own_tight {P : Program} {k : TypeId} {R : Value → Option (DataW Unit × List MemPlace)} {W : World} {b n : Nat} {D : DataW Unit} (h : W.ownsMap P k R b n D) : W.ownsMap P k R b (Maps.size D) D := by
  obtain ⟨es, clock, hb, F, hs, hD⟩ := h
  refine ⟨es, clock, hb, F, ?_, hD⟩
  rw [hD]
  simp [Maps.size, length_sorted]
/-- The map in block b has just these blocks. -/
def Mp (W : World) (b : Nat) (l : Cs) : Prop := W.ownsMap Tryz.prog 3 rdB b l.length (dm l)
section
variable {W W' : World} {b : Nat} {l : Cs}
theorem mp_of {n : Nat} (h : W.ownsMap Tryz.prog 3 rdB b n (dm l)) : Mp W b l := by
  have := own_tight h
  rwa [dm_size] at this
theorem mp_new (W : World) : Mp (W.alloc (.map #[] 0)) W.heap.size [] := World.ownsMap_made W _ _ _
theorem Mp.lt (h : Mp W b l) : b < W.heap.size := World.ownsMap.lt h
theorem Mp.keep (h : Mp W b l) (hb : W'.heap[b]? = W.heap[b]?) : Mp W' b l := by
  obtain ⟨es, clock, h1, h2⟩ := h
  exact ⟨es, clock, hb.trans h1, h2⟩
theorem Mp.look (h : Mp W b l) {a : Int} (ha : Num a) : (Instr.lookup 78 (.map (some b)) (.int .i64 a) false).run Tryz.prog W = .ok (.agg (bv ((look l a).getD zer)).toArray) W := by
  obtain ⟨v, ps, h1, h2⟩ := World.ownsMap.lookup h keyI Tryz.underlying78 (zeroB W) (rdB_mk zer) (key_num ha)
  rw [dm_at] at h2
  rw [h1, rdB_inv h2]
theorem Mp.lookOk (h : Mp W b l) {a : Int} (ha : Num a) : (Instr.lookup 78 (.map (some b)) (.int .i64 a) true).run Tryz.prog W = .ok (.tuple #[.agg (bv ((Go.Proofs.YtoamghncncalgaaGreatDoor.look l a).getD zer)).toArray, .bool (Go.Proofs.YtoamghncncalgaaGreatDoor.look l a).isSome]) W := by
  obtain ⟨v, ps, h1, h2⟩ := World.ownsMap.look_ok h keyI Tryz.underlying78 (zeroB W) (rdB_mk zer) (key_num ha)
  rw [dm_at] at h2
  rw [h1, rdB_inv h2, dm_has]
theorem Mp.put (h : Mp W b l) (hl : Asc l) (hn : l.length < 100000) {a : Int} (ha : Num a) (c : List Int) : ∃ W', (Instr.mapUpdate 78 (.map (some b)) (.int .i64 a) (.agg (bv c).toArray)).run Tryz.prog W = .ok () W' ∧ Mp W' b (insM a c l) ∧ W.grownBy W' (some b) ∧ ∀ x, W'.frozen? x = W.frozen? x := by
  obtain ⟨W', h1, h2, h3⟩ := World.ownsMap.store h keyI Tryz.underlying78 (by unfold maxLen; omega) (key_num ha) (rdB_mk c)
  rw [dm_put hl] at h2
  exact ⟨W', h1, mp_of h2, h3.grown, h3.frozen⟩
theorem Mp.del (h : Mp W b l) {a : Int} (ha : Num a) (ty : TypeId) : ∃ W', (Builtin.delete_ #[78, 3] ty #[.map (some b), .int .i64 a]).run Tryz.prog W = .ok (.tuple #[]) W' ∧ Mp W' b (delM a l) ∧ W.grownBy W' (some b) ∧ ∀ x, W'.frozen? x = W.frozen? x := by
  obtain ⟨W', h1, h2, h3⟩ := World.ownsMap.drop h keyI Tryz.underlying78 (key_num ha) ty
  rw [dm_del] at h2
  exact ⟨W', h1, mp_of h2, h3.grown, h3.frozen⟩
theorem Mp.len (h : Mp W b l) (ty : TypeId) : (Builtin.len_ #[78] ty #[.map (some b)]).run Tryz.prog W = .ok (.int .i64 l.length) W := by
  have := World.ownsMap.len h Tryz.underlying78 ty
  rwa [dm_size] at this
theorem Mp.noCell (h : Mp W b l) (i : Nat) : W.cell? ⟨b, i, none⟩ = none := by
  obtain ⟨es, clock, h1, _⟩ := h
  simp [World.cell?, h1]
end

/-! ### all but some blocks -/
structure Ba (p : Nat → Prop) (w w' : World) : Prop where
  os : w'.os = w.os
  tape : w'.tape = w.tape
  output : w'.output = w.output
  size : w.heap.size ≤ w'.heap.size
  block : ∀ k, k < w.heap.size → ¬ p k → w'.heap[k]? = w.heap[k]?
theorem Ba.refl (p : Nat → Prop) (w : World) : Ba p w w := ⟨rfl, rfl, rfl, Nat.le_refl _, fun _ _ _ => rfl⟩
theorem Ba.trans {p q : Nat → Prop} {a b c : World} (h : Ba p a b) (k : Ba q b c) (hq : ∀ i, i < a.heap.size → q i → p i) : Ba p a c :=
  ⟨k.os.trans h.os, k.tape.trans h.tape, k.output.trans h.output, Nat.le_trans h.size k.size, fun i hi hp => (k.block i (Nat.lt_of_lt_of_le hi h.size) (fun e => hp (hq i hi e))).trans (h.block i hi hp)⟩
theorem Ba.of {p : Nat → Prop} {a b : World} (k : Below a.heap.size a b) : Ba p a b := ⟨k.os, k.tape, k.output, k.size, fun i hi _ => k.block i hi⟩
theorem Ba.call {p : Nat → Prop} {a b c : World} (h : Ba p a b) (k : Below b.heap.size b c) : Ba p a c := h.trans (Ba.of k) (fun _ _ e => e)
theorem Ba.grown {p : Nat → Prop} {a b c : World} {row : Option Nat} (h : Ba p a b) (k : b.grownBy c row) (hr : ∀ i, i < a.heap.size → row = some i → p i) : Ba p a c :=
  ⟨k.os.trans h.os, k.tape.trans h.tape, k.output.trans h.output, Nat.le_trans h.size k.size, fun i hi hp => (k.block i (Nat.lt_of_lt_of_le hi h.size) (fun e => hp (hr i hi e.symm))).trans (h.block i hi hp)⟩
theorem Ba.set {p : Nat → Prop} {a b : World} (h : Ba p a b) {g : Nat} (hg : g < a.heap.size → p g) (i : Nat) (x : Value) : Ba p a (b.setCell ⟨g, i, none⟩ x) :=
  h.trans (q := fun k => k = g) ⟨rfl, rfl, rfl, by simp [World.setCell], fun k _ hk => Below.heap_setCell _ _ _ _ hk⟩ (fun i hi e => by subst e; exact hg hi)
theorem Ba.below {p : Nat → Prop} {B : Nat} {a b : World} (h : Ba p a b) (hB : B ≤ a.heap.size) (hp : ∀ k, p k → B ≤ k) : Below B a b := ⟨h.os, h.tape, h.output, h.size, fun k hk => h.block k (by omega) (fun e => by have := hp k e; omega)⟩
theorem Ba.cell {p : Nat → Prop} {a b : World} (h : Ba p a b) {k : Nat} (hk : k < a.heap.size) (hp : ¬ p k) (i : Nat) : b.cell? ⟨k, i, none⟩ = a.cell? ⟨k, i, none⟩ := World.cell?_of_block (h.block k hk hp)

/-! ### writes in a row -/
def wcl (w : Wr) : List Value := .int .i64 w.at_ :: .bool w.fr :: bv w.by_
def wcs (lo : List Wr) : List Value := lo.flatMap wcl
theorem bv_len (b : List Int) : (bv b).length = b.length := by simp [bv]
theorem wcl_len {w : Wr} (h : Blk w.by_) : (wcl w).length = 66 := by simp [wcl, bv_len, h.1]
theorem bv_one (b : List Int) : ∀ u ∈ bv b, u.oneCell' = true := fun u hu => by
  obtain ⟨x, _, rfl⟩ := List.mem_map.1 hu
  rfl
theorem wcl_one (w : Wr) : ∀ u ∈ wcl w, u.oneCell' = true := fun u hu => by
  rcases List.mem_cons.1 hu with e | e
  · rw [e]; rfl
  · rcases List.mem_cons.1 e with e | e
    · rw [e]; rfl
    · exact bv_one _ u e
theorem wcs_cons (w : Wr) (lo : List Wr) : wcs (w :: lo) = wcl w ++ wcs lo := by simp [wcs]
theorem wcs_app (a b : List Wr) : wcs (a ++ b) = wcs a ++ wcs b := by simp [wcs, List.flatMap_append]
theorem wcs_one (w : Wr) : wcs [w] = wcl w := by simp [wcs]
theorem wcs_len : ∀ {lo : List Wr}, (∀ w ∈ lo, Blk w.by_) → (wcs lo).length = lo.length * 66
  | [], _ => rfl
  | w :: r, h => by
    rw [wcs_cons, List.length_append, wcl_len (h w List.mem_cons_self), wcs_len (fun x hx => h x (List.mem_cons_of_mem _ hx)), List.length_cons]
    omega
theorem wcs_all (lo : List Wr) : ∀ u ∈ wcs lo, u.oneCell' = true := fun u hu => by
  obtain ⟨w, _, h⟩ := List.mem_flatMap.1 hu
  exact wcl_one w u h
theorem wcs_get : ∀ {lo : List Wr}, (∀ w ∈ lo, Blk w.by_) → ∀ (i : Nat) (h : i < lo.length) (j : Nat) (u : Value), (wcl lo[i])[j]? = some u → (wcs lo)[i * 66 + j]? = some u
  | [], _, i, h, _, _, _ => by simp at h
  | w :: r, hb, 0, _, j, u, hj => by
    have hl : j < (wcl w).length := (List.getElem?_eq_some_iff.1 hj).1
    rw [wcs_cons, Nat.zero_mul, Nat.zero_add, List.getElem?_append_left hl]
    exact hj
  | w :: r, hb, i + 1, h, j, u, hj => by
    rw [wcs_cons, List.getElem?_append_right (by rw [wcl_len (hb w List.mem_cons_self)]; omega), wcl_len (hb w List.mem_cons_self), show (i + 1) * 66 + j - 66 = i * 66 + j by omega]
    exact wcs_get (fun x hx => hb x (List.mem_cons_of_mem _ hx)) i (by simpa using h) j u hj
theorem range_wr {W : World} {b o : Nat} {lo : List Wr} (hb : ∀ w ∈ lo, Blk w.by_) (h : W.rangeAt b o (wcs lo)) {i : Nat} (hi : i < lo.length) : W.rangeAt b (o + i * 66) (wcl lo[i]) := fun j u hu => by
  rw [Nat.add_assoc]
  exact h _ u (wcs_get hb i hi j u hu)
/-- A row of writes of its own. -/
def Lo (W : World) (u : Value) (lo : List Wr) : Prop := W.ownsRow 0 103 66 u lo.length (wcs lo)
theorem Lo.nil (W : World) : Lo W (.slice none 0 0) [] := World.ownsRow_nil _ _ _ _
theorem Lo.form {W : World} {u : Value} {lo : List Wr} (h : Lo W u lo) : ∃ ao cap, u = .slice ao lo.length cap := by
  rcases h.2 with ⟨rfl, h0⟩ | ⟨g, cap, cur, rfl, _⟩
  · rw [h0]; exact ⟨_, _, rfl⟩
  · exact ⟨_, _, rfl⟩
theorem Lo.rg {W : World} {ao : Option Addr} {n cap : Nat} {lo : List Wr} (h : Lo W (.slice ao n cap) lo) (h0 : 0 < lo.length) : ∃ g, ao = some ⟨g, 0, none⟩ ∧ n = lo.length ∧ lo.length ≤ cap ∧ W.rangeAt g 0 (wcs lo) := by
  obtain ⟨h1, h2⟩ := h
  rcases h2 with ⟨_, hn⟩ | ⟨g, cap', cur, e, a2, a3, a4, a5, a6, a7⟩
  · omega
  · cases e
    refine ⟨g, rfl, rfl, a4, fun j u hu => ?_⟩
    have hj : j < (wcs lo).length := (List.getElem?_eq_some_iff.1 hu).1
    rw [← a7] at hu
    rw [List.getElem?_take_of_lt (by omega)] at hu
    simp only [World.cell?, a3, Nat.zero_add]
    simpa using hu
theorem Lo.keep {W W' : World} {u : Value} {lo : List Wr} (h : Lo W u lo) (hb : ∀ k, u.ownBlock = some k → W'.heap[k]? = W.heap[k]?) : Lo W' u lo := by
  obtain ⟨h1, h2⟩ := h
  refine ⟨h1, ?_⟩
  rcases h2 with h2 | ⟨g, cap, cur, a1, a2, a3, a4⟩
  · exact .inl h2
  · exact .inr ⟨g, cap, cur, a1, a2, (hb g (by rw [a1]; rfl)).trans a3, a4⟩
theorem Lo.lt {W : World} {u : Value} {lo : List Wr} (h : Lo W u lo) {k : Nat} (hk : u.ownBlock = some k) : k < W.heap.size := (World.ownsRow.lt h k hk).2
theorem Lo.cells {W : World} {u : Value} {lo : List Wr} (h : Lo W u lo) {k : Nat} (hk : u.ownBlock = some k) : ∃ cur, W.heap[k]? = some (.cells cur 103 (0, 0)) := by
  rcases h.2 with ⟨rfl, _⟩ | ⟨g, cap, cur, rfl, a2, a3, _⟩
  · cases hk
  · cases hk; exact ⟨cur, a3⟩

/-! ### a store -/
/-- The blocks that a store lies in. -/
def Own (d bS bT : Nat) (u : Value) (k : Nat) : Prop := k = d ∨ k = bS ∨ k = bT ∨ u.ownBlock = some k
structure Dk (W : World) (d bS bT : Nat) (u : Value) (s : Dst) (tk : Cs) (lo : List Wr) : Prop where
  c0 : W.cell? ⟨d, 0, none⟩ = some (.int .i64 s.room)
  c1 : W.cell? ⟨d, 1, none⟩ = some (.map (some bS))
  c2 : W.cell? ⟨d, 2, none⟩ = some (.map (some bT))
  c3 : W.cell? ⟨d, 3, none⟩ = some u
  fz : ∀ i, W.frozen? ⟨d, i, none⟩ = false
  ms : Mp W bS s.cs
  mt : Mp W bT tk
  ro : Lo W u lo
  ne : bS ≠ bT
  du : u.ownBlock ≠ some d
section
variable {W W' : World} {d bS bT : Nat} {u u' : Value} {s : Dst} {tk : Cs} {lo : List Wr}
theorem Dk.dl (h : Dk W d bS bT u s tk lo) : d < W.heap.size := cell_block h.c0
theorem Dk.ds (h : Dk W d bS bT u s tk lo) : d ≠ bS := fun e => by have := h.ms.noCell 0; rw [← e, h.c0] at this; cases this
theorem Dk.dt (h : Dk W d bS bT u s tk lo) : d ≠ bT := fun e => by have := h.mt.noCell 0; rw [← e, h.c0] at this; cases this
theorem mp_row {b : Nat} {l : Cs} (h : Mp W b l) (hr : Lo W u lo) : u.ownBlock ≠ some b := fun e => by
  obtain ⟨cur, h1⟩ := hr.cells e
  obtain ⟨es, clock, h2, _⟩ := h
  rw [h1] at h2
  cases h2
theorem Dk.us (h : Dk W d bS bT u s tk lo) : u.ownBlock ≠ some bS := mp_row h.ms h.ro
theorem Dk.ut (h : Dk W d bS bT u s tk lo) : u.ownBlock ≠ some bT := mp_row h.mt h.ro
theorem Dk.lt (h : Dk W d bS bT u s tk lo) {k : Nat} (hk : Own d bS bT u k) : k < W.heap.size := by
  rcases hk with e | e | e | e
  · rw [e]; exact h.dl
  · rw [e]; exact h.ms.lt
  · rw [e]; exact h.mt.lt
  · exact h.ro.lt e
theorem Dk.keep (h : Dk W d bS bT u s tk lo) (hk : ∀ k, Own d bS bT u k → W'.heap[k]? = W.heap[k]?) : Dk W' d bS bT u s tk lo := by
  have hd := hk d (.inl rfl)
  have hc : ∀ i, W'.cell? ⟨d, i, none⟩ = W.cell? ⟨d, i, none⟩ := fun i => World.cell?_of_block hd
  exact ⟨(hc 0).trans h.c0, (hc 1).trans h.c1, (hc 2).trans h.c2, (hc 3).trans h.c3, fun i => (World.frozen?_of_block (a := ⟨d, i, none⟩) hd).trans (h.fz i), h.ms.keep (hk bS (.inr (.inl rfl))), h.mt.keep (hk bT (.inr (.inr (.inl rfl)))), h.ro.keep (fun k e => hk k (.inr (.inr (.inr e)))), h.ne, h.du⟩
theorem Dk.below (h : Dk W d bS bT u s tk lo) (hb : Below W.heap.size W W') : Dk W' d bS bT u s tk lo := h.keep (fun k e => hb.block k (h.lt e))
theorem Dk.drew (h : Dk W d bS bT u s tk lo) : Dk W.drew d bS bT u s tk lo := h.below (Below.refl _ _).drew
/-- The synced map has turned. -/
theorem Dk.putS {cs : Cs} (h : Dk W d bS bT u s tk lo) (hg : W.grownBy W' (some bS)) (hm : Mp W' bS cs) : Dk W' d bS bT u { s with cs := cs } tk lo := by
  have hb : ∀ k, k < W.heap.size → k ≠ bS → W'.heap[k]? = W.heap[k]? := fun k hk hn => hg.block k hk (fun e => hn (by cases e; rfl))
  have hd := hb d h.dl h.ds
  have hc : ∀ i, W'.cell? ⟨d, i, none⟩ = W.cell? ⟨d, i, none⟩ := fun i => World.cell?_of_block hd
  exact ⟨(hc 0).trans h.c0, (hc 1).trans h.c1, (hc 2).trans h.c2, (hc 3).trans h.c3, fun i => (World.frozen?_of_block (a := ⟨d, i, none⟩) hd).trans (h.fz i), hm, h.mt.keep (hb bT h.mt.lt (fun e => h.ne e.symm)), h.ro.keep (fun k e => hb k (h.ro.lt e) (fun q => h.us (by rw [← q]; exact e))), h.ne, h.du⟩
/-- The map of what is taken has turned. -/
theorem Dk.putT {tk' : Cs} (h : Dk W d bS bT u s tk lo) (hg : W.grownBy W' (some bT)) (hm : Mp W' bT tk') : Dk W' d bS bT u s tk' lo := by
  have hb : ∀ k, k < W.heap.size → k ≠ bT → W'.heap[k]? = W.heap[k]? := fun k hk hn => hg.block k hk (fun e => hn (by cases e; rfl))
  have hd := hb d h.dl h.dt
  have hc : ∀ i, W'.cell? ⟨d, i, none⟩ = W.cell? ⟨d, i, none⟩ := fun i => World.cell?_of_block hd
  exact ⟨(hc 0).trans h.c0, (hc 1).trans h.c1, (hc 2).trans h.c2, (hc 3).trans h.c3, fun i => (World.frozen?_of_block (a := ⟨d, i, none⟩) hd).trans (h.fz i), h.ms.keep (hb bS h.ms.lt h.ne), hm, h.ro.keep (fun k e => hb k (h.ro.lt e) (fun q => h.ut (by rw [← q]; exact e))), h.ne, h.du⟩
/-- Another row of writes, in the world behind an append, is stored. -/
theorem Dk.putL {lo' : List Wr} (h : Dk W d bS bT u s tk lo) (hg : W.grownBy W' u.ownBlock) (hr : Lo W' u' lo') (hu : u'.ownBlock = u.ownBlock ∨ ∀ k, u'.ownBlock = some k → W.heap.size ≤ k) : Dk (W'.setCell ⟨d, 3, none⟩ u') d bS bT u' s tk lo' := by
  have hb : ∀ k, k < W.heap.size → u.ownBlock ≠ some k → W'.heap[k]? = W.heap[k]? := fun k hk hn => hg.block k hk (fun e => hn e.symm)
  have hd := hb d h.dl h.du
  have hc : ∀ i, W'.cell? ⟨d, i, none⟩ = W.cell? ⟨d, i, none⟩ := fun i => World.cell?_of_block hd
  have hs : ∀ i, i ≠ 3 → (W'.setCell ⟨d, 3, none⟩ u').cell? ⟨d, i, none⟩ = W.cell? ⟨d, i, none⟩ := fun i hi => (World.cell?_setCell_other _ _ _ _ (fun q => hi (congrArg Addr.off q).symm)).trans (hc i)
  have hn : u'.ownBlock ≠ some d := by
    rcases hu with e | e
    · rw [e]; exact h.du
    · intro q; have := e d q; have := h.dl; omega
  have hk : ∀ k, k ≠ d → (W'.setCell ⟨d, 3, none⟩ u').heap[k]? = W'.heap[k]? := fun k hk => Below.heap_setCell _ _ _ _ hk
  exact ⟨(hs 0 (by decide)).trans h.c0, (hs 1 (by decide)).trans h.c1, (hs 2 (by decide)).trans h.c2, World.cell?_setCell_same _ _ _ ((hc 3).trans h.c3), fun i => by
      have := (World.frozen?_of_block (a := ⟨d, i, none⟩) hd).trans (h.fz i)
      simp [this], h.ms.keep ((hk bS (fun e => h.ds e.symm)).trans (hb bS h.ms.lt h.us)), h.mt.keep ((hk bT (fun e => h.dt e.symm)).trans (hb bT h.mt.lt h.ut)), hr.keep (fun k e => hk k (fun q => hn (by rw [← q]; exact e))), h.ne, hn⟩
end
/-- What a call has turned of the memory: the store's own blocks, and new ones. -/
structure Dx (d bS bT : Nat) (u : Value) (w w' : World) (u' : Value) : Prop where
  ba : Ba (Own d bS bT u) w w'
  bl : ∀ k, u'.ownBlock = some k → u.ownBlock = some k ∨ w.heap.size ≤ k
section
variable {d bS bT : Nat} {u u' u'' : Value} {w w' w'' : World}
theorem Dx.refl : Dx d bS bT u w w u := ⟨Ba.refl _ _, fun _ h => .inl h⟩
theorem Dx.trans (h : Dx d bS bT u w w' u') (k : Dx d bS bT u' w' w'' u'') : Dx d bS bT u w w'' u'' :=
  ⟨h.ba.trans k.ba (fun i hi e => by
    rcases e with e | e | e | e
    · exact .inl e
    · exact .inr (.inl e)
    · exact .inr (.inr (.inl e))
    · rcases h.bl i e with q | q
      · exact .inr (.inr (.inr q))
      · omega), fun i e => by
    rcases k.bl i e with q | q
    · exact h.bl i q
    · exact .inr (Nat.le_trans h.ba.size q)⟩
theorem Dx.of (k : Below w.heap.size w w') : Dx d bS bT u w w' u := ⟨Ba.of k, fun _ h => .inl h⟩
theorem Dx.call (h : Dx d bS bT u w w' u') (k : Below w'.heap.size w' w'') : Dx d bS bT u w w'' u' := h.trans (Dx.of k)
theorem Dx.turnS (h : Dx d bS bT u w w' u') (k : w'.grownBy w'' (some bS)) : Dx d bS bT u w w'' u' := ⟨h.ba.grown k (fun i _ e => by cases e; exact .inr (.inl rfl)), h.bl⟩
theorem Dx.turnT (h : Dx d bS bT u w w' u') (k : w'.grownBy w'' (some bT)) : Dx d bS bT u w w'' u' := ⟨h.ba.grown k (fun i _ e => by cases e; exact .inr (.inr (.inl rfl))), h.bl⟩
theorem Dx.turnL (h : Dx d bS bT u w w' u') (k : w'.grownBy w'' u'.ownBlock) (hu : u''.ownBlock = u'.ownBlock ∨ ∀ k, u''.ownBlock = some k → w'.heap.size ≤ k) : Dx d bS bT u w (w''.setCell ⟨d, 3, none⟩ u'') u'' :=
  ⟨(h.ba.grown k (fun i hi e => by
      rcases h.bl i e with q | q
      · exact .inr (.inr (.inr q))
      · omega)).set (fun _ => .inl rfl) _ _, fun i e => by
    rcases hu with q | q
    · exact h.bl i (by rw [← q]; exact e)
    · exact .inr (Nat.le_trans h.ba.size (q i e))⟩
theorem Dx.cell (h : Dx d bS bT u w w' u') {k : Nat} (hk : k < w.heap.size) (hp : ¬ Own d bS bT u k) (i : Nat) : w'.cell? ⟨k, i, none⟩ = w.cell? ⟨k, i, none⟩ := h.ba.cell hk hp i
theorem Dx.own (h : Dx d bS bT u w w' u') {k : Nat} (hk : k < w.heap.size) (hp : ¬ Own d bS bT u k) : ¬ Own d bS bT u' k := fun e => by
  rcases e with e | e | e | e
  · exact hp (.inl e)
  · exact hp (.inr (.inl e))
  · exact hp (.inr (.inr (.inl e)))
  · rcases h.bl k e with q | q
    · exact hp (.inr (.inr (.inr q)))
    · omega
end
end Go.Proofs.YtoamghncncalgaaGreatDoor
namespace Go.Proofs.YtoamghncncalgaaGreatDoor
open Go.RowKit Go.Extern.Stop Go.Stop Go.Extern

theorem new_any (op : ByteArray) (a c : Int) (w : World) :
    Calls Tryz.prog 32 #[.string op, .int .i64 a, .int .i64 c] w fun e w' => e = .returned (.iface 120 (.agg #[.string op, .int .i64 a, .iface 40 (.int .i64 c)])) ∧ w' = w := by
  go_enter Tryz.func32, Tryz.ntmps32
  go_wp2
  go_ret
  exact ⟨rfl, rfl⟩
theorem wrap_nil (op : ByteArray) (a : Int) (w : World) :
    Calls Tryz.prog 40 #[.string op, .int .i64 a, .nilIface] w fun e w' => e = .returned .nilIface ∧ w' = w := by
  go_enter Tryz.func40, Tryz.ntmps40
  go_wp2
  go_ret
  exact ⟨rfl, rfl⟩
theorem wrap_some (op : ByteArray) (a : Int) (t : TypeId) (v : Value) (w : World) :
    Calls Tryz.prog 40 #[.string op, .int .i64 a, .iface t v] w fun e w' => e = .returned (.iface 120 (.agg #[.string op, .int .i64 a, .iface t v])) ∧ w' = w := by
  go_enter Tryz.func40, Tryz.ntmps40
  go_wp2
  go_ret
  exact ⟨rfl, rfl⟩

/-- An error as a law makes it: none, or the steps and the Code. -/
def ev (x : Option (List (ByteArray × Int) × Int)) : Value := match x with
  | none => .nilIface
  | some (l, c) => chn l (bse c)
def ofV (x : Option (List (ByteArray × Int) × Int)) : Int := match x with
  | none => 0
  | some (_, k) => k
def isV (x : Option (List (ByteArray × Int) × Int)) (q : Int) : Bool := match x with
  | none => false
  | some (_, c) => isB c q
def stV (x : Option (List (ByteArray × Int) × Int)) : List (ByteArray × Int) := match x with
  | none => []
  | some (l, _) => l
def atV (l : List (ByteArray × Int)) : Int := match l with
  | [] => 0
  | s :: _ => s.2
def inV (l : List (ByteArray × Int)) : Bool := match l with
  | [] => false
  | _ :: _ => true
def agV (x : Option (List (ByteArray × Int) × Int)) : Option (List (ByteArray × Int) × Int) := match x with
  | none => none
  | some (l, c) => some (l.tail, c)
def boV (x y : Option (List (ByteArray × Int) × Int)) : Option (List (ByteArray × Int) × Int) := match x, y with
  | none, y => y
  | x, none => x
  | some (l, c), some y => some ((⟨#[98, 111, 116, 104]⟩, ofV (some y)) :: l, c)

theorem of_nil (w : World) : Calls Tryz.prog 12 #[.nilIface] w fun e w' => e = .returned (.int .i64 0) ∧ Below w.heap.size w w' := by
  go_enter Tryz.func12, Tryz.ntmps12
  go_wp2
  go_ret
  exact ⟨rfl, Below.refl _ _⟩
set_option maxHeartbeats 4000000 in
theorem of_chn (l : List (ByteArray × Int)) (c : Int) (w : World) (hg : Hnd w) :
    Calls Tryz.prog 12 #[chn l (bse c)] w fun e w' => e = .returned (.int .i64 (ofV (some (l, c)))) ∧ Below w.heap.size w w' := by
  obtain ⟨ty, v, hv⟩ := chn_form l c
  have hc := outC_some l c w hg
  rw [hv] at hc ⊢
  have HC := hide hc
  clear hc hv hg
  go_enter Tryz.func12, Tryz.ntmps12
  go_wp2_with (first | (go_at_call 44; refine (HC.out).mono ?_; rintro e w' ⟨rfl, hb⟩))
  go_ret
  exact ⟨rfl, hb⟩
theorem of_ev (x : Option (List (ByteArray × Int) × Int)) (w : World) (hg : Hnd w) :
    Calls Tryz.prog 12 #[ev x] w fun e w' => e = .returned (.int .i64 (ofV x)) ∧ Below w.heap.size w w' := by
  rcases x with _ | ⟨l, c⟩
  · exact of_nil w
  · exact of_chn l c w hg
theorem is_ev (x : Option (List (ByteArray × Int) × Int)) (q : Int) (w : World) :
    Calls Tryz.prog 30 #[ev x, .int .i64 q] w fun e w' => e = .returned (.bool (isV x q)) ∧ Below w.heap.size w w' := by
  rcases x with _ | ⟨l, c⟩
  · exact is_nil q w
  · exact is_chn l c q w




end Go.Proofs.YtoamghncncalgaaGreatDoor
