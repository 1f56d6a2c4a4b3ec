/-
  RECORDS IN A ROW, EIGHTEEN CELLS EACH, AND BATCHES: their cells; what stays where other memory is written. No condition.
  RECORDS IN A ROW, AND A BATCH, THAT CAME IN, OPENED: they lie in their cells. No condition of its own.
  ROWS OF ELEMENTS OF SEVERAL CELLS, WHATEVER THE ELEMENTS: a slice that holds some, to be read; its parts; a row of a call's own, and more behind it. Conditions: no more than two thousand million elements of no more than 300 bytes.
-/
import Derived.Test.YtfnemlbkmhcodaaGreatJRecVa3
import Derived.Deep.Strs
import Derived.Test.YtfnemlbkmhcodaaGreatJSlca3
import Derived.Maps.AppendAt
import Derived.OwnWalk
import Derived.Deep.AppendSrc
import Derived.Deep.MidRow
namespace Go.Proofs.YtfnemlbkmhcodaaGreat
open Go.RowKit

/-- Where the four rows of a record lie. -/
structure Pl where
  a14 : Option Addr
  a15 : Option Addr
  a16 : Option Addr
  a17 : Option Addr
  c14 : Nat
  c15 : Nat
  c16 : Nat
  c17 : Nat
abbrev Rp := Rc × Pl
/-- A record's cells. -/
def cel (p : Rp) : List Value := cellsR p.1 p.2.a14 p.2.a15 p.2.a16 p.2.a17 p.2.c14 p.2.c15 p.2.c16 p.2.c17
def RwP (ok : Nat → Prop) (W : World) (p : Rp) : Prop := RwsR ok W p.1 p.2.a14 p.2.a15 p.2.a16 p.2.a17 p.2.c14 p.2.c15 p.2.c16 p.2.c17
theorem cel_len (p : Rp) : (cel p).length = 18 := rfl
theorem cel_one (p : Rp) : ∀ u ∈ cel p, u.oneCell' = true := fun v hv => by
  simp only [cel, cellsR, List.mem_cons, List.not_mem_nil, or_false] at hv
  rcases hv with rfl | rfl | rfl | rfl | rfl | rfl | rfl | rfl | rfl | rfl | rfl | rfl | rfl | rfl | rfl | rfl | rfl | rfl <;> rfl
theorem cel_all (p : Rp) : (cel p).toArray.all (·.oneCell') = true := all_oneCell_toArray (cel_one p)
theorem RwP.is {ok : Nat → Prop} {W : World} {p : Rp} (h : RwP ok W p) : IsR ok W (.agg (cel p).toArray) p.1 := ⟨_, _, _, _, _, _, _, _, rfl, h⟩
theorem RwP.imp {ok ok' : Nat → Prop} {W W' : World} {p : Rp} (h : RwP ok W p) (hk : ∀ b, b < W.heap.size → ok b → ok' b) (hc : ∀ b i, b < W.heap.size → ok b → W'.cell? ⟨b, i, none⟩ = W.cell? ⟨b, i, none⟩) : RwP ok' W' p :=
  ⟨h.h14.imp hk hc, h.h15.imp hk hc, h.h16.imp hk hc, h.h17.imp hk hc⟩
theorem RwP.below {ok : Nat → Prop} {W W' : World} {p : Rp} (h : RwP ok W p) (hb : Below W.heap.size W W') : RwP ok W' p := RwsR.below h hb
theorem isR_rp {ok : Nat → Prop} {W : World} {v : Value} {r : Rc} (h : IsR ok W v r) : ∃ p : Rp, p.1 = r ∧ v = .agg (cel p).toArray ∧ RwP ok W p := by
  obtain ⟨a14, a15, a16, a17, c14, c15, c16, c17, h1, h2⟩ := h
  exact ⟨(r, ⟨a14, a15, a16, a17, c14, c15, c16, c17⟩), rfl, h1, h2⟩
/-- The cells of records, one behind the other. -/
def rcs (ps : List Rp) : List Value := ps.flatMap cel
theorem rcs_cons (p : Rp) (ps : List Rp) : rcs (p :: ps) = cel p ++ rcs ps := by simp [rcs]
theorem rcs_app (ps qs : List Rp) : rcs (ps ++ qs) = rcs ps ++ rcs qs := by simp [rcs, List.flatMap_append]
theorem rcs_one (p : Rp) : rcs [p] = cel p := by simp [rcs]
theorem rcs_len (ps : List Rp) : (rcs ps).length = ps.length * 18 := by
  induction ps with
  | nil => rfl
  | cons p ps ih => rw [rcs_cons, List.length_append, ih, cel_len, List.length_cons]; omega
theorem rcs_all (ps : List Rp) : ∀ u ∈ rcs ps, u.oneCell' = true := fun u hu => by
  obtain ⟨p, _, h⟩ := List.mem_flatMap.1 hu
  exact cel_one p u h
theorem rcs_get : ∀ (ps : List Rp) (i : Nat) (h : i < ps.length) (j : Nat) (u : Value), (cel ps[i])[j]? = some u → (rcs ps)[i * 18 + j]? = some u
  | [], i, h, _, _, _ => by simp at h
  | p :: ps, 0, _, j, u, hj => by
    have hl : j < (cel p).length := (List.getElem?_eq_some_iff.1 hj).1
    rw [rcs_cons, Nat.zero_mul, Nat.zero_add, List.getElem?_append_left hl]
    exact hj
  | p :: ps, i + 1, h, j, u, hj => by
    rw [rcs_cons, List.getElem?_append_right (by rw [cel_len]; omega), cel_len, show (i + 1) * 18 + j - 18 = i * 18 + j by omega]
    exact rcs_get ps i (by simpa using h) j u hj
theorem range_at {W : World} {b o : Nat} {ps : List Rp} (h : W.rangeAt b o (rcs ps)) {i : Nat} (hi : i < ps.length) : W.rangeAt b (o + i * 18) (cel ps[i]) := fun j u hu => by
  rw [Nat.add_assoc]
  exact h _ u (rcs_get ps i hi j u hu)
theorem range_bel {W W' : World} {b o : Nat} {cs : List Value} (h : W.rangeAt b o cs) (hb : Below W.heap.size W W') : W'.rangeAt b o cs := fun j u hu =>
  (hb.cell (p := ⟨b, o + j, none⟩) (cell_block (h j u hu) : b < W.heap.size)).trans (h j u hu)
theorem range_imp {W W' : World} {b o : Nat} {cs : List Value} (h : W.rangeAt b o cs) (hc : ∀ i, b < W.heap.size → W'.cell? ⟨b, i, none⟩ = W.cell? ⟨b, i, none⟩) : W'.rangeAt b o cs := fun j u hu =>
  (hc _ (cell_block (h j u hu) : b < W.heap.size)).trans (h j u hu)
/-- The slice v holds the records ps: in a block of okb, their rows in blocks of ok. -/
def Rl (okb ok : Nat → Prop) (W : World) (v : Value) (ps : List Rp) : Prop :=
  ((∃ ao cap, ps = [] ∧ v = .slice ao 0 cap) ∨ (∃ b o cap, v = .slice (some ⟨b, o, none⟩) ps.length cap ∧ ps.length ≤ cap ∧ okb b ∧ 0 < ps.length ∧ W.rangeAt b o (rcs ps))) ∧ ∀ p ∈ ps, RwP ok W p
theorem Rl.nil (okb ok : Nat → Prop) (W : World) (ao : Option Addr) (cap : Nat) : Rl okb ok W (.slice ao 0 cap) [] := ⟨.inl ⟨_, _, rfl, rfl⟩, fun p hp => by simp at hp⟩
theorem Rl.form {okb ok : Nat → Prop} {W : World} {v : Value} {ps : List Rp} (h : Rl okb ok W v ps) : ∃ ao cap, v = .slice ao ps.length cap := by
  rcases h.1 with ⟨ao, cap, rfl, rfl⟩ | ⟨b, o, cap, rfl, _⟩ <;> exact ⟨_, _, rfl⟩
theorem Rl.imp {okb ok okb' ok' : Nat → Prop} {W W' : World} {v : Value} {ps : List Rp} (h : Rl okb ok W v ps) (hkb : ∀ b, b < W.heap.size → okb b → okb' b) (hk : ∀ b, b < W.heap.size → ok b → ok' b) (hc : ∀ b i, b < W.heap.size → okb b ∨ ok b → W'.cell? ⟨b, i, none⟩ = W.cell? ⟨b, i, none⟩) : Rl okb' ok' W' v ps := by
  refine ⟨?_, fun p hp => (h.2 p hp).imp hk (fun b i hl q => hc b i hl (.inr q))⟩
  rcases h.1 with h1 | ⟨b, o, cap, h1, h2, h3, h4, h5⟩
  · exact .inl h1
  · have hl : b < W.heap.size := cell_block (h5 0 _ (List.getElem?_eq_getElem (by rw [rcs_len]; omega)))
    exact .inr ⟨b, o, cap, h1, h2, hkb b hl h3, h4, range_imp h5 (fun i hl => hc b i hl (.inl h3))⟩
theorem Rl.below {okb ok : Nat → Prop} {W W' : World} {v : Value} {ps : List Rp} (h : Rl okb ok W v ps) (hb : Below W.heap.size W W') : Rl okb ok W' v ps :=
  h.imp (fun _ _ q => q) (fun _ _ q => q) (fun b i hl _ => hb.cell (p := ⟨b, i, none⟩) hl)
theorem Rl.any {okb ok : Nat → Prop} {W : World} {v : Value} {ps : List Rp} (h : Rl okb ok W v ps) : Rl (fun _ => True) (fun _ => True) W v ps :=
  h.imp (fun _ _ _ => trivial) (fun _ _ _ => trivial) (fun _ _ _ _ => rfl)
theorem Rl.rg {okb ok : Nat → Prop} {w : World} {ao : Option Addr} {n cap : Nat} {ps : List Rp} (h : Rl okb ok w (.slice ao n cap) ps) : 0 < ps.length → ∃ b o, ao = some ⟨b, o, none⟩ ∧ w.rangeAt b o (rcs ps) := fun hp => by
  rcases h.1 with ⟨_, _, rfl, _⟩ | ⟨b, o, cap', e, _, _, _, h3⟩
  · simp at hp
  · cases e; exact ⟨b, o, rfl, h3⟩
/-- The records, whatever they lie in. -/
def rcl (ps : List Rp) : List Rc := ps.map (·.1)
theorem rcl_len (ps : List Rp) : (rcl ps).length = ps.length := by simp [rcl]
theorem ret_b {a b : Bool} (h : a = b) : Ending.returned (.bool b) = .returned (.bool a) := by rw [h]
/-- Are records no more than is waited for? -/
def shL (rs : List Rc) : Bool := decide (rs.length ≤ 80) && rs.all shB
theorem shL_no {rs : List Rc} {j : Nat} (hj : j < rs.length) (h : shB rs[j] = false) : shL rs = false := by
  unfold shL
  have : rs.all shB = false := by
    rw [List.all_eq_false]
    exact ⟨rs[j], List.getElem_mem hj, by simp [h]⟩
  rw [this, Bool.and_false]
theorem shL_long {rs : List Rc} (h : 80 < rs.length) : shL rs = false := by
  unfold shL
  rw [decide_eq_false (by omega), Bool.false_and]
theorem shL_is {rs : List Rc} (h : shL rs = true) : rs.length ≤ 80 ∧ ∀ r ∈ rs, shB r = true := by
  unfold shL at h
  simp only [Bool.and_eq_true, decide_eq_true_eq, List.all_eq_true] at h
  exact h
theorem all_take {rs : List Rc} {j : Nat} (hj : j < rs.length) {f : Rc → Bool} (h : (rs.take j).all f = true) (hn : f rs[j] = true) : (rs.take (j + 1)).all f = true := by
  rw [List.take_succ_eq_append_getElem hj, List.all_append, h]
  simp [hn]
end Go.Proofs.YtfnemlbkmhcodaaGreat
namespace Go.Proofs.YtfnemlbkmhcodaaGreat
open Go.ChangeShapes Go.WideShapes Go.ChangeAt Go.RowKit Go.Joins
set_option maxRecDepth 100000

theorem cellsRs : Tryz.prog.cellsOf 22 = 1 := by kernel_rfl
section
variable {H : Type} {enc : TypeId × Value → H}
/-- A record's eighteen cells. -/
theorem open_cells {W : World} {fuel : Nat} {c0 c1 c2 c3 c4 c5 c6 c7 c8 c9 c10 c11 c12 c13 c14 c15 c16 c17 : Value} {x : DataW H × List MemPlace} (hf : DataW.trod enc Tryz.prog W 0 (fun _ => true) true fuel 62 [c0, c1, c2, c3, c4, c5, c6, c7, c8, c9, c10, c11, c12, c13, c14, c15, c16, c17] = some x) : ∃ p : Rp, [c0, c1, c2, c3, c4, c5, c6, c7, c8, c9, c10, c11, c12, c13, c14, c15, c16, c17] = cel p ∧ RwP (fun b => b < W.heap.size) W p := by
  obtain ⟨xs, n, _, _, _, hlen, hfi⟩ := DataW.trod_struct Tryz.underlying62 hf
  have hlen' : xs.length = 18 := hlen
  have t0 : DataW.trod enc Tryz.prog W 0 (fun _ => true) true n 3 [c0] = some (xs[0]'(by omega)) := by
    have q := hfi 0 _ rfl
    rw [List.getElem?_eq_getElem (show 0 < xs.length by omega)] at q
    change DataW.trod enc Tryz.prog W 0 (fun _ => true) true n 3 (List.take (Tryz.prog.cellsOf 3) (List.drop 0 [c0, c1, c2, c3, c4, c5, c6, c7, c8, c9, c10, c11, c12, c13, c14, c15, c16, c17])) = _ at q
    rw [cellsI] at q
    exact q
  obtain ⟨k0, e0, _, _⟩ := DataW.trod_int (t := 3) Tryz.underlying3 t0
  simp only [List.cons.injEq, and_true] at e0
  subst e0
  have t1 : DataW.trod enc Tryz.prog W 0 (fun _ => true) true n 3 [c1] = some (xs[1]'(by omega)) := by
    have q := hfi 1 _ rfl
    rw [List.getElem?_eq_getElem (show 1 < xs.length by omega)] at q
    change DataW.trod enc Tryz.prog W 0 (fun _ => true) true n 3 (List.take (Tryz.prog.cellsOf 3) (List.drop 1 [.int .i64 k0, c1, c2, c3, c4, c5, c6, c7, c8, c9, c10, c11, c12, c13, c14, c15, c16, c17])) = _ at q
    rw [cellsI] at q
    exact q
  obtain ⟨k1, e1, _, _⟩ := DataW.trod_int (t := 3) Tryz.underlying3 t1
  simp only [List.cons.injEq, and_true] at e1
  subst e1
  have t2 : DataW.trod enc Tryz.prog W 0 (fun _ => true) true n 3 [c2] = some (xs[2]'(by omega)) := by
    have q := hfi 2 _ rfl
    rw [List.getElem?_eq_getElem (show 2 < xs.length by omega)] at q
    change DataW.trod enc Tryz.prog W 0 (fun _ => true) true n 3 (List.take (Tryz.prog.cellsOf 3) (List.drop 2 [.int .i64 k0, .int .i64 k1, c2, c3, c4, c5, c6, c7, c8, c9, c10, c11, c12, c13, c14, c15, c16, c17])) = _ at q
    rw [cellsI] at q
    exact q
  obtain ⟨k2, e2, _, _⟩ := DataW.trod_int (t := 3) Tryz.underlying3 t2
  simp only [List.cons.injEq, and_true] at e2
  subst e2
  have t3 : DataW.trod enc Tryz.prog W 0 (fun _ => true) true n 3 [c3] = some (xs[3]'(by omega)) := by
    have q := hfi 3 _ rfl
    rw [List.getElem?_eq_getElem (show 3 < xs.length by omega)] at q
    change DataW.trod enc Tryz.prog W 0 (fun _ => true) true n 3 (List.take (Tryz.prog.cellsOf 3) (List.drop 3 [.int .i64 k0, .int .i64 k1, .int .i64 k2, c3, c4, c5, c6, c7, c8, c9, c10, c11, c12, c13, c14, c15, c16, c17])) = _ at q
    rw [cellsI] at q
    exact q
  obtain ⟨k3, e3, _, _⟩ := DataW.trod_int (t := 3) Tryz.underlying3 t3
  simp only [List.cons.injEq, and_true] at e3
  subst e3
  have t4 : DataW.trod enc Tryz.prog W 0 (fun _ => true) true n 3 [c4] = some (xs[4]'(by omega)) := by
    have q := hfi 4 _ rfl
    rw [List.getElem?_eq_getElem (show 4 < xs.length by omega)] at q
    change DataW.trod enc Tryz.prog W 0 (fun _ => true) true n 3 (List.take (Tryz.prog.cellsOf 3) (List.drop 4 [.int .i64 k0, .int .i64 k1, .int .i64 k2, .int .i64 k3, c4, c5, c6, c7, c8, c9, c10, c11, c12, c13, c14, c15, c16, c17])) = _ at q
    rw [cellsI] at q
    exact q
  obtain ⟨k4, e4, _, _⟩ := DataW.trod_int (t := 3) Tryz.underlying3 t4
  simp only [List.cons.injEq, and_true] at e4
  subst e4
  have t5 : DataW.trod enc Tryz.prog W 0 (fun _ => true) true n 3 [c5] = some (xs[5]'(by omega)) := by
    have q := hfi 5 _ rfl
    rw [List.getElem?_eq_getElem (show 5 < xs.length by omega)] at q
    change DataW.trod enc Tryz.prog W 0 (fun _ => true) true n 3 (List.take (Tryz.prog.cellsOf 3) (List.drop 5 [.int .i64 k0, .int .i64 k1, .int .i64 k2, .int .i64 k3, .int .i64 k4, c5, c6, c7, c8, c9, c10, c11, c12, c13, c14, c15, c16, c17])) = _ at q
    rw [cellsI] at q
    exact q
  obtain ⟨k5, e5, _, _⟩ := DataW.trod_int (t := 3) Tryz.underlying3 t5
  simp only [List.cons.injEq, and_true] at e5
  subst e5
  have t6 : DataW.trod enc Tryz.prog W 0 (fun _ => true) true n 3 [c6] = some (xs[6]'(by omega)) := by
    have q := hfi 6 _ rfl
    rw [List.getElem?_eq_getElem (show 6 < xs.length by omega)] at q
    change DataW.trod enc Tryz.prog W 0 (fun _ => true) true n 3 (List.take (Tryz.prog.cellsOf 3) (List.drop 6 [.int .i64 k0, .int .i64 k1, .int .i64 k2, .int .i64 k3, .int .i64 k4, .int .i64 k5, c6, c7, c8, c9, c10, c11, c12, c13, c14, c15, c16, c17])) = _ at q
    rw [cellsI] at q
    exact q
  obtain ⟨k6, e6, _, _⟩ := DataW.trod_int (t := 3) Tryz.underlying3 t6
  simp only [List.cons.injEq, and_true] at e6
  subst e6
  have t7 : DataW.trod enc Tryz.prog W 0 (fun _ => true) true n 3 [c7] = some (xs[7]'(by omega)) := by
    have q := hfi 7 _ rfl
    rw [List.getElem?_eq_getElem (show 7 < xs.length by omega)] at q
    change DataW.trod enc Tryz.prog W 0 (fun _ => true) true n 3 (List.take (Tryz.prog.cellsOf 3) (List.drop 7 [.int .i64 k0, .int .i64 k1, .int .i64 k2, .int .i64 k3, .int .i64 k4, .int .i64 k5, .int .i64 k6, c7, c8, c9, c10, c11, c12, c13, c14, c15, c16, c17])) = _ at q
    rw [cellsI] at q
    exact q
  obtain ⟨k7, e7, _, _⟩ := DataW.trod_int (t := 3) Tryz.underlying3 t7
  simp only [List.cons.injEq, and_true] at e7
  subst e7
  have t8 : DataW.trod enc Tryz.prog W 0 (fun _ => true) true n 3 [c8] = some (xs[8]'(by omega)) := by
    have q := hfi 8 _ rfl
    rw [List.getElem?_eq_getElem (show 8 < xs.length by omega)] at q
    change DataW.trod enc Tryz.prog W 0 (fun _ => true) true n 3 (List.take (Tryz.prog.cellsOf 3) (List.drop 8 [.int .i64 k0, .int .i64 k1, .int .i64 k2, .int .i64 k3, .int .i64 k4, .int .i64 k5, .int .i64 k6, .int .i64 k7, c8, c9, c10, c11, c12, c13, c14, c15, c16, c17])) = _ at q
    rw [cellsI] at q
    exact q
  obtain ⟨k8, e8, _, _⟩ := DataW.trod_int (t := 3) Tryz.underlying3 t8
  simp only [List.cons.injEq, and_true] at e8
  subst e8
  have t9 : DataW.trod enc Tryz.prog W 0 (fun _ => true) true n 4 [c9] = some (xs[9]'(by omega)) := by
    have q := hfi 9 _ rfl
    rw [List.getElem?_eq_getElem (show 9 < xs.length by omega)] at q
    change DataW.trod enc Tryz.prog W 0 (fun _ => true) true n 4 (List.take (Tryz.prog.cellsOf 4) (List.drop 9 [.int .i64 k0, .int .i64 k1, .int .i64 k2, .int .i64 k3, .int .i64 k4, .int .i64 k5, .int .i64 k6, .int .i64 k7, .int .i64 k8, c9, c10, c11, c12, c13, c14, c15, c16, c17])) = _ at q
    rw [cellsBo] at q
    exact q
  obtain ⟨k9, e9, _⟩ := DataW.trod_bool (t := 4) Tryz.underlying4 t9
  simp only [List.cons.injEq, and_true] at e9
  subst e9
  have t10 : DataW.trod enc Tryz.prog W 0 (fun _ => true) true n 9 [c10] = some (xs[10]'(by omega)) := by
    have q := hfi 10 _ rfl
    rw [List.getElem?_eq_getElem (show 10 < xs.length by omega)] at q
    change DataW.trod enc Tryz.prog W 0 (fun _ => true) true n 9 (List.take (Tryz.prog.cellsOf 9) (List.drop 10 [.int .i64 k0, .int .i64 k1, .int .i64 k2, .int .i64 k3, .int .i64 k4, .int .i64 k5, .int .i64 k6, .int .i64 k7, .int .i64 k8, .bool k9, c10, c11, c12, c13, c14, c15, c16, c17])) = _ at q
    rw [cellsS] at q
    exact q
  obtain ⟨k10, e10, _, _⟩ := DataW.trod_string (t := 9) Tryz.underlying9 t10
  simp only [List.cons.injEq, and_true] at e10
  subst e10
  have t11 : DataW.trod enc Tryz.prog W 0 (fun _ => true) true n 9 [c11] = some (xs[11]'(by omega)) := by
    have q := hfi 11 _ rfl
    rw [List.getElem?_eq_getElem (show 11 < xs.length by omega)] at q
    change DataW.trod enc Tryz.prog W 0 (fun _ => true) true n 9 (List.take (Tryz.prog.cellsOf 9) (List.drop 11 [.int .i64 k0, .int .i64 k1, .int .i64 k2, .int .i64 k3, .int .i64 k4, .int .i64 k5, .int .i64 k6, .int .i64 k7, .int .i64 k8, .bool k9, .string k10, c11, c12, c13, c14, c15, c16, c17])) = _ at q
    rw [cellsS] at q
    exact q
  obtain ⟨k11, e11, _, _⟩ := DataW.trod_string (t := 9) Tryz.underlying9 t11
  simp only [List.cons.injEq, and_true] at e11
  subst e11
  have t12 : DataW.trod enc Tryz.prog W 0 (fun _ => true) true n 9 [c12] = some (xs[12]'(by omega)) := by
    have q := hfi 12 _ rfl
    rw [List.getElem?_eq_getElem (show 12 < xs.length by omega)] at q
    change DataW.trod enc Tryz.prog W 0 (fun _ => true) true n 9 (List.take (Tryz.prog.cellsOf 9) (List.drop 12 [.int .i64 k0, .int .i64 k1, .int .i64 k2, .int .i64 k3, .int .i64 k4, .int .i64 k5, .int .i64 k6, .int .i64 k7, .int .i64 k8, .bool k9, .string k10, .string k11, c12, c13, c14, c15, c16, c17])) = _ at q
    rw [cellsS] at q
    exact q
  obtain ⟨k12, e12, _, _⟩ := DataW.trod_string (t := 9) Tryz.underlying9 t12
  simp only [List.cons.injEq, and_true] at e12
  subst e12
  have t13 : DataW.trod enc Tryz.prog W 0 (fun _ => true) true n 9 [c13] = some (xs[13]'(by omega)) := by
    have q := hfi 13 _ rfl
    rw [List.getElem?_eq_getElem (show 13 < xs.length by omega)] at q
    change DataW.trod enc Tryz.prog W 0 (fun _ => true) true n 9 (List.take (Tryz.prog.cellsOf 9) (List.drop 13 [.int .i64 k0, .int .i64 k1, .int .i64 k2, .int .i64 k3, .int .i64 k4, .int .i64 k5, .int .i64 k6, .int .i64 k7, .int .i64 k8, .bool k9, .string k10, .string k11, .string k12, c13, c14, c15, c16, c17])) = _ at q
    rw [cellsS] at q
    exact q
  obtain ⟨k13, e13, _, _⟩ := DataW.trod_string (t := 9) Tryz.underlying9 t13
  simp only [List.cons.injEq, and_true] at e13
  subst e13
  have t14 : DataW.trod enc Tryz.prog W 0 (fun _ => true) true n 42 [c14] = some (xs[14]'(by omega)) := by
    have q := hfi 14 _ rfl
    rw [List.getElem?_eq_getElem (show 14 < xs.length by omega)] at q
    change DataW.trod enc Tryz.prog W 0 (fun _ => true) true n 42 (List.take (Tryz.prog.cellsOf 42) (List.drop 14 [.int .i64 k0, .int .i64 k1, .int .i64 k2, .int .i64 k3, .int .i64 k4, .int .i64 k5, .int .i64 k6, .int .i64 k7, .int .i64 k8, .bool k9, .string k10, .string k11, .string k12, .string k13, c14, c15, c16, c17])) = _ at q
    rw [cellsR'] at q
    exact q
  obtain ⟨k14, a14, d14, e14, s14⟩ := open_rowi t14
  subst e14
  have t15 : DataW.trod enc Tryz.prog W 0 (fun _ => true) true n 42 [c15] = some (xs[15]'(by omega)) := by
    have q := hfi 15 _ rfl
    rw [List.getElem?_eq_getElem (show 15 < xs.length by omega)] at q
    change DataW.trod enc Tryz.prog W 0 (fun _ => true) true n 42 (List.take (Tryz.prog.cellsOf 42) (List.drop 15 [.int .i64 k0, .int .i64 k1, .int .i64 k2, .int .i64 k3, .int .i64 k4, .int .i64 k5, .int .i64 k6, .int .i64 k7, .int .i64 k8, .bool k9, .string k10, .string k11, .string k12, .string k13, .slice a14 k14.length d14, c15, c16, c17])) = _ at q
    rw [cellsR'] at q
    exact q
  obtain ⟨k15, a15, d15, e15, s15⟩ := open_rowi t15
  subst e15
  have t16 : DataW.trod enc Tryz.prog W 0 (fun _ => true) true n 42 [c16] = some (xs[16]'(by omega)) := by
    have q := hfi 16 _ rfl
    rw [List.getElem?_eq_getElem (show 16 < xs.length by omega)] at q
    change DataW.trod enc Tryz.prog W 0 (fun _ => true) true n 42 (List.take (Tryz.prog.cellsOf 42) (List.drop 16 [.int .i64 k0, .int .i64 k1, .int .i64 k2, .int .i64 k3, .int .i64 k4, .int .i64 k5, .int .i64 k6, .int .i64 k7, .int .i64 k8, .bool k9, .string k10, .string k11, .string k12, .string k13, .slice a14 k14.length d14, .slice a15 k15.length d15, c16, c17])) = _ at q
    rw [cellsR'] at q
    exact q
  obtain ⟨k16, a16, d16, e16, s16⟩ := open_rowi t16
  subst e16
  have t17 : DataW.trod enc Tryz.prog W 0 (fun _ => true) true n 42 [c17] = some (xs[17]'(by omega)) := by
    have q := hfi 17 _ rfl
    rw [List.getElem?_eq_getElem (show 17 < xs.length by omega)] at q
    change DataW.trod enc Tryz.prog W 0 (fun _ => true) true n 42 (List.take (Tryz.prog.cellsOf 42) (List.drop 17 [.int .i64 k0, .int .i64 k1, .int .i64 k2, .int .i64 k3, .int .i64 k4, .int .i64 k5, .int .i64 k6, .int .i64 k7, .int .i64 k8, .bool k9, .string k10, .string k11, .string k12, .string k13, .slice a14 k14.length d14, .slice a15 k15.length d15, .slice a16 k16.length d16, c17])) = _ at q
    rw [cellsR'] at q
    exact q
  obtain ⟨k17, a17, d17, e17, s17⟩ := open_rowi t17
  subst e17
  refine ⟨(⟨k0, k1, k2, k3, k4, k5, k6, k7, k8, k9, k10.data.toList, k11.data.toList, k12.data.toList, k13.data.toList, k14, k15, k16, k17⟩, ⟨a14, a15, a16, a17, d14, d15, d16, d17⟩), ?_, ⟨s14, s15, s16, s17⟩⟩
  rw [str_form k10, str_form k11, str_form k12, str_form k13]
  rfl
theorem open_rp {W : World} {n : Nat} {a : Addr} {cs : List Value} {x : DataW H × List MemPlace} (hc : W.cells? 0 a (Tryz.prog.cellsOf 62) = some cs)
    (h : DataW.trod enc Tryz.prog W 0 (fun _ => true) true n 62 cs = some x) : ∃ p : Rp, (∀ j u, (cel p)[j]? = some u → W.cell? (a.add j) = some u) ∧ RwP (fun b => b < W.heap.size) W p := by
  rw [cellsRec] at hc
  obtain ⟨_, hl, hcell⟩ := World.cells?_some hc
  obtain ⟨c0, c1, c2, c3, c4, c5, c6, c7, c8, c9, c10, c11, c12, c13, c14, c15, c16, c17, e⟩ := array18 (cs := cs.toArray) (by simpa using hl)
  have e' : cs = [c0, c1, c2, c3, c4, c5, c6, c7, c8, c9, c10, c11, c12, c13, c14, c15, c16, c17] := by simpa using congrArg Array.toList e
  rw [e'] at h
  obtain ⟨p, h1, h2⟩ := open_cells h
  rw [h1] at e'
  refine ⟨p, fun j u hj => ?_, h2⟩
  rw [← e'] at hj
  have hjl := (List.getElem?_eq_some_iff.1 hj)
  obtain ⟨hlt, hv⟩ := hjl
  rw [hcell j (by omega)]
  exact hj
/-- Records that came in, opened. -/
theorem open_rps {W : World} {fuel : Nat} {u : Value} {x : DataW H × List MemPlace} (hu : ∃ a0 len cap, u = .slice a0 len cap) (hf : DataW.trod enc Tryz.prog W 0 (fun _ => true) true fuel 22 [u] = some x) : ∃ ps : List Rp, Rl (fun _ => True) (fun b => b < W.heap.size) W u ps ∧ ps.length ≤ maxLen := by
  obtain ⟨a0, len, cap, rfl⟩ := hu
  rcases Deep.open_slice (t := 22) Tryz.underlying22 hf with ⟨e0, _⟩ | ⟨a, len', cap', q, n, D, Pl, e0, _, hlen, hcap, hq, hx, hel⟩
  · simp at e0
    obtain ⟨rfl, rfl, rfl⟩ := e0
    exact ⟨[], Rl.nil _ _ _ _ _, Nat.zero_le _⟩
  · simp at e0
    obtain ⟨rfl, rfl, rfl⟩ := e0
    rw [if_pos rfl] at hq
    subst hq
    have hs : ∀ i, i < len → ∃ p : Rp, (∀ j u, (cel p)[j]? = some u → W.cell? ((a.add (i * 18)).add j) = some u) ∧ RwP (fun b => b < W.heap.size) W p := by
      intro i hi
      obtain ⟨cs', hc, ht⟩ := hel i (by omega)
      have := open_rp hc ht
      rwa [cellsRec] at this
    haveI : Inhabited Rp := ⟨(Rc.zero, ⟨none, none, none, none, 0, 0, 0, 0⟩)⟩
    obtain ⟨f, hf⟩ := Deep.choose_lt hs
    have hl : ((List.range len).map f).length = len := by simp
    refine ⟨(List.range len).map f, ⟨?_, fun p hp => ?_⟩, by rw [hl]; omega⟩
    · by_cases h0 : len = 0
      · subst h0
        exact .inl ⟨_, _, rfl, rfl⟩
      · obtain ⟨b, o, sp⟩ := a
        have hsp : sp = none := by simpa [Addr.add] using World.cell?_spot ((hf 0 (by omega)).1 0 _ rfl)
        subst hsp
        refine .inr ⟨b, o, _, by rw [hl], by rw [hl]; exact hlen, trivial, by omega, fun j u hj => ?_⟩
        have hjl : j < ((List.range len).map f).length * 18 := by have := (List.getElem?_eq_some_iff.1 hj).1; rwa [rcs_len] at this
        rw [hl] at hjl
        have hi : j / 18 < len := by omega
        have hget : ((List.range len).map f)[j / 18]'(by rw [hl]; exact hi) = f (j / 18) := by simp
        have hm : j % 18 < 18 := by omega
        obtain ⟨u', hu'⟩ : ∃ u', (cel (f (j / 18)))[j % 18]? = some u' := ⟨_, List.getElem?_eq_getElem (by rw [cel_len]; exact hm)⟩
        have h2 := rcs_get ((List.range len).map f) (j / 18) (by rw [hl]; exact hi) (j % 18) u' (by rw [hget]; exact hu')
        rw [show j / 18 * 18 + j % 18 = j by omega, hj] at h2
        cases h2
        have h3 := (hf (j / 18) hi).1 (j % 18) u hu'
        rw [Addr.add_lit, Addr.add_lit, Nat.add_assoc, show j / 18 * 18 + j % 18 = j by omega] at h3
        exact h3
    · obtain ⟨i, hi, rfl⟩ := List.mem_map.1 hp
      exact (hf i (List.mem_range.1 hi)).2
theorem open_recs {W : World} {base : Nat} {v : Value} {d : DataW H} {p : List MemPlace} (hv : Value.okWide Tryz.prog W .any base 22 v) (h : DataW.Trod enc Tryz.prog W 0 (fun _ => true) true 22 v d p) : ∃ ps : List Rp, Rl (fun _ => True) (fun b => b < W.heap.size) W v ps ∧ ps.length ≤ maxLen := by
  obtain ⟨a0, len, cap, rfl⟩ := okWide_slice Tryz.underlying22 hv
  obtain ⟨fuel, hf⟩ := h
  exact open_rps ⟨_, _, _, rfl⟩ hf
end
theorem u32_of {n : Int} (h : (Lit.int .u32 n).wf = true) : 0 ≤ n ∧ n ≤ 4294967295 := by
  simp only [Lit.wf, Bool.and_eq_true, decide_eq_true_eq, show IntKind.u32.min = 0 by decide, show IntKind.u32.max = 4294967295 by decide] at h
  exact h
theorem i64_of {n : Int} (h : (Lit.int .i64 n).wf = true) : -9223372036854775808 ≤ n ∧ n ≤ 9223372036854775807 := by
  simp only [Lit.wf, Bool.and_eq_true, decide_eq_true_eq, show IntKind.i64.min = -9223372036854775808 by decide, show IntKind.i64.max = 9223372036854775807 by decide] at h
  exact h
end Go.Proofs.YtfnemlbkmhcodaaGreat
namespace Go.Proofs.YtfnemlbkmhcodaaGreat
open Go.RowKit

/-- Elements that are k cells each, one value a cell. -/
structure Enc {α : Type} (f : α → List Value) (k : Nat) : Prop where
  len : ∀ x, (f x).length = k
  one : ∀ x, ∀ u ∈ f x, u.oneCell' = true
  pos : 0 < k
theorem rg_bel {W W' : World} {b o : Nat} {cs : List Value} (h : W.rangeAt b o cs) (hb : Below W.heap.size W W') : W'.rangeAt b o cs := fun j u hu =>
  (hb.cell (p := ⟨b, o + j, none⟩) (cell_block (h j u hu) : b < W.heap.size)).trans (h j u hu)
theorem rg_app {W : World} {b o : Nat} {x y : List Value} (h : W.rangeAt b o (x ++ y)) : W.rangeAt b o x ∧ W.rangeAt b (o + x.length) y :=
  ⟨fun j u hu => h j u (by rw [List.getElem?_append_left (List.getElem?_eq_some_iff.1 hu).1]; exact hu), fun j u hu => by
    rw [Nat.add_assoc]
    exact h _ u (by rw [List.getElem?_append_right (by omega), Nat.add_sub_cancel_left]; exact hu)⟩
section
variable {α : Type} {f : α → List Value} {k : Nat}
theorem fm_len (hf : Enc f k) : ∀ l : List α, (l.flatMap f).length = l.length * k
  | [] => by simp
  | x :: r => by rw [List.flatMap_cons, List.length_append, hf.len, fm_len hf r, List.length_cons, Nat.succ_mul]; omega
theorem fm_one (hf : Enc f k) (l : List α) : ∀ u ∈ l.flatMap f, u.oneCell' = true := fun u hu => by
  obtain ⟨p, _, hp⟩ := List.mem_flatMap.1 hu
  exact hf.one p u hp
/-- The slice v holds the elements l. -/
def Rs (f : α → List Value) (W : World) (v : Value) (l : List α) : Prop := ∃ ao cap, v = .slice ao l.length cap ∧ l.length ≤ cap ∧ (0 < l.length → ∃ b o, ao = some ⟨b, o, none⟩ ∧ W.rangeAt b o (l.flatMap f))
theorem Rs.below {W W' : World} {v : Value} {l : List α} (h : Rs f W v l) (hb : Below W.heap.size W W') : Rs f W' v l := by
  obtain ⟨ao, cap, e, hc, hr⟩ := h
  exact ⟨ao, cap, e, hc, fun q => by obtain ⟨b, o, e1, e2⟩ := hr q; exact ⟨b, o, e1, rg_bel e2 hb⟩⟩
theorem Rs.form {W : World} {v : Value} {l : List α} (h : Rs f W v l) : ∃ a c, v = .slice a l.length c := by
  obtain ⟨ao, cap, e, _⟩ := h
  exact ⟨ao, cap, e⟩
theorem rs_nil (f : α → List Value) (W : World) (ao : Option Addr) (cap : Nat) : Rs f W (.slice ao 0 cap) [] := ⟨ao, cap, rfl, Nat.zero_le _, fun h => by simp at h⟩
theorem Rs.cap {W : World} {ao : Option Addr} {n c : Nat} {l : List α} (h : Rs f W (.slice ao n c) l) : n = l.length ∧ l.length ≤ c := by
  obtain ⟨_, _, e, hc, _⟩ := h
  cases e
  exact ⟨rfl, hc⟩
theorem Rs.rg {W : World} {ao : Option Addr} {n c : Nat} {l : List α} (h : Rs f W (.slice ao n c) l) (hl : 0 < l.length) : ∃ b o, ao = some ⟨b, o, none⟩ ∧ W.rangeAt b o (l.flatMap f) := by
  obtain ⟨_, _, e, _, hr⟩ := h
  cases e
  exact hr hl
theorem fm_at (hf : Enc f k) {W : World} {b o : Nat} {l : List α} (h : W.rangeAt b o (l.flatMap f)) {i : Nat} (hi : i < l.length) : W.rangeAt b (o + i * k) (f l[i]) := by
  have e : l.flatMap f = (l.take i).flatMap f ++ (f l[i] ++ (l.drop (i + 1)).flatMap f) := by
    rw [← List.flatMap_cons, ← List.drop_eq_getElem_cons hi, ← List.flatMap_append, List.take_append_drop]
  rw [e] at h
  have h1 := (rg_app (rg_app h).2).1
  rwa [fm_len hf, List.length_take, Nat.min_eq_left (by omega)] at h1
/-- Its element i: where its cells lie. -/
theorem Rs.at (hf : Enc f k) {W : World} {b o n c : Nat} {l : List α} (h : Rs f W (.slice (some ⟨b, o, none⟩) n c) l) {i : Nat} (hi : i < l.length) : W.rangeAt b (o + i * k) (f l[i]) := by
  obtain ⟨b', o', e, hr⟩ := h.rg (by omega)
  cases e
  exact fm_at hf hr hi
/-- A part of it, by its address. -/
theorem Rs.part (hf : Enc f k) {W : World} {ao : Option Addr} {n c : Nat} {l : List α} (h : Rs f W (.slice ao n c) l) (i j : Nat) (hij : i ≤ j) (hj : j ≤ l.length) (ao' : Option Addr) (ha : i < j → ∀ b o, ao = some ⟨b, o, none⟩ → ao' = some ⟨b, o + i * k, none⟩) : Rs f W (.slice ao' (j - i) (c - i)) ((l.drop i).take (j - i)) := by
  have hl : ((l.drop i).take (j - i)).length = j - i := by rw [List.length_take, List.length_drop]; omega
  have hc := h.cap
  refine ⟨ao', c - i, by rw [hl], by rw [hl]; omega, fun q => ?_⟩
  rw [hl] at q
  obtain ⟨b, o, e, hr⟩ := h.rg (by omega)
  refine ⟨b, o + i * k, ha (by omega) b o e, ?_⟩
  have e1 : l.flatMap f = (l.take i).flatMap f ++ (((l.drop i).take (j - i)).flatMap f ++ ((l.drop i).drop (j - i)).flatMap f) := by
    rw [← List.flatMap_append, List.take_append_drop, ← List.flatMap_append, List.take_append_drop]
  rw [e1] at hr
  have h1 := (rg_app (rg_app hr).2).1
  rwa [fm_len hf, List.length_take, Nat.min_eq_left (by omega)] at h1
/-- A row of elements in memory from B on, that is the call's own. -/
def Ro (f : α → List Value) (k : Nat) (T : TypeId) (W : World) (B : Nat) (v : Value) (l : List α) : Prop := W.ownsRow B T k v l.length (l.flatMap f)
theorem ro_nil (f : α → List Value) (k : Nat) (T : TypeId) (W : World) (B : Nat) : Ro f k T W B (.slice none 0 0) [] := World.ownsRow_nil _ _ _ _
theorem Ro.below {T : TypeId} {W W' : World} {B : Nat} {v : Value} {l : List α} (h : Ro f k T W B v l) (hb : Below W.heap.size W W') : Ro f k T W' B v l := owns_below h hb
theorem Ro.mono {T : TypeId} {W : World} {B C : Nat} {v : Value} {l : List α} (h : Ro f k T W B v l) (hc : C ≤ B) : Ro f k T W C v l := owns_mono h hc
theorem Ro.form {T : TypeId} {W : World} {B : Nat} {v : Value} {l : List α} (h : Ro f k T W B v l) : ∃ a c, v = .slice a l.length c := by
  rcases h.2 with ⟨e, h0⟩ | ⟨g, cap, cur, e, _⟩
  · rw [e, h0]; exact ⟨_, _, rfl⟩
  · exact ⟨_, _, e⟩
theorem Ro.rs {T : TypeId} {W : World} {B : Nat} {v : Value} {l : List α} (h : Ro f k T W B v l) : Rs f W v l := by
  rcases h.2 with ⟨e, h0⟩ | ⟨g, cap, cur, e, a2, a3, a4, a5, a6, a7⟩
  · exact ⟨none, 0, by rw [e, h0], by omega, fun q => by omega⟩
  · refine ⟨some ⟨g, 0, none⟩, cap, e, a4, fun _ => ⟨g, 0, rfl, fun j x hj => ?_⟩⟩
    have hl : j < (l.flatMap f).length := (List.getElem?_eq_some_iff.1 hj).1
    have h1 : (l.flatMap f).length = l.length * k := h.1
    rw [← a7, List.getElem?_take_of_lt (by omega)] at hj
    simp only [World.cell?, a3, Nat.zero_add]
    simpa using hj
/-- The beginning of a row. -/
theorem Ro.take (hf : Enc f k) {T : TypeId} {W : World} {B : Nat} {ao : Option Addr} {n cap i : Nat} {l : List α} (h : Ro f k T W B (.slice ao n cap) l) (hi : i ≤ l.length) : Ro f k T W B (.slice ao i cap) (l.take i) := by
  have hl : (l.take i).length = i := by rw [List.length_take]; omega
  refine ⟨fm_len hf _, ?_⟩
  rw [hl]
  rcases h.2 with ⟨e, h0⟩ | ⟨g, cap', cur, e, a2, a3, a4, a5, a6, a7⟩
  · cases e
    exact .inl ⟨by rw [show i = 0 by omega], by omega⟩
  · cases e
    refine .inr ⟨g, cap, cur, rfl, a2, a3, by omega, a5, a6, ?_⟩
    have e1 : l.flatMap f = (l.take i).flatMap f ++ (l.drop i).flatMap f := by rw [← List.flatMap_append, List.take_append_drop]
    have e2 : ((l.take i).flatMap f).length = i * k := by rw [fm_len hf, hl]
    have e3 : (cur.toList.take (l.length * k)).take (i * k) = (l.take i).flatMap f := by rw [a7, e1, ← e2, List.take_left]
    have e4 : i * k ≤ l.length * k := Nat.mul_le_mul_right k hi
    rwa [List.take_take, Nat.min_eq_left e4] at e3
/-- A row that was just laid. -/
theorem ro_new (hf : Enc f k) (T : TypeId) (w : World) (l : List α) (hm : l.length ≤ maxLen) : Ro f k T (w.alloc (.cells (l.flatMap f).toArray T)) w.heap.size (.slice (some ⟨w.heap.size, 0, none⟩) l.length l.length) l :=
  ⟨fm_len hf l, .inr ⟨w.heap.size, l.length, (l.flatMap f).toArray, rfl, Nat.le_refl _, Array.getElem?_push_size, Nat.le_refl _, hm, by simp [fm_len hf], by
    rw [List.toList_toArray, ← fm_len hf, List.take_length]⟩⟩
/-- What is known of an element's type: its zero value, its cells and bytes, and the slice's. -/
structure Tyi (P : Program) (S T : TypeId) (k : Nat) : Prop where
  info : ∃ i z, P.info? T = some i ∧ i.zero = some z ∧ i.size = k ∧ i.bytes ≤ 300 ∧ z.cells.size = k
  und : P.underlying S = some (.slice T)
/-- Many more: append. -/
theorem wpList_appR {P : Program} {S T : TypeId} (hi : Tyi P S T k) (hf : Enc f k) {ops : Array Oper} {rest : List Oper} {o : Oper} {a : Act} {Q : Exit → Act → World → Prop} (w : World) (hg : o.guard = none) (y z : Operand) (ho : o.op = .call { callee := .builtin .append, args := #[y, z], argTypes := #[S, S] }) (B : Nat) (v : Value) (l : List α) (hy : a.eval y = v) (hown : Ro f k T w B v l) (hB : B ≤ w.heap.size) (u : Value) (q : List α) (hz : a.eval z = u) (hq : Rs f w u q) (hn : l.length + q.length ≤ 2000000000)
    (h : ∀ v' w', Ro f k T w' B v' (l ++ q) → w.grownBy w' v.ownBlock → Below B w w' → wpList P ops Q rest (a.put o.dst v') w') : wpList P ops Q (o :: rest) a w := by
  refine wpList_plain hg fun K hK => ?_
  obtain ⟨⟨i0, z0, h1, h2, h3, h4, h5⟩, hu⟩ := hi
  obtain ⟨ao, c, rfl, hc, hr⟩ := hq
  have key : ∃ v' w', (Builtin.append_ #[S, S] o.type #[v, .slice ao q.length c]).run P w = .ok v' w' ∧ w'.ownsRow B T k v' (l.length + q.length) (l.flatMap f ++ q.flatMap f) ∧ w.grownBy w' v.ownBlock := by
    by_cases h0 : 0 < q.length
    · obtain ⟨b, o', rfl, hrg⟩ := hr h0
      obtain ⟨v', w', a1, a2, a3, _⟩ := run_append_own_at (P := P) w B S o.type T i0 z0 k i0.bytes hu h1 h2 h3 rfl h5 hf.pos v l.length (l.flatMap f) hown ⟨b, o', none⟩ q.length c (q.flatMap f) (fm_len hf q) (fun j x hj => by rw [Addr.add_mid]; exact hrg j x hj) (fm_one hf q) (by unfold maxLen; omega) (by
        have : (l.length + q.length) * i0.bytes ≤ 2000000000 * 300 := Nat.mul_le_mul hn h4
        omega) hB
      exact ⟨v', w', a1, a2, a3⟩
    · have e : q = [] := List.eq_nil_iff_length_eq_zero.2 (by omega)
      subst e
      obtain ⟨a, c', rfl⟩ := hown.form
      have hcap : l.length ≤ c' := hown.rs.cap.2
      refine ⟨.slice a l.length c', w, ?_, by simpa using (show w.ownsRow B T k (.slice a l.length c') l.length (l.flatMap f) from hown), World.grownBy.refl _ _⟩
      have hn0 : l.length + 0 ≤ c' := hcap
      cases a <;> cases ao <;> simp [Builtin.append_, run_underlying hu, sizeOf, typeInfo, h1, Builtin.lenOf, Builtin.firstCells, loadCells, loadCellsFrom, hcap, storeCells]
  obtain ⟨v', w', hrun, ho', hg'⟩ := key
  unfold Oper.wp
  simp [execOp, ho, resolve, invoke, builtin, hy, hz, hrun, Result.andThen]
  refine hK _ _ (h v' w' ?_ hg' ((Below.refl B w).grown hg' hB (fun k e => (hown.lt k e).1)))
  unfold Ro
  rw [List.length_append, List.flatMap_append]
  exact ho'
end
end Go.Proofs.YtfnemlbkmhcodaaGreat
