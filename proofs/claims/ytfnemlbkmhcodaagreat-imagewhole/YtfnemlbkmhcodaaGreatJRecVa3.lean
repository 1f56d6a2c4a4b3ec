/-
  A RECORD AS A VALUE, AND IN ITS CELLS; what is wrong with it first, as a function of what each field comes to. No condition.
  A RECORD THAT CAME IN, OPENED: its fields lie in its cells. No condition of its own.
  A RECORD NO LONGER THAN IS WAITED FOR (castellanref05.Short). No condition.
-/
import Derived.Test.YtfnemlbkmhcodaaGreatJRecMa3
import Derived.Test.YtfnemlbkmhcodaaGreatJRecSubba3
import Derived.Test.YtfnemlbkmhcodaaGreatJOutca3
import Derived.Test.YtfnemlbkmhcodaaGreatJSlca3
import Derived.Deep.DeepCutAuto
namespace Go.Proofs.YtfnemlbkmhcodaaGreat
open Go.RowKit

/-- The slice v holds the list l, in a block that may be. -/
def Sli (ok : Nat → Prop) (W : World) (v : Value) (l : List Int) : Prop :=
  (∃ ao cap, l = [] ∧ v = .slice ao 0 cap) ∨
  (∃ b o cap, v = .slice (some ⟨b, o, none⟩) l.length cap ∧ l.length ≤ cap ∧ ok b ∧ ∀ i (h : i < l.length), W.cell? ⟨b, o + i, none⟩ = some (ic l[i]))
theorem Sli.sl {ok : Nat → Prop} {W : World} {v : Value} {l : List Int} (h : Sli ok W v l) : Sl ic W v l := by
  rcases h with h | ⟨b, o, cap, h1, h2, _, h3⟩
  · exact .inl h
  · exact .inr ⟨b, o, cap, h1, h2, h3⟩
theorem Sli.nil (ok : Nat → Prop) (w : World) (ao : Option Addr) (cap : Nat) : Sli ok w (.slice ao 0 cap) [] := .inl ⟨_, _, rfl, rfl⟩
theorem Sli.imp {ok ok' : Nat → Prop} {W W' : World} {v : Value} {l : List Int} (h : Sli ok W v l) (hk : ∀ b, b < W.heap.size → ok b → ok' b) (hc : ∀ b i, b < W.heap.size → ok b → W'.cell? ⟨b, i, none⟩ = W.cell? ⟨b, i, none⟩) : Sli ok' W' v l := by
  rcases h with h | ⟨b, o, cap, h1, h2, h0, h3⟩
  · exact .inl h
  · rcases l with _ | ⟨x, l⟩
    · exact .inl ⟨_, _, rfl, h1⟩
    · have hb := cell_block (h3 0 (by simp))
      exact .inr ⟨b, o, cap, h1, h2, hk b hb h0, fun i hi => (hc b _ hb h0).trans (h3 i hi)⟩
theorem Sli.below {ok : Nat → Prop} {W W' : World} {v : Value} {l : List Int} (h : Sli ok W v l) (hb : Below W.heap.size W W') : Sli ok W' v l :=
  h.imp (fun _ _ q => q) (fun b i hl _ => hb.cell (p := ⟨b, i, none⟩) hl)
theorem Sl.li {W : World} {v : Value} {l : List Int} (h : Sl ic W v l) : Sli (fun b => b < W.heap.size) W v l := by
  rcases h with h | ⟨b, o, cap, h1, h2, h3⟩
  · exact .inl h
  · rcases l with _ | ⟨x, l⟩
    · exact .inl ⟨_, _, rfl, h1⟩
    · exact .inr ⟨b, o, cap, h1, h2, cell_block (h3 0 (by simp)), h3⟩
def cellsR (r : Rc) (a14 a15 a16 a17 : Option Addr) (c14 c15 c16 c17 : Nat) : List Value :=
  [.int .i64 r.k, .int .i64 r.br, .int .i64 r.ep, .int .i64 r.tp, .int .i64 r.pa, .int .i64 r.le, .int .i64 r.cl, .int .i64 r.se, .int .i64 r.co, .bool r.fl, .string ⟨r.nm.toArray⟩, .string ⟨r.ky.toArray⟩, .string ⟨r.va.toArray⟩, .string ⟨r.rk.toArray⟩, .slice a14 r.ids.length c14, .slice a15 r.isr.length c15, .slice a16 r.ad.length c16, .slice a17 r.dr.length c17]
/-- The rows of a record lie where they may. -/
structure RwsR (ok : Nat → Prop) (W : World) (r : Rc) (a14 a15 a16 a17 : Option Addr) (c14 c15 c16 c17 : Nat) : Prop where
  h14 : Sli ok W (.slice a14 r.ids.length c14) r.ids
  h15 : Sli ok W (.slice a15 r.isr.length c15) r.isr
  h16 : Sli ok W (.slice a16 r.ad.length c16) r.ad
  h17 : Sli ok W (.slice a17 r.dr.length c17) r.dr
theorem RwsR.below {ok : Nat → Prop} {W W' : World} {r : Rc} {a14 a15 a16 a17 : Option Addr} {c14 c15 c16 c17 : Nat} (h : RwsR ok W r a14 a15 a16 a17 c14 c15 c16 c17) (hb : Below W.heap.size W W') : RwsR ok W' r a14 a15 a16 a17 c14 c15 c16 c17 :=
  ⟨h.h14.below hb, h.h15.below hb, h.h16.below hb, h.h17.below hb⟩
/-- The value v is the record r. -/
def IsR (ok : Nat → Prop) (W : World) (v : Value) (r : Rc) : Prop :=
  ∃ a14 a15 a16 a17 c14 c15 c16 c17, v = .agg (cellsR r a14 a15 a16 a17 c14 c15 c16 c17).toArray ∧ RwsR ok W r a14 a15 a16 a17 c14 c15 c16 c17
theorem IsR.below {ok : Nat → Prop} {W W' : World} {v : Value} {r : Rc} (h : IsR ok W v r) (hb : Below W.heap.size W W') : IsR ok W' v r := by
  obtain ⟨a14, a15, a16, a17, c14, c15, c16, c17, h1, h2⟩ := h
  exact ⟨a14, a15, a16, a17, c14, c15, c16, c17, h1, h2.below hb⟩
theorem isR_zero (ok : Nat → Prop) (W : World) : IsR ok W (.agg (cellsR Rc.zero none none none none 0 0 0 0).toArray) Rc.zero :=
  ⟨_, _, _, _, _, _, _, _, rfl, Sli.nil _ _ _ _, Sli.nil _ _ _ _, Sli.nil _ _ _ _, Sli.nil _ _ _ _⟩
/-- Its texts are not too long. -/
structure TxR (r : Rc) : Prop where
  nm : r.nm.length ≤ 1000
  ky : r.ky.length ≤ 1000
  va : r.va.length ≤ 1000
  rk : r.rk.length ≤ 1000
/-- Eighteen cells. -/
structure C18 (W : World) (p : Nat) (x0 x1 x2 x3 x4 x5 x6 x7 x8 x9 x10 x11 x12 x13 x14 x15 x16 x17 : Value) : Prop where
  c0 : W.cell? ⟨p, 0, none⟩ = some x0
  c1 : W.cell? ⟨p, 1, none⟩ = some x1
  c2 : W.cell? ⟨p, 2, none⟩ = some x2
  c3 : W.cell? ⟨p, 3, none⟩ = some x3
  c4 : W.cell? ⟨p, 4, none⟩ = some x4
  c5 : W.cell? ⟨p, 5, none⟩ = some x5
  c6 : W.cell? ⟨p, 6, none⟩ = some x6
  c7 : W.cell? ⟨p, 7, none⟩ = some x7
  c8 : W.cell? ⟨p, 8, none⟩ = some x8
  c9 : W.cell? ⟨p, 9, none⟩ = some x9
  c10 : W.cell? ⟨p, 10, none⟩ = some x10
  c11 : W.cell? ⟨p, 11, none⟩ = some x11
  c12 : W.cell? ⟨p, 12, none⟩ = some x12
  c13 : W.cell? ⟨p, 13, none⟩ = some x13
  c14 : W.cell? ⟨p, 14, none⟩ = some x14
  c15 : W.cell? ⟨p, 15, none⟩ = some x15
  c16 : W.cell? ⟨p, 16, none⟩ = some x16
  c17 : W.cell? ⟨p, 17, none⟩ = some x17
theorem C18.of {W : World} {p : Nat} {x0 x1 x2 x3 x4 x5 x6 x7 x8 x9 x10 x11 x12 x13 x14 x15 x16 x17 : Value} (h : W.rangeAt p 0 [x0, x1, x2, x3, x4, x5, x6, x7, x8, x9, x10, x11, x12, x13, x14, x15, x16, x17]) : C18 W p x0 x1 x2 x3 x4 x5 x6 x7 x8 x9 x10 x11 x12 x13 x14 x15 x16 x17 :=
  ⟨h 0 _ rfl, h 1 _ rfl, h 2 _ rfl, h 3 _ rfl, h 4 _ rfl, h 5 _ rfl, h 6 _ rfl, h 7 _ rfl, h 8 _ rfl, h 9 _ rfl, h 10 _ rfl, h 11 _ rfl, h 12 _ rfl, h 13 _ rfl, h 14 _ rfl, h 15 _ rfl, h 16 _ rfl, h 17 _ rfl⟩
theorem range_below {W W' : World} {p : Nat} {x : Value} {xs : List Value} (h : W.rangeAt p 0 (x :: xs)) (hb : Below W.heap.size W W') : W'.rangeAt p 0 (x :: xs) := fun j v hv =>
  (hb.cell (p := ⟨p, 0 + j, none⟩) (cell_block (h 0 _ rfl) : p < W.heap.size)).trans (h j v hv)
theorem range_new (w : World) (xs : List Value) (t : TypeId) : (w.alloc (.cells xs.toArray t)).rangeAt w.heap.size 0 xs := fun j v hv => by
  have := cells_at w xs t j v hv
  rw [Addr.add_lit] at this
  exact this
/-- What is wrong first, by what each field comes to. -/
def checkB (br ep tp pa le cl nl vl il : Int) (b0 b1 b2 b3 b4 b5 b6 b7 ff n0 n1 n2 vv r0 r1 r2 r3 : Bool) : ByteArray × Int × Int :=
  if b0 = false then (⟨#[98, 114, 111, 107, 101, 114]⟩, br, 2)
  else if b1 = false then (⟨#[101, 112, 111, 99, 104]⟩, ep, 2)
  else if b2 = false then (⟨#[116, 111, 112, 105, 99]⟩, tp, 2)
  else if b3 = false then (⟨#[112, 97, 114, 116]⟩, pa, 2)
  else if b4 = false then (⟨#[108, 101, 97, 100, 101, 114]⟩, le, 2)
  else if b5 = false ∨ b6 = false ∨ b7 = false then (⟨#[97, 115, 107, 101, 114]⟩, cl, 2)
  else if ff = true then (⟨#[102, 108, 97, 103]⟩, 1, 1)
  else if n0 = false ∨ n1 = false ∨ n2 = false then (⟨#[110, 97, 109, 101]⟩, nl, 1)
  else if vv = true then (⟨#[118, 97, 108, 117, 101]⟩, vl, 6)
  else if r0 = false ∨ r1 = false ∨ r2 = false ∨ r3 = false then (⟨#[114, 111, 119]⟩, il, 18)
  else (⟨#[]⟩, 0, 0)
theorem chk_kind {r : Rc} (h : ¬ (1 ≤ r.k ∧ r.k ≤ 12)) : chk r = (⟨#[107, 105, 110, 100]⟩, r.k, 5) := by
  unfold chk checkR
  rw [if_pos (by omega)]
theorem chk_eq {r : Rc} (h : 1 ≤ r.k ∧ r.k ≤ 12) : chk r = checkB r.br r.ep r.tp r.pa r.le r.cl r.nm.length r.va.length r.ids.length
    (numB r.br (hasL r.k 98) 1 64) (numB r.ep (hasL r.k 101) 0 1073741824) (numB r.tp (hasL r.k 116) (if r.k = 10 then 0 else 1) 1073741824) (numB r.pa (hasL r.k 112) 0 255) (numB r.le (hasL r.k 108) 0 64)
    (numB r.cl (hasL r.k 97) 1 1073741824) (numB r.se (hasL r.k 97) 1 1073741824) (numB r.co (hasL r.k 97) 0 21) (r.fl && !hasL r.k 102)
    (nameA r.nm (hasL r.k 110)) (nameA r.ky (hasL r.k 107)) (nameA r.rk (hasL r.k 114)) (decide (mostV (hasL r.k 118) r.fl < (r.va.length : Int)))
    (rowB r.ids (hasL r.k 105)) (rowB r.isr (hasL r.k 109)) (rowB r.ad (hasL r.k 120)) (rowB r.dr (hasL r.k 120)) := by
  unfold chk checkR
  rw [if_neg (by omega)]
  unfold numsR
  have hv : (256 < r.va.length ∨ (r.va.isEmpty = false ∧ (r.fl = true ∨ hasL r.k 118 = false))) ↔ decide (mostV (hasL r.k 118) r.fl < (r.va.length : Int)) = true := by
    rw [decide_eq_true_iff]
    unfold mostV
    have he : r.va.isEmpty = false ↔ 0 < r.va.length := by
      cases r.va <;> simp
    rw [he]
    by_cases q : r.fl = true ∨ hasL r.k 118 = false
    · rw [if_pos q]
      constructor
      · intro h; omega
      · intro h; exact .inr ⟨by omega, q⟩
    · rw [if_neg q]
      constructor
      · rintro (h | h)
        · omega
        · exact absurd h.2 q
      · intro h; exact .inl (by omega)
  have hf : (r.fl = true ∧ hasL r.k 102 = false) ↔ (r.fl && !hasL r.k 102) = true := by
    cases r.fl <;> cases hasL r.k 102 <;> simp
  simp only [hv, hf]
  generalize (r.fl && !hasL r.k 102) = ff
  generalize decide (mostV (hasL r.k 118) r.fl < (r.va.length : Int)) = vv
  generalize numB r.br (hasL r.k 98) 1 64 = b0
  generalize numB r.ep (hasL r.k 101) 0 1073741824 = b1
  generalize numB r.tp (hasL r.k 116) (if r.k = 10 then 0 else 1) 1073741824 = b2
  generalize numB r.pa (hasL r.k 112) 0 255 = b3
  generalize numB r.le (hasL r.k 108) 0 64 = b4
  generalize numB r.cl (hasL r.k 97) 1 1073741824 = b5
  generalize numB r.se (hasL r.k 97) 1 1073741824 = b6
  generalize numB r.co (hasL r.k 97) 0 21 = b7
  unfold checkB
  cases b0
  · simp
  cases b1
  · simp
  cases b2
  · simp
  cases b3
  · simp
  cases b4
  · simp
  cases b5
  · simp
  cases b6
  · simp
  cases b7
  · simp
  simp
end Go.Proofs.YtfnemlbkmhcodaaGreat
namespace Go.Proofs.YtfnemlbkmhcodaaGreat
open Go.ChangeShapes Go.WideShapes Go.ChangeAt Go.RowKit Go.Joins
set_option maxRecDepth 100000

theorem array18 {α : Type} {cs : Array α} (h : cs.size = 18) : ∃ c0 c1 c2 c3 c4 c5 c6 c7 c8 c9 c10 c11 c12 c13 c14 c15 c16 c17, cs = #[c0, c1, c2, c3, c4, c5, c6, c7, c8, c9, c10, c11, c12, c13, c14, c15, c16, c17] := by
  obtain ⟨l⟩ := cs
  match l, h with
  | [c0, c1, c2, c3, c4, c5, c6, c7, c8, c9, c10, c11, c12, c13, c14, c15, c16, c17], _ => exact ⟨c0, c1, c2, c3, c4, c5, c6, c7, c8, c9, c10, c11, c12, c13, c14, c15, c16, c17, rfl⟩
theorem cellsRec : Tryz.prog.cellsOf 62 = 18 := by kernel_rfl
theorem cellsI : Tryz.prog.cellsOf 3 = 1 := by kernel_rfl
theorem cellsBo : Tryz.prog.cellsOf 4 = 1 := by kernel_rfl
theorem cellsS : Tryz.prog.cellsOf 9 = 1 := by kernel_rfl
theorem cellsR' : Tryz.prog.cellsOf 42 = 1 := by kernel_rfl
theorem str_form (s : ByteArray) : Value.string s = .string ⟨s.data.toList.toArray⟩ := by cases s; simp
section
variable {H : Type} {enc : TypeId × Value → H}
/-- A row of numbers that came in. -/
theorem open_rowi {W : World} {n : Nat} {u : Value} {x : DataW H × List MemPlace} (h : DataW.trod enc Tryz.prog W 0 (fun _ => true) true n 42 [u] = some x) : ∃ (l : List Int) (ao : Option Addr) (cap : Nat), u = .slice ao l.length cap ∧ Sli (fun b => b < W.heap.size) W (.slice ao l.length cap) l := by
  rcases open_ints Tryz.underlying42 Tryz.underlying3 (by kernel_rfl) h with ⟨hcs, rfl⟩ | ⟨a, len, cap, zs, hcs, _, hle, hmax, hall, rfl, hcell, hwf⟩
  · simp at hcs
    subst hcs
    exact ⟨[], none, 0, rfl, Sli.nil _ _ _ _⟩
  · simp at hcs
    subst hcs
    rw [if_pos rfl] at hall
    have hl : (zs.take len).length = len := by rw [List.length_take]; omega
    refine ⟨zs.take len, some a, cap, by rw [hl], ?_⟩
    by_cases h0 : len = 0
    · subst h0
      exact .inl ⟨some a, cap, by simp, by simp⟩
    · obtain ⟨b, off, rfl, hcc⟩ := ints_at hcell (by omega)
      have hsl : Sl ic W (.slice (some ⟨b, off, none⟩) (zs.take len).length cap) (zs.take len) := .inr ⟨b, off, cap, rfl, by omega, fun i hi => by
        rw [hl] at hi
        rw [hcc i (by omega), List.getElem_take]
        simp [List.getD, show i < zs.length by omega, ic]⟩
      exact hsl.li
/-- A record that came in. -/
theorem open_rec {W : World} {base : Nat} {v : Value} {d : DataW H} {p : List MemPlace} (hv : Value.okWide Tryz.prog W .any base 62 v) (h : DataW.Trod enc Tryz.prog W 0 (fun _ => true) true 62 v d p) : ∃ r : Rc, IsR (fun b => b < W.heap.size) W v r := by
  obtain ⟨cs, rfl, hsz⟩ := okWide_struct Tryz.underlying62 hv
  obtain ⟨c0, c1, c2, c3, c4, c5, c6, c7, c8, c9, c10, c11, c12, c13, c14, c15, c16, c17, rfl⟩ := array18 (hsz.trans cellsRec)
  obtain ⟨fuel, hf⟩ := h
  obtain ⟨xs, n, _, _, _, hlen, hfi⟩ := DataW.trod_struct Tryz.underlying62 hf
  have hlen' : xs.length = 18 := hlen
  have t0 : DataW.trod enc Tryz.prog W 0 (fun _ => true) true n 3 [c0] = some (xs[0]'(by omega)) := by
    have q := hfi 0 _ rfl
    rw [List.getElem?_eq_getElem (show 0 < xs.length by omega)] at q
    change DataW.trod enc Tryz.prog W 0 (fun _ => true) true n 3 (List.take (Tryz.prog.cellsOf 3) (List.drop 0 [c0, c1, c2, c3, c4, c5, c6, c7, c8, c9, c10, c11, c12, c13, c14, c15, c16, c17])) = _ at q
    rw [cellsI] at q
    exact q
  obtain ⟨k0, e0, _, _⟩ := DataW.trod_int (t := 3) Tryz.underlying3 t0
  simp only [List.cons.injEq, and_true] at e0
  subst e0
  have t1 : DataW.trod enc Tryz.prog W 0 (fun _ => true) true n 3 [c1] = some (xs[1]'(by omega)) := by
    have q := hfi 1 _ rfl
    rw [List.getElem?_eq_getElem (show 1 < xs.length by omega)] at q
    change DataW.trod enc Tryz.prog W 0 (fun _ => true) true n 3 (List.take (Tryz.prog.cellsOf 3) (List.drop 1 [.int .i64 k0, c1, c2, c3, c4, c5, c6, c7, c8, c9, c10, c11, c12, c13, c14, c15, c16, c17])) = _ at q
    rw [cellsI] at q
    exact q
  obtain ⟨k1, e1, _, _⟩ := DataW.trod_int (t := 3) Tryz.underlying3 t1
  simp only [List.cons.injEq, and_true] at e1
  subst e1
  have t2 : DataW.trod enc Tryz.prog W 0 (fun _ => true) true n 3 [c2] = some (xs[2]'(by omega)) := by
    have q := hfi 2 _ rfl
    rw [List.getElem?_eq_getElem (show 2 < xs.length by omega)] at q
    change DataW.trod enc Tryz.prog W 0 (fun _ => true) true n 3 (List.take (Tryz.prog.cellsOf 3) (List.drop 2 [.int .i64 k0, .int .i64 k1, c2, c3, c4, c5, c6, c7, c8, c9, c10, c11, c12, c13, c14, c15, c16, c17])) = _ at q
    rw [cellsI] at q
    exact q
  obtain ⟨k2, e2, _, _⟩ := DataW.trod_int (t := 3) Tryz.underlying3 t2
  simp only [List.cons.injEq, and_true] at e2
  subst e2
  have t3 : DataW.trod enc Tryz.prog W 0 (fun _ => true) true n 3 [c3] = some (xs[3]'(by omega)) := by
    have q := hfi 3 _ rfl
    rw [List.getElem?_eq_getElem (show 3 < xs.length by omega)] at q
    change DataW.trod enc Tryz.prog W 0 (fun _ => true) true n 3 (List.take (Tryz.prog.cellsOf 3) (List.drop 3 [.int .i64 k0, .int .i64 k1, .int .i64 k2, c3, c4, c5, c6, c7, c8, c9, c10, c11, c12, c13, c14, c15, c16, c17])) = _ at q
    rw [cellsI] at q
    exact q
  obtain ⟨k3, e3, _, _⟩ := DataW.trod_int (t := 3) Tryz.underlying3 t3
  simp only [List.cons.injEq, and_true] at e3
  subst e3
  have t4 : DataW.trod enc Tryz.prog W 0 (fun _ => true) true n 3 [c4] = some (xs[4]'(by omega)) := by
    have q := hfi 4 _ rfl
    rw [List.getElem?_eq_getElem (show 4 < xs.length by omega)] at q
    change DataW.trod enc Tryz.prog W 0 (fun _ => true) true n 3 (List.take (Tryz.prog.cellsOf 3) (List.drop 4 [.int .i64 k0, .int .i64 k1, .int .i64 k2, .int .i64 k3, c4, c5, c6, c7, c8, c9, c10, c11, c12, c13, c14, c15, c16, c17])) = _ at q
    rw [cellsI] at q
    exact q
  obtain ⟨k4, e4, _, _⟩ := DataW.trod_int (t := 3) Tryz.underlying3 t4
  simp only [List.cons.injEq, and_true] at e4
  subst e4
  have t5 : DataW.trod enc Tryz.prog W 0 (fun _ => true) true n 3 [c5] = some (xs[5]'(by omega)) := by
    have q := hfi 5 _ rfl
    rw [List.getElem?_eq_getElem (show 5 < xs.length by omega)] at q
    change DataW.trod enc Tryz.prog W 0 (fun _ => true) true n 3 (List.take (Tryz.prog.cellsOf 3) (List.drop 5 [.int .i64 k0, .int .i64 k1, .int .i64 k2, .int .i64 k3, .int .i64 k4, c5, c6, c7, c8, c9, c10, c11, c12, c13, c14, c15, c16, c17])) = _ at q
    rw [cellsI] at q
    exact q
  obtain ⟨k5, e5, _, _⟩ := DataW.trod_int (t := 3) Tryz.underlying3 t5
  simp only [List.cons.injEq, and_true] at e5
  subst e5
  have t6 : DataW.trod enc Tryz.prog W 0 (fun _ => true) true n 3 [c6] = some (xs[6]'(by omega)) := by
    have q := hfi 6 _ rfl
    rw [List.getElem?_eq_getElem (show 6 < xs.length by omega)] at q
    change DataW.trod enc Tryz.prog W 0 (fun _ => true) true n 3 (List.take (Tryz.prog.cellsOf 3) (List.drop 6 [.int .i64 k0, .int .i64 k1, .int .i64 k2, .int .i64 k3, .int .i64 k4, .int .i64 k5, c6, c7, c8, c9, c10, c11, c12, c13, c14, c15, c16, c17])) = _ at q
    rw [cellsI] at q
    exact q
  obtain ⟨k6, e6, _, _⟩ := DataW.trod_int (t := 3) Tryz.underlying3 t6
  simp only [List.cons.injEq, and_true] at e6
  subst e6
  have t7 : DataW.trod enc Tryz.prog W 0 (fun _ => true) true n 3 [c7] = some (xs[7]'(by omega)) := by
    have q := hfi 7 _ rfl
    rw [List.getElem?_eq_getElem (show 7 < xs.length by omega)] at q
    change DataW.trod enc Tryz.prog W 0 (fun _ => true) true n 3 (List.take (Tryz.prog.cellsOf 3) (List.drop 7 [.int .i64 k0, .int .i64 k1, .int .i64 k2, .int .i64 k3, .int .i64 k4, .int .i64 k5, .int .i64 k6, c7, c8, c9, c10, c11, c12, c13, c14, c15, c16, c17])) = _ at q
    rw [cellsI] at q
    exact q
  obtain ⟨k7, e7, _, _⟩ := DataW.trod_int (t := 3) Tryz.underlying3 t7
  simp only [List.cons.injEq, and_true] at e7
  subst e7
  have t8 : DataW.trod enc Tryz.prog W 0 (fun _ => true) true n 3 [c8] = some (xs[8]'(by omega)) := by
    have q := hfi 8 _ rfl
    rw [List.getElem?_eq_getElem (show 8 < xs.length by omega)] at q
    change DataW.trod enc Tryz.prog W 0 (fun _ => true) true n 3 (List.take (Tryz.prog.cellsOf 3) (List.drop 8 [.int .i64 k0, .int .i64 k1, .int .i64 k2, .int .i64 k3, .int .i64 k4, .int .i64 k5, .int .i64 k6, .int .i64 k7, c8, c9, c10, c11, c12, c13, c14, c15, c16, c17])) = _ at q
    rw [cellsI] at q
    exact q
  obtain ⟨k8, e8, _, _⟩ := DataW.trod_int (t := 3) Tryz.underlying3 t8
  simp only [List.cons.injEq, and_true] at e8
  subst e8
  have t9 : DataW.trod enc Tryz.prog W 0 (fun _ => true) true n 4 [c9] = some (xs[9]'(by omega)) := by
    have q := hfi 9 _ rfl
    rw [List.getElem?_eq_getElem (show 9 < xs.length by omega)] at q
    change DataW.trod enc Tryz.prog W 0 (fun _ => true) true n 4 (List.take (Tryz.prog.cellsOf 4) (List.drop 9 [.int .i64 k0, .int .i64 k1, .int .i64 k2, .int .i64 k3, .int .i64 k4, .int .i64 k5, .int .i64 k6, .int .i64 k7, .int .i64 k8, c9, c10, c11, c12, c13, c14, c15, c16, c17])) = _ at q
    rw [cellsBo] at q
    exact q
  obtain ⟨k9, e9, _⟩ := DataW.trod_bool (t := 4) Tryz.underlying4 t9
  simp only [List.cons.injEq, and_true] at e9
  subst e9
  have t10 : DataW.trod enc Tryz.prog W 0 (fun _ => true) true n 9 [c10] = some (xs[10]'(by omega)) := by
    have q := hfi 10 _ rfl
    rw [List.getElem?_eq_getElem (show 10 < xs.length by omega)] at q
    change DataW.trod enc Tryz.prog W 0 (fun _ => true) true n 9 (List.take (Tryz.prog.cellsOf 9) (List.drop 10 [.int .i64 k0, .int .i64 k1, .int .i64 k2, .int .i64 k3, .int .i64 k4, .int .i64 k5, .int .i64 k6, .int .i64 k7, .int .i64 k8, .bool k9, c10, c11, c12, c13, c14, c15, c16, c17])) = _ at q
    rw [cellsS] at q
    exact q
  obtain ⟨k10, e10, _, _⟩ := DataW.trod_string (t := 9) Tryz.underlying9 t10
  simp only [List.cons.injEq, and_true] at e10
  subst e10
  have t11 : DataW.trod enc Tryz.prog W 0 (fun _ => true) true n 9 [c11] = some (xs[11]'(by omega)) := by
    have q := hfi 11 _ rfl
    rw [List.getElem?_eq_getElem (show 11 < xs.length by omega)] at q
    change DataW.trod enc Tryz.prog W 0 (fun _ => true) true n 9 (List.take (Tryz.prog.cellsOf 9) (List.drop 11 [.int .i64 k0, .int .i64 k1, .int .i64 k2, .int .i64 k3, .int .i64 k4, .int .i64 k5, .int .i64 k6, .int .i64 k7, .int .i64 k8, .bool k9, .string k10, c11, c12, c13, c14, c15, c16, c17])) = _ at q
    rw [cellsS] at q
    exact q
  obtain ⟨k11, e11, _, _⟩ := DataW.trod_string (t := 9) Tryz.underlying9 t11
  simp only [List.cons.injEq, and_true] at e11
  subst e11
  have t12 : DataW.trod enc Tryz.prog W 0 (fun _ => true) true n 9 [c12] = some (xs[12]'(by omega)) := by
    have q := hfi 12 _ rfl
    rw [List.getElem?_eq_getElem (show 12 < xs.length by omega)] at q
    change DataW.trod enc Tryz.prog W 0 (fun _ => true) true n 9 (List.take (Tryz.prog.cellsOf 9) (List.drop 12 [.int .i64 k0, .int .i64 k1, .int .i64 k2, .int .i64 k3, .int .i64 k4, .int .i64 k5, .int .i64 k6, .int .i64 k7, .int .i64 k8, .bool k9, .string k10, .string k11, c12, c13, c14, c15, c16, c17])) = _ at q
    rw [cellsS] at q
    exact q
  obtain ⟨k12, e12, _, _⟩ := DataW.trod_string (t := 9) Tryz.underlying9 t12
  simp only [List.cons.injEq, and_true] at e12
  subst e12
  have t13 : DataW.trod enc Tryz.prog W 0 (fun _ => true) true n 9 [c13] = some (xs[13]'(by omega)) := by
    have q := hfi 13 _ rfl
    rw [List.getElem?_eq_getElem (show 13 < xs.length by omega)] at q
    change DataW.trod enc Tryz.prog W 0 (fun _ => true) true n 9 (List.take (Tryz.prog.cellsOf 9) (List.drop 13 [.int .i64 k0, .int .i64 k1, .int .i64 k2, .int .i64 k3, .int .i64 k4, .int .i64 k5, .int .i64 k6, .int .i64 k7, .int .i64 k8, .bool k9, .string k10, .string k11, .string k12, c13, c14, c15, c16, c17])) = _ at q
    rw [cellsS] at q
    exact q
  obtain ⟨k13, e13, _, _⟩ := DataW.trod_string (t := 9) Tryz.underlying9 t13
  simp only [List.cons.injEq, and_true] at e13
  subst e13
  have t14 : DataW.trod enc Tryz.prog W 0 (fun _ => true) true n 42 [c14] = some (xs[14]'(by omega)) := by
    have q := hfi 14 _ rfl
    rw [List.getElem?_eq_getElem (show 14 < xs.length by omega)] at q
    change DataW.trod enc Tryz.prog W 0 (fun _ => true) true n 42 (List.take (Tryz.prog.cellsOf 42) (List.drop 14 [.int .i64 k0, .int .i64 k1, .int .i64 k2, .int .i64 k3, .int .i64 k4, .int .i64 k5, .int .i64 k6, .int .i64 k7, .int .i64 k8, .bool k9, .string k10, .string k11, .string k12, .string k13, c14, c15, c16, c17])) = _ at q
    rw [cellsR'] at q
    exact q
  obtain ⟨k14, a14, d14, e14, s14⟩ := open_rowi t14
  subst e14
  have t15 : DataW.trod enc Tryz.prog W 0 (fun _ => true) true n 42 [c15] = some (xs[15]'(by omega)) := by
    have q := hfi 15 _ rfl
    rw [List.getElem?_eq_getElem (show 15 < xs.length by omega)] at q
    change DataW.trod enc Tryz.prog W 0 (fun _ => true) true n 42 (List.take (Tryz.prog.cellsOf 42) (List.drop 15 [.int .i64 k0, .int .i64 k1, .int .i64 k2, .int .i64 k3, .int .i64 k4, .int .i64 k5, .int .i64 k6, .int .i64 k7, .int .i64 k8, .bool k9, .string k10, .string k11, .string k12, .string k13, .slice a14 k14.length d14, c15, c16, c17])) = _ at q
    rw [cellsR'] at q
    exact q
  obtain ⟨k15, a15, d15, e15, s15⟩ := open_rowi t15
  subst e15
  have t16 : DataW.trod enc Tryz.prog W 0 (fun _ => true) true n 42 [c16] = some (xs[16]'(by omega)) := by
    have q := hfi 16 _ rfl
    rw [List.getElem?_eq_getElem (show 16 < xs.length by omega)] at q
    change DataW.trod enc Tryz.prog W 0 (fun _ => true) true n 42 (List.take (Tryz.prog.cellsOf 42) (List.drop 16 [.int .i64 k0, .int .i64 k1, .int .i64 k2, .int .i64 k3, .int .i64 k4, .int .i64 k5, .int .i64 k6, .int .i64 k7, .int .i64 k8, .bool k9, .string k10, .string k11, .string k12, .string k13, .slice a14 k14.length d14, .slice a15 k15.length d15, c16, c17])) = _ at q
    rw [cellsR'] at q
    exact q
  obtain ⟨k16, a16, d16, e16, s16⟩ := open_rowi t16
  subst e16
  have t17 : DataW.trod enc Tryz.prog W 0 (fun _ => true) true n 42 [c17] = some (xs[17]'(by omega)) := by
    have q := hfi 17 _ rfl
    rw [List.getElem?_eq_getElem (show 17 < xs.length by omega)] at q
    change DataW.trod enc Tryz.prog W 0 (fun _ => true) true n 42 (List.take (Tryz.prog.cellsOf 42) (List.drop 17 [.int .i64 k0, .int .i64 k1, .int .i64 k2, .int .i64 k3, .int .i64 k4, .int .i64 k5, .int .i64 k6, .int .i64 k7, .int .i64 k8, .bool k9, .string k10, .string k11, .string k12, .string k13, .slice a14 k14.length d14, .slice a15 k15.length d15, .slice a16 k16.length d16, c17])) = _ at q
    rw [cellsR'] at q
    exact q
  obtain ⟨k17, a17, d17, e17, s17⟩ := open_rowi t17
  subst e17
  refine ⟨⟨k0, k1, k2, k3, k4, k5, k6, k7, k8, k9, k10.data.toList, k11.data.toList, k12.data.toList, k13.data.toList, k14, k15, k16, k17⟩, a14, a15, a16, a17, d14, d15, d16, d17, ?_, ⟨s14, s15, s16, s17⟩⟩
  rw [str_form k10, str_form k11, str_form k12, str_form k13]
  rfl
end
theorem u16_of {n : Int} (h : (Lit.int .u16 n).wf = true) : 0 ≤ n ∧ n ≤ 65535 := by
  simp only [Lit.wf, Bool.and_eq_true, decide_eq_true_eq, show IntKind.u16.min = 0 by decide, show IntKind.u16.max = 65535 by decide] at h
  exact h
theorem u8_of {n : Int} (h : (Lit.int .u8 n).wf = true) : 0 ≤ n ∧ n ≤ 255 := by
  simp only [Lit.wf, Bool.and_eq_true, decide_eq_true_eq, show IntKind.u8.min = 0 by decide, show IntKind.u8.max = 255 by decide] at h
  exact h
end Go.Proofs.YtfnemlbkmhcodaaGreat
namespace Go.Proofs.YtfnemlbkmhcodaaGreat
open Go.RowKit

set_option maxRecDepth 100000 in
set_option maxHeartbeats 8000000 in
theorem short_go (k br ep tp pa le cl se co : Int) (fl : Bool) (nm ky va rk : List UInt8) (a14 a15 a16 a17 : Option Addr) (c14 c15 c16 c17 : Nat) (ids isr ad dr : List Int) (w : World) :
    Calls Tryz.prog 67 #[.agg #[.int .i64 k, .int .i64 br, .int .i64 ep, .int .i64 tp, .int .i64 pa, .int .i64 le, .int .i64 cl, .int .i64 se, .int .i64 co, .bool fl, .string ⟨nm.toArray⟩, .string ⟨ky.toArray⟩, .string ⟨va.toArray⟩, .string ⟨rk.toArray⟩, .slice a14 ids.length c14, .slice a15 isr.length c15, .slice a16 ad.length c16, .slice a17 dr.length c17]] w fun e w' => e = .returned (.bool (decide (nm.length ≤ 400 ∧ ky.length ≤ 400 ∧ va.length ≤ 400 ∧ rk.length ≤ 400 ∧ ids.length ≤ 60 ∧ isr.length ≤ 60 ∧ ad.length ≤ 60 ∧ dr.length ≤ 60))) ∧ Below w.heap.size w w' := by
  obtain ⟨R, hR⟩ : ∃ R, R = decide (nm.length ≤ 400 ∧ ky.length ≤ 400 ∧ va.length ≤ 400 ∧ rk.length ≤ 400 ∧ ids.length ≤ 60 ∧ isr.length ≤ 60 ∧ ad.length ≤ 60 ∧ dr.length ≤ 60) := ⟨_, rfl⟩
  rw [← hR]
  have HR := hide hR
  clear hR
  have HQ : Hid ((w.alloc (.cells #[.int .i64 k, .int .i64 br, .int .i64 ep, .int .i64 tp, .int .i64 pa, .int .i64 le, .int .i64 cl, .int .i64 se, .int .i64 co, .bool fl, .string ⟨nm.toArray⟩, .string ⟨ky.toArray⟩, .string ⟨va.toArray⟩, .string ⟨rk.toArray⟩, .slice a14 ids.length c14, .slice a15 isr.length c15, .slice a16 ad.length c16, .slice a17 dr.length c17] 62)).rangeAt w.heap.size 0 [.int .i64 k, .int .i64 br, .int .i64 ep, .int .i64 tp, .int .i64 pa, .int .i64 le, .int .i64 cl, .int .i64 se, .int .i64 co, .bool fl, .string ⟨nm.toArray⟩, .string ⟨ky.toArray⟩, .string ⟨va.toArray⟩, .string ⟨rk.toArray⟩, .slice a14 ids.length c14, .slice a15 isr.length c15, .slice a16 ad.length c16, .slice a17 dr.length c17]) := hide (range_new w _ _)
  have HB : Hid (Below w.heap.size w (w.alloc (.cells #[.int .i64 k, .int .i64 br, .int .i64 ep, .int .i64 tp, .int .i64 pa, .int .i64 le, .int .i64 cl, .int .i64 se, .int .i64 co, .bool fl, .string ⟨nm.toArray⟩, .string ⟨ky.toArray⟩, .string ⟨va.toArray⟩, .string ⟨rk.toArray⟩, .slice a14 ids.length c14, .slice a15 isr.length c15, .slice a16 ad.length c16, .slice a17 dr.length c17] 62))) := hide ((Below.refl _ _).alloc (Nat.le_refl _) _)
  go_enter Tryz.func67, Tryz.ntmps67
  go_upto_region 1 with fail
  generalize w.alloc (.cells #[.int .i64 k, .int .i64 br, .int .i64 ep, .int .i64 tp, .int .i64 pa, .int .i64 le, .int .i64 cl, .int .i64 se, .int .i64 co, .bool fl, .string ⟨nm.toArray⟩, .string ⟨ky.toArray⟩, .string ⟨va.toArray⟩, .string ⟨rk.toArray⟩, .slice a14 ids.length c14, .slice a15 isr.length c15, .slice a16 ad.length c16, .slice a17 dr.length c17] 62) = X at HQ HB ⊢
  obtain ⟨g0, g1, g2, g3, g4, g5, g6, g7, g8, g9, g10, g11, g12, g13, g14, g15, g16, g17⟩ := C18.of HQ.out
  clear g0 g1 g2 g3 g4 g5 g6 g7 g8 g9
  by_cases qnm : nm.length ≤ 400
  case neg =>
    have HE : Hid (R = false) := hide (by rw [HR.out]; simp [qnm])
    have pnm : ¬ (nm.length : Int) ≤ 400 := by omega
    go_wp2_with fail
    go_ret
    exact ⟨by rw [HE.out]; first | rfl | simp [pnm], HB.out⟩
  have pnm : (nm.length : Int) ≤ 400 := by omega
  by_cases qky : ky.length ≤ 400
  case neg =>
    have HE : Hid (R = false) := hide (by rw [HR.out]; simp [qky])
    have pky : ¬ (ky.length : Int) ≤ 400 := by omega
    go_wp2_with fail
    go_ret
    exact ⟨by rw [HE.out]; first | rfl | simp [pky], HB.out⟩
  have pky : (ky.length : Int) ≤ 400 := by omega
  by_cases qva : va.length ≤ 400
  case neg =>
    have HE : Hid (R = false) := hide (by rw [HR.out]; simp [qva])
    have pva : ¬ (va.length : Int) ≤ 400 := by omega
    go_wp2_with fail
    go_ret
    exact ⟨by rw [HE.out]; first | rfl | simp [pva], HB.out⟩
  have pva : (va.length : Int) ≤ 400 := by omega
  by_cases qrk : rk.length ≤ 400
  case neg =>
    have HE : Hid (R = false) := hide (by rw [HR.out]; simp [qrk])
    have prk : ¬ (rk.length : Int) ≤ 400 := by omega
    go_wp2_with fail
    go_ret
    exact ⟨by rw [HE.out]; first | rfl | simp [prk], HB.out⟩
  have prk : (rk.length : Int) ≤ 400 := by omega
  by_cases qids : ids.length ≤ 60
  case neg =>
    have HE : Hid (R = false) := hide (by rw [HR.out]; simp [qids])
    have pids : ¬ (ids.length : Int) ≤ 60 := by omega
    go_wp2_with fail
    go_ret
    exact ⟨by rw [HE.out]; first | rfl | simp [pids], HB.out⟩
  have pids : (ids.length : Int) ≤ 60 := by omega
  by_cases qisr : isr.length ≤ 60
  case neg =>
    have HE : Hid (R = false) := hide (by rw [HR.out]; simp [qisr])
    have pisr : ¬ (isr.length : Int) ≤ 60 := by omega
    go_wp2_with fail
    go_ret
    exact ⟨by rw [HE.out]; first | rfl | simp [pisr], HB.out⟩
  have pisr : (isr.length : Int) ≤ 60 := by omega
  by_cases qad : ad.length ≤ 60
  case neg =>
    have HE : Hid (R = false) := hide (by rw [HR.out]; simp [qad])
    have pad : ¬ (ad.length : Int) ≤ 60 := by omega
    go_wp2_with fail
    go_ret
    exact ⟨by rw [HE.out]; first | rfl | simp [pad], HB.out⟩
  have pad : (ad.length : Int) ≤ 60 := by omega
  by_cases qdr : dr.length ≤ 60
  case neg =>
    have HE : Hid (R = false) := hide (by rw [HR.out]; simp [qdr])
    have pdr : ¬ (dr.length : Int) ≤ 60 := by omega
    go_wp2_with fail
    go_ret
    exact ⟨by rw [HE.out]; first | rfl | simp [pdr], HB.out⟩
  have pdr : (dr.length : Int) ≤ 60 := by omega
  have HE : Hid (R = true) := hide (by rw [HR.out]; exact decide_eq_true ⟨qnm, qky, qva, qrk, qids, qisr, qad, qdr⟩)
  go_wp2_with fail
  go_ret
  exact ⟨by rw [HE.out]; first | rfl | simp [pdr], HB.out⟩
def shB (r : Rc) : Bool := decide (r.nm.length ≤ 400 ∧ r.ky.length ≤ 400 ∧ r.va.length ≤ 400 ∧ r.rk.length ≤ 400 ∧ r.ids.length ≤ 60 ∧ r.isr.length ≤ 60 ∧ r.ad.length ≤ 60 ∧ r.dr.length ≤ 60)
theorem short_any {ok : Nat → Prop} (r : Rc) (v : Value) (w : World) (hv : IsR ok w v r) : Calls Tryz.prog 67 #[v] w fun e w' => e = .returned (.bool (shB r)) ∧ Below w.heap.size w w' := by
  obtain ⟨a14, a15, a16, a17, c14, c15, c16, c17, rfl, h⟩ := hv
  exact short_go r.k r.br r.ep r.tp r.pa r.le r.cl r.se r.co r.fl r.nm r.ky r.va r.rk a14 a15 a16 a17 c14 c15 c16 c17 r.ids r.isr r.ad r.dr w
theorem sh_tx {r : Rc} (h : shB r = true) : TxR r := by
  unfold shB at h
  have := of_decide_eq_true h
  exact ⟨by omega, by omega, by omega, by omega⟩
end Go.Proofs.YtfnemlbkmhcodaaGreat
