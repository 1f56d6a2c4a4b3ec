/-
  A RECORD AS A VALUE, AND IN ITS CELLS; what is wrong with it first, as a function of what each field comes to. No condition.
  A RECORD THAT CAME IN, OPENED: its fields lie in its cells. No condition of its own.
-/
import Derived.Test.YtlggjgapdpkhiaaGreatDoorJKRecMa4
import Derived.Test.YtlggjgapdpkhiaaGreatDoorJKIsca5
namespace Go.Proofs.YtlggjgapdpkhiaaGreatDoor
open Go.RowKit
def Sli (ok : Nat → Prop) (W : World) (v : Value) (l : List Int) : Prop :=
 (∃ ao cap, l = [] ∧ v = .slice ao 0 cap) ∨
 (∃ b o cap, v = .slice (some ⟨b, o, none⟩) l.length cap ∧ l.length ≤ cap ∧ ok b ∧ ∀ i (h : i < l.length), W.cell? ⟨b, o + i, none⟩ = some (ic l[i]))
theorem Sli.sl {ok : Nat → Prop} {W : World} {v : Value} {l : List Int} (h : Sli ok W v l) : Sl ic W v l := by
 rcases h with h | ⟨b, o, cap, h1, h2, _, h3⟩
 ·exact .inl h
 ·exact .inr ⟨b, o, cap, h1, h2, h3⟩
theorem Sli.nil (ok : Nat → Prop) (w : World) (ao : Option Addr) (cap : Nat) : Sli ok w (.slice ao 0 cap) [] := .inl ⟨_, _, rfl, rfl⟩
theorem Sli.imp {ok ok' : Nat → Prop} {W W' : World} {v : Value} {l : List Int} (h : Sli ok W v l) (hk : ∀ b, b < W.heap.size → ok b → ok' b) (hc : ∀ b i, b < W.heap.size → ok b → W'.cell? ⟨b, i, none⟩ = W.cell? ⟨b, i, none⟩) : Sli ok' W' v l := by
 rcases h with h | ⟨b, o, cap, h1, h2, h0, h3⟩
 ·exact .inl h
 ·rcases l with _ | ⟨x, l⟩
  ·exact .inl ⟨_, _, rfl, h1⟩
  ·have hb := cell_block (h3 0 (by simp))
   exact .inr ⟨b, o, cap, h1, h2, hk b hb h0, fun i hi => (hc b _ hb h0).trans (h3 i hi)⟩
theorem Sli.below {ok : Nat → Prop} {W W' : World} {v : Value} {l : List Int} (h : Sli ok W v l) (hb : Below W.heap.size W W') : Sli ok W' v l :=
 h.imp (fun _ _ q => q) (fun b i hl _ => hb.cell (p := ⟨b, i, none⟩) hl)
theorem Sl.li {W : World} {v : Value} {l : List Int} (h : Sl ic W v l) : Sli (fun b => b < W.heap.size) W v l := by
 rcases h with h | ⟨b, o, cap, h1, h2, h3⟩
 ·exact .inl h
 ·rcases l with _ | ⟨x, l⟩
  ·exact .inl ⟨_, _, rfl, h1⟩
  ·exact .inr ⟨b, o, cap, h1, h2, cell_block (h3 0 (by simp)), h3⟩
def cellsR (r : Rc) (a14 a15 a16 a17 : Option Addr) (c14 c15 c16 c17 : Nat) : List Value :=
 [.int .i64 r.k, .int .i64 r.br, .int .i64 r.ep, .int .i64 r.tp, .int .i64 r.pa, .int .i64 r.le, .int .i64 r.cl, .int .i64 r.se, .int .i64 r.co, .bool r.fl, .string ⟨r.nm.toArray⟩, .string ⟨r.ky.toArray⟩, .string ⟨r.va.toArray⟩, .string ⟨r.rk.toArray⟩, .slice a14 r.ids.length c14, .slice a15 r.isr.length c15, .slice a16 r.ad.length c16, .slice a17 r.dr.length c17]
structure RwsR (ok : Nat → Prop) (W : World) (r : Rc) (a14 a15 a16 a17 : Option Addr) (c14 c15 c16 c17 : Nat) : Prop where
 h14 : Sli ok W (.slice a14 r.ids.length c14) r.ids
 h15 : Sli ok W (.slice a15 r.isr.length c15) r.isr
 h16 : Sli ok W (.slice a16 r.ad.length c16) r.ad
 h17 : Sli ok W (.slice a17 r.dr.length c17) r.dr
theorem RwsR.below {ok : Nat → Prop} {W W' : World} {r : Rc} {a14 a15 a16 a17 : Option Addr} {c14 c15 c16 c17 : Nat} (h : RwsR ok W r a14 a15 a16 a17 c14 c15 c16 c17) (hb : Below W.heap.size W W') : RwsR ok W' r a14 a15 a16 a17 c14 c15 c16 c17 :=
 ⟨h.h14.below hb, h.h15.below hb, h.h16.below hb, h.h17.below hb⟩
def IsR (ok : Nat → Prop) (W : World) (v : Value) (r : Rc) : Prop :=
 ∃ a14 a15 a16 a17 c14 c15 c16 c17, v = .agg (cellsR r a14 a15 a16 a17 c14 c15 c16 c17).toArray ∧ RwsR ok W r a14 a15 a16 a17 c14 c15 c16 c17
theorem IsR.below {ok : Nat → Prop} {W W' : World} {v : Value} {r : Rc} (h : IsR ok W v r) (hb : Below W.heap.size W W') : IsR ok W' v r := by
 obtain ⟨a14, a15, a16, a17, c14, c15, c16, c17, h1, h2⟩ := h
 exact ⟨a14, a15, a16, a17, c14, c15, c16, c17, h1, h2.below hb⟩
structure TxR (r : Rc) : Prop where
 nm : r.nm.length ≤ 1000
 ky : r.ky.length ≤ 1000
 va : r.va.length ≤ 1000
 rk : r.rk.length ≤ 1000
structure C18 (W : World) (p : Nat) (x0 x1 x2 x3 x4 x5 x6 x7 x8 x9 x10 x11 x12 x13 x14 x15 x16 x17 : Value) : Prop where
 c0 : W.cell? ⟨p, 0, none⟩ = some x0
 c1 : W.cell? ⟨p, 1, none⟩ = some x1
 c2 : W.cell? ⟨p, 2, none⟩ = some x2
 c3 : W.cell? ⟨p, 3, none⟩ = some x3
 c4 : W.cell? ⟨p, 4, none⟩ = some x4
 c5 : W.cell? ⟨p, 5, none⟩ = some x5
 c6 : W.cell? ⟨p, 6, none⟩ = some x6
 c7 : W.cell? ⟨p, 7, none⟩ = some x7
 c8 : W.cell? ⟨p, 8, none⟩ = some x8
 c9 : W.cell? ⟨p, 9, none⟩ = some x9
 c10 : W.cell? ⟨p, 10, none⟩ = some x10
 c11 : W.cell? ⟨p, 11, none⟩ = some x11
 c12 : W.cell? ⟨p, 12, none⟩ = some x12
 c13 : W.cell? ⟨p, 13, none⟩ = some x13
 c14 : W.cell? ⟨p, 14, none⟩ = some x14
 c15 : W.cell? ⟨p, 15, none⟩ = some x15
 c16 : W.cell? ⟨p, 16, none⟩ = some x16
 c17 : W.cell? ⟨p, 17, none⟩ = some x17
theorem C18.of {W : World} {p : Nat} {x0 x1 x2 x3 x4 x5 x6 x7 x8 x9 x10 x11 x12 x13 x14 x15 x16 x17 : Value} (h : W.rangeAt p 0 [x0, x1, x2, x3, x4, x5, x6, x7, x8, x9, x10, x11, x12, x13, x14, x15, x16, x17]) : C18 W p x0 x1 x2 x3 x4 x5 x6 x7 x8 x9 x10 x11 x12 x13 x14 x15 x16 x17 :=
 ⟨h 0 _ rfl, h 1 _ rfl, h 2 _ rfl, h 3 _ rfl, h 4 _ rfl, h 5 _ rfl, h 6 _ rfl, h 7 _ rfl, h 8 _ rfl, h 9 _ rfl, h 10 _ rfl, h 11 _ rfl, h 12 _ rfl, h 13 _ rfl, h 14 _ rfl, h 15 _ rfl, h 16 _ rfl, h 17 _ rfl⟩
theorem range_below {W W' : World} {p : Nat} {x : Value} {xs : List Value} (h : W.rangeAt p 0 (x :: xs)) (hb : Below W.heap.size W W') : W'.rangeAt p 0 (x :: xs) := fun j v hv =>
 (hb.cell (p := ⟨p, 0 + j, none⟩) (cell_block (h 0 _ rfl) : p < W.heap.size)).trans (h j v hv)
theorem range_new (w : World) (xs : List Value) (t : TypeId) : (w.alloc (.cells xs.toArray t)).rangeAt w.heap.size 0 xs := fun j v hv => by
 have := cells_at w xs t j v hv
 rw [Addr.add_lit] at this
 exact this
def checkB (br ep tp pa le cl nl vl il : Int) (b0 b1 b2 b3 b4 b5 b6 b7 ff n0 n1 n2 vv r0 r1 r2 r3 : Bool) : ByteArray × Int × Int :=
 if b0 = false then (⟨#[98, 114, 111, 107, 101, 114]⟩, br, 2)
 else if b1 = false then (⟨#[101, 112, 111, 99, 104]⟩, ep, 2)
 else if b2 = false then (⟨#[116, 111, 112, 105, 99]⟩, tp, 2)
 else if b3 = false then (⟨#[112, 97, 114, 116]⟩, pa, 2)
 else if b4 = false then (⟨#[108, 101, 97, 100, 101, 114]⟩, le, 2)
 else if b5 = false ∨ b6 = false ∨ b7 = false then (⟨#[97, 115, 107, 101, 114]⟩, cl, 2)
 else if ff = true then (⟨#[102, 108, 97, 103]⟩, 1, 1)
 else if n0 = false ∨ n1 = false ∨ n2 = false then (⟨#[110, 97, 109, 101]⟩, nl, 1)
 else if vv = true then (⟨#[118, 97, 108, 117, 101]⟩, vl, 6)
 else if r0 = false ∨ r1 = false ∨ r2 = false ∨ r3 = false then (⟨#[114, 111, 119]⟩, il, 18)
 else (⟨#[]⟩, 0, 0)
theorem chk_kind {r : Rc} (h : ¬ (1 ≤ r.k ∧ r.k ≤ 12)) : chk r = (⟨#[107, 105, 110, 100]⟩, r.k, 5) := by
 unfold chk checkR
 rw [if_pos (by omega)]
theorem chk_eq {r : Rc} (h : 1 ≤ r.k ∧ r.k ≤ 12) : chk r = checkB r.br r.ep r.tp r.pa r.le r.cl r.nm.length r.va.length r.ids.length
  (numB r.br (hasL r.k 98) 1 64) (numB r.ep (hasL r.k 101) 0 1073741824) (numB r.tp (hasL r.k 116) (if r.k = 10 then 0 else 1) 1073741824) (numB r.pa (hasL r.k 112) 0 255) (numB r.le (hasL r.k 108) 0 64)
  (numB r.cl (hasL r.k 97) 1 1073741824) (numB r.se (hasL r.k 97) 1 1073741824) (numB r.co (hasL r.k 97) 0 21) (r.fl && !hasL r.k 102)
  (nameA r.nm (hasL r.k 110)) (nameA r.ky (hasL r.k 107)) (nameA r.rk (hasL r.k 114)) (decide (mostV (hasL r.k 118) r.fl < (r.va.length : Int)))
  (rowB r.ids (hasL r.k 105)) (rowB r.isr (hasL r.k 109)) (rowB r.ad (hasL r.k 120)) (rowB r.dr (hasL r.k 120)) := by
 unfold chk checkR
 rw [if_neg (by omega)]
 unfold numsR
 have hv : (256 < r.va.length ∨ (r.va.isEmpty = false ∧ (r.fl = true ∨ hasL r.k 118 = false))) ↔ decide (mostV (hasL r.k 118) r.fl < (r.va.length : Int)) = true := by
  rw [decide_eq_true_iff]
  unfold mostV
  have he : r.va.isEmpty = false ↔ 0 < r.va.length := by
   cases r.va <;> simp
  rw [he]
  by_cases q : r.fl = true ∨ hasL r.k 118 = false
  ·rw [if_pos q]
   constructor
   ·intro h; omega
   ·intro h; exact .inr ⟨by omega, q⟩
  ·rw [if_neg q]
   constructor
   ·rintro (h | h)
    ·omega
    ·exact absurd h.2 q
   ·intro h; exact .inl (by omega)
 have hf : (r.fl = true ∧ hasL r.k 102 = false) ↔ (r.fl && !hasL r.k 102) = true := by
  cases r.fl <;> cases hasL r.k 102 <;> simp
 simp only [hv, hf]
 generalize (r.fl && !hasL r.k 102) = ff
 generalize decide (mostV (hasL r.k 118) r.fl < (r.va.length : Int)) = vv
 generalize numB r.br (hasL r.k 98) 1 64 = b0
 generalize numB r.ep (hasL r.k 101) 0 1073741824 = b1
 generalize numB r.tp (hasL r.k 116) (if r.k = 10 then 0 else 1) 1073741824 = b2
 generalize numB r.pa (hasL r.k 112) 0 255 = b3
 generalize numB r.le (hasL r.k 108) 0 64 = b4
 generalize numB r.cl (hasL r.k 97) 1 1073741824 = b5
 generalize numB r.se (hasL r.k 97) 1 1073741824 = b6
 generalize numB r.co (hasL r.k 97) 0 21 = b7
 unfold checkB
 cases b0
 ·simp
 cases b1
 ·simp
 cases b2
 ·simp
 cases b3
 ·simp
 cases b4
 ·simp
 cases b5
 ·simp
 cases b6
 ·simp
 cases b7
 ·simp
 simp
end Go.Proofs.YtlggjgapdpkhiaaGreatDoor
namespace Go.Proofs.YtlggjgapdpkhiaaGreatDoor
open Go.ChangeShapes Go.WideShapes Go.ChangeAt Go.RowKit Go.Joins
set_option maxRecDepth 100000
theorem array18 {α : Type} {cs : Array α} (h : cs.size = 18) : ∃ c0 c1 c2 c3 c4 c5 c6 c7 c8 c9 c10 c11 c12 c13 c14 c15 c16 c17, cs = #[c0, c1, c2, c3, c4, c5, c6, c7, c8, c9, c10, c11, c12, c13, c14, c15, c16, c17] := by
 obtain ⟨l⟩ := cs
 match l, h with
 | [c0, c1, c2, c3, c4, c5, c6, c7, c8, c9, c10, c11, c12, c13, c14, c15, c16, c17], _ => exact ⟨c0, c1, c2, c3, c4, c5, c6, c7, c8, c9, c10, c11, c12, c13, c14, c15, c16, c17, rfl⟩
theorem cellsRec : Tryz.prog.cellsOf 37 = 18 := by kernel_rfl
theorem cellsI : Tryz.prog.cellsOf 3 = 1 := by kernel_rfl
theorem cellsBo : Tryz.prog.cellsOf 4 = 1 := by kernel_rfl
theorem cellsS : Tryz.prog.cellsOf 9 = 1 := by kernel_rfl
theorem cellsR' : Tryz.prog.cellsOf 35 = 1 := by kernel_rfl
theorem str_form (s : ByteArray) : Value.string s = .string ⟨s.data.toList.toArray⟩ := by cases s; simp
section
variable {H : Type} {enc : TypeId × Value → H}
theorem open_rowi {W : World} {n : Nat} {u : Value} {x : DataW H × List MemPlace} (h : DataW.trod enc Tryz.prog W 0 (fun _ => true) true n 35 [u] = some x) : ∃ (l : List Int) (ao : Option Addr) (cap : Nat), u = .slice ao l.length cap ∧ Sli (fun b => b < W.heap.size) W (.slice ao l.length cap) l := by
 rcases open_ints Tryz.underlying35 Tryz.underlying3 (by kernel_rfl) h with ⟨hcs, rfl⟩ | ⟨a, len, cap, zs, hcs, _, hle, hmax, hall, rfl, hcell, hwf⟩
 ·simp at hcs
  subst hcs
  exact ⟨[], none, 0, rfl, Sli.nil _ _ _ _⟩
 ·simp at hcs
  subst hcs
  rw [if_pos rfl] at hall
  have hl : (zs.take len).length = len := by rw [List.length_take]; omega
  refine ⟨zs.take len, some a, cap, by rw [hl], ?_⟩
  by_cases h0 : len = 0
  ·subst h0
   exact .inl ⟨some a, cap, by simp, by simp⟩
  ·obtain ⟨b, off, rfl, hcc⟩ := ints_at hcell (by omega)
   have hsl : Sl ic W (.slice (some ⟨b, off, none⟩) (zs.take len).length cap) (zs.take len) := .inr ⟨b, off, cap, rfl, by omega, fun i hi => by
    rw [hl] at hi
    rw [hcc i (by omega), List.getElem_take]
    simp [List.getD, show i < zs.length by omega, ic]⟩
   exact hsl.li
end
end Go.Proofs.YtlggjgapdpkhiaaGreatDoor
