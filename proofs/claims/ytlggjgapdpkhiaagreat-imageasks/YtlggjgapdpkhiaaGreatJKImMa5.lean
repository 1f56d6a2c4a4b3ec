/-
  METADATA, AS MATHEMATICS.
  WHAT STANDS IN ORDER, as mathematics.
  METADATA AS VALUES AND IN THEIR CELLS.
  BOXES: cells of a call's own, that may be written; that they stay. No condition.
  WHERE SOMETHING STANDS (cmp.Compare, slices.BinarySearchFunc, image.find, findBroker, findTopic, findConfig).
-/
import Derived.Test.YtlggjgapdpkhiaaGreatJKRecMa5
import Derived.Test.YtlggjgapdpkhiaaGreatJKIsca5
import Derived.Deep.DeepCutAuto
import Derived.Deep.RegionWith
namespace Go.Proofs.YtlggjgapdpkhiaaGreat
open Go.RowKit
structure Bk where
 id : Int
 ep : Int
 rk : List UInt8
 fe : Bool
 lv : Bool
structure Pt where
 ids : List Int
 isr : List Int
 ld : Int
 ep : Int
 ad : List Int
 dr : List Int
structure Tp where
 id : Int
 nm : List UInt8
 ps : List Pt
structure Cf where
 tp : Int
 ky : List UInt8
 va : List UInt8
structure Dn where
 cl : Int
 se : Int
 co : Int
structure Im where
 br : List Bk
 ts : List Tp
 cf : List Cf
 dn : List Dn
 la : Int
def Bk.zero : Bk := ⟨0, 0, [], false, false⟩
def Pt.zero : Pt := ⟨[], [], 0, 0, [], []⟩
def Tp.zero : Tp := ⟨0, [], []⟩
def Im.zero : Im := ⟨[], [], [], [], 0⟩
def cmpT : List UInt8 → List UInt8 → Int
 | [], [] => 0
 | [], _ :: _ => -1
 | _ :: _, [] => 1
 | x :: a, y :: b => if x < y then -1 else if y < x then 1 else cmpT a b
def cmpN (a b : Int) : Int := if a < b then -1 else if b < a then 1 else 0
def cmpC (c : Cf) (t : Int) (k : List UInt8) : Int := if cmpN c.tp t = 0 then cmpT c.ky k else cmpN c.tp t
def idB (id : Int) (b : Bk) : Bool := b.id == id
def idT (id : Int) (t : Tp) : Bool := t.id == id
def fB (l : List Bk) (id : Int) : Option Bk := l.find? (idB id)
def fT (l : List Tp) (id : Int) : Option Tp := l.find? (idT id)
def fN (l : List Tp) (n : List UInt8) : Option Tp := l.find? fun t => t.nm == n
def idC (t : Int) (k : List UInt8) (c : Cf) : Bool := c.tp == t && c.ky == k
def fC (l : List Cf) (t : Int) (k : List UInt8) : Option Cf := l.find? (idC t k)
def idD (c s : Int) (d : Dn) : Bool := d.cl == c && d.se == s
def fD (l : List Dn) (c s : Int) : Option Dn := l.find? (idD c s)
def alive (l : List Bk) (id : Int) : Bool := match fB l id with
 | some b => !b.fe
 | none => false
def leads (l : List Tp) (id : Int) : Bool := l.any fun t => t.ps.any fun p => p.ld == id
def used (l : List Tp) (id : Int) : Bool := l.any fun t => t.ps.any fun p => p.ids.contains id
def right (l : List Bk) (p : Pt) : Int :=
 if (p.ids.isEmpty || p.ids.any fun i => (fB l i).isNone) = true then 18
 else if (p.isr.isEmpty || p.isr.any fun i => !p.ids.contains i) = true then 18
 else if (p.ld != 0 && (!p.isr.contains p.ld || !alive l p.ld)) = true then 17
 else if (p.ad.any (fun i => !p.ids.contains i) || p.dr.any (fun i => !p.ids.contains i) || p.ad.any (fun i => p.dr.contains i)) = true then 18
 else 0
def samP (p q : Pt) : Bool := p.ld == q.ld && p.ep == q.ep && p.ids == q.ids && p.isr == q.isr && p.ad == q.ad && p.dr == q.dr
def putB (l : List Bk) (b : Bk) : List Bk := l.filter (fun x => decide (x.id < b.id)) ++ b :: l.filter (fun x => decide (b.id < x.id))
def remB (l : List Bk) (id : Int) : List Bk := l.filter fun x => !idB id x
def setT (l : List Tp) (id : Int) (q : List Pt) : List Tp := l.map fun t => if t.id = id then ⟨t.id, t.nm, q⟩ else t
def putP (l : List Pt) (n : Nat) (p : Pt) : List Pt := l.take n ++ p :: l.drop (n + 1)
def putC (l : List Cf) (c : Cf) : List Cf := l.filter (fun x => decide (cmpC x c.tp c.ky < 0)) ++ c :: l.filter (fun x => decide (0 < cmpC x c.tp c.ky))
def putD (l : List Dn) (d : Dn) : List Dn := l.drop (l.length + 1 - 64) ++ [d]
def ptOf (r : Rc) : Pt := ⟨r.ids, r.isr, r.le, r.ep, r.ad, r.dr⟩
def regB (m : Im) (r : Rc) : Im × Int := match fB m.br r.br with
 | some b => if r.ep ≤ b.ep then (m, 11) else if leads m.ts r.br = true then (m, 10) else ({ m with br := putB m.br ⟨r.br, r.ep, r.rk, true, false⟩ }, 0)
 | none => ({ m with br := putB m.br ⟨r.br, r.ep, r.rk, true, false⟩ }, 0)
def trnB (m : Im) (b : Bk) (k : Int) : Im × Int :=
 if k = 3 then (if (b.fe || leads m.ts b.id) = true then (m, 10) else ({ m with br := putB m.br ⟨b.id, b.ep, b.rk, true, b.lv⟩ }, 0))
 else if k = 4 then (if b.fe = false then (m, 10) else ({ m with br := putB m.br ⟨b.id, b.ep, b.rk, false, false⟩ }, 0))
 else if k = 5 then (if (b.fe || b.lv) = true then (m, 10) else ({ m with br := putB m.br ⟨b.id, b.ep, b.rk, b.fe, true⟩ }, 0))
 else if used m.ts b.id = true then (m, 10) else ({ m with br := remB m.br b.id }, 0)
def turB (m : Im) (r : Rc) : Im × Int := match fB m.br r.br with
 | some b => if b.ep = r.ep then trnB m b r.k else (m, 11)
 | none => (m, 8)
def crtT (m : Im) (r : Rc) : Im × Int :=
 if r.tp = m.la + 1 then (if (fN m.ts r.nm).isSome = true then (m, 9) else if 256 ≤ m.ts.length then (m, 6) else ({ m with ts := m.ts ++ [⟨r.tp, r.nm, []⟩], la := r.tp }, 0)) else (m, 10)
def drpT (m : Im) (r : Rc) : Im × Int :=
 if (fT m.ts r.tp).isSome = true then ({ m with ts := m.ts.filter (fun t => !idT r.tp t), cf := m.cf.filter fun c => !(c.tp == r.tp) }, 0) else (m, 8)
def folP (l : List Pt) (r : Rc) (p : Pt) : Int :=
 if r.k = 8 then (if r.pa = l.length then 0 else 10)
 else match l[r.pa.toNat]? with
  | none => 8
  | some o => if (p.ep != o.ep + 1 && (p.ep != o.ep || p.ld != o.ld)) = true then 11 else if samP o p = true then 10 else 0
def repP (m : Im) (r : Rc) : Im × Int := match fT m.ts r.tp with
 | none => (m, 8)
 | some t => if right m.br (ptOf r) = 0 then (if folP t.ps r (ptOf r) = 0 then ({ m with ts := setT m.ts r.tp (putP t.ps r.pa.toNat (ptOf r)) }, 0) else (m, folP t.ps r (ptOf r))) else (m, right m.br (ptOf r))
def cfgC (m : Im) (r : Rc) : Im × Int :=
 if (r.tp != 0 && (fT m.ts r.tp).isNone) = true then (m, 8)
 else if r.fl = true then (if (fC m.cf r.tp r.ky).isNone = true then (m, 8) else ({ m with cf := m.cf.filter fun c => !idC r.tp r.ky c }, 0))
 else ({ m with cf := putC m.cf ⟨r.tp, r.ky, r.va⟩ }, 0)
def ansD (m : Im) (r : Rc) : Im × Int :=
 if (fD m.dn r.cl r.se).isSome = true then (m, 9) else ({ m with dn := putD m.dn ⟨r.cl, r.se, r.co⟩ }, 0)
def stepI (m : Im) (r : Rc) : Im × Int :=
 if r.k = 2 then regB m r
 else if r.k = 3 ∨ r.k = 4 ∨ r.k = 5 ∨ r.k = 6 then turB m r
 else if r.k = 7 then crtT m r
 else if r.k = 8 ∨ r.k = 9 then repP m r
 else if r.k = 10 then cfgC m r
 else if r.k = 11 then drpT m r
 else if r.k = 12 then ansD m r
 else (m, 0)
def app (m : Im) (r : Rc) : Im × Int := if (chk r).2.2 = 0 then stepI m r else (m, (chk r).2.2)
def made (m : Im) : List Rc → Im
 | [] => m
 | r :: l => made (app m r).1 l
def allF (m : Im) : List Rc → Im × Int
 | [] => (m, 0)
 | r :: l => if (app m r).2 = 0 then allF (app m r).1 l else (m, (app m r).2)
def allI (m : Im) (l : List Rc) : Im × Int := if (allF m l).2 = 0 then allF m l else (m, (allF m l).2)
end Go.Proofs.YtlggjgapdpkhiaaGreat
namespace Go.Proofs.YtlggjgapdpkhiaaGreat
open Go.RowKit
section
variable {α : Type}
def Stn (c : α → Int) (l : List α) : Prop := l.Pairwise fun x y => c x < 0 ∨ 0 < c y
structure Pla (c : α → Int) (l : List α) (i : Nat) : Prop where
 le : i ≤ l.length
 lo : ∀ x ∈ l.take i, c x < 0
 hi : ∀ x ∈ l.drop i, 0 ≤ c x
theorem Stn.mono {c : α → Int} {l : List α} (h : Stn c l) {i j : Nat} (hj : j < l.length) (hij : i < j) (hi : 0 ≤ c (l[i]'(by omega))) : 0 < c l[j] := by
 rcases List.pairwise_iff_getElem.1 h i j (by omega) hj hij with q | q
 ·omega
 ·exact q
theorem pla_of {c : α → Int} {l : List α} {i : Nat} (hi : i ≤ l.length) (h1 : ∀ j (h : j < l.length), j < i → c l[j] < 0) (h2 : ∀ j (h : j < l.length), i ≤ j → 0 ≤ c l[j]) : Pla c l i :=
 ⟨hi, fun x hx => by
  obtain ⟨j, hj, rfl⟩ := List.getElem_of_mem hx
  rw [List.getElem_take]
  rw [List.length_take] at hj
  exact h1 j (by omega) (by omega), fun x hx => by
  obtain ⟨j, hj, rfl⟩ := List.getElem_of_mem hx
  rw [List.getElem_drop]
  rw [List.length_drop] at hj
  exact h2 (i + j) (by omega) (by omega)⟩
theorem fil_all {p : α → Bool} : ∀ {l : List α}, (∀ x ∈ l, p x = true) → l.filter p = l := fun h => List.filter_eq_self.2 h
theorem fil_none {p : α → Bool} {l : List α} (h : ∀ x ∈ l, p x = false) : l.filter p = [] := List.filter_eq_nil_iff.2 fun x hx => by rw [h x hx]; simp
theorem Pla.cases {c : α → Int} {l : List α} {i : Nat} (h : Pla c l i) (hs : Stn c l) :
  ((∀ x ∈ l.drop i, 0 < c x)) ∨ (∃ hi : i < l.length, c l[i] = 0 ∧ ∀ x ∈ l.drop (i + 1), 0 < c x) := by
 by_cases hi : i < l.length
 ·by_cases h0 : c l[i] = 0
  ·refine .inr ⟨hi, h0, fun x hx => ?_⟩
   obtain ⟨j, hj, rfl⟩ := List.getElem_of_mem hx
   rw [List.length_drop] at hj
   rw [List.getElem_drop]
   exact hs.mono (by omega) (by omega : i < i + 1 + j) (by omega)
  ·have hp : 0 < c l[i] := by
    have := h.hi l[i] (by rw [List.drop_eq_getElem_cons hi]; exact List.mem_cons_self)
    omega
   refine .inl fun x hx => ?_
   obtain ⟨j, hj, rfl⟩ := List.getElem_of_mem hx
   rw [List.length_drop] at hj
   rw [List.getElem_drop]
   rcases Nat.eq_zero_or_pos j with rfl | hj0
   ·exact hp
   ·exact hs.mono (by omega) (by omega : i < i + j) (by omega)
 ·refine .inl fun x hx => ?_
  rw [List.drop_eq_nil_of_le (by omega)] at hx
  cases hx
def insO (c : α → Int) (b : α) (l : List α) : List α := l.filter (fun x => decide (c x < 0)) ++ b :: l.filter (fun x => decide (0 < c x))
def remO (c : α → Int) (l : List α) : List α := l.filter fun x => !decide (c x = 0)
theorem Pla.fil_lo {c : α → Int} {l : List α} {i : Nat} (h : Pla c l i) : l.filter (fun x => decide (c x < 0)) = l.take i := by
 conv => lhs; rw [← List.take_append_drop i l]
 rw [List.filter_append, fil_all (fun x hx => decide_eq_true (h.lo x hx)), fil_none (fun x hx => decide_eq_false (by have := h.hi x hx; omega)), List.append_nil]
theorem Pla.put_new {c : α → Int} {l : List α} {i : Nat} (h : Pla c l i) (hn : ∀ x ∈ l.drop i, 0 < c x) (b : α) : insO c b l = l.take i ++ b :: l.drop i := by
 unfold insO
 rw [h.fil_lo]
 congr 2
 conv => lhs; rw [← List.take_append_drop i l]
 rw [List.filter_append, fil_none (fun x hx => decide_eq_false (by have := h.lo x hx; omega)), fil_all (fun x hx => decide_eq_true (hn x hx)), List.nil_append]
theorem Pla.put_old {c : α → Int} {l : List α} {i : Nat} (h : Pla c l i) (hi : i < l.length) (h0 : c l[i] = 0) (hn : ∀ x ∈ l.drop (i + 1), 0 < c x) (b : α) : insO c b l = l.take i ++ b :: l.drop (i + 1) := by
 unfold insO
 rw [h.fil_lo]
 congr 2
 conv => lhs; rw [← List.take_append_drop i l, List.drop_eq_getElem_cons hi]
 rw [List.filter_append, fil_none (fun x hx => decide_eq_false (by have := h.lo x hx; omega)), List.nil_append, List.filter_cons, if_neg (by rw [h0]; decide), fil_all (fun x hx => decide_eq_true (hn x hx))]
theorem Pla.rem {c : α → Int} {l : List α} {i : Nat} (h : Pla c l i) (hi : i < l.length) (h0 : c l[i] = 0) (hn : ∀ x ∈ l.drop (i + 1), 0 < c x) : remO c l = l.take i ++ l.drop (i + 1) := by
 unfold remO
 conv => lhs; rw [← List.take_append_drop i l, List.drop_eq_getElem_cons hi]
 rw [List.filter_append, List.filter_cons, if_neg (by rw [h0]; decide), fil_all (fun x hx => by have := h.lo x hx; simp; omega), fil_all (fun x hx => by have := hn x hx; simp; omega)]
theorem Pla.find_no {c : α → Int} {l : List α} {i : Nat} (h : Pla c l i) (hn : ∀ x ∈ l.drop i, 0 < c x) : l.find? (fun x => decide (c x = 0)) = none := by
 rw [List.find?_eq_none]
 intro x hx
 rw [← List.take_append_drop i l, List.mem_append] at hx
 rcases hx with q | q
 ·have := h.lo x q; simp; omega
 ·have := hn x q; simp; omega
theorem Pla.find_yes {c : α → Int} {l : List α} {i : Nat} (h : Pla c l i) (hi : i < l.length) (h0 : c l[i] = 0) : l.find? (fun x => decide (c x = 0)) = some l[i] := by
 conv => lhs; rw [← List.take_append_drop i l, List.drop_eq_getElem_cons hi]
 rw [List.find?_append, List.find?_eq_none.2 (fun x hx => by have := h.lo x hx; simp; omega), Option.none_or, List.find?_cons_of_pos (by simpa using h0)]
def stepO (c : α → Int) (b : α) (s : List α × Bool) (x : α) : List α × Bool :=
 ((if !s.2 && decide (0 ≤ c x) then s.1 ++ [b] else s.1) ++ (if c x = 0 then [] else [x]), s.2 || decide (0 ≤ c x))
theorem step_O (c : α → Int) (b : α) : ∀ (l : List α) (p : List α), Stn c l → (∀ x ∈ l, ∀ y ∈ p, 0 ≤ c y → 0 < c x) →
  l.foldl (stepO c b) (p.filter (fun x => decide (c x < 0)) ++ (if p.any (fun x => decide (0 ≤ c x)) then [b] else []) ++ p.filter (fun x => decide (0 < c x)), p.any fun x => decide (0 ≤ c x)) =
  ((p ++ l).filter (fun x => decide (c x < 0)) ++ (if (p ++ l).any (fun x => decide (0 ≤ c x)) then [b] else []) ++ (p ++ l).filter (fun x => decide (0 < c x)), (p ++ l).any fun x => decide (0 ≤ c x))
 | [], p, _, _ => by simp
 | x :: l, p, hs, hp => by
  obtain ⟨h1, h2⟩ := List.pairwise_cons.1 hs
  have e : p ++ x :: l = (p ++ [x]) ++ l := by simp
  rw [e, ← step_O c b l (p ++ [x]) h2 (fun z hz y hy h0 => by
   rcases List.mem_append.1 hy with q | q
   ·exact hp z (List.mem_cons_of_mem _ hz) y q h0
   ·obtain rfl := List.mem_singleton.1 q
    rcases h1 z hz with r | r
    ·omega
    ·exact r), List.foldl_cons]
  congr 1
  simp only [stepO, List.filter_append, List.any_append, List.any_cons, List.any_nil, Bool.or_false, List.filter_cons, List.filter_nil]
  by_cases hx : c x < 0
  ·have hno : p.any (fun x => decide (0 ≤ c x)) = false := by
    rw [List.any_eq_false]
    intro y hy
    have : ¬ 0 ≤ c y := fun q => by have := hp x (by simp) y hy q; omega
    simpa using this
   have hf : p.filter (fun x => decide (0 < c x)) = [] := fil_none fun y hy => by
    have := List.any_eq_false.1 hno y hy
    simp at this
    exact decide_eq_false (by omega)
   rw [hno, hf]
   simp [hx, show ¬ 0 ≤ c x by omega, show ¬ c x = 0 by omega, show ¬ 0 < c x by omega]
  ·by_cases h0 : c x = 0
   ·have hno : p.any (fun x => decide (0 ≤ c x)) = false := by
     rw [List.any_eq_false]
     intro y hy
     have : ¬ 0 ≤ c y := fun q => by have := hp x (by simp) y hy q; omega
     simpa using this
    have hf : p.filter (fun x => decide (0 < c x)) = [] := fil_none fun y hy => by
     have := List.any_eq_false.1 hno y hy
     simp at this
     exact decide_eq_false (by omega)
    rw [hno, hf]
    simp [h0]
   ·cases hd : p.any (fun x => decide (0 ≤ c x)) with
    | false =>
     have hf : p.filter (fun x => decide (0 < c x)) = [] := fil_none fun y hy => by
      have := List.any_eq_false.1 hd y hy
      simp at this
      exact decide_eq_false (by omega)
     rw [hf]
     simp [hx, h0, show 0 ≤ c x by omega, show 0 < c x by omega]
    | true => simp [hx, h0, show 0 ≤ c x by omega, show 0 < c x by omega]
theorem fold_O (c : α → Int) (b : α) (l : List α) (hs : Stn c l) : (if (l.foldl (stepO c b) ([], false)).2 then (l.foldl (stepO c b) ([], false)).1 else (l.foldl (stepO c b) ([], false)).1 ++ [b]) = insO c b l := by
 have h := step_O c b l [] hs (fun _ _ _ h => by cases h)
 simp only [List.filter_nil, List.any_nil, List.nil_append, List.append_nil, if_false, Bool.false_eq_true] at h
 rw [h]
 unfold insO
 dsimp only
 by_cases hd : l.any (fun x => decide (0 ≤ c x)) = true
 ·rw [if_pos hd, if_pos hd]
  simp
 ·rw [if_neg hd, if_neg hd]
  have hf : l.filter (fun x => decide (0 < c x)) = [] := fil_none fun y hy => by
   have := List.any_eq_false.1 (Bool.eq_false_iff.2 hd) y hy
   simp at this
   exact decide_eq_false (by omega)
  rw [hf]
  simp
end
/-! ### Texts -/
theorem cmpT_swap : ∀ a b : List UInt8, cmpT b a = - cmpT a b
 | [], [] => rfl
 | [], _ :: _ => rfl
 | _ :: _, [] => rfl
 | x :: a, y :: b => by
  simp only [cmpT]
  by_cases h : x < y
  ·have h2 : ¬ y < x := by rw [UInt8.lt_iff_toNat_lt] at *; omega
   rw [if_pos h, if_neg h2, if_pos h]; rfl
  ·by_cases h2 : y < x
   ·rw [if_pos h2, if_neg h, if_pos h2]
   ·rw [if_neg h2, if_neg h, if_neg h, if_neg h2]; exact cmpT_swap a b
theorem cmpT_zero : ∀ {a b : List UInt8}, cmpT a b = 0 ↔ a = b
 | [], [] => by simp [cmpT]
 | [], _ :: _ => by simp [cmpT]
 | _ :: _, [] => by simp [cmpT]
 | x :: a, y :: b => by
  simp only [cmpT]
  by_cases h : x < y
  ·rw [if_pos h]
   constructor
   ·intro q; simp at q
   ·intro q; cases q; rw [UInt8.lt_iff_toNat_lt] at h; omega
  ·by_cases h2 : y < x
   ·rw [if_neg h, if_pos h2]
    constructor
    ·intro q; simp at q
    ·intro q; cases q; rw [UInt8.lt_iff_toNat_lt] at h2; omega
   ·rw [if_neg h, if_neg h2, cmpT_zero (a := a) (b := b)]
    have : x = y := UInt8.toNat_inj.1 (by rw [UInt8.lt_iff_toNat_lt] at *; omega)
    subst this
    simp
theorem cmpT_range : ∀ a b : List UInt8, -1 ≤ cmpT a b ∧ cmpT a b ≤ 1
 | [], [] => by simp [cmpT]
 | [], _ :: _ => by simp [cmpT]
 | _ :: _, [] => by simp [cmpT]
 | x :: a, y :: b => by
  simp only [cmpT]
  split
  ·omega
  ·split
   ·omega
   ·exact cmpT_range a b
theorem cmpT_trans : ∀ {a b c : List UInt8}, cmpT a b < 0 → cmpT b c ≤ 0 → cmpT a c < 0
 | [], [], _, h, _ => by simp [cmpT] at h
 | [], _ :: _, [], _, h => by simp [cmpT] at h
 | [], _ :: _, _ :: _, _, _ => by simp [cmpT]
 | _ :: _, [], _, h, _ => by simp [cmpT] at h
 | _ :: _, _ :: _, [], _, h => by simp [cmpT] at h
 | x :: a, y :: b, z :: c, h1, h2 => by
  simp only [cmpT] at *
  simp only [UInt8.lt_iff_toNat_lt] at *
  split at h1
  ·split at h2
   ·rw [if_pos (by omega)]; omega
   ·split at h2
    ·omega
    ·rw [if_pos (by omega)]; omega
  ·split at h1
   ·omega
   ·split at h2
    ·rw [if_pos (by omega)]; omega
    ·split at h2
     ·omega
     ·rw [if_neg (by omega), if_neg (by omega)]
      exact cmpT_trans h1 h2
theorem cmpN_lt {a b : Int} : cmpN a b < 0 ↔ a < b := by unfold cmpN; split <;> (try split) <;> omega
theorem cmpN_zero {a b : Int} : cmpN a b = 0 ↔ a = b := by unfold cmpN; split <;> (try split) <;> omega
theorem cmpN_gt {a b : Int} : 0 < cmpN a b ↔ b < a := by unfold cmpN; split <;> (try split) <;> omega
theorem cmpC_zero {x : Cf} {t : Int} {k : List UInt8} : cmpC x t k = 0 ↔ idC t k x = true := by
 unfold cmpC idC
 split
 ·rename_i h
  rw [cmpT_zero]
  have := cmpN_zero.1 h
  simp [this]
 ·rename_i h
  have this : ¬ x.tp = t := fun q => h (cmpN_zero.2 q)
  simp [h, this]
theorem cmpC_neg {x : Cf} {t : Int} {k : List UInt8} : cmpC x t k < 0 ↔ x.tp < t ∨ x.tp = t ∧ cmpT x.ky k < 0 := by
 unfold cmpC
 split
 ·rename_i h; have := cmpN_zero.1 h; omega
 ·rename_i h; have h0 : ¬ x.tp = t := fun q => h (cmpN_zero.2 q); rw [cmpN_lt]; omega
theorem cmpC_pos {x : Cf} {t : Int} {k : List UInt8} : 0 < cmpC x t k ↔ t < x.tp ∨ x.tp = t ∧ 0 < cmpT x.ky k := by
 unfold cmpC
 split
 ·rename_i h; have := cmpN_zero.1 h; omega
 ·rename_i h; have h0 : ¬ x.tp = t := fun q => h (cmpN_zero.2 q); rw [cmpN_gt]; omega
def ltC (x y : Cf) : Prop := cmpC x y.tp y.ky < 0
theorem ltC_trans {x y z : Cf} (h1 : ltC x y) (h2 : ltC y z) : ltC x z := by
 unfold ltC at *
 rw [cmpC_neg] at *
 rcases h1 with a | ⟨a, b⟩
 ·rcases h2 with c | ⟨c, d⟩
  ·exact .inl (by omega)
  ·exact .inl (by omega)
 ·rcases h2 with c | ⟨c, d⟩
  ·exact .inl (by omega)
  ·exact .inr ⟨by omega, cmpT_trans b (by omega)⟩
theorem ltC_of_neg {x : Cf} {t : Int} {k v : List UInt8} (h : cmpC x t k < 0) : ltC x ⟨t, k, v⟩ := h
theorem ltC_of_pos {x : Cf} {t : Int} {k v : List UInt8} (h : 0 < cmpC x t k) : ltC ⟨t, k, v⟩ x := by
 unfold ltC
 rw [cmpC_pos] at h
 rw [cmpC_neg]
 simp only
 rw [cmpT_swap x.ky k]
 omega
theorem stn_C {l : List Cf} (h : l.Pairwise ltC) (t : Int) (k : List UInt8) : Stn (fun x => cmpC x t k) l := h.imp fun {x y} q => by
 by_cases hx : cmpC x t k < 0
 ·exact .inl hx
 ·refine .inr ?_
  unfold ltC at q
  rw [cmpC_neg] at q hx
  rw [cmpC_pos]
  by_cases ht : x.tp = t
  ·rcases q with q | ⟨q, r⟩
   ·exact .inl (by omega)
   ·refine .inr ⟨by omega, ?_⟩
    have h0 : ¬ cmpT y.ky k ≤ 0 := fun z => hx (.inr ⟨ht, cmpT_trans r z⟩)
    omega
  ·exact .inl (by rcases q with q | ⟨q, r⟩ <;> omega)
theorem stn_B {l : List Bk} (h : l.Pairwise fun x y => x.id < y.id) (id : Int) : Stn (fun x : Bk => cmpN x.id id) l := h.imp fun {x y} q => by rw [cmpN_lt, cmpN_gt]; omega
theorem less_cmpT : ∀ a b : List UInt8, Op.bytesLess a b = decide (cmpT a b < 0)
 | [], [] => by simp [Op.bytesLess, cmpT]
 | [], _ :: _ => by simp [Op.bytesLess, cmpT]
 | _ :: _, [] => by simp [Op.bytesLess, cmpT]
 | x :: a, y :: b => by
  simp only [Op.bytesLess, cmpT]
  by_cases h : x < y
  ·simp [h]
  ·by_cases h2 : y < x
   ·have h3 : ¬ x = y := fun q => by subst q; exact h h2
    simp [h, h2, h3]
   ·have : x = y := UInt8.toNat_inj.1 (by rw [UInt8.lt_iff_toNat_lt] at *; omega)
    subst this
    simp [h, less_cmpT a b]
end Go.Proofs.YtlggjgapdpkhiaaGreat
namespace Go.Proofs.YtlggjgapdpkhiaaGreat
open Go.RowKit
def bkc (b : Bk) : List Value := [.int .i64 b.id, .int .i64 b.ep, .string ⟨b.rk.toArray⟩, .bool b.fe, .bool b.lv]
def cfc (c : Cf) : List Value := [.int .i64 c.tp, .string ⟨c.ky.toArray⟩, .string ⟨c.va.toArray⟩]
def dnc (d : Dn) : List Value := [.int .i64 d.cl, .int .i64 d.se, .int .i64 d.co]
structure P4 where
 a0 : Option Addr
 a1 : Option Addr
 a2 : Option Addr
 a3 : Option Addr
 c0 : Nat
 c1 : Nat
 c2 : Nat
 c3 : Nat
abbrev Pp := Pt × P4
def ptc (p : Pp) : List Value := [.slice p.2.a0 p.1.ids.length p.2.c0, .slice p.2.a1 p.1.isr.length p.2.c1, .int .i64 p.1.ld, .int .i64 p.1.ep, .slice p.2.a2 p.1.ad.length p.2.c2, .slice p.2.a3 p.1.dr.length p.2.c3]
structure PtR (W : World) (p : Pp) : Prop where
 s0 : Sl ic W (.slice p.2.a0 p.1.ids.length p.2.c0) p.1.ids
 s1 : Sl ic W (.slice p.2.a1 p.1.isr.length p.2.c1) p.1.isr
 s2 : Sl ic W (.slice p.2.a2 p.1.ad.length p.2.c2) p.1.ad
 s3 : Sl ic W (.slice p.2.a3 p.1.dr.length p.2.c3) p.1.dr
theorem PtR.below {W W' : World} {p : Pp} (h : PtR W p) (hb : Below W.heap.size W W') : PtR W' p := ⟨h.s0.below hb, h.s1.below hb, h.s2.below hb, h.s3.below hb⟩
structure Tq where
 id : Int
 nm : List UInt8
 ps : List Pp
 a : Option Addr
 c : Nat
def Tq.tp (t : Tq) : Tp := ⟨t.id, t.nm, t.ps.map (·.1)⟩
def tpc (t : Tq) : List Value := [.int .i64 t.id, .string ⟨t.nm.toArray⟩, .slice t.a t.ps.length t.c]
structure TqR (W : World) (t : Tq) : Prop where
 ps : Rs ptc W (.slice t.a t.ps.length t.c) t.ps
 pt : ∀ p ∈ t.ps, PtR W p
theorem TqR.below {W W' : World} {t : Tq} (h : TqR W t) (hb : Below W.heap.size W W') : TqR W' t := ⟨h.ps.below hb, fun p hp => (h.pt p hp).below hb⟩
theorem stn_Q {l : List Tq} (h : l.Pairwise fun x y => x.tp.id < y.tp.id) (id : Int) : Stn (fun x : Tq => cmpN x.id id) l := h.imp fun {x y} q => by
 have q' : x.id < y.id := q
 rw [cmpN_lt, cmpN_gt]; omega
theorem encB : Enc bkc 5 := ⟨fun _ => rfl, fun x u hu => by
 simp only [bkc, List.mem_cons, List.not_mem_nil, or_false] at hu
 rcases hu with rfl | rfl | rfl | rfl | rfl <;> rfl, by decide⟩
theorem encC : Enc cfc 3 := ⟨fun _ => rfl, fun x u hu => by
 simp only [cfc, List.mem_cons, List.not_mem_nil, or_false] at hu
 rcases hu with rfl | rfl | rfl <;> rfl, by decide⟩
theorem encD : Enc dnc 3 := ⟨fun _ => rfl, fun x u hu => by
 simp only [dnc, List.mem_cons, List.not_mem_nil, or_false] at hu
 rcases hu with rfl | rfl | rfl <;> rfl, by decide⟩
theorem encP : Enc ptc 6 := ⟨fun _ => rfl, fun x u hu => by
 simp only [ptc, List.mem_cons, List.not_mem_nil, or_false] at hu
 rcases hu with rfl | rfl | rfl | rfl | rfl | rfl <;> rfl, by decide⟩
theorem encT : Enc tpc 3 := ⟨fun _ => rfl, fun x u hu => by
 simp only [tpc, List.mem_cons, List.not_mem_nil, or_false] at hu
 rcases hu with rfl | rfl | rfl <;> rfl, by decide⟩
theorem tyi_map {P : Program} {S T : TypeId} {k n : Nat} {z : Value} (h : (P.info? T).map (fun i => (i.zero, i.size, i.bytes)) = some (some z, k, n)) (hn : n ≤ 300) (hz : z.cells.size = k) (hu : P.underlying S = some (.slice T)) : Tyi P S T k := by
 obtain ⟨i, hi, he⟩ := Option.map_eq_some_iff.1 h
 injection he with e1 e2
 injection e2 with e2 e3
 exact ⟨⟨i, z, hi, e1, e2, by omega, hz⟩, hu⟩
theorem tyiB : Tyi Tryz.prog 25 33 5 := tyi_map (z := .agg #[.int .i64 0, .int .i64 0, .string ⟨#[]⟩, .bool false, .bool false]) (n := 40) (by kernel_rfl) (by decide) rfl Tryz.underlying25
theorem tyiT : Tyi Tryz.prog 26 38 3 := tyi_map (z := .agg #[.int .i64 0, .string ⟨#[]⟩, .slice none 0 0]) (n := 48) (by kernel_rfl) (by decide) rfl Tryz.underlying26
theorem tyiP : Tyi Tryz.prog 36 44 6 := tyi_map (z := .agg #[.slice none 0 0, .slice none 0 0, .int .i64 0, .int .i64 0, .slice none 0 0, .slice none 0 0]) (n := 112) (by kernel_rfl) (by decide) rfl Tryz.underlying36
theorem tyiC : Tyi Tryz.prog 27 78 3 := tyi_map (z := .agg #[.int .i64 0, .string ⟨#[]⟩, .string ⟨#[]⟩]) (n := 40) (by kernel_rfl) (by decide) rfl Tryz.underlying27
theorem tyiD : Tyi Tryz.prog 28 83 3 := tyi_map (z := .agg #[.int .i64 0, .int .i64 0, .int .i64 0]) (n := 24) (by kernel_rfl) (by decide) rfl Tryz.underlying28
structure Ip where
 ab : Option Addr
 aq : Option Addr
 ac : Option Addr
 ad : Option Addr
 cb : Nat
 cq : Nat
 cc : Nat
 cd : Nat
 ts : List Tq
def imv (m : Im) (p : Ip) : Value := .agg #[.slice p.ab m.br.length p.cb, .slice p.aq p.ts.length p.cq, .slice p.ac m.cf.length p.cc, .slice p.ad m.dn.length p.cd, .int .i64 m.la]
structure ImR (W : World) (m : Im) (p : Ip) : Prop where
 b : Rs bkc W (.slice p.ab m.br.length p.cb) m.br
 t : Rs tpc W (.slice p.aq p.ts.length p.cq) p.ts
 q : ∀ t ∈ p.ts, TqR W t
 e : p.ts.map Tq.tp = m.ts
 c : Rs cfc W (.slice p.ac m.cf.length p.cc) m.cf
 d : Rs dnc W (.slice p.ad m.dn.length p.cd) m.dn
theorem ImR.below {W W' : World} {m : Im} {p : Ip} (h : ImR W m p) (hb : Below W.heap.size W W') : ImR W' m p := ⟨h.b.below hb, h.t.below hb, fun t ht => (h.q t ht).below hb, h.e, h.c.below hb, h.d.below hb⟩
def IsI (W : World) (v : Value) (m : Im) : Prop := ∃ p, v = imv m p ∧ ImR W m p
theorem IsI.below {W W' : World} {v : Value} {m : Im} (h : IsI W v m) (hb : Below W.heap.size W W') : IsI W' v m := by
 obtain ⟨p, e, hr⟩ := h
 exact ⟨p, e, hr.below hb⟩
theorem ImR.len {W : World} {m : Im} {p : Ip} (h : ImR W m p) : p.ts.length = m.ts.length := by rw [← h.e, List.length_map]
structure WfP (p : Pt) : Prop where
 l0 : p.ids.length ≤ 7
 l1 : p.isr.length ≤ 7
 l2 : p.ad.length ≤ 7
 l3 : p.dr.length ≤ 7
 ep : 0 ≤ p.ep ∧ p.ep ≤ 1073741824
structure Wf (m : Im) (N : Nat) : Prop where
 b : m.br.Pairwise fun x y => x.id < y.id
 t : m.ts.Pairwise fun x y => x.id < y.id
 c : m.cf.Pairwise ltC
 u : ∀ t ∈ m.ts, 1 ≤ t.id ∧ t.id ≤ m.la
 la : 0 ≤ m.la ∧ m.la ≤ 1073741824
 nb : m.br.length ≤ N
 nt : m.ts.length ≤ N
 nc : m.cf.length ≤ N
 nd : m.dn.length ≤ N
 np : ∀ t ∈ m.ts, t.ps.length ≤ N
 p : ∀ t ∈ m.ts, ∀ p ∈ t.ps, WfP p
theorem ImR.stn {W : World} {m : Im} {p : Ip} {N : Nat} (h : ImR W m p) (hw : Wf m N) (id : Int) : Stn (fun x : Tq => cmpN x.id id) p.ts := by
 have h0 := hw.t
 rw [← h.e, List.pairwise_map] at h0
 exact stn_Q h0 id
theorem ImR.tin {W : World} {m : Im} {p : Ip} (h : ImR W m p) {t : Tq} (ht : t ∈ p.ts) : t.tp ∈ m.ts := by rw [← h.e]; exact List.mem_map_of_mem ht
theorem ImR.np {W : World} {m : Im} {p : Ip} {N : Nat} (h : ImR W m p) (hw : Wf m N) {t : Tq} (ht : t ∈ p.ts) : t.ps.length ≤ N := by
 have := hw.np _ (h.tin ht)
 simpa [Tq.tp] using this
theorem ImR.wp {W : World} {m : Im} {p : Ip} {N : Nat} (h : ImR W m p) (hw : Wf m N) {t : Tq} (ht : t ∈ p.ts) {q : Pp} (hq : q ∈ t.ps) : WfP q.1 := hw.p _ (h.tin ht) _ (List.mem_map_of_mem hq)
end Go.Proofs.YtlggjgapdpkhiaaGreat
namespace Go.Proofs.YtlggjgapdpkhiaaGreat
open Go.RowKit
structure Bx (W : World) (n : Nat) (cs : List Value) : Prop where
 l : n < W.heap.size
 c : W.rangeAt n 0 cs
 f : ∀ j, j < cs.length → W.frozen? ⟨n, j, none⟩ = false
theorem Bx.at {W : World} {n : Nat} {cs : List Value} (h : Bx W n cs) (j : Nat) (v : Value) (hj : cs[j]? = some v) : W.cell? ⟨n, j, none⟩ = some v := by
 have := h.c j v hj
 rwa [Nat.zero_add] at this
theorem Bx.new (w : World) (cs : List Value) (t : TypeId) : Bx (w.alloc (.cells cs.toArray t)) w.heap.size cs :=
 ⟨by simp, fun j v hv => by
  rw [Nat.zero_add, World.cell?_alloc_at _ _ _ _ rfl]
  simpa using hv, fun j hj => by simp⟩
theorem Bx.below {W W' : World} {n : Nat} {cs : List Value} (h : Bx W n cs) (hb : Below W.heap.size W W') : Bx W' n cs :=
 ⟨Nat.lt_of_lt_of_le h.l hb.size, rg_bel h.c hb, fun j hj => (hb.frozen (p := ⟨n, j, none⟩) h.l).trans (h.f j hj)⟩
theorem Bx.there {W : World} {n : Nat} {cs : List Value} (h : Bx W n cs) {m : Nat} (hm : m = cs.length) : W.there n 0 m := fun j hj => by
 subst hm
 obtain ⟨v, hv⟩ : ∃ v, cs[j]? = some v := ⟨_, List.getElem?_eq_getElem hj⟩
 rw [Nat.zero_add]
 exact ⟨by rw [h.at j v hv]; rfl, h.f j hj⟩
theorem fr_sets (n : Nat) : ∀ (ds : List Value) (o : Nat) (W : World) (q : Addr), (W.setCells n o ds).frozen? q = W.frozen? q
 | [], _, _, _ => rfl
 | d :: ds, o, W, q => by rw [World.setCells, fr_sets n ds]; simp
theorem sz_sets (n : Nat) : ∀ (ds : List Value) (o : Nat) (W : World), (W.setCells n o ds).heap.size = W.heap.size
 | [], _, _ => rfl
 | d :: ds, o, W => by rw [World.setCells, sz_sets n ds]; simp
theorem hp_sets {n g : Nat} (hg : ¬ g = n) : ∀ (ds : List Value) (o : Nat) (W : World), (W.setCells n o ds).heap[g]? = W.heap[g]?
 | [], _, _ => rfl
 | d :: ds, o, W => by rw [World.setCells, hp_sets hg ds]; exact Below.heap_setCell _ _ _ _ hg
theorem Ro.keepG {α : Type} {f : α → List Value} {k : Nat} {T : TypeId} {W W' : World} {B : Nat} {v : Value} {l : List α} (h : Ro f k T W B v l) (hk : ∀ g, B ≤ g → W'.heap[g]? = W.heap[g]?) : Ro f k T W' B v l := by
 refine ⟨h.1, ?_⟩
 rcases h.2 with h2 | ⟨g, cap, cur, a1, a2, a3, a4⟩
 ·exact .inl h2
 ·exact .inr ⟨g, cap, cur, a1, a2, by rw [hk g a2]; exact a3, a4⟩
theorem below_sets {B n : Nat} {w : World} (hn : B ≤ n) : ∀ (ds : List Value) (o : Nat) (W : World), Below B w W → Below B w (W.setCells n o ds)
 | [], _, _, h => h
 | d :: ds, o, W, h => by rw [World.setCells]; exact below_sets hn ds (o + 1) _ (h.setCell (p := ⟨n, o, none⟩) hn d)
theorem Bx.set {W : World} {n : Nat} {cs : List Value} (h : Bx W n cs) (ds : List Value) (hl : ds.length = cs.length) : Bx (W.setCells n 0 ds) n ds :=
 ⟨by rw [sz_sets]; exact h.l, World.rangeAt_setCells_same W n 0 ds (h.there hl), fun j hj => by rw [fr_sets]; exact h.f j (by omega)⟩
theorem Bx.apart {W : World} {n m : Nat} {cs : List Value} (h : Bx W n cs) (hm : ¬ n = m) (ds : List Value) (o : Nat) : Bx (W.setCells m o ds) n cs :=
 ⟨by rw [sz_sets]; exact h.l, fun j v hv => by rw [World.cell?_setCells_out _ _ _ _ _ (fun e _ => absurd e hm)]; exact h.c j v hv, fun j hj => by rw [fr_sets]; exact h.f j hj⟩
theorem Bx.drewN {W : World} {n : Nat} {cs : List Value} (h : Bx W n cs) (k : Nat) : Bx (W.drewN k) n cs := ⟨h.l, h.c, h.f⟩
theorem Bx.alloc {W : World} {n : Nat} {cs : List Value} (h : Bx W n cs) (o : Obj) : Bx (W.alloc o) n cs := h.below ((Below.refl _ _).alloc (Nat.le_refl _) _)
theorem Bx.c1 {W : World} {n : Nat} {a : Value} (h : Bx W n [a]) : W.cell? ⟨n, 0, none⟩ = some a := h.at 0 _ rfl
theorem Bx.c3 {W : World} {n : Nat} {a b c : Value} (h : Bx W n [a, b, c]) : W.cell? ⟨n, 0, none⟩ = some a ∧ W.cell? ⟨n, 1, none⟩ = some b ∧ W.cell? ⟨n, 2, none⟩ = some c := ⟨h.at 0 _ rfl, h.at 1 _ rfl, h.at 2 _ rfl⟩
theorem Bx.c5 {W : World} {n : Nat} {a b c d e : Value} (h : Bx W n [a, b, c, d, e]) : W.cell? ⟨n, 0, none⟩ = some a ∧ W.cell? ⟨n, 1, none⟩ = some b ∧ W.cell? ⟨n, 2, none⟩ = some c ∧ W.cell? ⟨n, 3, none⟩ = some d ∧ W.cell? ⟨n, 4, none⟩ = some e := ⟨h.at 0 _ rfl, h.at 1 _ rfl, h.at 2 _ rfl, h.at 3 _ rfl, h.at 4 _ rfl⟩
theorem Bx.c6 {W : World} {n : Nat} {a b c d e f : Value} (h : Bx W n [a, b, c, d, e, f]) : W.cell? ⟨n, 0, none⟩ = some a ∧ W.cell? ⟨n, 1, none⟩ = some b ∧ W.cell? ⟨n, 2, none⟩ = some c ∧ W.cell? ⟨n, 3, none⟩ = some d ∧ W.cell? ⟨n, 4, none⟩ = some e ∧ W.cell? ⟨n, 5, none⟩ = some f := ⟨h.at 0 _ rfl, h.at 1 _ rfl, h.at 2 _ rfl, h.at 3 _ rfl, h.at 4 _ rfl, h.at 5 _ rfl⟩
def iml (m : Im) (p : Ip) : List Value := [.slice p.ab m.br.length p.cb, .slice p.aq p.ts.length p.cq, .slice p.ac m.cf.length p.cc, .slice p.ad m.dn.length p.cd, .int .i64 m.la]
theorem Bx.im {W : World} {n : Nat} {m : Im} {p : Ip} (h : Bx W n (iml m p)) : W.cell? ⟨n, 0, none⟩ = some (.slice p.ab m.br.length p.cb) ∧ W.cell? ⟨n, 1, none⟩ = some (.slice p.aq p.ts.length p.cq) ∧ W.cell? ⟨n, 2, none⟩ = some (.slice p.ac m.cf.length p.cc) ∧ W.cell? ⟨n, 3, none⟩ = some (.slice p.ad m.dn.length p.cd) ∧ W.cell? ⟨n, 4, none⟩ = some (.int .i64 m.la) := Bx.c5 h
theorem Bx.mk1 (w : World) (cs : List Value) (t : TypeId) {W : World} (hb : Below (w.alloc (.cells cs.toArray t)).heap.size (w.alloc (.cells cs.toArray t)) W) : Bx W w.heap.size cs := (Bx.new w cs t).below hb
theorem Bx.mk2 (w : World) (cs ds : List Value) (t u : TypeId) {W : World} (hb : Below ((w.alloc (.cells cs.toArray t)).alloc (.cells ds.toArray u)).heap.size ((w.alloc (.cells cs.toArray t)).alloc (.cells ds.toArray u)) W) : Bx W w.heap.size cs ∧ Bx W (w.heap.size + 1) ds ∧ Below w.heap.size w W :=
 ⟨((Bx.new w cs t).alloc _).below hb, by have := (Bx.new (w.alloc (.cells cs.toArray t)) ds u).below hb; simpa using this, bt (((Below.refl _ _).alloc (Nat.le_refl _) _).alloc (by simp) _) hb⟩
theorem Bx.mk3 (w : World) (cs ds es : List Value) (t u x : TypeId) {W : World} (hb : Below (((w.alloc (.cells cs.toArray t)).alloc (.cells ds.toArray u)).alloc (.cells es.toArray x)).heap.size (((w.alloc (.cells cs.toArray t)).alloc (.cells ds.toArray u)).alloc (.cells es.toArray x)) W) : Bx W w.heap.size cs ∧ Bx W (w.heap.size + 1) ds ∧ Bx W (w.heap.size + 1 + 1) es ∧ Below w.heap.size w W :=
 ⟨(((Bx.new w cs t).alloc _).alloc _).below hb, by have := ((Bx.new (w.alloc (.cells cs.toArray t)) ds u).alloc _).below hb; simpa using this, by have := (Bx.new ((w.alloc (.cells cs.toArray t)).alloc (.cells ds.toArray u)) es x).below hb; simpa using this, bt ((((Below.refl _ _).alloc (Nat.le_refl _) _).alloc (by simp) _).alloc (by simp; omega) _) hb⟩
theorem below_al2 (w : World) (a b : Obj) : Below w.heap.size w ((w.alloc a).alloc b) := ((Below.refl _ _).alloc (Nat.le_refl _) _).alloc (by simp) _
theorem below_al3 (w : World) (a b c : Obj) : Below w.heap.size w (((w.alloc a).alloc b).alloc c) := (below_al2 w a b).alloc (by simp; omega) _
theorem bA (w : World) (a : Obj) : Below w.heap.size w (w.alloc a) := (Below.refl _ _).alloc (Nat.le_refl _) _
theorem al3_mid (w : World) (a c : Obj) (v : Value) (t : TypeId) : (((w.alloc a).alloc (.cells #[v] t)).alloc c).cell? ⟨w.heap.size + 1, 0, none⟩ = some v := by
 have := ((Bx.new (w.alloc a) [v] t).alloc c).c1
 simpa using this
theorem al3_end (w : World) (a b : Obj) (v : Value) (t : TypeId) : (((w.alloc a).alloc b).alloc (.cells #[v] t)).cell? ⟨w.heap.size + 1 + 1, 0, none⟩ = some v := by
 have := (Bx.new ((w.alloc a).alloc b) [v] t).c1
 simpa using this
theorem wS {P : Program} {ops : Array Oper} {rest : List Oper} {op : Oper} {a : Act} {w : World} {Q : Exit → Act → World → Prop} (hgd : op.guard = none) (ty : TypeId) (x y : Operand) (ho : op.op = .store ty x y)
  (n : Nat) (cs : List Value) (hx : a.eval x = .pointer (some ⟨n, 0, none⟩)) (hb : Bx w n cs) (ds : List Value) (hy : a.eval y = .agg ds.toArray) (hl : ds.length = cs.length) (hi : (P.info? ty).map (·.size) = some cs.length) (h1 : ds.all (·.oneCell') = true)
  (h : ∀ W, Bx W n ds → (∀ m xs, ¬ m = n → Bx w m xs → Bx W m xs) → (∀ B u, B ≤ n → Below B u w → Below B u W) → (∀ g, ¬ g = n → W.heap[g]? = w.heap[g]?) → wpList P ops Q rest (a.put op.dst undef) W) : wpList P ops Q (op :: rest) a w :=
 wpList_store_mid hgd ty x y ho n 0 ds.toArray hx hy (by simpa using hb.there hl) (by rw [hi]; simp [hl]) (all_oneCell_toArray (List.all_eq_true.1 h1)) (by
  rw [List.toList_toArray]
  exact h _ (hb.set ds hl) (fun m xs e q => q.apart e ds 0) (fun B u e q => below_sets e ds 0 _ q) (fun g hg => hp_sets hg ds 0 w))
end Go.Proofs.YtlggjgapdpkhiaaGreat
namespace Go.Proofs.YtlggjgapdpkhiaaGreat
open Go.RowKit
set_option maxRecDepth 100000
set_option maxHeartbeats 2000000
theorem nanI_any (a : Int) (w : World) : Calls Tryz.prog 114 #[.int .i64 a] w fun e w' => e = .returned (.bool false) ∧ w' = w := by
 have h1 : (a != a) = false := by simp
 go_enter Tryz.func114, Tryz.ntmps114
 go_wp2
 go_ret
 exact ⟨rfl, rfl⟩
theorem nanS_any (a : List UInt8) (w : World) : Calls Tryz.prog 115 #[.string ⟨a.toArray⟩] w fun e w' => e = .returned (.bool false) ∧ w' = w := by
 have h1 : ((⟨a.toArray⟩ : ByteArray).toList == (⟨a.toArray⟩ : ByteArray).toList) = true := by simp
 go_enter Tryz.func115, Tryz.ntmps115
 go_wp2
 go_ret
 exact ⟨rfl, rfl⟩
theorem cmpI_any (a b : Int) (w : World) : Calls Tryz.prog 79 #[.int .i64 a, .int .i64 b] w fun e w' => e = .returned (.int .i64 (cmpN a b)) ∧ w' = w := by
 unfold cmpN
 by_cases h1 : a < b
 ·rw [if_pos h1]
  go_enter Tryz.func79, Tryz.ntmps79
  go_wp2_with (go_at_call 114; refine (nanI_any _ _).mono ?_; rintro e w' ⟨rfl, rfl⟩)
  go_ret
  exact ⟨rfl, rfl⟩
 ·rw [if_neg h1]
  by_cases h2 : b < a
  ·rw [if_pos h2]
   go_enter Tryz.func79, Tryz.ntmps79
   go_wp2_with (go_at_call 114; refine (nanI_any _ _).mono ?_; rintro e w' ⟨rfl, rfl⟩)
   go_ret
   exact ⟨rfl, rfl⟩
  ·rw [if_neg h2]
   go_enter Tryz.func79, Tryz.ntmps79
   go_wp2_with (go_at_call 114; refine (nanI_any _ _).mono ?_; rintro e w' ⟨rfl, rfl⟩)
   go_ret
   exact ⟨rfl, rfl⟩
theorem wpl_want {P : Program} {ops : Array Oper} {rest : List Oper} {op : Oper} {a : Act} {w : World} {Q : Exit → Act → World → Prop} (hw : Region.wanted op (yielded ops a.tmps) = true) (ty : TypeId) (x : Operand) (ho : op.op = .load ty x)
  (b o : Nat) (hx : a.eval x = .pointer (some ⟨b, o, none⟩)) (cs : List Value) (d : TypeDesc) (hc : w.rangeAt b o cs) (hu : P.underlying ty = some d) (hd : d.isRow = true) (hi : (P.info? ty).map (·.size) = some cs.length)
  (h : wpList P ops Q rest (a.put op.dst (.agg cs.toArray)) w) : wpList P ops Q (op :: rest) a w :=
 BigFrame.wpList_want hw fun _ hK => wp_load_mid ty x ho b o hx cs d hc hu hd hi (hK _ _ h)
def BsP {α : Type} (c : α → Int) (l : List α) (w w' : World) (e : Ending) : Prop := ∃ i : Nat, Pla c l i ∧ e = .returned (.tuple #[.int .i64 (i : Int), .bool (decide (∃ h : i < l.length, c l[i] = 0))]) ∧ Below w.heap.size w w'
theorem BsP.mk {α : Type} {c : α → Int} {l : List α} {w w' : World} {e : Ending} (i : Nat) (h : Pla c l i) (he : e = .returned (.tuple #[.int .i64 (i : Int), .bool (decide (∃ h : i < l.length, c l[i] = 0))])) (hb : Below w.heap.size w w') : BsP c l w w' e := ⟨i, h, he, hb⟩
theorem pla_nil {α : Type} (c : α → Int) : Pla c [] 0 := ⟨Nat.le_refl _, fun x hx => by simp at hx, fun x hx => by simp at hx⟩
theorem BsP.none {α : Type} {c : α → Int} {w w' : World} {e : Ending} (he : e = .returned (.tuple #[.int .i64 0, .bool false])) (hb : Below w.heap.size w w') : BsP c [] w w' e :=
 .mk 0 (pla_nil c) (he.trans (by rw [decide_eq_false (fun q => absurd q.1 (Nat.lt_irrefl 0))]; rfl)) hb
theorem run_gtrT (a b : List UInt8) (t : TypeId) (W : World) : (binOp .gtr t (.string ⟨a.toArray⟩) (.string ⟨b.toArray⟩)).run Tryz.prog W = .ok (.bool (decide (0 < cmpT a b))) W := by
 have h : (!(Op.bytesLess a b || a == b)) = decide (0 < cmpT a b) := by
  rw [less_cmpT]
  have hz := @cmpT_zero a b
  by_cases e : a = b
  ·rw [hz.2 e]; simp [e]
  ·have e0 : ¬ cmpT a b = 0 := fun q => e (hz.1 q)
   have e2 : (a == b) = false := by simpa using e
   rw [e2, Bool.or_false]
   by_cases e1 : cmpT a b < 0
   ·rw [decide_eq_true e1, decide_eq_false (by omega)]; rfl
   ·rw [decide_eq_false e1, decide_eq_true (by omega)]; rfl
 rw [← h]
 simp [binOp, go_sem, Op.stringOp]
theorem cmpS_any (a b : List UInt8) (w : World) : Calls Tryz.prog 80 #[.string ⟨a.toArray⟩, .string ⟨b.toArray⟩] w fun e w' => e = .returned (.int .i64 (cmpT a b)) ∧ w' = w := by
 have hr := cmpT_range a b
 have HL := Hd (less_cmpT a b)
 obtain ⟨c, hc⟩ : ∃ c, c = cmpT a b := ⟨_, rfl⟩
 have HG : Hid (cmpT a b = c) := Hd hc.symm
 have HE : Hid (cmpT a b = -1 ∨ cmpT a b = 0 ∨ cmpT a b = 1) := Hd (by omega)
 clear hr
 rw [← hc] at HL HE ⊢
 clear hc
 rcases HE.out with rfl | rfl | rfl
 ·have h1 : Op.bytesLess a b = true := HL.out
  go_enter Tryz.func80, Tryz.ntmps80
  go_wp2_with (go_at_call 115; refine (nanS_any _ _).mono ?_; rintro e w' ⟨rfl, rfl⟩)
  go_ret
  exact ⟨rfl, rfl⟩
 ·have h1 : Op.bytesLess a b = false := HL.out
  have h4 : ∀ W, (binOp .gtr 9 (.string ⟨a.toArray⟩) (.string ⟨b.toArray⟩)).run Tryz.prog W = .ok (.bool false) W := fun W => by rw [run_gtrT, HG.out]; rfl
  go_enter Tryz.func80, Tryz.ntmps80
  go_wp2_with (go_at_call 115; refine (nanS_any _ _).mono ?_; rintro e w' ⟨rfl, rfl⟩)
  go_ret
  exact ⟨rfl, rfl⟩
 ·have h1 : Op.bytesLess a b = false := HL.out
  have h4 : ∀ W, (binOp .gtr 9 (.string ⟨a.toArray⟩) (.string ⟨b.toArray⟩)).run Tryz.prog W = .ok (.bool true) W := fun W => by rw [run_gtrT, HG.out]; rfl
  go_enter Tryz.func80, Tryz.ntmps80
  go_wp2_with (go_at_call 115; refine (nanS_any _ _).mono ?_; rintro e w' ⟨rfl, rfl⟩)
  go_ret
  exact ⟨rfl, rfl⟩
end Go.Proofs.YtlggjgapdpkhiaaGreat
