/-
  METADATA, AS MATHEMATICS: what an image is, what a record makes of it, and that what stands in order stays so. No program in sight.
  WHAT STANDS IN ORDER, as mathematics: places in a list that stands by a key, one put there, one taken away; texts and settings in their order. No program in sight.
-/
import Derived.Test.YtlggjgapdpkhiaaGreatDoorJKRecMa4
namespace Go.Proofs.YtlggjgapdpkhiaaGreatDoor
open Go.RowKit
structure Bk where
 id : Int
 ep : Int
 rk : List UInt8
 fe : Bool
 lv : Bool
structure Pt where
 ids : List Int
 isr : List Int
 ld : Int
 ep : Int
 ad : List Int
 dr : List Int
structure Tp where
 id : Int
 nm : List UInt8
 ps : List Pt
structure Cf where
 tp : Int
 ky : List UInt8
 va : List UInt8
structure Dn where
 cl : Int
 se : Int
 co : Int
structure Im where
 br : List Bk
 ts : List Tp
 cf : List Cf
 dn : List Dn
 la : Int
def Bk.zero : Bk := ⟨0, 0, [], false, false⟩
def Pt.zero : Pt := ⟨[], [], 0, 0, [], []⟩
def Tp.zero : Tp := ⟨0, [], []⟩
def Im.zero : Im := ⟨[], [], [], [], 0⟩
def cmpT : List UInt8 → List UInt8 → Int
 | [], [] => 0
 | [], _ :: _ => -1
 | _ :: _, [] => 1
 | x :: a, y :: b => if x < y then -1 else if y < x then 1 else cmpT a b
def cmpN (a b : Int) : Int := if a < b then -1 else if b < a then 1 else 0
def cmpC (c : Cf) (t : Int) (k : List UInt8) : Int := if cmpN c.tp t = 0 then cmpT c.ky k else cmpN c.tp t
def idB (id : Int) (b : Bk) : Bool := b.id == id
def idT (id : Int) (t : Tp) : Bool := t.id == id
def fB (l : List Bk) (id : Int) : Option Bk := l.find? (idB id)
def fT (l : List Tp) (id : Int) : Option Tp := l.find? (idT id)
def fN (l : List Tp) (n : List UInt8) : Option Tp := l.find? fun t => t.nm == n
def idC (t : Int) (k : List UInt8) (c : Cf) : Bool := c.tp == t && c.ky == k
def fC (l : List Cf) (t : Int) (k : List UInt8) : Option Cf := l.find? (idC t k)
def idD (c s : Int) (d : Dn) : Bool := d.cl == c && d.se == s
def fD (l : List Dn) (c s : Int) : Option Dn := l.find? (idD c s)
def alive (l : List Bk) (id : Int) : Bool := match fB l id with
 | some b => !b.fe
 | none => false
def leads (l : List Tp) (id : Int) : Bool := l.any fun t => t.ps.any fun p => p.ld == id
def used (l : List Tp) (id : Int) : Bool := l.any fun t => t.ps.any fun p => p.ids.contains id
def right (l : List Bk) (p : Pt) : Int :=
 if (p.ids.isEmpty || p.ids.any fun i => (fB l i).isNone) = true then 18
 else if (p.isr.isEmpty || p.isr.any fun i => !p.ids.contains i) = true then 18
 else if (p.ld != 0 && (!p.isr.contains p.ld || !alive l p.ld)) = true then 17
 else if (p.ad.any (fun i => !p.ids.contains i) || p.dr.any (fun i => !p.ids.contains i) || p.ad.any (fun i => p.dr.contains i)) = true then 18
 else 0
def samP (p q : Pt) : Bool := p.ld == q.ld && p.ep == q.ep && p.ids == q.ids && p.isr == q.isr && p.ad == q.ad && p.dr == q.dr
def putB (l : List Bk) (b : Bk) : List Bk := l.filter (fun x => decide (x.id < b.id)) ++ b :: l.filter (fun x => decide (b.id < x.id))
def remB (l : List Bk) (id : Int) : List Bk := l.filter fun x => !idB id x
def setT (l : List Tp) (id : Int) (q : List Pt) : List Tp := l.map fun t => if t.id = id then ⟨t.id, t.nm, q⟩ else t
def putP (l : List Pt) (n : Nat) (p : Pt) : List Pt := l.take n ++ p :: l.drop (n + 1)
def putC (l : List Cf) (c : Cf) : List Cf := l.filter (fun x => decide (cmpC x c.tp c.ky < 0)) ++ c :: l.filter (fun x => decide (0 < cmpC x c.tp c.ky))
def putD (l : List Dn) (d : Dn) : List Dn := l.drop (l.length + 1 - 64) ++ [d]
def ptOf (r : Rc) : Pt := ⟨r.ids, r.isr, r.le, r.ep, r.ad, r.dr⟩
def regB (m : Im) (r : Rc) : Im × Int := match fB m.br r.br with
 | some b => if r.ep ≤ b.ep then (m, 11) else if leads m.ts r.br = true then (m, 10) else ({ m with br := putB m.br ⟨r.br, r.ep, r.rk, true, false⟩ }, 0)
 | none => ({ m with br := putB m.br ⟨r.br, r.ep, r.rk, true, false⟩ }, 0)
def trnB (m : Im) (b : Bk) (k : Int) : Im × Int :=
 if k = 3 then (if (b.fe || leads m.ts b.id) = true then (m, 10) else ({ m with br := putB m.br ⟨b.id, b.ep, b.rk, true, b.lv⟩ }, 0))
 else if k = 4 then (if b.fe = false then (m, 10) else ({ m with br := putB m.br ⟨b.id, b.ep, b.rk, false, false⟩ }, 0))
 else if k = 5 then (if (b.fe || b.lv) = true then (m, 10) else ({ m with br := putB m.br ⟨b.id, b.ep, b.rk, b.fe, true⟩ }, 0))
 else if used m.ts b.id = true then (m, 10) else ({ m with br := remB m.br b.id }, 0)
def turB (m : Im) (r : Rc) : Im × Int := match fB m.br r.br with
 | some b => if b.ep = r.ep then trnB m b r.k else (m, 11)
 | none => (m, 8)
def crtT (m : Im) (r : Rc) : Im × Int :=
 if r.tp = m.la + 1 then (if (fN m.ts r.nm).isSome = true then (m, 9) else if 256 ≤ m.ts.length then (m, 6) else ({ m with ts := m.ts ++ [⟨r.tp, r.nm, []⟩], la := r.tp }, 0)) else (m, 10)
def drpT (m : Im) (r : Rc) : Im × Int :=
 if (fT m.ts r.tp).isSome = true then ({ m with ts := m.ts.filter (fun t => !idT r.tp t), cf := m.cf.filter fun c => !(c.tp == r.tp) }, 0) else (m, 8)
def folP (l : List Pt) (r : Rc) (p : Pt) : Int :=
 if r.k = 8 then (if r.pa = l.length then 0 else 10)
 else match l[r.pa.toNat]? with
  | none => 8
  | some o => if (p.ep != o.ep + 1 && (p.ep != o.ep || p.ld != o.ld)) = true then 11 else if samP o p = true then 10 else 0
def repP (m : Im) (r : Rc) : Im × Int := match fT m.ts r.tp with
 | none => (m, 8)
 | some t => if right m.br (ptOf r) = 0 then (if folP t.ps r (ptOf r) = 0 then ({ m with ts := setT m.ts r.tp (putP t.ps r.pa.toNat (ptOf r)) }, 0) else (m, folP t.ps r (ptOf r))) else (m, right m.br (ptOf r))
def cfgC (m : Im) (r : Rc) : Im × Int :=
 if (r.tp != 0 && (fT m.ts r.tp).isNone) = true then (m, 8)
 else if r.fl = true then (if (fC m.cf r.tp r.ky).isNone = true then (m, 8) else ({ m with cf := m.cf.filter fun c => !idC r.tp r.ky c }, 0))
 else ({ m with cf := putC m.cf ⟨r.tp, r.ky, r.va⟩ }, 0)
def ansD (m : Im) (r : Rc) : Im × Int :=
 if (fD m.dn r.cl r.se).isSome = true then (m, 9) else ({ m with dn := putD m.dn ⟨r.cl, r.se, r.co⟩ }, 0)
def stepI (m : Im) (r : Rc) : Im × Int :=
 if r.k = 2 then regB m r
 else if r.k = 3 ∨ r.k = 4 ∨ r.k = 5 ∨ r.k = 6 then turB m r
 else if r.k = 7 then crtT m r
 else if r.k = 8 ∨ r.k = 9 then repP m r
 else if r.k = 10 then cfgC m r
 else if r.k = 11 then drpT m r
 else if r.k = 12 then ansD m r
 else (m, 0)
def app (m : Im) (r : Rc) : Im × Int := if (chk r).2.2 = 0 then stepI m r else (m, (chk r).2.2)
def made (m : Im) : List Rc → Im
 | [] => m
 | r :: l => made (app m r).1 l
def allF (m : Im) : List Rc → Im × Int
 | [] => (m, 0)
 | r :: l => if (app m r).2 = 0 then allF (app m r).1 l else (m, (app m r).2)
def allI (m : Im) (l : List Rc) : Im × Int := if (allF m l).2 = 0 then allF m l else (m, (allF m l).2)
end Go.Proofs.YtlggjgapdpkhiaaGreatDoor
namespace Go.Proofs.YtlggjgapdpkhiaaGreatDoor
open Go.RowKit
section
variable {α : Type}
def Stn (c : α → Int) (l : List α) : Prop := l.Pairwise fun x y => c x < 0 ∨ 0 < c y
structure Pla (c : α → Int) (l : List α) (i : Nat) : Prop where
 le : i ≤ l.length
 lo : ∀ x ∈ l.take i, c x < 0
 hi : ∀ x ∈ l.drop i, 0 ≤ c x
theorem Stn.mono {c : α → Int} {l : List α} (h : Stn c l) {i j : Nat} (hj : j < l.length) (hij : i < j) (hi : 0 ≤ c (l[i]'(by omega))) : 0 < c l[j] := by
 rcases List.pairwise_iff_getElem.1 h i j (by omega) hj hij with q | q
 ·omega
 ·exact q
theorem pla_of {c : α → Int} {l : List α} {i : Nat} (hi : i ≤ l.length) (h1 : ∀ j (h : j < l.length), j < i → c l[j] < 0) (h2 : ∀ j (h : j < l.length), i ≤ j → 0 ≤ c l[j]) : Pla c l i :=
 ⟨hi, fun x hx => by
  obtain ⟨j, hj, rfl⟩ := List.getElem_of_mem hx
  rw [List.getElem_take]
  rw [List.length_take] at hj
  exact h1 j (by omega) (by omega), fun x hx => by
  obtain ⟨j, hj, rfl⟩ := List.getElem_of_mem hx
  rw [List.getElem_drop]
  rw [List.length_drop] at hj
  exact h2 (i + j) (by omega) (by omega)⟩
theorem fil_all {p : α → Bool} : ∀ {l : List α}, (∀ x ∈ l, p x = true) → l.filter p = l := fun h => List.filter_eq_self.2 h
theorem fil_none {p : α → Bool} {l : List α} (h : ∀ x ∈ l, p x = false) : l.filter p = [] := List.filter_eq_nil_iff.2 fun x hx => by rw [h x hx]; simp
theorem Pla.cases {c : α → Int} {l : List α} {i : Nat} (h : Pla c l i) (hs : Stn c l) :
  ((∀ x ∈ l.drop i, 0 < c x)) ∨ (∃ hi : i < l.length, c l[i] = 0 ∧ ∀ x ∈ l.drop (i + 1), 0 < c x) := by
 by_cases hi : i < l.length
 ·by_cases h0 : c l[i] = 0
  ·refine .inr ⟨hi, h0, fun x hx => ?_⟩
   obtain ⟨j, hj, rfl⟩ := List.getElem_of_mem hx
   rw [List.length_drop] at hj
   rw [List.getElem_drop]
   exact hs.mono (by omega) (by omega : i < i + 1 + j) (by omega)
  ·have hp : 0 < c l[i] := by
    have := h.hi l[i] (by rw [List.drop_eq_getElem_cons hi]; exact List.mem_cons_self)
    omega
   refine .inl fun x hx => ?_
   obtain ⟨j, hj, rfl⟩ := List.getElem_of_mem hx
   rw [List.length_drop] at hj
   rw [List.getElem_drop]
   rcases Nat.eq_zero_or_pos j with rfl | hj0
   ·exact hp
   ·exact hs.mono (by omega) (by omega : i < i + j) (by omega)
 ·refine .inl fun x hx => ?_
  rw [List.drop_eq_nil_of_le (by omega)] at hx
  cases hx
def insO (c : α → Int) (b : α) (l : List α) : List α := l.filter (fun x => decide (c x < 0)) ++ b :: l.filter (fun x => decide (0 < c x))
def remO (c : α → Int) (l : List α) : List α := l.filter fun x => !decide (c x = 0)
theorem Pla.fil_lo {c : α → Int} {l : List α} {i : Nat} (h : Pla c l i) : l.filter (fun x => decide (c x < 0)) = l.take i := by
 conv => lhs; rw [← List.take_append_drop i l]
 rw [List.filter_append, fil_all (fun x hx => decide_eq_true (h.lo x hx)), fil_none (fun x hx => decide_eq_false (by have := h.hi x hx; omega)), List.append_nil]
theorem Pla.put_new {c : α → Int} {l : List α} {i : Nat} (h : Pla c l i) (hn : ∀ x ∈ l.drop i, 0 < c x) (b : α) : insO c b l = l.take i ++ b :: l.drop i := by
 unfold insO
 rw [h.fil_lo]
 congr 2
 conv => lhs; rw [← List.take_append_drop i l]
 rw [List.filter_append, fil_none (fun x hx => decide_eq_false (by have := h.lo x hx; omega)), fil_all (fun x hx => decide_eq_true (hn x hx)), List.nil_append]
theorem Pla.put_old {c : α → Int} {l : List α} {i : Nat} (h : Pla c l i) (hi : i < l.length) (h0 : c l[i] = 0) (hn : ∀ x ∈ l.drop (i + 1), 0 < c x) (b : α) : insO c b l = l.take i ++ b :: l.drop (i + 1) := by
 unfold insO
 rw [h.fil_lo]
 congr 2
 conv => lhs; rw [← List.take_append_drop i l, List.drop_eq_getElem_cons hi]
 rw [List.filter_append, fil_none (fun x hx => decide_eq_false (by have := h.lo x hx; omega)), List.nil_append, List.filter_cons, if_neg (by rw [h0]; decide), fil_all (fun x hx => decide_eq_true (hn x hx))]
theorem Pla.rem {c : α → Int} {l : List α} {i : Nat} (h : Pla c l i) (hi : i < l.length) (h0 : c l[i] = 0) (hn : ∀ x ∈ l.drop (i + 1), 0 < c x) : remO c l = l.take i ++ l.drop (i + 1) := by
 unfold remO
 conv => lhs; rw [← List.take_append_drop i l, List.drop_eq_getElem_cons hi]
 rw [List.filter_append, List.filter_cons, if_neg (by rw [h0]; decide), fil_all (fun x hx => by have := h.lo x hx; simp; omega), fil_all (fun x hx => by have := hn x hx; simp; omega)]
theorem Pla.find_no {c : α → Int} {l : List α} {i : Nat} (h : Pla c l i) (hn : ∀ x ∈ l.drop i, 0 < c x) : l.find? (fun x => decide (c x = 0)) = none := by
 rw [List.find?_eq_none]
 intro x hx
 rw [← List.take_append_drop i l, List.mem_append] at hx
 rcases hx with q | q
 ·have := h.lo x q; simp; omega
 ·have := hn x q; simp; omega
theorem Pla.find_yes {c : α → Int} {l : List α} {i : Nat} (h : Pla c l i) (hi : i < l.length) (h0 : c l[i] = 0) : l.find? (fun x => decide (c x = 0)) = some l[i] := by
 conv => lhs; rw [← List.take_append_drop i l, List.drop_eq_getElem_cons hi]
 rw [List.find?_append, List.find?_eq_none.2 (fun x hx => by have := h.lo x hx; simp; omega), Option.none_or, List.find?_cons_of_pos (by simpa using h0)]
def stepO (c : α → Int) (b : α) (s : List α × Bool) (x : α) : List α × Bool :=
 ((if !s.2 && decide (0 ≤ c x) then s.1 ++ [b] else s.1) ++ (if c x = 0 then [] else [x]), s.2 || decide (0 ≤ c x))
theorem step_O (c : α → Int) (b : α) : ∀ (l : List α) (p : List α), Stn c l → (∀ x ∈ l, ∀ y ∈ p, 0 ≤ c y → 0 < c x) →
  l.foldl (stepO c b) (p.filter (fun x => decide (c x < 0)) ++ (if p.any (fun x => decide (0 ≤ c x)) then [b] else []) ++ p.filter (fun x => decide (0 < c x)), p.any fun x => decide (0 ≤ c x)) =
  ((p ++ l).filter (fun x => decide (c x < 0)) ++ (if (p ++ l).any (fun x => decide (0 ≤ c x)) then [b] else []) ++ (p ++ l).filter (fun x => decide (0 < c x)), (p ++ l).any fun x => decide (0 ≤ c x))
 | [], p, _, _ => by simp
 | x :: l, p, hs, hp => by
  obtain ⟨h1, h2⟩ := List.pairwise_cons.1 hs
  have e : p ++ x :: l = (p ++ [x]) ++ l := by simp
  rw [e, ← step_O c b l (p ++ [x]) h2 (fun z hz y hy h0 => by
   rcases List.mem_append.1 hy with q | q
   ·exact hp z (List.mem_cons_of_mem _ hz) y q h0
   ·obtain rfl := List.mem_singleton.1 q
    rcases h1 z hz with r | r
    ·omega
    ·exact r), List.foldl_cons]
  congr 1
  simp only [stepO, List.filter_append, List.any_append, List.any_cons, List.any_nil, Bool.or_false, List.filter_cons, List.filter_nil]
  by_cases hx : c x < 0
  ·have hno : p.any (fun x => decide (0 ≤ c x)) = false := by
    rw [List.any_eq_false]
    intro y hy
    have : ¬ 0 ≤ c y := fun q => by have := hp x (by simp) y hy q; omega
    simpa using this
   have hf : p.filter (fun x => decide (0 < c x)) = [] := fil_none fun y hy => by
    have := List.any_eq_false.1 hno y hy
    simp at this
    exact decide_eq_false (by omega)
   rw [hno, hf]
   simp [hx, show ¬ 0 ≤ c x by omega, show ¬ c x = 0 by omega, show ¬ 0 < c x by omega]
  ·by_cases h0 : c x = 0
   ·have hno : p.any (fun x => decide (0 ≤ c x)) = false := by
     rw [List.any_eq_false]
     intro y hy
     have : ¬ 0 ≤ c y := fun q => by have := hp x (by simp) y hy q; omega
     simpa using this
    have hf : p.filter (fun x => decide (0 < c x)) = [] := fil_none fun y hy => by
     have := List.any_eq_false.1 hno y hy
     simp at this
     exact decide_eq_false (by omega)
    rw [hno, hf]
    simp [h0]
   ·cases hd : p.any (fun x => decide (0 ≤ c x)) with
    | false =>
     have hf : p.filter (fun x => decide (0 < c x)) = [] := fil_none fun y hy => by
      have := List.any_eq_false.1 hd y hy
      simp at this
      exact decide_eq_false (by omega)
     rw [hf]
     simp [hx, h0, show 0 ≤ c x by omega, show 0 < c x by omega]
    | true => simp [hx, h0, show 0 ≤ c x by omega, show 0 < c x by omega]
theorem fold_O (c : α → Int) (b : α) (l : List α) (hs : Stn c l) : (if (l.foldl (stepO c b) ([], false)).2 then (l.foldl (stepO c b) ([], false)).1 else (l.foldl (stepO c b) ([], false)).1 ++ [b]) = insO c b l := by
 have h := step_O c b l [] hs (fun _ _ _ h => by cases h)
 simp only [List.filter_nil, List.any_nil, List.nil_append, List.append_nil, if_false, Bool.false_eq_true] at h
 rw [h]
 unfold insO
 dsimp only
 by_cases hd : l.any (fun x => decide (0 ≤ c x)) = true
 ·rw [if_pos hd, if_pos hd]
  simp
 ·rw [if_neg hd, if_neg hd]
  have hf : l.filter (fun x => decide (0 < c x)) = [] := fil_none fun y hy => by
   have := List.any_eq_false.1 (Bool.eq_false_iff.2 hd) y hy
   simp at this
   exact decide_eq_false (by omega)
  rw [hf]
  simp
end
/-! ### Texts -/
theorem cmpT_swap : ∀ a b : List UInt8, cmpT b a = - cmpT a b
 | [], [] => rfl
 | [], _ :: _ => rfl
 | _ :: _, [] => rfl
 | x :: a, y :: b => by
  simp only [cmpT]
  by_cases h : x < y
  ·have h2 : ¬ y < x := by rw [UInt8.lt_iff_toNat_lt] at *; omega
   rw [if_pos h, if_neg h2, if_pos h]; rfl
  ·by_cases h2 : y < x
   ·rw [if_pos h2, if_neg h, if_pos h2]
   ·rw [if_neg h2, if_neg h, if_neg h, if_neg h2]; exact cmpT_swap a b
theorem cmpT_zero : ∀ {a b : List UInt8}, cmpT a b = 0 ↔ a = b
 | [], [] => by simp [cmpT]
 | [], _ :: _ => by simp [cmpT]
 | _ :: _, [] => by simp [cmpT]
 | x :: a, y :: b => by
  simp only [cmpT]
  by_cases h : x < y
  ·rw [if_pos h]
   constructor
   ·intro q; simp at q
   ·intro q; cases q; rw [UInt8.lt_iff_toNat_lt] at h; omega
  ·by_cases h2 : y < x
   ·rw [if_neg h, if_pos h2]
    constructor
    ·intro q; simp at q
    ·intro q; cases q; rw [UInt8.lt_iff_toNat_lt] at h2; omega
   ·rw [if_neg h, if_neg h2, cmpT_zero (a := a) (b := b)]
    have : x = y := UInt8.toNat_inj.1 (by rw [UInt8.lt_iff_toNat_lt] at *; omega)
    subst this
    simp
theorem cmpT_range : ∀ a b : List UInt8, -1 ≤ cmpT a b ∧ cmpT a b ≤ 1
 | [], [] => by simp [cmpT]
 | [], _ :: _ => by simp [cmpT]
 | _ :: _, [] => by simp [cmpT]
 | x :: a, y :: b => by
  simp only [cmpT]
  split
  ·omega
  ·split
   ·omega
   ·exact cmpT_range a b
theorem cmpT_trans : ∀ {a b c : List UInt8}, cmpT a b < 0 → cmpT b c ≤ 0 → cmpT a c < 0
 | [], [], _, h, _ => by simp [cmpT] at h
 | [], _ :: _, [], _, h => by simp [cmpT] at h
 | [], _ :: _, _ :: _, _, _ => by simp [cmpT]
 | _ :: _, [], _, h, _ => by simp [cmpT] at h
 | _ :: _, _ :: _, [], _, h => by simp [cmpT] at h
 | x :: a, y :: b, z :: c, h1, h2 => by
  simp only [cmpT] at *
  simp only [UInt8.lt_iff_toNat_lt] at *
  split at h1
  ·split at h2
   ·rw [if_pos (by omega)]; omega
   ·split at h2
    ·omega
    ·rw [if_pos (by omega)]; omega
  ·split at h1
   ·omega
   ·split at h2
    ·rw [if_pos (by omega)]; omega
    ·split at h2
     ·omega
     ·rw [if_neg (by omega), if_neg (by omega)]
      exact cmpT_trans h1 h2
theorem cmpN_lt {a b : Int} : cmpN a b < 0 ↔ a < b := by unfold cmpN; split <;> (try split) <;> omega
theorem cmpN_zero {a b : Int} : cmpN a b = 0 ↔ a = b := by unfold cmpN; split <;> (try split) <;> omega
theorem cmpN_gt {a b : Int} : 0 < cmpN a b ↔ b < a := by unfold cmpN; split <;> (try split) <;> omega
theorem cmpC_zero {x : Cf} {t : Int} {k : List UInt8} : cmpC x t k = 0 ↔ idC t k x = true := by
 unfold cmpC idC
 split
 ·rename_i h
  rw [cmpT_zero]
  have := cmpN_zero.1 h
  simp [this]
 ·rename_i h
  have this : ¬ x.tp = t := fun q => h (cmpN_zero.2 q)
  simp [h, this]
theorem cmpC_neg {x : Cf} {t : Int} {k : List UInt8} : cmpC x t k < 0 ↔ x.tp < t ∨ x.tp = t ∧ cmpT x.ky k < 0 := by
 unfold cmpC
 split
 ·rename_i h; have := cmpN_zero.1 h; omega
 ·rename_i h; have h0 : ¬ x.tp = t := fun q => h (cmpN_zero.2 q); rw [cmpN_lt]; omega
theorem cmpC_pos {x : Cf} {t : Int} {k : List UInt8} : 0 < cmpC x t k ↔ t < x.tp ∨ x.tp = t ∧ 0 < cmpT x.ky k := by
 unfold cmpC
 split
 ·rename_i h; have := cmpN_zero.1 h; omega
 ·rename_i h; have h0 : ¬ x.tp = t := fun q => h (cmpN_zero.2 q); rw [cmpN_gt]; omega
def ltC (x y : Cf) : Prop := cmpC x y.tp y.ky < 0
theorem ltC_trans {x y z : Cf} (h1 : ltC x y) (h2 : ltC y z) : ltC x z := by
 unfold ltC at *
 rw [cmpC_neg] at *
 rcases h1 with a | ⟨a, b⟩
 ·rcases h2 with c | ⟨c, d⟩
  ·exact .inl (by omega)
  ·exact .inl (by omega)
 ·rcases h2 with c | ⟨c, d⟩
  ·exact .inl (by omega)
  ·exact .inr ⟨by omega, cmpT_trans b (by omega)⟩
theorem ltC_of_neg {x : Cf} {t : Int} {k v : List UInt8} (h : cmpC x t k < 0) : ltC x ⟨t, k, v⟩ := h
theorem ltC_of_pos {x : Cf} {t : Int} {k v : List UInt8} (h : 0 < cmpC x t k) : ltC ⟨t, k, v⟩ x := by
 unfold ltC
 rw [cmpC_pos] at h
 rw [cmpC_neg]
 simp only
 rw [cmpT_swap x.ky k]
 omega
theorem stn_C {l : List Cf} (h : l.Pairwise ltC) (t : Int) (k : List UInt8) : Stn (fun x => cmpC x t k) l := h.imp fun {x y} q => by
 by_cases hx : cmpC x t k < 0
 ·exact .inl hx
 ·refine .inr ?_
  unfold ltC at q
  rw [cmpC_neg] at q hx
  rw [cmpC_pos]
  by_cases ht : x.tp = t
  ·rcases q with q | ⟨q, r⟩
   ·exact .inl (by omega)
   ·refine .inr ⟨by omega, ?_⟩
    have h0 : ¬ cmpT y.ky k ≤ 0 := fun z => hx (.inr ⟨ht, cmpT_trans r z⟩)
    omega
  ·exact .inl (by rcases q with q | ⟨q, r⟩ <;> omega)
theorem stn_B {l : List Bk} (h : l.Pairwise fun x y => x.id < y.id) (id : Int) : Stn (fun x : Bk => cmpN x.id id) l := h.imp fun {x y} q => by rw [cmpN_lt, cmpN_gt]; omega
theorem less_cmpT : ∀ a b : List UInt8, Op.bytesLess a b = decide (cmpT a b < 0)
 | [], [] => by simp [Op.bytesLess, cmpT]
 | [], _ :: _ => by simp [Op.bytesLess, cmpT]
 | _ :: _, [] => by simp [Op.bytesLess, cmpT]
 | x :: a, y :: b => by
  simp only [Op.bytesLess, cmpT]
  by_cases h : x < y
  ·simp [h]
  ·by_cases h2 : y < x
   ·have h3 : ¬ x = y := fun q => by subst q; exact h h2
    simp [h, h2, h3]
   ·have : x = y := UInt8.toNat_inj.1 (by rw [UInt8.lt_iff_toNat_lt] at *; omega)
    subst this
    simp [h, less_cmpT a b]
end Go.Proofs.YtlggjgapdpkhiaaGreatDoor
