/-
  WHAT A DRAWN REGION WITH CALLS KEEPS, FOR ANY FACTS ON CELLS OF OLD MEMORY: no program in it. Conditions: a call writes only new memory.
  NUMBERS AS BYTES, on lists alone (no program in sight): how a number is written, what is read at the head of bytes, that what is written is read as what it was, and that what is read was written in just that way. Conditions: bytes are bytes, numbers are at most 2^62 - 1.
-/
import Derived.Test.YtoamghncncalgaaGreatDoorJSlca2
import Derived.WalkKit
import Derived.Below
namespace Go.Proofs.YtoamghncncalgaaGreatDoor
open Go.RowKit

theorem hs_call {F : World → Prop} {N : Nat} {w0 W W' : World} (hF : ∀ W, Below N w0 W → F W) (hb : Below W.heap.size W W') (h : F W ∧ Below N w0 W ∧ N ≤ W.heap.size) : F W' ∧ Below N w0 W' ∧ N ≤ W'.heap.size :=
  have k := h.2.1.trans (hb.mono h.2.2)
  ⟨hF _ k, k, Nat.le_trans h.2.2 hb.size⟩
theorem hs_alloc {F : World → Prop} {N : Nat} {w0 W : World} {o : Obj} (hF : ∀ W, Below N w0 W → F W) (h : F W ∧ Below N w0 W ∧ N ≤ W.heap.size) : F (W.alloc o) ∧ Below N w0 (W.alloc o) ∧ N ≤ (W.alloc o).heap.size :=
  hs_call hF ((Below.refl _ _).alloc (Nat.le_refl _) o) h
theorem hs_set {F : World → Prop} {N : Nat} {w0 W : World} {g i : Nat} {x : Value} (hF : ∀ W, Below N w0 W → F W) (hg : N ≤ g) (h : F W ∧ Below N w0 W ∧ N ≤ W.heap.size) : F (W.setCell ⟨g, i, none⟩ x) ∧ Below N w0 (W.setCell ⟨g, i, none⟩ x) ∧ N ≤ (W.setCell ⟨g, i, none⟩ x).heap.size :=
  have k := h.2.1.setCell (by exact hg) x
  ⟨hF _ k, k, by simpa [World.setCell] using h.2.2⟩
theorem hs_set4 {F : World → Prop} {N : Nat} {w0 W : World} {g : Nat} {x y z t : Value} (hF : ∀ W, Below N w0 W → F W) (hg : N ≤ g) (h : F W ∧ Below N w0 W ∧ N ≤ W.heap.size) :
    F ((((W.setCell ⟨g, 0, none⟩ x).setCell ⟨g, 1, none⟩ y).setCell ⟨g, 2, none⟩ z).setCell ⟨g, 3, none⟩ t) ∧ Below N w0 ((((W.setCell ⟨g, 0, none⟩ x).setCell ⟨g, 1, none⟩ y).setCell ⟨g, 2, none⟩ z).setCell ⟨g, 3, none⟩ t) ∧ N ≤ ((((W.setCell ⟨g, 0, none⟩ x).setCell ⟨g, 1, none⟩ y).setCell ⟨g, 2, none⟩ z).setCell ⟨g, 3, none⟩ t).heap.size :=
  hs_set hF hg (hs_set hF hg (hs_set hF hg (hs_set hF hg h)))
theorem hs_drew {F : World → Prop} {N : Nat} {w0 : World} (hF : ∀ W, Below N w0 W → F W) (hN : N ≤ w0.heap.size) : F w0.drew ∧ Below N w0 w0.drew ∧ N ≤ w0.drew.heap.size :=
  have k := (Below.refl N w0).drew
  ⟨hF _ k, k, hN⟩
theorem hs_first {F : World → Prop} {N : Nat} {w0 : World} (hF : ∀ W, Below N w0 W → F W) (hN : N ≤ w0.heap.size) (o : Obj) : F (w0.alloc o).drew ∧ Below N w0 (w0.alloc o).drew ∧ N ≤ (w0.alloc o).drew.heap.size :=
  have k := ((Below.refl N w0).alloc hN o).drew
  ⟨hF _ k, k, by simp; omega⟩
theorem hs_second {F : World → Prop} {N : Nat} {w0 : World} (hF : ∀ W, Below N w0 W → F W) (hN : N ≤ w0.heap.size) (o o' : Obj) : F ((w0.alloc o).alloc o').drew ∧ Below N w0 ((w0.alloc o).alloc o').drew ∧ N ≤ ((w0.alloc o).alloc o').drew.heap.size :=
  have k := (((Below.refl N w0).alloc hN o).alloc (by simp; omega) o').drew
  ⟨hF _ k, k, by simp; omega⟩
/-- A slice as a list that lies in old memory, or in new: not in the blocks from lo to hi. -/
def Sld {α : Type} (lo hi : Nat) (f : α → Value) (W : World) (v : Value) (l : List α) : Prop :=
  (∃ ao cap, l = [] ∧ v = .slice ao 0 cap) ∨
  (∃ b o cap, v = .slice (some ⟨b, o, none⟩) l.length cap ∧ l.length ≤ cap ∧ (b < lo ∨ hi ≤ b) ∧ ∀ i (h : i < l.length), W.cell? ⟨b, o + i, none⟩ = some (f l[i]))
theorem Sld.nil {α : Type} (lo hi : Nat) (f : α → Value) (w : World) (ao : Option Addr) (cap : Nat) : Sld lo hi f w (.slice ao 0 cap) [] := .inl ⟨_, _, rfl, rfl⟩
theorem Sld.sl {α : Type} {lo hi : Nat} {f : α → Value} {W : World} {v : Value} {l : List α} (h : Sld lo hi f W v l) : Sl f W v l := by
  rcases h with h | ⟨b, o, cap, h1, h2, _, h3⟩
  · exact .inl h
  · exact .inr ⟨b, o, cap, h1, h2, h3⟩
theorem Sld.below {α : Type} {lo hi : Nat} {f : α → Value} {W W' : World} {v : Value} {l : List α} (h : Sld lo hi f W v l) (hb : Below W.heap.size W W') : Sld lo hi f W' v l := by
  rcases h with h | ⟨b, o, cap, h1, h2, hp, h3⟩
  · exact .inl h
  · exact .inr ⟨b, o, cap, h1, h2, hp, fun i hi => (hb.cell (p := ⟨b, o + i, none⟩) (cell_block (h3 i hi))).trans (h3 i hi)⟩
theorem Sld.set {α : Type} {lo hi : Nat} {f : α → Value} {W : World} {v : Value} {l : List α} (h : Sld lo hi f W v l) {q : Nat} (i : Nat) (x : Value) (h1 : lo ≤ q) (h2 : q < hi) : Sld lo hi f (W.setCell ⟨q, i, none⟩ x) v l := by
  rcases h with h | ⟨b, o, cap, e1, e2, hp, h3⟩
  · exact .inl h
  · refine .inr ⟨b, o, cap, e1, e2, hp, fun j hj => ?_⟩
    rw [World.cell?_setCell_other _ _ _ _ (fun e => by have := congrArg Addr.block e; simp at this; omega)]
    exact h3 j hj
theorem Sld.more {α : Type} {lo hi hi' : Nat} {f : α → Value} {W : World} {v : Value} {l : List α} (h : Sld lo hi f W v l) (hh : hi' ≤ hi) : Sld lo hi' f W v l := by
  rcases h with h | ⟨b, o, cap, h1, h2, hp, h3⟩
  · exact .inl h
  · exact .inr ⟨b, o, cap, h1, h2, hp.imp id (fun q => Nat.le_trans hh q), h3⟩
theorem Sl.old {α : Type} {f : α → Value} {W : World} {v : Value} {l : List α} (h : Sl f W v l) (hi : Nat) : Sld W.heap.size hi f W v l := by
  rcases h with h | ⟨b, o, cap, h1, h2, h3⟩
  · exact .inl h
  · by_cases hl : 0 < l.length
    · exact .inr ⟨b, o, cap, h1, h2, .inl (cell_block (h3 0 hl)), h3⟩
    · exact .inl ⟨_, _, List.length_eq_zero_iff.1 (by omega), by rw [h1, show l.length = 0 by omega]⟩
theorem sld_of_owns {α : Type} {f : α → Value} {w : World} {base : Nat} {e : TypeId} {v : Value} {l : List α} (lo : Nat) (h : w.ownsRow base e 1 v l.length (l.map f)) : Sld lo base f w v l := by
  rcases sl_of_owns h with h' | ⟨b, o, cap, h1, h2, h3⟩
  · exact .inl h'
  · refine .inr ⟨b, o, cap, h1, h2, .inr ?_, h3⟩
    rw [h1] at h
    exact (h.lt b rfl).1
/-- Eight cells of two blocks, written. -/
theorem set8 {u : World} {n m : Nat} {x y z t a b c d x' y' z' t' a' b' c' d' : Value} (hne : ¬ m = n) (h0 : u.cell? ⟨n, 0, none⟩ = some x') (h1 : u.cell? ⟨n, 1, none⟩ = some y') (h2 : u.cell? ⟨n, 2, none⟩ = some z') (h3 : u.cell? ⟨n, 3, none⟩ = some t')
    (k0 : u.cell? ⟨m, 0, none⟩ = some a') (k1 : u.cell? ⟨m, 1, none⟩ = some b') (k2 : u.cell? ⟨m, 2, none⟩ = some c') (k3 : u.cell? ⟨m, 3, none⟩ = some d') :
    ∀ W, W = ((((((((u.setCell ⟨n, 0, none⟩ x).setCell ⟨n, 1, none⟩ y).setCell ⟨n, 2, none⟩ z).setCell ⟨n, 3, none⟩ t).setCell ⟨m, 0, none⟩ a).setCell ⟨m, 1, none⟩ b).setCell ⟨m, 2, none⟩ c).setCell ⟨m, 3, none⟩ d) →
    (W.cell? ⟨n, 0, none⟩ = some x ∧ W.cell? ⟨n, 1, none⟩ = some y ∧ W.cell? ⟨n, 2, none⟩ = some z ∧ W.cell? ⟨n, 3, none⟩ = some t) ∧ (W.cell? ⟨m, 0, none⟩ = some a ∧ W.cell? ⟨m, 1, none⟩ = some b ∧ W.cell? ⟨m, 2, none⟩ = some c ∧ W.cell? ⟨m, 3, none⟩ = some d) := by
  rintro W rfl
  have o : ∀ (v : World) (i j : Nat) (s : Value), ¬ i = j → (v.setCell ⟨n, i, none⟩ s).cell? ⟨n, j, none⟩ = v.cell? ⟨n, j, none⟩ := fun v i j s h => World.cell?_setCell_other _ _ _ _ (fun q => h (congrArg Addr.off q))
  have o' : ∀ (v : World) (i j : Nat) (s : Value), ¬ i = j → (v.setCell ⟨m, i, none⟩ s).cell? ⟨m, j, none⟩ = v.cell? ⟨m, j, none⟩ := fun v i j s h => World.cell?_setCell_other _ _ _ _ (fun q => h (congrArg Addr.off q))
  have p : ∀ (v : World) (i j : Nat) (s : Value), (v.setCell ⟨m, i, none⟩ s).cell? ⟨n, j, none⟩ = v.cell? ⟨n, j, none⟩ := fun v i j s => World.cell?_setCell_other _ _ _ _ (fun q => hne (congrArg Addr.block q))
  have p' : ∀ (v : World) (i j : Nat) (s : Value), (v.setCell ⟨n, i, none⟩ s).cell? ⟨m, j, none⟩ = v.cell? ⟨m, j, none⟩ := fun v i j s => World.cell?_setCell_other _ _ _ _ (fun q => hne (congrArg Addr.block q).symm)
  refine ⟨⟨?_, ?_, ?_, ?_⟩, ?_, ?_, ?_, ?_⟩
  · rw [p, p, p, p, o _ _ _ _ (by decide), o _ _ _ _ (by decide), o _ _ _ _ (by decide)]
    exact World.cell?_setCell_same _ _ _ h0
  · rw [p, p, p, p, o _ _ _ _ (by decide), o _ _ _ _ (by decide)]
    exact World.cell?_setCell_same _ _ _ (u := y') (by rw [o _ _ _ _ (by decide)]; exact h1)
  · rw [p, p, p, p, o _ _ _ _ (by decide)]
    exact World.cell?_setCell_same _ _ _ (u := z') (by rw [o _ _ _ _ (by decide), o _ _ _ _ (by decide)]; exact h2)
  · rw [p, p, p, p]
    exact World.cell?_setCell_same _ _ _ (u := t') (by rw [o _ _ _ _ (by decide), o _ _ _ _ (by decide), o _ _ _ _ (by decide)]; exact h3)
  · rw [o' _ _ _ _ (by decide), o' _ _ _ _ (by decide), o' _ _ _ _ (by decide)]
    exact World.cell?_setCell_same _ _ _ (u := a') (by rw [p', p', p', p']; exact k0)
  · rw [o' _ _ _ _ (by decide), o' _ _ _ _ (by decide)]
    exact World.cell?_setCell_same _ _ _ (u := b') (by rw [o' _ _ _ _ (by decide), p', p', p', p']; exact k1)
  · rw [o' _ _ _ _ (by decide)]
    exact World.cell?_setCell_same _ _ _ (u := c') (by rw [o' _ _ _ _ (by decide), o' _ _ _ _ (by decide), p', p', p', p']; exact k2)
  · exact World.cell?_setCell_same _ _ _ (u := d') (by rw [o' _ _ _ _ (by decide), o' _ _ _ _ (by decide), o' _ _ _ _ (by decide), p', p', p', p']; exact k3)
end Go.Proofs.YtoamghncncalgaaGreatDoor
namespace Go.Proofs.YtoamghncncalgaaGreatDoor
open Go.RowKit
/-- A byte, an int as a cell. -/
def bc (x : Int) : Value := .int .u8 x
def ic (x : Int) : Value := .int .i64 x
/-- Bytes as cells. -/
def bv (l : List Int) : List Value := l.map fun x => Value.int .u8 x
theorem bv_eq (l : List Int) : bv l = l.map bc := rfl
/-- A number's bytes, the highest first. -/
def numL (n : Int) : List Int :=
  if n < 64 then [n] else if n < 16384 then [n / 256 + 64, n % 256] else if n < 1073741824 then [n / 16777216 + 128, n / 65536 % 256, n / 256 % 256, n % 256]
  else [n / 72057594037927936 + 192, n / 281474976710656 % 256, n / 1099511627776 % 256, n / 4294967296 % 256, n / 16777216 % 256, n / 65536 % 256, n / 256 % 256, n % 256]
/-- The greatest number is 2^62 - 1. -/
def capN (n : Int) : Int := if 4611686018427387903 < n then 4611686018427387903 else n
/-- An int's bytes: of 0, if it is below 0. -/
def intL (n : Int) : List Int := if n < 0 then [0] else numL (capN n)
/-- What a number of k bytes comes to: 5, it could stand in fewer; 6, it is above the most; 0, it is read. -/
def finN (k : Nat) (lo n most : Int) : Int × Nat × Int := if n < lo then (5, 0, 0) else if most < n then (6, 0, 0) else (0, k, n)
/-- The next number at the head of the bytes r: a code (3: too short), how many bytes, the number. -/
def numS (r : List Int) (most : Int) : Int × Nat × Int := match r with
  | [] => (3, 0, 0)
  | x0 :: r =>
    if x0 / 64 = 0 then finN 1 0 (x0 % 64) most
    else if x0 / 64 = 1 then (match r with
      | x1 :: _ => finN 2 64 (x0 % 64 * 256 + x1) most
      | _ => (3, 0, 0))
    else if x0 / 64 = 2 then (match r with
      | x1 :: x2 :: x3 :: _ => finN 4 16384 (((x0 % 64 * 256 + x1) * 256 + x2) * 256 + x3) most
      | _ => (3, 0, 0))
    else (match r with
      | x1 :: x2 :: x3 :: x4 :: x5 :: x6 :: x7 :: _ => finN 8 1073741824 (((((((x0 % 64 * 256 + x1) * 256 + x2) * 256 + x3) * 256 + x4) * 256 + x5) * 256 + x6) * 256 + x7) most
      | _ => (3, 0, 0))
theorem numL_le (n : Int) : (numL n).length ≤ 8 := by
  unfold numL; split
  · simp
  · split
    · simp
    · split <;> simp
theorem intL_le (n : Int) : (intL n).length ≤ 8 := by
  unfold intL; split
  · simp
  · exact numL_le _

/-- All are bytes. -/
def Byt (l : List Int) : Prop := ∀ x ∈ l, 0 ≤ x ∧ x ≤ 255
theorem numL_byt {n : Int} (h0 : 0 ≤ n) (h1 : n ≤ 4611686018427387903) : Byt (numL n) := by
  unfold numL Byt
  intro x hx
  split at hx
  · simp at hx; omega
  · split at hx
    · simp at hx; rcases hx with rfl | rfl <;> omega
    · split at hx
      · simp at hx; rcases hx with rfl | rfl | rfl | rfl <;> omega
      · simp at hx; rcases hx with rfl | rfl | rfl | rfl | rfl | rfl | rfl | rfl <;> omega
theorem fin_ok {k : Nat} {lo n m most : Int} (h : n = m) (h0 : lo ≤ m) (h1 : m ≤ most) : finN k lo n most = (0, k, m) := by
  subst h
  rw [finN, if_neg (by omega), if_neg (by omega)]
/-- What was written is read. -/
theorem numS_numL {n most : Int} (r : List Int) (h0 : 0 ≤ n) (h1 : n ≤ 4611686018427387903) (hm : n ≤ most) : numS (numL n ++ r) most = (0, (numL n).length, n) := by
  by_cases a : n < 64
  · simp only [numL, if_pos a, List.cons_append, List.nil_append, numS, List.length_cons, List.length_nil]
    rw [if_pos (by omega)]
    exact fin_ok (by omega) (by omega) hm
  · by_cases b : n < 16384
    · simp only [numL, if_neg a, if_pos b, List.cons_append, List.nil_append, numS, List.length_cons, List.length_nil]
      rw [if_neg (by omega), if_pos (by omega)]
      exact fin_ok (by omega) (by omega) hm
    · by_cases c : n < 1073741824
      · simp only [numL, if_neg a, if_neg b, if_pos c, List.cons_append, List.nil_append, numS, List.length_cons, List.length_nil]
        rw [if_neg (by omega), if_neg (by omega), if_pos (by omega)]
        exact fin_ok (by omega) (by omega) hm
      · simp only [numL, if_neg a, if_neg b, if_neg c, List.cons_append, List.nil_append, numS, List.length_cons, List.length_nil]
        rw [if_neg (by omega), if_neg (by omega), if_neg (by omega)]
        exact fin_ok (by omega) (by omega) hm
theorem fin_inv {k : Nat} {lo n most : Int} {j : Nat} {m : Int} (h : finN k lo n most = (0, j, m)) : j = k ∧ m = n ∧ lo ≤ n ∧ n ≤ most := by
  unfold finN at h
  split at h
  · simp at h
  · split at h
    · simp at h
    · simp at h; omega
/-- What is read was written in just that way. -/
theorem numS_once {r : List Int} {most : Int} {k : Nat} {n : Int} (hb : Byt r) (h : numS r most = (0, k, n)) : r.take k = numL n ∧ k = (numL n).length ∧ 0 ≤ n ∧ n ≤ 4611686018427387903 ∧ n ≤ most ∧ k ≤ r.length := by
  rcases r with _ | ⟨x0, r⟩
  · simp [numS] at h
  have b0 := hb x0 (by simp)
  unfold numS at h
  simp only at h
  split at h
  · obtain ⟨rfl, rfl, h1, h2⟩ := fin_inv h
    have e : numL (x0 % 64) = [x0] := by rw [numL, if_pos (by omega)]; congr 1; omega
    rw [e]
    refine ⟨by simp, by simp, by omega, by omega, h2, by simp⟩
  · split at h
    · rcases r with _ | ⟨x1, r⟩
      · simp at h
      have b1 := hb x1 (by simp)
      obtain ⟨rfl, rfl, h1, h2⟩ := fin_inv h
      have e : numL (x0 % 64 * 256 + x1) = [x0, x1] := by
        rw [numL, if_neg (by omega), if_pos (by omega)]
        simp only [List.cons.injEq, and_true]; refine ⟨?_, ?_⟩ <;> omega
      rw [e]
      refine ⟨by simp, by simp, by omega, by omega, h2, by simp⟩
    · split at h
      · rcases r with _ | ⟨x1, _ | ⟨x2, _ | ⟨x3, r⟩⟩⟩
        · simp at h
        · simp at h
        · simp at h
        have b1 := hb x1 (by simp)
        have b2 := hb x2 (by simp)
        have b3 := hb x3 (by simp)
        obtain ⟨rfl, rfl, h1, h2⟩ := fin_inv h
        have e : numL (((x0 % 64 * 256 + x1) * 256 + x2) * 256 + x3) = [x0, x1, x2, x3] := by
          rw [numL, if_neg (by omega), if_neg (by omega), if_pos (by omega)]
          simp only [List.cons.injEq, and_true]; refine ⟨?_, ?_, ?_, ?_⟩ <;> omega
        rw [e]
        refine ⟨by simp, by simp, by omega, by omega, h2, by simp⟩
      · rcases r with _ | ⟨x1, _ | ⟨x2, _ | ⟨x3, _ | ⟨x4, _ | ⟨x5, _ | ⟨x6, _ | ⟨x7, r⟩⟩⟩⟩⟩⟩⟩
        · simp at h
        · simp at h
        · simp at h
        · simp at h
        · simp at h
        · simp at h
        · simp at h
        have b1 := hb x1 (by simp)
        have b2 := hb x2 (by simp)
        have b3 := hb x3 (by simp)
        have b4 := hb x4 (by simp)
        have b5 := hb x5 (by simp)
        have b6 := hb x6 (by simp)
        have b7 := hb x7 (by simp)
        obtain ⟨rfl, rfl, h1, h2⟩ := fin_inv h
        have e : numL (((((((x0 % 64 * 256 + x1) * 256 + x2) * 256 + x3) * 256 + x4) * 256 + x5) * 256 + x6) * 256 + x7) = [x0, x1, x2, x3, x4, x5, x6, x7] := by
          rw [numL, if_neg (by omega), if_neg (by omega), if_neg (by omega)]
          simp only [List.cons.injEq, and_true]; refine ⟨?_, ?_, ?_, ?_, ?_, ?_, ?_, ?_⟩ <;> omega
        rw [e]
        refine ⟨by simp, by simp, by omega, by omega, h2, by simp⟩
end Go.Proofs.YtoamghncncalgaaGreatDoor
