/-
  RECORDS, on lists alone (no program in sight): a record, what is wrong with one, and what one keeps to that may be.
  WHAT A DRAWN REGION WITH CALLS KEEPS, FOR ANY FACTS ON CELLS OF OLD MEMORY: no program in it. Conditions: a call writes only new memory.
  WHAT A KIND IS ABOUT, BIT BY BIT, NAMES AND BROKERS (record.subjects, has, within, Name, Brokers, named, listed, leastTopic, mostValue): as functions of numbers, letters and lists. Conditions: no more than a thousand letters; the brokers' cells hold them.
-/
import Derived.Test.YtfnemlbkmhcodaaGreatJRecWrg
import Derived.Test.YtfnemlbkmhcodaaGreatJSlca3
import Derived.Test.YtfnemlbkmhcodaaGreatJWnuma3
import Derived.Laws.IdiomStrings
namespace Go.Proofs.YtfnemlbkmhcodaaGreat
open Go.RowKit

/-- A record. -/
structure Rc where
  k : Int
  br : Int
  ep : Int
  tp : Int
  pa : Int
  le : Int
  cl : Int
  se : Int
  co : Int
  fl : Bool
  nm : List UInt8
  ky : List UInt8
  va : List UInt8
  rk : List UInt8
  ids : List Int
  isr : List Int
  ad : List Int
  dr : List Int
def Rc.zero : Rc := ⟨0, 0, 0, 0, 0, 0, 0, 0, 0, false, [], [], [], [], [], [], [], []⟩
def chk (r : Rc) : ByteArray × Int × Int := checkR r.k r.br r.ep r.tp r.pa r.le r.cl r.se r.co r.fl r.nm r.ky r.va r.rk r.ids r.isr r.ad r.dr
/-- A number that may be, where it is asked for. -/
theorem numB_asks {n lo hi : Int} {h : Bool} (e : numB n h lo hi = true) : if h then lo ≤ n ∧ n ≤ hi else n = 0 := by
  cases h with
  | true => simpa [numB] using e
  | false => simpa [numB] using e
theorem nameB_len {S : List UInt8} (h : nameB S = true) : S.length ≤ 40 := by
  unfold nameB at h
  simp only [Bool.and_eq_true, decide_eq_true_eq] at h
  omega
theorem nameA_asks {S : List UInt8} {h : Bool} (e : nameA S h = true) : if h then S.length ≤ 256 else S = [] := by
  cases h with
  | true => have := nameB_len (show nameB S = true from e); simp only [if_true]; omega
  | false => simpa [nameA] using e
theorem brokB_all {l : List Int} (h : brokB l = true) : l.length ≤ 7 ∧ ∀ x ∈ l, 1 ≤ x ∧ x ≤ 64 := by
  unfold brokB at h
  simp only [Bool.and_eq_true, decide_eq_true_eq, List.all_eq_true, List.mem_range] at h
  refine ⟨h.1, fun x hx => ?_⟩
  obtain ⟨i, hi, rfl⟩ := List.getElem_of_mem hx
  have := h.2 i hi
  unfold okJ at this
  simp only [Bool.and_eq_true, decide_eq_true_eq] at this
  have e : l.getD i 0 = l[i] := by simp [List.getD, hi]
  rw [e] at this
  exact this.1
theorem rowB_asks {l : List Int} {h : Bool} (e : rowB l h = true) : if h then l.length ≤ 7 ∧ ∀ x ∈ l, 0 ≤ x ∧ x ≤ 64 else l = [] := by
  cases h with
  | true =>
    have := brokB_all (show brokB l = true from e)
    exact ⟨this.1, fun x hx => by have := this.2 x hx; omega⟩
  | false =>
    have e' : ((l.length : Int) == 0) = true := e
    simp only [beq_iff_eq] at e'
    exact List.length_eq_zero_iff.1 (by omega)
/-- What a record that may be keeps to. -/
structure RcIs (r : Rc) : Prop where
  k1 : 1 ≤ r.k
  k2 : r.k ≤ 12
  br : numB r.br (hasL r.k 98) 1 64 = true
  ep : numB r.ep (hasL r.k 101) 0 1073741824 = true
  tp : numB r.tp (hasL r.k 116) (if r.k = 10 then 0 else 1) 1073741824 = true
  pa : numB r.pa (hasL r.k 112) 0 255 = true
  le : numB r.le (hasL r.k 108) 0 64 = true
  cl : numB r.cl (hasL r.k 97) 1 1073741824 = true
  se : numB r.se (hasL r.k 97) 1 1073741824 = true
  co : numB r.co (hasL r.k 97) 0 21 = true
  fl : r.fl = true → hasL r.k 102 = true
  nm : nameA r.nm (hasL r.k 110) = true
  ky : nameA r.ky (hasL r.k 107) = true
  rk : nameA r.rk (hasL r.k 114) = true
  va : r.va.length ≤ 256
  vb : r.va.isEmpty = false → r.fl = false ∧ hasL r.k 118 = true
  ids : rowB r.ids (hasL r.k 105) = true
  isr : rowB r.isr (hasL r.k 109) = true
  ad : rowB r.ad (hasL r.k 120) = true
  dr : rowB r.dr (hasL r.k 120) = true
theorem nums_ok {k br ep tp pa le cl se co : Int} (h : (numsR k br ep tp pa le cl se co).2.2 = 0) : numB br (hasL k 98) 1 64 = true ∧ numB ep (hasL k 101) 0 1073741824 = true ∧ numB tp (hasL k 116) (if k = 10 then 0 else 1) 1073741824 = true ∧ numB pa (hasL k 112) 0 255 = true ∧ numB le (hasL k 108) 0 64 = true ∧ numB cl (hasL k 97) 1 1073741824 = true ∧ numB se (hasL k 97) 1 1073741824 = true ∧ numB co (hasL k 97) 0 21 = true := by
  unfold numsR at h
  generalize (if k = 10 then (0 : Int) else 1) = lo at *
  split at h
  · simp at h
  split at h
  · simp at h
  split at h
  · simp at h
  split at h
  · simp at h
  split at h
  · simp at h
  split at h
  · simp at h
  rename_i h1 h2 h3 h4 h5 h6
  simp only [Bool.not_eq_false, not_or] at h1 h2 h3 h4 h5 h6
  exact ⟨h1, h2, h3, h4, h5, h6⟩
theorem chk_is {r : Rc} (h : (chk r).2.2 = 0) : RcIs r := by
  unfold chk checkR at h
  split at h
  · simp at h
  split at h
  · rename_i q; exact absurd h q
  split at h
  · simp at h
  split at h
  · simp at h
  split at h
  · simp at h
  split at h
  · simp at h
  rename_i h1 h2 h3 h4 h5 h6
  obtain ⟨n1, n2, n3, n4, n5, n6, n7, n8⟩ := nums_ok (Decidable.not_not.1 h2)
  simp only [Bool.not_eq_false, not_or, not_and] at h3 h4 h5 h6
  exact ⟨by omega, by omega, n1, n2, n3, n4, n5, n6, n7, n8, h3, h4.1, h4.2.1, h4.2.2, by omega, fun q => by
    have := h5.2 q
    exact ⟨by simpa using this.1, by simpa using this.2⟩, h6.1, h6.2.1, h6.2.2.1, h6.2.2.2⟩
end Go.Proofs.YtfnemlbkmhcodaaGreat
namespace Go.Proofs.YtfnemlbkmhcodaaGreat
open Go.RowKit

theorem hs_call {F : World → Prop} {N : Nat} {w0 W W' : World} (hF : ∀ W, Below N w0 W → F W) (hb : Below W.heap.size W W') (h : F W ∧ Below N w0 W ∧ N ≤ W.heap.size) : F W' ∧ Below N w0 W' ∧ N ≤ W'.heap.size :=
  have k := h.2.1.trans (hb.mono h.2.2)
  ⟨hF _ k, k, Nat.le_trans h.2.2 hb.size⟩
theorem hs_alloc {F : World → Prop} {N : Nat} {w0 W : World} {o : Obj} (hF : ∀ W, Below N w0 W → F W) (h : F W ∧ Below N w0 W ∧ N ≤ W.heap.size) : F (W.alloc o) ∧ Below N w0 (W.alloc o) ∧ N ≤ (W.alloc o).heap.size :=
  hs_call hF ((Below.refl _ _).alloc (Nat.le_refl _) o) h
theorem hs_set {F : World → Prop} {N : Nat} {w0 W : World} {g i : Nat} {x : Value} (hF : ∀ W, Below N w0 W → F W) (hg : N ≤ g) (h : F W ∧ Below N w0 W ∧ N ≤ W.heap.size) : F (W.setCell ⟨g, i, none⟩ x) ∧ Below N w0 (W.setCell ⟨g, i, none⟩ x) ∧ N ≤ (W.setCell ⟨g, i, none⟩ x).heap.size :=
  have k := h.2.1.setCell (by exact hg) x
  ⟨hF _ k, k, by simpa [World.setCell] using h.2.2⟩
theorem hs_set4 {F : World → Prop} {N : Nat} {w0 W : World} {g : Nat} {x y z t : Value} (hF : ∀ W, Below N w0 W → F W) (hg : N ≤ g) (h : F W ∧ Below N w0 W ∧ N ≤ W.heap.size) :
    F ((((W.setCell ⟨g, 0, none⟩ x).setCell ⟨g, 1, none⟩ y).setCell ⟨g, 2, none⟩ z).setCell ⟨g, 3, none⟩ t) ∧ Below N w0 ((((W.setCell ⟨g, 0, none⟩ x).setCell ⟨g, 1, none⟩ y).setCell ⟨g, 2, none⟩ z).setCell ⟨g, 3, none⟩ t) ∧ N ≤ ((((W.setCell ⟨g, 0, none⟩ x).setCell ⟨g, 1, none⟩ y).setCell ⟨g, 2, none⟩ z).setCell ⟨g, 3, none⟩ t).heap.size :=
  hs_set hF hg (hs_set hF hg (hs_set hF hg (hs_set hF hg h)))
theorem hs_drew {F : World → Prop} {N : Nat} {w0 : World} (hF : ∀ W, Below N w0 W → F W) (hN : N ≤ w0.heap.size) : F w0.drew ∧ Below N w0 w0.drew ∧ N ≤ w0.drew.heap.size :=
  have k := (Below.refl N w0).drew
  ⟨hF _ k, k, hN⟩
theorem hs_first {F : World → Prop} {N : Nat} {w0 : World} (hF : ∀ W, Below N w0 W → F W) (hN : N ≤ w0.heap.size) (o : Obj) : F (w0.alloc o).drew ∧ Below N w0 (w0.alloc o).drew ∧ N ≤ (w0.alloc o).drew.heap.size :=
  have k := ((Below.refl N w0).alloc hN o).drew
  ⟨hF _ k, k, by simp; omega⟩
theorem hs_second {F : World → Prop} {N : Nat} {w0 : World} (hF : ∀ W, Below N w0 W → F W) (hN : N ≤ w0.heap.size) (o o' : Obj) : F ((w0.alloc o).alloc o').drew ∧ Below N w0 ((w0.alloc o).alloc o').drew ∧ N ≤ ((w0.alloc o).alloc o').drew.heap.size :=
  have k := (((Below.refl N w0).alloc hN o).alloc (by simp; omega) o').drew
  ⟨hF _ k, k, by simp; omega⟩
/-- A slice as a list that lies in old memory, or in new: not in the blocks from lo to hi. -/
def Sld {α : Type} (lo hi : Nat) (f : α → Value) (W : World) (v : Value) (l : List α) : Prop :=
  (∃ ao cap, l = [] ∧ v = .slice ao 0 cap) ∨
  (∃ b o cap, v = .slice (some ⟨b, o, none⟩) l.length cap ∧ l.length ≤ cap ∧ (b < lo ∨ hi ≤ b) ∧ ∀ i (h : i < l.length), W.cell? ⟨b, o + i, none⟩ = some (f l[i]))
theorem Sld.nil {α : Type} (lo hi : Nat) (f : α → Value) (w : World) (ao : Option Addr) (cap : Nat) : Sld lo hi f w (.slice ao 0 cap) [] := .inl ⟨_, _, rfl, rfl⟩
theorem Sld.sl {α : Type} {lo hi : Nat} {f : α → Value} {W : World} {v : Value} {l : List α} (h : Sld lo hi f W v l) : Sl f W v l := by
  rcases h with h | ⟨b, o, cap, h1, h2, _, h3⟩
  · exact .inl h
  · exact .inr ⟨b, o, cap, h1, h2, h3⟩
theorem Sld.below {α : Type} {lo hi : Nat} {f : α → Value} {W W' : World} {v : Value} {l : List α} (h : Sld lo hi f W v l) (hb : Below W.heap.size W W') : Sld lo hi f W' v l := by
  rcases h with h | ⟨b, o, cap, h1, h2, hp, h3⟩
  · exact .inl h
  · exact .inr ⟨b, o, cap, h1, h2, hp, fun i hi => (hb.cell (p := ⟨b, o + i, none⟩) (cell_block (h3 i hi))).trans (h3 i hi)⟩
theorem Sld.set {α : Type} {lo hi : Nat} {f : α → Value} {W : World} {v : Value} {l : List α} (h : Sld lo hi f W v l) {q : Nat} (i : Nat) (x : Value) (h1 : lo ≤ q) (h2 : q < hi) : Sld lo hi f (W.setCell ⟨q, i, none⟩ x) v l := by
  rcases h with h | ⟨b, o, cap, e1, e2, hp, h3⟩
  · exact .inl h
  · refine .inr ⟨b, o, cap, e1, e2, hp, fun j hj => ?_⟩
    rw [World.cell?_setCell_other _ _ _ _ (fun e => by have := congrArg Addr.block e; simp at this; omega)]
    exact h3 j hj
theorem Sld.more {α : Type} {lo hi hi' : Nat} {f : α → Value} {W : World} {v : Value} {l : List α} (h : Sld lo hi f W v l) (hh : hi' ≤ hi) : Sld lo hi' f W v l := by
  rcases h with h | ⟨b, o, cap, h1, h2, hp, h3⟩
  · exact .inl h
  · exact .inr ⟨b, o, cap, h1, h2, hp.imp id (fun q => Nat.le_trans hh q), h3⟩
theorem Sl.old {α : Type} {f : α → Value} {W : World} {v : Value} {l : List α} (h : Sl f W v l) (hi : Nat) : Sld W.heap.size hi f W v l := by
  rcases h with h | ⟨b, o, cap, h1, h2, h3⟩
  · exact .inl h
  · by_cases hl : 0 < l.length
    · exact .inr ⟨b, o, cap, h1, h2, .inl (cell_block (h3 0 hl)), h3⟩
    · exact .inl ⟨_, _, List.length_eq_zero_iff.1 (by omega), by rw [h1, show l.length = 0 by omega]⟩
theorem sld_of_owns {α : Type} {f : α → Value} {w : World} {base : Nat} {e : TypeId} {v : Value} {l : List α} (lo : Nat) (h : w.ownsRow base e 1 v l.length (l.map f)) : Sld lo base f w v l := by
  rcases sl_of_owns h with h' | ⟨b, o, cap, h1, h2, h3⟩
  · exact .inl h'
  · refine .inr ⟨b, o, cap, h1, h2, .inr ?_, h3⟩
    rw [h1] at h
    exact (h.lt b rfl).1
/-- Eight cells of two blocks, written. -/
theorem set8 {u : World} {n m : Nat} {x y z t a b c d x' y' z' t' a' b' c' d' : Value} (hne : ¬ m = n) (h0 : u.cell? ⟨n, 0, none⟩ = some x') (h1 : u.cell? ⟨n, 1, none⟩ = some y') (h2 : u.cell? ⟨n, 2, none⟩ = some z') (h3 : u.cell? ⟨n, 3, none⟩ = some t')
    (k0 : u.cell? ⟨m, 0, none⟩ = some a') (k1 : u.cell? ⟨m, 1, none⟩ = some b') (k2 : u.cell? ⟨m, 2, none⟩ = some c') (k3 : u.cell? ⟨m, 3, none⟩ = some d') :
    ∀ W, W = ((((((((u.setCell ⟨n, 0, none⟩ x).setCell ⟨n, 1, none⟩ y).setCell ⟨n, 2, none⟩ z).setCell ⟨n, 3, none⟩ t).setCell ⟨m, 0, none⟩ a).setCell ⟨m, 1, none⟩ b).setCell ⟨m, 2, none⟩ c).setCell ⟨m, 3, none⟩ d) →
    (W.cell? ⟨n, 0, none⟩ = some x ∧ W.cell? ⟨n, 1, none⟩ = some y ∧ W.cell? ⟨n, 2, none⟩ = some z ∧ W.cell? ⟨n, 3, none⟩ = some t) ∧ (W.cell? ⟨m, 0, none⟩ = some a ∧ W.cell? ⟨m, 1, none⟩ = some b ∧ W.cell? ⟨m, 2, none⟩ = some c ∧ W.cell? ⟨m, 3, none⟩ = some d) := by
  rintro W rfl
  have o : ∀ (v : World) (i j : Nat) (s : Value), ¬ i = j → (v.setCell ⟨n, i, none⟩ s).cell? ⟨n, j, none⟩ = v.cell? ⟨n, j, none⟩ := fun v i j s h => World.cell?_setCell_other _ _ _ _ (fun q => h (congrArg Addr.off q))
  have o' : ∀ (v : World) (i j : Nat) (s : Value), ¬ i = j → (v.setCell ⟨m, i, none⟩ s).cell? ⟨m, j, none⟩ = v.cell? ⟨m, j, none⟩ := fun v i j s h => World.cell?_setCell_other _ _ _ _ (fun q => h (congrArg Addr.off q))
  have p : ∀ (v : World) (i j : Nat) (s : Value), (v.setCell ⟨m, i, none⟩ s).cell? ⟨n, j, none⟩ = v.cell? ⟨n, j, none⟩ := fun v i j s => World.cell?_setCell_other _ _ _ _ (fun q => hne (congrArg Addr.block q))
  have p' : ∀ (v : World) (i j : Nat) (s : Value), (v.setCell ⟨n, i, none⟩ s).cell? ⟨m, j, none⟩ = v.cell? ⟨m, j, none⟩ := fun v i j s => World.cell?_setCell_other _ _ _ _ (fun q => hne (congrArg Addr.block q).symm)
  refine ⟨⟨?_, ?_, ?_, ?_⟩, ?_, ?_, ?_, ?_⟩
  · rw [p, p, p, p, o _ _ _ _ (by decide), o _ _ _ _ (by decide), o _ _ _ _ (by decide)]
    exact World.cell?_setCell_same _ _ _ h0
  · rw [p, p, p, p, o _ _ _ _ (by decide), o _ _ _ _ (by decide)]
    exact World.cell?_setCell_same _ _ _ (u := y') (by rw [o _ _ _ _ (by decide)]; exact h1)
  · rw [p, p, p, p, o _ _ _ _ (by decide)]
    exact World.cell?_setCell_same _ _ _ (u := z') (by rw [o _ _ _ _ (by decide), o _ _ _ _ (by decide)]; exact h2)
  · rw [p, p, p, p]
    exact World.cell?_setCell_same _ _ _ (u := t') (by rw [o _ _ _ _ (by decide), o _ _ _ _ (by decide), o _ _ _ _ (by decide)]; exact h3)
  · rw [o' _ _ _ _ (by decide), o' _ _ _ _ (by decide), o' _ _ _ _ (by decide)]
    exact World.cell?_setCell_same _ _ _ (u := a') (by rw [p', p', p', p']; exact k0)
  · rw [o' _ _ _ _ (by decide), o' _ _ _ _ (by decide)]
    exact World.cell?_setCell_same _ _ _ (u := b') (by rw [o' _ _ _ _ (by decide), p', p', p', p']; exact k1)
  · rw [o' _ _ _ _ (by decide)]
    exact World.cell?_setCell_same _ _ _ (u := c') (by rw [o' _ _ _ _ (by decide), o' _ _ _ _ (by decide), p', p', p', p']; exact k2)
  · exact World.cell?_setCell_same _ _ _ (u := d') (by rw [o' _ _ _ _ (by decide), o' _ _ _ _ (by decide), o' _ _ _ _ (by decide), p', p', p', p']; exact k3)
end Go.Proofs.YtfnemlbkmhcodaaGreat
namespace Go.Proofs.YtfnemlbkmhcodaaGreat
open Go.RowKit

/-- What a kind is about, bit by bit. -/
def sbj (k : Int) : Int :=
  if k = 2 then 4099 else if k = 3 ∨ k = 4 ∨ k = 5 ∨ k = 6 then 3 else if k = 7 then 516 else if k = 8 then 24604 else if k = 9 then 122910 else if k = 10 then 3332 else if k = 11 then 4 else if k = 12 then 224 else 0
def knd (k : Int) : Bool := decide (1 ≤ k ∧ k ≤ 12)
def bitB (a o : Int) : Bool := (bits .and .u32 a o != 0)
theorem sbj_none {k : Int} (h : ¬ (1 ≤ k ∧ k ≤ 12)) : sbj k = 0 := by
  unfold sbj
  rw [if_neg (by omega), if_neg (by omega), if_neg (by omega), if_neg (by omega), if_neg (by omega), if_neg (by omega), if_neg (by omega), if_neg (by omega)]
theorem kinds {k : Int} (h : 1 ≤ k ∧ k ≤ 12) : k = 1 ∨ k = 2 ∨ k = 3 ∨ k = 4 ∨ k = 5 ∨ k = 6 ∨ k = 7 ∨ k = 8 ∨ k = 9 ∨ k = 10 ∨ k = 11 ∨ k = 12 := by omega
theorem bit_has {k : Int} (h : 1 ≤ k ∧ k ≤ 12) : bitB (sbj k) 1 = hasL k 98 ∧ bitB (sbj k) 2 = hasL k 101 ∧ bitB (sbj k) 4 = hasL k 116 ∧ bitB (sbj k) 8 = hasL k 112 ∧ bitB (sbj k) 16 = hasL k 108 ∧ bitB (sbj k) 32 = hasL k 97 ∧ bitB (sbj k) 64 = hasL k 97 ∧ bitB (sbj k) 128 = hasL k 97 ∧ bitB (sbj k) 256 = hasL k 102 ∧ bitB (sbj k) 512 = hasL k 110 ∧ bitB (sbj k) 1024 = hasL k 107 ∧ bitB (sbj k) 2048 = hasL k 118 ∧ bitB (sbj k) 4096 = hasL k 114 ∧ bitB (sbj k) 8192 = hasL k 105 ∧ bitB (sbj k) 16384 = hasL k 109 ∧ bitB (sbj k) 32768 = hasL k 120 ∧ bitB (sbj k) 65536 = hasL k 120 := by
  rcases kinds h with rfl | rfl | rfl | rfl | rfl | rfl | rfl | rfl | rfl | rfl | rfl | rfl <;> exact ⟨by decide, by decide, by decide, by decide, by decide, by decide, by decide, by decide, by decide, by decide, by decide, by decide, by decide, by decide, by decide, by decide, by decide⟩
set_option maxHeartbeats 4000000 in
theorem subj_any (k : Int) (w : World) : Calls Tryz.prog 90 #[.int .i64 k] w fun e w' => e = .returned (.tuple #[.int .u32 (sbj k), .bool (knd k)]) ∧ w' = w := by
  by_cases hk : 1 ≤ k ∧ k ≤ 12
  · rcases kinds hk with rfl | rfl | rfl | rfl | rfl | rfl | rfl | rfl | rfl | rfl | rfl | rfl
    all_goals
      go_enter Tryz.func90, Tryz.ntmps90
      go_wp2_with fail
      go_ret2
      exact ⟨rfl, rfl⟩
  · rw [sbj_none hk, show knd k = false from decide_eq_false hk]
    have n1 : ¬ k = 1 := by omega
    have n2 : ¬ k = 2 := by omega
    have n3 : ¬ k = 3 := by omega
    have n4 : ¬ k = 4 := by omega
    have n5 : ¬ k = 5 := by omega
    have n6 : ¬ k = 6 := by omega
    have n7 : ¬ k = 7 := by omega
    have n8 : ¬ k = 8 := by omega
    have n9 : ¬ k = 9 := by omega
    have n10 : ¬ k = 10 := by omega
    have n11 : ¬ k = 11 := by omega
    have n12 : ¬ k = 12 := by omega
    clear hk
    go_enter Tryz.func90, Tryz.ntmps90
    go_wp2_with fail
    go_ret2
    exact ⟨rfl, rfl⟩
theorem bhas_any (a o : Int) (w : World) : Calls Tryz.prog 95 #[.int .u32 a, .int .u32 o] w fun e w' => e = .returned (.bool (bitB a o)) ∧ w' = w := by
  go_enter Tryz.func95, Tryz.ntmps95
  go_wp2_with fail
  go_ret
  exact ⟨rfl, rfl⟩
set_option maxHeartbeats 4000000 in
theorem within_any (a o n lo hi : Int) (w : World) : Calls Tryz.prog 92 #[.int .u32 a, .int .u32 o, .int .i64 n, .int .i64 lo, .int .i64 hi] w fun e w' => e = .returned (.bool (numB n (bitB a o) lo hi)) ∧ w' = w := by
  have HC := hide (bhas_any a o w)
  obtain ⟨R, hR⟩ : ∃ R, R = numB n (bitB a o) lo hi := ⟨_, rfl⟩
  rw [← hR]
  have HR := hide hR
  clear hR
  cases hb : bitB a o with
  | true =>
    rw [hb] at HC HR
    by_cases h1 : lo ≤ n
    · by_cases h2 : n ≤ hi
      · have HE : Hid (R = true) := hide (by rw [HR.out]; simp [numB, h1, h2])
        go_enter Tryz.func92, Tryz.ntmps92
        go_wp2_with (first | (go_at_call 95; refine HC.out.mono ?_; rintro e w' ⟨rfl, rfl⟩))
        go_ret
        exact ⟨by rw [HE.out]; rfl, rfl⟩
      · have HE : Hid (R = decide (n ≤ hi)) := hide (by rw [HR.out]; simp [numB, h1])
        go_enter Tryz.func92, Tryz.ntmps92
        go_wp2_with (first | (go_at_call 95; refine HC.out.mono ?_; rintro e w' ⟨rfl, rfl⟩))
        go_ret
        exact ⟨by rw [HE.out]; rfl, rfl⟩
    · have HE : Hid (R = false) := hide (by rw [HR.out]; simp [numB]; omega)
      go_enter Tryz.func92, Tryz.ntmps92
      go_wp2_with (first | (go_at_call 95; refine HC.out.mono ?_; rintro e w' ⟨rfl, rfl⟩))
      go_ret
      exact ⟨by rw [HE.out]; rfl, rfl⟩
  | false =>
    rw [hb] at HC HR
    have HE : Hid (R = (n == 0)) := hide (by rw [HR.out]; simp only [numB]; rfl)
    go_enter Tryz.func92, Tryz.ntmps92
    go_wp2_with (first | (go_at_call 95; refine HC.out.mono ?_; rintro e w' ⟨rfl, rfl⟩))
    go_ret
    exact ⟨by rw [HE.out]; rfl, rfl⟩
theorem least_any (k : Int) (w : World) : Calls Tryz.prog 93 #[.int .i64 k] w fun e w' => e = .returned (.int .i64 (if k = 10 then 0 else 1)) ∧ w' = w := by
  by_cases h : k = 10
  · rw [if_pos h]
    go_enter Tryz.func93, Tryz.ntmps93
    go_wp2_with fail
    go_ret
    exact ⟨rfl, rfl⟩
  · rw [if_neg h]
    go_enter Tryz.func93, Tryz.ntmps93
    go_wp2_with fail
    go_ret
    exact ⟨rfl, rfl⟩
def mostV (h fl : Bool) : Int := if fl = true ∨ h = false then 0 else 256
theorem most_any (a : Int) (fl : Bool) (w : World) : Calls Tryz.prog 97 #[.int .u32 a, .bool fl] w fun e w' => e = .returned (.int .i64 (mostV (bitB a 2048) fl)) ∧ w' = w := by
  have HC := hide (bhas_any a 2048 w)
  cases hb : bitB a 2048 <;> cases fl <;> rw [hb] at HC
  all_goals
    go_enter Tryz.func97, Tryz.ntmps97
    go_wp2_with (first | (go_at_call 95; refine HC.out.mono ?_; rintro e w' ⟨rfl, rfl⟩))
    go_ret
    exact ⟨rfl, rfl⟩
set_option maxHeartbeats 4000000 in
theorem foreign_any (x : UInt8) (w : World) : Calls Tryz.prog 141 #[.int .u8 (x.toNat : Int)] w fun e w' => e = .returned (.bool (!okc x)) ∧ w' = w := by
  obtain ⟨R, hR⟩ : ∃ R, R = okc x := ⟨_, rfl⟩
  rw [← hR]
  rcases okc_cases (x.toNat : Int) with ⟨a, b⟩ | ⟨a, b, c, d, e, f⟩ | ⟨a, b, c⟩ | ⟨a, b, c, e, f⟩ | ⟨a, b, e⟩ | ⟨a, b, e, f⟩ | ⟨a, b, e, f⟩
  · have HE : Hid (R = true) := hide (by rw [hR]; simp [okc]; omega)
    clear hR
    generalize (x.toNat : Int) = n at *
    go_enter Tryz.func141, Tryz.ntmps141
    go_wp2_with fail
    go_ret
    exact ⟨by rw [HE.out]; rfl, rfl⟩
  · have HE : Hid (R = false) := hide (by rw [hR]; simp [okc]; omega)
    clear hR
    generalize (x.toNat : Int) = n at *
    go_enter Tryz.func141, Tryz.ntmps141
    go_wp2_with fail
    go_ret
    exact ⟨by rw [HE.out]; rfl, rfl⟩
  · have HE : Hid (R = true) := hide (by rw [hR]; simp [okc]; omega)
    clear hR
    generalize (x.toNat : Int) = n at *
    go_enter Tryz.func141, Tryz.ntmps141
    go_wp2_with fail
    go_ret
    exact ⟨by rw [HE.out]; rfl, rfl⟩
  · have HE : Hid (R = false) := hide (by rw [hR]; simp [okc]; omega)
    clear hR
    generalize (x.toNat : Int) = n at *
    go_enter Tryz.func141, Tryz.ntmps141
    go_wp2_with fail
    go_ret
    exact ⟨by rw [HE.out]; rfl, rfl⟩
  · have HE : Hid (R = true) := hide (by rw [hR]; simp [okc]; omega)
    clear hR
    generalize (x.toNat : Int) = n at *
    go_enter Tryz.func141, Tryz.ntmps141
    go_wp2_with fail
    go_ret
    exact ⟨by rw [HE.out]; rfl, rfl⟩
  · have HE : Hid (R = true) := hide (by rw [hR]; simp [okc]; omega)
    clear hR
    generalize (x.toNat : Int) = n at *
    go_enter Tryz.func141, Tryz.ntmps141
    go_wp2_with fail
    go_ret
    exact ⟨by rw [HE.out]; rfl, rfl⟩
  · have HE : Hid (R = false) := hide (by rw [hR]; simp [okc]; omega)
    clear hR
    generalize (x.toNat : Int) = n at *
    go_enter Tryz.func141, Tryz.ntmps141
    go_wp2_with fail
    go_ret
    exact ⟨by rw [HE.out]; rfl, rfl⟩
/-- The bytes of a string, as the slice that they are made. -/
def uc (x : UInt8) : Value := .int .u8 (x.toNat : Int)
theorem bytes_of (S : List UInt8) (w : World) : ∃ cap w1, (convert 9 181 (.string ⟨S.toArray⟩)).run Tryz.prog w = .ok (.slice (some ⟨w.heap.size, 0, none⟩) S.length cap) w1 ∧ (∀ i (h : i < S.length), w1.cell? ⟨w.heap.size, 0 + i, none⟩ = some (uc S[i])) ∧ Below w.heap.size w w1 ∧ w1.heap.size = w.heap.size + 1 ∧ S.length ≤ cap := by
  have h := run_bytes_of_string (P := Tryz.prog) w 9 181 5 ⟨S.toArray⟩ Tryz.underlying9 Tryz.underlying181 Tryz.underlying5
  have hz : (⟨S.toArray⟩ : ByteArray).size = S.length := by simp [ByteArray.size]
  rw [hz] at h
  refine ⟨_, _, h, fun i hi => ?_, ?_, ?_, ?_⟩
  · have hi' : i < (⟨S.toArray⟩ : ByteArray).data.size := by simpa using hi
    have := bytesRow_at ⟨S.toArray⟩ (grownCap w S.length 0 5) i hi'
    rw [Nat.zero_add]
    have h2 := World.cell?_alloc_mark w.drew (bytesRow ⟨S.toArray⟩ (grownCap w S.length 0 5)) 5 ((bytesRow ⟨S.toArray⟩ (grownCap w S.length 0 5)).size, (bytesRow ⟨S.toArray⟩ (grownCap w S.length 0 5)).size + 1) i
    refine (h2.trans this).trans ?_
    simp [uc]
  · exact (Below.refl _ _).drew.alloc (Nat.le_refl _) _
  · simp
  · exact Nat.le_trans (Nat.le_refl _) (grownCap_ge w S.length 0 5)
theorem any_snoc {S : List UInt8} {j : Nat} (hj : j < S.length) (h : (S.take j).all okc = true) (hn : okc S[j] = true) : (S.take (j + 1)).all okc = true := all_snoc hj h hn
def alc (S : List UInt8) : Bool := S.all okc
set_option maxRecDepth 100000 in
set_option maxHeartbeats 4000000 in
theorem idxf_some (b o cap : Nat) (S : List UInt8) (w : World) (hl : S.length ≤ 1000) (h3 : ∀ i (h : i < S.length), w.cell? ⟨b, o + i, none⟩ = some (uc S[i])) :
    Calls Tryz.prog 155 #[.slice (some ⟨b, o, none⟩) S.length cap, .func (.func 141) #[] #[]] w fun e w' => (∃ n : Int, e = .returned (.int .i64 n) ∧ ((alc S = false ∧ 0 ≤ n) ∨ (alc S = true ∧ n = -1))) ∧ w' = w := by
  have H3 := hide h3
  clear h3
  go_enter Tryz.func155, Tryz.ntmps155
  go_wp2
  go_loop [8] (fun i => ∃ k : Nat, k ≤ S.length ∧ i = .int .i64 (k : Int) ∧ Hid ((S.take k).all okc = true)) (fun i => S.length - (intOf i).toNat)
  case atStart => exact ⟨0, Nat.zero_le _, rfl, hide rfl⟩
  case round =>
    obtain ⟨k, hk, rfl, HN⟩ := hrel
    by_cases hlt : k < S.length
    · have hltI : (k : Int) < (S.length : Int) := by omega
      have hc := H3.out k hlt
      unfold uc at hc
      have HF := hide (foreign_any S[k] w)
      have HSN := hide (fun hn => all_snoc hlt HN.out hn)
      have HNO := hide (fun hn => (all_no hlt hn : alc S = false))
      generalize S[k] = x at *
      cases hx : okc x with
      | true =>
        rw [hx] at HF
        have HX := hide hx
        clear hx
        go_wp2_with (first | (go_at_call 141; refine HF.out.mono ?_; rintro e w' ⟨rfl, rfl⟩))
        go_round
        case rel => exact ⟨k + 1, by omega, by go_num, hide (HSN.out HX.out)⟩
        case measure => simp [intOf]; omega
      | false =>
        rw [hx] at HF
        have HX := hide hx
        clear hx
        go_wp2_with (first | (go_at_call 141; refine HF.out.mono ?_; rintro e w' ⟨rfl, rfl⟩))
        go_ret
        exact ⟨⟨_, rfl, .inl ⟨HNO.out HX.out, by omega⟩⟩, rfl⟩
    · obtain rfl : k = S.length := by omega
      have HA : Hid (alc S = true) := hide (by have := HN.out; rw [List.take_length] at this; exact this)
      clear hlt
      go_wp2_with fail
      go_ret
      exact ⟨⟨_, rfl, .inr ⟨HA.out, rfl⟩⟩, rfl⟩
set_option maxHeartbeats 4000000 in
theorem ctnf_some (b o cap : Nat) (S : List UInt8) (w : World) (hl : S.length ≤ 1000) (h3 : ∀ i (h : i < S.length), w.cell? ⟨b, o + i, none⟩ = some (uc S[i])) :
    Calls Tryz.prog 140 #[.slice (some ⟨b, o, none⟩) S.length cap, .func (.func 141) #[] #[]] w fun e w' => e = .returned (.bool (!alc S)) ∧ w' = w := by
  have HC := hide (idxf_some b o cap S w hl h3)
  clear h3
  go_enter Tryz.func140, Tryz.ntmps140
  go_wp2_with fail
  refine (HC.out).mono ?_
  rintro e w' ⟨⟨n, rfl, ⟨hy, hn⟩ | ⟨hy, rfl⟩⟩, rfl⟩
  · have HY := hide hy
    clear hy
    go_wp2
    go_ret
    exact ⟨by rw [HY.out]; rfl, rfl⟩
  · have HY := hide hy
    clear hy
    go_wp2
    go_ret
    exact ⟨by rw [HY.out]; rfl, rfl⟩
set_option maxRecDepth 100000 in
set_option maxHeartbeats 4000000 in
theorem cname_any (S : List UInt8) (w : World) (hS : S.length ≤ 1000) : Calls Tryz.prog 123 #[.string ⟨S.toArray⟩] w fun e w' => e = .returned (.bool (nameB S)) ∧ Below w.heap.size w w' := by
  have hdot : (⟨S.toArray⟩ : ByteArray).toList = S := by simp
  obtain ⟨R, hR⟩ : ∃ R, R = nameB S := ⟨_, rfl⟩
  rw [← hR]
  have HR := hide hR
  clear hR
  by_cases h1 : S.length < 1
  · have HE : Hid (R = false) := hide (by rw [HR.out]; simp [nameB]; omega)
    have h1' : (S.length : Int) < 1 := by omega
    go_enter Tryz.func123, Tryz.ntmps123
    go_wp2_with fail
    go_ret
    exact ⟨by rw [HE.out]; rfl, Below.refl _ _⟩
  have h1' : ¬ (S.length : Int) < 1 := by omega
  by_cases h2 : 40 < S.length
  · have HE : Hid (R = false) := hide (by rw [HR.out]; simp [nameB]; omega)
    have h2' : (40 : Int) < (S.length : Int) := by omega
    go_enter Tryz.func123, Tryz.ntmps123
    go_wp2_with fail
    go_ret
    exact ⟨by rw [HE.out]; rfl, Below.refl _ _⟩
  have h2' : ¬ (40 : Int) < (S.length : Int) := by omega
  by_cases h3 : S = [46]
  · have HE : Hid (R = false) := hide (by rw [HR.out]; simp [nameB, h3])
    subst h3
    go_enter Tryz.func123, Tryz.ntmps123
    go_wp2_with fail
    go_ret
    exact ⟨by rw [HE.out]; rfl, Below.refl _ _⟩
  by_cases h4 : S = [46, 46]
  · have HE : Hid (R = false) := hide (by rw [HR.out]; simp [nameB, h4])
    subst h4
    go_enter Tryz.func123, Tryz.ntmps123
    go_wp2_with fail
    go_ret
    exact ⟨by rw [HE.out]; rfl, Below.refl _ _⟩
  have h3' : (S == [46]) = false := by simpa using h3
  have h4' : (S == [46, 46]) = false := by simpa using h4
  have HE : Hid (R = alc S) := hide (by rw [HR.out]; unfold nameB alc; simp [h3, h4]; omega)
  obtain ⟨cap, w1, hcv, hcell, hbl, _⟩ := bytes_of S w
  have HC := hide hcell
  have HB := hide hbl
  clear hcell hbl
  go_enter Tryz.func123, Tryz.ntmps123
  go_wp2_with fail
  refine (ctnf_some _ _ _ S _ hS HC.out).mono ?_
  rintro e w2 ⟨rfl, rfl⟩
  go_wp2_with fail
  go_ret
  exact ⟨by rw [HE.out]; simp, HB.out⟩
end Go.Proofs.YtfnemlbkmhcodaaGreat
