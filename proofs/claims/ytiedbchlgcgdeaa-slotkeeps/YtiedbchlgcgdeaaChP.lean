/-
  WHAT A BLOCK OF A CHAIN SAYS (chain.pieceOf), how many blocks a record takes (chain.Blocks), how a stamp stands in a block (chain.edgeOf). Conditions: blocks of sixty-four bytes; stamps not below 0.
-/
import Derived.Test.YtiedbchlgcgdeaaChV
namespace Go.Proofs.Ytiedbchlgcgdeaa
open Go.RowKit

theorem or16 {x y : Int} (hx : 0 ≤ x) (hx2 : x ≤ 255) (hy : 0 ≤ y) (hy2 : y ≤ 255) : bits .or .i64 (x * 256) y = x * 256 + y := by
  obtain ⟨a, rfl⟩ : ∃ n : Nat, x = n := ⟨x.toNat, by omega⟩
  obtain ⟨b, rfl⟩ : ∃ n : Nat, y = n := ⟨y.toNat, by omega⟩
  have e : (BitVec.ofInt 64 ((a : Int) * 256) ||| BitVec.ofInt 64 (b : Int)).toNat = 2 ^ 8 * a + b := by
    rw [show (a : Int) * 256 = ((2 ^ 8 * a : Nat) : Int) by omega, BitVec.toNat_or, BitVec.ofInt_natCast, BitVec.ofInt_natCast, BitVec.toNat_ofNat, BitVec.toNat_ofNat, Nat.mod_eq_of_lt (by omega), Nat.mod_eq_of_lt (by omega)]
    exact (Nat.two_pow_add_eq_or_of_lt (by omega) a).symm
  show IntKind.i64.wrap ((BitVec.ofInt 64 ((a : Int) * 256) ||| BitVec.ofInt 64 (b : Int)).toNat : Int) = _
  rw [e, IntKind.wrap_i64]
  omega
theorem bit15 {n : Nat} (h : n < 65536) : n &&& 32768 = if 32768 ≤ n then 32768 else 0 := by
  have ht : n.testBit 15 = decide (32768 ≤ n) := by
    rw [Nat.testBit_eq_decide_div_mod_eq]
    congr 1
    simp only [eq_iff_iff]
    omega
  apply Nat.eq_of_testBit_eq
  intro i
  rw [Nat.testBit_and, show (32768 : Nat) = 2 ^ 15 from rfl, Nat.testBit_two_pow]
  by_cases hi : 15 = i
  · subst hi
    rw [ht]
    by_cases hn : 2 ^ 15 ≤ n
    · rw [if_pos hn, Nat.testBit_two_pow]; simp [show 32768 ≤ n from hn]
    · rw [if_neg hn]; simp [show ¬ 32768 ≤ n from hn]
  · by_cases hn : 2 ^ 15 ≤ n
    · rw [if_pos hn, Nat.testBit_two_pow]; simp [hi]
    · rw [if_neg hn]; simp [hi]
theorem and15 {n : Int} (h0 : 0 ≤ n) (h1 : n < 65536) : bits .and .i64 n 32768 = if 32768 ≤ n then 32768 else 0 := by
  obtain ⟨a, rfl⟩ : ∃ m : Nat, n = m := ⟨n.toNat, by omega⟩
  have e : (BitVec.ofInt 64 (a : Int) &&& BitVec.ofInt 64 32768).toNat = if 32768 ≤ a then 32768 else 0 := by
    rw [BitVec.toNat_and, BitVec.ofInt_natCast, BitVec.toNat_ofNat, Nat.mod_eq_of_lt (by omega), show (BitVec.ofInt 64 32768).toNat = 32768 from rfl]
    exact bit15 (by omega)
  show IntKind.i64.wrap ((BitVec.ofInt 64 (a : Int) &&& BitVec.ofInt 64 32768).toNat : Int) = _
  rw [e, IntKind.wrap_i64]
  by_cases h : 32768 ≤ a
  · rw [if_pos h, if_pos (by omega)]; decide
  · rw [if_neg h, if_neg (by omega)]; decide
theorem not15 {n : Int} (h0 : 0 ≤ n) (h1 : n < 65536) : bits .andNot .i64 n 32768 = n % 32768 := by
  obtain ⟨a, rfl⟩ : ∃ m : Nat, n = m := ⟨n.toNat, by omega⟩
  have e : (BitVec.ofInt 64 (a : Int) &&& ~~~ BitVec.ofInt 64 32768).toNat = a % 32768 := by
    rw [BitVec.toNat_and, BitVec.ofInt_natCast, BitVec.toNat_ofNat, Nat.mod_eq_of_lt (by omega), show (~~~ BitVec.ofInt 64 32768).toNat = 18446744073709518847 from rfl]
    have h2 : (a &&& 18446744073709518847) % 2 ^ 16 = (a % 2 ^ 16) &&& (18446744073709518847 % 2 ^ 16) := Nat.and_mod_two_pow
    have h3 : a &&& 18446744073709518847 ≤ a := Nat.and_le_left
    rw [Nat.mod_eq_of_lt (by omega), Nat.mod_eq_of_lt (a := a) (by omega)] at h2
    rw [h2, show 18446744073709518847 % 2 ^ 16 = 2 ^ 15 - 1 from rfl, Nat.and_two_pow_sub_one_eq_mod]
  show IntKind.i64.wrap ((BitVec.ofInt 64 (a : Int) &&& ~~~ BitVec.ofInt 64 32768).toNat : Int) = _
  rw [e, IntKind.wrap_i64]
  omega
theorem or15 {n : Int} (h0 : 0 ≤ n) (h1 : n < 32768) : bits .or .i64 n 32768 = n + 32768 := by
  obtain ⟨a, rfl⟩ : ∃ m : Nat, n = m := ⟨n.toNat, by omega⟩
  have e : (BitVec.ofInt 64 (a : Int) ||| BitVec.ofInt 64 32768).toNat = a + 32768 := by
    rw [BitVec.toNat_or, BitVec.ofInt_natCast, BitVec.toNat_ofNat, Nat.mod_eq_of_lt (by omega), show (BitVec.ofInt 64 32768).toNat = 2 ^ 15 * 1 from rfl, Nat.or_comm]
    rw [← Nat.two_pow_add_eq_or_of_lt (by omega) 1]
    omega
  show IntKind.i64.wrap ((BitVec.ofInt 64 (a : Int) ||| BitVec.ofInt 64 32768).toNat : Int) = _
  rw [e, IntKind.wrap_i64]
  omega
/-- Four cells in a block of their own. -/
structure B4 (W : World) (g : Nat) (x y z u : Value) : Prop where
  c0 : W.cell? ⟨g, 0, none⟩ = some x
  c1 : W.cell? ⟨g, 1, none⟩ = some y
  c2 : W.cell? ⟨g, 2, none⟩ = some z
  c3 : W.cell? ⟨g, 3, none⟩ = some u
  fz : ∀ i, W.frozen? ⟨g, i, none⟩ = false
section
variable {W W' : World} {g : Nat} {x y z u : Value}
theorem B4.lt (h : B4 W g x y z u) : g < W.heap.size := cell_block h.c0
theorem B4.keepB (h : B4 W g x y z u) (hk : W'.heap[g]? = W.heap[g]?) : B4 W' g x y z u :=
  ⟨(World.cell?_of_block hk).trans h.c0, (World.cell?_of_block hk).trans h.c1, (World.cell?_of_block hk).trans h.c2, (World.cell?_of_block hk).trans h.c3, fun i => (World.frozen?_of_block (a := ⟨g, i, none⟩) hk).trans (h.fz i)⟩
theorem B4.below (h : B4 W g x y z u) (hb : Below W.heap.size W W') : B4 W' g x y z u := h.keepB (hb.block g h.lt)
theorem b4_new (W : World) (x y z u : Value) (t : TypeId) : B4 (W.alloc (.cells #[x, y, z, u] t)) W.heap.size x y z u := by
  have hc : ∀ i, (W.alloc (.cells #[x, y, z, u] t)).cell? ⟨W.heap.size, i, none⟩ = #[x, y, z, u][i]? := fun i => World.cell?_alloc_at _ _ _ _ rfl
  exact ⟨hc 0, hc 1, hc 2, hc 3, fun i => by simp⟩
theorem B4.setO (h : B4 W g x y z u) {k i : Nat} (hk : g ≠ k) (v : Value) : B4 (W.setCell ⟨k, i, none⟩ v) g x y z u := h.keepB (Below.heap_setCell _ _ _ _ hk)
theorem B4.set0 (h : B4 W g x y z u) (v : Value) : B4 (W.setCell ⟨g, 0, none⟩ v) g v y z u :=
  ⟨World.cell?_setCell_same _ _ _ h.c0, by rw [World.cell?_setCell_other _ _ _ _ (by simp)]; exact h.c1, by rw [World.cell?_setCell_other _ _ _ _ (by simp)]; exact h.c2, by rw [World.cell?_setCell_other _ _ _ _ (by simp)]; exact h.c3, fun i => by simp [h.fz i]⟩
theorem B4.set1 (h : B4 W g x y z u) (v : Value) : B4 (W.setCell ⟨g, 1, none⟩ v) g x v z u :=
  ⟨by rw [World.cell?_setCell_other _ _ _ _ (by simp)]; exact h.c0, World.cell?_setCell_same _ _ _ h.c1, by rw [World.cell?_setCell_other _ _ _ _ (by simp)]; exact h.c2, by rw [World.cell?_setCell_other _ _ _ _ (by simp)]; exact h.c3, fun i => by simp [h.fz i]⟩
theorem B4.set2 (h : B4 W g x y z u) (v : Value) : B4 (W.setCell ⟨g, 2, none⟩ v) g x y v u :=
  ⟨by rw [World.cell?_setCell_other _ _ _ _ (by simp)]; exact h.c0, by rw [World.cell?_setCell_other _ _ _ _ (by simp)]; exact h.c1, World.cell?_setCell_same _ _ _ h.c2, by rw [World.cell?_setCell_other _ _ _ _ (by simp)]; exact h.c3, fun i => by simp [h.fz i]⟩
theorem B4.set3 (h : B4 W g x y z u) (v : Value) : B4 (W.setCell ⟨g, 3, none⟩ v) g x y z v :=
  ⟨by rw [World.cell?_setCell_other _ _ _ _ (by simp)]; exact h.c0, by rw [World.cell?_setCell_other _ _ _ _ (by simp)]; exact h.c1, by rw [World.cell?_setCell_other _ _ _ _ (by simp)]; exact h.c2, World.cell?_setCell_same _ _ _ h.c3, fun i => by simp [h.fz i]⟩
theorem B4.all (h : B4 W g x y z u) (x' y' z' u' : Value) : B4 ((((W.setCell ⟨g, 0, none⟩ x').setCell ⟨g, 1, none⟩ y').setCell ⟨g, 2, none⟩ z').setCell ⟨g, 3, none⟩ u') g x' y' z' u' := (((h.set0 x').set1 y').set2 z').set3 u'
theorem B4.rg (h : B4 W g x y z u) : W.rangeAt g 0 [x, y, z, u] := fun j v hv => by
  rw [Nat.zero_add]
  match j, hv with
  | 0, hv => cases hv; exact h.c0
  | 1, hv => cases hv; exact h.c1
  | 2, hv => cases hv; exact h.c2
  | 3, hv => cases hv; exact h.c3
end
theorem set4_below {B g : Nat} {a W : World} (h : Below B a W) (hg : B ≤ g) (x y z u : Value) : Below B a ((((W.setCell ⟨g, 0, none⟩ x).setCell ⟨g, 1, none⟩ y).setCell ⟨g, 2, none⟩ z).setCell ⟨g, 3, none⟩ u) := (((h.setCell (by exact hg) _).setCell (by exact hg) _).setCell (by exact hg) _).setCell (by exact hg) _
theorem set4_heap {W : World} {g k : Nat} (h : k ≠ g) (x y z u : Value) : ((((W.setCell ⟨g, 0, none⟩ x).setCell ⟨g, 1, none⟩ y).setCell ⟨g, 2, none⟩ z).setCell ⟨g, 3, none⟩ u).heap[k]? = W.heap[k]? :=
  (((Below.heap_setCell _ _ _ _ h).trans (Below.heap_setCell _ _ _ _ h)).trans (Below.heap_setCell _ _ _ _ h)).trans (Below.heap_setCell _ _ _ _ h)
theorem res_cel {P : Program} {fn : Func} {q : Tmp} {ty : TypeId} (h : fn.results = #[.cell q ty]) (tmps : Array Value) (w : World) (b : Nat) (cs : List Value) (d : TypeDesc) (hp : tmps.getD q undef = .pointer (some ⟨b, 0, none⟩)) (hc : w.rangeAt b 0 cs) (hu : P.underlying ty = some d) (hd : d.isRow = true) (hi : (P.info? ty).map (·.size) = some cs.length) :
    (results fn tmps).run P w = .ok (.agg cs.toArray) w := by
  have hp' : tmps[q]?.getD undef = .pointer (some ⟨b, 0, none⟩) := by simpa using hp
  simp [results, h, hp', asAddr, run_loadVar_mid w b 0 ty cs d hc hu hd hi]
theorem Rq.rg {W : World} {g : Nat} {t : TypeId} {b : List Int} (h : Rq W g t b) : W.rangeAt g 0 (bv b) := fun j u hu => by
  have h' := h
  unfold Rq at h'
  simp only [World.cell?, h', Nat.zero_add]
  simpa using hu
end Go.Proofs.Ytiedbchlgcgdeaa
