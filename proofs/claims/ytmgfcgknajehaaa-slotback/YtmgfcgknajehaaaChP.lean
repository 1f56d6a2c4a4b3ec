/-
  WHAT A BLOCK OF A CHAIN SAYS (chain.pieceOf), how many blocks a record takes (chain.Blocks), how a stamp stands in a block (chain.edgeOf). Conditions: blocks of sixty-four bytes; stamps not below 0.
-/
import Derived.Test.YtmgfcgknajehaaaChV
namespace Go.Proofs.Ytmgfcgknajehaaa
open Go.RowKit

theorem or16 {x y : Int} (hx : 0 ≤ x) (hx2 : x ≤ 255) (hy : 0 ≤ y) (hy2 : y ≤ 255) : bits .or .i64 (x * 256) y = x * 256 + y := by
  obtain ⟨a, rfl⟩ : ∃ n : Nat, x = n := ⟨x.toNat, by omega⟩
  obtain ⟨b, rfl⟩ : ∃ n : Nat, y = n := ⟨y.toNat, by omega⟩
  have e : (BitVec.ofInt 64 ((a : Int) * 256) ||| BitVec.ofInt 64 (b : Int)).toNat = 2 ^ 8 * a + b := by
    rw [show (a : Int) * 256 = ((2 ^ 8 * a : Nat) : Int) by omega, BitVec.toNat_or, BitVec.ofInt_natCast, BitVec.ofInt_natCast, BitVec.toNat_ofNat, BitVec.toNat_ofNat, Nat.mod_eq_of_lt (by omega), Nat.mod_eq_of_lt (by omega)]
    exact (Nat.two_pow_add_eq_or_of_lt (by omega) a).symm
  show IntKind.i64.wrap ((BitVec.ofInt 64 ((a : Int) * 256) ||| BitVec.ofInt 64 (b : Int)).toNat : Int) = _
  rw [e, IntKind.wrap_i64]
  omega
theorem bit15 {n : Nat} (h : n < 65536) : n &&& 32768 = if 32768 ≤ n then 32768 else 0 := by
  have ht : n.testBit 15 = decide (32768 ≤ n) := by
    rw [Nat.testBit_eq_decide_div_mod_eq]
    congr 1
    simp only [eq_iff_iff]
    omega
  apply Nat.eq_of_testBit_eq
  intro i
  rw [Nat.testBit_and, show (32768 : Nat) = 2 ^ 15 from rfl, Nat.testBit_two_pow]
  by_cases hi : 15 = i
  · subst hi
    rw [ht]
    by_cases hn : 2 ^ 15 ≤ n
    · rw [if_pos hn, Nat.testBit_two_pow]; simp [show 32768 ≤ n from hn]
    · rw [if_neg hn]; simp [show ¬ 32768 ≤ n from hn]
  · by_cases hn : 2 ^ 15 ≤ n
    · rw [if_pos hn, Nat.testBit_two_pow]; simp [hi]
    · rw [if_neg hn]; simp [hi]
theorem and15 {n : Int} (h0 : 0 ≤ n) (h1 : n < 65536) : bits .and .i64 n 32768 = if 32768 ≤ n then 32768 else 0 := by
  obtain ⟨a, rfl⟩ : ∃ m : Nat, n = m := ⟨n.toNat, by omega⟩
  have e : (BitVec.ofInt 64 (a : Int) &&& BitVec.ofInt 64 32768).toNat = if 32768 ≤ a then 32768 else 0 := by
    rw [BitVec.toNat_and, BitVec.ofInt_natCast, BitVec.toNat_ofNat, Nat.mod_eq_of_lt (by omega), show (BitVec.ofInt 64 32768).toNat = 32768 from rfl]
    exact bit15 (by omega)
  show IntKind.i64.wrap ((BitVec.ofInt 64 (a : Int) &&& BitVec.ofInt 64 32768).toNat : Int) = _
  rw [e, IntKind.wrap_i64]
  by_cases h : 32768 ≤ a
  · rw [if_pos h, if_pos (by omega)]; decide
  · rw [if_neg h, if_neg (by omega)]; decide
theorem not15 {n : Int} (h0 : 0 ≤ n) (h1 : n < 65536) : bits .andNot .i64 n 32768 = n % 32768 := by
  obtain ⟨a, rfl⟩ : ∃ m : Nat, n = m := ⟨n.toNat, by omega⟩
  have e : (BitVec.ofInt 64 (a : Int) &&& ~~~ BitVec.ofInt 64 32768).toNat = a % 32768 := by
    rw [BitVec.toNat_and, BitVec.ofInt_natCast, BitVec.toNat_ofNat, Nat.mod_eq_of_lt (by omega), show (~~~ BitVec.ofInt 64 32768).toNat = 18446744073709518847 from rfl]
    have h2 : (a &&& 18446744073709518847) % 2 ^ 16 = (a % 2 ^ 16) &&& (18446744073709518847 % 2 ^ 16) := Nat.and_mod_two_pow
    have h3 : a &&& 18446744073709518847 ≤ a := Nat.and_le_left
    rw [Nat.mod_eq_of_lt (by omega), Nat.mod_eq_of_lt (a := a) (by omega)] at h2
    rw [h2, show 18446744073709518847 % 2 ^ 16 = 2 ^ 15 - 1 from rfl, Nat.and_two_pow_sub_one_eq_mod]
  show IntKind.i64.wrap ((BitVec.ofInt 64 (a : Int) &&& ~~~ BitVec.ofInt 64 32768).toNat : Int) = _
  rw [e, IntKind.wrap_i64]
  omega
theorem or15 {n : Int} (h0 : 0 ≤ n) (h1 : n < 32768) : bits .or .i64 n 32768 = n + 32768 := by
  obtain ⟨a, rfl⟩ : ∃ m : Nat, n = m := ⟨n.toNat, by omega⟩
  have e : (BitVec.ofInt 64 (a : Int) ||| BitVec.ofInt 64 32768).toNat = a + 32768 := by
    rw [BitVec.toNat_or, BitVec.ofInt_natCast, BitVec.toNat_ofNat, Nat.mod_eq_of_lt (by omega), show (BitVec.ofInt 64 32768).toNat = 2 ^ 15 * 1 from rfl, Nat.or_comm]
    rw [← Nat.two_pow_add_eq_or_of_lt (by omega) 1]
    omega
  show IntKind.i64.wrap ((BitVec.ofInt 64 (a : Int) ||| BitVec.ofInt 64 32768).toNat : Int) = _
  rw [e, IntKind.wrap_i64]
  omega
/-- Four cells in a block of their own. -/
structure B4 (W : World) (g : Nat) (x y z u : Value) : Prop where
  c0 : W.cell? ⟨g, 0, none⟩ = some x
  c1 : W.cell? ⟨g, 1, none⟩ = some y
  c2 : W.cell? ⟨g, 2, none⟩ = some z
  c3 : W.cell? ⟨g, 3, none⟩ = some u
  fz : ∀ i, W.frozen? ⟨g, i, none⟩ = false
section
variable {W W' : World} {g : Nat} {x y z u : Value}
theorem B4.lt (h : B4 W g x y z u) : g < W.heap.size := cell_block h.c0
theorem B4.keepB (h : B4 W g x y z u) (hk : W'.heap[g]? = W.heap[g]?) : B4 W' g x y z u :=
  ⟨(World.cell?_of_block hk).trans h.c0, (World.cell?_of_block hk).trans h.c1, (World.cell?_of_block hk).trans h.c2, (World.cell?_of_block hk).trans h.c3, fun i => (World.frozen?_of_block (a := ⟨g, i, none⟩) hk).trans (h.fz i)⟩
theorem B4.below (h : B4 W g x y z u) (hb : Below W.heap.size W W') : B4 W' g x y z u := h.keepB (hb.block g h.lt)
theorem b4_new (W : World) (x y z u : Value) (t : TypeId) : B4 (W.alloc (.cells #[x, y, z, u] t)) W.heap.size x y z u := by
  have hc : ∀ i, (W.alloc (.cells #[x, y, z, u] t)).cell? ⟨W.heap.size, i, none⟩ = #[x, y, z, u][i]? := fun i => World.cell?_alloc_at _ _ _ _ rfl
  exact ⟨hc 0, hc 1, hc 2, hc 3, fun i => by simp⟩
theorem B4.setO (h : B4 W g x y z u) {k i : Nat} (hk : g ≠ k) (v : Value) : B4 (W.setCell ⟨k, i, none⟩ v) g x y z u := h.keepB (Below.heap_setCell _ _ _ _ hk)
theorem B4.set0 (h : B4 W g x y z u) (v : Value) : B4 (W.setCell ⟨g, 0, none⟩ v) g v y z u :=
  ⟨World.cell?_setCell_same _ _ _ h.c0, by rw [World.cell?_setCell_other _ _ _ _ (by simp)]; exact h.c1, by rw [World.cell?_setCell_other _ _ _ _ (by simp)]; exact h.c2, by rw [World.cell?_setCell_other _ _ _ _ (by simp)]; exact h.c3, fun i => by simp [h.fz i]⟩
theorem B4.set1 (h : B4 W g x y z u) (v : Value) : B4 (W.setCell ⟨g, 1, none⟩ v) g x v z u :=
  ⟨by rw [World.cell?_setCell_other _ _ _ _ (by simp)]; exact h.c0, World.cell?_setCell_same _ _ _ h.c1, by rw [World.cell?_setCell_other _ _ _ _ (by simp)]; exact h.c2, by rw [World.cell?_setCell_other _ _ _ _ (by simp)]; exact h.c3, fun i => by simp [h.fz i]⟩
theorem B4.set2 (h : B4 W g x y z u) (v : Value) : B4 (W.setCell ⟨g, 2, none⟩ v) g x y v u :=
  ⟨by rw [World.cell?_setCell_other _ _ _ _ (by simp)]; exact h.c0, by rw [World.cell?_setCell_other _ _ _ _ (by simp)]; exact h.c1, World.cell?_setCell_same _ _ _ h.c2, by rw [World.cell?_setCell_other _ _ _ _ (by simp)]; exact h.c3, fun i => by simp [h.fz i]⟩
theorem B4.set3 (h : B4 W g x y z u) (v : Value) : B4 (W.setCell ⟨g, 3, none⟩ v) g x y z v :=
  ⟨by rw [World.cell?_setCell_other _ _ _ _ (by simp)]; exact h.c0, by rw [World.cell?_setCell_other _ _ _ _ (by simp)]; exact h.c1, by rw [World.cell?_setCell_other _ _ _ _ (by simp)]; exact h.c2, World.cell?_setCell_same _ _ _ h.c3, fun i => by simp [h.fz i]⟩
theorem B4.all (h : B4 W g x y z u) (x' y' z' u' : Value) : B4 ((((W.setCell ⟨g, 0, none⟩ x').setCell ⟨g, 1, none⟩ y').setCell ⟨g, 2, none⟩ z').setCell ⟨g, 3, none⟩ u') g x' y' z' u' := (((h.set0 x').set1 y').set2 z').set3 u'
theorem B4.rg (h : B4 W g x y z u) : W.rangeAt g 0 [x, y, z, u] := fun j v hv => by
  rw [Nat.zero_add]
  match j, hv with
  | 0, hv => cases hv; exact h.c0
  | 1, hv => cases hv; exact h.c1
  | 2, hv => cases hv; exact h.c2
  | 3, hv => cases hv; exact h.c3
end
theorem set4_below {B g : Nat} {a W : World} (h : Below B a W) (hg : B ≤ g) (x y z u : Value) : Below B a ((((W.setCell ⟨g, 0, none⟩ x).setCell ⟨g, 1, none⟩ y).setCell ⟨g, 2, none⟩ z).setCell ⟨g, 3, none⟩ u) := (((h.setCell (by exact hg) _).setCell (by exact hg) _).setCell (by exact hg) _).setCell (by exact hg) _
theorem set4_heap {W : World} {g k : Nat} (h : k ≠ g) (x y z u : Value) : ((((W.setCell ⟨g, 0, none⟩ x).setCell ⟨g, 1, none⟩ y).setCell ⟨g, 2, none⟩ z).setCell ⟨g, 3, none⟩ u).heap[k]? = W.heap[k]? :=
  (((Below.heap_setCell _ _ _ _ h).trans (Below.heap_setCell _ _ _ _ h)).trans (Below.heap_setCell _ _ _ _ h)).trans (Below.heap_setCell _ _ _ _ h)
theorem res_cel {P : Program} {fn : Func} {q : Tmp} {ty : TypeId} (h : fn.results = #[.cell q ty]) (tmps : Array Value) (w : World) (b : Nat) (cs : List Value) (d : TypeDesc) (hp : tmps.getD q undef = .pointer (some ⟨b, 0, none⟩)) (hc : w.rangeAt b 0 cs) (hu : P.underlying ty = some d) (hd : d.isRow = true) (hi : (P.info? ty).map (·.size) = some cs.length) :
    (results fn tmps).run P w = .ok (.agg cs.toArray) w := by
  have hp' : tmps[q]?.getD undef = .pointer (some ⟨b, 0, none⟩) := by simpa using hp
  simp [results, h, hp', asAddr, run_loadVar_mid w b 0 ty cs d hc hu hd hi]
theorem infoPc : (Try.prog.info? 103).map (·.size) = some 4 := by kernel_rfl
theorem Rq.rg {W : World} {g : Nat} {t : TypeId} {b : List Int} (h : Rq W g t b) : W.rangeAt g 0 (bv b) := fun j u hu => by
  have h' := h
  unfold Rq at h'
  simp only [World.cell?, h', Nat.zero_add]
  simpa using hu
theorem guardE : Try.prog.eqGuardType Try.prog.depth 109 = false := by kernel_rfl
theorem yields_eqE {ops : Array Oper} {o : Oper} {a : Act} {S : World → Prop} (hw : Region.wanted o (yielded ops a.tmps) = true) (x y : Operand) (ho : o.op = .binOp .eql 109 x y 109) (p q : List Int) (hx : a.eval x = .agg (bv p).toArray) (hy : a.eval y = .agg (bv q).toArray) (hp : p.length = 8) (hq : q.length = 8) : YieldsIf Try.prog ops S o (.bool (decide (p = q))) a :=
  .inl ⟨hw, fun w _ => by
    unfold execOp
    simp only [ho, hx, hy]
    simp [eqGuard, binOp, run_eqE w p q hp hq, Result.andThen]⟩
set_option maxRecDepth 100000 in
theorem blocks_any (n : Int) (w : World) (h0 : 0 ≤ n) (h1 : n ≤ 1073741824) : Calls Try.prog 28 #[.int .i64 n] w fun e w' => e = .returned (.int .i64 (blks n)) ∧ w' = w := by
  by_cases h : n ≤ 46
  · have HB : Hid (blks n = 1) := hide (by unfold blks; rw [if_pos h])
    go_enter Try.func28, Try.ntmps28
    go_wp2
    go_ret
    exact ⟨by rw [HB.out]; rfl, rfl⟩
  · have HB : Hid (blks n = (n - 1) / 46 + 1) := hide (by unfold blks; rw [if_neg h])
    have hd : (n - 1).tdiv 46 = (n - 1) / 46 := by rw [Int.tdiv_eq_ediv_of_nonneg (by omega)]
    have h2 : 0 ≤ (n - 1) / 46 := by omega
    have h3 : (n - 1) / 46 ≤ 1073741824 := by omega
    go_enter Try.func28, Try.ntmps28
    go_wp2
    go_ret
    exact ⟨by rw [HB.out]; rfl, rfl⟩
set_option maxRecDepth 100000 in
set_option maxHeartbeats 8000000 in
theorem piece_go (g : Nat) (t : TypeId) (b : List Int) (w : World) (hr : Rq w g t b) (hb : Blk b) (bg : Bool) (lf : Int) (m : Nat) (hbg : decide (128 ≤ b.getD 8 0) = bg) (hlf : lfO b = lf) (hm : min lf 46 = (m : Int)) : Calls Try.prog 66 #[.slice (some ⟨g, 0, none⟩) 64 64] w fun e w' => ∃ ad, e = .returned (.agg #[.int .i64 (pcs b).st, .bool bg, .int .i64 lf, .slice ad m m]) ∧ (0 < m → ad = some ⟨g, 10, none⟩) ∧ Below w.heap.size w w' := by
  have h8 := getD_bd hb.2 8
  have h9 := getD_bd hb.2 9
  have hlb := lfO_bd hb
  have e8 : b[8]? = some (b.getD 8 0) := by rw [List.getD_eq_getElem?_getD, List.getElem?_eq_getElem (by rw [hb.1]; decide)]; rfl
  have e9 : b[9]? = some (b.getD 9 0) := by rw [List.getD_eq_getElem?_getD, List.getElem?_eq_getElem (by rw [hb.1]; decide)]; rfl
  have HFL : Hid (lf = (b.getD 8 0 * 256 + b.getD 9 0) % 32768) := hide (by rw [← hlf]; unfold lfO; omega)
  rw [hlf] at hlb
  have HS1 : Hid (b.take 8 = b.drop 56 → (pcs b).st = stp (b.take 8)) := hide (fun e => by simp only [pcs]; rw [if_pos e])
  have HS2 : Hid (¬ b.take 8 = b.drop 56 → (pcs b).st = 0) := hide (fun e => by simp only [pcs]; rw [if_neg e])
  have HR := hide hr
  have HB := hide hb
  have HM := hide hm
  have hm46 : m ≤ 46 := by omega
  have hml : (m : Int) ≤ lf := by omega
  have HBG : Hid ((128 ≤ b.getD 8 0) ↔ bg = true) := hide (by rw [← hbg]; simp)
  have c8 : w.cell? ⟨g, 8, none⟩ = some (.int .u8 (b.getD 8 0)) := by have := hr.rg 8 (.int .u8 (b.getD 8 0)) (by rw [bv_eq, List.getElem?_map, e8]; rfl); simpa using this
  have c9 : w.cell? ⟨g, 9, none⟩ = some (.int .u8 (b.getD 9 0)) := by have := hr.rg 9 (.int .u8 (b.getD 9 0)) (by rw [bv_eq, List.getElem?_map, e9]; rfl); simpa using this
  clear e8 e9 hbg hlf hr hb hm
  generalize b.getD 8 0 = x8 at h8 h9 HFL HBG c8
  generalize b.getD 9 0 = x9 at h9 HFL c9
  obtain ⟨h80, h81⟩ := h8
  obtain ⟨h90, h91⟩ := h9
  obtain ⟨hl0, hl1⟩ := hlb
  have hor := or16 h80 h81 h90 h91
  have hnot : bits .andNot .i64 (x8 * 256 + x9) 32768 = lf := by rw [not15 (by omega) (by omega)]; exact HFL.out.symm
  have hand : bits .and .i64 (x8 * 256 + x9) 32768 = if bg then 32768 else 0 := by
    rw [and15 (by omega) (by omega)]
    cases bg
    · have : ¬ 128 ≤ x8 := fun h => by have := HBG.out.1 h; cases this
      rw [if_neg (by omega)]; rfl
    · have := HBG.out.2 rfl
      rw [if_pos (by omega)]; rfl
  have HA0 := hide ((Below.refl w.heap.size w).alloc (Nat.le_refl _) (.cells #[.int .i64 0, .bool false, .int .i64 0, .slice none 0 0] 103))
  have HB0 := hide (b4_new w (.int .i64 0) (.bool false) (.int .i64 0) (.slice none 0 0) 103)
  have d8 : (w.alloc (.cells #[.int .i64 0, .bool false, .int .i64 0, .slice none 0 0] 103)).cell? ⟨g, 8, none⟩ = some (.int .u8 x8) := (World.cell?_of_block (HA0.out.block g (cell_block c8))).trans c8
  have d9 : (w.alloc (.cells #[.int .i64 0, .bool false, .int .i64 0, .slice none 0 0] 103)).cell? ⟨g, 9, none⟩ = some (.int .u8 x9) := (World.cell?_of_block (HA0.out.block g (cell_block c8))).trans c9
  clear c8 c9 HFL HBG
  go_enter Try.func66, Try.ntmps66
  go_upto_region 1 with fail
  generalize w.alloc (.cells #[.int .i64 0, .bool false, .int .i64 0, .slice none 0 0] 103) = W0 at HA0 HB0 d8 d9 ⊢
  cases bg
  · simp only [Bool.false_eq_true, if_false] at hand
    go_wp2_with fail
    go_quiet (fail)
    have hdr : Below W0.heap.size W0 (W0.drewN nq) := below_drewN (Below.refl _ _) _
    have HA1 := hide (HA0.out.trans (hdr.mono HA0.out.size))
    have HB1 := hide (HB0.out.below hdr)
    clear d8 d9 hdr HA0 HB0
    generalize W0.drewN nq = W1 at HA1 HB1 ⊢
    go_upto_region 3 with fail
    have HB2 := hide (b4_new W1 (.int .i64 0) (.bool false) (.int .i64 lf) (.slice none 0 0) 103)
    have HA2 := hide (HA1.out.alloc (by have := HA1.out.size; omega) (.cells #[.int .i64 0, .bool false, .int .i64 lf, .slice none 0 0] 103))
    have HR2 := hide (HB1.out.below ((Below.refl W1.heap.size W1).alloc (Nat.le_refl _) (.cells #[.int .i64 0, .bool false, .int .i64 lf, .slice none 0 0] 103)))
    have HRP : Hid (w.heap.size < W1.heap.size) := hide HB1.out.lt
    generalize W1.alloc (.cells #[.int .i64 0, .bool false, .int .i64 lf, .slice none 0 0] 103) = W2 at HB2 HA2 HR2 ⊢
    generalize W1.heap.size = p at HB2 HRP ⊢
    clear HA1 HB1 hor hnot hand
    have H6 : Hid (b.length = 64) := hide HB.out.1
    have H8 : Hid ((b.take 8).length = 8) := hide (by rw [List.length_take, H6.out]; decide)
    have H56 : Hid ((b.drop 56).length = 8) := hide (by rw [List.length_drop, H6.out])
    have HY : Hid (Byt (b.take 8)) := hide (fun x hx => HB.out.2 x (List.mem_of_mem_take hx))
    go_upto_region 4 with (first | (go_at_call 57; refine (ahead_any _ b _ ((HR.out.below HA2.out).all H6.out.symm) H6.out).mono ?_; rintro e W3 ⟨rfl, hb3⟩; have HA3 := hide (HA2.out.trans (hb3.mono HA2.out.size)); have HB3 := hide (HB2.out.below hb3); have HR3 := hide (HR2.out.below hb3); clear hb3) | (refine wpList_allocE _ rfl rfl ?_) | (refine wpList_storeE _ rfl _ _ rfl W3.heap.size _ _ _ rfl rfl (Rq.new _ _ _) rfl H8.out ?_))
    have hal : Below W3.heap.size W3 (W3.alloc (.cells (bv zr8).toArray 109)) := (Below.refl _ _).alloc (Nat.le_refl _) _
    have HE4 := hide ((Rq.new W3 109 zr8).set (b.take 8))
    have hal2 := setRow_below hal (Nat.le_refl _) (bv (b.take 8)).toArray
    have HA4 := hide (HA3.out.trans (hal2.mono HA3.out.size))
    have HB4 := hide (HB3.out.below hal2)
    have HR4 := hide (HR3.out.below hal2)
    clear hal hal2 HA3 HB3 HR3 HA2 HB2 HR2
    generalize (W3.alloc (.cells (bv zr8).toArray 109)).setRow W3.heap.size (bv (b.take 8)).toArray = W4 at HE4 HA4 HB4 HR4 ⊢
    generalize W3.heap.size = ge at HE4 ⊢
    refine wp_region_held_drew (S := fun W => Rq W ge 109 (b.take 8)) (by kernel_rfl) (HE4.out.below (Below.refl _ _).drew) (fun hHeld => ?_)
    have hdr : Below W4.heap.size W4 W4.drew := (Below.refl _ _).drew
    have HA5 := hide (HA4.out.trans (hdr.mono HA4.out.size))
    have HB5 := hide (HB4.out.below hdr)
    have HR5 := hide (HR4.out.below hdr)
    clear HA4 HB4 HR4 HE4 hdr
    generalize W4.drew = W5 at HA5 HB5 HR5 hHeld ⊢
    refine wpAnyH_take (i := 0) (oi := _) (v := _) rfl (by kernel_rfl) (by kernel_rfl) (by kernel_rfl) (fun _ _ _ h => h) (yieldsIf_load_mid (by rfl) _ _ rfl _ _ rfl (bv (b.take 8)) _ (fun W hW => hW.rg) Try.underlying109 rfl (by rw [infoE, bv_len, H8.out])) hHeld ?_
    change wpAnyH _ _ _ _ _ _ _ (Act.put _ (some 25) _) _
    simp only [Act.put, List.setIfInBounds_toArray, List.set_cons_zero, List.set_cons_succ]
    refine wpAnyH_take (i := 1) (oi := _) (v := .slice (some ⟨g, 0, none⟩) 64 64) rfl (by kernel_rfl) (by kernel_rfl) (by kernel_rfl) (fun _ _ _ h => h) (Or.inl ⟨by rfl, by intro w hSw; go_simp⟩) hHeld ?_
    change wpAnyH _ _ _ _ _ _ _ (Act.put _ (some 26) _) _
    simp only [Act.put, List.setIfInBounds_toArray, List.set_cons_zero, List.set_cons_succ]
    refine wpAnyH_ready (rs := [2]) (by kernel_rfl) (by simp) ?_
    refine AllReadyH.cons (o := _) rfl (fun K hK => ?_) AllReadyH.nil
    go_simp
    go_at_call 59
    refine (behind_any _ b _ ((HR.out.below HA5.out).all H6.out.symm) H6.out).mono ?_
    rintro e W6 ⟨rfl, hb6⟩
    go_wp2_with fail
    refine hK.out _ _ (hHeld.below hb6) (fun hHeld1 => ?_)
    clear hK K hHeld
    have hHeld := hHeld1
    clear hHeld1
    have HA6 := hide (HA5.out.trans (hb6.mono HA5.out.size))
    have HB6 := hide (HB5.out.below hb6)
    have HR6 := hide (HR5.out.below hb6)
    clear hb6 HA5 HB5 HR5
    refine wpAnyH_take (i := 3) (oi := _) (v := .bool (decide (b.take 8 = b.drop 56))) rfl (by kernel_rfl) (by kernel_rfl) (by kernel_rfl) (fun _ _ _ h => h) (yields_eqE (by rfl) _ _ rfl _ _ rfl rfl H8.out H56.out) hHeld ?_
    change wpAnyH _ _ _ _ _ _ _ (Act.put _ (some 28) _) _
    simp only [Act.put, List.setIfInBounds_toArray, List.set_cons_zero, List.set_cons_succ]
    refine wpAnyH_done (by kernel_rfl) ?_ _
    have HE6 := hide hHeld
    clear hHeld
    by_cases heq : b.take 8 = b.drop 56
    · have hdc : decide (b.take 8 = b.drop 56) = true := decide_eq_true heq
      have HST := hide (HS1.out heq)
      rw [hdc]
      clear hdc heq
      go_upto_region 6 with (first | (go_at_call 58; refine (stamp_any _ _ H8.out HY.out).mono ?_; rintro e W7 ⟨rfl, hb7⟩; have HA7 := hide (HA6.out.trans (hb7.mono HA6.out.size)); have HB7 := hide (HB6.out.below hb7); have HR7 := hide (HR6.out.below hb7); have k0 := HB7.out.c0; have kf := HB7.out.fz 0; clear hb7) | (refine wpList_loadE _ rfl _ rfl ge _ _ rfl HE6.out H8.out ?_))
      have HB8 := hide (HB7.out.set0 (.int .i64 (stp (b.take 8))))
      have HR8 := hide (HR7.out.setO (k := p) (i := 0) (by have := HRP.out; omega) (.int .i64 (stp (b.take 8))))
      have HA8 := hide (HA7.out.setCell (p := ⟨p, 0, none⟩) (by have := HRP.out; simp; omega) (.int .i64 (stp (b.take 8))))
      clear k0 kf
      generalize W7.setCell ⟨p, 0, none⟩ (.int .i64 (stp (b.take 8))) = W8 at HA8 HB8 HR8 ⊢
      have hmn : min lf 46 = (m : Int) := HM.out
      obtain ⟨p0, p1, p2, p3, pf⟩ := HB8.out
      have f3 := pf 3
      clear pf
      by_cases hm0 : m = 0
      · subst hm0
        go_upto_region 8 with fail
        have HB9 := hide (HB8.out.set3 (.slice (some ⟨g, 0, none⟩) 0 0))
        have HR9 := hide (HR8.out.setO (k := p) (i := 3) (by have := HRP.out; omega) (.slice (some ⟨g, 0, none⟩) 0 0))
        have HA9 := hide (HA8.out.setCell (p := ⟨p, 3, none⟩) (by have := HRP.out; simp; omega) (.slice (some ⟨g, 0, none⟩) 0 0))
        clear p0 p1 p2 p3 f3
        generalize W8.setCell ⟨p, 3, none⟩ (.slice (some ⟨g, 0, none⟩) 0 0) = W9 at HB9 HR9 HA9 ⊢
        obtain ⟨p0, p1, p2, p3, _⟩ := HB9.out
        obtain ⟨r0, r1, r2, r3, rf⟩ := HR9.out
        have f0 := rf 0
        have f1 := rf 1
        have f2 := rf 2
        have f3 := rf 3
        clear rf
        go_wp2
        exact bodyPost_ret (v := .agg #[_, _, _, _]) (res_cel Try.results66 _ _ w.heap.size [_, _, _, _] _ rfl (HR9.out.all (.int .i64 (stp (b.take 8))) (.bool false) (.int .i64 lf) (.slice (some ⟨g, 0, none⟩) 0 0)).rg Try.underlying103 rfl infoPc) rfl ⟨(some ⟨g, 0, none⟩), by rw [HST.out], (fun h => by omega), set4_below HA9.out (Nat.le_refl _) _ _ _ _⟩
      · have hne : ¬ 10 + m = 10 := by omega
        have hsb : 10 + m - 10 = m := by omega
        go_upto_region 8 with fail
        have HB9 := hide (HB8.out.set3 (.slice (some ⟨g, 10, none⟩) m m))
        have HR9 := hide (HR8.out.setO (k := p) (i := 3) (by have := HRP.out; omega) (.slice (some ⟨g, 10, none⟩) m m))
        have HA9 := hide (HA8.out.setCell (p := ⟨p, 3, none⟩) (by have := HRP.out; simp; omega) (.slice (some ⟨g, 10, none⟩) m m))
        clear p0 p1 p2 p3 f3
        generalize W8.setCell ⟨p, 3, none⟩ (.slice (some ⟨g, 10, none⟩) m m) = W9 at HB9 HR9 HA9 ⊢
        obtain ⟨p0, p1, p2, p3, _⟩ := HB9.out
        obtain ⟨r0, r1, r2, r3, rf⟩ := HR9.out
        have f0 := rf 0
        have f1 := rf 1
        have f2 := rf 2
        have f3 := rf 3
        clear rf
        go_wp2
        exact bodyPost_ret (v := .agg #[_, _, _, _]) (res_cel Try.results66 _ _ w.heap.size [_, _, _, _] _ rfl (HR9.out.all (.int .i64 (stp (b.take 8))) (.bool false) (.int .i64 lf) (.slice (some ⟨g, 10, none⟩) m m)).rg Try.underlying103 rfl infoPc) rfl ⟨(some ⟨g, 10, none⟩), by rw [HST.out], (fun h => by rfl), set4_below HA9.out (Nat.le_refl _) _ _ _ _⟩
    · have hdc : decide (b.take 8 = b.drop 56) = false := decide_eq_false heq
      have HST := hide (HS2.out heq)
      rw [hdc]
      clear hdc heq
      go_upto_region 6 with fail
      have HA8 := HA6
      have HB8 := HB6
      have HR8 := HR6
      clear HA6 HB6 HR6
      generalize W6 = W8 at HA8 HB8 HR8 ⊢
      have hmn : min lf 46 = (m : Int) := HM.out
      obtain ⟨p0, p1, p2, p3, pf⟩ := HB8.out
      have f3 := pf 3
      clear pf
      by_cases hm0 : m = 0
      · subst hm0
        go_upto_region 8 with fail
        have HB9 := hide (HB8.out.set3 (.slice (some ⟨g, 0, none⟩) 0 0))
        have HR9 := hide (HR8.out.setO (k := p) (i := 3) (by have := HRP.out; omega) (.slice (some ⟨g, 0, none⟩) 0 0))
        have HA9 := hide (HA8.out.setCell (p := ⟨p, 3, none⟩) (by have := HRP.out; simp; omega) (.slice (some ⟨g, 0, none⟩) 0 0))
        clear p0 p1 p2 p3 f3
        generalize W8.setCell ⟨p, 3, none⟩ (.slice (some ⟨g, 0, none⟩) 0 0) = W9 at HB9 HR9 HA9 ⊢
        obtain ⟨p0, p1, p2, p3, _⟩ := HB9.out
        obtain ⟨r0, r1, r2, r3, rf⟩ := HR9.out
        have f0 := rf 0
        have f1 := rf 1
        have f2 := rf 2
        have f3 := rf 3
        clear rf
        go_wp2
        exact bodyPost_ret (v := .agg #[_, _, _, _]) (res_cel Try.results66 _ _ w.heap.size [_, _, _, _] _ rfl (HR9.out.all (.int .i64 0) (.bool false) (.int .i64 lf) (.slice (some ⟨g, 0, none⟩) 0 0)).rg Try.underlying103 rfl infoPc) rfl ⟨(some ⟨g, 0, none⟩), by rw [HST.out], (fun h => by omega), set4_below HA9.out (Nat.le_refl _) _ _ _ _⟩
      · have hne : ¬ 10 + m = 10 := by omega
        have hsb : 10 + m - 10 = m := by omega
        go_upto_region 8 with fail
        have HB9 := hide (HB8.out.set3 (.slice (some ⟨g, 10, none⟩) m m))
        have HR9 := hide (HR8.out.setO (k := p) (i := 3) (by have := HRP.out; omega) (.slice (some ⟨g, 10, none⟩) m m))
        have HA9 := hide (HA8.out.setCell (p := ⟨p, 3, none⟩) (by have := HRP.out; simp; omega) (.slice (some ⟨g, 10, none⟩) m m))
        clear p0 p1 p2 p3 f3
        generalize W8.setCell ⟨p, 3, none⟩ (.slice (some ⟨g, 10, none⟩) m m) = W9 at HB9 HR9 HA9 ⊢
        obtain ⟨p0, p1, p2, p3, _⟩ := HB9.out
        obtain ⟨r0, r1, r2, r3, rf⟩ := HR9.out
        have f0 := rf 0
        have f1 := rf 1
        have f2 := rf 2
        have f3 := rf 3
        clear rf
        go_wp2
        exact bodyPost_ret (v := .agg #[_, _, _, _]) (res_cel Try.results66 _ _ w.heap.size [_, _, _, _] _ rfl (HR9.out.all (.int .i64 0) (.bool false) (.int .i64 lf) (.slice (some ⟨g, 10, none⟩) m m)).rg Try.underlying103 rfl infoPc) rfl ⟨(some ⟨g, 10, none⟩), by rw [HST.out], (fun h => by rfl), set4_below HA9.out (Nat.le_refl _) _ _ _ _⟩
  · simp only [if_true] at hand
    go_wp2_with fail
    go_quiet (fail)
    have hdr : Below W0.heap.size W0 (W0.drewN nq) := below_drewN (Below.refl _ _) _
    have HA1 := hide (HA0.out.trans (hdr.mono HA0.out.size))
    have HB1 := hide (HB0.out.below hdr)
    clear d8 d9 hdr HA0 HB0
    generalize W0.drewN nq = W1 at HA1 HB1 ⊢
    go_upto_region 3 with fail
    have HB2 := hide (b4_new W1 (.int .i64 0) (.bool true) (.int .i64 lf) (.slice none 0 0) 103)
    have HA2 := hide (HA1.out.alloc (by have := HA1.out.size; omega) (.cells #[.int .i64 0, .bool true, .int .i64 lf, .slice none 0 0] 103))
    have HR2 := hide (HB1.out.below ((Below.refl W1.heap.size W1).alloc (Nat.le_refl _) (.cells #[.int .i64 0, .bool true, .int .i64 lf, .slice none 0 0] 103)))
    have HRP : Hid (w.heap.size < W1.heap.size) := hide HB1.out.lt
    generalize W1.alloc (.cells #[.int .i64 0, .bool true, .int .i64 lf, .slice none 0 0] 103) = W2 at HB2 HA2 HR2 ⊢
    generalize W1.heap.size = p at HB2 HRP ⊢
    clear HA1 HB1 hor hnot hand
    have H6 : Hid (b.length = 64) := hide HB.out.1
    have H8 : Hid ((b.take 8).length = 8) := hide (by rw [List.length_take, H6.out]; decide)
    have H56 : Hid ((b.drop 56).length = 8) := hide (by rw [List.length_drop, H6.out])
    have HY : Hid (Byt (b.take 8)) := hide (fun x hx => HB.out.2 x (List.mem_of_mem_take hx))
    go_upto_region 4 with (first | (go_at_call 57; refine (ahead_any _ b _ ((HR.out.below HA2.out).all H6.out.symm) H6.out).mono ?_; rintro e W3 ⟨rfl, hb3⟩; have HA3 := hide (HA2.out.trans (hb3.mono HA2.out.size)); have HB3 := hide (HB2.out.below hb3); have HR3 := hide (HR2.out.below hb3); clear hb3) | (refine wpList_allocE _ rfl rfl ?_) | (refine wpList_storeE _ rfl _ _ rfl W3.heap.size _ _ _ rfl rfl (Rq.new _ _ _) rfl H8.out ?_))
    have hal : Below W3.heap.size W3 (W3.alloc (.cells (bv zr8).toArray 109)) := (Below.refl _ _).alloc (Nat.le_refl _) _
    have HE4 := hide ((Rq.new W3 109 zr8).set (b.take 8))
    have hal2 := setRow_below hal (Nat.le_refl _) (bv (b.take 8)).toArray
    have HA4 := hide (HA3.out.trans (hal2.mono HA3.out.size))
    have HB4 := hide (HB3.out.below hal2)
    have HR4 := hide (HR3.out.below hal2)
    clear hal hal2 HA3 HB3 HR3 HA2 HB2 HR2
    generalize (W3.alloc (.cells (bv zr8).toArray 109)).setRow W3.heap.size (bv (b.take 8)).toArray = W4 at HE4 HA4 HB4 HR4 ⊢
    generalize W3.heap.size = ge at HE4 ⊢
    refine wp_region_held_drew (S := fun W => Rq W ge 109 (b.take 8)) (by kernel_rfl) (HE4.out.below (Below.refl _ _).drew) (fun hHeld => ?_)
    have hdr : Below W4.heap.size W4 W4.drew := (Below.refl _ _).drew
    have HA5 := hide (HA4.out.trans (hdr.mono HA4.out.size))
    have HB5 := hide (HB4.out.below hdr)
    have HR5 := hide (HR4.out.below hdr)
    clear HA4 HB4 HR4 HE4 hdr
    generalize W4.drew = W5 at HA5 HB5 HR5 hHeld ⊢
    refine wpAnyH_take (i := 0) (oi := _) (v := _) rfl (by kernel_rfl) (by kernel_rfl) (by kernel_rfl) (fun _ _ _ h => h) (yieldsIf_load_mid (by rfl) _ _ rfl _ _ rfl (bv (b.take 8)) _ (fun W hW => hW.rg) Try.underlying109 rfl (by rw [infoE, bv_len, H8.out])) hHeld ?_
    change wpAnyH _ _ _ _ _ _ _ (Act.put _ (some 25) _) _
    simp only [Act.put, List.setIfInBounds_toArray, List.set_cons_zero, List.set_cons_succ]
    refine wpAnyH_take (i := 1) (oi := _) (v := .slice (some ⟨g, 0, none⟩) 64 64) rfl (by kernel_rfl) (by kernel_rfl) (by kernel_rfl) (fun _ _ _ h => h) (Or.inl ⟨by rfl, by intro w hSw; go_simp⟩) hHeld ?_
    change wpAnyH _ _ _ _ _ _ _ (Act.put _ (some 26) _) _
    simp only [Act.put, List.setIfInBounds_toArray, List.set_cons_zero, List.set_cons_succ]
    refine wpAnyH_ready (rs := [2]) (by kernel_rfl) (by simp) ?_
    refine AllReadyH.cons (o := _) rfl (fun K hK => ?_) AllReadyH.nil
    go_simp
    go_at_call 59
    refine (behind_any _ b _ ((HR.out.below HA5.out).all H6.out.symm) H6.out).mono ?_
    rintro e W6 ⟨rfl, hb6⟩
    go_wp2_with fail
    refine hK.out _ _ (hHeld.below hb6) (fun hHeld1 => ?_)
    clear hK K hHeld
    have hHeld := hHeld1
    clear hHeld1
    have HA6 := hide (HA5.out.trans (hb6.mono HA5.out.size))
    have HB6 := hide (HB5.out.below hb6)
    have HR6 := hide (HR5.out.below hb6)
    clear hb6 HA5 HB5 HR5
    refine wpAnyH_take (i := 3) (oi := _) (v := .bool (decide (b.take 8 = b.drop 56))) rfl (by kernel_rfl) (by kernel_rfl) (by kernel_rfl) (fun _ _ _ h => h) (yields_eqE (by rfl) _ _ rfl _ _ rfl rfl H8.out H56.out) hHeld ?_
    change wpAnyH _ _ _ _ _ _ _ (Act.put _ (some 28) _) _
    simp only [Act.put, List.setIfInBounds_toArray, List.set_cons_zero, List.set_cons_succ]
    refine wpAnyH_done (by kernel_rfl) ?_ _
    have HE6 := hide hHeld
    clear hHeld
    by_cases heq : b.take 8 = b.drop 56
    · have hdc : decide (b.take 8 = b.drop 56) = true := decide_eq_true heq
      have HST := hide (HS1.out heq)
      rw [hdc]
      clear hdc heq
      go_upto_region 6 with (first | (go_at_call 58; refine (stamp_any _ _ H8.out HY.out).mono ?_; rintro e W7 ⟨rfl, hb7⟩; have HA7 := hide (HA6.out.trans (hb7.mono HA6.out.size)); have HB7 := hide (HB6.out.below hb7); have HR7 := hide (HR6.out.below hb7); have k0 := HB7.out.c0; have kf := HB7.out.fz 0; clear hb7) | (refine wpList_loadE _ rfl _ rfl ge _ _ rfl HE6.out H8.out ?_))
      have HB8 := hide (HB7.out.set0 (.int .i64 (stp (b.take 8))))
      have HR8 := hide (HR7.out.setO (k := p) (i := 0) (by have := HRP.out; omega) (.int .i64 (stp (b.take 8))))
      have HA8 := hide (HA7.out.setCell (p := ⟨p, 0, none⟩) (by have := HRP.out; simp; omega) (.int .i64 (stp (b.take 8))))
      clear k0 kf
      generalize W7.setCell ⟨p, 0, none⟩ (.int .i64 (stp (b.take 8))) = W8 at HA8 HB8 HR8 ⊢
      have hmn : min lf 46 = (m : Int) := HM.out
      obtain ⟨p0, p1, p2, p3, pf⟩ := HB8.out
      have f3 := pf 3
      clear pf
      by_cases hm0 : m = 0
      · subst hm0
        go_upto_region 8 with fail
        have HB9 := hide (HB8.out.set3 (.slice (some ⟨g, 0, none⟩) 0 0))
        have HR9 := hide (HR8.out.setO (k := p) (i := 3) (by have := HRP.out; omega) (.slice (some ⟨g, 0, none⟩) 0 0))
        have HA9 := hide (HA8.out.setCell (p := ⟨p, 3, none⟩) (by have := HRP.out; simp; omega) (.slice (some ⟨g, 0, none⟩) 0 0))
        clear p0 p1 p2 p3 f3
        generalize W8.setCell ⟨p, 3, none⟩ (.slice (some ⟨g, 0, none⟩) 0 0) = W9 at HB9 HR9 HA9 ⊢
        obtain ⟨p0, p1, p2, p3, _⟩ := HB9.out
        obtain ⟨r0, r1, r2, r3, rf⟩ := HR9.out
        have f0 := rf 0
        have f1 := rf 1
        have f2 := rf 2
        have f3 := rf 3
        clear rf
        go_wp2
        exact bodyPost_ret (v := .agg #[_, _, _, _]) (res_cel Try.results66 _ _ w.heap.size [_, _, _, _] _ rfl (HR9.out.all (.int .i64 (stp (b.take 8))) (.bool true) (.int .i64 lf) (.slice (some ⟨g, 0, none⟩) 0 0)).rg Try.underlying103 rfl infoPc) rfl ⟨(some ⟨g, 0, none⟩), by rw [HST.out], (fun h => by omega), set4_below HA9.out (Nat.le_refl _) _ _ _ _⟩
      · have hne : ¬ 10 + m = 10 := by omega
        have hsb : 10 + m - 10 = m := by omega
        go_upto_region 8 with fail
        have HB9 := hide (HB8.out.set3 (.slice (some ⟨g, 10, none⟩) m m))
        have HR9 := hide (HR8.out.setO (k := p) (i := 3) (by have := HRP.out; omega) (.slice (some ⟨g, 10, none⟩) m m))
        have HA9 := hide (HA8.out.setCell (p := ⟨p, 3, none⟩) (by have := HRP.out; simp; omega) (.slice (some ⟨g, 10, none⟩) m m))
        clear p0 p1 p2 p3 f3
        generalize W8.setCell ⟨p, 3, none⟩ (.slice (some ⟨g, 10, none⟩) m m) = W9 at HB9 HR9 HA9 ⊢
        obtain ⟨p0, p1, p2, p3, _⟩ := HB9.out
        obtain ⟨r0, r1, r2, r3, rf⟩ := HR9.out
        have f0 := rf 0
        have f1 := rf 1
        have f2 := rf 2
        have f3 := rf 3
        clear rf
        go_wp2
        exact bodyPost_ret (v := .agg #[_, _, _, _]) (res_cel Try.results66 _ _ w.heap.size [_, _, _, _] _ rfl (HR9.out.all (.int .i64 (stp (b.take 8))) (.bool true) (.int .i64 lf) (.slice (some ⟨g, 10, none⟩) m m)).rg Try.underlying103 rfl infoPc) rfl ⟨(some ⟨g, 10, none⟩), by rw [HST.out], (fun h => by rfl), set4_below HA9.out (Nat.le_refl _) _ _ _ _⟩
    · have hdc : decide (b.take 8 = b.drop 56) = false := decide_eq_false heq
      have HST := hide (HS2.out heq)
      rw [hdc]
      clear hdc heq
      go_upto_region 6 with fail
      have HA8 := HA6
      have HB8 := HB6
      have HR8 := HR6
      clear HA6 HB6 HR6
      generalize W6 = W8 at HA8 HB8 HR8 ⊢
      have hmn : min lf 46 = (m : Int) := HM.out
      obtain ⟨p0, p1, p2, p3, pf⟩ := HB8.out
      have f3 := pf 3
      clear pf
      by_cases hm0 : m = 0
      · subst hm0
        go_upto_region 8 with fail
        have HB9 := hide (HB8.out.set3 (.slice (some ⟨g, 0, none⟩) 0 0))
        have HR9 := hide (HR8.out.setO (k := p) (i := 3) (by have := HRP.out; omega) (.slice (some ⟨g, 0, none⟩) 0 0))
        have HA9 := hide (HA8.out.setCell (p := ⟨p, 3, none⟩) (by have := HRP.out; simp; omega) (.slice (some ⟨g, 0, none⟩) 0 0))
        clear p0 p1 p2 p3 f3
        generalize W8.setCell ⟨p, 3, none⟩ (.slice (some ⟨g, 0, none⟩) 0 0) = W9 at HB9 HR9 HA9 ⊢
        obtain ⟨p0, p1, p2, p3, _⟩ := HB9.out
        obtain ⟨r0, r1, r2, r3, rf⟩ := HR9.out
        have f0 := rf 0
        have f1 := rf 1
        have f2 := rf 2
        have f3 := rf 3
        clear rf
        go_wp2
        exact bodyPost_ret (v := .agg #[_, _, _, _]) (res_cel Try.results66 _ _ w.heap.size [_, _, _, _] _ rfl (HR9.out.all (.int .i64 0) (.bool true) (.int .i64 lf) (.slice (some ⟨g, 0, none⟩) 0 0)).rg Try.underlying103 rfl infoPc) rfl ⟨(some ⟨g, 0, none⟩), by rw [HST.out], (fun h => by omega), set4_below HA9.out (Nat.le_refl _) _ _ _ _⟩
      · have hne : ¬ 10 + m = 10 := by omega
        have hsb : 10 + m - 10 = m := by omega
        go_upto_region 8 with fail
        have HB9 := hide (HB8.out.set3 (.slice (some ⟨g, 10, none⟩) m m))
        have HR9 := hide (HR8.out.setO (k := p) (i := 3) (by have := HRP.out; omega) (.slice (some ⟨g, 10, none⟩) m m))
        have HA9 := hide (HA8.out.setCell (p := ⟨p, 3, none⟩) (by have := HRP.out; simp; omega) (.slice (some ⟨g, 10, none⟩) m m))
        clear p0 p1 p2 p3 f3
        generalize W8.setCell ⟨p, 3, none⟩ (.slice (some ⟨g, 10, none⟩) m m) = W9 at HB9 HR9 HA9 ⊢
        obtain ⟨p0, p1, p2, p3, _⟩ := HB9.out
        obtain ⟨r0, r1, r2, r3, rf⟩ := HR9.out
        have f0 := rf 0
        have f1 := rf 1
        have f2 := rf 2
        have f3 := rf 3
        clear rf
        go_wp2
        exact bodyPost_ret (v := .agg #[_, _, _, _]) (res_cel Try.results66 _ _ w.heap.size [_, _, _, _] _ rfl (HR9.out.all (.int .i64 0) (.bool true) (.int .i64 lf) (.slice (some ⟨g, 10, none⟩) m m)).rg Try.underlying103 rfl infoPc) rfl ⟨(some ⟨g, 10, none⟩), by rw [HST.out], (fun h => by rfl), set4_below HA9.out (Nat.le_refl _) _ _ _ _⟩
end Go.Proofs.Ytmgfcgknajehaaa
