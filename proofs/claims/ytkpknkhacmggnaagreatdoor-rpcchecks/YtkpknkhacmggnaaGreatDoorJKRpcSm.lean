/-
  WHETHER ANY TWO MESSAGES ARE THE SAME (rpc.sameNumbers, rpc.Same): what the mathematics says. Conditions: their slices' cells hold what they hold, the records' rows are not too long, bytes are bytes.
-/
import Derived.Test.YtkpknkhacmggnaaGreatDoorJKRpcSea2
namespace Go.Proofs.YtkpknkhacmggnaaGreatDoor
open Go.RowKit

set_option maxRecDepth 100000 in
set_option maxHeartbeats 16000000 in
theorem msn_any (k fr tn t ld pa pt hi co sz po k' fr' tn' t' ld' pa' pt' hi' co' sz' po' : Int) (pre ok pre' ok' : Bool) (ab ad ab' ad' : Option Addr) (nb cb nd cd nb' cb' nd' cd' : Nat) (w : World) :
    Calls Tryz.prog 37 #[.agg #[.int .i64 k, .int .i64 fr, .int .i64 tn, .int .i64 t, .bool pre, .bool ok, .int .i64 ld, .int .i64 pa, .int .i64 pt, .int .i64 hi, .int .i64 co, .slice ab nb cb, .int .i64 sz, .int .i64 po, .slice ad nd cd], .agg #[.int .i64 k', .int .i64 fr', .int .i64 tn', .int .i64 t', .bool pre', .bool ok', .int .i64 ld', .int .i64 pa', .int .i64 pt', .int .i64 hi', .int .i64 co', .slice ab' nb' cb', .int .i64 sz', .int .i64 po', .slice ad' nd' cd']] w fun e w' => e = .returned (.bool ((fr == fr') && ((tn == tn') && ((t == t') && ((ld == ld') && ((pa == pa') && ((pt == pt') && ((hi == hi') && ((co == co') && ((sz == sz') && (po == po'))))))))))) ∧ Below w.heap.size w w' := by
  cases e0 : (fr == fr')
  rotate_left
  cases e1 : (tn == tn')
  rotate_left
  cases e2 : (t == t')
  rotate_left
  cases e3 : (ld == ld')
  rotate_left
  cases e4 : (pa == pa')
  rotate_left
  cases e5 : (pt == pt')
  rotate_left
  cases e6 : (hi == hi')
  rotate_left
  cases e7 : (co == co')
  rotate_left
  cases e8 : (sz == sz')
  rotate_left
  cases e9 : (po == po')
  rotate_left
  all_goals
    go_enter Tryz.func37, Tryz.ntmps37
    go_wp2_with fail
    go_ret
    exact ⟨by simp only [*]; rfl, ((Below.refl _ _).alloc (Nat.le_refl _) _).alloc (by simp) _⟩
set_option maxRecDepth 100000 in
set_option maxHeartbeats 16000000 in
theorem msame_go (k fr tn t ld pa pt hi co sz po k' fr' tn' t' ld' pa' pt' hi' co' sz' po' : Int) (pre ok pre' ok' : Bool) (ab ad ab' ad' : Option Addr) (nb cb nd cd nb' cb' nd' cd' : Nat) (w : World) (R1 R2 R3 : Bool)
    (HSN : Hid (∀ W, Calls Tryz.prog 37 #[.agg #[.int .i64 k, .int .i64 fr, .int .i64 tn, .int .i64 t, .bool pre, .bool ok, .int .i64 ld, .int .i64 pa, .int .i64 pt, .int .i64 hi, .int .i64 co, .slice ab nb cb, .int .i64 sz, .int .i64 po, .slice ad nd cd], .agg #[.int .i64 k', .int .i64 fr', .int .i64 tn', .int .i64 t', .bool pre', .bool ok', .int .i64 ld', .int .i64 pa', .int .i64 pt', .int .i64 hi', .int .i64 co', .slice ab' nb' cb', .int .i64 sz', .int .i64 po', .slice ad' nd' cd']] W fun e w' => e = .returned (.bool R1) ∧ Below W.heap.size W w'))
    (HBE : Hid (∀ W, Below w.heap.size w W → Calls Tryz.prog 38 #[.slice ad nd cd, .slice ad' nd' cd'] W fun e w' => e = .returned (.bool R2) ∧ w' = W))
    (HEQ : Hid (∀ W, Below w.heap.size w W → Calls Tryz.prog 39 #[.slice ab nb cb, .slice ab' nb' cb', .func (.func 40) #[] #[]] W fun e w' => e = .returned (.bool R3) ∧ Below W.heap.size W w')) :
    Calls Tryz.prog 13 #[.agg #[.int .i64 k, .int .i64 fr, .int .i64 tn, .int .i64 t, .bool pre, .bool ok, .int .i64 ld, .int .i64 pa, .int .i64 pt, .int .i64 hi, .int .i64 co, .slice ab nb cb, .int .i64 sz, .int .i64 po, .slice ad nd cd], .agg #[.int .i64 k', .int .i64 fr', .int .i64 tn', .int .i64 t', .bool pre', .bool ok', .int .i64 ld', .int .i64 pa', .int .i64 pt', .int .i64 hi', .int .i64 co', .slice ab' nb' cb', .int .i64 sz', .int .i64 po', .slice ad' nd' cd']] w fun e w' => e = .returned (.bool ((k == k') && ((pre == pre') && ((ok == ok') && (R1 && (R2 && R3)))))) ∧ Below w.heap.size w w' := by
  obtain ⟨X, hX⟩ : ∃ X, X = (w.alloc (.cells #[.int .i64 k, .int .i64 fr, .int .i64 tn, .int .i64 t, .bool pre, .bool ok, .int .i64 ld, .int .i64 pa, .int .i64 pt, .int .i64 hi, .int .i64 co, .slice ab nb cb, .int .i64 sz, .int .i64 po, .slice ad nd cd] 25)).alloc (.cells #[.int .i64 k', .int .i64 fr', .int .i64 tn', .int .i64 t', .bool pre', .bool ok', .int .i64 ld', .int .i64 pa', .int .i64 pt', .int .i64 hi', .int .i64 co', .slice ab' nb' cb', .int .i64 sz', .int .i64 po', .slice ad' nd' cd'] 25) := ⟨_, rfl⟩
  obtain ⟨hb0, hqa, hqb⟩ := two_in w [.int .i64 k, .int .i64 fr, .int .i64 tn, .int .i64 t, .bool pre, .bool ok, .int .i64 ld, .int .i64 pa, .int .i64 pt, .int .i64 hi, .int .i64 co, .slice ab nb cb, .int .i64 sz, .int .i64 po, .slice ad nd cd] [.int .i64 k', .int .i64 fr', .int .i64 tn', .int .i64 t', .bool pre', .bool ok', .int .i64 ld', .int .i64 pa', .int .i64 pt', .int .i64 hi', .int .i64 co', .slice ab' nb' cb', .int .i64 sz', .int .i64 po', .slice ad' nd' cd'] hX
  have HB := hide hb0
  have HQA := hide hqa
  have HQB := hide hqb
  clear hb0 hqa hqb
  go_enter Tryz.func13, Tryz.ntmps13
  go_upto_region 1 with fail
  rw [← hX]
  clear hX
  obtain ⟨i0, i1, i2, i3, i4, i5, i6, i7, i8, i9, i10, i11, i12, i13, i14⟩ := C15.of HQA.out
  obtain ⟨j0, j1, j2, j3, j4, j5, j6, j7, j8, j9, j10, j11, j12, j13, j14⟩ := C15.of HQB.out
  cases e0 : (k == k')
  · go_wp2_with fail
    go_ret
    exact ⟨by simp only [*]; rfl, HB.out⟩
  cases e1 : (pre == pre')
  · go_wp2_with fail
    go_ret
    exact ⟨by simp only [*]; rfl, HB.out⟩
  cases e2 : (ok == ok')
  · go_wp2_with fail
    go_ret
    exact ⟨by simp only [*]; rfl, HB.out⟩
  cases R1
  rotate_left
  cases R2
  rotate_left
  cases R3
  all_goals
    go_wp2_with (first | (refine wpList_load_want (by go_simp) _ _ rfl _ _ rfl _ _ HQA.out Tryz.underlying25 rfl (by kernel_rfl) ?_) | (refine wpList_load_want (by go_simp) _ _ rfl _ _ rfl _ _ HQB.out Tryz.underlying25 rfl (by kernel_rfl) ?_) | (go_at_call 37; refine (HSN.out _).mono ?_; rintro e V ⟨rfl, hb1⟩; have HB1 := hide (HB.out.trans (hb1.mono HB.out.size)); have HA1 := C15.of (range_bel HQA.out hb1); have HB2 := C15.of (range_bel HQB.out hb1); clear hb1 i0 i1 i2 i3 i4 i5 i6 i7 i8 i9 i10 i11 i12 i13 i14 j0 j1 j2 j3 j4 j5 j6 j7 j8 j9 j10 j11 j12 j13 j14; obtain ⟨i0, i1, i2, i3, i4, i5, i6, i7, i8, i9, i10, i11, i12, i13, i14⟩ := HA1; obtain ⟨j0, j1, j2, j3, j4, j5, j6, j7, j8, j9, j10, j11, j12, j13, j14⟩ := HB2) | (go_at_call 38; refine (HBE.out _ HB1.out).mono ?_; rintro e w1 ⟨rfl, hw1⟩; rw [hw1]; clear hw1 w1) | (go_at_call 39; refine (HEQ.out _ HB1.out).mono ?_; rintro e V3 ⟨rfl, hb3⟩; have HB3 := hide (HB1.out.trans (hb3.mono HB1.out.size)); clear hb3))
    go_ret
    first | (have HBZ := HB3) | (have HBZ := HB1) | (have HBZ := HB)
    exact ⟨by simp only [*]; rfl, HBZ.out⟩
theorem sameM_eq (a b : Ms) : sameM a b = ((a.k == b.k) && ((a.pre == b.pre) && ((a.ok == b.ok) && (((a.fr == b.fr) && ((a.tn == b.tn) && ((a.t == b.t) && ((a.ld == b.ld) && ((a.pa == b.pa) && ((a.pt == b.pt) && ((a.hi == b.hi) && ((a.co == b.co) && ((a.sz == b.sz) && (a.po == b.po)))))))))) && (decide (a.da = b.da) && sameBs a.bs b.bs))))) := by
  unfold sameM nums
  generalize decide (a.da = b.da) = D
  generalize sameBs a.bs b.bs = S
  rw [← Bool.coe_iff_coe]
  simp only [List.cons.injEq, Bool.and_eq_true, decide_eq_true_eq, beq_iff_eq, and_true]
  constructor
  · rintro ⟨⟨⟨h1, h2, h3, h4, h5, h6, h7, h8, h9, h10, h11⟩, h12, h13⟩, h14, h15⟩
    exact ⟨h1, h12, h13, ⟨h2, h3, h4, h5, h6, h7, h8, h9, h10, h11⟩, h14, h15⟩
  · rintro ⟨h1, h12, h13, ⟨h2, h3, h4, h5, h6, h7, h8, h9, h10, h11⟩, h14, h15⟩
    exact ⟨⟨⟨h1, h2, h3, h4, h5, h6, h7, h8, h9, h10, h11⟩, h12, h13⟩, h14, h15⟩
theorem msame_any (a b : Ms) (v u : Value) (w : World) (hv : IsM w v a) (hu : IsM w u b) (ha : Byt a.da) (hb : Byt b.da) (hn : a.bs.length ≤ 100000) (hln : LnM a) : Calls Tryz.prog 13 #[v, u] w fun e w' => e = .returned (.bool (sameM a b)) ∧ Below w.heap.size w w' := by
  obtain ⟨ab, cb, ad, cd, qs, rfl, hm⟩ := isM_form hv
  obtain ⟨ab', cb', ad', cd', qs', rfl, hm'⟩ := isM_form hu
  have heq := fun W (h : Below w.heap.size w W) => eqb_any ab ab' cb cb' qs qs' W (by rw [hm.len]; exact hm.bl.below h) (by rw [hm'.len]; exact hm'.bl.below h) (by rw [hm.len]; exact hn) (fun p hp => hln (btq p) (by rw [← hm.bs]; exact List.mem_map.2 ⟨p, hp, rfl⟩))
  rw [hm.len, hm'.len, hm.bs, hm'.bs] at heq
  rw [sameM_eq]
  exact msame_go a.k a.fr a.tn a.t a.ld a.pa a.pt a.hi a.co a.sz a.po b.k b.fr b.tn b.t b.ld b.pa b.pt b.hi b.co b.sz b.po a.pre a.ok b.pre b.ok ab ad ab' ad' _ cb _ cd _ cb' _ cd' w _ _ _ (hide (fun W => msn_any _ _ _ _ _ _ _ _ _ _ _ _ _ _ _ _ _ _ _ _ _ _ _ _ _ _ _ _ _ _ _ _ _ _ _ _ _ _ W)) (hide (fun W h => beq_any _ _ _ _ W (hm.da.below h) (hm'.da.below h) ha hb)) (hide heq)
end Go.Proofs.YtkpknkhacmggnaaGreatDoor
