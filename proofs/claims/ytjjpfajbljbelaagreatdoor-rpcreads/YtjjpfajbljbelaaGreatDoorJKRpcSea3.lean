/-
  WHETHER TWO MESSAGES ARE THE SAME (rpc.sameNumbers, rpc.Same): what the mathematics says. Conditions: their slices' cells hold what they hold, the records' rows are not too long, bytes are bytes.
  ARE RECORDS NO MORE THAN IS WAITED FOR (castellanref06.Short)? Conditions: the records' cells hold them.
  RECORDS THAT ARE EQUAL (record.Same, castellanref05.Same): they are the same. Conditions: their cells hold them, their rows are not too long.
-/
import Derived.Test.YtjjpfajbljbelaaGreatDoorJKBatAla2
namespace Go.Proofs.YtjjpfajbljbelaaGreatDoor
open Go.RowKit
set_option maxRecDepth 100000
set_option maxHeartbeats 16000000
theorem Bl.rg {w : World} {ao : Option Addr} {n cap : Nat} {qs : List Bq} (h : Bl w (.slice ao n cap) qs) : 0 < qs.length → ∃ b o, ao = some ⟨b, o, none⟩ ∧ w.rangeAt b o (bcs qs) := fun hp => by
 rcases h.1 with ⟨_, _, rfl, _⟩ | ⟨b, o, cap', e, _, _, h3⟩
 ·simp at hp
 ·cases e; exact ⟨b, o, rfl, h3⟩
theorem eqb_len (ao bo : Option Addr) (L M cap cap' : Nat) (w : World) (h : ¬ L = M) : Calls Tryz.prog 38 #[.slice ao L cap, .slice bo M cap', .func (.func 39) #[] #[]] w fun e w' => e = .returned (.bool false) ∧ Below w.heap.size w w' := by
 have hI : ¬ (L : Int) = (M : Int) := by omega
 go_enter Tryz.func38, Tryz.ntmps38
 go_wp2_with fail
 go_ret
 exact ⟨rfl, Below.refl _ _⟩
theorem eqb_none (ao bo : Option Addr) (cap cap' : Nat) (w : World) : Calls Tryz.prog 38 #[.slice ao 0 cap, .slice bo 0 cap', .func (.func 39) #[] #[]] w fun e w' => e = .returned (.bool true) ∧ Below w.heap.size w w' := by
 go_enter Tryz.func38, Tryz.ntmps38
 go_wp2_with fail
 refine wp_loop_rounds 1 ?_
 rw [rounds_succ]
 go_wp2_with fail
 go_ret
 exact ⟨rfl, Below.refl _ _⟩
theorem beq_any (v u : Value) (l m : List Int) (w : World) (hv : Sl bc w v l) (hu : Sl bc w u m) (hl : Byt l) (hm : Byt m) : Calls Tryz.prog 37 #[v, u] w fun e w' => e = .returned (.bool (decide (l = m))) ∧ w' = w := by
 have h1 := str_of hv hl
 have h2 := str_of hu hm
 have HE : Hid (((bs l) == (bs m)) = decide (l = m)) := hide (by
  by_cases h : l = m
  ·subst h; simp
  ·rw [decide_eq_false h]
   have : ¬ bs l = bs m := fun e => h (by rw [← sb_bs hl, e, sb_bs hm])
   simpa using this)
 obtain ⟨ao, cap, rfl⟩ := hv.form
 obtain ⟨bo, cap', rfl⟩ := hu.form
 clear hv hu hl hm
 generalize bs l = S at *
 generalize bs m = S' at *
 rw [← HE.out]
 clear HE
 cases e : (S == S')
 all_goals
  go_enter Tryz.func37, Tryz.ntmps37
  go_wp2_with fail
  go_ret
  exact ⟨by simp_all, rfl⟩
theorem two_in (w : World) (xs ys : List Value) {X : World} (hX : X = (w.alloc (.cells xs.toArray 26)).alloc (.cells ys.toArray 26)) : Below w.heap.size w X ∧ X.rangeAt w.heap.size 0 xs ∧ X.rangeAt (w.heap.size + 1) 0 ys := by
 subst hX
 have h1 := range_new w xs 26
 have h2 := range_new (w.alloc (.cells xs.toArray 26)) ys 26
 have hb : Below w.heap.size w (w.alloc (.cells xs.toArray 26)) := (Below.refl _ _).alloc (Nat.le_refl _) _
 refine ⟨hb.alloc (by simp) _, range_bel h1 ((Below.refl _ _).alloc (Nat.le_refl _) _), ?_⟩
 rwa [show (w.alloc (.cells xs.toArray 26)).heap.size = w.heap.size + 1 by simp] at h2
theorem msn_eq (k fr tn t ld pa pt hi co sz po : Int) (pre ok : Bool) (ab ad ab' ad' : Option Addr) (nb cb nd cd nb' cb' nd' cd' : Nat) (w : World) :
  Calls Tryz.prog 36 #[.agg #[.int .i64 k, .int .i64 fr, .int .i64 tn, .int .i64 t, .bool pre, .bool ok, .int .i64 ld, .int .i64 pa, .int .i64 pt, .int .i64 hi, .int .i64 co, .slice ab nb cb, .int .i64 sz, .int .i64 po, .slice ad nd cd], .agg #[.int .i64 k, .int .i64 fr, .int .i64 tn, .int .i64 t, .bool pre, .bool ok, .int .i64 ld, .int .i64 pa, .int .i64 pt, .int .i64 hi, .int .i64 co, .slice ab' nb' cb', .int .i64 sz, .int .i64 po, .slice ad' nd' cd']] w fun e w' => e = .returned (.bool true) ∧ Below w.heap.size w w' := by
 go_enter Tryz.func36, Tryz.ntmps36
 go_wp2_with fail
 go_ret
 exact ⟨rfl, ((Below.refl _ _).alloc (Nat.le_refl _) _).alloc (by simp) _⟩
theorem msame_ego (k fr tn t ld pa pt hi co sz po : Int) (pre ok : Bool) (ab ad ab' ad' : Option Addr) (nb cb nd cd nb' cb' nd' cd' : Nat) (w : World)
  (HSN : Hid (∀ W, Calls Tryz.prog 36 #[.agg #[.int .i64 k, .int .i64 fr, .int .i64 tn, .int .i64 t, .bool pre, .bool ok, .int .i64 ld, .int .i64 pa, .int .i64 pt, .int .i64 hi, .int .i64 co, .slice ab nb cb, .int .i64 sz, .int .i64 po, .slice ad nd cd], .agg #[.int .i64 k, .int .i64 fr, .int .i64 tn, .int .i64 t, .bool pre, .bool ok, .int .i64 ld, .int .i64 pa, .int .i64 pt, .int .i64 hi, .int .i64 co, .slice ab' nb' cb', .int .i64 sz, .int .i64 po, .slice ad' nd' cd']] W fun e w' => e = .returned (.bool true) ∧ Below W.heap.size W w'))
  (HBE : Hid (∀ W, Below w.heap.size w W → Calls Tryz.prog 37 #[.slice ad nd cd, .slice ad' nd' cd'] W fun e w' => e = .returned (.bool true) ∧ w' = W))
  (HEQ : Hid (∀ W, Below w.heap.size w W → Calls Tryz.prog 38 #[.slice ab nb cb, .slice ab' nb' cb', .func (.func 39) #[] #[]] W fun e w' => e = .returned (.bool true) ∧ Below W.heap.size W w')) :
  Calls Tryz.prog 10 #[.agg #[.int .i64 k, .int .i64 fr, .int .i64 tn, .int .i64 t, .bool pre, .bool ok, .int .i64 ld, .int .i64 pa, .int .i64 pt, .int .i64 hi, .int .i64 co, .slice ab nb cb, .int .i64 sz, .int .i64 po, .slice ad nd cd], .agg #[.int .i64 k, .int .i64 fr, .int .i64 tn, .int .i64 t, .bool pre, .bool ok, .int .i64 ld, .int .i64 pa, .int .i64 pt, .int .i64 hi, .int .i64 co, .slice ab' nb' cb', .int .i64 sz, .int .i64 po, .slice ad' nd' cd']] w fun e w' => e = .returned (.bool true) ∧ Below w.heap.size w w' := by
 obtain ⟨X, hX⟩ : ∃ X, X = (w.alloc (.cells #[.int .i64 k, .int .i64 fr, .int .i64 tn, .int .i64 t, .bool pre, .bool ok, .int .i64 ld, .int .i64 pa, .int .i64 pt, .int .i64 hi, .int .i64 co, .slice ab nb cb, .int .i64 sz, .int .i64 po, .slice ad nd cd] 26)).alloc (.cells #[.int .i64 k, .int .i64 fr, .int .i64 tn, .int .i64 t, .bool pre, .bool ok, .int .i64 ld, .int .i64 pa, .int .i64 pt, .int .i64 hi, .int .i64 co, .slice ab' nb' cb', .int .i64 sz, .int .i64 po, .slice ad' nd' cd'] 26) := ⟨_, rfl⟩
 obtain ⟨hb0, hqa, hqb⟩ := two_in w [.int .i64 k, .int .i64 fr, .int .i64 tn, .int .i64 t, .bool pre, .bool ok, .int .i64 ld, .int .i64 pa, .int .i64 pt, .int .i64 hi, .int .i64 co, .slice ab nb cb, .int .i64 sz, .int .i64 po, .slice ad nd cd] [.int .i64 k, .int .i64 fr, .int .i64 tn, .int .i64 t, .bool pre, .bool ok, .int .i64 ld, .int .i64 pa, .int .i64 pt, .int .i64 hi, .int .i64 co, .slice ab' nb' cb', .int .i64 sz, .int .i64 po, .slice ad' nd' cd'] hX
 have HB := hide hb0
 have HQA := hide hqa
 have HQB := hide hqb
 clear hb0 hqa hqb
 go_enter Tryz.func10, Tryz.ntmps10
 go_upto_region 1 with fail
 rw [← hX]
 clear hX
 obtain ⟨i0, i1, i2, i3, i4, i5, i6, i7, i8, i9, i10, i11, i12, i13, i14⟩ := C15.of HQA.out
 obtain ⟨j0, j1, j2, j3, j4, j5, j6, j7, j8, j9, j10, j11, j12, j13, j14⟩ := C15.of HQB.out
 go_wp2_with (first | (refine wpList_load_want (by go_simp) _ _ rfl _ _ rfl _ _ HQA.out Tryz.underlying26 rfl (by kernel_rfl) ?_) | (refine wpList_load_want (by go_simp) _ _ rfl _ _ rfl _ _ HQB.out Tryz.underlying26 rfl (by kernel_rfl) ?_) | (go_at_call 36; refine (HSN.out _).mono ?_; rintro e V ⟨rfl, hb1⟩; have HB1 := hide (HB.out.trans (hb1.mono HB.out.size)); have HA1 := C15.of (range_bel HQA.out hb1); have HB2 := C15.of (range_bel HQB.out hb1); clear hb1 i0 i1 i2 i3 i4 i5 i6 i7 i8 i9 i10 i11 i12 i13 i14 j0 j1 j2 j3 j4 j5 j6 j7 j8 j9 j10 j11 j12 j13 j14; obtain ⟨i0, i1, i2, i3, i4, i5, i6, i7, i8, i9, i10, i11, i12, i13, i14⟩ := HA1; obtain ⟨j0, j1, j2, j3, j4, j5, j6, j7, j8, j9, j10, j11, j12, j13, j14⟩ := HB2) | (go_at_call 37; refine (HBE.out _ HB1.out).mono ?_; rintro e w1 ⟨rfl, hw1⟩; rw [hw1]; clear hw1 w1) | (go_at_call 38; refine (HEQ.out _ HB1.out).mono ?_; rintro e V3 ⟨rfl, hb3⟩; have HB3 := hide (HB1.out.trans (hb3.mono HB1.out.size)); clear hb3))
 go_ret
 exact ⟨rfl, HB3.out⟩
theorem msame_kgo (k fr tn t ld pa pt hi co sz po k' fr' tn' t' ld' pa' pt' hi' co' sz' po' : Int) (pre ok pre' ok' : Bool) (ab ad ab' ad' : Option Addr) (nb cb nd cd nb' cb' nd' cd' : Nat) (w : World) (hk : (k == k') = false) :
  Calls Tryz.prog 10 #[.agg #[.int .i64 k, .int .i64 fr, .int .i64 tn, .int .i64 t, .bool pre, .bool ok, .int .i64 ld, .int .i64 pa, .int .i64 pt, .int .i64 hi, .int .i64 co, .slice ab nb cb, .int .i64 sz, .int .i64 po, .slice ad nd cd], .agg #[.int .i64 k', .int .i64 fr', .int .i64 tn', .int .i64 t', .bool pre', .bool ok', .int .i64 ld', .int .i64 pa', .int .i64 pt', .int .i64 hi', .int .i64 co', .slice ab' nb' cb', .int .i64 sz', .int .i64 po', .slice ad' nd' cd']] w fun e w' => e = .returned (.bool false) ∧ Below w.heap.size w w' := by
 obtain ⟨X, hX⟩ : ∃ X, X = (w.alloc (.cells #[.int .i64 k, .int .i64 fr, .int .i64 tn, .int .i64 t, .bool pre, .bool ok, .int .i64 ld, .int .i64 pa, .int .i64 pt, .int .i64 hi, .int .i64 co, .slice ab nb cb, .int .i64 sz, .int .i64 po, .slice ad nd cd] 26)).alloc (.cells #[.int .i64 k', .int .i64 fr', .int .i64 tn', .int .i64 t', .bool pre', .bool ok', .int .i64 ld', .int .i64 pa', .int .i64 pt', .int .i64 hi', .int .i64 co', .slice ab' nb' cb', .int .i64 sz', .int .i64 po', .slice ad' nd' cd'] 26) := ⟨_, rfl⟩
 obtain ⟨hb0, hqa, hqb⟩ := two_in w [.int .i64 k, .int .i64 fr, .int .i64 tn, .int .i64 t, .bool pre, .bool ok, .int .i64 ld, .int .i64 pa, .int .i64 pt, .int .i64 hi, .int .i64 co, .slice ab nb cb, .int .i64 sz, .int .i64 po, .slice ad nd cd] [.int .i64 k', .int .i64 fr', .int .i64 tn', .int .i64 t', .bool pre', .bool ok', .int .i64 ld', .int .i64 pa', .int .i64 pt', .int .i64 hi', .int .i64 co', .slice ab' nb' cb', .int .i64 sz', .int .i64 po', .slice ad' nd' cd'] hX
 have HB := hide hb0
 have HQA := hide hqa
 have HQB := hide hqb
 clear hb0 hqa hqb
 go_enter Tryz.func10, Tryz.ntmps10
 go_upto_region 1 with fail
 rw [← hX]
 clear hX
 obtain ⟨i0, i1, i2, i3, i4, i5, i6, i7, i8, i9, i10, i11, i12, i13, i14⟩ := C15.of HQA.out
 obtain ⟨j0, j1, j2, j3, j4, j5, j6, j7, j8, j9, j10, j11, j12, j13, j14⟩ := C15.of HQB.out
 go_wp2_with fail
 go_ret
 exact ⟨rfl, HB.out⟩
theorem msame_kind (a b : Ms) (v u : Value) (w : World) (hv : IsM w v a) (hu : IsM w u b) (hk : a.k ≠ b.k) : Calls Tryz.prog 10 #[v, u] w fun e w' => e = .returned (.bool false) ∧ Below w.heap.size w w' := by
 obtain ⟨ab, cb, ad, cd, qs, rfl, hm⟩ := isM_form hv
 obtain ⟨ab', cb', ad', cd', qs', rfl, hm'⟩ := isM_form hu
 exact msame_kgo a.k a.fr a.tn a.t a.ld a.pa a.pt a.hi a.co a.sz a.po b.k b.fr b.tn b.t b.ld b.pa b.pt b.hi b.co b.sz b.po a.pre a.ok b.pre b.ok ab ad ab' ad' _ cb _ cd _ cb' _ cd' w (by simpa using hk)
theorem rsame_ego (k br ep tp pa le cl se co : Int) (fl : Bool) (nm ky va rk : List UInt8) (a14 a15 a16 a17 b14 b15 b16 b17 : Option Addr) (c14 c15 c16 c17 d14 d15 d16 d17 : Nat) (ids isr ad dr : List Int) (w : World) (HI0 : Hid (∀ W, Below w.heap.size w W → Calls Tryz.prog 119 #[.slice a14 ids.length c14, .slice b14 ids.length d14] W fun e w' => e = .returned (.bool true) ∧ Qt W w')) (HI1 : Hid (∀ W, Below w.heap.size w W → Calls Tryz.prog 119 #[.slice a15 isr.length c15, .slice b15 isr.length d15] W fun e w' => e = .returned (.bool true) ∧ Qt W w')) (HI2 : Hid (∀ W, Below w.heap.size w W → Calls Tryz.prog 119 #[.slice a16 ad.length c16, .slice b16 ad.length d16] W fun e w' => e = .returned (.bool true) ∧ Qt W w')) (HI3 : Hid (∀ W, Below w.heap.size w W → Calls Tryz.prog 119 #[.slice a17 dr.length c17, .slice b17 dr.length d17] W fun e w' => e = .returned (.bool true) ∧ Qt W w')) :
  Calls Tryz.prog 95 #[.agg #[.int .i64 k, .int .i64 br, .int .i64 ep, .int .i64 tp, .int .i64 pa, .int .i64 le, .int .i64 cl, .int .i64 se, .int .i64 co, .bool fl, .string ⟨nm.toArray⟩, .string ⟨ky.toArray⟩, .string ⟨va.toArray⟩, .string ⟨rk.toArray⟩, .slice a14 ids.length c14, .slice a15 isr.length c15, .slice a16 ad.length c16, .slice a17 dr.length c17], .agg #[.int .i64 k, .int .i64 br, .int .i64 ep, .int .i64 tp, .int .i64 pa, .int .i64 le, .int .i64 cl, .int .i64 se, .int .i64 co, .bool fl, .string ⟨nm.toArray⟩, .string ⟨ky.toArray⟩, .string ⟨va.toArray⟩, .string ⟨rk.toArray⟩, .slice b14 ids.length d14, .slice b15 isr.length d15, .slice b16 ad.length d16, .slice b17 dr.length d17]] w fun e w' => e = .returned (.bool true) ∧ Below w.heap.size w w' := by
 obtain ⟨X, HX, HQ, HP, HB⟩ := lay2 w [.int .i64 k, .int .i64 br, .int .i64 ep, .int .i64 tp, .int .i64 pa, .int .i64 le, .int .i64 cl, .int .i64 se, .int .i64 co, .bool fl, .string ⟨nm.toArray⟩, .string ⟨ky.toArray⟩, .string ⟨va.toArray⟩, .string ⟨rk.toArray⟩, .slice a14 ids.length c14, .slice a15 isr.length c15, .slice a16 ad.length c16, .slice a17 dr.length c17] [.int .i64 k, .int .i64 br, .int .i64 ep, .int .i64 tp, .int .i64 pa, .int .i64 le, .int .i64 cl, .int .i64 se, .int .i64 co, .bool fl, .string ⟨nm.toArray⟩, .string ⟨ky.toArray⟩, .string ⟨va.toArray⟩, .string ⟨rk.toArray⟩, .slice b14 ids.length d14, .slice b15 isr.length d15, .slice b16 ad.length d16, .slice b17 dr.length d17]
 go_enter Tryz.func95, Tryz.ntmps95
 go_upto_region 1 with fail
 show Code.wp _ _ _ _ _
 rw [← HX.out]
 clear HX
 obtain ⟨g0, g1, g2, g3, g4, g5, g6, g7, g8, g9, g10, g11, g12, g13, g14, g15, g16, g17⟩ := C18.of HQ.out
 obtain ⟨h0, h1, h2, h3, h4, h5, h6, h7, h8, h9, h10, h11, h12, h13, h14, h15, h16, h17⟩ := C18.of HP.out
 go_upto_region 7 with fail
 clear g0 g1 g2 g3 g4 g5 g6 g7 g8 g9 g10 g11 g12 g13 g14 g15 g16 g17 h0 h1 h2 h3 h4 h5 h6 h7 h8 h9 h10 h11 h12 h13 h14 h15 h16 h17
 obtain ⟨g0, g9, g14, g15, g16, g17⟩ := six HQ.out; obtain ⟨h0, h9, h14, h15, h16, h17⟩ := six HP.out
 go_wp2_with (first | (go_at_call 119; first | (with_reducible refine (HI0.out _ HB.out).mono ?_; rintro e Y ⟨rfl, hY⟩; replace HQ := hide (range_below HQ.out hY.below); replace HP := hide (range_below HP.out hY.below); replace HB := hide (HB.out.trans ((hY.below).mono HB.out.size)); clear g0 g9 g14 g15 g16 g17 h0 h9 h14 h15 h16 h17; obtain ⟨g0, g9, g14, g15, g16, g17⟩ := six HQ.out; obtain ⟨h0, h9, h14, h15, h16, h17⟩ := six HP.out; clear hY) | (with_reducible refine (HI1.out _ HB.out).mono ?_; rintro e Y ⟨rfl, hY⟩; replace HQ := hide (range_below HQ.out hY.below); replace HP := hide (range_below HP.out hY.below); replace HB := hide (HB.out.trans ((hY.below).mono HB.out.size)); clear g0 g9 g14 g15 g16 g17 h0 h9 h14 h15 h16 h17; obtain ⟨g0, g9, g14, g15, g16, g17⟩ := six HQ.out; obtain ⟨h0, h9, h14, h15, h16, h17⟩ := six HP.out; clear hY) | (with_reducible refine (HI2.out _ HB.out).mono ?_; rintro e Y ⟨rfl, hY⟩; replace HQ := hide (range_below HQ.out hY.below); replace HP := hide (range_below HP.out hY.below); replace HB := hide (HB.out.trans ((hY.below).mono HB.out.size)); clear g0 g9 g14 g15 g16 g17 h0 h9 h14 h15 h16 h17; obtain ⟨g0, g9, g14, g15, g16, g17⟩ := six HQ.out; obtain ⟨h0, h9, h14, h15, h16, h17⟩ := six HP.out; clear hY) | (with_reducible refine (HI3.out _ HB.out).mono ?_; rintro e Y ⟨rfl, hY⟩; replace HQ := hide (range_below HQ.out hY.below); replace HP := hide (range_below HP.out hY.below); replace HB := hide (HB.out.trans ((hY.below).mono HB.out.size)); clear g0 g9 g14 g15 g16 g17 h0 h9 h14 h15 h16 h17; obtain ⟨g0, g9, g14, g15, g16, g17⟩ := six HQ.out; obtain ⟨h0, h9, h14, h15, h16, h17⟩ := six HP.out; clear hY)))
 go_ret
 exact ⟨rfl, HB.out⟩
theorem rsame_eq {ok ok' : Nat → Prop} (a b : Rc) (v u : Value) (w : World) (hv : IsR ok w v a) (hu : IsR ok' w u b) (hl : LnR a) (he : a = b) : Calls Tryz.prog 95 #[v, u] w fun e w' => e = .returned (.bool (sameR a b)) ∧ Below w.heap.size w w' := by
 subst he
 rw [sameR_self]
 obtain ⟨a14, a15, a16, a17, c14, c15, c16, c17, rfl, h⟩ := hv
 obtain ⟨b14, b15, b16, b17, d14, d15, d16, d17, rfl, k⟩ := hu
 have ei : ∀ l : List Int, eqI l l = true := fun l => by simp [eqI]
 have HI0 := hide (fun W (q : Below w.heap.size w W) => ints_any _ _ a.ids a.ids W (h.h14.sl.below q) (k.h14.sl.below q) hl.ids)
 rw [ei] at HI0
 have HI1 := hide (fun W (q : Below w.heap.size w W) => ints_any _ _ a.isr a.isr W (h.h15.sl.below q) (k.h15.sl.below q) hl.isr)
 rw [ei] at HI1
 have HI2 := hide (fun W (q : Below w.heap.size w W) => ints_any _ _ a.ad a.ad W (h.h16.sl.below q) (k.h16.sl.below q) hl.ad)
 rw [ei] at HI2
 have HI3 := hide (fun W (q : Below w.heap.size w W) => ints_any _ _ a.dr a.dr W (h.h17.sl.below q) (k.h17.sl.below q) hl.dr)
 rw [ei] at HI3
 exact rsame_ego a.k a.br a.ep a.tp a.pa a.le a.cl a.se a.co a.fl a.nm a.ky a.va a.rk a14 a15 a16 a17 b14 b15 b16 b17 c14 c15 c16 c17 d14 d15 d16 d17 a.ids a.isr a.ad a.dr w HI0 HI1 HI2 HI3
theorem snum_eq (k br ep tp pa le cl se co : Int) (fl : Bool) (nm ky va rk : List UInt8) (a14 a15 a16 a17 b14 b15 b16 b17 : Option Addr) (c14 c15 c16 c17 d14 d15 d16 d17 : Nat) (ids isr ad dr : List Int) (w : World) :
  Calls Tryz.prog 104 #[.agg #[.int .i64 k, .int .i64 br, .int .i64 ep, .int .i64 tp, .int .i64 pa, .int .i64 le, .int .i64 cl, .int .i64 se, .int .i64 co, .bool fl, .string ⟨nm.toArray⟩, .string ⟨ky.toArray⟩, .string ⟨va.toArray⟩, .string ⟨rk.toArray⟩, .slice a14 ids.length c14, .slice a15 isr.length c15, .slice a16 ad.length c16, .slice a17 dr.length c17], .agg #[.int .i64 k, .int .i64 br, .int .i64 ep, .int .i64 tp, .int .i64 pa, .int .i64 le, .int .i64 cl, .int .i64 se, .int .i64 co, .bool fl, .string ⟨nm.toArray⟩, .string ⟨ky.toArray⟩, .string ⟨va.toArray⟩, .string ⟨rk.toArray⟩, .slice b14 ids.length d14, .slice b15 isr.length d15, .slice b16 ad.length d16, .slice b17 dr.length d17]] w fun e w' => e = .returned (.bool true) ∧ Below w.heap.size w w' := by
 obtain ⟨X, HX, HQ, HP, HB⟩ := lay2 w [.int .i64 k, .int .i64 br, .int .i64 ep, .int .i64 tp, .int .i64 pa, .int .i64 le, .int .i64 cl, .int .i64 se, .int .i64 co, .bool fl, .string ⟨nm.toArray⟩, .string ⟨ky.toArray⟩, .string ⟨va.toArray⟩, .string ⟨rk.toArray⟩, .slice a14 ids.length c14, .slice a15 isr.length c15, .slice a16 ad.length c16, .slice a17 dr.length c17] [.int .i64 k, .int .i64 br, .int .i64 ep, .int .i64 tp, .int .i64 pa, .int .i64 le, .int .i64 cl, .int .i64 se, .int .i64 co, .bool fl, .string ⟨nm.toArray⟩, .string ⟨ky.toArray⟩, .string ⟨va.toArray⟩, .string ⟨rk.toArray⟩, .slice b14 ids.length d14, .slice b15 isr.length d15, .slice b16 ad.length d16, .slice b17 dr.length d17]
 go_enter Tryz.func104, Tryz.ntmps104
 go_upto_region 1 with fail
 show Code.wp _ _ _ _ _
 rw [← HX.out]
 clear HX
 obtain ⟨g0, g1, g2, g3, g4, g5, g6, g7, g8, g9, g10, g11, g12, g13, g14, g15, g16, g17⟩ := C18.of HQ.out
 obtain ⟨h0, h1, h2, h3, h4, h5, h6, h7, h8, h9, h10, h11, h12, h13, h14, h15, h16, h17⟩ := C18.of HP.out
 go_wp2_with fail
 go_ret
 exact ⟨rfl, HB.out⟩
theorem stxt_eq (k br ep tp pa le cl se co : Int) (fl : Bool) (nm ky va rk : List UInt8) (a14 a15 a16 a17 b14 b15 b16 b17 : Option Addr) (c14 c15 c16 c17 d14 d15 d16 d17 : Nat) (ids isr ad dr : List Int) (w : World) :
  Calls Tryz.prog 105 #[.agg #[.int .i64 k, .int .i64 br, .int .i64 ep, .int .i64 tp, .int .i64 pa, .int .i64 le, .int .i64 cl, .int .i64 se, .int .i64 co, .bool fl, .string ⟨nm.toArray⟩, .string ⟨ky.toArray⟩, .string ⟨va.toArray⟩, .string ⟨rk.toArray⟩, .slice a14 ids.length c14, .slice a15 isr.length c15, .slice a16 ad.length c16, .slice a17 dr.length c17], .agg #[.int .i64 k, .int .i64 br, .int .i64 ep, .int .i64 tp, .int .i64 pa, .int .i64 le, .int .i64 cl, .int .i64 se, .int .i64 co, .bool fl, .string ⟨nm.toArray⟩, .string ⟨ky.toArray⟩, .string ⟨va.toArray⟩, .string ⟨rk.toArray⟩, .slice b14 ids.length d14, .slice b15 isr.length d15, .slice b16 ad.length d16, .slice b17 dr.length d17]] w fun e w' => e = .returned (.bool true) ∧ Below w.heap.size w w' := by
 obtain ⟨X, HX, HQ, HP, HB⟩ := lay2 w [.int .i64 k, .int .i64 br, .int .i64 ep, .int .i64 tp, .int .i64 pa, .int .i64 le, .int .i64 cl, .int .i64 se, .int .i64 co, .bool fl, .string ⟨nm.toArray⟩, .string ⟨ky.toArray⟩, .string ⟨va.toArray⟩, .string ⟨rk.toArray⟩, .slice a14 ids.length c14, .slice a15 isr.length c15, .slice a16 ad.length c16, .slice a17 dr.length c17] [.int .i64 k, .int .i64 br, .int .i64 ep, .int .i64 tp, .int .i64 pa, .int .i64 le, .int .i64 cl, .int .i64 se, .int .i64 co, .bool fl, .string ⟨nm.toArray⟩, .string ⟨ky.toArray⟩, .string ⟨va.toArray⟩, .string ⟨rk.toArray⟩, .slice b14 ids.length d14, .slice b15 isr.length d15, .slice b16 ad.length d16, .slice b17 dr.length d17]
 go_enter Tryz.func105, Tryz.ntmps105
 go_upto_region 1 with fail
 show Code.wp _ _ _ _ _
 rw [← HX.out]
 clear HX
 obtain ⟨g0, g1, g2, g3, g4, g5, g6, g7, g8, g9, g10, g11, g12, g13, g14, g15, g16, g17⟩ := C18.of HQ.out
 obtain ⟨h0, h1, h2, h3, h4, h5, h6, h7, h8, h9, h10, h11, h12, h13, h14, h15, h16, h17⟩ := C18.of HP.out
 go_wp2_with fail
 go_ret
 exact ⟨rfl, HB.out⟩
theorem csame_eq {ok ok' : Nat → Prop} (a b : Rc) (v u : Value) (w : World) (hv : IsR ok w v a) (hu : IsR ok' w u b) (hl : LnR a) (he : a = b) : Calls Tryz.prog 74 #[v, u] w fun e w' => e = .returned (.bool (sameR a b)) ∧ Below w.heap.size w w' := by
 subst he
 rw [sameR_self]
 obtain ⟨a14, a15, a16, a17, c14, c15, c16, c17, rfl, h⟩ := hv
 obtain ⟨b14, b15, b16, b17, d14, d15, d16, d17, rfl, k⟩ := hu
 have ei : ∀ l : List Int, eqI l l = true := fun l => by simp [eqI]
 have HI0 := hide (fun W (q : Below w.heap.size w W) => equal_any _ _ a.ids a.ids W (h.h14.sl.below q) (k.h14.sl.below q) hl.ids)
 rw [ei] at HI0
 have HI1 := hide (fun W (q : Below w.heap.size w W) => equal_any _ _ a.isr a.isr W (h.h15.sl.below q) (k.h15.sl.below q) hl.isr)
 rw [ei] at HI1
 have HI2 := hide (fun W (q : Below w.heap.size w W) => equal_any _ _ a.ad a.ad W (h.h16.sl.below q) (k.h16.sl.below q) hl.ad)
 rw [ei] at HI2
 have HI3 := hide (fun W (q : Below w.heap.size w W) => equal_any _ _ a.dr a.dr W (h.h17.sl.below q) (k.h17.sl.below q) hl.dr)
 rw [ei] at HI3
 have HN := hide (fun W => snum_eq a.k a.br a.ep a.tp a.pa a.le a.cl a.se a.co a.fl a.nm a.ky a.va a.rk a14 a15 a16 a17 b14 b15 b16 b17 c14 c15 c16 c17 d14 d15 d16 d17 a.ids a.isr a.ad a.dr W)
 have HT := hide (fun W => stxt_eq a.k a.br a.ep a.tp a.pa a.le a.cl a.se a.co a.fl a.nm a.ky a.va a.rk a14 a15 a16 a17 b14 b15 b16 b17 c14 c15 c16 c17 d14 d15 d16 d17 a.ids a.isr a.ad a.dr W)
 exact csame_6 a.k a.br a.ep a.tp a.pa a.le a.cl a.se a.co a.br a.ep a.tp a.pa a.le a.cl a.se a.co a.fl a.nm a.ky a.va a.rk a.nm a.ky a.va a.rk a14 a15 a16 a17 b14 b15 b16 b17 c14 c15 c16 c17 d14 d15 d16 d17 a.ids a.isr a.ad a.dr a.ids a.isr a.ad a.dr w _ _ rfl rfl HN HT HI0 HI1 HI2 HI3
end Go.Proofs.YtjjpfajbljbelaaGreatDoor
