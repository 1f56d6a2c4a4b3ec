/-
  THE EXAMPLE OF LAYER rpc (castellanlaw07.works): it answers true. Condition: errors.errorType is laid.
-/
import Derived.Test.YtjjpfajbljbelaaGreatDoorJKBatEqa4
namespace Go.Proofs.YtjjpfajbljbelaaGreatDoor
open Go.RowKit
def rnN : Rc := ⟨1, 0, 0, 0, 0, 0, 0, 0, 0, false, [], [], [], [], [], [], [], []⟩
def plN : Pl := ⟨none, none, none, none, 0, 0, 0, 0⟩
def exM : Ms := ⟨4, 1, 2, 3, false, false, 1, 5, 2, 4, 0, 0, 0, [], [⟨3, 6, [rnN]⟩]⟩
def badM : Ms := ⟨1, 1, 1, 0, false, false, 0, 0, 0, 0, 0, 0, 0, [], []⟩
theorem chkN : (chk rnN).2.2 = 0 := by decide
theorem exM_bw : (bw ⟨3, 6, [rnN]⟩).c = 0 := by
 rw [bw_of (x := ⟨3, 6, [rnN]⟩) (by decide) (by decide) (by decide) (fun r hr => by
  simp only [List.mem_cons, List.not_mem_nil, or_false] at hr
  subst hr
  exact chkN)]
theorem exM_ok : (chkM exM).2.2 = 0 := by
 rw [chkM_head, if_pos (by decide), show chkBs exM.bs 0 = none from chkBs_none _ _ (fun x hx => by
  simp only [exM, List.mem_cons, List.not_mem_nil, or_false] at hx
  subst hx
  exact exM_bw)]
theorem exM_ev : evM exM = none := evM_none.2 exM_ok
theorem exM_bl : ∀ x ∈ exM.bs, (bytL x).length ≤ 16384 := fun x hx => by
 simp only [exM, List.mem_cons, List.not_mem_nil, or_false] at hx
 subst hx
 decide
theorem exM_len : (tailM exM).length ≤ 300 := by decide
theorem exM_evP : evP exM = none := by
 unfold evP
 rw [exM_ev]
 unfold evQ
 simp only
 rw [lnBs_none _ _ exM_bl]
 simp only
 rw [if_pos (by have := exM_len; omega)]
theorem exM_tx : TxM exM := fun x hx r hr => by
 simp only [exM, List.mem_cons, List.not_mem_nil, or_false] at hx
 subst hx
 simp only [List.mem_cons, List.not_mem_nil, or_false] at hr
 subst hr
 exact ⟨by decide, by decide, by decide, by decide⟩
theorem exM_ln : LnM exM := fun x hx => by
 simp only [exM, List.mem_cons, List.not_mem_nil, or_false] at hx
 subst hx
 refine ⟨by decide, fun r hr => ?_⟩
 simp only [List.mem_cons, List.not_mem_nil, or_false] at hr
 subst hr
 exact ⟨by decide, by decide, by decide, by decide⟩
theorem nil_byt : Byt [] := fun x hx => by simp at hx
theorem tailM_byt {m : Ms} (h : evM m = none) (hd : Byt m.da) : Byt (tailM m) := by
 have hL := lite h
 have happ : ∀ {a b : List Int}, Byt a → Byt b → Byt (a ++ b) := fun ha hb x hx => (List.mem_append.1 hx).elim (ha x) (hb x)
 have hB : ∀ bs : List Bt, (∀ x ∈ bs, (bw x).c = 0) → Byt (batsL bs) := fun bs hb => by
  induction bs with
  | nil => intro x hx; simp [batsL] at hx
  | cons y bs ih =>
   rw [batsL_cons]
   refine happ ?_ (ih fun x hx => hb x (by simp [hx]))
   obtain ⟨_, _, _, h4⟩ := bw_ok (hb y (by simp))
   unfold bytL headL
   exact happ (happ (intL_byt _) (happ (intL_byt _) (intL_byt _))) (putsL_byt _ h4)
 unfold tailM
 refine happ (encs_byt _ (fun x => intL_byt x) _ _) (happ (encs_byt _ (fun f x hx => by cases f <;> simp [flB] at hx <;> omega) _ _) (happ (encs_byt _ (fun x => intL_byt x) _ _) (happ ?_ (happ (encs_byt _ (fun x => intL_byt x) _ _) (hB _ hL.bs)))))
 cases hasM m.k 100
 ·intro x hx; simp [encs] at hx
 ·have : encs enD [true] [m.da] = enD m.da := by simp [encs]
  rw [this]
  exact happ (intL_byt _) hd
theorem exM_read : readM 4 (tailM exM) = ((⟨#[]⟩, 0, 0), exM) := readM_back exM exM_ok nil_byt exM_bl
theorem nine_read : (readM 9 []).1 = (⟨#[107, 105, 110, 100]⟩, 9, 5) := by
 unfold readM
 rw [if_pos (by decide)]
theorem bad_ev : evM badM = some ([(⟨#[102, 114, 111, 109]⟩, 1)], 2) := by
 have hh : headM badM = (⟨#[102, 114, 111, 109]⟩, 1, 2) := by
  unfold headM checkMB
  rw [if_neg (by decide), if_pos (by decide)]
  rfl
 unfold evM
 rw [hh]
 rfl
theorem wpList_build_rc1 {ops : Array Oper} {rest : List Oper} {o : Oper} {a : Act} {w : World} {Q : Exit → Act → World → Prop} (hgd : o.guard = none) (x : Operand) (ho : o.op = .buildSlice 46 1 #[(0, x)]) (hx : a.eval x = .agg (cel (rnN, plN)).toArray)
  (h : wpList Tryz.prog ops Q rest (a.put o.dst (.slice (some ⟨w.heap.size, 0, none⟩) 1 1)) (w.alloc (.cells (cel (rnN, plN)).toArray 45))) : wpList Tryz.prog ops Q (o :: rest) a w := by
 refine wpList_plain hgd fun K hK => ?_
 have hb := build_one (rnN, plN) w
 unfold Oper.wp
 simp only [execOp, ho, List.map_toArray, List.map_cons, List.map_nil, hx]
 simp [hb, Result.andThen]
 exact hK _ _ h
theorem wpList_build_bt1 {ops : Array Oper} {rest : List Oper} {o : Oper} {a : Act} {w : World} {Q : Exit → Act → World → Prop} (hgd : o.guard = none) (x : Operand) (ho : o.op = .buildSlice 24 1 #[(0, x)]) (t b : Int) (ao : Option Addr) (n cap : Nat) (hx : a.eval x = .agg #[.int .i64 t, .int .i64 b, .slice ao n cap])
  (h : wpList Tryz.prog ops Q rest (a.put o.dst (.slice (some ⟨w.heap.size, 0, none⟩) 1 1)) (w.alloc (.cells #[.int .i64 t, .int .i64 b, .slice ao n cap] 48))) : wpList Tryz.prog ops Q (o :: rest) a w := by
 refine wpList_plain hgd fun K hK => ?_
 have hb := build_oneB t b ao n cap w
 unfold Oper.wp
 simp only [execOp, ho, List.map_toArray, List.map_cons, List.map_nil, hx]
 simp [hb, Result.andThen]
 exact hK _ _ h
theorem ex_in (w : World) {W2 W3 : World} (h2 : W2 = (w.alloc (.cells (cel (rnN, plN)).toArray 45)).alloc (.cells #[.int .i64 3, .int .i64 6, .slice (some ⟨w.heap.size, 0, none⟩) 1 1] 48)) (h3 : W3 = W2.alloc (.cells #[.int .i64 4, .int .i64 1, .int .i64 2, .int .i64 3, .bool false, .bool false, .int .i64 1, .int .i64 5, .int .i64 2, .int .i64 4, .int .i64 0, .slice (some ⟨w.heap.size + 1, 0, none⟩) 1 1, .int .i64 0, .int .i64 0, .slice none 0 0] 26)) : W2.heap.size = w.heap.size + 2 ∧ Below w.heap.size w W3 ∧ W3.rangeAt W2.heap.size 0 (cellsM exM (.slice (some ⟨w.heap.size + 1, 0, none⟩) 1 1) (.slice none 0 0)) ∧ IsM W3 (.agg (cellsM exM (.slice (some ⟨w.heap.size + 1, 0, none⟩) 1 1) (.slice none 0 0)).toArray) exM := by
 have hz2 : W2.heap.size = w.heap.size + 2 := by rw [h2]; simp
 have hb2 : Below w.heap.size w W2 := by rw [h2]; exact ((Below.refl _ _).alloc (Nat.le_refl _) _).alloc (by simp) _
 have hb3 : Below W2.heap.size W2 W3 := by rw [h3]; exact (Below.refl _ _).alloc (Nat.le_refl _) _
 have hrg : W3.rangeAt W2.heap.size 0 (cellsM exM (.slice (some ⟨w.heap.size + 1, 0, none⟩) 1 1) (.slice none 0 0)) := by rw [h3]; exact range_new W2 [.int .i64 4, .int .i64 1, .int .i64 2, .int .i64 3, .bool false, .bool false, .int .i64 1, .int .i64 5, .int .i64 2, .int .i64 4, .int .i64 0, .slice (some ⟨w.heap.size + 1, 0, none⟩) 1 1, .int .i64 0, .int .i64 0, .slice none 0 0] 26
 refine ⟨hz2, hb2.trans (hb3.mono hb2.size), hrg, ⟨_, _, [⟨3, 6, .slice (some ⟨w.heap.size, 0, none⟩) 1 1, [(rnN, plN)]⟩], rfl, ⟨⟨.inr ⟨w.heap.size + 1, 0, 1, rfl, Nat.le_refl 1, Nat.zero_lt_one, ?_⟩, fun q hq => ?_⟩, rfl, .inl ⟨_, _, rfl, rfl⟩⟩⟩⟩
 ·refine range_bel ?_ hb3
  have := range_new (w.alloc (.cells (cel (rnN, plN)).toArray 45)) [.int .i64 3, .int .i64 6, .slice (some ⟨w.heap.size, 0, none⟩) 1 1] 48
  rw [show (w.alloc (.cells (cel (rnN, plN)).toArray 45)).heap.size = w.heap.size + 1 by simp, ← h2] at this
  exact this
 ·simp only [List.mem_cons, List.not_mem_nil, or_false] at hq
  subst hq
  refine ⟨.inr ⟨w.heap.size, 0, 1, rfl, Nat.le_refl 1, trivial, Nat.zero_lt_one, ?_⟩, fun p hp => ?_⟩
  ·refine range_bel (range_bel (range_new w (cel (rnN, plN)) 45) (W' := W2) (by rw [h2]; exact (Below.refl _ _).alloc (Nat.le_refl _) _)) hb3
  ·simp only [List.mem_cons, List.not_mem_nil, or_false] at hp
   subst hp
   exact ⟨Sli.nil _ _ _ _, Sli.nil _ _ _ _, Sli.nil _ _ _ _, Sli.nil _ _ _ _⟩
theorem tells_none {X : Option (List (ByteArray × Int) × Int)} {T : ByteArray × Int × Int} (h : Tells X T) (h0 : T.2.2 = 0) : X = none := by
 rcases X with _ | ⟨l, c⟩
 ·rfl
 ·exact absurd (h.1.trans h0) h.2.1
theorem tells_is {X : Option (List (ByteArray × Int) × Int)} {T : ByteArray × Int × Int} (h : Tells X T) (h0 : T.2.2 ≠ 0) : ∃ l, X = some (l, T.2.2) := by
 rcases X with _ | ⟨l, c⟩
 ·exact absurd h h0
 ·exact ⟨l, by rw [← h.1]⟩
theorem mread_nine (w : World) : Calls Tryz.prog 5 #[.agg #[.int .i64 9, .slice none 0 0]] w fun e w' => ∃ X, e = .returned (.tuple #[.agg (cellsM Ms.zero (.slice none 0 0) (.slice none 0 0)).toArray, ev X]) ∧ Tells X (readM 9 []).1 ∧ Below w.heap.size w w' := by
 refine (mread_kindz 9 none 0 0 [] w (by decide)).mono ?_
 rintro e w' ⟨rfl, ht, hb⟩
 exact ⟨_, rfl, ht, hb⟩
set_option maxRecDepth 100000 in
set_option maxHeartbeats 32000000 in
theorem mworks_any (w : World) (hg : Hnd w) : Calls Tryz.prog 4 #[] w fun e w' => e = .returned (.bool true) ∧ Below w.heap.size w w' := by
 have HG := hide hg
 clear hg
 obtain ⟨W2, hW2⟩ : ∃ X, X = (w.alloc (.cells (cel (rnN, plN)).toArray 45)).alloc (.cells #[.int .i64 3, .int .i64 6, .slice (some ⟨w.heap.size, 0, none⟩) 1 1] 48) := ⟨_, rfl⟩
 obtain ⟨W3, hW3⟩ : ∃ X, X = W2.alloc (.cells #[.int .i64 4, .int .i64 1, .int .i64 2, .int .i64 3, .bool false, .bool false, .int .i64 1, .int .i64 5, .int .i64 2, .int .i64 4, .int .i64 0, .slice (some ⟨w.heap.size + 1, 0, none⟩) 1 1, .int .i64 0, .int .i64 0, .slice none 0 0] 26) := ⟨_, rfl⟩
 obtain ⟨hz2, hb3, hr3, hi3⟩ := ex_in w hW2 hW3
 rw [hz2] at hr3
 rw [hW2] at hW3
 have HB3 := hide hb3
 have HR3 := hide hr3
 have HI3 := hide hi3
 clear hb3 hr3 hi3 hz2 hW2
 go_enter Tryz.func4, Tryz.ntmps4
 go_upto_region 2 with (first | (refine wpList_build_rc1 rfl _ rfl rfl ?_) | (refine wpList_build_bt1 rfl _ rfl 3 6 (some ⟨w.heap.size, 0, none⟩) 1 1 rfl ?_))
 rw [← hW3]
 clear hW3
 have HPU : Hid (Calls Tryz.prog 9 #[.agg (cellsM exM (.slice (some ⟨w.heap.size + 1, 0, none⟩) 1 1) (.slice none 0 0)).toArray] W3 fun e w' => ∃ a c, e = .returned (.tuple #[.agg #[.int .i64 4, .slice a (tailM exM).length c], .nilIface]) ∧ Sl bc w' (.slice a (tailM exM).length c) (tailM exM) ∧ Below W3.heap.size W3 w') := hide ((mput_anyN exM _ W3 HI3.out exM_tx (by decide) (by decide)).mono (by
  rintro e w' ⟨h1, h2⟩
  rw [exM_evP] at h1
  obtain ⟨y, rfl, hs⟩ := h1
  obtain ⟨a, c, rfl⟩ := hs.form
  exact ⟨a, c, rfl, hs, h2⟩))
 have hTL := exM_len
 obtain ⟨TM, HTM⟩ : ∃ x, Hid (x = tailM exM) := ⟨_, hide rfl⟩
 rw [← HTM.out] at HPU hTL
 obtain ⟨CM, HCM⟩ : ∃ x, Hid (x = cellsM exM (.slice (some ⟨w.heap.size + 1, 0, none⟩) 1 1) (.slice none 0 0)) := ⟨_, hide rfl⟩
 rw [← HCM.out] at HPU HR3 HI3
 have hcm : CM.length = 15 := by rw [HCM.out]; rfl
 go_upto_region 3 with (first | (refine wpList_load_mid rfl _ _ rfl _ _ rfl _ _ HR3.out Tryz.underlying26 rfl (by rw [hcm]; kernel_rfl) ?_) | (go_at_call 9; refine HPU.out.mono ?_; rintro e W4 ⟨ay, cy, rfl, hs4, hb4⟩))
 obtain ⟨Y4, hY4⟩ : ∃ Y, Y = W4.alloc (.cells #[.int .i64 4, .slice ay TM.length cy] 32) := ⟨_, rfl⟩
 have hbY : Below W4.heap.size W4 Y4 := by rw [hY4]; exact (Below.refl _ _).alloc (Nat.le_refl _) _
 have HX4 := hide (hb4.trans (hbY.mono hb4.size))
 have HF4 : Hid (∀ W, Below Y4.heap.size Y4 W → W.cell? ⟨W4.heap.size, 0, none⟩ = some (.int .i64 4) ∧ W.cell? ⟨W4.heap.size, 1, none⟩ = some (.slice ay TM.length cy)) := hide (fun W h => by
  have hc : ∀ i, W.cell? ⟨W4.heap.size, i, none⟩ = _ := fun i => h.cell (p := ⟨W4.heap.size, i, none⟩) (by rw [hY4]; simp)
  exact ⟨by rw [hc, hY4]; simp, by rw [hc, hY4]; simp⟩)
 have HS4 := hide (hs4.below hbY)
 have HB4 := hide (HB3.out.trans (HX4.out.mono HB3.out.size))
 show Code.wp _ _ _ _ _
 rw [show (W4.alloc (.cells #[.int .i64 4, .slice ay TM.length cy] 32)) = Y4 from hY4.symm]
 clear hY4 hbY hs4 hb4 HPU
 generalize hd2 : W4.heap.size = d2 at *
 clear hd2
 obtain ⟨f0, f1⟩ := HF4.out Y4 (Below.refl _ _)
 have HRD : Hid (Calls Tryz.prog 5 #[.agg #[.int .i64 4, .slice ay TM.length cy]] Y4 fun e w' => ∃ a4 c4 a5 c5, e = .returned (.tuple #[.agg #[.int .i64 4, .int .i64 1, .int .i64 2, .int .i64 3, .bool false, .bool false, .int .i64 1, .int .i64 5, .int .i64 2, .int .i64 4, .int .i64 0, .slice a4 1 c4, .int .i64 0, .int .i64 0, .slice a5 0 c5], .nilIface]) ∧ IsM w' (.agg #[.int .i64 4, .int .i64 1, .int .i64 2, .int .i64 3, .bool false, .bool false, .int .i64 1, .int .i64 5, .int .i64 2, .int .i64 4, .int .i64 0, .slice a4 1 c4, .int .i64 0, .int .i64 0, .slice a5 0 c5]) exM ∧ Below Y4.heap.size Y4 w') := hide ((mread_any 4 _ TM Y4 HS4.out (by omega) (by rw [HTM.out]; exact tailM_byt exM_ev nil_byt) (HG.out.below HB4.out)).mono (by
  rintro e w' ⟨vx, X, rfl, hx, ht, hb⟩
  rw [HTM.out, exM_read] at hx ht
  rw [tells_none ht rfl]
  obtain ⟨ub, ud, qs, rfl, h1, h2, h3⟩ := hx
  have hlq : qs.length = 1 := by rw [← bts_len, h2]; rfl
  obtain ⟨a4, c4, e4⟩ := h1.bl.form
  obtain ⟨a5, c5, e5⟩ : ∃ a5 c5, ud = .slice a5 0 c5 := h3.sl.form
  rw [hlq] at e4
  subst e4 e5
  exact ⟨a4, c4, a5, c5, rfl, ⟨_, _, qs, rfl, ⟨h1.bl, h2, h3.sl⟩⟩, hb⟩))
 go_upto_region 4 with (first | (go_at_call 5; refine HRD.out.mono ?_; rintro e W5 ⟨a4, c4, a5, c5, rfl, hi5, hb5⟩))
 obtain ⟨Y5, hY5⟩ : ∃ Y, Y = W5.alloc (.cells #[.int .i64 4, .int .i64 1, .int .i64 2, .int .i64 3, .bool false, .bool false, .int .i64 1, .int .i64 5, .int .i64 2, .int .i64 4, .int .i64 0, .slice a4 1 c4, .int .i64 0, .int .i64 0, .slice a5 0 c5] 26) := ⟨_, rfl⟩
 have hbY5 : Below W5.heap.size W5 Y5 := by rw [hY5]; exact (Below.refl _ _).alloc (Nat.le_refl _) _
 have hrY5 : Y5.rangeAt W5.heap.size 0 [.int .i64 4, .int .i64 1, .int .i64 2, .int .i64 3, .bool false, .bool false, .int .i64 1, .int .i64 5, .int .i64 2, .int .i64 4, .int .i64 0, .slice a4 1 c4, .int .i64 0, .int .i64 0, .slice a5 0 c5] := by rw [hY5]; exact range_new W5 _ _
 rw [← hY5]
 have HX5 := hide (hb5.trans (hbY5.mono hb5.size))
 have HR5 := hide hrY5
 have HI5 := hide (hi5.below hbY5)
 have HB5 := hide (HB4.out.trans (HX5.out.mono HB4.out.size))
 clear hY5 hbY5 hrY5 hi5 hb5 HRD f0 f1
 generalize hd4 : W5.heap.size = d4 at *
 clear hd4
 have HR9 : Hid (Calls Tryz.prog 5 #[.agg #[.int .i64 9, .slice none 0 0]] Y5 fun e w' => ∃ l, e = .returned (.tuple #[.agg #[.int .i64 0, .int .i64 0, .int .i64 0, .int .i64 0, .bool false, .bool false, .int .i64 0, .int .i64 0, .int .i64 0, .int .i64 0, .int .i64 0, .slice none 0 0, .int .i64 0, .int .i64 0, .slice none 0 0], ev (some (l, 5))]) ∧ Below Y5.heap.size Y5 w') := hide ((mread_nine Y5).mono (by
  rintro e w' ⟨X, rfl, ht, hb⟩
  obtain ⟨l, rfl⟩ := tells_is ht (by rw [nine_read]; decide)
  rw [nine_read]
  exact ⟨l, rfl, hb⟩))
 have HIV : Hid (∀ l W, Calls Tryz.prog 11 #[ev (some (l, 5)), .int .i64 5] W fun e w' => e = .returned (.bool true) ∧ Below W.heap.size W w') := hide (fun l W => is_ev (some (l, 5)) 5 W)
 have HFO : Hid (∀ l, ∃ F U, ev (some (l, (5 : Int))) = .iface F U) := hide (fun l => ev_form (l, 5))
 go_upto_region 5 with (first | (go_at_call 5; refine HR9.out.mono ?_; rintro e W7 ⟨l9, rfl, hb7⟩; obtain ⟨F9, U9, e9⟩ := HFO.out l9; have HIS9 := hide (HIV.out l9); rw [e9] at HIS9 ⊢; clear e9))
 obtain ⟨W6, hW6⟩ : ∃ Y, Y = W7.alloc (.cells #[.int .i64 0, .int .i64 0, .int .i64 0, .int .i64 0, .bool false, .bool false, .int .i64 0, .int .i64 0, .int .i64 0, .int .i64 0, .int .i64 0, .slice none 0 0, .int .i64 0, .int .i64 0, .slice none 0 0] 26) := ⟨_, rfl⟩
 have hb6 : Below W7.heap.size W7 W6 := by rw [hW6]; exact (Below.refl _ _).alloc (Nat.le_refl _) _
 rw [← hW6]
 have HX6 := hide (hb7.trans (hb6.mono hb7.size))
 have HBW := hide (HB5.out.trans (HX6.out.mono HB5.out.size))
 have HXM : Hid (Below W3.heap.size W3 W6) := hide ((HX4.out.trans (HX5.out.mono HX4.out.size)).trans (HX6.out.mono (Nat.le_trans HX4.out.size HX5.out.size)))
 have HXF : Hid (Below Y4.heap.size Y4 W6) := hide (HX5.out.trans (HX6.out.mono HX5.out.size))
 have HIA : Hid (∀ W, Below W6.heap.size W6 W → IsM W (.agg CM.toArray) exM) := hide (fun W h => (HI3.out.below HXM.out).below h)
 have HIY : Hid (∀ W, Below W6.heap.size W6 W → IsM W (.agg #[.int .i64 4, .int .i64 1, .int .i64 2, .int .i64 3, .bool false, .bool false, .int .i64 1, .int .i64 5, .int .i64 2, .int .i64 4, .int .i64 0, .slice a4 1 c4, .int .i64 0, .int .i64 0, .slice a5 0 c5]) exM) := hide (fun W h => (HI5.out.below HX6.out).below h)
 have HFF : Hid (∀ W, Below W6.heap.size W6 W → (fun W : World => (W.rangeAt (w.heap.size + 2) 0 (CM) ∧ W.rangeAt d4 0 ([.int .i64 4, .int .i64 1, .int .i64 2, .int .i64 3, .bool false, .bool false, .int .i64 1, .int .i64 5, .int .i64 2, .int .i64 4, .int .i64 0, .slice a4 1 c4, .int .i64 0, .int .i64 0, .slice a5 0 c5]) ∧ W.cell? ⟨d2, 0, none⟩ = some (.int .i64 4))) W) := hide (fun W h => ⟨range_bel (range_bel HR3.out HXM.out) h, range_bel (range_bel HR5.out HX6.out) h, (HF4.out W (HXF.out.trans (h.mono HXF.out.size))).1⟩)
 have HS0 := hide (hs_drew HFF.out (Nat.le_refl _))
 have HSAM := hide (fun W (h : Below W6.heap.size W6 W) => msame_eqE exM _ _ W (HIY.out W h) (HIA.out W h) nil_byt (by decide) exM_ln)
 have HCK := hide (fun W (h : Below W6.heap.size W6 W) => mcheck_any exM _ W (HIA.out W h) exM_tx (by decide))
 rw [exM_ev, show ev none = .nilIface from rfl] at HCK
 have HCB := hide (fun W => mcheck_any badM (.agg #[.int .i64 1, .int .i64 1, .int .i64 1, .int .i64 0, .bool false, .bool false, .int .i64 0, .int .i64 0, .int .i64 0, .int .i64 0, .int .i64 0, .slice none 0 0, .int .i64 0, .int .i64 0, .slice none 0 0]) W ⟨_, _, [], rfl, ⟨⟨.inl ⟨_, _, rfl, rfl⟩, fun q hq => by simp at hq⟩, rfl, .inl ⟨_, _, rfl, rfl⟩⟩⟩ (fun x hx => by simp [badM] at hx) (by decide))
 rw [bad_ev] at HCB
 have HISB : Hid (∀ W, Calls Tryz.prog 11 #[ev (some ([((⟨#[102, 114, 111, 109]⟩ : ByteArray), (1 : Int))], 2)), .int .i64 2] W fun e w' => e = .returned (.bool true) ∧ Below W.heap.size W w') := hide (fun W => is_ev (some ([(⟨#[102, 114, 111, 109]⟩, 1)], 2)) 2 W)
 have HCP := hide (fun W (h : Below W6.heap.size W6 W) => mcopy_any exM _ W (HIA.out W h) (by decide) (by decide) exM_ln)
 have HSC := hide (fun W (h : Below W6.heap.size W6 W) u (hu : IsM W u exM) => msame_eqE exM _ u W (HIA.out W h) hu nil_byt (by decide) exM_ln)
 have HSZ := hide (fun W (h : Below W6.heap.size W6 W) => msame_kind exM Ms.zero _ (.agg #[.int .i64 0, .int .i64 0, .int .i64 0, .int .i64 0, .bool false, .bool false, .int .i64 0, .int .i64 0, .int .i64 0, .int .i64 0, .int .i64 0, .slice none 0 0, .int .i64 0, .int .i64 0, .slice none 0 0]) W (HIA.out W h) (isM_zero W) (by decide))
 clear hW6 hb6 hb7 HR9 HIV HFO HX4 HX5 HX6 HXM HXF HB3 HB4 HB5 HR3 HR5 HI3 HI5 HF4 HS4 HIA HIY HTM
 refine wp_region_held_drew (S := fun W => (W.rangeAt (w.heap.size + 2) 0 (CM) ∧ W.rangeAt d4 0 ([.int .i64 4, .int .i64 1, .int .i64 2, .int .i64 3, .bool false, .bool false, .int .i64 1, .int .i64 5, .int .i64 2, .int .i64 4, .int .i64 0, .slice a4 1 c4, .int .i64 0, .int .i64 0, .slice a5 0 c5]) ∧ W.cell? ⟨d2, 0, none⟩ = some (.int .i64 4)) ∧ Below W6.heap.size W6 W ∧ W6.heap.size ≤ W.heap.size) (by kernel_rfl) HS0.out (fun hHeld => ?_)
 refine tk 0 28 (.nilIface) rfl rfl hHeld ?_
 simp only [Act.put, zA, zB, zC]
 refine tk 1 29 (.bool true) rfl rfl hHeld ?_
 simp only [Act.put, zA, zB, zC]
 refine tk 2 30 (.bool true) rfl rfl hHeld ?_
 simp only [Act.put, zA, zB, zC]
 refine tk 3 31 (.pointer (some ⟨d2, 0, none⟩)) rfl rfl hHeld ?_
 simp only [Act.put, zA, zB, zC]
 refine tk 4 32 (.int .i64 4) rfl rfl hHeld ?_
 simp only [Act.put, zA, zB, zC]
 refine tk 5 33 (.bool true) rfl rfl hHeld ?_
 simp only [Act.put, zA, zB, zC]
 refine tk 6 34 (.bool true) rfl rfl hHeld ?_
 simp only [Act.put, zA, zB, zC]
 refine tk 7 35 (.bool true) rfl rfl hHeld ?_
 simp only [Act.put, zA, zB, zC]
 refine tk 8 36 (.nilIface) rfl rfl hHeld ?_
 simp only [Act.put, zA, zB, zC]
 refine tk 9 37 (.bool true) rfl rfl hHeld ?_
 simp only [Act.put, zA, zB, zC]
 refine tk 10 38 (.bool true) rfl rfl hHeld ?_
 simp only [Act.put, zA, zB, zC]
 refine tk 11 39 (.bool true) rfl rfl hHeld ?_
 simp only [Act.put, zA, zB, zC]
 refine tky 12 40 (_) rfl rfl (yieldsIf_load_mid (by rfl) _ _ rfl _ _ rfl ([.int .i64 4, .int .i64 1, .int .i64 2, .int .i64 3, .bool false, .bool false, .int .i64 1, .int .i64 5, .int .i64 2, .int .i64 4, .int .i64 0, .slice a4 1 c4, .int .i64 0, .int .i64 0, .slice a5 0 c5]) _ (fun W hW => hW.1.2.1) Tryz.underlying26 rfl (by kernel_rfl)) hHeld ?_
 simp only [Act.put, zA, zB, zC]
 refine tky 13 41 (_) rfl rfl (yieldsIf_load_mid (by rfl) _ _ rfl _ _ rfl (CM) _ (fun W hW => hW.1.1) Tryz.underlying26 rfl (by rw [hcm]; kernel_rfl)) hHeld ?_
 simp only [Act.put, zA, zB, zC]
 refine wpAnyH_ready (rs := [14]) (by kernel_rfl) (by simp) ?_
 refine AllReadyH.cons (o := _) rfl (fun K hK => ?_) AllReadyH.nil
 go_simp
 go_at_call 10
 refine (HSAM.out _ hHeld.2.1).mono ?_
 rintro e w42 ⟨rfl, hb⟩
 go_wp2_with fail
 refine hK.out _ _ ?_ (fun hHeld1 => ?_)
 ·exact hs_call HFF.out hb hHeld
 clear hK K hHeld
 have hHeld := hHeld1
 clear hHeld1
 clear hb
 refine tk 15 43 (.bool true) rfl rfl hHeld ?_
 simp only [Act.put, zA, zB, zC]
 refine tk 16 44 (.bool true) rfl rfl hHeld ?_
 simp only [Act.put, zA, zB, zC]
 refine tk 17 45 (.iface F9 U9) rfl rfl hHeld ?_
 simp only [Act.put, zA, zB, zC]
 refine wpAnyH_ready (rs := [18]) (by kernel_rfl) (by simp) ?_
 refine AllReadyH.cons (o := _) rfl (fun K hK => ?_) AllReadyH.nil
 go_simp
 go_at_call 11
 refine (HIS9.out _).mono ?_
 rintro e w46 ⟨rfl, hb⟩
 go_wp2_with fail
 refine hK.out _ _ ?_ (fun hHeld1 => ?_)
 ·exact hs_call HFF.out hb hHeld
 clear hK K hHeld
 have hHeld := hHeld1
 clear hHeld1
 clear hb
 refine tk 19 47 (.bool true) rfl rfl hHeld ?_
 simp only [Act.put, zA, zB, zC]
 refine tk 20 48 (.bool true) rfl rfl hHeld ?_
 simp only [Act.put, zA, zB, zC]
 refine tky 21 49 (_) rfl rfl (yieldsIf_load_mid (by rfl) _ _ rfl _ _ rfl (CM) _ (fun W hW => hW.1.1) Tryz.underlying26 rfl (by rw [hcm]; kernel_rfl)) hHeld ?_
 simp only [Act.put, zA, zB, zC]
 refine wpAnyH_ready (rs := [22]) (by kernel_rfl) (by simp) ?_
 refine AllReadyH.cons (o := _) rfl (fun K hK => ?_) AllReadyH.nil
 go_simp
 go_at_call 12
 refine (HCK.out _ hHeld.2.1).mono ?_
 rintro e w50 ⟨rfl, hb⟩
 go_wp2_with fail
 refine hK.out _ _ ?_ (fun hHeld1 => ?_)
 ·exact hs_call HFF.out hb hHeld
 clear hK K hHeld
 have hHeld := hHeld1
 clear hHeld1
 clear hb
 refine tk 23 51 (.bool true) rfl rfl hHeld ?_
 simp only [Act.put, zA, zB, zC]
 refine tk 24 52 (.bool true) rfl rfl hHeld ?_
 simp only [Act.put, zA, zB, zC]
 refine tk 25 53 (.bool true) rfl rfl hHeld ?_
 simp only [Act.put, zA, zB, zC]
 refine tk 26 54 (.agg #[.int .i64 1, .int .i64 1, .int .i64 1, .int .i64 0, .bool false, .bool false, .int .i64 0, .int .i64 0, .int .i64 0, .int .i64 0, .int .i64 0, .slice none 0 0, .int .i64 0, .int .i64 0, .slice none 0 0]) rfl rfl hHeld ?_
 simp only [Act.put, zA, zB, zC]
 refine wpAnyH_ready (rs := [27]) (by kernel_rfl) (by simp) ?_
 refine AllReadyH.cons (o := _) rfl (fun K hK => ?_) AllReadyH.nil
 go_simp
 go_at_call 12
 refine (HCB.out _).mono ?_
 rintro e w55 ⟨rfl, hb⟩
 go_wp2_with fail
 refine hK.out _ _ ?_ (fun hHeld1 => ?_)
 ·exact hs_call HFF.out hb hHeld
 clear hK K hHeld
 have hHeld := hHeld1
 clear hHeld1
 clear hb
 refine wpAnyH_ready (rs := [28]) (by kernel_rfl) (by simp) ?_
 refine AllReadyH.cons (o := _) rfl (fun K hK => ?_) AllReadyH.nil
 go_simp
 go_at_call 11
 refine (HISB.out _).mono ?_
 rintro e w56 ⟨rfl, hb⟩
 go_wp2_with fail
 refine hK.out _ _ ?_ (fun hHeld1 => ?_)
 ·exact hs_call HFF.out hb hHeld
 clear hK K hHeld
 have hHeld := hHeld1
 clear hHeld1
 clear hb
 refine tk 29 57 (.bool true) rfl rfl hHeld ?_
 simp only [Act.put, zA, zB, zC]
 refine tk 30 58 (.bool true) rfl rfl hHeld ?_
 simp only [Act.put, zA, zB, zC]
 refine tky 31 59 (_) rfl rfl (yieldsIf_load_mid (by rfl) _ _ rfl _ _ rfl (CM) _ (fun W hW => hW.1.1) Tryz.underlying26 rfl (by rw [hcm]; kernel_rfl)) hHeld ?_
 simp only [Act.put, zA, zB, zC]
 refine tky 32 60 (_) rfl rfl (yieldsIf_load_mid (by rfl) _ _ rfl _ _ rfl (CM) _ (fun W hW => hW.1.1) Tryz.underlying26 rfl (by rw [hcm]; kernel_rfl)) hHeld ?_
 simp only [Act.put, zA, zB, zC]
 refine wpAnyH_ready (rs := [33]) (by kernel_rfl) (by simp) ?_
 refine AllReadyH.cons (o := _) rfl (fun K hK => ?_) AllReadyH.nil
 go_simp
 go_at_call 13
 refine (HCP.out _ hHeld.2.1).mono ?_
 rintro e w61 ⟨u61, rfl, hx61, hb⟩
 go_wp2_with fail
 refine hK.out _ _ ?_ (fun hHeld1 => ?_)
 ·exact hs_call HFF.out hb hHeld
 clear hK K hHeld
 have hHeld := hHeld1
 clear hHeld1
 have HX61 := hide hx61
 clear hx61 hb
 refine wpAnyH_ready (rs := [34]) (by kernel_rfl) (by simp) ?_
 refine AllReadyH.cons (o := _) rfl (fun K hK => ?_) AllReadyH.nil
 go_simp
 go_at_call 10
 refine (HSC.out _ hHeld.2.1 _ HX61.out).mono ?_
 rintro e w62 ⟨rfl, hb⟩
 go_wp2_with fail
 refine hK.out _ _ ?_ (fun hHeld1 => ?_)
 ·exact hs_call HFF.out hb hHeld
 clear hK K hHeld
 have hHeld := hHeld1
 clear hHeld1
 clear hb HX61
 refine tk 35 63 (.bool true) rfl rfl hHeld ?_
 simp only [Act.put, zA, zB, zC]
 refine tk 36 64 (.bool true) rfl rfl hHeld ?_
 simp only [Act.put, zA, zB, zC]
 refine tky 37 65 (_) rfl rfl (yieldsIf_load_mid (by rfl) _ _ rfl _ _ rfl (CM) _ (fun W hW => hW.1.1) Tryz.underlying26 rfl (by rw [hcm]; kernel_rfl)) hHeld ?_
 simp only [Act.put, zA, zB, zC]
 refine tk 38 66 (.agg #[.int .i64 0, .int .i64 0, .int .i64 0, .int .i64 0, .bool false, .bool false, .int .i64 0, .int .i64 0, .int .i64 0, .int .i64 0, .int .i64 0, .slice none 0 0, .int .i64 0, .int .i64 0, .slice none 0 0]) rfl rfl hHeld ?_
 simp only [Act.put, zA, zB, zC]
 refine wpAnyH_ready (rs := [39]) (by kernel_rfl) (by simp) ?_
 refine AllReadyH.cons (o := _) rfl (fun K hK => ?_) AllReadyH.nil
 go_simp
 go_at_call 10
 refine (HSZ.out _ hHeld.2.1).mono ?_
 rintro e w67 ⟨rfl, hb⟩
 go_wp2_with fail
 refine hK.out _ _ ?_ (fun hHeld1 => ?_)
 ·exact hs_call HFF.out hb hHeld
 clear hK K hHeld
 have hHeld := hHeld1
 clear hHeld1
 clear hb
 refine tk 40 68 (.bool true) rfl rfl hHeld ?_
 simp only [Act.put, zA, zB, zC]
 refine tk 41 69 (.bool true) rfl rfl hHeld ?_
 simp only [Act.put, zA, zB, zC]
 refine tk 42 0 (.bool true) rfl rfl hHeld ?_
 simp only [Act.put, zA, zB]
 refine wpAnyH_done (by kernel_rfl) ?_ _
 have HBF := hide (HBW.out.trans (hHeld.2.1.mono HBW.out.size))
 clear hHeld
 go_wp2_with fail
 go_ret
 exact ⟨rfl, HBF.out⟩
end Go.Proofs.YtjjpfajbljbelaaGreatDoor
