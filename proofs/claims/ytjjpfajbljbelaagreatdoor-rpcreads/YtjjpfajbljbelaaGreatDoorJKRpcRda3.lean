/-
  THE MESSAGE THAT A FRAME IS (rpc.Read): what the mathematics says. Conditions: the bytes' cells hold them, each is a byte, no more than a hundred thousand; errors.errorType is laid.
  A MESSAGE IN NEW MEMORY (rpc.Copy): the same message. Conditions: its slices' cells hold what they hold, the records' rows are not too long.
  WHETHER TWO MESSAGES ARE THE SAME, AND NO MORE THAN IS WAITED FOR, BY THE DOCUMENT (castellanref06.All, castellanref07.Same, castellanref07.Short). Conditions: their slices' cells hold what they hold, the records' rows are not too long.
-/
import Derived.Test.YtjjpfajbljbelaaGreatDoorJKRpcPtna5
import Derived.Test.YtjjpfajbljbelaaGreatDoorJKRpcSea3
namespace Go.Proofs.YtjjpfajbljbelaaGreatDoor
open Go.RowKit
set_option maxRecDepth 100000
set_option maxHeartbeats 32000000
theorem results_mid2 {P : Program} {fn : Func} {q r : Tmp} {ty : TypeId} (h : fn.results = #[.cell q ty, .tmp r]) (tmps : Array Value) (w : World) (b : Nat) (cs : List Value) (d : TypeDesc) (e : Value) (hp : tmps.getD q undef = .pointer (some ⟨b, 0, none⟩)) (he : tmps.getD r undef = e) (hc : w.rangeAt b 0 cs) (hu : P.underlying ty = some d) (hd : d.isRow = true) (hi : (P.info? ty).map (·.size) = some cs.length) :
  (results fn tmps).run P w = .ok (.tuple #[.agg cs.toArray, e]) w := by
 have hp' : tmps[q]?.getD undef = .pointer (some ⟨b, 0, none⟩) := by simpa using hp
 have he' : tmps[r]?.getD undef = e := by simpa using he
 simp [results, h, hp', he', asAddr, run_loadVar_mid w b 0 ty cs d hc hu hd hi]
theorem there_newM (w : World) : (w.alloc (.cells #[.int .i64 0, .int .i64 0, .int .i64 0, .int .i64 0, .bool false, .bool false, .int .i64 0, .int .i64 0, .int .i64 0, .int .i64 0, .int .i64 0, .slice none 0 0, .int .i64 0, .int .i64 0, .slice none 0 0] 26)).there w.heap.size 0 15 :=
 fun j hj => ⟨(range_new w [.int .i64 0, .int .i64 0, .int .i64 0, .int .i64 0, .bool false, .bool false, .int .i64 0, .int .i64 0, .int .i64 0, .int .i64 0, .int .i64 0, .slice none 0 0, .int .i64 0, .int .i64 0, .slice none 0 0] 26).isSome j hj, by simp⟩
theorem frame_in (w : World) (k : Int) (ao : Option Addr) (n cap : Nat) {X : World} (hX : X = ((w.alloc (.cells #[.int .i64 k, .slice ao n cap] 32)).alloc (.cells #[.int .i64 0, .int .i64 0, .int .i64 0, .int .i64 0, .bool false, .bool false, .int .i64 0, .int .i64 0, .int .i64 0, .int .i64 0, .int .i64 0, .slice none 0 0, .int .i64 0, .int .i64 0, .slice none 0 0] 26))) : Below w.heap.size w X ∧ X.heap.size = w.heap.size + 2 ∧ ∀ W, Below (w.heap.size + 2) X W → W.cell? ⟨w.heap.size, 0, none⟩ = some (.int .i64 k) ∧ W.cell? ⟨w.heap.size, 1, none⟩ = some (.slice ao n cap) ∧ W.there (w.heap.size + 1) 0 15 := by
 have hz : X.heap.size = w.heap.size + 2 := by rw [hX]; simp
 refine ⟨by rw [hX]; exact ((Below.refl _ _).alloc (Nat.le_refl _) _).alloc (by simp) _, hz, fun W h => ?_⟩
 have hc : ∀ b i, b < w.heap.size + 2 → W.cell? ⟨b, i, none⟩ = X.cell? ⟨b, i, none⟩ := fun b i hb => h.cell (p := ⟨b, i, none⟩) hb
 have hf : ∀ b i, b < w.heap.size + 2 → W.frozen? ⟨b, i, none⟩ = X.frozen? ⟨b, i, none⟩ := fun b i hb => h.frozen (p := ⟨b, i, none⟩) hb
 have ht := there_newM (w.alloc (.cells #[.int .i64 k, .slice ao n cap] 32))
 rw [show (w.alloc (.cells #[.int .i64 k, .slice ao n cap] 32)).heap.size = w.heap.size + 1 by simp, ← hX] at ht
 exact ⟨by rw [hc _ _ (by omega), hX]; simp, by rw [hc _ _ (by omega), hX]; simp, fun j hj => by rw [hc _ _ (by omega), hf _ _ (by omega)]; exact ht j hj⟩
theorem laidM (W : World) (m : Ms) (ub ud : Value) {W1 : World} (h1 : W1 = (W.alloc (.cells #[.int .i64 0, .int .i64 0, .int .i64 0, .int .i64 0, .bool false, .bool false, .int .i64 0, .int .i64 0, .int .i64 0, .int .i64 0, .int .i64 0, .slice none 0 0, .int .i64 0, .int .i64 0, .slice none 0 0] 26)).setCells W.heap.size 0 (cellsM m.k0 ub ud)) : Below W.heap.size W W1 ∧ W1.rangeAt W.heap.size 0 (cellsM m.k0 ub ud) ∧ W.heap.size < W1.heap.size ∧ W1.frozen? ⟨W.heap.size, 0, none⟩ = false ∧ (W1.setCell ⟨W.heap.size, 0, none⟩ (.int .i64 m.k)).rangeAt W.heap.size 0 (cellsM m ub ud) := by
 have hbl : Below W.heap.size W (W.alloc (.cells #[.int .i64 0, .int .i64 0, .int .i64 0, .int .i64 0, .bool false, .bool false, .int .i64 0, .int .i64 0, .int .i64 0, .int .i64 0, .int .i64 0, .slice none 0 0, .int .i64 0, .int .i64 0, .slice none 0 0] 26)) := (Below.refl _ _).alloc (Nat.le_refl _) _
 have hrg : W1.rangeAt W.heap.size 0 (cellsM m.k0 ub ud) := by rw [h1]; exact World.rangeAt_setCells_same _ _ _ _ (there_newM W)
 refine ⟨by rw [h1]; exact below_many (Nat.le_refl _) _ _ hbl, hrg, cell_block (hrg 0 _ rfl), ?_, range_set hrg (i := 0) (show 0 < 15 by decide)⟩
 rw [h1, World.frozen?_setCells]
 simp
theorem there_bel {W W' : World} {b n : Nat} (h : W.there b 0 n) (hb : Below W.heap.size W W') (hl : b < W.heap.size) : W'.there b 0 n := fun j hj => by
 rw [hb.cell (p := ⟨b, 0 + j, none⟩) hl, hb.frozen (p := ⟨b, 0 + j, none⟩) hl]
 exact h j hj
theorem chk_tx {r : Rc} (h : (chk r).2.2 = 0) : TxR r := by
 have hi := chk_is h
 have hn : ∀ (S : List UInt8) (b : Bool), nameA S b = true → S.length ≤ 1000 := fun S b e => by
  have := nameA_asks e
  split at this
  ·omega
  ·rw [this]; simp
 exact ⟨hn _ _ hi.nm, hn _ _ hi.ky, by have := hi.va; omega, hn _ _ hi.rk⟩
theorem msOk_tx {m : Ms} (h : MsOk m) : TxM m ∧ m.bs.length ≤ 8 := by
 refine ⟨fun x hx r hr => chk_tx ((bw_ok (h.bs x hx).1).2.2.2 r hr), ?_⟩
 have h1 := h.ct.1
 split at h1
 ·omega
 ·have : (m.bs.length : Int) = 0 := h1
  omega
theorem body_kM (l : List Int) (k : Int) (s : Gs) : (bodyM l k s).2.k = k := rfl
theorem erN_ev (op : ByteArray) (a c : Int) (h : c ≠ 0) : erN op a c = ev (some ([(op, a)], c)) := by
 unfold erN
 rw [if_neg h]
 rfl
def RdP (k : Int) (l : List Int) (w : World) (e : Ending) (w' : World) : Prop :=
 ∃ vx X, e = .returned (.tuple #[vx, ev X]) ∧ IsMn (fun b => w.heap.size ≤ b) w' vx (readM k l).2 ∧ Tells X (readM k l).1 ∧ Below w.heap.size w w'
theorem mread_kindz (k : Int) (ao : Option Addr) (n cap : Nat) (l : List Int) (w : World) (hk : ¬ (1 ≤ k ∧ k ≤ 8)) : Calls Tryz.prog 5 #[.agg #[.int .i64 k, .slice ao n cap]] w fun e w' => e = .returned (.tuple #[.agg (cellsM Ms.zero (.slice none 0 0) (.slice none 0 0)).toArray, ev (some ([(⟨#[107, 105, 110, 100]⟩, k)], 5))]) ∧ Tells (some ([(⟨#[107, 105, 110, 100]⟩, k)], 5)) (readM k l).1 ∧ Below w.heap.size w w' := by
 have HS := hide (fun W => msubj_any k W)
 rw [show kndM k = false from decide_eq_false hk] at HS
 have HRM : Hid (readM k l = ((⟨#[107, 105, 110, 100]⟩, k, 5), Ms.zero)) := hide (by unfold readM; rw [if_pos (by omega)])
 obtain ⟨X, hX⟩ : ∃ X, X = ((w.alloc (.cells #[.int .i64 k, .slice ao n cap] 32)).alloc (.cells #[.int .i64 0, .int .i64 0, .int .i64 0, .int .i64 0, .bool false, .bool false, .int .i64 0, .int .i64 0, .int .i64 0, .int .i64 0, .int .i64 0, .slice none 0 0, .int .i64 0, .int .i64 0, .slice none 0 0] 26)) := ⟨_, rfl⟩
 obtain ⟨hb, hz, hF⟩ := frame_in w k ao n cap hX
 have HB := hide hb
 obtain ⟨c0, c1, ht⟩ := hF X (by rw [← hz]; exact Below.refl _ _)
 have HTH := hide ht
 clear hb hF ht hz
 go_enter Tryz.func5, Tryz.ntmps5
 go_upto_region 1 with fail
 rw [← hX]
 clear hX
 go_wp2_with (first | ((first | (go_at_call 14; refine (HS.out _).mono ?_) | (go_at_call 15; refine (new_any _ _ _ _).mono ?_)); rintro e w1 ⟨rfl, hw1⟩; rw [hw1]; clear hw1 w1) | (refine wpList_store_mid rfl _ _ _ rfl (w.heap.size + 1) 0 (cellsM Ms.zero (.slice none 0 0) (.slice none 0 0)).toArray rfl rfl HTH.out (by kernel_rfl) (cellsM_one Ms.zero none none 0 0 0 0) ?_))
 exact bodyPost_ret (v := .tuple #[.agg (cellsM Ms.zero (.slice none 0 0) (.slice none 0 0)).toArray, ev (some ([(⟨#[107, 105, 110, 100]⟩, k)], 5))]) (results_mid2 Tryz.results5 _ _ (w.heap.size + 1) _ _ _ rfl rfl (World.rangeAt_setCells_same _ _ _ _ HTH.out) Tryz.underlying26 rfl (by kernel_rfl)) rfl ⟨rfl, by rw [HRM.out]; exact tells_one _ _ _ (by decide), below_many (Nat.le_succ _) _ _ HB.out⟩
theorem mread_kind (k : Int) (ao : Option Addr) (n cap : Nat) (l : List Int) (w : World) (hk : ¬ (1 ≤ k ∧ k ≤ 8)) : Calls Tryz.prog 5 #[.agg #[.int .i64 k, .slice ao n cap]] w (RdP k l w) := by
 refine (mread_kindz k ao n cap l w hk).mono ?_
 rintro e w' ⟨rfl, ht, hb⟩
 exact ⟨_, _, rfl, by rw [show (readM k l).2 = Ms.zero by unfold readM; rw [if_pos (by omega)]]; exact isMn_zero _ _, ht, hb⟩
theorem mread_go (k : Int) (ao : Option Addr) (cap : Nat) (l : List Int) (w : World) (hk : 1 ≤ k ∧ k ≤ 8) (hv : Sl bc w (.slice ao l.length cap) l) (hl : l.length ≤ 100000) (hby : Byt l) (hg : Hnd w) : Calls Tryz.prog 5 #[.agg #[.int .i64 k, .slice ao l.length cap]] w (RdP k l w) := by
 have HS := hide (fun W => msubj_any k W)
 rw [show kndM k = true from decide_eq_true hk] at HS
 have HK := hide hk
 have HBY := hide hby
 have HV := hide hv
 have HG := hide hg
 have hpos : 0 < w.heap.size := cell_block hg
 have HRM : Hid (readM k l = if (endS l (bodyM l k (okS 0)).1).c ≠ 0 then (((endS l (bodyM l k (okS 0)).1).op, whS (endS l (bodyM l k (okS 0)).1), (endS l (bodyM l k (okS 0)).1).c), Ms.zero) else if (chkM (bodyM l k (okS 0)).2).2.2 ≠ 0 then (chkM (bodyM l k (okS 0)).2, Ms.zero) else ((⟨#[]⟩, 0, 0), (bodyM l k (okS 0)).2)) := hide (by unfold readM; rw [if_neg (by omega)])
 have HRUN : Hid ((endS l (bodyM l k (okS 0)).1).c = 0 → MsOk (bodyM l k (okS 0)).2) := hide (fun h => by
  obtain ⟨e1, _, _⟩ := endS_c h
  obtain ⟨b, _, _, _, _, _, o5⟩ := bodyM_run l hby k 0 (Nat.zero_le _) e1
  exact o5)
 have hkk := body_kM l k (okS 0)
 obtain ⟨RM, hRM⟩ : ∃ x, readM k l = x := ⟨_, rfl⟩
 rw [hRM] at HRM
 have HRMM := hide hRM
 clear hRM
 obtain ⟨X, hX⟩ : ∃ X, X = ((w.alloc (.cells #[.int .i64 k, .slice ao l.length cap] 32)).alloc (.cells #[.int .i64 0, .int .i64 0, .int .i64 0, .int .i64 0, .bool false, .bool false, .int .i64 0, .int .i64 0, .int .i64 0, .int .i64 0, .int .i64 0, .slice none 0 0, .int .i64 0, .int .i64 0, .slice none 0 0] 26)) := ⟨_, rfl⟩
 obtain ⟨hb, hz, hF⟩ := frame_in w k ao l.length cap hX
 have hz2 : w.heap.size + 2 ≤ X.heap.size := by omega
 have hz3' : X.heap.size ≤ w.heap.size + 2 := by omega
 have HB := hide hb
 have HF := hide hF
 obtain ⟨c0, c1, _⟩ := hF X (by rw [← hz]; exact Below.refl _ _)
 clear hb hF hk hby hv hg hz
 go_enter Tryz.func5, Tryz.ntmps5
 go_upto_region 1 with fail
 rw [← hX]
 clear hX
 have HRD := hide (read_any ao l.length cap X)
 go_upto_region 5 with (first | ((go_at_call 14; refine (HS.out _).mono ?_); rintro e w1 ⟨rfl, hw1⟩; rw [hw1]; clear hw1 w1) | (go_at_call 16; refine HRD.out.mono ?_; rintro e W1 ⟨rfl, hr1, hb1⟩))
 clear c0 c1 HRD
 have hlt1 : X.heap.size < W1.heap.size := hr1.lt
 have HN := hide (mrf_any X.heap.size (.slice ao l.length cap) l (okS 0) k W1 hr1 (((HV.out.below HB.out).out (Nat.le_refl _)).below hb1) hl HBY.out (Nat.zero_le _) HK.out ((HG.out.below HB.out).below hb1) (by show X.heap.size ≠ 0; omega))
 have HB1 : Hid (Below (w.heap.size + 2) X W1) := hide (hb1.mono (by omega))
 generalize bodyM l k (okS 0) = BM at *
 obtain ⟨sn, m⟩ := BM
 simp only at HN HRM HRUN hkk
 subst hkk
 clear hr1 hb1 HV HG HBY
 have HTN := hide (fun W => there_newM W)
 go_upto_region 6 with (first | (go_at_call 17; refine HN.out.mono ?_; rintro e W2 ⟨vx, rfl, hx2, hr2, hb2⟩; obtain ⟨ub, ud, qs, rfl, hbl2, hqs, hda2⟩ := hx2; obtain ⟨ab, cb, e1⟩ := hbl2.bl.form; obtain ⟨ad, cd, e2⟩ := hda2.sl.form; subst e1 e2; have HON := hide (cellsM_one m.k0 ab ad qs.length cb m.k0.da.length cd)) | (refine wpList_store_mid rfl _ _ _ rfl W2.heap.size 0 (cellsM m.k0 (.slice ab qs.length cb) (.slice ad m.k0.da.length cd)).toArray rfl rfl (HTN.out W2) (by kernel_rfl) HON.out ?_))
 have HB2 : Hid (Below (w.heap.size + 2) X W2) := hide (below_bx HB1.out hb2 (by omega) (by omega))
 obtain ⟨Y, hY⟩ : ∃ Y, Y = (W2.alloc (.cells #[.int .i64 0, .int .i64 0, .int .i64 0, .int .i64 0, .bool false, .bool false, .int .i64 0, .int .i64 0, .int .i64 0, .int .i64 0, .int .i64 0, .slice none 0 0, .int .i64 0, .int .i64 0, .slice none 0 0] 26)).setCells W2.heap.size 0 (cellsM m.k0 (.slice ab qs.length cb) (.slice ad m.k0.da.length cd)) := ⟨_, rfl⟩
 obtain ⟨hbY, hrY, hzY, yf, hrZ⟩ := laidM W2 m _ _ hY
 rw [← hY]
 have y0 := hrY 0 _ rfl
 rw [Nat.zero_add] at y0
 change _ = some (Value.int .i64 0) at y0
 have HBY : Hid (Below (w.heap.size + 2) X Y) := hide (HB2.out.trans (hbY.mono (by have := HB2.out.size; omega)))
 obtain ⟨c0, c1, _⟩ := HF.out Y HBY.out
 have hD : X.heap.size < W2.heap.size := by have := hb2.size; omega
 obtain ⟨Z, hZ⟩ : ∃ Z, Z = Y.setCell ⟨W2.heap.size, 0, none⟩ (.int .i64 m.k) := ⟨_, rfl⟩
 have HBZ : Hid (Below (w.heap.size + 2) X Z) := hide (by rw [hZ]; exact HBY.out.setCell (by exact (by omega : w.heap.size + 2 ≤ W2.heap.size)) _)
 have hbYZ : ∀ b i, b ≠ W2.heap.size → Z.cell? ⟨b, i, none⟩ = Y.cell? ⟨b, i, none⟩ := fun b i hb => by rw [hZ]; exact World.cell?_setCell_other _ _ _ _ (fun e => hb (congrArg Addr.block e).symm)
 have HIS : Hid (IsMn (fun b => W1.heap.size ≤ b ∧ b ≠ W2.heap.size) Z (.agg (cellsM m (.slice ab qs.length cb) (.slice ad m.k0.da.length cd)).toArray) m) := hide ⟨_, _, qs, rfl, (hbl2.imp (ok' := fun b => W1.heap.size ≤ b ∧ b ≠ W2.heap.size) (W' := Z) (fun b hl hk => ⟨hk, by omega⟩) (fun b i hl hk => (hbYZ b i (by omega)).trans (hbY.cell (p := ⟨b, i, none⟩) hl))), hqs, hda2.imp (fun b hl hk => ⟨hk, by omega⟩) (fun b i hl hk => (hbYZ b i (by omega)).trans (hbY.cell (p := ⟨b, i, none⟩) hl))⟩
 rw [← hZ] at hrZ
 have HRZ := hide hrZ
 have HE := hide (rend_gs X.heap.size ao cap l sn Z (by rw [hZ]; exact rdG_set (hr2.below hbY) (by omega)))
 have hzZ : W2.heap.size < Z.heap.size := by rw [hZ]; simpa [World.setCell] using hzY
 have HZE : Hid (Y.setCell ⟨W2.heap.size, 0, none⟩ (.int .i64 m.k) = Z) := hide hZ.symm
 generalize endS l sn = sE at *
 clear hr2 hb2 hbl2 hqs hda2 hrY hbY hY HN HB1 HB2 HBY hbYZ hrZ hzY HON HTN hZ
 generalize W2.heap.size = D at *
 go_upto_region 7 with fail
 rw [HZE.out]
 clear y0 yf c0 c1 HZE
 go_upto_region 8 with (first | (go_at_call 18; refine HE.out.mono ?_; rintro e W3 ⟨rfl, hr3, hb3⟩))
 have HB3 : Hid (Below (w.heap.size + 2) X W3) := hide (below_bx HBZ.out hb3 (by omega) (by have := HBZ.out.size; omega))
 have HTH := hide (HF.out W3 HB3.out).2.2
 have HR3 := hide (range_imp HRZ.out (fun i _ => hb3.cell hzZ (by omega)))
 have HI3 := hide (HIS.out.imp (ok' := fun b => W1.heap.size ≤ b ∧ b ≠ D) (W' := W3) (fun _ _ q => q) (fun b i hl hk => hb3.cell hl (by omega)))
 have HBF : Hid (Below w.heap.size w W3) := hide (HB.out.trans (HB3.out.mono (by omega)))
 have hz3 := HB3.out.size
 clear hr3 hb3 HE HRZ HIS HBZ HF hzZ
 by_cases hc : sE.c = 0
 case neg =>
  have e1 : RM = ((sE.op, whS sE, sE.c), Ms.zero) := by rw [HRM.out, if_pos hc]
  have HRE := hide e1
  have HWS : Hid (whS sE = (sE.pt : Int)) := hide (if_neg hc)
  clear e1
  rw [erN_ev _ _ _ hc]
  obtain ⟨F, U, hFU⟩ := ev_form ([(sE.op, (sE.pt : Int))], sE.c)
  rw [hFU]
  have HFU := hide hFU
  clear hFU
  go_wp2_with (refine wpList_store_mid rfl _ _ _ rfl (w.heap.size + 1) 0 (cellsM Ms.zero (.slice none 0 0) (.slice none 0 0)).toArray rfl rfl HTH.out (by kernel_rfl) (cellsM_one Ms.zero none none 0 0 0 0) ?_)
  exact bodyPost_ret (v := .tuple #[.agg (cellsM Ms.zero (.slice none 0 0) (.slice none 0 0)).toArray, .iface F U]) (results_mid2 Tryz.results5 _ _ (w.heap.size + 1) _ _ _ rfl rfl (World.rangeAt_setCells_same _ _ _ _ HTH.out) Tryz.underlying26 rfl (by kernel_rfl)) rfl ⟨_, some ([(sE.op, (sE.pt : Int))], sE.c), by rw [HFU.out], by rw [HRMM.out, HRE.out]; exact isMn_zero _ _, by rw [HRMM.out, HRE.out, HWS.out]; exact tells_one _ _ _ hc, below_many (Nat.le_succ _) _ _ HBF.out⟩
 rw [show erN sE.op sE.pt sE.c = .nilIface from if_pos hc]
 obtain ⟨htx, h8⟩ := msOk_tx (HRUN.out hc)
 have HC := hide (mcheck_any m _ W3 HI3.out.is htx (by omega))
 have HTL := hide (tells_M m)
 have HEN := hide (evM_none (m := m))
 have HRE : Hid (RM = if (chkM m).2.2 ≠ 0 then (chkM m, Ms.zero) else ((⟨#[]⟩, 0, 0), m)) := hide (by rw [HRM.out, if_neg (fun q => q hc)])
 clear htx HRUN HRM
 generalize evM m = X9 at *
 rcases X9 with _ | q
 ·have h0 : (chkM m).2.2 = 0 := HEN.out.1 rfl
  have HR5 : Hid (RM = ((⟨#[]⟩, 0, 0), m)) := hide (by rw [HRE.out, if_neg (fun q => q h0)])
  clear h0 HRE HTL HEN
  rw [show ev none = .nilIface from rfl] at HC
  go_upto_region 11 with (first | (refine wpList_load_mid rfl _ _ rfl _ _ rfl _ _ HR3.out Tryz.underlying26 rfl (by kernel_rfl) ?_) | (go_at_call 12; refine HC.out.mono ?_; rintro e W4 ⟨rfl, hb4⟩; have HR4 := hide (range_bel HR3.out hb4); have HT4 : Hid (W4.there (w.heap.size + 1) 0 15) := hide (there_bel HTH.out hb4 (by omega)); have HI4 := hide (HI3.out.imp (ok' := fun b => W1.heap.size ≤ b ∧ b ≠ D) (W' := W4) (fun _ _ q => q) (fun b i hl hk => hb4.cell (p := ⟨b, i, none⟩) hl)); have HB4 := hide (HBF.out.trans (hb4.mono HBF.out.size)); clear hb4))
  have HON := hide (cellsM_one m ab ad qs.length cb m.k0.da.length cd)
  go_wp2_with (first | (refine wpList_load_mid rfl _ _ rfl _ _ rfl _ _ HR4.out Tryz.underlying26 rfl (by kernel_rfl) ?_) | (refine wpList_store_mid rfl _ _ _ rfl (w.heap.size + 1) 0 (cellsM m (.slice ab qs.length cb) (.slice ad m.k0.da.length cd)).toArray rfl rfl HT4.out (by kernel_rfl) HON.out ?_))
  exact bodyPost_ret (v := .tuple #[.agg (cellsM m (.slice ab qs.length cb) (.slice ad m.k0.da.length cd)).toArray, .nilIface]) (results_mid2 Tryz.results5 _ _ (w.heap.size + 1) _ _ _ rfl rfl (World.rangeAt_setCells_same _ _ _ _ HT4.out) Tryz.underlying26 rfl (by kernel_rfl)) rfl ⟨_, none, rfl, by rw [HRMM.out, HR5.out]; exact HI4.out.imp (fun b _ hk => by omega) (fun b i _ hk => cell_many (by omega) _ _), by rw [HRMM.out, HR5.out]; rfl, below_many (Nat.le_succ _) _ _ HB4.out⟩
 ·have h0 : (chkM m).2.2 ≠ 0 := fun e => by have := HEN.out.2 e; cases this
  have HR5 : Hid (RM = (chkM m, Ms.zero)) := hide (by rw [HRE.out, if_pos h0])
  clear h0 HRE HEN
  obtain ⟨F, U, hFU⟩ := ev_form q
  rw [hFU] at HC
  have HFU := hide hFU
  clear hFU
  go_upto_region 11 with (first | (refine wpList_load_mid rfl _ _ rfl _ _ rfl _ _ HR3.out Tryz.underlying26 rfl (by kernel_rfl) ?_) | (go_at_call 12; refine HC.out.mono ?_; rintro e W4 ⟨rfl, hb4⟩; have HT4 : Hid (W4.there (w.heap.size + 1) 0 15) := hide (there_bel HTH.out hb4 (by omega)); have HB4 := hide (HBF.out.trans (hb4.mono HBF.out.size)); clear hb4))
  go_wp2_with (refine wpList_store_mid rfl _ _ _ rfl (w.heap.size + 1) 0 (cellsM Ms.zero (.slice none 0 0) (.slice none 0 0)).toArray rfl rfl HT4.out (by kernel_rfl) (cellsM_one Ms.zero none none 0 0 0 0) ?_)
  exact bodyPost_ret (v := .tuple #[.agg (cellsM Ms.zero (.slice none 0 0) (.slice none 0 0)).toArray, .iface F U]) (results_mid2 Tryz.results5 _ _ (w.heap.size + 1) _ _ _ rfl rfl (World.rangeAt_setCells_same _ _ _ _ HT4.out) Tryz.underlying26 rfl (by kernel_rfl)) rfl ⟨_, some q, by rw [HFU.out], by rw [HRMM.out, HR5.out]; exact isMn_zero _ _, by rw [HRMM.out, HR5.out]; exact HTL.out, below_many (Nat.le_succ _) _ _ HB4.out⟩
theorem mread_any (k : Int) (v : Value) (l : List Int) (w : World) (hv : Sl bc w v l) (hl : l.length ≤ 100000) (hby : Byt l) (hg : Hnd w) : Calls Tryz.prog 5 #[.agg #[.int .i64 k, v]] w (RdP k l w) := by
 obtain ⟨ao, cap, rfl⟩ := hv.form
 by_cases hk : 1 ≤ k ∧ k ≤ 8
 ·exact mread_go k ao cap l w hk hv hl hby hg
 ·exact mread_kind k ao _ cap l w hk
theorem nilS_yes (n cap : Nat) (w : World) : (binOp .eql 22 (.slice none n cap) (.slice none 0 0)).run Tryz.prog w = .ok (.bool true) w := by kernel_rfl
theorem nilS_no (a : Addr) (n cap : Nat) (w : World) : (binOp .eql 22 (.slice (some a) n cap) (.slice none 0 0)).run Tryz.prog w = .ok (.bool false) w := by kernel_rfl
theorem rw_none (w : World) : Rw w.heap.size (w.alloc (.cells #[] 5)) (.slice (some ⟨w.heap.size, 0, none⟩) 0 0) 0 [] :=
 ⟨Nat.le_refl _, Nat.zero_le _, .inr ⟨w.heap.size, rfl, Nat.le_refl _, Array.getElem?_push_size⟩⟩
theorem bclone_nil (cap : Nat) (w : World) : Calls Tryz.prog 46 #[.slice none 0 cap] w fun e w' => e = .returned (.slice none 0 0) ∧ Below w.heap.size w w' := by
 have e1 := nilS_yes
 go_enter Tryz.func46, Tryz.ntmps46
 go_wp2
 go_ret
 exact ⟨rfl, Below.refl _ _⟩
theorem bclone_some (a : Addr) (cap : Nat) (l : List Int) (w : World) (hl : l.length ≤ 100000) (hv : Sl bc w (.slice (some a) l.length cap) l) :
  Calls Tryz.prog 46 #[.slice (some a) l.length cap] w fun e w' => ∃ v, e = .returned v ∧ w'.ownsRow w.heap.size 5 1 v l.length (bv l) ∧ Below w.heap.size w w' := by
 have e2 := nilS_no
 have HV := hide (hv.below ((Below.refl _ _).alloc (Nat.le_refl _) (.cells #[] 5)))
 have HR := hide (rw_none w)
 clear hv
 go_enter Tryz.func46, Tryz.ntmps46
 go_wp2_with (first | (at_builtin; refine wpList_append_sl _ rfl _ _ rfl w.heap.size _ 0 [] rfl HR.out (by simp) _ l rfl HV.out (by omega) ?_))
 intro w1 v1 cur1 hp1
 have hown := hp1.rw.owns
 rw [hp1.tk] at hown
 have HO := hide hown
 have HB := hide (((Below.refl w.heap.size w).alloc (Nat.le_refl _) _).trans hp1.below)
 clear hp1 hown
 go_wp2_with fail
 go_ret
 exact ⟨_, rfl, by simpa using HO.out, HB.out⟩
theorem bclone_own (v : Value) (l : List Int) (w : World) (hv : Sl bc w v l) (hl : l.length ≤ 100000) :
  Calls Tryz.prog 46 #[v] w fun e w' => ∃ u, e = .returned u ∧ w'.ownsRow w.heap.size 5 1 u l.length (bv l) ∧ Below w.heap.size w w' := by
 obtain ⟨ao, cap, rfl⟩ := hv.form
 cases ao with
 | none =>
  obtain rfl : l = [] := by
   rcases hv with ⟨ao, cap, h, _⟩ | ⟨b, o, cap, h, _⟩
   ·exact h
   ·cases h
  refine (bclone_nil cap w).mono ?_
  rintro e w' ⟨rfl, hb⟩
  exact ⟨_, rfl, World.ownsRow_nil _ _ _ _, hb⟩
 | some a => exact bclone_some a cap l w hl hv
theorem nilBt_yes (n cap : Nat) (w : World) : (binOp .eql 24 (.slice none n cap) (.slice none 0 0)).run Tryz.prog w = .ok (.bool true) w := by kernel_rfl
theorem nilBt_no (a : Addr) (n cap : Nat) (w : World) : (binOp .eql 24 (.slice (some a) n cap) (.slice none 0 0)).run Tryz.prog w = .ok (.bool false) w := by kernel_rfl
theorem cloneB_zero (ao : Option Addr) (cap : Nat) (w : World) : Calls Tryz.prog 47 #[.slice ao 0 cap] w fun e w' => (∃ ao c, e = .returned (.slice ao 0 c)) ∧ Below w.heap.size w w' := by
 have e1 := nilBt_yes
 have e2 := nilBt_no
 cases ao with
 | none =>
  go_enter Tryz.func47, Tryz.ntmps47
  go_wp2
  go_ret
  exact ⟨⟨_, _, rfl⟩, Below.refl _ _⟩
 | some a =>
  go_enter Tryz.func47, Tryz.ntmps47
  go_wp2
  go_ret
  exact ⟨⟨_, _, rfl⟩, (Below.refl _ _).alloc (Nat.le_refl _) _⟩
theorem owns_new3 (w : World) : (w.alloc (.cells #[] 48)).ownsRow w.heap.size 48 3 (.slice (some ⟨w.heap.size, 0, none⟩) 0 0) 0 [] :=
 ⟨by simp, .inr ⟨w.heap.size, 0, #[], rfl, Nat.le_refl _, Array.getElem?_push_size, Nat.le_refl _, Nat.zero_le _, by simp, by simp⟩⟩
theorem cloneB_some (b o cap : Nat) (ps : List Bq) (w : World) (hl : ps.length ≤ 100000) (h3 : w.rangeAt b o (bcs ps)) (h1 : ∀ u ∈ bcs ps, u.oneCell' = true) :
  Calls Tryz.prog 47 #[.slice (some ⟨b, o, none⟩) ps.length cap] w fun e w' => ∃ v, e = .returned v ∧ w'.ownsRow w.heap.size 48 3 v ps.length (bcs ps) ∧ Below w.heap.size w w' := by
 obtain ⟨i0, hi, hz0, hz1, hz2⟩ := info_parts infoBt
 have hown := owns_new3 w
 have HN := hide (range_news (range_bel h3 ((Below.refl _ _).alloc (Nat.le_refl _) (.cells #[] 48))))
 have HLN := hide (bcs_len ps)
 have HON := hide h1
 clear h3
 have e2 := nilBt_no
 generalize bcs ps = cs at *
 go_enter Tryz.func47, Tryz.ntmps47
 go_wp2_with (first
  | (at_builtin; refine wpList_append_own _ rfl _ _ 24 rfl w.heap.size 48 i0 (.agg #[.int .i64 0, .int .i64 0, .slice none 0 0]) 3 40 Tryz.underlying24 hi hz0 hz1 hz2 rfl (by decide) _ _ _ rfl hown ⟨b, o, none⟩ ps.length cap cs rfl HLN.out HN.out HON.out ?c3 ?c4 ?c5 ?_))
 case c3 => unfold maxLen; omega
 case c4 => omega
 case c5 => simp
 ·intro v' w2 hown' hgrow _
  have hB : Below w.heap.size w w2 := ((Below.refl _ _).alloc (Nat.le_refl _) _).grown hgrow (by simp) (fun j hj => (hown.lt j hj).1)
  have HO := hide hown'
  clear hown' hgrow hown
  go_wp2
  go_ret
  exact ⟨v', rfl, by simpa using HO.out, hB⟩
theorem bcs_one' {qs : List Bq} (h : ∀ q ∈ qs, ∃ ao n cap, q.u = .slice ao n cap) : ∀ u ∈ bcs qs, u.oneCell' = true := fun u hu => by
 obtain ⟨q, hq, hq2⟩ := List.mem_flatMap.1 hu
 obtain ⟨ao, n, cap, e⟩ := h q hq
 simp only [bce, List.mem_cons, List.not_mem_nil, or_false] at hq2
 rcases hq2 with rfl | rfl | rfl
 ·rfl
 ·rfl
 ·rw [e]; rfl
theorem cloneB_any (ao : Option Addr) (cap : Nat) (qs : List Bq) (w : World) (hv : Bl w (.slice ao qs.length cap) qs) (hl : qs.length ≤ 100000) : Calls Tryz.prog 47 #[.slice ao qs.length cap] w fun e w' => ∃ a' c', e = .returned (.slice a' qs.length c') ∧ (0 < qs.length → ∃ g, a' = some ⟨g, 0, none⟩ ∧ qs.length ≤ c' ∧ w.heap.size ≤ g ∧ g < w'.heap.size ∧ w'.rangeAt g 0 (bcs qs) ∧ ∀ i, w'.frozen? ⟨g, i, none⟩ = false) ∧ Below w.heap.size w w' := by
 by_cases h0 : 0 < qs.length
 ·obtain ⟨b, o, rfl, h3⟩ : ∃ b o, ao = some ⟨b, o, none⟩ ∧ w.rangeAt b o (bcs qs) := by
   rcases hv.1 with ⟨_, _, rfl, _⟩ | ⟨b, o, cap', e, _, _, h3⟩
   ·simp at h0
   ·cases e; exact ⟨b, o, rfl, h3⟩
  refine (cloneB_some b o cap qs w hl h3 (bcs_one' (fun q hq => (hv.2 q hq).form3))).mono ?_
  rintro e w' ⟨v, rfl, ho, hb⟩
  obtain ⟨g, c', rfl, h1, h2, h4, h5, h6⟩ := owns_range ho h0
  exact ⟨_, _, rfl, fun _ => ⟨g, rfl, h2, h1, h4, h5, h6⟩, hb⟩
 ·have e : qs = [] := List.length_eq_zero_iff.1 (by omega)
  subst e
  refine (cloneB_zero ao cap w).mono ?_
  rintro e w' ⟨⟨a', c', rfl⟩, hb⟩
  exact ⟨a', c', rfl, fun q => by simp at q, hb⟩
theorem brange_set {W : World} {g j : Nat} {cs : List Bq} {q : Bq} (h : W.rangeAt g 0 (bcs cs)) (hj : j < cs.length) (ht : W.there g (j * 3) 3) : (W.setCells g (j * 3) (bce q)).rangeAt g 0 (bcs (cs.set j q)) := fun i u hu => by
 have hil : i < (cs.set j q).length * 3 := by have := (List.getElem?_eq_some_iff.1 hu).1; rwa [bcs_len] at this
 rw [List.length_set] at hil
 have ha : i / 3 < cs.length := by omega
 have ha' : i / 3 < (cs.set j q).length := by rw [List.length_set]; exact ha
 have hm : i % 3 < 3 := by omega
 have hb3 : ∀ r : Bq, (bce r).length = 3 := fun _ => rfl
 have h2 := bcs_get (cs.set j q) (i / 3) ha' (i % 3) _ (List.getElem?_eq_getElem (by rw [hb3]; exact hm))
 rw [show i / 3 * 3 + i % 3 = i by omega, hu] at h2
 have h3 := Option.some.inj h2
 rw [Nat.zero_add]
 by_cases e : j = i / 3
 ·have hq : (cs.set j q)[i / 3] = q := by subst e; simp
  have h4 := World.rangeAt_setCells_same W g (j * 3) (bce q) ht (i % 3) ((bce q)[i % 3]'(by rw [hb3]; exact hm)) (List.getElem?_eq_getElem _)
  rw [show j * 3 + i % 3 = i by omega] at h4
  rw [h4, h3]
  congr 1
  simp only [hq]
 ·have hq : (cs.set j q)[i / 3] = cs[i / 3] := List.getElem_set_ne e _
  rw [World.cell?_setCells_out g (bce q) (j * 3) W ⟨g, i, none⟩ (fun _ _ => by rw [hb3]; simp only; omega)]
  have h5 := h (i / 3 * 3 + i % 3) _ (bcs_get cs (i / 3) ha (i % 3) _ (List.getElem?_eq_getElem (by rw [hb3]; exact hm)))
  rw [Nat.zero_add, show i / 3 * 3 + i % 3 = i by omega] at h5
  rw [h5, h3]
  congr 1
  simp only [hq]
theorem bts_set {cs : List Bq} {j : Nat} {q : Bq} (hj : j < cs.length) (h : btq q = btq cs[j]) : bts (cs.set j q) = bts cs := by
 unfold bts
 rw [List.map_set, h]
 exact List.ext_getElem (by simp) (fun i h1 h2 => by
  by_cases e : j = i
  ·subst e; simp
  ·simp [List.getElem_set_ne e])
structure Cq (w W : World) (m : Ms) (g c1 : Nat) (u1 : Value) (cs : List Bq) : Prop where
 rg : W.rangeAt w.heap.size 0 (cellsM m (.slice (some ⟨g, 0, none⟩) m.bs.length c1) u1)
 th : W.there (w.heap.size + 1) 0 15
 row : W.rangeAt g 0 (bcs cs)
 fz : ∀ i, W.frozen? ⟨g, i, none⟩ = false
 el : ∀ q ∈ cs, Rl (fun k => k ≠ g ∧ w.heap.size + 2 ≤ k ∨ k < w.heap.size) (fun k => k ≠ g ∧ w.heap.size + 2 ≤ k ∨ k < w.heap.size) W q.u q.ps
 bs : bts cs = m.bs
 da : Sln (fun k => k ≠ g ∧ w.heap.size + 2 ≤ k) W u1 m.da
 be : Below w.heap.size w W
 hg : w.heap.size + 2 ≤ g
 hc : m.bs.length ≤ c1
section
variable {w W W' : World} {m : Ms} {g c1 : Nat} {u1 : Value} {cs : List Bq}
theorem Cq.len (h : Cq w W m g c1 u1 cs) : cs.length = m.bs.length := by rw [← h.bs, bts_len]
theorem Cq.gz (h : Cq w W m g c1 u1 cs) (h0 : 0 < cs.length) : g < W.heap.size := cell_block (h.row 0 _ (List.getElem?_eq_getElem (by rw [bcs_len]; omega)))
theorem Cq.below (h : Cq w W m g c1 u1 cs) (hb : Below W.heap.size W W') (h0 : 0 < cs.length) : Cq w W' m g c1 u1 cs :=
 ⟨range_bel h.rg hb, there_bel h.th hb (by have := h.gz h0; have := h.hg; omega), range_bel h.row hb, fun i => by rw [hb.frozen (p := ⟨g, i, none⟩) (h.gz h0)]; exact h.fz i, fun q hq => (h.el q hq).below hb, h.bs, h.da.imp (fun _ _ q => q) (fun k i hl _ => hb.cell (p := ⟨k, i, none⟩) hl), h.be.trans (hb.mono h.be.size), h.hg, h.hc⟩
theorem Cq.put (h : Cq w W m g c1 u1 cs) {j : Nat} {q : Bq} (hj : j < cs.length) (hb : btq q = btq cs[j]) (hq : Rl (fun k => k ≠ g ∧ w.heap.size + 2 ≤ k) (fun k => k ≠ g ∧ w.heap.size + 2 ≤ k) W q.u q.ps) : Cq w (W.setCells g (j * 3) (bce q)) m g c1 u1 (cs.set j q) := by
 have hth : W.there g (j * 3) 3 := fun i hi => by
  obtain ⟨u, hu⟩ : ∃ u, (bcs cs)[j * 3 + i]? = some u := ⟨_, List.getElem?_eq_getElem (by rw [bcs_len]; omega)⟩
  have := h.row _ u hu
  rw [Nat.zero_add] at this
  exact ⟨by rw [this]; rfl, h.fz _⟩
 have hc : ∀ k i, k ≠ g → (W.setCells g (j * 3) (bce q)).cell? ⟨k, i, none⟩ = W.cell? ⟨k, i, none⟩ := fun k i hk => cell_many hk _ _
 have hg := h.hg
 refine ⟨range_imp h.rg (fun i _ => hc _ i (by omega)), World.there_setCells h.th _ _ _, brange_set h.row hj hth, fun i => by rw [World.frozen?_setCells]; exact h.fz i, fun r hr => ?_, by rw [bts_set hj hb]; exact h.bs, h.da.imp (fun _ _ q => q) (fun k i _ hk => hc k i hk.1), below_many (by omega) _ _ h.be, h.hg, h.hc⟩
 rcases List.mem_or_eq_of_mem_set hr with e | e
 ·exact (h.el r e).imp (fun _ _ q => q) (fun _ _ q => q) (fun k i _ hk => hc k i (by omega))
 ·subst e
  exact hq.imp (fun _ _ q => .inl q) (fun _ _ q => .inl q) (fun k i _ hk => hc k i (by rcases hk with e | e <;> exact e.1))
end
theorem step_store_mid {ops : Array Oper} {o : Oper} {a : Act} {w : World} {K : Act → World → Prop} {Q : Exit → Act → World → Prop} {E : Prop} (hgd : o.guard = none) (ty : TypeId) (x y : Operand) (ho : o.op = .store ty x y)
  (b of : Nat) (cells : Array Value) (hx : a.eval x = .pointer (some ⟨b, of, none⟩)) (hy : a.eval y = .agg cells) (ht : w.there b of cells.size) (hi : (Tryz.prog.info? ty).map (·.size) = some cells.size) (h1 : cells.all (·.oneCell') = true)
  (h : K (a.put o.dst undef) (w.setCells b of cells.toList)) : if Region.wanted o (yielded ops a.tmps) = true then Oper.wp Tryz.prog o a w K Q else E := by
 have hw : Region.wanted o (yielded ops a.tmps) = true := by simp [Region.wanted, hgd]
 rw [if_pos hw]
 exact wp_store_mid ty x y ho b of cells hx hy ht hi h1 h
theorem step_load_mid {ops : Array Oper} {o : Oper} {a : Act} {w : World} {K : Act → World → Prop} {Q : Exit → Act → World → Prop} {E : Prop} (hgd : o.guard = none) (ty : TypeId) (x : Operand) (ho : o.op = .load ty x)
  (b of : Nat) (hx : a.eval x = .pointer (some ⟨b, of, none⟩)) (cs : List Value) (d : TypeDesc) (hc : w.rangeAt b of cs) (hu : Tryz.prog.underlying ty = some d) (hd : d.isRow = true) (hi : (Tryz.prog.info? ty).map (·.size) = some cs.length)
  (h : K (a.put o.dst (.agg cs.toArray)) w) : if Region.wanted o (yielded ops a.tmps) = true then Oper.wp Tryz.prog o a w K Q else E := by
 have hw : Region.wanted o (yielded ops a.tmps) = true := by simp [Region.wanted, hgd]
 rw [if_pos hw]
 exact wp_load_mid ty x ho b of hx cs d hc hu hd hi h
theorem cq_new {w W2 : World} {m : Ms} {ub ud u1 : Value} {qs : List Bq} {g c1 : Nat} (hm : MemM w m ub ud qs) (hr : W2.rangeAt w.heap.size 0 (cellsM m (.slice (some ⟨g, 0, none⟩) m.bs.length c1) u1)) (ht : W2.there (w.heap.size + 1) 0 15) (hrow : W2.rangeAt g 0 (bcs qs)) (hf : ∀ i, W2.frozen? ⟨g, i, none⟩ = false) (hd : Sln (fun k => k ≠ g ∧ w.heap.size + 2 ≤ k) W2 u1 m.da) (hb : Below w.heap.size w W2) (hg : w.heap.size + 2 ≤ g) (hc : m.bs.length ≤ c1) : Cq w W2 m g c1 u1 qs :=
 ⟨hr, ht, hrow, hf, fun q hq => (hm.bl.2 q hq).imp (fun _ hl _ => .inr hl) (fun _ hl _ => .inr hl) (fun k i hl _ => hb.cell (p := ⟨k, i, none⟩) hl), hm.bs, hd, hb, hg, hc⟩
theorem mcopy_any (m : Ms) (v : Value) (w : World) (hv : IsM w v m) (hd : m.da.length ≤ 100000) (hn : m.bs.length ≤ 100000) (hln : LnM m) : Calls Tryz.prog 13 #[v] w fun e w' => ∃ u, e = .returned u ∧ IsM w' u m ∧ Below w.heap.size w w' := by
 obtain ⟨ab, cb, ad, cd, qs, rfl, hm⟩ := isM_form hv
 have HM := hide hm
 have HLN := hide hln
 have hlq := hm.len
 obtain ⟨X, hX⟩ : ∃ X, X = ((w.alloc (.cells #[.int .i64 m.k, .int .i64 m.fr, .int .i64 m.tn, .int .i64 m.t, .bool m.pre, .bool m.ok, .int .i64 m.ld, .int .i64 m.pa, .int .i64 m.pt, .int .i64 m.hi, .int .i64 m.co, .slice ab m.bs.length cb, .int .i64 m.sz, .int .i64 m.po, .slice ad m.da.length cd] 26)).alloc (.cells #[.int .i64 0, .int .i64 0, .int .i64 0, .int .i64 0, .bool false, .bool false, .int .i64 0, .int .i64 0, .int .i64 0, .int .i64 0, .int .i64 0, .slice none 0 0, .int .i64 0, .int .i64 0, .slice none 0 0] 26)) := ⟨_, rfl⟩
 have hzX : w.heap.size + 2 ≤ X.heap.size := by rw [hX]; simp
 have HB : Hid (Below w.heap.size w X) := hide (by rw [hX]; exact ((Below.refl _ _).alloc (Nat.le_refl _) _).alloc (by simp) _)
 have HQ : Hid (X.rangeAt w.heap.size 0 (cellsM m (.slice ab m.bs.length cb) (.slice ad m.da.length cd))) := hide (by rw [hX]; exact range_bel (range_new w [.int .i64 m.k, .int .i64 m.fr, .int .i64 m.tn, .int .i64 m.t, .bool m.pre, .bool m.ok, .int .i64 m.ld, .int .i64 m.pa, .int .i64 m.pt, .int .i64 m.hi, .int .i64 m.co, .slice ab m.bs.length cb, .int .i64 m.sz, .int .i64 m.po, .slice ad m.da.length cd] 26) ((Below.refl _ _).alloc (Nat.le_refl _) _))
 have HT : Hid (X.there (w.heap.size + 1) 0 15) := hide (by have := there_newM (w.alloc (.cells #[.int .i64 m.k, .int .i64 m.fr, .int .i64 m.tn, .int .i64 m.t, .bool m.pre, .bool m.ok, .int .i64 m.ld, .int .i64 m.pa, .int .i64 m.pt, .int .i64 m.hi, .int .i64 m.co, .slice ab m.bs.length cb, .int .i64 m.sz, .int .i64 m.po, .slice ad m.da.length cd] 26)); rw [show (w.alloc (.cells #[.int .i64 m.k, .int .i64 m.fr, .int .i64 m.tn, .int .i64 m.t, .bool m.pre, .bool m.ok, .int .i64 m.ld, .int .i64 m.pa, .int .i64 m.pt, .int .i64 m.hi, .int .i64 m.co, .slice ab m.bs.length cb, .int .i64 m.sz, .int .i64 m.po, .slice ad m.da.length cd] 26)).heap.size = w.heap.size + 1 by simp] at this; rw [hX]; exact this)
 have HFZ : Hid (∀ i, X.frozen? ⟨w.heap.size, i, none⟩ = false) := hide (fun i => by rw [hX]; simp)
 clear hv hm hln
 unfold cellsM
 go_enter Tryz.func13, Tryz.ntmps13
 go_upto_region 1 with fail
 rw [← hX]
 clear hX
 have g14 := HQ.out 14 _ rfl
 rw [Nat.zero_add] at g14
 have HC1 := hide (bclone_own _ m.da X (HM.out.da.below HB.out) hd)
 go_upto_region 2 with (first | (go_at_call 46; refine HC1.out.mono ?_; rintro e W1 ⟨u1, rfl, ho1, hb1⟩; obtain ⟨a1, d1, e1⟩ := (sl_of_owns (f := bc) (l := m.da) (by simpa [bv_eq] using ho1)).form; have f14 : W1.frozen? ⟨w.heap.size, 14, none⟩ = false := (hb1.frozen (p := ⟨w.heap.size, 14, none⟩) (by show w.heap.size < _; omega)).trans (HFZ.out 14); have c14 := range_bel HQ.out hb1 14 _ rfl; rw [Nat.zero_add] at c14; subst e1))
 have hs1 : Sln (fun k => X.heap.size ≤ k) W1 (.slice a1 m.da.length d1) m.da := (sld_of_owns 0 (by simpa [bv_eq] using ho1)).ln
 obtain ⟨Y, hY⟩ : ∃ Y, Y = W1.setCell ⟨w.heap.size, 14, none⟩ (.slice a1 m.da.length d1) := ⟨_, rfl⟩
 rw [← hY]
 have hcY : ∀ k i, k ≠ w.heap.size → Y.cell? ⟨k, i, none⟩ = W1.cell? ⟨k, i, none⟩ := fun k i hk => by rw [hY]; exact World.cell?_setCell_other _ _ _ _ (fun e => hk (congrArg Addr.block e).symm)
 have hzY : Y.heap.size = W1.heap.size := by rw [hY]; simp [World.setCell]
 have HQY : Hid (Y.rangeAt w.heap.size 0 (cellsM m (.slice ab m.bs.length cb) (.slice a1 m.da.length d1))) := hide (by rw [hY]; exact range_set (range_bel HQ.out hb1) (show 14 < 15 by decide))
 have HTY : Hid (Y.there (w.heap.size + 1) 0 15) := hide (fun i hi => by rw [hcY _ _ (by omega), hY, World.frozen?_setCell]; exact there_bel HT.out hb1 (by omega) i hi)
 have HFY : Hid (∀ i, Y.frozen? ⟨w.heap.size, i, none⟩ = false) := hide (fun i => by rw [hY, World.frozen?_setCell]; exact (hb1.frozen (p := ⟨w.heap.size, i, none⟩) (by show w.heap.size < _; omega)).trans (HFZ.out i))
 have HBY : Hid (Below w.heap.size w Y) := hide (by rw [hY]; exact (HB.out.trans (hb1.mono HB.out.size)).setCell (by exact Nat.le_refl _) _)
 have HDY : Hid (Sln (fun k => w.heap.size + 2 ≤ k) Y (.slice a1 m.da.length d1) m.da) := hide (hs1.imp (fun k _ hk => by omega) (fun k i _ hk => hcY k i (by omega)))
 have hzY2 : w.heap.size + 2 ≤ Y.heap.size := by have := hb1.size; omega
 clear hY hcY hzY hs1 ho1 hb1 f14 c14 g14 HC1 HQ HT HFZ HB hzX
 have g11 := HQY.out 11 _ rfl
 rw [Nat.zero_add] at g11
 change _ = some (Value.slice ab m.bs.length cb) at g11
 have HC2 := hide (cloneB_any ab cb qs Y (by rw [hlq]; exact HM.out.bl.below HBY.out) (by omega))
 rw [hlq] at HC2
 go_upto_region 3 with (first | (go_at_call 47; refine HC2.out.mono ?_; rintro e W2 ⟨a2, c2, rfl, hcl, hb2⟩; have f11 : W2.frozen? ⟨w.heap.size, 11, none⟩ = false := (hb2.frozen (p := ⟨w.heap.size, 11, none⟩) (by show w.heap.size < _; omega)).trans (HFY.out 11); have c11 := range_bel HQY.out hb2 11 _ rfl; rw [Nat.zero_add] at c11))
 obtain ⟨Z, hZ⟩ : ∃ Z, Z = W2.setCell ⟨w.heap.size, 11, none⟩ (.slice a2 m.bs.length c2) := ⟨_, rfl⟩
 rw [← hZ]
 have hcZ : ∀ k i, k ≠ w.heap.size → Z.cell? ⟨k, i, none⟩ = W2.cell? ⟨k, i, none⟩ := fun k i hk => by rw [hZ]; exact World.cell?_setCell_other _ _ _ _ (fun e => hk (congrArg Addr.block e).symm)
 have HQZ : Hid (Z.rangeAt w.heap.size 0 (cellsM m (.slice a2 m.bs.length c2) (.slice a1 m.da.length d1))) := hide (by rw [hZ]; exact range_set (range_bel HQY.out hb2) (show 11 < 15 by decide))
 have HTZ : Hid (Z.there (w.heap.size + 1) 0 15) := hide (fun i hi => by rw [hcZ _ _ (by omega), hZ, World.frozen?_setCell]; exact there_bel HTY.out hb2 (by omega) i hi)
 have HBZ : Hid (Below w.heap.size w Z) := hide (by rw [hZ]; exact (HBY.out.trans (hb2.mono HBY.out.size)).setCell (by exact Nat.le_refl _) _)
 have hzd : ∀ k, k < Y.heap.size → k < Y.heap.size := fun _ h => h
 by_cases h0 : 0 < m.bs.length
 ·obtain ⟨g, rfl, hc1, hg, hgz, hrow, hfz⟩ := hcl h0
  have HCQ : Hid (Cq w Z m g c2 (.slice a1 m.da.length d1) qs) := hide (cq_new HM.out HQZ.out HTZ.out (range_imp hrow (fun i _ => hcZ g i (by omega))) (fun i => by rw [hZ, World.frozen?_setCell]; exact hfz i) (HDY.out.imp (fun k hl hk => ⟨by omega, hk⟩) (fun k i hl hk => (hcZ k i (by omega)).trans (hb2.cell (p := ⟨k, i, none⟩) hl))) HBZ.out (by omega) hc1)
  clear hZ hcZ HQZ HTZ HBZ HQY HTY HFY HBY HDY hcl hb2 f11 c11 g11 HC2 hrow hfz hg hgz hzd
  have z11 := HCQ.out.rg 11 _ rfl
  rw [Nat.zero_add] at z11
  change _ = some (Value.slice (some ⟨g, 0, none⟩) m.bs.length c2) at z11
  go_wp2_with fail
  clear z11
  go_loopw [16] (fun i wr => ∃ (j : Nat) (cs : List Bq), j ≤ m.bs.length ∧ i = .int .i64 (j : Int) ∧ Hid (Cq w wr m g c2 (.slice a1 m.da.length d1) cs)) (fun i _ => m.bs.length - (intOf i).toNat)
  case atStart => exact ⟨0, qs, Nat.zero_le _, rfl, HCQ⟩
  case round =>
   clear HCQ
   obtain ⟨j, cs, hj, rfl, HCQ⟩ := hrel
   by_cases hlt : j < m.bs.length
   ·have hltI : (j : Int) < (m.bs.length : Int) := by omega
    have HLEN := hide HCQ.out.len
    have hjc : j < cs.length := by rw [HLEN.out]; exact hlt
    have HE := hide (brange_at HCQ.out.row hjc)
    rw [Nat.zero_add] at HE
    have HP := hide (HCQ.out.el _ (List.getElem_mem hjc))
    have hmem : btq cs[j] ∈ m.bs := by rw [← HCQ.out.bs]; exact List.mem_map.2 ⟨_, List.getElem_mem hjc, rfl⟩
    have HLX := hide (HLN.out _ hmem)
    have HTN := hide (there_newB wr)
    have hc1 := HCQ.out.hc
    obtain ⟨q, HQE⟩ : ∃ q, Hid (q = cs[j]) := ⟨_, hide rfl⟩
    rw [← HQE.out] at HE HP HLX
    clear hmem
    have HOC := hide (bce_all HP.out.form3)
    go_upto_region 6 with (first | (refine wpList_load_mid rfl _ _ rfl _ _ rfl _ _ HE.out Tryz.underlying48 rfl (by kernel_rfl) ?_) | (refine wpList_store_mid rfl _ _ _ rfl wr.heap.size 0 (bce q).toArray rfl rfl HTN.out (by kernel_rfl) HOC.out ?_))
    obtain ⟨V, hV⟩ : ∃ V, V = (wr.alloc (.cells #[.int .i64 0, .int .i64 0, .slice none 0 0] 48)).setCells wr.heap.size 0 (bce q) := ⟨_, rfl⟩
    obtain ⟨hbV, hrV, _⟩ := laidB wr q hV
    rw [← hV]
    have HRV := hide hrV
    have HQV := hide (HCQ.out.below hbV (by omega))
    have HC : Hid (∀ W, Cq w W m g c2 (.slice a1 m.da.length d1) cs → Calls Tryz.prog 48 #[.agg (bce q).toArray] W fun e w' => ∃ u, e = .returned u ∧ IsB (fun b => W.heap.size ≤ b) (fun b => W.heap.size ≤ b) w' u (btq q) ∧ Below W.heap.size W w') := hide (fun W h => copy_any (btq q) (.agg (bce q).toArray) W (okb := fun k => k ≠ g ∧ w.heap.size + 2 ≤ k ∨ k < w.heap.size) (ok := fun k => k ≠ g ∧ w.heap.size + 2 ≤ k ∨ k < w.heap.size) ⟨q.u, q.ps, rfl, by rw [HQE.out]; exact h.el _ (List.getElem_mem hjc), rfl⟩ HLX.out.1 HLX.out.2)
    clear hV hrV hbV HTN HE HP HOC HCQ HLX
    refine wp_region_held_drew (S := fun _ => True) (by kernel_rfl) trivial (fun hHeld => ?_)
    have HN0 := hide (HQV.out.below ((Below.refl _ _).drew) (by rw [HLEN.out]; omega))
    have HD0 := hide (range_bel HRV.out ((Below.refl _ _).drew))
    have hzV : wr.heap.size < V.drew.heap.size := by have := cell_block (HD0.out 0 _ rfl); exact this
    generalize V.drew = W0 at HN0 HD0 hzV ⊢
    clear HQV HRV
    refine tk 0 21 (.pointer (some ⟨w.heap.size, 11, none⟩)) rfl rfl hHeld ?_
    simp only [Act.put, zA, zB, zC]
    refine tk 2 23 (.int .i64 (j : Int)) rfl rfl hHeld ?_
    simp only [Act.put, zA, zB, zC]
    refine wpAnyH_ready (rs := [1, 3]) (by kernel_rfl) (by simp) ?_
    refine AllReadyH.cons (o := _) rfl (fun K hK => ?_) (AllReadyH.cons (o := _) rfl (fun K hK => ?_) AllReadyH.nil)
    ·have i2 := HN0.out.rg 11 _ rfl
     rw [Nat.zero_add] at i2
     change _ = some (Value.slice (some ⟨g, 0, none⟩) m.bs.length c2) at i2
     go_simp
     clear i2
     refine hK.out _ _ ?_ (fun hHeld1 => ?_)
     ·exact trivial
     clear hK K hHeld
     have hHeld := hHeld1
     clear hHeld1
     refine wpAnyH_ready (rs := [3]) (by kernel_rfl) (by simp) ?_
     refine AllReadyH.cons (o := _) rfl (fun K hK => ?_) AllReadyH.nil
     refine step_load_mid rfl _ _ rfl _ _ rfl (bce q) _ HD0.out Tryz.underlying48 rfl (by kernel_rfl) ?_
     show K (Act.put _ (some 24) _) _
     simp only [Act.put, zA, zB, zC]
     refine hK.out _ _ ?_ (fun hHeld1 => ?_)
     ·exact trivial
     clear hK K hHeld
     have hHeld := hHeld1
     clear hHeld1
     refine wpAnyH_ready (rs := [4]) (by kernel_rfl) (by simp) ?_
     refine AllReadyH.cons (o := _) rfl (fun K hK => ?_) AllReadyH.nil
     go_simp
     go_at_call 48
     refine (HC.out _ HN0.out).mono ?_
     rintro e V1 ⟨vx, rfl, hx, hb⟩
     go_wp2_with fail
     refine hK.out _ _ ?_ (fun hHeld1 => ?_)
     ·exact trivial
     clear hK K hHeld
     have hHeld := hHeld1
     clear hHeld1
     obtain ⟨u0', ps0, rfl, hq2, hq1⟩ := hx
     obtain ⟨a0, c0, rfl⟩ := hq2.form
     have HN1 := hide (HN0.out.below hb (by rw [HLEN.out]; omega))
     have HQW : Hid (Rl (fun k => k ≠ g ∧ w.heap.size + 2 ≤ k) (fun k => k ≠ g ∧ w.heap.size + 2 ≤ k) V1 (.slice a0 ps0.length c0) ps0) := hide (by have h1 := HN0.out.gz (by rw [HLEN.out]; omega); have h2 := HN0.out.hg; exact hq2.imp (fun k _ hk => by omega) (fun k _ hk => by omega) (fun _ _ _ _ => rfl))
     have HQT : Hid (btq ⟨q.t, q.b, .slice a0 ps0.length c0, ps0⟩ = btq q) := hide (by unfold btq; simp only; rw [hq1]; rfl)
     clear hq2 hq1 hb HN0
     refine tk 5 26 (.pointer (some ⟨g, j * 3, none⟩)) rfl rfl hHeld ?_
     simp only [Act.put, zA, zB, zC]
     refine wpAnyH_ready (rs := [6]) (by kernel_rfl) (by simp) ?_
     refine AllReadyH.cons (o := _) rfl (fun K hK => ?_) AllReadyH.nil
     have hth : V1.there g (j * 3) 3 := fun i hi => by
      obtain ⟨u, hu⟩ : ∃ u, (bcs cs)[j * 3 + i]? = some u := ⟨_, List.getElem?_eq_getElem (by rw [bcs_len, HLEN.out]; omega)⟩
      have := HN1.out.row _ u hu
      rw [Nat.zero_add] at this
      exact ⟨by rw [this]; rfl, HN1.out.fz _⟩
     have HNF := hide (HN1.out.put (q := ⟨q.t, q.b, .slice a0 ps0.length c0, ps0⟩) (j := j) (by rw [HLEN.out]; exact hlt) (by rw [HQT.out]; exact congrArg btq HQE.out) HQW.out)
     refine step_store_mid rfl _ _ _ rfl g (j * 3) (bce ⟨q.t, q.b, .slice a0 ps0.length c0, ps0⟩).toArray rfl rfl hth (by kernel_rfl) (bce_all ⟨_, _, _, rfl⟩) ?_
     show K (Act.put _ none _) _
     refine hK.out _ _ ?_ (fun hHeld1 => ?_)
     ·exact trivial
     clear hK K hHeld
     have hHeld := hHeld1
     clear hHeld1
     refine wpAnyH_done (by kernel_rfl) ?_ _
     clear HN1 HQW HQT hth
     go_wp2_with fail
     go_roundw
     case rel => exact ⟨j + 1, _, by omega, by go_num, HNF⟩
     case measure => simp [intOf]; omega
    ·refine step_load_mid rfl _ _ rfl _ _ rfl (bce q) _ HD0.out Tryz.underlying48 rfl (by kernel_rfl) ?_
     show K (Act.put _ (some 24) _) _
     simp only [Act.put, zA, zB, zC]
     refine hK.out _ _ ?_ (fun hHeld1 => ?_)
     ·exact trivial
     clear hK K hHeld
     have hHeld := hHeld1
     clear hHeld1
     refine wpAnyH_ready (rs := [1, 4]) (by kernel_rfl) (by simp) ?_
     refine AllReadyH.cons (o := _) rfl (fun K hK => ?_) (AllReadyH.cons (o := _) rfl (fun K hK => ?_) AllReadyH.nil)
     ·have i2 := HN0.out.rg 11 _ rfl
      rw [Nat.zero_add] at i2
      change _ = some (Value.slice (some ⟨g, 0, none⟩) m.bs.length c2) at i2
      go_simp
      clear i2
      refine hK.out _ _ ?_ (fun hHeld1 => ?_)
      ·exact trivial
      clear hK K hHeld
      have hHeld := hHeld1
      clear hHeld1
      refine wpAnyH_ready (rs := [4]) (by kernel_rfl) (by simp) ?_
      refine AllReadyH.cons (o := _) rfl (fun K hK => ?_) AllReadyH.nil
      go_simp
      go_at_call 48
      refine (HC.out _ HN0.out).mono ?_
      rintro e V1 ⟨vx, rfl, hx, hb⟩
      go_wp2_with fail
      refine hK.out _ _ ?_ (fun hHeld1 => ?_)
      ·exact trivial
      clear hK K hHeld
      have hHeld := hHeld1
      clear hHeld1
      obtain ⟨u0', ps0, rfl, hq2, hq1⟩ := hx
      obtain ⟨a0, c0, rfl⟩ := hq2.form
      have HN1 := hide (HN0.out.below hb (by rw [HLEN.out]; omega))
      have HQW : Hid (Rl (fun k => k ≠ g ∧ w.heap.size + 2 ≤ k) (fun k => k ≠ g ∧ w.heap.size + 2 ≤ k) V1 (.slice a0 ps0.length c0) ps0) := hide (by have h1 := HN0.out.gz (by rw [HLEN.out]; omega); have h2 := HN0.out.hg; exact hq2.imp (fun k _ hk => by omega) (fun k _ hk => by omega) (fun _ _ _ _ => rfl))
      have HQT : Hid (btq ⟨q.t, q.b, .slice a0 ps0.length c0, ps0⟩ = btq q) := hide (by unfold btq; simp only; rw [hq1]; rfl)
      clear hq2 hq1 hb HN0
      refine tk 5 26 (.pointer (some ⟨g, j * 3, none⟩)) rfl rfl hHeld ?_
      simp only [Act.put, zA, zB, zC]
      refine wpAnyH_ready (rs := [6]) (by kernel_rfl) (by simp) ?_
      refine AllReadyH.cons (o := _) rfl (fun K hK => ?_) AllReadyH.nil
      have hth : V1.there g (j * 3) 3 := fun i hi => by
       obtain ⟨u, hu⟩ : ∃ u, (bcs cs)[j * 3 + i]? = some u := ⟨_, List.getElem?_eq_getElem (by rw [bcs_len, HLEN.out]; omega)⟩
       have := HN1.out.row _ u hu
       rw [Nat.zero_add] at this
       exact ⟨by rw [this]; rfl, HN1.out.fz _⟩
      have HNF := hide (HN1.out.put (q := ⟨q.t, q.b, .slice a0 ps0.length c0, ps0⟩) (j := j) (by rw [HLEN.out]; exact hlt) (by rw [HQT.out]; exact congrArg btq HQE.out) HQW.out)
      refine step_store_mid rfl _ _ _ rfl g (j * 3) (bce ⟨q.t, q.b, .slice a0 ps0.length c0, ps0⟩).toArray rfl rfl hth (by kernel_rfl) (bce_all ⟨_, _, _, rfl⟩) ?_
      show K (Act.put _ none _) _
      refine hK.out _ _ ?_ (fun hHeld1 => ?_)
      ·exact trivial
      clear hK K hHeld
      have hHeld := hHeld1
      clear hHeld1
      refine wpAnyH_done (by kernel_rfl) ?_ _
      clear HN1 HQW HQT hth
      go_wp2_with fail
      go_roundw
      case rel => exact ⟨j + 1, _, by omega, by go_num, HNF⟩
      case measure => simp [intOf]; omega
     ·go_simp
      go_at_call 48
      refine (HC.out _ HN0.out).mono ?_
      rintro e V1 ⟨vx, rfl, hx, hb⟩
      go_wp2_with fail
      refine hK.out _ _ ?_ (fun hHeld1 => ?_)
      ·exact trivial
      clear hK K hHeld
      have hHeld := hHeld1
      clear hHeld1
      obtain ⟨u0', ps0, rfl, hq2, hq1⟩ := hx
      obtain ⟨a0, c0, rfl⟩ := hq2.form
      have HN1 := hide (HN0.out.below hb (by rw [HLEN.out]; omega))
      have HQW : Hid (Rl (fun k => k ≠ g ∧ w.heap.size + 2 ≤ k) (fun k => k ≠ g ∧ w.heap.size + 2 ≤ k) V1 (.slice a0 ps0.length c0) ps0) := hide (by have h1 := HN0.out.gz (by rw [HLEN.out]; omega); have h2 := HN0.out.hg; exact hq2.imp (fun k _ hk => by omega) (fun k _ hk => by omega) (fun _ _ _ _ => rfl))
      have HQT : Hid (btq ⟨q.t, q.b, .slice a0 ps0.length c0, ps0⟩ = btq q) := hide (by unfold btq; simp only; rw [hq1]; rfl)
      clear hq2 hq1 hb HN0
      refine wpAnyH_ready (rs := [1]) (by kernel_rfl) (by simp) ?_
      refine AllReadyH.cons (o := _) rfl (fun K hK => ?_) AllReadyH.nil
      have i2 := HN1.out.rg 11 _ rfl
      rw [Nat.zero_add] at i2
      change _ = some (Value.slice (some ⟨g, 0, none⟩) m.bs.length c2) at i2
      go_simp
      clear i2
      refine hK.out _ _ ?_ (fun hHeld1 => ?_)
      ·exact trivial
      clear hK K hHeld
      have hHeld := hHeld1
      clear hHeld1
      refine tk 5 26 (.pointer (some ⟨g, j * 3, none⟩)) rfl rfl hHeld ?_
      simp only [Act.put, zA, zB, zC]
      refine wpAnyH_ready (rs := [6]) (by kernel_rfl) (by simp) ?_
      refine AllReadyH.cons (o := _) rfl (fun K hK => ?_) AllReadyH.nil
      have hth : V1.there g (j * 3) 3 := fun i hi => by
       obtain ⟨u, hu⟩ : ∃ u, (bcs cs)[j * 3 + i]? = some u := ⟨_, List.getElem?_eq_getElem (by rw [bcs_len, HLEN.out]; omega)⟩
       have := HN1.out.row _ u hu
       rw [Nat.zero_add] at this
       exact ⟨by rw [this]; rfl, HN1.out.fz _⟩
      have HNF := hide (HN1.out.put (q := ⟨q.t, q.b, .slice a0 ps0.length c0, ps0⟩) (j := j) (by rw [HLEN.out]; exact hlt) (by rw [HQT.out]; exact congrArg btq HQE.out) HQW.out)
      refine step_store_mid rfl _ _ _ rfl g (j * 3) (bce ⟨q.t, q.b, .slice a0 ps0.length c0, ps0⟩).toArray rfl rfl hth (by kernel_rfl) (bce_all ⟨_, _, _, rfl⟩) ?_
      show K (Act.put _ none _) _
      refine hK.out _ _ ?_ (fun hHeld1 => ?_)
      ·exact trivial
      clear hK K hHeld
      have hHeld := hHeld1
      clear hHeld1
      refine wpAnyH_done (by kernel_rfl) ?_ _
      clear HN1 HQW HQT hth
      go_wp2_with fail
      go_roundw
      case rel => exact ⟨j + 1, _, by omega, by go_num, HNF⟩
      case measure => simp [intOf]; omega
   ·obtain rfl : j = m.bs.length := by omega
    clear hlt
    have HRG := hide HCQ.out.rg
    have HTH := hide HCQ.out.th
    have hgg := HCQ.out.hg
    have HIS : Hid (IsM (wr.setCells (w.heap.size + 1) 0 (cellsM m (.slice (some ⟨g, 0, none⟩) m.bs.length c2) (.slice a1 m.da.length d1))) (.agg (cellsM m (.slice (some ⟨g, 0, none⟩) m.bs.length c2) (.slice a1 m.da.length d1)).toArray) m) := hide ⟨_, _, cs, rfl, ⟨⟨.inr ⟨g, 0, c2, by rw [HCQ.out.len], by rw [HCQ.out.len]; exact HCQ.out.hc, by rw [HCQ.out.len]; exact h0, range_imp HCQ.out.row (fun i _ => cell_many (by omega) _ _)⟩, fun q hq => (HCQ.out.el q hq).imp (fun _ _ _ => trivial) (fun _ _ _ => trivial) (fun k i _ hk => cell_many (by omega) _ _)⟩, HCQ.out.bs, (HCQ.out.da.imp (ok' := fun _ => True) (fun _ _ _ => trivial) (fun k i _ hk => cell_many (by omega) _ _)).sl⟩⟩
    have HBE : Hid (Below w.heap.size w (wr.setCells (w.heap.size + 1) 0 (cellsM m (.slice (some ⟨g, 0, none⟩) m.bs.length c2) (.slice a1 m.da.length d1)))) := hide (below_many (Nat.le_succ _) _ _ HCQ.out.be)
    clear HCQ
    have HON := hide (cellsM_one m (some ⟨g, 0, none⟩) a1 m.bs.length c2 m.da.length d1)
    go_wp2_with (first | (refine wpList_load_mid rfl _ _ rfl _ _ rfl _ _ HRG.out Tryz.underlying26 rfl (by kernel_rfl) ?_) | (refine wpList_store_mid rfl _ _ _ rfl (w.heap.size + 1) 0 (cellsM m (.slice (some ⟨g, 0, none⟩) m.bs.length c2) (.slice a1 m.da.length d1)).toArray rfl rfl HTH.out (by kernel_rfl) HON.out ?_))
    exact bodyPost_ret (v := .agg (cellsM m (.slice (some ⟨g, 0, none⟩) m.bs.length c2) (.slice a1 m.da.length d1)).toArray) (results_mid Tryz.results13 _ _ (w.heap.size + 1) _ _ rfl (World.rangeAt_setCells_same _ _ _ _ HTH.out) Tryz.underlying26 rfl (by kernel_rfl)) rfl ⟨_, rfl, HIS.out, HBE.out⟩
 ·have e0 : m.bs.length = 0 := by omega
  have hb0 : m.bs = [] := List.length_eq_zero_iff.1 e0
  have HRG := HQZ
  have HTH := HTZ
  have HIS : Hid (IsM (Z.setCells (w.heap.size + 1) 0 (cellsM m (.slice a2 m.bs.length c2) (.slice a1 m.da.length d1))) (.agg (cellsM m (.slice a2 m.bs.length c2) (.slice a1 m.da.length d1)).toArray) m) := hide ⟨_, _, [], rfl, ⟨⟨.inl ⟨_, _, rfl, by rw [e0]⟩, fun q hq => by simp at hq⟩, hb0.symm, (HDY.out.imp (ok' := fun _ => True) (fun _ _ _ => trivial) (fun k i hl hk => (cell_many (by omega) _ _).trans ((hcZ k i (by omega)).trans (hb2.cell (p := ⟨k, i, none⟩) hl)))).sl⟩⟩
  have HBE : Hid (Below w.heap.size w (Z.setCells (w.heap.size + 1) 0 (cellsM m (.slice a2 m.bs.length c2) (.slice a1 m.da.length d1)))) := hide (below_many (Nat.le_succ _) _ _ HBZ.out)
  have z11 := HQZ.out 11 _ rfl
  rw [Nat.zero_add] at z11
  change _ = some (Value.slice a2 m.bs.length c2) at z11
  clear hZ hcZ HQZ HTZ HBZ HQY HTY HFY HBY HDY hcl hb2 f11 c11 g11 HC2 hb0 hzd
  have HE0 := hide e0
  clear e0
  go_wp2_with fail
  go_loopw [16] (fun i wr => i = .int .i64 0 ∧ wr = Z) (fun _ _ => 0)
  case atStart => exact ⟨rfl, rfl⟩
  case round =>
   obtain ⟨rfl, rfl⟩ := hrel
   have hltI : ¬ (0 : Int) < (m.bs.length : Int) := by omega
   have HON := hide (cellsM_one m a2 a1 m.bs.length c2 m.da.length d1)
   go_wp2_with (first | (refine wpList_load_mid rfl _ _ rfl _ _ rfl _ _ HRG.out Tryz.underlying26 rfl (by kernel_rfl) ?_) | (refine wpList_store_mid rfl _ _ _ rfl (w.heap.size + 1) 0 (cellsM m (.slice a2 m.bs.length c2) (.slice a1 m.da.length d1)).toArray rfl rfl HTH.out (by kernel_rfl) HON.out ?_))
   exact bodyPost_ret (v := .agg (cellsM m (.slice a2 m.bs.length c2) (.slice a1 m.da.length d1)).toArray) (results_mid Tryz.results13 _ _ (w.heap.size + 1) _ _ rfl (World.rangeAt_setCells_same _ _ _ _ HTH.out) Tryz.underlying26 rfl (by kernel_rfl)) rfl ⟨_, rfl, HIS.out, HBE.out⟩
theorem rall_len (ao bo : Option Addr) (L M cap cap' : Nat) (w : World) (h : ¬ L = M) : Calls Tryz.prog 29 #[.slice ao L cap, .slice bo M cap'] w fun e w' => e = .returned (.bool false) ∧ Below w.heap.size w w' := by
 have hI : ((L : Int) == (M : Int)) = false := by simp; omega
 have hI' : ¬ (L : Int) = (M : Int) := by omega
 go_enter Tryz.func29, Tryz.ntmps29
 go_wp2_with fail
 go_ret
 exact ⟨rfl, Below.refl _ _⟩
theorem rmsame_ego (k fr tn t ld pa pt hi co sz po : Int) (pre ok : Bool) (ab ad ab' ad' : Option Addr) (nb cb nd cd nb' cb' nd' cd' : Nat) (w : World)
  (HSN : Hid (∀ W, Below w.heap.size w W → Calls Tryz.prog 28 #[.slice ad nd cd, .slice ad' nd' cd'] W fun e w' => e = .returned (.bool true) ∧ Below W.heap.size W w'))
  (HEQ : Hid (∀ W, Below w.heap.size w W → Calls Tryz.prog 29 #[.slice ab nb cb, .slice ab' nb' cb'] W fun e w' => e = .returned (.bool true) ∧ Below W.heap.size W w')) :
  Calls Tryz.prog 7 #[.agg #[.int .i64 k, .int .i64 fr, .int .i64 tn, .int .i64 t, .bool pre, .bool ok, .int .i64 ld, .int .i64 pa, .int .i64 pt, .int .i64 hi, .int .i64 co, .slice ab nb cb, .int .i64 sz, .int .i64 po, .slice ad nd cd], .agg #[.int .i64 k, .int .i64 fr, .int .i64 tn, .int .i64 t, .bool pre, .bool ok, .int .i64 ld, .int .i64 pa, .int .i64 pt, .int .i64 hi, .int .i64 co, .slice ab' nb' cb', .int .i64 sz, .int .i64 po, .slice ad' nd' cd']] w fun e w' => e = .returned (.bool true) ∧ Below w.heap.size w w' := by
 obtain ⟨X, hX⟩ : ∃ X, X = (w.alloc (.cells #[.int .i64 k, .int .i64 fr, .int .i64 tn, .int .i64 t, .bool pre, .bool ok, .int .i64 ld, .int .i64 pa, .int .i64 pt, .int .i64 hi, .int .i64 co, .slice ab nb cb, .int .i64 sz, .int .i64 po, .slice ad nd cd] 26)).alloc (.cells #[.int .i64 k, .int .i64 fr, .int .i64 tn, .int .i64 t, .bool pre, .bool ok, .int .i64 ld, .int .i64 pa, .int .i64 pt, .int .i64 hi, .int .i64 co, .slice ab' nb' cb', .int .i64 sz, .int .i64 po, .slice ad' nd' cd'] 26) := ⟨_, rfl⟩
 obtain ⟨hb0, hqa, hqb⟩ := two_in w [.int .i64 k, .int .i64 fr, .int .i64 tn, .int .i64 t, .bool pre, .bool ok, .int .i64 ld, .int .i64 pa, .int .i64 pt, .int .i64 hi, .int .i64 co, .slice ab nb cb, .int .i64 sz, .int .i64 po, .slice ad nd cd] [.int .i64 k, .int .i64 fr, .int .i64 tn, .int .i64 t, .bool pre, .bool ok, .int .i64 ld, .int .i64 pa, .int .i64 pt, .int .i64 hi, .int .i64 co, .slice ab' nb' cb', .int .i64 sz, .int .i64 po, .slice ad' nd' cd'] hX
 have HB := hide hb0
 have HQA := hide hqa
 have HQB := hide hqb
 clear hb0 hqa hqb
 go_enter Tryz.func7, Tryz.ntmps7
 go_upto_region 1 with fail
 rw [← hX]
 clear hX
 obtain ⟨i0, i1, i2, i3, i4, i5, i6, i7, i8, i9, i10, i11, i12, i13, i14⟩ := C15.of HQA.out
 obtain ⟨j0, j1, j2, j3, j4, j5, j6, j7, j8, j9, j10, j11, j12, j13, j14⟩ := C15.of HQB.out
 go_wp2_with (first | (go_at_call 28; refine (HSN.out _ HB.out).mono ?_; rintro e V ⟨rfl, hb1⟩; have HB1 := hide (HB.out.trans (hb1.mono HB.out.size)); have HA1 := C15.of (range_bel HQA.out hb1); have HB2 := C15.of (range_bel HQB.out hb1); clear hb1 i0 i1 i2 i3 i4 i5 i6 i7 i8 i9 i10 i11 i12 i13 i14 j0 j1 j2 j3 j4 j5 j6 j7 j8 j9 j10 j11 j12 j13 j14; obtain ⟨i0, i1, i2, i3, i4, i5, i6, i7, i8, i9, i10, i11, i12, i13, i14⟩ := HA1; obtain ⟨j0, j1, j2, j3, j4, j5, j6, j7, j8, j9, j10, j11, j12, j13, j14⟩ := HB2) | (go_at_call 29; refine (HEQ.out _ HB1.out).mono ?_; rintro e V3 ⟨rfl, hb3⟩; have HB3 := hide (HB1.out.trans (hb3.mono HB1.out.size)); clear hb3))
 go_ret
 exact ⟨rfl, HB3.out⟩
end Go.Proofs.YtjjpfajbljbelaaGreatDoor
