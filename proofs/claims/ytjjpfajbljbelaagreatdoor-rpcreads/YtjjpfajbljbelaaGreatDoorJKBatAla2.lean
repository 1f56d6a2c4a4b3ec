/-
  WHETHER TWO ROWS OF BATCHES ARE THE SAME, BY THE DOCUMENT (castellanref06.All): those that are. Conditions: the batches' cells hold them, their records' rows are not too long.
  WHAT IS WRONG WITH A MESSAGE FIRST (rpc.checkBatches, rpc.Check): what the mathematics says. Conditions: its slices' cells hold what they hold, its records' texts are not too long.
-/
import Derived.Test.YtjjpfajbljbelaaGreatDoorJKRpcVa2
import Derived.Test.YtjjpfajbljbelaaGreatDoorJKBatSra2
namespace Go.Proofs.YtjjpfajbljbelaaGreatDoor
open Go.RowKit
theorem brange_at {W : World} {b o : Nat} {qs : List Bq} (h : W.rangeAt b o (bcs qs)) {i : Nat} (hi : i < qs.length) : W.rangeAt b (o + i * 3) (bce qs[i]) := fun j u hu => by
 have := h (i * 3 + j) u (bcs_get qs i hi j u hu)
 rwa [← Nat.add_assoc] at this
set_option maxRecDepth 100000 in
set_option maxHeartbeats 4000000 in
theorem all_none (ao bo : Option Addr) (cap cap' : Nat) (w : World) : Calls Tryz.prog 29 #[.slice ao 0 cap, .slice bo 0 cap'] w fun e w' => e = .returned (.bool true) ∧ Below w.heap.size w w' := by
 go_enter Tryz.func29, Tryz.ntmps29
 go_wp2_with fail
 go_loopw [5] (fun i wr => i = .int .i64 0 ∧ Below w.heap.size w wr) (fun _ _ => 0)
 case atStart => exact ⟨rfl, Below.refl _ _⟩
 case round =>
  obtain ⟨rfl, hb⟩ := hrel
  have HB := hide hb
  clear hb
  go_wp2_with fail
  go_ret
  exact ⟨rfl, HB.out⟩
set_option maxRecDepth 100000
set_option maxHeartbeats 32000000
theorem bce_all {q : Bq} (h : ∃ ao n cap, q.u = .slice ao n cap) : (bce q).toArray.all (·.oneCell') = true := by
 obtain ⟨ao, n, cap, e⟩ := h
 refine all_oneCell_toArray (fun v hv => ?_)
 simp only [bce, List.mem_cons, List.not_mem_nil, or_false] at hv
 rcases hv with rfl | rfl | rfl
 ·rfl
 ·rfl
 ·rw [e]; rfl
theorem Rl.form3 {okb ok : Nat → Prop} {W : World} {v : Value} {ps : List Rp} (h : Rl okb ok W v ps) : ∃ ao n cap, v = .slice ao n cap := by
 obtain ⟨ao, cap, e⟩ := h.form
 exact ⟨ao, _, cap, e⟩
theorem there_newB (w : World) : (w.alloc (.cells #[.int .i64 0, .int .i64 0, .slice none 0 0] 48)).there w.heap.size 0 3 := by
 exact fun j hj => ⟨(range_new w [.int .i64 0, .int .i64 0, .slice none 0 0] 48).isSome j hj, by simp⟩
theorem laidB (W : World) (q : Bq) {W1 : World} (h1 : W1 = (W.alloc (.cells #[.int .i64 0, .int .i64 0, .slice none 0 0] 48)).setCells W.heap.size 0 (bce q)) : Below W.heap.size W W1 ∧ W1.rangeAt W.heap.size 0 (bce q) ∧ W.heap.size < W1.heap.size := by
 have hbl : Below W.heap.size W (W.alloc (.cells #[.int .i64 0, .int .i64 0, .slice none 0 0] 48)) := (Below.refl _ _).alloc (Nat.le_refl _) _
 have hrg : W1.rangeAt W.heap.size 0 (bce q) := by rw [h1]; exact World.rangeAt_setCells_same _ _ _ _ (there_newB W)
 exact ⟨by rw [h1]; exact below_many (Nat.le_refl _) _ _ hbl, hrg, cell_block (hrg 0 _ rfl)⟩
theorem okb_take {qs : List Bq} {j : Nat} (hj : j < qs.length) (h : ∀ x ∈ (bts qs).take j, (bw x).c = 0) (hn : (bw (btq qs[j])).c = 0) : ∀ x ∈ (bts qs).take (j + 1), (bw x).c = 0 := by
 have hl : j < (bts qs).length := by rw [bts_len]; exact hj
 have e : (bts qs)[j] = btq qs[j] := by simp [bts]
 rw [List.take_succ_eq_append_getElem hl, e]
 intro r hr
 rcases List.mem_append.1 hr with q | q
 ·exact h r q
 ·simp at q; subst q; exact hn
theorem ev_form (q : List (ByteArray × Int) × Int) : ∃ F U, ev (some q) = .iface F U := by
 obtain ⟨l, c⟩ := q
 exact chn_form l c
theorem mbats_any (v : Value) (qs : List Bq) (w : World) (hv : Bl w v qs) (htx : ∀ x ∈ bts qs, ∀ r ∈ x.rs, TxR r) (hn : qs.length ≤ 100000) :
  Calls Tryz.prog 45 #[v] w fun e w' => e = .returned (ev (evBs (bts qs) 0)) ∧ Below w.heap.size w w' := by
 obtain ⟨h1, h2⟩ := hv
 rcases h1 with ⟨ao, cap, rfl, rfl⟩ | ⟨b, o, cap, rfl, _, h0, hrg⟩
 ·go_enter Tryz.func45, Tryz.ntmps45
  go_wp2_with fail
  refine wp_loop_rounds 1 ?_
  rw [rounds_succ]
  go_wp2_with fail
  go_ret
  exact ⟨rfl, Below.refl _ _⟩
 have HR := hide hrg
 have HW := hide h2
 have HT := hide htx
 clear hrg h2 htx h0
 go_enter Tryz.func45, Tryz.ntmps45
 go_wp2_with fail
 go_loopw [8] (fun i wr => ∃ j : Nat, j ≤ qs.length ∧ i = .int .i64 (j : Int) ∧ (∀ x ∈ (bts qs).take j, (bw x).c = 0) ∧ Below w.heap.size w wr) (fun i _ => qs.length - (intOf i).toNat)
 case atStart => exact ⟨0, Nat.zero_le _, rfl, fun r hr => by simp at hr, Below.refl _ _⟩
 case round =>
  obtain ⟨j, hj, rfl, hall, hb⟩ := hrel
  have HA := hide hall
  have HB := hide hb
  clear hall hb
  by_cases hlt : j < qs.length
  ·have hltI : (j : Int) < (qs.length : Int) := by omega
   have HE := hide (range_bel (brange_at HR.out hlt) HB.out)
   have HP := hide (HW.out _ (List.getElem_mem hlt))
   have HX := hide (HT.out (btq qs[j]) (List.mem_map.2 ⟨_, List.getElem_mem hlt, rfl⟩))
   have HN : Hid (∀ q, evB (bw (btq qs[j])) = some q → evBs (bts qs) 0 = some ((⟨#[98, 97, 116, 99, 104]⟩, (j : Int)) :: q.1, q.2)) := hide (fun q h => by
    have := evBs_some (bts qs) 0 j (by rw [bts_len]; exact hlt) q HA.out (by simpa [bts] using h)
    rw [this, Nat.zero_add])
   have HK := hide (fun h => okb_take hlt HA.out h)
   have HTN := hide (there_newB wr)
   generalize qs[j] = p at *
   have HOC := hide (bce_all HP.out.form3)
   go_upto_region 4 with (first | (refine wpList_load_mid rfl _ _ rfl _ _ rfl _ _ HE.out Tryz.underlying48 rfl (by kernel_rfl) ?_) | (refine wpList_store_mid rfl _ _ _ rfl wr.heap.size 0 (bce p).toArray rfl rfl HTN.out (by kernel_rfl) HOC.out ?_))
   obtain ⟨V, hV⟩ : ∃ V, V = (wr.alloc (.cells #[.int .i64 0, .int .i64 0, .slice none 0 0] 48)).setCells wr.heap.size 0 (bce p) := ⟨_, rfl⟩
   obtain ⟨hbV, hrV, _⟩ := laidB wr p hV
   rw [← hV]
   have HRV := hide hrV
   have HBV := hide (HB.out.trans (hbV.mono HB.out.size))
   have HC := hide (bcheck_any (btq p) (.agg (bce p).toArray) V (okb := fun _ => True) (ok := fun _ => True) ⟨p.u, p.ps, rfl, HP.out.below HBV.out, rfl⟩ HX.out)
   rw [erB_ev] at HC
   clear hV hrV hbV HTN HE HB HP HX HT HW HR HOC
   have hz := evB_none (b := bw (btq p))
   generalize evB (bw (btq p)) = q at *
   rcases q with _ | q
   ·have hc := hz.1 rfl
    clear hz
    rw [show ev none = .nilIface from rfl] at HC
    go_wp2_with (first | (refine wpList_load_mid rfl _ _ rfl _ _ rfl _ _ HRV.out Tryz.underlying48 rfl (by kernel_rfl) ?_) | (go_at_call 77; refine HC.out.mono ?_; rintro e w5 ⟨rfl, hb5⟩; have HB5 := hide (HBV.out.trans (hb5.mono HBV.out.size)); clear hb5))
    go_roundw
    case rel => exact ⟨j + 1, by omega, by go_num, HK.out hc, HB5.out⟩
    case measure => simp [intOf]; omega
   ·have hw := HN.out q rfl
    clear HN hz HK
    obtain ⟨F, U, hFU⟩ := ev_form q
    rw [hFU] at HC
    have hE : ev (some ((⟨#[98, 97, 116, 99, 104]⟩, (j : Int)) :: q.1, q.2)) = .iface 98 (.agg #[.string ⟨#[98, 97, 116, 99, 104]⟩, .int .i64 (j : Int), .iface F U]) := by
     rw [← hFU]; rfl
    have HE2 := hide (hw.trans rfl)
    have HE3 := hide hE
    clear hw hE hFU
    go_wp2_with (first | (refine wpList_load_mid rfl _ _ rfl _ _ rfl _ _ HRV.out Tryz.underlying48 rfl (by kernel_rfl) ?_) | (go_at_call 77; refine HC.out.mono ?_; rintro e w5 ⟨rfl, hb5⟩; have HB5 := hide (HBV.out.trans (hb5.mono HBV.out.size)); clear hb5) | (go_at_call 72; refine (wrap_some _ _ _ _ _).mono ?_; rintro e w9 ⟨rfl, hw9⟩; rw [hw9]; clear hw9 w9))
    go_ret
    exact ⟨by rw [HE2.out, HE3.out]; rfl, HB5.out⟩
  ·obtain rfl : j = qs.length := by omega
   have hf := evBs_none (bts qs) 0 (by have := HA.out; rw [← bts_len, List.take_length] at this; exact this)
   have HF := hide hf
   clear hlt HR HW HT hf
   go_wp2_with fail
   go_ret
   exact ⟨by rw [HF.out]; rfl, HB.out⟩
def headB (k fr tn t ld pa pt hi co sz po dl bl : Int) (pre ok : Bool) (MB : Int → Bool) (HA : Int → Bool) (NB : Int → Int → Int → Bool) (MO : Int → Int → Int) : ByteArray × Int × Int :=
 checkMB k fr t ld pa hi co sz dl bl false (!MB fr || (!MB tn || (fr == tn))) (decide (t < 0) || decide (1073741824 < t)) ((pre && !HA 1) || (ok && !HA 2)) (!NB 4 ld 1073741824) (!NB 8 pa 1073741824 || !NB 16 pt 1073741824) (!NB 32 hi 1073741824) (!NB 64 co 21) (!NB 128 sz 1073741824 || !NB 256 po 1073741824) (decide (MO 512 512 < dl)) (decide (MO 1024 8 < bl))
def erH (EB : Value) (T : ByteArray × Int × Int) : Value := if T.2.2 = 0 then EB else ft T.1 T.2.1 T.2.2
theorem mcheck_go (k fr tn t ld pa pt hi co sz po : Int) (pre ok : Bool) (ab ad : Option Addr) (nb cb nd cd : Nat) (a : Int) (EB : Value) (MB : Int → Bool) (HA : Int → Bool) (NB : Int → Int → Int → Bool) (MO : Int → Int → Int) (w : World)
  (HS : Hid (∀ W, Calls Tryz.prog 14 #[.int .i64 k] W fun e w' => e = .returned (.tuple #[.int .u16 a, .bool true]) ∧ w' = W))
  (HME : Hid (∀ n W, Calls Tryz.prog 42 #[.int .i64 n] W fun e w' => e = .returned (.bool (MB n)) ∧ w' = W))
  (HH : Hid (∀ x W, Calls Tryz.prog 34 #[.int .u16 a, .int .u16 x] W fun e w' => e = .returned (.bool (HA x)) ∧ w' = W))
  (HW : Hid (∀ x n m W, Calls Tryz.prog 43 #[.int .u16 a, .int .u16 x, .int .i64 n, .int .i64 m] W fun e w' => e = .returned (.bool (NB x n m)) ∧ w' = W))
  (HM : Hid (∀ x n W, Calls Tryz.prog 44 #[.int .u16 a, .int .u16 x, .int .i64 n] W fun e w' => e = .returned (.int .i64 (MO x n)) ∧ w' = W))
  (HCB : Hid (∀ W, Below w.heap.size w W → Calls Tryz.prog 45 #[.slice ab nb cb] W fun e w' => e = .returned EB ∧ Below W.heap.size W w'))
  (ANS : Value) (hT : ANS = erH EB (headB k fr tn t ld pa pt hi co sz po nd nb pre ok MB HA NB MO)) :
  Calls Tryz.prog 12 #[.agg #[.int .i64 k, .int .i64 fr, .int .i64 tn, .int .i64 t, .bool pre, .bool ok, .int .i64 ld, .int .i64 pa, .int .i64 pt, .int .i64 hi, .int .i64 co, .slice ab nb cb, .int .i64 sz, .int .i64 po, .slice ad nd cd]] w fun e w' => e = .returned ANS ∧ Below w.heap.size w w' := by
 have HT := hide hT
 clear hT
 have HQ : Hid ((w.alloc (.cells #[.int .i64 k, .int .i64 fr, .int .i64 tn, .int .i64 t, .bool pre, .bool ok, .int .i64 ld, .int .i64 pa, .int .i64 pt, .int .i64 hi, .int .i64 co, .slice ab nb cb, .int .i64 sz, .int .i64 po, .slice ad nd cd] 26)).rangeAt w.heap.size 0 [.int .i64 k, .int .i64 fr, .int .i64 tn, .int .i64 t, .bool pre, .bool ok, .int .i64 ld, .int .i64 pa, .int .i64 pt, .int .i64 hi, .int .i64 co, .slice ab nb cb, .int .i64 sz, .int .i64 po, .slice ad nd cd]) := hide (range_new w _ _)
 have HB : Hid (Below w.heap.size w (w.alloc (.cells #[.int .i64 k, .int .i64 fr, .int .i64 tn, .int .i64 t, .bool pre, .bool ok, .int .i64 ld, .int .i64 pa, .int .i64 pt, .int .i64 hi, .int .i64 co, .slice ab nb cb, .int .i64 sz, .int .i64 po, .slice ad nd cd] 26))) := hide ((Below.refl _ _).alloc (Nat.le_refl _) _)
 go_enter Tryz.func12, Tryz.ntmps12
 go_upto_region 1 with fail
 generalize w.alloc (.cells #[.int .i64 k, .int .i64 fr, .int .i64 tn, .int .i64 t, .bool pre, .bool ok, .int .i64 ld, .int .i64 pa, .int .i64 pt, .int .i64 hi, .int .i64 co, .slice ab nb cb, .int .i64 sz, .int .i64 po, .slice ad nd cd] 26) = X at HQ HB ⊢
 obtain ⟨g0, g1, g2, g3, g4, g5, g6, g7, g8, g9, g10, g11, g12, g13, g14⟩ := C15.of HQ.out
 go_upto_region 4 with ((first | (go_at_call 14; refine (HS.out _).mono ?_) | (go_at_call 15; refine (new_any _ _ _ _).mono ?_) | (go_at_call 42; refine (HME.out _ _).mono ?_) | (go_at_call 34; refine (HH.out _ _).mono ?_) | (go_at_call 43; refine (HW.out _ _ _ _).mono ?_)); rintro e w1 ⟨rfl, hw1⟩; rw [hw1]; clear hw1 w1)
 cases e1 : MB fr
 rotate_left
 cases e2 : MB tn
 rotate_left
 cases e3 : (fr == tn)
 go_upto_region 6 with ((first | (go_at_call 14; refine (HS.out _).mono ?_) | (go_at_call 15; refine (new_any _ _ _ _).mono ?_) | (go_at_call 42; refine (HME.out _ _).mono ?_) | (go_at_call 34; refine (HH.out _ _).mono ?_) | (go_at_call 43; refine (HW.out _ _ _ _).mono ?_)); rintro e w1 ⟨rfl, hw1⟩; rw [hw1]; clear hw1 w1)
 cases e4 : decide (t < 0)
 cases e5 : decide (1073741824 < t)
 go_upto_region 8 with ((first | (go_at_call 14; refine (HS.out _).mono ?_) | (go_at_call 15; refine (new_any _ _ _ _).mono ?_) | (go_at_call 42; refine (HME.out _ _).mono ?_) | (go_at_call 34; refine (HH.out _ _).mono ?_) | (go_at_call 43; refine (HW.out _ _ _ _).mono ?_)); rintro e w1 ⟨rfl, hw1⟩; rw [hw1]; clear hw1 w1)
 obtain ⟨F, HF⟩ : ∃ F, Hid (F = ((pre && !HA 1) || (ok && !HA 2))) := ⟨_, hide rfl⟩
 focus
  go_cut [50] (fun b W => b = .bool F ∧ W = X)
 case first =>
  cases pre <;> cases ok <;> cases h1 : HA 1 <;> cases h2 : HA 2
  all_goals
   go_wp2_with ((first | (go_at_call 14; refine (HS.out _).mono ?_) | (go_at_call 15; refine (new_any _ _ _ _).mono ?_) | (go_at_call 42; refine (HME.out _ _).mono ?_) | (go_at_call 34; refine (HH.out _ _).mono ?_) | (go_at_call 43; refine (HW.out _ _ _ _).mono ?_)); rintro e w1 ⟨rfl, hw1⟩; rw [hw1]; clear hw1 w1)
   go_meet
   exact ⟨by rw [HF.out, h1, h2]; rfl, rfl⟩
 obtain ⟨rfl, rfl⟩ := hcut
 obtain ⟨X, rfl⟩ : ∃ x : World, x = wc := ⟨_, rfl⟩
 cases F
 go_upto_region 10 with ((first | (go_at_call 14; refine (HS.out _).mono ?_) | (go_at_call 15; refine (new_any _ _ _ _).mono ?_) | (go_at_call 42; refine (HME.out _ _).mono ?_) | (go_at_call 34; refine (HH.out _ _).mono ?_) | (go_at_call 43; refine (HW.out _ _ _ _).mono ?_)); rintro e w1 ⟨rfl, hw1⟩; rw [hw1]; clear hw1 w1)
 cases e8 : NB 4 ld 1073741824
 rotate_left
 go_upto_region 12 with ((first | (go_at_call 14; refine (HS.out _).mono ?_) | (go_at_call 15; refine (new_any _ _ _ _).mono ?_) | (go_at_call 42; refine (HME.out _ _).mono ?_) | (go_at_call 34; refine (HH.out _ _).mono ?_) | (go_at_call 43; refine (HW.out _ _ _ _).mono ?_)); rintro e w1 ⟨rfl, hw1⟩; rw [hw1]; clear hw1 w1)
 cases e9 : NB 8 pa 1073741824
 rotate_left
 cases e10 : NB 16 pt 1073741824
 rotate_left
 go_upto_region 14 with ((first | (go_at_call 14; refine (HS.out _).mono ?_) | (go_at_call 15; refine (new_any _ _ _ _).mono ?_) | (go_at_call 42; refine (HME.out _ _).mono ?_) | (go_at_call 34; refine (HH.out _ _).mono ?_) | (go_at_call 43; refine (HW.out _ _ _ _).mono ?_)); rintro e w1 ⟨rfl, hw1⟩; rw [hw1]; clear hw1 w1)
 cases e11 : NB 32 hi 1073741824
 rotate_left
 go_upto_region 16 with ((first | (go_at_call 14; refine (HS.out _).mono ?_) | (go_at_call 15; refine (new_any _ _ _ _).mono ?_) | (go_at_call 42; refine (HME.out _ _).mono ?_) | (go_at_call 34; refine (HH.out _ _).mono ?_) | (go_at_call 43; refine (HW.out _ _ _ _).mono ?_)); rintro e w1 ⟨rfl, hw1⟩; rw [hw1]; clear hw1 w1)
 cases e12 : NB 64 co 21
 rotate_left
 go_upto_region 18 with ((first | (go_at_call 14; refine (HS.out _).mono ?_) | (go_at_call 15; refine (new_any _ _ _ _).mono ?_) | (go_at_call 42; refine (HME.out _ _).mono ?_) | (go_at_call 34; refine (HH.out _ _).mono ?_) | (go_at_call 43; refine (HW.out _ _ _ _).mono ?_)); rintro e w1 ⟨rfl, hw1⟩; rw [hw1]; clear hw1 w1)
 cases e13 : NB 128 sz 1073741824
 rotate_left
 cases e14 : NB 256 po 1073741824
 rotate_left
 go_upto_region 20 with ((first | (go_at_call 14; refine (HS.out _).mono ?_) | (go_at_call 15; refine (new_any _ _ _ _).mono ?_) | (go_at_call 42; refine (HME.out _ _).mono ?_) | (go_at_call 34; refine (HH.out _ _).mono ?_) | (go_at_call 43; refine (HW.out _ _ _ _).mono ?_)); rintro e w1 ⟨rfl, hw1⟩; rw [hw1]; clear hw1 w1)
 focus
  cases e15 : decide (MO 512 512 < (nd : Int))
  all_goals
   go_quiet (first | (go_at_call 44; exact Calls.quiet_of_same (HM.out _ _ _)))
   replace HQ := hide (range_below HQ.out (below_drewN (Below.refl _ _) nq))
   replace HB := hide (below_drewN HB.out nq)
   clear g0 g1 g2 g3 g4 g5 g6 g7 g8 g9 g10 g11 g12 g13 g14
   obtain ⟨X, hX⟩ : ∃ X', X' = X.drewN nq := ⟨_, rfl⟩
   rw [← hX] at HQ HB ⊢
   clear hX
   obtain ⟨g0, g1, g2, g3, g4, g5, g6, g7, g8, g9, g10, g11, g12, g13, g14⟩ := C15.of HQ.out
 go_upto_region 22 with fail
 focus
  cases e16 : decide (MO 1024 8 < (nb : Int))
  all_goals
   go_quiet (first | (go_at_call 44; exact Calls.quiet_of_same (HM.out _ _ _)))
   replace HQ := hide (range_below HQ.out (below_drewN (Below.refl _ _) nq))
   replace HB := hide (below_drewN HB.out nq)
   clear g0 g1 g2 g3 g4 g5 g6 g7 g8 g9 g10 g11 g12 g13 g14
   obtain ⟨X, hX⟩ : ∃ X', X' = X.drewN nq := ⟨_, rfl⟩
   rw [← hX] at HQ HB ⊢
   clear hX
   obtain ⟨g0, g1, g2, g3, g4, g5, g6, g7, g8, g9, g10, g11, g12, g13, g14⟩ := C15.of HQ.out
 focus
  go_wp2_with (first | (go_at_call 45; refine (HCB.out _ HB.out).mono ?_; rintro e w5 ⟨rfl, hb5⟩; have HB5 := hide (HB.out.trans (hb5.mono HB.out.size)); clear hb5))
  go_ret
  refine ⟨?_, HB5.out⟩
  rw [HT.out]
  have hF := HF.out.symm
  simp [erH, headB, checkMB, *]
 all_goals
  go_wp2_with ((first | (go_at_call 14; refine (HS.out _).mono ?_) | (go_at_call 15; refine (new_any _ _ _ _).mono ?_) | (go_at_call 42; refine (HME.out _ _).mono ?_) | (go_at_call 34; refine (HH.out _ _).mono ?_) | (go_at_call 43; refine (HW.out _ _ _ _).mono ?_)); rintro e w1 ⟨rfl, hw1⟩; rw [hw1]; clear hw1 w1)
  go_ret
  refine ⟨?_, HB.out⟩
  rw [HT.out]
  first | (simp [erH, headB, checkMB, ft, *]; done) | (have hF := HF.out.symm; simp [erH, headB, checkMB, ft, *]; done)
theorem mcheck_any (m : Ms) (v : Value) (w : World) (hv : IsM w v m) (htx : TxM m) (hn : m.bs.length ≤ 100000) : Calls Tryz.prog 12 #[v] w fun e w' => e = .returned (ev (evM m)) ∧ Below w.heap.size w w' := by
 obtain ⟨ab, cb, ad, cd, qs, rfl, hm⟩ := isM_form hv
 have hcb := fun W (h : Below w.heap.size w W) => mbats_any (.slice ab m.bs.length cb) qs W (hm.bl.below h) (by rw [hm.bs]; exact htx) (by rw [hm.len]; exact hn)
 rw [hm.bs] at hcb
 by_cases hk : 1 ≤ m.k ∧ m.k ≤ 8
 ·have hs := fun W => msubj_any m.k W
  rw [show kndM m.k = true from decide_eq_true hk] at hs
  obtain ⟨q0, q1, q2, q3, q4, q5, q6, q7, q8, q9, q10⟩ := bitM_has hk
  have hT : headM m = headB m.k m.fr m.tn m.t m.ld m.pa m.pt m.hi m.co m.sz m.po m.da.length m.bs.length m.pre m.ok memB (fun x => bitM (sbjM m.k) x) (fun x n h => decide (0 ≤ n ∧ n ≤ if bitM (sbjM m.k) x then h else 0)) (fun x n => if bitM (sbjM m.k) x then n else 0) := by
   unfold headM headB
   simp only [q0, q1, q2, q3, q4, q5, q6, q7, q8, q9, q10]
   congr 1
   ·exact decide_eq_false (by omega)
   ·rw [← Bool.coe_iff_coe]; simp [memB]; omega
   ·exact Bool.decide_or ..
   ·rw [← Bool.coe_iff_coe]; simp
   ·rw [numB_not]
   ·rw [Bool.decide_or, numB_not, numB_not]
   ·rw [numB_not]
   ·rw [numB_not]
   ·rw [Bool.decide_or, numB_not, numB_not]
   ·exact decide_eq_decide.2 (by cases hasM m.k 100 <;> simp <;> omega)
   ·exact decide_eq_decide.2 (by cases hasM m.k 98 <;> simp <;> omega)
  refine (mcheck_go m.k m.fr m.tn m.t m.ld m.pa m.pt m.hi m.co m.sz m.po m.pre m.ok ab ad m.bs.length cb m.da.length cd (sbjM m.k) _ _ _ _ _ w (hide hs) (hide (fun n W => member_any n W)) (hide (fun x W => mhas_any _ x W)) (hide (fun x n h W => mwithin_dec _ x n h W)) (hide (fun x n W => mmost_any _ x n W)) (hide hcb) _ (by rw [← hT])).mono ?_
  rintro e w' ⟨rfl, hb⟩
  refine ⟨?_, hb⟩
  unfold evM erH
  split
  ·rfl
  ·rfl
 ·have e : evM m = some ([(⟨#[107, 105, 110, 100]⟩, m.k)], 5) := by
   have hh : headM m = (⟨#[107, 105, 110, 100]⟩, m.k, 5) := by
    unfold headM checkMB
    rw [if_pos (decide_eq_true (by omega))]
   unfold evM
   rw [hh]
   rfl
  rw [e, show ev (some ([((⟨#[107, 105, 110, 100]⟩ : ByteArray), m.k)], 5)) = ft ⟨#[107, 105, 110, 100]⟩ m.k 5 from rfl]
  have HS := hide (fun W => msubj_any m.k W)
  rw [show kndM m.k = false from decide_eq_false hk] at HS
  clear e hcb hk hm hv htx hn
  obtain ⟨k, fr, tn, t, pre, ok, ld, pa, pt, hi, co, sz, po, da, bs⟩ := m
  unfold cellsM ft
  simp only at HS ⊢
  go_enter Tryz.func12, Tryz.ntmps12
  go_wp2_with ((first | (go_at_call 14; refine (HS.out _).mono ?_) | (go_at_call 15; refine (new_any _ _ _ _).mono ?_)); rintro e w1 ⟨rfl, hw1⟩; rw [hw1]; clear hw1 w1)
  go_ret
  exact ⟨rfl, (Below.refl _ _).alloc (Nat.le_refl _) _⟩
end Go.Proofs.YtjjpfajbljbelaaGreatDoor
