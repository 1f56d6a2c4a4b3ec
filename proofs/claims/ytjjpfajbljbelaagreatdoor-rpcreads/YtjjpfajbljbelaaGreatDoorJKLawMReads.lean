/-
  RpcReads' WALK: which message any frame is, and what is wrong first, and where, is what the chapter says. Conditions: the bytes' cells hold them, each is a byte; errors.errorType is laid.
-/
import Derived.Test.YtjjpfajbljbelaaGreatDoorJKRpcWk
import Derived.Test.YtjjpfajbljbelaaGreatDoorJKRpcDr
namespace Go.Proofs.YtjjpfajbljbelaaGreatDoor
open Go.RowKit
theorem readM_ln (k : Int) (l : List Int) (hby : Byt l) : (readM k l).2.da.length ≤ 40000 ∧ (readM k l).2.bs.length ≤ 100000 ∧ LnM (readM k l).2 := by
 by_cases hc : (readM k l).1.2.2 = 0
 ·obtain ⟨_, _, hok, _⟩ := readM_once k l hby hc
  refine ⟨?_, by have := (msOk_tx hok).2; omega, fun x hx => ?_⟩
  ·have h1 := hok.da.1
   split at h1
   ·have := h1.1; omega
   ·rw [show (readM k l).2.da = [] from h1]; decide
  ·have h2 := bw_ok (hok.bs x hx).1
   exact ⟨by omega, fun r hr => chk_ln (h2.2.2.2 r hr)⟩
 ·rw [readM_zero hc]
  exact ⟨by decide, by decide, fun x hx => by simp [Ms.zero] at hx⟩
set_option maxRecDepth 100000 in
set_option maxHeartbeats 16000000 in
theorem mreads_law (k : Int) (v : Value) (l : List Int) (w : World) (hv : Sl bc w v l) (hby : Byt l) (hg : Hnd w) : Calls Tryz.prog 3 #[.int .i64 k, v] w fun e w' => e = .returned (.bool true) ∧ Below w.heap.size w w' := by
 obtain ⟨ao, cap, rfl⟩ := hv.form
 have HG := hide hg
 have HWK := hide (fun W (h : Below w.heap.size w W) => mworks_any W (HG.out.below h))
 have HB0 : Hid (Below w.heap.size w w) := hide (Below.refl _ _)
 have HV := hide hv
 have HBY := hide hby
 by_cases hlen : 1500 < l.length
 ·have hI : (1500 : Int) < (l.length : Int) := by omega
  clear hv hby hg
  go_enter Tryz.func3, Tryz.ntmps3
  go_wp2_with (first | (go_at_call 4; refine (HWK.out _ HB0.out).mono ?_; rintro e V9 ⟨rfl, hb9⟩; have HB9 := hide (HB0.out.trans (hb9.mono HB0.out.size)); clear hb9))
  go_ret
  exact ⟨rfl, HB9.out⟩
 have hI : ¬ (1500 : Int) < (l.length : Int) := by omega
 have HL4 : Hid (l.length ≤ 4000) := hide (by omega)
 have HR0 := hide (mread_any k (.slice ao l.length cap) l w hv (by omega) hby hg)
 have HDO := hide (fun W (h : Below w.heap.size w W) => rmread_any k (.slice ao l.length cap) l W (HV.out.below h) HL4.out HBY.out)
 have HLN := hide (readM_ln k l hby)
 unfold RdP at HR0
 generalize readM k l = RM at *
 obtain ⟨⟨op9, n9, c9⟩, m⟩ := RM
 simp only [wrT] at HR0 HDO HLN
 clear hv hby hg
 have HRD : Hid (Calls Tryz.prog 5 #[.agg #[.int .i64 k, .slice ao l.length cap]] w fun e w' => ∃ a4 c4 a5 c5 X, e = .returned (.tuple #[.agg #[.int .i64 m.k, .int .i64 m.fr, .int .i64 m.tn, .int .i64 m.t, .bool m.pre, .bool m.ok, .int .i64 m.ld, .int .i64 m.pa, .int .i64 m.pt, .int .i64 m.hi, .int .i64 m.co, .slice a4 m.bs.length c4, .int .i64 m.sz, .int .i64 m.po, .slice a5 m.da.length c5], ev X]) ∧ IsM w' (.agg #[.int .i64 m.k, .int .i64 m.fr, .int .i64 m.tn, .int .i64 m.t, .bool m.pre, .bool m.ok, .int .i64 m.ld, .int .i64 m.pa, .int .i64 m.pt, .int .i64 m.hi, .int .i64 m.co, .slice a4 m.bs.length c4, .int .i64 m.sz, .int .i64 m.po, .slice a5 m.da.length c5]) m ∧ Tells X (op9, n9, c9) ∧ Below w.heap.size w w') := hide (HR0.out.mono (by
  rintro e w' ⟨vx, X, rfl, hx, ht, hb⟩
  have hi := hx.is
  obtain ⟨a4, c4, a5, c5, qs', rfl, hm'⟩ := isM_form hi
  exact ⟨a4, c4, a5, c5, X, rfl, hi, ht, hb⟩))
 have HDD : Hid (∀ W, Below w.heap.size w W → Calls Tryz.prog 6 #[.agg #[.int .i64 k, .slice ao l.length cap]] W fun e w' => ∃ a6 c6 a7 c7, e = .returned (.tuple #[.agg #[.int .i64 m.k, .int .i64 m.fr, .int .i64 m.tn, .int .i64 m.t, .bool m.pre, .bool m.ok, .int .i64 m.ld, .int .i64 m.pa, .int .i64 m.pt, .int .i64 m.hi, .int .i64 m.co, .slice a6 m.bs.length c6, .int .i64 m.sz, .int .i64 m.po, .slice a7 m.da.length c7], .agg #[.string op9, .int .i64 n9, .int .i64 c9, .int .i64 (-1)]]) ∧ IsM w' (.agg #[.int .i64 m.k, .int .i64 m.fr, .int .i64 m.tn, .int .i64 m.t, .bool m.pre, .bool m.ok, .int .i64 m.ld, .int .i64 m.pa, .int .i64 m.pt, .int .i64 m.hi, .int .i64 m.co, .slice a6 m.bs.length c6, .int .i64 m.sz, .int .i64 m.po, .slice a7 m.da.length c7]) m ∧ Below W.heap.size W w') := hide (fun W h => (HDO.out W h).mono (by
  rintro e w' ⟨vx, y, rfl, rfl, hi, hb⟩
  obtain ⟨a4, c4, a5, c5, qs', rfl, hm'⟩ := isM_form hi
  exact ⟨a4, c4, a5, c5, rfl, hi, hb⟩))
 clear HR0 HDO
 go_enter Tryz.func3, Tryz.ntmps3
 go_upto_region 4 with (first | (go_at_call 5; refine HRD.out.mono ?_; rintro e V5 ⟨a4, c4, a5, c5, X, rfl, hi5, ht5, hb5⟩))
 obtain ⟨Y5, hY5⟩ : ∃ Y, Y = V5.alloc (.cells #[.int .i64 m.k, .int .i64 m.fr, .int .i64 m.tn, .int .i64 m.t, .bool m.pre, .bool m.ok, .int .i64 m.ld, .int .i64 m.pa, .int .i64 m.pt, .int .i64 m.hi, .int .i64 m.co, .slice a4 m.bs.length c4, .int .i64 m.sz, .int .i64 m.po, .slice a5 m.da.length c5] 26) := ⟨_, rfl⟩
 have hbY5 : Below V5.heap.size V5 Y5 := by rw [hY5]; exact (Below.refl _ _).alloc (Nat.le_refl _) _
 have HR5 : Hid (Y5.rangeAt V5.heap.size 0 [.int .i64 m.k, .int .i64 m.fr, .int .i64 m.tn, .int .i64 m.t, .bool m.pre, .bool m.ok, .int .i64 m.ld, .int .i64 m.pa, .int .i64 m.pt, .int .i64 m.hi, .int .i64 m.co, .slice a4 m.bs.length c4, .int .i64 m.sz, .int .i64 m.po, .slice a5 m.da.length c5]) := hide (by rw [hY5]; exact range_new V5 _ _)
 have HB5 := hide (hb5.trans (hbY5.mono hb5.size))
 have HI5 := hide (hi5.below hbY5)
 have HT5 := hide ht5
 have HD5 := hide (HDD.out Y5 HB5.out)
 rw [← hY5]
 clear hY5 hbY5 hi5 hb5 HRD HDD ht5
 generalize hd5 : V5.heap.size = d5 at *
 clear hd5
 go_upto_region 5 with (first | (go_at_call 6; refine HD5.out.mono ?_; rintro e V7 ⟨a6, c6, a7, c7, rfl, hi7, hb7⟩))
 obtain ⟨Y7, hY7⟩ : ∃ Y, Y = (V7.alloc (.cells #[.int .i64 m.k, .int .i64 m.fr, .int .i64 m.tn, .int .i64 m.t, .bool m.pre, .bool m.ok, .int .i64 m.ld, .int .i64 m.pa, .int .i64 m.pt, .int .i64 m.hi, .int .i64 m.co, .slice a6 m.bs.length c6, .int .i64 m.sz, .int .i64 m.po, .slice a7 m.da.length c7] 26)).alloc (.cells #[.string op9, .int .i64 n9, .int .i64 c9, .int .i64 (-1)] 37) := ⟨_, rfl⟩
 have hbY7 : Below V7.heap.size V7 Y7 := by rw [hY7]; exact ((Below.refl _ _).alloc (Nat.le_refl _) _).alloc (by simp) _
 have HR7 : Hid (Y7.rangeAt V7.heap.size 0 [.int .i64 m.k, .int .i64 m.fr, .int .i64 m.tn, .int .i64 m.t, .bool m.pre, .bool m.ok, .int .i64 m.ld, .int .i64 m.pa, .int .i64 m.pt, .int .i64 m.hi, .int .i64 m.co, .slice a6 m.bs.length c6, .int .i64 m.sz, .int .i64 m.po, .slice a7 m.da.length c7]) := hide (by rw [hY7]; exact range_bel (range_new V7 _ _) ((Below.refl _ _).alloc (Nat.le_refl _) _))
 have HR8 : Hid (Y7.rangeAt (V7.heap.size + 1) 0 [.string op9, .int .i64 n9, .int .i64 c9, .int .i64 (-1)]) := hide (by rw [hY7]; have := range_new (V7.alloc (.cells #[.int .i64 m.k, .int .i64 m.fr, .int .i64 m.tn, .int .i64 m.t, .bool m.pre, .bool m.ok, .int .i64 m.ld, .int .i64 m.pa, .int .i64 m.pt, .int .i64 m.hi, .int .i64 m.co, .slice a6 m.bs.length c6, .int .i64 m.sz, .int .i64 m.po, .slice a7 m.da.length c7] 26)) [.string op9, .int .i64 n9, .int .i64 c9, .int .i64 (-1)] 37; simpa using this)
 have HX7 := hide (hb7.trans (hbY7.mono hb7.size))
 have HB7 := hide (HB5.out.trans (HX7.out.mono HB5.out.size))
 have HS7 := hide (range_bel HR5.out HX7.out)
 have HSM := hide (rmsame_eqE m _ _ Y7 (HI5.out.below HX7.out) (hi7.below hbY7) HLN.out.1 HLN.out.2.1 HLN.out.2.2)
 have HWR := hide (fun W (h : Below w.heap.size w W) => mwrong_any X (op9, n9, c9) (-1) W HT5.out (HG.out.below h))
 simp only at HWR
 rw [← hY7]
 clear hY7 hbY7 hi7 hb7 HD5 HR5 HI5
 have e0 : Y7.cell? ⟨V7.heap.size + 1, 0, none⟩ = some (.string op9) := HR8.out 0 _ rfl
 have e1 : Y7.cell? ⟨V7.heap.size + 1, 1, none⟩ = some (.int .i64 n9) := HR8.out 1 _ rfl
 have e2 : Y7.cell? ⟨V7.heap.size + 1, 2, none⟩ = some (.int .i64 c9) := HR8.out 2 _ rfl
 have e3 : Y7.cell? ⟨V7.heap.size + 1, 3, none⟩ = some (.int .i64 (-1)) := HR8.out 3 _ rfl
 have HLT : Hid (V7.heap.size + 1 < Y7.heap.size) := hide (cell_block e0)
 generalize hd7 : V7.heap.size = d7 at *
 clear hd7
 go_wp2_with (first | (refine wpList_load_mid rfl _ _ rfl _ _ rfl _ _ HS7.out Tryz.underlying26 rfl (by kernel_rfl) ?_; clear HS7) | (refine wpList_load_mid rfl _ _ rfl _ _ rfl _ _ HR7.out Tryz.underlying26 rfl (by kernel_rfl) ?_; clear HR7) | (go_at_call 7; refine HSM.out.mono ?_; rintro e V2 ⟨rfl, hb2⟩; have HB2 := hide (HB7.out.trans (hb2.mono HB7.out.size)); have g0 := (hb2.cell (p := ⟨d7 + 1, 0, none⟩) HLT.out).trans e0; have g1 := (hb2.cell (p := ⟨d7 + 1, 1, none⟩) HLT.out).trans e1; have g2 := (hb2.cell (p := ⟨d7 + 1, 2, none⟩) HLT.out).trans e2; have g3 := (hb2.cell (p := ⟨d7 + 1, 3, none⟩) HLT.out).trans e3; clear hb2 e0 e1 e2 e3) | (go_at_call 8; refine (HWR.out _ HB2.out).mono ?_; rintro e V6 ⟨rfl, hb6⟩; have HB6 := hide (HB2.out.trans (hb6.mono HB2.out.size)); clear hb6) | (go_at_call 4; refine (HWK.out _ HB6.out).mono ?_; rintro e V9 ⟨rfl, hb9⟩; have HB9 := hide (HB6.out.trans (hb9.mono HB6.out.size)); clear hb9))
 go_ret
 exact ⟨rfl, HB9.out⟩
end Go.Proofs.YtjjpfajbljbelaaGreatDoor
