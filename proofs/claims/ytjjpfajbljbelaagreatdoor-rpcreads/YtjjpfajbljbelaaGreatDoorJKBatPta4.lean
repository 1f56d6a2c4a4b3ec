/-
  A BATCH AS BYTES (batch.Put): what the mathematics says. Conditions: the records' cells hold them, their texts are not too long.
  A RECORD AS BYTES, BY THE DOCUMENT (castellanref05.Bytes): the bytes of its kind and of each field that the kind asks for. Conditions: the record may be; its rows' cells hold them.
  A RECORD THAT MAY BE AS BYTES, BY THE DOCUMENT: the bytes that the mathematics says. Condition: the rows' cells hold them.
  A BATCH, BY THE DOCUMENT: what is wrong with it first, its bytes (castellanref06.Check, Bytes, Put): what the mathematics says. Conditions: the records' cells hold them, their texts are not too long.
-/
import Derived.Test.YtjjpfajbljbelaaGreatDoorJKBatSra2
namespace Go.Proofs.YtjjpfajbljbelaaGreatDoor
open Go.RowKit
theorem wint_ow (B : Nat) (u : Value) (l0 : List Int) (k : Int) (w : World) (hu : Ow B w u l0) (hl0 : l0.length ≤ 900000) (hB : B ≤ w.heap.size) (hk : k ≤ 9223372036854775807) :
  Calls Tryz.prog 68 #[u, .int .i64 k] w fun e w' => ∃ v', e = .returned v' ∧ Ow B w' v' (l0 ++ intL k) ∧ Below B w w' := by
 obtain ⟨cur, h1, h2⟩ := hu
 refine (wint_any B u l0.length cur k w h1 hB hl0 hk).mono ?_
 rintro e w' ⟨v', cur', rfl, hp⟩
 exact ⟨v', rfl, Ow.put h2 hp, hp.below⟩
theorem Ow.form {B : Nat} {W : World} {v : Value} {l : List Int} (h : Ow B W v l) : ∃ ao cap, v = .slice ao l.length cap := h.sl.form
theorem range_old {B : Nat} {w Y W : World} {b o : Nat} {cs : List Value} (h : w.rangeAt b o cs) (hY : Below w.heap.size w Y) (hW : Below B Y W) (hB : w.heap.size ≤ B) : W.rangeAt b o cs := range_imp h (fun i hl => (hW.cell (p := ⟨b, i, none⟩) (by exact Nat.lt_of_lt_of_le hl hB)).trans (hY.cell (p := ⟨b, i, none⟩) hl))
theorem RwP.old {ok : Nat → Prop} {B : Nat} {w Y W : World} {p : Rp} (h : RwP ok w p) (hY : Below w.heap.size w Y) (hW : Below B Y W) (hB : w.heap.size ≤ B) : RwP (fun b => b < B) W p := h.imp (fun b hl _ => by omega) (fun b i hl _ => (hW.cell (p := ⟨b, i, none⟩) (by exact Nat.lt_of_lt_of_le hl hB)).trans (hY.cell (p := ⟨b, i, none⟩) hl))
set_option maxRecDepth 100000 in
set_option maxHeartbeats 16000000 in
theorem bput_bad (t bs : Int) (ao : Option Addr) (n cap : Nat) (F : TypeId) (U : Value) (w : World) (HC : Hid (∀ W, Below w.heap.size w W → Calls Tryz.prog 77 #[.agg #[.int .i64 t, .int .i64 bs, .slice ao n cap]] W fun e w' => e = .returned (.iface F U) ∧ Below W.heap.size W w')) :
  Calls Tryz.prog 71 #[.agg #[.int .i64 t, .int .i64 bs, .slice ao n cap]] w fun e w' => e = .returned (.tuple #[.slice none 0 0, .iface F U]) ∧ Below w.heap.size w w' := by
 have hb : Below w.heap.size w (w.alloc (.cells #[.int .i64 t, .int .i64 bs, .slice ao n cap] 48)) := (Below.refl _ _).alloc (Nat.le_refl _) _
 have HC2 := hide (HC.out _ hb)
 have HB := hide hb
 clear HC hb
 go_enter Tryz.func71, Tryz.ntmps71
 go_wp2_with (first | (go_at_call 77; refine HC2.out.mono ?_; rintro e w1 ⟨rfl, hb1⟩; have HB1 := hide (HB.out.trans (hb1.mono HB.out.size)); clear hb1))
 exact bodyPost_ret (v := .tuple #[.slice none 0 0, .iface F U]) (by simp [results, Tryz.results71, go_sem]) rfl ⟨rfl, HB1.out⟩
def PutP (x : Bt) (w : World) (e : Ending) (w' : World) : Prop :=
 (if (bw x).c = 0 then (if (bytL x).length ≤ 16384 then ∃ y, e = .returned (.tuple #[y, .nilIface]) ∧ Ow (w.heap.size + 1) w' y (bytL x) else e = .returned (.tuple #[.slice none 0 0, ft ⟨#[98, 97, 116, 99, 104]⟩ (bytL x).length 6])) else e = .returned (.tuple #[.slice none 0 0, erB (bw x)])) ∧ Below w.heap.size w w'
theorem one_le {α : Type} {en : α → List Int} {x : α} (h : Bool) (hx : (en x).length ≤ 9000) : (if h then en x else []).length ≤ 9000 := by
 cases h
 ·simp
 ·simpa using hx
theorem lt (S : List UInt8) (h : Bool) (q : S.length ≤ 256) : (if h then enT S else []).length ≤ 9000 := one_le (en := enT) h (by
 unfold enT
 rw [List.length_append, sb_len]
 have := intL_le S.length
 omega)
theorem box_four (w : World) (x y z : Value) {Y : World} (hY : Y = (w.alloc (.cells #[x, y, z] 48)).alloc (.cells #[.string ⟨#[]⟩, .int .i64 0, .int .i64 0, .int .i64 0] 37)) : Below w.heap.size w Y ∧ (∀ V, Below Y.heap.size Y V → V.cell? ⟨w.heap.size, 0, none⟩ = some x ∧ V.cell? ⟨w.heap.size, 1, none⟩ = some y ∧ V.cell? ⟨w.heap.size, 2, none⟩ = some z) ∧ (∀ V, Below Y.heap.size Y V → V.cell? ⟨w.heap.size + 1, 0, none⟩ = some (.string ⟨#[]⟩) ∧ V.cell? ⟨w.heap.size + 1, 1, none⟩ = some (.int .i64 0) ∧ V.cell? ⟨w.heap.size + 1, 2, none⟩ = some (.int .i64 0) ∧ V.cell? ⟨w.heap.size + 1, 3, none⟩ = some (.int .i64 0) ∧ ∀ i, V.frozen? ⟨w.heap.size + 1, i, none⟩ = false) := by
 have hs : Y.heap.size = w.heap.size + 2 := by rw [hY]; simp
 refine ⟨by rw [hY]; exact ((Below.refl _ _).alloc (Nat.le_refl _) _).alloc (by simp) _, fun V h => ?_, fun V h => ?_⟩
 ·have hc : ∀ i, V.cell? ⟨w.heap.size, i, none⟩ = _ := fun i => h.cell (p := ⟨w.heap.size, i, none⟩) (by show w.heap.size < _; omega)
  exact ⟨by rw [hc, hY]; simp, by rw [hc, hY]; simp, by rw [hc, hY]; simp⟩
 ·have hc : ∀ i, V.cell? ⟨w.heap.size + 1, i, none⟩ = _ := fun i => h.cell (p := ⟨w.heap.size + 1, i, none⟩) (by show w.heap.size + 1 < _; omega)
  have hf : ∀ i, V.frozen? ⟨w.heap.size + 1, i, none⟩ = _ := fun i => h.frozen (p := ⟨w.heap.size + 1, i, none⟩) (by show w.heap.size + 1 < _; omega)
  exact ⟨by rw [hc, hY]; simp, by rw [hc, hY]; simp, by rw [hc, hY]; simp, by rw [hc, hY]; simp, fun i => by rw [hf, hY]; exact World.frozen?_alloc_at _ _ _ _ (by simp)⟩
set_option maxRecDepth 100000 in
set_option maxHeartbeats 16000000 in
theorem rbcheck_go {ok : Nat → Prop} (t bs : Int) (ao : Option Addr) (cap : Nat) (ps : List Rp) (w : World) (hrg : 0 < ps.length → ∃ b o, ao = some ⟨b, o, none⟩ ∧ w.rangeAt b o (rcs ps)) (hrw : ∀ p ∈ ps, RwP ok w p) (htx : ∀ p ∈ ps, TxR p.1) :
  Calls Tryz.prog 62 #[.agg #[.int .i64 t, .int .i64 bs, .slice ao ps.length cap]] w fun e w' => e = .returned (wrB (bw ⟨t, bs, rcl ps⟩)) ∧ Below w.heap.size w w' := by
 have HR := hide hrg
 have HW := hide hrw
 have HTX := hide htx
 obtain ⟨hb0, ht0, hr0⟩ := box_four w (.int .i64 t) (.int .i64 bs) (.slice ao ps.length cap) (Y := ((w.alloc (.cells #[.int .i64 t, .int .i64 bs, .slice ao ps.length cap] 48)).alloc (.cells #[.string ⟨#[]⟩, .int .i64 0, .int .i64 0, .int .i64 0] 37))) rfl
 have HB0 := hide hb0
 have HT := hide ht0
 have HR4 := hide hr0
 clear hrg hrw htx hb0 ht0 hr0
 by_cases h1 : t < 1 ∨ 1073741824 < t
 ·have e : bw ⟨t, bs, rcl ps⟩ = ⟨⟨#[116, 101, 114, 109]⟩, t, 2, -1, 0⟩ := by unfold bw; simp only; rw [if_pos h1]
  rw [e]
  unfold wrB
  clear e HR HW HTX
  by_cases h2 : t < 1
  ·go_enter Tryz.func62, Tryz.ntmps62
   go_upto_region 1 with fail
   generalize ((w.alloc (.cells #[.int .i64 t, .int .i64 bs, .slice ao ps.length cap] 48)).alloc (.cells #[.string ⟨#[]⟩, .int .i64 0, .int .i64 0, .int .i64 0] 37)) = Y at HB0 HT HR4 ⊢
   obtain ⟨i0, i1, i2⟩ := HT.out Y (Below.refl _ _)
   obtain ⟨r0, r1, r2, r3, rf⟩ := HR4.out Y (Below.refl _ _)
   have rf0 := rf 0
   have rf1 := rf 1
   have rf2 := rf 2
   have rf3 := rf 3
   clear rf
   go_wp2_with fail
   exact bodyPost_ret (v := .agg #[.string ⟨#[116, 101, 114, 109]⟩, .int .i64 t, .int .i64 2, .int .i64 (-1)]) (by simp [results, Tryz.results62, go_sem, r0, r1, r2, r3]) rfl ⟨rfl, (((HB0.out.setCell (by exact Nat.le_succ _) _).setCell (by exact Nat.le_succ _) _).setCell (by exact Nat.le_succ _) _).setCell (by exact Nat.le_succ _) _⟩
  ·have h3 : 1073741824 < t := by omega
   go_enter Tryz.func62, Tryz.ntmps62
   go_upto_region 1 with fail
   generalize ((w.alloc (.cells #[.int .i64 t, .int .i64 bs, .slice ao ps.length cap] 48)).alloc (.cells #[.string ⟨#[]⟩, .int .i64 0, .int .i64 0, .int .i64 0] 37)) = Y at HB0 HT HR4 ⊢
   obtain ⟨i0, i1, i2⟩ := HT.out Y (Below.refl _ _)
   obtain ⟨r0, r1, r2, r3, rf⟩ := HR4.out Y (Below.refl _ _)
   have rf0 := rf 0
   have rf1 := rf 1
   have rf2 := rf 2
   have rf3 := rf 3
   clear rf
   go_wp2_with fail
   exact bodyPost_ret (v := .agg #[.string ⟨#[116, 101, 114, 109]⟩, .int .i64 t, .int .i64 2, .int .i64 (-1)]) (by simp [results, Tryz.results62, go_sem, r0, r1, r2, r3]) rfl ⟨rfl, (((HB0.out.setCell (by exact Nat.le_succ _) _).setCell (by exact Nat.le_succ _) _).setCell (by exact Nat.le_succ _) _).setCell (by exact Nat.le_succ _) _⟩
 by_cases h2 : bs < 0 ∨ 1073741824 < bs
 ·have e : bw ⟨t, bs, rcl ps⟩ = ⟨⟨#[98, 97, 115, 101]⟩, bs, 2, -1, 0⟩ := by unfold bw; simp only; rw [if_neg h1, if_pos h2]
  rw [e]
  unfold wrB
  have k1 : ¬ t < 1 := by omega
  have k2 : ¬ 1073741824 < t := by omega
  clear e HR HW HTX h1
  by_cases h2 : bs < 0
  ·go_enter Tryz.func62, Tryz.ntmps62
   go_upto_region 1 with fail
   generalize ((w.alloc (.cells #[.int .i64 t, .int .i64 bs, .slice ao ps.length cap] 48)).alloc (.cells #[.string ⟨#[]⟩, .int .i64 0, .int .i64 0, .int .i64 0] 37)) = Y at HB0 HT HR4 ⊢
   obtain ⟨i0, i1, i2⟩ := HT.out Y (Below.refl _ _)
   obtain ⟨r0, r1, r2, r3, rf⟩ := HR4.out Y (Below.refl _ _)
   have rf0 := rf 0
   have rf1 := rf 1
   have rf2 := rf 2
   have rf3 := rf 3
   clear rf
   go_wp2_with fail
   exact bodyPost_ret (v := .agg #[.string ⟨#[98, 97, 115, 101]⟩, .int .i64 bs, .int .i64 2, .int .i64 (-1)]) (by simp [results, Tryz.results62, go_sem, r0, r1, r2, r3]) rfl ⟨rfl, (((HB0.out.setCell (by exact Nat.le_succ _) _).setCell (by exact Nat.le_succ _) _).setCell (by exact Nat.le_succ _) _).setCell (by exact Nat.le_succ _) _⟩
  ·have h3 : 1073741824 < bs := by omega
   go_enter Tryz.func62, Tryz.ntmps62
   go_upto_region 1 with fail
   generalize ((w.alloc (.cells #[.int .i64 t, .int .i64 bs, .slice ao ps.length cap] 48)).alloc (.cells #[.string ⟨#[]⟩, .int .i64 0, .int .i64 0, .int .i64 0] 37)) = Y at HB0 HT HR4 ⊢
   obtain ⟨i0, i1, i2⟩ := HT.out Y (Below.refl _ _)
   obtain ⟨r0, r1, r2, r3, rf⟩ := HR4.out Y (Below.refl _ _)
   have rf0 := rf 0
   have rf1 := rf 1
   have rf2 := rf 2
   have rf3 := rf 3
   clear rf
   go_wp2_with fail
   exact bodyPost_ret (v := .agg #[.string ⟨#[98, 97, 115, 101]⟩, .int .i64 bs, .int .i64 2, .int .i64 (-1)]) (by simp [results, Tryz.results62, go_sem, r0, r1, r2, r3]) rfl ⟨rfl, (((HB0.out.setCell (by exact Nat.le_succ _) _).setCell (by exact Nat.le_succ _) _).setCell (by exact Nat.le_succ _) _).setCell (by exact Nat.le_succ _) _⟩
 by_cases h3 : ps.length < 1 ∨ 64 < ps.length
 ·have e : bw ⟨t, bs, rcl ps⟩ = ⟨⟨#[114, 101, 99, 111, 114, 100, 115]⟩, (ps.length : Int), 6, -1, 0⟩ := by unfold bw; simp only; rw [if_neg h1, if_neg h2, rcl_len, if_pos h3]
  rw [e]
  unfold wrB
  have k1 : ¬ t < 1 := by omega
  have k2 : ¬ 1073741824 < t := by omega
  have k3 : ¬ bs < 0 := by omega
  have k4 : ¬ 1073741824 < bs := by omega
  clear e HR HW HTX h1 h2
  by_cases h2 : ps.length < 1
  ·have h2I : (ps.length : Int) < 1 := by omega
   go_enter Tryz.func62, Tryz.ntmps62
   go_upto_region 1 with fail
   generalize ((w.alloc (.cells #[.int .i64 t, .int .i64 bs, .slice ao ps.length cap] 48)).alloc (.cells #[.string ⟨#[]⟩, .int .i64 0, .int .i64 0, .int .i64 0] 37)) = Y at HB0 HT HR4 ⊢
   obtain ⟨i0, i1, i2⟩ := HT.out Y (Below.refl _ _)
   obtain ⟨r0, r1, r2, r3, rf⟩ := HR4.out Y (Below.refl _ _)
   have rf0 := rf 0
   have rf1 := rf 1
   have rf2 := rf 2
   have rf3 := rf 3
   clear rf
   go_wp2_with fail
   exact bodyPost_ret (v := .agg #[.string ⟨#[114, 101, 99, 111, 114, 100, 115]⟩, .int .i64 (ps.length : Int), .int .i64 6, .int .i64 (-1)]) (by simp [results, Tryz.results62, go_sem, r0, r1, r2, r3]) rfl ⟨rfl, (((HB0.out.setCell (by exact Nat.le_succ _) _).setCell (by exact Nat.le_succ _) _).setCell (by exact Nat.le_succ _) _).setCell (by exact Nat.le_succ _) _⟩
  ·have h5 : ¬ (ps.length : Int) < 1 := by omega
   have h4 : (64 : Int) < (ps.length : Int) := by omega
   go_enter Tryz.func62, Tryz.ntmps62
   go_upto_region 1 with fail
   generalize ((w.alloc (.cells #[.int .i64 t, .int .i64 bs, .slice ao ps.length cap] 48)).alloc (.cells #[.string ⟨#[]⟩, .int .i64 0, .int .i64 0, .int .i64 0] 37)) = Y at HB0 HT HR4 ⊢
   obtain ⟨i0, i1, i2⟩ := HT.out Y (Below.refl _ _)
   obtain ⟨r0, r1, r2, r3, rf⟩ := HR4.out Y (Below.refl _ _)
   have rf0 := rf 0
   have rf1 := rf 1
   have rf2 := rf 2
   have rf3 := rf 3
   clear rf
   go_wp2_with fail
   exact bodyPost_ret (v := .agg #[.string ⟨#[114, 101, 99, 111, 114, 100, 115]⟩, .int .i64 (ps.length : Int), .int .i64 6, .int .i64 (-1)]) (by simp [results, Tryz.results62, go_sem, r0, r1, r2, r3]) rfl ⟨rfl, (((HB0.out.setCell (by exact Nat.le_succ _) _).setCell (by exact Nat.le_succ _) _).setCell (by exact Nat.le_succ _) _).setCell (by exact Nat.le_succ _) _⟩
 obtain ⟨b, o, rfl, hrg⟩ := HR.out (by omega)
 clear HR
 have HR := hide hrg
 clear hrg
 have HAT := hide (fun j hj ha hc => bw_at (t := t) (b := bs) (ps := ps) (j := j) h1 h2 h3 hj ha hc)
 have HFI := hide (fun ha => bw_fine (t := t) (b := bs) (ps := ps) h1 h2 h3 ha)
 have k1 : ¬ t < 1 := by omega
 have k2 : ¬ 1073741824 < t := by omega
 have k3 : ¬ bs < 0 := by omega
 have k4 : ¬ 1073741824 < bs := by omega
 have k5 : ¬ (ps.length : Int) < 1 := by omega
 have k6 : ¬ (64 : Int) < (ps.length : Int) := by omega
 have hn : ps.length ≤ 64 := by omega
 clear h1 h2 h3
 go_enter Tryz.func62, Tryz.ntmps62
 go_upto_region 1 with fail
 generalize ((w.alloc (.cells #[.int .i64 t, .int .i64 bs, .slice (some ⟨b, o, none⟩) ps.length cap] 48)).alloc (.cells #[.string ⟨#[]⟩, .int .i64 0, .int .i64 0, .int .i64 0] 37)) = Y at HB0 HT HR4 ⊢
 obtain ⟨i0, i1, i2⟩ := HT.out Y (Below.refl _ _)
 go_wp2_with fail
 clear i0 i1 i2
 go_loopw [4] (fun i wr => ∃ j : Nat, j ≤ ps.length ∧ i = .int .i64 (j : Int) ∧ (∀ r ∈ (rcl ps).take j, (chk r).2.2 = 0) ∧ Below Y.heap.size Y wr) (fun i _ => ps.length - (intOf i).toNat)
 case atStart => exact ⟨0, Nat.zero_le _, rfl, fun r hr => by simp at hr, Below.refl _ _⟩
 case round =>
  obtain ⟨j, hj, rfl, hall, hb⟩ := hrel
  have HA := hide hall
  have HB := hide hb
  clear hall hb
  obtain ⟨i0, i1, i2⟩ := HT.out wr HB.out
  have HBw := hide (HB0.out.trans (HB.out.mono HB0.out.size))
  by_cases hlt : j < ps.length
  ·have hltI : (j : Int) < (ps.length : Int) := by omega
   have HE := hide (range_bel (range_at HR.out hlt) HBw.out)
   have HP := hide ((HW.out _ (List.getElem_mem hlt)).below HBw.out)
   have HX := hide (HTX.out _ (List.getElem_mem hlt))
   have HN := hide (fun h => HAT.out j hlt HA.out h)
   have HK := hide (fun h => ok_take hlt HA.out h)
   generalize ps[j] = p at *
   have HC : Hid (Calls Tryz.prog 94 #[.agg (cel p).toArray] wr fun e w' => e = .returned (wr3 (chk p.1).1 (chk p.1).2.1 (chk p.1).2.2) ∧ Below wr.heap.size wr w') := hide (check_any p.1.k p.1.br p.1.ep p.1.tp p.1.pa p.1.le p.1.cl p.1.se p.1.co p.1.fl p.1.nm p.1.ky p.1.va p.1.rk p.2.a14 p.2.a15 p.2.a16 p.2.a17 p.2.c14 p.2.c15 p.2.c16 p.2.c17 p.1.ids p.1.isr p.1.ad p.1.dr wr HX.out.nm HX.out.ky HX.out.va HX.out.rk HP.out.h14.sl HP.out.h15.sl HP.out.h16.sl HP.out.h17.sl)
   unfold wr3 at HC
   generalize chk p.1 = TT at *
   obtain ⟨tpo, tpa, tc⟩ := TT
   simp only at HC HN HK
   go_upto_region 12 with (first | (refine wpList_load_mid rfl _ _ rfl _ _ rfl _ _ HE.out Tryz.underlying45 rfl (by kernel_rfl) ?_) | (go_at_call 94; refine HC.out.mono ?_; rintro e V5 ⟨rfl, hb5⟩))
   obtain ⟨V, hV⟩ : ∃ V, V = V5.alloc (.cells #[.string tpo, .int .i64 tpa, .int .i64 tc] 35) := ⟨_, rfl⟩
   have hbV : Below wr.heap.size wr V := by rw [hV]; exact hb5.alloc hb5.size _
   have e0 : V.cell? ⟨V5.heap.size, 0, none⟩ = some (.string tpo) := by rw [hV]; simp
   have e2 : V.cell? ⟨V5.heap.size, 2, none⟩ = some (.int .i64 tc) := by rw [hV]; simp
   rw [← hV]
   have HBV := hide (HB.out.trans (hbV.mono HB.out.size))
   clear hV hbV hb5 HC HE HP HX HTX HW HAT HFI HR i0 i1 i2
   by_cases hc : tc = 0
   ·subst hc
    go_wp2_with fail
    go_roundw
    case rel => exact ⟨j + 1, by omega, by go_num, HK.out rfl, HBV.out⟩
    case measure => simp [intOf]; omega
   ·have hw := HN.out hc
    have hcb : (tc != 0) = true := by simp [hc]
    obtain ⟨r0, r1, r2, r3, rf⟩ := HR4.out V HBV.out
    have rf0 := rf 0
    have rf1 := rf 1
    have rf2 := rf 2
    have rf3 := rf 3
    clear rf
    have HBW := hide (HB0.out.trans (HBV.out.mono HB0.out.size))
    go_wp2_with fail
    exact bodyPost_ret (v := .agg #[.string tpo, .int .i64 (j : Int), .int .i64 tc, .int .i64 (j : Int)]) (by simp [results, Tryz.results62, go_sem, r0, r1, r2, r3]) rfl ⟨by rw [hw]; rfl, (((HBW.out.setCell (by exact Nat.le_succ _) _).setCell (by exact Nat.le_succ _) _).setCell (by exact Nat.le_succ _) _).setCell (by exact Nat.le_succ _) _⟩
  ·obtain rfl : j = ps.length := by omega
   have hf := HFI.out (by have := HA.out; rw [← rcl_len, List.take_length] at this; exact this)
   obtain ⟨r0, r1, r2, r3, rf⟩ := HR4.out wr HB.out
   have rf0 := rf 0
   have rf1 := rf 1
   have rf2 := rf 2
   have rf3 := rf 3
   clear rf
   clear hlt HAT HFI HR HW HTX
   go_wp2_with fail
   exact bodyPost_ret (v := .agg #[.string ⟨#[]⟩, .int .i64 0, .int .i64 0, .int .i64 (-1)]) (by simp [results, Tryz.results62, go_sem, r0, r1, r2, r3]) rfl ⟨by rw [hf]; rfl, (((HBw.out.setCell (by exact Nat.le_succ _) _).setCell (by exact Nat.le_succ _) _).setCell (by exact Nat.le_succ _) _).setCell (by exact Nat.le_succ _) _⟩
theorem rbcheck_any {okb ok : Nat → Prop} (x : Bt) (v : Value) (w : World) (hv : IsB okb ok w v x) (htx : ∀ r ∈ x.rs, TxR r) : Calls Tryz.prog 62 #[v] w fun e w' => e = .returned (wrB (bw x)) ∧ Below w.heap.size w w' := by
 obtain ⟨u, ps, rfl, h2, h3⟩ := hv
 obtain ⟨t, b, rs⟩ := x
 simp only at h3 htx ⊢
 subst h3
 obtain ⟨ao, cap, rfl⟩ := h2.form
 exact rbcheck_go t b ao cap ps w h2.rg h2.2 (fun p hp => htx p.1 (List.mem_map.2 ⟨p, hp, rfl⟩))
end Go.Proofs.YtjjpfajbljbelaaGreatDoor
