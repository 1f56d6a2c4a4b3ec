/-
  FrameSpoilt: a frame of which some bits of one byte were turned is not told as that frame. Condition: the body's cells hold it.
-/
import Derived.Test.YtenahnbfaekljaaFworks
namespace Go.Proofs.Ytenahnbfaekljaa
open Go.RowKit

theorem fl_one (w : World) (K : Int) (ao : Option Addr) (cap : Nat) (l : List Int) (hv : Sl bc w (.slice ao l.length cap) l) : Fl ((w.alloc (.cells #[.int .i64 K, .slice ao l.length cap] 40)).alloc (.cells #[.int .i64 K, .slice ao l.length cap] 40)) (.slice (some ⟨w.heap.size + 1, 0, none⟩) 1 1) [(K, l)] := by
  refine .inr ⟨w.heap.size + 1, 0, 1, rfl, Nat.le_refl _, fun i hi => ?_⟩
  match i, hi with
  | 0, _ => exact ⟨by simp, .slice ao l.length cap, by simp, hv.below (((Below.refl _ _).alloc (Nat.le_refl _) _).alloc (by simp) _)⟩
theorem at_k (A : Int) (M : Int) (h0 : 0 < M) (h1 : M < 100000) : ∃ k : Nat, wrap64 ((IntKind.u64.wrap A).tmod M) = (k : Int) ∧ (k : Int) < M := by
  have h2 : IntKind.u64.wrap A = A % 18446744073709551616 := IntKind.wrap_u64 A
  rw [h2, Int.tmod_eq_emod_of_nonneg (by omega)]
  have h3 := Int.emod_nonneg (A % 18446744073709551616) (show M ≠ 0 by omega)
  have h4 := Int.emod_lt_of_pos (A % 18446744073709551616) h0
  generalize A % 18446744073709551616 % M = q at *
  refine ⟨q.toNat, ?_, by omega⟩
  unfold wrap64
  omega
/-- Bytes one of which was turned are other ones. -/
theorem turned {X : List Int} {k : Nat} {z : Int} (hk : k < X.length) (hz : z ≠ X[k]) : X.set k z ≠ X := by
  intro e
  have h1 : (X.set k z)[k]'(by simpa using hk) = z := by simp
  have h2 : (X.set k z)[k]'(by simpa using hk) = X[k] := by simp only [e]
  exact hz (h1.symm.trans h2)
theorem spoilt_not {K : Int} {l X : List Int} (hb : Byt X) (hne : X ≠ frameL K l) (hs : (nextS X).size = X.length) (hp : 0 < X.length) : ¬ ((nextS X).K = K ∧ (nextS X).body = l) := by
  rintro ⟨h1, h2⟩
  obtain ⟨h3, _⟩ := nextS_once hb (by omega)
  rw [hs, List.take_length, h1, h2] at h3
  exact hne h3
theorem nextS_nobody {l : List Int} (h : (nextS l).size = 0) : (nextS l).body = [] := by
  unfold nextS at *
  split
  · rfl
  split
  · rfl
  split
  · rfl
  split
  · rfl
  split
  · rfl
  simp only [*, if_false] at h
  unfold nextT at *
  split
  · rfl
  split
  · rfl
  split
  · rfl
  split
  · simp only [*, if_false, if_true] at h
    omega
  · rfl
theorem set_byt {X : List Int} (h : Byt X) (k : Nat) {z : Int} (hz : 0 ≤ z ∧ z ≤ 255) : Byt (X.set k z) := by
  intro x hx
  rcases List.mem_or_eq_of_mem_set hx with q | q
  · exact h x q
  · rw [q]; exact hz
theorem xor_byte {x y : Int} (hx : 0 ≤ x ∧ x ≤ 255) (hy : 0 < y ∧ y ≤ 255) : 0 ≤ ((x.toNat ^^^ y.toNat : Nat) : Int) ∧ ((x.toNat ^^^ y.toNat : Nat) : Int) ≤ 255 ∧ ((x.toNat ^^^ y.toNat : Nat) : Int) ≠ x := by
  have h1 : x.toNat ^^^ y.toNat < 2 ^ 8 := Nat.xor_lt_two_pow (by omega) (by omega)
  refine ⟨by omega, by omega, fun e => ?_⟩
  have e2 : x.toNat ^^^ y.toNat = x.toNat := by omega
  have e3 : (x.toNat ^^^ y.toNat) ^^^ x.toNat = 0 := by rw [e2, Nat.xor_self]
  rw [Nat.xor_comm x.toNat, Nat.xor_assoc, Nat.xor_self, Nat.xor_zero] at e3
  omega
set_option maxRecDepth 100000 in
set_option maxHeartbeats 8000000 in
theorem spoilt_law (K : Int) (v : Value) (l : List Int) (A y : Int) (w : World) (hv : Sl bc w v l) (hby : Byt l) (hl : l.length ≤ 1152921504606846976) (hy : 0 ≤ y ∧ y ≤ 255) :
    Calls Try.prog 4 #[.agg #[.int .i64 K, v], .int .i64 A, .int .u8 y] w fun e w' => e = .returned (.bool true) ∧ Below w.heap.size w w' := by
  obtain ⟨ao, cap, rfl⟩ := hv.form
  have HLI := hide (light_any _ [(K, l)] _ (fl_one w K ao cap l hv) (by simp) (fun f hf => by simp at hf; subst hf; exact hl))
  have hb0 : Below w.heap.size w ((w.alloc (.cells #[.int .i64 K, .slice ao l.length cap] 40)).alloc (.cells #[.int .i64 K, .slice ao l.length cap] 40)) := ((Below.refl _ _).alloc (Nat.le_refl _) _).alloc (by simp) _
  have hfr : Fr2 ((w.alloc (.cells #[.int .i64 K, .slice ao l.length cap] 40)).alloc (.cells #[.int .i64 K, .slice ao l.length cap] 40)) w.heap.size (.int .i64 K) (.slice ao l.length cap) := (fr2_new w _ _ _).below ((Below.refl _ _).alloc (Nat.le_refl _) _)
  have HV := hide hv
  have HY := hide hby
  have HB0 := hide hb0
  have HFR := hide hfr
  obtain ⟨hy0, hy1⟩ := hy
  clear hv hby hb0 hfr
  go_enter Try.func4, Try.ntmps4
  go_wp2_with fail
  refine HLI.out.mono ?_
  rintro e w1 ⟨⟨r, rfl, hr⟩, rfl⟩
  have HW := hide (fun W => works_any W)
  by_cases hrun : r = false ∨ (r = true ∧ y = 0)
  · clear hr
    rcases hrun with rfl | ⟨rfl, rfl⟩
    all_goals
      go_wp2_with (first | (go_at_call 6; refine (HW.out _).mono ?_; rintro e w6 ⟨rfl, hb6⟩; have HB6 := hide (HB0.out.trans (hb6.mono HB0.out.size)); clear hb6))
      go_ret
      exact ⟨rfl, HB6.out⟩
  · obtain rfl : r = true := by cases r <;> simp_all
    have hyn : ¬ y = 0 := fun e => hrun (.inr ⟨rfl, e⟩)
    have hl2 : l.length ≤ 1500 := by have := (hr rfl).2; simpa [tot] using this
    clear hr hrun
    have HV0 := hide (HV.out.below HB0.out)
    generalize hw1 : (w.alloc (.cells #[.int .i64 K, .slice ao l.length cap] 40)).alloc (.cells #[.int .i64 K, .slice ao l.length cap] 40) = w1 at *
    have HW1 : Hid (w.heap.size < w1.heap.size) := hide (by rw [← hw1]; simp; omega)
    clear hw1
    obtain ⟨c0, c1, _, _⟩ := id HFR.out
    by_cases hbad : K < 0 ∨ (¬ K < 0 ∧ 63 < K)
    · have HP := hide (put_bad K ao l.length cap w1 hbad)
      unfold ft at HP
      clear hbad
      go_wp2_with (first
        | (go_at_call 12; refine HP.out.mono ?_; rintro e w2 ⟨rfl, hb2⟩; have HB2 := hide (HB0.out.trans (hb2.mono HB0.out.size)); clear hb2)
        | (go_at_call 6; refine (HW.out _).mono ?_; rintro e w6 ⟨rfl, hb6⟩; have HB6 := hide (HB2.out.trans (hb6.mono HB2.out.size)); clear hb6))
      go_ret
      exact ⟨rfl, HB6.out⟩
    · have hk0 : ¬ K < 0 := by omega
      have hk1 : ¬ 63 < K := by omega
      have HP := hide (put_ok K (.slice ao l.length cap) l w1 HV0.out (by omega) HY.out hk0 hk1)
      have hfl : (frameL K l).length ≤ 10000 ∧ 7 ≤ (frameL K l).length := by
        have h8 := intL_le l.length
        have h9 : 0 < (intL (l.length : Int)).length := by
          rw [intL_nat (by omega)]; unfold numL; split
          · simp
          · split
            · simp
            · split <;> simp
        rw [frameL_len]; omega
      have HXB := hide (frameL_byt (K := K) (by omega) (by omega) HY.out)
      clear hbad
      obtain ⟨X, hX⟩ : ∃ X, X = frameL K l := ⟨_, rfl⟩
      rw [← hX] at HP hfl HXB
      have HX := hide hX
      clear hX
      go_wp2_with fail
      refine HP.out.mono ?_
      rintro e w2 ⟨y2, rfl, ho2, hb2⟩
      obtain ⟨cur, hrw, htk⟩ := Rw.of ho2
      obtain ⟨g, rfl, hg, hheap⟩ := hrw.2.2.resolve_left (by rintro ⟨_, hc⟩; have := hrw.1; rw [hc] at this; simp only [List.length_nil] at this; omega)
      have hcl := hrw.1
      obtain ⟨k, hk, hkM⟩ := at_k A (X.length : Int) (by omega) (by omega)
      have hkX : k < X.length := by omega
      have hcell : w2.cell? ⟨g, k, none⟩ = some (.int .u8 X[k]) := by
        have h1 := (Rw.sl hrw htk)
        obtain ⟨b', o', e1, _, h3⟩ := h1.some_at (by omega)
        cases e1
        have := h3 k hkX
        rwa [Nat.zero_add] at this
      have hfz : w2.frozen? ⟨g, k, none⟩ = false := by simp [World.frozen?, hheap]
      have hfr2 := HFR.out.below hb2
      obtain ⟨d0, d1, _, _⟩ := id hfr2
      have hxk := HXB.out X[k] (List.getElem_mem hkX)
      have hxb := xor_byte hxk (show 0 < y ∧ y ≤ 255 by omega)
      have hxor : bits .xor .u8 X[k] y = ((X[k].toNat ^^^ y.toNat : Nat) : Int) := xor_8 hxk.1 hxk.2 (by omega) (by omega)
      have HB2 := hide (HB0.out.trans (hb2.mono HB0.out.size))
      have hne : ¬ g = w.heap.size := by have := HW1.out; omega
      have HRW := hide hrw
      have HTK := hide htk
      have HFR2 := hide hfr2
      have HG := hide hg
      have hX0 : ¬ (X.length : Int) = 0 := by omega
      clear ho2 hb2 hrw htk hheap hfr2 hg HP c0 c1
      obtain ⟨z, hz⟩ : ∃ z, z = ((X[k].toNat ^^^ y.toNat : Nat) : Int) := ⟨_, rfl⟩
      rw [← hz] at hxb hxor
      have hX' : Byt (X.set k z) := set_byt HXB.out k ⟨hxb.1, hxb.2.1⟩
      have hne' : X.set k z ≠ frameL K l := by rw [← HX.out]; exact turned hkX hxb.2.2
      have hlen' : (X.set k z).length = X.length := List.length_set
      have hsl3 : Sl bc (w2.setCell ⟨g, k, none⟩ (.int .u8 z)) (.slice (some ⟨g, 0, none⟩) X.length cur.length) (X.set k z) := by
        obtain ⟨b', o', e1, hcc, h3⟩ := (Rw.sl HRW.out HTK.out).some_at (by omega)
        cases e1
        refine .inr ⟨g, 0, cur.length, by rw [hlen'], by omega, fun i hi => ?_⟩
        rw [hlen'] at hi
        have h4 := h3 i hi
        rw [Nat.zero_add] at h4 ⊢
        by_cases e : i = k
        · subst e
          rw [World.cell?_setCell_same _ _ _ h4]
          simp [bc]
        · rw [World.cell?_setCell_other _ _ _ _ (fun q => e (congrArg Addr.off q).symm), h4, List.getElem_set_ne (fun q => e q.symm)]
      have hx3 : Ex (fun b => b = g) w2 (w2.setCell ⟨g, k, none⟩ (.int .u8 z)) := Ex.set (S := fun b => b = g) w2 rfl k _
      have HB3 := hide (HB2.out.trans (hx3.below HB2.out.size (fun b hb e => by have := HG.out; have := HW1.out; omega)))
      have HN := hide (nx_any _ (X.set k z) _ hsl3 (by omega) hX')
      have hfs := nextS_size (X.set k z)
      have hno := fun h => spoilt_not hX' hne' h (by omega)
      rw [hlen'] at hfs hno
      have HNO := hide hno
      have HFR3 : Hid (Fr2 (w2.setCell ⟨g, k, none⟩ (.int .u8 z)) w.heap.size (.int .i64 K) (.slice ao l.length cap)) := hide (by
        obtain ⟨q0, q1, q2, q3⟩ := HFR2.out
        have hc : ∀ i, (w2.setCell ⟨g, k, none⟩ (.int .u8 z)).cell? ⟨w.heap.size, i, none⟩ = w2.cell? ⟨w.heap.size, i, none⟩ := fun i => hx3.cell (cell_block q0) (fun e => hne e.symm)
        exact ⟨(hc 0).trans q0, (hc 1).trans q1, by simp [q2], by simp [q3]⟩)
      have HBL := hide (show (nextS (X.set k z)).body.length ≤ 40000 from Nat.le_trans (by
        by_cases h0 : (nextS (X.set k z)).size = 0
        · rw [nextS_nobody h0]; exact Nat.zero_le _
        · exact (nextS_once hX' h0).2.2.2.2.2) (show 16384 ≤ 40000 by decide))
      clear hX' hne' hsl3 hx3 hno hlen' hxk hxb hz
      generalize nextS (X.set k z) = f at *
      generalize ev (errF f) = E at *
      unfold fdt at HN
      go_wp2_with fail
      refine HN.out.mono ?_
      rintro e w4 ⟨u, rfl, hsu, hb4⟩
      obtain ⟨a4, k4, hu4⟩ := hsu.sl.form
      obtain ⟨M, hM⟩ : ∃ M, M = f.body.length := ⟨_, rfl⟩
      rw [← hM] at hu4
      clear hM
      subst hu4
      have hba : Below w4.heap.size w4 (w4.alloc (.cells #[.int .i64 f.K, .slice a4 M k4] 40)) := (Below.refl _ _).alloc (Nat.le_refl _) _
      have HB4 := hide (HB3.out.trans ((bt hb4 hba).mono HB3.out.size))
      have hfr4 := HFR3.out.below hb4
      have hlt4 := hfr4.lt
      obtain ⟨p0, p1, _, _⟩ := id hfr4
      have HSU := hide (hsu.sl.below hba)
      have hnw : ¬ w.heap.size = w4.heap.size := Nat.ne_of_lt hlt4
      clear hsu hb4 hba hfr4 d0 d1 hcell hfz HN
      by_cases hs0 : f.size = 0
      · have hs0' : (f.size : Int) = 0 := by omega
        go_wp2_with (first
            | (go_at_call 6; refine (HW.out _).mono ?_; rintro e w6 ⟨rfl, hb6⟩; have HB6 := hide (HB4.out.trans (hb6.mono HB4.out.size)); clear hb6))
        go_ret
        exact ⟨rfl, HB6.out⟩
      have hs0' : ¬ (f.size : Int) = 0 := by omega
      by_cases hs1 : f.size < X.length
      · have hs1' : (f.size : Int) < (X.length : Int) := by omega
        go_wp2_with (first
            | (go_at_call 6; refine (HW.out _).mono ?_; rintro e w6 ⟨rfl, hb6⟩; have HB6 := hide (HB4.out.trans (hb6.mono HB4.out.size)); clear hb6))
        go_ret
        exact ⟨rfl, HB6.out⟩
      have hs1' : ¬ (f.size : Int) < (X.length : Int) := by omega
      have hno := HNO.out (by omega)
      by_cases hKK : f.K = K
      · have hbne : ¬ f.body = l := fun e => hno ⟨hKK, e⟩
        subst hKK
        have HSM := hide (same_any (.slice a4 M k4) (.slice ao l.length cap) f.body l _ HSU.out (HV.out.below HB4.out) HBL.out)
        rw [decide_eq_false hbne] at HSM
        have hKn : (f.K != f.K) = false := by simp
        clear hno hbne
        go_wp2_with (first
            | (go_at_call 14; refine HSM.out.mono ?_; rintro e w5 ⟨rfl, hb5⟩; have HB5 := hide (HB4.out.trans (hb5.mono HB4.out.size)); clear hb5)
            | (go_at_call 6; refine (HW.out _).mono ?_; rintro e w6 ⟨rfl, hb6⟩; have HB6 := hide (HB5.out.trans (hb6.mono HB5.out.size)); clear hb6))
        go_ret
        exact ⟨rfl, HB6.out⟩
      · have hKn : (f.K != K) = true := by simp [hKK]
        clear hno
        go_wp2_with (first
            | (go_at_call 6; refine (HW.out _).mono ?_; rintro e w6 ⟨rfl, hb6⟩; have HB6 := hide (HB4.out.trans (hb6.mono HB4.out.size)); clear hb6))
        go_ret
        exact ⟨rfl, HB6.out⟩
end Go.Proofs.Ytenahnbfaekljaa
