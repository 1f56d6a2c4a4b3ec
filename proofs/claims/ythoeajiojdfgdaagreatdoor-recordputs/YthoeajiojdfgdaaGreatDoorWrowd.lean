/-
  A READER's NEXT ROW LIES IN NEW MEMORY; what is asked of a reader, told so. Conditions: the bytes' cells hold them, they lie off the reader, no more than ten thousand.
-/
import Derived.Test.YthoeajiojdfgdaaGreatDoorWask
import Derived.Test.YthoeajiojdfgdaaGreatDoorMA
namespace Go.Proofs.YthoeajiojdfgdaaGreatDoor
open Go.RowKit

set_option maxRecDepth 100000 in
set_option maxHeartbeats 4000000 in
theorem rrow_somed (p : Nat) (v : Value) (l : List Int) (ao : Option Addr) (cap A N M : Nat) (m m2 : Int) (w : World) (hV : v = .slice ao l.length cap) (hv : Slx p bc w v l) (hby : Byt l) (hp : p < w.heap.size) (hm2 : m2 ≤ 9223372036854775807) (hN : N ≤ 9223372036854775807) (hL : l.length ≤ 10000) (hA : A ≤ l.length) (hM : M ≤ 10000) (hK : (if (l.length : Int) - (A : Int) < (N : Int) then (l.length : Int) - (A : Int) else (N : Int)) = (M : Int))
    (HC : Hid (Calls Tryz.prog 61 #[.pointer (some ⟨p, 0, none⟩), .int .i64 m] w fun x w' => x = .returned (.int .i64 (N : Int)) ∧ Rd w' p v A .nilIface ∧ Bx p w w')) :
    Calls Tryz.prog 91 #[.pointer (some ⟨p, 0, none⟩), .int .i64 m, .int .i64 m2] w fun x w' => ∃ v', x = .returned v' ∧ Sld 0 w.heap.size ic w' v' (rowR (rowI l (abv' m2) A N)) ∧ Rd w' p v (rowI l (abv' m2) A N).2.1 (erN ⟨#[110, 117, 109]⟩ (rowI l (abv' m2) A N).2.1 (rowI l (abv' m2) A N).1) ∧ Bx p w w' := by
  obtain ⟨i0, hi, hz0, hz1, hz2⟩ := info_parts infoI
  have hmk := makeInts M hM
  have HV := hide hv
  have HY := hide hby
  clear hv hby
  subst hV
  go_enter Tryz.func91, Tryz.ntmps91
  go_wp2_with (first | (go_at_call 61; refine (HC.out).mono ?_; rintro e w1 ⟨rfl, hr1, hb1⟩; obtain ⟨d0, d1, d2, fz1⟩ := id hr1; have HR1 := hide hr1; have HB1 := hide hb1; clear hr1 hb1 fz1))
  go_region
  go_wp2_with fail
  go_loopw [8, 27] (fun u i wr => ∃ j : Nat, j ≤ N ∧ i = .int .i64 j ∧ (rowI l (abv' m2) A j).1 = 0 ∧ wr.ownsRow w.heap.size 3 1 u (rowI l (abv' m2) A j).2.2.length ((rowI l (abv' m2) A j).2.2.map ic) ∧ Rd wr p (.slice ao l.length cap) (rowI l (abv' m2) A j).2.1 .nilIface ∧ Bx p w wr ∧ w.heap.size ≤ wr.heap.size ∧ (rowI l (abv' m2) A j).2.1 ≤ l.length ∧ (rowI l (abv' m2) A j).2.2.length + A ≤ (rowI l (abv' m2) A j).2.1) (fun _ i _ => N - (intOf i).toNat)
  case atStart =>
    have hs := HB1.out.size
    refine ⟨0, Nat.zero_le _, rfl, rfl, ?_, (HR1.out.drewN 1).alloc _, ((HB1.out.drewN 1).call ((Below.refl _ _).alloc (Nat.le_refl _) _)), by simp; omega, hA, by simp [rowI]⟩
    exact World.ownsRow_made _ _ M (by exact hs) (by unfold maxLen; omega) (by simp [size_madeCells])
  case round =>
    obtain ⟨j, hj, rfl, hz, hown, hr, hb, hs, hal, hln⟩ := hrel
    have hvr := HV.out.bx hb
    by_cases hlt : j < N
    · have h1 := rnum_any p _ l (rowI l (abv' m2) A j).2.1 (abv' m2) wr hr hvr.sl hL HY.out hal
      have hbd : Byt (l.drop (rowI l (abv' m2) A j).2.1) := fun x hx => HY.out x (List.mem_of_mem_drop hx)
      have hrg := numS_range (l.drop (rowI l (abv' m2) A j).2.1) (abv' m2) hbd
      rcases hq : numS (l.drop (rowI l (abv' m2) A j).2.1) (abv' m2) with ⟨c, k, x⟩
      rw [hq] at h1 hrg
      have HC2 := hide (rint_of p m2 (abv' m2) x wr hm2 rfl ⟨hrg.1, by have := hrg.2; simp only at this; omega⟩ (hide h1))
      clear h1
      by_cases hc : c = 0
      · subst hc
        obtain ⟨_, hkn, _, _, _, hkl⟩ := numS_once hbd hq
        rw [List.length_drop] at hkl
        have hk1 : 1 ≤ k := by rw [hkn]; unfold numL; split; · simp
                               split; · simp
                               split <;> simp
        have HE := hide (rowI_ok hz hq)
        simp only [erN, if_true] at HC2
        have HOW := hide hown
        have HBW := hide hb
        clear hq hrg hbd hr hz hvr hkn
        generalize (rowI l (abv' m2) A j).2.2 = xs at *
        generalize (rowI l (abv' m2) A j).2.1 = a1 at *
        go_wp2_with (first
          | (go_at_call 61; refine (HC2.out).mono ?_; rintro e w2 ⟨rfl, hr2, hb2⟩; obtain ⟨k0, k1, k2, fz2⟩ := id hr2; have HR2 := hide hr2; have HB2 := hide hb2; have hown2 := owns_bx HOW.out hb2 hp; have hz2s := hb2.size; clear hr2 hb2 fz2)
          | (at_builtin; refine wpList_append_own _ rfl _ _ 22 rfl w.heap.size 3 i0 (.int .i64 0) 1 8 Tryz.underlying22 hi hz0 hz1 hz2 rfl (by decide) _ _ _ rfl (hown2.alloc _) ⟨w2.heap.size, 0, none⟩ 1 1 [.int .i64 x] rfl rfl ?c1 ?c2 ?c3 ?c4 ?c5 ?_))
        case c1 =>
          intro j u hj
          match j, hj with
          | 0, hj => simp at hj; subst hj; simp [Addr.add, go_sem]
        case c2 => intro u hu; simp at hu; subst hu; rfl
        case c3 => unfold maxLen; omega
        case c4 => omega
        case c5 => simp; omega
        · intro v' w3 hown' hgrow _
          have hge : ∀ k, Value.ownBlock _ = some k → w.heap.size ≤ k := fun k hk => (hown2.lt k hk).1
          have hB : Bx p w w3 := ((HBW.out.trans HB2.out).call ((Below.refl _ _).alloc (Nat.le_refl _) _)).grown hgrow hge
          have hR : Rd w3 p (.slice ao l.length cap) (a1 + k : Nat) .nilIface := (HR2.out.alloc _).grown hgrow (fun k hk => Nat.lt_of_lt_of_le hp (hge k hk))
          have HO3 := hide hown'
          have HB3 := hide hB
          have HR3 := hide hR
          clear hown' hgrow hown2 hge hB hR hown hb
          go_wp2_with fail
          go_roundw
          case rel =>
            refine ⟨j + 1, by omega, by go_num, ?_⟩
            rw [HE.out]
            refine ⟨rfl, by simpa [ic] using HO3.out, HR3.out, HB3.out, HB3.out.size, ?_, ?_⟩
            · show a1 + k ≤ l.length
              omega
            · show (xs ++ [x]).length + A ≤ a1 + k
              simp; omega
          case measure => simp [intOf]; omega
      · obtain ⟨rfl, rfl⟩ := numS_bad hq hc
        have HE := hide (rowI_bad hz hq hc)
        have HF := hide (rowI_stays (l := l) (most := abv' m2) (a := A) (j := j + 1) (by rw [HE.out]; exact hc) (N - (j + 1)))
        simp only [erN, if_neg hc, Nat.add_zero] at HC2
        clear hq hrg hbd
        unfold ft at HC2
        go_wp2_with (first
          | (go_at_call 61; refine (HC2.out).mono ?_; rintro e w2 ⟨rfl, hr2, hb2⟩; obtain ⟨k0, k1, k2, fz2⟩ := id hr2; have HR2 := hide hr2; have HB2 := hide hb2; clear hr2 hb2 fz2))
        go_ret
        refine ⟨_, rfl, ?_⟩
        have hZ : rowI l (abv' m2) A N = (c, (rowI l (abv' m2) A j).2.1, (rowI l (abv' m2) A j).2.2) := by
          rw [← HE.out, ← HF.out]
          congr 1
          omega
        simp only [hZ, erN, rowR, if_neg hc]
        exact ⟨Sld.nil _ _ _ _ _ _, HR2.out, hb.trans HB2.out⟩
    · obtain rfl : j = N := by omega
      clear hlt
      have HR2 := hide hr
      have HO := hide hown
      have HZ := hide hz
      clear hr hown hz
      go_wp2_with fail
      go_ret
      refine ⟨_, rfl, ?_⟩
      simp only [HZ.out, erN, rowR, if_true]
      exact ⟨sld_of_owns 0 HO.out, HR2.out, hb⟩

theorem rrow_anyd (p : Nat) (v : Value) (l : List Int) (a : Nat) (m m2 : Int) (w : World) (hr : Rd w p v a .nilIface) (hv : Slx p bc w v l) (hl : l.length ≤ 10000) (hby : Byt l) (ha : a ≤ l.length) (hm : m ≤ 9223372036854775807) (hm2 : m2 ≤ 9223372036854775807) :
    Calls Tryz.prog 91 #[.pointer (some ⟨p, 0, none⟩), .int .i64 m, .int .i64 m2] w fun x w' => ∃ v', x = .returned v' ∧ Sld 0 w.heap.size ic w' v' (rowR (rowS l a m m2)) ∧ Rd w' p v (rowS l a m m2).2.1 (erN ⟨#[110, 117, 109]⟩ (rowS l a m m2).2.1 (rowS l a m m2).1) ∧ Bx p w w' := by
  have h1 := rnum_any p v l a (abv' m) w hr hv.sl hl hby ha
  have hbd : Byt (l.drop a) := fun x hx => hby x (List.mem_of_mem_drop hx)
  have hrg := numS_range (l.drop a) (abv' m) hbd
  obtain ⟨ao, cap, hV⟩ := hv.sl.form
  unfold rowS
  rcases hq : numS (l.drop a) (abv' m) with ⟨c, k, N⟩
  rw [hq] at h1 hrg
  have HC := hide (rint_of p m (abv' m) N w hm rfl ⟨hrg.1, by have := hrg.2; simp only at this; omega⟩ (hide h1))
  simp only at HC ⊢
  by_cases hc : c = 0
  · subst hc
    obtain ⟨_, _, n0, n1, _, hkl⟩ := numS_once hbd hq
    rw [List.length_drop] at hkl
    simp only [if_true]
    rw [erN, if_pos rfl] at HC
    obtain ⟨N', rfl⟩ := Int.eq_ofNat_of_zero_le n0
    simp only [Int.toNat_natCast] at *
    by_cases hlt : ((l.length : Int) - ((a + k : Nat) : Int)) < (N' : Int)
    · exact rrow_somed p v l ao cap (a + k) N' (l.length - (a + k)) m m2 w hV hv hby hr.lt hm2 (by omega) hl (by omega) (by omega) (by rw [if_pos hlt]; omega) HC
    · exact rrow_somed p v l ao cap (a + k) N' N' m m2 w hV hv hby hr.lt hm2 (by omega) hl (by omega) (by omega) (by rw [if_neg hlt]) HC
  · obtain ⟨rfl, rfl⟩ := numS_bad hq hc
    rw [if_neg hc]
    simp only [erN, rowR, if_neg hc, Nat.add_zero] at HC ⊢
    subst hV
    refine (rrow_none p ao l.length cap a m m2 w _ hl ha HC).mono ?_
    rintro e w' ⟨v', rfl, hs, h1, h2⟩
    obtain ⟨ao', cap', rfl⟩ := hs.form
    exact ⟨_, rfl, Sld.nil _ _ _ _ _ _, h1, h2⟩
end Go.Proofs.YthoeajiojdfgdaaGreatDoor
