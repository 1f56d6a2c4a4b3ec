/-
  A READER's NEXT ROW LIES IN NEW MEMORY; what is asked of a reader, told so. Conditions: the bytes' cells hold them, they lie off the reader, no more than a hundred thousand.
  WHAT A READER READS NEXT, whatever was wrong before (wire.Reader's Int, Flag, Text, Row, Refuse, Err): one state in, one state out. Conditions: the bytes' cells hold them, each is a byte, no more than a hundred thousand, they don't lie in the reader, and the reader is within them.
  POINTERS TO A RECORD's FIELDS (record.numbers, texts, rows). No condition.
-/
import Derived.Test.YtgbcjmpnkejpeaaGreatDoorJFrameReca3
import Derived.Test.YtgbcjmpnkejpeaaGreatDoorJRecHasa3
import Derived.Test.YtgbcjmpnkejpeaaGreatDoorJRecMa2
import Derived.Laws.IdiomStrings
import Derived.BigRegion
namespace Go.Proofs.YtgbcjmpnkejpeaaGreatDoor
open Go.RowKit

set_option maxRecDepth 100000 in
set_option maxHeartbeats 4000000 in
theorem rrow_somed (p : Nat) (v : Value) (l : List Int) (ao : Option Addr) (cap A N M : Nat) (m m2 : Int) (w : World) (hV : v = .slice ao l.length cap) (hv : Slx p bc w v l) (hby : Byt l) (hp : p < w.heap.size) (hm2 : m2 ≤ 9223372036854775807) (hN : N ≤ 9223372036854775807) (hL : l.length ≤ 100000) (hA : A ≤ l.length) (hM : M ≤ 100000) (hK : (if (l.length : Int) - (A : Int) < (N : Int) then (l.length : Int) - (A : Int) else (N : Int)) = (M : Int))
    (HC : Hid (Calls Tryz.prog 46 #[.pointer (some ⟨p, 0, none⟩), .int .i64 m] w fun x w' => x = .returned (.int .i64 (N : Int)) ∧ Rd w' p v A .nilIface ∧ Bx p w w')) :
    Calls Tryz.prog 95 #[.pointer (some ⟨p, 0, none⟩), .int .i64 m, .int .i64 m2] w fun x w' => ∃ v', x = .returned v' ∧ Sld 0 w.heap.size ic w' v' (rowR (rowI l (abv' m2) A N)) ∧ Rd w' p v (rowI l (abv' m2) A N).2.1 (erN ⟨#[110, 117, 109]⟩ (rowI l (abv' m2) A N).2.1 (rowI l (abv' m2) A N).1) ∧ Bx p w w' := by
  obtain ⟨i0, hi, hz0, hz1, hz2⟩ := info_parts infoI
  have hmk := makeInts M hM
  have HV := hide hv
  have HY := hide hby
  clear hv hby
  subst hV
  go_enter Tryz.func95, Tryz.ntmps95
  go_wp2_with (first | (go_at_call 46; refine (HC.out).mono ?_; rintro e w1 ⟨rfl, hr1, hb1⟩; obtain ⟨d0, d1, d2, fz1⟩ := id hr1; have HR1 := hide hr1; have HB1 := hide hb1; clear hr1 hb1 fz1))
  go_region
  go_wp2_with fail
  go_loopw [8, 27] (fun u i wr => ∃ j : Nat, j ≤ N ∧ i = .int .i64 j ∧ (rowI l (abv' m2) A j).1 = 0 ∧ wr.ownsRow w.heap.size 3 1 u (rowI l (abv' m2) A j).2.2.length ((rowI l (abv' m2) A j).2.2.map ic) ∧ Rd wr p (.slice ao l.length cap) (rowI l (abv' m2) A j).2.1 .nilIface ∧ Bx p w wr ∧ w.heap.size ≤ wr.heap.size ∧ (rowI l (abv' m2) A j).2.1 ≤ l.length ∧ (rowI l (abv' m2) A j).2.2.length + A ≤ (rowI l (abv' m2) A j).2.1) (fun _ i _ => N - (intOf i).toNat)
  case atStart =>
    have hs := HB1.out.size
    refine ⟨0, Nat.zero_le _, rfl, rfl, ?_, (HR1.out.drewN 1).alloc _, ((HB1.out.drewN 1).call ((Below.refl _ _).alloc (Nat.le_refl _) _)), by simp; omega, hA, by simp [rowI]⟩
    exact World.ownsRow_made _ _ M (by exact hs) (by unfold maxLen; omega) (by simp [size_madeCells])
  case round =>
    obtain ⟨j, hj, rfl, hz, hown, hr, hb, hs, hal, hln⟩ := hrel
    have hvr := HV.out.bx hb
    by_cases hlt : j < N
    · have h1 := rnum_any p _ l (rowI l (abv' m2) A j).2.1 (abv' m2) wr hr hvr.sl hL HY.out hal
      have hbd : Byt (l.drop (rowI l (abv' m2) A j).2.1) := fun x hx => HY.out x (List.mem_of_mem_drop hx)
      have hrg := numS_range (l.drop (rowI l (abv' m2) A j).2.1) (abv' m2) hbd
      rcases hq : numS (l.drop (rowI l (abv' m2) A j).2.1) (abv' m2) with ⟨c, k, x⟩
      rw [hq] at h1 hrg
      have HC2 := hide (rint_of p m2 (abv' m2) x wr hm2 rfl ⟨hrg.1, by have := hrg.2; simp only at this; omega⟩ (hide h1))
      clear h1
      by_cases hc : c = 0
      · subst hc
        obtain ⟨_, hkn, _, _, _, hkl⟩ := numS_once hbd hq
        rw [List.length_drop] at hkl
        have hk1 : 1 ≤ k := by rw [hkn]; unfold numL; split; · simp
                               split; · simp
                               split <;> simp
        have HE := hide (rowI_ok hz hq)
        simp only [erN, if_true] at HC2
        have HOW := hide hown
        have HBW := hide hb
        clear hq hrg hbd hr hz hvr hkn
        generalize (rowI l (abv' m2) A j).2.2 = xs at *
        generalize (rowI l (abv' m2) A j).2.1 = a1 at *
        go_wp2_with (first
          | (go_at_call 46; refine (HC2.out).mono ?_; rintro e w2 ⟨rfl, hr2, hb2⟩; obtain ⟨k0, k1, k2, fz2⟩ := id hr2; have HR2 := hide hr2; have HB2 := hide hb2; have hown2 := owns_bx HOW.out hb2 hp; have hz2s := hb2.size; clear hr2 hb2 fz2)
          | (at_builtin; refine wpList_append_own _ rfl _ _ 33 rfl w.heap.size 3 i0 (.int .i64 0) 1 8 Tryz.underlying33 hi hz0 hz1 hz2 rfl (by decide) _ _ _ rfl (hown2.alloc _) ⟨w2.heap.size, 0, none⟩ 1 1 [.int .i64 x] rfl rfl ?c1 ?c2 ?c3 ?c4 ?c5 ?_))
        case c1 =>
          intro j u hj
          match j, hj with
          | 0, hj => simp at hj; subst hj; simp [Addr.add, go_sem]
        case c2 => intro u hu; simp at hu; subst hu; rfl
        case c3 => unfold maxLen; omega
        case c4 => omega
        case c5 => simp; omega
        · intro v' w3 hown' hgrow _
          have hge : ∀ k, Value.ownBlock _ = some k → w.heap.size ≤ k := fun k hk => (hown2.lt k hk).1
          have hB : Bx p w w3 := ((HBW.out.trans HB2.out).call ((Below.refl _ _).alloc (Nat.le_refl _) _)).grown hgrow hge
          have hR : Rd w3 p (.slice ao l.length cap) (a1 + k : Nat) .nilIface := (HR2.out.alloc _).grown hgrow (fun k hk => Nat.lt_of_lt_of_le hp (hge k hk))
          have HO3 := hide hown'
          have HB3 := hide hB
          have HR3 := hide hR
          clear hown' hgrow hown2 hge hB hR hown hb
          go_wp2_with fail
          go_roundw
          case rel =>
            refine ⟨j + 1, by omega, by go_num, ?_⟩
            rw [HE.out]
            refine ⟨rfl, by simpa [ic] using HO3.out, HR3.out, HB3.out, HB3.out.size, ?_, ?_⟩
            · show a1 + k ≤ l.length
              omega
            · show (xs ++ [x]).length + A ≤ a1 + k
              simp; omega
          case measure => simp [intOf]; omega
      · obtain ⟨rfl, rfl⟩ := numS_bad hq hc
        have HE := hide (rowI_bad hz hq hc)
        have HF := hide (rowI_stays (l := l) (most := abv' m2) (a := A) (j := j + 1) (by rw [HE.out]; exact hc) (N - (j + 1)))
        simp only [erN, if_neg hc, Nat.add_zero] at HC2
        clear hq hrg hbd
        unfold ft at HC2
        go_wp2_with (first
          | (go_at_call 46; refine (HC2.out).mono ?_; rintro e w2 ⟨rfl, hr2, hb2⟩; obtain ⟨k0, k1, k2, fz2⟩ := id hr2; have HR2 := hide hr2; have HB2 := hide hb2; clear hr2 hb2 fz2))
        go_ret
        refine ⟨_, rfl, ?_⟩
        have hZ : rowI l (abv' m2) A N = (c, (rowI l (abv' m2) A j).2.1, (rowI l (abv' m2) A j).2.2) := by
          rw [← HE.out, ← HF.out]
          congr 1
          omega
        simp only [hZ, erN, rowR, if_neg hc]
        exact ⟨Sld.nil _ _ _ _ _ _, HR2.out, hb.trans HB2.out⟩
    · obtain rfl : j = N := by omega
      clear hlt
      have HR2 := hide hr
      have HO := hide hown
      have HZ := hide hz
      clear hr hown hz
      go_wp2_with fail
      go_ret
      refine ⟨_, rfl, ?_⟩
      simp only [HZ.out, erN, rowR, if_true]
      exact ⟨sld_of_owns 0 HO.out, HR2.out, hb⟩

theorem rrow_anyd (p : Nat) (v : Value) (l : List Int) (a : Nat) (m m2 : Int) (w : World) (hr : Rd w p v a .nilIface) (hv : Slx p bc w v l) (hl : l.length ≤ 100000) (hby : Byt l) (ha : a ≤ l.length) (hm : m ≤ 9223372036854775807) (hm2 : m2 ≤ 9223372036854775807) :
    Calls Tryz.prog 95 #[.pointer (some ⟨p, 0, none⟩), .int .i64 m, .int .i64 m2] w fun x w' => ∃ v', x = .returned v' ∧ Sld 0 w.heap.size ic w' v' (rowR (rowS l a m m2)) ∧ Rd w' p v (rowS l a m m2).2.1 (erN ⟨#[110, 117, 109]⟩ (rowS l a m m2).2.1 (rowS l a m m2).1) ∧ Bx p w w' := by
  have h1 := rnum_any p v l a (abv' m) w hr hv.sl hl hby ha
  have hbd : Byt (l.drop a) := fun x hx => hby x (List.mem_of_mem_drop hx)
  have hrg := numS_range (l.drop a) (abv' m) hbd
  obtain ⟨ao, cap, hV⟩ := hv.sl.form
  unfold rowS
  rcases hq : numS (l.drop a) (abv' m) with ⟨c, k, N⟩
  rw [hq] at h1 hrg
  have HC := hide (rint_of p m (abv' m) N w hm rfl ⟨hrg.1, by have := hrg.2; simp only at this; omega⟩ (hide h1))
  simp only at HC ⊢
  by_cases hc : c = 0
  · subst hc
    obtain ⟨_, _, n0, n1, _, hkl⟩ := numS_once hbd hq
    rw [List.length_drop] at hkl
    simp only [if_true]
    rw [erN, if_pos rfl] at HC
    obtain ⟨N', rfl⟩ := Int.eq_ofNat_of_zero_le n0
    simp only [Int.toNat_natCast] at *
    by_cases hlt : ((l.length : Int) - ((a + k : Nat) : Int)) < (N' : Int)
    · exact rrow_somed p v l ao cap (a + k) N' (l.length - (a + k)) m m2 w hV hv hby hr.lt hm2 (by omega) hl (by omega) (by omega) (by rw [if_pos hlt]; omega) HC
    · exact rrow_somed p v l ao cap (a + k) N' N' m m2 w hV hv hby hr.lt hm2 (by omega) hl (by omega) (by omega) (by rw [if_neg hlt]) HC
  · obtain ⟨rfl, rfl⟩ := numS_bad hq hc
    rw [if_neg hc]
    simp only [erN, rowR, if_neg hc, Nat.add_zero] at HC ⊢
    subst hV
    refine (rrow_none p ao l.length cap a m m2 w _ hl ha HC).mono ?_
    rintro e w' ⟨v', rfl, hs, h1, h2⟩
    obtain ⟨ao', cap', rfl⟩ := hs.form
    exact ⟨_, rfl, Sld.nil _ _ _ _ _ _, h1, h2⟩
end Go.Proofs.YtgbcjmpnkejpeaaGreatDoor
namespace Go.Proofs.YtgbcjmpnkejpeaaGreatDoor
open Go.RowKit

/-- The reader at p, of the slice v, is in the state s. -/
def RdG (W : World) (p : Nat) (v : Value) (s : Gs) : Prop := Rd W p v (s.pt : Int) (erN s.op s.pt s.c)
theorem RdG.below {W W' : World} {p : Nat} {v : Value} {s : Gs} (h : RdG W p v s) (hb : Below W.heap.size W W') : RdG W' p v s := Rd.below h hb
theorem RdG.ok {W : World} {p : Nat} {v : Value} {a : Nat} (h : RdG W p v (okS a)) : Rd W p v a .nilIface := h
theorem RdG.bad {W : World} {p : Nat} {v : Value} {s : Gs} (h : RdG W p v s) (hc : s.c ≠ 0) : Rd W p v s.pt (ft s.op s.pt s.c) := by
  unfold RdG at h
  rwa [erN, if_neg hc] at h
theorem rdG_mk {W : World} {p : Nat} {v : Value} {c : Int} {op : ByteArray} {n a : Nat} (hn : c ≠ 0 → n = a) (h : Rd W p v (n : Int) (erN op a c)) : RdG W p v (mkS c op n a) := by
  unfold mkS
  by_cases hc : c = 0
  · subst hc; rw [if_pos rfl]; exact h
  · rw [if_neg hc]
    have := hn hc
    subst this
    exact h
theorem rint_gs (p : Nat) (v : Value) (l : List Int) (m : Int) (s : Gs) (w : World) (hr : RdG w p v s) (hv : Slx p bc w v l) (hl : l.length ≤ 100000) (hby : Byt l) (hs : s.pt ≤ l.length) (h0 : 0 ≤ m) (hm : m ≤ 1073741824) :
    Calls Tryz.prog 46 #[.pointer (some ⟨p, 0, none⟩), .int .i64 m] w fun x w' => x = .returned (.int .i64 (gN m l s).2) ∧ RdG w' p v (gN m l s).1 ∧ Bx p w w' := by
  unfold gN
  by_cases hc : s.c = 0
  · rw [if_pos hc]
    have hr' : Rd w p v s.pt .nilIface := by unfold RdG at hr; rwa [erN, if_pos hc] at hr
    have h1 := rnum_any p v l s.pt m w hr' hv.sl hl hby hs
    have hrg := numS_range (l.drop s.pt) m (fun x hx => hby x (List.mem_of_mem_drop hx))
    refine (rint_of p m m _ w (by omega) (by rw [abv', if_neg (by omega)]) ⟨hrg.1, by omega⟩ (hide h1)).mono ?_
    rintro e w' ⟨rfl, h2, h3⟩
    refine ⟨rfl, rdG_mk (fun q => ?_) h2, h3⟩
    rcases hq : numS (l.drop s.pt) m with ⟨c, k, n⟩
    rw [hq] at q
    have := (numS_bad hq q).1
    simp [this]
  · rw [if_neg hc]
    have hb := hr.bad hc
    refine (rint_keep p v s.pt m _ _ w (by omega) hb).mono ?_
    rintro e w' ⟨rfl, h2, h3⟩
    exact ⟨rfl, by unfold RdG; rw [erN, if_neg hc]; exact h2, h3⟩
theorem rflag_gs (p : Nat) (v : Value) (l : List Int) (s : Gs) (w : World) (hr : RdG w p v s) (hv : Slx p bc w v l) (hl : l.length ≤ 100000) (hs : s.pt ≤ l.length) :
    Calls Tryz.prog 93 #[.pointer (some ⟨p, 0, none⟩)] w fun x w' => x = .returned (.bool (gF l s).2) ∧ RdG w' p v (gF l s).1 ∧ Bx p w w' := by
  unfold gF
  by_cases hc : s.c = 0
  · rw [if_pos hc]
    have hr' : Rd w p v s.pt .nilIface := by unfold RdG at hr; rwa [erN, if_pos hc] at hr
    refine (rflag_any p v l s.pt w hr' hv.sl hl hs).mono ?_
    rintro e w' ⟨rfl, h2, h3⟩
    refine ⟨rfl, rdG_mk (fun q => ?_) h2, h3⟩
    revert q
    unfold flagS
    split
    · intro _; rfl
    · split
      · intro _; rfl
      · intro q; exact absurd rfl q
  · rw [if_neg hc]
    have hb := hr.bad hc
    refine (rflag_err p v s.pt _ _ w hb).mono ?_
    rintro e w' ⟨rfl, rfl⟩
    exact ⟨rfl, by unfold RdG; rw [erN, if_neg hc]; exact hb, Bx.refl _ _⟩
/-- A text's bytes as a string. -/
theorem str_of {W : World} {u : Value} {T : List Int} (h : Sl bc W u T) (hb : Byt T) : (convert 22 9 u).run Tryz.prog W = .ok (.string ⟨(bs T).toArray⟩) W := by
  rcases h with ⟨ao, cap, rfl, rfl⟩ | ⟨b, o, cap, rfl, _, h3⟩
  · cases ao with
    | none =>
      rw [run_convert_bytes_string W 22 9 5 none 0 cap Tryz.underlying22 Tryz.underlying5 Tryz.underlying9]
      simp [Conv.bytesToString]
      rfl
    | some a => exact run_convert_bytes_back W 22 9 5 a cap [] Tryz.underlying22 Tryz.underlying5 Tryz.underlying9 (fun j hj => by simp at hj)
  · have := run_convert_bytes_back W 22 9 5 ⟨b, o, none⟩ cap (bs T) Tryz.underlying22 Tryz.underlying5 Tryz.underlying9 (fun j hj => by
      have hj' : j < T.length := by rwa [bs_len] at hj
      have e := h3 j hj'
      rw [show ((⟨b, o, none⟩ : Addr).add j) = ⟨b, o + j, none⟩ from Addr.add_lit b o j, e]
      have hx := hb T[j] (List.getElem_mem hj')
      have e2 : (bs T)[j] = UInt8.ofNat T[j].toNat := by simp [bs]
      rw [e2, UInt8.toNat_ofNat']
      unfold bc
      congr 2
      omega)
    rwa [bs_len] at this
theorem textS_byt (l : List Int) (a : Nat) (m : Int) (hby : Byt l) : Byt (textS l a m).2.2.2 := by
  unfold textS
  simp only
  split
  · split
    · intro x hx; simp at hx
    · intro x hx; exact hby x (List.mem_of_mem_drop (List.mem_of_mem_take hx))
  · intro x hx; simp at hx
theorem rtext_gs (p : Nat) (v : Value) (l : List Int) (s : Gs) (w : World) (hr : RdG w p v s) (hv : Slx p bc w v l) (hl : l.length ≤ 100000) (hby : Byt l) (hs : s.pt ≤ l.length) :
    Calls Tryz.prog 94 #[.pointer (some ⟨p, 0, none⟩), .int .i64 256] w fun x w' => ∃ u, x = .returned u ∧ (convert 22 9 u).run Tryz.prog w' = .ok (.string ⟨((gT l s).2).toArray⟩) w' ∧ RdG w' p v (gT l s).1 ∧ Bx p w w' := by
  unfold gT
  by_cases hc : s.c = 0
  · rw [if_pos hc]
    have hr' : Rd w p v s.pt .nilIface := by unfold RdG at hr; rwa [erN, if_pos hc] at hr
    refine (rtext_any p v l s.pt 256 w hr' hv hl hby hs (by decide)).mono ?_
    rintro e w' ⟨u, rfl, h1, h2, h3⟩
    refine ⟨u, rfl, str_of h1 (textS_byt l s.pt 256 hby), rdG_mk (fun q => ?_) h2, h3⟩
    revert q
    unfold textS
    simp only
    split
    · split
      · intro _; rfl
      · intro q; exact absurd rfl q
    · intro _; rfl
  · rw [if_neg hc]
    have hb := hr.bad hc
    refine (rtext_bad p v s.pt s.pt 256 0 _ _ _ w hb (hide (rint_keep p v s.pt 256 _ _ w (by decide) hb))).mono ?_
    rintro e w' ⟨rfl, h2, h3⟩
    exact ⟨_, rfl, str_of (Sl.nil _ _ _ _) (fun x hx => by simp at hx), by unfold RdG; rw [erN, if_neg hc]; exact h2, h3⟩
theorem rrow_gs (p : Nat) (v : Value) (l : List Int) (s : Gs) (w : World) (hr : RdG w p v s) (hv : Slx p bc w v l) (hl : l.length ≤ 100000) (hby : Byt l) (hs : s.pt ≤ l.length) :
    Calls Tryz.prog 95 #[.pointer (some ⟨p, 0, none⟩), .int .i64 7, .int .i64 64] w fun x w' => ∃ u, x = .returned u ∧ Sli (fun b => w.heap.size ≤ b) w' u (gR l s).2 ∧ RdG w' p v (gR l s).1 ∧ Bx p w w' := by
  unfold gR
  by_cases hc : s.c = 0
  · rw [if_pos hc]
    have hr' : Rd w p v s.pt .nilIface := by unfold RdG at hr; rwa [erN, if_pos hc] at hr
    refine (rrow_anyd p v l s.pt 7 64 w hr' hv hl hby hs (by decide) (by decide)).mono ?_
    rintro e w' ⟨u, rfl, h1, h2, h3⟩
    refine ⟨u, rfl, ?_, rdG_mk (fun _ => rfl) h2, h3⟩
    rcases h1 with h1 | ⟨b, o, cap, e1, e2, e3, e4⟩
    · exact .inl h1
    · exact .inr ⟨b, o, cap, e1, e2, by omega, e4⟩
  · rw [if_neg hc]
    have hb := hr.bad hc
    obtain ⟨ao, cap, rfl⟩ := hv.sl.form
    refine (rrow_none p ao l.length cap s.pt 7 64 w _ hl hs (hide (rint_keep p _ s.pt 7 _ _ w (by decide) hb))).mono ?_
    rintro e w' ⟨u, rfl, h1, h2, h3⟩
    obtain ⟨ao', cap', rfl⟩ := h1.form
    exact ⟨_, rfl, Sli.nil _ _ _ _, by unfold RdG; rw [erN, if_neg hc]; exact h2, h3⟩
/-- Something is wrong where it is, if nothing was wrong before. -/
def refS (op : ByteArray) (c : Int) (s : Gs) : Gs := if s.c = 0 then ⟨c, op, s.pt⟩ else s
theorem refuse_gs (p : Nat) (v : Value) (s : Gs) (op : ByteArray) (c : Int) (w : World) (hc0 : c ≠ 0) (hr : RdG w p v s) :
    Calls Tryz.prog 48 #[.pointer (some ⟨p, 0, none⟩), .string op, .int .i64 c] w fun x w' => x = .returned (.tuple #[]) ∧ RdG w' p v (refS op c s) ∧ Bx p w w' := by
  unfold refS
  by_cases hc : s.c = 0
  · rw [if_pos hc]
    have hr' : Rd w p v s.pt .nilIface := by unfold RdG at hr; rwa [erN, if_pos hc] at hr
    refine (refuse_none p v s.pt op c w hr').mono ?_
    rintro e w' ⟨rfl, rfl⟩
    exact ⟨rfl, by unfold RdG; rw [erN, if_neg hc0]; exact hr'.sete _, (Bx.refl _ _).set _ _⟩
  · rw [if_neg hc]
    have hb := hr.bad hc
    refine (refuse_some p v s.pt _ _ op c w hb).mono ?_
    rintro e w' ⟨rfl, rfl⟩
    exact ⟨rfl, hr, Bx.refl _ _⟩
end Go.Proofs.YtgbcjmpnkejpeaaGreatDoor
namespace Go.Proofs.YtgbcjmpnkejpeaaGreatDoor
open Go.RowKit

def pts8 (p : Nat) : Value := .agg #[.pointer (some ⟨p, 1, none⟩), .pointer (some ⟨p, 2, none⟩), .pointer (some ⟨p, 3, none⟩), .pointer (some ⟨p, 4, none⟩), .pointer (some ⟨p, 5, none⟩), .pointer (some ⟨p, 6, none⟩), .pointer (some ⟨p, 7, none⟩), .pointer (some ⟨p, 8, none⟩)]
def ptsT (p : Nat) : Value := .agg #[.pointer (some ⟨p, 10, none⟩), .pointer (some ⟨p, 11, none⟩), .pointer (some ⟨p, 12, none⟩), .pointer (some ⟨p, 13, none⟩)]
def ptsR (p : Nat) : Value := .agg #[.pointer (some ⟨p, 14, none⟩), .pointer (some ⟨p, 15, none⟩), .pointer (some ⟨p, 16, none⟩), .pointer (some ⟨p, 17, none⟩)]
set_option maxRecDepth 100000 in
set_option maxHeartbeats 4000000 in
theorem texts_any (p : Nat) (w : World) : Calls Tryz.prog 73 #[.pointer (some ⟨p, 0, none⟩)] w fun e w' => e = .returned (ptsT p) ∧ Below w.heap.size w w' := by
  go_enter Tryz.func73, Tryz.ntmps73
  go_wp2
  go_region
  go_wp2
  refine bodyPost_ret (v := ptsT p) (by simp [results, Tryz.results73, go_sem, ptsT]) rfl ⟨rfl, ?_⟩
  exact ((Below.refl _ _).alloc (Nat.le_refl _) _).drew
set_option maxRecDepth 100000 in
set_option maxHeartbeats 4000000 in
theorem numbers_pts (p : Nat) (w : World) : Calls Tryz.prog 70 #[.pointer (some ⟨p, 0, none⟩)] w fun e w' => e = .returned (pts8 p) ∧ Below w.heap.size w w' := by
  go_enter Tryz.func70, Tryz.ntmps70
  go_wp2
  go_region
  go_wp2
  refine bodyPost_ret (v := pts8 p) (by simp [results, Tryz.results70, go_sem, pts8]) rfl ⟨rfl, ?_⟩
  exact ((Below.refl _ _).alloc (Nat.le_refl _) _).drew
set_option maxRecDepth 100000 in
set_option maxHeartbeats 4000000 in
theorem rows_any (p : Nat) (w : World) : Calls Tryz.prog 75 #[.pointer (some ⟨p, 0, none⟩)] w fun e w' => e = .returned (ptsR p) ∧ Below w.heap.size w w' := by
  go_enter Tryz.func75, Tryz.ntmps75
  go_wp2
  go_region
  go_wp2
  refine bodyPost_ret (v := ptsR p) (by simp [results, Tryz.results75, go_sem, ptsR]) rfl ⟨rfl, ?_⟩
  exact ((Below.refl _ _).alloc (Nat.le_refl _) _).drew
end Go.Proofs.YtgbcjmpnkejpeaaGreatDoor
