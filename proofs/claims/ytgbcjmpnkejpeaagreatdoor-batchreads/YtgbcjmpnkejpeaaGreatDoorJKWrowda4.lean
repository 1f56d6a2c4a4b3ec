/-
  A READER's NEXT ROW LIES IN NEW MEMORY; what is asked of a reader, told so. Conditions: the bytes' cells hold them, they lie off the reader, no more than a hundred thousand.
  WHAT A READER READS NEXT, whatever was wrong before (wire.Reader's Int, Flag, Text, Row, Refuse, Err): one state in, one state out. Conditions: the bytes' cells hold them, each is a byte, no more than a hundred thousand, they don't lie in the reader, and the reader is within them.
  WHAT IS WRONG WITH A RECORD FIRST (record.Check): what the document says. Conditions: its rows' cells hold them, texts of no more than a thousand letters.
  A RECORD AS BYTES, OR WHAT IS WRONG WITH IT (record.Put): what the document says. Conditions: its rows' cells hold them, texts of no more than a thousand letters; the bytes that are ahead are nil or a row of their own, the record's rows lie ahead of it.
-/
import Derived.Test.YtgbcjmpnkejpeaaGreatDoorJKRecSuba4
import Derived.Test.YtgbcjmpnkejpeaaGreatDoorJKRecChka2
import Derived.Test.YtgbcjmpnkejpeaaGreatDoorJKRecVa2
import Derived.Laws.IdiomStrings
import Derived.Test.YtgbcjmpnkejpeaaGreatDoorJKWreada4
import Derived.Deep.MidRow
import Derived.Deep.DeepCutAuto
import Derived.Test.YtgbcjmpnkejpeaaGreatDoorJKRecPta4
namespace Go.Proofs.YtgbcjmpnkejpeaaGreatDoor
open Go.RowKit

set_option maxRecDepth 100000 in
set_option maxHeartbeats 4000000 in
theorem rrow_somed (p : Nat) (v : Value) (l : List Int) (ao : Option Addr) (cap A N M : Nat) (m m2 : Int) (w : World) (hV : v = .slice ao l.length cap) (hv : Slx p bc w v l) (hby : Byt l) (hp : p < w.heap.size) (hm2 : m2 ≤ 9223372036854775807) (hN : N ≤ 9223372036854775807) (hL : l.length ≤ 100000) (hA : A ≤ l.length) (hM : M ≤ 100000) (hK : (if (l.length : Int) - (A : Int) < (N : Int) then (l.length : Int) - (A : Int) else (N : Int)) = (M : Int))
    (HC : Hid (Calls Tryz.prog 46 #[.pointer (some ⟨p, 0, none⟩), .int .i64 m] w fun x w' => x = .returned (.int .i64 (N : Int)) ∧ Rd w' p v A .nilIface ∧ Bx p w w')) :
    Calls Tryz.prog 95 #[.pointer (some ⟨p, 0, none⟩), .int .i64 m, .int .i64 m2] w fun x w' => ∃ v', x = .returned v' ∧ Sld 0 w.heap.size ic w' v' (rowR (rowI l (abv' m2) A N)) ∧ Rd w' p v (rowI l (abv' m2) A N).2.1 (erN ⟨#[110, 117, 109]⟩ (rowI l (abv' m2) A N).2.1 (rowI l (abv' m2) A N).1) ∧ Bx p w w' := by
  obtain ⟨i0, hi, hz0, hz1, hz2⟩ := info_parts infoI
  have hmk := makeInts M hM
  have HV := hide hv
  have HY := hide hby
  clear hv hby
  subst hV
  go_enter Tryz.func95, Tryz.ntmps95
  go_wp2_with (first | (go_at_call 46; refine (HC.out).mono ?_; rintro e w1 ⟨rfl, hr1, hb1⟩; obtain ⟨d0, d1, d2, fz1⟩ := id hr1; have HR1 := hide hr1; have HB1 := hide hb1; clear hr1 hb1 fz1))
  go_region
  go_wp2_with fail
  go_loopw [8, 27] (fun u i wr => ∃ j : Nat, j ≤ N ∧ i = .int .i64 j ∧ (rowI l (abv' m2) A j).1 = 0 ∧ wr.ownsRow w.heap.size 3 1 u (rowI l (abv' m2) A j).2.2.length ((rowI l (abv' m2) A j).2.2.map ic) ∧ Rd wr p (.slice ao l.length cap) (rowI l (abv' m2) A j).2.1 .nilIface ∧ Bx p w wr ∧ w.heap.size ≤ wr.heap.size ∧ (rowI l (abv' m2) A j).2.1 ≤ l.length ∧ (rowI l (abv' m2) A j).2.2.length + A ≤ (rowI l (abv' m2) A j).2.1) (fun _ i _ => N - (intOf i).toNat)
  case atStart =>
    have hs := HB1.out.size
    refine ⟨0, Nat.zero_le _, rfl, rfl, ?_, (HR1.out.drewN 1).alloc _, ((HB1.out.drewN 1).call ((Below.refl _ _).alloc (Nat.le_refl _) _)), by simp; omega, hA, by simp [rowI]⟩
    exact World.ownsRow_made _ _ M (by exact hs) (by unfold maxLen; omega) (by simp [size_madeCells])
  case round =>
    obtain ⟨j, hj, rfl, hz, hown, hr, hb, hs, hal, hln⟩ := hrel
    have hvr := HV.out.bx hb
    by_cases hlt : j < N
    · have h1 := rnum_any p _ l (rowI l (abv' m2) A j).2.1 (abv' m2) wr hr hvr.sl hL HY.out hal
      have hbd : Byt (l.drop (rowI l (abv' m2) A j).2.1) := fun x hx => HY.out x (List.mem_of_mem_drop hx)
      have hrg := numS_range (l.drop (rowI l (abv' m2) A j).2.1) (abv' m2) hbd
      rcases hq : numS (l.drop (rowI l (abv' m2) A j).2.1) (abv' m2) with ⟨c, k, x⟩
      rw [hq] at h1 hrg
      have HC2 := hide (rint_of p m2 (abv' m2) x wr hm2 rfl ⟨hrg.1, by have := hrg.2; simp only at this; omega⟩ (hide h1))
      clear h1
      by_cases hc : c = 0
      · subst hc
        obtain ⟨_, hkn, _, _, _, hkl⟩ := numS_once hbd hq
        rw [List.length_drop] at hkl
        have hk1 : 1 ≤ k := by rw [hkn]; unfold numL; split; · simp
                               split; · simp
                               split <;> simp
        have HE := hide (rowI_ok hz hq)
        simp only [erN, if_true] at HC2
        have HOW := hide hown
        have HBW := hide hb
        clear hq hrg hbd hr hz hvr hkn
        generalize (rowI l (abv' m2) A j).2.2 = xs at *
        generalize (rowI l (abv' m2) A j).2.1 = a1 at *
        go_wp2_with (first
          | (go_at_call 46; refine (HC2.out).mono ?_; rintro e w2 ⟨rfl, hr2, hb2⟩; obtain ⟨k0, k1, k2, fz2⟩ := id hr2; have HR2 := hide hr2; have HB2 := hide hb2; have hown2 := owns_bx HOW.out hb2 hp; have hz2s := hb2.size; clear hr2 hb2 fz2)
          | (at_builtin; refine wpList_append_own _ rfl _ _ 33 rfl w.heap.size 3 i0 (.int .i64 0) 1 8 Tryz.underlying33 hi hz0 hz1 hz2 rfl (by decide) _ _ _ rfl (hown2.alloc _) ⟨w2.heap.size, 0, none⟩ 1 1 [.int .i64 x] rfl rfl ?c1 ?c2 ?c3 ?c4 ?c5 ?_))
        case c1 =>
          intro j u hj
          match j, hj with
          | 0, hj => simp at hj; subst hj; simp [Addr.add, go_sem]
        case c2 => intro u hu; simp at hu; subst hu; rfl
        case c3 => unfold maxLen; omega
        case c4 => omega
        case c5 => simp; omega
        · intro v' w3 hown' hgrow _
          have hge : ∀ k, Value.ownBlock _ = some k → w.heap.size ≤ k := fun k hk => (hown2.lt k hk).1
          have hB : Bx p w w3 := ((HBW.out.trans HB2.out).call ((Below.refl _ _).alloc (Nat.le_refl _) _)).grown hgrow hge
          have hR : Rd w3 p (.slice ao l.length cap) (a1 + k : Nat) .nilIface := (HR2.out.alloc _).grown hgrow (fun k hk => Nat.lt_of_lt_of_le hp (hge k hk))
          have HO3 := hide hown'
          have HB3 := hide hB
          have HR3 := hide hR
          clear hown' hgrow hown2 hge hB hR hown hb
          go_wp2_with fail
          go_roundw
          case rel =>
            refine ⟨j + 1, by omega, by go_num, ?_⟩
            rw [HE.out]
            refine ⟨rfl, by simpa [ic] using HO3.out, HR3.out, HB3.out, HB3.out.size, ?_, ?_⟩
            · show a1 + k ≤ l.length
              omega
            · show (xs ++ [x]).length + A ≤ a1 + k
              simp; omega
          case measure => simp [intOf]; omega
      · obtain ⟨rfl, rfl⟩ := numS_bad hq hc
        have HE := hide (rowI_bad hz hq hc)
        have HF := hide (rowI_stays (l := l) (most := abv' m2) (a := A) (j := j + 1) (by rw [HE.out]; exact hc) (N - (j + 1)))
        simp only [erN, if_neg hc, Nat.add_zero] at HC2
        clear hq hrg hbd
        unfold ft at HC2
        go_wp2_with (first
          | (go_at_call 46; refine (HC2.out).mono ?_; rintro e w2 ⟨rfl, hr2, hb2⟩; obtain ⟨k0, k1, k2, fz2⟩ := id hr2; have HR2 := hide hr2; have HB2 := hide hb2; clear hr2 hb2 fz2))
        go_ret
        refine ⟨_, rfl, ?_⟩
        have hZ : rowI l (abv' m2) A N = (c, (rowI l (abv' m2) A j).2.1, (rowI l (abv' m2) A j).2.2) := by
          rw [← HE.out, ← HF.out]
          congr 1
          omega
        simp only [hZ, erN, rowR, if_neg hc]
        exact ⟨Sld.nil _ _ _ _ _ _, HR2.out, hb.trans HB2.out⟩
    · obtain rfl : j = N := by omega
      clear hlt
      have HR2 := hide hr
      have HO := hide hown
      have HZ := hide hz
      clear hr hown hz
      go_wp2_with fail
      go_ret
      refine ⟨_, rfl, ?_⟩
      simp only [HZ.out, erN, rowR, if_true]
      exact ⟨sld_of_owns 0 HO.out, HR2.out, hb⟩

theorem rrow_anyd (p : Nat) (v : Value) (l : List Int) (a : Nat) (m m2 : Int) (w : World) (hr : Rd w p v a .nilIface) (hv : Slx p bc w v l) (hl : l.length ≤ 100000) (hby : Byt l) (ha : a ≤ l.length) (hm : m ≤ 9223372036854775807) (hm2 : m2 ≤ 9223372036854775807) :
    Calls Tryz.prog 95 #[.pointer (some ⟨p, 0, none⟩), .int .i64 m, .int .i64 m2] w fun x w' => ∃ v', x = .returned v' ∧ Sld 0 w.heap.size ic w' v' (rowR (rowS l a m m2)) ∧ Rd w' p v (rowS l a m m2).2.1 (erN ⟨#[110, 117, 109]⟩ (rowS l a m m2).2.1 (rowS l a m m2).1) ∧ Bx p w w' := by
  have h1 := rnum_any p v l a (abv' m) w hr hv.sl hl hby ha
  have hbd : Byt (l.drop a) := fun x hx => hby x (List.mem_of_mem_drop hx)
  have hrg := numS_range (l.drop a) (abv' m) hbd
  obtain ⟨ao, cap, hV⟩ := hv.sl.form
  unfold rowS
  rcases hq : numS (l.drop a) (abv' m) with ⟨c, k, N⟩
  rw [hq] at h1 hrg
  have HC := hide (rint_of p m (abv' m) N w hm rfl ⟨hrg.1, by have := hrg.2; simp only at this; omega⟩ (hide h1))
  simp only at HC ⊢
  by_cases hc : c = 0
  · subst hc
    obtain ⟨_, _, n0, n1, _, hkl⟩ := numS_once hbd hq
    rw [List.length_drop] at hkl
    simp only [if_true]
    rw [erN, if_pos rfl] at HC
    obtain ⟨N', rfl⟩ := Int.eq_ofNat_of_zero_le n0
    simp only [Int.toNat_natCast] at *
    by_cases hlt : ((l.length : Int) - ((a + k : Nat) : Int)) < (N' : Int)
    · exact rrow_somed p v l ao cap (a + k) N' (l.length - (a + k)) m m2 w hV hv hby hr.lt hm2 (by omega) hl (by omega) (by omega) (by rw [if_pos hlt]; omega) HC
    · exact rrow_somed p v l ao cap (a + k) N' N' m m2 w hV hv hby hr.lt hm2 (by omega) hl (by omega) (by omega) (by rw [if_neg hlt]) HC
  · obtain ⟨rfl, rfl⟩ := numS_bad hq hc
    rw [if_neg hc]
    simp only [erN, rowR, if_neg hc, Nat.add_zero] at HC ⊢
    subst hV
    refine (rrow_none p ao l.length cap a m m2 w _ hl ha HC).mono ?_
    rintro e w' ⟨v', rfl, hs, h1, h2⟩
    obtain ⟨ao', cap', rfl⟩ := hs.form
    exact ⟨_, rfl, Sld.nil _ _ _ _ _ _, h1, h2⟩
end Go.Proofs.YtgbcjmpnkejpeaaGreatDoor
namespace Go.Proofs.YtgbcjmpnkejpeaaGreatDoor
open Go.RowKit

/-- The reader at p, of the slice v, is in the state s. -/
def RdG (W : World) (p : Nat) (v : Value) (s : Gs) : Prop := Rd W p v (s.pt : Int) (erN s.op s.pt s.c)
theorem RdG.below {W W' : World} {p : Nat} {v : Value} {s : Gs} (h : RdG W p v s) (hb : Below W.heap.size W W') : RdG W' p v s := Rd.below h hb
theorem RdG.ok {W : World} {p : Nat} {v : Value} {a : Nat} (h : RdG W p v (okS a)) : Rd W p v a .nilIface := h
theorem RdG.bad {W : World} {p : Nat} {v : Value} {s : Gs} (h : RdG W p v s) (hc : s.c ≠ 0) : Rd W p v s.pt (ft s.op s.pt s.c) := by
  unfold RdG at h
  rwa [erN, if_neg hc] at h
theorem rdG_mk {W : World} {p : Nat} {v : Value} {c : Int} {op : ByteArray} {n a : Nat} (hn : c ≠ 0 → n = a) (h : Rd W p v (n : Int) (erN op a c)) : RdG W p v (mkS c op n a) := by
  unfold mkS
  by_cases hc : c = 0
  · subst hc; rw [if_pos rfl]; exact h
  · rw [if_neg hc]
    have := hn hc
    subst this
    exact h
theorem rint_gs (p : Nat) (v : Value) (l : List Int) (m : Int) (s : Gs) (w : World) (hr : RdG w p v s) (hv : Slx p bc w v l) (hl : l.length ≤ 100000) (hby : Byt l) (hs : s.pt ≤ l.length) (h0 : 0 ≤ m) (hm : m ≤ 1073741824) :
    Calls Tryz.prog 46 #[.pointer (some ⟨p, 0, none⟩), .int .i64 m] w fun x w' => x = .returned (.int .i64 (gN m l s).2) ∧ RdG w' p v (gN m l s).1 ∧ Bx p w w' := by
  unfold gN
  by_cases hc : s.c = 0
  · rw [if_pos hc]
    have hr' : Rd w p v s.pt .nilIface := by unfold RdG at hr; rwa [erN, if_pos hc] at hr
    have h1 := rnum_any p v l s.pt m w hr' hv.sl hl hby hs
    have hrg := numS_range (l.drop s.pt) m (fun x hx => hby x (List.mem_of_mem_drop hx))
    refine (rint_of p m m _ w (by omega) (by rw [abv', if_neg (by omega)]) ⟨hrg.1, by omega⟩ (hide h1)).mono ?_
    rintro e w' ⟨rfl, h2, h3⟩
    refine ⟨rfl, rdG_mk (fun q => ?_) h2, h3⟩
    rcases hq : numS (l.drop s.pt) m with ⟨c, k, n⟩
    rw [hq] at q
    have := (numS_bad hq q).1
    simp [this]
  · rw [if_neg hc]
    have hb := hr.bad hc
    refine (rint_keep p v s.pt m _ _ w (by omega) hb).mono ?_
    rintro e w' ⟨rfl, h2, h3⟩
    exact ⟨rfl, by unfold RdG; rw [erN, if_neg hc]; exact h2, h3⟩
theorem rflag_gs (p : Nat) (v : Value) (l : List Int) (s : Gs) (w : World) (hr : RdG w p v s) (hv : Slx p bc w v l) (hl : l.length ≤ 100000) (hs : s.pt ≤ l.length) :
    Calls Tryz.prog 93 #[.pointer (some ⟨p, 0, none⟩)] w fun x w' => x = .returned (.bool (gF l s).2) ∧ RdG w' p v (gF l s).1 ∧ Bx p w w' := by
  unfold gF
  by_cases hc : s.c = 0
  · rw [if_pos hc]
    have hr' : Rd w p v s.pt .nilIface := by unfold RdG at hr; rwa [erN, if_pos hc] at hr
    refine (rflag_any p v l s.pt w hr' hv.sl hl hs).mono ?_
    rintro e w' ⟨rfl, h2, h3⟩
    refine ⟨rfl, rdG_mk (fun q => ?_) h2, h3⟩
    revert q
    unfold flagS
    split
    · intro _; rfl
    · split
      · intro _; rfl
      · intro q; exact absurd rfl q
  · rw [if_neg hc]
    have hb := hr.bad hc
    refine (rflag_err p v s.pt _ _ w hb).mono ?_
    rintro e w' ⟨rfl, rfl⟩
    exact ⟨rfl, by unfold RdG; rw [erN, if_neg hc]; exact hb, Bx.refl _ _⟩
/-- A text's bytes as a string. -/
theorem str_of {W : World} {u : Value} {T : List Int} (h : Sl bc W u T) (hb : Byt T) : (convert 22 9 u).run Tryz.prog W = .ok (.string ⟨(bs T).toArray⟩) W := by
  rcases h with ⟨ao, cap, rfl, rfl⟩ | ⟨b, o, cap, rfl, _, h3⟩
  · cases ao with
    | none =>
      rw [run_convert_bytes_string W 22 9 5 none 0 cap Tryz.underlying22 Tryz.underlying5 Tryz.underlying9]
      simp [Conv.bytesToString]
      rfl
    | some a => exact run_convert_bytes_back W 22 9 5 a cap [] Tryz.underlying22 Tryz.underlying5 Tryz.underlying9 (fun j hj => by simp at hj)
  · have := run_convert_bytes_back W 22 9 5 ⟨b, o, none⟩ cap (bs T) Tryz.underlying22 Tryz.underlying5 Tryz.underlying9 (fun j hj => by
      have hj' : j < T.length := by rwa [bs_len] at hj
      have e := h3 j hj'
      rw [show ((⟨b, o, none⟩ : Addr).add j) = ⟨b, o + j, none⟩ from Addr.add_lit b o j, e]
      have hx := hb T[j] (List.getElem_mem hj')
      have e2 : (bs T)[j] = UInt8.ofNat T[j].toNat := by simp [bs]
      rw [e2, UInt8.toNat_ofNat']
      unfold bc
      congr 2
      omega)
    rwa [bs_len] at this
theorem textS_byt (l : List Int) (a : Nat) (m : Int) (hby : Byt l) : Byt (textS l a m).2.2.2 := by
  unfold textS
  simp only
  split
  · split
    · intro x hx; simp at hx
    · intro x hx; exact hby x (List.mem_of_mem_drop (List.mem_of_mem_take hx))
  · intro x hx; simp at hx
theorem rtext_gs (p : Nat) (v : Value) (l : List Int) (s : Gs) (w : World) (hr : RdG w p v s) (hv : Slx p bc w v l) (hl : l.length ≤ 100000) (hby : Byt l) (hs : s.pt ≤ l.length) :
    Calls Tryz.prog 94 #[.pointer (some ⟨p, 0, none⟩), .int .i64 256] w fun x w' => ∃ u, x = .returned u ∧ (convert 22 9 u).run Tryz.prog w' = .ok (.string ⟨((gT l s).2).toArray⟩) w' ∧ RdG w' p v (gT l s).1 ∧ Bx p w w' := by
  unfold gT
  by_cases hc : s.c = 0
  · rw [if_pos hc]
    have hr' : Rd w p v s.pt .nilIface := by unfold RdG at hr; rwa [erN, if_pos hc] at hr
    refine (rtext_any p v l s.pt 256 w hr' hv hl hby hs (by decide)).mono ?_
    rintro e w' ⟨u, rfl, h1, h2, h3⟩
    refine ⟨u, rfl, str_of h1 (textS_byt l s.pt 256 hby), rdG_mk (fun q => ?_) h2, h3⟩
    revert q
    unfold textS
    simp only
    split
    · split
      · intro _; rfl
      · intro q; exact absurd rfl q
    · intro _; rfl
  · rw [if_neg hc]
    have hb := hr.bad hc
    refine (rtext_bad p v s.pt s.pt 256 0 _ _ _ w hb (hide (rint_keep p v s.pt 256 _ _ w (by decide) hb))).mono ?_
    rintro e w' ⟨rfl, h2, h3⟩
    exact ⟨_, rfl, str_of (Sl.nil _ _ _ _) (fun x hx => by simp at hx), by unfold RdG; rw [erN, if_neg hc]; exact h2, h3⟩
theorem rrow_gs (p : Nat) (v : Value) (l : List Int) (s : Gs) (w : World) (hr : RdG w p v s) (hv : Slx p bc w v l) (hl : l.length ≤ 100000) (hby : Byt l) (hs : s.pt ≤ l.length) :
    Calls Tryz.prog 95 #[.pointer (some ⟨p, 0, none⟩), .int .i64 7, .int .i64 64] w fun x w' => ∃ u, x = .returned u ∧ Sli (fun b => w.heap.size ≤ b) w' u (gR l s).2 ∧ RdG w' p v (gR l s).1 ∧ Bx p w w' := by
  unfold gR
  by_cases hc : s.c = 0
  · rw [if_pos hc]
    have hr' : Rd w p v s.pt .nilIface := by unfold RdG at hr; rwa [erN, if_pos hc] at hr
    refine (rrow_anyd p v l s.pt 7 64 w hr' hv hl hby hs (by decide) (by decide)).mono ?_
    rintro e w' ⟨u, rfl, h1, h2, h3⟩
    refine ⟨u, rfl, ?_, rdG_mk (fun _ => rfl) h2, h3⟩
    rcases h1 with h1 | ⟨b, o, cap, e1, e2, e3, e4⟩
    · exact .inl h1
    · exact .inr ⟨b, o, cap, e1, e2, by omega, e4⟩
  · rw [if_neg hc]
    have hb := hr.bad hc
    obtain ⟨ao, cap, rfl⟩ := hv.sl.form
    refine (rrow_none p ao l.length cap s.pt 7 64 w _ hl hs (hide (rint_keep p _ s.pt 7 _ _ w (by decide) hb))).mono ?_
    rintro e w' ⟨u, rfl, h1, h2, h3⟩
    obtain ⟨ao', cap', rfl⟩ := h1.form
    exact ⟨_, rfl, Sli.nil _ _ _ _, by unfold RdG; rw [erN, if_neg hc]; exact h2, h3⟩
/-- Something is wrong where it is, if nothing was wrong before. -/
def refS (op : ByteArray) (c : Int) (s : Gs) : Gs := if s.c = 0 then ⟨c, op, s.pt⟩ else s
theorem refuse_gs (p : Nat) (v : Value) (s : Gs) (op : ByteArray) (c : Int) (w : World) (hc0 : c ≠ 0) (hr : RdG w p v s) :
    Calls Tryz.prog 48 #[.pointer (some ⟨p, 0, none⟩), .string op, .int .i64 c] w fun x w' => x = .returned (.tuple #[]) ∧ RdG w' p v (refS op c s) ∧ Bx p w w' := by
  unfold refS
  by_cases hc : s.c = 0
  · rw [if_pos hc]
    have hr' : Rd w p v s.pt .nilIface := by unfold RdG at hr; rwa [erN, if_pos hc] at hr
    refine (refuse_none p v s.pt op c w hr').mono ?_
    rintro e w' ⟨rfl, rfl⟩
    exact ⟨rfl, by unfold RdG; rw [erN, if_neg hc0]; exact hr'.sete _, (Bx.refl _ _).set _ _⟩
  · rw [if_neg hc]
    have hb := hr.bad hc
    refine (refuse_some p v s.pt _ _ op c w hb).mono ?_
    rintro e w' ⟨rfl, rfl⟩
    exact ⟨rfl, hr, Bx.refl _ _⟩
end Go.Proofs.YtgbcjmpnkejpeaaGreatDoor
namespace Go.Proofs.YtgbcjmpnkejpeaaGreatDoor
open Go.RowKit

set_option maxRecDepth 100000 in
set_option maxHeartbeats 4000000 in
theorem asked_any (a cl se co : Int) (b5 b6 b7 : Bool) (x0 x1 x2 x3 x4 x5 x9 x10 x11 x12 x13 x14 x15 x16 x17 : Value) (w : World) (H5 : Hid (∀ W, Calls Tryz.prog 77 #[.int .u32 a, .int .u32 32, .int .i64 cl, .int .i64 1, .int .i64 1073741824] W fun e w' => e = .returned (.bool b5) ∧ w' = W)) (H6 : Hid (∀ W, Calls Tryz.prog 77 #[.int .u32 a, .int .u32 64, .int .i64 se, .int .i64 1, .int .i64 1073741824] W fun e w' => e = .returned (.bool b6) ∧ w' = W)) (H7 : Hid (∀ W, Calls Tryz.prog 77 #[.int .u32 a, .int .u32 128, .int .i64 co, .int .i64 0, .int .i64 21] W fun e w' => e = .returned (.bool b7) ∧ w' = W)) :
    Calls Tryz.prog 79 #[.int .u32 a, .agg #[x0, x1, x2, x3, x4, x5, .int .i64 cl, .int .i64 se, .int .i64 co, x9, x10, x11, x12, x13, x14, x15, x16, x17]] w fun e w' => e = .returned (.bool (b5 && b6 && b7)) ∧ Below w.heap.size w w' := by
  cases b5 <;> cases b6 <;> cases b7
  all_goals
    go_enter Tryz.func79, Tryz.ntmps79
    go_wp2_with (go_at_call 77; first | (with_reducible refine (H5.out _).mono ?_; rintro e w' ⟨rfl, rfl⟩) | (with_reducible refine (H6.out _).mono ?_; rintro e w' ⟨rfl, rfl⟩) | (with_reducible refine (H7.out _).mono ?_; rintro e w' ⟨rfl, rfl⟩))
    go_ret
    exact ⟨rfl, (Below.refl _ _).alloc (Nat.le_refl _) _⟩
set_option maxRecDepth 100000 in
set_option maxHeartbeats 16000000 in
theorem ccheck_ok (k br ep tp pa le cl se co : Int) (fl : Bool) (nm ky va rk : List UInt8) (a14 a15 a16 a17 : Option Addr) (c14 c15 c16 c17 : Nat) (ids isr ad dr : List Int) (w : World) (hk : 1 ≤ k ∧ k ≤ 12) (hS1 : nm.length ≤ 1000) (hS2 : ky.length ≤ 1000) (_hS3 : va.length ≤ 1000) (hS4 : rk.length ≤ 1000)
    (h14 : Sl ic w (.slice a14 ids.length c14) ids) (h15 : Sl ic w (.slice a15 isr.length c15) isr) (h16 : Sl ic w (.slice a16 ad.length c16) ad) (h17 : Sl ic w (.slice a17 dr.length c17) dr) (T : ByteArray × Int × Int)
    (hT : T = checkB br ep tp pa le cl nm.length va.length ids.length
    (numB br (hasL k 98) 1 64) (numB ep (hasL k 101) 0 1073741824) (numB tp (hasL k 116) (if k = 10 then 0 else 1) 1073741824) (numB pa (hasL k 112) 0 255) (numB le (hasL k 108) 0 64)
    (numB cl (hasL k 97) 1 1073741824) (numB se (hasL k 97) 1 1073741824) (numB co (hasL k 97) 0 21) (fl && !hasL k 102)
    (nameA nm (hasL k 110)) (nameA ky (hasL k 107)) (nameA rk (hasL k 114)) (decide (mostV (hasL k 118) fl < (va.length : Int)))
    (rowB ids (hasL k 105)) (rowB isr (hasL k 109)) (rowB ad (hasL k 120)) (rowB dr (hasL k 120))) :
    Calls Tryz.prog 40 #[.agg #[.int .i64 k, .int .i64 br, .int .i64 ep, .int .i64 tp, .int .i64 pa, .int .i64 le, .int .i64 cl, .int .i64 se, .int .i64 co, .bool fl, .string ⟨nm.toArray⟩, .string ⟨ky.toArray⟩, .string ⟨va.toArray⟩, .string ⟨rk.toArray⟩, .slice a14 ids.length c14, .slice a15 isr.length c15, .slice a16 ad.length c16, .slice a17 dr.length c17]] w fun e w' => e = .returned (erN T.1 T.2.1 T.2.2) ∧ Below w.heap.size w w' := by
  obtain ⟨q0, q1, q2, q3, q4, q5, q6, q7, q8, q9, q10, q11, q12, q13, q14, q15, q16⟩ := bit_has hk
  have HS := hide (fun W => subj_any k W)
  rw [show knd k = true from decide_eq_true hk] at HS
  have HL := hide (fun W => least_any k W)
  obtain ⟨lo, hlo⟩ : ∃ lo : Int, lo = if k = 10 then 0 else 1 := ⟨_, rfl⟩
  rw [← hlo] at HL hT
  clear hlo
  generalize sbj k = a at *
  have HN0 := hide (fun W => within_any a 1 br 1 64 W)
  have HN1 := hide (fun W => within_any a 2 ep 0 1073741824 W)
  have HN2 := hide (fun W => within_any a 4 tp lo 1073741824 W)
  have HN3 := hide (fun W => within_any a 8 pa 0 255 W)
  have HN4 := hide (fun W => within_any a 16 le 0 64 W)
  have HN5 := hide (fun W => within_any a 32 cl 1 1073741824 W)
  have HN6 := hide (fun W => within_any a 64 se 1 1073741824 W)
  have HN7 := hide (fun W => within_any a 128 co 0 21 W)
  have HF := hide (fun W => bhas_any a 256 W)
  have HM0 := hide (fun W => named_any a 512 nm W hS1)
  have HM1 := hide (fun W => named_any a 1024 ky W hS2)
  have HM2 := hide (fun W => named_any a 4096 rk W hS4)
  have HV := hide (fun W => most_any a fl W)
  have HR0 := hide (fun W (h : Below w.heap.size w W) => listed_any a 8192 _ ids W (h14.below h))
  have HR1 := hide (fun W (h : Below w.heap.size w W) => listed_any a 16384 _ isr W (h15.below h))
  have HR2 := hide (fun W (h : Below w.heap.size w W) => listed_any a 32768 _ ad W (h16.below h))
  have HR3 := hide (fun W (h : Below w.heap.size w W) => listed_any a 65536 _ dr W (h17.below h))
  rw [q0] at HN0
  rw [q1] at HN1
  rw [q2] at HN2
  rw [q3] at HN3
  rw [q4] at HN4
  rw [q5] at HN5
  rw [q6] at HN6
  rw [q7] at HN7
  rw [q8] at HF
  rw [q9] at HM0
  rw [q10] at HM1
  rw [q11] at HV
  rw [q12] at HM2
  rw [q13] at HR0
  rw [q14] at HR1
  rw [q15] at HR2
  rw [q16] at HR3
  clear q0 q1 q2 q3 q4 q5 q6 q7 q8 q9 q10 q11 q12 q13 q14 q15 q16 h14 h15 h16 h17 hk
  generalize numB br (hasL k 98) 1 64 = b0 at *
  generalize numB ep (hasL k 101) 0 1073741824 = b1 at *
  generalize numB tp (hasL k 116) lo 1073741824 = b2 at *
  generalize numB pa (hasL k 112) 0 255 = b3 at *
  generalize numB le (hasL k 108) 0 64 = b4 at *
  generalize numB cl (hasL k 97) 1 1073741824 = b5 at *
  generalize numB se (hasL k 97) 1 1073741824 = b6 at *
  generalize numB co (hasL k 97) 0 21 = b7 at *
  generalize hasL k 102 = hf at *
  generalize nameA nm (hasL k 110) = n0 at *
  generalize nameA ky (hasL k 107) = n1 at *
  generalize nameA rk (hasL k 114) = n2 at *
  generalize mostV (hasL k 118) fl = mv at *
  generalize rowB ids (hasL k 105) = r0 at *
  generalize rowB isr (hasL k 109) = r1 at *
  generalize rowB ad (hasL k 120) = r2 at *
  generalize rowB dr (hasL k 120) = r3 at *
  have HA := hide (fun x0 x1 x2 x3 x4 x5 x9 x10 x11 x12 x13 x14 x15 x16 x17 W => asked_any a cl se co b5 b6 b7 x0 x1 x2 x3 x4 x5 x9 x10 x11 x12 x13 x14 x15 x16 x17 W HN5 HN6 HN7)
  have HT := hide hT
  clear hT HN5 HN6 HN7
  have HQ : Hid ((w.alloc (.cells #[.int .i64 k, .int .i64 br, .int .i64 ep, .int .i64 tp, .int .i64 pa, .int .i64 le, .int .i64 cl, .int .i64 se, .int .i64 co, .bool fl, .string ⟨nm.toArray⟩, .string ⟨ky.toArray⟩, .string ⟨va.toArray⟩, .string ⟨rk.toArray⟩, .slice a14 ids.length c14, .slice a15 isr.length c15, .slice a16 ad.length c16, .slice a17 dr.length c17] 35)).rangeAt w.heap.size 0 [.int .i64 k, .int .i64 br, .int .i64 ep, .int .i64 tp, .int .i64 pa, .int .i64 le, .int .i64 cl, .int .i64 se, .int .i64 co, .bool fl, .string ⟨nm.toArray⟩, .string ⟨ky.toArray⟩, .string ⟨va.toArray⟩, .string ⟨rk.toArray⟩, .slice a14 ids.length c14, .slice a15 isr.length c15, .slice a16 ad.length c16, .slice a17 dr.length c17]) := hide (range_new w _ _)
  have HB : Hid (Below w.heap.size w (w.alloc (.cells #[.int .i64 k, .int .i64 br, .int .i64 ep, .int .i64 tp, .int .i64 pa, .int .i64 le, .int .i64 cl, .int .i64 se, .int .i64 co, .bool fl, .string ⟨nm.toArray⟩, .string ⟨ky.toArray⟩, .string ⟨va.toArray⟩, .string ⟨rk.toArray⟩, .slice a14 ids.length c14, .slice a15 isr.length c15, .slice a16 ad.length c16, .slice a17 dr.length c17] 35))) := hide ((Below.refl _ _).alloc (Nat.le_refl _) _)
  go_enter Tryz.func40, Tryz.ntmps40
  go_upto_region 1 with fail
  generalize w.alloc (.cells #[.int .i64 k, .int .i64 br, .int .i64 ep, .int .i64 tp, .int .i64 pa, .int .i64 le, .int .i64 cl, .int .i64 se, .int .i64 co, .bool fl, .string ⟨nm.toArray⟩, .string ⟨ky.toArray⟩, .string ⟨va.toArray⟩, .string ⟨rk.toArray⟩, .slice a14 ids.length c14, .slice a15 isr.length c15, .slice a16 ad.length c16, .slice a17 dr.length c17] 35) = X at HQ HB ⊢
  obtain ⟨g0, g1, g2, g3, g4, g5, g6, g7, g8, g9, g10, g11, g12, g13, g14, g15, g16, g17⟩ := C18.of HQ.out
  rcases b0 with _ | _
  · have hR : T = ((⟨#[98, 114, 111, 107, 101, 114]⟩, br, 2) : ByteArray × Int × Int) := HT.out.trans (by first | rfl | simp [checkB, *])
    go_wp2_with (first | (go_at_call 47; refine (HS.out _).mono ?_; rintro e w1 ⟨rfl, hw1⟩; rw [hw1]; clear hw1 w1) | (go_at_call 62; refine (new_any _ _ _ _).mono ?_; rintro e w1 ⟨rfl, hw1⟩; rw [hw1]; clear hw1 w1) | (go_at_call 77; first | (with_reducible refine (HN0.out _).mono ?_; rintro e w1 ⟨rfl, hw1⟩; rw [hw1]; clear hw1 w1) | (with_reducible refine (HN1.out _).mono ?_; rintro e w1 ⟨rfl, hw1⟩; rw [hw1]; clear hw1 w1) | (with_reducible refine (HN3.out _).mono ?_; rintro e w1 ⟨rfl, hw1⟩; rw [hw1]; clear hw1 w1) | (with_reducible refine (HN4.out _).mono ?_; rintro e w1 ⟨rfl, hw1⟩; rw [hw1]; clear hw1 w1)))
    go_ret
    exact ⟨by rw [hR]; rfl, HB.out⟩
  go_upto_region 6 with (first | (go_at_call 47; refine (HS.out _).mono ?_; rintro e w1 ⟨rfl, hw1⟩; rw [hw1]; clear hw1 w1) | (go_at_call 62; refine (new_any _ _ _ _).mono ?_; rintro e w1 ⟨rfl, hw1⟩; rw [hw1]; clear hw1 w1) | (go_at_call 77; first | (with_reducible refine (HN0.out _).mono ?_; rintro e w1 ⟨rfl, hw1⟩; rw [hw1]; clear hw1 w1) | (with_reducible refine (HN1.out _).mono ?_; rintro e w1 ⟨rfl, hw1⟩; rw [hw1]; clear hw1 w1) | (with_reducible refine (HN3.out _).mono ?_; rintro e w1 ⟨rfl, hw1⟩; rw [hw1]; clear hw1 w1) | (with_reducible refine (HN4.out _).mono ?_; rintro e w1 ⟨rfl, hw1⟩; rw [hw1]; clear hw1 w1)))
  rcases b1 with _ | _
  · have hR : T = ((⟨#[101, 112, 111, 99, 104]⟩, ep, 2) : ByteArray × Int × Int) := HT.out.trans (by first | rfl | simp [checkB, *])
    go_wp2_with (first | (go_at_call 47; refine (HS.out _).mono ?_; rintro e w1 ⟨rfl, hw1⟩; rw [hw1]; clear hw1 w1) | (go_at_call 62; refine (new_any _ _ _ _).mono ?_; rintro e w1 ⟨rfl, hw1⟩; rw [hw1]; clear hw1 w1) | (go_at_call 77; first | (with_reducible refine (HN0.out _).mono ?_; rintro e w1 ⟨rfl, hw1⟩; rw [hw1]; clear hw1 w1) | (with_reducible refine (HN1.out _).mono ?_; rintro e w1 ⟨rfl, hw1⟩; rw [hw1]; clear hw1 w1) | (with_reducible refine (HN3.out _).mono ?_; rintro e w1 ⟨rfl, hw1⟩; rw [hw1]; clear hw1 w1) | (with_reducible refine (HN4.out _).mono ?_; rintro e w1 ⟨rfl, hw1⟩; rw [hw1]; clear hw1 w1)))
    go_ret
    exact ⟨by rw [hR]; rfl, HB.out⟩
  go_upto_region 8 with (first | (go_at_call 47; refine (HS.out _).mono ?_; rintro e w1 ⟨rfl, hw1⟩; rw [hw1]; clear hw1 w1) | (go_at_call 62; refine (new_any _ _ _ _).mono ?_; rintro e w1 ⟨rfl, hw1⟩; rw [hw1]; clear hw1 w1) | (go_at_call 77; first | (with_reducible refine (HN0.out _).mono ?_; rintro e w1 ⟨rfl, hw1⟩; rw [hw1]; clear hw1 w1) | (with_reducible refine (HN1.out _).mono ?_; rintro e w1 ⟨rfl, hw1⟩; rw [hw1]; clear hw1 w1) | (with_reducible refine (HN3.out _).mono ?_; rintro e w1 ⟨rfl, hw1⟩; rw [hw1]; clear hw1 w1) | (with_reducible refine (HN4.out _).mono ?_; rintro e w1 ⟨rfl, hw1⟩; rw [hw1]; clear hw1 w1)))
  rcases b2 with _ | _
  · have hR : T = ((⟨#[116, 111, 112, 105, 99]⟩, tp, 2) : ByteArray × Int × Int) := HT.out.trans (by rfl)
    go_quiet (first | (go_at_call 78; exact Calls.quiet_of_same (HL.out _)) | (go_at_call 77; exact Calls.quiet_of_same (HN2.out _)))
    replace HQ := hide (range_below HQ.out (below_drewN (Below.refl _ _) nq))
    replace HB := hide (below_drewN HB.out nq)
    clear g0 g1 g2 g3 g4 g5 g6 g7 g8 g9 g10 g11 g12 g13 g14 g15 g16 g17
    obtain ⟨X, hX⟩ : ∃ X', X' = X.drewN nq := ⟨_, rfl⟩
    rw [← hX] at HQ HB ⊢
    clear hX
    obtain ⟨g0, g1, g2, g3, g4, g5, g6, g7, g8, g9, g10, g11, g12, g13, g14, g15, g16, g17⟩ := C18.of HQ.out
    go_wp2_with (first | (go_at_call 47; refine (HS.out _).mono ?_; rintro e w1 ⟨rfl, hw1⟩; rw [hw1]; clear hw1 w1) | (go_at_call 62; refine (new_any _ _ _ _).mono ?_; rintro e w1 ⟨rfl, hw1⟩; rw [hw1]; clear hw1 w1) | (go_at_call 77; first | (with_reducible refine (HN0.out _).mono ?_; rintro e w1 ⟨rfl, hw1⟩; rw [hw1]; clear hw1 w1) | (with_reducible refine (HN1.out _).mono ?_; rintro e w1 ⟨rfl, hw1⟩; rw [hw1]; clear hw1 w1) | (with_reducible refine (HN3.out _).mono ?_; rintro e w1 ⟨rfl, hw1⟩; rw [hw1]; clear hw1 w1) | (with_reducible refine (HN4.out _).mono ?_; rintro e w1 ⟨rfl, hw1⟩; rw [hw1]; clear hw1 w1)))
    go_ret
    exact ⟨by rw [hR]; rfl, HB.out⟩
  go_quiet (first | (go_at_call 78; exact Calls.quiet_of_same (HL.out _)) | (go_at_call 77; exact Calls.quiet_of_same (HN2.out _)))
  replace HQ := hide (range_below HQ.out (below_drewN (Below.refl _ _) nq))
  replace HB := hide (below_drewN HB.out nq)
  clear g0 g1 g2 g3 g4 g5 g6 g7 g8 g9 g10 g11 g12 g13 g14 g15 g16 g17
  obtain ⟨X, hX⟩ : ∃ X', X' = X.drewN nq := ⟨_, rfl⟩
  rw [← hX] at HQ HB ⊢
  clear hX
  obtain ⟨g0, g1, g2, g3, g4, g5, g6, g7, g8, g9, g10, g11, g12, g13, g14, g15, g16, g17⟩ := C18.of HQ.out
  go_upto_region 10 with (first | (go_at_call 47; refine (HS.out _).mono ?_; rintro e w1 ⟨rfl, hw1⟩; rw [hw1]; clear hw1 w1) | (go_at_call 62; refine (new_any _ _ _ _).mono ?_; rintro e w1 ⟨rfl, hw1⟩; rw [hw1]; clear hw1 w1) | (go_at_call 77; first | (with_reducible refine (HN0.out _).mono ?_; rintro e w1 ⟨rfl, hw1⟩; rw [hw1]; clear hw1 w1) | (with_reducible refine (HN1.out _).mono ?_; rintro e w1 ⟨rfl, hw1⟩; rw [hw1]; clear hw1 w1) | (with_reducible refine (HN3.out _).mono ?_; rintro e w1 ⟨rfl, hw1⟩; rw [hw1]; clear hw1 w1) | (with_reducible refine (HN4.out _).mono ?_; rintro e w1 ⟨rfl, hw1⟩; rw [hw1]; clear hw1 w1)))
  rcases b3 with _ | _
  · have hR : T = ((⟨#[112, 97, 114, 116]⟩, pa, 2) : ByteArray × Int × Int) := HT.out.trans (by first | rfl | simp [checkB, *])
    go_wp2_with (first | (go_at_call 47; refine (HS.out _).mono ?_; rintro e w1 ⟨rfl, hw1⟩; rw [hw1]; clear hw1 w1) | (go_at_call 62; refine (new_any _ _ _ _).mono ?_; rintro e w1 ⟨rfl, hw1⟩; rw [hw1]; clear hw1 w1) | (go_at_call 77; first | (with_reducible refine (HN0.out _).mono ?_; rintro e w1 ⟨rfl, hw1⟩; rw [hw1]; clear hw1 w1) | (with_reducible refine (HN1.out _).mono ?_; rintro e w1 ⟨rfl, hw1⟩; rw [hw1]; clear hw1 w1) | (with_reducible refine (HN3.out _).mono ?_; rintro e w1 ⟨rfl, hw1⟩; rw [hw1]; clear hw1 w1) | (with_reducible refine (HN4.out _).mono ?_; rintro e w1 ⟨rfl, hw1⟩; rw [hw1]; clear hw1 w1)))
    go_ret
    exact ⟨by rw [hR]; rfl, HB.out⟩
  go_upto_region 12 with (first | (go_at_call 47; refine (HS.out _).mono ?_; rintro e w1 ⟨rfl, hw1⟩; rw [hw1]; clear hw1 w1) | (go_at_call 62; refine (new_any _ _ _ _).mono ?_; rintro e w1 ⟨rfl, hw1⟩; rw [hw1]; clear hw1 w1) | (go_at_call 77; first | (with_reducible refine (HN0.out _).mono ?_; rintro e w1 ⟨rfl, hw1⟩; rw [hw1]; clear hw1 w1) | (with_reducible refine (HN1.out _).mono ?_; rintro e w1 ⟨rfl, hw1⟩; rw [hw1]; clear hw1 w1) | (with_reducible refine (HN3.out _).mono ?_; rintro e w1 ⟨rfl, hw1⟩; rw [hw1]; clear hw1 w1) | (with_reducible refine (HN4.out _).mono ?_; rintro e w1 ⟨rfl, hw1⟩; rw [hw1]; clear hw1 w1)))
  rcases b4 with _ | _
  · have hR : T = ((⟨#[108, 101, 97, 100, 101, 114]⟩, le, 2) : ByteArray × Int × Int) := HT.out.trans (by first | rfl | simp [checkB, *])
    go_wp2_with (first | (go_at_call 47; refine (HS.out _).mono ?_; rintro e w1 ⟨rfl, hw1⟩; rw [hw1]; clear hw1 w1) | (go_at_call 62; refine (new_any _ _ _ _).mono ?_; rintro e w1 ⟨rfl, hw1⟩; rw [hw1]; clear hw1 w1) | (go_at_call 77; first | (with_reducible refine (HN0.out _).mono ?_; rintro e w1 ⟨rfl, hw1⟩; rw [hw1]; clear hw1 w1) | (with_reducible refine (HN1.out _).mono ?_; rintro e w1 ⟨rfl, hw1⟩; rw [hw1]; clear hw1 w1) | (with_reducible refine (HN3.out _).mono ?_; rintro e w1 ⟨rfl, hw1⟩; rw [hw1]; clear hw1 w1) | (with_reducible refine (HN4.out _).mono ?_; rintro e w1 ⟨rfl, hw1⟩; rw [hw1]; clear hw1 w1)))
    go_ret
    exact ⟨by rw [hR]; rfl, HB.out⟩
  go_upto_region 14 with (first | (go_at_call 47; refine (HS.out _).mono ?_; rintro e w1 ⟨rfl, hw1⟩; rw [hw1]; clear hw1 w1) | (go_at_call 62; refine (new_any _ _ _ _).mono ?_; rintro e w1 ⟨rfl, hw1⟩; rw [hw1]; clear hw1 w1) | (go_at_call 77; first | (with_reducible refine (HN0.out _).mono ?_; rintro e w1 ⟨rfl, hw1⟩; rw [hw1]; clear hw1 w1) | (with_reducible refine (HN1.out _).mono ?_; rintro e w1 ⟨rfl, hw1⟩; rw [hw1]; clear hw1 w1) | (with_reducible refine (HN3.out _).mono ?_; rintro e w1 ⟨rfl, hw1⟩; rw [hw1]; clear hw1 w1) | (with_reducible refine (HN4.out _).mono ?_; rintro e w1 ⟨rfl, hw1⟩; rw [hw1]; clear hw1 w1)))
  have hA : (b5 && b6 && b7) = false ∨ (b5 = true ∧ b6 = true ∧ b7 = true) := by cases b5 <;> cases b6 <;> cases b7 <;> simp
  rcases hA with hA | ⟨rfl, rfl, rfl⟩
  · have hR : T = ((⟨#[97, 115, 107, 101, 114]⟩, cl, 2) : ByteArray × Int × Int) := HT.out.trans (by cases b5 <;> cases b6 <;> cases b7 <;> first | rfl | simp at hA)
    rw [hA] at HA
    clear hA
    go_upto_region 15 with (first | (refine wpList_load_mid rfl _ _ rfl _ _ rfl _ _ HQ.out Tryz.underlying35 rfl (by kernel_rfl) ?_) | (go_at_call 79; refine (HA.out _ _ _ _ _ _ _ _ _ _ _ _ _ _ _ _).mono ?_; rintro e Y ⟨rfl, hY⟩))
    replace HQ := hide (range_below HQ.out hY)
    replace HB := hide (HB.out.trans (hY.mono HB.out.size))
    clear g0 g1 g2 g3 g4 g5 g6 g7 g8 g9 g10 g11 g12 g13 g14 g15 g16 g17 hY
    obtain ⟨g0, g1, g2, g3, g4, g5, g6, g7, g8, g9, g10, g11, g12, g13, g14, g15, g16, g17⟩ := C18.of HQ.out
    go_wp2_with (first | (go_at_call 47; refine (HS.out _).mono ?_; rintro e w1 ⟨rfl, hw1⟩; rw [hw1]; clear hw1 w1) | (go_at_call 62; refine (new_any _ _ _ _).mono ?_; rintro e w1 ⟨rfl, hw1⟩; rw [hw1]; clear hw1 w1) | (go_at_call 77; first | (with_reducible refine (HN0.out _).mono ?_; rintro e w1 ⟨rfl, hw1⟩; rw [hw1]; clear hw1 w1) | (with_reducible refine (HN1.out _).mono ?_; rintro e w1 ⟨rfl, hw1⟩; rw [hw1]; clear hw1 w1) | (with_reducible refine (HN3.out _).mono ?_; rintro e w1 ⟨rfl, hw1⟩; rw [hw1]; clear hw1 w1) | (with_reducible refine (HN4.out _).mono ?_; rintro e w1 ⟨rfl, hw1⟩; rw [hw1]; clear hw1 w1)))
    go_ret
    exact ⟨by rw [hR]; rfl, HB.out⟩
  simp only [Bool.and_true] at HA
  go_upto_region 16 with (first | (refine wpList_load_mid rfl _ _ rfl _ _ rfl _ _ HQ.out Tryz.underlying35 rfl (by kernel_rfl) ?_) | (go_at_call 79; refine (HA.out _ _ _ _ _ _ _ _ _ _ _ _ _ _ _ _).mono ?_; rintro e Y ⟨rfl, hY⟩))
  replace HQ := hide (range_below HQ.out hY)
  replace HB := hide (HB.out.trans (hY.mono HB.out.size))
  clear g0 g1 g2 g3 g4 g5 g6 g7 g8 g9 g10 g11 g12 g13 g14 g15 g16 g17 hY
  clear X
  obtain ⟨X, hX⟩ : ∃ X', X' = Y := ⟨_, rfl⟩
  rw [← hX] at HQ HB ⊢
  clear hX Y
  obtain ⟨g0, g1, g2, g3, g4, g5, g6, g7, g8, g9, g10, g11, g12, g13, g14, g15, g16, g17⟩ := C18.of HQ.out
  have hFF : (fl = true ∧ hf = false) ∨ (fl = false) ∨ (fl = true ∧ hf = true) := by cases fl <;> cases hf <;> simp
  rcases hFF with ⟨rfl, rfl⟩ | hFF
  · have hR : T = ((⟨#[102, 108, 97, 103]⟩, 1, 1) : ByteArray × Int × Int) := HT.out.trans (by first | rfl | simp [checkB, *])
    go_wp2_with (first | (go_at_call 71; refine (HF.out _).mono ?_; rintro e w1 ⟨rfl, hw1⟩; rw [hw1]; clear hw1 w1) | (go_at_call 62; refine (new_any _ _ _ _).mono ?_; rintro e w1 ⟨rfl, hw1⟩; rw [hw1]; clear hw1 w1))
    go_ret
    exact ⟨by rw [hR]; rfl, HB.out⟩
  have HFF : Hid ((fl && !hf) = false) := hide (by rcases hFF with rfl | ⟨rfl, rfl⟩ <;> simp)
  replace HT := hide (HT.out.trans (by rw [HFF.out]))
  rcases hFF with rfl | ⟨rfl, rfl⟩
  all_goals
    go_upto_region 18 with (first | (go_at_call 71; refine (HF.out _).mono ?_; rintro e w1 ⟨rfl, hw1⟩; rw [hw1]; clear hw1 w1) | (go_at_call 62; refine (new_any _ _ _ _).mono ?_; rintro e w1 ⟨rfl, hw1⟩; rw [hw1]; clear hw1 w1))
    rcases n0 with _ | _
    · have hR : T = ((⟨#[110, 97, 109, 101]⟩, nm.length, 1) : ByteArray × Int × Int) := HT.out.trans (by first | rfl | simp [checkB, *])
      go_wp2_with (first | (go_at_call 80; first | (with_reducible refine (HM0.out _).mono ?_; rintro e Y ⟨rfl, hY⟩; replace HQ := hide (range_below HQ.out hY); replace HB := hide (HB.out.trans (hY.mono HB.out.size)); clear g0 g1 g2 g3 g4 g5 g6 g7 g8 g9 g10 g11 g12 g13 g14 g15 g16 g17 hY; obtain ⟨g0, g1, g2, g3, g4, g5, g6, g7, g8, g9, g10, g11, g12, g13, g14, g15, g16, g17⟩ := C18.of HQ.out) | (with_reducible refine (HM1.out _).mono ?_; rintro e Y ⟨rfl, hY⟩; replace HQ := hide (range_below HQ.out hY); replace HB := hide (HB.out.trans (hY.mono HB.out.size)); clear g0 g1 g2 g3 g4 g5 g6 g7 g8 g9 g10 g11 g12 g13 g14 g15 g16 g17 hY; obtain ⟨g0, g1, g2, g3, g4, g5, g6, g7, g8, g9, g10, g11, g12, g13, g14, g15, g16, g17⟩ := C18.of HQ.out) | (with_reducible refine (HM2.out _).mono ?_; rintro e Y ⟨rfl, hY⟩; replace HQ := hide (range_below HQ.out hY); replace HB := hide (HB.out.trans (hY.mono HB.out.size)); clear g0 g1 g2 g3 g4 g5 g6 g7 g8 g9 g10 g11 g12 g13 g14 g15 g16 g17 hY; obtain ⟨g0, g1, g2, g3, g4, g5, g6, g7, g8, g9, g10, g11, g12, g13, g14, g15, g16, g17⟩ := C18.of HQ.out)) | (go_at_call 62; refine (new_any _ _ _ _).mono ?_; rintro e w1 ⟨rfl, hw1⟩; rw [hw1]; clear hw1 w1))
      go_ret
      exact ⟨by rw [hR]; rfl, HB.out⟩
    rcases n1 with _ | _
    · have hR : T = ((⟨#[110, 97, 109, 101]⟩, nm.length, 1) : ByteArray × Int × Int) := HT.out.trans (by first | rfl | simp [checkB, *])
      go_wp2_with (first | (go_at_call 80; first | (with_reducible refine (HM0.out _).mono ?_; rintro e Y ⟨rfl, hY⟩; replace HQ := hide (range_below HQ.out hY); replace HB := hide (HB.out.trans (hY.mono HB.out.size)); clear g0 g1 g2 g3 g4 g5 g6 g7 g8 g9 g10 g11 g12 g13 g14 g15 g16 g17 hY; obtain ⟨g0, g1, g2, g3, g4, g5, g6, g7, g8, g9, g10, g11, g12, g13, g14, g15, g16, g17⟩ := C18.of HQ.out) | (with_reducible refine (HM1.out _).mono ?_; rintro e Y ⟨rfl, hY⟩; replace HQ := hide (range_below HQ.out hY); replace HB := hide (HB.out.trans (hY.mono HB.out.size)); clear g0 g1 g2 g3 g4 g5 g6 g7 g8 g9 g10 g11 g12 g13 g14 g15 g16 g17 hY; obtain ⟨g0, g1, g2, g3, g4, g5, g6, g7, g8, g9, g10, g11, g12, g13, g14, g15, g16, g17⟩ := C18.of HQ.out) | (with_reducible refine (HM2.out _).mono ?_; rintro e Y ⟨rfl, hY⟩; replace HQ := hide (range_below HQ.out hY); replace HB := hide (HB.out.trans (hY.mono HB.out.size)); clear g0 g1 g2 g3 g4 g5 g6 g7 g8 g9 g10 g11 g12 g13 g14 g15 g16 g17 hY; obtain ⟨g0, g1, g2, g3, g4, g5, g6, g7, g8, g9, g10, g11, g12, g13, g14, g15, g16, g17⟩ := C18.of HQ.out)) | (go_at_call 62; refine (new_any _ _ _ _).mono ?_; rintro e w1 ⟨rfl, hw1⟩; rw [hw1]; clear hw1 w1))
      go_ret
      exact ⟨by rw [hR]; rfl, HB.out⟩
    rcases n2 with _ | _
    · have hR : T = ((⟨#[110, 97, 109, 101]⟩, nm.length, 1) : ByteArray × Int × Int) := HT.out.trans (by first | rfl | simp [checkB, *])
      go_wp2_with (first | (go_at_call 80; first | (with_reducible refine (HM0.out _).mono ?_; rintro e Y ⟨rfl, hY⟩; replace HQ := hide (range_below HQ.out hY); replace HB := hide (HB.out.trans (hY.mono HB.out.size)); clear g0 g1 g2 g3 g4 g5 g6 g7 g8 g9 g10 g11 g12 g13 g14 g15 g16 g17 hY; obtain ⟨g0, g1, g2, g3, g4, g5, g6, g7, g8, g9, g10, g11, g12, g13, g14, g15, g16, g17⟩ := C18.of HQ.out) | (with_reducible refine (HM1.out _).mono ?_; rintro e Y ⟨rfl, hY⟩; replace HQ := hide (range_below HQ.out hY); replace HB := hide (HB.out.trans (hY.mono HB.out.size)); clear g0 g1 g2 g3 g4 g5 g6 g7 g8 g9 g10 g11 g12 g13 g14 g15 g16 g17 hY; obtain ⟨g0, g1, g2, g3, g4, g5, g6, g7, g8, g9, g10, g11, g12, g13, g14, g15, g16, g17⟩ := C18.of HQ.out) | (with_reducible refine (HM2.out _).mono ?_; rintro e Y ⟨rfl, hY⟩; replace HQ := hide (range_below HQ.out hY); replace HB := hide (HB.out.trans (hY.mono HB.out.size)); clear g0 g1 g2 g3 g4 g5 g6 g7 g8 g9 g10 g11 g12 g13 g14 g15 g16 g17 hY; obtain ⟨g0, g1, g2, g3, g4, g5, g6, g7, g8, g9, g10, g11, g12, g13, g14, g15, g16, g17⟩ := C18.of HQ.out)) | (go_at_call 62; refine (new_any _ _ _ _).mono ?_; rintro e w1 ⟨rfl, hw1⟩; rw [hw1]; clear hw1 w1))
      go_ret
      exact ⟨by rw [hR]; rfl, HB.out⟩
    go_upto_region 20 with (first | (go_at_call 80; first | (with_reducible refine (HM0.out _).mono ?_; rintro e Y ⟨rfl, hY⟩; replace HQ := hide (range_below HQ.out hY); replace HB := hide (HB.out.trans (hY.mono HB.out.size)); clear g0 g1 g2 g3 g4 g5 g6 g7 g8 g9 g10 g11 g12 g13 g14 g15 g16 g17 hY; obtain ⟨g0, g1, g2, g3, g4, g5, g6, g7, g8, g9, g10, g11, g12, g13, g14, g15, g16, g17⟩ := C18.of HQ.out) | (with_reducible refine (HM1.out _).mono ?_; rintro e Y ⟨rfl, hY⟩; replace HQ := hide (range_below HQ.out hY); replace HB := hide (HB.out.trans (hY.mono HB.out.size)); clear g0 g1 g2 g3 g4 g5 g6 g7 g8 g9 g10 g11 g12 g13 g14 g15 g16 g17 hY; obtain ⟨g0, g1, g2, g3, g4, g5, g6, g7, g8, g9, g10, g11, g12, g13, g14, g15, g16, g17⟩ := C18.of HQ.out) | (with_reducible refine (HM2.out _).mono ?_; rintro e Y ⟨rfl, hY⟩; replace HQ := hide (range_below HQ.out hY); replace HB := hide (HB.out.trans (hY.mono HB.out.size)); clear g0 g1 g2 g3 g4 g5 g6 g7 g8 g9 g10 g11 g12 g13 g14 g15 g16 g17 hY; obtain ⟨g0, g1, g2, g3, g4, g5, g6, g7, g8, g9, g10, g11, g12, g13, g14, g15, g16, g17⟩ := C18.of HQ.out)) | (go_at_call 62; refine (new_any _ _ _ _).mono ?_; rintro e w1 ⟨rfl, hw1⟩; rw [hw1]; clear hw1 w1))
    by_cases hvv : mv < (va.length : Int)
    · have hR : T = ((⟨#[118, 97, 108, 117, 101]⟩, va.length, 6) : ByteArray × Int × Int) := HT.out.trans (by rw [decide_eq_true hvv]; rfl)
      go_quiet (first | (go_at_call 81; exact Calls.quiet_of_same (HV.out _)))
      replace HQ := hide (range_below HQ.out (below_drewN (Below.refl _ _) nq))
      replace HB := hide (below_drewN HB.out nq)
      clear g0 g1 g2 g3 g4 g5 g6 g7 g8 g9 g10 g11 g12 g13 g14 g15 g16 g17
      obtain ⟨g0, g1, g2, g3, g4, g5, g6, g7, g8, g9, g10, g11, g12, g13, g14, g15, g16, g17⟩ := C18.of HQ.out
      go_wp2_with (first | (go_at_call 62; refine (new_any _ _ _ _).mono ?_; rintro e w1 ⟨rfl, hw1⟩; rw [hw1]; clear hw1 w1))
      go_ret
      exact ⟨by rw [hR]; rfl, HB.out⟩
    replace HT := hide (HT.out.trans (by rw [decide_eq_false hvv]))
    go_quiet (first | (go_at_call 81; exact Calls.quiet_of_same (HV.out _)))
    replace HQ := hide (range_below HQ.out (below_drewN (Below.refl _ _) nq))
    replace HB := hide (below_drewN HB.out nq)
    clear g0 g1 g2 g3 g4 g5 g6 g7 g8 g9 g10 g11 g12 g13 g14 g15 g16 g17
    obtain ⟨g0, g1, g2, g3, g4, g5, g6, g7, g8, g9, g10, g11, g12, g13, g14, g15, g16, g17⟩ := C18.of HQ.out
    go_upto_region 22 with (first | (go_at_call 62; refine (new_any _ _ _ _).mono ?_; rintro e w1 ⟨rfl, hw1⟩; rw [hw1]; clear hw1 w1))
    rcases r0 with _ | _
    · have hR : T = ((⟨#[114, 111, 119]⟩, ids.length, 18) : ByteArray × Int × Int) := HT.out.trans (by first | rfl | simp [checkB, *])
      go_wp2_with (first | (go_at_call 82; first | (with_reducible refine (HR0.out _ HB.out).mono ?_; rintro e w1 ⟨rfl, hw1⟩; rw [hw1]; clear hw1 w1) | (with_reducible refine (HR1.out _ HB.out).mono ?_; rintro e w1 ⟨rfl, hw1⟩; rw [hw1]; clear hw1 w1) | (with_reducible refine (HR2.out _ HB.out).mono ?_; rintro e w1 ⟨rfl, hw1⟩; rw [hw1]; clear hw1 w1) | (with_reducible refine (HR3.out _ HB.out).mono ?_; rintro e w1 ⟨rfl, hw1⟩; rw [hw1]; clear hw1 w1)) | (go_at_call 62; refine (new_any _ _ _ _).mono ?_; rintro e w1 ⟨rfl, hw1⟩; rw [hw1]; clear hw1 w1))
      go_ret
      exact ⟨by rw [hR]; rfl, HB.out⟩
    rcases r1 with _ | _
    · have hR : T = ((⟨#[114, 111, 119]⟩, ids.length, 18) : ByteArray × Int × Int) := HT.out.trans (by first | rfl | simp [checkB, *])
      go_wp2_with (first | (go_at_call 82; first | (with_reducible refine (HR0.out _ HB.out).mono ?_; rintro e w1 ⟨rfl, hw1⟩; rw [hw1]; clear hw1 w1) | (with_reducible refine (HR1.out _ HB.out).mono ?_; rintro e w1 ⟨rfl, hw1⟩; rw [hw1]; clear hw1 w1) | (with_reducible refine (HR2.out _ HB.out).mono ?_; rintro e w1 ⟨rfl, hw1⟩; rw [hw1]; clear hw1 w1) | (with_reducible refine (HR3.out _ HB.out).mono ?_; rintro e w1 ⟨rfl, hw1⟩; rw [hw1]; clear hw1 w1)) | (go_at_call 62; refine (new_any _ _ _ _).mono ?_; rintro e w1 ⟨rfl, hw1⟩; rw [hw1]; clear hw1 w1))
      go_ret
      exact ⟨by rw [hR]; rfl, HB.out⟩
    rcases r2 with _ | _
    · have hR : T = ((⟨#[114, 111, 119]⟩, ids.length, 18) : ByteArray × Int × Int) := HT.out.trans (by first | rfl | simp [checkB, *])
      go_wp2_with (first | (go_at_call 82; first | (with_reducible refine (HR0.out _ HB.out).mono ?_; rintro e w1 ⟨rfl, hw1⟩; rw [hw1]; clear hw1 w1) | (with_reducible refine (HR1.out _ HB.out).mono ?_; rintro e w1 ⟨rfl, hw1⟩; rw [hw1]; clear hw1 w1) | (with_reducible refine (HR2.out _ HB.out).mono ?_; rintro e w1 ⟨rfl, hw1⟩; rw [hw1]; clear hw1 w1) | (with_reducible refine (HR3.out _ HB.out).mono ?_; rintro e w1 ⟨rfl, hw1⟩; rw [hw1]; clear hw1 w1)) | (go_at_call 62; refine (new_any _ _ _ _).mono ?_; rintro e w1 ⟨rfl, hw1⟩; rw [hw1]; clear hw1 w1))
      go_ret
      exact ⟨by rw [hR]; rfl, HB.out⟩
    rcases r3 with _ | _
    · have hR : T = ((⟨#[114, 111, 119]⟩, ids.length, 18) : ByteArray × Int × Int) := HT.out.trans (by first | rfl | simp [checkB, *])
      go_wp2_with (first | (go_at_call 82; first | (with_reducible refine (HR0.out _ HB.out).mono ?_; rintro e w1 ⟨rfl, hw1⟩; rw [hw1]; clear hw1 w1) | (with_reducible refine (HR1.out _ HB.out).mono ?_; rintro e w1 ⟨rfl, hw1⟩; rw [hw1]; clear hw1 w1) | (with_reducible refine (HR2.out _ HB.out).mono ?_; rintro e w1 ⟨rfl, hw1⟩; rw [hw1]; clear hw1 w1) | (with_reducible refine (HR3.out _ HB.out).mono ?_; rintro e w1 ⟨rfl, hw1⟩; rw [hw1]; clear hw1 w1)) | (go_at_call 62; refine (new_any _ _ _ _).mono ?_; rintro e w1 ⟨rfl, hw1⟩; rw [hw1]; clear hw1 w1))
      go_ret
      exact ⟨by rw [hR]; rfl, HB.out⟩
    have hR : T = ((⟨#[]⟩, 0, 0) : ByteArray × Int × Int) := HT.out.trans (by rfl)
    go_wp2_with (first | (go_at_call 82; first | (with_reducible refine (HR0.out _ HB.out).mono ?_; rintro e w1 ⟨rfl, hw1⟩; rw [hw1]; clear hw1 w1) | (with_reducible refine (HR1.out _ HB.out).mono ?_; rintro e w1 ⟨rfl, hw1⟩; rw [hw1]; clear hw1 w1) | (with_reducible refine (HR2.out _ HB.out).mono ?_; rintro e w1 ⟨rfl, hw1⟩; rw [hw1]; clear hw1 w1) | (with_reducible refine (HR3.out _ HB.out).mono ?_; rintro e w1 ⟨rfl, hw1⟩; rw [hw1]; clear hw1 w1)) | (go_at_call 62; refine (new_any _ _ _ _).mono ?_; rintro e w1 ⟨rfl, hw1⟩; rw [hw1]; clear hw1 w1))
    go_ret
    exact ⟨by rw [hR]; rfl, HB.out⟩
set_option maxRecDepth 100000 in
set_option maxHeartbeats 4000000 in
theorem ccheck_kind (k br ep tp pa le cl se co : Int) (fl : Bool) (nm ky va rk : List UInt8) (x14 x15 x16 x17 : Value) (w : World) (hk : ¬ (1 ≤ k ∧ k ≤ 12)) :
    Calls Tryz.prog 40 #[.agg #[.int .i64 k, .int .i64 br, .int .i64 ep, .int .i64 tp, .int .i64 pa, .int .i64 le, .int .i64 cl, .int .i64 se, .int .i64 co, .bool fl, .string ⟨nm.toArray⟩, .string ⟨ky.toArray⟩, .string ⟨va.toArray⟩, .string ⟨rk.toArray⟩, x14, x15, x16, x17]] w fun e w' => e = .returned (ft ⟨#[107, 105, 110, 100]⟩ k 5) ∧ Below w.heap.size w w' := by
  have HS := hide (fun W => subj_any k W)
  rw [show knd k = false from decide_eq_false hk] at HS
  clear hk
  go_enter Tryz.func40, Tryz.ntmps40
  go_wp2_with (first | (go_at_call 47; refine (HS.out _).mono ?_; rintro e w1 ⟨rfl, hw1⟩; rw [hw1]; clear hw1 w1) | (go_at_call 62; refine (new_any _ _ _ _).mono ?_; rintro e w1 ⟨rfl, hw1⟩; rw [hw1]; clear hw1 w1))
  go_ret
  exact ⟨rfl, (Below.refl _ _).alloc (Nat.le_refl _) _⟩
/-- What is wrong with a record first, by the program. -/
theorem ccheck_any {ok : Nat → Prop} (r : Rc) (v : Value) (w : World) (hv : IsR ok w v r) (ht : TxR r) : Calls Tryz.prog 40 #[v] w fun e w' => e = .returned (erN (chk r).1 (chk r).2.1 (chk r).2.2) ∧ Below w.heap.size w w' := by
  obtain ⟨a14, a15, a16, a17, c14, c15, c16, c17, rfl, h⟩ := hv
  by_cases hk : 1 ≤ r.k ∧ r.k ≤ 12
  · exact ccheck_ok r.k r.br r.ep r.tp r.pa r.le r.cl r.se r.co r.fl r.nm r.ky r.va r.rk a14 a15 a16 a17 c14 c15 c16 c17 r.ids r.isr r.ad r.dr w hk ht.nm ht.ky ht.va ht.rk h.h14.sl h.h15.sl h.h16.sl h.h17.sl (chk r) (chk_eq hk)
  · rw [chk_kind hk]
    exact ccheck_kind r.k r.br r.ep r.tp r.pa r.le r.cl r.se r.co r.fl r.nm r.ky r.va r.rk _ _ _ _ w hk
end Go.Proofs.YtgbcjmpnkejpeaaGreatDoor
namespace Go.Proofs.YtgbcjmpnkejpeaaGreatDoor
open Go.RowKit

/-- The slice v is nil, or the head of a row of its own, with the bytes l. -/
def Ow (B : Nat) (W : World) (v : Value) (l : List Int) : Prop := ∃ cur, Rw B W v l.length cur ∧ cur.take l.length = bv l
theorem Ow.below {B : Nat} {W W' : World} {v : Value} {l : List Int} (h : Ow B W v l) (hb : Below W.heap.size W W') : Ow B W' v l := by
  obtain ⟨cur, h1, h2⟩ := h
  exact ⟨cur, h1.below hb, h2⟩
theorem Ow.put {B : Nat} {W W' : World} {v v' : Value} {l news : List Int} {cur cur' : List Value} {m : Nat} (h2 : cur.take l.length = bv l) (hp : Put B W v l.length cur W' v' m cur' (bv news)) : Ow B W' v' (l ++ news) := by
  have hm : m = news.length := by rw [← hp.len]; simp [bv]
  subst hm
  refine ⟨cur', ?_, ?_⟩
  · rw [List.length_append]; exact hp.rw
  · rw [List.length_append, hp.tk, h2]; simp [bv]
theorem Ow.owns {B : Nat} {W' : World} {v' : Value} {l news : List Int} {cur : List Value} {n : Nat} (hn : n = l.length + news.length) (h2 : cur.take l.length = bv l) (hp : W'.ownsRow B 5 1 v' n (cur.take l.length ++ bv news)) : Ow B W' v' (l ++ news) := by
  subst hn
  obtain ⟨cur', h1, h3⟩ := Rw.of hp
  exact ⟨cur', by rw [List.length_append]; exact h1, by rw [List.length_append, h3, h2]; simp [bv]⟩
theorem Ow.sl {B : Nat} {W : World} {v : Value} {l : List Int} (h : Ow B W v l) : Sl bc W v l := by
  obtain ⟨cur, h1, h2⟩ := h
  have := h1.owns
  rw [h2] at this
  exact sl_of_owns (base := B) (e := 5) (by simpa [bv_eq] using this)
theorem ow_nil (B : Nat) (W : World) : Ow B W (.slice none 0 0) [] := ⟨[], rw_nil B W, rfl⟩
/-- What has turned: the row, and new memory. -/
structure Gw (B : Nat) (w W : World) (u v : Value) : Prop where
  below : Below B w W
  grown : w.grownBy W u.ownBlock
  blk : v.ownBlock = u.ownBlock ∨ ∀ g, v.ownBlock = some g → w.heap.size ≤ g
theorem Gw.refl (B : Nat) (w : World) (u : Value) : Gw B w w u u := ⟨Below.refl _ _, ⟨rfl, rfl, rfl, Nat.le_refl _, fun _ _ _ => rfl⟩, .inl rfl⟩
theorem Gw.trans {B : Nat} {w w1 w2 : World} {u v v2 : Value} (h : Gw B w w1 u v) (k : Gw B w1 w2 v v2) : Gw B w w2 u v2 := by
  refine ⟨h.below.trans k.below, ⟨k.grown.os.trans h.grown.os, k.grown.tape.trans h.grown.tape, k.grown.output.trans h.grown.output, Nat.le_trans h.grown.size k.grown.size, fun i hi hp => ?_⟩, ?_⟩
  · refine (k.grown.block i (Nat.lt_of_lt_of_le hi h.grown.size) ?_).trans (h.grown.block i hi hp)
    rcases h.blk with q | q
    · rw [q]; exact hp
    · intro e
      have := q i e.symm
      omega
  · rcases k.blk with q | q
    · rw [q]; exact h.blk
    · exact .inr fun g hg => Nat.le_trans h.grown.size (q g hg)
theorem Gw.of {B : Nat} {w W : World} (u : Value) (h : Below w.heap.size w W) (hB : B ≤ w.heap.size) : Gw B w W u u :=
  ⟨h.mono hB, ⟨h.os, h.tape, h.output, h.size, fun k hk _ => h.block k hk⟩, .inl rfl⟩
theorem Gw.put {B : Nat} {W W' : World} {v v' : Value} {n m : Nat} {cur cur' news : List Value} (hp : Put B W v n cur W' v' m cur' news) : Gw B W W' v v' := ⟨hp.below, hp.grown, hp.blk⟩
theorem Gw.cell {B : Nat} {w W : World} {u v : Value} (h : Gw B w W u v) {b : Nat} (hb : b < w.heap.size) (hn : u.ownBlock ≠ some b) (i : Nat) : W.cell? ⟨b, i, none⟩ = w.cell? ⟨b, i, none⟩ :=
  World.cell?_of_block (h.grown.block b hb (fun e => hn e.symm))
theorem Gw.range {B : Nat} {w W : World} {u v : Value} {p : Nat} {x : Value} {xs : List Value} (h : Gw B w W u v) (hr : w.rangeAt p 0 (x :: xs)) (hn : u.ownBlock ≠ some p) : W.rangeAt p 0 (x :: xs) := fun j y hy =>
  (h.cell (cell_block (hr 0 _ rfl) : p < w.heap.size) hn (0 + j)).trans (hr j y hy)
theorem encs_take {α : Type} (en : α → List Int) (hs : List Bool) (xs : List α) (j : Nat) (hj : j < hs.length) (hl : hs.length = xs.length) : encs en (hs.take (j + 1)) (xs.take (j + 1)) = encs en (hs.take j) (xs.take j) ++ (if hs[j] then en (xs[j]'(by omega)) else []) := by
  rw [List.take_succ_eq_append_getElem hj, List.take_succ_eq_append_getElem (show j < xs.length by omega)]
  exact encs_snoc en _ _ _ _ (by simp [hl])
end Go.Proofs.YtgbcjmpnkejpeaaGreatDoor
