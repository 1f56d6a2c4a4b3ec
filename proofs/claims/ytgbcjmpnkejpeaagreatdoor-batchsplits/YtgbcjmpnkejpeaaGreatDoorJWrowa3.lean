/-
  A READER's NEXT TEXT AND ROW, as functions of the bytes, the place and the limits (wire.Reader.Text, Row). Conditions: the bytes' cells hold them, each is a byte, no more than a hundred thousand, they don't lie in the reader, and the reader is within them.
  WHAT IS WRITTEN IS READ AS WHAT IT WAS, on lists alone (no program in sight): numbers, texts, rows. Conditions: bytes are bytes, numbers are in their bounds.
  BROKERS (slices.Index, slices.Contains, record.Brokers, named, listed): as functions of lists. Conditions: no more than a thousand letters; the brokers' cells hold them.
-/
import Derived.Test.YtgbcjmpnkejpeaaGreatDoorJFramea3
import Derived.Test.YtgbcjmpnkejpeaaGreatDoorJRefPuta2
namespace Go.Proofs.YtgbcjmpnkejpeaaGreatDoor
open Go.RowKit

/-- The slice v holds the list l, and not in block p. -/
def Slx {α : Type} (p : Nat) (f : α → Value) (W : World) (v : Value) (l : List α) : Prop :=
  (∃ ao cap, l = [] ∧ v = .slice ao 0 cap) ∨
  (∃ b o cap, v = .slice (some ⟨b, o, none⟩) l.length cap ∧ l.length ≤ cap ∧ b ≠ p ∧ ∀ i (h : i < l.length), W.cell? ⟨b, o + i, none⟩ = some (f l[i]))
theorem Slx.sl {α : Type} {p : Nat} {f : α → Value} {W : World} {v : Value} {l : List α} (h : Slx p f W v l) : Sl f W v l := by
  rcases h with h | ⟨b, o, cap, h1, h2, _, h3⟩
  · exact .inl h
  · exact .inr ⟨b, o, cap, h1, h2, h3⟩
theorem Slx.bx {α : Type} {p : Nat} {f : α → Value} {W W' : World} {v : Value} {l : List α} (h : Slx p f W v l) (hb : Bx p W W') : Slx p f W' v l := by
  rcases h with h | ⟨b, o, cap, h1, h2, hp, h3⟩
  · exact .inl h
  · exact .inr ⟨b, o, cap, h1, h2, hp, fun i hi => (hb.cell (cell_block (h3 i hi)) hp).trans (h3 i hi)⟩
theorem Slx.below {α : Type} {p : Nat} {f : α → Value} {W W' : World} {v : Value} {l : List α} (h : Slx p f W v l) (hb : Below W.heap.size W W') : Slx p f W' v l := h.bx (Bx.of hb)
theorem Sl.out {α : Type} {p : Nat} {f : α → Value} {W : World} {v : Value} {l : List α} (h : Sl f W v l) (hp : W.heap.size ≤ p) : Slx p f W v l := by
  rcases h with h | ⟨b, o, cap, h1, h2, h3⟩
  · exact .inl h
  · rcases l with _ | ⟨x, l⟩
    · exact .inl ⟨_, _, rfl, h1⟩
    · have := cell_block (h3 0 (by simp))
      exact .inr ⟨b, o, cap, h1, h2, by simp at this; omega, h3⟩

/-- The next text: a code, what was being done, where the reader is then, the text. -/
def textS (l : List Int) (a : Nat) (m : Int) : Int × ByteArray × Nat × List Int :=
  let q := numS (l.drop a) (abv' m)
  if q.1 = 0 then (if ((l.length - (a + q.2.1) : Nat) : Int) < q.2.2 then (3, ⟨#[116, 101, 120, 116]⟩, a, []) else (0, ⟨#[110, 117, 109]⟩, a + q.2.1 + q.2.2.toNat, (l.drop (a + q.2.1)).take q.2.2.toNat))
  else (q.1, ⟨#[110, 117, 109]⟩, a, [])
theorem rtext_any (p : Nat) (v : Value) (l : List Int) (a : Nat) (m : Int) (w : World) (hr : Rd w p v a .nilIface) (hv : Slx p bc w v l) (hl : l.length ≤ 100000) (hby : Byt l) (ha : a ≤ l.length) (hm : m ≤ 9223372036854775807) :
    Calls Tryz.prog 94 #[.pointer (some ⟨p, 0, none⟩), .int .i64 m] w fun x w' => ∃ v', x = .returned v' ∧ Sl bc w' v' (textS l a m).2.2.2 ∧ Rd w' p v (textS l a m).2.2.1 (erN (textS l a m).2.1 a (textS l a m).1) ∧ Bx p w w' := by
  have h1 := rnum_any p v l a (abv' m) w hr hv.sl hl hby ha
  have hbd : Byt (l.drop a) := fun x hx => hby x (List.mem_of_mem_drop hx)
  have hrg := numS_range (l.drop a) (abv' m) hbd
  unfold textS
  rcases hq : numS (l.drop a) (abv' m) with ⟨c, k, N⟩
  rw [hq] at h1 hrg
  have HC := hide (rint_of p m (abv' m) N w hm rfl ⟨hrg.1, by have := hrg.2; simp only at this; omega⟩ (hide h1))
  simp only at HC ⊢
  by_cases hc : c = 0
  · subst hc
    obtain ⟨_, _, n0, n1, _, hkl⟩ := numS_once hbd hq
    rw [List.length_drop] at hkl
    simp only [erN, if_true] at HC ⊢
    by_cases hs : ((l.length - (a + k) : Nat) : Int) < N
    · rw [if_pos hs]
      rcases hv with ⟨ao, cap, rfl, rfl⟩ | ⟨b, o, cap, rfl, hcap, hp, h3⟩
      · simp [numS] at hq
      · refine (rtext_short p (some ⟨b, o, none⟩) l.length cap (a + k) a m N .nilIface w hr hl hcap (by omega) hs HC).mono ?_
        rintro e w' ⟨rfl, h2, h3⟩
        exact ⟨_, rfl, Sl.nil _ _ _ _, h2, h3⟩
    · rw [if_neg hs]
      obtain ⟨N', rfl⟩ := Int.eq_ofNat_of_zero_le n0
      simp only [Int.toNat_natCast] at *
      by_cases hz : N' = 0
      · subst hz
        simp only [List.take_zero, Nat.add_zero]
        rcases hv with ⟨ao, cap, rfl, rfl⟩ | ⟨b, o, cap, rfl, hcap, hp, h3⟩
        · simp [numS] at hq
        · exact rtext_zero p (some ⟨b, o, none⟩) l.length cap (a + k) a m .nilIface w hr hl hcap (by omega) HC
      · rcases hv with ⟨ao, cap, rfl, rfl⟩ | ⟨b, o, cap, rfl, hcap, hp, h3⟩
        · simp [numS] at hq
        · have hlen : ((l.drop (a + k)).take N').length = N' := by rw [List.length_take, List.length_drop]; omega
          have h4 := rtext_ok p b o l.length cap (a + k) a m .nilIface ((l.drop (a + k)).take N') w hr hl hcap (by omega) (by omega) hp (by
            intro i hi
            rw [hlen] at hi
            have := h3 (a + k + i) (by omega)
            rw [← Nat.add_assoc] at this
            rw [this]
            simp [List.getElem_take, List.getElem_drop]) (by rw [hlen]; exact HC)
          rw [hlen] at h4
          exact h4
  · obtain ⟨rfl, rfl⟩ := numS_bad hq hc
    rw [if_neg hc]
    simp only [erN, if_neg hc, Nat.add_zero] at HC ⊢
    refine (rtext_bad p v a a m 0 .nilIface _ _ w hr HC).mono ?_
    rintro e w' ⟨rfl, h2, h3⟩
    exact ⟨_, rfl, Sl.nil _ _ _ _, h2, h3⟩

theorem infoI : (Tryz.prog.info? 3).map (fun i => (i.zero, i.size, i.bytes)) = some (some (.int .i64 0), 1, 8) := by kernel_rfl
theorem owns_bx {w w' : World} {p base m size : Nat} {e : TypeId} {v : Value} {xs : List Value} (h : w.ownsRow base e size v m xs) (hb : Bx p w w') (hp : p < base) : w'.ownsRow base e size v m xs := by
  obtain ⟨h1, h2⟩ := h
  refine ⟨h1, ?_⟩
  rcases h2 with h2 | ⟨g, cap, cur, a1, a2, a3, a4⟩
  · exact .inl h2
  · refine .inr ⟨g, cap, cur, a1, a2, ?_, a4⟩
    rw [hb.block g (Array.getElem?_eq_some_iff.1 a3).1 (by omega)]
    exact a3
theorem Bx.grown {p : Nat} {a w w' : World} {row : Option Nat} (h : Bx p a w) (hg : w.grownBy w' row) (hr : ∀ k, row = some k → a.heap.size ≤ k) : Bx p a w' :=
  ⟨hg.os.trans h.os, hg.tape.trans h.tape, hg.output.trans h.output, Nat.le_trans h.size hg.size, fun k hk hp => (hg.block k (Nat.lt_of_lt_of_le hk h.size) (fun e => by have := hr k e.symm; omega)).trans (h.block k hk hp)⟩
theorem Rd.grown {w w' : World} {row : Option Nat} {p : Nat} {v : Value} {a : Int} {e : Value} (h : Rd w p v a e) (hg : w.grownBy w' row) (hr : ∀ k, row = some k → p < k) : Rd w' p v a e :=
  have hne : some p ≠ row := fun q => Nat.lt_irrefl _ (hr p q.symm)
  have hbl : w'.heap[p]? = w.heap[p]? := hg.block p h.lt hne
  ⟨hg.cell h.c0 hne, hg.cell h.c1 hne, hg.cell h.c2 hne, fun i => (World.frozen?_of_block (a := ⟨p, i, none⟩) hbl).trans (h.fz i)⟩
theorem Rd.alloc {w : World} {p : Nat} {v : Value} {a : Int} {e : Value} (h : Rd w p v a e) (o : Obj) : Rd (w.alloc o) p v a e := h.below ((Below.refl _ _).alloc (Nat.le_refl _) _)

/-- The numbers of a row, one by one: a code, where the reader is, those that were read. -/
def rowI (l : List Int) (most : Int) (a : Nat) : Nat → Int × Nat × List Int
  | 0 => (0, a, [])
  | j + 1 =>
    let q := rowI l most a j
    if q.1 = 0 then (let s := numS (l.drop q.2.1) most; if s.1 = 0 then (0, q.2.1 + s.2.1, q.2.2 ++ [s.2.2]) else (s.1, q.2.1, q.2.2)) else q
/-- If one is wrong, there is none. -/
def rowR (z : Int × Nat × List Int) : List Int := if z.1 = 0 then z.2.2 else []
theorem rowI_stays {l : List Int} {most : Int} {a j : Nat} (h : (rowI l most a j).1 ≠ 0) (d : Nat) : rowI l most a (j + d) = rowI l most a j := by
  induction d with
  | zero => rfl
  | succ d ih =>
    show rowI l most a (j + d + 1) = _
    rw [rowI, ih]
    simp only [if_neg h]
theorem rowI_ok {l : List Int} {most : Int} {a j k : Nat} {x : Int} (h : (rowI l most a j).1 = 0) (hq : numS (l.drop (rowI l most a j).2.1) most = (0, k, x)) : rowI l most a (j + 1) = (0, (rowI l most a j).2.1 + k, (rowI l most a j).2.2 ++ [x]) := by
  rw [rowI]
  simp only [if_pos h, hq, if_true]
theorem rowI_bad {l : List Int} {most : Int} {a j k : Nat} {c x : Int} (h : (rowI l most a j).1 = 0) (hq : numS (l.drop (rowI l most a j).2.1) most = (c, k, x)) (hc : c ≠ 0) : rowI l most a (j + 1) = (c, (rowI l most a j).2.1, (rowI l most a j).2.2) := by
  rw [rowI]
  simp only [if_pos h, hq, if_neg hc]
theorem makeInts (M : Nat) (hM : M ≤ 100000) (W : World) : (Instr.makeSlice 33 (.int .i64 0) (.int .i64 (M : Int))).run Tryz.prog W = .ok (.slice (some ⟨W.heap.size, 0, none⟩) 0 M) (W.alloc (.cells (madeCells #[.int .i64 0] M) 3)) := by
  obtain ⟨i0, hi, hz0, hz1, hz2⟩ := info_parts infoI
  have h := run_make (P := Tryz.prog) W 33 3 i0 (.int .i64 0) Tryz.underlying33 hi hz0 .i64 .i64 0 (M : Int) (by omega) (by omega) (by rw [hz2]; omega) (by omega)
  rw [hz1] at h
  simpa [Value.cells] using h
set_option maxRecDepth 100000 in
set_option maxHeartbeats 4000000 in
theorem rrow_none (p : Nat) (ao : Option Addr) (L cap A : Nat) (m m2 : Int) (w : World) (E : Value) (hL : L ≤ 100000) (hA : A ≤ L)
    (HC : Hid (Calls Tryz.prog 46 #[.pointer (some ⟨p, 0, none⟩), .int .i64 m] w fun x w' => x = .returned (.int .i64 0) ∧ Rd w' p (.slice ao L cap) A E ∧ Bx p w w')) :
    Calls Tryz.prog 95 #[.pointer (some ⟨p, 0, none⟩), .int .i64 m, .int .i64 m2] w fun x w' => ∃ v, x = .returned v ∧ Sl ic w' v [] ∧ Rd w' p (.slice ao L cap) A E ∧ Bx p w w' := by
  have hmk : ∀ W, (Instr.makeSlice 33 (.int .i64 0) (.int .i64 0)).run Tryz.prog W = .ok (.slice (some ⟨W.heap.size, 0, none⟩) 0 0) (W.alloc (.cells (madeCells #[.int .i64 0] 0) 3)) := makeInts 0 (by decide)
  have hK : ¬ (L : Int) - (A : Int) < 0 := by omega
  go_enter Tryz.func95, Tryz.ntmps95
  go_wp2_with (first | (go_at_call 46; refine (HC.out).mono ?_; rintro e w1 ⟨rfl, hr1, hb1⟩; obtain ⟨d0, d1, d2, fz1⟩ := id hr1; have HR1 := hide hr1; have HB1 := hide hb1; clear hr1 hb1 fz1))
  go_region
  go_wp2_with fail
  refine wp_loop_rounds 1 ?_
  rw [rounds_succ]
  go_wp2_with fail
  go_ret
  exact ⟨_, rfl, Sl.nil _ _ _ _, (HR1.out.drewN 1).alloc _, ((HB1.out.drewN 1).call ((Below.refl _ _).alloc (Nat.le_refl _) _))⟩
set_option maxRecDepth 100000 in
set_option maxHeartbeats 4000000 in
theorem rrow_some (p : Nat) (v : Value) (l : List Int) (ao : Option Addr) (cap A N M : Nat) (m m2 : Int) (w : World) (hV : v = .slice ao l.length cap) (hv : Slx p bc w v l) (hby : Byt l) (hp : p < w.heap.size) (hm2 : m2 ≤ 9223372036854775807) (hN : N ≤ 9223372036854775807) (hL : l.length ≤ 100000) (hA : A ≤ l.length) (hM : M ≤ 100000) (hK : (if (l.length : Int) - (A : Int) < (N : Int) then (l.length : Int) - (A : Int) else (N : Int)) = (M : Int))
    (HC : Hid (Calls Tryz.prog 46 #[.pointer (some ⟨p, 0, none⟩), .int .i64 m] w fun x w' => x = .returned (.int .i64 (N : Int)) ∧ Rd w' p v A .nilIface ∧ Bx p w w')) :
    Calls Tryz.prog 95 #[.pointer (some ⟨p, 0, none⟩), .int .i64 m, .int .i64 m2] w fun x w' => ∃ v', x = .returned v' ∧ Sl ic w' v' (rowR (rowI l (abv' m2) A N)) ∧ Rd w' p v (rowI l (abv' m2) A N).2.1 (erN ⟨#[110, 117, 109]⟩ (rowI l (abv' m2) A N).2.1 (rowI l (abv' m2) A N).1) ∧ Bx p w w' := by
  obtain ⟨i0, hi, hz0, hz1, hz2⟩ := info_parts infoI
  have hmk := makeInts M hM
  have HV := hide hv
  have HY := hide hby
  clear hv hby
  subst hV
  go_enter Tryz.func95, Tryz.ntmps95
  go_wp2_with (first | (go_at_call 46; refine (HC.out).mono ?_; rintro e w1 ⟨rfl, hr1, hb1⟩; obtain ⟨d0, d1, d2, fz1⟩ := id hr1; have HR1 := hide hr1; have HB1 := hide hb1; clear hr1 hb1 fz1))
  go_region
  go_wp2_with fail
  go_loopw [8, 27] (fun u i wr => ∃ j : Nat, j ≤ N ∧ i = .int .i64 j ∧ (rowI l (abv' m2) A j).1 = 0 ∧ wr.ownsRow w.heap.size 3 1 u (rowI l (abv' m2) A j).2.2.length ((rowI l (abv' m2) A j).2.2.map ic) ∧ Rd wr p (.slice ao l.length cap) (rowI l (abv' m2) A j).2.1 .nilIface ∧ Bx p w wr ∧ w.heap.size ≤ wr.heap.size ∧ (rowI l (abv' m2) A j).2.1 ≤ l.length ∧ (rowI l (abv' m2) A j).2.2.length + A ≤ (rowI l (abv' m2) A j).2.1) (fun _ i _ => N - (intOf i).toNat)
  case atStart =>
    have hs := HB1.out.size
    refine ⟨0, Nat.zero_le _, rfl, rfl, ?_, (HR1.out.drewN 1).alloc _, ((HB1.out.drewN 1).call ((Below.refl _ _).alloc (Nat.le_refl _) _)), by simp; omega, hA, by simp [rowI]⟩
    exact World.ownsRow_made _ _ M (by exact hs) (by unfold maxLen; omega) (by simp [size_madeCells])
  case round =>
    obtain ⟨j, hj, rfl, hz, hown, hr, hb, hs, hal, hln⟩ := hrel
    have hvr := HV.out.bx hb
    by_cases hlt : j < N
    · have h1 := rnum_any p _ l (rowI l (abv' m2) A j).2.1 (abv' m2) wr hr hvr.sl hL HY.out hal
      have hbd : Byt (l.drop (rowI l (abv' m2) A j).2.1) := fun x hx => HY.out x (List.mem_of_mem_drop hx)
      have hrg := numS_range (l.drop (rowI l (abv' m2) A j).2.1) (abv' m2) hbd
      rcases hq : numS (l.drop (rowI l (abv' m2) A j).2.1) (abv' m2) with ⟨c, k, x⟩
      rw [hq] at h1 hrg
      have HC2 := hide (rint_of p m2 (abv' m2) x wr hm2 rfl ⟨hrg.1, by have := hrg.2; simp only at this; omega⟩ (hide h1))
      clear h1
      by_cases hc : c = 0
      · subst hc
        obtain ⟨_, hkn, _, _, _, hkl⟩ := numS_once hbd hq
        rw [List.length_drop] at hkl
        have hk1 : 1 ≤ k := by rw [hkn]; unfold numL; split; · simp
                               split; · simp
                               split <;> simp
        have HE := hide (rowI_ok hz hq)
        simp only [erN, if_true] at HC2
        have HOW := hide hown
        have HBW := hide hb
        clear hq hrg hbd hr hz hvr hkn
        generalize (rowI l (abv' m2) A j).2.2 = xs at *
        generalize (rowI l (abv' m2) A j).2.1 = a1 at *
        go_wp2_with (first
          | (go_at_call 46; refine (HC2.out).mono ?_; rintro e w2 ⟨rfl, hr2, hb2⟩; obtain ⟨k0, k1, k2, fz2⟩ := id hr2; have HR2 := hide hr2; have HB2 := hide hb2; have hown2 := owns_bx HOW.out hb2 hp; have hz2s := hb2.size; clear hr2 hb2 fz2)
          | (at_builtin; refine wpList_append_own _ rfl _ _ 33 rfl w.heap.size 3 i0 (.int .i64 0) 1 8 Tryz.underlying33 hi hz0 hz1 hz2 rfl (by decide) _ _ _ rfl (hown2.alloc _) ⟨w2.heap.size, 0, none⟩ 1 1 [.int .i64 x] rfl rfl ?c1 ?c2 ?c3 ?c4 ?c5 ?_))
        case c1 =>
          intro j u hj
          match j, hj with
          | 0, hj => simp at hj; subst hj; simp [Addr.add, go_sem]
        case c2 => intro u hu; simp at hu; subst hu; rfl
        case c3 => unfold maxLen; omega
        case c4 => omega
        case c5 => simp; omega
        · intro v' w3 hown' hgrow _
          have hge : ∀ k, Value.ownBlock _ = some k → w.heap.size ≤ k := fun k hk => (hown2.lt k hk).1
          have hB : Bx p w w3 := ((HBW.out.trans HB2.out).call ((Below.refl _ _).alloc (Nat.le_refl _) _)).grown hgrow hge
          have hR : Rd w3 p (.slice ao l.length cap) (a1 + k : Nat) .nilIface := (HR2.out.alloc _).grown hgrow (fun k hk => Nat.lt_of_lt_of_le hp (hge k hk))
          have HO3 := hide hown'
          have HB3 := hide hB
          have HR3 := hide hR
          clear hown' hgrow hown2 hge hB hR hown hb
          go_wp2_with fail
          go_roundw
          case rel =>
            refine ⟨j + 1, by omega, by go_num, ?_⟩
            rw [HE.out]
            refine ⟨rfl, by simpa [ic] using HO3.out, HR3.out, HB3.out, HB3.out.size, ?_, ?_⟩
            · show a1 + k ≤ l.length
              omega
            · show (xs ++ [x]).length + A ≤ a1 + k
              simp; omega
          case measure => simp [intOf]; omega
      · obtain ⟨rfl, rfl⟩ := numS_bad hq hc
        have HE := hide (rowI_bad hz hq hc)
        have HF := hide (rowI_stays (l := l) (most := abv' m2) (a := A) (j := j + 1) (by rw [HE.out]; exact hc) (N - (j + 1)))
        simp only [erN, if_neg hc, Nat.add_zero] at HC2
        clear hq hrg hbd
        unfold ft at HC2
        go_wp2_with (first
          | (go_at_call 46; refine (HC2.out).mono ?_; rintro e w2 ⟨rfl, hr2, hb2⟩; obtain ⟨k0, k1, k2, fz2⟩ := id hr2; have HR2 := hide hr2; have HB2 := hide hb2; clear hr2 hb2 fz2))
        go_ret
        refine ⟨_, rfl, ?_⟩
        have hZ : rowI l (abv' m2) A N = (c, (rowI l (abv' m2) A j).2.1, (rowI l (abv' m2) A j).2.2) := by
          rw [← HE.out, ← HF.out]
          congr 1
          omega
        simp only [hZ, erN, rowR, if_neg hc]
        exact ⟨Sl.nil _ _ _ _, HR2.out, hb.trans HB2.out⟩
    · obtain rfl : j = N := by omega
      clear hlt
      have HR2 := hide hr
      have HO := hide hown
      have HZ := hide hz
      clear hr hown hz
      go_wp2_with fail
      go_ret
      refine ⟨_, rfl, ?_⟩
      simp only [HZ.out, erN, rowR, if_true]
      exact ⟨sl_of_owns HO.out, HR2.out, hb⟩

/-- The next row: a code, where the reader is then (and what is wrong is), the row. -/
def rowS (l : List Int) (a : Nat) (m m2 : Int) : Int × Nat × List Int :=
  let q := numS (l.drop a) (abv' m)
  if q.1 = 0 then rowI l (abv' m2) (a + q.2.1) q.2.2.toNat else (q.1, a, [])
theorem rrow_any (p : Nat) (v : Value) (l : List Int) (a : Nat) (m m2 : Int) (w : World) (hr : Rd w p v a .nilIface) (hv : Slx p bc w v l) (hl : l.length ≤ 100000) (hby : Byt l) (ha : a ≤ l.length) (hm : m ≤ 9223372036854775807) (hm2 : m2 ≤ 9223372036854775807) :
    Calls Tryz.prog 95 #[.pointer (some ⟨p, 0, none⟩), .int .i64 m, .int .i64 m2] w fun x w' => ∃ v', x = .returned v' ∧ Sl ic w' v' (rowR (rowS l a m m2)) ∧ Rd w' p v (rowS l a m m2).2.1 (erN ⟨#[110, 117, 109]⟩ (rowS l a m m2).2.1 (rowS l a m m2).1) ∧ Bx p w w' := by
  have h1 := rnum_any p v l a (abv' m) w hr hv.sl hl hby ha
  have hbd : Byt (l.drop a) := fun x hx => hby x (List.mem_of_mem_drop hx)
  have hrg := numS_range (l.drop a) (abv' m) hbd
  obtain ⟨ao, cap, hV⟩ := hv.sl.form
  unfold rowS
  rcases hq : numS (l.drop a) (abv' m) with ⟨c, k, N⟩
  rw [hq] at h1 hrg
  have HC := hide (rint_of p m (abv' m) N w hm rfl ⟨hrg.1, by have := hrg.2; simp only at this; omega⟩ (hide h1))
  simp only at HC ⊢
  by_cases hc : c = 0
  · subst hc
    obtain ⟨_, _, n0, n1, _, hkl⟩ := numS_once hbd hq
    rw [List.length_drop] at hkl
    simp only [if_true]
    rw [erN, if_pos rfl] at HC
    obtain ⟨N', rfl⟩ := Int.eq_ofNat_of_zero_le n0
    simp only [Int.toNat_natCast] at *
    by_cases hlt : ((l.length : Int) - ((a + k : Nat) : Int)) < (N' : Int)
    · exact rrow_some p v l ao cap (a + k) N' (l.length - (a + k)) m m2 w hV hv hby hr.lt hm2 (by omega) hl (by omega) (by omega) (by rw [if_pos hlt]; omega) HC
    · exact rrow_some p v l ao cap (a + k) N' N' m m2 w hV hv hby hr.lt hm2 (by omega) hl (by omega) (by omega) (by rw [if_neg hlt]) HC
  · obtain ⟨rfl, rfl⟩ := numS_bad hq hc
    rw [if_neg hc]
    simp only [erN, rowR, if_neg hc, Nat.add_zero] at HC ⊢
    subst hV
    exact rrow_none p ao l.length cap a m m2 w _ hl ha HC
end Go.Proofs.YtgbcjmpnkejpeaaGreatDoor
namespace Go.Proofs.YtgbcjmpnkejpeaaGreatDoor
open Go.RowKit

theorem intL_num {k : Int} (h0 : 0 ≤ k) (h1 : k ≤ 4611686018427387903) : intL k = numL k := by
  rw [intL, if_neg (by omega), show capN k = k from if_neg (by omega)]
theorem intL_byt (k : Int) : Byt (intL k) := by
  unfold intL
  split
  · unfold Byt; decide
  · unfold capN
    split
    · exact numL_byt (by omega) (by omega)
    · exact numL_byt (by omega) (by omega)
theorem Byt.app {a b : List Int} (h : Byt a) (k : Byt b) : Byt (a ++ b) := fun x hx => (List.mem_append.1 hx).elim (h x) (k x)
theorem rowL_byt (l : List Int) : Byt (rowL l) := by
  intro x hx
  obtain ⟨y, _, hy⟩ := List.mem_flatMap.1 hx
  exact intL_byt y x hy
/-- Read where it was written. -/
theorem numS_back (P Q : List Int) {k most : Int} (h0 : 0 ≤ k) (h1 : k ≤ 4611686018427387903) (hm : k ≤ most) : numS ((P ++ (intL k ++ Q)).drop P.length) most = (0, (intL k).length, k) := by
  rw [List.drop_left, intL_num h0 h1]
  exact numS_numL Q h0 h1 hm
theorem abv_pos {m : Int} (h : 0 ≤ m) : abv' m = m := if_neg (by omega)
theorem textS_back (P s Q : List Int) {m : Int} (hs : s.length ≤ 4000) (hm : (s.length : Int) ≤ m) :
    textS (P ++ ((intL s.length ++ s) ++ Q)) P.length m = (0, ⟨#[110, 117, 109]⟩, (P ++ (intL s.length ++ s)).length, s) := by
  unfold textS
  rw [abv_pos (by omega), List.append_assoc (intL _), numS_back P (s ++ Q) (by omega) (by omega) hm]
  simp only [if_true, Int.toNat_natCast]
  rw [if_neg (by simp only [List.length_append]; omega)]
  refine congrArg _ (congrArg _ (Prod.ext ?_ ?_))
  · simp only [List.length_append]; omega
  · show (List.drop (P.length + (intL s.length).length) (P ++ (intL s.length ++ (s ++ Q)))).take s.length = s
    rw [← List.length_append, ← List.append_assoc P, List.drop_left, List.take_left]
theorem rowL_split (l : List Int) (j : Nat) (h : j < l.length) : rowL l = rowL (l.take j) ++ (intL l[j] ++ rowL (l.drop (j + 1))) := by
  have e : l = l.take j ++ (l[j] :: l.drop (j + 1)) := by rw [← List.drop_eq_getElem_cons h, List.take_append_drop]
  refine (congrArg rowL e).trans ?_
  simp only [rowL, List.flatMap_append, List.flatMap_cons]
theorem rowI_back (P l Q : List Int) {most : Int} (h : ∀ i (hi : i < l.length), 0 ≤ l[i] ∧ l[i] ≤ 4611686018427387903 ∧ l[i] ≤ most) (j : Nat) (hj : j ≤ l.length) :
    rowI (P ++ (rowL l ++ Q)) most P.length j = (0, (P ++ rowL (l.take j)).length, l.take j) := by
  induction j with
  | zero => simp [rowI, rowL]
  | succ j ih =>
    have ih := ih (by omega)
    have hb := h j (by omega)
    have hq : numS ((P ++ (rowL l ++ Q)).drop (P ++ rowL (l.take j)).length) most = (0, (intL l[j]).length, l[j]) := by
      rw [rowL_split l j (by omega)]
      rw [show P ++ (rowL (l.take j) ++ (intL l[j] ++ rowL (l.drop (j + 1))) ++ Q) = (P ++ rowL (l.take j)) ++ (intL l[j] ++ (rowL (l.drop (j + 1)) ++ Q)) by simp [List.append_assoc]]
      exact numS_back _ _ hb.1 hb.2.1 hb.2.2
    have hz : (rowI (P ++ (rowL l ++ Q)) most P.length j).1 = 0 := by rw [ih]
    have hk := rowI_ok (k := (intL l[j]).length) (x := l[j]) hz (by rw [ih]; exact hq)
    rw [hk, ih]
    simp only
    rw [rowL_snoc l j (by omega), List.take_succ_eq_append_getElem (show j < l.length by omega)]
    simp only [List.length_append]
    rw [Nat.add_assoc]
theorem rowS_back (P l : List Int) {m m2 : Int} (hl : l.length ≤ 4000) (hm : (l.length : Int) ≤ m) (hm2 : 0 ≤ m2) (h : ∀ i (hi : i < l.length), 0 ≤ l[i] ∧ l[i] ≤ 4611686018427387903 ∧ l[i] ≤ m2) :
    rowS (P ++ (intL l.length ++ rowL l)) P.length m m2 = (0, (P ++ (intL l.length ++ rowL l)).length, l) := by
  unfold rowS
  rw [abv_pos (by omega), abv_pos hm2, numS_back P (rowL l) (by omega) (by omega) hm]
  simp only [if_true, Int.toNat_natCast]
  have := rowI_back (P ++ intL l.length) l [] h l.length (Nat.le_refl _)
  rw [List.append_nil, List.take_length, List.append_assoc, List.length_append] at this
  rw [this]
end Go.Proofs.YtgbcjmpnkejpeaaGreatDoor
namespace Go.Proofs.YtgbcjmpnkejpeaaGreatDoor
open Go.RowKit

/-- Is a number among the first j? -/
def inB (l : List Int) (j : Nat) (x : Int) : Bool := (List.range j).any fun k => decide (l.getD k 0 = x)
theorem in_yes {l : List Int} {j k : Nat} {x : Int} (hk : k < j) (h : x = l.getD k 0) : inB l j x = true := by
  unfold inB
  rw [List.any_eq_true]
  exact ⟨k, List.mem_range.2 hk, decide_eq_true h.symm⟩
theorem in_no {l : List Int} {j : Nat} {x : Int} (h : ∀ k, k < j → ¬ l.getD k 0 = x) : inB l j x = false := by
  unfold inB
  rw [List.any_eq_false]
  intro k hk
  simpa using h k (List.mem_range.1 hk)
theorem in_okJ {l : List Int} {j : Nat} (h : 1 ≤ l.getD j 0 ∧ l.getD j 0 ≤ 64) : okJ l j = !inB l j (l.getD j 0) := by
  cases hi : inB l j (l.getD j 0) with
  | true =>
    unfold inB at hi
    rw [List.any_eq_true] at hi
    obtain ⟨k, hk, e⟩ := hi
    exact okJ_twice (List.mem_range.1 hk) (of_decide_eq_true e)
  | false =>
    unfold inB at hi
    rw [List.any_eq_false] at hi
    exact okJ_yes h (fun k hk e => hi k (List.mem_range.2 hk) (decide_eq_true e))
set_option maxRecDepth 100000 in
set_option maxHeartbeats 4000000 in
theorem idxi_some (b o cap : Nat) (l : List Int) (j : Nat) (x : Int) (w : World) (hj : j ≤ l.length) (hl : l.length ≤ 7) (h3 : ∀ i, i < l.length → w.cell? ⟨b, o + i, none⟩ = some (.int .i64 (l.getD i 0))) :
    Calls Tryz.prog 117 #[.slice (some ⟨b, o, none⟩) j cap, .int .i64 x] w fun e w' => (∃ n : Int, e = .returned (.int .i64 n) ∧ ((inB l j x = true ∧ 0 ≤ n) ∨ (inB l j x = false ∧ n = -1))) ∧ w' = w := by
  have H3 := hide h3
  clear h3
  go_enter Tryz.func117, Tryz.ntmps117
  go_wp2
  go_loop [8] (fun i => ∃ k : Nat, k ≤ j ∧ i = .int .i64 (k : Int) ∧ Hid (∀ m, m < k → ¬ l.getD m 0 = x)) (fun i => j - (intOf i).toNat)
  case atStart => exact ⟨0, Nat.zero_le _, rfl, hide (fun m hm => absurd hm (Nat.not_lt_zero _))⟩
  case round =>
    obtain ⟨k, hk, rfl, HN⟩ := hrel
    by_cases hlt : k < j
    · have hltI : (k : Int) < (j : Int) := by omega
      have hc := H3.out k (by omega)
      obtain ⟨y, hy⟩ : ∃ y, y = l.getD k 0 := ⟨_, rfl⟩
      rw [← hy] at hc
      have HY := hide hy
      clear hy
      by_cases he : x = y
      · have HI := hide (in_yes (x := x) hlt (he.trans HY.out))
        go_wp2_with fail
        go_ret
        exact ⟨⟨_, rfl, .inl ⟨he ▸ HI.out, by omega⟩⟩, rfl⟩
      · go_wp2_with fail
        go_round
        case rel => exact ⟨k + 1, by omega, by go_num, hide (fun m hm => by by_cases e : m = k; (subst e; rw [← HY.out]; exact fun q => he q.symm); exact HN.out m (by omega))⟩
        case measure => simp [intOf]; omega
    · obtain rfl : k = j := by omega
      clear hlt
      go_wp2_with fail
      go_ret
      exact ⟨⟨_, rfl, .inr ⟨in_no HN.out, rfl⟩⟩, rfl⟩
set_option maxHeartbeats 4000000 in
theorem ctni_some (b o cap : Nat) (l : List Int) (j : Nat) (x : Int) (w : World) (hj : j ≤ l.length) (hl : l.length ≤ 7) (h3 : ∀ i, i < l.length → w.cell? ⟨b, o + i, none⟩ = some (.int .i64 (l.getD i 0))) :
    Calls Tryz.prog 90 #[.slice (some ⟨b, o, none⟩) j cap, .int .i64 x] w fun e w' => e = .returned (.bool (inB l j x)) ∧ w' = w := by
  have HC := hide (idxi_some b o cap l j x w hj hl h3)
  clear h3
  go_enter Tryz.func90, Tryz.ntmps90
  go_wp2_with fail
  refine (HC.out).mono ?_
  rintro e w' ⟨⟨n, rfl, ⟨hy, hn⟩ | ⟨hy, rfl⟩⟩, rfl⟩
  · have HY := hide hy
    clear hy
    go_wp2
    go_ret
    exact ⟨by rw [HY.out]; rfl, rfl⟩
  · have HY := hide hy
    clear hy
    go_wp2
    go_ret
    exact ⟨by rw [HY.out]; rfl, rfl⟩
set_option maxRecDepth 100000 in
set_option maxHeartbeats 4000000 in
theorem cbrok_some (b o cap : Nat) (l : List Int) (w : World) (hcap : l.length ≤ cap) (h3 : ∀ i (h : i < l.length), w.cell? ⟨b, o + i, none⟩ = some (ic l[i])) :
    Calls Tryz.prog 44 #[.slice (some ⟨b, o, none⟩) l.length cap] w fun e w' => e = .returned (.bool (brokB l)) ∧ w' = w := by
  obtain ⟨R, hR⟩ : ∃ R, R = brokB l := ⟨_, rfl⟩
  rw [← hR]
  have HR := hide hR
  clear hR
  by_cases h7 : 7 < l.length
  · have HE : Hid (R = false) := hide (by rw [HR.out]; unfold brokB; rw [decide_eq_false (by omega), Bool.false_and])
    have h7' : (7 : Int) < (l.length : Int) := by omega
    clear h3
    go_enter Tryz.func44, Tryz.ntmps44
    go_wp2_with fail
    go_ret
    exact ⟨by rw [HE.out]; rfl, rfl⟩
  have h7' : ¬ (7 : Int) < (l.length : Int) := by omega
  have H3 : Hid (∀ i, i < l.length → w.cell? ⟨b, o + i, none⟩ = some (.int .i64 (l.getD i 0))) := hide (fun i hi => by
    rw [h3 i hi]
    simp [List.getD, hi, ic])
  clear h3
  go_enter Tryz.func44, Tryz.ntmps44
  go_wp2_with fail
  go_loop [10] (fun i => ∃ j : Nat, j ≤ l.length ∧ i = .int .i64 (j : Int) ∧ Hid (∀ m, m < j → okJ l m = true)) (fun i => l.length - (intOf i).toNat)
  case atStart => exact ⟨0, Nat.zero_le _, rfl, hide (fun m hm => absurd hm (Nat.not_lt_zero _))⟩
  case round =>
    obtain ⟨j, hj, rfl, HN⟩ := hrel
    by_cases hlt : j < l.length
    · have hltI : (j : Int) < (l.length : Int) := by omega
      have cj := H3.out j hlt
      have hjc : j ≤ cap := by omega
      by_cases hlo : l.getD j 0 < 1 ∨ (¬ l.getD j 0 < 1 ∧ 64 < l.getD j 0)
      · have HE : Hid (R = false) := hide (by rw [HR.out]; exact brokB_no hlt (okJ_no (by omega)))
        generalize l.getD j 0 = x at *
        rcases hlo with h1 | ⟨h1, h2⟩
        all_goals
          go_wp2_with fail
          go_ret
          exact ⟨by rw [HE.out]; rfl, rfl⟩
      · have h1 : ¬ l.getD j 0 < 1 := by omega
        have h2 : ¬ 64 < l.getD j 0 := by omega
        clear hlo
        have HCT := hide (ctni_some b o cap l j (l.getD j 0) w hj (by omega) H3.out)
        have HJ := hide (in_okJ (l := l) (j := j) ⟨by omega, by omega⟩)
        generalize hx : l.getD j 0 = x at *
        generalize inB l j x = t at *
        have HX := hide hx
        clear hx
        cases t with
        | true =>
          have HE : Hid (R = false) := hide (by rw [HR.out]; exact brokB_no hlt HJ.out)
          go_wp2_with (first | (go_at_call 90; refine HCT.out.mono ?_; rintro e w' ⟨rfl, rfl⟩))
          go_ret
          exact ⟨by rw [HE.out]; rfl, rfl⟩
        | false =>
          go_wp2_with (first | (go_at_call 90; refine HCT.out.mono ?_; rintro e w' ⟨rfl, rfl⟩))
          go_round
          case rel => exact ⟨j + 1, by omega, by go_num, hide (fun m hm => by by_cases e : m = j; (subst e; exact HJ.out); exact HN.out m (by omega))⟩
          case measure => simp [intOf]; omega
    · obtain rfl : j = l.length := by omega
      have HE : Hid (R = true) := hide (by rw [HR.out]; exact brokB_yes (by omega) HN.out)
      clear hlt
      go_wp2_with fail
      go_ret
      exact ⟨by rw [HE.out]; rfl, rfl⟩
set_option maxHeartbeats 4000000 in
theorem cbrok_none (ao : Option Addr) (cap : Nat) (w : World) : Calls Tryz.prog 44 #[.slice ao 0 cap] w fun e w' => e = .returned (.bool (brokB [])) ∧ w' = w := by
  go_enter Tryz.func44, Tryz.ntmps44
  go_wp2_with fail
  refine wp_loop_rounds 1 ?_
  rw [rounds_succ]
  go_wp2_with fail
  go_ret
  exact ⟨rfl, rfl⟩
theorem cbrok_any (v : Value) (l : List Int) (w : World) (hv : Sl ic w v l) : Calls Tryz.prog 44 #[v] w fun e w' => e = .returned (.bool (brokB l)) ∧ w' = w := by
  rcases hv with ⟨ao, cap, rfl, rfl⟩ | ⟨b, o, cap, rfl, hc, h3⟩
  · exact cbrok_none ao cap w
  · exact cbrok_some b o cap l w hc h3
theorem listed_any (a o : Int) (v : Value) (l : List Int) (w : World) (hv : Sl ic w v l) : Calls Tryz.prog 82 #[.int .u32 a, .int .u32 o, v] w fun e w' => e = .returned (.bool (rowB l (bitB a o))) ∧ w' = w := by
  have HC := hide (bhas_any a o w)
  have HB := hide (cbrok_any v l w hv)
  obtain ⟨R, hR⟩ : ∃ R, R = rowB l (bitB a o) := ⟨_, rfl⟩
  rw [← hR]
  have HR := hide hR
  obtain ⟨ao, cap, rfl⟩ := hv.form
  clear hR hv
  cases hb : bitB a o with
  | true =>
    rw [hb] at HC HR
    have HE : Hid (R = brokB l) := hide HR.out
    go_enter Tryz.func82, Tryz.ntmps82
    go_wp2_with (first | (go_at_call 71; refine HC.out.mono ?_; rintro e w' ⟨rfl, rfl⟩) | (go_at_call 44; refine HB.out.mono ?_; rintro e w' ⟨rfl, rfl⟩))
    go_ret
    exact ⟨by rw [HE.out]; rfl, rfl⟩
  | false =>
    rw [hb] at HC HR
    have HE : Hid (R = ((l.length : Int) == 0)) := hide HR.out
    go_enter Tryz.func82, Tryz.ntmps82
    go_wp2_with (first | (go_at_call 71; refine HC.out.mono ?_; rintro e w' ⟨rfl, rfl⟩))
    go_ret
    exact ⟨by rw [HE.out]; rfl, rfl⟩
theorem named_any (a o : Int) (S : List UInt8) (w : World) (hS : S.length ≤ 1000) : Calls Tryz.prog 80 #[.int .u32 a, .int .u32 o, .string ⟨S.toArray⟩] w fun e w' => e = .returned (.bool (nameA S (bitB a o))) ∧ Below w.heap.size w w' := by
  have HC := hide (bhas_any a o w)
  have HB := hide (cname_any S w hS)
  have hdot : (⟨S.toArray⟩ : ByteArray).toList = S := by simp
  obtain ⟨R, hR⟩ : ∃ R, R = nameA S (bitB a o) := ⟨_, rfl⟩
  rw [← hR]
  have HR := hide hR
  clear hR
  cases hb : bitB a o with
  | true =>
    rw [hb] at HC HR
    have HE : Hid (R = nameB S) := hide HR.out
    go_enter Tryz.func80, Tryz.ntmps80
    go_wp2_with (first | (go_at_call 71; refine HC.out.mono ?_; rintro e w' ⟨rfl, rfl⟩) | (go_at_call 43; refine HB.out.mono ?_; rintro e w' ⟨rfl, hbl⟩))
    go_ret
    exact ⟨by rw [HE.out]; rfl, hbl⟩
  | false =>
    rw [hb] at HC HR
    have HE : Hid (R = S.isEmpty) := hide HR.out
    go_enter Tryz.func80, Tryz.ntmps80
    go_wp2_with (first | (go_at_call 71; refine HC.out.mono ?_; rintro e w' ⟨rfl, rfl⟩))
    go_ret
    exact ⟨by rw [HE.out]; rfl, Below.refl _ _⟩
end Go.Proofs.YtgbcjmpnkejpeaaGreatDoor
