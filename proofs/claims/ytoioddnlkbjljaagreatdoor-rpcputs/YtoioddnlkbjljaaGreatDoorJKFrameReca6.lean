/-
  A RECORD THAT CAME IN, OPENED: its fields lie in its cells. No condition of its own.
  WHAT A READER READS NEXT (castellanlaw02.got), out of what its calls tell. Conditions: the bytes' cells hold them, they lie off the reader, no more than ten thousand.
  WHATEVER IS ASKED OF A READER: what it tells, one function 'askS' of the bytes, where nothing was wrong; nothing, where something was. Conditions: the bytes' cells hold them, they lie off the reader, no more than a hundred thousand.
  A READER's NEXT ROW LIES IN NEW MEMORY; what is asked of a reader, told so. Conditions: the bytes' cells hold them, they lie off the reader, no more than a hundred thousand.
  WHAT A READER READS NEXT, whatever was wrong before (wire.Reader's Int, Flag, Text, Row, Refuse, Err): one state in, one state out. Conditions: the bytes' cells hold them, each is a byte, no more than a hundred thousand, they don't lie in the reader, and the reader is within them.
  A TEXT AND A ROW WRITTEN BEHIND BYTES (wire.Text, Row; slices.Grow). Conditions: the bytes are nil or a row of their own, and fewer than a million; what is written does not lie in that row.
-/
import Derived.Test.YtoioddnlkbjljaaGreatDoorJKIsca5
import Derived.Test.YtoioddnlkbjljaaGreatDoorJKWputba6
import Derived.Test.YtoioddnlkbjljaaGreatDoorJKWrowa6
import Derived.Test.YtoioddnlkbjljaaGreatDoorJKRecChka2
import Derived.Laws.IdiomStrings
import Derived.Lib.AppendZerosOnto
namespace Go.Proofs.YtoioddnlkbjljaaGreatDoor
open Go.ChangeShapes Go.WideShapes Go.ChangeAt Go.RowKit Go.Joins
set_option maxRecDepth 100000

theorem array18 {α : Type} {cs : Array α} (h : cs.size = 18) : ∃ c0 c1 c2 c3 c4 c5 c6 c7 c8 c9 c10 c11 c12 c13 c14 c15 c16 c17, cs = #[c0, c1, c2, c3, c4, c5, c6, c7, c8, c9, c10, c11, c12, c13, c14, c15, c16, c17] := by
  obtain ⟨l⟩ := cs
  match l, h with
  | [c0, c1, c2, c3, c4, c5, c6, c7, c8, c9, c10, c11, c12, c13, c14, c15, c16, c17], _ => exact ⟨c0, c1, c2, c3, c4, c5, c6, c7, c8, c9, c10, c11, c12, c13, c14, c15, c16, c17, rfl⟩
theorem cellsRec : Tryz.prog.cellsOf 55 = 18 := by kernel_rfl
theorem cellsI : Tryz.prog.cellsOf 3 = 1 := by kernel_rfl
theorem cellsBo : Tryz.prog.cellsOf 4 = 1 := by kernel_rfl
theorem cellsS : Tryz.prog.cellsOf 9 = 1 := by kernel_rfl
theorem cellsR' : Tryz.prog.cellsOf 53 = 1 := by kernel_rfl
theorem str_form (s : ByteArray) : Value.string s = .string ⟨s.data.toList.toArray⟩ := by cases s; simp
section
variable {H : Type} {enc : TypeId × Value → H}
/-- A row of numbers that came in. -/
theorem open_rowi {W : World} {n : Nat} {u : Value} {x : DataW H × List MemPlace} (h : DataW.trod enc Tryz.prog W 0 (fun _ => true) true n 53 [u] = some x) : ∃ (l : List Int) (ao : Option Addr) (cap : Nat), u = .slice ao l.length cap ∧ Sli (fun b => b < W.heap.size) W (.slice ao l.length cap) l := by
  rcases open_ints Tryz.underlying53 Tryz.underlying3 (by kernel_rfl) h with ⟨hcs, rfl⟩ | ⟨a, len, cap, zs, hcs, _, hle, hmax, hall, rfl, hcell, hwf⟩
  · simp at hcs
    subst hcs
    exact ⟨[], none, 0, rfl, Sli.nil _ _ _ _⟩
  · simp at hcs
    subst hcs
    rw [if_pos rfl] at hall
    have hl : (zs.take len).length = len := by rw [List.length_take]; omega
    refine ⟨zs.take len, some a, cap, by rw [hl], ?_⟩
    by_cases h0 : len = 0
    · subst h0
      exact .inl ⟨some a, cap, by simp, by simp⟩
    · obtain ⟨b, off, rfl, hcc⟩ := ints_at hcell (by omega)
      have hsl : Sl ic W (.slice (some ⟨b, off, none⟩) (zs.take len).length cap) (zs.take len) := .inr ⟨b, off, cap, rfl, by omega, fun i hi => by
        rw [hl] at hi
        rw [hcc i (by omega), List.getElem_take]
        simp [List.getD, show i < zs.length by omega, ic]⟩
      exact hsl.li
end
theorem u8_of {n : Int} (h : (Lit.int .u8 n).wf = true) : 0 ≤ n ∧ n ≤ 255 := by
  simp only [Lit.wf, Bool.and_eq_true, decide_eq_true_eq, show IntKind.u8.min = 0 by decide, show IntKind.u8.max = 255 by decide] at h
  exact h
end Go.Proofs.YtoioddnlkbjljaaGreatDoor
namespace Go.Proofs.YtoioddnlkbjljaaGreatDoor
open Go.RowKit

theorem Sl.off {α : Type} {f : α → Value} {q : Nat} {W : World} {v : Value} {l : List α} (h : Sl f W v l) (hq : ∀ i x, W.cell? ⟨q, i, none⟩ ≠ some (f x)) : Slx q f W v l := by
  rcases h with h | ⟨b, o, cap, h1, h2, h3⟩
  · exact .inl h
  · by_cases hb : b = q
    · subst hb
      by_cases hl : 0 < l.length
      · exact absurd (h3 0 hl) (hq _ _)
      · exact .inl ⟨_, _, List.length_eq_zero_iff.1 (by omega), by rw [h1, show l.length = 0 by omega]⟩
    · exact .inr ⟨b, o, cap, h1, h2, hb, h3⟩
/-- The four cells of what was read, as they begin. -/
structure Gz (W : World) (q : Nat) : Prop where
  c0 : W.cell? ⟨q, 0, none⟩ = some (.int .u64 0)
  c1 : W.cell? ⟨q, 1, none⟩ = some (.bool false)
  c2 : W.cell? ⟨q, 2, none⟩ = some (.slice none 0 0)
  c3 : W.cell? ⟨q, 3, none⟩ = some (.slice none 0 0)
  c4 : ∀ i, 4 ≤ i → W.cell? ⟨q, i, none⟩ = none
  fz : ∀ i, W.frozen? ⟨q, i, none⟩ = false
theorem Gz.bx {p q : Nat} {W W' : World} (h : Gz W q) (hb : Bx p W W') (hq : q < W.heap.size) (hp : q ≠ p) : Gz W' q :=
  ⟨(hb.cell hq hp).trans h.c0, (hb.cell hq hp).trans h.c1, (hb.cell hq hp).trans h.c2, (hb.cell hq hp).trans h.c3, fun i hi => (hb.cell hq hp).trans (h.c4 i hi), fun i => (hb.frozen hq hp).trans (h.fz i)⟩
theorem Gz.made (w : World) (o : Obj) : Gz ((w.alloc o).alloc (.cells #[.int .u64 0, .bool false, .slice none 0 0, .slice none 0 0] 135)) (w.heap.size + 1) :=
  ⟨by simp, by simp, by simp, by simp, fun i hi => by rw [World.cell?_alloc_at _ _ _ _ (by simp)]; simp; omega, fun i => World.frozen?_alloc_at _ _ _ _ (by simp)⟩
end Go.Proofs.YtoioddnlkbjljaaGreatDoor
namespace Go.Proofs.YtoioddnlkbjljaaGreatDoor
open Go.RowKit

/-- What is told: a code, what was being done, where, where the reader is then, the number, flag, text, row. -/
structure Gt where
  c : Int
  op : ByteArray
  wh : Nat
  next : Nat
  n : Int
  f : Bool
  t : List Int
  r : List Int
def askS (l : List Int) (a : Nat) (K M E : Int) : Gt :=
  if K = 0 ∨ K = 1 then ⟨(numS (l.drop a) (abv' M)).1, ⟨#[110, 117, 109]⟩, a, a + (numS (l.drop a) (abv' M)).2.1, (numS (l.drop a) (abv' M)).2.2, false, [], []⟩
  else if K = 2 then ⟨(flagS (l.drop a)).1, ⟨#[102, 108, 97, 103]⟩, a, a + (flagS (l.drop a)).2.1, 0, (flagS (l.drop a)).2.2, [], []⟩
  else if K = 3 then ⟨(textS l a M).1, (textS l a M).2.1, a, (textS l a M).2.2.1, 0, false, (textS l a M).2.2.2, []⟩
  else ⟨(rowS l a M E).1, ⟨#[110, 117, 109]⟩, (rowS l a M E).2.1, (rowS l a M E).2.1, 0, false, [], rowR (rowS l a M E)⟩
theorem numS_next {r : List Int} {most : Int} (hb : Byt r) : (numS r most).2.1 ≤ r.length := by
  rcases hq : numS r most with ⟨c, k, x⟩
  by_cases hc : c = 0
  · subst hc
    obtain ⟨_, _, _, _, _, h⟩ := numS_once hb hq
    exact h
  · obtain ⟨rfl, rfl⟩ := numS_bad hq hc
    exact Nat.zero_le _
theorem Byt.drop {l : List Int} (h : Byt l) (a : Nat) : Byt (l.drop a) := fun x hx => h x (List.mem_of_mem_drop hx)
theorem rowI_next {l : List Int} {most : Int} (hb : Byt l) {a : Nat} (ha : a ≤ l.length) (j : Nat) : (rowI l most a j).2.1 ≤ l.length := by
  induction j with
  | zero => exact ha
  | succ j ih =>
    by_cases h : (rowI l most a j).1 = 0
    · rcases hq : numS (l.drop (rowI l most a j).2.1) most with ⟨c, k, x⟩
      by_cases hc : c = 0
      · subst hc
        rw [rowI_ok h hq]
        have := numS_next (most := most) (hb.drop (rowI l most a j).2.1)
        rw [hq, List.length_drop] at this
        show (rowI l most a j).2.1 + k ≤ l.length
        simp only at this
        omega
      · rw [rowI_bad h hq hc]
        exact ih
    · rw [rowI_stays h 1]
      exact ih
theorem askS_next (l : List Int) (a : Nat) (K M E : Int) (hb : Byt l) (ha : a ≤ l.length) : (askS l a K M E).next ≤ l.length := by
  have h1 := numS_next (most := abv' M) (hb.drop a)
  rw [List.length_drop] at h1
  unfold askS
  split
  · show a + _ ≤ _
    omega
  · split
    · show a + _ ≤ _
      unfold flagS
      split
      · show a + 0 ≤ _
        omega
      · rename_i x r hr
        have : (l.drop a).length = r.length + 1 := by rw [hr]; rfl
        rw [List.length_drop] at this
        split
        · show a + 0 ≤ _
          omega
        · show a + 1 ≤ _
          omega
    · split
      · show (textS l a M).2.2.1 ≤ _
        unfold textS
        have hr := numS_range (l.drop a) (abv' M) (hb.drop a)
        generalize numS (l.drop a) (abv' M) = q at *
        obtain ⟨c, k, x⟩ := q
        simp only at h1 hr ⊢
        split
        · split
          · exact ha
          · show a + k + x.toNat ≤ _
            omega
        · exact ha
      · show (rowS l a M E).2.1 ≤ _
        unfold rowS
        simp only
        split
        · exact rowI_next hb (by omega) _
        · exact ha
theorem rnum_keep (p : Nat) (v : Value) (a most : Int) (t : TypeId) (u : Value) (w : World) (hr : Rd w p v a (.iface t u)) :
    Calls Tryz.prog 104 #[.pointer (some ⟨p, 0, none⟩), .int .u64 most] w fun x w' => x = .returned (.int .u64 0) ∧ Rd w' p v a (.iface t u) ∧ Bx p w w' := by
  refine (rnum_err p v a most t u w hr).mono ?_
  rintro e w' ⟨rfl, rfl⟩
  exact ⟨rfl, hr, Bx.refl _ _⟩
theorem rint_keep (p : Nat) (v : Value) (a m : Int) (t : TypeId) (u : Value) (w : World) (hm : m ≤ 9223372036854775807) (hr : Rd w p v a (.iface t u)) :
    Calls Tryz.prog 74 #[.pointer (some ⟨p, 0, none⟩), .int .i64 m] w fun x w' => x = .returned (.int .i64 0) ∧ Rd w' p v a (.iface t u) ∧ Bx p w w' :=
  rint_of p m (abv' m) 0 w hm rfl ⟨by omega, by omega⟩ (hide (rnum_keep p v a (abv' m) t u w hr))
/-- A slice of things to be read. -/
def Sa (W : World) (v : Value) (l : List (Int × Int × Int)) : Prop :=
  (∃ ao cap, l = [] ∧ v = .slice ao 0 cap) ∨
  (∃ b o cap, v = .slice (some ⟨b, o, none⟩) l.length cap ∧ l.length ≤ cap ∧ ∀ i (h : i < l.length), W.cell? ⟨b, o + i * 3, none⟩ = some (.int .i64 l[i].1) ∧ W.cell? ⟨b, o + i * 3 + 1, none⟩ = some (.int .i64 l[i].2.1) ∧ W.cell? ⟨b, o + i * 3 + 2, none⟩ = some (.int .i64 l[i].2.2))
theorem Sa.below {w w' : World} {v : Value} {l : List (Int × Int × Int)} (h : Sa w v l) (hb : Below w.heap.size w w') : Sa w' v l := by
  rcases h with h | ⟨b, o, cap, h1, h2, h3⟩
  · exact .inl h
  · refine .inr ⟨b, o, cap, h1, h2, fun i hi => ?_⟩
    obtain ⟨a1, a2, a3⟩ := h3 i hi
    exact ⟨(hb.cell (p := ⟨b, o + i * 3, none⟩) (cell_block a1)).trans a1, (hb.cell (p := ⟨b, o + i * 3 + 1, none⟩) (cell_block a2)).trans a2, (hb.cell (p := ⟨b, o + i * 3 + 2, none⟩) (cell_block a3)).trans a3⟩
theorem Sa.get {W : World} {v : Value} {l : List (Int × Int × Int)} (h : Sa W v l) : ∃ ao cap, v = .slice ao l.length cap ∧ ∀ i (h : i < l.length), ∃ b o, ao = some ⟨b, o, none⟩ ∧ b < W.heap.size ∧ W.cell? ⟨b, o + i * 3, none⟩ = some (.int .i64 l[i].1) ∧ W.cell? ⟨b, o + i * 3 + 1, none⟩ = some (.int .i64 l[i].2.1) ∧ W.cell? ⟨b, o + i * 3 + 2, none⟩ = some (.int .i64 l[i].2.2) := by
  rcases h with ⟨ao, cap, rfl, rfl⟩ | ⟨b, o, cap, rfl, h2, h3⟩
  · exact ⟨ao, cap, rfl, fun i hi => by simp at hi⟩
  · exact ⟨_, cap, rfl, fun i hi => ⟨b, o, rfl, cell_block (h3 i hi).1, h3 i hi⟩⟩
end Go.Proofs.YtoioddnlkbjljaaGreatDoor
namespace Go.Proofs.YtoioddnlkbjljaaGreatDoor
open Go.RowKit

set_option maxRecDepth 100000 in
set_option maxHeartbeats 4000000 in
theorem rrow_somed (p : Nat) (v : Value) (l : List Int) (ao : Option Addr) (cap A N M : Nat) (m m2 : Int) (w : World) (hV : v = .slice ao l.length cap) (hv : Slx p bc w v l) (hby : Byt l) (hp : p < w.heap.size) (hm2 : m2 ≤ 9223372036854775807) (hN : N ≤ 9223372036854775807) (hL : l.length ≤ 100000) (hA : A ≤ l.length) (hM : M ≤ 100000) (hK : (if (l.length : Int) - (A : Int) < (N : Int) then (l.length : Int) - (A : Int) else (N : Int)) = (M : Int))
    (HC : Hid (Calls Tryz.prog 74 #[.pointer (some ⟨p, 0, none⟩), .int .i64 m] w fun x w' => x = .returned (.int .i64 (N : Int)) ∧ Rd w' p v A .nilIface ∧ Bx p w w')) :
    Calls Tryz.prog 163 #[.pointer (some ⟨p, 0, none⟩), .int .i64 m, .int .i64 m2] w fun x w' => ∃ v', x = .returned v' ∧ Sld 0 w.heap.size ic w' v' (rowR (rowI l (abv' m2) A N)) ∧ Rd w' p v (rowI l (abv' m2) A N).2.1 (erN ⟨#[110, 117, 109]⟩ (rowI l (abv' m2) A N).2.1 (rowI l (abv' m2) A N).1) ∧ Bx p w w' := by
  obtain ⟨i0, hi, hz0, hz1, hz2⟩ := info_parts infoI
  have hmk := makeInts M hM
  have HV := hide hv
  have HY := hide hby
  clear hv hby
  subst hV
  go_enter Tryz.func163, Tryz.ntmps163
  go_wp2_with (first | (go_at_call 74; refine (HC.out).mono ?_; rintro e w1 ⟨rfl, hr1, hb1⟩; obtain ⟨d0, d1, d2, fz1⟩ := id hr1; have HR1 := hide hr1; have HB1 := hide hb1; clear hr1 hb1 fz1))
  go_region
  go_wp2_with fail
  go_loopw [8, 27] (fun u i wr => ∃ j : Nat, j ≤ N ∧ i = .int .i64 j ∧ (rowI l (abv' m2) A j).1 = 0 ∧ wr.ownsRow w.heap.size 3 1 u (rowI l (abv' m2) A j).2.2.length ((rowI l (abv' m2) A j).2.2.map ic) ∧ Rd wr p (.slice ao l.length cap) (rowI l (abv' m2) A j).2.1 .nilIface ∧ Bx p w wr ∧ w.heap.size ≤ wr.heap.size ∧ (rowI l (abv' m2) A j).2.1 ≤ l.length ∧ (rowI l (abv' m2) A j).2.2.length + A ≤ (rowI l (abv' m2) A j).2.1) (fun _ i _ => N - (intOf i).toNat)
  case atStart =>
    have hs := HB1.out.size
    refine ⟨0, Nat.zero_le _, rfl, rfl, ?_, (HR1.out.drewN 1).alloc _, ((HB1.out.drewN 1).call ((Below.refl _ _).alloc (Nat.le_refl _) _)), by simp; omega, hA, by simp [rowI]⟩
    exact World.ownsRow_made _ _ M (by exact hs) (by unfold maxLen; omega) (by simp [size_madeCells])
  case round =>
    obtain ⟨j, hj, rfl, hz, hown, hr, hb, hs, hal, hln⟩ := hrel
    have hvr := HV.out.bx hb
    by_cases hlt : j < N
    · have h1 := rnum_any p _ l (rowI l (abv' m2) A j).2.1 (abv' m2) wr hr hvr.sl hL HY.out hal
      have hbd : Byt (l.drop (rowI l (abv' m2) A j).2.1) := fun x hx => HY.out x (List.mem_of_mem_drop hx)
      have hrg := numS_range (l.drop (rowI l (abv' m2) A j).2.1) (abv' m2) hbd
      rcases hq : numS (l.drop (rowI l (abv' m2) A j).2.1) (abv' m2) with ⟨c, k, x⟩
      rw [hq] at h1 hrg
      have HC2 := hide (rint_of p m2 (abv' m2) x wr hm2 rfl ⟨hrg.1, by have := hrg.2; simp only at this; omega⟩ (hide h1))
      clear h1
      by_cases hc : c = 0
      · subst hc
        obtain ⟨_, hkn, _, _, _, hkl⟩ := numS_once hbd hq
        rw [List.length_drop] at hkl
        have hk1 : 1 ≤ k := by rw [hkn]; unfold numL; split; · simp
                               split; · simp
                               split <;> simp
        have HE := hide (rowI_ok hz hq)
        simp only [erN, if_true] at HC2
        have HOW := hide hown
        have HBW := hide hb
        clear hq hrg hbd hr hz hvr hkn
        generalize (rowI l (abv' m2) A j).2.2 = xs at *
        generalize (rowI l (abv' m2) A j).2.1 = a1 at *
        go_wp2_with (first
          | (go_at_call 74; refine (HC2.out).mono ?_; rintro e w2 ⟨rfl, hr2, hb2⟩; obtain ⟨k0, k1, k2, fz2⟩ := id hr2; have HR2 := hide hr2; have HB2 := hide hb2; have hown2 := owns_bx HOW.out hb2 hp; have hz2s := hb2.size; clear hr2 hb2 fz2)
          | (at_builtin; refine wpList_append_own _ rfl _ _ 53 rfl w.heap.size 3 i0 (.int .i64 0) 1 8 Tryz.underlying53 hi hz0 hz1 hz2 rfl (by decide) _ _ _ rfl (hown2.alloc _) ⟨w2.heap.size, 0, none⟩ 1 1 [.int .i64 x] rfl rfl ?c1 ?c2 ?c3 ?c4 ?c5 ?_))
        case c1 =>
          intro j u hj
          match j, hj with
          | 0, hj => simp at hj; subst hj; simp [Addr.add, go_sem]
        case c2 => intro u hu; simp at hu; subst hu; rfl
        case c3 => unfold maxLen; omega
        case c4 => omega
        case c5 => simp; omega
        · intro v' w3 hown' hgrow _
          have hge : ∀ k, Value.ownBlock _ = some k → w.heap.size ≤ k := fun k hk => (hown2.lt k hk).1
          have hB : Bx p w w3 := ((HBW.out.trans HB2.out).call ((Below.refl _ _).alloc (Nat.le_refl _) _)).grown hgrow hge
          have hR : Rd w3 p (.slice ao l.length cap) (a1 + k : Nat) .nilIface := (HR2.out.alloc _).grown hgrow (fun k hk => Nat.lt_of_lt_of_le hp (hge k hk))
          have HO3 := hide hown'
          have HB3 := hide hB
          have HR3 := hide hR
          clear hown' hgrow hown2 hge hB hR hown hb
          go_wp2_with fail
          go_roundw
          case rel =>
            refine ⟨j + 1, by omega, by go_num, ?_⟩
            rw [HE.out]
            refine ⟨rfl, by simpa [ic] using HO3.out, HR3.out, HB3.out, HB3.out.size, ?_, ?_⟩
            · show a1 + k ≤ l.length
              omega
            · show (xs ++ [x]).length + A ≤ a1 + k
              simp; omega
          case measure => simp [intOf]; omega
      · obtain ⟨rfl, rfl⟩ := numS_bad hq hc
        have HE := hide (rowI_bad hz hq hc)
        have HF := hide (rowI_stays (l := l) (most := abv' m2) (a := A) (j := j + 1) (by rw [HE.out]; exact hc) (N - (j + 1)))
        simp only [erN, if_neg hc, Nat.add_zero] at HC2
        clear hq hrg hbd
        unfold ft at HC2
        go_wp2_with (first
          | (go_at_call 74; refine (HC2.out).mono ?_; rintro e w2 ⟨rfl, hr2, hb2⟩; obtain ⟨k0, k1, k2, fz2⟩ := id hr2; have HR2 := hide hr2; have HB2 := hide hb2; clear hr2 hb2 fz2))
        go_ret
        refine ⟨_, rfl, ?_⟩
        have hZ : rowI l (abv' m2) A N = (c, (rowI l (abv' m2) A j).2.1, (rowI l (abv' m2) A j).2.2) := by
          rw [← HE.out, ← HF.out]
          congr 1
          omega
        simp only [hZ, erN, rowR, if_neg hc]
        exact ⟨Sld.nil _ _ _ _ _ _, HR2.out, hb.trans HB2.out⟩
    · obtain rfl : j = N := by omega
      clear hlt
      have HR2 := hide hr
      have HO := hide hown
      have HZ := hide hz
      clear hr hown hz
      go_wp2_with fail
      go_ret
      refine ⟨_, rfl, ?_⟩
      simp only [HZ.out, erN, rowR, if_true]
      exact ⟨sld_of_owns 0 HO.out, HR2.out, hb⟩

theorem rrow_anyd (p : Nat) (v : Value) (l : List Int) (a : Nat) (m m2 : Int) (w : World) (hr : Rd w p v a .nilIface) (hv : Slx p bc w v l) (hl : l.length ≤ 100000) (hby : Byt l) (ha : a ≤ l.length) (hm : m ≤ 9223372036854775807) (hm2 : m2 ≤ 9223372036854775807) :
    Calls Tryz.prog 163 #[.pointer (some ⟨p, 0, none⟩), .int .i64 m, .int .i64 m2] w fun x w' => ∃ v', x = .returned v' ∧ Sld 0 w.heap.size ic w' v' (rowR (rowS l a m m2)) ∧ Rd w' p v (rowS l a m m2).2.1 (erN ⟨#[110, 117, 109]⟩ (rowS l a m m2).2.1 (rowS l a m m2).1) ∧ Bx p w w' := by
  have h1 := rnum_any p v l a (abv' m) w hr hv.sl hl hby ha
  have hbd : Byt (l.drop a) := fun x hx => hby x (List.mem_of_mem_drop hx)
  have hrg := numS_range (l.drop a) (abv' m) hbd
  obtain ⟨ao, cap, hV⟩ := hv.sl.form
  unfold rowS
  rcases hq : numS (l.drop a) (abv' m) with ⟨c, k, N⟩
  rw [hq] at h1 hrg
  have HC := hide (rint_of p m (abv' m) N w hm rfl ⟨hrg.1, by have := hrg.2; simp only at this; omega⟩ (hide h1))
  simp only at HC ⊢
  by_cases hc : c = 0
  · subst hc
    obtain ⟨_, _, n0, n1, _, hkl⟩ := numS_once hbd hq
    rw [List.length_drop] at hkl
    simp only [if_true]
    rw [erN, if_pos rfl] at HC
    obtain ⟨N', rfl⟩ := Int.eq_ofNat_of_zero_le n0
    simp only [Int.toNat_natCast] at *
    by_cases hlt : ((l.length : Int) - ((a + k : Nat) : Int)) < (N' : Int)
    · exact rrow_somed p v l ao cap (a + k) N' (l.length - (a + k)) m m2 w hV hv hby hr.lt hm2 (by omega) hl (by omega) (by omega) (by rw [if_pos hlt]; omega) HC
    · exact rrow_somed p v l ao cap (a + k) N' N' m m2 w hV hv hby hr.lt hm2 (by omega) hl (by omega) (by omega) (by rw [if_neg hlt]) HC
  · obtain ⟨rfl, rfl⟩ := numS_bad hq hc
    rw [if_neg hc]
    simp only [erN, rowR, if_neg hc, Nat.add_zero] at HC ⊢
    subst hV
    refine (rrow_none p ao l.length cap a m m2 w _ hl ha HC).mono ?_
    rintro e w' ⟨v', rfl, hs, h1, h2⟩
    obtain ⟨ao', cap', rfl⟩ := hs.form
    exact ⟨_, rfl, Sld.nil _ _ _ _ _ _, h1, h2⟩
end Go.Proofs.YtoioddnlkbjljaaGreatDoor
namespace Go.Proofs.YtoioddnlkbjljaaGreatDoor
open Go.RowKit

/-- The reader at p, of the slice v, is in the state s. -/
def RdG (W : World) (p : Nat) (v : Value) (s : Gs) : Prop := Rd W p v (s.pt : Int) (erN s.op s.pt s.c)
theorem RdG.below {W W' : World} {p : Nat} {v : Value} {s : Gs} (h : RdG W p v s) (hb : Below W.heap.size W W') : RdG W' p v s := Rd.below h hb
theorem RdG.ok {W : World} {p : Nat} {v : Value} {a : Nat} (h : RdG W p v (okS a)) : Rd W p v a .nilIface := h
theorem RdG.bad {W : World} {p : Nat} {v : Value} {s : Gs} (h : RdG W p v s) (hc : s.c ≠ 0) : Rd W p v s.pt (ft s.op s.pt s.c) := by
  unfold RdG at h
  rwa [erN, if_neg hc] at h
theorem rdG_mk {W : World} {p : Nat} {v : Value} {c : Int} {op : ByteArray} {n a : Nat} (hn : c ≠ 0 → n = a) (h : Rd W p v (n : Int) (erN op a c)) : RdG W p v (mkS c op n a) := by
  unfold mkS
  by_cases hc : c = 0
  · subst hc; rw [if_pos rfl]; exact h
  · rw [if_neg hc]
    have := hn hc
    subst this
    exact h
theorem rint_gs (p : Nat) (v : Value) (l : List Int) (m : Int) (s : Gs) (w : World) (hr : RdG w p v s) (hv : Slx p bc w v l) (hl : l.length ≤ 100000) (hby : Byt l) (hs : s.pt ≤ l.length) (h0 : 0 ≤ m) (hm : m ≤ 1073741824) :
    Calls Tryz.prog 74 #[.pointer (some ⟨p, 0, none⟩), .int .i64 m] w fun x w' => x = .returned (.int .i64 (gN m l s).2) ∧ RdG w' p v (gN m l s).1 ∧ Bx p w w' := by
  unfold gN
  by_cases hc : s.c = 0
  · rw [if_pos hc]
    have hr' : Rd w p v s.pt .nilIface := by unfold RdG at hr; rwa [erN, if_pos hc] at hr
    have h1 := rnum_any p v l s.pt m w hr' hv.sl hl hby hs
    have hrg := numS_range (l.drop s.pt) m (fun x hx => hby x (List.mem_of_mem_drop hx))
    refine (rint_of p m m _ w (by omega) (by rw [abv', if_neg (by omega)]) ⟨hrg.1, by omega⟩ (hide h1)).mono ?_
    rintro e w' ⟨rfl, h2, h3⟩
    refine ⟨rfl, rdG_mk (fun q => ?_) h2, h3⟩
    rcases hq : numS (l.drop s.pt) m with ⟨c, k, n⟩
    rw [hq] at q
    have := (numS_bad hq q).1
    simp [this]
  · rw [if_neg hc]
    have hb := hr.bad hc
    refine (rint_keep p v s.pt m _ _ w (by omega) hb).mono ?_
    rintro e w' ⟨rfl, h2, h3⟩
    exact ⟨rfl, by unfold RdG; rw [erN, if_neg hc]; exact h2, h3⟩
theorem rflag_gs (p : Nat) (v : Value) (l : List Int) (s : Gs) (w : World) (hr : RdG w p v s) (hv : Slx p bc w v l) (hl : l.length ≤ 100000) (hs : s.pt ≤ l.length) :
    Calls Tryz.prog 75 #[.pointer (some ⟨p, 0, none⟩)] w fun x w' => x = .returned (.bool (gF l s).2) ∧ RdG w' p v (gF l s).1 ∧ Bx p w w' := by
  unfold gF
  by_cases hc : s.c = 0
  · rw [if_pos hc]
    have hr' : Rd w p v s.pt .nilIface := by unfold RdG at hr; rwa [erN, if_pos hc] at hr
    refine (rflag_any p v l s.pt w hr' hv.sl hl hs).mono ?_
    rintro e w' ⟨rfl, h2, h3⟩
    refine ⟨rfl, rdG_mk (fun q => ?_) h2, h3⟩
    revert q
    unfold flagS
    split
    · intro _; rfl
    · split
      · intro _; rfl
      · intro q; exact absurd rfl q
  · rw [if_neg hc]
    have hb := hr.bad hc
    refine (rflag_err p v s.pt _ _ w hb).mono ?_
    rintro e w' ⟨rfl, rfl⟩
    exact ⟨rfl, by unfold RdG; rw [erN, if_neg hc]; exact hb, Bx.refl _ _⟩
/-- A text's bytes as a string. -/
theorem str_of {W : World} {u : Value} {T : List Int} (h : Sl bc W u T) (hb : Byt T) : (convert 23 9 u).run Tryz.prog W = .ok (.string ⟨(bs T).toArray⟩) W := by
  rcases h with ⟨ao, cap, rfl, rfl⟩ | ⟨b, o, cap, rfl, _, h3⟩
  · cases ao with
    | none =>
      rw [run_convert_bytes_string W 23 9 5 none 0 cap Tryz.underlying23 Tryz.underlying5 Tryz.underlying9]
      simp [Conv.bytesToString]
      rfl
    | some a => exact run_convert_bytes_back W 23 9 5 a cap [] Tryz.underlying23 Tryz.underlying5 Tryz.underlying9 (fun j hj => by simp at hj)
  · have := run_convert_bytes_back W 23 9 5 ⟨b, o, none⟩ cap (bs T) Tryz.underlying23 Tryz.underlying5 Tryz.underlying9 (fun j hj => by
      have hj' : j < T.length := by rwa [bs_len] at hj
      have e := h3 j hj'
      rw [show ((⟨b, o, none⟩ : Addr).add j) = ⟨b, o + j, none⟩ from Addr.add_lit b o j, e]
      have hx := hb T[j] (List.getElem_mem hj')
      have e2 : (bs T)[j] = UInt8.ofNat T[j].toNat := by simp [bs]
      rw [e2, UInt8.toNat_ofNat']
      unfold bc
      congr 2
      omega)
    rwa [bs_len] at this
theorem textS_byt (l : List Int) (a : Nat) (m : Int) (hby : Byt l) : Byt (textS l a m).2.2.2 := by
  unfold textS
  simp only
  split
  · split
    · intro x hx; simp at hx
    · intro x hx; exact hby x (List.mem_of_mem_drop (List.mem_of_mem_take hx))
  · intro x hx; simp at hx
theorem rtext_gs (p : Nat) (v : Value) (l : List Int) (s : Gs) (w : World) (hr : RdG w p v s) (hv : Slx p bc w v l) (hl : l.length ≤ 100000) (hby : Byt l) (hs : s.pt ≤ l.length) :
    Calls Tryz.prog 76 #[.pointer (some ⟨p, 0, none⟩), .int .i64 256] w fun x w' => ∃ u, x = .returned u ∧ (convert 23 9 u).run Tryz.prog w' = .ok (.string ⟨((gT l s).2).toArray⟩) w' ∧ RdG w' p v (gT l s).1 ∧ Bx p w w' := by
  unfold gT
  by_cases hc : s.c = 0
  · rw [if_pos hc]
    have hr' : Rd w p v s.pt .nilIface := by unfold RdG at hr; rwa [erN, if_pos hc] at hr
    refine (rtext_any p v l s.pt 256 w hr' hv hl hby hs (by decide)).mono ?_
    rintro e w' ⟨u, rfl, h1, h2, h3⟩
    refine ⟨u, rfl, str_of h1 (textS_byt l s.pt 256 hby), rdG_mk (fun q => ?_) h2, h3⟩
    revert q
    unfold textS
    simp only
    split
    · split
      · intro _; rfl
      · intro q; exact absurd rfl q
    · intro _; rfl
  · rw [if_neg hc]
    have hb := hr.bad hc
    refine (rtext_bad p v s.pt s.pt 256 0 _ _ _ w hb (hide (rint_keep p v s.pt 256 _ _ w (by decide) hb))).mono ?_
    rintro e w' ⟨rfl, h2, h3⟩
    exact ⟨_, rfl, str_of (Sl.nil _ _ _ _) (fun x hx => by simp at hx), by unfold RdG; rw [erN, if_neg hc]; exact h2, h3⟩
theorem rrow_gs (p : Nat) (v : Value) (l : List Int) (s : Gs) (w : World) (hr : RdG w p v s) (hv : Slx p bc w v l) (hl : l.length ≤ 100000) (hby : Byt l) (hs : s.pt ≤ l.length) :
    Calls Tryz.prog 163 #[.pointer (some ⟨p, 0, none⟩), .int .i64 7, .int .i64 64] w fun x w' => ∃ u, x = .returned u ∧ Sli (fun b => w.heap.size ≤ b) w' u (gR l s).2 ∧ RdG w' p v (gR l s).1 ∧ Bx p w w' := by
  unfold gR
  by_cases hc : s.c = 0
  · rw [if_pos hc]
    have hr' : Rd w p v s.pt .nilIface := by unfold RdG at hr; rwa [erN, if_pos hc] at hr
    refine (rrow_anyd p v l s.pt 7 64 w hr' hv hl hby hs (by decide) (by decide)).mono ?_
    rintro e w' ⟨u, rfl, h1, h2, h3⟩
    refine ⟨u, rfl, ?_, rdG_mk (fun _ => rfl) h2, h3⟩
    rcases h1 with h1 | ⟨b, o, cap, e1, e2, e3, e4⟩
    · exact .inl h1
    · exact .inr ⟨b, o, cap, e1, e2, by omega, e4⟩
  · rw [if_neg hc]
    have hb := hr.bad hc
    obtain ⟨ao, cap, rfl⟩ := hv.sl.form
    refine (rrow_none p ao l.length cap s.pt 7 64 w _ hl hs (hide (rint_keep p _ s.pt 7 _ _ w (by decide) hb))).mono ?_
    rintro e w' ⟨u, rfl, h1, h2, h3⟩
    obtain ⟨ao', cap', rfl⟩ := h1.form
    exact ⟨_, rfl, Sli.nil _ _ _ _, by unfold RdG; rw [erN, if_neg hc]; exact h2, h3⟩
/-- Something is wrong where it is, if nothing was wrong before. -/
def refS (op : ByteArray) (c : Int) (s : Gs) : Gs := if s.c = 0 then ⟨c, op, s.pt⟩ else s
theorem refuse_gs (p : Nat) (v : Value) (s : Gs) (op : ByteArray) (c : Int) (w : World) (hc0 : c ≠ 0) (hr : RdG w p v s) :
    Calls Tryz.prog 78 #[.pointer (some ⟨p, 0, none⟩), .string op, .int .i64 c] w fun x w' => x = .returned (.tuple #[]) ∧ RdG w' p v (refS op c s) ∧ Bx p w w' := by
  unfold refS
  by_cases hc : s.c = 0
  · rw [if_pos hc]
    have hr' : Rd w p v s.pt .nilIface := by unfold RdG at hr; rwa [erN, if_pos hc] at hr
    refine (refuse_none p v s.pt op c w hr').mono ?_
    rintro e w' ⟨rfl, rfl⟩
    exact ⟨rfl, by unfold RdG; rw [erN, if_neg hc0]; exact hr'.sete _, (Bx.refl _ _).set _ _⟩
  · rw [if_neg hc]
    have hb := hr.bad hc
    refine (refuse_some p v s.pt _ _ op c w hb).mono ?_
    rintro e w' ⟨rfl, rfl⟩
    exact ⟨rfl, hr, Bx.refl _ _⟩
end Go.Proofs.YtoioddnlkbjljaaGreatDoor
namespace Go.Proofs.YtoioddnlkbjljaaGreatDoor
open Go.RowKit

theorem rw_form {B : Nat} {w : World} {v : Value} {m : Nat} {cur : List Value} (h : Rw B w v m cur) : ∃ ao, v = .slice ao m cur.length ∧ (ao = none → m = 0 ∧ cur = []) ∧ ∀ a, ao = some a → ∃ g, a = ⟨g, 0, none⟩ ∧ B ≤ g ∧ w.heap[g]? = some (.cells cur.toArray 5 (0, 0)) := by
  obtain ⟨r1, r2, r3⟩ := h
  rcases r3 with ⟨rfl, rfl⟩ | ⟨g, rfl, a2, a3⟩
  · have : m = 0 := by simpa using r1
    subst this
    exact ⟨none, rfl, fun _ => ⟨rfl, rfl⟩, fun a ha => by cases ha⟩
  · exact ⟨some ⟨g, 0, none⟩, rfl, (fun h => by cases h), fun a ha => ⟨g, by cases ha; rfl, a2, a3⟩⟩
set_option maxRecDepth 100000 in
set_option maxHeartbeats 8000000 in
theorem grow_room (ao : Option Addr) (m c k : Nat) (w : World) (hm : m ≤ c) (hc : c ≤ 9223372036854775807) (hk : k ≤ 900000) (hr : m + k ≤ c) :
    Calls Tryz.prog 94 #[.slice ao m c, .int .i64 (k : Int)] w fun e w' => e = .returned (.slice ao m c) ∧ w' = w := by
  have h1 : ¬ (k : Int) < 0 := by omega
  have h2 : wrap64 ((c : Int) - (m : Int)) = (c : Int) - (m : Int) := by unfold wrap64; omega
  have h3 : wrap64 ((k : Int) - ((c : Int) - (m : Int))) = (k : Int) - ((c : Int) - (m : Int)) := by unfold wrap64; omega
  have h4 : ¬ (k : Int) - ((c : Int) - (m : Int)) > 0 := by omega
  go_enter Tryz.func94, Tryz.ntmps94
  go_wp2
  go_ret
  exact ⟨rfl, rfl⟩
theorem wpList_append_run (w w' : World) {ops : Array Oper} {rest : List Oper} {o : Oper} {a : Act} {Q : Exit → Act → World → Prop} (hgd : o.guard = none) (s x : Operand)
    (ho : o.op = .call { callee := .builtin .append, args := #[s, x], argTypes := #[23, 3] }) (vs vx v' : Value) (hs : a.eval s = vs) (hx : a.eval x = vx)
    (hrun : ∀ ty, (Builtin.append_ #[23, 3] ty #[vs, vx]).run Tryz.prog w = .ok v' w') (h : wpList Tryz.prog ops Q rest (a.put o.dst v') w') : wpList Tryz.prog ops Q (o :: rest) a w := by
  refine wpList_plain hgd fun K hK => ?_
  unfold Oper.wp
  simp [execOp, ho, resolve, invoke, builtin, hs, hx, hrun, Result.andThen]
  exact hK _ _ h
set_option maxRecDepth 100000 in
set_option maxHeartbeats 8000000 in
theorem grow_more (ao : Option Addr) (m k : Nat) (cur : List Value) (w : World) (hm : m ≤ cur.length) (hk : m + k ≤ 900000) (hr : cur.length < m + k) (hnil : ao = none → cur = []) (hcs : ∀ a, ao = some a → ∀ j u, cur[j]? = some u → w.cell? (a.add j) = some u) :
    Calls Tryz.prog 94 #[.slice ao m cur.length, .int .i64 (k : Int)] w fun e w' => ∃ c2 : List Value, e = .returned (.slice (some ⟨w.heap.size, 0, none⟩) m c2.length) ∧ w' = (w.alloc (.cells c2.toArray 5)).drew ∧ m + k ≤ c2.length ∧ c2.length ≤ maxLen ∧ c2.take cur.length = cur := by
  obtain ⟨i0, hi, hz0, hz1, hz2⟩ := info_parts infoB
  have h1 : ¬ (k : Int) < 0 := by omega
  have h2 : wrap64 ((cur.length : Int) - (m : Int)) = (cur.length : Int) - (m : Int) := by unfold wrap64; omega
  have h3 : wrap64 ((k : Int) - ((cur.length : Int) - (m : Int))) = (k : Int) - ((cur.length : Int) - (m : Int)) := by unfold wrap64; omega
  have h4 : (k : Int) - ((cur.length : Int) - (m : Int)) > 0 := by omega
  have hold : (Builtin.firstCells i0.size cur.length (.slice ao cur.length cur.length)).run Tryz.prog w.drew = .ok cur.toArray w.drew := by
    cases ao with
    | none => rw [hnil rfl]; exact run_firstCells_none _ _ _ _ _
    | some a => exact run_firstCells_some _ _ _ _ _ _ _ (by rw [hz1]; omega) (fun j u hj => hcs a rfl j u hj)
  have hw : wrap64 ((cur.length : Int)) = cur.length := by unfold wrap64; omega
  have hck : cur.length + (m + k - cur.length) = m + k := by omega
  have hap : ∀ ty, (Builtin.append_ #[23, 3] ty #[.slice ao cur.length cur.length, .int .i64 ((k : Int) - ((cur.length : Int) - (m : Int)))]).run Tryz.prog w =
      .ok (.slice (some ⟨w.heap.size, 0, none⟩) (m + k) (grownCap w (m + k) cur.length 5)) (w.drew.alloc (.cells (cur.toArray ++ Builtin.zeroCells (Value.int .u8 0).cells (m + k - cur.length) ++ Builtin.zeroCells (Value.int .u8 0).cells (grownCap w (m + k) cur.length 5 - (m + k))) 5)) := fun ty => by
    have h := Lib.run_append_grow_zeros (P := Tryz.prog) w 23 3 ty 5 i0 (.int .u8 0) .i64 .i64 Tryz.underlying23 Tryz.underlying3 hi hz0 ao cur.length cur.length cur hold (m + k - cur.length) (by omega) (by omega) (by omega) (by omega) (by rw [hz2]; omega) (by rw [hck]; exact growslice_fits hr (by rw [hz2]; omega))
    rw [hck] at h
    rw [show (k : Int) - ((cur.length : Int) - (m : Int)) = ((m + k - cur.length : Nat) : Int) by omega]
    exact h
  have hGn : m + k ≤ grownCap w (m + k) cur.length 5 := grownCap_ge w _ _ _
  have hGm : grownCap w (m + k) cur.length 5 ≤ maxLen := grownCap_le_maxLen w _ _ _ (by unfold maxLen; omega)
  generalize grownCap w (m + k) cur.length 5 = G at *
  have hG63 : G ≤ 9223372036854775807 := by unfold maxLen at hGm; omega
  have HM := hide hGm
  clear hold hcs hck hGm
  have fin : ∀ zs : List Value, zs = (Builtin.zeroCells (Value.int .u8 0).cells (m + k - cur.length) ++ Builtin.zeroCells (Value.int .u8 0).cells (G - (m + k))).toList → (cur ++ zs).length = G ∧ (cur ++ zs).toArray = cur.toArray ++ Builtin.zeroCells (Value.int .u8 0).cells (m + k - cur.length) ++ Builtin.zeroCells (Value.int .u8 0).cells (G - (m + k)) := by
    rintro zs rfl
    refine ⟨?_, ?_⟩
    · have e1 : (Value.int .u8 0).cells.size = 1 := rfl
      simp only [List.length_append, Array.length_toList, Array.size_append, size_zeroCells, e1]
      omega
    · apply Array.ext'
      simp
  have FIN := hide (fin _ rfl)
  clear fin
  generalize (Builtin.zeroCells (Value.int .u8 0).cells (m + k - cur.length) ++ Builtin.zeroCells (Value.int .u8 0).cells (G - (m + k))).toList = ZS at *
  generalize cur.toArray ++ Builtin.zeroCells (Value.int .u8 0).cells (m + k - cur.length) ++ Builtin.zeroCells (Value.int .u8 0).cells (G - (m + k)) = CS at *
  have R : ∃ c2 : List Value, Ending.returned (.slice (some ⟨w.heap.size, 0, none⟩) m G) = .returned (.slice (some ⟨w.heap.size, 0, none⟩) m c2.length) ∧ (w.alloc (.cells CS 5)).drew = (w.alloc (.cells c2.toArray 5)).drew ∧ m + k ≤ c2.length ∧ c2.length ≤ maxLen ∧ c2.take cur.length = cur :=
    ⟨cur ++ ZS, by rw [FIN.out.1], by rw [FIN.out.2], by rw [FIN.out.1]; exact hGn, by rw [FIN.out.1]; exact HM.out, by simp⟩
  have HR := hide R
  have HAP := hide hap
  clear R FIN HM hap
  cases ao with
  | none =>
    obtain rfl := hnil rfl
    obtain rfl : m = 0 := by simpa using hm
    go_enter Tryz.func94, Tryz.ntmps94
    go_wp2_with (first | (at_builtin; refine wpList_append_run _ _ rfl _ _ rfl _ _ _ rfl rfl HAP.out ?_))
    go_ret
    simpa using HR.out
  | some a =>
    go_enter Tryz.func94, Tryz.ntmps94
    go_wp2_with (first | (at_builtin; refine wpList_append_run _ _ rfl _ _ rfl _ _ _ rfl rfl HAP.out ?_))
    go_ret
    simpa using HR.out
/-- Behind a Grow: a row of its own, with room. -/
theorem grow_any (B : Nat) (v : Value) (m k : Nat) (cur : List Value) (w : World) (hr : Rw B w v m cur) (hB : B ≤ w.heap.size) (hk0 : 0 < k) (hk : m + k ≤ 900000) :
    Calls Tryz.prog 94 #[v, .int .i64 (k : Int)] w fun e w' => ∃ (g : Nat) (c2 : List Value), e = .returned (.slice (some ⟨g, 0, none⟩) m c2.length) ∧ w'.heap[g]? = some (.cells c2.toArray 5 (0, 0)) ∧ B ≤ g ∧ (v.ownBlock = some g ∨ w.heap.size ≤ g) ∧ m + k ≤ c2.length ∧ c2.length ≤ maxLen ∧ c2.take m = cur.take m ∧ Below w.heap.size w w' := by
  obtain ⟨ao, rfl, hn, hs⟩ := rw_form hr
  obtain ⟨r1, r2, _⟩ := hr
  by_cases hf : m + k ≤ cur.length
  · cases ao with
    | none =>
      obtain ⟨_, rfl⟩ := hn rfl
      simp at hf
      omega
    | some a =>
      obtain ⟨g, rfl, hg, hh⟩ := hs a rfl
      refine (grow_room (some ⟨g, 0, none⟩) m cur.length k w r1 (by unfold maxLen at r2; omega) (by omega) hf).mono ?_
      rintro e w' ⟨rfl, rfl⟩
      exact ⟨g, cur, rfl, hh, hg, .inl rfl, hf, r2, rfl, Below.refl _ _⟩
  · refine (grow_more ao m k cur w r1 hk (by omega) (fun h => (hn h).2) ?_).mono ?_
    · intro a ha j u hj
      obtain ⟨g, rfl, _, hh⟩ := hs a ha
      rw [Addr.add_lit]
      simp only [World.cell?, hh, Nat.zero_add]
      simpa using hj
    · rintro e w' ⟨c2, rfl, rfl, h1, h2, h3⟩
      refine ⟨w.heap.size, c2, rfl, ?_, hB, .inr (Nat.le_refl _), h1, h2, ?_, ((Below.refl _ _).alloc (Nat.le_refl _) _).drew⟩
      · show (w.alloc (.cells c2.toArray 5)).heap[w.heap.size]? = _
        exact Array.getElem?_push_size
      · have := congrArg (List.take m) h3
        rw [List.take_take, Nat.min_eq_left r1] at this
        exact this
theorem size5 : (Tryz.prog.info? 5).map (·.size) = some 1 := by kernel_rfl
end Go.Proofs.YtoioddnlkbjljaaGreatDoor
