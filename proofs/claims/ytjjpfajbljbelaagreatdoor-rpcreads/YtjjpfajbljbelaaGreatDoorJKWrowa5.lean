/-
  A READER's NEXT TEXT AND ROW, as functions of the bytes, the place and the limits (wire.Reader.Text, Row). Conditions: the bytes' cells hold them, each is a byte, no more than a hundred thousand, they don't lie in the reader, and the reader is within them.
  THE DOCUMENT's NUMBERS AS BYTES (castellanref02.size, Num, Int, Flag): at every number. No condition but that a number fits its kind.
  TEXTS, BYTE BY BYTE (castellanref02.Same): two slices with the same bytes are the same. Condition: no more than forty thousand.
  THE DOCUMENT's TEXTS AND ROWS AS BYTES (castellanref02.Text, Row), and its Same and Ints, where both lists are the same. Conditions: the slices' cells hold the lists, and no more than four thousand elements.
  WHAT IS WRITTEN IS READ AS WHAT IT WAS, on lists alone (no program in sight): numbers, texts, rows. Conditions: bytes are bytes, numbers are in their bounds.
-/
import Derived.Test.YtjjpfajbljbelaaGreatDoorJKWreada5
namespace Go.Proofs.YtjjpfajbljbelaaGreatDoor
open Go.RowKit
def Slx {α : Type} (p : Nat) (f : α → Value) (W : World) (v : Value) (l : List α) : Prop :=
 (∃ ao cap, l = [] ∧ v = .slice ao 0 cap) ∨
 (∃ b o cap, v = .slice (some ⟨b, o, none⟩) l.length cap ∧ l.length ≤ cap ∧ b ≠ p ∧ ∀ i (h : i < l.length), W.cell? ⟨b, o + i, none⟩ = some (f l[i]))
theorem Slx.sl {α : Type} {p : Nat} {f : α → Value} {W : World} {v : Value} {l : List α} (h : Slx p f W v l) : Sl f W v l := by
 rcases h with h | ⟨b, o, cap, h1, h2, _, h3⟩
 ·exact .inl h
 ·exact .inr ⟨b, o, cap, h1, h2, h3⟩
theorem Slx.bx {α : Type} {p : Nat} {f : α → Value} {W W' : World} {v : Value} {l : List α} (h : Slx p f W v l) (hb : Bx p W W') : Slx p f W' v l := by
 rcases h with h | ⟨b, o, cap, h1, h2, hp, h3⟩
 ·exact .inl h
 ·exact .inr ⟨b, o, cap, h1, h2, hp, fun i hi => (hb.cell (cell_block (h3 i hi)) hp).trans (h3 i hi)⟩
theorem Slx.below {α : Type} {p : Nat} {f : α → Value} {W W' : World} {v : Value} {l : List α} (h : Slx p f W v l) (hb : Below W.heap.size W W') : Slx p f W' v l := h.bx (Bx.of hb)
theorem Sl.out {α : Type} {p : Nat} {f : α → Value} {W : World} {v : Value} {l : List α} (h : Sl f W v l) (hp : W.heap.size ≤ p) : Slx p f W v l := by
 rcases h with h | ⟨b, o, cap, h1, h2, h3⟩
 ·exact .inl h
 ·rcases l with _ | ⟨x, l⟩
  ·exact .inl ⟨_, _, rfl, h1⟩
  ·have := cell_block (h3 0 (by simp))
   exact .inr ⟨b, o, cap, h1, h2, by simp at this; omega, h3⟩
def textS (l : List Int) (a : Nat) (m : Int) : Int × ByteArray × Nat × List Int :=
 let q := numS (l.drop a) (abv' m)
 if q.1 = 0 then (if ((l.length - (a + q.2.1) : Nat) : Int) < q.2.2 then (3, ⟨#[116, 101, 120, 116]⟩, a, []) else (0, ⟨#[110, 117, 109]⟩, a + q.2.1 + q.2.2.toNat, (l.drop (a + q.2.1)).take q.2.2.toNat))
 else (q.1, ⟨#[110, 117, 109]⟩, a, [])
theorem rtext_any (p : Nat) (v : Value) (l : List Int) (a : Nat) (m : Int) (w : World) (hr : Rd w p v a .nilIface) (hv : Slx p bc w v l) (hl : l.length ≤ 100000) (hby : Byt l) (ha : a ≤ l.length) (hm : m ≤ 9223372036854775807) :
  Calls Tryz.prog 53 #[.pointer (some ⟨p, 0, none⟩), .int .i64 m] w fun x w' => ∃ v', x = .returned v' ∧ Sl bc w' v' (textS l a m).2.2.2 ∧ Rd w' p v (textS l a m).2.2.1 (erN (textS l a m).2.1 a (textS l a m).1) ∧ Bx p w w' := by
 have h1 := rnum_any p v l a (abv' m) w hr hv.sl hl hby ha
 have hbd : Byt (l.drop a) := fun x hx => hby x (List.mem_of_mem_drop hx)
 have hrg := numS_range (l.drop a) (abv' m) hbd
 unfold textS
 rcases hq : numS (l.drop a) (abv' m) with ⟨c, k, N⟩
 rw [hq] at h1 hrg
 have HC := hide (rint_of p m (abv' m) N w hm rfl ⟨hrg.1, by have := hrg.2; simp only at this; omega⟩ (hide h1))
 simp only at HC ⊢
 by_cases hc : c = 0
 ·subst hc
  obtain ⟨_, _, n0, n1, _, hkl⟩ := numS_once hbd hq
  rw [List.length_drop] at hkl
  simp only [erN, if_true] at HC ⊢
  by_cases hs : ((l.length - (a + k) : Nat) : Int) < N
  ·rw [if_pos hs]
   rcases hv with ⟨ao, cap, rfl, rfl⟩ | ⟨b, o, cap, rfl, hcap, hp, h3⟩
   ·simp [numS] at hq
   ·refine (rtext_short p (some ⟨b, o, none⟩) l.length cap (a + k) a m N .nilIface w hr hl hcap (by omega) hs HC).mono ?_
    rintro e w' ⟨rfl, h2, h3⟩
    exact ⟨_, rfl, Sl.nil _ _ _ _, h2, h3⟩
  ·rw [if_neg hs]
   obtain ⟨N', rfl⟩ := Int.eq_ofNat_of_zero_le n0
   simp only [Int.toNat_natCast] at *
   by_cases hz : N' = 0
   ·subst hz
    simp only [List.take_zero, Nat.add_zero]
    rcases hv with ⟨ao, cap, rfl, rfl⟩ | ⟨b, o, cap, rfl, hcap, hp, h3⟩
    ·simp [numS] at hq
    ·exact rtext_zero p (some ⟨b, o, none⟩) l.length cap (a + k) a m .nilIface w hr hl hcap (by omega) HC
   ·rcases hv with ⟨ao, cap, rfl, rfl⟩ | ⟨b, o, cap, rfl, hcap, hp, h3⟩
    ·simp [numS] at hq
    ·have hlen : ((l.drop (a + k)).take N').length = N' := by rw [List.length_take, List.length_drop]; omega
     have h4 := rtext_ok p b o l.length cap (a + k) a m .nilIface ((l.drop (a + k)).take N') w hr hl hcap (by omega) (by omega) hp (by
      intro i hi
      rw [hlen] at hi
      have := h3 (a + k + i) (by omega)
      rw [← Nat.add_assoc] at this
      rw [this]
      simp [List.getElem_take, List.getElem_drop]) (by rw [hlen]; exact HC)
     rw [hlen] at h4
     exact h4
 ·obtain ⟨rfl, rfl⟩ := numS_bad hq hc
  rw [if_neg hc]
  simp only [erN, if_neg hc, Nat.add_zero] at HC ⊢
  refine (rtext_bad p v a a m 0 .nilIface _ _ w hr HC).mono ?_
  rintro e w' ⟨rfl, h2, h3⟩
  exact ⟨_, rfl, Sl.nil _ _ _ _, h2, h3⟩
theorem infoI : (Tryz.prog.info? 3).map (fun i => (i.zero, i.size, i.bytes)) = some (some (.int .i64 0), 1, 8) := by kernel_rfl
theorem owns_bx {w w' : World} {p base m size : Nat} {e : TypeId} {v : Value} {xs : List Value} (h : w.ownsRow base e size v m xs) (hb : Bx p w w') (hp : p < base) : w'.ownsRow base e size v m xs := by
 obtain ⟨h1, h2⟩ := h
 refine ⟨h1, ?_⟩
 rcases h2 with h2 | ⟨g, cap, cur, a1, a2, a3, a4⟩
 ·exact .inl h2
 ·refine .inr ⟨g, cap, cur, a1, a2, ?_, a4⟩
  rw [hb.block g (Array.getElem?_eq_some_iff.1 a3).1 (by omega)]
  exact a3
theorem Bx.grown {p : Nat} {a w w' : World} {row : Option Nat} (h : Bx p a w) (hg : w.grownBy w' row) (hr : ∀ k, row = some k → a.heap.size ≤ k) : Bx p a w' :=
 ⟨hg.os.trans h.os, hg.tape.trans h.tape, hg.output.trans h.output, Nat.le_trans h.size hg.size, fun k hk hp => (hg.block k (Nat.lt_of_lt_of_le hk h.size) (fun e => by have := hr k e.symm; omega)).trans (h.block k hk hp)⟩
theorem Rd.grown {w w' : World} {row : Option Nat} {p : Nat} {v : Value} {a : Int} {e : Value} (h : Rd w p v a e) (hg : w.grownBy w' row) (hr : ∀ k, row = some k → p < k) : Rd w' p v a e :=
 have hne : some p ≠ row := fun q => Nat.lt_irrefl _ (hr p q.symm)
 have hbl : w'.heap[p]? = w.heap[p]? := hg.block p h.lt hne
 ⟨hg.cell h.c0 hne, hg.cell h.c1 hne, hg.cell h.c2 hne, fun i => (World.frozen?_of_block (a := ⟨p, i, none⟩) hbl).trans (h.fz i)⟩
theorem Rd.alloc {w : World} {p : Nat} {v : Value} {a : Int} {e : Value} (h : Rd w p v a e) (o : Obj) : Rd (w.alloc o) p v a e := h.below ((Below.refl _ _).alloc (Nat.le_refl _) _)
def rowI (l : List Int) (most : Int) (a : Nat) : Nat → Int × Nat × List Int
 | 0 => (0, a, [])
 | j + 1 =>
  let q := rowI l most a j
  if q.1 = 0 then (let s := numS (l.drop q.2.1) most; if s.1 = 0 then (0, q.2.1 + s.2.1, q.2.2 ++ [s.2.2]) else (s.1, q.2.1, q.2.2)) else q
def rowR (z : Int × Nat × List Int) : List Int := if z.1 = 0 then z.2.2 else []
theorem rowI_stays {l : List Int} {most : Int} {a j : Nat} (h : (rowI l most a j).1 ≠ 0) (d : Nat) : rowI l most a (j + d) = rowI l most a j := by
 induction d with
 | zero => rfl
 | succ d ih =>
  show rowI l most a (j + d + 1) = _
  rw [rowI, ih]
  simp only [if_neg h]
theorem rowI_ok {l : List Int} {most : Int} {a j k : Nat} {x : Int} (h : (rowI l most a j).1 = 0) (hq : numS (l.drop (rowI l most a j).2.1) most = (0, k, x)) : rowI l most a (j + 1) = (0, (rowI l most a j).2.1 + k, (rowI l most a j).2.2 ++ [x]) := by
 rw [rowI]
 simp only [if_pos h, hq, if_true]
theorem rowI_bad {l : List Int} {most : Int} {a j k : Nat} {c x : Int} (h : (rowI l most a j).1 = 0) (hq : numS (l.drop (rowI l most a j).2.1) most = (c, k, x)) (hc : c ≠ 0) : rowI l most a (j + 1) = (c, (rowI l most a j).2.1, (rowI l most a j).2.2) := by
 rw [rowI]
 simp only [if_pos h, hq, if_neg hc]
theorem makeInts (M : Nat) (hM : M ≤ 100000) (W : World) : (Instr.makeSlice 43 (.int .i64 0) (.int .i64 (M : Int))).run Tryz.prog W = .ok (.slice (some ⟨W.heap.size, 0, none⟩) 0 M) (W.alloc (.cells (madeCells #[.int .i64 0] M) 3)) := by
 obtain ⟨i0, hi, hz0, hz1, hz2⟩ := info_parts infoI
 have h := run_make (P := Tryz.prog) W 43 3 i0 (.int .i64 0) Tryz.underlying43 hi hz0 .i64 .i64 0 (M : Int) (by omega) (by omega) (by rw [hz2]; omega) (by omega)
 rw [hz1] at h
 simpa [Value.cells] using h
set_option maxRecDepth 100000 in
set_option maxHeartbeats 4000000 in
theorem rrow_none (p : Nat) (ao : Option Addr) (L cap A : Nat) (m m2 : Int) (w : World) (E : Value) (hL : L ≤ 100000) (hA : A ≤ L)
  (HC : Hid (Calls Tryz.prog 50 #[.pointer (some ⟨p, 0, none⟩), .int .i64 m] w fun x w' => x = .returned (.int .i64 0) ∧ Rd w' p (.slice ao L cap) A E ∧ Bx p w w')) :
  Calls Tryz.prog 137 #[.pointer (some ⟨p, 0, none⟩), .int .i64 m, .int .i64 m2] w fun x w' => ∃ v, x = .returned v ∧ Sl ic w' v [] ∧ Rd w' p (.slice ao L cap) A E ∧ Bx p w w' := by
 have hmk : ∀ W, (Instr.makeSlice 43 (.int .i64 0) (.int .i64 0)).run Tryz.prog W = .ok (.slice (some ⟨W.heap.size, 0, none⟩) 0 0) (W.alloc (.cells (madeCells #[.int .i64 0] 0) 3)) := makeInts 0 (by decide)
 have hK : ¬ (L : Int) - (A : Int) < 0 := by omega
 go_enter Tryz.func137, Tryz.ntmps137
 go_wp2_with (first | (go_at_call 50; refine (HC.out).mono ?_; rintro e w1 ⟨rfl, hr1, hb1⟩; obtain ⟨d0, d1, d2, fz1⟩ := id hr1; have HR1 := hide hr1; have HB1 := hide hb1; clear hr1 hb1 fz1))
 go_region
 go_wp2_with fail
 refine wp_loop_rounds 1 ?_
 rw [rounds_succ]
 go_wp2_with fail
 go_ret
 exact ⟨_, rfl, Sl.nil _ _ _ _, (HR1.out.drewN 1).alloc _, ((HB1.out.drewN 1).call ((Below.refl _ _).alloc (Nat.le_refl _) _))⟩
def rowS (l : List Int) (a : Nat) (m m2 : Int) : Int × Nat × List Int :=
 let q := numS (l.drop a) (abv' m)
 if q.1 = 0 then rowI l (abv' m2) (a + q.2.1) q.2.2.toNat else (q.1, a, [])
theorem size_1 (n : Int) (w : World) (h : n < 64) : Calls Tryz.prog 114 #[.int .u64 n] w fun e w' => e = .returned (.int .i64 1) ∧ w' = w := by
 go_enter Tryz.func114, Tryz.ntmps114
 go_wp2
 go_ret
 exact ⟨rfl, rfl⟩
theorem size_2 (n : Int) (w : World) (h0 : ¬ n < 64) (h : n < 16384) : Calls Tryz.prog 114 #[.int .u64 n] w fun e w' => e = .returned (.int .i64 2) ∧ w' = w := by
 go_enter Tryz.func114, Tryz.ntmps114
 go_wp2
 go_ret
 exact ⟨rfl, rfl⟩
theorem size_4 (n : Int) (w : World) (h0 : ¬ n < 64) (h1 : ¬ n < 16384) (h : n < 1073741824) : Calls Tryz.prog 114 #[.int .u64 n] w fun e w' => e = .returned (.int .i64 4) ∧ w' = w := by
 go_enter Tryz.func114, Tryz.ntmps114
 go_wp2
 go_ret
 exact ⟨rfl, rfl⟩
theorem size_8 (n : Int) (w : World) (h0 : ¬ n < 64) (h1 : ¬ n < 16384) (h : ¬ n < 1073741824) : Calls Tryz.prog 114 #[.int .u64 n] w fun e w' => e = .returned (.int .i64 8) ∧ w' = w := by
 go_enter Tryz.func114, Tryz.ntmps114
 go_wp2
 go_ret
 exact ⟨rfl, rfl⟩
set_option maxRecDepth 100000 in
set_option maxHeartbeats 4000000 in
theorem same_bytes (v u : Value) (a : List Int) (w : World) (hv : Sl bc w v a) (hu : Sl bc w u a) (hl : a.length ≤ 40000) :
  Calls Tryz.prog 28 #[v, u] w fun e w' => e = .returned (.bool true) ∧ Below w.heap.size w w' := by
 rcases hv with ⟨ao, cap, rfl, rfl⟩ | ⟨b, o, cap, rfl, h2, h3⟩
 ·rcases hu with ⟨ao', cap', _, rfl⟩ | ⟨b, o, cap', rfl, h2, h3⟩
  all_goals
   go_enter Tryz.func28, Tryz.ntmps28
   go_wp2
   refine wp_loop_rounds 1 ?_
   rw [rounds_succ]
   go_wp2
   go_ret
   exact ⟨rfl, Below.refl _ _⟩
 ·rcases hu with ⟨ao', cap', rfl, rfl⟩ | ⟨b', o', cap', rfl, h2', h3'⟩
  ·go_enter Tryz.func28, Tryz.ntmps28
   go_wp2
   refine wp_loop_rounds 1 ?_
   rw [rounds_succ]
   go_wp2
   go_ret
   exact ⟨rfl, Below.refl _ _⟩
  ·have H3 := hide h3
   have H3' := hide h3'
   clear h3 h3'
   go_enter Tryz.func28, Tryz.ntmps28
   go_wp2
   go_loopw [5] (fun i W => ∃ k : Nat, k ≤ a.length ∧ i = .int .i64 k ∧ Below w.heap.size w W) (fun i _ => a.length - (intOf i).toNat)
   case atStart => exact ⟨0, Nat.zero_le _, rfl, Below.refl _ _⟩
   case round =>
    obtain ⟨k, hk, rfl, hb⟩ := hrel
    by_cases hlt : k < a.length
    ·have hc : wr.cell? ⟨b, o + k, none⟩ = some (.int .u8 a[k]) := by rw [hb.cell (p := ⟨b, o + k, none⟩) (cell_block (H3.out k hlt))]; exact H3.out k hlt
     have hc' : wr.cell? ⟨b', o' + k, none⟩ = some (.int .u8 a[k]) := by rw [hb.cell (p := ⟨b', o' + k, none⟩) (cell_block (H3'.out k hlt))]; exact H3'.out k hlt
     generalize a[k] = sk at *
     go_wp2_with fail
     go_quiet (fail)
     go_wp2
     exact ⟨⟨k + 1, by omega, by go_num, below_drewN hb _⟩, by simp [intOf]; omega⟩
    ·go_wp2
     go_ret
     exact ⟨rfl, hb⟩
def rowL (l : List Int) : List Int := l.flatMap intL
theorem rowL_snoc (l : List Int) (j : Nat) (h : j < l.length) : rowL (l.take (j + 1)) = rowL (l.take j) ++ intL l[j] := by
 rw [List.take_succ_eq_append_getElem h]
 simp only [rowL, List.flatMap_append, List.flatMap_cons, List.flatMap_nil, List.append_nil]
theorem rowL_le (l : List Int) : (rowL l).length ≤ 8 * l.length := by
 induction l with
 | nil => simp [rowL]
 | cons a l ih =>
  have h1 := intL_le a
  have h2 : rowL (a :: l) = intL a ++ rowL l := by simp [rowL]
  rw [h2, List.length_append, List.length_cons]
  omega
theorem intL_num {k : Int} (h0 : 0 ≤ k) (h1 : k ≤ 4611686018427387903) : intL k = numL k := by
 rw [intL, if_neg (by omega), show capN k = k from if_neg (by omega)]
theorem intL_byt (k : Int) : Byt (intL k) := by
 unfold intL
 split
 ·unfold Byt; decide
 ·unfold capN
  split
  ·exact numL_byt (by omega) (by omega)
  ·exact numL_byt (by omega) (by omega)
theorem Byt.app {a b : List Int} (h : Byt a) (k : Byt b) : Byt (a ++ b) := fun x hx => (List.mem_append.1 hx).elim (h x) (k x)
theorem rowL_byt (l : List Int) : Byt (rowL l) := by
 intro x hx
 obtain ⟨y, _, hy⟩ := List.mem_flatMap.1 hx
 exact intL_byt y x hy
theorem numS_back (P Q : List Int) {k most : Int} (h0 : 0 ≤ k) (h1 : k ≤ 4611686018427387903) (hm : k ≤ most) : numS ((P ++ (intL k ++ Q)).drop P.length) most = (0, (intL k).length, k) := by
 rw [List.drop_left, intL_num h0 h1]
 exact numS_numL Q h0 h1 hm
theorem abv_pos {m : Int} (h : 0 ≤ m) : abv' m = m := if_neg (by omega)
theorem textS_back (P s Q : List Int) {m : Int} (hs : s.length ≤ 4000) (hm : (s.length : Int) ≤ m) :
  textS (P ++ ((intL s.length ++ s) ++ Q)) P.length m = (0, ⟨#[110, 117, 109]⟩, (P ++ (intL s.length ++ s)).length, s) := by
 unfold textS
 rw [abv_pos (by omega), List.append_assoc (intL _), numS_back P (s ++ Q) (by omega) (by omega) hm]
 simp only [if_true, Int.toNat_natCast]
 rw [if_neg (by simp only [List.length_append]; omega)]
 refine congrArg _ (congrArg _ (Prod.ext ?_ ?_))
 ·simp only [List.length_append]; omega
 ·show (List.drop (P.length + (intL s.length).length) (P ++ (intL s.length ++ (s ++ Q)))).take s.length = s
  rw [← List.length_append, ← List.append_assoc P, List.drop_left, List.take_left]
theorem rowL_split (l : List Int) (j : Nat) (h : j < l.length) : rowL l = rowL (l.take j) ++ (intL l[j] ++ rowL (l.drop (j + 1))) := by
 have e : l = l.take j ++ (l[j] :: l.drop (j + 1)) := by rw [← List.drop_eq_getElem_cons h, List.take_append_drop]
 refine (congrArg rowL e).trans ?_
 simp only [rowL, List.flatMap_append, List.flatMap_cons]
theorem rowI_back (P l Q : List Int) {most : Int} (h : ∀ i (hi : i < l.length), 0 ≤ l[i] ∧ l[i] ≤ 4611686018427387903 ∧ l[i] ≤ most) (j : Nat) (hj : j ≤ l.length) :
  rowI (P ++ (rowL l ++ Q)) most P.length j = (0, (P ++ rowL (l.take j)).length, l.take j) := by
 induction j with
 | zero => simp [rowI, rowL]
 | succ j ih =>
  have ih := ih (by omega)
  have hb := h j (by omega)
  have hq : numS ((P ++ (rowL l ++ Q)).drop (P ++ rowL (l.take j)).length) most = (0, (intL l[j]).length, l[j]) := by
   rw [rowL_split l j (by omega)]
   rw [show P ++ (rowL (l.take j) ++ (intL l[j] ++ rowL (l.drop (j + 1))) ++ Q) = (P ++ rowL (l.take j)) ++ (intL l[j] ++ (rowL (l.drop (j + 1)) ++ Q)) by simp [List.append_assoc]]
   exact numS_back _ _ hb.1 hb.2.1 hb.2.2
  have hz : (rowI (P ++ (rowL l ++ Q)) most P.length j).1 = 0 := by rw [ih]
  have hk := rowI_ok (k := (intL l[j]).length) (x := l[j]) hz (by rw [ih]; exact hq)
  rw [hk, ih]
  simp only
  rw [rowL_snoc l j (by omega), List.take_succ_eq_append_getElem (show j < l.length by omega)]
  simp only [List.length_append]
  rw [Nat.add_assoc]
end Go.Proofs.YtjjpfajbljbelaaGreatDoor
