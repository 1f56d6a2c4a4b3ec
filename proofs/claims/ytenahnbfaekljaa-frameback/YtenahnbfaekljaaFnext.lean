/-
  THE FRAME THAT BYTES BEGIN WITH (frame.head, frame.Next), as one function of the bytes. Conditions: the bytes' cells hold them, no more than ten thousand.
-/
import Derived.Test.YtenahnbfaekljaaFhead
namespace Go.Proofs.Ytenahnbfaekljaa
open Go.RowKit

def headS (l : List Int) : Value :=
  if l.length = 0 then hd3 0 0 .nilIface
  else if l.getD 0 0 ≠ 197 then hd3 0 0 (ft ⟨#[115, 105, 103, 110]⟩ 0 5)
  else if l.length = 1 then hd3 0 0 .nilIface
  else if 63 < l.getD 1 0 then hd3 0 0 (ft ⟨#[107, 105, 110, 100]⟩ 1 5)
  else headT (numS (l.drop 2) 16384)
theorem numS_k8 {r : List Int} {most : Int} (hb : Byt r) : (numS r most).2.1 ≤ 8 := by
  rcases hq : numS r most with ⟨c, k, n⟩
  by_cases h0 : c = 0
  · subst h0
    obtain ⟨_, h1, _⟩ := numS_once hb hq
    simp only
    rw [h1]
    exact numL_le n
  · have h1 := numS_bad hq h0
    simp only
    omega
theorem head_any (v : Value) (l : List Int) (w : World) (hv : Sl bc w v l) (hl : l.length ≤ 10000) (hby : Byt l) :
    Calls Try.prog 21 #[v] w fun e w' => e = .returned (headS l) ∧ Below w.heap.size w w' := by
  unfold headS
  by_cases h0 : l.length = 0
  · rw [if_pos h0]
    obtain ⟨ao, cap, rfl⟩ := hv.form
    rw [h0]
    exact head_none ao cap w
  rw [if_neg h0]
  obtain ⟨ao, cap, rfl⟩ := hv.form
  obtain ⟨b, o, rfl, hc, h3⟩ := hv.some_at (by omega)
  have g0 : l.getD 0 0 = l[0] := by simp [List.getD, show 0 < l.length by omega]
  have c0 := h3 0 (by omega)
  rw [← g0, Nat.add_zero] at c0
  by_cases h1 : l.getD 0 0 ≠ 197
  · rw [if_pos h1]
    exact head_sign b o l.length cap _ w (by omega) (by simpa using h1) c0
  rw [if_neg h1]
  have h1' : l.getD 0 0 = 197 := by omega
  rw [h1'] at c0
  by_cases h2 : l.length = 1
  · rw [if_pos h2, h2]
    exact head_one b o cap w c0
  rw [if_neg h2]
  have g1 : l.getD 1 0 = l[1] := by simp [List.getD, show 1 < l.length by omega]
  have c1 := h3 1 (by omega)
  rw [← g1] at c1
  by_cases h4 : 63 < l.getD 1 0
  · rw [if_pos h4]
    exact head_kind b o l.length cap _ w (by omega) h4 c0 c1
  rw [if_neg h4]
  obtain ⟨u, hs, hu⟩ := slice_from_any _ l 2 w hv (by omega)
  have hbd : Byt (l.drop 2) := fun y hy => hby y (List.mem_of_mem_drop hy)
  have hlen : (l.drop 2).length ≤ 10000 := by rw [List.length_drop]; omega
  have hk := numS_k8 (most := 16384) hbd
  have hr := numS_range (l.drop 2) 16384 hbd
  refine head_rest b o l.length cap (numS (l.drop 2) 16384).2.1 (l.getD 1 0) (numS (l.drop 2) 16384).1 (numS (l.drop 2) 16384).2.2 u w (by omega) h4 c0 c1 hk (by simpa using hs) ?_ ?_
  · obtain ⟨ao', cap', rfl⟩ := (hu w hv).form
    exact hide (read_any _ _ _ w)
  · refine hide (fun W hb hrd => ?_)
    have hsu := hu W (hv.below hb)
    have hn := rnum_any w.heap.size u (l.drop 2) 0 16384 W hrd hsu hlen hbd (Nat.zero_le _)
    rw [List.drop_zero] at hn
    have := rint_of w.heap.size 16384 16384 (numS (l.drop 2) 16384).2.2 W (by decide) rfl ⟨hr.1, by omega⟩ (hide hn)
    simpa using this
/-- What is told of a frame, as an error. -/
def errF (f : Fnd) : Option (List (ByteArray × Int) × Int) :=
  if f.c = 0 then none
  else if f.op.data.size = 6 then some ([(f.op, 2), (⟨#[110, 117, 109]⟩, 0)], f.c)
  else some ([(f.op, f.wh)], f.c)
def fdt (K : Int) (u : Value) (size : Int) (e : Value) : Value := .tuple #[.agg #[.int .i64 K, u], .int .i64 size, e]
/-- A block of two cells that may be written. -/
structure Fr2 (W : World) (n : Nat) (x y : Value) : Prop where
  c0 : W.cell? ⟨n, 0, none⟩ = some x
  c1 : W.cell? ⟨n, 1, none⟩ = some y
  f0 : W.frozen? ⟨n, 0, none⟩ = false
  f1 : W.frozen? ⟨n, 1, none⟩ = false
theorem Fr2.lt {W : World} {n : Nat} {x y : Value} (h : Fr2 W n x y) : n < W.heap.size := cell_block h.c0
theorem Fr2.below {W W' : World} {n : Nat} {x y : Value} (h : Fr2 W n x y) (hb : Below W.heap.size W W') : Fr2 W' n x y :=
  ⟨(hb.cell (p := ⟨n, 0, none⟩) h.lt).trans h.c0, (hb.cell (p := ⟨n, 1, none⟩) h.lt).trans h.c1, (hb.frozen (p := ⟨n, 0, none⟩) h.lt).trans h.f0, (hb.frozen (p := ⟨n, 1, none⟩) h.lt).trans h.f1⟩
theorem fr2_new (w : World) (x y : Value) (t : TypeId) : Fr2 (w.alloc (.cells #[x, y] t)) w.heap.size x y :=
  ⟨by simp, by simp, World.frozen?_alloc_at _ _ _ _ rfl, World.frozen?_alloc_at _ _ _ _ rfl⟩
theorem Fr2.set {W : World} {n : Nat} {x y : Value} (h : Fr2 W n x y) (x' y' : Value) : Fr2 ((W.setCell ⟨n, 0, none⟩ x').setCell ⟨n, 1, none⟩ y') n x' y' := by
  have o : ∀ (v : World) (i j : Nat) (s : Value), ¬ i = j → (v.setCell ⟨n, i, none⟩ s).cell? ⟨n, j, none⟩ = v.cell? ⟨n, j, none⟩ := fun v i j s h => World.cell?_setCell_other _ _ _ _ (fun q => h (congrArg Addr.off q))
  refine ⟨?_, ?_, by simp [h.f0], by simp [h.f1]⟩
  · rw [o _ _ _ _ (by decide)]
    exact World.cell?_setCell_same _ _ _ h.c0
  · exact World.cell?_setCell_same _ _ _ (u := y) (by rw [o _ _ _ _ (by decide)]; exact h.c1)
theorem below_set2 {B : Nat} {w W : World} {n : Nat} (hb : Below B w W) (hn : B ≤ n) (x y : Value) : Below B w ((W.setCell ⟨n, 0, none⟩ x).setCell ⟨n, 1, none⟩ y) :=
  (hb.setCell (p := ⟨n, 0, none⟩) hn x).setCell (p := ⟨n, 1, none⟩) hn y
set_option maxRecDepth 100000 in
set_option maxHeartbeats 4000000 in
theorem nx_nil (v : Value) (w : World)
    (HH : Hid (∀ W, Below w.heap.size w W → Calls Try.prog 21 #[v] W fun e w' => e = .returned (hd3 0 0 .nilIface) ∧ Below W.heap.size W w')) :
    Calls Try.prog 13 #[v] w fun e w' => e = .returned (fdt 0 (.slice none 0 0) 0 .nilIface) ∧ Below w.heap.size w w' := by
  have HB := hide ((Below.refl w.heap.size w).alloc (Nat.le_refl _) (.cells #[.int .i64 0, .slice none 0 0] 40))
  unfold hd3 at HH
  go_enter Try.func13, Try.ntmps13
  go_wp2_with fail
  refine (HH.out _ HB.out).mono ?_
  rintro e w1 ⟨rfl, hb1⟩
  have HF := hide ((fr2_new w (.int .i64 0) (.slice none 0 0) 40).below hb1)
  obtain ⟨d0, d1, f0, f1⟩ := id HF.out
  have HB1 := hide (HB.out.trans (hb1.mono (by simp)))
  clear hb1
  go_wp2_with fail
  have T := HF.out.set (.int .i64 0) (.slice none 0 0)
  have hBf := below_set2 HB1.out (Nat.le_refl _) (.int .i64 0) (.slice none 0 0)
  obtain ⟨WF, hWF⟩ : ∃ WF, WF = ((w1.setCell ⟨w.heap.size, 0, none⟩ (.int .i64 0)).setCell ⟨w.heap.size, 1, none⟩ (.slice none 0 0)) := ⟨_, rfl⟩
  rw [← hWF] at hBf T ⊢
  obtain ⟨t0, t1, _, _⟩ := id T
  exact bodyPost_ret (v := fdt 0 (.slice none 0 0) 0 .nilIface) (by simp [results, Try.results13, go_sem, t0, t1, fdt]) rfl ⟨rfl, hBf⟩
set_option maxRecDepth 100000 in
set_option maxHeartbeats 4000000 in
theorem nx_err (v : Value) (t : TypeId) (u : Value) (w : World)
    (HH : Hid (∀ W, Below w.heap.size w W → Calls Try.prog 21 #[v] W fun e w' => e = .returned (hd3 0 0 (.iface t u)) ∧ Below W.heap.size W w')) :
    Calls Try.prog 13 #[v] w fun e w' => e = .returned (fdt 0 (.slice none 0 0) 0 (.iface t u)) ∧ Below w.heap.size w w' := by
  have HB := hide ((Below.refl w.heap.size w).alloc (Nat.le_refl _) (.cells #[.int .i64 0, .slice none 0 0] 40))
  unfold hd3 at HH
  go_enter Try.func13, Try.ntmps13
  go_wp2_with fail
  refine (HH.out _ HB.out).mono ?_
  rintro e w1 ⟨rfl, hb1⟩
  have HF := hide ((fr2_new w (.int .i64 0) (.slice none 0 0) 40).below hb1)
  obtain ⟨d0, d1, f0, f1⟩ := id HF.out
  have HB1 := hide (HB.out.trans (hb1.mono (by simp)))
  clear hb1
  go_wp2_with fail
  have T := HF.out.set (.int .i64 0) (.slice none 0 0)
  have hBf := below_set2 HB1.out (Nat.le_refl _) (.int .i64 0) (.slice none 0 0)
  obtain ⟨WF, hWF⟩ : ∃ WF, WF = ((w1.setCell ⟨w.heap.size, 0, none⟩ (.int .i64 0)).setCell ⟨w.heap.size, 1, none⟩ (.slice none 0 0)) := ⟨_, rfl⟩
  rw [← hWF] at hBf T ⊢
  obtain ⟨t0, t1, _, _⟩ := id T
  exact bodyPost_ret (v := fdt 0 (.slice none 0 0) 0 (.iface t u)) (by simp [results, Try.results13, go_sem, t0, t1, fdt]) rfl ⟨rfl, hBf⟩
set_option maxRecDepth 100000 in
set_option maxHeartbeats 4000000 in
theorem nx_wait (ao : Option Addr) (L cap A n : Nat) (w : World) (hA : 2 ≤ A) (hA2 : A ≤ 10) (hn : n ≤ 16384) (hL : L < A + n + 4)
    (HH : Hid (∀ W, Below w.heap.size w W → Calls Try.prog 21 #[.slice ao L cap] W fun e w' => e = .returned (hd3 (A : Int) (n : Int) .nilIface) ∧ Below W.heap.size W w')) :
    Calls Try.prog 13 #[.slice ao L cap] w fun e w' => e = .returned (fdt 0 (.slice none 0 0) 0 .nilIface) ∧ Below w.heap.size w w' := by
  have hA0 : ¬ (A : Int) = 0 := by omega
  have hL2 : (L : Int) < (A : Int) + (n : Int) + 4 := by omega
  have HB := hide ((Below.refl w.heap.size w).alloc (Nat.le_refl _) (.cells #[.int .i64 0, .slice none 0 0] 40))
  unfold hd3 at HH
  go_enter Try.func13, Try.ntmps13
  go_wp2_with fail
  refine (HH.out _ HB.out).mono ?_
  rintro e w1 ⟨rfl, hb1⟩
  have HF := hide ((fr2_new w (.int .i64 0) (.slice none 0 0) 40).below hb1)
  obtain ⟨d0, d1, f0, f1⟩ := id HF.out
  have HB1 := hide (HB.out.trans (hb1.mono (by simp)))
  clear hb1
  go_wp2_with fail
  have T := HF.out.set (.int .i64 0) (.slice none 0 0)
  have hBf := below_set2 HB1.out (Nat.le_refl _) (.int .i64 0) (.slice none 0 0)
  obtain ⟨WF, hWF⟩ : ∃ WF, WF = ((w1.setCell ⟨w.heap.size, 0, none⟩ (.int .i64 0)).setCell ⟨w.heap.size, 1, none⟩ (.slice none 0 0)) := ⟨_, rfl⟩
  rw [← hWF] at hBf T ⊢
  obtain ⟨t0, t1, _, _⟩ := id T
  exact bodyPost_ret (v := fdt 0 (.slice none 0 0) 0 .nilIface) (by simp [results, Try.results13, go_sem, t0, t1, fdt]) rfl ⟨rfl, hBf⟩
set_option maxRecDepth 100000 in
set_option maxHeartbeats 4000000 in
theorem nx_sum (ao : Option Addr) (L cap A n : Nat) (u1 : Value) (w : World) (hA : 2 ≤ A) (hA2 : A ≤ 10) (hn : n ≤ 16384) (hL : A + n + 4 ≤ L)
    (HH : Hid (∀ W, Below w.heap.size w W → Calls Try.prog 21 #[.slice ao L cap] W fun e w' => e = .returned (hd3 (A : Int) (n : Int) .nilIface) ∧ Below W.heap.size W w'))
    (hs : ∀ W, (Instr.slice 26 (.slice ao L cap) none (some (.int .i64 ((A : Int) + (n : Int) + 4))) none).run Try.prog W = .ok u1 W)
    (HO : Hid (∀ W, Below w.heap.size w W → Calls Try.prog 22 #[u1] W fun e w' => e = .returned (.tuple #[.slice none 0 0, .bool false]) ∧ Below W.heap.size W w')) :
    Calls Try.prog 13 #[.slice ao L cap] w fun e w' => e = .returned (fdt 0 (.slice none 0 0) 0 (ft ⟨#[115, 117, 109]⟩ ((A : Int) + (n : Int)) 4)) ∧ Below w.heap.size w w' := by
  have hA0 : ¬ (A : Int) = 0 := by omega
  have hL2 : ¬ (L : Int) < (A : Int) + (n : Int) + 4 := by omega
  have HB := hide ((Below.refl w.heap.size w).alloc (Nat.le_refl _) (.cells #[.int .i64 0, .slice none 0 0] 40))
  unfold hd3 at HH
  go_enter Try.func13, Try.ntmps13
  go_wp2_with fail
  refine (HH.out _ HB.out).mono ?_
  rintro e w1 ⟨rfl, hb1⟩
  have HF := hide ((fr2_new w (.int .i64 0) (.slice none 0 0) 40).below hb1)
  obtain ⟨d0, d1, f0, f1⟩ := id HF.out
  have HB1 := hide (HB.out.trans (hb1.mono (by simp)))
  clear hb1
  go_wp2_with (first | (go_at_call 22; refine (HO.out _ HB1.out).mono ?_; rintro e w2 ⟨rfl, hb2⟩; have HF := hide (HF.out.below hb2); have HB1 := hide (HB1.out.trans (hb2.mono HB1.out.size)); obtain ⟨e0, e1, g0, g1⟩ := id HF.out; clear hb2) | (go_at_call 18; refine (new_any _ _ _ _).mono ?_; rintro e w' ⟨rfl, rfl⟩))
  have T := HF.out.set (.int .i64 0) (.slice none 0 0)
  have hBf := below_set2 HB1.out (Nat.le_refl _) (.int .i64 0) (.slice none 0 0)
  obtain ⟨WF, hWF⟩ : ∃ WF, WF = ((w'.setCell ⟨w.heap.size, 0, none⟩ (.int .i64 0)).setCell ⟨w.heap.size, 1, none⟩ (.slice none 0 0)) := ⟨_, rfl⟩
  rw [← hWF] at hBf T ⊢
  obtain ⟨t0, t1, _, _⟩ := id T
  exact bodyPost_ret (v := fdt 0 (.slice none 0 0) 0 (ft ⟨#[115, 117, 109]⟩ ((A : Int) + (n : Int)) 4)) (by simp [results, Try.results13, go_sem, t0, t1, fdt, ft]) rfl ⟨rfl, hBf⟩
set_option maxRecDepth 100000 in
set_option maxHeartbeats 4000000 in
theorem nx_ok (b o L cap A n F : Nat) (x : Int) (u1 : Value) (T : List Int) (w : World) (hA : 2 ≤ A) (hA2 : A ≤ 10) (hn : n ≤ 16384) (hF : F = A + n + 4) (hL : F ≤ L) (hx0 : 0 ≤ x) (hx1 : x ≤ 63) (c1 : w.cell? ⟨b, o + 1, none⟩ = some (.int .u8 x)) (hT : A ≤ T.length)
    (HH : Hid (∀ W, Below w.heap.size w W → Calls Try.prog 21 #[.slice (some ⟨b, o, none⟩) L cap] W fun e w' => e = .returned (hd3 (A : Int) (n : Int) .nilIface) ∧ Below W.heap.size W w'))
    (hs : ∀ W, (Instr.slice 26 (.slice (some ⟨b, o, none⟩) L cap) none (some (.int .i64 ((A : Int) + (n : Int) + 4))) none).run Try.prog W = .ok u1 W)
    (HO : Hid (∀ W, Below w.heap.size w W → Calls Try.prog 22 #[u1] W fun e w' => ∃ s, e = .returned (.tuple #[s, .bool true]) ∧ Sld 0 W.heap.size bc w' s T ∧ Below W.heap.size W w')) :
    Calls Try.prog 13 #[.slice (some ⟨b, o, none⟩) L cap] w fun e w' => ∃ u, e = .returned (fdt x u (F : Int) .nilIface) ∧ Sld 0 w.heap.size bc w' u (T.drop A) ∧ Below w.heap.size w w' := by
  have hA0 : ¬ (A : Int) = 0 := by omega
  have hL2 : ¬ (L : Int) < (A : Int) + (n : Int) + 4 := by omega
  have hbl := cell_block c1
  have HC := hide c1
  clear c1
  have HB := hide ((Below.refl w.heap.size w).alloc (Nat.le_refl _) (.cells #[.int .i64 0, .slice none 0 0] 40))
  unfold hd3 at HH
  go_enter Try.func13, Try.ntmps13
  go_wp2_with fail
  refine (HH.out _ HB.out).mono ?_
  rintro e w1 ⟨rfl, hb1⟩
  have HF := hide ((fr2_new w (.int .i64 0) (.slice none 0 0) 40).below hb1)
  have HB1 := hide (HB.out.trans (hb1.mono (by simp)))
  clear hb1
  go_wp2_with fail
  refine (HO.out _ HB1.out).mono ?_
  rintro e w2 ⟨s, rfl, hsd, hb2⟩
  obtain ⟨u2, hs2, hu2⟩ := slice_from_sld 0 w1.heap.size s T A w2 hsd hT
  obtain ⟨ao2, cap2, rfl⟩ := (hu2 w2 hsd).sl.form
  have HU := hide (hu2 w2 hsd)
  generalize (T.drop A).length = M at hs2 HU ⊢
  have HF2 := hide (HF.out.below hb2)
  obtain ⟨e0, e1, g0, g1⟩ := id HF2.out
  have HB2 := hide (HB1.out.trans (hb2.mono HB1.out.size))
  have c1 : w2.cell? ⟨b, o + 1, none⟩ = some (.int .u8 x) := (HB2.out.cell (p := ⟨b, o + 1, none⟩) hbl).trans HC.out
  have hL1 : 1 < (L : Int) := by omega
  clear hb2 hsd hu2 hs
  go_wp2_with fail
  go_region
  go_wp2_with fail
  have T := HF2.out.set (.int .i64 x) (.slice ao2 M cap2)
  have hBf := (below_set2 HB2.out (Nat.le_refl _) (.int .i64 x) (.slice ao2 M cap2)).drew
  have hlt := HF.out.lt
  have hSl := (((HU.out.set 0 (.int .i64 x) (Nat.zero_le _) hlt).set 1 (.slice ao2 M cap2) (Nat.zero_le _) hlt).below (Below.refl _ _).drew).more (Nat.le_of_lt hlt)
  have T' : Fr2 ((w2.setCell ⟨w.heap.size, 0, none⟩ (.int .i64 x)).setCell ⟨w.heap.size, 1, none⟩ (.slice ao2 M cap2)).drew w.heap.size (.int .i64 x) (.slice ao2 M cap2) := ⟨T.c0, T.c1, T.f0, T.f1⟩
  obtain ⟨WF, hWF⟩ : ∃ WF, WF = ((w2.setCell ⟨w.heap.size, 0, none⟩ (.int .i64 x)).setCell ⟨w.heap.size, 1, none⟩ (.slice ao2 M cap2)).drew := ⟨_, rfl⟩
  rw [← hWF] at hBf T' hSl ⊢
  obtain ⟨t0, t1, _, _⟩ := id T'
  exact bodyPost_ret (v := fdt x (.slice ao2 M cap2) ((A : Int) + (n : Int) + 4) .nilIface) (by simp [results, Try.results13, go_sem, t0, t1, fdt]) rfl ⟨_, by rw [hF]; simp, hSl, hBf⟩
/-- The frame that bytes begin with. -/
theorem nx_any (v : Value) (l : List Int) (w : World) (hv : Sl bc w v l) (hl : l.length ≤ 10000) (hby : Byt l) :
    Calls Try.prog 13 #[v] w fun e w' => ∃ u, e = .returned (fdt (nextS l).K u ((nextS l).size : Int) (ev (errF (nextS l)))) ∧ Sld 0 w.heap.size bc w' u (nextS l).body ∧ Below w.heap.size w w' := by
  have HH := fun W (hb : Below w.heap.size w W) => head_any v l W (hv.below hb) hl hby
  have stop : ∀ {P : Ending → World → Prop}, Calls Try.prog 13 #[v] w (fun e w' => e = .returned (fdt 0 (.slice none 0 0) 0 .nilIface) ∧ Below w.heap.size w w') → nextS l = fnd0 → (∀ e w', (∃ u, e = .returned (fdt (nextS l).K u ((nextS l).size : Int) (ev (errF (nextS l)))) ∧ Sld 0 w.heap.size bc w' u (nextS l).body ∧ Below w.heap.size w w') → P e w') → Calls Try.prog 13 #[v] w P := by
    intro P h e0 hP
    refine h.mono ?_
    rintro e w' ⟨rfl, hb⟩
    refine hP _ _ ?_
    rw [e0]
    exact ⟨_, rfl, Sld.nil _ _ _ _ _ _, hb⟩
  unfold headS at HH
  by_cases h0 : l.length = 0
  · simp only [if_pos h0] at HH
    exact stop (nx_nil v w (hide HH)) (by unfold nextS; rw [if_pos h0]) (fun _ _ h => h)
  simp only [if_neg h0] at HH
  by_cases h1 : l.getD 0 0 ≠ 197
  · simp only [if_pos h1] at HH
    refine (nx_err v _ _ w (hide HH)).mono ?_
    rintro e w' ⟨rfl, hb⟩
    have e0 : nextS l = ⟨0, [], 0, 5, ⟨#[115, 105, 103, 110]⟩, 0⟩ := by unfold nextS; rw [if_neg h0, if_pos h1]
    rw [e0]
    exact ⟨_, rfl, Sld.nil _ _ _ _ _ _, hb⟩
  simp only [if_neg h1] at HH
  by_cases h2 : l.length = 1
  · simp only [if_pos h2] at HH
    exact stop (nx_nil v w (hide HH)) (by unfold nextS; rw [if_neg h0, if_neg h1, if_pos h2]) (fun _ _ h => h)
  simp only [if_neg h2] at HH
  by_cases h3 : 63 < l.getD 1 0
  · simp only [if_pos h3] at HH
    refine (nx_err v _ _ w (hide HH)).mono ?_
    rintro e w' ⟨rfl, hb⟩
    have e0 : nextS l = ⟨0, [], 0, 5, ⟨#[107, 105, 110, 100]⟩, 1⟩ := by unfold nextS; rw [if_neg h0, if_neg h1, if_neg h2, if_pos h3]
    rw [e0]
    exact ⟨_, rfl, Sld.nil _ _ _ _ _ _, hb⟩
  simp only [if_neg h3] at HH
  by_cases h4 : l.length = 2
  · have e : l.drop 2 = [] := List.drop_eq_nil_of_le (by omega)
    rw [e] at HH
    exact stop (nx_nil v w (hide HH)) (by unfold nextS; rw [if_neg h0, if_neg h1, if_neg h2, if_neg h3, if_pos h4]) (fun _ _ h => h)
  have hS : nextS l = nextT l (l.getD 1 0) (numS (l.drop 2) 16384) := by unfold nextS; rw [if_neg h0, if_neg h1, if_neg h2, if_neg h3, if_neg h4]
  have hbd : Byt (l.drop 2) := fun y hy => hby y (List.mem_of_mem_drop hy)
  rcases hq : numS (l.drop 2) 16384 with ⟨c, k, n⟩
  rw [hq] at hS HH
  unfold headT at HH
  unfold nextT at hS
  simp only at HH hS
  by_cases h5 : c = 3
  · simp only [if_pos h5] at HH hS
    exact stop (nx_nil v w (hide HH)) hS (fun _ _ h => h)
  simp only [if_neg h5] at HH hS
  by_cases h6 : c ≠ 0
  · simp only [if_pos h6] at HH hS
    refine (nx_err v _ _ w (hide HH)).mono ?_
    rintro e w' ⟨rfl, hb⟩
    rw [hS]
    have e1 : errF ⟨0, [], 0, c, ⟨#[108, 101, 110, 103, 116, 104]⟩, 2⟩ = some ([(⟨#[108, 101, 110, 103, 116, 104]⟩, 2), (⟨#[110, 117, 109]⟩, 0)], c) := by
      unfold errF
      rw [if_neg h6]
      rfl
    rw [e1]
    exact ⟨_, rfl, Sld.nil _ _ _ _ _ _, hb⟩
  simp only [if_neg h6] at HH hS
  obtain rfl : c = 0 := by omega
  obtain ⟨_, hkn, n0, _, nm, hkl⟩ := numS_once hbd hq
  have hk8 : k ≤ 8 := by rw [hkn]; exact numL_le n
  obtain ⟨m, rfl⟩ := Int.eq_ofNat_of_zero_le n0
  simp only [Int.toNat_natCast] at hS
  have HH2 : ∀ W, Below w.heap.size w W → Calls Try.prog 21 #[v] W fun e w' => e = .returned (hd3 ((2 + k : Nat) : Int) (m : Int) .nilIface) ∧ Below W.heap.size W w' := fun W hW => by
    have := HH W hW
    rw [show (((2 + k : Nat) : Nat) : Int) = 2 + (k : Int) by omega]
    exact this
  clear HH
  obtain ⟨ao, cap, rfl⟩ := hv.form
  by_cases hw : l.length < 2 + k + m + 4
  · rw [if_pos hw] at hS
    exact stop (nx_wait ao l.length cap (2 + k) m w (by omega) (by omega) (by omega) hw (hide HH2)) hS (fun _ _ h => h)
  rw [if_neg hw] at hS
  obtain ⟨u1, hs1, hu1⟩ := slice_to_any _ l (2 + k + m + 4) w hv (by omega)
  have tk : (l.take (2 + k + m + 4)).length = 2 + k + m + 4 := by rw [List.length_take]; omega
  have hby2 : Byt (l.take (2 + k + m + 4)) := fun y hy => hby y (List.mem_of_mem_take hy)
  have hO := fun W (hb : Below w.heap.size w W) => copen_any u1 (l.take (2 + k + m + 4)) W (hu1 W (hv.below hb)) (by rw [tk]; omega) hby2
  have hs1' : ∀ W, (Instr.slice 26 (.slice ao l.length cap) none (some (.int .i64 (((2 + k : Nat) : Int) + (m : Int) + 4))) none).run Try.prog W = .ok u1 W := fun W => by
    have := hs1 W
    rw [show (((2 + k + m + 4 : Nat) : Nat) : Int) = ((2 + k : Nat) : Int) + (m : Int) + 4 by omega] at this
    exact this
  have tt : (l.take (2 + k + m + 4)).take (2 + k + m) = l.take (2 + k + m) := by rw [List.take_take]; congr 1; omega
  have ho : openL (l.take (2 + k + m + 4)) = if l.take (2 + k + m) ++ le4 (crcL (l.take (2 + k + m))) = l.take (2 + k + m + 4) then some (l.take (2 + k + m)) else none := by
    unfold openL
    rw [if_neg (by rw [tk]; omega), tk, show 2 + k + m + 4 - 4 = 2 + k + m by omega, tt]
  by_cases he : l.take (2 + k + m) ++ le4 (crcL (l.take (2 + k + m))) = l.take (2 + k + m + 4)
  · rw [if_pos he] at hS ho
    obtain ⟨b, o, rfl, hc, h3'⟩ := hv.some_at (by omega)
    have c1 := h3' 1 (by omega)
    have g1 : l.getD 1 0 = l[1] := by simp [List.getD, show 1 < l.length by omega]
    rw [← g1] at c1
    have hx0 : 0 ≤ l.getD 1 0 := by rw [g1]; exact (hby _ (List.getElem_mem _)).1
    refine (nx_ok b o l.length cap (2 + k) m (2 + k + m + 4) (l.getD 1 0) u1 (l.take (2 + k + m)) w (by omega) (by omega) (by omega) rfl (by omega) hx0 (by omega) c1 (by rw [List.length_take]; omega) (hide HH2) hs1' (hide fun W hb => ?_)).mono ?_
    · refine (hO W hb).mono ?_
      rintro e w' ⟨⟨u, f, rfl, h⟩, hb'⟩
      rcases h with ⟨rfl, _, hsl⟩ | ⟨rfl, hn, _⟩
      · rw [tk, show 2 + k + m + 4 - 4 = 2 + k + m by omega, tt] at hsl
        exact ⟨u, rfl, hsl, hb'⟩
      · rw [ho] at hn; cases hn
    · rintro e w' ⟨u, rfl, hsl, hb⟩
      rw [hS]
      refine ⟨u, rfl, ?_, hb⟩
      have : (l.take (2 + k + m)).drop (2 + k) = (l.drop (2 + k)).take m := by rw [List.drop_take]; congr 1; omega
      rw [← this]
      exact hsl
  · rw [if_neg he] at hS ho
    refine (nx_sum ao l.length cap (2 + k) m u1 w (by omega) (by omega) (by omega) (by omega) (hide HH2) hs1' (hide fun W hb => ?_)).mono ?_
    · refine (hO W hb).mono ?_
      rintro e w' ⟨⟨u, f, rfl, h⟩, hb'⟩
      rcases h with ⟨rfl, hn, hsl⟩ | ⟨rfl, hn, rfl⟩
      · rw [ho] at hn; cases hn
      · exact ⟨rfl, hb'⟩
    · rintro e w' ⟨rfl, hb⟩
      rw [hS]
      refine ⟨.slice none 0 0, ?_, Sld.nil _ _ _ _ _ _, hb⟩
      have : ((2 + k : Nat) : Int) + (m : Int) = ((2 + k + m : Nat) : Int) := by omega
      rw [this]
      rfl
end Go.Proofs.Ytenahnbfaekljaa
