/-
  FrameNext: which frame any bytes begin with, that more are needed, or what is wrong first, and where, is what the chapter says. Conditions: the bytes' cells hold them, errors.errorType holds the handle of the type error.
-/
import Derived.Test.YtenahnbfaekljaaDoorFwrong
import Derived.Test.YtenahnbfaekljaaDoorMN
namespace Go.Proofs.YtenahnbfaekljaaDoor
open Go.RowKit

/-- The six cells of what is found. -/
def Fd (W : World) (n : Nat) (K : Int) (u : Value) (s c : Int) (op : ByteArray) (wh : Int) : Prop :=
  W.cell? ⟨n, 0, none⟩ = some (.int .i64 K) ∧ W.cell? ⟨n, 1, none⟩ = some u ∧ W.cell? ⟨n, 2, none⟩ = some (.int .i64 s) ∧ W.cell? ⟨n, 3, none⟩ = some (.int .i64 c) ∧ W.cell? ⟨n, 4, none⟩ = some (.string op) ∧ W.cell? ⟨n, 5, none⟩ = some (.int .i64 wh)
theorem fd_new (w : World) (K : Int) (u : Value) (s c : Int) (op : ByteArray) (wh : Int) (t : TypeId) : Fd (w.alloc (.cells #[.int .i64 K, u, .int .i64 s, .int .i64 c, .string op, .int .i64 wh] t)) w.heap.size K u s c op wh :=
  ⟨by simp, by simp, by simp, by simp, by simp, by simp⟩
theorem Fd.below {W W' : World} {n : Nat} {K : Int} {u : Value} {s c : Int} {op : ByteArray} {wh : Int} (h : Fd W n K u s c op wh) (hb : Below W.heap.size W W') : Fd W' n K u s c op wh := by
  obtain ⟨h0, h1, h2, h3, h4, h5⟩ := h
  have hl : n < W.heap.size := cell_block h0
  exact ⟨(hb.cell (p := ⟨n, 0, none⟩) hl).trans h0, (hb.cell (p := ⟨n, 1, none⟩) hl).trans h1, (hb.cell (p := ⟨n, 2, none⟩) hl).trans h2, (hb.cell (p := ⟨n, 3, none⟩) hl).trans h3, (hb.cell (p := ⟨n, 4, none⟩) hl).trans h4, (hb.cell (p := ⟨n, 5, none⟩) hl).trans h5⟩
theorem nextS_body (l : List Int) : (nextS l).body.length ≤ l.length := by
  unfold nextS
  split
  · exact Nat.zero_le _
  split
  · exact Nat.zero_le _
  split
  · exact Nat.zero_le _
  split
  · exact Nat.zero_le _
  split
  · exact Nat.zero_le _
  unfold nextT
  split
  · exact Nat.zero_le _
  split
  · exact Nat.zero_le _
  split
  · exact Nat.zero_le _
  split
  · simp only [List.length_take, List.length_drop]; omega
  · exact Nat.zero_le _
set_option maxRecDepth 100000 in
set_option maxHeartbeats 8000000 in
theorem next_law (v : Value) (l : List Int) (w : World) (hv : Sl bc w v l) (hby : Byt l) (hg : Hnd w) :
    Calls Tryd.prog 4 #[v] w fun e w' => e = .returned (.bool true) ∧ Below w.heap.size w w' := by
  obtain ⟨ao, cap, hvf⟩ := hv.form
  by_cases hbig : 1500 < l.length
  · have hbig' : (1500 : Int) < (l.length : Int) := by omega
    subst hvf
    clear hv hby hg
    go_enter Tryd.func4, Tryd.ntmps4
    go_wp2_with (first | (go_at_call 7; refine (works_any _).mono ?_; rintro e w6 ⟨rfl, hb6⟩))
    go_ret
    exact ⟨rfl, hb6⟩
  · have hbig' : ¬ (1500 : Int) < (l.length : Int) := by omega
    have HN := hide (nx_any v l w hv (by omega) hby)
    have HR := hide (fun W (h : Below w.heap.size w W) => next_any v l W (hv.below h) (by omega) hby)
    have HW := hide (fun W h => fwrong_f l W h)
    have hbl := nextS_body l
    have HG := hide hg
    subst hvf
    clear hv hby hg
    generalize errF (nextS l) = X at *
    generalize nextS l = f at *
    unfold fdt at HN
    unfold fdv at HR
    go_enter Tryd.func4, Tryd.ntmps4
    go_wp2_with fail
    refine HN.out.mono ?_
    rintro e w1 ⟨u1, rfl, hs1, hb1⟩
    obtain ⟨a1, k1, hu1⟩ := hs1.sl.form
    obtain ⟨M, hM⟩ : ∃ M, M = f.body.length := ⟨_, rfl⟩
    rw [← hM] at hu1
    have HM := hide hM
    clear hM
    subst hu1
    have hba1 : Below w1.heap.size w1 (w1.alloc (.cells #[.int .i64 f.K, .slice a1 M k1] 24)) := (Below.refl _ _).alloc (Nat.le_refl _) _
    have HB1 := hide (bt hb1 hba1)
    have HS1 := hide (hs1.sl.below hba1)
    have HF1 := hide (fr2_new w1 (.int .i64 f.K) (.slice a1 M k1) 24)
    clear hs1 hb1 hba1
    go_wp2_with fail
    refine (HR.out _ HB1.out).mono ?_
    rintro e w2 ⟨u2, rfl, hs2, hb2⟩
    obtain ⟨a2, k2, hu2⟩ := hs2.form
    rw [← HM.out] at hu2
    subst hu2
    have hba2 : Below w2.heap.size w2 (w2.alloc (.cells #[.int .i64 f.K, .slice a2 M k2, .int .i64 (f.size : Int), .int .i64 f.c, .string f.op, .int .i64 (f.wh : Int)] 43)) := (Below.refl _ _).alloc (Nat.le_refl _) _
    have HB2 := hide (bt HB1.out (bt hb2 hba2))
    have HS2 := hide (hs2.below hba2)
    have HS12 := hide ((HS1.out.below hb2).below hba2)
    have hf1 := (HF1.out.below hb2).below hba2
    have hf2 := fd_new w2 f.K (.slice a2 M k2) (f.size : Int) f.c f.op (f.wh : Int) 43
    have HF2 := hide hf2
    have HSS := hide (same_bytes (.slice a1 M k1) (.slice a2 M k2) f.body _ HS12.out HS2.out (by omega))
    have HNE : Hid (w1.heap.size < w2.heap.size) := hide (by have := hb2.size; simp at this; omega)
    obtain ⟨d0, d1, _, _⟩ := hf1
    obtain ⟨e0, e1, e2, e3, e4, e5⟩ := hf2
    clear hs2 hb2 HS1 HS2 HS12 HN HR
    have hne : ¬ w1.heap.size = w2.heap.size := Nat.ne_of_lt HNE.out
    go_wp2_with fail
    refine HSS.out.mono ?_
    rintro e w3 ⟨rfl, hb3⟩
    obtain ⟨p0, p1, p2, p3, p4, p5⟩ := HF2.out.below hb3
    have HB3 := hide (bt HB2.out hb3)
    have HW3 := hide (HW.out w3 (HG.out.below HB3.out))
    clear hb3 d0 d1 e0 e1 e2 e3 e4 e5 HSS HW
    go_wp2_with (first
      | (go_at_call 15; refine HW3.out.mono ?_; rintro e w4 ⟨rfl, hb4⟩; have HB4 := hide (bt HB3.out hb4); clear hb4)
      | (go_at_call 7; refine (works_any _).mono ?_; rintro e w6 ⟨rfl, hb6⟩; have HB6 := hide (bt HB4.out hb6); clear hb6))
    go_ret
    exact ⟨rfl, HB6.out⟩
end Go.Proofs.YtenahnbfaekljaaDoor
