/-
  A MESSAGE'S FIELDS AS BYTES (rpc.heads, rpc.numbers, rpc.putFields): what the mathematics says. Conditions: the message lies in its cells, its numbers are not too great, its bytes not too many.
  A MESSAGE AS A FRAME (rpc.putBatches, rpc.Put): what the mathematics says. Conditions: its slices' cells hold what they hold, its records' texts are not too long, no more than a thousand batches.
  A MESSAGE AS A FRAME (rpc.Put): what the mathematics says. Conditions: its slices' cells hold what they hold, its records' texts are not too long, no more than twenty batches.
  A RECORD ABOUT NOTHING, AS BYTES (record.Put of an RNoop): one byte. Conditions: the row's cells are its own; fewer than a million bytes ahead.
  A BATCH OF RECORDS ABOUT NOTHING, AS BYTES (batch.Put). Conditions: the records' cells hold them; each is an RNoop.
-/
import Derived.Test.YtjjpfajbljbelaaGreatDoorJKBatPta4
import Derived.Test.YtjjpfajbljbelaaGreatDoorJKBatAla2
namespace Go.Proofs.YtjjpfajbljbelaaGreatDoor
open Go.RowKit
set_option maxRecDepth 100000
set_option maxHeartbeats 32000000
def ofH (j : Nat) : Nat := [1, 2, 3].getD j 0
def ofN (j : Nat) : Nat := [6, 7, 8, 9, 10, 12, 13].getD j 0
def ptH (p : Nat) : Value := .agg #[.pointer (some ⟨p, 1, none⟩), .pointer (some ⟨p, 2, none⟩), .pointer (some ⟨p, 3, none⟩)]
def ptN (p : Nat) : Value := .agg #[.pointer (some ⟨p, 6, none⟩), .pointer (some ⟨p, 7, none⟩), .pointer (some ⟨p, 8, none⟩), .pointer (some ⟨p, 9, none⟩), .pointer (some ⟨p, 10, none⟩), .pointer (some ⟨p, 12, none⟩), .pointer (some ⟨p, 13, none⟩)]
theorem heads_any (p : Nat) (w : World) : Calls Tryz.prog 49 #[.pointer (some ⟨p, 0, none⟩)] w fun e w' => e = .returned (ptH p) ∧ Below w.heap.size w w' := by
 go_enter Tryz.func49, Tryz.ntmps49
 go_wp2
 go_region
 go_wp2
 refine bodyPost_ret (v := ptH p) (by simp [results, Tryz.results49, go_sem, ptH]) rfl ⟨rfl, ?_⟩
 exact ((Below.refl _ _).alloc (Nat.le_refl _) _).drew
theorem numbs_any (p : Nat) (w : World) : Calls Tryz.prog 52 #[.pointer (some ⟨p, 0, none⟩)] w fun e w' => e = .returned (ptN p) ∧ Below w.heap.size w w' := by
 go_enter Tryz.func52, Tryz.ntmps52
 go_wp2
 go_region
 go_wp2
 refine bodyPost_ret (v := ptN p) (by simp [results, Tryz.results52, go_sem, ptN]) rfl ⟨rfl, ?_⟩
 exact ((Below.refl _ _).alloc (Nat.le_refl _) _).drew
theorem idxH (p j : Nat) (hj : j < 3) (W : World) : (Instr.index 102 (.agg #[.pointer (some ⟨p, 1, none⟩), .pointer (some ⟨p, 2, none⟩), .pointer (some ⟨p, 3, none⟩)]) (.int .i64 (j : Int))).run Tryz.prog W = .ok (.pointer (some ⟨p, ofH j, none⟩)) W := by
 have e0 : (Instr.index 102 (.agg #[.pointer (some ⟨p, 1, none⟩), .pointer (some ⟨p, 2, none⟩), .pointer (some ⟨p, 3, none⟩)]) (.int .i64 0)).run Tryz.prog W = .ok (.pointer (some ⟨p, 1, none⟩)) W := by kernel_rfl
 have e1 : (Instr.index 102 (.agg #[.pointer (some ⟨p, 1, none⟩), .pointer (some ⟨p, 2, none⟩), .pointer (some ⟨p, 3, none⟩)]) (.int .i64 1)).run Tryz.prog W = .ok (.pointer (some ⟨p, 2, none⟩)) W := by kernel_rfl
 have e2 : (Instr.index 102 (.agg #[.pointer (some ⟨p, 1, none⟩), .pointer (some ⟨p, 2, none⟩), .pointer (some ⟨p, 3, none⟩)]) (.int .i64 2)).run Tryz.prog W = .ok (.pointer (some ⟨p, 3, none⟩)) W := by kernel_rfl
 have hc : j = 0 ∨ j = 1 ∨ j = 2 := by omega
 rcases hc with rfl | rfl | rfl
 ·exact (by simpa [ofH] using e0)
 ·exact (by simpa [ofH] using e1)
 ·exact (by simpa [ofH] using e2)
theorem idxN (p j : Nat) (hj : j < 7) (W : World) : (Instr.index 104 (.agg #[.pointer (some ⟨p, 6, none⟩), .pointer (some ⟨p, 7, none⟩), .pointer (some ⟨p, 8, none⟩), .pointer (some ⟨p, 9, none⟩), .pointer (some ⟨p, 10, none⟩), .pointer (some ⟨p, 12, none⟩), .pointer (some ⟨p, 13, none⟩)]) (.int .i64 (j : Int))).run Tryz.prog W = .ok (.pointer (some ⟨p, ofN j, none⟩)) W := by
 have e0 : (Instr.index 104 (.agg #[.pointer (some ⟨p, 6, none⟩), .pointer (some ⟨p, 7, none⟩), .pointer (some ⟨p, 8, none⟩), .pointer (some ⟨p, 9, none⟩), .pointer (some ⟨p, 10, none⟩), .pointer (some ⟨p, 12, none⟩), .pointer (some ⟨p, 13, none⟩)]) (.int .i64 0)).run Tryz.prog W = .ok (.pointer (some ⟨p, 6, none⟩)) W := by kernel_rfl
 have e1 : (Instr.index 104 (.agg #[.pointer (some ⟨p, 6, none⟩), .pointer (some ⟨p, 7, none⟩), .pointer (some ⟨p, 8, none⟩), .pointer (some ⟨p, 9, none⟩), .pointer (some ⟨p, 10, none⟩), .pointer (some ⟨p, 12, none⟩), .pointer (some ⟨p, 13, none⟩)]) (.int .i64 1)).run Tryz.prog W = .ok (.pointer (some ⟨p, 7, none⟩)) W := by kernel_rfl
 have e2 : (Instr.index 104 (.agg #[.pointer (some ⟨p, 6, none⟩), .pointer (some ⟨p, 7, none⟩), .pointer (some ⟨p, 8, none⟩), .pointer (some ⟨p, 9, none⟩), .pointer (some ⟨p, 10, none⟩), .pointer (some ⟨p, 12, none⟩), .pointer (some ⟨p, 13, none⟩)]) (.int .i64 2)).run Tryz.prog W = .ok (.pointer (some ⟨p, 8, none⟩)) W := by kernel_rfl
 have e3 : (Instr.index 104 (.agg #[.pointer (some ⟨p, 6, none⟩), .pointer (some ⟨p, 7, none⟩), .pointer (some ⟨p, 8, none⟩), .pointer (some ⟨p, 9, none⟩), .pointer (some ⟨p, 10, none⟩), .pointer (some ⟨p, 12, none⟩), .pointer (some ⟨p, 13, none⟩)]) (.int .i64 3)).run Tryz.prog W = .ok (.pointer (some ⟨p, 9, none⟩)) W := by kernel_rfl
 have e4 : (Instr.index 104 (.agg #[.pointer (some ⟨p, 6, none⟩), .pointer (some ⟨p, 7, none⟩), .pointer (some ⟨p, 8, none⟩), .pointer (some ⟨p, 9, none⟩), .pointer (some ⟨p, 10, none⟩), .pointer (some ⟨p, 12, none⟩), .pointer (some ⟨p, 13, none⟩)]) (.int .i64 4)).run Tryz.prog W = .ok (.pointer (some ⟨p, 10, none⟩)) W := by kernel_rfl
 have e5 : (Instr.index 104 (.agg #[.pointer (some ⟨p, 6, none⟩), .pointer (some ⟨p, 7, none⟩), .pointer (some ⟨p, 8, none⟩), .pointer (some ⟨p, 9, none⟩), .pointer (some ⟨p, 10, none⟩), .pointer (some ⟨p, 12, none⟩), .pointer (some ⟨p, 13, none⟩)]) (.int .i64 5)).run Tryz.prog W = .ok (.pointer (some ⟨p, 12, none⟩)) W := by kernel_rfl
 have e6 : (Instr.index 104 (.agg #[.pointer (some ⟨p, 6, none⟩), .pointer (some ⟨p, 7, none⟩), .pointer (some ⟨p, 8, none⟩), .pointer (some ⟨p, 9, none⟩), .pointer (some ⟨p, 10, none⟩), .pointer (some ⟨p, 12, none⟩), .pointer (some ⟨p, 13, none⟩)]) (.int .i64 6)).run Tryz.prog W = .ok (.pointer (some ⟨p, 13, none⟩)) W := by kernel_rfl
 have hc : j = 0 ∨ j = 1 ∨ j = 2 ∨ j = 3 ∨ j = 4 ∨ j = 5 ∨ j = 6 := by omega
 rcases hc with rfl | rfl | rfl | rfl | rfl | rfl | rfl
 ·exact (by simpa [ofN] using e0)
 ·exact (by simpa [ofN] using e1)
 ·exact (by simpa [ofN] using e2)
 ·exact (by simpa [ofN] using e3)
 ·exact (by simpa [ofN] using e4)
 ·exact (by simpa [ofN] using e5)
 ·exact (by simpa [ofN] using e6)
theorem cellH {W : World} {p : Nat} {m : Ms} {ub ud : Value} (h : W.rangeAt p 0 (cellsM m ub ud)) (j : Nat) (hj : j < 3) : W.cell? ⟨p, ofH j, none⟩ = some (.int .i64 (m.n3.getD j 0)) := by
 match j, hj with
 | 0, _ => exact h 1 _ rfl
 | 1, _ => exact h 2 _ rfl
 | 2, _ => exact h 3 _ rfl
 | n + 3, h => exact absurd h (by omega)
theorem cellN {W : World} {p : Nat} {m : Ms} {ub ud : Value} (h : W.rangeAt p 0 (cellsM m ub ud)) (j : Nat) (hj : j < 7) : W.cell? ⟨p, ofN j, none⟩ = some (.int .i64 (m.n7.getD j 0)) := by
 match j, hj with
 | 0, _ => exact h 6 _ rfl
 | 1, _ => exact h 7 _ rfl
 | 2, _ => exact h 8 _ rfl
 | 3, _ => exact h 9 _ rfl
 | 4, _ => exact h 10 _ rfl
 | 5, _ => exact h 12 _ rfl
 | 6, _ => exact h 13 _ rfl
 | n + 7, h => exact absurd h (by omega)
theorem bitN {k : Int} (hk : 1 ≤ k ∧ k ≤ 8) (j : Nat) (hj : j < 7) : bitM (sbjM k) (4 * 2 ^ j % 65536) = (hN7 k).getD j false := by
 obtain ⟨_, _, q2, q3, q4, q5, q6, q7, q8, _, _⟩ := bitM_has hk
 match j, hj with
 | 0, _ => exact q2
 | 1, _ => exact q3
 | 2, _ => exact q4
 | 3, _ => exact q5
 | 4, _ => exact q6
 | 5, _ => exact q7
 | 6, _ => exact q8
 | n + 7, h => exact absurd h (by omega)
theorem getD_get {α : Type} (l : List α) (d : α) (j : Nat) (h : j < l.length) : l.getD j d = l[j] := by simp [List.getD, h]
theorem wflag_ow (B : Nat) (u : Value) (l0 : List Int) (f : Bool) (w : World) (hu : Ow B w u l0) (hl0 : l0.length ≤ 900000) (hB : B ≤ w.heap.size) :
  Calls Tryz.prog 69 #[u, .bool f] w fun e w' => ∃ v', e = .returned v' ∧ Ow B w' v' (l0 ++ [flB f]) ∧ Below B w w' := by
 obtain ⟨cur, h1, h2⟩ := hu
 refine (wflag_any B u l0.length cur f w h1 hB hl0).mono ?_
 rintro e w' ⟨v', cur', rfl, hp⟩
 exact ⟨v', rfl, Ow.put (news := [flB f]) h2 hp, hp.below⟩
theorem wtext_ow (B : Nat) (u d : Value) (l0 l : List Int) (w0 w : World) (hu : Ow B w u l0) (hl0 : l0.length ≤ 700000) (hB : B ≤ w.heap.size) (hd : Sl bc w0 d l) (h0 : w0.heap.size ≤ B) (hb : Below w0.heap.size w0 w) (hl : l.length ≤ 4000) :
  Calls Tryz.prog 70 #[u, d] w fun e w' => ∃ v', e = .returned v' ∧ Ow B w' v' (l0 ++ enD l) ∧ Below B w w' := by
 have hlt : ∀ g, u.ownBlock = some g → B ≤ g := fun g hg => (ow_lt hu hg).2
 obtain ⟨cur, h1, h2⟩ := hu
 refine (wtext_anyg B u d l0.length cur l w h1 hB (by omega) hl (hd.below hb) (fun hp b o k c e q => ?_)).mono ?_
 ·have := hlt b q
  rcases hd with ⟨_, _, h2, _⟩ | ⟨b', o', c', h3, _, h4⟩
  ·rw [h2] at hp; simp at hp
  ·rw [e] at h3; cases h3
   have := cell_block (h4 0 hp)
   simp only at this
   omega
 ·rintro e w' ⟨v', rfl, h3, h4, _⟩
  exact ⟨v', rfl, Ow.owns (by unfold enD; rw [List.length_append]) h2 h3, h4⟩
def tailF (m : Ms) : List Int := encs intL h3 m.n3 ++ (encs (fun f => [flB f]) (hF2 m.k) [m.pre, m.ok] ++ (encs intL (hN7 m.k) m.n7 ++ encs enD [hasM m.k 100] [m.da]))
theorem tailM_eq (m : Ms) : tailM m = tailF m ++ (encs intL [hasM m.k 98] [(m.bs.length : Int)] ++ batsL m.bs) := by
 unfold tailM tailF
 simp only [List.append_assoc]
theorem flags_le (h f : Bool) : (encs (fun f => [flB f]) [h] [f]).length ≤ 1 := by cases h <;> simp [encs]
theorem tailF_lens (m : Ms) : ([] ++ encs intL h3 m.n3).length ≤ 100 ∧ (([] ++ encs intL h3 m.n3) ++ encs (fun f => [flB f]) [hasM m.k 97] [m.pre]).length ≤ 200 ∧ ((([] ++ encs intL h3 m.n3) ++ encs (fun f => [flB f]) [hasM m.k 97] [m.pre]) ++ encs (fun f => [flB f]) [hasM m.k 103] [m.ok]).length ≤ 300 ∧ (((([] ++ encs intL h3 m.n3) ++ encs (fun f => [flB f]) [hasM m.k 97] [m.pre]) ++ encs (fun f => [flB f]) [hasM m.k 103] [m.ok]) ++ encs intL (hN7 m.k) m.n7).length ≤ 400 := by
 have h1 := encs_le intL 8 h3 m.n3 (fun x _ => intL_le x)
 have h2 := flags_le (hasM m.k 97) m.pre
 have h3 := flags_le (hasM m.k 103) m.ok
 have h4 := encs_le intL 8 (hN7 m.k) m.n7 (fun x _ => intL_le x)
 rw [show m.n3.length = 3 from rfl] at h1
 rw [show m.n7.length = 7 from rfl] at h4
 refine ⟨?_, ?_, ?_, ?_⟩ <;> simp only [List.length_append, List.length_nil] <;> omega
theorem tailF_len (m : Ms) (hd : m.da.length ≤ 4000) : (tailF m).length ≤ 5000 := by
 have h1 := encs_le intL 8 h3 m.n3 (fun x _ => intL_le x)
 have h2 := flags_le (hasM m.k 97) m.pre
 have h3 := flags_le (hasM m.k 103) m.ok
 have h4 := encs_le intL 8 (hN7 m.k) m.n7 (fun x _ => intL_le x)
 have h5 := encs_le enD 4008 [hasM m.k 100] [m.da] (fun x hx => by simp at hx; subst hx; unfold enD; rw [List.length_append]; have := intL_le m.da.length; omega)
 rw [show m.n3.length = 3 from rfl] at h1
 rw [show m.n7.length = 7 from rfl] at h4
 rw [show [m.da].length = 1 from rfl] at h5
 unfold tailF
 rw [show encs (fun f => [flB f]) (hF2 m.k) [m.pre, m.ok] = encs (fun f => [flB f]) [hasM m.k 97] [m.pre] ++ encs (fun f => [flB f]) [hasM m.k 103] [m.ok] by simp [encs, hF2]]
 simp only [List.length_append]
 omega
theorem mfields_any (p : Nat) (m : Ms) (ub ud : Value) (w : World) (hk : 1 ≤ m.k ∧ m.k ≤ 8) (hq : w.rangeAt p 0 (cellsM m ub ud)) (hd : Sl bc w ud m.da) (hdl : m.da.length ≤ 4000) (hn : ∀ x ∈ m.n3 ++ m.n7, x ≤ 9223372036854775807) :
  Calls Tryz.prog 33 #[.pointer (some ⟨p, 0, none⟩), .int .u16 (sbjM m.k)] w fun e w' => ∃ y, e = .returned y ∧ Ow w.heap.size w' y (tailF m) ∧ Below w.heap.size w w' := by
 obtain ⟨q0, q1, _, _, _, _, _, _, _, q9, _⟩ := bitM_has hk
 have HQ := hide hq
 have HD := hide hd
 have HNB := hide hn
 have LEN := hide (tailF_lens m)
 have HOE : Hid (Ow w.heap.size w (.slice none 0 0) []) := hide (ow_nil _ _)
 have HBE : Hid (Below w.heap.size w w) := hide (Below.refl _ _)
 have hz : w.heap.size ≤ w.heap.size := Nat.le_refl _
 clear hq hd hn
 go_enter Tryz.func33, Tryz.ntmps33
 have LB : Hid ((([] : List Int)).length ≤ 300) := hide (by simp)
 go_upto_region 3 with (first | (go_at_call 49; refine (heads_any _ _).mono ?_; rintro e Y ⟨rfl, hY⟩; unfold ptH))
 have HB1 := hide (HBE.out.trans (hY.mono hz))
 have HO1 := hide (HOE.out.below hY)
 clear hY HBE HOE hz
 go_wp2_with fail
 go_loopw [5, 12] (fun y i wr => ∃ j : Nat, j ≤ 3 ∧ i = .int .i64 (j : Int) ∧ Hid (Ow w.heap.size wr y (([] : List Int) ++ encs intL (h3.take j) (m.n3.take j))) ∧ Hid (Below w.heap.size w wr)) (fun _ i _ => 3 - (intOf i).toNat)
 case atStart => exact ⟨0, Nat.zero_le _, rfl, hide (by simpa [encs] using HO1.out), HB1⟩
 case round =>
  clear HO1 HB1
  obtain ⟨j, hj, rfl, HOJ, HBJ⟩ := hrel
  have hz := HBJ.out.size
  by_cases hlt : j < 3
  ·have hltI : (j : Int) < 3 := by omega
   have hix := idxH p j hlt
   have hcj := cellH (range_bel HQ.out HBJ.out) j hlt
   have hxb : m.n3.getD j 0 ≤ 9223372036854775807 := HNB.out _ (by simp only [List.mem_append]; exact .inl (getD_mem _ _ j 3 rfl hlt))
   have hen : (([] : List Int) ++ encs intL (h3.take j) (m.n3.take j)).length ≤ 600000 := by
    have h1 := encs_le intL 8 (h3.take j) (m.n3.take j) (fun x _ => intL_le x)
    have h4 : (m.n3.take j).length ≤ 3 := by rw [List.length_take]; omega
    have := Nat.mul_le_mul_left 8 h4
    have h5 := LB.out
    rw [List.length_append]
    omega
   have HE : Hid (encs intL (h3.take (j + 1)) (m.n3.take (j + 1)) = encs intL (h3.take j) (m.n3.take j) ++ (if h3.getD j false then intL (m.n3.getD j 0) else [])) := hide (by
    have e1 : h3.getD j false = h3[j]'hlt := getD_get _ _ _ hlt
    have e2 : m.n3.getD j 0 = m.n3[j]'hlt := getD_get _ _ _ hlt
    rw [encs_take intL h3 m.n3 j hlt rfl, e1, e2]
    rfl)
   have hjt : h3.getD j false = true := by
    have hc : j = 0 ∨ j = 1 ∨ j = 2 := by omega
    rcases hc with rfl | rfl | rfl <;> rfl
   rw [hjt] at HE
   generalize m.n3.getD j 0 = x at *
   have HI := hide (wint_ow w.heap.size u5 _ x wr HOJ.out (by omega) hz hxb)
   go_wp2_with (first | (go_at_call 68; refine HI.out.mono ?_; rintro e V1 ⟨v1, rfl, ho1, hb1⟩; have HO1 := hide ho1; have HB1 := hide (HBJ.out.trans hb1); clear ho1 hb1))
   go_roundw
   case rel => exact ⟨j + 1, by omega, by go_num, hide (by have e := HE.out; simp only [↓reduceIte] at e; rw [e, ← List.append_assoc]; exact HO1.out), HB1⟩
   case measure => simp [intOf]; omega
  ·obtain rfl : j = 3 := by omega
   clear hlt hj
   have HOE : Hid (Ow w.heap.size wr u5 (([] : List Int) ++ encs intL h3 m.n3)) := HOJ
   have HBE := HBJ
   clear HOJ HBJ
   have HH := hide (fun W => mhas_any (sbjM m.k) 1 W)
   rw [q0] at HH
   go_upto_if 22 with (go_at_call 34; refine (HH.out _).mono ?_; rintro e w1 ⟨rfl, hw1⟩; rw [hw1]; clear hw1 w1)
   go_cut [5] (fun y W => Hid (Ow w.heap.size W y (([] ++ encs intL h3 m.n3) ++ encs (fun f => [flB f]) [hasM m.k 97] [m.pre])) ∧ Hid (Below w.heap.size w W))
   case first =>
    have hc := range_bel HQ.out HBE.out 4 _ rfl
    rw [Nat.zero_add] at hc
    cases hh : hasM m.k 97 with
    | true =>
     go_wp2_with (first | (go_at_call 69; refine (wflag_ow w.heap.size _ _ m.pre _ HOE.out (by have := LEN.out.1; omega) hz).mono ?_; rintro e V1 ⟨v1, rfl, ho1, hb1⟩))
     go_meet
     exact ⟨hide (by rw [hh]; simpa [encs, List.append_assoc] using ho1), hide (HBE.out.trans hb1)⟩
    | false =>
     go_wp2_with fail
     go_meet
     exact ⟨hide (by rw [hh]; simpa [encs] using HOE.out), HBE⟩
   case rest =>
    clear HOE HBE hz HH
    obtain ⟨HOE, HBE⟩ := hcut
    have hz := HBE.out.size
    have HH := hide (fun W => mhas_any (sbjM m.k) 2 W)
    rw [q1] at HH
    go_upto_if 30 with (go_at_call 34; refine (HH.out _).mono ?_; rintro e w1 ⟨rfl, hw1⟩; rw [hw1]; clear hw1 w1)
    go_cut [5] (fun y W => Hid (Ow w.heap.size W y ((([] ++ encs intL h3 m.n3) ++ encs (fun f => [flB f]) [hasM m.k 97] [m.pre]) ++ encs (fun f => [flB f]) [hasM m.k 103] [m.ok])) ∧ Hid (Below w.heap.size w W))
    case first =>
     have hc := range_bel HQ.out HBE.out 5 _ rfl
     rw [Nat.zero_add] at hc
     cases hh : hasM m.k 103 with
     | true =>
      go_wp2_with (first | (go_at_call 69; refine (wflag_ow w.heap.size _ _ m.ok _ HOE.out (by have := LEN.out.2.1; omega) hz).mono ?_; rintro e V1 ⟨v1, rfl, ho1, hb1⟩))
      go_meet
      exact ⟨hide (by rw [hh]; simpa [encs, List.append_assoc] using ho1), hide (HBE.out.trans hb1)⟩
     | false =>
      go_wp2_with fail
      go_meet
      exact ⟨hide (by rw [hh]; simpa [encs] using HOE.out), HBE⟩
    case rest =>
     clear HOE HBE hz HH
     obtain ⟨HOE, HBE⟩ := hcut
     have hz := HBE.out.size
     have LB : Hid ((((([] ++ encs intL h3 m.n3) ++ encs (fun f => [flB f]) [hasM m.k 97] [m.pre]) ++ encs (fun f => [flB f]) [hasM m.k 103] [m.ok])).length ≤ 300) := hide (by have := LEN.out.2.2.1; omega)
     go_upto_region 12 with (first | (go_at_call 52; refine (numbs_any _ _).mono ?_; rintro e Y ⟨rfl, hY⟩; unfold ptN))
     have HB1 := hide (HBE.out.trans (hY.mono hz))
     have HO1 := hide (HOE.out.below hY)
     clear hY HBE HOE hz
     go_wp2_with fail
     go_loopw [5, 39] (fun y i wr => ∃ j : Nat, j ≤ 7 ∧ i = .int .i64 (j : Int) ∧ Hid (Ow w.heap.size wr y (((([] ++ encs intL h3 m.n3) ++ encs (fun f => [flB f]) [hasM m.k 97] [m.pre]) ++ encs (fun f => [flB f]) [hasM m.k 103] [m.ok]) ++ encs intL ((hN7 m.k).take j) (m.n7.take j))) ∧ Hid (Below w.heap.size w wr)) (fun _ i _ => 7 - (intOf i).toNat)
     case atStart => exact ⟨0, Nat.zero_le _, rfl, hide (by simpa [encs] using HO1.out), HB1⟩
     case round =>
      clear HO1 HB1
      obtain ⟨j, hj, rfl, HOJ, HBJ⟩ := hrel
      have hz := HBJ.out.size
      by_cases hlt : j < 7
      ·have hltI : (j : Int) < 7 := by omega
       have hix := idxN p j hlt
       have hcj := cellN (range_bel HQ.out HBJ.out) j hlt
       have hxb : m.n7.getD j 0 ≤ 9223372036854775807 := HNB.out _ (by simp only [List.mem_append]; exact .inr (getD_mem _ _ j 7 rfl hlt))
       have hen : (((([] ++ encs intL h3 m.n3) ++ encs (fun f => [flB f]) [hasM m.k 97] [m.pre]) ++ encs (fun f => [flB f]) [hasM m.k 103] [m.ok]) ++ encs intL ((hN7 m.k).take j) (m.n7.take j)).length ≤ 600000 := by
        have h1 := encs_le intL 8 ((hN7 m.k).take j) (m.n7.take j) (fun x _ => intL_le x)
        have h4 : (m.n7.take j).length ≤ 7 := by rw [List.length_take]; omega
        have := Nat.mul_le_mul_left 8 h4
        have h5 := LB.out
        rw [List.length_append]
        omega
       have HE : Hid (encs intL ((hN7 m.k).take (j + 1)) (m.n7.take (j + 1)) = encs intL ((hN7 m.k).take j) (m.n7.take j) ++ (if (hN7 m.k).getD j false then intL (m.n7.getD j 0) else [])) := hide (by
        have e1 : (hN7 m.k).getD j false = (hN7 m.k)[j]'hlt := getD_get _ _ _ hlt
        have e2 : m.n7.getD j 0 = m.n7[j]'hlt := getD_get _ _ _ hlt
        rw [encs_take intL (hN7 m.k) m.n7 j hlt rfl, e1, e2]
        rfl)
       have HH := hide (fun W => mhas_any (sbjM m.k) (4 * 2 ^ j % 65536) W)
       rw [bitN hk j hlt] at HH
       generalize m.n7.getD j 0 = x at *
       generalize (hN7 m.k).getD j false = hb at *
       have HI := hide (wint_ow w.heap.size u5 _ x wr HOJ.out (by omega) hz hxb)
       cases hb with
       | true =>
        go_wp2_with (first | (go_at_call 34; refine (HH.out _).mono ?_; rintro e w1 ⟨rfl, hw1⟩; rw [hw1]; clear hw1 w1) | (go_at_call 68; refine HI.out.mono ?_; rintro e V1 ⟨v1, rfl, ho1, hb1⟩; have HO1 := hide ho1; have HB1 := hide (HBJ.out.trans hb1); clear ho1 hb1))
        go_roundw
        case rel => exact ⟨j + 1, by omega, by go_num, hide (by have e := HE.out; simp only [↓reduceIte] at e; rw [e, ← List.append_assoc]; exact HO1.out), HB1⟩
        case measure => simp [intOf]; omega
       | false =>
        go_wp2_with (first | (go_at_call 34; refine (HH.out _).mono ?_; rintro e w1 ⟨rfl, hw1⟩; rw [hw1]; clear hw1 w1))
        go_roundw
        case rel => exact ⟨j + 1, by omega, by go_num, hide (by rw [HE.out]; simpa using HOJ.out), HBJ⟩
        case measure => simp [intOf]; omega
      ·obtain rfl : j = 7 := by omega
       clear hlt hj
       have HOE : Hid (Ow w.heap.size wr u5 (((([] ++ encs intL h3 m.n3) ++ encs (fun f => [flB f]) [hasM m.k 97] [m.pre]) ++ encs (fun f => [flB f]) [hasM m.k 103] [m.ok]) ++ encs intL (hN7 m.k) m.n7)) := HOJ
       have HBE := HBJ
       clear HOJ HBJ
       have HH := hide (fun W => mhas_any (sbjM m.k) 512 W)
       rw [q9] at HH
       go_upto_if 54 with (go_at_call 34; refine (HH.out _).mono ?_; rintro e w1 ⟨rfl, hw1⟩; rw [hw1]; clear hw1 w1)
       go_cut [5] (fun y W => Hid (Ow w.heap.size W y ((((([] ++ encs intL h3 m.n3) ++ encs (fun f => [flB f]) [hasM m.k 97] [m.pre]) ++ encs (fun f => [flB f]) [hasM m.k 103] [m.ok]) ++ encs intL (hN7 m.k) m.n7) ++ encs enD [hasM m.k 100] [m.da])) ∧ Hid (Below w.heap.size w W))
       case first =>
        have hc := range_bel HQ.out HBE.out 14 _ rfl
        rw [Nat.zero_add] at hc
        cases hh : hasM m.k 100 with
        | true =>
         go_wp2_with (first | (go_at_call 70; refine (wtext_ow w.heap.size _ _ _ m.da w _ HOE.out (by have := LEN.out.2.2.2; omega) hz HD.out (Nat.le_refl _) HBE.out hdl).mono ?_; rintro e V1 ⟨v1, rfl, ho1, hb1⟩))
         go_meet
         exact ⟨hide (by rw [hh]; simpa [encs, List.append_assoc] using ho1), hide (HBE.out.trans hb1)⟩
        | false =>
         go_wp2_with fail
         go_meet
         exact ⟨hide (by rw [hh]; simpa [encs] using HOE.out), HBE⟩
       case rest =>
        clear HOE HBE hz HH
        obtain ⟨HOE, HBE⟩ := hcut
        have hz := HBE.out.size
        have HOE2 : Hid (Ow w.heap.size wc u5 (tailF m)) := hide (by have h9 := HOE.out; unfold tailF; rw [show encs (fun f => [flB f]) (hF2 m.k) [m.pre, m.ok] = encs (fun f => [flB f]) [hasM m.k 97] [m.pre] ++ encs (fun f => [flB f]) [hasM m.k 103] [m.ok] by simp [encs, hF2]]; simp only [List.append_assoc, List.nil_append] at h9 ⊢; exact h9)
        go_wp2_with fail
        go_ret
        exact ⟨_, rfl, HOE2.out, HBE.out⟩
def lnBs : List Bt → Nat → Option (Nat × Nat)
 | [], _ => none
 | x :: xs, i => if (bytL x).length ≤ 16384 then lnBs xs (i + 1) else some (i, (bytL x).length)
theorem lnBs_none : ∀ (xs : List Bt) (i : Nat), (∀ x ∈ xs, (bytL x).length ≤ 16384) → lnBs xs i = none
 | [], _, _ => rfl
 | x :: xs, i, h => by
  unfold lnBs
  rw [if_pos (h x (by simp))]
  exact lnBs_none xs (i + 1) fun y hy => h y (by simp [hy])
theorem lnBs_some : ∀ (xs : List Bt) (i j : Nat) (hj : j < xs.length), (∀ x ∈ xs.take j, (bytL x).length ≤ 16384) → ¬ (bytL xs[j]).length ≤ 16384 → lnBs xs i = some (i + j, (bytL xs[j]).length)
 | [], _, j, hj, _, _ => by simp at hj
 | x :: xs, i, 0, _, _, h => by
  have h' : ¬ (bytL x).length ≤ 16384 := h
  unfold lnBs
  rw [if_neg h']
  rfl
 | x :: xs, i, j + 1, hj, h, hn => by
  unfold lnBs
  rw [if_pos (h x (by simp))]
  have := lnBs_some xs (i + 1) j (by simpa using hj) (fun y hy => h y (by simp [hy])) hn
  rw [this, show i + 1 + j = i + (j + 1) by omega]
  rfl
def evQ (m : Ms) : Option (List (ByteArray × Int) × Int) := match lnBs m.bs 0 with
 | some q => some ([(⟨#[98, 97, 116, 99, 104]⟩, (q.1 : Int)), (⟨#[98, 97, 116, 99, 104]⟩, (q.2 : Int))], 6)
 | none => if (tailM m).length ≤ 16384 then none else some ([(⟨#[109, 101, 115, 115, 97, 103, 101]⟩, ((tailM m).length : Int))], 6)
def evP (m : Ms) : Option (List (ByteArray × Int) × Int) := match evM m with
 | some q => some q
 | none => evQ m
theorem Bl.rg2 {w : World} {ao : Option Addr} {n cap : Nat} {qs : List Bq} (h : Bl w (.slice ao n cap) qs) : 0 < qs.length → ∃ b o, ao = some ⟨b, o, none⟩ ∧ w.rangeAt b o (bcs qs) := fun hp => by
 rcases h.1 with ⟨_, _, rfl, _⟩ | ⟨b, o, cap', e, _, _, h3⟩
 ·simp at hp
 ·cases e; exact ⟨b, o, rfl, h3⟩
theorem wpList_append_owp {ops : Array Oper} {rest : List Oper} {o : Oper} {a : Act} {w : World} {Q : Exit → Act → World → Prop} (hgd : o.guard = none) (s x : Operand)
  (ho : o.op = .call { callee := .builtin .append, args := #[s, x], argTypes := #[22, 22] }) (B : Nat) (u : Value) (L : List Int) (hs : a.eval s = u) (hr : Ow B w u L) (hB : B ≤ w.heap.size) (v : Value) (l : List Int)
  (hx : a.eval x = v) (hv : Sl bc w v l) (hn : L.length + l.length ≤ 1000000)
  (h : ∀ w' v', Ow B w' v' (L ++ l) → Below B w w' → wpList Tryz.prog ops Q rest (a.put o.dst v') w') : wpList Tryz.prog ops Q (o :: rest) a w := by
 obtain ⟨cur, h1, h2⟩ := hr
 exact wpList_append_sl w hgd s x ho B u L.length cur hs h1 hB v l hx hv hn fun w' v' cur' hp => h w' v' (Ow.put h2 hp) hp.below
theorem bats_le {xs : List Bt} (h : ∀ x ∈ xs, (bytL x).length ≤ 16384) : (batsL xs).length ≤ 16384 * xs.length := by
 induction xs with
 | nil => simp [batsL]
 | cons x xs ih =>
  have h1 := h x (by simp)
  have h2 := ih fun y hy => h y (by simp [hy])
  rw [batsL_cons, List.length_append, List.length_cons]
  omega
def PbP (B : Nat) (l0 : List Int) (xs : List Bt) (w : World) (e : Ending) (w' : World) : Prop :=
 (match lnBs xs 0 with
  | some q => e = .returned (.tuple #[.slice none 0 0, ev (some ([(⟨#[98, 97, 116, 99, 104]⟩, (q.1 : Int)), (⟨#[98, 97, 116, 99, 104]⟩, (q.2 : Int))], 6))])
  | none => ∃ y, e = .returned (.tuple #[y, .nilIface]) ∧ Ow B w' y (l0 ++ (intL xs.length ++ batsL xs))) ∧ Below B w w'
set_option maxRecDepth 100000 in
set_option maxHeartbeats 16000000 in
theorem mput_bad (k fr tn t ld pa pt hi co sz po : Int) (pre ok : Bool) (ab ad : Option Addr) (nb cb nd cd : Nat) (w : World) (F : TypeId) (U : Value) (HC : Hid (∀ W, Below w.heap.size w W → Calls Tryz.prog 12 #[.agg #[.int .i64 k, .int .i64 fr, .int .i64 tn, .int .i64 t, .bool pre, .bool ok, .int .i64 ld, .int .i64 pa, .int .i64 pt, .int .i64 hi, .int .i64 co, .slice ab nb cb, .int .i64 sz, .int .i64 po, .slice ad nd cd]] W fun e w' => e = .returned (.iface F U) ∧ Below W.heap.size W w')) :
  Calls Tryz.prog 9 #[.agg #[.int .i64 k, .int .i64 fr, .int .i64 tn, .int .i64 t, .bool pre, .bool ok, .int .i64 ld, .int .i64 pa, .int .i64 pt, .int .i64 hi, .int .i64 co, .slice ab nb cb, .int .i64 sz, .int .i64 po, .slice ad nd cd]] w fun e w' => e = .returned (.tuple #[.agg #[.int .i64 0, .slice none 0 0], .iface F U]) ∧ Below w.heap.size w w' := by
 have hb : Below w.heap.size w ((w.alloc (.cells #[.int .i64 k, .int .i64 fr, .int .i64 tn, .int .i64 t, .bool pre, .bool ok, .int .i64 ld, .int .i64 pa, .int .i64 pt, .int .i64 hi, .int .i64 co, .slice ab nb cb, .int .i64 sz, .int .i64 po, .slice ad nd cd] 26)).alloc (.cells #[.int .i64 0, .slice none 0 0] 32)) := ((Below.refl _ _).alloc (Nat.le_refl _) _).alloc (by simp) _
 have HC2 := hide (HC.out _ hb)
 have HB := hide hb
 have hq := range_bel (range_new w [.int .i64 k, .int .i64 fr, .int .i64 tn, .int .i64 t, .bool pre, .bool ok, .int .i64 ld, .int .i64 pa, .int .i64 pt, .int .i64 hi, .int .i64 co, .slice ab nb cb, .int .i64 sz, .int .i64 po, .slice ad nd cd] 26) ((Below.refl _ _).alloc (Nat.le_refl _) (.cells #[.int .i64 0, .slice none 0 0] 32))
 have HQ := hide hq
 clear HC hb hq
 have hf0 : ∀ W, Below ((w.alloc (.cells #[.int .i64 k, .int .i64 fr, .int .i64 tn, .int .i64 t, .bool pre, .bool ok, .int .i64 ld, .int .i64 pa, .int .i64 pt, .int .i64 hi, .int .i64 co, .slice ab nb cb, .int .i64 sz, .int .i64 po, .slice ad nd cd] 26)).alloc (.cells #[.int .i64 0, .slice none 0 0] 32)).heap.size ((w.alloc (.cells #[.int .i64 k, .int .i64 fr, .int .i64 tn, .int .i64 t, .bool pre, .bool ok, .int .i64 ld, .int .i64 pa, .int .i64 pt, .int .i64 hi, .int .i64 co, .slice ab nb cb, .int .i64 sz, .int .i64 po, .slice ad nd cd] 26)).alloc (.cells #[.int .i64 0, .slice none 0 0] 32)) W → (W.cell? ⟨w.heap.size + 1, 0, none⟩ = some (.int .i64 0) ∧ W.cell? ⟨w.heap.size + 1, 1, none⟩ = some (.slice none 0 0)) ∧ (W.frozen? ⟨w.heap.size + 1, 0, none⟩ = false ∧ W.frozen? ⟨w.heap.size + 1, 1, none⟩ = false) := fun W h => by
  refine ⟨⟨?_, ?_⟩, ?_, ?_⟩
  ·rw [h.cell (p := ⟨w.heap.size + 1, 0, none⟩) (by simp)]; simp
  ·rw [h.cell (p := ⟨w.heap.size + 1, 1, none⟩) (by simp)]; simp
  ·rw [h.frozen (p := ⟨w.heap.size + 1, 0, none⟩) (by simp)]; simp
  ·rw [h.frozen (p := ⟨w.heap.size + 1, 1, none⟩) (by simp)]; simp
 have HF0 := hide hf0
 clear hf0
 go_enter Tryz.func9, Tryz.ntmps9
 go_upto_region 2 with (first | (refine wpList_load_mid rfl _ _ rfl _ _ rfl _ _ HQ.out Tryz.underlying26 rfl (by kernel_rfl) ?_) | (go_at_call 12; refine HC2.out.mono ?_; rintro e w1 ⟨rfl, hb1⟩; have HB1 := hide (HB.out.trans (hb1.mono HB.out.size)); obtain ⟨⟨r0, r1⟩, rf0, rf1⟩ := HF0.out _ hb1; clear hb1))
 go_wp2_with fail
 exact bodyPost_ret (v := .tuple #[.agg #[.int .i64 0, .slice none 0 0], .iface F U]) (by simp [results, Tryz.results9, go_sem, r0, r1]) rfl ⟨rfl, (HB1.out.setCell (by exact Nat.le_succ _) _).setCell (by exact Nat.le_succ _) _⟩
structure Lite (m : Ms) : Prop where
 k : 1 ≤ m.k ∧ m.k ≤ 8
 n : ∀ x ∈ m.n3 ++ m.n7, x ≤ 9223372036854775807
 da : m.da.length ≤ 512
 bl : m.bs.length ≤ 8
 b0 : hasM m.k 98 = false → m.bs = []
 bs : ∀ x ∈ m.bs, (bw x).c = 0
theorem evBs_ok : ∀ (xs : List Bt) (i : Nat), evBs xs i = none → ∀ x ∈ xs, (bw x).c = 0
 | [], _, _, x, hx => by simp at hx
 | y :: xs, i, h, x, hx => by
  unfold evBs at h
  cases hq : evB (bw y) with
  | some q => rw [hq] at h; simp at h
  | none =>
   rw [hq] at h
   rcases List.mem_cons.1 hx with rfl | hx
   ·exact evB_none.1 hq
   ·exact evBs_ok xs (i + 1) h x hx
theorem numB_le {n hi : Int} {h : Bool} (e : ¬ numB n h 0 hi = false) (hh : 0 ≤ hi) : n ≤ hi := by
 have e' := numB_asks (numB_yes e)
 split at e' <;> omega
theorem lite {m : Ms} (h : evM m = none) : Lite m := by
 unfold evM at h
 by_cases hh : (headM m).2.2 = 0
 case neg => rw [if_neg hh] at h; cases h
 rw [if_pos hh] at h
 unfold headM checkMB at hh
 simp only [decide_eq_true_eq] at hh
 by_cases c0 : (m.k < 1 ∨ 8 < m.k)
 ·rw [if_pos c0] at hh; exact absurd (show (5 : Int) = 0 from hh) (by decide)
 rw [if_neg c0] at hh
 by_cases c1 : (m.fr < 1 ∨ 1073741824 < m.fr ∨ m.tn < 1 ∨ 1073741824 < m.tn ∨ m.fr = m.tn)
 ·rw [if_pos c1] at hh; exact absurd (show (2 : Int) = 0 from hh) (by decide)
 rw [if_neg c1] at hh
 by_cases c2 : (m.t < 0 ∨ 1073741824 < m.t)
 ·rw [if_pos c2] at hh; exact absurd (show (2 : Int) = 0 from hh) (by decide)
 rw [if_neg c2] at hh
 by_cases c3 : ((m.pre = true ∧ hasM m.k 97 = false) ∨ (m.ok = true ∧ hasM m.k 103 = false))
 ·rw [if_pos c3] at hh; exact absurd (show (1 : Int) = 0 from hh) (by decide)
 rw [if_neg c3] at hh
 by_cases c4 : (numB m.ld (hasM m.k 108) 0 1073741824 = false)
 ·rw [if_pos c4] at hh; exact absurd (show (2 : Int) = 0 from hh) (by decide)
 rw [if_neg c4] at hh
 by_cases c5 : (numB m.pa (hasM m.k 112) 0 1073741824 = false ∨ numB m.pt (hasM m.k 112) 0 1073741824 = false)
 ·rw [if_pos c5] at hh; exact absurd (show (2 : Int) = 0 from hh) (by decide)
 rw [if_neg c5] at hh
 by_cases c6 : (numB m.hi (hasM m.k 104) 0 1073741824 = false)
 ·rw [if_pos c6] at hh; exact absurd (show (2 : Int) = 0 from hh) (by decide)
 rw [if_neg c6] at hh
 by_cases c7 : (numB m.co (hasM m.k 99) 0 21 = false)
 ·rw [if_pos c7] at hh; exact absurd (show (2 : Int) = 0 from hh) (by decide)
 rw [if_neg c7] at hh
 by_cases c8 : (numB m.sz (hasM m.k 115) 0 1073741824 = false ∨ numB m.po (hasM m.k 111) 0 1073741824 = false)
 ·rw [if_pos c8] at hh; exact absurd (show (2 : Int) = 0 from hh) (by decide)
 rw [if_neg c8] at hh
 by_cases c9 : (512 < m.da.length ∨ (0 < m.da.length ∧ hasM m.k 100 = false))
 ·rw [if_pos c9] at hh; exact absurd (show (6 : Int) = 0 from hh) (by decide)
 rw [if_neg c9] at hh
 by_cases c10 : (8 < m.bs.length ∨ (0 < m.bs.length ∧ hasM m.k 98 = false))
 ·rw [if_pos c10] at hh; exact absurd (show (6 : Int) = 0 from hh) (by decide)
 rw [if_neg c10] at hh
 refine ⟨by omega, fun x hx => ?_, by omega, by omega, fun e => ?_, evBs_ok m.bs 0 h⟩
 ·have n4 := numB_le c4 (by decide)
  have n5 := numB_le (fun e => c5 (.inl e)) (by decide)
  have n6 := numB_le (fun e => c5 (.inr e)) (by decide)
  have n7 := numB_le c6 (by decide)
  have n8 := numB_le c7 (by decide)
  have n9 := numB_le (fun e => c8 (.inl e)) (by decide)
  have n10 := numB_le (fun e => c8 (.inr e)) (by decide)
  simp only [Ms.n3, Ms.n7, List.cons_append, List.nil_append, List.mem_cons, List.not_mem_nil, or_false] at hx
  rcases hx with rfl | rfl | rfl | rfl | rfl | rfl | rfl | rfl | rfl | rfl <;> omega
 ·rcases Nat.eq_zero_or_pos m.bs.length with q | q
  ·exact List.length_eq_zero_iff.1 q
  ·exact absurd (.inr ⟨q, e⟩) c10
def PuP (m : Ms) (w : World) (e : Ending) (w' : World) : Prop :=
 (match evP m with
  | some q => e = .returned (.tuple #[.agg #[.int .i64 0, .slice none 0 0], ev (some q)])
  | none => ∃ y, e = .returned (.tuple #[.agg #[.int .i64 m.k, y], .nilIface]) ∧ Sl bc w' y (tailM m)) ∧ Below w.heap.size w w'
theorem put_in (w : World) (xs : List Value) {X : World} (hX : X = (w.alloc (.cells xs.toArray 26)).alloc (.cells #[.int .i64 0, .slice none 0 0] 32)) : Below w.heap.size w X ∧ X.rangeAt w.heap.size 0 xs ∧ ∀ W, Below X.heap.size X W → (W.cell? ⟨w.heap.size + 1, 0, none⟩ = some (.int .i64 0) ∧ W.cell? ⟨w.heap.size + 1, 1, none⟩ = some (.slice none 0 0)) ∧ (W.frozen? ⟨w.heap.size + 1, 0, none⟩ = false ∧ W.frozen? ⟨w.heap.size + 1, 1, none⟩ = false) := by
 have hz : X.heap.size = w.heap.size + 2 := by rw [hX]; simp
 refine ⟨by rw [hX]; exact ((Below.refl _ _).alloc (Nat.le_refl _) _).alloc (by simp) _, by rw [hX]; exact range_bel (range_new w xs 26) ((Below.refl _ _).alloc (Nat.le_refl _) _), fun W h => ?_⟩
 have hc : ∀ i, W.cell? ⟨w.heap.size + 1, i, none⟩ = X.cell? ⟨w.heap.size + 1, i, none⟩ := fun i => h.cell (p := ⟨w.heap.size + 1, i, none⟩) (by show w.heap.size + 1 < _; omega)
 have hf : ∀ i, W.frozen? ⟨w.heap.size + 1, i, none⟩ = X.frozen? ⟨w.heap.size + 1, i, none⟩ := fun i => h.frozen (p := ⟨w.heap.size + 1, i, none⟩) (by show w.heap.size + 1 < _; omega)
 exact ⟨⟨by rw [hc, hX]; simp, by rw [hc, hX]; simp⟩, by rw [hf, hX]; simp, by rw [hf, hX]; simp⟩
theorem sl_two {W : World} {v : Value} {l : List Int} {b : Nat} {x y : Value} (h : Sl bc W v l) (hb : W.heap.size ≤ b ∨ ∀ b' o k c, v = .slice (some ⟨b', o, none⟩) k c → b' ≠ b) : Sl bc ((W.setCell ⟨b, 0, none⟩ x).setCell ⟨b, 1, none⟩ y) v l := by
 rcases h with h | ⟨b', o, cap, h1, h2, h3⟩
 ·exact .inl h
 ·rcases l with _ | ⟨z, l⟩
  ·exact .inl ⟨_, _, rfl, h1⟩
  ·have hl := cell_block (h3 0 (by simp))
   have hne : b' ≠ b := by
    rcases hb with q | q
    ·simp only at hl; omega
    ·exact q b' o _ cap h1
   exact .inr ⟨b', o, cap, h1, h2, fun i hi => by rw [World.cell?_setCell_other _ _ _ _ (fun e => hne (congrArg Addr.block e).symm), World.cell?_setCell_other _ _ _ _ (fun e => hne (congrArg Addr.block e).symm)]; exact h3 i hi⟩
set_option maxRecDepth 100000 in
set_option maxHeartbeats 16000000 in
theorem cput_ngo (B : Nat) (u : Value) (l0 : List Int) (br ep tp pa le cl se co : Int) (fl : Bool) (nm ky va rk : List UInt8) (a14 a15 a16 a17 : Option Addr) (c14 c15 c16 c17 : Nat) (ids isr ad dr : List Int) (w : World) (hu : Ow B w u l0) (hl0 : l0.length ≤ 700000) (hB : B ≤ w.heap.size)
  (HC : Hid (∀ W, Below w.heap.size w W → Calls Tryz.prog 107 #[.agg #[.int .i64 1, .int .i64 br, .int .i64 ep, .int .i64 tp, .int .i64 pa, .int .i64 le, .int .i64 cl, .int .i64 se, .int .i64 co, .bool fl, .string ⟨nm.toArray⟩, .string ⟨ky.toArray⟩, .string ⟨va.toArray⟩, .string ⟨rk.toArray⟩, .slice a14 ids.length c14, .slice a15 isr.length c15, .slice a16 ad.length c16, .slice a17 dr.length c17]] W fun e w' => e = .returned .nilIface ∧ Below W.heap.size W w')) :
  Calls Tryz.prog 103 #[u, .agg #[.int .i64 1, .int .i64 br, .int .i64 ep, .int .i64 tp, .int .i64 pa, .int .i64 le, .int .i64 cl, .int .i64 se, .int .i64 co, .bool fl, .string ⟨nm.toArray⟩, .string ⟨ky.toArray⟩, .string ⟨va.toArray⟩, .string ⟨rk.toArray⟩, .slice a14 ids.length c14, .slice a15 isr.length c15, .slice a16 ad.length c16, .slice a17 dr.length c17]] w fun e w' => ∃ v', e = .returned (.tuple #[v', .nilIface]) ∧ Ow B w' v' (l0 ++ [1]) ∧ Gw B w w' u v' := by
 have hub : u.ownBlock ≠ some w.heap.size := fun e => by have := (ow_lt hu e).1; omega
 have HS := hide (fun W => subj_any 1 W)
 obtain ⟨X, hX⟩ : ∃ X, X = w.alloc (.cells #[.int .i64 1, .int .i64 br, .int .i64 ep, .int .i64 tp, .int .i64 pa, .int .i64 le, .int .i64 cl, .int .i64 se, .int .i64 co, .bool fl, .string ⟨nm.toArray⟩, .string ⟨ky.toArray⟩, .string ⟨va.toArray⟩, .string ⟨rk.toArray⟩, .slice a14 ids.length c14, .slice a15 isr.length c15, .slice a16 ad.length c16, .slice a17 dr.length c17] 45) := ⟨_, rfl⟩
 have HQ : Hid (X.rangeAt w.heap.size 0 [.int .i64 1, .int .i64 br, .int .i64 ep, .int .i64 tp, .int .i64 pa, .int .i64 le, .int .i64 cl, .int .i64 se, .int .i64 co, .bool fl, .string ⟨nm.toArray⟩, .string ⟨ky.toArray⟩, .string ⟨va.toArray⟩, .string ⟨rk.toArray⟩, .slice a14 ids.length c14, .slice a15 isr.length c15, .slice a16 ad.length c16, .slice a17 dr.length c17]) := hide (by rw [hX]; exact range_new w _ _)
 have HB : Hid (Below w.heap.size w X) := hide (by rw [hX]; exact (Below.refl _ _).alloc (Nat.le_refl _) _)
 go_enter Tryz.func103, Tryz.ntmps103
 go_upto_region 1 with fail
 rw [← hX]
 clear hX
 go_upto_region 4 with (first | (refine wpList_load_mid rfl _ _ rfl _ _ rfl _ _ HQ.out Tryz.underlying45 rfl (by kernel_rfl) ?_) | (go_at_call 107; refine (HC.out _ HB.out).mono ?_; rintro e Y ⟨rfl, hY⟩))
 replace HQ := hide (range_below HQ.out hY)
 replace HB := hide (HB.out.trans (hY.mono HB.out.size))
 clear hY
 clear X
 have g0 := (C18.of HQ.out).c0
 obtain ⟨cur, hrw, htk⟩ := id (hu.below HB.out)
 have HRW := hide hrw
 have HTK := hide htk
 have hBY : B ≤ Y.heap.size := Nat.le_trans hB HB.out.size
 clear hrw htk
 have hkw : IntKind.u8.wrap 1 = 1 := by decide
 go_upto_region 6 with (first | (go_at_call 112; refine (HS.out _).mono ?_; rintro e w1 ⟨rfl, hw1⟩; rw [hw1]; clear hw1 w1) | (at_builtin; refine wpList_append_rw _ rfl _ _ rfl B _ l0.length cur rfl (HRW.out.below ((Below.refl _ _).alloc (Nat.le_refl _) _)) (by simp; omega) _ 1 1 (bv [1]) rfl rfl (by omega) (cells_at _ _ _) (one_bytes _) (by omega) ?_; intro w1 v1 cur1 hp1))
 have hgY : Gw B Y w1 u v1 := Gw.put (hp1.pre (w := Y) hBY ((Below.refl _ _).alloc (Nat.le_refl _) _))
 have HG := hide ((Gw.of u HB.out hB).trans hgY)
 have HO := hide (Ow.put HTK.out hp1)
 have hB1 : B ≤ w1.heap.size := Nat.le_trans hBY hgY.grown.size
 clear hp1 hgY HRW HTK g0 cur HB hBY HC HS hu hkw cur1 HQ
 go_upto_region 7 with (first | (go_at_call 125; refine (numbers_pts _ _).mono ?_; rintro e w2 ⟨rfl, hY⟩; unfold pts8))
 have HE7 := hide hY
 clear hY
 go_loopw [0, 33] (fun b i wr => ∃ (j : Nat), j ≤ 8 ∧ i = .int .i64 (j : Int) ∧ v1 = b ∧ w2 = wr) (fun _ i _ => 8 - (intOf i).toNat)
 case atStart => exact ⟨0, Nat.zero_le _, rfl, rfl, rfl⟩
 case round =>
 obtain ⟨j, hj, rfl, rfl, rfl⟩ := hrel
 by_cases hlt : j < 8
 ·have hltI : (j : Int) < 8 := by omega
  have hix := idx8 w.heap.size j hlt
  have HH := hide (fun W => bhas_any (sbj 1) (2 ^ j % 4294967296) W)
  rw [bit8 ⟨by decide, by decide⟩ j hlt, (show ∀ j, j < 8 → (hN 1).getD j false = false by decide) j hlt] at HH
  go_wp2_with (first | (go_at_call 126; refine (HH.out _).mono ?_; rintro e w1 ⟨rfl, hw1⟩; rw [hw1]; clear hw1 w1))
  go_roundw
  case rel => exact ⟨j + 1, by omega, by go_num, by first | trivial | exact ⟨rfl, rfl⟩⟩
  case measure => simp [intOf]; omega
 obtain rfl : j = 8 := by omega
 clear hlt hj
 have HFB := hide (fun W => bhas_any (sbj 1) 256 W)
 rw [show bitB (sbj 1) 256 = false from by decide] at HFB
 go_upto_region 15 with (first | (go_at_call 126; refine (HFB.out _).mono ?_; rintro e w1 ⟨rfl, hw1⟩; rw [hw1]; clear hw1 w1) | (go_at_call 127; refine (texts_any _ _).mono ?_; rintro e w6 ⟨rfl, hY⟩; unfold ptsT))
 have HE15 := hide hY
 clear hY
 go_loopw [0, 54] (fun b i wr => ∃ (j : Nat), j ≤ 4 ∧ i = .int .i64 (j : Int) ∧ v1 = b ∧ w6 = wr) (fun _ i _ => 4 - (intOf i).toNat)
 case atStart => exact ⟨0, Nat.zero_le _, rfl, rfl, rfl⟩
 case round =>
 obtain ⟨j, hj, rfl, rfl, rfl⟩ := hrel
 by_cases hlt : j < 4
 ·have hltI : (j : Int) < 4 := by omega
  have hix := idxT w.heap.size j hlt
  have HH := hide (fun W => bhas_any (sbj 1) (512 * 2 ^ j % 4294967296) W)
  rw [bitT ⟨by decide, by decide⟩ j hlt, (show ∀ j, j < 4 → (hT 1).getD j false = false by decide) j hlt] at HH
  go_wp2_with (first | (go_at_call 126; refine (HH.out _).mono ?_; rintro e w1 ⟨rfl, hw1⟩; rw [hw1]; clear hw1 w1))
  go_roundw
  case rel => exact ⟨j + 1, by omega, by go_num, by first | trivial | exact ⟨rfl, rfl⟩⟩
  case measure => simp [intOf]; omega
 obtain rfl : j = 4 := by omega
 clear hlt hj
 go_upto_region 21 with (first | (go_at_call 128; refine (rows_any _ _).mono ?_; rintro e w8 ⟨rfl, hY⟩; unfold ptsR))
 have HE21 := hide hY
 clear hY
 go_loopw [0, 70] (fun b i wr => ∃ (j : Nat), j ≤ 4 ∧ i = .int .i64 (j : Int) ∧ v1 = b ∧ w8 = wr) (fun _ i _ => 4 - (intOf i).toNat)
 case atStart => exact ⟨0, Nat.zero_le _, rfl, rfl, rfl⟩
 case round =>
 obtain ⟨j, hj, rfl, rfl, rfl⟩ := hrel
 by_cases hlt : j < 4
 ·have hltI : (j : Int) < 4 := by omega
  have hix := idxR w.heap.size j hlt
  have HH := hide (fun W => bhas_any (sbj 1) (8192 * 2 ^ j % 4294967296) W)
  rw [bitR ⟨by decide, by decide⟩ j hlt, (show ∀ j, j < 4 → (hR 1).getD j false = false by decide) j hlt] at HH
  go_wp2_with (first | (go_at_call 126; refine (HH.out _).mono ?_; rintro e w1 ⟨rfl, hw1⟩; rw [hw1]; clear hw1 w1))
  go_roundw
  case rel => exact ⟨j + 1, by omega, by go_num, by first | trivial | exact ⟨rfl, rfl⟩⟩
  case measure => simp [intOf]; omega
 obtain rfl : j = 4 := by omega
 clear hlt hj
 have b12 := HE7.out
 have b16 := b12.trans (HE15.out.mono b12.size)
 have b18 := b16.trans (HE21.out.mono b16.size)
 have HOF := hide (HO.out.below b18)
 have HGF := hide (HG.out.trans (Gw.of v1 b18 hB1))
 clear b12 b16 b18 HE7 HE15 HE21 HO HG hB1 hub
 go_wp2_with fail
 exact bodyPost_ret (v := .tuple #[v1, .nilIface]) (by simp [results, Tryz.results103, go_sem]) rfl ⟨v1, rfl, HOF.out, HGF.out⟩
theorem put_nop {r : Rc} (h : r.k = 1) : putL r = [1] := by
 unfold putL tailL
 rw [h]
 rfl
theorem cput_nop (B : Nat) (u : Value) (l0 : List Int) (r : Rc) (v : Value) (w : World) (hu : Ow B w u l0) (hl0 : l0.length ≤ 700000) (hB : B ≤ w.heap.size) (hv : IsR (fun b => b < B) w v r) (hc : (chk r).2.2 = 0) (hk : r.k = 1) :
  Calls Tryz.prog 103 #[u, v] w fun e w' => ∃ v', e = .returned (.tuple #[v', .nilIface]) ∧ Ow B w' v' (l0 ++ putL r) ∧ Gw B w w' u v' := by
 have hi := chk_is hc
 have hn : ∀ (S : List UInt8) (b : Bool), nameA S b = true → S.length ≤ 1000 := fun S b e => by
  have := nameA_asks e
  split at this
  ·omega
  ·rw [this]; simp
 have HC := hide (fun W (h : Below w.heap.size w W) => ccheck_any r v W (hv.below h) ⟨hn _ _ hi.nm, hn _ _ hi.ky, by have := hi.va; omega, hn _ _ hi.rk⟩)
 rw [show erN (chk r).1 (chk r).2.1 (chk r).2.2 = .nilIface from if_pos hc] at HC
 rw [put_nop hk]
 obtain ⟨a14, a15, a16, a17, c14, c15, c16, c17, rfl, h⟩ := hv
 unfold cellsR at HC ⊢
 rw [hk] at HC ⊢
 exact cput_ngo B u l0 r.br r.ep r.tp r.pa r.le r.cl r.se r.co r.fl r.nm r.ky r.va r.rk a14 a15 a16 a17 c14 c15 c16 c17 r.ids r.isr r.ad r.dr w hu hl0 hB HC
set_option maxRecDepth 100000 in
set_option maxHeartbeats 32000000 in
theorem bput_okN {ok : Nat → Prop} (t bs : Int) (ao : Option Addr) (cap : Nat) (ps : List Rp) (w : World) (hv : Rl (fun _ => True) ok w (.slice ao ps.length cap) ps) (htx : ∀ p ∈ ps, TxR p.1) (hc : (bw ⟨t, bs, rcl ps⟩).c = 0) (hk1 : ∀ p ∈ ps, p.1.k = 1) :
  Calls Tryz.prog 71 #[.agg #[.int .i64 t, .int .i64 bs, .slice ao ps.length cap]] w fun e w' => (if (bytL ⟨t, bs, rcl ps⟩).length ≤ 16384 then ∃ y, e = .returned (.tuple #[y, .nilIface]) ∧ Ow (w.heap.size + 1) w' y (bytL ⟨t, bs, rcl ps⟩) else e = .returned (.tuple #[.slice none 0 0, ft ⟨#[98, 97, 116, 99, 104]⟩ (bytL ⟨t, bs, rcl ps⟩).length 6])) ∧ Below w.heap.size w w' := by
 obtain ⟨h1, h2, h3, h4⟩ := bw_ok hc
 simp only at h1 h2 h3 h4
 rw [rcl_len] at h3
 obtain ⟨b, o, rfl, hrg⟩ := hv.rg (by omega)
 have HC := hide (fun W (h : Below w.heap.size w W) => bcheck_go (ok := ok) t bs (some ⟨b, o, none⟩) cap ps W (fun _ => ⟨b, o, rfl, range_bel hrg h⟩) (fun p hp => (hv.2 p hp).below h) htx)
 rw [show erB (bw ⟨t, bs, rcl ps⟩) = .nilIface from if_pos hc] at HC
 have hhl := headL_len ⟨t, bs, rcl ps⟩
 have htot := putsL_len (rcl ps) h4
 rw [rcl_len] at htot
 have HH : Hid (headL ⟨t, bs, rcl ps⟩ = intL t ++ (intL bs ++ intL ps.length)) := hide (by unfold headL; simp only [rcl_len])
 have HBL : Hid (bytL ⟨t, bs, rcl ps⟩ = headL ⟨t, bs, rcl ps⟩ ++ putsL (rcl ps)) := hide rfl
 generalize bytL ⟨t, bs, rcl ps⟩ = Bs at *
 generalize headL ⟨t, bs, rcl ps⟩ = Hd at *
 have HR := hide hrg
 have HW := hide hv.2
 have H4 := hide h4
 have hn1 : 1 ≤ ps.length := h3.1
 have hn64 : ps.length ≤ 64 := h3.2
 have ht : t ≤ 9223372036854775807 := by omega
 have hbs : bs ≤ 9223372036854775807 := by omega
 have hb : Below w.heap.size w (w.alloc (.cells #[.int .i64 t, .int .i64 bs, .slice (some ⟨b, o, none⟩) ps.length cap] 48)) := (Below.refl _ _).alloc (Nat.le_refl _) _
 have HB := hide hb
 have hsz : (w.alloc (.cells #[.int .i64 t, .int .i64 bs, .slice (some ⟨b, o, none⟩) ps.length cap] 48)).heap.size = w.heap.size + 1 := by simp
 have hcell : ∀ W, Below (w.heap.size + 1) (w.alloc (.cells #[.int .i64 t, .int .i64 bs, .slice (some ⟨b, o, none⟩) ps.length cap] 48)) W → W.cell? ⟨w.heap.size, 0, none⟩ = some (.int .i64 t) ∧ W.cell? ⟨w.heap.size, 1, none⟩ = some (.int .i64 bs) ∧ W.cell? ⟨w.heap.size, 2, none⟩ = some (.slice (some ⟨b, o, none⟩) ps.length cap) := fun W h => by
  have hq : ∀ i, W.cell? ⟨w.heap.size, i, none⟩ = _ := fun i => h.cell (p := ⟨w.heap.size, i, none⟩) (by show w.heap.size < _; omega)
  exact ⟨by rw [hq]; simp, by rw [hq]; simp, by rw [hq]; simp⟩
 have HCL := hide hcell
 have HSZ := hide hsz
 have HK1 := hide hk1
 clear hk1 hv htx hc h1 h2 h3 h4 hrg hb hcell hsz
 have hap : w.heap.size ≤ w.heap.size + 1 := Nat.le_succ _
 go_enter Tryz.func71, Tryz.ntmps71
 go_upto_region 1 with fail
 generalize w.alloc (.cells #[.int .i64 t, .int .i64 bs, .slice (some ⟨b, o, none⟩) ps.length cap] 48) = Y at HB HCL HSZ ⊢
 obtain ⟨i0, i1, i2⟩ := HCL.out Y (Below.refl _ _)
 go_upto_region 2 with (first | (go_at_call 77; refine (HC.out _ HB.out).mono ?_; rintro e W1 ⟨rfl, hb1⟩; have HB1 : Hid (Below (w.heap.size + 1) Y W1) := hide (hb1.mono (by rw [HSZ.out]; exact Nat.le_refl _)); clear hb1))
 clear i0 i1 i2 HC
 have hz1 : w.heap.size + 1 ≤ W1.heap.size := by have := HB1.out.size; rw [HSZ.out] at this; exact this
 obtain ⟨i0, i1, i2⟩ := HCL.out W1 HB1.out
 have HI := hide (wint_ow (w.heap.size + 1) (.slice none 0 0) [] t W1 (ow_nil _ _) (by decide) hz1 ht)
 rw [List.nil_append] at HI
 go_upto_region 5 with (first | (go_at_call 68; refine HI.out.mono ?_; rintro e W2 ⟨v2, rfl, ho2, hb2⟩))
 have HO2 := hide ho2
 have HB2 := hide (HB1.out.trans hb2)
 have hz2 : w.heap.size + 1 ≤ W2.heap.size := Nat.le_trans hz1 hb2.size
 clear ho2 hb2 HB1 HI i0 i1 i2
 obtain ⟨i0, i1, i2⟩ := HCL.out W2 HB2.out
 have l1 := intL_le t
 have HI := hide (wint_ow (w.heap.size + 1) v2 (intL t) bs W2 HO2.out (by omega) hz2 hbs)
 go_upto_region 6 with (first | (go_at_call 68; refine HI.out.mono ?_; rintro e W3 ⟨v3, rfl, ho3, hb3⟩))
 have HO3 := hide ho3
 have HB3 := hide (HB2.out.trans hb3)
 have hz3 : w.heap.size + 1 ≤ W3.heap.size := Nat.le_trans hz2 hb3.size
 clear ho3 hb3 HB2 HO2 HI i0 i1 i2
 clear hz2 hz1
 obtain ⟨i0, i1, i2⟩ := HCL.out W3 HB3.out
 have l2 := intL_le bs
 have HI := hide (wint_ow (w.heap.size + 1) v3 (intL t ++ intL bs) ps.length W3 HO3.out (by rw [List.length_append]; omega) hz3 (by omega))
 rw [List.append_assoc, ← HH.out] at HI
 go_upto_region 7 with (first | (go_at_call 68; refine HI.out.mono ?_; rintro e W4 ⟨v4, rfl, ho4, hb4⟩))
 have HO4 := hide ho4
 have HB4 := hide (HB3.out.trans hb4)
 clear ho4 hb4 HB3 HO3 HI i0 i1 i2 hz3
 obtain ⟨i0, i1, i2⟩ := HCL.out W4 HB4.out
 go_wp2_with fail
 clear i0 i1 i2
 go_loopw [5, 28] (fun y i wr => ∃ j : Nat, j ≤ ps.length ∧ i = .int .i64 (j : Int) ∧ Ow (w.heap.size + 1) wr y (Hd ++ putsL ((rcl ps).take j)) ∧ Below (w.heap.size + 1) Y wr) (fun _ i _ => ps.length - (intOf i).toNat)
 case atStart => exact ⟨0, Nat.zero_le _, rfl, by simpa [putsL] using HO4.out, HB4.out⟩
 case round =>
  obtain ⟨j, hj, rfl, ho, hb⟩ := hrel
  have HO := hide ho
  have HBR := hide hb
  clear ho hb HO4 HB4
  have hzr : w.heap.size + 1 ≤ wr.heap.size := by have := HBR.out.size; rw [HSZ.out] at this; exact this
  by_cases hlt : j < ps.length
  ·have hltI : (j : Int) < (ps.length : Int) := by omega
   have hlr : j < (rcl ps).length := by rw [rcl_len]; exact hlt
   have hpj : (rcl ps)[j] = ps[j].1 := by simp [rcl]
   have HSN := hide (putsL_snoc (rcl ps) j hlr)
   rw [hpj] at HSN
   have hok : (chk ps[j].1).2.2 = 0 := H4.out _ (List.mem_map.2 ⟨ps[j], List.getElem_mem hlt, rfl⟩)
   have HE := hide (range_old (range_at HR.out hlt) HB.out HBR.out hap)
   have HP := hide ((HW.out _ (List.getElem_mem hlt)).old HB.out HBR.out hap)
   have HTN := hide (there_new wr)
   have hlen : (Hd ++ putsL ((rcl ps).take j)).length ≤ 700000 := by
    have := putsL_take_le (rcl ps) j
    rw [List.length_append]
    omega
   have hkj := HK1.out _ (List.getElem_mem hlt)
   generalize ps[j] = p at *
   clear hpj
   go_upto_region 10 with (first | (refine wpList_load_mid rfl _ _ rfl _ _ rfl _ _ HE.out Tryz.underlying45 rfl (by kernel_rfl) ?_) | (refine wpList_store_mid rfl _ _ _ rfl wr.heap.size 0 (cel p).toArray rfl rfl HTN.out (by kernel_rfl) (cel_all _) ?_))
   obtain ⟨V, hV⟩ : ∃ V, V = (wr.alloc (.cells #[.int .i64 0, .int .i64 0, .int .i64 0, .int .i64 0, .int .i64 0, .int .i64 0, .int .i64 0, .int .i64 0, .int .i64 0, .bool false, .string ⟨#[]⟩, .string ⟨#[]⟩, .string ⟨#[]⟩, .string ⟨#[]⟩, .slice none 0 0, .slice none 0 0, .slice none 0 0, .slice none 0 0] 45)).setCells wr.heap.size 0 (cel p) := ⟨_, rfl⟩
   obtain ⟨hbV, hrV, _⟩ := laidP wr p hV
   rw [← hV]
   have HRV := hide hrV
   have HBV := hide (HBR.out.trans (hbV.mono hzr))
   have HOK := hide (cput_nop (w.heap.size + 1) u5 (Hd ++ putsL ((rcl ps).take j)) p.1 _ V (HO.out.below hbV) hlen (Nat.le_trans hzr hbV.size) (HP.out.below hbV).is hok hkj)
   rw [List.append_assoc, ← HSN.out] at HOK
   clear hV hrV hbV HTN HE HP HO HSN
   go_wp2_with (first | (refine wpList_load_mid rfl _ _ rfl _ _ rfl _ _ HRV.out Tryz.underlying45 rfl (by kernel_rfl) ?_) | (go_at_call 103; refine HOK.out.mono ?_; rintro e W5 ⟨v5, rfl, ho5, hg5⟩; have HO5 := hide ho5; have HB5 := hide (HBV.out.trans hg5.below); clear ho5 hg5))
   go_roundw
   case rel => exact ⟨j + 1, by omega, by go_num, HO5.out, HB5.out⟩
   case measure => simp [intOf]; omega
  ·obtain rfl : j = ps.length := by omega
   have HOF : Hid (Ow (w.heap.size + 1) wr u5 Bs) := hide (by have := HO.out; rwa [← rcl_len, List.take_length, ← HBL.out] at this)
   have HBF : Hid (Below w.heap.size w wr) := hide (HB.out.trans (HBR.out.mono hap))
   clear HO hlt HBR HR HW H4 HCL HH HBL hhl htot
   obtain ⟨a5, c5, e5⟩ := HOF.out.form
   subst e5
   by_cases hm : Bs.length ≤ 16384
   ·have hmI : ¬ (16384 : Int) < (Bs.length : Int) := by omega
    go_wp2_with fail
    exact bodyPost_ret (v := .tuple #[.slice a5 Bs.length c5, .nilIface]) (by simp [results, Tryz.results71, go_sem]) rfl ⟨⟨_, rfl, HOF.out⟩, HBF.out⟩
   ·have hmI : (16384 : Int) < (Bs.length : Int) := by omega
    go_wp2_with (first | (go_at_call 15; refine (new_any _ _ _ _).mono ?_; rintro e w9 ⟨rfl, hw9⟩; rw [hw9]; clear hw9 w9))
    exact bodyPost_ret (v := .tuple #[.slice none 0 0, ft ⟨#[98, 97, 116, 99, 104]⟩ Bs.length 6]) (by simp [results, Tryz.results71, go_sem, ft]) rfl ⟨rfl, HBF.out⟩
theorem bput_anyN {okb ok : Nat → Prop} (x : Bt) (v : Value) (w : World) (hv : IsB okb ok w v x) (htx : ∀ r ∈ x.rs, TxR r) (hk1 : ∀ r ∈ x.rs, r.k = 1) : Calls Tryz.prog 71 #[v] w (PutP x w) := by
 have hck := fun W (h : Below w.heap.size w W) => bcheck_any x v W (hv.below h) htx
 obtain ⟨t, b, rs⟩ := x
 obtain ⟨u, ps, rfl, h2, h3⟩ := hv
 simp only at h3 htx hk1
 subst h3
 obtain ⟨ao, cap, rfl⟩ := h2.form
 by_cases hc : (bw ⟨t, b, rcl ps⟩).c = 0
 ·refine (bput_okN t b ao cap ps w (h2.imp (fun _ _ _ => trivial) (fun _ _ q => q) (fun _ _ _ _ => rfl)) (fun p hp => htx p.1 (List.mem_map.2 ⟨p, hp, rfl⟩)) hc (fun p hp => hk1 p.1 (List.mem_map.2 ⟨p, hp, rfl⟩))).mono ?_
  rintro e w' h
  unfold PutP
  rw [if_pos hc]
  exact h
 ·obtain ⟨F, U, e⟩ : ∃ F U, erB (bw ⟨t, b, rcl ps⟩) = .iface F U := by
   unfold erB
   rw [if_neg hc]
   split
   ·exact ⟨_, _, rfl⟩
   ·exact ⟨_, _, rfl⟩
  simp only [e] at hck
  refine (bput_bad t b ao ps.length cap F U w (hide hck)).mono ?_
  rintro e' w' ⟨rfl, h⟩
  unfold PutP
  rw [if_neg hc, e]
  exact ⟨rfl, h⟩
end Go.Proofs.YtjjpfajbljbelaaGreatDoor
