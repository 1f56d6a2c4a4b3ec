/-
  BYTES WITH THEIR SUM BEHIND, AND A COPY OF BYTES (crc.Put, bytes.Clone): what the document says of them, in new memory. Conditions: the bytes' cells hold them, no more than a hundred thousand.
-/
import Derived.Test.YtenahnbfaekljaaCrcNum
import Derived.Laws.MakeOwn
namespace Go.Proofs.Ytenahnbfaekljaa
open Go.RowKit

theorem nilS_yes (n cap : Nat) (w : World) : (binOp .eql 26 (.slice none n cap) (.slice none 0 0)).run Try.prog w = .ok (.bool true) w := by kernel_rfl
theorem nilS_no (a : Addr) (n cap : Nat) (w : World) : (binOp .eql 26 (.slice (some a) n cap) (.slice none 0 0)).run Try.prog w = .ok (.bool false) w := by kernel_rfl
theorem rw_none (w : World) : Rw w.heap.size (w.alloc (.cells #[] 5)) (.slice (some ⟨w.heap.size, 0, none⟩) 0 0) 0 [] :=
  ⟨Nat.le_refl _, Nat.zero_le _, .inr ⟨w.heap.size, rfl, Nat.le_refl _, Array.getElem?_push_size⟩⟩
set_option maxRecDepth 100000 in
set_option maxHeartbeats 4000000 in
theorem bclone_nil (cap : Nat) (w : World) : Calls Try.prog 25 #[.slice none 0 cap] w fun e w' => e = .returned (.slice none 0 0) ∧ Below w.heap.size w w' := by
  have e1 := nilS_yes
  go_enter Try.func25, Try.ntmps25
  go_wp2
  go_ret
  exact ⟨rfl, Below.refl _ _⟩
set_option maxRecDepth 100000 in
set_option maxHeartbeats 4000000 in
theorem bclone_some (a : Addr) (cap : Nat) (l : List Int) (w : World) (hl : l.length ≤ 100000) (hv : Sl bc w (.slice (some a) l.length cap) l) :
    Calls Try.prog 25 #[.slice (some a) l.length cap] w fun e w' => ∃ v, e = .returned v ∧ w'.ownsRow w.heap.size 5 1 v l.length (bv l) ∧ Below w.heap.size w w' := by
  have e2 := nilS_no
  have HV := hide (hv.below ((Below.refl _ _).alloc (Nat.le_refl _) (.cells #[] 5)))
  have HR := hide (rw_none w)
  clear hv
  go_enter Try.func25, Try.ntmps25
  go_wp2_with (first | (at_builtin; refine wpList_append_sl _ rfl _ _ rfl w.heap.size _ 0 [] rfl HR.out (by simp) _ l rfl HV.out (by omega) ?_))
  intro w1 v1 cur1 hp1
  have hown := hp1.rw.owns
  rw [hp1.tk] at hown
  have HO := hide hown
  have HB := hide (((Below.refl w.heap.size w).alloc (Nat.le_refl _) _).trans hp1.below)
  clear hp1 hown
  go_wp2_with fail
  go_ret
  exact ⟨_, rfl, by simpa using HO.out, HB.out⟩
theorem bclone_own (v : Value) (l : List Int) (w : World) (hv : Sl bc w v l) (hl : l.length ≤ 100000) :
    Calls Try.prog 25 #[v] w fun e w' => ∃ u, e = .returned u ∧ w'.ownsRow w.heap.size 5 1 u l.length (bv l) ∧ Below w.heap.size w w' := by
  obtain ⟨ao, cap, rfl⟩ := hv.form
  cases ao with
  | none =>
    obtain rfl : l = [] := by
      rcases hv with ⟨ao, cap, h, _⟩ | ⟨b, o, cap, h, _⟩
      · exact h
      · cases h
    refine (bclone_nil cap w).mono ?_
    rintro e w' ⟨rfl, hb⟩
    exact ⟨_, rfl, World.ownsRow_nil _ _ _ _, hb⟩
  | some a => exact bclone_some a cap l w hl hv
theorem makeBytes (M : Nat) (hM : M ≤ 200000) (W : World) : (Instr.makeSlice 26 (.int .i64 0) (.int .i64 (M : Int))).run Try.prog W = .ok (.slice (some ⟨W.heap.size, 0, none⟩) 0 M) (W.alloc (.cells (madeCells #[.int .u8 0] M) 5)) := by
  obtain ⟨i0, hi, hz0, hz1, hz2⟩ := info_parts infoB
  have h := run_make (P := Try.prog) W 26 5 i0 (.int .u8 0) Try.underlying26 hi hz0 .i64 .i64 0 (M : Int) (by omega) (by omega) (by rw [hz2]; omega) (by omega)
  rw [hz1] at h
  simpa [Value.cells] using h
theorem rw_made (w W : World) (M : Nat) (h : w.heap.size ≤ W.heap.size) (hM : M ≤ 200000) : Rw w.heap.size (W.alloc (.cells (madeCells #[.int .u8 0] M) 5)) (.slice (some ⟨W.heap.size, 0, none⟩) 0 M) 0 (madeCells #[.int .u8 0] M).toList := by
  have hl : (madeCells #[.int .u8 0] M).toList.length = M := by simp [size_madeCells]
  refine ⟨Nat.zero_le _, by rw [hl]; unfold maxLen; omega, .inr ⟨W.heap.size, by rw [hl], h, ?_⟩⟩
  rw [Array.toArray_toList]
  exact Array.getElem?_push_size
theorem buildFour (x0 x1 x2 x3 : Int) (W : World) : (Instr.buildSlice 26 4 #[(0, .int .u8 x0), (1, .int .u8 x1), (2, .int .u8 x2), (3, .int .u8 x3)]).run Try.prog W = .ok (.slice (some ⟨W.heap.size, 0, none⟩) 4 4) (W.alloc (.cells #[.int .u8 x0, .int .u8 x1, .int .u8 x2, .int .u8 x3] 5)) := by kernel_rfl
set_option maxRecDepth 100000 in
set_option maxHeartbeats 4000000 in
theorem put_any (v : Value) (l : List Int) (w : World) (hv : Sl bc w v l) (hl : l.length ≤ 100000) (hby : Byt l) :
    Calls Try.prog 19 #[v] w fun e w' => ∃ v', e = .returned v' ∧ w'.ownsRow w.heap.size 5 1 v' (l ++ le4 (crcL l)).length (bv (l ++ le4 (crcL l))) ∧ Below w.heap.size w w' := by
  have HV := hide hv
  have HS := hide (sum_any v l w hv hl hby)
  have hS := crcL_lt l
  obtain ⟨ao, cap, rfl⟩ := hv.form
  clear hv hby
  have hmk : ∀ W, (Instr.makeSlice 26 (.int .i64 0) (.int .i64 ((l.length : Int) + 4))).run Try.prog W = .ok (.slice (some ⟨W.heap.size, 0, none⟩) 0 (l.length + 4)) (W.alloc (.cells (madeCells #[.int .u8 0] (l.length + 4)) 5)) := makeBytes (l.length + 4) (by omega)
  generalize crcL l = S at *
  go_enter Try.func19, Try.ntmps19
  go_wp2_with fail
  refine HS.out.mono ?_
  rintro e w1 ⟨rfl, hb1⟩
  have HB1 := hide hb1
  clear hb1 HS
  have HR := hide (rw_made w w1 (l.length + 4) HB1.out.size (by omega))
  have HV1 := hide (HV.out.below (HB1.out.alloc HB1.out.size (.cells (madeCells #[.int .u8 0] (l.length + 4)) 5)))
  have HM := hide (show (madeCells #[.int .u8 0] (l.length + 4)).toList.length = l.length + 4 by simp [size_madeCells])
  go_wp2_with (first | (at_builtin; refine wpList_append_sl _ rfl _ _ rfl w.heap.size _ 0 _ rfl HR.out (by have := HB1.out.size; simp; omega) _ l rfl HV1.out (by omega) ?_))
  intro w2 v2 cur2 hp2
  have HP2 := hide hp2
  have HB2 := hide ((HB1.out.alloc HB1.out.size _).trans hp2.below)
  clear hp2 HR HV1 hmk
  have hbs := buildFour
  go_wp2_with (first | (at_builtin; refine wpList_append_rw _ rfl _ _ rfl w.heap.size _ (0 + l.length) cur2 rfl (HP2.out.rw.below ((Below.refl _ _).alloc (Nat.le_refl _) _)) (by have := HB2.out.size; simp; omega) _ 4 4 [.int .u8 ((S : Int) % 256), .int .u8 ((S : Int) / 256 % 256), .int .u8 ((S : Int) / 65536 % 256), .int .u8 ((S : Int) / 16777216)] rfl rfl (by omega) (cells_at _ _ _) (one_bytes [(S : Int) % 256, (S : Int) / 256 % 256, (S : Int) / 65536 % 256, (S : Int) / 16777216]) (by omega) ?_))
  intro w3 v3 cur3 hp3
  have hown := hp3.rw.owns
  have e0 : cur2.take l.length = bv l := by have := HP2.out.tk; simpa using this
  rw [hp3.tk, e0] at hown
  have HO := hide hown
  have HB := hide ((HB2.out.alloc HB2.out.size _).trans hp3.below)
  clear hp3 hown HP2 
  go_wp2_with fail
  go_ret
  refine ⟨_, rfl, ?_, HB.out⟩
  have h := HO.out
  have e4 : [Value.int .u8 ((S : Int) % 256), .int .u8 ((S : Int) / 256 % 256), .int .u8 ((S : Int) / 65536 % 256), .int .u8 ((S : Int) / 16777216)] = bv (le4 S) := by
    have q : ((S / 16777216 % 256 : Nat) : Int) = (S : Int) / 16777216 := by omega
    unfold le4
    rw [q]
    rfl
  rw [e4] at h
  have e5 : (l ++ le4 S).length = l.length + 4 := by simp [le4]
  rw [e5, show bv (l ++ le4 S) = bv l ++ bv (le4 S) by simp [bv]]
  exact h
end Go.Proofs.Ytenahnbfaekljaa
