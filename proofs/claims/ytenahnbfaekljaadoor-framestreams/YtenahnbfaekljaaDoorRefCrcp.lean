/-
  THE DOCUMENT's BYTES WITH THEIR SUM BEHIND, AND OPENED AGAIN (castellanref03.Put, Open). Conditions: the bytes' cells hold them, no more than ten thousand.
-/
import Derived.Test.YtenahnbfaekljaaDoorRefCrc
import Derived.Test.YtenahnbfaekljaaDoorRwa
namespace Go.Proofs.YtenahnbfaekljaaDoor
open Go.RowKit

/-- Four bytes of a number, the lowest first. -/
def le4 (s : Nat) : List Int := [((s % 256 : Nat) : Int), ((s / 256 % 256 : Nat) : Int), ((s / 65536 % 256 : Nat) : Int), ((s / 16777216 % 256 : Nat) : Int)]
theorem le4_next (s j : Nat) (h : j < 4) : (le4 s).take (j + 1) = (le4 s).take j ++ [((s / 256 ^ j % 256 : Nat) : Int)] := by
  have : j = 0 ∨ j = 1 ∨ j = 2 ∨ j = 3 := by omega
  rcases this with rfl | rfl | rfl | rfl
  · simp [le4]
  · simp [le4]
  · simp [le4]
  · simp [le4]
theorem crcL_lt (l : List Int) : crcL l < 4294967296 := by unfold crcL; omega
set_option maxRecDepth 100000 in
set_option maxHeartbeats 4000000 in
theorem refPut_any (v : Value) (l : List Int) (w : World) (hv : Sl bc w v l) (hl : l.length ≤ 10000) (hby : Byt l) :
    Calls Tryd.prog 28 #[v] w fun e w' => ∃ v', e = .returned v' ∧ w'.ownsRow w.heap.size 5 1 v' (l ++ le4 (crcL l)).length (bv (l ++ le4 (crcL l))) ∧ Below w.heap.size w w' := by
  have HV := hide hv
  have HS := hide (fun W (h : Below w.heap.size w W) => refSum_any v l W (hv.below h) hl hby)
  have hS := crcL_lt l
  obtain ⟨ao, cap, rfl⟩ := hv.form
  clear hv hby
  generalize crcL l = S at *
  go_enter Tryd.func28, Tryd.ntmps28
  go_wp2_with (first | (at_builtin; refine wpList_append_sl _ rfl _ _ rfl w.heap.size _ 0 [] rfl (rw_nil _ _) (Nat.le_refl _) _ l rfl HV.out (by omega) ?_))
  intro w0 v0 cur0 hp0
  have HP0 := hide hp0
  clear hp0
  go_wp2_with fail
  refine (HS.out _ HP0.out.below).mono ?_
  rintro e w1 ⟨rfl, rfl⟩
  go_wp2_with fail
  go_loopw [3, 4, 5] (fun u s i wr => ∃ j : Nat, j ≤ 4 ∧ i = .int .i64 j ∧ s = .int .u32 ((S / 256 ^ j : Nat) : Int) ∧ ∃ cur, Put w.heap.size w (.slice none 0 0) 0 [] wr u (l.length + j) cur (bv (l ++ (le4 S).take j))) (fun _ _ i _ => 4 - (intOf i).toNat)
  case atStart => exact ⟨0, by omega, rfl, by simp, cur0, by simpa using HP0.out⟩
  case round =>
    obtain ⟨j, hj, rfl, rfl, cur, hp⟩ := hrel
    have HP := hide hp
    clear hp HP0
    by_cases hlt : j < 4
    · have hlt' : (j : Int) < 4 := by omega
      have hdiv : ((S / 256 ^ j : Nat) : Int) / 256 = ((S / 256 ^ (j + 1) : Nat) : Int) := by
        rw [Nat.pow_succ, ← Nat.div_div_eq_div_mul]
        rfl
      have HD := hide hdiv
      clear hdiv
      have hle : S / 256 ^ j ≤ S := Nat.div_le_self _ _
      have HN := hide (le4_next S j hlt)
      generalize S / 256 ^ j = T at *
      go_wp2_with (first | (at_builtin; refine wpList_append_rw _ rfl _ _ rfl w.heap.size _ (0 + (l.length + j)) cur rfl (HP.out.rw.below ((Below.refl _ _).alloc (Nat.le_refl _) _)) (by have := HP.out.below.size; simp; omega) _ 1 1 (bv [((T % 256 : Nat) : Int)]) rfl rfl (by omega) (cells_at _ _ _) (one_bytes _) (by omega) ?_))
      intro w2 v2 cur2 hp2
      have hp3 := hp2.pre (w := wr) HP.out.below.size ((Below.refl _ _).alloc (Nat.le_refl _) _)
      have hp4 := HP.out.trans (by rw [Nat.zero_add]; exact hp3)
      have HQ := hide hp4
      clear hp2 hp3 hp4 HP
      go_wp2_with fail
      go_roundw
      case rel =>
        refine ⟨j + 1, by omega, by go_num, by rw [← HD.out], cur2, ?_⟩
        rw [HN.out, ← List.append_assoc]
        have := HQ.out
        rw [show bv (l ++ List.take j (le4 S) ++ [((T % 256 : Nat) : Int)]) = bv (l ++ List.take j (le4 S)) ++ bv [(T : Int) % 256] by simp [bv]]
        exact this
      case measure => simp [intOf]; omega
    · obtain rfl : j = 4 := by omega
      go_wp2_with fail
      go_ret
      have h1 := HP.out.rw.owns
      rw [HP.out.tk] at h1
      refine ⟨_, rfl, ?_, HP.out.below⟩
      have e : (l ++ le4 S).length = 0 + (l.length + 4) := by simp [le4]
      rw [e]
      have e2 : (le4 S).take 4 = le4 S := rfl
      rw [e2] at h1
      simpa using h1
/-- The chapter's Open: the bytes ahead of their sum, or none. -/
def openL (l : List Int) : Option (List Int) := if l.length < 4 then none else if l.take (l.length - 4) ++ le4 (crcL (l.take (l.length - 4))) = l then some (l.take (l.length - 4)) else none
end Go.Proofs.YtenahnbfaekljaaDoor
