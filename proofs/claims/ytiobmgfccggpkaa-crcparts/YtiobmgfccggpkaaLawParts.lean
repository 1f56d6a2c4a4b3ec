/-
  THE WALK OF CrcParts: true at any three texts. No condition.
-/
import Derived.Test.YtiobmgfccggpkaaCrcWorks
namespace Go.Proofs.Ytiobmgfccggpkaa
open Go.RowKit

theorem crc_parts {a b c : List Int} (ha : Byt a) (hb : Byt b) (hc : Byt c) : crF ((crF (crcL a ^^^ 4294967295) b ^^^ 4294967295) ^^^ 4294967295) c ^^^ 4294967295 = crcL (a ++ b ++ c) := by
  have h : Byt (a ++ b ++ c) := fun x hx => by
    rcases List.mem_append.1 hx with h | h
    · rcases List.mem_append.1 h with h | h
      · exact ha x h
      · exact hb x h
    · exact hc x h
  rw [crcL_eq h, crcL_eq ha, Nat.xor_assoc, Nat.xor_self, Nat.xor_zero, Nat.xor_assoc _ 4294967295, Nat.xor_self, Nat.xor_zero, crF_app, crF_app]
theorem more_lt (S : Nat) (hS : S < 4294967296) {l : List Int} (h : Byt l) : crF (S ^^^ 4294967295) l ^^^ 4294967295 < 4294967296 := Nat.xor_lt_two_pow (n := 32) (crF_lt (Nat.xor_lt_two_pow (n := 32) hS (by decide)) h) (by decide)
set_option maxRecDepth 100000 in
set_option maxHeartbeats 4000000 in
theorem parts_any (va vb vc : Value) (a b c : List Int) (w : World) (ha : Sl bc w va a) (hb : Sl bc w vb b) (hc : Sl bc w vc c) (ba : Byt a) (bb : Byt b) (bC : Byt c) : Calls Try.prog 4 #[va, vb, vc] w fun e w' => e = .returned (.bool true) ∧ Below w.heap.size w w' := by
  have HW := hide works_any
  have HA := hide ha
  have HB := hide hb
  have HC := hide hc
  have BA := hide ba
  have BB := hide bb
  have BC := hide bC
  obtain ⟨ao, ca, rfl⟩ := ha.form
  obtain ⟨bo, cb, rfl⟩ := hb.form
  obtain ⟨co, cc, rfl⟩ := hc.form
  clear ha hb hc ba bb bC
  by_cases hl : (400 : Int) < (a.length : Int) ∨ (400 : Int) < (b.length : Int) ∨ (400 : Int) < (c.length : Int)
  · by_cases h1 : (400 : Int) < (a.length : Int)
    · clear hl
      go_enter Try.func4, Try.ntmps4
      go_wp2_with fail
      refine (HW.out _).mono ?_
      rintro e w1 ⟨rfl, hb1⟩
      go_wp2_with fail
      go_ret
      exact ⟨rfl, hb1⟩
    · by_cases h2 : (400 : Int) < (b.length : Int)
      · clear hl
        go_enter Try.func4, Try.ntmps4
        go_wp2_with fail
        refine (HW.out _).mono ?_
        rintro e w1 ⟨rfl, hb1⟩
        go_wp2_with fail
        go_ret
        exact ⟨rfl, hb1⟩
      · have h3 : (400 : Int) < (c.length : Int) := by omega
        clear hl
        go_enter Try.func4, Try.ntmps4
        go_wp2_with fail
        refine (HW.out _).mono ?_
        rintro e w1 ⟨rfl, hb1⟩
        go_wp2_with fail
        go_ret
        exact ⟨rfl, hb1⟩
  · have h1 : ¬ (400 : Int) < (a.length : Int) := by omega
    have h2 : ¬ (400 : Int) < (b.length : Int) := by omega
    have h3 : ¬ (400 : Int) < (c.length : Int) := by omega
    clear hl
    go_enter Try.func4, Try.ntmps4
    go_wp2_with (first | (at_builtin; refine wpList_append_sl _ rfl _ _ rfl w.heap.size _ 0 [] rfl (rw_nil _ _) (Nat.le_refl _) _ a rfl HA.out (by omega) ?_))
    intro w1 v1 cur1 hp1
    have HP1 := hide hp1
    clear hp1
    go_wp2_with (first | (at_builtin; refine wpList_append_sl _ rfl _ _ rfl w.heap.size _ (0 + a.length) _ rfl HP1.out.rw HP1.out.below.size _ b rfl (HB.out.below HP1.out.below) (by omega) ?_))
    intro w2 v2 cur2 hp2
    have HP2 := hide (HP1.out.trans (by rw [Nat.zero_add]; exact hp2))
    clear hp2
    go_wp2_with (first | (at_builtin; refine wpList_append_sl _ rfl _ _ rfl w.heap.size _ (0 + (a.length + b.length)) _ rfl HP2.out.rw HP2.out.below.size _ c rfl (HC.out.below HP2.out.below) (by omega) ?_))
    intro w3 v3 cur3 hp3
    have hp := HP2.out.trans (by rw [Nat.zero_add]; exact hp3)
    have hown := hp.rw.owns
    rw [hp.tk] at hown
    have HS : Hid (Sl bc w3 v3 (a ++ b ++ c)) := hide (sl_of_owns (base := w.heap.size) (e := 5) (by simpa [bv_eq, Nat.add_assoc] using hown))
    have HB3 := hide hp.below
    clear hp3 hp hown
    go_wp2_with fail
    refine (sum_any _ a _ (HA.out.below HB3.out) (by omega) BA.out).mono ?_
    rintro e w4 ⟨rfl, hb4⟩
    have HB4 := hide (bt HB3.out hb4)
    have HS4 := hide (HS.out.below hb4)
    clear hb4
    have hS := crcL_lt a
    have HE := hide (crc_parts BA.out BB.out BC.out)
    generalize crcL a = S at *
    go_wp2_with fail
    refine (more_any _ S b _ (HB.out.below HB4.out) hS (by omega) BB.out).mono ?_
    rintro e w5 ⟨rfl, hb5⟩
    have HB5 := hide (bt HB4.out hb5)
    have HS5 := hide (HS4.out.below hb5)
    clear hb5
    have hT := more_lt S hS BB.out
    generalize crF (S ^^^ 4294967295) b ^^^ 4294967295 = T at *
    go_wp2_with fail
    refine (more_any _ T c _ (HC.out.below HB5.out) hT (by omega) BC.out).mono ?_
    rintro e w6 ⟨rfl, hb6⟩
    rw [HE.out]
    have HB6 := hide (bt HB5.out hb6)
    have HS6 := hide (HS5.out.below hb6)
    clear hb6
    have HBy : Hid (Byt (a ++ b ++ c)) := hide (fun x hx => by
      rcases List.mem_append.1 hx with h | h
      · rcases List.mem_append.1 h with h | h
        · exact BA.out x h
        · exact BB.out x h
      · exact BC.out x h)
    have hlen : (a ++ b ++ c).length ≤ 10000 := by simp; omega
    generalize a ++ b ++ c = l at *
    go_wp2_with fail
    refine (refSum_any _ l _ HS6.out hlen HBy.out).mono ?_
    rintro e w7 ⟨rfl, rfl⟩
    generalize crcL l = U
    go_wp2_with fail
    refine (HW.out _).mono ?_
    rintro e w8 ⟨rfl, hb8⟩
    have HB8 := hide (bt HB6.out hb8)
    clear hb8
    go_wp2_with fail
    go_ret
    exact ⟨rfl, HB8.out⟩
end Go.Proofs.Ytiobmgfccggpkaa
