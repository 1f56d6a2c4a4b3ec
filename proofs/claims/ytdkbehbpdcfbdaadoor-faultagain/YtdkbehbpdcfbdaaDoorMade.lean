/-
  THE LAW's OWN 'made': an error by wrapping, from the innermost on. Conditions: the chain's cells hold its steps, and no more than a thousand of them.
-/
import Derived.Test.YtdkbehbpdcfbdaaDoorRefB
namespace Go.Proofs.YtdkbehbpdcfbdaaDoor
open Go.RowKit Go.Extern.Stop Go.Stop Go.Extern

/-- The error that a chain is. -/
def mkV (l : List (ByteArray × Int)) (k : Int) (p : Addr) : Option (List (ByteArray × Int) × Option Int × Addr) :=
  if k = 0 then none else if k < 0 then some (l, none, p) else some (l, some k, p)

theorem made_zero (v : Value) (w : World) :
    Calls Tryd.prog 9 #[.agg #[v, .int .i64 0]] w fun e w' => (∃ p, e = .returned (ev (mkV [] 0 p))) ∧ Below w.heap.size w w' := by
  go_enter Tryd.func9, Tryd.ntmps9
  go_wp2
  go_ret
  exact ⟨⟨⟨0, 0, none⟩, rfl⟩, (Below.refl _ _).alloc (Nat.le_refl _) _⟩

theorem made_code (ao : Option Addr) (cap : Nat) (k : Int) (w : World) (hk : 0 < k) :
    Calls Tryd.prog 9 #[.agg #[.slice ao 0 cap, .int .i64 k]] w fun e w' => (∃ p, e = .returned (ev (mkV [] k p))) ∧ Below w.heap.size w w' := by
  have HM := hide (fun p => show mkV [] k p = some ([], some k, p) by simp [mkV, show ¬ k = 0 by omega, show ¬ k < 0 by omega])
  have hq : (k == 0) = false := by rw [beq_eq_false_iff_ne]; omega
  have hn : ¬ k < 0 := by omega
  go_enter Tryd.func9, Tryd.ntmps9
  go_wp2
  go_ret
  exact ⟨⟨⟨0, 0, none⟩, by rw [HM.out]; rfl⟩, (Below.refl _ _).alloc (Nat.le_refl _) _⟩

theorem made_other (ao : Option Addr) (cap : Nat) (k : Int) (w : World) (hk : k < 0) :
    Calls Tryd.prog 9 #[.agg #[.slice ao 0 cap, .int .i64 k]] w fun e w' => (∃ p, e = .returned (ev (mkV [] k p))) ∧ Below w.heap.size w w' := by
  have HM := hide (fun p => show mkV [] k p = some ([], none, p) by simp [mkV, show ¬ k = 0 by omega, hk])
  have hq : (k == 0) = false := by rw [beq_eq_false_iff_ne]; omega
  go_enter Tryd.func9, Tryd.ntmps9
  go_wp2_with (first | (go_at_call 25; refine (enew_any _ _).mono ?_; rintro e w' ⟨rfl, rfl⟩))
  refine wp_loop_rounds 1 ?_
  rw [rounds_succ]
  go_wp2
  go_ret
  exact ⟨⟨_, by rw [HM.out]; rfl⟩, ((Below.refl _ _).alloc (Nat.le_refl _) _).alloc (by simp) _⟩

set_option maxRecDepth 100000 in
set_option maxHeartbeats 4000000 in
theorem made_neg (b o cap : Nat) (l : List (ByteArray × Int)) (k : Int) (w : World) (hk : k < 0) (hl : l.length ≤ 1000)
    (h3 : ∀ i (h : i < l.length), w.cell? ⟨b, o + i * 2, none⟩ = some (.string l[i].1) ∧ w.cell? ⟨b, o + i * 2 + 1, none⟩ = some (.int .i64 l[i].2)) :
    Calls Tryd.prog 9 #[.agg #[.slice (some ⟨b, o, none⟩) l.length cap, .int .i64 k]] w fun e w' => (∃ p, e = .returned (ev (mkV l k p))) ∧ Below w.heap.size w w' := by
  have HM0 := hide (fun p => show mkV l k p = some (l, none, p) by simp [mkV, show ¬ k = 0 by omega, hk])
  have hq : (k == 0) = false := by rw [beq_eq_false_iff_ne]; omega
  have H3 := hide h3
  clear h3
  go_enter Tryd.func9, Tryd.ntmps9
  go_wp2_with (first | (go_at_call 25; refine (enew_any _ _).mono ?_; rintro e w' ⟨rfl, rfl⟩))
  obtain ⟨p, hp⟩ : ∃ p : Addr, p = ⟨w.heap.size + 1, 0, none⟩ := ⟨_, rfl⟩
  have HP := hide hp
  have HM := hide (HM0.out p)
  clear hp HM0
  · skip
    go_loopw [4, 5] (fun e i W => ∃ j : Nat, j ≤ l.length ∧ i = .int .i64 ((j : Int) - 1) ∧ e = chn (l.drop j) (bse none p) ∧ Below w.heap.size w W ∧ W.cell? ⟨w.heap.size, 0, none⟩ = some (.slice (some ⟨b, o, none⟩) l.length cap)) (fun _ i _ => (intOf i + 1).toNat)
    case atStart => exact ⟨l.length, Nat.le_refl _, rfl, by rw [List.drop_length, HP.out]; rfl, ((Below.refl _ _).alloc (Nat.le_refl _) _).alloc (by simp) _, by simp [go_sem]⟩
    case round =>
      obtain ⟨j, hj, rfl, he, hb, c0⟩ := hrel
      obtain ⟨ty, v, hv⟩ := chn_form (l.drop j) none p
      rw [hv] at he
      subst he
      have HV := hide hv
      clear hv
      rcases j with _ | j
      · go_wp2
        go_ret
        exact ⟨⟨p, by rw [HM.out]; exact congrArg Ending.returned HV.out.symm⟩, hb⟩
      · have hd := H3.out j (by omega)
        have c1 : wr.cell? ⟨b, o + j * 2, none⟩ = some (.string l[j].1) := by rw [hb.cell (p := ⟨b, o + j * 2, none⟩) (block_of_cell hd.1)]; exact hd.1
        have c2 : wr.cell? ⟨b, o + j * 2 + 1, none⟩ = some (.int .i64 l[j].2) := by rw [hb.cell (p := ⟨b, o + j * 2 + 1, none⟩) (block_of_cell hd.1)]; exact hd.2
        have HD := hide (show chn (l.drop j) (bse none p) = .iface 60 (.agg #[.string l[j].1, .int .i64 l[j].2, .iface ty v]) by rw [List.drop_eq_getElem_cons (by omega : j < l.length), ← HV.out]; rfl)
        clear hd
        generalize l[j] = sk at *
        have ej : (((j + 1 : Nat) : Int) - 1) = (j : Int) := by omega
        simp only [ej]
        clear ej
        go_wp2_with fail
        go_quiet ((go_at_call 19; exact Calls.quiet_of_same (wrap_some _ _ _ _ _)))
        go_wp2
        exact ⟨⟨j, by omega, rfl, HD.out.symm, below_drewN hb _, c0⟩, by simp [intOf]⟩

set_option maxRecDepth 100000 in
set_option maxHeartbeats 4000000 in
theorem made_pos (b o cap m : Nat) (l : List (ByteArray × Int)) (sm : ByteArray × Int) (k : Int) (p : Addr) (w : World) (hk : 0 < k) (hl : m ≤ 1000) (HL : Hid (l.length = m + 1))
    (HD0 : Hid (chn (l.drop m) (bse (some k) p) = .iface 60 (.agg #[.string sm.1, .int .i64 sm.2, .iface 32 (.int .i64 k)])))
    (d1 : w.cell? ⟨b, o + m * 2, none⟩ = some (.string sm.1)) (d2 : w.cell? ⟨b, o + m * 2 + 1, none⟩ = some (.int .i64 sm.2))
    (H3 : Hid (∀ i (h : i < l.length), w.cell? ⟨b, o + i * 2, none⟩ = some (.string l[i].1) ∧ w.cell? ⟨b, o + i * 2 + 1, none⟩ = some (.int .i64 l[i].2))) :
    Calls Tryd.prog 9 #[.agg #[.slice (some ⟨b, o, none⟩) (m + 1) cap, .int .i64 k]] w fun e w' => (∃ p, e = .returned (ev (mkV l k p))) ∧ Below w.heap.size w w' := by
  have HM := hide (show mkV l k p = some (l, some k, p) by simp [mkV, show ¬ k = 0 by omega, show ¬ k < 0 by omega])
  have hq : (k == 0) = false := by rw [beq_eq_false_iff_ne]; omega
  have hn : ¬ k < 0 := by omega
  have hbl := block_of_cell d1
  go_enter Tryd.func9, Tryd.ntmps9
  go_wp2_with fail
  go_quiet ((go_at_call 24; exact Calls.quiet_of_same (new_any _ _ _ _)))
  go_wp2_with fail
  clear d1 d2
  · skip
    go_loopw [4, 5] (fun e i W => ∃ j : Nat, j ≤ l.length ∧ i = .int .i64 ((j : Int) - 1) ∧ e = chn (l.drop j) (bse (some k) p) ∧ Below w.heap.size w W ∧ W.cell? ⟨w.heap.size, 0, none⟩ = some (.slice (some ⟨b, o, none⟩) (m + 1) cap)) (fun _ i _ => (intOf i + 1).toNat)
    case atStart => exact ⟨m, by have := HL.out; omega, rfl, HD0.out.symm, below_drewN ((Below.refl _ _).alloc (Nat.le_refl _) _) _, by simp [go_sem]⟩
    case round =>
      obtain ⟨j, hj, rfl, he, hb, c0⟩ := hrel
      obtain ⟨ty, v, hv⟩ := chn_form (l.drop j) (some k) p
      rw [hv] at he
      subst he
      have HV := hide hv
      clear hv
      have hjm : j ≤ m + 1 := by have := HL.out; omega
      rcases j with _ | j
      · go_wp2
        go_ret
        exact ⟨⟨p, by rw [HM.out]; exact congrArg Ending.returned HV.out.symm⟩, hb⟩
      · have hd := H3.out j (by have := HL.out; omega)
        have c1 : wr.cell? ⟨b, o + j * 2, none⟩ = some (.string l[j].1) := by rw [hb.cell (p := ⟨b, o + j * 2, none⟩) (block_of_cell hd.1)]; exact hd.1
        have c2 : wr.cell? ⟨b, o + j * 2 + 1, none⟩ = some (.int .i64 l[j].2) := by rw [hb.cell (p := ⟨b, o + j * 2 + 1, none⟩) (block_of_cell hd.1)]; exact hd.2
        have HD := hide (show chn (l.drop j) (bse (some k) p) = .iface 60 (.agg #[.string l[j].1, .int .i64 l[j].2, .iface ty v]) by rw [List.drop_eq_getElem_cons (by have := HL.out; omega : j < l.length), ← HV.out]; rfl)
        clear hd
        generalize l[j] = sk at *
        have ej : (((j + 1 : Nat) : Int) - 1) = (j : Int) := by omega
        simp only [ej]
        clear ej
        go_wp2_with fail
        go_quiet ((go_at_call 19; exact Calls.quiet_of_same (wrap_some _ _ _ _ _)))
        go_wp2
        exact ⟨⟨j, by omega, rfl, HD.out.symm, below_drewN hb _, c0⟩, by simp [intOf]⟩

theorem made_any (v : Value) (l : List (ByteArray × Int)) (k : Int) (w : World) (hv : Stp w v l) (hl : l.length ≤ 1000) :
    Calls Tryd.prog 9 #[.agg #[v, .int .i64 k]] w fun e w' => (∃ p, e = .returned (ev (mkV l k p))) ∧ Below w.heap.size w w' := by
  by_cases h0 : k = 0
  · subst h0
    refine (made_zero v w).mono ?_
    rintro e w' ⟨⟨p, rfl⟩, hb⟩
    exact ⟨⟨p, rfl⟩, hb⟩
  · rcases hv with ⟨ao, cap, rfl, rfl⟩ | ⟨b, o, cap, rfl, h2, h3⟩
    · by_cases hk : k < 0
      · exact made_other ao cap k w hk
      · exact made_code ao cap k w (by omega)
    · by_cases hk : k < 0
      · exact made_neg b o cap l k w hk hl h3
      · by_cases hne : l = []
        · subst hne
          exact made_code _ cap k w (by omega)
        · have hpos : 0 < l.length := List.length_pos_iff.2 hne
          have hm : l.length = (l.length - 1) + 1 := by omega
          have hd := h3 (l.length - 1) (by omega)
          have hD : chn (l.drop (l.length - 1)) (bse (some k) ⟨0, 0, none⟩) = .iface 60 (.agg #[.string l[l.length - 1].1, .int .i64 l[l.length - 1].2, .iface 32 (.int .i64 k)]) := by
            rw [List.drop_eq_getElem_cons (by omega : l.length - 1 < l.length), show l.drop (l.length - 1 + 1) = [] by rw [← hm]; exact List.drop_length]
            rfl
          have R := made_pos b o cap (l.length - 1) l l[l.length - 1] k ⟨0, 0, none⟩ w (by omega) (by omega) hm hD hd.1 hd.2 h3
          rw [← hm] at R
          exact R
end Go.Proofs.YtdkbehbpdcfbdaaDoor
