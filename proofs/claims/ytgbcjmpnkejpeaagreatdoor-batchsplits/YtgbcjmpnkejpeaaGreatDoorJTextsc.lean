/-
  slices.Index AND slices.Contains at texts, fault.Under, and castellanref01.Texts: what is found among texts, and whether two lists of texts are the same. Conditions: the slices' cells hold the texts, and no more than a thousand of them.
-/
import Derived.Test.YtgbcjmpnkejpeaaGreatDoorJFramea3
import Derived.Deep.QuietTactic
import Derived.BigQuiet
import Derived.WalkSmall
namespace Go.Proofs.YtgbcjmpnkejpeaaGreatDoor
open Go.RowKit Go.Extern.Stop Go.Stop Go.Extern

/-- The slice v holds the texts ss. -/
def Strs (W : World) (v : Value) (ss : List ByteArray) : Prop :=
  (∃ ao cap, ss = [] ∧ v = .slice ao 0 cap) ∨
  (∃ b o cap, v = .slice (some ⟨b, o, none⟩) ss.length cap ∧ ss.length ≤ cap ∧ ∀ i (h : i < ss.length), W.cell? ⟨b, o + i, none⟩ = some (.string ss[i]))
theorem Strs.below {w w' : World} {v : Value} {ss : List ByteArray} (h : Strs w v ss) (hb : Below w.heap.size w w') : Strs w' v ss := by
  rcases h with h | ⟨b, o, cap, h1, h2, h3⟩
  · exact .inl h
  · refine .inr ⟨b, o, cap, h1, h2, fun i hi => ?_⟩
    rw [hb.cell (p := ⟨b, o + i, none⟩) (block_of_cell (h3 i hi))]
    exact h3 i hi
theorem strs_of_owns {w : World} {base : Nat} {v : Value} {l : List (ByteArray × Int)} (h : w.ownsRow base 9 1 v l.length (sv l)) : Strs w v (l.map (·.1)) := by
  obtain ⟨h1, h2⟩ := h
  rcases h2 with ⟨rfl, hn⟩ | ⟨g, cap, cur, rfl, a2, a3, a4, a5, a6, a7⟩
  · exact .inl ⟨_, _, by rw [List.length_eq_zero_iff] at hn; rw [hn]; rfl, rfl⟩
  · refine .inr ⟨g, 0, cap, by simp, by simpa using a4, fun i hi => ?_⟩
    have hi' : i < l.length := by simpa using hi
    have e1 : (cur.toList.take (l.length * 1))[i]? = (sv l)[i]? := by rw [a7]
    rw [List.getElem?_take_of_lt (by omega)] at e1
    have e2 : (sv l)[i]? = some (.string (l.map (·.1))[i]) := by simp [sv, List.getElem?_eq_getElem hi']
    rw [e2] at e1
    simp only [World.cell?, a3]
    simpa using e1

/-- Is s one of these? -/
def hasB (ss : List ByteArray) (s : ByteArray) : Bool := ss.any fun t => s.toList == t.toList
theorem has_no {ss : List ByteArray} {s : ByteArray} (h : ∀ j (hj : j < ss.length), (s.toList == ss[j].toList) = false) : hasB ss s = false := by
  simp only [hasB, List.any_eq_false]
  intro t ht
  obtain ⟨j, hj, rfl⟩ := List.getElem_of_mem ht
  simp [h j hj]
theorem has_yes {ss : List ByteArray} {s : ByteArray} {j : Nat} (hj : j < ss.length) (h : (s.toList == ss[j].toList) = true) : hasB ss s = true := by
  simp only [hasB, List.any_eq_true]
  exact ⟨_, List.getElem_mem hj, h⟩

set_option maxHeartbeats 4000000 in
theorem index_any (v : Value) (ss : List ByteArray) (s : ByteArray) (w : World) (hv : Strs w v ss) (hl : ss.length ≤ 1000) :
    Calls Tryz.prog 129 #[v, .string s] w fun e w' => (∃ n : Int, e = .returned (.int .i64 n) ∧ ((hasB ss s = true ∧ 0 ≤ n) ∨ (hasB ss s = false ∧ n = -1))) ∧ w' = w := by
  rcases hv with ⟨ao, cap, rfl, rfl⟩ | ⟨b, o, cap, rfl, h2, h3⟩
  · go_enter Tryz.func129, Tryz.ntmps129
    go_wp2
    refine wp_loop_rounds 1 ?_
    rw [rounds_succ]
    go_wp2
    go_ret
    exact ⟨⟨_, rfl, .inr ⟨rfl, rfl⟩⟩, rfl⟩
  · have H3 := hide h3
    clear h3
    go_enter Tryz.func129, Tryz.ntmps129
    go_wp2
    go_loop [8] (fun i => ∃ k : Nat, k ≤ ss.length ∧ i = .int .i64 k ∧ ∀ j (hj : j < ss.length), j < k → (s.toList == ss[j].toList) = false) (fun i => ss.length - (intOf i).toNat)
    case atStart => exact ⟨0, Nat.zero_le _, rfl, fun j _ h => absurd h (Nat.not_lt_zero _)⟩
    case round =>
      obtain ⟨k, hk, rfl, hno⟩ := hrel
      have HN := hide hno
      clear hno
      by_cases hlt : k < ss.length
      · have hc := H3.out k hlt
        generalize hsk : ss[k] = sk at *
        have HS := hide hsk
        clear hsk
        go_wp2
        · have hy : (s.toList == sk.toList) = true := by assumption
          go_ret
          exact ⟨⟨_, rfl, .inl ⟨has_yes hlt (by rw [HS.out]; exact hy), by omega⟩⟩, rfl⟩
        · have hn : (s.toList == sk.toList) = false := by assumption
          refine ⟨⟨k + 1, by omega, by go_num, fun j hj h => ?_⟩, by simp [intOf]; omega⟩
          rcases Nat.lt_or_eq_of_le (Nat.le_of_lt_succ h) with h' | rfl
          · exact HN.out j hj h'
          · rw [HS.out]; exact hn
      · go_wp2
        go_ret
        exact ⟨⟨_, rfl, .inr ⟨has_no fun j hj => HN.out j hj (by omega), rfl⟩⟩, rfl⟩

theorem contains_any (v : Value) (ss : List ByteArray) (s : ByteArray) (w : World) (hv : Strs w v ss) (hl : ss.length ≤ 1000) :
    Calls Tryz.prog 104 #[v, .string s] w fun e w' => e = .returned (.bool (hasB ss s)) ∧ w' = w := by
  have HC := hide (index_any v ss s w hv hl)
  clear hv hl
  go_enter Tryz.func104, Tryz.ntmps104
  go_wp2_with fail
  refine (HC.out).mono ?_
  rintro e w' ⟨⟨n, rfl, ⟨hy, hn⟩ | ⟨hy, rfl⟩⟩, rfl⟩
  · have HY := hide hy
    clear hy
    go_wp2
    go_ret
    exact ⟨by rw [HY.out]; rfl, rfl⟩
  · have HY := hide hy
    clear hy
    go_wp2
    go_ret
    exact ⟨by rw [HY.out]; rfl, rfl⟩

theorem under_ev (x : Option (List (ByteArray × Int) × Int)) (s : ByteArray) (w : World) (hg : Hnd w) (hl : (stV x).length ≤ 1000) :
    Calls Tryz.prog 60 #[ev x, .string s] w fun e w' => e = .returned (.bool (hasB ((stV x).map (·.1)) s)) ∧ Below w.heap.size w w' := by
  have HC := hide (path_ev x w hg hl)
  have HL := hide hl
  clear hg hl
  go_enter Tryz.func60, Tryz.ntmps60
  go_wp2_with fail
  refine (HC.out).mono ?_
  rintro e w' ⟨v, rfl, hown, hb⟩
  have HC2 := hide (contains_any v ((stV x).map (·.1)) s w' (strs_of_owns hown) (by simpa using HL.out))
  clear hown HC
  go_wp2_with fail
  refine (HC2.out).mono ?_
  rintro e w' ⟨rfl, rfl⟩
  go_wp2
  go_ret
  exact ⟨rfl, hb⟩

end Go.Proofs.YtgbcjmpnkejpeaaGreatDoor
