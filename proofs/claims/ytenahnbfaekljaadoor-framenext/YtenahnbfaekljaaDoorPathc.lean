/-
  fault.Path AND fault.Under, slices.Contains AND slices.Index at texts, at every error that a law makes. Conditions: errors.errorType holds the handle of the type error, and no more than a thousand steps.
-/
import Derived.Test.YtenahnbfaekljaaDoorMidc
namespace Go.Proofs.YtenahnbfaekljaaDoor
open Go.RowKit Go.Extern.Stop Go.Stop Go.Extern

theorem info9 : (Tryd.prog.info? 9).map (fun i => (i.zero, i.size, i.bytes)) = some (some (.string ByteArray.empty), 1, 16) := by kernel_rfl

/-- What was being done at each step, as cells. -/
def sv (l : List (ByteArray × Int)) : List Value := l.map fun s => Value.string s.1
theorem sv_snoc (l : List (ByteArray × Int)) (k : Nat) (hk : k < l.length) : sv (l.take (k + 1)) = sv (l.take k) ++ [.string l[k].1] := by
  rw [List.take_succ_eq_append_getElem hk]
  simp only [sv, List.map_append, List.map_cons, List.map_nil]

theorem path_step {w wr w1 : World} {k : Nat} {l : List (ByteArray × Int)} {v v' : Value} {o o' : Obj} (hk : k < l.length) (hs : w.heap.size ≤ wr.heap.size) (hb : Below w.heap.size w wr)
    (hown : wr.ownsRow w.heap.size 9 1 v k (sv (l.take k)))
    (hown' : w1.ownsRow w.heap.size 9 1 v' (k + 1) ((sv (l.take k)) ++ [.string l[k].1])) (hgrow : ((wr.alloc o).alloc o').grownBy w1 v.ownBlock) :
    w1.ownsRow w.heap.size 9 1 v' (k + 1) (sv (l.take (k + 1))) ∧ Below w.heap.size w w1 ∧ w.heap.size ≤ w1.heap.size := by
  have hB : Below w.heap.size w w1 := (((hb.alloc hs o).alloc (by simp; omega) o').grown hgrow (by simp; omega) (fun j hj => (hown.lt j hj).1))
  exact ⟨by rw [sv_snoc l k hk]; exact hown', hB, hB.size⟩

theorem path_nil (w : World) (hg : Hnd w) : Calls Tryd.prog 37 #[.nilIface] w fun e w' => ∃ v, e = .returned v ∧ w'.ownsRow w.heap.size 9 1 v 0 [] ∧ Below w.heap.size w w' := by
  have HC := hide (outF_nil w hg)
  clear hg
  go_enter Tryd.func37, Tryd.ntmps37
  go_wp2
  refine wp_loop_rounds 1 ?_
  rw [rounds_succ]
  go_wp2_with (first | (go_at_call 29; refine (HC.out).mono ?_; rintro e w' ⟨rfl, hb⟩; have hz := hb.size))
  go_ret
  exact ⟨_, rfl, World.ownsRow_nil _ _ _ _, hb.alloc hz _⟩

set_option maxRecDepth 100000 in
set_option maxHeartbeats 4000000 in
theorem path_chn (l : List (ByteArray × Int)) (c : Int) (w : World) (hg : Hnd w) (hl : l.length ≤ 1000) :
    Calls Tryd.prog 37 #[chn l (bse c)] w fun e w' => ∃ v, e = .returned v ∧ w'.ownsRow w.heap.size 9 1 v l.length (sv l) ∧ Below w.heap.size w w' := by
  obtain ⟨i0, hi, hz0, hz1, hz2⟩ := info_parts info9
  have HG := hide hg
  clear hg
  go_enter Tryd.func37, Tryd.ntmps37
  go_wp2
  go_loopw [0, 3] (fun e v wr => ∃ k : Nat, k ≤ l.length ∧ e = chn (l.drop k) (bse c) ∧ wr.ownsRow w.heap.size 9 1 v k (sv (l.take k)) ∧ Below w.heap.size w wr ∧ w.heap.size ≤ wr.heap.size) (fun e _ _ => SizeOf.sizeOf e)
  case atStart => exact ⟨0, Nat.zero_le _, rfl, World.ownsRow_nil _ _ _ _, Below.refl _ _, Nat.le_refl _⟩
  case round =>
    obtain ⟨k, hk, he, hown, hb, hs⟩ := hrel
    have HW := hide (HG.out.below hb)
    by_cases hlt : k < l.length
    · rw [List.drop_eq_getElem_cons hlt] at he
      simp only [chn] at he
      obtain ⟨ty, v, hv⟩ := chn_form (l.drop (k + 1)) c
      rw [hv] at he
      subst he
      have HV := hide hv
      clear hv
      generalize hsk : l[k] = sk at *
      have HS := hide hsk
      clear hsk
      have HC := hide (outF_hit sk.1 sk.2 ty v wr HW.out)
      go_wp2_with (first
        | (go_at_call 29; refine (HC.out).mono ?_; rintro e w' ⟨rfl, hb'⟩; have hz := hb'.size; have hown2 := owns_below hown hb')
        | (at_builtin; refine wpList_append_own _ rfl _ _ 88 rfl w.heap.size 9 i0 (.string ByteArray.empty) 1 16 Tryd.underlying88 hi hz0 hz1 hz2 rfl (by decide) _ _ _ rfl ((hown2.alloc _).alloc _) ⟨w'.heap.size + 1, 0, none⟩ 1 1 [.string sk.1] rfl rfl ?c1 ?c2 ?c3 ?c4 ?c5 ?_))
      case c1 =>
        intro j u hj
        match j, hj with
        | 0, hj => simp at hj; subst hj; simp [Addr.add, go_sem]
      case c2 => intro u hu; simp at hu; subst hu; rfl
      case c3 => unfold maxLen; omega
      case c4 => omega
      case c5 => simp; omega
      · intro v' w1 hown' hgrow _
        have R := path_step (l := l) hlt (Nat.le_trans hs hz) (hb.trans (hb'.mono hs)) hown2 (by rw [HS.out]; exact hown') hgrow
        have cF : w1.cell? ⟨w'.heap.size, 2, none⟩ = some (.iface ty v) := hgrow.cell (by simp [go_sem]) (fun h => Nat.lt_irrefl _ (hown2.lt _ h.symm).2)
        clear hown' hgrow hown hown2 hb' hz HC
        go_wp2
        go_roundw
        case rel => exact ⟨k + 1, by omega, HV.out.symm, R.1, R.2.1, R.2.2⟩
        case measure => exact size_inner _ _ _
    · obtain rfl : k = l.length := by omega
      rw [List.take_length] at hown
      have HC := hide (out_miss (some ([], c)) rfl wr HW.out)
      simp only [ev, chn] at HC
      rw [List.drop_length] at he
      simp only [chn] at he
      subst he
      clear hlt
      go_wp2_with (first | (go_at_call 29; refine (HC.out).mono ?_; rintro e w' ⟨rfl, hb'⟩; have hz := hb'.size))
      go_ret
      exact ⟨_, rfl, (owns_below hown hb').alloc _, (hb.trans (hb'.mono hs)).alloc (Nat.le_trans hs hz) _⟩

theorem path_ev (x : Option (List (ByteArray × Int) × Int)) (w : World) (hg : Hnd w) (hl : (stV x).length ≤ 1000) :
    Calls Tryd.prog 37 #[ev x] w fun e w' => ∃ v, e = .returned v ∧ w'.ownsRow w.heap.size 9 1 v (stV x).length (sv (stV x)) ∧ Below w.heap.size w w' := by
  rcases x with _ | ⟨l, c⟩
  · exact path_nil w hg
  · exact path_chn l c w hg hl
end Go.Proofs.YtenahnbfaekljaaDoor
