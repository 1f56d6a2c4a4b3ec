/-
  THE FRAME OF THE LAWS' PROOFS: what the listed variable's condition gives a walk, a world that meets it, and a slice of numbers that comes in, opened: they lie in its cells. No condition of its own.
  A READER's NEXT TEXT (wire.Reader.Text), out of what its Int tells. Conditions: the bytes' cells hold them, they lie below the reader, no more than a hundred thousand.
  fault.Path AND fault.Under, slices.Contains AND slices.Index at texts, at every error that a law makes. Conditions: errors.errorType holds the handle of the type error, and no more than a thousand steps.
-/
import Derived.Test.YtgbcjmpnkejpeaaGreatDoorCards
import Derived.Test.YtgbcjmpnkejpeaaGreatDoorTie
import Derived.Test.YtgbcjmpnkejpeaaGreatDoorJOutca3
import Derived.ProofKit
import Derived.OpenShut
import Derived.ShutString
import Derived.ChangeOld
import Derived.LaidHandle
import Derived.Lib.SmallJoins
import Derived.Deep.Slices
import Derived.Deep.DeepHandedRow
import Derived.Test.YtgbcjmpnkejpeaaGreatDoorJWnexta3
namespace Go.Proofs.YtgbcjmpnkejpeaaGreatDoor
open Go.ChangeShapes Go.WideShapes Go.ChangeAt Go.RowKit Go.Joins
set_option maxRecDepth 100000

theorem own : ownKnob Tryz.prog.godebug = none := by kernel_rfl
theorem laidOut : laidOutB Tryz.prog = true := by kernel_rfl
theorem et : Tryz.prog.globalNamed "errors.errorType" = some 0 := by kernel_rfl
theorem oneRow : ((List.range 240).filter fun t => Tryz.prog.rowNamed t [101, 114, 114, 111, 114]) = [41] := by kernel_rfl
theorem typesSize : Tryz.prog.types.size = 240 := by kernel_rfl

/-- What the condition gives a walk: the variable's one cell. -/
theorem handle_of_laid {W : World} (h : laidMetH Tryz.prog [("errors.errorType", Rows.laid_errors_errorType)] W) : Hnd W := by
  have h' : laidMet Tryz.prog [] W ∧ handlesMet Tryz.prog [("errors.errorType", Rows.laid_errors_errorType)] W := h
  obtain ⟨name, u, ty, e1, e2, e3, e4, e5⟩ := h'.2 _ (List.mem_singleton.2 rfl)
  have en : name = [101, 114, 114, 111, 114] := (Option.some.inj e1).symm
  subst en
  have hu : some u = some 196 := e2.symm.trans (by kernel_rfl)
  obtain rfl := Option.some.inj hu
  have hm : ty ∈ (List.range 240).filter fun t => Tryz.prog.rowNamed t [101, 114, 114, 111, 114] := List.mem_filter.2 ⟨List.mem_range.2 (by rw [← typesSize]; exact e3), e4⟩
  rw [oneRow] at hm
  obtain rfl := List.mem_singleton.1 hm
  have hh : typeHandle Tryz.prog 41 = .pointer (some ⟨1, 41, none⟩) := by kernel_rfl
  rw [hh] at e5
  unfold Hnd
  simpa using World.var?_cell et e5 0

/-- A world with the variable's cell laid. -/
def layHnd (w : World) : World :=
  { w with heap := w.heap.modify 0 fun
      | .cells _ t frozen => .cells #[.iface 196 (.agg #[.pointer (some ⟨1, 41, none⟩)])] t frozen
      | o => o }
theorem laid_met (os : Os) (args : Array Value) : laidMetH Tryz.prog [("errors.errorType", Rows.laid_errors_errorType)] ((layHnd (World.holding Tryz.prog os ⟨#[], #[], []⟩)).forCall (fun _ _ => 0) ⟨#[], args, []⟩).memory :=
  laidMetH_of_parts (laidMet_nil _ _) (by kernel_rfl)

section
variable {H : Type} {enc : TypeId × Value → H}

/-- A slice of numbers that came in, opened. -/
theorem open_nums {W : World} {base : Nat} {t e : TypeId} {k : IntKind} {v : Value} {d : DataW H} {p : List MemPlace} (ht : Tryz.prog.underlying t = some (.slice e)) (he : Tryz.prog.underlying e = some (.int k)) (hc : Tryz.prog.cellsOf e = 1)
    (hv : Value.okWide Tryz.prog W .any base t v) (h : DataW.Trod enc Tryz.prog W 0 (fun _ => true) true t v d p) : ∃ l : List Int, Sl (fun x => .int k x) W v l ∧ l.length ≤ maxLen ∧ ∀ n ∈ l, (Lit.int k n).wf = true := by
  obtain ⟨a0, len, cap, rfl⟩ := okWide_slice ht hv
  obtain ⟨fuel, hf⟩ := h
  rcases open_ints ht he hc hf with ⟨hcs, _⟩ | ⟨a, len', cap', zs, hcs, _, hle, hmax, hall, _, hcell, hwf⟩
  · simp [Value.cells] at hcs
    obtain ⟨rfl, rfl, rfl⟩ := hcs
    exact ⟨[], .inl ⟨_, _, rfl, rfl⟩, Nat.zero_le _, fun n hn => by cases hn⟩
  · simp [Value.cells] at hcs
    obtain ⟨rfl, rfl, rfl⟩ := hcs
    rw [if_pos rfl] at hall
    have hl : (zs.take len).length = len := by rw [List.length_take]; omega
    refine ⟨zs.take len, ?_, by omega, fun n hn => hwf n (List.mem_of_mem_take hn)⟩
    by_cases h0 : len = 0
    · subst h0
      exact .inl ⟨_, _, by simp, rfl⟩
    · obtain ⟨b, off, rfl, hcc⟩ := ints_at hcell (by omega)
      refine .inr ⟨b, off, cap, by rw [hl], by omega, fun i hi => ?_⟩
      rw [hl] at hi
      rw [hcc i (by omega), List.getElem_take]
      simp [List.getD, show i < zs.length by omega]
end
end Go.Proofs.YtgbcjmpnkejpeaaGreatDoor
namespace Go.Proofs.YtgbcjmpnkejpeaaGreatDoor
open Go.RowKit

set_option maxRecDepth 100000 in
set_option maxHeartbeats 4000000 in
theorem rtext_bad (p : Nat) (V : Value) (a A m N : Int) (e0 : Value) (t : TypeId) (u : Value) (w : World) (hr : Rd w p V a e0)
    (HC : Hid (Calls Tryz.prog 46 #[.pointer (some ⟨p, 0, none⟩), .int .i64 m] w fun x w' => x = .returned (.int .i64 N) ∧ Rd w' p V A (.iface t u) ∧ Bx p w w')) :
    Calls Tryz.prog 94 #[.pointer (some ⟨p, 0, none⟩), .int .i64 m] w fun x w' => x = .returned (.slice none 0 0) ∧ Rd w' p V A (.iface t u) ∧ Bx p w w' := by
  obtain ⟨c0, c1, c2, fz⟩ := id hr
  clear hr fz
  go_enter Tryz.func94, Tryz.ntmps94
  go_wp2_with (first | (go_at_call 46; refine (HC.out).mono ?_; rintro e w1 ⟨rfl, hr1, hb1⟩; obtain ⟨d0, d1, d2, fz1⟩ := id hr1; have g1 := fz1 1; have g2 := fz1 2; clear fz1; have HR1 := hide hr1; have HB1 := hide hb1; clear hr1 hb1))
  go_ret
  exact ⟨rfl, HR1.out, HB1.out⟩
set_option maxRecDepth 100000 in
set_option maxHeartbeats 4000000 in
theorem rtext_short (p : Nat) (ao : Option Addr) (L cap A : Nat) (a m N : Int) (e0 : Value) (w : World) (hr : Rd w p (.slice ao L cap) a e0) (_hL : L ≤ 100000) (hc : L ≤ cap) (hA : A ≤ L) (hn : ((L - A : Nat) : Int) < N)
    (HC : Hid (Calls Tryz.prog 46 #[.pointer (some ⟨p, 0, none⟩), .int .i64 m] w fun x w' => x = .returned (.int .i64 N) ∧ Rd w' p (.slice ao L cap) A .nilIface ∧ Bx p w w')) :
    Calls Tryz.prog 94 #[.pointer (some ⟨p, 0, none⟩), .int .i64 m] w fun x w' => x = .returned (.slice none 0 0) ∧ Rd w' p (.slice ao L cap) a (ft ⟨#[116, 101, 120, 116]⟩ a 3) ∧ Bx p w w' := by
  by_cases hcl : cap = A
  · subst hcl
    obtain ⟨c0, c1, c2, fz⟩ := id hr
    clear hr fz
    go_enter Tryz.func94, Tryz.ntmps94
    go_wp2_with (first | (go_at_call 46; refine (HC.out).mono ?_; rintro e w1 ⟨rfl, hr1, hb1⟩; obtain ⟨d0, d1, d2, fz1⟩ := id hr1; have g1 := fz1 1; have g2 := fz1 2; clear fz1; have HR1 := hide hr1; have HB1 := hide hb1; clear hr1 hb1))
    go_quiet (fail)
    go_wp2_with (first | (go_at_call 48; refine (refuse_none p _ _ _ _ _ ((HR1.out.drewN _).seta _)).mono ?_; rintro e w' ⟨rfl, rfl⟩))
    go_ret
    exact ⟨rfl, ((HR1.out.drewN _).seta _).sete _, ((HB1.out.drewN _).set _ _).set _ _⟩
  · obtain ⟨c0, c1, c2, fz⟩ := id hr
    clear hr fz
    go_enter Tryz.func94, Tryz.ntmps94
    go_wp2_with (first | (go_at_call 46; refine (HC.out).mono ?_; rintro e w1 ⟨rfl, hr1, hb1⟩; obtain ⟨d0, d1, d2, fz1⟩ := id hr1; have g1 := fz1 1; have g2 := fz1 2; clear fz1; have HR1 := hide hr1; have HB1 := hide hb1; clear hr1 hb1))
    go_quiet (fail)
    go_wp2_with (first | (go_at_call 48; refine (refuse_none p _ _ _ _ _ ((HR1.out.drewN _).seta _)).mono ?_; rintro e w' ⟨rfl, rfl⟩))
    go_ret
    exact ⟨rfl, ((HR1.out.drewN _).seta _).sete _, ((HB1.out.drewN _).set _ _).set _ _⟩
set_option maxRecDepth 100000 in
set_option maxHeartbeats 4000000 in
theorem rtext_ok (p b o L cap A : Nat) (a m : Int) (e0 : Value) (l : List Int) (w : World) (hr : Rd w p (.slice (some ⟨b, o, none⟩) L cap) a e0) (hL : L ≤ 100000) (hc : L ≤ cap) (hk : 0 < l.length) (hn : A + l.length ≤ L) (hp : b ≠ p) (h3 : ∀ i (h : i < l.length), w.cell? ⟨b, o + A + i, none⟩ = some (bc l[i]))
    (HC : Hid (Calls Tryz.prog 46 #[.pointer (some ⟨p, 0, none⟩), .int .i64 m] w fun x w' => x = .returned (.int .i64 (l.length : Int)) ∧ Rd w' p (.slice (some ⟨b, o, none⟩) L cap) A .nilIface ∧ Bx p w w')) :
    Calls Tryz.prog 94 #[.pointer (some ⟨p, 0, none⟩), .int .i64 m] w fun x w' => ∃ v, x = .returned v ∧ Sl bc w' v l ∧ Rd w' p (.slice (some ⟨b, o, none⟩) L cap) (A + l.length : Nat) .nilIface ∧ Bx p w w' := by
  obtain ⟨c0, c1, c2, fz⟩ := id hr
  clear hr fz
  have hne : ¬ cap = A := by omega
  have H3 := hide h3
  clear h3
  go_enter Tryz.func94, Tryz.ntmps94
  go_wp2_with (first | (go_at_call 46; refine (HC.out).mono ?_; rintro e w1 ⟨rfl, hr1, hb1⟩; obtain ⟨d0, d1, d2, fz1⟩ := id hr1; have g1 := fz1 1; have g2 := fz1 2; clear fz1; have HR1 := hide hr1; have HB1 := hide hb1; clear hr1 hb1))
  go_quiet (fail)
  go_wp2_with fail
  refine (clone_some b (o + A) (cap - A) l _ (by omega) ?_).mono ?_
  · intro i hi
    rw [World.cell?_setCell_other _ _ _ _ (by simp), World.cell?_drewN, HB1.out.cell (cell_block (H3.out i hi)) hp]
    exact H3.out i hi
  rintro e w2 ⟨v, rfl, hown, hb2⟩
  have hS := hide (sl_of_owns hown)
  have hR2 := hide (((HR1.out.drewN nq).seta (A + l.length)).below hb2)
  have hB2 := hide (((HB1.out.drewN nq).set 1 (.int .i64 (A + l.length))).call hb2)
  clear hown hb2
  go_wp2_with fail
  go_ret
  exact ⟨v, rfl, hS.out, by have := hR2.out; simpa using this, hB2.out⟩
theorem clone_nil (ao : Option Addr) (cap : Nat) (w : World) : Calls Tryz.prog 120 #[.slice ao 0 cap] w fun e w' => (∃ ao c, e = .returned (.slice ao 0 c)) ∧ Below w.heap.size w w' := by
  cases ao with
  | none => exact clone_none cap w
  | some a => exact clone_zero a cap w
set_option maxRecDepth 100000 in
set_option maxHeartbeats 4000000 in
theorem rtext_zero (p : Nat) (ao : Option Addr) (L cap A : Nat) (a m : Int) (e0 : Value) (w : World) (hr : Rd w p (.slice ao L cap) a e0) (hL : L ≤ 100000) (hc : L ≤ cap) (hn : A ≤ L)
    (HC : Hid (Calls Tryz.prog 46 #[.pointer (some ⟨p, 0, none⟩), .int .i64 m] w fun x w' => x = .returned (.int .i64 0) ∧ Rd w' p (.slice ao L cap) A .nilIface ∧ Bx p w w')) :
    Calls Tryz.prog 94 #[.pointer (some ⟨p, 0, none⟩), .int .i64 m] w fun x w' => ∃ v, x = .returned v ∧ Sl bc w' v [] ∧ Rd w' p (.slice ao L cap) A .nilIface ∧ Bx p w w' := by
  by_cases hcl : cap = A
  · subst hcl
    obtain ⟨c0, c1, c2, fz⟩ := id hr
    clear hr fz
    go_enter Tryz.func94, Tryz.ntmps94
    go_wp2_with (first | (go_at_call 46; refine (HC.out).mono ?_; rintro e w1 ⟨rfl, hr1, hb1⟩; obtain ⟨d0, d1, d2, fz1⟩ := id hr1; have g1 := fz1 1; have g2 := fz1 2; clear fz1; have HR1 := hide hr1; have HB1 := hide hb1; clear hr1 hb1))
    go_quiet (fail)
    go_wp2_with fail
    refine (clone_nil _ _ _).mono ?_
    rintro e w2 ⟨⟨ao', c', rfl⟩, hb2⟩
    have hR2 := hide (((HR1.out.drewN nq).seta cap).below hb2)
    have hB2 := hide (((HB1.out.drewN nq).set 1 (.int .i64 cap)).call hb2)
    clear hb2
    go_wp2_with fail
    go_ret
    exact ⟨_, rfl, Sl.nil _ _ _ _, hR2.out, hB2.out⟩
  · obtain ⟨c0, c1, c2, fz⟩ := id hr
    clear hr fz
    go_enter Tryz.func94, Tryz.ntmps94
    go_wp2_with (first | (go_at_call 46; refine (HC.out).mono ?_; rintro e w1 ⟨rfl, hr1, hb1⟩; obtain ⟨d0, d1, d2, fz1⟩ := id hr1; have g1 := fz1 1; have g2 := fz1 2; clear fz1; have HR1 := hide hr1; have HB1 := hide hb1; clear hr1 hb1))
    go_quiet (fail)
    go_wp2_with fail
    refine (clone_nil _ _ _).mono ?_
    rintro e w2 ⟨⟨ao', c', rfl⟩, hb2⟩
    have hR2 := hide (((HR1.out.drewN nq).seta A).below hb2)
    have hB2 := hide (((HB1.out.drewN nq).set 1 (.int .i64 A)).call hb2)
    clear hb2
    go_wp2_with fail
    go_ret
    exact ⟨_, rfl, Sl.nil _ _ _ _, hR2.out, hB2.out⟩
end Go.Proofs.YtgbcjmpnkejpeaaGreatDoor
namespace Go.Proofs.YtgbcjmpnkejpeaaGreatDoor
open Go.RowKit Go.Extern.Stop Go.Stop Go.Extern

theorem info9 : (Tryz.prog.info? 9).map (fun i => (i.zero, i.size, i.bytes)) = some (some (.string ByteArray.empty), 1, 16) := by kernel_rfl

/-- What was being done at each step, as cells. -/
def sv (l : List (ByteArray × Int)) : List Value := l.map fun s => Value.string s.1
theorem sv_snoc (l : List (ByteArray × Int)) (k : Nat) (hk : k < l.length) : sv (l.take (k + 1)) = sv (l.take k) ++ [.string l[k].1] := by
  rw [List.take_succ_eq_append_getElem hk]
  simp only [sv, List.map_append, List.map_cons, List.map_nil]

theorem path_step {w wr w1 : World} {k : Nat} {l : List (ByteArray × Int)} {v v' : Value} {o o' : Obj} (hk : k < l.length) (hs : w.heap.size ≤ wr.heap.size) (hb : Below w.heap.size w wr)
    (hown : wr.ownsRow w.heap.size 9 1 v k (sv (l.take k)))
    (hown' : w1.ownsRow w.heap.size 9 1 v' (k + 1) ((sv (l.take k)) ++ [.string l[k].1])) (hgrow : ((wr.alloc o).alloc o').grownBy w1 v.ownBlock) :
    w1.ownsRow w.heap.size 9 1 v' (k + 1) (sv (l.take (k + 1))) ∧ Below w.heap.size w w1 ∧ w.heap.size ≤ w1.heap.size := by
  have hB : Below w.heap.size w w1 := (((hb.alloc hs o).alloc (by simp; omega) o').grown hgrow (by simp; omega) (fun j hj => (hown.lt j hj).1))
  exact ⟨by rw [sv_snoc l k hk]; exact hown', hB, hB.size⟩

theorem path_nil (w : World) (hg : Hnd w) : Calls Tryz.prog 105 #[.nilIface] w fun e w' => ∃ v, e = .returned v ∧ w'.ownsRow w.heap.size 9 1 v 0 [] ∧ Below w.heap.size w w' := by
  have HC := hide (outF_nil w hg)
  clear hg
  go_enter Tryz.func105, Tryz.ntmps105
  go_wp2
  refine wp_loop_rounds 1 ?_
  rw [rounds_succ]
  go_wp2_with (first | (go_at_call 103; refine (HC.out).mono ?_; rintro e w' ⟨rfl, hb⟩; have hz := hb.size))
  go_ret
  exact ⟨_, rfl, World.ownsRow_nil _ _ _ _, hb.alloc hz _⟩

set_option maxRecDepth 100000 in
set_option maxHeartbeats 4000000 in
theorem path_chn (l : List (ByteArray × Int)) (c : Int) (w : World) (hg : Hnd w) (hl : l.length ≤ 1000) :
    Calls Tryz.prog 105 #[chn l (bse c)] w fun e w' => ∃ v, e = .returned v ∧ w'.ownsRow w.heap.size 9 1 v l.length (sv l) ∧ Below w.heap.size w w' := by
  obtain ⟨i0, hi, hz0, hz1, hz2⟩ := info_parts info9
  have HG := hide hg
  clear hg
  go_enter Tryz.func105, Tryz.ntmps105
  go_wp2
  go_loopw [0, 3] (fun e v wr => ∃ k : Nat, k ≤ l.length ∧ e = chn (l.drop k) (bse c) ∧ wr.ownsRow w.heap.size 9 1 v k (sv (l.take k)) ∧ Below w.heap.size w wr ∧ w.heap.size ≤ wr.heap.size) (fun e _ _ => SizeOf.sizeOf e)
  case atStart => exact ⟨0, Nat.zero_le _, rfl, World.ownsRow_nil _ _ _ _, Below.refl _ _, Nat.le_refl _⟩
  case round =>
    obtain ⟨k, hk, he, hown, hb, hs⟩ := hrel
    have HW := hide (HG.out.below hb)
    by_cases hlt : k < l.length
    · rw [List.drop_eq_getElem_cons hlt] at he
      simp only [chn] at he
      obtain ⟨ty, v, hv⟩ := chn_form (l.drop (k + 1)) c
      rw [hv] at he
      subst he
      have HV := hide hv
      clear hv
      generalize hsk : l[k] = sk at *
      have HS := hide hsk
      clear hsk
      have HC := hide (outF_hit sk.1 sk.2 ty v wr HW.out)
      go_wp2_with (first
        | (go_at_call 103; refine (HC.out).mono ?_; rintro e w' ⟨rfl, hb'⟩; have hz := hb'.size; have hown2 := owns_below hown hb')
        | (at_builtin; refine wpList_append_own _ rfl _ _ 152 rfl w.heap.size 9 i0 (.string ByteArray.empty) 1 16 Tryz.underlying152 hi hz0 hz1 hz2 rfl (by decide) _ _ _ rfl ((hown2.alloc _).alloc _) ⟨w'.heap.size + 1, 0, none⟩ 1 1 [.string sk.1] rfl rfl ?c1 ?c2 ?c3 ?c4 ?c5 ?_))
      case c1 =>
        intro j u hj
        match j, hj with
        | 0, hj => simp at hj; subst hj; simp [Addr.add, go_sem]
      case c2 => intro u hu; simp at hu; subst hu; rfl
      case c3 => unfold maxLen; omega
      case c4 => omega
      case c5 => simp; omega
      · intro v' w1 hown' hgrow _
        have R := path_step (l := l) hlt (Nat.le_trans hs hz) (hb.trans (hb'.mono hs)) hown2 (by rw [HS.out]; exact hown') hgrow
        have cF : w1.cell? ⟨w'.heap.size, 2, none⟩ = some (.iface ty v) := hgrow.cell (by simp [go_sem]) (fun h => Nat.lt_irrefl _ (hown2.lt _ h.symm).2)
        clear hown' hgrow hown hown2 hb' hz HC
        go_wp2
        go_roundw
        case rel => exact ⟨k + 1, by omega, HV.out.symm, R.1, R.2.1, R.2.2⟩
        case measure => exact size_inner _ _ _
    · obtain rfl : k = l.length := by omega
      rw [List.take_length] at hown
      have HC := hide (out_miss (some ([], c)) rfl wr HW.out)
      simp only [ev, chn] at HC
      rw [List.drop_length] at he
      simp only [chn] at he
      subst he
      clear hlt
      go_wp2_with (first | (go_at_call 103; refine (HC.out).mono ?_; rintro e w' ⟨rfl, hb'⟩; have hz := hb'.size))
      go_ret
      exact ⟨_, rfl, (owns_below hown hb').alloc _, (hb.trans (hb'.mono hs)).alloc (Nat.le_trans hs hz) _⟩

theorem path_ev (x : Option (List (ByteArray × Int) × Int)) (w : World) (hg : Hnd w) (hl : (stV x).length ≤ 1000) :
    Calls Tryz.prog 105 #[ev x] w fun e w' => ∃ v, e = .returned v ∧ w'.ownsRow w.heap.size 9 1 v (stV x).length (sv (stV x)) ∧ Below w.heap.size w w' := by
  rcases x with _ | ⟨l, c⟩
  · exact path_nil w hg
  · exact path_chn l c w hg hl
end Go.Proofs.YtgbcjmpnkejpeaaGreatDoor
