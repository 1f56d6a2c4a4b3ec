/-
  A SLICE OF SPANS, BACKWARD (slices.Backward at spans): its elements come from the last one on, with their places. Conditions: the spans' cells hold them; no more than a hundred thousand.
-/
import Derived.RangeFuncNested
import Derived.RangeFuncBound
import Derived.RangeFuncCalls
import Derived.RangeFuncLeaves
import Derived.Shelf.Abstract
import Derived.Shelf.RegionOpen
import Derived.OwnWalkIn
import Derived.TacticsInMore
import Derived.LoopNIn
import Derived.LoopIn
import Derived.Test.YtkihdceieljkgaaDoorSpD
namespace Go.Proofs.YtkihdceieljkgaaDoor
open Go.RowKit Go.Shelf

attribute [local go_sem] Oper.semAt_some

/-- What has come when k rounds are over. -/
def cmB (l : List Spn) (k : Nat) : List (Int × Spn) := (List.range k).map fun j => (((l.length - 1 - j : Nat) : Int), l[l.length - 1 - j]?.getD (0, 0))
/-- What a round keeps: what lay below n0, and the box of the slice. -/
def KpB (n0 Bs : Nat) (W W' : World) : Prop := Below n0 W W' ∧ W'.heap[Bs]? = W.heap[Bs]?
theorem KpB.refl (n0 Bs : Nat) (W : World) : KpB n0 Bs W W := ⟨Below.refl _ _, rfl⟩
theorem KpB.trans {n0 Bs : Nat} {A B C : World} (h : KpB n0 Bs A B) (k : KpB n0 Bs B C) : KpB n0 Bs A C := ⟨h.1.trans k.1, k.2.trans h.2⟩
theorem KpB.cell {n0 Bs : Nat} {A B : World} (h : KpB n0 Bs A B) : B.cell? ⟨Bs, 0, none⟩ = A.cell? ⟨Bs, 0, none⟩ := World.cell?_of_block h.2
theorem cmB_succ (l : List Spn) (k : Nat) : cmB l (k + 1) = cmB l k ++ [(((l.length - 1 - k : Nat) : Int), l[l.length - 1 - k]?.getD (0, 0))] := by simp [cmB, List.range_succ]
theorem cmB_len (l : List Spn) (k : Nat) : (cmB l k).length = k := by simp [cmB]
set_option maxRecDepth 100000 in
set_option maxHeartbeats 4000000 in
theorem back1_in (F : Fence) (n : Nat) (h26 : F.fn 31) (hro : F.round = none) (hn : 1 ≤ n) (lp Bs n0 : Nat) (ao : Option Addr) (len cap : Nat) (l : List Spn) (hlen : len = l.length) (hs : l.length ≤ 100000) (J Jx : List (Int × Spn) → World → Prop)
    (hY : ∀ pre x W, J pre W → pre.length < len → YieldAt F (n - 1) Tryd.prog lp #[.int .i64 x.1, .agg #[.int .i64 x.2.1, .int .i64 x.2.2]] W fun e W' =>
      (e = .returned (.bool true) ∧ J (pre ++ [x]) W' ∧ KpB n0 Bs W W') ∨ (e = .returned (.bool false) ∧ Jx (pre ++ [x]) W'))
    (W : World) (hBs : W.cell? ⟨Bs, 0, none⟩ = some (.slice ao len cap)) (hc : ∀ W', Below n0 W W' → Ssp W' (.slice ao len cap) l) (h0 : J [] W) :
    CallsIn F n Tryd.prog 31 #[.func (.yield lp) #[] #[], .pointer (some ⟨Bs, 0, none⟩)] W fun e W' => (∃ v, e = .returned v) ∧
      ((∃ ys, ys = cmB l len ∧ J ys W') ∨ (∃ pre, (∃ k, k ≤ len ∧ pre = cmB l k) ∧ Jx pre W')) := by
  subst hlen
  have HC := hide hc
  clear hc
  refine callsIn_of_wp Tryd.func31 rfl h26 ?_ hro
  simp only [Tryd.ntmps31, List.size_toArray, List.length_cons, List.length_nil, Nat.reduceAdd, Nat.reduceSub, Array.replicate_succ, Array.replicate_zero, List.push_toArray, List.append_toArray, List.nil_append, List.cons_append]
  gi_wp2
  gi_loopw [3] (fun i wr => ∃ m k : Nat, m + k = l.length ∧ i = .int .i64 ((m : Int) - 1) ∧ J (cmB l k) wr ∧ KpB n0 Bs W wr) (fun i _ => (ivS i + 1).toNat)
  case atStart => exact ⟨l.length, 0, by omega, by go_num, h0, KpB.refl _ _ _⟩
  case round =>
    obtain ⟨m, k, hk, rfl, hJs, hnx⟩ := hrel
    have HNX := hide hnx
    have hBs' : wr.cell? ⟨Bs, 0, none⟩ = some (.slice ao l.length cap) := hnx.cell.trans hBs
    clear hnx
    cases m with
    | zero =>
      obtain rfl : k = l.length := by omega
      gi_wp2
      go_end0
      exact ⟨⟨_, rfl⟩, .inl ⟨_, rfl, hJs⟩⟩
    | succ m =>
      have hm : m < l.length := by omega
      have hkl : k < l.length := by omega
      have hmk : l.length - 1 - k = m := by omega
      obtain ⟨b, o, cap', e, -, -, -⟩ := (HC.out _ HNX.out.1).at hm
      obtain rfl := (Value.slice.inj e).1
      clear e
      obtain ⟨c0, c1⟩ := (HC.out _ HNX.out.1).cells hm
      have HSU : Hid (cmB l (k + 1) = cmB l k ++ [((m : Int), l[m])]) := hide (by rw [cmB_succ, hmk, List.getElem?_eq_getElem hm]; rfl)
      clear hmk
      obtain ⟨x, hx⟩ : ∃ x, l[m] = x := ⟨_, rfl⟩
      rw [hx] at c0 c1 HSU
      clear hx
      obtain ⟨x0, x1⟩ := x
      obtain ⟨fn, tmps, assign, body, hy, hR⟩ := hY _ ((m : Int), (x0, x1)) wr hJs (by rw [cmB_len]; exact hkl)
      dsimp only at hy c0 c1
      have e0 : ((m + 1 : Nat) : Int) - 1 = (m : Int) := by omega
      rw [e0]
      clear e0
      have hmI : (m : Int) < (l.length : Int) := by omega
      gi_wp2
      refine hR.mono ?_
      rintro e W3 (⟨rfl, hJ3, hk3⟩ | ⟨rfl, hJx3⟩)
      · gi_wp2
        go_roundw
        case rel => exact ⟨m, k + 1, by omega, by go_num, by rw [HSU.out]; exact hJ3, HNX.out.trans hk3⟩
        case measure => simp [ivS]
      · gi_wp2
        refine bodyPost_ret (results_none rfl _ _ _) rfl ?_
        exact ⟨⟨_, rfl⟩, .inr ⟨_, ⟨k + 1, by omega, HSU.out.symm⟩, hJx3⟩⟩
set_option maxHeartbeats 1000000 in
theorem back_in (F : Fence) (n : Nat) (h19 : F.fn 25) (hro : F.round = none) (a : Option Addr) (len cap : Nat) (w : World) :
    CallsIn F n Tryd.prog 25 #[.slice a len cap] w fun e w' => e = .returned (.func (.func 31) #[] #[.pointer (some ⟨w.heap.size, 0, none⟩)]) ∧ w' = w.alloc (.cells #[.slice a len cap] 22) := by
  refine callsIn_of_wp Tryd.func25 rfl h19 ?_ hro
  simp only [Tryd.ntmps25, List.size_toArray, List.length_cons, List.length_nil, Nat.reduceAdd, Nat.reduceSub, Array.replicate_succ, Array.replicate_zero, List.push_toArray, List.append_toArray, List.nil_append, List.cons_append]
  gi_wp2
  go_ret
  exact ⟨rfl, rfl⟩
/-- What slices.Backward hands back. -/
theorem back_stops (F : Fence) (n : Nat) (h26 : F.fn 31) (hro : F.round = none) (hn : 1 ≤ n) (Bs n0 : Nat) (ao : Option Addr) (len cap : Nat) (l : List Spn) (hlen : len = l.length) (hs : l.length ≤ 100000) (w : World) (hBs : Bs < w.heap.size) (hn0 : n0 ≤ w.heap.size)
    (hc : w.cell? ⟨Bs, 0, none⟩ = some (.slice ao len cap)) (hI : ∀ W', Below n0 w W' → Ssp W' (.slice ao len cap) l) :
    SeqStopsK F n Tryd.prog 31 #[.pointer (some ⟨Bs, 0, none⟩)] (fun x : Int × Spn => #[Value.int .i64 x.1, .agg #[.int .i64 x.2.1, .int .i64 x.2.2]]) (KpB n0 Bs) (fun ys => ys = cmB l len)
      (fun pre => ∃ k, k ≤ len ∧ pre = cmB l k) len w := fun lp J Jx W hW _ _ hY h0 =>
  back1_in F n h26 hro hn lp Bs n0 ao len cap l hlen hs J Jx hY W ((hW.cell (p := ⟨Bs, 0, none⟩) hBs).trans hc) (fun W' h' => hI W' ((hW.mono hn0).trans h')) h0
end Go.Proofs.YtkihdceieljkgaaDoor
