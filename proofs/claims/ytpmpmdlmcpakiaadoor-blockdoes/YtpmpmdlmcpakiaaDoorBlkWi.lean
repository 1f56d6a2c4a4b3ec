/-
  A STORE IS WIPED (block.Wipe); whether acts are no more than is waited for (castellanlaw08.light). No condition.
-/
import Derived.Test.YtpmpmdlmcpakiaaDoorBlkFr
import Derived.Test.YtpmpmdlmcpakiaaDoorFrameOp
namespace Go.Proofs.YtpmpmdlmcpakiaaDoor
open Go.RowKit

section
variable {d bS bT : Nat} {u : Value} {s : Dst}
theorem wpList_clearM {ops : Array Oper} {rest : List Oper} {o : Oper} {a : Act} {Q : Exit → Act → World → Prop} (w : World) (hg : o.guard = none) (x : Operand) (ho : o.op = .call { callee := .builtin .clear, args := #[x], argTypes := #[52] }) (b : Nat) (l : Cs) (hx : a.eval x = .map (some b)) (hm : Mp w b l)
    (h : ∀ w', Mp w' b [] → w.grownBy w' (some b) → wpList Tryd.prog ops Q rest (a.put o.dst (.tuple #[])) w') : wpList Tryd.prog ops Q (o :: rest) a w := by
  refine wpList_plain hg fun K hK => ?_
  obtain ⟨w', hrun, q1, q2⟩ := run_clearM hm o.type
  unfold Oper.wp
  simp [execOp, ho, resolve, invoke, builtin, hx, hrun, Result.andThen]
  exact hK _ _ (h w' q1 q2)
set_option maxRecDepth 100000 in
set_option maxHeartbeats 4000000 in
theorem q_wipe (w : World) (h : Dq w d bS bT u s) : Calls Tryd.prog 30 #[.pointer (some ⟨d, 0, none⟩)] w fun e w' => e = .returned (.tuple #[]) ∧ Dq w' d bS bT (.slice none 0 0) ⟨s.room, [], []⟩ ∧ Dx d bS bT u w w' (.slice none 0 0) := by
  have HH := hide h.dk
  have j1 := h.dk.c1
  clear h
  go_enter Tryd.func30, Tryd.ntmps30
  go_upto_region 1 with (first | (refine wpList_clearM _ rfl _ rfl _ _ rfl HH.out.ms ?_; intro w1 hm hg; have HD1 := hide (HH.out.putS hg hm); have HX1 := hide ((Dx.refl (d := d) (bS := bS) (bT := bT) (u := u) (w := w)).turnS hg); clear hm hg))
  clear j1
  have j2 := HD1.out.c2
  go_upto_region 2 with (first | (refine wpList_clearM _ rfl _ rfl _ _ rfl HD1.out.mt ?_; intro w2 hm hg; have HD2 := hide (HD1.out.putT hg hm); have HX2 := hide (HX1.out.turnT hg); clear hm hg))
  clear j2
  obtain ⟨al, cl, hu⟩ := HD2.out.ro.form
  subst hu
  have j3 := HD2.out.c3
  have f3 := HD2.out.fz 3
  go_wp2
  have hf := HD2.out.putL (grown_refl _ _) (Lo.nil _) (.inr (fun k e => by cases e))
  exact bodyPost_end (v := .tuple #[]) (by simp [results, Tryd.results30]) rfl ⟨rfl, ⟨⟨hf.c0, hf.c1, hf.c2, hf.c3, hf.fz, hf.ms, hf.mt, hf.ro, hf.ne, hf.du⟩, ⟨asc_nil, fun p hp => by simp at hp, fun p hp => by simp at hp⟩⟩, HX2.out.turnL (grown_refl _ _) (.inr (fun k e => by cases e))⟩
end
/-- Are acts no more than is waited for? -/
def liB (ps : List Ap) : Bool := decide (ps.length ≤ 60) && ps.all fun p => decide (p.1.by_.length ≤ 100) && decide (p.1.ks.length ≤ 100)
set_option maxRecDepth 100000 in
set_option maxHeartbeats 4000000 in
theorem light_any (v : Value) (ps : List Ap) (w : World) (hv : Al w v ps) : Calls Tryd.prog 4 #[v] w fun e w' => e = .returned (.bool (liB ps)) ∧ w' = w := by
  obtain ⟨⟨ao, cap, rfl, hr⟩, hp⟩ := hv
  have HR := hide hr
  have HP := hide hp
  clear hr hp
  by_cases h60 : ps.length ≤ 60
  · go_enter Tryd.func4, Tryd.ntmps4
    go_wp2
    go_loopw [3] (fun i W => ∃ k : Nat, k ≤ ps.length ∧ i = .int .i64 k ∧ W = w ∧ ((ps.take k).all fun p => decide (p.1.by_.length ≤ 100) && decide (p.1.ks.length ≤ 100)) = true) (fun i _ => ps.length - (iv i).toNat)
    case atStart => exact ⟨0, Nat.zero_le _, rfl, rfl, rfl⟩
    case round =>
      obtain ⟨k, hk, rfl, rfl, hall⟩ := hrel
      by_cases hlt : k < ps.length
      · obtain ⟨b, o, rfl, hrg⟩ := HR.out (by omega)
        have he := Al.at hrg hlt
        have c2 := he 2 _ rfl
        have c3 := he 3 _ rfl
        obtain ⟨a2, k2, e2⟩ := (HP.out _ (List.getElem_mem hlt)).1.form
        obtain ⟨a3, k3, e3⟩ := (HP.out _ (List.getElem_mem hlt)).2.2.form
        rw [e2] at c2
        rw [e3] at c3
        have HT : Hid ((ps.take (k + 1)).all (fun p => decide (p.1.by_.length ≤ 100) && decide (p.1.ks.length ≤ 100)) = (decide (ps[k].1.by_.length ≤ 100) && decide (ps[k].1.ks.length ≤ 100))) := hide (by rw [take_step hlt, List.all_append, hall]; simp)
        have HF : Hid ((decide (ps[k].1.by_.length ≤ 100) && decide (ps[k].1.ks.length ≤ 100)) = false → liB ps = false) := hide (fun hq => by
          unfold liB
          rw [show (ps.all fun p => decide (p.1.by_.length ≤ 100) && decide (p.1.ks.length ≤ 100)) = false from List.all_eq_false.2 ⟨ps[k], List.getElem_mem hlt, by rw [hq]; simp⟩, Bool.and_false])
        have HALL := hide hall
        generalize ps[k].1.by_.length = n2 at c2 HT HF
        generalize ps[k].1.ks.length = n3 at c3 HT HF
        clear he hrg e2 e3 hall
        by_cases h2 : n2 ≤ 100
        · by_cases h3 : n3 ≤ 100
          · go_wp2
            exact ⟨⟨k + 1, by omega, by go_num, by trivial, by rw [HT.out]; simp [h2, h3]⟩, by simp [iv]; omega⟩
          · go_wp2
            all_goals first | (exfalso; omega) | (go_ret; exact ⟨by rw [HF.out (by simp; omega)]; rfl, rfl⟩)
        · go_wp2
          all_goals first | (exfalso; omega) | (go_ret; exact ⟨by rw [HF.out (by simp; omega)]; rfl, rfl⟩)
      · have HT : Hid (liB ps = true) := hide (by unfold liB; rw [decide_eq_true h60, Bool.true_and]; rwa [List.take_of_length_le (by omega)] at hall)
        clear hall
        go_wp2
        go_ret
        exact ⟨by rw [HT.out]; rfl, rfl⟩
  · have HF : Hid (liB ps = false) := hide (by unfold liB; rw [decide_eq_false h60, Bool.false_and])
    go_enter Tryd.func4, Tryd.ntmps4
    go_wp2
    go_ret
    exact ⟨by rw [HF.out]; rfl, rfl⟩
theorem liB_is {ps : List Ap} (h : liB ps = true) : ps.length ≤ 60 ∧ ∀ p ∈ ps, p.1.by_.length ≤ 100 ∧ p.1.ks.length ≤ 100 := by
  unfold liB at h
  simp only [Bool.and_eq_true, decide_eq_true_eq, List.all_eq_true] at h
  exact h
end Go.Proofs.YtpmpmdlmcpakiaaDoor
