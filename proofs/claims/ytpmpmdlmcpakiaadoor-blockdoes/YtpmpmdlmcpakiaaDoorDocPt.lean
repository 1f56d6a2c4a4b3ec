/-
  BLOCKS BEHIND A WRITE, AS THE DOCUMENT MAKES THEM (castellanref08.put): a new row, in order. Condition: the numbers rise, fewer than ninety thousand.
-/
import Derived.Test.YtpmpmdlmcpakiaaDoorDocV
namespace Go.Proofs.YtpmpmdlmcpakiaaDoor
open Go.RowKit

/-- What is put, from there on. -/
def putQ (a : Int) (x : Ce) : Bool → List Ce → List Ce
  | dn, [] => if dn then [] else [x]
  | dn, q :: r => (if dn = false ∧ a ≤ q.1 then [x] else []) ++ ((if q.1 = a then [] else [q]) ++ putQ a x (dn || decide (a ≤ q.1)) r)
theorem putQ_mem {a : Int} {x q : Ce} : ∀ {l : List Ce} {dn : Bool}, q ∈ putQ a x dn l → (q = x ∧ dn = false) ∨ q ∈ l
  | [], dn, h => by
    unfold putQ at h
    cases dn
    · simp at h; exact .inl ⟨h, rfl⟩
    · simp at h
  | p :: r, dn, h => by
    unfold putQ at h
    rcases List.mem_append.1 h with h | h
    · split at h
      · rename_i hc
        simp at h; exact .inl ⟨h, hc.1⟩
      · simp at h
    · rcases List.mem_append.1 h with h | h
      · split at h
        · simp at h
        · simp at h; right; rw [h]; exact List.mem_cons_self
      · rcases putQ_mem h with ⟨e, hd⟩ | e
        · exact .inl ⟨e, by cases dn; rfl; simp at hd⟩
        · exact .inr (List.mem_cons_of_mem _ e)
theorem putQ_done (a : Int) (x : Ce) : ∀ l : List Ce, csOf (putQ a x true l) = delM a (csOf l)
  | [] => by simp [putQ, csOf, delM]
  | q :: r => by
    have ih := putQ_done a x r
    unfold putQ
    simp only [Bool.true_or]
    rw [if_neg (by simp), List.nil_append, csOf_app, ih]
    by_cases e : q.1 = a
    · rw [if_pos e]; simp [csOf, delM, e]
    · rw [if_neg e]; simp [csOf, delM, e]
theorem putQ_ins (a : Int) (g : Nat) (b : List Int) : ∀ l : List Ce, Asc (csOf l) → csOf (putQ a (a, g, b) false l) = insM a b (csOf l)
  | [], _ => by simp [putQ, csOf, insM]
  | q :: r, h => by
    have h' : Asc (csOf r) := (List.pairwise_cons.1 h).2
    have hlt : ∀ p ∈ csOf r, q.1 < p.1 := (List.pairwise_cons.1 h).1
    have ih := putQ_ins a g b r h'
    have hd : a ≤ q.1 → delM a (csOf r) = csOf r := fun hle => del_none h' (look_low (fun p hp => by have := hlt p hp; omega))
    unfold putQ
    simp only [Bool.false_or]
    rw [csOf_app, csOf_app]
    show _ = insM a b ((q.1, q.2.2) :: csOf r)
    unfold insM
    by_cases h1 : a < q.1
    · rw [if_pos ⟨trivial, by omega⟩, if_neg (by omega), if_pos h1, decide_eq_true (show a ≤ q.1 by omega), putQ_done, hd (by omega)]
      rfl
    · by_cases h2 : a = q.1
      · rw [if_pos ⟨trivial, by omega⟩, if_pos h2.symm, if_neg h1, if_pos h2, decide_eq_true (show a ≤ q.1 by omega), putQ_done, hd (by omega)]
        rfl
      · rw [if_neg (by omega), if_neg (by omega), if_neg h1, if_neg h2, decide_eq_false (show ¬ a ≤ q.1 by omega), ih]
        rfl
theorem putQ_stS (w : Wr) (g : Nat) (l : List Ce) (h : Asc (csOf l)) : csOf (putQ w.at_ (w.at_, g, w.by_) w.fr l) = stS (csOf l) w := by
  unfold stS
  cases hf : w.fr
  · rw [if_neg (by simp)]; exact putQ_ins _ _ _ l h
  · rw [if_pos rfl]; exact putQ_done _ _ l
theorem putQ_len (a : Int) (x : Ce) : ∀ (l : List Ce) (dn : Bool), (putQ a x dn l).length ≤ l.length + (if dn then 0 else 1)
  | [], dn => by cases dn <;> simp [putQ]
  | q :: r, dn => by
    have ih := putQ_len a x r (dn || decide (a ≤ q.1))
    unfold putQ
    rw [List.length_append, List.length_append, List.length_cons]
    cases dn <;> by_cases h : a ≤ q.1 <;> by_cases e : q.1 = a <;> simp [h, e] at ih ⊢ <;> omega
theorem run_append_cq (w : World) (ty : TypeId) (B : Nat) (v : Value) (os : List Ce) (hown : w.ownsRow B 68 2 v os.length (ces os)) (hB : B ≤ w.heap.size) (ad : Addr) (c : Nat) (q : Ce) (hnews : ∀ j u, (cec q)[j]? = some u → w.cell? (ad.add j) = some u) (hn : os.length + 1 ≤ 100000) :
    ∃ v' w', (Builtin.append_ #[32, 32] ty #[v, .slice (some ad) 1 c]).run Tryd.prog w = .ok v' w' ∧ w'.ownsRow B 68 2 v' (os ++ [q]).length (ces (os ++ [q])) ∧ w.grownBy w' v.ownBlock := by
  obtain ⟨i0, hi, hz0, hz1, hz2⟩ := info_parts infoCe
  obtain ⟨v', w', e, ho, hg, _, hb⟩ := run_append_own_at (P := Tryd.prog) w B 32 ty 68 i0 (.agg #[.int .i64 0, .slice none 0 0]) 2 32 Tryd.underlying32 hi hz0 hz1 hz2 rfl (by decide) v os.length (ces os) hown ad 1 c (cec q) rfl hnews (cec_one q) (by unfold maxLen; omega) (by omega) hB
  exact ⟨v', w', e, by rw [ces_app, ces_one, List.length_append]; exact ho, hg⟩
theorem wpList_appQ {ops : Array Oper} {rest : List Oper} {o : Oper} {a : Act} {Q : Exit → Act → World → Prop} (w : World) (hg : o.guard = none) (y z : Operand) (ho : o.op = .call { callee := .builtin .append, args := #[y, z], argTypes := #[32, 32] }) (B : Nat) (v : Value) (os : List Ce) (hy : a.eval y = v) (hown : w.ownsRow B 68 2 v os.length (ces os)) (hB : B ≤ w.heap.size) (ad : Addr) (c : Nat) (q : Ce) (hz : a.eval z = .slice (some ad) 1 c) (hnews : ∀ j u, (cec q)[j]? = some u → w.cell? (ad.add j) = some u) (hn : os.length + 1 ≤ 100000)
    (h : ∀ v' w', w'.ownsRow B 68 2 v' (os ++ [q]).length (ces (os ++ [q])) → w.grownBy w' v.ownBlock → wpList Tryd.prog ops Q rest (a.put o.dst v') w') : wpList Tryd.prog ops Q (o :: rest) a w := by
  refine wpList_plain hg fun K hK => ?_
  obtain ⟨v', w', hrun, q1, q2⟩ := run_append_cq w o.type B v os hown hB ad c q hnews hn
  unfold Oper.wp
  simp [execOp, ho, resolve, invoke, builtin, hy, hz, hrun, Result.andThen]
  exact hK _ _ (h v' w' q1 q2)
theorem Cl.of_own {W : World} {P : Nat → Prop} {B : Nat} {v : Value} {os : List Ce} (h : W.ownsRow B 68 2 v os.length (ces os)) (ha : ∀ q ∈ os, P q.2.1 ∧ Au W q.2.1 q.2.2) : Cl W (fun k => P k ∨ B ≤ k) v os := by
  refine ⟨?_, fun h0 => ?_, fun q hq => ⟨.inl (ha q hq).1, (ha q hq).2⟩⟩
  · rcases h.2 with ⟨e, h0⟩ | ⟨g, cap, cur, e, _⟩
    · exact ⟨none, 0, by rw [e, h0]⟩
    · exact ⟨_, _, e⟩
  · rcases h.2 with ⟨_, h1⟩ | ⟨g, cap, cur, e, a2, a3, a4, a5, a6, a7⟩
    · omega
    · refine ⟨g, 0, cap, e, .inr a2, fun j u hu => ?_⟩
      have hj : j < (ces os).length := (List.getElem?_eq_some_iff.1 hu).1
      rw [← a7] at hu
      rw [ces_len] at hj
      rw [List.getElem?_take_of_lt (by omega)] at hu
      simp only [World.cell?, a3, Nat.zero_add]
      simpa using hu
theorem putQ_step {a : Int} {x q : Ce} {d : Bool} {os r T : List Ce} (h : os ++ putQ a x d (q :: r) = T) : (os ++ (if d = false ∧ a ≤ q.1 then [x] else []) ++ (if q.1 = a then [] else [q])) ++ putQ a x (d || decide (a ≤ q.1)) r = T := by
  rw [← h, putQ]
  simp only [List.append_assoc]
theorem row_form {W : World} {B n : Nat} {e : TypeId} {v : Value} {xs : List Value} {m : Nat} (h : W.ownsRow B e m v n xs) : ∃ a c, v = .slice a n c := by
  rcases h.2 with ⟨q, h0⟩ | ⟨g, cap, cur, q, _⟩
  · exact ⟨none, 0, by rw [q, h0]⟩
  · exact ⟨_, _, q⟩
theorem dw_false {a : Int} {fr : Bool} {b : List Int} {g vn vc : Nat} {va : Option Addr} (h : dwv (⟨a, fr, b⟩, g) = .slice va vn vc) (hf : fr = false) : va = some ⟨g, 0, none⟩ ∧ vn = 64 ∧ vc = 64 := by
  subst hf
  simp only [dwv, Bool.false_eq_true, if_false] at h
  cases h
  exact ⟨rfl, rfl, rfl⟩
set_option maxRecDepth 100000 in
set_option maxHeartbeats 8000000 in
theorem rput_any {P : Nat → Prop} (v : Value) (qs : List Ce) (q : Dw) (w : World) (h : Cl w P v qs) (hq : q.1.fr = false → P q.2 ∧ Au w q.2 q.1.by_) (hn : qs.length < 90000) : Calls Tryd.prog 46 #[v, .agg (dwc q).toArray] w fun e w' => ∃ v', e = .returned v' ∧ Cl w' (fun k => P k ∨ w.heap.size ≤ k) v' (putQ q.1.at_ (q.1.at_, q.2, q.1.by_) q.1.fr qs) ∧ Below w.heap.size w w' := by
  obtain ⟨a0, c, rfl⟩ := h.fm
  obtain ⟨⟨a, fr, b⟩, g⟩ := q
  have HC := hide h
  have HQ := hide hq
  simp only [dwc] at *
  obtain ⟨va, vn, vc, hv⟩ := dwv_form (⟨a, fr, b⟩, g)
  rw [hv]
  have HV := hide hv
  clear h hq hv
  go_enter Tryd.func46, Tryd.ntmps46
  go_wp2
  have hal : Below w.heap.size w (w.alloc (.cells #[.int .i64 a, .bool fr, .slice va vn vc] 76)) := (Below.refl _ _).alloc (Nat.le_refl _) _
  have hb0 : (w.alloc (.cells #[.int .i64 a, .bool fr, .slice va vn vc] 76)).cell? ⟨w.heap.size, 0, none⟩ = some (.int .i64 a) := by simp
  have hb2 : (w.alloc (.cells #[.int .i64 a, .bool fr, .slice va vn vc] 76)).cell? ⟨w.heap.size, 2, none⟩ = some (.slice va vn vc) := by simp
  have HAL := hide hal
  have HB0 := hide hb0
  have HB2 := hide hb2
  have HCV := hide (HC.out.below hal)
  generalize w.alloc (.cells #[.int .i64 a, .bool fr, .slice va vn vc] 76) = V at HAL HB0 HB2 HCV ⊢
  clear hal hb0 hb2
  go_loopw [5, 6, 7] (fun v dn i W => ∃ (k : Nat) (os : List Ce) (d : Bool), k ≤ qs.length ∧ i = .int .i64 k ∧ dn = .bool d ∧ W.ownsRow V.heap.size 68 2 v os.length (ces os) ∧ os ++ putQ a (a, g, b) d (qs.drop k) = putQ a (a, g, b) fr qs ∧ (fr = true → d = true) ∧ Below V.heap.size V W) (fun _ _ i _ => qs.length - (iv i).toNat)
  case atStart => exact ⟨0, [], fr, Nat.zero_le _, rfl, rfl, World.ownsRow_nil _ _ _ _, rfl, fun e => e, Below.refl _ _⟩
  case round =>
    obtain ⟨k, os, d, hk, rfl, rfl, ho, hp, hd, hb⟩ := hrel
    have HOL : Hid (os.length + 2 ≤ 100000) := hide (by
      have h1 := congrArg List.length hp
      have h2 := putQ_len a (a, g, b) qs fr
      rw [List.length_append] at h1
      split at h2 <;> omega)
    obtain ⟨oa, oc, rfl⟩ := row_form ho
    have HO := hide ho
    have HP := hide hp
    have HD := hide hd
    have HB := hide hb
    clear ho hp hd hb
    by_cases hlt : k < qs.length
    · obtain ⟨lb, lo, rfl, c0, c1⟩ := Cl.at HCV.out hlt
      have HT := hide (putQ_step (T := putQ a (a, g, b) fr qs) (by rw [← List.drop_eq_getElem_cons hlt]; exact HP.out))
      have HF : Hid (∀ W, Below V.heap.size V W → W.cell? ⟨lb, lo + k * 2, none⟩ = some (.int .i64 (qs[k]).1) ∧ W.cell? ⟨lb, lo + k * 2 + 1, none⟩ = some (.slice (some ⟨(qs[k]).2.1, 0, none⟩) 64 64) ∧ W.cell? ⟨w.heap.size, 0, none⟩ = some (.int .i64 a) ∧ W.cell? ⟨w.heap.size, 2, none⟩ = some (.slice va vn vc)) := hide (fun W hW => ⟨(hW.cell (p := ⟨lb, lo + k * 2, none⟩) (cell_block c0)).trans c0, (hW.cell (p := ⟨lb, lo + k * 2 + 1, none⟩) (cell_block c1)).trans c1, (hW.cell (p := ⟨w.heap.size, 0, none⟩) (cell_block HB0.out)).trans HB0.out, (hW.cell (p := ⟨w.heap.size, 2, none⟩) (cell_block HB2.out)).trans HB2.out⟩)
      clear c0 c1
      generalize qs[k] = q at HF HT
      obtain ⟨qa, qg, qb⟩ := q
      simp only at HF HT
      cases d
      · obtain ⟨rfl, rfl, rfl⟩ := dw_false HV.out (by cases fr <;> first | rfl | exact absurd (HD.out rfl) (by decide))
        rcases Int.lt_trichotomy a qa with h1 | h1 | h1
        · have hge : decide (a ≤ qa) = true := decide_eq_true (by omega)
          have hqz : (qa == a) = false := beq_eq_false_iff_ne.2 (by omega)
          obtain ⟨x0, x1, x2, x3⟩ := HF.out _ HB.out
          go_wp2_with fail
          go_quiet (fail)
          clear x0 x1 x2 x3
          have hbq := below_drewN HB.out nq
          have hoq := owns_below HO.out (below_drewN (Below.refl _ _) nq)
          generalize wr.drewN nq = X at hbq hoq ⊢
          clear HO HB
          have HB1 := hide hbq
          have HO1 := hide hoq
          clear hbq hoq
          have HL1 : Hid (os.length + 1 ≤ 100000) := hide (by have := HOL.out; omega)
          obtain ⟨x0, x1, x2, x3⟩ := HF.out _ HB1.out
          have hal : ∀ o, Below X.heap.size X (X.alloc o) := fun o => (Below.refl _ _).alloc (Nat.le_refl _) o
          go_wp2_with (first | (at_builtin; refine wpList_appQ _ rfl _ _ rfl V.heap.size _ os rfl (owns_below HO1.out (hal _)) (Nat.le_trans HB1.out.size (hal _).size) ⟨X.heap.size, 0, none⟩ 1 (a, g, b) rfl (range_newsW (range_newW X (cec (a, g, b)) _)) HL1.out ?_; intro v' W7 hww hgr; have HO2 := hide hww; have HB2' := hide (((HB1.out.trans ((hal _).mono HB1.out.size)).grown hgr (HB1.out.trans ((hal (.cells (cec (a, g, b)).toArray 68)).mono HB1.out.size)).size (fun j e => (HO1.out.lt j e).1))); clear hww hgr))
          clear x0 x1 x2 x3 hal HO1 HB1 HL1
          obtain ⟨oa', oc', rfl⟩ := row_form HO2.out
          obtain ⟨x0, x1, x2, x3⟩ := HF.out _ HB2'.out
          go_wp2_with fail
          go_quiet (fail)
          clear x0 x1 x2 x3
          have hbq := below_drewN HB2'.out nq
          have hoq := owns_below HO2.out (below_drewN (Below.refl _ _) nq)
          generalize W7.drewN nq = X at hbq hoq ⊢
          clear HO2 HB2'
          have HB1 := hide hbq
          have HO1 := hide hoq
          clear hbq hoq
          have HL1 : Hid ((os ++ [(a, g, b)]).length + 1 ≤ 100000) := hide (by rw [List.length_append]; have := HOL.out; simp only [List.length_cons, List.length_nil]; omega)
          obtain ⟨x0, x1, x2, x3⟩ := HF.out _ HB1.out
          have hal : ∀ o, Below X.heap.size X (X.alloc o) := fun o => (Below.refl _ _).alloc (Nat.le_refl _) o
          go_wp2_with (first | (at_builtin; refine wpList_appQ _ rfl _ _ rfl V.heap.size _ (os ++ [(a, g, b)]) rfl (owns_below HO1.out (hal _)) (Nat.le_trans HB1.out.size (hal _).size) ⟨X.heap.size, 0, none⟩ 1 (qa, qg, qb) rfl (range_newsW (range_newW X (cec (qa, qg, qb)) _)) HL1.out ?_; intro v' W7 hww hgr; have HO2 := hide hww; have HB2' := hide (((HB1.out.trans ((hal _).mono HB1.out.size)).grown hgr (HB1.out.trans ((hal (.cells (cec (qa, qg, qb)).toArray 68)).mono HB1.out.size)).size (fun j e => (HO1.out.lt j e).1))); clear hww hgr))
          exact ⟨⟨k + 1, (os ++ [(a, g, b)]) ++ [(qa, qg, qb)], _, by omega, by go_num, rfl, HO2.out, by rw [← HT.out]; simp [show a ≤ qa by omega, show ¬ qa = a by omega], fun _ => rfl, HB2'.out⟩, by simp [iv]; omega⟩
        · subst h1
          have hge : decide (a ≤ a) = true := decide_eq_true (by omega)
          obtain ⟨x0, x1, x2, x3⟩ := HF.out _ HB.out
          go_wp2_with fail
          go_quiet (fail)
          clear x0 x1 x2 x3
          have hbq := below_drewN HB.out nq
          have hoq := owns_below HO.out (below_drewN (Below.refl _ _) nq)
          generalize wr.drewN nq = X at hbq hoq ⊢
          clear HO HB
          have HB1 := hide hbq
          have HO1 := hide hoq
          clear hbq hoq
          have HL1 : Hid (os.length + 1 ≤ 100000) := hide (by have := HOL.out; omega)
          obtain ⟨x0, x1, x2, x3⟩ := HF.out _ HB1.out
          have hal : ∀ o, Below X.heap.size X (X.alloc o) := fun o => (Below.refl _ _).alloc (Nat.le_refl _) o
          go_wp2_with (first | (at_builtin; refine wpList_appQ _ rfl _ _ rfl V.heap.size _ os rfl (owns_below HO1.out (hal _)) (Nat.le_trans HB1.out.size (hal _).size) ⟨X.heap.size, 0, none⟩ 1 (a, g, b) rfl (range_newsW (range_newW X (cec (a, g, b)) _)) HL1.out ?_; intro v' W7 hww hgr; have HO2 := hide hww; have HB2' := hide (((HB1.out.trans ((hal _).mono HB1.out.size)).grown hgr (HB1.out.trans ((hal (.cells (cec (a, g, b)).toArray 68)).mono HB1.out.size)).size (fun j e => (HO1.out.lt j e).1))); clear hww hgr))
          clear x0 x1 x2 x3 hal HO1 HB1 HL1
          obtain ⟨oa', oc', rfl⟩ := row_form HO2.out
          obtain ⟨x0, x1, x2, x3⟩ := HF.out _ HB2'.out
          go_wp2_with fail
          go_quiet (fail)
          clear x0 x1 x2 x3
          have hbq := below_drewN HB2'.out nq
          have hoq := owns_below HO2.out (below_drewN (Below.refl _ _) nq)
          generalize W7.drewN nq = X at hbq hoq ⊢
          clear HO2 HB2'
          have HB1 := hide hbq
          have HO1 := hide hoq
          clear hbq hoq
          have HL1 : Hid ((os ++ [(a, g, b)]).length + 1 ≤ 100000) := hide (by rw [List.length_append]; have := HOL.out; simp only [List.length_cons, List.length_nil]; omega)
          go_wp2
          exact ⟨⟨k + 1, (os ++ [(a, g, b)]), _, by omega, by go_num, rfl, HO1.out, by rw [← HT.out]; simp, fun _ => rfl, HB1.out⟩, by simp [iv]; omega⟩
        · have hge : decide (a ≤ qa) = false := decide_eq_false (by omega)
          have hqz : (qa == a) = false := beq_eq_false_iff_ne.2 (by omega)
          obtain ⟨x0, x1, x2, x3⟩ := HF.out _ HB.out
          go_wp2_with fail
          go_quiet (fail)
          clear x0 x1 x2 x3
          have hbq := below_drewN HB.out nq
          have hoq := owns_below HO.out (below_drewN (Below.refl _ _) nq)
          generalize wr.drewN nq = X at hbq hoq ⊢
          clear HO HB
          have HB1 := hide hbq
          have HO1 := hide hoq
          clear hbq hoq
          have HL1 : Hid (os.length + 1 ≤ 100000) := hide (by have := HOL.out; omega)
          obtain ⟨x0, x1, x2, x3⟩ := HF.out _ HB1.out
          go_wp2_with fail
          go_quiet (fail)
          clear x0 x1 x2 x3
          have hbq := below_drewN HB1.out nq
          have hoq := owns_below HO1.out (below_drewN (Below.refl _ _) nq)
          generalize X.drewN nq = X2 at hbq hoq ⊢
          clear HO1 HB1
          have HB3 := hide hbq
          have HO3 := hide hoq
          clear hbq hoq
          have HB1 := HB3
          have HO1 := HO3
          clear HB3 HO3
          skip
          obtain ⟨x0, x1, x2, x3⟩ := HF.out _ HB1.out
          have hal : ∀ o, Below X2.heap.size X2 (X2.alloc o) := fun o => (Below.refl _ _).alloc (Nat.le_refl _) o
          go_wp2_with (first | (at_builtin; refine wpList_appQ _ rfl _ _ rfl V.heap.size _ os rfl (owns_below HO1.out (hal _)) (Nat.le_trans HB1.out.size (hal _).size) ⟨X2.heap.size, 0, none⟩ 1 (qa, qg, qb) rfl (range_newsW (range_newW X2 (cec (qa, qg, qb)) _)) HL1.out ?_; intro v' W7 hww hgr; have HO2 := hide hww; have HB2' := hide (((HB1.out.trans ((hal _).mono HB1.out.size)).grown hgr (HB1.out.trans ((hal (.cells (cec (qa, qg, qb)).toArray 68)).mono HB1.out.size)).size (fun j e => (HO1.out.lt j e).1))); clear hww hgr))
          exact ⟨⟨k + 1, os ++ [(qa, qg, qb)], _, by omega, by go_num, rfl, HO2.out, by rw [← HT.out]; simp [show ¬ a ≤ qa by omega, show ¬ qa = a by omega], HD.out, HB2'.out⟩, by simp [iv]; omega⟩
      · rcases Int.lt_trichotomy a qa with h1 | h1 | h1
        · have hge : decide (a ≤ qa) = true := decide_eq_true (by omega)
          have hqz : (qa == a) = false := beq_eq_false_iff_ne.2 (by omega)
          obtain ⟨x0, x1, x2, x3⟩ := HF.out _ HB.out
          go_wp2_with fail
          go_quiet (fail)
          clear x0 x1 x2 x3
          have hbq := below_drewN HB.out nq
          have hoq := owns_below HO.out (below_drewN (Below.refl _ _) nq)
          generalize wr.drewN nq = X at hbq hoq ⊢
          clear HO HB
          have HB1 := hide hbq
          have HO1 := hide hoq
          clear hbq hoq
          have HL1 : Hid (os.length + 1 ≤ 100000) := hide (by have := HOL.out; omega)
          obtain ⟨x0, x1, x2, x3⟩ := HF.out _ HB1.out
          go_wp2_with fail
          go_quiet (fail)
          clear x0 x1 x2 x3
          have hbq := below_drewN HB1.out nq
          have hoq := owns_below HO1.out (below_drewN (Below.refl _ _) nq)
          generalize X.drewN nq = X2 at hbq hoq ⊢
          clear HO1 HB1
          have HB3 := hide hbq
          have HO3 := hide hoq
          clear hbq hoq
          have HB1 := HB3
          have HO1 := HO3
          clear HB3 HO3
          skip
          obtain ⟨x0, x1, x2, x3⟩ := HF.out _ HB1.out
          have hal : ∀ o, Below X2.heap.size X2 (X2.alloc o) := fun o => (Below.refl _ _).alloc (Nat.le_refl _) o
          go_wp2_with (first | (at_builtin; refine wpList_appQ _ rfl _ _ rfl V.heap.size _ os rfl (owns_below HO1.out (hal _)) (Nat.le_trans HB1.out.size (hal _).size) ⟨X2.heap.size, 0, none⟩ 1 (qa, qg, qb) rfl (range_newsW (range_newW X2 (cec (qa, qg, qb)) _)) HL1.out ?_; intro v' W7 hww hgr; have HO2 := hide hww; have HB2' := hide (((HB1.out.trans ((hal _).mono HB1.out.size)).grown hgr (HB1.out.trans ((hal (.cells (cec (qa, qg, qb)).toArray 68)).mono HB1.out.size)).size (fun j e => (HO1.out.lt j e).1))); clear hww hgr))
          exact ⟨⟨k + 1, os ++ [(qa, qg, qb)], _, by omega, by go_num, rfl, HO2.out, by rw [← HT.out]; simp [show a ≤ qa by omega, show ¬ qa = a by omega], fun _ => rfl, HB2'.out⟩, by simp [iv]; omega⟩
        · subst h1
          have hge : decide (a ≤ a) = true := decide_eq_true (by omega)
          obtain ⟨x0, x1, x2, x3⟩ := HF.out _ HB.out
          go_wp2_with fail
          go_quiet (fail)
          clear x0 x1 x2 x3
          have hbq := below_drewN HB.out nq
          have hoq := owns_below HO.out (below_drewN (Below.refl _ _) nq)
          generalize wr.drewN nq = X at hbq hoq ⊢
          clear HO HB
          have HB1 := hide hbq
          have HO1 := hide hoq
          clear hbq hoq
          have HL1 : Hid (os.length + 1 ≤ 100000) := hide (by have := HOL.out; omega)
          obtain ⟨x0, x1, x2, x3⟩ := HF.out _ HB1.out
          go_wp2_with fail
          go_quiet (fail)
          clear x0 x1 x2 x3
          have hbq := below_drewN HB1.out nq
          have hoq := owns_below HO1.out (below_drewN (Below.refl _ _) nq)
          generalize X.drewN nq = X2 at hbq hoq ⊢
          clear HO1 HB1
          have HB3 := hide hbq
          have HO3 := hide hoq
          clear hbq hoq
          have HB1 := HB3
          have HO1 := HO3
          clear HB3 HO3
          skip
          go_wp2
          exact ⟨⟨k + 1, os, _, by omega, by go_num, rfl, HO1.out, by rw [← HT.out]; simp, fun _ => rfl, HB1.out⟩, by simp [iv]; omega⟩
        · have hge : decide (a ≤ qa) = false := decide_eq_false (by omega)
          have hqz : (qa == a) = false := beq_eq_false_iff_ne.2 (by omega)
          obtain ⟨x0, x1, x2, x3⟩ := HF.out _ HB.out
          go_wp2_with fail
          go_quiet (fail)
          clear x0 x1 x2 x3
          have hbq := below_drewN HB.out nq
          have hoq := owns_below HO.out (below_drewN (Below.refl _ _) nq)
          generalize wr.drewN nq = X at hbq hoq ⊢
          clear HO HB
          have HB1 := hide hbq
          have HO1 := hide hoq
          clear hbq hoq
          have HL1 : Hid (os.length + 1 ≤ 100000) := hide (by have := HOL.out; omega)
          obtain ⟨x0, x1, x2, x3⟩ := HF.out _ HB1.out
          go_wp2_with fail
          go_quiet (fail)
          clear x0 x1 x2 x3
          have hbq := below_drewN HB1.out nq
          have hoq := owns_below HO1.out (below_drewN (Below.refl _ _) nq)
          generalize X.drewN nq = X2 at hbq hoq ⊢
          clear HO1 HB1
          have HB3 := hide hbq
          have HO3 := hide hoq
          clear hbq hoq
          have HB1 := HB3
          have HO1 := HO3
          clear HB3 HO3
          skip
          obtain ⟨x0, x1, x2, x3⟩ := HF.out _ HB1.out
          have hal : ∀ o, Below X2.heap.size X2 (X2.alloc o) := fun o => (Below.refl _ _).alloc (Nat.le_refl _) o
          go_wp2_with (first | (at_builtin; refine wpList_appQ _ rfl _ _ rfl V.heap.size _ os rfl (owns_below HO1.out (hal _)) (Nat.le_trans HB1.out.size (hal _).size) ⟨X2.heap.size, 0, none⟩ 1 (qa, qg, qb) rfl (range_newsW (range_newW X2 (cec (qa, qg, qb)) _)) HL1.out ?_; intro v' W7 hww hgr; have HO2 := hide hww; have HB2' := hide (((HB1.out.trans ((hal _).mono HB1.out.size)).grown hgr (HB1.out.trans ((hal (.cells (cec (qa, qg, qb)).toArray 68)).mono HB1.out.size)).size (fun j e => (HO1.out.lt j e).1))); clear hww hgr))
          exact ⟨⟨k + 1, os ++ [(qa, qg, qb)], _, by omega, by go_num, rfl, HO2.out, by rw [← HT.out]; simp [show ¬ a ≤ qa by omega, show ¬ qa = a by omega], fun _ => rfl, HB2'.out⟩, by simp [iv]; omega⟩
    · obtain rfl : k = qs.length := by omega
      have HE : Hid (os ++ (if d then [] else [(a, g, b)]) = putQ a (a, g, b) fr qs) := hide (by rw [← HP.out, List.drop_of_length_le (Nat.le_refl _), putQ])
      have HQV : Hid (∀ W, Below V.heap.size V W → ∀ q ∈ putQ a (a, g, b) fr qs, P q.2.1 ∧ Au W q.2.1 q.2.2) := hide (fun W hW q hq => by
        rcases putQ_mem hq with ⟨rfl, hf⟩ | hq
        · exact ⟨(HQ.out hf).1, ((HQ.out hf).2.keep (HAL.out.block _ (HQ.out hf).2.lt)).keep (hW.block _ (Nat.lt_of_lt_of_le (HQ.out hf).2.lt HAL.out.size))⟩
        · exact ⟨(HCV.out.au q hq).1, (HCV.out.au q hq).2.keep (hW.block _ (HCV.out.au q hq).2.lt)⟩)
      have HPM : Hid (∀ (W : World) (v : Value), Cl W (fun k => P k ∨ V.heap.size ≤ k) v (putQ a (a, g, b) fr qs) → Cl W (fun k => P k ∨ w.heap.size ≤ k) v (putQ a (a, g, b) fr qs)) := hide (fun W v h => h.keep (fun k q _ => q.imp id (Nat.le_trans HAL.out.size)) (fun _ _ _ => rfl))
      cases d
      · obtain ⟨rfl, rfl, rfl⟩ := dw_false HV.out (by cases fr <;> first | rfl | exact absurd (HD.out rfl) (by decide))
        have x2 := (HB.out.cell (p := ⟨w.heap.size, 0, none⟩) (cell_block HB0.out)).trans HB0.out
        have x3 := (HB.out.cell (p := ⟨w.heap.size, 2, none⟩) (cell_block HB2.out)).trans HB2.out
        have HL1 : Hid (os.length + 1 ≤ 100000) := hide (by have := HOL.out; omega)
        have HB1 := HB
        have HO1 := HO
        clear HB HO
        have hal : ∀ o, Below wr.heap.size wr (wr.alloc o) := fun o => (Below.refl _ _).alloc (Nat.le_refl _) o
        go_wp2_with (first | (at_builtin; refine wpList_appQ _ rfl _ _ rfl V.heap.size _ os rfl (owns_below HO1.out (hal _)) (Nat.le_trans HB1.out.size (hal _).size) ⟨wr.heap.size, 0, none⟩ 1 (a, g, b) rfl (range_newsW (range_newW wr (cec (a, g, b)) _)) HL1.out ?_; intro v' W7 hww hgr; have HO2 := hide hww; have HB2' := hide (((HB1.out.trans ((hal _).mono HB1.out.size)).grown hgr (HB1.out.trans ((hal (.cells (cec (a, g, b)).toArray 68)).mono HB1.out.size)).size (fun j e => (HO1.out.lt j e).1))); clear hww hgr))
        go_ret
        refine ⟨_, rfl, HPM.out _ _ ?_, HAL.out.trans (HB2'.out.mono HAL.out.size)⟩
        have he : os ++ [(a, g, b)] = putQ a (a, g, b) fr qs := by rw [← HE.out]; rfl
        have ho := HO2.out
        rw [he] at ho
        exact Cl.of_own ho (HQV.out _ HB2'.out)
      · go_wp2
        go_ret
        have he : os = putQ a (a, g, b) fr qs := by rw [← HE.out]; simp
        have hcl : Cl wr (fun k => P k ∨ V.heap.size ≤ k) (.slice oa os.length oc) (putQ a (a, g, b) fr qs) := by
          have := Cl.of_own HO.out (P := P) (fun q hq => HQV.out _ HB.out q (by rw [← he]; exact hq))
          rwa [he] at this ⊢
        exact ⟨_, rfl, HPM.out _ _ hcl, HAL.out.trans (HB.out.mono HAL.out.size)⟩
end Go.Proofs.YtpmpmdlmcpakiaaDoor
