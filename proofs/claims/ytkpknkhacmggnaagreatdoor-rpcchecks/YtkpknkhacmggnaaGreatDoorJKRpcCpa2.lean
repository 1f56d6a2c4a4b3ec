/-
  A MESSAGE IN NEW MEMORY (rpc.Copy): the same message. Conditions: its slices' cells hold what they hold, the records' rows are not too long.
  WHETHER TWO MESSAGES ARE THE SAME, AND NO MORE THAN IS WAITED FOR, BY THE DOCUMENT (castellanref06.All, castellanref07.Same, castellanref07.Short). Conditions: their slices' cells hold what they hold, the records' rows are not too long.
-/
import Derived.Test.YtkpknkhacmggnaaGreatDoorJKRpcRfa2
import Derived.Test.YtkpknkhacmggnaaGreatDoorJKRpcSuba4
import Derived.Test.YtkpknkhacmggnaaGreatDoorJKRpcSea2
import Derived.Test.YtkpknkhacmggnaaGreatDoorJKWnuma5
namespace Go.Proofs.YtkpknkhacmggnaaGreatDoor
open Go.RowKit

theorem nilS_yes (n cap : Nat) (w : World) : (binOp .eql 23 (.slice none n cap) (.slice none 0 0)).run Tryz.prog w = .ok (.bool true) w := by kernel_rfl
theorem nilS_no (a : Addr) (n cap : Nat) (w : World) : (binOp .eql 23 (.slice (some a) n cap) (.slice none 0 0)).run Tryz.prog w = .ok (.bool false) w := by kernel_rfl
theorem rw_none (w : World) : Rw w.heap.size (w.alloc (.cells #[] 5)) (.slice (some ⟨w.heap.size, 0, none⟩) 0 0) 0 [] :=
  ⟨Nat.le_refl _, Nat.zero_le _, .inr ⟨w.heap.size, rfl, Nat.le_refl _, Array.getElem?_push_size⟩⟩
set_option maxRecDepth 100000 in
set_option maxHeartbeats 4000000 in
theorem bclone_nil (cap : Nat) (w : World) : Calls Tryz.prog 42 #[.slice none 0 cap] w fun e w' => e = .returned (.slice none 0 0) ∧ Below w.heap.size w w' := by
  have e1 := nilS_yes
  go_enter Tryz.func42, Tryz.ntmps42
  go_wp2
  go_ret
  exact ⟨rfl, Below.refl _ _⟩
set_option maxRecDepth 100000 in
set_option maxHeartbeats 4000000 in
theorem bclone_some (a : Addr) (cap : Nat) (l : List Int) (w : World) (hl : l.length ≤ 100000) (hv : Sl bc w (.slice (some a) l.length cap) l) :
    Calls Tryz.prog 42 #[.slice (some a) l.length cap] w fun e w' => ∃ v, e = .returned v ∧ w'.ownsRow w.heap.size 5 1 v l.length (bv l) ∧ Below w.heap.size w w' := by
  have e2 := nilS_no
  have HV := hide (hv.below ((Below.refl _ _).alloc (Nat.le_refl _) (.cells #[] 5)))
  have HR := hide (rw_none w)
  clear hv
  go_enter Tryz.func42, Tryz.ntmps42
  go_wp2_with (first | (at_builtin; refine wpList_append_sl _ rfl _ _ rfl w.heap.size _ 0 [] rfl HR.out (by simp) _ l rfl HV.out (by omega) ?_))
  intro w1 v1 cur1 hp1
  have hown := hp1.rw.owns
  rw [hp1.tk] at hown
  have HO := hide hown
  have HB := hide (((Below.refl w.heap.size w).alloc (Nat.le_refl _) _).trans hp1.below)
  clear hp1 hown
  go_wp2_with fail
  go_ret
  exact ⟨_, rfl, by simpa using HO.out, HB.out⟩
theorem bclone_own (v : Value) (l : List Int) (w : World) (hv : Sl bc w v l) (hl : l.length ≤ 100000) :
    Calls Tryz.prog 42 #[v] w fun e w' => ∃ u, e = .returned u ∧ w'.ownsRow w.heap.size 5 1 u l.length (bv l) ∧ Below w.heap.size w w' := by
  obtain ⟨ao, cap, rfl⟩ := hv.form
  cases ao with
  | none =>
    obtain rfl : l = [] := by
      rcases hv with ⟨ao, cap, h, _⟩ | ⟨b, o, cap, h, _⟩
      · exact h
      · cases h
    refine (bclone_nil cap w).mono ?_
    rintro e w' ⟨rfl, hb⟩
    exact ⟨_, rfl, World.ownsRow_nil _ _ _ _, hb⟩
  | some a => exact bclone_some a cap l w hl hv
theorem nilBt_yes (n cap : Nat) (w : World) : (binOp .eql 22 (.slice none n cap) (.slice none 0 0)).run Tryz.prog w = .ok (.bool true) w := by kernel_rfl
theorem nilBt_no (a : Addr) (n cap : Nat) (w : World) : (binOp .eql 22 (.slice (some a) n cap) (.slice none 0 0)).run Tryz.prog w = .ok (.bool false) w := by kernel_rfl
theorem cloneB_zero (ao : Option Addr) (cap : Nat) (w : World) : Calls Tryz.prog 43 #[.slice ao 0 cap] w fun e w' => (∃ ao c, e = .returned (.slice ao 0 c)) ∧ Below w.heap.size w w' := by
  have e1 := nilBt_yes
  have e2 := nilBt_no
  cases ao with
  | none =>
    go_enter Tryz.func43, Tryz.ntmps43
    go_wp2
    go_ret
    exact ⟨⟨_, _, rfl⟩, Below.refl _ _⟩
  | some a =>
    go_enter Tryz.func43, Tryz.ntmps43
    go_wp2
    go_ret
    exact ⟨⟨_, _, rfl⟩, (Below.refl _ _).alloc (Nat.le_refl _) _⟩
theorem owns_new3 (w : World) : (w.alloc (.cells #[] 55)).ownsRow w.heap.size 55 3 (.slice (some ⟨w.heap.size, 0, none⟩) 0 0) 0 [] :=
  ⟨by simp, .inr ⟨w.heap.size, 0, #[], rfl, Nat.le_refl _, Array.getElem?_push_size, Nat.le_refl _, Nat.zero_le _, by simp, by simp⟩⟩
set_option maxRecDepth 100000 in
set_option maxHeartbeats 4000000 in
theorem cloneB_some (b o cap : Nat) (ps : List Bq) (w : World) (hl : ps.length ≤ 100000) (h3 : w.rangeAt b o (bcs ps)) (h1 : ∀ u ∈ bcs ps, u.oneCell' = true) :
    Calls Tryz.prog 43 #[.slice (some ⟨b, o, none⟩) ps.length cap] w fun e w' => ∃ v, e = .returned v ∧ w'.ownsRow w.heap.size 55 3 v ps.length (bcs ps) ∧ Below w.heap.size w w' := by
  obtain ⟨i0, hi, hz0, hz1, hz2⟩ := info_parts infoBt
  have hown := owns_new3 w
  have HN := hide (range_news (range_bel h3 ((Below.refl _ _).alloc (Nat.le_refl _) (.cells #[] 55))))
  have HLN := hide (bcs_len ps)
  have HON := hide h1
  clear h3
  have e2 := nilBt_no
  generalize bcs ps = cs at *
  go_enter Tryz.func43, Tryz.ntmps43
  go_wp2_with (first
    | (at_builtin; refine wpList_append_own _ rfl _ _ 22 rfl w.heap.size 55 i0 (.agg #[.int .i64 0, .int .i64 0, .slice none 0 0]) 3 40 Tryz.underlying22 hi hz0 hz1 hz2 rfl (by decide) _ _ _ rfl hown ⟨b, o, none⟩ ps.length cap cs rfl HLN.out HN.out HON.out ?c3 ?c4 ?c5 ?_))
  case c3 => unfold maxLen; omega
  case c4 => omega
  case c5 => simp
  · intro v' w2 hown' hgrow _
    have hB : Below w.heap.size w w2 := ((Below.refl _ _).alloc (Nat.le_refl _) _).grown hgrow (by simp) (fun j hj => (hown.lt j hj).1)
    have HO := hide hown'
    clear hown' hgrow hown
    go_wp2
    go_ret
    exact ⟨v', rfl, by simpa using HO.out, hB⟩
theorem bcs_one' {qs : List Bq} (h : ∀ q ∈ qs, ∃ ao n cap, q.u = .slice ao n cap) : ∀ u ∈ bcs qs, u.oneCell' = true := fun u hu => by
  obtain ⟨q, hq, hq2⟩ := List.mem_flatMap.1 hu
  obtain ⟨ao, n, cap, e⟩ := h q hq
  simp only [bce, List.mem_cons, List.not_mem_nil, or_false] at hq2
  rcases hq2 with rfl | rfl | rfl
  · rfl
  · rfl
  · rw [e]; rfl
theorem cloneB_any (ao : Option Addr) (cap : Nat) (qs : List Bq) (w : World) (hv : Bl w (.slice ao qs.length cap) qs) (hl : qs.length ≤ 100000) : Calls Tryz.prog 43 #[.slice ao qs.length cap] w fun e w' => ∃ a' c', e = .returned (.slice a' qs.length c') ∧ (0 < qs.length → ∃ g, a' = some ⟨g, 0, none⟩ ∧ qs.length ≤ c' ∧ w.heap.size ≤ g ∧ g < w'.heap.size ∧ w'.rangeAt g 0 (bcs qs) ∧ ∀ i, w'.frozen? ⟨g, i, none⟩ = false) ∧ Below w.heap.size w w' := by
  by_cases h0 : 0 < qs.length
  · obtain ⟨b, o, rfl, h3⟩ : ∃ b o, ao = some ⟨b, o, none⟩ ∧ w.rangeAt b o (bcs qs) := by
      rcases hv.1 with ⟨_, _, rfl, _⟩ | ⟨b, o, cap', e, _, _, h3⟩
      · simp at h0
      · cases e; exact ⟨b, o, rfl, h3⟩
    refine (cloneB_some b o cap qs w hl h3 (bcs_one' (fun q hq => (hv.2 q hq).form3))).mono ?_
    rintro e w' ⟨v, rfl, ho, hb⟩
    obtain ⟨g, c', rfl, h1, h2, h4, h5, h6⟩ := owns_range ho h0
    exact ⟨_, _, rfl, fun _ => ⟨g, rfl, h2, h1, h4, h5, h6⟩, hb⟩
  · have e : qs = [] := List.length_eq_zero_iff.1 (by omega)
    subst e
    refine (cloneB_zero ao cap w).mono ?_
    rintro e w' ⟨⟨a', c', rfl⟩, hb⟩
    exact ⟨a', c', rfl, fun q => by simp at q, hb⟩
/-- A batch laid over another one in its row. -/
theorem brange_set {W : World} {g j : Nat} {cs : List Bq} {q : Bq} (h : W.rangeAt g 0 (bcs cs)) (hj : j < cs.length) (ht : W.there g (j * 3) 3) : (W.setCells g (j * 3) (bce q)).rangeAt g 0 (bcs (cs.set j q)) := fun i u hu => by
  have hil : i < (cs.set j q).length * 3 := by have := (List.getElem?_eq_some_iff.1 hu).1; rwa [bcs_len] at this
  rw [List.length_set] at hil
  have ha : i / 3 < cs.length := by omega
  have ha' : i / 3 < (cs.set j q).length := by rw [List.length_set]; exact ha
  have hm : i % 3 < 3 := by omega
  have hb3 : ∀ r : Bq, (bce r).length = 3 := fun _ => rfl
  have h2 := bcs_get (cs.set j q) (i / 3) ha' (i % 3) _ (List.getElem?_eq_getElem (by rw [hb3]; exact hm))
  rw [show i / 3 * 3 + i % 3 = i by omega, hu] at h2
  have h3 := Option.some.inj h2
  rw [Nat.zero_add]
  by_cases e : j = i / 3
  · have hq : (cs.set j q)[i / 3] = q := by subst e; simp
    have h4 := World.rangeAt_setCells_same W g (j * 3) (bce q) ht (i % 3) ((bce q)[i % 3]'(by rw [hb3]; exact hm)) (List.getElem?_eq_getElem _)
    rw [show j * 3 + i % 3 = i by omega] at h4
    rw [h4, h3]
    congr 1
    simp only [hq]
  · have hq : (cs.set j q)[i / 3] = cs[i / 3] := List.getElem_set_ne e _
    rw [World.cell?_setCells_out g (bce q) (j * 3) W ⟨g, i, none⟩ (fun _ _ => by rw [hb3]; simp only; omega)]
    have h5 := h (i / 3 * 3 + i % 3) _ (bcs_get cs (i / 3) ha (i % 3) _ (List.getElem?_eq_getElem (by rw [hb3]; exact hm)))
    rw [Nat.zero_add, show i / 3 * 3 + i % 3 = i by omega] at h5
    rw [h5, h3]
    congr 1
    simp only [hq]
theorem bts_set {cs : List Bq} {j : Nat} {q : Bq} (hj : j < cs.length) (h : btq q = btq cs[j]) : bts (cs.set j q) = bts cs := by
  unfold bts
  rw [List.map_set, h]
  exact List.ext_getElem (by simp) (fun i h1 h2 => by
    by_cases e : j = i
    · subst e; simp
    · simp [List.getElem_set_ne e])
/-- A message that is being copied: its own cells at w.heap.size, its result's behind them, its batches in the row at g. -/
structure Cq (w W : World) (m : Ms) (g c1 : Nat) (u1 : Value) (cs : List Bq) : Prop where
  rg : W.rangeAt w.heap.size 0 (cellsM m (.slice (some ⟨g, 0, none⟩) m.bs.length c1) u1)
  th : W.there (w.heap.size + 1) 0 15
  row : W.rangeAt g 0 (bcs cs)
  fz : ∀ i, W.frozen? ⟨g, i, none⟩ = false
  el : ∀ q ∈ cs, Rl (fun k => k ≠ g ∧ w.heap.size + 2 ≤ k ∨ k < w.heap.size) (fun k => k ≠ g ∧ w.heap.size + 2 ≤ k ∨ k < w.heap.size) W q.u q.ps
  bs : bts cs = m.bs
  da : Sln (fun k => k ≠ g ∧ w.heap.size + 2 ≤ k) W u1 m.da
  be : Below w.heap.size w W
  hg : w.heap.size + 2 ≤ g
  hc : m.bs.length ≤ c1
section
variable {w W W' : World} {m : Ms} {g c1 : Nat} {u1 : Value} {cs : List Bq}
theorem Cq.len (h : Cq w W m g c1 u1 cs) : cs.length = m.bs.length := by rw [← h.bs, bts_len]
theorem Cq.gz (h : Cq w W m g c1 u1 cs) (h0 : 0 < cs.length) : g < W.heap.size := cell_block (h.row 0 _ (List.getElem?_eq_getElem (by rw [bcs_len]; omega)))
theorem Cq.below (h : Cq w W m g c1 u1 cs) (hb : Below W.heap.size W W') (h0 : 0 < cs.length) : Cq w W' m g c1 u1 cs :=
  ⟨range_bel h.rg hb, there_bel h.th hb (by have := h.gz h0; have := h.hg; omega), range_bel h.row hb, fun i => by rw [hb.frozen (p := ⟨g, i, none⟩) (h.gz h0)]; exact h.fz i, fun q hq => (h.el q hq).below hb, h.bs, h.da.imp (fun _ _ q => q) (fun k i hl _ => hb.cell (p := ⟨k, i, none⟩) hl), h.be.trans (hb.mono h.be.size), h.hg, h.hc⟩
theorem Cq.put (h : Cq w W m g c1 u1 cs) {j : Nat} {q : Bq} (hj : j < cs.length) (hb : btq q = btq cs[j]) (hq : Rl (fun k => k ≠ g ∧ w.heap.size + 2 ≤ k) (fun k => k ≠ g ∧ w.heap.size + 2 ≤ k) W q.u q.ps) : Cq w (W.setCells g (j * 3) (bce q)) m g c1 u1 (cs.set j q) := by
  have hth : W.there g (j * 3) 3 := fun i hi => by
    obtain ⟨u, hu⟩ : ∃ u, (bcs cs)[j * 3 + i]? = some u := ⟨_, List.getElem?_eq_getElem (by rw [bcs_len]; omega)⟩
    have := h.row _ u hu
    rw [Nat.zero_add] at this
    exact ⟨by rw [this]; rfl, h.fz _⟩
  have hc : ∀ k i, k ≠ g → (W.setCells g (j * 3) (bce q)).cell? ⟨k, i, none⟩ = W.cell? ⟨k, i, none⟩ := fun k i hk => cell_many hk _ _
  have hg := h.hg
  refine ⟨range_imp h.rg (fun i _ => hc _ i (by omega)), World.there_setCells h.th _ _ _, brange_set h.row hj hth, fun i => by rw [World.frozen?_setCells]; exact h.fz i, fun r hr => ?_, by rw [bts_set hj hb]; exact h.bs, h.da.imp (fun _ _ q => q) (fun k i _ hk => hc k i hk.1), below_many (by omega) _ _ h.be, h.hg, h.hc⟩
  rcases List.mem_or_eq_of_mem_set hr with e | e
  · exact (h.el r e).imp (fun _ _ q => q) (fun _ _ q => q) (fun k i _ hk => hc k i (by omega))
  · subst e
    exact hq.imp (fun _ _ q => .inl q) (fun _ _ q => .inl q) (fun k i _ hk => hc k i (by rcases hk with e | e <;> exact e.1))
end
theorem step_store_mid {ops : Array Oper} {o : Oper} {a : Act} {w : World} {K : Act → World → Prop} {Q : Exit → Act → World → Prop} {E : Prop} (hgd : o.guard = none) (ty : TypeId) (x y : Operand) (ho : o.op = .store ty x y)
    (b of : Nat) (cells : Array Value) (hx : a.eval x = .pointer (some ⟨b, of, none⟩)) (hy : a.eval y = .agg cells) (ht : w.there b of cells.size) (hi : (Tryz.prog.info? ty).map (·.size) = some cells.size) (h1 : cells.all (·.oneCell') = true)
    (h : K (a.put o.dst undef) (w.setCells b of cells.toList)) : if Region.wanted o (yielded ops a.tmps) = true then Oper.wp Tryz.prog o a w K Q else E := by
  have hw : Region.wanted o (yielded ops a.tmps) = true := by simp [Region.wanted, hgd]
  rw [if_pos hw]
  exact wp_store_mid ty x y ho b of cells hx hy ht hi h1 h
theorem step_load_mid {ops : Array Oper} {o : Oper} {a : Act} {w : World} {K : Act → World → Prop} {Q : Exit → Act → World → Prop} {E : Prop} (hgd : o.guard = none) (ty : TypeId) (x : Operand) (ho : o.op = .load ty x)
    (b of : Nat) (hx : a.eval x = .pointer (some ⟨b, of, none⟩)) (cs : List Value) (d : TypeDesc) (hc : w.rangeAt b of cs) (hu : Tryz.prog.underlying ty = some d) (hd : d.isRow = true) (hi : (Tryz.prog.info? ty).map (·.size) = some cs.length)
    (h : K (a.put o.dst (.agg cs.toArray)) w) : if Region.wanted o (yielded ops a.tmps) = true then Oper.wp Tryz.prog o a w K Q else E := by
  have hw : Region.wanted o (yielded ops a.tmps) = true := by simp [Region.wanted, hgd]
  rw [if_pos hw]
  exact wp_load_mid ty x ho b of hx cs d hc hu hd hi h
/-- Behind its slices' copies. -/
theorem cq_new {w W2 : World} {m : Ms} {ub ud u1 : Value} {qs : List Bq} {g c1 : Nat} (hm : MemM w m ub ud qs) (hr : W2.rangeAt w.heap.size 0 (cellsM m (.slice (some ⟨g, 0, none⟩) m.bs.length c1) u1)) (ht : W2.there (w.heap.size + 1) 0 15) (hrow : W2.rangeAt g 0 (bcs qs)) (hf : ∀ i, W2.frozen? ⟨g, i, none⟩ = false) (hd : Sln (fun k => k ≠ g ∧ w.heap.size + 2 ≤ k) W2 u1 m.da) (hb : Below w.heap.size w W2) (hg : w.heap.size + 2 ≤ g) (hc : m.bs.length ≤ c1) : Cq w W2 m g c1 u1 qs :=
  ⟨hr, ht, hrow, hf, fun q hq => (hm.bl.2 q hq).imp (fun _ hl _ => .inr hl) (fun _ hl _ => .inr hl) (fun k i hl _ => hb.cell (p := ⟨k, i, none⟩) hl), hm.bs, hd, hb, hg, hc⟩
set_option maxRecDepth 100000 in
set_option maxHeartbeats 32000000 in
theorem mcopy_any (m : Ms) (v : Value) (w : World) (hv : IsM w v m) (hd : m.da.length ≤ 100000) (hn : m.bs.length ≤ 100000) (hln : LnM m) : Calls Tryz.prog 15 #[v] w fun e w' => ∃ u, e = .returned u ∧ IsM w' u m ∧ Below w.heap.size w w' := by
  obtain ⟨ab, cb, ad, cd, qs, rfl, hm⟩ := isM_form hv
  have HM := hide hm
  have HLN := hide hln
  have hlq := hm.len
  obtain ⟨X, hX⟩ : ∃ X, X = ((w.alloc (.cells #[.int .i64 m.k, .int .i64 m.fr, .int .i64 m.tn, .int .i64 m.t, .bool m.pre, .bool m.ok, .int .i64 m.ld, .int .i64 m.pa, .int .i64 m.pt, .int .i64 m.hi, .int .i64 m.co, .slice ab m.bs.length cb, .int .i64 m.sz, .int .i64 m.po, .slice ad m.da.length cd] 25)).alloc (.cells #[.int .i64 0, .int .i64 0, .int .i64 0, .int .i64 0, .bool false, .bool false, .int .i64 0, .int .i64 0, .int .i64 0, .int .i64 0, .int .i64 0, .slice none 0 0, .int .i64 0, .int .i64 0, .slice none 0 0] 25)) := ⟨_, rfl⟩
  have hzX : w.heap.size + 2 ≤ X.heap.size := by rw [hX]; simp
  have HB : Hid (Below w.heap.size w X) := hide (by rw [hX]; exact ((Below.refl _ _).alloc (Nat.le_refl _) _).alloc (by simp) _)
  have HQ : Hid (X.rangeAt w.heap.size 0 (cellsM m (.slice ab m.bs.length cb) (.slice ad m.da.length cd))) := hide (by rw [hX]; exact range_bel (range_new w [.int .i64 m.k, .int .i64 m.fr, .int .i64 m.tn, .int .i64 m.t, .bool m.pre, .bool m.ok, .int .i64 m.ld, .int .i64 m.pa, .int .i64 m.pt, .int .i64 m.hi, .int .i64 m.co, .slice ab m.bs.length cb, .int .i64 m.sz, .int .i64 m.po, .slice ad m.da.length cd] 25) ((Below.refl _ _).alloc (Nat.le_refl _) _))
  have HT : Hid (X.there (w.heap.size + 1) 0 15) := hide (by have := there_newM (w.alloc (.cells #[.int .i64 m.k, .int .i64 m.fr, .int .i64 m.tn, .int .i64 m.t, .bool m.pre, .bool m.ok, .int .i64 m.ld, .int .i64 m.pa, .int .i64 m.pt, .int .i64 m.hi, .int .i64 m.co, .slice ab m.bs.length cb, .int .i64 m.sz, .int .i64 m.po, .slice ad m.da.length cd] 25)); rw [show (w.alloc (.cells #[.int .i64 m.k, .int .i64 m.fr, .int .i64 m.tn, .int .i64 m.t, .bool m.pre, .bool m.ok, .int .i64 m.ld, .int .i64 m.pa, .int .i64 m.pt, .int .i64 m.hi, .int .i64 m.co, .slice ab m.bs.length cb, .int .i64 m.sz, .int .i64 m.po, .slice ad m.da.length cd] 25)).heap.size = w.heap.size + 1 by simp] at this; rw [hX]; exact this)
  have HFZ : Hid (∀ i, X.frozen? ⟨w.heap.size, i, none⟩ = false) := hide (fun i => by rw [hX]; simp)
  clear hv hm hln
  unfold cellsM
  go_enter Tryz.func15, Tryz.ntmps15
  go_upto_region 1 with fail
  rw [← hX]
  clear hX
  have g14 := HQ.out 14 _ rfl
  rw [Nat.zero_add] at g14
  have HC1 := hide (bclone_own _ m.da X (HM.out.da.below HB.out) hd)
  go_upto_region 2 with (first | (go_at_call 42; refine HC1.out.mono ?_; rintro e W1 ⟨u1, rfl, ho1, hb1⟩; obtain ⟨a1, d1, e1⟩ := (sl_of_owns (f := bc) (l := m.da) (by simpa [bv_eq] using ho1)).form; have f14 : W1.frozen? ⟨w.heap.size, 14, none⟩ = false := (hb1.frozen (p := ⟨w.heap.size, 14, none⟩) (by show w.heap.size < _; omega)).trans (HFZ.out 14); have c14 := range_bel HQ.out hb1 14 _ rfl; rw [Nat.zero_add] at c14; subst e1))
  have hs1 : Sln (fun k => X.heap.size ≤ k) W1 (.slice a1 m.da.length d1) m.da := (sld_of_owns 0 (by simpa [bv_eq] using ho1)).ln
  obtain ⟨Y, hY⟩ : ∃ Y, Y = W1.setCell ⟨w.heap.size, 14, none⟩ (.slice a1 m.da.length d1) := ⟨_, rfl⟩
  rw [← hY]
  have hcY : ∀ k i, k ≠ w.heap.size → Y.cell? ⟨k, i, none⟩ = W1.cell? ⟨k, i, none⟩ := fun k i hk => by rw [hY]; exact World.cell?_setCell_other _ _ _ _ (fun e => hk (congrArg Addr.block e).symm)
  have hzY : Y.heap.size = W1.heap.size := by rw [hY]; simp [World.setCell]
  have HQY : Hid (Y.rangeAt w.heap.size 0 (cellsM m (.slice ab m.bs.length cb) (.slice a1 m.da.length d1))) := hide (by rw [hY]; exact range_set (range_bel HQ.out hb1) (show 14 < 15 by decide))
  have HTY : Hid (Y.there (w.heap.size + 1) 0 15) := hide (fun i hi => by rw [hcY _ _ (by omega), hY, World.frozen?_setCell]; exact there_bel HT.out hb1 (by omega) i hi)
  have HFY : Hid (∀ i, Y.frozen? ⟨w.heap.size, i, none⟩ = false) := hide (fun i => by rw [hY, World.frozen?_setCell]; exact (hb1.frozen (p := ⟨w.heap.size, i, none⟩) (by show w.heap.size < _; omega)).trans (HFZ.out i))
  have HBY : Hid (Below w.heap.size w Y) := hide (by rw [hY]; exact (HB.out.trans (hb1.mono HB.out.size)).setCell (by exact Nat.le_refl _) _)
  have HDY : Hid (Sln (fun k => w.heap.size + 2 ≤ k) Y (.slice a1 m.da.length d1) m.da) := hide (hs1.imp (fun k _ hk => by omega) (fun k i _ hk => hcY k i (by omega)))
  have hzY2 : w.heap.size + 2 ≤ Y.heap.size := by have := hb1.size; omega
  clear hY hcY hzY hs1 ho1 hb1 f14 c14 g14 HC1 HQ HT HFZ HB hzX
  have g11 := HQY.out 11 _ rfl
  rw [Nat.zero_add] at g11
  change _ = some (Value.slice ab m.bs.length cb) at g11
  have HC2 := hide (cloneB_any ab cb qs Y (by rw [hlq]; exact HM.out.bl.below HBY.out) (by omega))
  rw [hlq] at HC2
  go_upto_region 3 with (first | (go_at_call 43; refine HC2.out.mono ?_; rintro e W2 ⟨a2, c2, rfl, hcl, hb2⟩; have f11 : W2.frozen? ⟨w.heap.size, 11, none⟩ = false := (hb2.frozen (p := ⟨w.heap.size, 11, none⟩) (by show w.heap.size < _; omega)).trans (HFY.out 11); have c11 := range_bel HQY.out hb2 11 _ rfl; rw [Nat.zero_add] at c11))
  obtain ⟨Z, hZ⟩ : ∃ Z, Z = W2.setCell ⟨w.heap.size, 11, none⟩ (.slice a2 m.bs.length c2) := ⟨_, rfl⟩
  rw [← hZ]
  have hcZ : ∀ k i, k ≠ w.heap.size → Z.cell? ⟨k, i, none⟩ = W2.cell? ⟨k, i, none⟩ := fun k i hk => by rw [hZ]; exact World.cell?_setCell_other _ _ _ _ (fun e => hk (congrArg Addr.block e).symm)
  have HQZ : Hid (Z.rangeAt w.heap.size 0 (cellsM m (.slice a2 m.bs.length c2) (.slice a1 m.da.length d1))) := hide (by rw [hZ]; exact range_set (range_bel HQY.out hb2) (show 11 < 15 by decide))
  have HTZ : Hid (Z.there (w.heap.size + 1) 0 15) := hide (fun i hi => by rw [hcZ _ _ (by omega), hZ, World.frozen?_setCell]; exact there_bel HTY.out hb2 (by omega) i hi)
  have HBZ : Hid (Below w.heap.size w Z) := hide (by rw [hZ]; exact (HBY.out.trans (hb2.mono HBY.out.size)).setCell (by exact Nat.le_refl _) _)
  have hzd : ∀ k, k < Y.heap.size → k < Y.heap.size := fun _ h => h
  by_cases h0 : 0 < m.bs.length
  · obtain ⟨g, rfl, hc1, hg, hgz, hrow, hfz⟩ := hcl h0
    have HCQ : Hid (Cq w Z m g c2 (.slice a1 m.da.length d1) qs) := hide (cq_new HM.out HQZ.out HTZ.out (range_imp hrow (fun i _ => hcZ g i (by omega))) (fun i => by rw [hZ, World.frozen?_setCell]; exact hfz i) (HDY.out.imp (fun k hl hk => ⟨by omega, hk⟩) (fun k i hl hk => (hcZ k i (by omega)).trans (hb2.cell (p := ⟨k, i, none⟩) hl))) HBZ.out (by omega) hc1)
    clear hZ hcZ HQZ HTZ HBZ HQY HTY HFY HBY HDY hcl hb2 f11 c11 g11 HC2 hrow hfz hg hgz hzd
    have z11 := HCQ.out.rg 11 _ rfl
    rw [Nat.zero_add] at z11
    change _ = some (Value.slice (some ⟨g, 0, none⟩) m.bs.length c2) at z11
    go_wp2_with fail
    clear z11
    go_loopw [16] (fun i wr => ∃ (j : Nat) (cs : List Bq), j ≤ m.bs.length ∧ i = .int .i64 (j : Int) ∧ Hid (Cq w wr m g c2 (.slice a1 m.da.length d1) cs)) (fun i _ => m.bs.length - (intOf i).toNat)
    case atStart => exact ⟨0, qs, Nat.zero_le _, rfl, HCQ⟩
    case round =>
      clear HCQ
      obtain ⟨j, cs, hj, rfl, HCQ⟩ := hrel
      by_cases hlt : j < m.bs.length
      · have hltI : (j : Int) < (m.bs.length : Int) := by omega
        have HLEN := hide HCQ.out.len
        have hjc : j < cs.length := by rw [HLEN.out]; exact hlt
        have HE := hide (brange_at HCQ.out.row hjc)
        rw [Nat.zero_add] at HE
        have HP := hide (HCQ.out.el _ (List.getElem_mem hjc))
        have hmem : btq cs[j] ∈ m.bs := by rw [← HCQ.out.bs]; exact List.mem_map.2 ⟨_, List.getElem_mem hjc, rfl⟩
        have HLX := hide (HLN.out _ hmem)
        have HTN := hide (there_newB wr)
        have hc1 := HCQ.out.hc
        obtain ⟨q, HQE⟩ : ∃ q, Hid (q = cs[j]) := ⟨_, hide rfl⟩
        rw [← HQE.out] at HE HP HLX
        clear hmem
        have HOC := hide (bce_all HP.out.form3)
        go_upto_region 6 with (first | (refine wpList_load_mid rfl _ _ rfl _ _ rfl _ _ HE.out Tryz.underlying55 rfl (by kernel_rfl) ?_) | (refine wpList_store_mid rfl _ _ _ rfl wr.heap.size 0 (bce q).toArray rfl rfl HTN.out (by kernel_rfl) HOC.out ?_))
        obtain ⟨V, hV⟩ : ∃ V, V = (wr.alloc (.cells #[.int .i64 0, .int .i64 0, .slice none 0 0] 55)).setCells wr.heap.size 0 (bce q) := ⟨_, rfl⟩
        obtain ⟨hbV, hrV, _⟩ := laidB wr q hV
        rw [← hV]
        have HRV := hide hrV
        have HQV := hide (HCQ.out.below hbV (by omega))
        have HC : Hid (∀ W, Cq w W m g c2 (.slice a1 m.da.length d1) cs → Calls Tryz.prog 44 #[.agg (bce q).toArray] W fun e w' => ∃ u, e = .returned u ∧ IsB (fun b => W.heap.size ≤ b) (fun b => W.heap.size ≤ b) w' u (btq q) ∧ Below W.heap.size W w') := hide (fun W h => copy_any (btq q) (.agg (bce q).toArray) W (okb := fun k => k ≠ g ∧ w.heap.size + 2 ≤ k ∨ k < w.heap.size) (ok := fun k => k ≠ g ∧ w.heap.size + 2 ≤ k ∨ k < w.heap.size) ⟨q.u, q.ps, rfl, by rw [HQE.out]; exact h.el _ (List.getElem_mem hjc), rfl⟩ HLX.out.1 HLX.out.2)
        clear hV hrV hbV HTN HE HP HOC HCQ HLX
        refine wp_region_held_drew (S := fun _ => True) (by kernel_rfl) trivial (fun hHeld => ?_)
        have HN0 := hide (HQV.out.below ((Below.refl _ _).drew) (by rw [HLEN.out]; omega))
        have HD0 := hide (range_bel HRV.out ((Below.refl _ _).drew))
        have hzV : wr.heap.size < V.drew.heap.size := by have := cell_block (HD0.out 0 _ rfl); exact this
        generalize V.drew = W0 at HN0 HD0 hzV ⊢
        clear HQV HRV
        refine wpAnyH_take (i := 0) (oi := _) (v := .pointer (some ⟨w.heap.size, 11, none⟩)) rfl (by kernel_rfl) (by kernel_rfl) (by kernel_rfl) (fun _ _ _ h => h) (Or.inl ⟨by rfl, by intro w hSw; go_simp⟩) hHeld ?_
        change wpAnyH _ _ _ _ _ _ _ (Act.put _ (some 21) _) _
        simp only [Act.put, List.setIfInBounds_toArray, List.set_cons_zero, List.set_cons_succ]
        refine wpAnyH_take (i := 2) (oi := _) (v := .int .i64 (j : Int)) rfl (by kernel_rfl) (by kernel_rfl) (by kernel_rfl) (fun _ _ _ h => h) (Or.inl ⟨by rfl, by intro w hSw; go_simp⟩) hHeld ?_
        change wpAnyH _ _ _ _ _ _ _ (Act.put _ (some 23) _) _
        simp only [Act.put, List.setIfInBounds_toArray, List.set_cons_zero, List.set_cons_succ]
        refine wpAnyH_ready (rs := [1, 3]) (by kernel_rfl) (by simp) ?_
        refine AllReadyH.cons (o := _) rfl (fun K hK => ?_) (AllReadyH.cons (o := _) rfl (fun K hK => ?_) AllReadyH.nil)
        · have i2 := HN0.out.rg 11 _ rfl
          rw [Nat.zero_add] at i2
          change _ = some (Value.slice (some ⟨g, 0, none⟩) m.bs.length c2) at i2
          go_simp
          clear i2
          refine hK.out _ _ ?_ (fun hHeld1 => ?_)
          · exact trivial
          clear hK K hHeld
          have hHeld := hHeld1
          clear hHeld1
          refine wpAnyH_ready (rs := [3]) (by kernel_rfl) (by simp) ?_
          refine AllReadyH.cons (o := _) rfl (fun K hK => ?_) AllReadyH.nil
          refine step_load_mid rfl _ _ rfl _ _ rfl (bce q) _ HD0.out Tryz.underlying55 rfl (by kernel_rfl) ?_
          show K (Act.put _ (some 24) _) _
          simp only [Act.put, List.setIfInBounds_toArray, List.set_cons_zero, List.set_cons_succ]
          refine hK.out _ _ ?_ (fun hHeld1 => ?_)
          · exact trivial
          clear hK K hHeld
          have hHeld := hHeld1
          clear hHeld1
          refine wpAnyH_ready (rs := [4]) (by kernel_rfl) (by simp) ?_
          refine AllReadyH.cons (o := _) rfl (fun K hK => ?_) AllReadyH.nil
          go_simp
          go_at_call 44
          refine (HC.out _ HN0.out).mono ?_
          rintro e V1 ⟨vx, rfl, hx, hb⟩
          go_wp2_with fail
          refine hK.out _ _ ?_ (fun hHeld1 => ?_)
          · exact trivial
          clear hK K hHeld
          have hHeld := hHeld1
          clear hHeld1
          obtain ⟨u0', ps0, rfl, hq2, hq1⟩ := hx
          obtain ⟨a0, c0, rfl⟩ := hq2.form
          have HN1 := hide (HN0.out.below hb (by rw [HLEN.out]; omega))
          have HQW : Hid (Rl (fun k => k ≠ g ∧ w.heap.size + 2 ≤ k) (fun k => k ≠ g ∧ w.heap.size + 2 ≤ k) V1 (.slice a0 ps0.length c0) ps0) := hide (by have h1 := HN0.out.gz (by rw [HLEN.out]; omega); have h2 := HN0.out.hg; exact hq2.imp (fun k _ hk => by omega) (fun k _ hk => by omega) (fun _ _ _ _ => rfl))
          have HQT : Hid (btq ⟨q.t, q.b, .slice a0 ps0.length c0, ps0⟩ = btq q) := hide (by unfold btq; simp only; rw [hq1]; rfl)
          clear hq2 hq1 hb HN0
          refine wpAnyH_take (i := 5) (oi := _) (v := .pointer (some ⟨g, j * 3, none⟩)) rfl (by kernel_rfl) (by kernel_rfl) (by kernel_rfl) (fun _ _ _ h => h) (Or.inl ⟨by rfl, by intro w hSw; go_simp⟩) hHeld ?_
          change wpAnyH _ _ _ _ _ _ _ (Act.put _ (some 26) _) _
          simp only [Act.put, List.setIfInBounds_toArray, List.set_cons_zero, List.set_cons_succ]
          refine wpAnyH_ready (rs := [6]) (by kernel_rfl) (by simp) ?_
          refine AllReadyH.cons (o := _) rfl (fun K hK => ?_) AllReadyH.nil
          have hth : V1.there g (j * 3) 3 := fun i hi => by
            obtain ⟨u, hu⟩ : ∃ u, (bcs cs)[j * 3 + i]? = some u := ⟨_, List.getElem?_eq_getElem (by rw [bcs_len, HLEN.out]; omega)⟩
            have := HN1.out.row _ u hu
            rw [Nat.zero_add] at this
            exact ⟨by rw [this]; rfl, HN1.out.fz _⟩
          have HNF := hide (HN1.out.put (q := ⟨q.t, q.b, .slice a0 ps0.length c0, ps0⟩) (j := j) (by rw [HLEN.out]; exact hlt) (by rw [HQT.out]; exact congrArg btq HQE.out) HQW.out)
          refine step_store_mid rfl _ _ _ rfl g (j * 3) (bce ⟨q.t, q.b, .slice a0 ps0.length c0, ps0⟩).toArray rfl rfl hth (by kernel_rfl) (bce_all ⟨_, _, _, rfl⟩) ?_
          show K (Act.put _ none _) _
          refine hK.out _ _ ?_ (fun hHeld1 => ?_)
          · exact trivial
          clear hK K hHeld
          have hHeld := hHeld1
          clear hHeld1
          refine wpAnyH_done (by kernel_rfl) ?_ _
          clear HN1 HQW HQT hth
          go_wp2_with fail
          go_roundw
          case rel => exact ⟨j + 1, _, by omega, by go_num, HNF⟩
          case measure => simp [intOf]; omega
        · refine step_load_mid rfl _ _ rfl _ _ rfl (bce q) _ HD0.out Tryz.underlying55 rfl (by kernel_rfl) ?_
          show K (Act.put _ (some 24) _) _
          simp only [Act.put, List.setIfInBounds_toArray, List.set_cons_zero, List.set_cons_succ]
          refine hK.out _ _ ?_ (fun hHeld1 => ?_)
          · exact trivial
          clear hK K hHeld
          have hHeld := hHeld1
          clear hHeld1
          refine wpAnyH_ready (rs := [1, 4]) (by kernel_rfl) (by simp) ?_
          refine AllReadyH.cons (o := _) rfl (fun K hK => ?_) (AllReadyH.cons (o := _) rfl (fun K hK => ?_) AllReadyH.nil)
          · have i2 := HN0.out.rg 11 _ rfl
            rw [Nat.zero_add] at i2
            change _ = some (Value.slice (some ⟨g, 0, none⟩) m.bs.length c2) at i2
            go_simp
            clear i2
            refine hK.out _ _ ?_ (fun hHeld1 => ?_)
            · exact trivial
            clear hK K hHeld
            have hHeld := hHeld1
            clear hHeld1
            refine wpAnyH_ready (rs := [4]) (by kernel_rfl) (by simp) ?_
            refine AllReadyH.cons (o := _) rfl (fun K hK => ?_) AllReadyH.nil
            go_simp
            go_at_call 44
            refine (HC.out _ HN0.out).mono ?_
            rintro e V1 ⟨vx, rfl, hx, hb⟩
            go_wp2_with fail
            refine hK.out _ _ ?_ (fun hHeld1 => ?_)
            · exact trivial
            clear hK K hHeld
            have hHeld := hHeld1
            clear hHeld1
            obtain ⟨u0', ps0, rfl, hq2, hq1⟩ := hx
            obtain ⟨a0, c0, rfl⟩ := hq2.form
            have HN1 := hide (HN0.out.below hb (by rw [HLEN.out]; omega))
            have HQW : Hid (Rl (fun k => k ≠ g ∧ w.heap.size + 2 ≤ k) (fun k => k ≠ g ∧ w.heap.size + 2 ≤ k) V1 (.slice a0 ps0.length c0) ps0) := hide (by have h1 := HN0.out.gz (by rw [HLEN.out]; omega); have h2 := HN0.out.hg; exact hq2.imp (fun k _ hk => by omega) (fun k _ hk => by omega) (fun _ _ _ _ => rfl))
            have HQT : Hid (btq ⟨q.t, q.b, .slice a0 ps0.length c0, ps0⟩ = btq q) := hide (by unfold btq; simp only; rw [hq1]; rfl)
            clear hq2 hq1 hb HN0
            refine wpAnyH_take (i := 5) (oi := _) (v := .pointer (some ⟨g, j * 3, none⟩)) rfl (by kernel_rfl) (by kernel_rfl) (by kernel_rfl) (fun _ _ _ h => h) (Or.inl ⟨by rfl, by intro w hSw; go_simp⟩) hHeld ?_
            change wpAnyH _ _ _ _ _ _ _ (Act.put _ (some 26) _) _
            simp only [Act.put, List.setIfInBounds_toArray, List.set_cons_zero, List.set_cons_succ]
            refine wpAnyH_ready (rs := [6]) (by kernel_rfl) (by simp) ?_
            refine AllReadyH.cons (o := _) rfl (fun K hK => ?_) AllReadyH.nil
            have hth : V1.there g (j * 3) 3 := fun i hi => by
              obtain ⟨u, hu⟩ : ∃ u, (bcs cs)[j * 3 + i]? = some u := ⟨_, List.getElem?_eq_getElem (by rw [bcs_len, HLEN.out]; omega)⟩
              have := HN1.out.row _ u hu
              rw [Nat.zero_add] at this
              exact ⟨by rw [this]; rfl, HN1.out.fz _⟩
            have HNF := hide (HN1.out.put (q := ⟨q.t, q.b, .slice a0 ps0.length c0, ps0⟩) (j := j) (by rw [HLEN.out]; exact hlt) (by rw [HQT.out]; exact congrArg btq HQE.out) HQW.out)
            refine step_store_mid rfl _ _ _ rfl g (j * 3) (bce ⟨q.t, q.b, .slice a0 ps0.length c0, ps0⟩).toArray rfl rfl hth (by kernel_rfl) (bce_all ⟨_, _, _, rfl⟩) ?_
            show K (Act.put _ none _) _
            refine hK.out _ _ ?_ (fun hHeld1 => ?_)
            · exact trivial
            clear hK K hHeld
            have hHeld := hHeld1
            clear hHeld1
            refine wpAnyH_done (by kernel_rfl) ?_ _
            clear HN1 HQW HQT hth
            go_wp2_with fail
            go_roundw
            case rel => exact ⟨j + 1, _, by omega, by go_num, HNF⟩
            case measure => simp [intOf]; omega
          · go_simp
            go_at_call 44
            refine (HC.out _ HN0.out).mono ?_
            rintro e V1 ⟨vx, rfl, hx, hb⟩
            go_wp2_with fail
            refine hK.out _ _ ?_ (fun hHeld1 => ?_)
            · exact trivial
            clear hK K hHeld
            have hHeld := hHeld1
            clear hHeld1
            obtain ⟨u0', ps0, rfl, hq2, hq1⟩ := hx
            obtain ⟨a0, c0, rfl⟩ := hq2.form
            have HN1 := hide (HN0.out.below hb (by rw [HLEN.out]; omega))
            have HQW : Hid (Rl (fun k => k ≠ g ∧ w.heap.size + 2 ≤ k) (fun k => k ≠ g ∧ w.heap.size + 2 ≤ k) V1 (.slice a0 ps0.length c0) ps0) := hide (by have h1 := HN0.out.gz (by rw [HLEN.out]; omega); have h2 := HN0.out.hg; exact hq2.imp (fun k _ hk => by omega) (fun k _ hk => by omega) (fun _ _ _ _ => rfl))
            have HQT : Hid (btq ⟨q.t, q.b, .slice a0 ps0.length c0, ps0⟩ = btq q) := hide (by unfold btq; simp only; rw [hq1]; rfl)
            clear hq2 hq1 hb HN0
            refine wpAnyH_ready (rs := [1]) (by kernel_rfl) (by simp) ?_
            refine AllReadyH.cons (o := _) rfl (fun K hK => ?_) AllReadyH.nil
            have i2 := HN1.out.rg 11 _ rfl
            rw [Nat.zero_add] at i2
            change _ = some (Value.slice (some ⟨g, 0, none⟩) m.bs.length c2) at i2
            go_simp
            clear i2
            refine hK.out _ _ ?_ (fun hHeld1 => ?_)
            · exact trivial
            clear hK K hHeld
            have hHeld := hHeld1
            clear hHeld1
            refine wpAnyH_take (i := 5) (oi := _) (v := .pointer (some ⟨g, j * 3, none⟩)) rfl (by kernel_rfl) (by kernel_rfl) (by kernel_rfl) (fun _ _ _ h => h) (Or.inl ⟨by rfl, by intro w hSw; go_simp⟩) hHeld ?_
            change wpAnyH _ _ _ _ _ _ _ (Act.put _ (some 26) _) _
            simp only [Act.put, List.setIfInBounds_toArray, List.set_cons_zero, List.set_cons_succ]
            refine wpAnyH_ready (rs := [6]) (by kernel_rfl) (by simp) ?_
            refine AllReadyH.cons (o := _) rfl (fun K hK => ?_) AllReadyH.nil
            have hth : V1.there g (j * 3) 3 := fun i hi => by
              obtain ⟨u, hu⟩ : ∃ u, (bcs cs)[j * 3 + i]? = some u := ⟨_, List.getElem?_eq_getElem (by rw [bcs_len, HLEN.out]; omega)⟩
              have := HN1.out.row _ u hu
              rw [Nat.zero_add] at this
              exact ⟨by rw [this]; rfl, HN1.out.fz _⟩
            have HNF := hide (HN1.out.put (q := ⟨q.t, q.b, .slice a0 ps0.length c0, ps0⟩) (j := j) (by rw [HLEN.out]; exact hlt) (by rw [HQT.out]; exact congrArg btq HQE.out) HQW.out)
            refine step_store_mid rfl _ _ _ rfl g (j * 3) (bce ⟨q.t, q.b, .slice a0 ps0.length c0, ps0⟩).toArray rfl rfl hth (by kernel_rfl) (bce_all ⟨_, _, _, rfl⟩) ?_
            show K (Act.put _ none _) _
            refine hK.out _ _ ?_ (fun hHeld1 => ?_)
            · exact trivial
            clear hK K hHeld
            have hHeld := hHeld1
            clear hHeld1
            refine wpAnyH_done (by kernel_rfl) ?_ _
            clear HN1 HQW HQT hth
            go_wp2_with fail
            go_roundw
            case rel => exact ⟨j + 1, _, by omega, by go_num, HNF⟩
            case measure => simp [intOf]; omega
      · obtain rfl : j = m.bs.length := by omega
        clear hlt
        have HRG := hide HCQ.out.rg
        have HTH := hide HCQ.out.th
        have hgg := HCQ.out.hg
        have HIS : Hid (IsM (wr.setCells (w.heap.size + 1) 0 (cellsM m (.slice (some ⟨g, 0, none⟩) m.bs.length c2) (.slice a1 m.da.length d1))) (.agg (cellsM m (.slice (some ⟨g, 0, none⟩) m.bs.length c2) (.slice a1 m.da.length d1)).toArray) m) := hide ⟨_, _, cs, rfl, ⟨⟨.inr ⟨g, 0, c2, by rw [HCQ.out.len], by rw [HCQ.out.len]; exact HCQ.out.hc, by rw [HCQ.out.len]; exact h0, range_imp HCQ.out.row (fun i _ => cell_many (by omega) _ _)⟩, fun q hq => (HCQ.out.el q hq).imp (fun _ _ _ => trivial) (fun _ _ _ => trivial) (fun k i _ hk => cell_many (by omega) _ _)⟩, HCQ.out.bs, (HCQ.out.da.imp (ok' := fun _ => True) (fun _ _ _ => trivial) (fun k i _ hk => cell_many (by omega) _ _)).sl⟩⟩
        have HBE : Hid (Below w.heap.size w (wr.setCells (w.heap.size + 1) 0 (cellsM m (.slice (some ⟨g, 0, none⟩) m.bs.length c2) (.slice a1 m.da.length d1)))) := hide (below_many (Nat.le_succ _) _ _ HCQ.out.be)
        clear HCQ
        have HON := hide (cellsM_one m (some ⟨g, 0, none⟩) a1 m.bs.length c2 m.da.length d1)
        go_wp2_with (first | (refine wpList_load_mid rfl _ _ rfl _ _ rfl _ _ HRG.out Tryz.underlying25 rfl (by kernel_rfl) ?_) | (refine wpList_store_mid rfl _ _ _ rfl (w.heap.size + 1) 0 (cellsM m (.slice (some ⟨g, 0, none⟩) m.bs.length c2) (.slice a1 m.da.length d1)).toArray rfl rfl HTH.out (by kernel_rfl) HON.out ?_))
        exact bodyPost_ret (v := .agg (cellsM m (.slice (some ⟨g, 0, none⟩) m.bs.length c2) (.slice a1 m.da.length d1)).toArray) (results_mid Tryz.results15 _ _ (w.heap.size + 1) _ _ rfl (World.rangeAt_setCells_same _ _ _ _ HTH.out) Tryz.underlying25 rfl (by kernel_rfl)) rfl ⟨_, rfl, HIS.out, HBE.out⟩
  · have e0 : m.bs.length = 0 := by omega
    have hb0 : m.bs = [] := List.length_eq_zero_iff.1 e0
    have HRG := HQZ
    have HTH := HTZ
    have HIS : Hid (IsM (Z.setCells (w.heap.size + 1) 0 (cellsM m (.slice a2 m.bs.length c2) (.slice a1 m.da.length d1))) (.agg (cellsM m (.slice a2 m.bs.length c2) (.slice a1 m.da.length d1)).toArray) m) := hide ⟨_, _, [], rfl, ⟨⟨.inl ⟨_, _, rfl, by rw [e0]⟩, fun q hq => by simp at hq⟩, hb0.symm, (HDY.out.imp (ok' := fun _ => True) (fun _ _ _ => trivial) (fun k i hl hk => (cell_many (by omega) _ _).trans ((hcZ k i (by omega)).trans (hb2.cell (p := ⟨k, i, none⟩) hl)))).sl⟩⟩
    have HBE : Hid (Below w.heap.size w (Z.setCells (w.heap.size + 1) 0 (cellsM m (.slice a2 m.bs.length c2) (.slice a1 m.da.length d1)))) := hide (below_many (Nat.le_succ _) _ _ HBZ.out)
    have z11 := HQZ.out 11 _ rfl
    rw [Nat.zero_add] at z11
    change _ = some (Value.slice a2 m.bs.length c2) at z11
    clear hZ hcZ HQZ HTZ HBZ HQY HTY HFY HBY HDY hcl hb2 f11 c11 g11 HC2 hb0 hzd
    have HE0 := hide e0
    clear e0
    go_wp2_with fail
    go_loopw [16] (fun i wr => i = .int .i64 0 ∧ wr = Z) (fun _ _ => 0)
    case atStart => exact ⟨rfl, rfl⟩
    case round =>
      obtain ⟨rfl, rfl⟩ := hrel
      have hltI : ¬ (0 : Int) < (m.bs.length : Int) := by omega
      have HON := hide (cellsM_one m a2 a1 m.bs.length c2 m.da.length d1)
      go_wp2_with (first | (refine wpList_load_mid rfl _ _ rfl _ _ rfl _ _ HRG.out Tryz.underlying25 rfl (by kernel_rfl) ?_) | (refine wpList_store_mid rfl _ _ _ rfl (w.heap.size + 1) 0 (cellsM m (.slice a2 m.bs.length c2) (.slice a1 m.da.length d1)).toArray rfl rfl HTH.out (by kernel_rfl) HON.out ?_))
      exact bodyPost_ret (v := .agg (cellsM m (.slice a2 m.bs.length c2) (.slice a1 m.da.length d1)).toArray) (results_mid Tryz.results15 _ _ (w.heap.size + 1) _ _ rfl (World.rangeAt_setCells_same _ _ _ _ HTH.out) Tryz.underlying25 rfl (by kernel_rfl)) rfl ⟨_, rfl, HIS.out, HBE.out⟩
end Go.Proofs.YtkpknkhacmggnaaGreatDoor
namespace Go.Proofs.YtkpknkhacmggnaaGreatDoor
open Go.RowKit

set_option maxRecDepth 100000 in
set_option maxHeartbeats 16000000 in
theorem rall_len (ao bo : Option Addr) (L M cap cap' : Nat) (w : World) (h : ¬ L = M) : Calls Tryz.prog 41 #[.slice ao L cap, .slice bo M cap'] w fun e w' => e = .returned (.bool false) ∧ Below w.heap.size w w' := by
  have hI : ((L : Int) == (M : Int)) = false := by simp; omega
  have hI' : ¬ (L : Int) = (M : Int) := by omega
  go_enter Tryz.func41, Tryz.ntmps41
  go_wp2_with fail
  go_ret
  exact ⟨rfl, Below.refl _ _⟩
set_option maxRecDepth 100000 in
set_option maxHeartbeats 16000000 in
theorem rall_some (b o cap b' o' cap' : Nat) (qs rs : List Bq) (w : World) (hl : qs.length = rs.length) (hn : qs.length ≤ 100000) (hrg : w.rangeAt b o (bcs qs)) (hrw : ∀ q ∈ qs, Rl (fun _ => True) (fun _ => True) w q.u q.ps) (hrg' : w.rangeAt b' o' (bcs rs)) (hrw' : ∀ q ∈ rs, Rl (fun _ => True) (fun _ => True) w q.u q.ps)
    (hln : ∀ q ∈ qs, (btq q).rs.length ≤ 100000 ∧ ∀ r ∈ (btq q).rs, LnR r) :
    Calls Tryz.prog 41 #[.slice (some ⟨b, o, none⟩) qs.length cap, (.slice (some ⟨b', o', none⟩) qs.length cap')] w fun e w' => e = .returned (.bool (sameBs (bts qs) (bts rs))) ∧ Below w.heap.size w w' := by
  have HR := hide hrg
  have HW := hide hrw
  have HR' := hide hrg'
  have HW' := hide hrw'
  have HL := hide hln
  have HLE := hide hl
  clear hrg hrw hrg' hrw' hln hl
  go_enter Tryz.func41, Tryz.ntmps41
  go_wp2_with fail
  go_loopw [5] (fun i wr => ∃ j : Nat, j ≤ qs.length ∧ i = .int .i64 (j : Int) ∧ Hid (∀ i, i < j → sameBt ((bts qs).getD i Bt.zero) ((bts rs).getD i Bt.zero) = true) ∧ Below w.heap.size w wr) (fun i _ => qs.length - (intOf i).toNat)
  case atStart => exact ⟨0, Nat.zero_le _, rfl, hide (fun i hi => by omega), Below.refl _ _⟩
  case round =>
    obtain ⟨j, hj, rfl, HA, hb⟩ := hrel
    have HB := hide hb
    clear hb
    by_cases hlt : j < qs.length
    · have hlt' : j < rs.length := by have := HLE.out; omega
      have hltI : (j : Int) < (qs.length : Int) := by omega
      have HE := hide (range_bel (brange_at HR.out hlt) HB.out)
      have HE' := hide (range_bel (brange_at HR'.out hlt') HB.out)
      have HP := hide ((HW.out _ (List.getElem_mem hlt)).below HB.out)
      have HP' := hide ((HW'.out _ (List.getElem_mem hlt')).below HB.out)
      have HLX := hide (HL.out _ (List.getElem_mem hlt))
      have HN := hide (fun h => sameBs_no hlt hlt' h)
      have HK : Hid (sameBt (btq qs[j]) (btq rs[j]) = true → ∀ i, i < j + 1 → sameBt ((bts qs).getD i Bt.zero) ((bts rs).getD i Bt.zero) = true) := hide (fun h i hi => by
        by_cases e : i = j
        · subst e; rw [bts_at hlt, bts_at hlt']; exact h
        · exact HA.out i (by omega))
      generalize qs[j] = p at *
      generalize rs[j] = q at *
      have HF : Hid (∀ W, Below wr.heap.size wr W → (fun W : World => (W.rangeAt b (o + j * 3) (bce p) ∧ W.rangeAt b' (o' + j * 3) (bce q))) W) := hide (fun W h => ⟨range_bel HE.out h, range_bel HE'.out h⟩)
      have HC := hide (fun W (h : Below wr.heap.size wr W) => rbsame_any (btq p) (btq q) (.agg (bce p).toArray) (.agg (bce q).toArray) W (okb := fun _ => True) (ok := fun _ => True) (okb' := fun _ => True) (ok' := fun _ => True) ⟨p.u, p.ps, rfl, HP.out.below h, rfl⟩ ⟨q.u, q.ps, rfl, HP'.out.below h, rfl⟩ HLX.out.1 HLX.out.2)
      have HS0 := hide (hs_drew HF.out (Nat.le_refl _))
      clear HE HE' HP HP' HLX HW HW' HR HR' HL
      go_upto_region 6 with fail
      cases hs : sameBt (btq p) (btq q) with
      | true =>
        rw [hs] at HC
        refine wp_region_held_drew (S := fun W => (W.rangeAt b (o + j * 3) (bce p) ∧ W.rangeAt b' (o' + j * 3) (bce q)) ∧ Below wr.heap.size wr W ∧ wr.heap.size ≤ W.heap.size) (by kernel_rfl) HS0.out (fun hHeld => ?_)
        refine wpAnyH_take (i := 0) (oi := _) (v := .slice (some ⟨b, o, none⟩) qs.length cap) rfl (by kernel_rfl) (by kernel_rfl) (by kernel_rfl) (fun _ _ _ h => h) (Or.inl ⟨by rfl, by intro w hSw; go_simp⟩) hHeld ?_
        change wpAnyH _ _ _ _ _ _ _ (Act.put _ (some 17) _) _
        simp only [Act.put, List.setIfInBounds_toArray, List.set_cons_zero, List.set_cons_succ]
        refine wpAnyH_take (i := 1) (oi := _) (v := .int .i64 (j : Int)) rfl (by kernel_rfl) (by kernel_rfl) (by kernel_rfl) (fun _ _ _ h => h) (Or.inl ⟨by rfl, by intro w hSw; go_simp⟩) hHeld ?_
        change wpAnyH _ _ _ _ _ _ _ (Act.put _ (some 18) _) _
        simp only [Act.put, List.setIfInBounds_toArray, List.set_cons_zero, List.set_cons_succ]
        refine wpAnyH_take (i := 2) (oi := _) (v := .pointer (some ⟨b, o + j * 3, none⟩)) rfl (by kernel_rfl) (by kernel_rfl) (by kernel_rfl) (fun _ _ _ h => h) (Or.inl ⟨by rfl, by intro w hSw; go_simp⟩) hHeld ?_
        change wpAnyH _ _ _ _ _ _ _ (Act.put _ (some 19) _) _
        simp only [Act.put, List.setIfInBounds_toArray, List.set_cons_zero, List.set_cons_succ]
        refine wpAnyH_take (i := 3) (oi := _) (v := _) rfl (by kernel_rfl) (by kernel_rfl) (by kernel_rfl) (fun _ _ _ h => h) (yieldsIf_load_mid (by rfl) _ _ rfl _ _ rfl (bce p) _ (fun W hW => hW.1.1) Tryz.underlying55 rfl (by kernel_rfl)) hHeld ?_
        change wpAnyH _ _ _ _ _ _ _ (Act.put _ (some 20) _) _
        simp only [Act.put, List.setIfInBounds_toArray, List.set_cons_zero, List.set_cons_succ]
        refine wpAnyH_take (i := 4) (oi := _) (v := (.slice (some ⟨b', o', none⟩) qs.length cap')) rfl (by kernel_rfl) (by kernel_rfl) (by kernel_rfl) (fun _ _ _ h => h) (Or.inl ⟨by rfl, by intro w hSw; go_simp⟩) hHeld ?_
        change wpAnyH _ _ _ _ _ _ _ (Act.put _ (some 21) _) _
        simp only [Act.put, List.setIfInBounds_toArray, List.set_cons_zero, List.set_cons_succ]
        refine wpAnyH_take (i := 5) (oi := _) (v := .int .i64 (j : Int)) rfl (by kernel_rfl) (by kernel_rfl) (by kernel_rfl) (fun _ _ _ h => h) (Or.inl ⟨by rfl, by intro w hSw; go_simp⟩) hHeld ?_
        change wpAnyH _ _ _ _ _ _ _ (Act.put _ (some 22) _) _
        simp only [Act.put, List.setIfInBounds_toArray, List.set_cons_zero, List.set_cons_succ]
        refine wpAnyH_take (i := 6) (oi := _) (v := .pointer (some ⟨b', o' + j * 3, none⟩)) rfl (by kernel_rfl) (by kernel_rfl) (by kernel_rfl) (fun _ _ _ h => h) (Or.inl ⟨by rfl, by intro w hSw; go_simp⟩) hHeld ?_
        change wpAnyH _ _ _ _ _ _ _ (Act.put _ (some 23) _) _
        simp only [Act.put, List.setIfInBounds_toArray, List.set_cons_zero, List.set_cons_succ]
        refine wpAnyH_take (i := 7) (oi := _) (v := _) rfl (by kernel_rfl) (by kernel_rfl) (by kernel_rfl) (fun _ _ _ h => h) (yieldsIf_load_mid (by rfl) _ _ rfl _ _ rfl (bce q) _ (fun W hW => hW.1.2) Tryz.underlying55 rfl (by kernel_rfl)) hHeld ?_
        change wpAnyH _ _ _ _ _ _ _ (Act.put _ (some 24) _) _
        simp only [Act.put, List.setIfInBounds_toArray, List.set_cons_zero, List.set_cons_succ]
        refine wpAnyH_ready (rs := [8]) (by kernel_rfl) (by simp) ?_
        refine AllReadyH.cons (o := _) rfl (fun K hK => ?_) AllReadyH.nil
        go_simp
        go_at_call 70
        refine (HC.out _ hHeld.2.1).mono ?_
        rintro e w44 ⟨rfl, hb⟩
        go_wp2_with fail
        refine hK.out _ _ ?_ (fun hHeld1 => ?_)
        · exact hs_call HF.out hb hHeld
        clear hK K hHeld
        have hHeld := hHeld1
        clear hHeld1
        clear hb
        refine wpAnyH_take (i := 9) (oi := _) (v := .bool false) rfl (by kernel_rfl) (by kernel_rfl) (by kernel_rfl) (fun _ _ _ h => h) (Or.inl ⟨by rfl, by intro w hSw; go_simp⟩) hHeld ?_
        change wpAnyH _ _ _ _ _ _ _ (Act.put _ (some 26) _) _
        simp only [Act.put, List.setIfInBounds_toArray, List.set_cons_zero, List.set_cons_succ]
        refine wpAnyH_done (by kernel_rfl) ?_ _
        have HBF := hide (HB.out.trans (hHeld.2.1.mono HB.out.size))
        clear hHeld
        go_wp2_with fail
        go_roundw
        case rel => exact ⟨j + 1, by omega, by go_num, hide (HK.out hs), HBF.out⟩
        case measure => simp [intOf]; omega
      | false =>
        rw [hs] at HC
        refine wp_region_held_drew (S := fun W => (W.rangeAt b (o + j * 3) (bce p) ∧ W.rangeAt b' (o' + j * 3) (bce q)) ∧ Below wr.heap.size wr W ∧ wr.heap.size ≤ W.heap.size) (by kernel_rfl) HS0.out (fun hHeld => ?_)
        refine wpAnyH_take (i := 0) (oi := _) (v := .slice (some ⟨b, o, none⟩) qs.length cap) rfl (by kernel_rfl) (by kernel_rfl) (by kernel_rfl) (fun _ _ _ h => h) (Or.inl ⟨by rfl, by intro w hSw; go_simp⟩) hHeld ?_
        change wpAnyH _ _ _ _ _ _ _ (Act.put _ (some 17) _) _
        simp only [Act.put, List.setIfInBounds_toArray, List.set_cons_zero, List.set_cons_succ]
        refine wpAnyH_take (i := 1) (oi := _) (v := .int .i64 (j : Int)) rfl (by kernel_rfl) (by kernel_rfl) (by kernel_rfl) (fun _ _ _ h => h) (Or.inl ⟨by rfl, by intro w hSw; go_simp⟩) hHeld ?_
        change wpAnyH _ _ _ _ _ _ _ (Act.put _ (some 18) _) _
        simp only [Act.put, List.setIfInBounds_toArray, List.set_cons_zero, List.set_cons_succ]
        refine wpAnyH_take (i := 2) (oi := _) (v := .pointer (some ⟨b, o + j * 3, none⟩)) rfl (by kernel_rfl) (by kernel_rfl) (by kernel_rfl) (fun _ _ _ h => h) (Or.inl ⟨by rfl, by intro w hSw; go_simp⟩) hHeld ?_
        change wpAnyH _ _ _ _ _ _ _ (Act.put _ (some 19) _) _
        simp only [Act.put, List.setIfInBounds_toArray, List.set_cons_zero, List.set_cons_succ]
        refine wpAnyH_take (i := 3) (oi := _) (v := _) rfl (by kernel_rfl) (by kernel_rfl) (by kernel_rfl) (fun _ _ _ h => h) (yieldsIf_load_mid (by rfl) _ _ rfl _ _ rfl (bce p) _ (fun W hW => hW.1.1) Tryz.underlying55 rfl (by kernel_rfl)) hHeld ?_
        change wpAnyH _ _ _ _ _ _ _ (Act.put _ (some 20) _) _
        simp only [Act.put, List.setIfInBounds_toArray, List.set_cons_zero, List.set_cons_succ]
        refine wpAnyH_take (i := 4) (oi := _) (v := (.slice (some ⟨b', o', none⟩) qs.length cap')) rfl (by kernel_rfl) (by kernel_rfl) (by kernel_rfl) (fun _ _ _ h => h) (Or.inl ⟨by rfl, by intro w hSw; go_simp⟩) hHeld ?_
        change wpAnyH _ _ _ _ _ _ _ (Act.put _ (some 21) _) _
        simp only [Act.put, List.setIfInBounds_toArray, List.set_cons_zero, List.set_cons_succ]
        refine wpAnyH_take (i := 5) (oi := _) (v := .int .i64 (j : Int)) rfl (by kernel_rfl) (by kernel_rfl) (by kernel_rfl) (fun _ _ _ h => h) (Or.inl ⟨by rfl, by intro w hSw; go_simp⟩) hHeld ?_
        change wpAnyH _ _ _ _ _ _ _ (Act.put _ (some 22) _) _
        simp only [Act.put, List.setIfInBounds_toArray, List.set_cons_zero, List.set_cons_succ]
        refine wpAnyH_take (i := 6) (oi := _) (v := .pointer (some ⟨b', o' + j * 3, none⟩)) rfl (by kernel_rfl) (by kernel_rfl) (by kernel_rfl) (fun _ _ _ h => h) (Or.inl ⟨by rfl, by intro w hSw; go_simp⟩) hHeld ?_
        change wpAnyH _ _ _ _ _ _ _ (Act.put _ (some 23) _) _
        simp only [Act.put, List.setIfInBounds_toArray, List.set_cons_zero, List.set_cons_succ]
        refine wpAnyH_take (i := 7) (oi := _) (v := _) rfl (by kernel_rfl) (by kernel_rfl) (by kernel_rfl) (fun _ _ _ h => h) (yieldsIf_load_mid (by rfl) _ _ rfl _ _ rfl (bce q) _ (fun W hW => hW.1.2) Tryz.underlying55 rfl (by kernel_rfl)) hHeld ?_
        change wpAnyH _ _ _ _ _ _ _ (Act.put _ (some 24) _) _
        simp only [Act.put, List.setIfInBounds_toArray, List.set_cons_zero, List.set_cons_succ]
        refine wpAnyH_ready (rs := [8]) (by kernel_rfl) (by simp) ?_
        refine AllReadyH.cons (o := _) rfl (fun K hK => ?_) AllReadyH.nil
        go_simp
        go_at_call 70
        refine (HC.out _ hHeld.2.1).mono ?_
        rintro e w44 ⟨rfl, hb⟩
        go_wp2_with fail
        refine hK.out _ _ ?_ (fun hHeld1 => ?_)
        · exact hs_call HF.out hb hHeld
        clear hK K hHeld
        have hHeld := hHeld1
        clear hHeld1
        clear hb
        refine wpAnyH_take (i := 9) (oi := _) (v := .bool true) rfl (by kernel_rfl) (by kernel_rfl) (by kernel_rfl) (fun _ _ _ h => h) (Or.inl ⟨by rfl, by intro w hSw; go_simp⟩) hHeld ?_
        change wpAnyH _ _ _ _ _ _ _ (Act.put _ (some 26) _) _
        simp only [Act.put, List.setIfInBounds_toArray, List.set_cons_zero, List.set_cons_succ]
        refine wpAnyH_done (by kernel_rfl) ?_ _
        have HBF := hide (HB.out.trans (hHeld.2.1.mono HB.out.size))
        clear hHeld
        go_wp2_with fail
        go_ret
        exact ⟨ret_b (HN.out hs), HBF.out⟩
    · obtain rfl : j = qs.length := by omega
      have hf := sameBs_yes HLE.out HA.out
      clear hlt HR HR' HW HW' HL
      go_wp2_with fail
      go_ret
      exact ⟨ret_b hf, HB.out⟩
theorem rall_any (ao bo : Option Addr) (cap cap' : Nat) (ps qs : List Bq) (w : World) (hv : Bl w (.slice ao ps.length cap) ps) (hu : Bl w (.slice bo qs.length cap') qs) (hn : ps.length ≤ 100000) (hln : ∀ p ∈ ps, (btq p).rs.length ≤ 100000 ∧ ∀ r ∈ (btq p).rs, LnR r) :
    Calls Tryz.prog 41 #[.slice ao ps.length cap, .slice bo qs.length cap'] w fun e w' => e = .returned (.bool (sameBs (bts ps) (bts qs))) ∧ Below w.heap.size w w' := by
  by_cases hl : ps.length = qs.length
  · by_cases h0 : 0 < ps.length
    · obtain ⟨b, o, rfl, h1⟩ := hv.rg h0
      obtain ⟨b', o', rfl, h2⟩ := hu.rg (by omega)
      have := rall_some b o cap b' o' cap' ps qs w hl hn h1 hv.2 h2 hu.2 hln
      rwa [show Value.slice (some ⟨b', o', none⟩) qs.length cap' = .slice (some ⟨b', o', none⟩) ps.length cap' by rw [hl]]
    · have e1 : ps = [] := List.length_eq_zero_iff.1 (by omega)
      have e2 : qs = [] := List.length_eq_zero_iff.1 (by omega)
      subst e1 e2
      exact all_none ao bo cap cap' w
  · rw [sameBs_len (by rw [bts_len, bts_len]; exact hl)]
    exact rall_len ao bo _ _ cap cap' w hl
set_option maxRecDepth 100000 in
set_option maxHeartbeats 16000000 in
theorem rmsame_ego (k fr tn t ld pa pt hi co sz po : Int) (pre ok : Bool) (ab ad ab' ad' : Option Addr) (nb cb nd cd nb' cb' nd' cd' : Nat) (w : World)
    (HSN : Hid (∀ W, Below w.heap.size w W → Calls Tryz.prog 18 #[.slice ad nd cd, .slice ad' nd' cd'] W fun e w' => e = .returned (.bool true) ∧ Below W.heap.size W w'))
    (HEQ : Hid (∀ W, Below w.heap.size w W → Calls Tryz.prog 41 #[.slice ab nb cb, .slice ab' nb' cb'] W fun e w' => e = .returned (.bool true) ∧ Below W.heap.size W w')) :
    Calls Tryz.prog 14 #[.agg #[.int .i64 k, .int .i64 fr, .int .i64 tn, .int .i64 t, .bool pre, .bool ok, .int .i64 ld, .int .i64 pa, .int .i64 pt, .int .i64 hi, .int .i64 co, .slice ab nb cb, .int .i64 sz, .int .i64 po, .slice ad nd cd], .agg #[.int .i64 k, .int .i64 fr, .int .i64 tn, .int .i64 t, .bool pre, .bool ok, .int .i64 ld, .int .i64 pa, .int .i64 pt, .int .i64 hi, .int .i64 co, .slice ab' nb' cb', .int .i64 sz, .int .i64 po, .slice ad' nd' cd']] w fun e w' => e = .returned (.bool true) ∧ Below w.heap.size w w' := by
  obtain ⟨X, hX⟩ : ∃ X, X = (w.alloc (.cells #[.int .i64 k, .int .i64 fr, .int .i64 tn, .int .i64 t, .bool pre, .bool ok, .int .i64 ld, .int .i64 pa, .int .i64 pt, .int .i64 hi, .int .i64 co, .slice ab nb cb, .int .i64 sz, .int .i64 po, .slice ad nd cd] 25)).alloc (.cells #[.int .i64 k, .int .i64 fr, .int .i64 tn, .int .i64 t, .bool pre, .bool ok, .int .i64 ld, .int .i64 pa, .int .i64 pt, .int .i64 hi, .int .i64 co, .slice ab' nb' cb', .int .i64 sz, .int .i64 po, .slice ad' nd' cd'] 25) := ⟨_, rfl⟩
  obtain ⟨hb0, hqa, hqb⟩ := two_in w [.int .i64 k, .int .i64 fr, .int .i64 tn, .int .i64 t, .bool pre, .bool ok, .int .i64 ld, .int .i64 pa, .int .i64 pt, .int .i64 hi, .int .i64 co, .slice ab nb cb, .int .i64 sz, .int .i64 po, .slice ad nd cd] [.int .i64 k, .int .i64 fr, .int .i64 tn, .int .i64 t, .bool pre, .bool ok, .int .i64 ld, .int .i64 pa, .int .i64 pt, .int .i64 hi, .int .i64 co, .slice ab' nb' cb', .int .i64 sz, .int .i64 po, .slice ad' nd' cd'] hX
  have HB := hide hb0
  have HQA := hide hqa
  have HQB := hide hqb
  clear hb0 hqa hqb
  go_enter Tryz.func14, Tryz.ntmps14
  go_upto_region 1 with fail
  rw [← hX]
  clear hX
  obtain ⟨i0, i1, i2, i3, i4, i5, i6, i7, i8, i9, i10, i11, i12, i13, i14⟩ := C15.of HQA.out
  obtain ⟨j0, j1, j2, j3, j4, j5, j6, j7, j8, j9, j10, j11, j12, j13, j14⟩ := C15.of HQB.out
  go_wp2_with (first | (go_at_call 18; refine (HSN.out _ HB.out).mono ?_; rintro e V ⟨rfl, hb1⟩; have HB1 := hide (HB.out.trans (hb1.mono HB.out.size)); have HA1 := C15.of (range_bel HQA.out hb1); have HB2 := C15.of (range_bel HQB.out hb1); clear hb1 i0 i1 i2 i3 i4 i5 i6 i7 i8 i9 i10 i11 i12 i13 i14 j0 j1 j2 j3 j4 j5 j6 j7 j8 j9 j10 j11 j12 j13 j14; obtain ⟨i0, i1, i2, i3, i4, i5, i6, i7, i8, i9, i10, i11, i12, i13, i14⟩ := HA1; obtain ⟨j0, j1, j2, j3, j4, j5, j6, j7, j8, j9, j10, j11, j12, j13, j14⟩ := HB2) | (go_at_call 41; refine (HEQ.out _ HB1.out).mono ?_; rintro e V3 ⟨rfl, hb3⟩; have HB3 := hide (HB1.out.trans (hb3.mono HB1.out.size)); clear hb3))
  go_ret
  exact ⟨rfl, HB3.out⟩
theorem rmsame_eq (a : Ms) (v u : Value) (w : World) (hv : IsM w v a) (hu : IsM w u a) (hd : a.da.length ≤ 40000) (hn : a.bs.length ≤ 100000) (hln : LnM a) : Calls Tryz.prog 14 #[v, u] w fun e w' => e = .returned (.bool true) ∧ Below w.heap.size w w' := by
  obtain ⟨ab, cb, ad, cd, qs, rfl, hm⟩ := isM_form hv
  obtain ⟨ab', cb', ad', cd', qs', rfl, hm'⟩ := isM_form hu
  have heq := fun W (h : Below w.heap.size w W) => rall_any ab ab' cb cb' qs qs' W (by rw [hm.len]; exact hm.bl.below h) (by rw [hm'.len]; exact hm'.bl.below h) (by rw [hm.len]; exact hn) (fun p hp => hln (btq p) (by rw [← hm.bs]; exact List.mem_map.2 ⟨p, hp, rfl⟩))
  rw [hm.len, hm'.len, hm.bs, hm'.bs, sameBs_self] at heq
  exact rmsame_ego a.k a.fr a.tn a.t a.ld a.pa a.pt a.hi a.co a.sz a.po a.pre a.ok ab ad ab' ad' _ cb _ cd _ cb' _ cd' w (hide (fun W h => same_bytes _ _ _ W (hm.da.below h) (hm'.da.below h) hd)) (hide heq)
theorem shM_data {m : Ms} (h : 800 < m.da.length) : shM m = false := by
  unfold shM
  rw [decide_eq_false (by omega), Bool.false_and]
theorem shM_bats {m : Ms} (h : 12 < m.bs.length) : shM m = false := by
  unfold shM
  rw [decide_eq_false (show ¬ m.bs.length ≤ 12 by omega), Bool.false_and, Bool.and_false]
theorem shM_no {m : Ms} {x : Bt} (hx : x ∈ m.bs) (h : shL x.rs = false) : shM m = false := by
  unfold shM
  have : (m.bs.all fun x => shL x.rs) = false := by
    rw [List.all_eq_false]
    exact ⟨x, hx, by simp [h]⟩
  rw [this, Bool.and_false, Bool.and_false]
set_option maxRecDepth 100000 in
set_option maxHeartbeats 16000000 in
theorem rmshort_any (m : Ms) (v : Value) (w : World) (hv : IsM w v m) : Calls Tryz.prog 8 #[v] w fun e w' => e = .returned (.bool (shM m)) ∧ Below w.heap.size w w' := by
  obtain ⟨ab, cb, ad, cd, qs, rfl, hm⟩ := isM_form hv
  have HSD := hide (fun h => shM_data (m := m) h)
  have HSB := hide (fun h => shM_bats (m := m) h)
  have HSN := hide (fun (x : Bt) (hx : x ∈ m.bs) h => shM_no hx h)
  have HSY : Hid (m.da.length ≤ 800 → m.bs.length ≤ 12 → (∀ x ∈ m.bs, shL x.rs = true) → shM m = true) := hide (fun h1 h2 h3 => by unfold shM; rw [decide_eq_true h1, decide_eq_true h2, List.all_eq_true.2 h3]; rfl)
  have HM := hide hm
  have hlen := hm.len
  generalize hR : shM m = R at *
  clear hR hv hm
  obtain ⟨X, hX⟩ : ∃ X, X = w.alloc (.cells #[.int .i64 m.k, .int .i64 m.fr, .int .i64 m.tn, .int .i64 m.t, .bool m.pre, .bool m.ok, .int .i64 m.ld, .int .i64 m.pa, .int .i64 m.pt, .int .i64 m.hi, .int .i64 m.co, .slice ab m.bs.length cb, .int .i64 m.sz, .int .i64 m.po, .slice ad m.da.length cd] 25) := ⟨_, rfl⟩
  have HQ : Hid (X.rangeAt w.heap.size 0 [.int .i64 m.k, .int .i64 m.fr, .int .i64 m.tn, .int .i64 m.t, .bool m.pre, .bool m.ok, .int .i64 m.ld, .int .i64 m.pa, .int .i64 m.pt, .int .i64 m.hi, .int .i64 m.co, .slice ab m.bs.length cb, .int .i64 m.sz, .int .i64 m.po, .slice ad m.da.length cd]) := hide (by rw [hX]; exact range_new w _ _)
  have HB : Hid (Below w.heap.size w X) := hide (by rw [hX]; exact (Below.refl _ _).alloc (Nat.le_refl _) _)
  unfold cellsM
  go_enter Tryz.func8, Tryz.ntmps8
  go_upto_region 1 with fail
  rw [← hX]
  clear hX
  obtain ⟨i0, i1, i2, i3, i4, i5, i6, i7, i8, i9, i10, i11, i12, i13, i14⟩ := C15.of HQ.out
  by_cases h8 : 800 < m.da.length
  · have h8I : (800 : Int) < (m.da.length : Int) := by omega
    go_wp2_with fail
    go_ret
    exact ⟨ret_b (HSD.out h8), HB.out⟩
  have h8I : ¬ (800 : Int) < (m.da.length : Int) := by omega
  by_cases h12 : 12 < m.bs.length
  · have h12I : (12 : Int) < (m.bs.length : Int) := by omega
    go_wp2_with fail
    go_ret
    exact ⟨ret_b (HSB.out h12), HB.out⟩
  have h12I : ¬ (12 : Int) < (m.bs.length : Int) := by omega
  go_wp2_with fail
  go_loopw [3] (fun i wr => ∃ j : Nat, j ≤ m.bs.length ∧ i = .int .i64 (j : Int) ∧ Hid (∀ x ∈ m.bs.take j, shL x.rs = true) ∧ Hid (Below X.heap.size X wr)) (fun i _ => m.bs.length - (intOf i).toNat)
  case atStart => exact ⟨0, Nat.zero_le _, rfl, hide (fun x hx => by simp at hx), hide (Below.refl _ _)⟩
  case round =>
    clear i0 i1 i2 i3 i4 i5 i6 i7 i8 i9 i10 i11 i12 i13 i14
    obtain ⟨j, hj, rfl, HA, HX⟩ := hrel
    have HBW := hide (HB.out.trans (HX.out.mono HB.out.size))
    obtain ⟨i0, i1, i2, i3, i4, i5, i6, i7, i8, i9, i10, i11, i12, i13, i14⟩ := C15.of (range_bel HQ.out HX.out)
    by_cases hlt : j < m.bs.length
    · have hltI : (j : Int) < (m.bs.length : Int) := by omega
      have hlq : j < qs.length := by omega
      have hbj : m.bs[j] = btq qs[j] := by have := HM.out.bs; simp only [← this, bts, List.getElem_map]
      obtain ⟨b, o, rfl, hrg⟩ := HM.out.bl.rg (by omega)
      have c2 := range_bel (brange_at hrg hlq) HBW.out 2 _ rfl
      have HP := hide ((HM.out.bl.2 _ (List.getElem_mem hlq)).below HBW.out)
      have HKE : Hid (shL (btq qs[j]).rs = true → ∀ x ∈ m.bs.take (j + 1), shL x.rs = true) := hide (fun h x hx => by
        rw [List.take_succ_eq_append_getElem hlt, hbj] at hx
        rcases List.mem_append.1 hx with q | q
        · exact HA.out x q
        · simp at q; subst q; exact h)
      have HNO := hide (HSN.out m.bs[j] (List.getElem_mem hlt))
      rw [hbj] at HNO
      clear hbj
      generalize qs[j] = p at *
      obtain ⟨pt', pb', pu, pps⟩ := p
      simp only [btq] at HKE HNO HP
      obtain ⟨a3, c3, e3⟩ := HP.out.form
      subst e3
      have HC := hide (bshort_any _ pps wr HP.out)
      cases hs : shL (rcl pps) with
      | true =>
        rw [hs] at HC
        go_wp2_with (first | (go_at_call 21; refine HC.out.mono ?_; rintro e w1 ⟨rfl, hb1⟩; have HB1 := hide (HX.out.trans (hb1.mono HX.out.size)); clear hb1))
        go_roundw
        case rel => exact ⟨j + 1, by omega, by go_num, hide (HKE.out hs), HB1⟩
        case measure => simp [intOf]; omega
      | false =>
        rw [hs] at HC
        go_wp2_with (first | (go_at_call 21; refine HC.out.mono ?_; rintro e w1 ⟨rfl, hb1⟩; have HB1 := hide (HBW.out.trans (hb1.mono HBW.out.size)); clear hb1))
        go_ret
        exact ⟨ret_b (HNO.out hs), HB1.out⟩
    · obtain rfl : j = m.bs.length := by omega
      have hf := HSY.out (by omega) (by omega) (by have := HA.out; rwa [List.take_length] at this)
      clear hlt
      go_wp2_with fail
      go_ret
      exact ⟨ret_b hf, HBW.out⟩
end Go.Proofs.YtkpknkhacmggnaaGreatDoor
