/-
  THE CHAPTER'S EXAMPLE OF A BATCH: it may be, its bytes, and what they are read as. No condition.
-/
import Derived.Test.YtgbcjmpnkejpeaaGreatDoorJBatOfa3
import Derived.Test.YtgbcjmpnkejpeaaGreatDoorJBatNxa2
import Derived.Test.YtgbcjmpnkejpeaaGreatDoorJBatCla3
namespace Go.Proofs.YtgbcjmpnkejpeaaGreatDoor
open Go.RowKit

def rn0 : Rc := ⟨1, 0, 0, 0, 0, 0, 0, 0, 0, false, [], [], [], [], [], [], [], []⟩
def rn1 : Rc := ⟨11, 0, 0, 2, 0, 0, 0, 0, 0, false, [], [], [], [], [], [], [], []⟩
def pl0 : Pl := ⟨none, none, none, none, 0, 0, 0, 0⟩
def exB : Bt := ⟨3, 9, [rn0, rn1]⟩
theorem chk0 : (chk rn0).2.2 = 0 := by decide
theorem chk1 : (chk rn1).2.2 = 0 := by decide
theorem ex_ok : (bw exB).c = 0 := by
  rw [bw_of (x := exB) (by decide) (by decide) (by decide) (fun r hr => by
    simp only [exB, List.mem_cons, List.not_mem_nil, or_false] at hr
    rcases hr with rfl | rfl
    · exact chk0
    · exact chk1)]
theorem ex_len : (bytL exB).length ≤ 300 := by decide
theorem ex_tx : ∀ r ∈ exB.rs, TxR r := fun r hr => by
  simp only [exB, List.mem_cons, List.not_mem_nil, or_false] at hr
  rcases hr with rfl | rfl <;> exact ⟨by decide, by decide, by decide, by decide⟩
theorem ex_ln : ∀ r ∈ exB.rs, LnR r := fun r hr => by
  simp only [exB, List.mem_cons, List.not_mem_nil, or_false] at hr
  rcases hr with rfl | rfl <;> exact ⟨by decide, by decide, by decide, by decide⟩
theorem rw_nil0 (ok : Nat → Prop) (W : World) (r : Rc) (h1 : r.ids = []) (h2 : r.isr = []) (h3 : r.ad = []) (h4 : r.dr = []) : RwP ok W (r, pl0) := by
  have hn : ∀ l : List Int, l = [] → Sli ok W (.slice none l.length 0) l := fun l e => by subst e; exact Sli.nil _ _ _ _
  exact ⟨hn _ h1, hn _ h2, hn _ h3, hn _ h4⟩
theorem build_two (W : World) : (Instr.buildSlice 46 2 #[(0, .agg (cel (rn0, pl0)).toArray), (1, .agg (cel (rn1, pl0)).toArray)]).run Tryz.prog W = .ok (.slice (some ⟨W.heap.size, 0, none⟩) 2 2) (W.alloc (.cells (rcs [(rn0, pl0), (rn1, pl0)]).toArray 35)) := by kernel_rfl
theorem wpList_build_two {ops : Array Oper} {rest : List Oper} {o : Oper} {a : Act} {w : World} {Q : Exit → Act → World → Prop} (hgd : o.guard = none) (x y : Operand) (ho : o.op = .buildSlice 46 2 #[(0, x), (1, y)]) (hx : a.eval x = .agg (cel (rn0, pl0)).toArray) (hy : a.eval y = .agg (cel (rn1, pl0)).toArray)
    (h : wpList Tryz.prog ops Q rest (a.put o.dst (.slice (some ⟨w.heap.size, 0, none⟩) 2 2)) (w.alloc (.cells (rcs [(rn0, pl0), (rn1, pl0)]).toArray 35))) : wpList Tryz.prog ops Q (o :: rest) a w := by
  refine wpList_plain hgd fun K hK => ?_
  have hb := build_two w
  unfold Oper.wp
  simp only [execOp, ho, List.map_toArray, List.map_cons, List.map_nil, hx, hy]
  simp [hb, Result.andThen]
  exact hK _ _ h
theorem ex_rl (w : World) : Rl (fun _ => True) (fun _ => True) (w.alloc (.cells (rcs [(rn0, pl0), (rn1, pl0)]).toArray 35)) (.slice (some ⟨w.heap.size, 0, none⟩) 2 2) [(rn0, pl0), (rn1, pl0)] := by
  refine ⟨.inr ⟨w.heap.size, 0, 2, rfl, by decide, trivial, by decide, range_new w _ _⟩, fun p hp => ?_⟩
  simp only [List.mem_cons, List.not_mem_nil, or_false] at hp
  rcases hp with rfl | rfl
  · exact rw_nil0 _ _ _ rfl rfl rfl rfl
  · exact rw_nil0 _ _ _ rfl rfl rfl rfl
theorem isB_form {okb ok : Nat → Prop} {W : World} {v : Value} {x : Bt} (h : IsB okb ok W v x) : ∃ ao cap ps, v = .agg #[.int .i64 x.t, .int .i64 x.b, .slice ao x.rs.length cap] ∧ Rl okb ok W (.slice ao x.rs.length cap) ps ∧ rcl ps = x.rs := by
  obtain ⟨u, ps, rfl, h2, h3⟩ := h
  obtain ⟨ao, cap, rfl⟩ := h2.form
  rw [show ps.length = x.rs.length by rw [← h3, rcl_len]] at h2 ⊢
  exact ⟨ao, cap, ps, rfl, h2, h3⟩
theorem isB_ex {okb ok : Nat → Prop} {W : World} {v : Value} (h : IsB okb ok W v exB) : ∃ ao cap ps, v = .agg #[.int .i64 3, .int .i64 9, .slice ao 2 cap] ∧ Rl okb ok W (.slice ao 2 cap) ps ∧ rcl ps = [rn0, rn1] := isB_form h
theorem two_of {ps : List Rp} {r0 r1 : Rc} (h : rcl ps = [r0, r1]) : ∃ p0 p1 : Rp, ps = [p0, p1] ∧ p0.1 = r0 := by
  have hl : ps.length = 2 := by rw [← rcl_len, h]; rfl
  rcases ps with _ | ⟨a, ps⟩
  · simp at hl
  rcases ps with _ | ⟨b, ps⟩
  · simp at hl
  rcases ps with _ | ⟨c, ps⟩
  · exact ⟨a, b, rfl, (List.cons.inj h).1⟩
  · simp at hl
theorem split_first (ao : Option Addr) (cap : Nat) (ps : List Rp) (w : World) (hv : Rl (fun _ => True) (fun _ => True) w (.slice ao 2 cap) ps) (hp : rcl ps = [rn0, rn1]) : 2 ≤ cap ∧ (∃ A, ao = some A) ∧ Rl (fun _ => True) (fun _ => True) w (.slice ao 1 cap) (ps.take 1) ∧ ∃ p, ps.take 1 = [p] ∧ LnR p.1 := by
  obtain ⟨p0, p1, rfl, h0⟩ := two_of hp
  have hl2 : [p0, p1].length = 2 := rfl
  obtain ⟨b, o, rfl, _⟩ := hv.rg (by rw [hl2]; decide)
  refine ⟨?_, ⟨_, rfl⟩, hv.take hl2.symm 1 (by decide) (by rw [hl2]; decide), p0, rfl, ?_⟩
  · rcases hv.1 with ⟨_, _, e, _⟩ | ⟨_, _, c', e, h, _⟩
    · cases e
    · have e3 := (Value.slice.inj e).2.2
      rw [e3]
      exact h
  · rw [h0]; exact ⟨by decide, by decide, by decide, by decide⟩
theorem put_ex {okb ok : Nat → Prop} (v : Value) (w : World) (hv : IsB okb ok w v exB) : Calls Tryz.prog 27 #[v] w fun e w' => ∃ y, e = .returned (.tuple #[y, .nilIface]) ∧ Sl bc w' y (bytL exB) ∧ Below w.heap.size w w' := by
  refine (bput_any exB v w hv ex_tx).mono ?_
  rintro e w' ⟨h1, h2⟩
  rw [if_pos ex_ok, if_pos (Nat.le_trans ex_len (by decide))] at h1
  obtain ⟨y, rfl, ho⟩ := h1
  exact ⟨y, rfl, ho.sl, h2⟩
theorem ex_byt : Byt (bytL exB) := by unfold Byt; decide
theorem read_ex (v : Value) (w : World) (hv : Sl bc w v (bytL exB)) (hg : Hnd w) : Calls Tryz.prog 30 #[v] w fun e w' => ∃ vx, e = .returned (.tuple #[vx, .nilIface]) ∧ IsB (fun k => w.heap.size ≤ k) (fun k => w.heap.size ≤ k) w' vx exB ∧ Below w.heap.size w w' := by
  have h := bread_any v (bytL exB) w hv (Nat.le_trans ex_len (by decide)) ex_byt hg
  rw [readB_back exB ex_ok (Nat.le_trans ex_len (by decide))] at h
  exact h
theorem put_none {okb ok : Nat → Prop} (v : Value) (w : World) (hv : IsB okb ok w v ⟨3, 9, []⟩) : Calls Tryz.prog 27 #[v] w fun e w' => e = .returned (.tuple #[.slice none 0 0, ft ⟨#[114, 101, 99, 111, 114, 100, 115]⟩ 0 6]) ∧ Below w.heap.size w w' := by
  refine (bput_any ⟨3, 9, []⟩ v w hv (fun r hr => by simp at hr)).mono ?_
  rintro e w' ⟨h1, h2⟩
  have hb : bw ⟨3, 9, []⟩ = ⟨⟨#[114, 101, 99, 111, 114, 100, 115]⟩, 0, 6, -1, 0⟩ := rfl
  rw [hb, if_neg (show ¬ (6 : Int) = 0 by decide)] at h1
  exact ⟨h1, h2⟩
theorem same_ex {okb ok okb' ok' : Nat → Prop} (v u : Value) (w : World) (hv : IsB okb ok w v exB) (hu : IsB okb' ok' w u exB) : Calls Tryz.prog 23 #[v, u] w fun e w' => e = .returned (.bool true) ∧ Below w.heap.size w w' := by
  have h := bsame_any exB exB v u w hv hu (by decide) ex_ln
  rw [sameBt_self] at h
  exact h
theorem same_no {okb ok okb' ok' : Nat → Prop} (v u : Value) (w : World) (hv : IsB okb ok w v exB) (hu : IsB okb' ok' w u ⟨3, 9, []⟩) : Calls Tryz.prog 23 #[v, u] w fun e w' => e = .returned (.bool false) ∧ Below w.heap.size w w' := by
  have h := bsame_any exB ⟨3, 9, []⟩ v u w hv hu (by decide) ex_ln
  rw [show sameBt exB ⟨3, 9, []⟩ = false from rfl] at h
  exact h
theorem check_ex {okb ok : Nat → Prop} (v : Value) (w : World) (hv : IsB okb ok w v exB) : Calls Tryz.prog 21 #[v] w fun e w' => e = .returned .nilIface ∧ Below w.heap.size w w' := by
  have h := bcheck_any exB v w hv ex_tx
  rw [show erB (bw exB) = .nilIface from if_pos ex_ok] at h
  exact h
theorem split_ex {okb ok : Nat → Prop} (u : Value) (p : Rp) (w : World) (hv : Rl okb ok w u [p]) (hln : LnR p.1) : Calls Tryz.prog 36 #[.int .i64 1, .int .i64 5, .int .i64 2, u] w fun e w' => ∃ g o cap, e = .returned (.slice (some ⟨g, o, none⟩) 1 cap) ∧ 1 ≤ cap ∧ w'.cell? ⟨g, o + 1, none⟩ = some (.int .i64 5) ∧ Below w.heap.size w w' := by
  refine (split_any 1 5 2 u [p] w (by decide) (by decide) (by decide) hv (by simp) (fun q hq => by simp at hq; subst hq; exact hln)).mono ?_
  rintro e w' ⟨y, qs, k, rfl, h1, h2, h3, h4⟩
  rw [if_pos (by decide)] at h3
  have hk : k = 1 := by
    have h5 := h3.1
    have h6 := h3.2
    simp at h5 h6
    omega
  subst hk
  have hl : qs.length = 1 := by
    have := congrArg List.length h2
    simpa [bts, splitK] using this
  obtain ⟨q, rfl⟩ : ∃ q, qs = [q] := by
    rcases qs with _ | ⟨q, qs⟩
    · simp at hl
    rcases qs with _ | ⟨q', qs⟩
    · exact ⟨q, rfl⟩
    · simp at hl
  have hb : q.b = 5 := by
    have h5 : [btq q] = [_] := h2
    have h6 := (List.cons.inj h5).1
    have h7 : q.b = (5 : Int) + ((0 : Nat) : Int) := congrArg Bt.b h6
    omega
  rcases h1.1 with ⟨_, _, e, _⟩ | ⟨g, o, cap, rfl, e2, _, e4⟩
  · cases e
  · have := e4 1 (.int .i64 q.b) (by rw [bcs_one]; rfl)
    rw [hb] at this
    exact ⟨g, o, cap, rfl, e2, this, h4⟩
/-- A batch in its cells. -/
theorem three_new (w : World) (x y z : Value) : ∀ W, Below (w.alloc (.cells #[x, y, z] 48)).heap.size (w.alloc (.cells #[x, y, z] 48)) W → W.cell? ⟨w.heap.size, 0, none⟩ = some x ∧ W.cell? ⟨w.heap.size, 1, none⟩ = some y ∧ W.cell? ⟨w.heap.size, 2, none⟩ = some z := fun W h => by
  have hc : ∀ i, W.cell? ⟨w.heap.size, i, none⟩ = _ := fun i => h.cell (p := ⟨w.heap.size, i, none⟩) (by simp)
  exact ⟨by rw [hc]; simp, by rw [hc]; simp, by rw [hc]; simp⟩
theorem is_rec (w : World) : Calls Tryz.prog 42 #[ft ⟨#[114, 101, 99, 111, 114, 100, 115]⟩ 0 6, .int .i64 6] w fun e w' => e = .returned (.bool true) ∧ Below w.heap.size w w' := by
  have h := is_ev (some ([(⟨#[114, 101, 99, 111, 114, 100, 115]⟩, 0)], 6)) 6 w
  rw [show isV (some ([(⟨#[114, 101, 99, 111, 114, 100, 115]⟩, 0)], 6)) 6 = true from rfl] at h
  exact h
end Go.Proofs.YtgbcjmpnkejpeaaGreatDoor
