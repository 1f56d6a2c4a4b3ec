/-
  WHERE A TERM ENDS (spans.EndOf: a loop over slices.Backward, left by a return). Condition: the spans' cells hold them; no more than a hundred thousand.
-/
import Derived.Test.YtkihdceieljkgaaDoorSpB
namespace Go.Proofs.YtkihdceieljkgaaDoor
open Go.RowKit Go.Shelf

attribute [local go_sem] Oper.semAt_some

/-- The end behind what has come. -/
def curE (pre : List (Int × Spn)) (z : Int) : Int := match pre.getLast? with | none => z | some p => p.2.2
theorem curE_snoc (pre : List (Int × Spn)) (x : Int × Spn) (z : Int) : curE (pre ++ [x]) z = x.2.2 := by simp [curE]
theorem cur_cmB {l : List Spn} {z : Int} {k : Nat} (hk : k ≤ l.length) : curE (cmB l k) z = nextE l z (l.length - k) := by
  cases k with
  | zero => unfold nextE; rw [if_pos (by omega)]; rfl
  | succ k =>
    rw [cmB_succ, curE_snoc]
    unfold nextE
    rw [if_neg (by omega), show l.length - 1 - k = l.length - (k + 1) by omega]
theorem end_cmB {l : List Spn} {t z : Int} : ∀ {k : Nat}, k ≤ l.length → (∀ p ∈ cmB l k, t < p.2.1) → endL l t z = endL (l.take (l.length - k)) t (nextE l z (l.length - k))
  | 0, _, _ => by
    rw [Nat.sub_zero, List.take_length]
    unfold nextE
    rw [if_pos rfl]
  | k + 1, hk, h => by
    rw [cmB_succ] at h
    have h1 := end_cmB (l := l) (t := t) (z := z) (k := k) (by omega) (fun p hp => h p (List.mem_append.2 (.inl hp)))
    have h2 := h _ (List.mem_append.2 (.inr (List.mem_singleton.2 rfl)))
    have hm : l.length - 1 - k < l.length := by omega
    simp only [List.getElem?_eq_getElem hm, Option.getD_some] at h2
    rw [show l.length - k = l.length - 1 - k + 1 by omega] at h1
    have h3 := end_on hm h1 (by omega)
    rwa [show l.length - 1 - k = l.length - (k + 1) by omega] at h3
theorem end_none {l : List Spn} {t z : Int} (h : ∀ p ∈ cmB l l.length, t < p.2.1) : endL l t z = none := by
  rw [end_cmB (Nat.le_refl _) h, Nat.sub_self, List.take_zero]
  rfl
theorem end_some {l : List Spn} {t z : Int} {k : Nat} {ini : List (Int × Spn)} {last : Int × Spn} (hk : k ≤ l.length) (e : cmB l k = ini ++ [last]) (h : ∀ p ∈ ini, t < p.2.1) (hl : last.2.1 ≤ t) : endL l t z = some (last.2.1, curE ini z) := by
  cases k with
  | zero => simp [cmB] at e
  | succ k =>
    rw [cmB_succ] at e
    obtain ⟨e1, e2⟩ := List.append_inj' e rfl
    have e3 := (List.cons.inj e2).1
    have hm : l.length - 1 - k < l.length := by omega
    rw [← e1] at h
    have h1 := end_cmB (l := l) (t := t) (z := z) (k := k) (by omega) h
    rw [show l.length - k = l.length - 1 - k + 1 by omega] at h1
    rw [List.getElem?_eq_getElem hm, Option.getD_some] at e3
    have h4 : last.2 = l[l.length - 1 - k] := by rw [← e3]
    rw [← e1, cur_cmB (by omega), show l.length - k = l.length - 1 - k + 1 by omega]
    rw [h4] at hl ⊢
    exact end_off hm h1 hl
/-- A box of a span. -/
def Box2 (W : World) (B : Nat) (p : Spn) : Prop := W.heap[B]? = some (.cells #[.int .i64 p.1, .int .i64 p.2] 43 (0, 0))
theorem Box2.cells {W : World} {B : Nat} {p : Spn} (h : Box2 W B p) : W.cell? ⟨B, 0, none⟩ = some (.int .i64 p.1) ∧ W.cell? ⟨B, 1, none⟩ = some (.int .i64 p.2) := by
  unfold Box2 at h
  constructor <;> simp [World.cell?, h]
/-- What a round of the loop finds: the boxes of the term, of the end, of the three results; what has come is above the term. -/
def EI (w : World) (t z : Int) (pre : List (Int × Spn)) (W : World) : Prop := (Boxed W w.heap.size 3 (.int .i64 t) ∧ Boxed W (w.heap.size + 1) 3 (.int .i64 (curE pre z)) ∧ Boxed W (w.heap.size + 1 + 1) 3 (.int .i64 0) ∧ Boxed W (w.heap.size + 1 + 1 + 1) 3 (.int .i64 0) ∧ Boxed W (w.heap.size + 1 + 1 + 1 + 1) 4 (.bool false)) ∧ (∀ p ∈ pre, t < p.2.1) ∧ w.heap.size + 6 ≤ W.heap.size ∧ Below w.heap.size w W
/-- What a return leaves. -/
def EX (w : World) (t z : Int) (c : Code) (pre : List (Int × Spn)) (W : World) : Prop := (c = .ret ∧ ∃ ini last, pre = ini ++ [last] ∧ (∀ p ∈ ini, t < p.2.1) ∧ last.2.1 ≤ t ∧ Boxed W (w.heap.size + 1 + 1) 3 (.int .i64 last.2.1) ∧ Boxed W (w.heap.size + 1 + 1 + 1) 3 (.int .i64 (curE ini z)) ∧ Boxed W (w.heap.size + 1 + 1 + 1 + 1) 4 (.bool true)) ∧ Below w.heap.size w W
theorem EI.own (w : World) (t z : Int) {B : Nat} (hB : w.heap.size ≤ B) : OwnFrom B (EI w t z) := fun s X Y row hs hg hr => by
  obtain ⟨⟨q0, q1, q2, q3, q4⟩, hp, hz, hb⟩ := hs
  have k := fun {C : Nat} {ty : TypeId} {v : Value} (h : Boxed X C ty v) => boxed_own C ty (fun (_ : Unit) => v) () X Y row h hg (fun r e => (hr r e).2)
  exact ⟨⟨k q0, k q1, k q2, k q3, k q4⟩, hp, Nat.le_trans hz hg.size, ownFrom_below (β := Unit) (Nat.le_refl _) hB () X Y row hb hg hr⟩
theorem EX.own (w : World) (t z : Int) (c : Code) {B : Nat} (hB : w.heap.size ≤ B) : OwnFrom B (EX w t z c) := fun s X Y row hs hg hr => by
  obtain ⟨⟨hc, ini, last, e1, e2, e3, q1, q2, q3⟩, hb⟩ := hs
  have k := fun {C : Nat} {ty : TypeId} {v : Value} (h : Boxed X C ty v) => boxed_own C ty (fun (_ : Unit) => v) () X Y row h hg (fun r e => (hr r e).2)
  exact ⟨⟨hc, ini, last, e1, e2, e3, k q1, k q2, k q3⟩, ownFrom_below (β := Unit) (Nat.le_refl _) hB () X Y row hb hg hr⟩
theorem KpB.set {n0 Bs : Nat} (W : World) {C : Nat} (h0 : n0 ≤ C) (h1 : C ≠ Bs) (v : Value) : KpB n0 Bs W (W.setCell ⟨C, 0, none⟩ v) := ⟨(Below.refl _ W).setCell (p := ⟨C, 0, none⟩) h0 _, Below.heap_setCell _ _ _ _ (by simpa using Ne.symm h1)⟩
set_option maxRecDepth 100000 in
set_option maxHeartbeats 8000000 in
theorem end_in (F : Fence) (n : Nat) (h8 : F.fn 16) (h19 : F.fn 25) (h26 : F.fn 31) (hro : F.round = none) (hn : 3 ≤ n) (ao : Option Addr) (cap : Nat) (l : List Spn) (t z : Int) (w : World) (hv : Ssp w (.slice ao l.length cap) l) (hs : l.length ≤ 100000) :
    CallsIn F n Tryd.prog 16 #[.slice ao l.length cap, .int .i64 t, .int .i64 z] w fun e W' => e = .returned (endV (endL l t z)) ∧ Below w.heap.size w W' := by
  have h1 : 1 ≤ n := by omega
  refine callsIn_of_wp_marks Tryd.func16 rfl h8 ?_ hro
  simp only [Tryd.ntmps16, List.size_toArray, List.length_cons, List.length_nil, Nat.reduceAdd, Nat.reduceSub, Array.replicate_succ, Array.replicate_zero, List.push_toArray, List.append_toArray, List.nil_append, List.cons_append]
  gi_wp2_with (gi_at_call 25; refine (back_in F (n - 1) h19 hro _ _ _ _).mono ?_; rintro e w' ⟨rfl, rfl⟩)
  have hB0 : Below w.heap.size w ((((((w.alloc (.cells #[.int .i64 t] 3)).alloc (.cells #[.int .i64 z] 3)).alloc (.cells #[.int .i64 0] 3)).alloc (.cells #[.int .i64 0] 3)).alloc (.cells #[.bool false] 4)).alloc (.cells #[.slice ao l.length cap] 22)) := ((((((Below.refl _ w).alloc (Nat.le_refl _) _).alloc (by simp) _).alloc (by simp; omega) _).alloc (by simp; omega) _).alloc (by simp; omega) _).alloc (by simp; omega) _
  have b0 : Boxed ((((((w.alloc (.cells #[.int .i64 t] 3)).alloc (.cells #[.int .i64 z] 3)).alloc (.cells #[.int .i64 0] 3)).alloc (.cells #[.int .i64 0] 3)).alloc (.cells #[.bool false] 4)).alloc (.cells #[.slice ao l.length cap] 22)) w.heap.size 3 (.int .i64 t) := (((((Boxed.new w _ _).alloc _).alloc _).alloc _).alloc _).alloc _
  have b1 : Boxed ((((((w.alloc (.cells #[.int .i64 t] 3)).alloc (.cells #[.int .i64 z] 3)).alloc (.cells #[.int .i64 0] 3)).alloc (.cells #[.int .i64 0] 3)).alloc (.cells #[.bool false] 4)).alloc (.cells #[.slice ao l.length cap] 22)) (w.heap.size + 1) 3 (.int .i64 z) := by
    have := ((((Boxed.new (w.alloc (.cells #[.int .i64 t] 3)) 3 (.int .i64 z)).alloc (.cells #[.int .i64 0] 3)).alloc (.cells #[.int .i64 0] 3)).alloc (.cells #[.bool false] 4)).alloc (.cells #[.slice ao l.length cap] 22)
    simpa using this
  have b2 : Boxed ((((((w.alloc (.cells #[.int .i64 t] 3)).alloc (.cells #[.int .i64 z] 3)).alloc (.cells #[.int .i64 0] 3)).alloc (.cells #[.int .i64 0] 3)).alloc (.cells #[.bool false] 4)).alloc (.cells #[.slice ao l.length cap] 22)) (w.heap.size + 1 + 1) 3 (.int .i64 0) := by
    have := (((Boxed.new ((w.alloc (.cells #[.int .i64 t] 3)).alloc (.cells #[.int .i64 z] 3)) 3 (.int .i64 0)).alloc (.cells #[.int .i64 0] 3)).alloc (.cells #[.bool false] 4)).alloc (.cells #[.slice ao l.length cap] 22)
    simpa using this
  have b3 : Boxed ((((((w.alloc (.cells #[.int .i64 t] 3)).alloc (.cells #[.int .i64 z] 3)).alloc (.cells #[.int .i64 0] 3)).alloc (.cells #[.int .i64 0] 3)).alloc (.cells #[.bool false] 4)).alloc (.cells #[.slice ao l.length cap] 22)) (w.heap.size + 1 + 1 + 1) 3 (.int .i64 0) := by
    have := ((Boxed.new (((w.alloc (.cells #[.int .i64 t] 3)).alloc (.cells #[.int .i64 z] 3)).alloc (.cells #[.int .i64 0] 3)) 3 (.int .i64 0)).alloc (.cells #[.bool false] 4)).alloc (.cells #[.slice ao l.length cap] 22)
    simpa using this
  have b4 : Boxed ((((((w.alloc (.cells #[.int .i64 t] 3)).alloc (.cells #[.int .i64 z] 3)).alloc (.cells #[.int .i64 0] 3)).alloc (.cells #[.int .i64 0] 3)).alloc (.cells #[.bool false] 4)).alloc (.cells #[.slice ao l.length cap] 22)) (w.heap.size + 1 + 1 + 1 + 1) 4 (.bool false) := by
    have := (Boxed.new ((((w.alloc (.cells #[.int .i64 t] 3)).alloc (.cells #[.int .i64 z] 3)).alloc (.cells #[.int .i64 0] 3)).alloc (.cells #[.int .i64 0] 3)) 4 (.bool false)).alloc (.cells #[.slice ao l.length cap] 22)
    simpa using this
  have b5 : Boxed ((((((w.alloc (.cells #[.int .i64 t] 3)).alloc (.cells #[.int .i64 z] 3)).alloc (.cells #[.int .i64 0] 3)).alloc (.cells #[.int .i64 0] 3)).alloc (.cells #[.bool false] 4)).alloc (.cells #[.slice ao l.length cap] 22)) (w.heap.size + 1 + 1 + 1 + 1 + 1) 22 (.slice ao l.length cap) := by
    have := Boxed.new (((((w.alloc (.cells #[.int .i64 t] 3)).alloc (.cells #[.int .i64 z] 3)).alloc (.cells #[.int .i64 0] 3)).alloc (.cells #[.int .i64 0] 3)).alloc (.cells #[.bool false] 4)) 22 (.slice ao l.length cap)
    simpa using this
  have hsz : (((((((w.alloc (.cells #[.int .i64 t] 3)).alloc (.cells #[.int .i64 z] 3)).alloc (.cells #[.int .i64 0] 3)).alloc (.cells #[.int .i64 0] 3)).alloc (.cells #[.bool false] 4)).alloc (.cells #[.slice ao l.length cap] 22))).heap.size = w.heap.size + 6 := by simp
  obtain ⟨W0, hW0⟩ : ∃ W0, ((((((w.alloc (.cells #[.int .i64 t] 3)).alloc (.cells #[.int .i64 z] 3)).alloc (.cells #[.int .i64 0] 3)).alloc (.cells #[.int .i64 0] 3)).alloc (.cells #[.bool false] 4)).alloc (.cells #[.slice ao l.length cap] 22)) = W0 := ⟨_, rfl⟩
  rw [hW0] at b0 b1 b2 b3 b4 b5 hB0 hsz ⊢
  clear hW0
  have HV := hide hv
  clear hv
  refine wpIn_rangeFunc_ownH hro h1 (gf := 31) (lb := #[.pointer (some ⟨w.heap.size + 1 + 1 + 1 + 1 + 1, 0, none⟩)]) rfl h26 (enters_of Tryd.func31 (by kernel_rfl) rfl)
    (back_stops F (n - 1) h26 hro (by omega) (w.heap.size + 1 + 1 + 1 + 1 + 1) w.heap.size ao l.length cap l rfl hs W0 (by omega) (by omega) b5.cell (fun W' h' => HV.out.below (hB0.trans h')))
    (fun h k => h.trans k) (fun W q o o' hq ho hc hw => ⟨belowK_b (w := w) (n₀ := w.heap.size) (Nat.le_refl _) W q o o' (by omega) ho hc hw, World.putObj_heap_other (by omega)⟩) (Below.refl _ _) (fun _ => rfl)
    (EI w t z) (EX w t z) (EI.own w t z (by omega)) (fun c => EX.own w t z c (by omega))
    ⟨⟨b0, b1, b2, b3, b4⟩, fun p hp => by simp at hp, by omega, hB0⟩
    (fun x a' W => ∃ Bx, w.heap.size + 1 + 1 + 1 + 1 + 1 < Bx ∧ Box2 W Bx x.2 ∧ a' = { tmps := #[.slice ao l.length cap, .int .i64 t, .int .i64 z, undef, .pointer (some ⟨w.heap.size, 0, none⟩), .pointer (some ⟨w.heap.size + 1, 0, none⟩), .pointer (some ⟨w.heap.size + 1 + 1, 0, none⟩), .pointer (some ⟨w.heap.size + 1 + 1 + 1, 0, none⟩), .pointer (some ⟨w.heap.size + 1 + 1 + 1 + 1, 0, none⟩), undef, .pointer (some ⟨Bx, 0, none⟩), .slice ao l.length cap, .func (.func 31) #[] #[.pointer (some ⟨w.heap.size + 1 + 1 + 1 + 1 + 1, 0, none⟩)], .int .i64 x.1, .agg #[.int .i64 x.2.1, .int .i64 x.2.2], undef, undef, undef, undef, undef, undef, undef, undef, undef], defers := [] })
    (fun x a' _ X Y row hs hg hr => by
      obtain ⟨Bx, q1, q2, q3⟩ := hs
      refine ⟨Bx, q1, ?_, q3⟩
      refine (hg.block Bx (Array.getElem?_eq_some_iff.1 q2).1 (fun e => ?_)).trans q2
      obtain ⟨_, o, ho, hc⟩ := hr Bx e.symm
      rw [show X.heap[Bx]? = _ from q2] at ho
      cases ho
      cases hc)
    ?assign ?body ?done ?stop
  case assign =>
    rintro lp pre ⟨xi, x0, x1⟩ W K ⟨⟨q0, q1, q2, q3, q4⟩, hp, hz, hB1⟩ hK
    dsimp only
    gi_wp2
    have hsW := hB1.size
    have hlt := q4.lt
    exact hK _ _ ((KeepsOthers.alloc _ _).from _) ⟨(Below.refl _ W).alloc hsW _, Below.heap_alloc _ _ _ (by omega)⟩ ⟨⟨q0.alloc _, q1.alloc _, q2.alloc _, q3.alloc _, q4.alloc _⟩, hp, by simp; omega, hB1.alloc hsW _⟩ ⟨W.heap.size, by omega, World.alloc_heap_new W _, rfl⟩
  case body =>
    rintro lp pre ⟨xi, x0, x1⟩ a' W hl ⟨r, hr⟩ ⟨⟨q0, q1, q2, q3, q4⟩, hp, hz, hB1⟩ ⟨Bx, hBx, bX, rfl⟩ hlt
    dsimp only at bX ⊢
    obtain ⟨cx0, cx1⟩ := bX.cells
    have ct := q0.cell
    have ce := q1.cell
    have fe := q1.frozen
    have c2 := q2.cell
    have c3 := q3.cell
    have c4 := q4.cell
    have f2 := q2.frozen
    have f3 := q3.frozen
    have f4 := q4.frozen
    by_cases hx : x0 ≤ t
    · have hmx : (Tryd.prog).follows .mixedOrders = true := by kernel_rfl
      gi_wp2
      gi_region_with_o (fail)
      all_goals
        gi_wp2
        refine ⟨((((KeepsOthers.setCell _ _ _).trans (KeepsOthers.setCell _ _ _)).trans (KeepsOthers.setCell _ _ _)).trans (KeepsOthers.drew _)).from _, ⟨rfl, pre, (xi, x0, x1), rfl, hp, hx, ?_, ?_, ?_⟩, ?_⟩
        · exact ((q2.set (.int .i64 x0)).other (by omega) (.int .i64 (curE pre z))).other (by omega) (.bool true)
        · exact ((q3.other (by omega) (.int .i64 x0)).set (.int .i64 (curE pre z))).other (by omega) (.bool true)
        · exact ((q4.other (by omega) (.int .i64 x0)).other (by omega) (.int .i64 (curE pre z))).set (.bool true)
        · exact (((hB1.setCell (p := ⟨w.heap.size + 1 + 1, 0, none⟩) (by simp; omega) _).setCell (p := ⟨w.heap.size + 1 + 1 + 1, 0, none⟩) (by simp; omega) _).setCell (p := ⟨w.heap.size + 1 + 1 + 1 + 1, 0, none⟩) (by simp; omega) _).drew
    · have hx' : t < x0 := by omega
      gi_wp2
      refine ⟨(KeepsOthers.setCell _ _ _).from _, KpB.set W (by omega) (by omega) _, ⟨q0.other (by omega) _, by rw [curE_snoc]; exact q1.set _, q2.other (by omega) _, q3.other (by omega) _, q4.other (by omega) _⟩, fun p hq => ?_, by simpa [World.setCell] using hz, hB1.setCell (p := ⟨w.heap.size + 1, 0, none⟩) (by simp) _⟩
      rcases List.mem_append.1 hq with hq | hq
      · exact hp p hq
      · simp only [List.mem_singleton] at hq
        subst hq
        exact hx'
  case done =>
    rintro D ys W hD rfl ⟨⟨q0, q1, q2, q3, q4⟩, hp, hz, hB1⟩ hK
    have HE := hide (end_none (z := z) hp)
    have c2 := q2.cell
    have c3 := q3.cell
    have c4 := q4.cell
    have f2 := q2.frozen
    have f3 := q3.frozen
    have f4 := q4.frozen
    gi_wp2
    have r2 := ((q2.set (.int .i64 0)).other (by omega : w.heap.size + 1 + 1 ≠ w.heap.size + 1 + 1 + 1) (.int .i64 0)).other (by omega : w.heap.size + 1 + 1 ≠ w.heap.size + 1 + 1 + 1 + 1) (.bool false)
    have r3 := ((q3.other (by omega : w.heap.size + 1 + 1 + 1 ≠ w.heap.size + 1 + 1) (.int .i64 0)).set (.int .i64 0)).other (by omega : w.heap.size + 1 + 1 + 1 ≠ w.heap.size + 1 + 1 + 1 + 1) (.bool false)
    have r4 := ((q4.other (by omega : w.heap.size + 1 + 1 + 1 + 1 ≠ w.heap.size + 1 + 1) (.int .i64 0)).other (by omega : w.heap.size + 1 + 1 + 1 + 1 ≠ w.heap.size + 1 + 1 + 1) (.int .i64 0)).set (.bool false)
    have hB2 := ((hB1.setCell (p := ⟨w.heap.size + 1 + 1, 0, none⟩) (by simp; omega) (.int .i64 0)).setCell (p := ⟨w.heap.size + 1 + 1 + 1, 0, none⟩) (by simp; omega) (.int .i64 0)).setCell (p := ⟨w.heap.size + 1 + 1 + 1 + 1, 0, none⟩) (by simp; omega) (.bool false)
    have hK' := (((KeepsOthers.setCell W ⟨w.heap.size + 1 + 1, 0, none⟩ (.int .i64 0)).trans (KeepsOthers.setCell _ ⟨w.heap.size + 1 + 1 + 1, 0, none⟩ (.int .i64 0))).trans (KeepsOthers.setCell _ ⟨w.heap.size + 1 + 1 + 1 + 1, 0, none⟩ (.bool false))).same D _ hK rfl
    generalize (((W.setCell ⟨w.heap.size + 1 + 1, 0, none⟩ (.int .i64 0)).setCell ⟨w.heap.size + 1 + 1 + 1, 0, none⟩ (.int .i64 0)).setCell ⟨w.heap.size + 1 + 1 + 1 + 1, 0, none⟩ (.bool false)) = V at r2 r3 r4 hB2 hK' ⊢
    refine ⟨by simp, .inl ⟨_, _, rfl, run_takeDeferred hK', ?_⟩⟩
    have k := fun {C : Nat} {ty : TypeId} {v : Value} (h : Boxed V C ty v) => (boxed_own C ty (fun (_ : Unit) => v) () V _ (some D) h (grownBy_putObj' _ D (.deferred none)) (fun r e => by cases e; exact ⟨_, hK', rfl⟩)).cell
    have k2 := k r2
    have k3 := k r3
    have k4 := k r4
    refine ⟨.tuple #[.int .i64 0, .int .i64 0, .bool false], ?_, by rw [HE.out]; rfl, hB2.trans (belowK_b (w := w) (Nat.le_refl _) V D _ _ (by omega) hK' rfl rfl)⟩
    simp [results, Tryd.results16, go_sem, k2, k3, k4]
  case stop =>
    rintro D c pre W hD ⟨k, hk, rfl⟩ ⟨⟨rfl, ini, last, e1, e2, e3, r2, r3, r4⟩, hB1⟩ hK
    have HE := hide (end_some (z := z) hk e1 e2 e3)
    gi_wp2
    refine ⟨by simp, .inl ⟨_, _, rfl, run_takeDeferred hK, ?_⟩⟩
    have k := fun {C : Nat} {ty : TypeId} {v : Value} (h : Boxed W C ty v) => (boxed_own C ty (fun (_ : Unit) => v) () W _ (some D) h (grownBy_putObj' _ D (.deferred none)) (fun r e => by cases e; exact ⟨_, hK, rfl⟩)).cell
    have k2 := k r2
    have k3 := k r3
    have k4 := k r4
    refine ⟨.tuple #[.int .i64 last.2.1, .int .i64 (curE ini z), .bool true], ?_, by rw [HE.out]; rfl, hB1.trans (belowK_b (w := w) (Nat.le_refl _) W D _ _ (by omega) hK rfl rfl)⟩
    simp [results, Tryd.results16, go_sem, k2, k3, k4]
theorem end_any (v : Value) (l : List Spn) (t z : Int) (w : World) (hv : Ssp w v l) (hs : l.length ≤ 100000) : Calls Tryd.prog 16 #[v, .int .i64 t, .int .i64 z] w fun e w' => e = .returned (endV (endL l t z)) ∧ Below w.heap.size w w' := by
  obtain ⟨ao, cap, rfl⟩ := hv.form
  exact callsIn_wide.1 (end_in Fence.wide 3 trivial trivial trivial rfl (Nat.le_refl _) ao cap l t z w hv hs)
end Go.Proofs.YtkihdceieljkgaaDoor
