/-
  errors.Is AT A TARGET OF TYPE Code, and fault.Is over it.
  fault.outermost AT THE TYPES Fault AND Code.
  fault.New, Wrap, Of, Where, Again AND Both, at every error that a law makes.
  AN ERROR, OR NONE, as a value, by its code. No condition.
  ROWS OF ELEMENTS OF SEVERAL CELLS, WHATEVER THE ELEMENTS.
-/
import Derived.Test.YtlggjgapdpkhiaaGreatJKMema3
import Derived.Defers
import Derived.Recover
import Derived.Test.YtlggjgapdpkhiaaGreatJKSlca5
import Derived.Maps.AppendAt
import Derived.OwnWalk
import Derived.Deep.AppendSrc
import Derived.Deep.MidRow
namespace Go.Proofs.YtlggjgapdpkhiaaGreat
open Go.RowKit Go.Extern.Stop Go.Stop Go.Extern
set_option maxRecDepth 100000
set_option maxHeartbeats 4000000
theorem eql6032 (x y : Value) (w : World) : (binOp .eql 59 (.iface 117 x) (.iface 67 y)).run Tryz.prog w = .ok (.bool false) w := run_eql_iface_types 117 67 x y Tryz.underlying59 (by decide) w
theorem eql3232 (a b : Int) (w : World) : (binOp .eql 59 (.iface 67 (.int .i64 a)) (.iface 67 (.int .i64 b))).run Tryz.prog w = .ok (.bool (a == b)) w := by kernel_rfl
theorem comparableM (w : World) : (ReflectliteType.method (fun t => do Rtype.noPackHeld "Comparable" t; (fun a : TypeInfo => Value.bool a.comparable) <$> typeInfo t) #[.agg #[.pointer (some ⟨0, 67, none⟩)]]).run Tryz.prog w = .ok (.bool true) w := by kernel_rfl
def isB (c q : Int) : Bool := c == q
theorem is35 (l : List (ByteArray × Int)) (c : Int) (q : Int) (w : World) :
  Calls Tryz.prog 101 #[chn l (bse c), .iface 67 (.int .i64 q), .bool true] w
   fun ev w' => ev = .returned (.bool (isB c q)) ∧ Below w.heap.size w w' := by
 have m5 := mUnwrap
 have a1 := noIs60
 have a2 := unwraps60
 have c1 := noIs32
 have c2 := noUnwrap32
 have c3 := noUnwraps32
 have e1 := eql6032
 have e3 := eql3232
 go_enter Tryz.func101, Tryz.ntmps101
 go_wp2
 go_loopw [0] (fun e W => ∃ l : List (ByteArray × Int), e = chn l (bse c) ∧ Below w.heap.size w W ∧ w.heap.size ≤ W.heap.size) (fun e _ => SizeOf.sizeOf e)
 case atStart => exact ⟨l, rfl, Below.refl _ _, by simp⟩
 case round =>
  obtain ⟨l', he, hb, hs⟩ := hrel
  rcases l' with _ | ⟨s, _ | ⟨s', l'⟩⟩
  ·simp only [chn, bse] at he
   subst he
   rcases Bool.eq_false_or_eq_true (c == q) with hq | hq
   ·go_wp2
    go_ret
    exact ⟨by simp only [isB, hq]; rfl, hb⟩
   ·go_wp2
    go_ret
    exact ⟨by simp only [isB, hq]; rfl, hb⟩
  ·simp only [chn] at he
   obtain ⟨ty, v, hv⟩ := chn_form [] c
   have HV : Hid (chn [] (bse c) = .iface ty v) := hv
   simp only [chn] at hv
   rw [hv] at he
   subst he
   clear hv
   go_wp2
   go_roundw
   case rel => exact ⟨[], HV.out.symm, hb.alloc hs _, by simp; omega⟩
   case measure => exact size_inner _ _ _
  ·simp only [chn] at he
   subst he
   go_wp2
   go_roundw
   case rel => exact ⟨s' :: l', rfl, hb.alloc hs _, by simp; omega⟩
   case measure => exact size_inner _ _ _
theorem eis_chn (l : List (ByteArray × Int)) (c : Int) (q : Int) (w : World) :
  Calls Tryz.prog 63 #[chn l (bse c), .iface 67 (.int .i64 q)] w
   fun ev w' => ev = .returned (.bool (isB c q)) ∧ Below w.heap.size w w' := by
 have h34 := h34
 have h69 := h69
 have f1 := typeOf32
 have f2 := mComparable
 have f3 := comparableM
 have hc := is35 l c q w
 obtain ⟨ty, v, hv⟩ := chn_form l c
 rw [hv] at hc ⊢
 have HC := Hd hc
 clear hc hv
 go_enter Tryz.func63, Tryz.ntmps63
 go_wp2_with (first | (go_at_call 101; refine (HC.out).mono ?_; rintro e w' ⟨rfl, hb⟩))
 go_ret
 exact ⟨rfl, hb⟩
theorem idle29 (p : Addr) (w : World) :
  CallsD Tryz.prog 62 #[.pointer (some p)] .returning w fun e u' w' => e = .returned (.tuple #[]) ∧ u' = .returning ∧ w' = w := by
 refine callsD_of_wpS Tryz.func62 rfl fun c₀ cs hu => ?_
 apply wpS_seq
 apply wpS_region
 simp [wpOpsS, go_sem, recoverD, hu, Tryz.ntmps62, Exit.thenS]
 refine wpS_cond (t := false) (by simp [Act.eval, Array.replicate]) ?_
 simp only [Bool.false_eq_true, if_false]
 refine wpS_of_wp (wp_skip ?_)
 cases c₀
 simp_all [bodyPostS, results, Tryz.results62]
theorem is_chn (l : List (ByteArray × Int)) (c : Int) (q : Int) (w : World) :
  Calls Tryz.prog 33 #[chn l (bse c), .int .i64 q] w
   fun ev w' => ev = .returned (.bool (isB c q)) ∧ Below w.heap.size w w' := by
 have hmf : ∀ (fn : Fn) (first cap : Array Value) (w : World), (Instr.makeFunc fn first cap).run Tryz.prog w = .ok (.func fn first cap) w := fun _ _ _ _ => rfl
 go_enter_defers Tryz.func33, Tryz.ntmps33
 go_wp2_with (first | (go_at_call 63; refine (eis_chn l c q _).mono ?_; rintro e w' ⟨rfl, hb⟩; obtain ⟨hc, hf⟩ := bcell hb))
 refine leaves_cons (f := 62) (args := #[.pointer (some ⟨w.heap.size, 0, none⟩)]) (by simp) (by simp [go_sem]) ?_
 refine (idle29 ⟨w.heap.size, 0, none⟩ _).mono ?_
 rintro e u' w'' ⟨rfl, rfl, rfl⟩
 simp [Leaves, settle, results, Tryz.results33, go_sem, hc]
 exact (((Below.refl _ _).alloc (Nat.le_refl _) _).trans (hb.mono (by simp))).setCell (by simp) _
end Go.Proofs.YtlggjgapdpkhiaaGreat
namespace Go.Proofs.YtlggjgapdpkhiaaGreat
open Go.RowKit Go.Extern.Stop Go.Stop Go.Extern
end Go.Proofs.YtlggjgapdpkhiaaGreat
namespace Go.Proofs.YtlggjgapdpkhiaaGreat
open Go.RowKit Go.Extern.Stop Go.Stop Go.Extern
theorem new_any (op : ByteArray) (a c : Int) (w : World) :
  Calls Tryz.prog 85 #[.string op, .int .i64 a, .int .i64 c] w fun e w' => e = .returned (.iface 117 (.agg #[.string op, .int .i64 a, .iface 67 (.int .i64 c)])) ∧ w' = w := by
 go_enter Tryz.func85, Tryz.ntmps85
 go_wp2
 go_ret
 exact ⟨rfl, rfl⟩
theorem wrap_some (op : ByteArray) (a : Int) (t : TypeId) (v : Value) (w : World) :
  Calls Tryz.prog 59 #[.string op, .int .i64 a, .iface t v] w fun e w' => e = .returned (.iface 117 (.agg #[.string op, .int .i64 a, .iface t v])) ∧ w' = w := by
 go_enter Tryz.func59, Tryz.ntmps59
 go_wp2
 go_ret
 exact ⟨rfl, rfl⟩
def ev (x : Option (List (ByteArray × Int) × Int)) : Value := match x with
 | none => .nilIface
 | some (l, c) => chn l (bse c)
end Go.Proofs.YtlggjgapdpkhiaaGreat
namespace Go.Proofs.YtlggjgapdpkhiaaGreat
open Go.RowKit
def ft (op : ByteArray) (a c : Int) : Value := .iface 117 (.agg #[.string op, .int .i64 a, .iface 67 (.int .i64 c)])
theorem cells_at (w : World) (xs : List Value) (t : TypeId) : ∀ j u, xs[j]? = some u → (w.alloc (.cells xs.toArray t)).cell? ((⟨w.heap.size, 0, none⟩ : Addr).add j) = some u := by
 intro j u hj
 rw [Addr.add_lit, World.cell?_alloc_at _ _ _ _ rfl]
 simpa using hj
def erN (op : ByteArray) (a : Int) (c : Int) : Value := if c = 0 then .nilIface else ft op a c
end Go.Proofs.YtlggjgapdpkhiaaGreat
namespace Go.Proofs.YtlggjgapdpkhiaaGreat
open Go.RowKit
structure Enc {α : Type} (f : α → List Value) (k : Nat) : Prop where
 len : ∀ x, (f x).length = k
 one : ∀ x, ∀ u ∈ f x, u.oneCell' = true
 pos : 0 < k
theorem rg_bel {W W' : World} {b o : Nat} {cs : List Value} (h : W.rangeAt b o cs) (hb : Below W.heap.size W W') : W'.rangeAt b o cs := fun j u hu =>
 (hb.cell (p := ⟨b, o + j, none⟩) (cB (h j u hu) : b < W.heap.size)).trans (h j u hu)
theorem rg_app {W : World} {b o : Nat} {x y : List Value} (h : W.rangeAt b o (x ++ y)) : W.rangeAt b o x ∧ W.rangeAt b (o + x.length) y :=
 ⟨fun j u hu => h j u (by rw [List.getElem?_append_left (List.getElem?_eq_some_iff.1 hu).1]; exact hu), fun j u hu => by
  rw [Nat.add_assoc]
  exact h _ u (by rw [List.getElem?_append_right (by omega), Nat.add_sub_cancel_left]; exact hu)⟩
section
variable {α : Type} {f : α → List Value} {k : Nat}
theorem fm_len (hf : Enc f k) : ∀ l : List α, (l.flatMap f).length = l.length * k
 | [] => by simp
 | x :: r => by rw [List.flatMap_cons, List.length_append, hf.len, fm_len hf r, List.length_cons, Nat.succ_mul]; omega
theorem fm_one (hf : Enc f k) (l : List α) : ∀ u ∈ l.flatMap f, u.oneCell' = true := fun u hu => by
 obtain ⟨p, _, hp⟩ := List.mem_flatMap.1 hu
 exact hf.one p u hp
def Rs (f : α → List Value) (W : World) (v : Value) (l : List α) : Prop := ∃ ao cap, v = .slice ao l.length cap ∧ l.length ≤ cap ∧ (0 < l.length → ∃ b o, ao = some ⟨b, o, none⟩ ∧ W.rangeAt b o (l.flatMap f))
theorem Rs.below {W W' : World} {v : Value} {l : List α} (h : Rs f W v l) (hb : Below W.heap.size W W') : Rs f W' v l := by
 obtain ⟨ao, cap, e, hc, hr⟩ := h
 exact ⟨ao, cap, e, hc, fun q => by obtain ⟨b, o, e1, e2⟩ := hr q; exact ⟨b, o, e1, rg_bel e2 hb⟩⟩
theorem Rs.form {W : World} {v : Value} {l : List α} (h : Rs f W v l) : ∃ a c, v = .slice a l.length c := by
 obtain ⟨ao, cap, e, _⟩ := h
 exact ⟨ao, cap, e⟩
theorem rs_nil (f : α → List Value) (W : World) (ao : Option Addr) (cap : Nat) : Rs f W (.slice ao 0 cap) [] := ⟨ao, cap, rfl, Nat.zero_le _, fun h => by simp at h⟩
theorem Rs.cap {W : World} {ao : Option Addr} {n c : Nat} {l : List α} (h : Rs f W (.slice ao n c) l) : n = l.length ∧ l.length ≤ c := by
 obtain ⟨_, _, e, hc, _⟩ := h
 cases e
 exact ⟨rfl, hc⟩
theorem Rs.rg {W : World} {ao : Option Addr} {n c : Nat} {l : List α} (h : Rs f W (.slice ao n c) l) (hl : 0 < l.length) : ∃ b o, ao = some ⟨b, o, none⟩ ∧ W.rangeAt b o (l.flatMap f) := by
 obtain ⟨_, _, e, _, hr⟩ := h
 cases e
 exact hr hl
theorem fm_at (hf : Enc f k) {W : World} {b o : Nat} {l : List α} (h : W.rangeAt b o (l.flatMap f)) {i : Nat} (hi : i < l.length) : W.rangeAt b (o + i * k) (f l[i]) := by
 have e : l.flatMap f = (l.take i).flatMap f ++ (f l[i] ++ (l.drop (i + 1)).flatMap f) := by
  rw [← List.flatMap_cons, ← List.drop_eq_getElem_cons hi, ← List.flatMap_append, List.take_append_drop]
 rw [e] at h
 have h1 := (rg_app (rg_app h).2).1
 rwa [fm_len hf, List.length_take, Nat.min_eq_left (by omega)] at h1
theorem Rs.at (hf : Enc f k) {W : World} {b o n c : Nat} {l : List α} (h : Rs f W (.slice (some ⟨b, o, none⟩) n c) l) {i : Nat} (hi : i < l.length) : W.rangeAt b (o + i * k) (f l[i]) := by
 obtain ⟨b', o', e, hr⟩ := h.rg (by omega)
 cases e
 exact fm_at hf hr hi
theorem Rs.part (hf : Enc f k) {W : World} {ao : Option Addr} {n c : Nat} {l : List α} (h : Rs f W (.slice ao n c) l) (i j : Nat) (hij : i ≤ j) (hj : j ≤ l.length) (ao' : Option Addr) (ha : i < j → ∀ b o, ao = some ⟨b, o, none⟩ → ao' = some ⟨b, o + i * k, none⟩) : Rs f W (.slice ao' (j - i) (c - i)) ((l.drop i).take (j - i)) := by
 have hl : ((l.drop i).take (j - i)).length = j - i := by rw [List.length_take, List.length_drop]; omega
 have hc := h.cap
 refine ⟨ao', c - i, by rw [hl], by rw [hl]; omega, fun q => ?_⟩
 rw [hl] at q
 obtain ⟨b, o, e, hr⟩ := h.rg (by omega)
 refine ⟨b, o + i * k, ha (by omega) b o e, ?_⟩
 have e1 : l.flatMap f = (l.take i).flatMap f ++ (((l.drop i).take (j - i)).flatMap f ++ ((l.drop i).drop (j - i)).flatMap f) := by
  rw [← List.flatMap_append, List.take_append_drop, ← List.flatMap_append, List.take_append_drop]
 rw [e1] at hr
 have h1 := (rg_app (rg_app hr).2).1
 rwa [fm_len hf, List.length_take, Nat.min_eq_left (by omega)] at h1
def Ro (f : α → List Value) (k : Nat) (T : TypeId) (W : World) (B : Nat) (v : Value) (l : List α) : Prop := W.ownsRow B T k v l.length (l.flatMap f)
theorem ro_nil (f : α → List Value) (k : Nat) (T : TypeId) (W : World) (B : Nat) : Ro f k T W B (.slice none 0 0) [] := World.ownsRow_nil _ _ _ _
theorem Ro.below {T : TypeId} {W W' : World} {B : Nat} {v : Value} {l : List α} (h : Ro f k T W B v l) (hb : Below W.heap.size W W') : Ro f k T W' B v l := owns_below h hb
theorem Ro.mono {T : TypeId} {W : World} {B C : Nat} {v : Value} {l : List α} (h : Ro f k T W B v l) (hc : C ≤ B) : Ro f k T W C v l := owns_mono h hc
theorem Ro.form {T : TypeId} {W : World} {B : Nat} {v : Value} {l : List α} (h : Ro f k T W B v l) : ∃ a c, v = .slice a l.length c := by
 rcases h.2 with ⟨e, h0⟩ | ⟨g, cap, cur, e, _⟩
 ·rw [e, h0]; exact ⟨_, _, rfl⟩
 ·exact ⟨_, _, e⟩
theorem Ro.rs {T : TypeId} {W : World} {B : Nat} {v : Value} {l : List α} (h : Ro f k T W B v l) : Rs f W v l := by
 rcases h.2 with ⟨e, h0⟩ | ⟨g, cap, cur, e, a2, a3, a4, a5, a6, a7⟩
 ·exact ⟨none, 0, by rw [e, h0], by omega, fun q => by omega⟩
 ·refine ⟨some ⟨g, 0, none⟩, cap, e, a4, fun _ => ⟨g, 0, rfl, fun j x hj => ?_⟩⟩
  have hl : j < (l.flatMap f).length := (List.getElem?_eq_some_iff.1 hj).1
  have h1 : (l.flatMap f).length = l.length * k := h.1
  rw [← a7, List.getElem?_take_of_lt (by omega)] at hj
  simp only [World.cell?, a3, Nat.zero_add]
  simpa using hj
theorem Ro.take (hf : Enc f k) {T : TypeId} {W : World} {B : Nat} {ao : Option Addr} {n cap i : Nat} {l : List α} (h : Ro f k T W B (.slice ao n cap) l) (hi : i ≤ l.length) : Ro f k T W B (.slice ao i cap) (l.take i) := by
 have hl : (l.take i).length = i := by rw [List.length_take]; omega
 refine ⟨fm_len hf _, ?_⟩
 rw [hl]
 rcases h.2 with ⟨e, h0⟩ | ⟨g, cap', cur, e, a2, a3, a4, a5, a6, a7⟩
 ·cases e
  exact .inl ⟨by rw [show i = 0 by omega], by omega⟩
 ·cases e
  refine .inr ⟨g, cap, cur, rfl, a2, a3, by omega, a5, a6, ?_⟩
  have e1 : l.flatMap f = (l.take i).flatMap f ++ (l.drop i).flatMap f := by rw [← List.flatMap_append, List.take_append_drop]
  have e2 : ((l.take i).flatMap f).length = i * k := by rw [fm_len hf, hl]
  have e3 : (cur.toList.take (l.length * k)).take (i * k) = (l.take i).flatMap f := by rw [a7, e1, ← e2, List.take_left]
  have e4 : i * k ≤ l.length * k := Nat.mul_le_mul_right k hi
  rwa [List.take_take, Nat.min_eq_left e4] at e3
theorem ro_new (hf : Enc f k) (T : TypeId) (w : World) (l : List α) (hm : l.length ≤ maxLen) : Ro f k T (w.alloc (.cells (l.flatMap f).toArray T)) w.heap.size (.slice (some ⟨w.heap.size, 0, none⟩) l.length l.length) l :=
 ⟨fm_len hf l, .inr ⟨w.heap.size, l.length, (l.flatMap f).toArray, rfl, Nat.le_refl _, Array.getElem?_push_size, Nat.le_refl _, hm, by simp [fm_len hf], by
  rw [List.toList_toArray, ← fm_len hf, List.take_length]⟩⟩
structure Tyi (P : Program) (S T : TypeId) (k : Nat) : Prop where
 info : ∃ i z, P.info? T = some i ∧ i.zero = some z ∧ i.size = k ∧ i.bytes ≤ 300 ∧ z.cells.size = k
 und : P.underlying S = some (.slice T)
theorem wR {P : Program} {S T : TypeId} (hi : Tyi P S T k) (hf : Enc f k) {ops : Array Oper} {rest : List Oper} {o : Oper} {a : Act} {Q : Exit → Act → World → Prop} (w : World) (hg : o.guard = none) (y z : Operand) (ho : o.op = .call { callee := .builtin .append, args := #[y, z], argTypes := #[S, S] }) (B : Nat) (v : Value) (l : List α) (hy : a.eval y = v) (hown : Ro f k T w B v l) (hB : B ≤ w.heap.size) (u : Value) (q : List α) (hz : a.eval z = u) (hq : Rs f w u q) (hn : l.length + q.length ≤ 2000000000)
  (h : ∀ v' w', Ro f k T w' B v' (l ++ q) → w.grownBy w' v.ownBlock → Below B w w' → wpList P ops Q rest (a.put o.dst v') w') : wpList P ops Q (o :: rest) a w := by
 refine wpList_plain hg fun K hK => ?_
 obtain ⟨⟨i0, z0, h1, h2, h3, h4, h5⟩, hu⟩ := hi
 obtain ⟨ao, c, rfl, hc, hr⟩ := hq
 have key : ∃ v' w', (Builtin.append_ #[S, S] o.type #[v, .slice ao q.length c]).run P w = .ok v' w' ∧ w'.ownsRow B T k v' (l.length + q.length) (l.flatMap f ++ q.flatMap f) ∧ w.grownBy w' v.ownBlock := by
  by_cases h0 : 0 < q.length
  ·obtain ⟨b, o', rfl, hrg⟩ := hr h0
   obtain ⟨v', w', a1, a2, a3, _⟩ := run_append_own_at (P := P) w B S o.type T i0 z0 k i0.bytes hu h1 h2 h3 rfl h5 hf.pos v l.length (l.flatMap f) hown ⟨b, o', none⟩ q.length c (q.flatMap f) (fm_len hf q) (fun j x hj => by rw [Addr.add_mid]; exact hrg j x hj) (fm_one hf q) (by unfold maxLen; omega) (by
    have : (l.length + q.length) * i0.bytes ≤ 2000000000 * 300 := Nat.mul_le_mul hn h4
    omega) hB
   exact ⟨v', w', a1, a2, a3⟩
  ·have e : q = [] := List.eq_nil_iff_length_eq_zero.2 (by omega)
   subst e
   obtain ⟨a, c', rfl⟩ := hown.form
   have hcap : l.length ≤ c' := hown.rs.cap.2
   refine ⟨.slice a l.length c', w, ?_, by simpa using (show w.ownsRow B T k (.slice a l.length c') l.length (l.flatMap f) from hown), World.grownBy.refl _ _⟩
   have hn0 : l.length + 0 ≤ c' := hcap
   cases a <;> cases ao <;> simp [Builtin.append_, run_underlying hu, sizeOf, typeInfo, h1, Builtin.lenOf, Builtin.firstCells, loadCells, loadCellsFrom, hcap, storeCells]
 obtain ⟨v', w', hrun, ho', hg'⟩ := key
 unfold Oper.wp
 simp [execOp, ho, resolve, invoke, builtin, hy, hz, hrun, Result.andThen]
 refine hK _ _ (h v' w' ?_ hg' ((Below.refl B w).grown hg' hB (fun k e => (hown.lt k e).1)))
 unfold Ro
 rw [List.length_append, List.flatMap_append]
 exact ho'
end
end Go.Proofs.YtlggjgapdpkhiaaGreat
