/-
  THE ENTRIES OF internal/reflectlite THAT READ OR WRITE MEMORY, at this translation: (Value).IsNil, (Value).Elem and (Value).Set at the Values that errors.As makes. Conditions: what the cells that are read hold, and that those that are written are there and not frozen.
  errors.As, by its contracts. At a target of type *Fault: a Fault is found at once and the target is set; a Code and what errors.New makes are not found. Nil has none. Conditions: errors.errorType holds the handle of the type error, and the target's cells are there and not frozen.
  errors.As AT A TARGET OF TYPE *Code, by its contracts: the Code that a chain of Faults ends in is found and the target is set. (A seat without errors.New.) Conditions: errors.errorType holds the handle of the type error, and the target's cell is there and not frozen.
  ROWS OF ELEMENTS OF SEVERAL CELLS, WHATEVER THE ELEMENTS: a slice that holds some, to be read; its parts; a row of a call's own, and more behind it. Conditions: no more than two thousand million elements of no more than 300 bytes.
-/
import Derived.Test.YtlggjgapdpkhiaaGreatDoorJKFacts
import Derived.Test.YtlggjgapdpkhiaaGreatDoorJKSlca4
import Derived.Maps.AppendAt
import Derived.OwnWalk
import Derived.Deep.AppendSrc
import Derived.Deep.MidRow
namespace Go.Proofs.YtlggjgapdpkhiaaGreatDoor
open Go.RowKit Go.Extern.Stop Go.Stop Go.Extern
theorem isNil75 (a p : Addr) (W : World) (ha : W.cell? a = some (.pointer (some p))) :
  (ReflectliteValue.method (ReflectliteValue.valueError "reflectlite.Value.IsNil" 0) ReflectliteValue.isNil #[.agg #[.pointer (some ⟨1, 110, none⟩), .pointer (some a), .int .u64 150]]).run Tryz.prog W = .ok (.bool false) W := by
 delta ReflectliteValue.method ReflectliteValue.method.match_2
 simp only [List.size_toArray, List.length_cons, List.length_nil, Nat.zero_add, dite_true, Array.getLit, List.getElem_toArray, List.getElem_cons_zero, Sem.run_bind, parts75, Result.andThen]
 simp [ReflectliteValue.isNil, loadVar, isAgg, underlying, Tryz.underlying110, ha, Result.andThen]
theorem elemV75 (a p : Addr) (W : World) (ha : W.cell? a = some (.pointer (some p))) :
  (ReflectliteValue.method (ReflectliteValue.valueError "reflectlite.Value.Elem" 0) ReflectliteValue.elem #[.agg #[.pointer (some ⟨1, 110, none⟩), .pointer (some a), .int .u64 150]]).run Tryz.prog W
   = .ok (.agg #[.pointer (some ⟨1, 38, none⟩), .pointer (some p), .int .u64 386]) W := by
 delta ReflectliteValue.method ReflectliteValue.method.match_2
 simp only [List.size_toArray, List.length_cons, List.length_nil, Nat.zero_add, dite_true, Array.getLit, List.getElem_toArray, List.getElem_cons_zero, Sem.run_bind, parts75, Result.andThen]
 simp [ReflectliteValue.elem, loadVar, isAgg, underlying, Tryz.underlying110, ha, Result.andThen, elemOf75, mk32]
theorem set32 (ta b : Addr) (e old : Value) (W : World) (hb : W.cell? b = some e) (ht : W.cell? ta = some old) (hf : W.frozen? ta = false) (hi : ∃ n, e = .int .i64 n) :
  (ReflectliteValue.set #[.agg #[.pointer (some ⟨1, 38, none⟩), .pointer (some ta), .int .u64 386], .agg #[.pointer (some ⟨1, 38, none⟩), .pointer (some b), .int .u64 130]]).run Tryz.prog W
   = .ok (.tuple #[]) (W.setCell ta e) := by
 obtain ⟨n, rfl⟩ := hi
 delta ReflectliteValue.set ReflectliteValue.set.match_3
 simp only [List.size_toArray, List.length_cons, List.length_nil, Nat.zero_add, Nat.reduceAdd, dite_true, Array.getLit, List.getElem_toArray, List.getElem_cons_zero, List.getElem_cons_succ, Sem.run_bind, parts32a, parts32, Result.andThen]
 simp [ReflectliteValue.flagAddr, loadVar, isAgg, underlying, Tryz.underlying38, hb, Result.andThen, direct32, storeVar, Value.cells, storeCells, Addr.add]
 rw [run_store Tryz.prog W ta _ _ (by rfl)]
 simp [ht, hf]
end Go.Proofs.YtlggjgapdpkhiaaGreatDoor
namespace Go.Proofs.YtlggjgapdpkhiaaGreatDoor
open Go.RowKit Go.Extern.Stop Go.Stop Go.Extern
theorem size_of_handle {w : World} {v : Value} (hg : w.cell? ⟨0, 0, none⟩ = some v) : 0 < w.heap.size := by
 rcases Nat.eq_zero_or_pos w.heap.size with h0 | h
 ·simp [World.cell?, h0] at hg
 ·exact h
theorem block_of_cell {w : World} {v : Value} {b o : Nat} (hg : w.cell? ⟨b, o, none⟩ = some v) : b < w.heap.size := by
 rcases Nat.lt_or_ge b w.heap.size with h | h
 ·exact h
 ·simp [World.cell?, Array.getElem?_eq_none h] at hg
end Go.Proofs.YtlggjgapdpkhiaaGreatDoor
namespace Go.Proofs.YtlggjgapdpkhiaaGreatDoor
open Go.RowKit Go.Extern.Stop Go.Stop Go.Extern
set_option maxRecDepth 100000
set_option maxHeartbeats 4000000
def chn : List (ByteArray × Int) → Value → Value
 | [], b => b
 | s :: l, b => .iface 97 (.agg #[.string s.1, .int .i64 s.2, chn l b])
def bse (k : Int) : Value := .iface 38 (.int .i64 k)
theorem size_inner (x y e : Value) : SizeOf.sizeOf e < SizeOf.sizeOf (Value.iface 97 (.agg #[x, y, e])) := by
 simp
 omega
theorem as43_some (l : List (ByteArray × Int)) (k : Int) (t vb : Nat) (old : Value) (w : World)
  (hv : w.cell? ⟨vb, 0, none⟩ = some (.pointer (some ⟨t, 0, none⟩))) (ht : w.cell? ⟨t, 0, none⟩ = some old) (hf : w.frozen? ⟨t, 0, none⟩ = false) :
  Calls Tryz.prog 115 #[chn l (bse k), .iface 110 (.pointer (some ⟨t, 0, none⟩)), .agg #[.pointer (some ⟨1, 110, none⟩), .pointer (some ⟨vb, 0, none⟩), .int .u64 150], .iface 158 (.agg #[.pointer (some ⟨1, 38, none⟩)])] w
   fun ev w' => ev = .returned (.bool true) ∧ ∃ u, Below w.heap.size w u ∧ w' = u.setCell ⟨t, 0, none⟩ (.int .i64 k) := by
 have htl := block_of_cell ht
 have hvl := block_of_cell hv
 have h34 := h34
 have h40 := h40
 have h44 := h44
 have h45 := h45
 have h68 := h68
 have m4 := mAssignableTo
 have m5 := mUnwrap
 have f7 := typeOf60
 have f8 := assign6032
 have g7 := typeOf32
 have g8 := assign3232
 have g9 := valueOf32
 have a1 := noAs60
 have a2 := unwraps60
 go_enter Tryz.func115, Tryz.ntmps115
 go_wp2
 go_loopw [0] (fun e W => ∃ l : List (ByteArray × Int), e = chn l (bse k) ∧ Below w.heap.size w W ∧ w.heap.size ≤ W.heap.size ∧
   W.cell? ⟨w.heap.size, 0, none⟩ = some (.pointer (some ⟨1, 110, none⟩)) ∧ W.cell? ⟨w.heap.size, 1, none⟩ = some (.pointer (some ⟨vb, 0, none⟩)) ∧ W.cell? ⟨w.heap.size, 2, none⟩ = some (.int .u64 150)) (fun e _ => SizeOf.sizeOf e)
 case atStart => exact ⟨l, rfl, (Below.refl _ _).alloc (Nat.le_refl _) _, by simp, by simp, by simp, by simp⟩
 case round =>
  obtain ⟨l', he, hb, hs, c0, c1, c2⟩ := hrel
  have hs1 : w.heap.size < wr.heap.size := block_of_cell c0
  rcases l' with _ | ⟨s, _ | ⟨s', l'⟩⟩
  ·simp only [chn, bse] at he
   subst he
   have el := elemV75 ⟨vb, 0, none⟩ ⟨t, 0, none⟩ wr (by rw [hb.cell hvl]; exact hv)
   have st := set32 ⟨t, 0, none⟩ ⟨wr.heap.size, 0, none⟩ (.int .i64 k) old (wr.alloc (.cells #[.int .i64 k] 38)) (by simp)
    (by rw [World.cell?_alloc_lt _ _ _ (by simp; omega), hb.cell htl]; exact ht) (by rw [World.frozen?_alloc_old _ _ _ (by simp; omega), hb.frozen htl]; exact hf) ⟨k, rfl⟩
   go_wp2
   go_ret
   exact ⟨rfl, _, hb.alloc hs _, rfl⟩
  ·simp only [chn, bse] at he
   subst he
   go_wp2
   go_roundw
   case rel => exact ⟨[], rfl, hb.alloc hs _, by simp; omega, by simp [go_sem, hs1, c0], by simp [go_sem, hs1, c1], by simp [go_sem, hs1, c2]⟩
   case measure => exact size_inner _ _ _
  ·simp only [chn, bse] at he
   subst he
   go_wp2
   go_roundw
   case rel => exact ⟨s' :: l', rfl, hb.alloc hs _, by simp; omega, by simp [go_sem, hs1, c0], by simp [go_sem, hs1, c1], by simp [go_sem, hs1, c2]⟩
   case measure => exact size_inner _ _ _
theorem chn_form (l : List (ByteArray × Int)) (c : Int) : ∃ ty v, chn l (bse c) = .iface ty v := by
 rcases l with _ | ⟨s, l⟩
 ·exact ⟨_, _, rfl⟩
 ·exact ⟨_, _, rfl⟩
theorem as32_some (l : List (ByteArray × Int)) (k : Int) (t : Nat) (old : Value) (w : World)
  (hg : w.cell? ⟨0, 0, none⟩ = some (.iface 158 (.agg #[.pointer (some ⟨1, 32, none⟩)])))
  (ht : w.cell? ⟨t, 0, none⟩ = some old) (hf : w.frozen? ⟨t, 0, none⟩ = false) :
  Calls Tryz.prog 76 #[chn l (bse k), .iface 110 (.pointer (some ⟨t, 0, none⟩))] w fun ev w' => ev = .returned (.bool true) ∧ ∃ u, Below w.heap.size w u ∧ w' = u.setCell ⟨t, 0, none⟩ (.int .i64 k) := by
 have htl := block_of_cell ht
 have hlt := size_of_handle hg
 have h40 := h40
 have h41 := h41
 have h42 := h42
 have h60 := h60
 have h70 := h70
 have h71 := h71
 have f1 := valueOf75
 have f2 := type75
 have f3 := kind75
 have f4 := kind32
 have f5 := elem75
 have f6 := implements32
 have m1 := mElem
 have m2 := mKind
 have m3 := mImplements
 have n8 := isNil75 ⟨w.heap.size, 0, none⟩ ⟨t, 0, none⟩ ((w.alloc (.cells #[.pointer (some ⟨t, 0, none⟩)] 110)).alloc (.cells #[.pointer (some ⟨1, 110, none⟩), .pointer (some ⟨w.heap.size, 0, none⟩), .int .u64 150] 145)) (by simp)
 have hc := as43_some l k t w.heap.size old ((w.alloc (.cells #[.pointer (some ⟨t, 0, none⟩)] 110)).alloc (.cells #[.pointer (some ⟨1, 110, none⟩), .pointer (some ⟨w.heap.size, 0, none⟩), .int .u64 150] 145))
  (by simp) (by iterate 2 rw [World.cell?_alloc_lt _ _ _ (by simp; omega)]
                exact ht) (by iterate 2 rw [World.frozen?_alloc_old _ _ _ (by simp; omega)]
                              exact hf)
 obtain ⟨ty, v, hv⟩ := chn_form l k
 rw [hv] at hc ⊢
 have HC := hide hc
 clear hc hv
 go_enter Tryz.func76, Tryz.ntmps76
 go_wp2_with (first | (go_at_call 115; refine (HC.out).mono ?_; rintro e w' ⟨rfl, u, hb, rfl⟩))
 go_ret
 exact ⟨rfl, u, (((Below.refl _ _).alloc (Nat.le_refl _) _).alloc (by simp) _).trans (hb.mono (by simp; omega)), rfl⟩
end Go.Proofs.YtlggjgapdpkhiaaGreatDoor
namespace Go.Proofs.YtlggjgapdpkhiaaGreatDoor
open Go.RowKit
structure Enc {α : Type} (f : α → List Value) (k : Nat) : Prop where
 len : ∀ x, (f x).length = k
 one : ∀ x, ∀ u ∈ f x, u.oneCell' = true
 pos : 0 < k
theorem rg_bel {W W' : World} {b o : Nat} {cs : List Value} (h : W.rangeAt b o cs) (hb : Below W.heap.size W W') : W'.rangeAt b o cs := fun j u hu =>
 (hb.cell (p := ⟨b, o + j, none⟩) (cell_block (h j u hu) : b < W.heap.size)).trans (h j u hu)
theorem rg_app {W : World} {b o : Nat} {x y : List Value} (h : W.rangeAt b o (x ++ y)) : W.rangeAt b o x ∧ W.rangeAt b (o + x.length) y :=
 ⟨fun j u hu => h j u (by rw [List.getElem?_append_left (List.getElem?_eq_some_iff.1 hu).1]; exact hu), fun j u hu => by
  rw [Nat.add_assoc]
  exact h _ u (by rw [List.getElem?_append_right (by omega), Nat.add_sub_cancel_left]; exact hu)⟩
section
variable {α : Type} {f : α → List Value} {k : Nat}
theorem fm_len (hf : Enc f k) : ∀ l : List α, (l.flatMap f).length = l.length * k
 | [] => by simp
 | x :: r => by rw [List.flatMap_cons, List.length_append, hf.len, fm_len hf r, List.length_cons, Nat.succ_mul]; omega
theorem fm_one (hf : Enc f k) (l : List α) : ∀ u ∈ l.flatMap f, u.oneCell' = true := fun u hu => by
 obtain ⟨p, _, hp⟩ := List.mem_flatMap.1 hu
 exact hf.one p u hp
def Rs (f : α → List Value) (W : World) (v : Value) (l : List α) : Prop := ∃ ao cap, v = .slice ao l.length cap ∧ l.length ≤ cap ∧ (0 < l.length → ∃ b o, ao = some ⟨b, o, none⟩ ∧ W.rangeAt b o (l.flatMap f))
theorem Rs.below {W W' : World} {v : Value} {l : List α} (h : Rs f W v l) (hb : Below W.heap.size W W') : Rs f W' v l := by
 obtain ⟨ao, cap, e, hc, hr⟩ := h
 exact ⟨ao, cap, e, hc, fun q => by obtain ⟨b, o, e1, e2⟩ := hr q; exact ⟨b, o, e1, rg_bel e2 hb⟩⟩
theorem Rs.form {W : World} {v : Value} {l : List α} (h : Rs f W v l) : ∃ a c, v = .slice a l.length c := by
 obtain ⟨ao, cap, e, _⟩ := h
 exact ⟨ao, cap, e⟩
theorem rs_nil (f : α → List Value) (W : World) (ao : Option Addr) (cap : Nat) : Rs f W (.slice ao 0 cap) [] := ⟨ao, cap, rfl, Nat.zero_le _, fun h => by simp at h⟩
theorem Rs.cap {W : World} {ao : Option Addr} {n c : Nat} {l : List α} (h : Rs f W (.slice ao n c) l) : n = l.length ∧ l.length ≤ c := by
 obtain ⟨_, _, e, hc, _⟩ := h
 cases e
 exact ⟨rfl, hc⟩
theorem Rs.rg {W : World} {ao : Option Addr} {n c : Nat} {l : List α} (h : Rs f W (.slice ao n c) l) (hl : 0 < l.length) : ∃ b o, ao = some ⟨b, o, none⟩ ∧ W.rangeAt b o (l.flatMap f) := by
 obtain ⟨_, _, e, _, hr⟩ := h
 cases e
 exact hr hl
theorem fm_at (hf : Enc f k) {W : World} {b o : Nat} {l : List α} (h : W.rangeAt b o (l.flatMap f)) {i : Nat} (hi : i < l.length) : W.rangeAt b (o + i * k) (f l[i]) := by
 have e : l.flatMap f = (l.take i).flatMap f ++ (f l[i] ++ (l.drop (i + 1)).flatMap f) := by
  rw [← List.flatMap_cons, ← List.drop_eq_getElem_cons hi, ← List.flatMap_append, List.take_append_drop]
 rw [e] at h
 have h1 := (rg_app (rg_app h).2).1
 rwa [fm_len hf, List.length_take, Nat.min_eq_left (by omega)] at h1
theorem Rs.at (hf : Enc f k) {W : World} {b o n c : Nat} {l : List α} (h : Rs f W (.slice (some ⟨b, o, none⟩) n c) l) {i : Nat} (hi : i < l.length) : W.rangeAt b (o + i * k) (f l[i]) := by
 obtain ⟨b', o', e, hr⟩ := h.rg (by omega)
 cases e
 exact fm_at hf hr hi
theorem Rs.part (hf : Enc f k) {W : World} {ao : Option Addr} {n c : Nat} {l : List α} (h : Rs f W (.slice ao n c) l) (i j : Nat) (hij : i ≤ j) (hj : j ≤ l.length) (ao' : Option Addr) (ha : i < j → ∀ b o, ao = some ⟨b, o, none⟩ → ao' = some ⟨b, o + i * k, none⟩) : Rs f W (.slice ao' (j - i) (c - i)) ((l.drop i).take (j - i)) := by
 have hl : ((l.drop i).take (j - i)).length = j - i := by rw [List.length_take, List.length_drop]; omega
 have hc := h.cap
 refine ⟨ao', c - i, by rw [hl], by rw [hl]; omega, fun q => ?_⟩
 rw [hl] at q
 obtain ⟨b, o, e, hr⟩ := h.rg (by omega)
 refine ⟨b, o + i * k, ha (by omega) b o e, ?_⟩
 have e1 : l.flatMap f = (l.take i).flatMap f ++ (((l.drop i).take (j - i)).flatMap f ++ ((l.drop i).drop (j - i)).flatMap f) := by
  rw [← List.flatMap_append, List.take_append_drop, ← List.flatMap_append, List.take_append_drop]
 rw [e1] at hr
 have h1 := (rg_app (rg_app hr).2).1
 rwa [fm_len hf, List.length_take, Nat.min_eq_left (by omega)] at h1
def Ro (f : α → List Value) (k : Nat) (T : TypeId) (W : World) (B : Nat) (v : Value) (l : List α) : Prop := W.ownsRow B T k v l.length (l.flatMap f)
theorem ro_nil (f : α → List Value) (k : Nat) (T : TypeId) (W : World) (B : Nat) : Ro f k T W B (.slice none 0 0) [] := World.ownsRow_nil _ _ _ _
theorem Ro.below {T : TypeId} {W W' : World} {B : Nat} {v : Value} {l : List α} (h : Ro f k T W B v l) (hb : Below W.heap.size W W') : Ro f k T W' B v l := owns_below h hb
theorem Ro.mono {T : TypeId} {W : World} {B C : Nat} {v : Value} {l : List α} (h : Ro f k T W B v l) (hc : C ≤ B) : Ro f k T W C v l := owns_mono h hc
theorem Ro.form {T : TypeId} {W : World} {B : Nat} {v : Value} {l : List α} (h : Ro f k T W B v l) : ∃ a c, v = .slice a l.length c := by
 rcases h.2 with ⟨e, h0⟩ | ⟨g, cap, cur, e, _⟩
 ·rw [e, h0]; exact ⟨_, _, rfl⟩
 ·exact ⟨_, _, e⟩
theorem Ro.rs {T : TypeId} {W : World} {B : Nat} {v : Value} {l : List α} (h : Ro f k T W B v l) : Rs f W v l := by
 rcases h.2 with ⟨e, h0⟩ | ⟨g, cap, cur, e, a2, a3, a4, a5, a6, a7⟩
 ·exact ⟨none, 0, by rw [e, h0], by omega, fun q => by omega⟩
 ·refine ⟨some ⟨g, 0, none⟩, cap, e, a4, fun _ => ⟨g, 0, rfl, fun j x hj => ?_⟩⟩
  have hl : j < (l.flatMap f).length := (List.getElem?_eq_some_iff.1 hj).1
  have h1 : (l.flatMap f).length = l.length * k := h.1
  rw [← a7, List.getElem?_take_of_lt (by omega)] at hj
  simp only [World.cell?, a3, Nat.zero_add]
  simpa using hj
theorem Ro.take (hf : Enc f k) {T : TypeId} {W : World} {B : Nat} {ao : Option Addr} {n cap i : Nat} {l : List α} (h : Ro f k T W B (.slice ao n cap) l) (hi : i ≤ l.length) : Ro f k T W B (.slice ao i cap) (l.take i) := by
 have hl : (l.take i).length = i := by rw [List.length_take]; omega
 refine ⟨fm_len hf _, ?_⟩
 rw [hl]
 rcases h.2 with ⟨e, h0⟩ | ⟨g, cap', cur, e, a2, a3, a4, a5, a6, a7⟩
 ·cases e
  exact .inl ⟨by rw [show i = 0 by omega], by omega⟩
 ·cases e
  refine .inr ⟨g, cap, cur, rfl, a2, a3, by omega, a5, a6, ?_⟩
  have e1 : l.flatMap f = (l.take i).flatMap f ++ (l.drop i).flatMap f := by rw [← List.flatMap_append, List.take_append_drop]
  have e2 : ((l.take i).flatMap f).length = i * k := by rw [fm_len hf, hl]
  have e3 : (cur.toList.take (l.length * k)).take (i * k) = (l.take i).flatMap f := by rw [a7, e1, ← e2, List.take_left]
  have e4 : i * k ≤ l.length * k := Nat.mul_le_mul_right k hi
  rwa [List.take_take, Nat.min_eq_left e4] at e3
theorem ro_new (hf : Enc f k) (T : TypeId) (w : World) (l : List α) (hm : l.length ≤ maxLen) : Ro f k T (w.alloc (.cells (l.flatMap f).toArray T)) w.heap.size (.slice (some ⟨w.heap.size, 0, none⟩) l.length l.length) l :=
 ⟨fm_len hf l, .inr ⟨w.heap.size, l.length, (l.flatMap f).toArray, rfl, Nat.le_refl _, Array.getElem?_push_size, Nat.le_refl _, hm, by simp [fm_len hf], by
  rw [List.toList_toArray, ← fm_len hf, List.take_length]⟩⟩
structure Tyi (P : Program) (S T : TypeId) (k : Nat) : Prop where
 info : ∃ i z, P.info? T = some i ∧ i.zero = some z ∧ i.size = k ∧ i.bytes ≤ 300 ∧ z.cells.size = k
 und : P.underlying S = some (.slice T)
theorem wpList_appR {P : Program} {S T : TypeId} (hi : Tyi P S T k) (hf : Enc f k) {ops : Array Oper} {rest : List Oper} {o : Oper} {a : Act} {Q : Exit → Act → World → Prop} (w : World) (hg : o.guard = none) (y z : Operand) (ho : o.op = .call { callee := .builtin .append, args := #[y, z], argTypes := #[S, S] }) (B : Nat) (v : Value) (l : List α) (hy : a.eval y = v) (hown : Ro f k T w B v l) (hB : B ≤ w.heap.size) (u : Value) (q : List α) (hz : a.eval z = u) (hq : Rs f w u q) (hn : l.length + q.length ≤ 2000000000)
  (h : ∀ v' w', Ro f k T w' B v' (l ++ q) → w.grownBy w' v.ownBlock → Below B w w' → wpList P ops Q rest (a.put o.dst v') w') : wpList P ops Q (o :: rest) a w := by
 refine wpList_plain hg fun K hK => ?_
 obtain ⟨⟨i0, z0, h1, h2, h3, h4, h5⟩, hu⟩ := hi
 obtain ⟨ao, c, rfl, hc, hr⟩ := hq
 have key : ∃ v' w', (Builtin.append_ #[S, S] o.type #[v, .slice ao q.length c]).run P w = .ok v' w' ∧ w'.ownsRow B T k v' (l.length + q.length) (l.flatMap f ++ q.flatMap f) ∧ w.grownBy w' v.ownBlock := by
  by_cases h0 : 0 < q.length
  ·obtain ⟨b, o', rfl, hrg⟩ := hr h0
   obtain ⟨v', w', a1, a2, a3, _⟩ := run_append_own_at (P := P) w B S o.type T i0 z0 k i0.bytes hu h1 h2 h3 rfl h5 hf.pos v l.length (l.flatMap f) hown ⟨b, o', none⟩ q.length c (q.flatMap f) (fm_len hf q) (fun j x hj => by rw [Addr.add_mid]; exact hrg j x hj) (fm_one hf q) (by unfold maxLen; omega) (by
    have : (l.length + q.length) * i0.bytes ≤ 2000000000 * 300 := Nat.mul_le_mul hn h4
    omega) hB
   exact ⟨v', w', a1, a2, a3⟩
  ·have e : q = [] := List.eq_nil_iff_length_eq_zero.2 (by omega)
   subst e
   obtain ⟨a, c', rfl⟩ := hown.form
   have hcap : l.length ≤ c' := hown.rs.cap.2
   refine ⟨.slice a l.length c', w, ?_, by simpa using (show w.ownsRow B T k (.slice a l.length c') l.length (l.flatMap f) from hown), World.grownBy.refl _ _⟩
   have hn0 : l.length + 0 ≤ c' := hcap
   cases a <;> cases ao <;> simp [Builtin.append_, run_underlying hu, sizeOf, typeInfo, h1, Builtin.lenOf, Builtin.firstCells, loadCells, loadCellsFrom, hcap, storeCells]
 obtain ⟨v', w', hrun, ho', hg'⟩ := key
 unfold Oper.wp
 simp [execOp, ho, resolve, invoke, builtin, hy, hz, hrun, Result.andThen]
 refine hK _ _ (h v' w' ?_ hg' ((Below.refl B w).grown hg' hB (fun k e => (hown.lt k e).1)))
 unfold Ro
 rw [List.length_append, List.flatMap_append]
 exact ho'
end
end Go.Proofs.YtlggjgapdpkhiaaGreatDoor
