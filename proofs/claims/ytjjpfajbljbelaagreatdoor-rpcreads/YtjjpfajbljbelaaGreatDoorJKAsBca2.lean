/-
  errors.As AT A TARGET OF TYPE *Code, by its contracts: the Code that a chain of Faults ends in is found and the target is set. (A seat without errors.New.) Conditions: errors.errorType holds the handle of the type error, and the target's cell is there and not frozen.
  NUMBERS AS BYTES, on lists alone (no program in sight): how a number is written, what is read at the head of bytes, that what is written is read as what it was, and that what is read was written in just that way. Conditions: bytes are bytes, numbers are at most 2^62 - 1.
-/
import Derived.Test.YtjjpfajbljbelaaGreatDoorJKAs
namespace Go.Proofs.YtjjpfajbljbelaaGreatDoor
open Go.RowKit Go.Extern.Stop Go.Stop Go.Extern
set_option maxRecDepth 100000
set_option maxHeartbeats 4000000
def chn : List (ByteArray × Int) → Value → Value
 | [], b => b
 | s :: l, b => .iface 98 (.agg #[.string s.1, .int .i64 s.2, chn l b])
def bse (k : Int) : Value := .iface 33 (.int .i64 k)
theorem size_inner (x y e : Value) : SizeOf.sizeOf e < SizeOf.sizeOf (Value.iface 98 (.agg #[x, y, e])) := by
 simp
 omega
theorem as43_some (l : List (ByteArray × Int)) (k : Int) (t vb : Nat) (old : Value) (w : World)
  (hv : w.cell? ⟨vb, 0, none⟩ = some (.pointer (some ⟨t, 0, none⟩))) (ht : w.cell? ⟨t, 0, none⟩ = some old) (hf : w.frozen? ⟨t, 0, none⟩ = false) :
  Calls Tryz.prog 123 #[chn l (bse k), .iface 156 (.pointer (some ⟨t, 0, none⟩)), .agg #[.pointer (some ⟨1, 156, none⟩), .pointer (some ⟨vb, 0, none⟩), .int .u64 150], .iface 163 (.agg #[.pointer (some ⟨1, 33, none⟩)])] w
   fun ev w' => ev = .returned (.bool true) ∧ ∃ u, Below w.heap.size w u ∧ w' = u.setCell ⟨t, 0, none⟩ (.int .i64 k) := by
 have htl := block_of_cell ht
 have hvl := block_of_cell hv
 have h34 := h34
 have h40 := h40
 have h44 := h44
 have h45 := h45
 have h68 := h68
 have m4 := mAssignableTo
 have m5 := mUnwrap
 have f7 := typeOf60
 have f8 := assign6032
 have g7 := typeOf32
 have g8 := assign3232
 have g9 := valueOf32
 have a1 := noAs60
 have a2 := unwraps60
 go_enter Tryz.func123, Tryz.ntmps123
 go_wp2
 go_loopw [0] (fun e W => ∃ l : List (ByteArray × Int), e = chn l (bse k) ∧ Below w.heap.size w W ∧ w.heap.size ≤ W.heap.size ∧
   W.cell? ⟨w.heap.size, 0, none⟩ = some (.pointer (some ⟨1, 156, none⟩)) ∧ W.cell? ⟨w.heap.size, 1, none⟩ = some (.pointer (some ⟨vb, 0, none⟩)) ∧ W.cell? ⟨w.heap.size, 2, none⟩ = some (.int .u64 150)) (fun e _ => SizeOf.sizeOf e)
 case atStart => exact ⟨l, rfl, (Below.refl _ _).alloc (Nat.le_refl _) _, by simp, by simp, by simp, by simp⟩
 case round =>
  obtain ⟨l', he, hb, hs, c0, c1, c2⟩ := hrel
  have hs1 : w.heap.size < wr.heap.size := block_of_cell c0
  rcases l' with _ | ⟨s, _ | ⟨s', l'⟩⟩
  ·simp only [chn, bse] at he
   subst he
   have el := elemV75 ⟨vb, 0, none⟩ ⟨t, 0, none⟩ wr (by rw [hb.cell hvl]; exact hv)
   have st := set32 ⟨t, 0, none⟩ ⟨wr.heap.size, 0, none⟩ (.int .i64 k) old (wr.alloc (.cells #[.int .i64 k] 33)) (by simp)
    (by rw [World.cell?_alloc_lt _ _ _ (by simp; omega), hb.cell htl]; exact ht) (by rw [World.frozen?_alloc_old _ _ _ (by simp; omega), hb.frozen htl]; exact hf) ⟨k, rfl⟩
   go_wp2
   go_ret
   exact ⟨rfl, _, hb.alloc hs _, rfl⟩
  ·simp only [chn, bse] at he
   subst he
   go_wp2
   go_roundw
   case rel => exact ⟨[], rfl, hb.alloc hs _, by simp; omega, by simp [go_sem, hs1, c0], by simp [go_sem, hs1, c1], by simp [go_sem, hs1, c2]⟩
   case measure => exact size_inner _ _ _
  ·simp only [chn, bse] at he
   subst he
   go_wp2
   go_roundw
   case rel => exact ⟨s' :: l', rfl, hb.alloc hs _, by simp; omega, by simp [go_sem, hs1, c0], by simp [go_sem, hs1, c1], by simp [go_sem, hs1, c2]⟩
   case measure => exact size_inner _ _ _
theorem chn_form (l : List (ByteArray × Int)) (c : Int) : ∃ ty v, chn l (bse c) = .iface ty v := by
 rcases l with _ | ⟨s, l⟩
 ·exact ⟨_, _, rfl⟩
 ·exact ⟨_, _, rfl⟩
theorem as32_some (l : List (ByteArray × Int)) (k : Int) (t : Nat) (old : Value) (w : World)
  (hg : w.cell? ⟨0, 0, none⟩ = some (.iface 163 (.agg #[.pointer (some ⟨1, 28, none⟩)])))
  (ht : w.cell? ⟨t, 0, none⟩ = some old) (hf : w.frozen? ⟨t, 0, none⟩ = false) :
  Calls Tryz.prog 97 #[chn l (bse k), .iface 156 (.pointer (some ⟨t, 0, none⟩))] w fun ev w' => ev = .returned (.bool true) ∧ ∃ u, Below w.heap.size w u ∧ w' = u.setCell ⟨t, 0, none⟩ (.int .i64 k) := by
 have htl := block_of_cell ht
 have hlt := size_of_handle hg
 have h40 := h40
 have h41 := h41
 have h42 := h42
 have h60 := h60
 have h70 := h70
 have h71 := h71
 have f1 := valueOf75
 have f2 := type75
 have f3 := kind75
 have f4 := kind32
 have f5 := elem75
 have f6 := implements32
 have m1 := mElem
 have m2 := mKind
 have m3 := mImplements
 have n8 := isNil75 ⟨w.heap.size, 0, none⟩ ⟨t, 0, none⟩ ((w.alloc (.cells #[.pointer (some ⟨t, 0, none⟩)] 156)).alloc (.cells #[.pointer (some ⟨1, 156, none⟩), .pointer (some ⟨w.heap.size, 0, none⟩), .int .u64 150] 189)) (by simp)
 have hc := as43_some l k t w.heap.size old ((w.alloc (.cells #[.pointer (some ⟨t, 0, none⟩)] 156)).alloc (.cells #[.pointer (some ⟨1, 156, none⟩), .pointer (some ⟨w.heap.size, 0, none⟩), .int .u64 150] 189))
  (by simp) (by iterate 2 rw [World.cell?_alloc_lt _ _ _ (by simp; omega)]
                exact ht) (by iterate 2 rw [World.frozen?_alloc_old _ _ _ (by simp; omega)]
                              exact hf)
 obtain ⟨ty, v, hv⟩ := chn_form l k
 rw [hv] at hc ⊢
 have HC := hide hc
 clear hc hv
 go_enter Tryz.func97, Tryz.ntmps97
 go_wp2_with (first | (go_at_call 123; refine (HC.out).mono ?_; rintro e w' ⟨rfl, u, hb, rfl⟩))
 go_ret
 exact ⟨rfl, u, (((Below.refl _ _).alloc (Nat.le_refl _) _).alloc (by simp) _).trans (hb.mono (by simp; omega)), rfl⟩
open Go.RowKit
def bc (x : Int) : Value := .int .u8 x
def ic (x : Int) : Value := .int .i64 x
def bv (l : List Int) : List Value := l.map fun x => Value.int .u8 x
theorem bv_eq (l : List Int) : bv l = l.map bc := rfl
def numL (n : Int) : List Int :=
 if n < 64 then [n] else if n < 16384 then [n / 256 + 64, n % 256] else if n < 1073741824 then [n / 16777216 + 128, n / 65536 % 256, n / 256 % 256, n % 256]
 else [n / 72057594037927936 + 192, n / 281474976710656 % 256, n / 1099511627776 % 256, n / 4294967296 % 256, n / 16777216 % 256, n / 65536 % 256, n / 256 % 256, n % 256]
def capN (n : Int) : Int := if 4611686018427387903 < n then 4611686018427387903 else n
def intL (n : Int) : List Int := if n < 0 then [0] else numL (capN n)
def finN (k : Nat) (lo n most : Int) : Int × Nat × Int := if n < lo then (5, 0, 0) else if most < n then (6, 0, 0) else (0, k, n)
def numS (r : List Int) (most : Int) : Int × Nat × Int := match r with
 | [] => (3, 0, 0)
 | x0 :: r =>
  if x0 / 64 = 0 then finN 1 0 (x0 % 64) most
  else if x0 / 64 = 1 then (match r with
   | x1 :: _ => finN 2 64 (x0 % 64 * 256 + x1) most
   | _ => (3, 0, 0))
  else if x0 / 64 = 2 then (match r with
   | x1 :: x2 :: x3 :: _ => finN 4 16384 (((x0 % 64 * 256 + x1) * 256 + x2) * 256 + x3) most
   | _ => (3, 0, 0))
  else (match r with
   | x1 :: x2 :: x3 :: x4 :: x5 :: x6 :: x7 :: _ => finN 8 1073741824 (((((((x0 % 64 * 256 + x1) * 256 + x2) * 256 + x3) * 256 + x4) * 256 + x5) * 256 + x6) * 256 + x7) most
   | _ => (3, 0, 0))
theorem numL_le (n : Int) : (numL n).length ≤ 8 := by
 unfold numL; split
 ·simp
 ·split
  ·simp
  ·split <;> simp
theorem intL_le (n : Int) : (intL n).length ≤ 8 := by
 unfold intL; split
 ·simp
 ·exact numL_le _
def Byt (l : List Int) : Prop := ∀ x ∈ l, 0 ≤ x ∧ x ≤ 255
theorem numL_byt {n : Int} (h0 : 0 ≤ n) (h1 : n ≤ 4611686018427387903) : Byt (numL n) := by
 unfold numL Byt
 intro x hx
 split at hx
 ·simp at hx; omega
 ·split at hx
  ·simp at hx; rcases hx with rfl | rfl <;> omega
  ·split at hx
   ·simp at hx; rcases hx with rfl | rfl | rfl | rfl <;> omega
   ·simp at hx; rcases hx with rfl | rfl | rfl | rfl | rfl | rfl | rfl | rfl <;> omega
theorem fin_ok {k : Nat} {lo n m most : Int} (h : n = m) (h0 : lo ≤ m) (h1 : m ≤ most) : finN k lo n most = (0, k, m) := by
 subst h
 rw [finN, if_neg (by omega), if_neg (by omega)]
theorem numS_numL {n most : Int} (r : List Int) (h0 : 0 ≤ n) (h1 : n ≤ 4611686018427387903) (hm : n ≤ most) : numS (numL n ++ r) most = (0, (numL n).length, n) := by
 by_cases a : n < 64
 ·simp only [numL, if_pos a, List.cons_append, List.nil_append, numS, List.length_cons, List.length_nil]
  rw [if_pos (by omega)]
  exact fin_ok (by omega) (by omega) hm
 ·by_cases b : n < 16384
  ·simp only [numL, if_neg a, if_pos b, List.cons_append, List.nil_append, numS, List.length_cons, List.length_nil]
   rw [if_neg (by omega), if_pos (by omega)]
   exact fin_ok (by omega) (by omega) hm
  ·by_cases c : n < 1073741824
   ·simp only [numL, if_neg a, if_neg b, if_pos c, List.cons_append, List.nil_append, numS, List.length_cons, List.length_nil]
    rw [if_neg (by omega), if_neg (by omega), if_pos (by omega)]
    exact fin_ok (by omega) (by omega) hm
   ·simp only [numL, if_neg a, if_neg b, if_neg c, List.cons_append, List.nil_append, numS, List.length_cons, List.length_nil]
    rw [if_neg (by omega), if_neg (by omega), if_neg (by omega)]
    exact fin_ok (by omega) (by omega) hm
theorem fin_inv {k : Nat} {lo n most : Int} {j : Nat} {m : Int} (h : finN k lo n most = (0, j, m)) : j = k ∧ m = n ∧ lo ≤ n ∧ n ≤ most := by
 unfold finN at h
 split at h
 ·simp at h
 ·split at h
  ·simp at h
  ·simp at h; omega
theorem numS_once {r : List Int} {most : Int} {k : Nat} {n : Int} (hb : Byt r) (h : numS r most = (0, k, n)) : r.take k = numL n ∧ k = (numL n).length ∧ 0 ≤ n ∧ n ≤ 4611686018427387903 ∧ n ≤ most ∧ k ≤ r.length := by
 rcases r with _ | ⟨x0, r⟩
 ·simp [numS] at h
 have b0 := hb x0 (by simp)
 unfold numS at h
 simp only at h
 split at h
 ·obtain ⟨rfl, rfl, h1, h2⟩ := fin_inv h
  have e : numL (x0 % 64) = [x0] := by rw [numL, if_pos (by omega)]; congr 1; omega
  rw [e]
  refine ⟨by simp, by simp, by omega, by omega, h2, by simp⟩
 ·split at h
  ·rcases r with _ | ⟨x1, r⟩
   ·simp at h
   have b1 := hb x1 (by simp)
   obtain ⟨rfl, rfl, h1, h2⟩ := fin_inv h
   have e : numL (x0 % 64 * 256 + x1) = [x0, x1] := by
    rw [numL, if_neg (by omega), if_pos (by omega)]
    simp only [List.cons.injEq, and_true]; refine ⟨?_, ?_⟩ <;> omega
   rw [e]
   refine ⟨by simp, by simp, by omega, by omega, h2, by simp⟩
  ·split at h
   ·rcases r with _ | ⟨x1, _ | ⟨x2, _ | ⟨x3, r⟩⟩⟩
    ·simp at h
    ·simp at h
    ·simp at h
    have b1 := hb x1 (by simp)
    have b2 := hb x2 (by simp)
    have b3 := hb x3 (by simp)
    obtain ⟨rfl, rfl, h1, h2⟩ := fin_inv h
    have e : numL (((x0 % 64 * 256 + x1) * 256 + x2) * 256 + x3) = [x0, x1, x2, x3] := by
     rw [numL, if_neg (by omega), if_neg (by omega), if_pos (by omega)]
     simp only [List.cons.injEq, and_true]; refine ⟨?_, ?_, ?_, ?_⟩ <;> omega
    rw [e]
    refine ⟨by simp, by simp, by omega, by omega, h2, by simp⟩
   ·rcases r with _ | ⟨x1, _ | ⟨x2, _ | ⟨x3, _ | ⟨x4, _ | ⟨x5, _ | ⟨x6, _ | ⟨x7, r⟩⟩⟩⟩⟩⟩⟩
    ·simp at h
    ·simp at h
    ·simp at h
    ·simp at h
    ·simp at h
    ·simp at h
    ·simp at h
    have b1 := hb x1 (by simp)
    have b2 := hb x2 (by simp)
    have b3 := hb x3 (by simp)
    have b4 := hb x4 (by simp)
    have b5 := hb x5 (by simp)
    have b6 := hb x6 (by simp)
    have b7 := hb x7 (by simp)
    obtain ⟨rfl, rfl, h1, h2⟩ := fin_inv h
    have e : numL (((((((x0 % 64 * 256 + x1) * 256 + x2) * 256 + x3) * 256 + x4) * 256 + x5) * 256 + x6) * 256 + x7) = [x0, x1, x2, x3, x4, x5, x6, x7] := by
     rw [numL, if_neg (by omega), if_neg (by omega), if_neg (by omega)]
     simp only [List.cons.injEq, and_true]; refine ⟨?_, ?_, ?_, ?_, ?_, ?_, ?_, ?_⟩ <;> omega
    rw [e]
    refine ⟨by simp, by simp, by omega, by omega, h2, by simp⟩
end Go.Proofs.YtjjpfajbljbelaaGreatDoor
