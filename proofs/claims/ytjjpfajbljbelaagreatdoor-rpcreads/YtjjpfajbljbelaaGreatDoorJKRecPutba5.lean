/-
  A RECORD AS BYTES, behind any others (record.Put, of a record that may be).
  WHAT IS READ OF A RECORD BEHIND ITS KIND (record.fields). Conditions: the bytes' cells hold them, each is a byte, no more than ten thousand, they don't lie in the reader, and the reader is within them.
  WHAT IS READ OF A RECORD BEHIND ITS KIND (record.fields): the walk.
  THE RECORD THAT A READER READS NEXT (record.Read): what the document says. Conditions: the bytes' cells hold them, each is a byte, no more than ten thousand, they don't lie in the reader, and the reader is within them.
  THE RECORD THAT A READER READS NEXT (record.Read): the walk.
-/
import Derived.Test.YtjjpfajbljbelaaGreatDoorJKRecPta5
namespace Go.Proofs.YtjjpfajbljbelaaGreatDoor
open Go.RowKit
theorem idx8 (p j : Nat) (hj : j < 8) (W : World) : (Instr.index 198 (.agg #[.pointer (some ⟨p, 1, none⟩), .pointer (some ⟨p, 2, none⟩), .pointer (some ⟨p, 3, none⟩), .pointer (some ⟨p, 4, none⟩), .pointer (some ⟨p, 5, none⟩), .pointer (some ⟨p, 6, none⟩), .pointer (some ⟨p, 7, none⟩), .pointer (some ⟨p, 8, none⟩)]) (.int .i64 (j : Int))).run Tryz.prog W = .ok (.pointer (some ⟨p, j + 1, none⟩)) W := by
 have e0 : (Instr.index 198 (.agg #[.pointer (some ⟨p, 1, none⟩), .pointer (some ⟨p, 2, none⟩), .pointer (some ⟨p, 3, none⟩), .pointer (some ⟨p, 4, none⟩), .pointer (some ⟨p, 5, none⟩), .pointer (some ⟨p, 6, none⟩), .pointer (some ⟨p, 7, none⟩), .pointer (some ⟨p, 8, none⟩)]) (.int .i64 0)).run Tryz.prog W = .ok (.pointer (some ⟨p, 1, none⟩)) W := by kernel_rfl
 have e1 : (Instr.index 198 (.agg #[.pointer (some ⟨p, 1, none⟩), .pointer (some ⟨p, 2, none⟩), .pointer (some ⟨p, 3, none⟩), .pointer (some ⟨p, 4, none⟩), .pointer (some ⟨p, 5, none⟩), .pointer (some ⟨p, 6, none⟩), .pointer (some ⟨p, 7, none⟩), .pointer (some ⟨p, 8, none⟩)]) (.int .i64 1)).run Tryz.prog W = .ok (.pointer (some ⟨p, 2, none⟩)) W := by kernel_rfl
 have e2 : (Instr.index 198 (.agg #[.pointer (some ⟨p, 1, none⟩), .pointer (some ⟨p, 2, none⟩), .pointer (some ⟨p, 3, none⟩), .pointer (some ⟨p, 4, none⟩), .pointer (some ⟨p, 5, none⟩), .pointer (some ⟨p, 6, none⟩), .pointer (some ⟨p, 7, none⟩), .pointer (some ⟨p, 8, none⟩)]) (.int .i64 2)).run Tryz.prog W = .ok (.pointer (some ⟨p, 3, none⟩)) W := by kernel_rfl
 have e3 : (Instr.index 198 (.agg #[.pointer (some ⟨p, 1, none⟩), .pointer (some ⟨p, 2, none⟩), .pointer (some ⟨p, 3, none⟩), .pointer (some ⟨p, 4, none⟩), .pointer (some ⟨p, 5, none⟩), .pointer (some ⟨p, 6, none⟩), .pointer (some ⟨p, 7, none⟩), .pointer (some ⟨p, 8, none⟩)]) (.int .i64 3)).run Tryz.prog W = .ok (.pointer (some ⟨p, 4, none⟩)) W := by kernel_rfl
 have e4 : (Instr.index 198 (.agg #[.pointer (some ⟨p, 1, none⟩), .pointer (some ⟨p, 2, none⟩), .pointer (some ⟨p, 3, none⟩), .pointer (some ⟨p, 4, none⟩), .pointer (some ⟨p, 5, none⟩), .pointer (some ⟨p, 6, none⟩), .pointer (some ⟨p, 7, none⟩), .pointer (some ⟨p, 8, none⟩)]) (.int .i64 4)).run Tryz.prog W = .ok (.pointer (some ⟨p, 5, none⟩)) W := by kernel_rfl
 have e5 : (Instr.index 198 (.agg #[.pointer (some ⟨p, 1, none⟩), .pointer (some ⟨p, 2, none⟩), .pointer (some ⟨p, 3, none⟩), .pointer (some ⟨p, 4, none⟩), .pointer (some ⟨p, 5, none⟩), .pointer (some ⟨p, 6, none⟩), .pointer (some ⟨p, 7, none⟩), .pointer (some ⟨p, 8, none⟩)]) (.int .i64 5)).run Tryz.prog W = .ok (.pointer (some ⟨p, 6, none⟩)) W := by kernel_rfl
 have e6 : (Instr.index 198 (.agg #[.pointer (some ⟨p, 1, none⟩), .pointer (some ⟨p, 2, none⟩), .pointer (some ⟨p, 3, none⟩), .pointer (some ⟨p, 4, none⟩), .pointer (some ⟨p, 5, none⟩), .pointer (some ⟨p, 6, none⟩), .pointer (some ⟨p, 7, none⟩), .pointer (some ⟨p, 8, none⟩)]) (.int .i64 6)).run Tryz.prog W = .ok (.pointer (some ⟨p, 7, none⟩)) W := by kernel_rfl
 have e7 : (Instr.index 198 (.agg #[.pointer (some ⟨p, 1, none⟩), .pointer (some ⟨p, 2, none⟩), .pointer (some ⟨p, 3, none⟩), .pointer (some ⟨p, 4, none⟩), .pointer (some ⟨p, 5, none⟩), .pointer (some ⟨p, 6, none⟩), .pointer (some ⟨p, 7, none⟩), .pointer (some ⟨p, 8, none⟩)]) (.int .i64 7)).run Tryz.prog W = .ok (.pointer (some ⟨p, 8, none⟩)) W := by kernel_rfl
 have hc : j = 0 ∨ j = 1 ∨ j = 2 ∨ j = 3 ∨ j = 4 ∨ j = 5 ∨ j = 6 ∨ j = 7 := by omega
 rcases hc with rfl | rfl | rfl | rfl | rfl | rfl | rfl | rfl
 ·exact (by simpa using e0)
 ·exact (by simpa using e1)
 ·exact (by simpa using e2)
 ·exact (by simpa using e3)
 ·exact (by simpa using e4)
 ·exact (by simpa using e5)
 ·exact (by simpa using e6)
 ·exact (by simpa using e7)
theorem idxT (p j : Nat) (hj : j < 4) (W : World) : (Instr.index 202 (.agg #[.pointer (some ⟨p, 10, none⟩), .pointer (some ⟨p, 11, none⟩), .pointer (some ⟨p, 12, none⟩), .pointer (some ⟨p, 13, none⟩)]) (.int .i64 (j : Int))).run Tryz.prog W = .ok (.pointer (some ⟨p, j + 10, none⟩)) W := by
 have e0 : (Instr.index 202 (.agg #[.pointer (some ⟨p, 10, none⟩), .pointer (some ⟨p, 11, none⟩), .pointer (some ⟨p, 12, none⟩), .pointer (some ⟨p, 13, none⟩)]) (.int .i64 0)).run Tryz.prog W = .ok (.pointer (some ⟨p, 10, none⟩)) W := by kernel_rfl
 have e1 : (Instr.index 202 (.agg #[.pointer (some ⟨p, 10, none⟩), .pointer (some ⟨p, 11, none⟩), .pointer (some ⟨p, 12, none⟩), .pointer (some ⟨p, 13, none⟩)]) (.int .i64 1)).run Tryz.prog W = .ok (.pointer (some ⟨p, 11, none⟩)) W := by kernel_rfl
 have e2 : (Instr.index 202 (.agg #[.pointer (some ⟨p, 10, none⟩), .pointer (some ⟨p, 11, none⟩), .pointer (some ⟨p, 12, none⟩), .pointer (some ⟨p, 13, none⟩)]) (.int .i64 2)).run Tryz.prog W = .ok (.pointer (some ⟨p, 12, none⟩)) W := by kernel_rfl
 have e3 : (Instr.index 202 (.agg #[.pointer (some ⟨p, 10, none⟩), .pointer (some ⟨p, 11, none⟩), .pointer (some ⟨p, 12, none⟩), .pointer (some ⟨p, 13, none⟩)]) (.int .i64 3)).run Tryz.prog W = .ok (.pointer (some ⟨p, 13, none⟩)) W := by kernel_rfl
 have hc : j = 0 ∨ j = 1 ∨ j = 2 ∨ j = 3 := by omega
 rcases hc with rfl | rfl | rfl | rfl
 ·exact (by simpa using e0)
 ·exact (by simpa using e1)
 ·exact (by simpa using e2)
 ·exact (by simpa using e3)
theorem idxR (p j : Nat) (hj : j < 4) (W : World) : (Instr.index 205 (.agg #[.pointer (some ⟨p, 14, none⟩), .pointer (some ⟨p, 15, none⟩), .pointer (some ⟨p, 16, none⟩), .pointer (some ⟨p, 17, none⟩)]) (.int .i64 (j : Int))).run Tryz.prog W = .ok (.pointer (some ⟨p, j + 14, none⟩)) W := by
 have e0 : (Instr.index 205 (.agg #[.pointer (some ⟨p, 14, none⟩), .pointer (some ⟨p, 15, none⟩), .pointer (some ⟨p, 16, none⟩), .pointer (some ⟨p, 17, none⟩)]) (.int .i64 0)).run Tryz.prog W = .ok (.pointer (some ⟨p, 14, none⟩)) W := by kernel_rfl
 have e1 : (Instr.index 205 (.agg #[.pointer (some ⟨p, 14, none⟩), .pointer (some ⟨p, 15, none⟩), .pointer (some ⟨p, 16, none⟩), .pointer (some ⟨p, 17, none⟩)]) (.int .i64 1)).run Tryz.prog W = .ok (.pointer (some ⟨p, 15, none⟩)) W := by kernel_rfl
 have e2 : (Instr.index 205 (.agg #[.pointer (some ⟨p, 14, none⟩), .pointer (some ⟨p, 15, none⟩), .pointer (some ⟨p, 16, none⟩), .pointer (some ⟨p, 17, none⟩)]) (.int .i64 2)).run Tryz.prog W = .ok (.pointer (some ⟨p, 16, none⟩)) W := by kernel_rfl
 have e3 : (Instr.index 205 (.agg #[.pointer (some ⟨p, 14, none⟩), .pointer (some ⟨p, 15, none⟩), .pointer (some ⟨p, 16, none⟩), .pointer (some ⟨p, 17, none⟩)]) (.int .i64 3)).run Tryz.prog W = .ok (.pointer (some ⟨p, 17, none⟩)) W := by kernel_rfl
 have hc : j = 0 ∨ j = 1 ∨ j = 2 ∨ j = 3 := by omega
 rcases hc with rfl | rfl | rfl | rfl
 ·exact (by simpa using e0)
 ·exact (by simpa using e1)
 ·exact (by simpa using e2)
 ·exact (by simpa using e3)
theorem bit8 {k : Int} (hk : 1 ≤ k ∧ k ≤ 12) (j : Nat) (hj : j < 8) : bitB (sbj k) (2 ^ j % 4294967296) = (hN k).getD j false := by
 have q := bit_has hk
 match j, hj with
 | 0, _ => exact q.1
 | 1, _ => exact q.2.1
 | 2, _ => exact q.2.2.1
 | 3, _ => exact q.2.2.2.1
 | 4, _ => exact q.2.2.2.2.1
 | 5, _ => exact q.2.2.2.2.2.1
 | 6, _ => exact q.2.2.2.2.2.2.1
 | 7, _ => exact q.2.2.2.2.2.2.2.1
 | n + 8, h => exact absurd h (by omega)
theorem bitT {k : Int} (hk : 1 ≤ k ∧ k ≤ 12) (j : Nat) (hj : j < 4) : bitB (sbj k) (512 * 2 ^ j % 4294967296) = (hT k).getD j false := by
 have q := bit_has hk
 match j, hj with
 | 0, _ => exact q.2.2.2.2.2.2.2.2.2.1
 | 1, _ => exact q.2.2.2.2.2.2.2.2.2.2.1
 | 2, _ => exact q.2.2.2.2.2.2.2.2.2.2.2.1
 | 3, _ => exact q.2.2.2.2.2.2.2.2.2.2.2.2.1
 | n + 4, h => exact absurd h (by omega)
theorem bitR {k : Int} (hk : 1 ≤ k ∧ k ≤ 12) (j : Nat) (hj : j < 4) : bitB (sbj k) (8192 * 2 ^ j % 4294967296) = (hR k).getD j false := by
 have q := bit_has hk
 match j, hj with
 | 0, _ => exact q.2.2.2.2.2.2.2.2.2.2.2.2.2.1
 | 1, _ => exact q.2.2.2.2.2.2.2.2.2.2.2.2.2.2.1
 | 2, _ => exact q.2.2.2.2.2.2.2.2.2.2.2.2.2.2.2.1
 | 3, _ => exact q.2.2.2.2.2.2.2.2.2.2.2.2.2.2.2.2
 | n + 4, h => exact absurd h (by omega)
theorem encs_le {α : Type} (en : α → List Int) (c : Nat) : ∀ (hs : List Bool) (xs : List α), (∀ x ∈ xs, (en x).length ≤ c) → (encs en hs xs).length ≤ c * xs.length
 | [], xs, _ => by simp [encs]
 | h :: hs, [], _ => by simp [encs]
 | h :: hs, x :: xs, hx => by
  have h1 := encs_le en c hs xs (fun y hy => hx y (List.mem_cons_of_mem _ hy))
  have h2 := hx x (List.mem_cons_self ..)
  have h3 : (if h then en x else []).length ≤ c := by cases h <;> simp <;> omega
  show ((if h then en x else []) ++ encs en hs xs).length ≤ c * (xs.length + 1)
  rw [List.length_append, Nat.mul_add]
  omega
theorem ow_lt {B : Nat} {W : World} {v : Value} {l : List Int} (h : Ow B W v l) {g : Nat} (hg : v.ownBlock = some g) : g < W.heap.size ∧ B ≤ g := by
 obtain ⟨cur, h1, _⟩ := h
 rcases h1.2.2 with ⟨rfl, _⟩ | ⟨g', rfl, h2, h3⟩
 ·cases hg
 ·have e : g' = g := Option.some.inj hg
  have := (Array.getElem?_eq_some_iff.1 h3).1
  omega
theorem Ow.text {B : Nat} {W' : World} {v' : Value} {l news : List Int} {cur : List Value} (hn : ∃ n, n = l.length + news.length ∧ W'.ownsRow B 5 1 v' n (cur.take l.length ++ bv news)) (h2 : cur.take l.length = bv l) : Ow B W' v' (l ++ news) := by
 obtain ⟨n, h, hp⟩ := hn
 exact Ow.owns h h2 hp
theorem getD_mem {α : Type} (l : List α) (d : α) (j n : Nat) (hl : l.length = n) (hj : j < n) : l.getD j d ∈ l := by
 rw [show l.getD j d = l[j]'(by omega) by simp [List.getD, hl, hj]]
 exact List.getElem_mem _
theorem mkS_pt {c : Int} {op : ByteArray} {n a L : Nat} (h1 : n ≤ L) (h2 : a ≤ L) : (mkS c op n a).pt ≤ L := by
 unfold mkS; split
 ·exact h1
 ·exact h2
theorem gN_pt {m : Int} {l : List Int} {s : Gs} (hb : Byt l) (hs : s.pt ≤ l.length) : (gN m l s).1.pt ≤ l.length := by
 unfold gN; split
 ·refine mkS_pt ?_ hs
  have := numS_next (most := m) (hb.drop s.pt)
  rw [List.length_drop] at this
  omega
 ·exact hs
theorem gF_pt {l : List Int} {s : Gs} (hb : Byt l) (hs : s.pt ≤ l.length) : (gF l s).1.pt ≤ l.length := by
 unfold gF; split
 ·exact mkS_pt (askS_next l s.pt 2 0 0 hb hs) hs
 ·exact hs
theorem gT_pt {l : List Int} {s : Gs} (hb : Byt l) (hs : s.pt ≤ l.length) : (gT l s).1.pt ≤ l.length := by
 unfold gT; split
 ·exact mkS_pt (askS_next l s.pt 3 256 0 hb hs) hs
 ·exact hs
theorem gR_pt {l : List Int} {s : Gs} (hb : Byt l) (hs : s.pt ≤ l.length) : (gR l s).1.pt ≤ l.length := by
 unfold gR; split
 ·exact mkS_pt (askS_next l s.pt 4 7 64 hb hs) (askS_next l s.pt 4 7 64 hb hs)
 ·exact hs
theorem fL_pt {α : Type} (z : α) (g : Gs → Gs × α) (L : Nat) (hg : ∀ s, s.pt ≤ L → (g s).1.pt ≤ L) : ∀ (hs : List Bool) (s : Gs), s.pt ≤ L → (fL z g hs s).1.pt ≤ L
 | [], s, h => h
 | b :: hs, s, h => fL_pt z g L hg hs _ (by cases b; (exact h); (exact hg s h))
theorem fL_take {α : Type} (z : α) (g : Gs → Gs × α) (hs : List Bool) (s : Gs) (j : Nat) (hj : j < hs.length) : fL z g (hs.take (j + 1)) s = ((if hs.getD j false then g (fL z g (hs.take j) s).1 else ((fL z g (hs.take j) s).1, z)).1, (fL z g (hs.take j) s).2 ++ [(if hs.getD j false then g (fL z g (hs.take j) s).1 else ((fL z g (hs.take j) s).1, z)).2]) := by
 rw [List.take_succ_eq_append_getElem hj, show hs.getD j false = hs[j] by simp [List.getD, hj]]
 exact fL_snoc z g _ _ _
theorem Bx.fresh {p X i : Nat} {a b : World} {x : Value} (h : Bx p a b) (hX : a.heap.size ≤ X) : Bx p a (b.setCell ⟨X, i, none⟩ x) :=
 ⟨h.os, h.tape, h.output, by simpa [World.setCell] using h.size, fun k hk hp => (Below.heap_setCell _ _ _ _ (fun e => by simp at e; omega)).trans (h.block k hk hp)⟩
theorem getD_snoc {α : Type} (l : List α) (x d : α) (i : Nat) : (l ++ [x]).getD i d = if i = l.length then x else l.getD i d := by
 by_cases h : i = l.length
 ·subst h; simp [List.getD]
 ·rw [if_neg h]
  by_cases h2 : i < l.length
  ·simp [List.getD, List.getElem?_append_left h2]
  ·simp [List.getD, List.getElem?_eq_none (show (l ++ [x]).length ≤ i by simp; omega), List.getElem?_eq_none (show l.length ≤ i by omega)]
theorem getD_pad {α : Type} (l : List α) (d : α) (i : Nat) : (l ++ [d]).getD i d = l.getD i d := by
 rw [getD_snoc]
 split
 ·rename_i h; subst h; simp [List.getD]
 ·rfl
structure Fi (p R X : Nat) (w W : World) (v : Value) (s : Gs) (n : List Int) (f : List Bool) (t : List (List UInt8)) (r : List Value) (rs : List (List Int)) : Prop where
 rd : RdG W p v s
 c0 : W.cell? ⟨X, 0, none⟩ = some (.int .i64 0)
 cn : ∀ i, i < 8 → W.cell? ⟨X, i + 1, none⟩ = some (.int .i64 (n.getD i 0))
 cf : W.cell? ⟨X, 9, none⟩ = some (.bool (f.getD 0 false))
 ct : ∀ i, i < 4 → W.cell? ⟨X, i + 10, none⟩ = some (.string ⟨(t.getD i []).toArray⟩)
 cr : ∀ i, i < 4 → W.cell? ⟨X, i + 14, none⟩ = some (r.getD i (.slice none 0 0))
 fz : ∀ i, W.frozen? ⟨X, i, none⟩ = false
 th : W.there R 0 18
 rw : ∀ i, i < 4 → Sli (fun b => X < b) W (r.getD i (.slice none 0 0)) (rs.getD i [])
 bx : Bx p w W
 hp : p < w.heap.size
 hR : R = w.heap.size
 hX : X = w.heap.size + 1
section
variable {p R X : Nat} {w W W' : World} {v : Value} {s s' : Gs} {n : List Int} {f : List Bool} {t : List (List UInt8)} {r : List Value} {rs : List (List Int)}
theorem Fi.sz (h : Fi p R X w W v s n f t r rs) : X < W.heap.size := cell_block h.c0
theorem Fi.step (h : Fi p R X w W v s n f t r rs) (hr : RdG W' p v s') (hb : Bx p W W') : Fi p R X w W' v s' n f t r rs := by
 have hXl := h.sz
 have hXp : X ≠ p := by have := h.hp; have := h.hX; omega
 have hRp : R ≠ p := by have := h.hp; have := h.hR; omega
 have hRl : R < W.heap.size := by have := h.hR; have := h.hX; omega
 have hc : ∀ i, W'.cell? ⟨X, i, none⟩ = W.cell? ⟨X, i, none⟩ := fun i => hb.cell hXl hXp
 refine ⟨hr, by rw [hc]; exact h.c0, fun i hi => by rw [hc]; exact h.cn i hi, by rw [hc]; exact h.cf, fun i hi => by rw [hc]; exact h.ct i hi, fun i hi => by rw [hc]; exact h.cr i hi, fun i => by rw [hb.frozen hXl hXp]; exact h.fz i, fun j hj => by rw [hb.cell hRl hRp, hb.frozen hRl hRp]; exact h.th j hj, fun i hi => (h.rw i hi).imp (fun _ _ q => q) (fun b j hl hk => hb.cell hl (by have := h.hp; have := h.hX; omega)), h.bx.trans hb, h.hp, h.hR, h.hX⟩
theorem Fi.below (h : Fi p R X w W v s n f t r rs) (hb : Below W.heap.size W W') : Fi p R X w W' v s n f t r rs := h.step (h.rd.below hb) (Bx.of hb)
theorem rdG_set {i : Nat} {x : Value} (h : RdG W p v s) (hX : X ≠ p) : RdG (W.setCell ⟨X, i, none⟩ x) p v s := by
 have o : ∀ j, (W.setCell ⟨X, i, none⟩ x).cell? ⟨p, j, none⟩ = W.cell? ⟨p, j, none⟩ := fun j => World.cell?_setCell_other _ _ _ _ (fun q => hX (congrArg Addr.block q))
 exact ⟨by rw [o]; exact h.c0, by rw [o]; exact h.c1, by rw [o]; exact h.c2, fun j => by simp [h.fz j]⟩
theorem cell_off {i j : Nat} {x : Value} (h : ¬ i = j) : (W.setCell ⟨X, i, none⟩ x).cell? ⟨X, j, none⟩ = W.cell? ⟨X, j, none⟩ := World.cell?_setCell_other _ _ _ _ (fun q => h (congrArg Addr.off q))
theorem Fi.set {i : Nat} {x : Value} {n' : List Int} {f' : List Bool} {t' : List (List UInt8)} {r' : List Value} {rs' : List (List Int)} (h : Fi p R X w W v s n f t r rs) (h0 : 0 < i)
  (cn : ∀ j, j < 8 → (W.setCell ⟨X, i, none⟩ x).cell? ⟨X, j + 1, none⟩ = some (.int .i64 (n'.getD j 0))) (cf : (W.setCell ⟨X, i, none⟩ x).cell? ⟨X, 9, none⟩ = some (.bool (f'.getD 0 false)))
  (ct : ∀ j, j < 4 → (W.setCell ⟨X, i, none⟩ x).cell? ⟨X, j + 10, none⟩ = some (.string ⟨(t'.getD j []).toArray⟩)) (cr : ∀ j, j < 4 → (W.setCell ⟨X, i, none⟩ x).cell? ⟨X, j + 14, none⟩ = some (r'.getD j (.slice none 0 0)))
  (hrw : ∀ j, j < 4 → Sli (fun b => X < b) W (r'.getD j (.slice none 0 0)) (rs'.getD j [])) : Fi p R X w (W.setCell ⟨X, i, none⟩ x) v s n' f' t' r' rs' := by
 have hXp : X ≠ p := by have := h.hp; have := h.hX; omega
 have ho : ∀ b j, b ≠ X → (W.setCell ⟨X, i, none⟩ x).cell? ⟨b, j, none⟩ = W.cell? ⟨b, j, none⟩ := fun b j hb => World.cell?_setCell_other _ _ _ _ (fun q => hb (congrArg Addr.block q).symm)
 refine ⟨rdG_set h.rd hXp, by rw [cell_off (by omega)]; exact h.c0, cn, cf, ct, cr, fun j => by simp [h.fz j], fun j hj => by rw [ho _ _ (by have := h.hR; have := h.hX; omega)]; simpa using h.th j hj, fun j hj => (hrw j hj).imp (fun _ _ q => q) (fun b j _ hk => ho b j (by omega)), h.bx.fresh (by have := h.hX; omega), h.hp, h.hR, h.hX⟩
theorem Fi.setN {j : Nat} {x : Int} (h : Fi p R X w W v s n f t r rs) (hn : n.length = j) (hj : j < 8) : Fi p R X w (W.setCell ⟨X, j + 1, none⟩ (.int .i64 x)) v s (n ++ [x]) f t r rs := by
 refine h.set (by omega) (fun i hi => ?_) (by rw [cell_off (by omega)]; exact h.cf) (fun i hi => by rw [cell_off (by omega)]; exact h.ct i hi) (fun i hi => by rw [cell_off (by omega)]; exact h.cr i hi) h.rw
 rw [getD_snoc]
 by_cases e : i = j
 ·subst e
  rw [if_pos hn.symm]
  exact World.cell?_setCell_same _ _ _ (h.cn i hi)
 ·rw [if_neg (by omega), cell_off (by omega)]
  exact h.cn i hi
theorem Fi.setF {b : Bool} (h : Fi p R X w W v s n [] t r rs) : Fi p R X w (W.setCell ⟨X, 9, none⟩ (.bool b)) v s n [b] t r rs :=
 h.set (by omega) (fun i hi => by rw [cell_off (by omega)]; exact h.cn i hi) (World.cell?_setCell_same _ _ _ h.cf) (fun i hi => by rw [cell_off (by omega)]; exact h.ct i hi) (fun i hi => by rw [cell_off (by omega)]; exact h.cr i hi) h.rw
theorem Fi.setT {j : Nat} {x : List UInt8} (h : Fi p R X w W v s n f t r rs) (hn : t.length = j) (hj : j < 4) : Fi p R X w (W.setCell ⟨X, j + 10, none⟩ (.string ⟨x.toArray⟩)) v s n f (t ++ [x]) r rs := by
 refine h.set (by omega) (fun i hi => by rw [cell_off (by omega)]; exact h.cn i hi) (by rw [cell_off (by omega)]; exact h.cf) (fun i hi => ?_) (fun i hi => by rw [cell_off (by omega)]; exact h.cr i hi) h.rw
 rw [getD_snoc]
 by_cases e : i = j
 ·subst e
  rw [if_pos hn.symm]
  exact World.cell?_setCell_same _ _ _ (h.ct i hi)
 ·rw [if_neg (by omega), cell_off (by omega)]
  exact h.ct i hi
theorem Fi.setR {j : Nat} {u : Value} {x : List Int} (h : Fi p R X w W v s n f t r rs) (hn : r.length = j) (hn2 : rs.length = j) (hj : j < 4) (hu : Sli (fun b => X < b) W u x) : Fi p R X w (W.setCell ⟨X, j + 14, none⟩ u) v s n f t (r ++ [u]) (rs ++ [x]) := by
 refine h.set (by omega) (fun i hi => by rw [cell_off (by omega)]; exact h.cn i hi) (by rw [cell_off (by omega)]; exact h.cf) (fun i hi => by rw [cell_off (by omega)]; exact h.ct i hi) (fun i hi => ?_) (fun i hi => ?_)
 ·rw [getD_snoc]
  by_cases e : i = j
  ·subst e
   rw [if_pos hn.symm]
   exact World.cell?_setCell_same _ _ _ (h.cr i hi)
  ·rw [if_neg (by omega), cell_off (by omega)]
   exact h.cr i hi
 ·rw [getD_snoc, getD_snoc]
  by_cases e : i = j
  ·rw [if_pos (by omega), if_pos (by omega)]
   exact hu
  ·rw [if_neg (by omega), if_neg (by omega)]
   exact h.rw i hi
theorem Fi.padN (h : Fi p R X w W v s n f t r rs) : Fi p R X w W v s (n ++ [0]) f t r rs :=
 ⟨h.rd, h.c0, fun i hi => by rw [getD_pad]; exact h.cn i hi, h.cf, h.ct, h.cr, h.fz, h.th, h.rw, h.bx, h.hp, h.hR, h.hX⟩
theorem Fi.padF (h : Fi p R X w W v s n [] t r rs) : Fi p R X w W v s n [false] t r rs :=
 ⟨h.rd, h.c0, h.cn, h.cf, h.ct, h.cr, h.fz, h.th, h.rw, h.bx, h.hp, h.hR, h.hX⟩
theorem Fi.padT (h : Fi p R X w W v s n f t r rs) : Fi p R X w W v s n f (t ++ [[]]) r rs :=
 ⟨h.rd, h.c0, h.cn, h.cf, fun i hi => by rw [getD_pad]; exact h.ct i hi, h.cr, h.fz, h.th, h.rw, h.bx, h.hp, h.hR, h.hX⟩
theorem Fi.padR (h : Fi p R X w W v s n f t r rs) : Fi p R X w W v s n f t (r ++ [.slice none 0 0]) (rs ++ [[]]) :=
 ⟨h.rd, h.c0, h.cn, h.cf, h.ct, fun i hi => by rw [getD_pad]; exact h.cr i hi, h.fz, h.th, fun i hi => by rw [getD_pad, getD_pad]; exact h.rw i hi, h.bx, h.hp, h.hR, h.hX⟩
end
theorem Fi.range {p R X : Nat} {w W : World} {v : Value} {s : Gs} {n : List Int} {f : List Bool} {t : List (List UInt8)} {r : List Value} {rs : List (List Int)} (h : Fi p R X w W v s n f t r rs) :
  W.rangeAt X 0 [.int .i64 0, .int .i64 (n.getD 0 0), .int .i64 (n.getD 1 0), .int .i64 (n.getD 2 0), .int .i64 (n.getD 3 0), .int .i64 (n.getD 4 0), .int .i64 (n.getD 5 0), .int .i64 (n.getD 6 0), .int .i64 (n.getD 7 0), .bool (f.getD 0 false), .string ⟨(t.getD 0 []).toArray⟩, .string ⟨(t.getD 1 []).toArray⟩, .string ⟨(t.getD 2 []).toArray⟩, .string ⟨(t.getD 3 []).toArray⟩, r.getD 0 (.slice none 0 0), r.getD 1 (.slice none 0 0), r.getD 2 (.slice none 0 0), r.getD 3 (.slice none 0 0)] := fun j x hx => by
 match j, hx with
 | 0, hx => cases hx; exact h.c0
 | 1, hx => cases hx; exact h.cn 0 (by decide)
 | 2, hx => cases hx; exact h.cn 1 (by decide)
 | 3, hx => cases hx; exact h.cn 2 (by decide)
 | 4, hx => cases hx; exact h.cn 3 (by decide)
 | 5, hx => cases hx; exact h.cn 4 (by decide)
 | 6, hx => cases hx; exact h.cn 5 (by decide)
 | 7, hx => cases hx; exact h.cn 6 (by decide)
 | 8, hx => cases hx; exact h.cn 7 (by decide)
 | 9, hx => cases hx; exact h.cf
 | 10, hx => cases hx; exact h.ct 0 (by decide)
 | 11, hx => cases hx; exact h.ct 1 (by decide)
 | 12, hx => cases hx; exact h.ct 2 (by decide)
 | 13, hx => cases hx; exact h.ct 3 (by decide)
 | 14, hx => cases hx; exact h.cr 0 (by decide)
 | 15, hx => cases hx; exact h.cr 1 (by decide)
 | 16, hx => cases hx; exact h.cr 2 (by decide)
 | 17, hx => cases hx; exact h.cr 3 (by decide)
 | _ + 18, hx => cases hx
theorem Bx.many {p X : Nat} {a : World} (hX : a.heap.size ≤ X) : ∀ (vs : List Value) (o : Nat) {b : World}, Bx p a b → Bx p a (b.setCells X o vs)
 | [], _, _, h => h
 | _ :: vs, o, _, h => by
  rw [World.setCells]
  exact Bx.many hX vs (o + 1) (h.fresh hX)
theorem rdG_many {p X : Nat} {v : Value} {s : Gs} (hX : X ≠ p) : ∀ (vs : List Value) (o : Nat) {b : World}, RdG b p v s → RdG (b.setCells X o vs) p v s
 | [], _, _, h => h
 | _ :: vs, o, _, h => by
  rw [World.setCells]
  exact rdG_many hX vs (o + 1) (rdG_set h hX)
theorem cell_many {X b j : Nat} {W : World} (hb : b ≠ X) (vs : List Value) (o : Nat) : (W.setCells X o vs).cell? ⟨b, j, none⟩ = W.cell? ⟨b, j, none⟩ :=
 World.cell?_setCells_out X vs o W ⟨b, j, none⟩ (fun q _ => absurd q hb)
theorem cellsR_one (r : Rc) (a14 a15 a16 a17 : Option Addr) (c14 c15 c16 c17 : Nat) : (cellsR r a14 a15 a16 a17 c14 c15 c16 c17).toArray.all (·.oneCell') = true :=
 all_oneCell_toArray (fun v hv => by
  simp only [cellsR, List.mem_cons, List.not_mem_nil, or_false] at hv
  rcases hv with rfl | rfl | rfl | rfl | rfl | rfl | rfl | rfl | rfl | rfl | rfl | rfl | rfl | rfl | rfl | rfl | rfl | rfl <;> rfl)
theorem results_mid {P : Program} {fn : Func} {q : Tmp} {ty : TypeId} (h : fn.results = #[.cell q ty]) (tmps : Array Value) (w : World) (b : Nat) (cs : List Value) (d : TypeDesc) (hp : tmps.getD q undef = .pointer (some ⟨b, 0, none⟩)) (hc : w.rangeAt b 0 cs) (hu : P.underlying ty = some d) (hd : d.isRow = true) (hi : (P.info? ty).map (·.size) = some cs.length) :
  (results fn tmps).run P w = .ok (.agg cs.toArray) w := by
 have hp' : tmps[q]?.getD undef = .pointer (some ⟨b, 0, none⟩) := by simpa using hp
 simp [results, h, hp', asAddr, run_loadVar_mid w b 0 ty cs d hc hu hd hi]
def Rc.k0 (x : Rc) : Rc := { x with k := 0 }
set_option maxRecDepth 100000 in
set_option maxHeartbeats 16000000 in
theorem fields_go (p : Nat) (v : Value) (l : List Int) (s : Gs) (k : Int) (w : World) (h8 hf ht hr : List Bool) (hrd : RdG w p v s) (hv : Slx p bc w v l) (hl : l.length ≤ 100000) (hby : Byt l) (hs : s.pt ≤ l.length) (hk : 1 ≤ k ∧ k ≤ 12) (HH8 : Hid (h8 = hN k)) (HHF : Hid (hf = [hasL k 102])) (HHT : Hid (ht = hT k)) (HHR : Hid (hr = hR k)) :
  Calls Tryz.prog 113 #[.pointer (some ⟨p, 0, none⟩), .int .u32 (sbj k)] w fun e w' => ∃ vx n f t r s1 s2 s3 s4, e = .returned vx ∧ Hid (fL 0 (gN 1073741824 l) h8 s = (s1, n)) ∧ Hid (fL false (gF l) hf s1 = (s2, f)) ∧ Hid (fL [] (gT l) ht s2 = (s3, t)) ∧ Hid (fL [] (gR l) hr s3 = (s4, r)) ∧ IsR (fun b => w.heap.size ≤ b) w' vx (mkR 0 n f t r) ∧ RdG w' p v s4 ∧ Bx p w w' := by
 have HK := hide hk
 have HBY := hide hby
 have HS := hide hs
 have HV := hide hv
 have hp : p < w.heap.size := hrd.lt
 have HF0 : Hid (Fi p w.heap.size (w.heap.size + 1) w ((w.alloc (.cells #[.int .i64 0, .int .i64 0, .int .i64 0, .int .i64 0, .int .i64 0, .int .i64 0, .int .i64 0, .int .i64 0, .int .i64 0, .bool false, .string ⟨#[]⟩, .string ⟨#[]⟩, .string ⟨#[]⟩, .string ⟨#[]⟩, .slice none 0 0, .slice none 0 0, .slice none 0 0, .slice none 0 0] 45)).alloc (.cells #[.int .i64 0, .int .i64 0, .int .i64 0, .int .i64 0, .int .i64 0, .int .i64 0, .int .i64 0, .int .i64 0, .int .i64 0, .bool false, .string ⟨#[]⟩, .string ⟨#[]⟩, .string ⟨#[]⟩, .string ⟨#[]⟩, .slice none 0 0, .slice none 0 0, .slice none 0 0, .slice none 0 0] 45)) v s [] [] [] [] []) := by
  have hbl : Below w.heap.size w ((w.alloc (.cells #[.int .i64 0, .int .i64 0, .int .i64 0, .int .i64 0, .int .i64 0, .int .i64 0, .int .i64 0, .int .i64 0, .int .i64 0, .bool false, .string ⟨#[]⟩, .string ⟨#[]⟩, .string ⟨#[]⟩, .string ⟨#[]⟩, .slice none 0 0, .slice none 0 0, .slice none 0 0, .slice none 0 0] 45)).alloc (.cells #[.int .i64 0, .int .i64 0, .int .i64 0, .int .i64 0, .int .i64 0, .int .i64 0, .int .i64 0, .int .i64 0, .int .i64 0, .bool false, .string ⟨#[]⟩, .string ⟨#[]⟩, .string ⟨#[]⟩, .string ⟨#[]⟩, .slice none 0 0, .slice none 0 0, .slice none 0 0, .slice none 0 0] 45)) := ((Below.refl _ _).alloc (Nat.le_refl _) _).alloc (by simp) _
  have hrg := C18.of (range_new (w.alloc (.cells #[.int .i64 0, .int .i64 0, .int .i64 0, .int .i64 0, .int .i64 0, .int .i64 0, .int .i64 0, .int .i64 0, .int .i64 0, .bool false, .string ⟨#[]⟩, .string ⟨#[]⟩, .string ⟨#[]⟩, .string ⟨#[]⟩, .slice none 0 0, .slice none 0 0, .slice none 0 0, .slice none 0 0] 45)) [.int .i64 0, .int .i64 0, .int .i64 0, .int .i64 0, .int .i64 0, .int .i64 0, .int .i64 0, .int .i64 0, .int .i64 0, .bool false, .string ⟨#[]⟩, .string ⟨#[]⟩, .string ⟨#[]⟩, .string ⟨#[]⟩, .slice none 0 0, .slice none 0 0, .slice none 0 0, .slice none 0 0] 45)
  have hsz : (w.alloc (.cells #[.int .i64 0, .int .i64 0, .int .i64 0, .int .i64 0, .int .i64 0, .int .i64 0, .int .i64 0, .int .i64 0, .int .i64 0, .bool false, .string ⟨#[]⟩, .string ⟨#[]⟩, .string ⟨#[]⟩, .string ⟨#[]⟩, .slice none 0 0, .slice none 0 0, .slice none 0 0, .slice none 0 0] 45)).heap.size = w.heap.size + 1 := by simp
  rw [hsz] at hrg
  refine hide ⟨hrd.below hbl, hrg.c0, fun i hi => ?_, hrg.c9, fun i hi => ?_, fun i hi => ?_, fun i => by simp, fun j hj => ?_, fun i hi => ?_, Bx.of hbl, hp, rfl, rfl⟩
  ·have hc : i = 0 ∨ i = 1 ∨ i = 2 ∨ i = 3 ∨ i = 4 ∨ i = 5 ∨ i = 6 ∨ i = 7 := by omega
   rcases hc with rfl | rfl | rfl | rfl | rfl | rfl | rfl | rfl
   ·exact hrg.c1
   ·exact hrg.c2
   ·exact hrg.c3
   ·exact hrg.c4
   ·exact hrg.c5
   ·exact hrg.c6
   ·exact hrg.c7
   ·exact hrg.c8
  ·have hc : i = 0 ∨ i = 1 ∨ i = 2 ∨ i = 3 := by omega
   rcases hc with rfl | rfl | rfl | rfl
   ·exact hrg.c10
   ·exact hrg.c11
   ·exact hrg.c12
   ·exact hrg.c13
  ·have hc : i = 0 ∨ i = 1 ∨ i = 2 ∨ i = 3 := by omega
   rcases hc with rfl | rfl | rfl | rfl
   ·exact hrg.c14
   ·exact hrg.c15
   ·exact hrg.c16
   ·exact hrg.c17
  ·refine World.there_alloc (o := 0) (n := 18) (fun j hj => ⟨?_, by simp⟩) _ j hj
   have hr2 := range_new w [.int .i64 0, .int .i64 0, .int .i64 0, .int .i64 0, .int .i64 0, .int .i64 0, .int .i64 0, .int .i64 0, .int .i64 0, .bool false, .string ⟨#[]⟩, .string ⟨#[]⟩, .string ⟨#[]⟩, .string ⟨#[]⟩, .slice none 0 0, .slice none 0 0, .slice none 0 0, .slice none 0 0] 45
   exact hr2.isSome j hj
  ·simp only [List.getD_nil]; exact Sli.nil _ _ _ _
 clear hrd hv hby hs hk
 go_enter Tryz.func113, Tryz.ntmps113
 go_upto_region 2 with fail
 generalize (w.alloc (.cells #[.int .i64 0, .int .i64 0, .int .i64 0, .int .i64 0, .int .i64 0, .int .i64 0, .int .i64 0, .int .i64 0, .int .i64 0, .bool false, .string ⟨#[]⟩, .string ⟨#[]⟩, .string ⟨#[]⟩, .string ⟨#[]⟩, .slice none 0 0, .slice none 0 0, .slice none 0 0, .slice none 0 0] 45)).alloc (.cells #[.int .i64 0, .int .i64 0, .int .i64 0, .int .i64 0, .int .i64 0, .int .i64 0, .int .i64 0, .int .i64 0, .int .i64 0, .bool false, .string ⟨#[]⟩, .string ⟨#[]⟩, .string ⟨#[]⟩, .string ⟨#[]⟩, .slice none 0 0, .slice none 0 0, .slice none 0 0, .slice none 0 0] 45) = X0 at HF0 ⊢
 have HLH : Hid (h8.length = 8) := hide (by rw [HH8.out]; rfl)
 go_upto_region 3 with (first | (go_at_call 125; refine (numbers_pts _ _).mono ?_; rintro e w2 ⟨rfl, hY⟩; unfold pts8))
 have HF1 := hide (HF0.out.below hY)
 clear HF0 hY
 go_loopw [13] (fun i wr => ∃ (j : Nat), j ≤ 8 ∧ i = .int .i64 (j : Int) ∧ Hid (Fi p w.heap.size (w.heap.size + 1) w wr v (fL 0 (gN 1073741824 l) (h8.take j) s).1 (fL 0 (gN 1073741824 l) (h8.take j) s).2 [] [] [] [])) (fun i _ => 8 - (intOf i).toNat)
 case atStart => exact ⟨0, Nat.zero_le _, rfl, HF1⟩
 case round =>
  obtain ⟨j, hj, rfl, HFj⟩ := hrel
  by_cases hlt : j < 8
  ·have hltI : (j : Int) < 8 := by omega
   have hix := idx8 (w.heap.size + 1) j hlt
   have HH := hide (fun W => bhas_any (sbj k) (2 ^ j % 4294967296) W)
   rw [bit8 HK.out j hlt, ← HH8.out] at HH
   have HE := hide (fL_take 0 (gN 1073741824 l) h8 s j (by rw [HLH.out]; exact hlt))
   have hlen : (fL 0 (gN 1073741824 l) (h8.take j) s).2.length = j := by rw [fL_len, List.length_take, HLH.out]; omega
   have hpt : (fL 0 (gN 1073741824 l) (h8.take j) s).1.pt ≤ l.length := fL_pt 0 (gN 1073741824 l) l.length (fun s hs => gN_pt HBY.out hs) (h8.take j) s HS.out
   generalize h8.getD j false = hb at *
   generalize fL 0 (gN 1073741824 l) (h8.take j) s = Q at *
   obtain ⟨sq, nq'⟩ := Q
   simp only at HFj HE hlen hpt
   have HVj := hide (HV.out.bx HFj.out.bx)
   cases hb with
   | true =>
    have HC := hide (rint_gs p v l 1073741824 sq wr HFj.out.rd HVj.out hl HBY.out hpt (by decide) (by decide))
    have HE2 := HE.out
    simp only [↓reduceIte] at HE2
    have HE3 := hide HE2
    clear HE2 HE
    generalize gN 1073741824 l sq = Q2 at *
    obtain ⟨sq2, xq⟩ := Q2
    simp only at HC HE3
    go_wp2_with (first | (go_at_call 126; refine (HH.out _).mono ?_; rintro e w1 ⟨rfl, hw1⟩; rw [hw1]; clear hw1 w1) | (go_at_call 50; refine HC.out.mono ?_; rintro e w5 ⟨rfl, hr5, hb5⟩; have HF5 := hide (HFj.out.step hr5 hb5); clear hr5 hb5; have c5 := HF5.out.cn j hlt; have f5 := HF5.out.fz (j + 1)))
    have HF6 := hide (HF5.out.setN (x := xq) hlen hlt)
    go_roundw
    case rel => exact ⟨j + 1, by omega, by go_num, hide (by rw [HE3.out]; exact HF6.out)⟩
    case measure => simp [intOf]; omega
   | false =>
    have HE2 := HE.out
    simp only [Bool.false_eq_true, ↓reduceIte] at HE2
    have HE3 := hide HE2
    clear HE2 HE
    go_wp2_with (first | (go_at_call 126; refine (HH.out _).mono ?_; rintro e w1 ⟨rfl, hw1⟩; rw [hw1]; clear hw1 w1))
    go_roundw
    case rel => exact ⟨j + 1, by omega, by go_num, hide (by rw [HE3.out]; exact HFj.out.padN)⟩
    case measure => simp [intOf]; omega
  ·obtain rfl : j = 8 := by omega
   clear hlt hj
   have HT : Hid (h8.take 8 = h8) := hide (List.take_of_length_le (by rw [HLH.out]; omega))
   rw [HT.out] at HFj
   have hpt : (fL 0 (gN 1073741824 l) h8 s).1.pt ≤ l.length := fL_pt 0 (gN 1073741824 l) l.length (fun s hs => gN_pt HBY.out hs) h8 s HS.out
   rcases hQ : fL 0 (gN 1073741824 l) h8 s with ⟨s1, n1⟩
   rw [hQ] at HFj hpt
   have HQ8 := hide hQ
   have HS := hide hpt
   simp only at HFj HS
   clear hQ hpt HT HLH
   obtain ⟨wa8, rfl⟩ : ∃ x : World, x = wr := ⟨_, rfl⟩
   have HF0 := HFj
   clear HFj HF1
   have HFB := hide (fun W => bhas_any (sbj k) 256 W)
   rw [(bit_has HK.out).2.2.2.2.2.2.2.2.1] at HFB
   generalize hasL k 102 = hb at *
   cases hb with
   | true =>
    have HVj := hide (HV.out.bx HF0.out.bx)
    have HC := hide (rflag_gs p v l s1 wa8 HF0.out.rd HVj.out hl HS.out)
    have HQF : Hid (fL false (gF l) hf s1 = ((gF l s1).1, [(gF l s1).2])) := hide (by rw [HHF.out]; rfl)
    have HS2 := hide (gF_pt HBY.out HS.out)
    generalize gF l s1 = Q2 at *
    obtain ⟨s2, x2⟩ := Q2
    simp only at HC HQF HS2
    clear HS
    have HS := HS2
    clear HS2
    go_upto_region 10 with (first | (go_at_call 126; refine (HFB.out _).mono ?_; rintro e w1 ⟨rfl, hw1⟩; rw [hw1]; clear hw1 w1) | (go_at_call 51; refine HC.out.mono ?_; rintro e w5 ⟨rfl, hr5, hb5⟩; have HF5 := hide (HF0.out.step hr5 hb5); clear hr5 hb5; have c5 := HF5.out.cf; have f5 := HF5.out.fz 9))
    have HF6 := hide (HF5.out.setF (b := x2))
    clear HF0
    have HF0 := HF6
    clear HF6 HF5 c5 f5
    obtain ⟨f1, hf1⟩ : ∃ x, x = [x2] := ⟨_, rfl⟩
    rw [← hf1] at HF0 HQF
    clear hf1
    have HLH : Hid (ht.length = 4) := hide (by rw [HHT.out]; rfl)
    go_upto_region 11 with (first | (go_at_call 127; refine (texts_any _ _).mono ?_; rintro e w6 ⟨rfl, hY⟩; unfold ptsT))
    have HF1 := hide (HF0.out.below hY)
    clear HF0 hY
    go_loopw [32] (fun i wr => ∃ (j : Nat), j ≤ 4 ∧ i = .int .i64 (j : Int) ∧ Hid (Fi p w.heap.size (w.heap.size + 1) w wr v (fL [] (gT l) (ht.take j) s2).1 n1 f1 (fL [] (gT l) (ht.take j) s2).2 [] [])) (fun i _ => 4 - (intOf i).toNat)
    case atStart => exact ⟨0, Nat.zero_le _, rfl, HF1⟩
    case round =>
     obtain ⟨j, hj, rfl, HFj⟩ := hrel
     by_cases hlt : j < 4
     ·have hltI : (j : Int) < 4 := by omega
      have hix := idxT (w.heap.size + 1) j hlt
      have HH := hide (fun W => bhas_any (sbj k) (512 * 2 ^ j % 4294967296) W)
      rw [bitT HK.out j hlt, ← HHT.out] at HH
      have HE := hide (fL_take [] (gT l) ht s2 j (by rw [HLH.out]; exact hlt))
      have hlen : (fL [] (gT l) (ht.take j) s2).2.length = j := by rw [fL_len, List.length_take, HLH.out]; omega
      have hpt : (fL [] (gT l) (ht.take j) s2).1.pt ≤ l.length := fL_pt [] (gT l) l.length (fun s hs => gT_pt HBY.out hs) (ht.take j) s2 HS.out
      generalize ht.getD j false = hb at *
      generalize fL [] (gT l) (ht.take j) s2 = Q at *
      obtain ⟨sq, nq'⟩ := Q
      simp only at HFj HE hlen hpt
      have HVj := hide (HV.out.bx HFj.out.bx)
      cases hb with
      | true =>
       have HC := hide (rtext_gs p v l sq wr HFj.out.rd HVj.out hl HBY.out hpt)
       have HE2 := HE.out
       simp only [↓reduceIte] at HE2
       have HE3 := hide HE2
       clear HE2 HE
       generalize gT l sq = Q2 at *
       obtain ⟨sq2, xq⟩ := Q2
       simp only at HC HE3
       go_wp2_with (first | (go_at_call 126; refine (HH.out _).mono ?_; rintro e w1 ⟨rfl, hw1⟩; rw [hw1]; clear hw1 w1) | (go_at_call 53; refine HC.out.mono ?_; rintro e w5 ⟨u5, rfl, hcv, hr5, hb5⟩; have HF5 := hide (HFj.out.step hr5 hb5); clear hr5 hb5; have c5 := HF5.out.ct j hlt; have f5 := HF5.out.fz (j + 10)))
       have HF6 := hide (HF5.out.setT (x := xq) hlen hlt)
       go_roundw
       case rel => exact ⟨j + 1, by omega, by go_num, hide (by rw [HE3.out]; exact HF6.out)⟩
       case measure => simp [intOf]; omega
      | false =>
       have HE2 := HE.out
       simp only [Bool.false_eq_true, ↓reduceIte] at HE2
       have HE3 := hide HE2
       clear HE2 HE
       go_wp2_with (first | (go_at_call 126; refine (HH.out _).mono ?_; rintro e w1 ⟨rfl, hw1⟩; rw [hw1]; clear hw1 w1))
       go_roundw
       case rel => exact ⟨j + 1, by omega, by go_num, hide (by rw [HE3.out]; exact HFj.out.padT)⟩
       case measure => simp [intOf]; omega
     ·obtain rfl : j = 4 := by omega
      clear hlt hj
      have HT : Hid (ht.take 4 = ht) := hide (List.take_of_length_le (by rw [HLH.out]; omega))
      rw [HT.out] at HFj
      have hpt : (fL [] (gT l) ht s2).1.pt ≤ l.length := fL_pt [] (gT l) l.length (fun s hs => gT_pt HBY.out hs) ht s2 HS.out
      rcases hQ : fL [] (gT l) ht s2 with ⟨s3, t1⟩
      rw [hQ] at HFj hpt
      have HQT := hide hQ
      have HS := hide hpt
      simp only at HFj HS
      clear hQ hpt HT HLH
      obtain ⟨waT, rfl⟩ : ∃ x : World, x = wr := ⟨_, rfl⟩
      have HF0 := HFj
      clear HFj HF1
      have HLH : Hid (hr.length = 4) := hide (by rw [HHR.out]; rfl)
      go_upto_region 17 with (first | (go_at_call 128; refine (rows_any _ _).mono ?_; rintro e w7 ⟨rfl, hY⟩; unfold ptsR))
      have HF1 := hide (HF0.out.below hY)
      clear HF0 hY
      go_loopw [47] (fun i wr => ∃ (j : Nat) (r : List Value), j ≤ 4 ∧ i = .int .i64 (j : Int) ∧ r.length = j ∧ Hid (Fi p w.heap.size (w.heap.size + 1) w wr v (fL [] (gR l) (hr.take j) s3).1 n1 f1 t1 r (fL [] (gR l) (hr.take j) s3).2)) (fun i _ => 4 - (intOf i).toNat)
      case atStart => exact ⟨0, [], Nat.zero_le _, rfl, rfl, HF1⟩
      case round =>
       obtain ⟨j, r, hj, rfl, hrl, HFj⟩ := hrel
       by_cases hlt : j < 4
       ·have hltI : (j : Int) < 4 := by omega
        have hix := idxR (w.heap.size + 1) j hlt
        have HH := hide (fun W => bhas_any (sbj k) (8192 * 2 ^ j % 4294967296) W)
        rw [bitR HK.out j hlt, ← HHR.out] at HH
        have HE := hide (fL_take [] (gR l) hr s3 j (by rw [HLH.out]; exact hlt))
        have hlen : (fL [] (gR l) (hr.take j) s3).2.length = j := by rw [fL_len, List.length_take, HLH.out]; omega
        have hpt : (fL [] (gR l) (hr.take j) s3).1.pt ≤ l.length := fL_pt [] (gR l) l.length (fun s hs => gR_pt HBY.out hs) (hr.take j) s3 HS.out
        generalize hr.getD j false = hb at *
        generalize fL [] (gR l) (hr.take j) s3 = Q at *
        obtain ⟨sq, nq'⟩ := Q
        simp only at HFj HE hlen hpt
        have HVj := hide (HV.out.bx HFj.out.bx)
        cases hb with
        | true =>
         have HC := hide (rrow_gs p v l sq wr HFj.out.rd HVj.out hl HBY.out hpt)
         have HE2 := HE.out
         simp only [↓reduceIte] at HE2
         have HE3 := hide HE2
         clear HE2 HE
         generalize gR l sq = Q2 at *
         obtain ⟨sq2, xq⟩ := Q2
         simp only at HC HE3
         go_wp2_with (first | (go_at_call 126; refine (HH.out _).mono ?_; rintro e w1 ⟨rfl, hw1⟩; rw [hw1]; clear hw1 w1) | (go_at_call 137; refine HC.out.mono ?_; rintro e w5 ⟨u5, rfl, hsl5, hr5, hb5⟩; obtain ⟨ao5, cap5, rfl⟩ := hsl5.sl.form; have HF5 := hide (HFj.out.step hr5 hb5); have HU5 := hide hsl5; clear hr5 hb5 hsl5; have c5 := HF5.out.cr j hlt; have f5 := HF5.out.fz (j + 14)))
         have HF6 := hide (HF5.out.setR (x := xq) hrl hlen hlt (HU5.out.imp (fun b _ q => by have := HFj.out.sz; omega) (fun _ _ _ _ => rfl)))
         go_roundw
         case rel => exact ⟨j + 1, r ++ [.slice ao5 xq.length cap5], by omega, by go_num, by rw [List.length_append, hrl]; rfl, hide (by rw [HE3.out]; exact HF6.out)⟩
         case measure => simp [intOf]; omega
        | false =>
         have HE2 := HE.out
         simp only [Bool.false_eq_true, ↓reduceIte] at HE2
         have HE3 := hide HE2
         clear HE2 HE
         go_wp2_with (first | (go_at_call 126; refine (HH.out _).mono ?_; rintro e w1 ⟨rfl, hw1⟩; rw [hw1]; clear hw1 w1))
         go_roundw
         case rel => exact ⟨j + 1, r ++ [.slice none 0 0], by omega, by go_num, by rw [List.length_append, hrl]; rfl, hide (by rw [HE3.out]; exact HFj.out.padR)⟩
         case measure => simp [intOf]; omega
       ·obtain rfl : j = 4 := by omega
        clear hlt hj
        have HT : Hid (hr.take 4 = hr) := hide (List.take_of_length_le (by rw [HLH.out]; omega))
        rw [HT.out] at HFj
        have hpt : (fL [] (gR l) hr s3).1.pt ≤ l.length := fL_pt [] (gR l) l.length (fun s hs => gR_pt HBY.out hs) hr s3 HS.out
        have hlenR : (fL [] (gR l) hr s3).2.length = 4 := by rw [fL_len, HLH.out]
        rcases hQ : fL [] (gR l) hr s3 with ⟨s4, rs1⟩
        rw [hQ] at HFj hpt hlenR
        have HQR := hide hQ
        have HS := hide hpt
        simp only at HFj HS
        clear hQ hpt HT HLH
        obtain ⟨waR, rfl⟩ : ∃ x : World, x = wr := ⟨_, rfl⟩
        have HF0 := HFj
        clear HFj HF1
        obtain ⟨b14, d14, e14⟩ := (HF0.out.rw 0 (by decide)).sl.form
        obtain ⟨b15, d15, e15⟩ := (HF0.out.rw 1 (by decide)).sl.form
        obtain ⟨b16, d16, e16⟩ := (HF0.out.rw 2 (by decide)).sl.form
        obtain ⟨b17, d17, e17⟩ := (HF0.out.rw 3 (by decide)).sl.form
        have hrg := HF0.out.range
        have hw14 := HF0.out.rw 0 (by decide)
        have hw15 := HF0.out.rw 1 (by decide)
        have hw16 := HF0.out.rw 2 (by decide)
        have hw17 := HF0.out.rw 3 (by decide)
        rw [e14, e15, e16, e17] at hrg
        rw [e14] at hw14
        rw [e15] at hw15
        rw [e16] at hw16
        rw [e17] at hw17
        have HRG := hide hrg
        have HTH := hide HF0.out.th
        have hRX : w.heap.size + 1 ≠ w.heap.size := by omega
        have HIS : Hid (IsR (fun b => w.heap.size ≤ b) (waR.setCells w.heap.size 0 (cellsR (mkR 0 n1 f1 t1 rs1) b14 b15 b16 b17 d14 d15 d16 d17)) (.agg (cellsR (mkR 0 n1 f1 t1 rs1) b14 b15 b16 b17 d14 d15 d16 d17).toArray) (mkR 0 n1 f1 t1 rs1)) := hide ⟨b14, b15, b16, b17, d14, d15, d16, d17, rfl, hw14.imp (fun _ _ q => by omega) (fun b i _ q => cell_many (by omega) _ _), hw15.imp (fun _ _ q => by omega) (fun b i _ q => cell_many (by omega) _ _), hw16.imp (fun _ _ q => by omega) (fun b i _ q => cell_many (by omega) _ _), hw17.imp (fun _ _ q => by omega) (fun b i _ q => cell_many (by omega) _ _)⟩
        have HRD : Hid (RdG (waR.setCells w.heap.size 0 (cellsR (mkR 0 n1 f1 t1 rs1) b14 b15 b16 b17 d14 d15 d16 d17)) p v s4) := hide (rdG_many (by have := HF0.out.hp; omega) _ _ HF0.out.rd)
        have HBX : Hid (Bx p w (waR.setCells w.heap.size 0 (cellsR (mkR 0 n1 f1 t1 rs1) b14 b15 b16 b17 d14 d15 d16 d17))) := hide (Bx.many (Nat.le_refl _) _ _ HF0.out.bx)
        have HRR : Hid ((waR.setCells w.heap.size 0 (cellsR (mkR 0 n1 f1 t1 rs1) b14 b15 b16 b17 d14 d15 d16 d17)).rangeAt w.heap.size 0 (cellsR (mkR 0 n1 f1 t1 rs1) b14 b15 b16 b17 d14 d15 d16 d17)) := hide (World.rangeAt_setCells_same _ _ _ _ HF0.out.th)
        clear hrg hw14 hw15 hw16 hw17 e14 e15 e16 e17 HF0
        go_wp2_with (first | (refine wpList_load_mid rfl _ _ rfl _ _ rfl _ _ HRG.out Tryz.underlying45 rfl (by kernel_rfl) ?_) | (refine wpList_store_mid rfl _ _ _ rfl w.heap.size 0 (cellsR (mkR 0 n1 f1 t1 rs1) b14 b15 b16 b17 d14 d15 d16 d17).toArray rfl rfl HTH.out (by kernel_rfl) (cellsR_one _ _ _ _ _ _ _ _ _) ?_))
        exact bodyPost_ret (v := .agg (cellsR (mkR 0 n1 f1 t1 rs1) b14 b15 b16 b17 d14 d15 d16 d17).toArray) (results_mid Tryz.results113 _ _ w.heap.size _ _ rfl HRR.out Tryz.underlying45 rfl (by kernel_rfl)) rfl ⟨_, rfl, n1, f1, t1, rs1, s1, HQ8, s2, HQF, s3, HQT, s4, HQR, HIS.out, HRD.out, HBX.out⟩
   | false =>
    have HQF : Hid (fL false (gF l) hf s1 = (s1, [false])) := hide (by rw [HHF.out]; rfl)
    go_upto_region 10 with (first | (go_at_call 126; refine (HFB.out _).mono ?_; rintro e w1 ⟨rfl, hw1⟩; rw [hw1]; clear hw1 w1))
    have HF6 := hide HF0.out.padF
    clear HF0
    have HF0 := HF6
    clear HF6
    obtain ⟨f1, hf1⟩ : ∃ x, x = [false] := ⟨_, rfl⟩
    rw [← hf1] at HF0 HQF
    clear hf1
    obtain ⟨s2, hs2⟩ : ∃ x, x = s1 := ⟨_, rfl⟩
    rw [← hs2] at HF0 HS
    rw [show fL false (gF l) hf s1 = (s1, f1) ↔ fL false (gF l) hf s1 = (s2, f1) by rw [hs2]] at HQF
    clear hs2
    have HLH : Hid (ht.length = 4) := hide (by rw [HHT.out]; rfl)
    go_upto_region 11 with (first | (go_at_call 127; refine (texts_any _ _).mono ?_; rintro e w6 ⟨rfl, hY⟩; unfold ptsT))
    have HF1 := hide (HF0.out.below hY)
    clear HF0 hY
    go_loopw [32] (fun i wr => ∃ (j : Nat), j ≤ 4 ∧ i = .int .i64 (j : Int) ∧ Hid (Fi p w.heap.size (w.heap.size + 1) w wr v (fL [] (gT l) (ht.take j) s2).1 n1 f1 (fL [] (gT l) (ht.take j) s2).2 [] [])) (fun i _ => 4 - (intOf i).toNat)
    case atStart => exact ⟨0, Nat.zero_le _, rfl, HF1⟩
    case round =>
     obtain ⟨j, hj, rfl, HFj⟩ := hrel
     by_cases hlt : j < 4
     ·have hltI : (j : Int) < 4 := by omega
      have hix := idxT (w.heap.size + 1) j hlt
      have HH := hide (fun W => bhas_any (sbj k) (512 * 2 ^ j % 4294967296) W)
      rw [bitT HK.out j hlt, ← HHT.out] at HH
      have HE := hide (fL_take [] (gT l) ht s2 j (by rw [HLH.out]; exact hlt))
      have hlen : (fL [] (gT l) (ht.take j) s2).2.length = j := by rw [fL_len, List.length_take, HLH.out]; omega
      have hpt : (fL [] (gT l) (ht.take j) s2).1.pt ≤ l.length := fL_pt [] (gT l) l.length (fun s hs => gT_pt HBY.out hs) (ht.take j) s2 HS.out
      generalize ht.getD j false = hb at *
      generalize fL [] (gT l) (ht.take j) s2 = Q at *
      obtain ⟨sq, nq'⟩ := Q
      simp only at HFj HE hlen hpt
      have HVj := hide (HV.out.bx HFj.out.bx)
      cases hb with
      | true =>
       have HC := hide (rtext_gs p v l sq wr HFj.out.rd HVj.out hl HBY.out hpt)
       have HE2 := HE.out
       simp only [↓reduceIte] at HE2
       have HE3 := hide HE2
       clear HE2 HE
       generalize gT l sq = Q2 at *
       obtain ⟨sq2, xq⟩ := Q2
       simp only at HC HE3
       go_wp2_with (first | (go_at_call 126; refine (HH.out _).mono ?_; rintro e w1 ⟨rfl, hw1⟩; rw [hw1]; clear hw1 w1) | (go_at_call 53; refine HC.out.mono ?_; rintro e w5 ⟨u5, rfl, hcv, hr5, hb5⟩; have HF5 := hide (HFj.out.step hr5 hb5); clear hr5 hb5; have c5 := HF5.out.ct j hlt; have f5 := HF5.out.fz (j + 10)))
       have HF6 := hide (HF5.out.setT (x := xq) hlen hlt)
       go_roundw
       case rel => exact ⟨j + 1, by omega, by go_num, hide (by rw [HE3.out]; exact HF6.out)⟩
       case measure => simp [intOf]; omega
      | false =>
       have HE2 := HE.out
       simp only [Bool.false_eq_true, ↓reduceIte] at HE2
       have HE3 := hide HE2
       clear HE2 HE
       go_wp2_with (first | (go_at_call 126; refine (HH.out _).mono ?_; rintro e w1 ⟨rfl, hw1⟩; rw [hw1]; clear hw1 w1))
       go_roundw
       case rel => exact ⟨j + 1, by omega, by go_num, hide (by rw [HE3.out]; exact HFj.out.padT)⟩
       case measure => simp [intOf]; omega
     ·obtain rfl : j = 4 := by omega
      clear hlt hj
      have HT : Hid (ht.take 4 = ht) := hide (List.take_of_length_le (by rw [HLH.out]; omega))
      rw [HT.out] at HFj
      have hpt : (fL [] (gT l) ht s2).1.pt ≤ l.length := fL_pt [] (gT l) l.length (fun s hs => gT_pt HBY.out hs) ht s2 HS.out
      rcases hQ : fL [] (gT l) ht s2 with ⟨s3, t1⟩
      rw [hQ] at HFj hpt
      have HQT := hide hQ
      have HS := hide hpt
      simp only at HFj HS
      clear hQ hpt HT HLH
      obtain ⟨waT, rfl⟩ : ∃ x : World, x = wr := ⟨_, rfl⟩
      have HF0 := HFj
      clear HFj HF1
      have HLH : Hid (hr.length = 4) := hide (by rw [HHR.out]; rfl)
      go_upto_region 17 with (first | (go_at_call 128; refine (rows_any _ _).mono ?_; rintro e w7 ⟨rfl, hY⟩; unfold ptsR))
      have HF1 := hide (HF0.out.below hY)
      clear HF0 hY
      go_loopw [47] (fun i wr => ∃ (j : Nat) (r : List Value), j ≤ 4 ∧ i = .int .i64 (j : Int) ∧ r.length = j ∧ Hid (Fi p w.heap.size (w.heap.size + 1) w wr v (fL [] (gR l) (hr.take j) s3).1 n1 f1 t1 r (fL [] (gR l) (hr.take j) s3).2)) (fun i _ => 4 - (intOf i).toNat)
      case atStart => exact ⟨0, [], Nat.zero_le _, rfl, rfl, HF1⟩
      case round =>
       obtain ⟨j, r, hj, rfl, hrl, HFj⟩ := hrel
       by_cases hlt : j < 4
       ·have hltI : (j : Int) < 4 := by omega
        have hix := idxR (w.heap.size + 1) j hlt
        have HH := hide (fun W => bhas_any (sbj k) (8192 * 2 ^ j % 4294967296) W)
        rw [bitR HK.out j hlt, ← HHR.out] at HH
        have HE := hide (fL_take [] (gR l) hr s3 j (by rw [HLH.out]; exact hlt))
        have hlen : (fL [] (gR l) (hr.take j) s3).2.length = j := by rw [fL_len, List.length_take, HLH.out]; omega
        have hpt : (fL [] (gR l) (hr.take j) s3).1.pt ≤ l.length := fL_pt [] (gR l) l.length (fun s hs => gR_pt HBY.out hs) (hr.take j) s3 HS.out
        generalize hr.getD j false = hb at *
        generalize fL [] (gR l) (hr.take j) s3 = Q at *
        obtain ⟨sq, nq'⟩ := Q
        simp only at HFj HE hlen hpt
        have HVj := hide (HV.out.bx HFj.out.bx)
        cases hb with
        | true =>
         have HC := hide (rrow_gs p v l sq wr HFj.out.rd HVj.out hl HBY.out hpt)
         have HE2 := HE.out
         simp only [↓reduceIte] at HE2
         have HE3 := hide HE2
         clear HE2 HE
         generalize gR l sq = Q2 at *
         obtain ⟨sq2, xq⟩ := Q2
         simp only at HC HE3
         go_wp2_with (first | (go_at_call 126; refine (HH.out _).mono ?_; rintro e w1 ⟨rfl, hw1⟩; rw [hw1]; clear hw1 w1) | (go_at_call 137; refine HC.out.mono ?_; rintro e w5 ⟨u5, rfl, hsl5, hr5, hb5⟩; obtain ⟨ao5, cap5, rfl⟩ := hsl5.sl.form; have HF5 := hide (HFj.out.step hr5 hb5); have HU5 := hide hsl5; clear hr5 hb5 hsl5; have c5 := HF5.out.cr j hlt; have f5 := HF5.out.fz (j + 14)))
         have HF6 := hide (HF5.out.setR (x := xq) hrl hlen hlt (HU5.out.imp (fun b _ q => by have := HFj.out.sz; omega) (fun _ _ _ _ => rfl)))
         go_roundw
         case rel => exact ⟨j + 1, r ++ [.slice ao5 xq.length cap5], by omega, by go_num, by rw [List.length_append, hrl]; rfl, hide (by rw [HE3.out]; exact HF6.out)⟩
         case measure => simp [intOf]; omega
        | false =>
         have HE2 := HE.out
         simp only [Bool.false_eq_true, ↓reduceIte] at HE2
         have HE3 := hide HE2
         clear HE2 HE
         go_wp2_with (first | (go_at_call 126; refine (HH.out _).mono ?_; rintro e w1 ⟨rfl, hw1⟩; rw [hw1]; clear hw1 w1))
         go_roundw
         case rel => exact ⟨j + 1, r ++ [.slice none 0 0], by omega, by go_num, by rw [List.length_append, hrl]; rfl, hide (by rw [HE3.out]; exact HFj.out.padR)⟩
         case measure => simp [intOf]; omega
       ·obtain rfl : j = 4 := by omega
        clear hlt hj
        have HT : Hid (hr.take 4 = hr) := hide (List.take_of_length_le (by rw [HLH.out]; omega))
        rw [HT.out] at HFj
        have hpt : (fL [] (gR l) hr s3).1.pt ≤ l.length := fL_pt [] (gR l) l.length (fun s hs => gR_pt HBY.out hs) hr s3 HS.out
        have hlenR : (fL [] (gR l) hr s3).2.length = 4 := by rw [fL_len, HLH.out]
        rcases hQ : fL [] (gR l) hr s3 with ⟨s4, rs1⟩
        rw [hQ] at HFj hpt hlenR
        have HQR := hide hQ
        have HS := hide hpt
        simp only at HFj HS
        clear hQ hpt HT HLH
        obtain ⟨waR, rfl⟩ : ∃ x : World, x = wr := ⟨_, rfl⟩
        have HF0 := HFj
        clear HFj HF1
        obtain ⟨b14, d14, e14⟩ := (HF0.out.rw 0 (by decide)).sl.form
        obtain ⟨b15, d15, e15⟩ := (HF0.out.rw 1 (by decide)).sl.form
        obtain ⟨b16, d16, e16⟩ := (HF0.out.rw 2 (by decide)).sl.form
        obtain ⟨b17, d17, e17⟩ := (HF0.out.rw 3 (by decide)).sl.form
        have hrg := HF0.out.range
        have hw14 := HF0.out.rw 0 (by decide)
        have hw15 := HF0.out.rw 1 (by decide)
        have hw16 := HF0.out.rw 2 (by decide)
        have hw17 := HF0.out.rw 3 (by decide)
        rw [e14, e15, e16, e17] at hrg
        rw [e14] at hw14
        rw [e15] at hw15
        rw [e16] at hw16
        rw [e17] at hw17
        have HRG := hide hrg
        have HTH := hide HF0.out.th
        have hRX : w.heap.size + 1 ≠ w.heap.size := by omega
        have HIS : Hid (IsR (fun b => w.heap.size ≤ b) (waR.setCells w.heap.size 0 (cellsR (mkR 0 n1 f1 t1 rs1) b14 b15 b16 b17 d14 d15 d16 d17)) (.agg (cellsR (mkR 0 n1 f1 t1 rs1) b14 b15 b16 b17 d14 d15 d16 d17).toArray) (mkR 0 n1 f1 t1 rs1)) := hide ⟨b14, b15, b16, b17, d14, d15, d16, d17, rfl, hw14.imp (fun _ _ q => by omega) (fun b i _ q => cell_many (by omega) _ _), hw15.imp (fun _ _ q => by omega) (fun b i _ q => cell_many (by omega) _ _), hw16.imp (fun _ _ q => by omega) (fun b i _ q => cell_many (by omega) _ _), hw17.imp (fun _ _ q => by omega) (fun b i _ q => cell_many (by omega) _ _)⟩
        have HRD : Hid (RdG (waR.setCells w.heap.size 0 (cellsR (mkR 0 n1 f1 t1 rs1) b14 b15 b16 b17 d14 d15 d16 d17)) p v s4) := hide (rdG_many (by have := HF0.out.hp; omega) _ _ HF0.out.rd)
        have HBX : Hid (Bx p w (waR.setCells w.heap.size 0 (cellsR (mkR 0 n1 f1 t1 rs1) b14 b15 b16 b17 d14 d15 d16 d17))) := hide (Bx.many (Nat.le_refl _) _ _ HF0.out.bx)
        have HRR : Hid ((waR.setCells w.heap.size 0 (cellsR (mkR 0 n1 f1 t1 rs1) b14 b15 b16 b17 d14 d15 d16 d17)).rangeAt w.heap.size 0 (cellsR (mkR 0 n1 f1 t1 rs1) b14 b15 b16 b17 d14 d15 d16 d17)) := hide (World.rangeAt_setCells_same _ _ _ _ HF0.out.th)
        clear hrg hw14 hw15 hw16 hw17 e14 e15 e16 e17 HF0
        go_wp2_with (first | (refine wpList_load_mid rfl _ _ rfl _ _ rfl _ _ HRG.out Tryz.underlying45 rfl (by kernel_rfl) ?_) | (refine wpList_store_mid rfl _ _ _ rfl w.heap.size 0 (cellsR (mkR 0 n1 f1 t1 rs1) b14 b15 b16 b17 d14 d15 d16 d17).toArray rfl rfl HTH.out (by kernel_rfl) (cellsR_one _ _ _ _ _ _ _ _ _) ?_))
        exact bodyPost_ret (v := .agg (cellsR (mkR 0 n1 f1 t1 rs1) b14 b15 b16 b17 d14 d15 d16 d17).toArray) (results_mid Tryz.results113 _ _ w.heap.size _ _ rfl HRR.out Tryz.underlying45 rfl (by kernel_rfl)) rfl ⟨_, rfl, n1, f1, t1, rs1, s1, HQ8, s2, HQF, s3, HQT, s4, HQR, HIS.out, HRD.out, HBX.out⟩
theorem fields_any (p : Nat) (v : Value) (l : List Int) (s : Gs) (k : Int) (w : World) (hrd : RdG w p v s) (hv : Slx p bc w v l) (hl : l.length ≤ 100000) (hby : Byt l) (hs : s.pt ≤ l.length) (hk : 1 ≤ k ∧ k ≤ 12) :
  Calls Tryz.prog 113 #[.pointer (some ⟨p, 0, none⟩), .int .u32 (sbj k)] w fun e w' => ∃ vx, e = .returned vx ∧ IsR (fun b => w.heap.size ≤ b) w' vx (bodyG l k s).2.k0 ∧ RdG w' p v (bodyG l k s).1 ∧ Bx p w w' := by
 refine (fields_go p v l s k w (hN k) (hF k) (hT k) (hR k) hrd hv hl hby hs hk (hide rfl) (hide rfl) (hide rfl) (hide rfl)).mono ?_
 rintro e w' ⟨vx, n, f, t, r, s1, s2, s3, s4, rfl, h1, h2, h3, h4, h5, h6, h7⟩
 have hb : bodyG l k s = (s4, mkR k n f t r) := by
  unfold bodyG
  simp only
  rw [h1.out]
  simp only
  rw [h2.out]
  simp only
  rw [h3.out]
  simp only
  rw [h4.out]
 rw [hb]
 exact ⟨vx, rfl, h5, h6, h7⟩
theorem gT_len {l : List Int} {s : Gs} (hb : Byt l) : (gT l s).2.length ≤ 256 := by
 unfold gT
 split
 ·simp only [bs_len]
  unfold textS
  rw [show abv' 256 = 256 from rfl]
  rcases hq : numS (l.drop s.pt) 256 with ⟨c, k, N⟩
  simp only
  split
  ·rename_i hc
   subst hc
   have := numS_once (hb.drop s.pt) hq
   split
   ·simp
   ·rw [List.length_take]; omega
  ·simp
 ·simp
theorem fL_all {α : Type} (z : α) (g : Gs → Gs × α) (P : α → Prop) (hz : P z) (hg : ∀ s, P (g s).2) : ∀ (hs : List Bool) (s : Gs), ∀ x ∈ (fL z g hs s).2, P x
 | [], _, x, h => by simp [fL] at h
 | b :: hs, s, x, h => by
  rcases List.mem_cons.1 h with e | e
  ·rw [e]
   cases b
   ·exact hz
   ·exact hg s
  ·exact fL_all z g P hz hg hs _ x e
theorem getD_all {α : Type} (P : α → Prop) (l : List α) (d : α) (hd : P d) (h : ∀ x ∈ l, P x) (i : Nat) : P (l.getD i d) := by
 by_cases hi : i < l.length
 ·rw [show l.getD i d = l[i] by simp [List.getD, hi]]
  exact h _ (List.getElem_mem hi)
 ·rw [show l.getD i d = d by simp [List.getD, List.getElem?_eq_none (Nat.le_of_not_lt hi)]]
  exact hd
theorem body_tx {l : List Int} {k : Int} {s : Gs} (hb : Byt l) : TxR (bodyG l k s).2 := by
 unfold bodyG
 simp only
 generalize (fL false (gF l) (hF k) (fL 0 (gN 1073741824 l) (hN k) s).1).1 = s2
 have h := fL_all [] (gT l) (fun x => x.length ≤ 1000) (by simp) (fun s => by have := gT_len (s := s) hb; omega) (hT k) s2
 exact ⟨getD_all (fun x => x.length ≤ 1000) _ [] (by simp) h 0, getD_all (fun x => x.length ≤ 1000) _ [] (by simp) h 1, getD_all (fun x => x.length ≤ 1000) _ [] (by simp) h 2, getD_all (fun x => x.length ≤ 1000) _ [] (by simp) h 3⟩
theorem body_k (l : List Int) (k : Int) (s : Gs) : (bodyG l k s).2.k = k := rfl
theorem body_pt {l : List Int} {k : Int} {s : Gs} (hb : Byt l) (hs : s.pt ≤ l.length) : (bodyG l k s).1.pt ≤ l.length := by
 unfold bodyG
 simp only
 exact fL_pt [] (gR l) l.length (fun s h => gR_pt hb h) _ _ (fL_pt [] (gT l) l.length (fun s h => gT_pt hb h) _ _ (fL_pt false (gF l) l.length (fun s h => gF_pt hb h) _ _ (fL_pt 0 (gN 1073741824 l) l.length (fun s h => gN_pt hb h) _ _ hs)))
theorem read_pt {l : List Int} {s : Gs} (hb : Byt l) (hs : s.pt ≤ l.length) : (readG l s).1.pt ≤ l.length := by
 have h1 := gN_pt (m := 63) hb hs
 have h2 := body_pt (k := (gN 63 l s).2) hb h1
 unfold readG
 simp only
 split
 ·split
  ·split
   ·exact h2
   ·exact h2
  ·exact h2
 ·split
  ·exact h1
  ·exact h1
theorem there_new (w : World) : (w.alloc (.cells #[.int .i64 0, .int .i64 0, .int .i64 0, .int .i64 0, .int .i64 0, .int .i64 0, .int .i64 0, .int .i64 0, .int .i64 0, .bool false, .string ⟨#[]⟩, .string ⟨#[]⟩, .string ⟨#[]⟩, .string ⟨#[]⟩, .slice none 0 0, .slice none 0 0, .slice none 0 0, .slice none 0 0] 45)).there w.heap.size 0 18 := fun j hj =>
 ⟨(range_new w [.int .i64 0, .int .i64 0, .int .i64 0, .int .i64 0, .int .i64 0, .int .i64 0, .int .i64 0, .int .i64 0, .int .i64 0, .bool false, .string ⟨#[]⟩, .string ⟨#[]⟩, .string ⟨#[]⟩, .string ⟨#[]⟩, .slice none 0 0, .slice none 0 0, .slice none 0 0, .slice none 0 0] 45).isSome j hj, by simp⟩
theorem there_bx {p R : Nat} {W W' : World} (h : W.there R 0 18) (hb : Bx p W W') (hp : R ≠ p) : W'.there R 0 18 := fun j hj => by
 have hl : R < W.heap.size := by
  obtain ⟨x, hx⟩ := Option.isSome_iff_exists.1 (h 0 (by decide)).1
  exact cell_block hx
 rw [hb.cell hl hp, hb.frozen hl hp]
 exact h j hj
theorem Bx.handle {p : Nat} {w w' : World} (h : Bx p w w') (hp : p ≠ 0) (hg : Hnd w) : Hnd w' := (h.cell (cell_block hg) (Ne.symm hp)).trans hg
theorem laid {ok : Nat → Prop} {p R X : Nat} {w W : World} {v : Value} {s : Gs} {x : Rc} {a14 a15 a16 a17 : Option Addr} {c14 c15 c16 c17 : Nat} {k : Int} (hX : X = W.heap.size) (hr : RdG W p v s) (hb : Bx p w W) (hp : p < w.heap.size) (hw : RwsR ok W x a14 a15 a16 a17 c14 c15 c16 c17) (ht : W.there R 0 18) (hR : R < W.heap.size) {W1 W2 : World} (h1 : W1 = (W.alloc (.cells #[.int .i64 0, .int .i64 0, .int .i64 0, .int .i64 0, .int .i64 0, .int .i64 0, .int .i64 0, .int .i64 0, .int .i64 0, .bool false, .string ⟨#[]⟩, .string ⟨#[]⟩, .string ⟨#[]⟩, .string ⟨#[]⟩, .slice none 0 0, .slice none 0 0, .slice none 0 0, .slice none 0 0] 45)).setCells X 0 (cellsR x a14 a15 a16 a17 c14 c15 c16 c17)) (h2 : W2 = W1.setCell ⟨X, 0, none⟩ (.int .i64 k)) :
  (W1.cell? ⟨X, 0, none⟩ = some (.int .i64 x.k) ∧ W1.frozen? ⟨X, 0, none⟩ = false) ∧ RdG W2 p v s ∧ Bx p w W2 ∧ RwsR ok W2 { x with k := k } a14 a15 a16 a17 c14 c15 c16 c17 ∧ W2.there R 0 18 ∧ W2.rangeAt X 0 (cellsR { x with k := k } a14 a15 a16 a17 c14 c15 c16 c17) ∧ X < W2.heap.size := by
 subst h2
 subst h1
 generalize hW1 : (W.alloc (.cells #[.int .i64 0, .int .i64 0, .int .i64 0, .int .i64 0, .int .i64 0, .int .i64 0, .int .i64 0, .int .i64 0, .int .i64 0, .bool false, .string ⟨#[]⟩, .string ⟨#[]⟩, .string ⟨#[]⟩, .string ⟨#[]⟩, .slice none 0 0, .slice none 0 0, .slice none 0 0, .slice none 0 0] 45)).setCells X 0 (cellsR x a14 a15 a16 a17 c14 c15 c16 c17) = W1
 generalize hW2 : W1.setCell ⟨X, 0, none⟩ (.int .i64 k) = W2
 have hth : (W.alloc (.cells #[.int .i64 0, .int .i64 0, .int .i64 0, .int .i64 0, .int .i64 0, .int .i64 0, .int .i64 0, .int .i64 0, .int .i64 0, .bool false, .string ⟨#[]⟩, .string ⟨#[]⟩, .string ⟨#[]⟩, .string ⟨#[]⟩, .slice none 0 0, .slice none 0 0, .slice none 0 0, .slice none 0 0] 45)).there X 0 18 := by subst hX; exact there_new W
 have hrg : W1.rangeAt X 0 (cellsR x a14 a15 a16 a17 c14 c15 c16 c17) := by rw [← hW1]; exact World.rangeAt_setCells_same _ _ _ _ hth
 have hfz : ∀ j, j < 18 → W1.frozen? ⟨X, 0 + j, none⟩ = false := fun j hj => by rw [← hW1, World.frozen?_setCells]; exact (hth j hj).2
 have hXw : w.heap.size ≤ X := by rw [hX]; exact hb.size
 have hXp : X ≠ p := by omega
 have hbl : Below W.heap.size W (W.alloc (.cells #[.int .i64 0, .int .i64 0, .int .i64 0, .int .i64 0, .int .i64 0, .int .i64 0, .int .i64 0, .int .i64 0, .int .i64 0, .bool false, .string ⟨#[]⟩, .string ⟨#[]⟩, .string ⟨#[]⟩, .string ⟨#[]⟩, .slice none 0 0, .slice none 0 0, .slice none 0 0, .slice none 0 0] 45)) := (Below.refl _ _).alloc (Nat.le_refl _) _
 have hc0 : W1.cell? ⟨X, 0, none⟩ = some (.int .i64 x.k) := hrg 0 _ rfl
 have hcell : ∀ b i, b ≠ X → b < W.heap.size → W2.cell? ⟨b, i, none⟩ = W.cell? ⟨b, i, none⟩ := fun b i hb hl => by
  rw [← hW2, World.cell?_setCell_other _ _ _ _ (fun q => hb (congrArg Addr.block q).symm), ← hW1, cell_many hb]
  exact hbl.cell (p := ⟨b, i, none⟩) hl
 have hsl : ∀ (u : Value) (l : List Int), Sli ok W u l → Sli ok W2 u l := fun u l h => h.imp (fun _ _ q => q) (fun b i hl _ => hcell b i (by omega) hl)
 refine ⟨⟨hc0, hfz 0 (by decide)⟩, by rw [← hW2, ← hW1]; exact rdG_set (rdG_many hXp _ _ (hr.below hbl)) hXp, by rw [← hW2, ← hW1]; exact (Bx.many hXw _ _ (hb.call hbl)).fresh hXw, ⟨hsl _ _ hw.h14, hsl _ _ hw.h15, hsl _ _ hw.h16, hsl _ _ hw.h17⟩, fun j hj => ⟨?_, ?_⟩, ?_, ?_⟩
 ·rw [hcell R _ (by omega) hR]; exact (ht j hj).1
 ·have h1 : W2.frozen? ⟨R, 0 + j, none⟩ = W1.frozen? ⟨R, 0 + j, none⟩ := by rw [← hW2]; simp
  rw [h1, ← hW1, World.frozen?_setCells, hbl.frozen (p := ⟨R, 0 + j, none⟩) hR]
  exact (ht j hj).2
 ·intro j y hy
  rcases j with _ | j
  ·cases hy
   rw [← hW2]
   exact World.cell?_setCell_same _ _ _ hc0
  ·rw [← hW2, World.cell?_setCell_other _ _ _ _ (fun q => by have := congrArg Addr.off q; simp at this)]
   exact hrg (j + 1) y hy
 ·rw [← hW2]; exact cell_block (World.cell?_setCell_same _ _ (.int .i64 k) hc0)
theorem read_kind {l : List Int} {s : Gs} {s1 : Gs} {k : Int} (hq : gN 63 l s = (s1, k)) (hk : ¬ (1 ≤ k ∧ k ≤ 12)) : readG l s = (refS ⟨#[107, 105, 110, 100]⟩ 5 s1, Rc.zero) := by
 unfold readG refS
 rw [hq]
 simp only
 rw [if_neg hk]
theorem read_body {l : List Int} {s : Gs} {s1 s4 : Gs} {k : Int} {x : Rc} (hq : gN 63 l s = (s1, k)) (hk : 1 ≤ k ∧ k ≤ 12) (hb : bodyG l k s1 = (s4, x)) : readG l s = if s4.c = 0 then (if (chk x).2.2 = 0 then (s4, x) else (⟨(chk x).2.2, ⟨#[114, 101, 99, 111, 114, 100]⟩, s4.pt⟩, Rc.zero)) else (s4, Rc.zero) := by
 unfold readG
 rw [hq]
 simp only
 rw [if_pos hk, hb]
set_option maxRecDepth 100000 in
set_option maxHeartbeats 16000000 in
theorem cread_any (p : Nat) (v : Value) (l : List Int) (s : Gs) (w : World) (hrd : RdG w p v s) (hv : Slx p bc w v l) (hl : l.length ≤ 100000) (hby : Byt l) (hs : s.pt ≤ l.length) (hg : Hnd w) (hpz : p ≠ 0) :
  Calls Tryz.prog 83 #[.pointer (some ⟨p, 0, none⟩)] w fun e w' => ∃ vx, e = .returned vx ∧ IsR (fun b => w.heap.size ≤ b) w' vx (readG l s).2 ∧ RdG w' p v (readG l s).1 ∧ Bx p w w' := by
 have HBY := hide hby
 have hp : p < w.heap.size := hrd.lt
 have hbl : Below w.heap.size w (w.alloc (.cells #[.int .i64 0, .int .i64 0, .int .i64 0, .int .i64 0, .int .i64 0, .int .i64 0, .int .i64 0, .int .i64 0, .int .i64 0, .bool false, .string ⟨#[]⟩, .string ⟨#[]⟩, .string ⟨#[]⟩, .string ⟨#[]⟩, .slice none 0 0, .slice none 0 0, .slice none 0 0, .slice none 0 0] 45)) := (Below.refl _ _).alloc (Nat.le_refl _) _
 have HTH := hide (there_new w)
 have HG := hide (hg.below hbl)
 have HC := hide (rint_gs p v l 63 s _ (hrd.below hbl) (hv.below hbl) hl hby hs (by decide) (by decide))
 have hpt := gN_pt (m := 63) (s := s) hby hs
 have HB0 := hide (Bx.of (p := p) hbl)
 have HV := hide hv
 have HGW := hide hg
 rcases hq : gN 63 l s with ⟨s1, k⟩
 rw [hq] at HC hpt
 simp only at HC hpt
 have HS := hide (fun W => subj_any k W)
 have HQ := hide hq
 clear hbl hrd hv hby hs hg hq
 by_cases hk : 1 ≤ k ∧ k ≤ 12
 ·rw [show knd k = true from decide_eq_true hk] at HS
  rcases hb : bodyG l k s1 with ⟨s4, x⟩
  have HR := hide (read_body HQ.out hk hb)
  have HTX : Hid (TxR x) := hide (by have := body_tx (k := k) (s := s1) HBY.out; rwa [hb] at this)
  have HXK : Hid ({ x.k0 with k := k } = x) := hide (by have := body_k l k s1; rw [hb] at this; cases x; simp only [Rc.k0] at this ⊢; rw [this])
  go_enter Tryz.func83, Tryz.ntmps83
  go_upto_region 1 with fail
  generalize w.alloc (.cells #[.int .i64 0, .int .i64 0, .int .i64 0, .int .i64 0, .int .i64 0, .int .i64 0, .int .i64 0, .int .i64 0, .int .i64 0, .bool false, .string ⟨#[]⟩, .string ⟨#[]⟩, .string ⟨#[]⟩, .string ⟨#[]⟩, .slice none 0 0, .slice none 0 0, .slice none 0 0, .slice none 0 0] 45) = X0 at HTH HG HC HB0 ⊢
  go_upto_region 6 with (first | (go_at_call 50; refine HC.out.mono ?_; rintro e w1 ⟨rfl, hr1, hb1⟩) | (go_at_call 112; refine (HS.out _).mono ?_; rintro e w9 ⟨rfl, hw9⟩; rw [hw9]; clear hw9 w9))
  replace HTH := hide (there_bx HTH.out hb1 (by omega))
  replace HG := hide (hb1.handle hpz HG.out)
  replace HB0 := hide (HB0.out.trans hb1)
  have HF := hide (fields_any p v l s1 k w1 hr1 (HV.out.bx HB0.out) hl HBY.out hpt hk)
  rw [hb] at HF
  simp only at HF
  have hz1 : w.heap.size ≤ w1.heap.size := HB0.out.size
  have hw1 : w.heap.size < w1.heap.size := by
   obtain ⟨y, hy⟩ := Option.isSome_iff_exists.1 (HTH.out 0 (by decide)).1
   exact cell_block hy
  clear hr1 hb1 hb HC hk
  clear X0
  go_upto_region 7 with (first | (go_at_call 113; refine HF.out.mono ?_; rintro e w2 ⟨vx, rfl, hx2, hr2, hb2⟩; obtain ⟨a14, a15, a16, a17, c14, c15, c16, c17, rfl, hw2⟩ := hx2; have HT2 := hide (there_bx HTH.out hb2 (by omega)); have HN2 := hide (there_new w2)) | (refine wpList_store_mid rfl _ _ _ rfl w2.heap.size 0 (cellsR x.k0 a14 a15 a16 a17 c14 c15 c16 c17).toArray rfl rfl HN2.out (by kernel_rfl) (cellsR_one _ _ _ _ _ _ _ _ _) ?_))
  have hX2 := Nat.lt_of_lt_of_le hw1 hb2.size
  have hz2 : w1.heap.size ≤ w2.heap.size := hb2.size
  obtain ⟨W1, hW1⟩ : ∃ W1, W1 = (w2.alloc (.cells #[.int .i64 0, .int .i64 0, .int .i64 0, .int .i64 0, .int .i64 0, .int .i64 0, .int .i64 0, .int .i64 0, .int .i64 0, .bool false, .string ⟨#[]⟩, .string ⟨#[]⟩, .string ⟨#[]⟩, .string ⟨#[]⟩, .slice none 0 0, .slice none 0 0, .slice none 0 0, .slice none 0 0] 45)).setCells w2.heap.size 0 (cellsR x.k0 a14 a15 a16 a17 c14 c15 c16 c17) := ⟨_, rfl⟩
  obtain ⟨W2, hW2⟩ : ∃ W2, W2 = W1.setCell ⟨w2.heap.size, 0, none⟩ (.int .i64 k) := ⟨_, rfl⟩
  obtain ⟨⟨g0, f0⟩, hr3, hb3, hw3, ht3, hrg3, hx3⟩ := laid (k := k) (R := w.heap.size) rfl hr2 (HB0.out.trans hb2) hp hw2 HT2.out hX2 hW1 hW2
  rw [HXK.out] at hw3 hrg3
  have HRD3 := hide hr3
  have HBX3 := hide hb3
  have HW3 := hide hw3
  have HTH3 := hide ht3
  have HRG3 := hide hrg3
  have HG3 := hide (hb3.handle hpz (show Hnd w from HGW.out))
  have HW2 := hide hW2
  show Code.wp _ _ _ _ _
  rw [← hW1]
  clear hr2 hb2 hw2 HT2 HN2 hr3 hb3 hw3 ht3 hrg3 hW1 hW2 HF HTH HG HB0 HS
  go_upto_region 8 with fail
  rw [← HW2.out]
  have HCK := hide (ccheck_any x _ W2 ⟨a14, a15, a16, a17, c14, c15, c16, c17, rfl, HW3.out⟩ HTX.out)
  clear HW2 g0 f0 HTX HXK hx3
  clear W1
  by_cases hc : (chk x).2.2 = 0
  ·rw [show erN (chk x).1 (chk x).2.1 (chk x).2.2 = .nilIface from if_pos hc] at HCK
   have HR2 : Hid (readG l s = if s4.c = 0 then (s4, x) else (s4, Rc.zero)) := hide (by rw [HR.out, if_pos hc])
   go_upto_region 11 with (first | (refine wpList_load_mid rfl _ _ rfl _ _ rfl _ _ HRG3.out Tryz.underlying45 rfl (by kernel_rfl) ?_) | (go_at_call 107; refine HCK.out.mono ?_; rintro e w5 ⟨rfl, hb5⟩))
   have hX2' : w2.heap.size < W2.heap.size := cell_block (HRG3.out 0 _ rfl)
   have HRD := hide (HRD3.out.below hb5)
   have HBX := hide (HBX3.out.call hb5)
   have HTH := hide (there_bx HTH3.out (Bx.of (p := p) hb5) (by omega))
   have HRG := hide (range_below HRG3.out hb5)
   have HWS := hide (HW3.out.below hb5)
   clear HRD3 HBX3 HTH3 HRG3 HW3 hb5 HR HCK
   by_cases h4 : s4.c = 0
   ·have HRX := hide (HR2.out.trans (if_pos h4))
    have HE := hide (err_any p v _ _ w5 HRD.out)
    rw [show erN s4.op s4.pt s4.c = .nilIface from if_pos h4] at HE
    go_wp2_with (first | (go_at_call 84; refine HE.out.mono ?_; rintro e w9 ⟨rfl, hw9⟩; rw [hw9]; clear hw9 w9) | (refine wpList_load_mid rfl _ _ rfl _ _ rfl _ _ HRG.out Tryz.underlying45 rfl (by kernel_rfl) ?_) | (refine wpList_store_mid rfl _ _ _ rfl w.heap.size 0 (cellsR x a14 a15 a16 a17 c14 c15 c16 c17).toArray rfl rfl HTH.out (by kernel_rfl) (cellsR_one _ _ _ _ _ _ _ _ _) ?_))
    have hRp : w.heap.size ≠ p := by omega
    exact bodyPost_ret (v := .agg (cellsR x a14 a15 a16 a17 c14 c15 c16 c17).toArray) (results_mid Tryz.results83 _ _ w.heap.size _ _ rfl (World.rangeAt_setCells_same _ _ _ _ HTH.out) Tryz.underlying45 rfl (by kernel_rfl)) rfl ⟨_, rfl, by rw [HRX.out]; exact (⟨a14, a15, a16, a17, c14, c15, c16, c17, rfl, HWS.out.h14.imp (fun b _ q => by omega) (fun b i _ q => cell_many (by omega) _ _), HWS.out.h15.imp (fun b _ q => by omega) (fun b i _ q => cell_many (by omega) _ _), HWS.out.h16.imp (fun b _ q => by omega) (fun b i _ q => cell_many (by omega) _ _), HWS.out.h17.imp (fun b _ q => by omega) (fun b i _ q => cell_many (by omega) _ _)⟩), by rw [HRX.out]; exact rdG_many hRp _ _ HRD.out, Bx.many (Nat.le_refl _) _ _ HBX.out⟩
   ·have HRX := hide (HR2.out.trans (if_neg h4))
    have HE := hide (err_any p v _ _ w5 HRD.out)
    rw [show erN s4.op s4.pt s4.c = ft s4.op s4.pt s4.c from if_neg h4] at HE
    unfold ft at HE
    go_wp2_with (first | (go_at_call 84; refine HE.out.mono ?_; rintro e w9 ⟨rfl, hw9⟩; rw [hw9]; clear hw9 w9) | (refine wpList_store_mid rfl _ _ _ rfl w.heap.size 0 (cellsR Rc.zero none none none none 0 0 0 0).toArray rfl rfl HTH.out (by kernel_rfl) (cellsR_one _ _ _ _ _ _ _ _ _) ?_))
    have hRp : w.heap.size ≠ p := by omega
    exact bodyPost_ret (v := .agg (cellsR Rc.zero none none none none 0 0 0 0).toArray) (results_mid Tryz.results83 _ _ w.heap.size _ _ rfl (World.rangeAt_setCells_same _ _ _ _ HTH.out) Tryz.underlying45 rfl (by kernel_rfl)) rfl ⟨_, rfl, by rw [HRX.out]; exact (isR_zero _ _), by rw [HRX.out]; exact rdG_many hRp _ _ HRD.out, Bx.many (Nat.le_refl _) _ _ HBX.out⟩
  ·rw [show erN (chk x).1 (chk x).2.1 (chk x).2.2 = ft (chk x).1 (chk x).2.1 (chk x).2.2 from if_neg hc] at HCK
   have HR2 : Hid (readG l s = (refS ⟨#[114, 101, 99, 111, 114, 100]⟩ (chk x).2.2 s4, Rc.zero)) := hide (by rw [HR.out, refS, if_neg hc]; split <;> rfl)
   have hrc : (refS ⟨#[114, 101, 99, 111, 114, 100]⟩ (chk x).2.2 s4).c ≠ 0 := by
    unfold refS
    split
    ·exact hc
    ·assumption
   have HRF := hide (fun W (h : RdG W p v s4) => refuse_gs p v s4 ⟨#[114, 101, 99, 111, 114, 100]⟩ (chk x).2.2 W hc h)
   generalize refS ⟨#[114, 101, 99, 111, 114, 100]⟩ (chk x).2.2 s4 = s5 at *
   generalize chk x = TT at *
   have HOF := hide (fun W (h : Hnd W) => of_ev (some ([(TT.1, TT.2.1)], TT.2.2)) W h)
   rw [show ofV (some ([(TT.1, TT.2.1)], TT.2.2)) = TT.2.2 from rfl] at HOF
   change Hid (∀ W, Hnd W → Calls Tryz.prog 31 #[ft TT.1 TT.2.1 TT.2.2] W fun e w' => e = .returned (.int .i64 TT.2.2) ∧ Below W.heap.size W w') at HOF
   unfold ft at HOF HCK
   go_upto_region 11 with (first | (refine wpList_load_mid rfl _ _ rfl _ _ rfl _ _ HRG3.out Tryz.underlying45 rfl (by kernel_rfl) ?_) | (go_at_call 107; refine HCK.out.mono ?_; rintro e w5 ⟨rfl, hb5⟩) | (go_at_call 31; refine (HOF.out _ (HG3.out.below hb5)).mono ?_; rintro e w6 ⟨rfl, hb6⟩) | (go_at_call 55; refine (HRF.out _ ((HRD3.out.below hb5).below hb6)).mono ?_; rintro e w7 ⟨rfl, hr7, hb7⟩))
   have hB := (Bx.of (p := p) hb5).trans ((Bx.of hb6).trans hb7)
   have hX2' : w2.heap.size < W2.heap.size := cell_block (HRG3.out 0 _ rfl)
   have HRD := hide hr7
   have HBX := hide (HBX3.out.trans hB)
   have HTH := hide (there_bx HTH3.out hB (by omega))
   have HE := hide (err_any p v _ _ w7 HRD.out)
   rw [show erN s5.op s5.pt s5.c = ft s5.op s5.pt s5.c from if_neg hrc] at HE
   unfold ft at HE
   have HRX := HR2
   clear HRD3 HBX3 HTH3 HRG3 HW3 hb5 hb6 hr7 hb7 hB HR HR2 HCK HOF HRF
   go_wp2_with (first | (go_at_call 84; refine HE.out.mono ?_; rintro e w9 ⟨rfl, hw9⟩; rw [hw9]; clear hw9 w9) | (refine wpList_store_mid rfl _ _ _ rfl w.heap.size 0 (cellsR Rc.zero none none none none 0 0 0 0).toArray rfl rfl HTH.out (by kernel_rfl) (cellsR_one _ _ _ _ _ _ _ _ _) ?_))
   have hRp : w.heap.size ≠ p := by omega
   exact bodyPost_ret (v := .agg (cellsR Rc.zero none none none none 0 0 0 0).toArray) (results_mid Tryz.results83 _ _ w.heap.size _ _ rfl (World.rangeAt_setCells_same _ _ _ _ HTH.out) Tryz.underlying45 rfl (by kernel_rfl)) rfl ⟨_, rfl, by rw [HRX.out]; exact (isR_zero _ _), by rw [HRX.out]; exact rdG_many hRp _ _ HRD.out, Bx.many (Nat.le_refl _) _ _ HBX.out⟩
 ·rw [show knd k = false from decide_eq_false hk] at HS
  have HR := hide (read_kind HQ.out hk)
  have HRX := HR
  go_enter Tryz.func83, Tryz.ntmps83
  go_upto_region 1 with fail
  generalize w.alloc (.cells #[.int .i64 0, .int .i64 0, .int .i64 0, .int .i64 0, .int .i64 0, .int .i64 0, .int .i64 0, .int .i64 0, .int .i64 0, .bool false, .string ⟨#[]⟩, .string ⟨#[]⟩, .string ⟨#[]⟩, .string ⟨#[]⟩, .slice none 0 0, .slice none 0 0, .slice none 0 0, .slice none 0 0] 45) = X0 at HTH HG HC HB0 ⊢
  go_wp2_with (first | (go_at_call 50; refine HC.out.mono ?_; rintro e w1 ⟨rfl, hr1, hb1⟩; replace HTH := hide (there_bx HTH.out hb1 (by omega)); replace HB0 := hide (HB0.out.trans hb1); have HC2 := hide (refuse_gs p v s1 ⟨#[107, 105, 110, 100]⟩ 5 w1 (by decide) hr1); clear hr1 hb1) | (go_at_call 112; refine (HS.out _).mono ?_; rintro e w9 ⟨rfl, hw9⟩; rw [hw9]; clear hw9 w9) | (go_at_call 55; refine HC2.out.mono ?_; rintro e w2 ⟨rfl, hr2, hb2⟩; replace HTH := hide (there_bx HTH.out hb2 (by omega)); have HBX := hide (HB0.out.trans hb2); have HRD := hide hr2; clear hr2 hb2) | (refine wpList_store_mid rfl _ _ _ rfl w.heap.size 0 (cellsR Rc.zero none none none none 0 0 0 0).toArray rfl rfl HTH.out (by kernel_rfl) (cellsR_one _ _ _ _ _ _ _ _ _) ?_))
  have hRp : w.heap.size ≠ p := by omega
  exact bodyPost_ret (v := .agg (cellsR Rc.zero none none none none 0 0 0 0).toArray) (results_mid Tryz.results83 _ _ w.heap.size _ _ rfl (World.rangeAt_setCells_same _ _ _ _ HTH.out) Tryz.underlying45 rfl (by kernel_rfl)) rfl ⟨_, rfl, by rw [HRX.out]; exact (isR_zero _ _), by rw [HRX.out]; exact rdG_many hRp _ _ HRD.out, Bx.many (Nat.le_refl _) _ _ HBX.out⟩
end Go.Proofs.YtjjpfajbljbelaaGreatDoor
