/-
  A RECORD AS BYTES, OR WHAT IS WRONG WITH IT (record.Put): what the document says. Conditions: its rows' cells hold them, texts of no more than a thousand letters; the bytes that are ahead are nil or a row of their own, the record's rows lie ahead of it.
  A RECORD AS BYTES, behind any others (record.Put, of a record that may be).
  WHAT IS READ OF A RECORD BEHIND ITS KIND (record.fields). Conditions: the bytes' cells hold them, each is a byte, no more than ten thousand, they don't lie in the reader, and the reader is within them.
-/
import Derived.Test.YtgbcjmpnkejpeaaGreatDoorJRecChc
import Derived.Test.YtgbcjmpnkejpeaaGreatDoorJWrowda3
import Derived.Test.YtgbcjmpnkejpeaaGreatDoorJWputca3
namespace Go.Proofs.YtgbcjmpnkejpeaaGreatDoor
open Go.RowKit

/-- The slice v is nil, or the head of a row of its own, with the bytes l. -/
def Ow (B : Nat) (W : World) (v : Value) (l : List Int) : Prop := ∃ cur, Rw B W v l.length cur ∧ cur.take l.length = bv l
theorem Ow.below {B : Nat} {W W' : World} {v : Value} {l : List Int} (h : Ow B W v l) (hb : Below W.heap.size W W') : Ow B W' v l := by
  obtain ⟨cur, h1, h2⟩ := h
  exact ⟨cur, h1.below hb, h2⟩
theorem Ow.put {B : Nat} {W W' : World} {v v' : Value} {l news : List Int} {cur cur' : List Value} {m : Nat} (h2 : cur.take l.length = bv l) (hp : Put B W v l.length cur W' v' m cur' (bv news)) : Ow B W' v' (l ++ news) := by
  have hm : m = news.length := by rw [← hp.len]; simp [bv]
  subst hm
  refine ⟨cur', ?_, ?_⟩
  · rw [List.length_append]; exact hp.rw
  · rw [List.length_append, hp.tk, h2]; simp [bv]
theorem Ow.owns {B : Nat} {W' : World} {v' : Value} {l news : List Int} {cur : List Value} {n : Nat} (hn : n = l.length + news.length) (h2 : cur.take l.length = bv l) (hp : W'.ownsRow B 5 1 v' n (cur.take l.length ++ bv news)) : Ow B W' v' (l ++ news) := by
  subst hn
  obtain ⟨cur', h1, h3⟩ := Rw.of hp
  exact ⟨cur', by rw [List.length_append]; exact h1, by rw [List.length_append, h3, h2]; simp [bv]⟩
theorem Ow.sl {B : Nat} {W : World} {v : Value} {l : List Int} (h : Ow B W v l) : Sl bc W v l := by
  obtain ⟨cur, h1, h2⟩ := h
  have := h1.owns
  rw [h2] at this
  exact sl_of_owns (base := B) (e := 5) (by simpa [bv_eq] using this)
theorem ow_nil (B : Nat) (W : World) : Ow B W (.slice none 0 0) [] := ⟨[], rw_nil B W, rfl⟩
/-- What has turned: the row, and new memory. -/
structure Gw (B : Nat) (w W : World) (u v : Value) : Prop where
  below : Below B w W
  grown : w.grownBy W u.ownBlock
  blk : v.ownBlock = u.ownBlock ∨ ∀ g, v.ownBlock = some g → w.heap.size ≤ g
theorem Gw.refl (B : Nat) (w : World) (u : Value) : Gw B w w u u := ⟨Below.refl _ _, ⟨rfl, rfl, rfl, Nat.le_refl _, fun _ _ _ => rfl⟩, .inl rfl⟩
theorem Gw.trans {B : Nat} {w w1 w2 : World} {u v v2 : Value} (h : Gw B w w1 u v) (k : Gw B w1 w2 v v2) : Gw B w w2 u v2 := by
  refine ⟨h.below.trans k.below, ⟨k.grown.os.trans h.grown.os, k.grown.tape.trans h.grown.tape, k.grown.output.trans h.grown.output, Nat.le_trans h.grown.size k.grown.size, fun i hi hp => ?_⟩, ?_⟩
  · refine (k.grown.block i (Nat.lt_of_lt_of_le hi h.grown.size) ?_).trans (h.grown.block i hi hp)
    rcases h.blk with q | q
    · rw [q]; exact hp
    · intro e
      have := q i e.symm
      omega
  · rcases k.blk with q | q
    · rw [q]; exact h.blk
    · exact .inr fun g hg => Nat.le_trans h.grown.size (q g hg)
theorem Gw.of {B : Nat} {w W : World} (u : Value) (h : Below w.heap.size w W) (hB : B ≤ w.heap.size) : Gw B w W u u :=
  ⟨h.mono hB, ⟨h.os, h.tape, h.output, h.size, fun k hk _ => h.block k hk⟩, .inl rfl⟩
theorem Gw.put {B : Nat} {W W' : World} {v v' : Value} {n m : Nat} {cur cur' news : List Value} (hp : Put B W v n cur W' v' m cur' news) : Gw B W W' v v' := ⟨hp.below, hp.grown, hp.blk⟩
theorem Gw.cell {B : Nat} {w W : World} {u v : Value} (h : Gw B w W u v) {b : Nat} (hb : b < w.heap.size) (hn : u.ownBlock ≠ some b) (i : Nat) : W.cell? ⟨b, i, none⟩ = w.cell? ⟨b, i, none⟩ :=
  World.cell?_of_block (h.grown.block b hb (fun e => hn e.symm))
theorem Gw.range {B : Nat} {w W : World} {u v : Value} {p : Nat} {x : Value} {xs : List Value} (h : Gw B w W u v) (hr : w.rangeAt p 0 (x :: xs)) (hn : u.ownBlock ≠ some p) : W.rangeAt p 0 (x :: xs) := fun j y hy =>
  (h.cell (cell_block (hr 0 _ rfl) : p < w.heap.size) hn (0 + j)).trans (hr j y hy)
theorem encs_take {α : Type} (en : α → List Int) (hs : List Bool) (xs : List α) (j : Nat) (hj : j < hs.length) (hl : hs.length = xs.length) : encs en (hs.take (j + 1)) (xs.take (j + 1)) = encs en (hs.take j) (xs.take j) ++ (if hs[j] then en (xs[j]'(by omega)) else []) := by
  rw [List.take_succ_eq_append_getElem hj, List.take_succ_eq_append_getElem (show j < xs.length by omega)]
  exact encs_snoc en _ _ _ _ (by simp [hl])
set_option maxRecDepth 100000 in
set_option maxHeartbeats 4000000 in
theorem cput_bad {ok : Nat → Prop} (r : Rc) (v b : Value) (w : World) (hv : IsR ok w v r) (ht : TxR r) (hc : (chk r).2.2 ≠ 0) :
    Calls Tryz.prog 39 #[b, v] w fun e w' => e = .returned (.tuple #[.slice none 0 0, ft (chk r).1 (chk r).2.1 (chk r).2.2]) ∧ Below w.heap.size w w' := by
  have HC := hide (fun W (h : Below w.heap.size w W) => ccheck_any r v W (hv.below h) ht)
  rw [show erN (chk r).1 (chk r).2.1 (chk r).2.2 = ft (chk r).1 (chk r).2.1 (chk r).2.2 from if_neg hc] at HC
  obtain ⟨a14, a15, a16, a17, c14, c15, c16, c17, rfl, _⟩ := hv
  generalize chk r = T at *
  clear hc ht
  unfold cellsR at HC ⊢
  generalize r.k = k at *
  generalize r.br = br at *
  generalize r.ep = ep at *
  generalize r.tp = tp at *
  generalize r.pa = pa at *
  generalize r.le = le at *
  generalize r.cl = cl at *
  generalize r.se = se at *
  generalize r.co = co at *
  generalize r.fl = fl at *
  generalize r.nm = nm at *
  generalize r.ky = ky at *
  generalize r.va = va at *
  generalize r.rk = rk at *
  generalize r.ids.length = n14 at *
  generalize r.isr.length = n15 at *
  generalize r.ad.length = n16 at *
  generalize r.dr.length = n17 at *
  unfold ft at *
  have HQ : Hid ((w.alloc (.cells #[.int .i64 k, .int .i64 br, .int .i64 ep, .int .i64 tp, .int .i64 pa, .int .i64 le, .int .i64 cl, .int .i64 se, .int .i64 co, .bool fl, .string ⟨nm.toArray⟩, .string ⟨ky.toArray⟩, .string ⟨va.toArray⟩, .string ⟨rk.toArray⟩, .slice a14 n14 c14, .slice a15 n15 c15, .slice a16 n16 c16, .slice a17 n17 c17] 35)).rangeAt w.heap.size 0 [.int .i64 k, .int .i64 br, .int .i64 ep, .int .i64 tp, .int .i64 pa, .int .i64 le, .int .i64 cl, .int .i64 se, .int .i64 co, .bool fl, .string ⟨nm.toArray⟩, .string ⟨ky.toArray⟩, .string ⟨va.toArray⟩, .string ⟨rk.toArray⟩, .slice a14 n14 c14, .slice a15 n15 c15, .slice a16 n16 c16, .slice a17 n17 c17]) := hide (range_new w _ _)
  have HB : Hid (Below w.heap.size w (w.alloc (.cells #[.int .i64 k, .int .i64 br, .int .i64 ep, .int .i64 tp, .int .i64 pa, .int .i64 le, .int .i64 cl, .int .i64 se, .int .i64 co, .bool fl, .string ⟨nm.toArray⟩, .string ⟨ky.toArray⟩, .string ⟨va.toArray⟩, .string ⟨rk.toArray⟩, .slice a14 n14 c14, .slice a15 n15 c15, .slice a16 n16 c16, .slice a17 n17 c17] 35))) := hide ((Below.refl _ _).alloc (Nat.le_refl _) _)
  go_enter Tryz.func39, Tryz.ntmps39
  go_upto_region 1 with fail
  generalize w.alloc (.cells #[.int .i64 k, .int .i64 br, .int .i64 ep, .int .i64 tp, .int .i64 pa, .int .i64 le, .int .i64 cl, .int .i64 se, .int .i64 co, .bool fl, .string ⟨nm.toArray⟩, .string ⟨ky.toArray⟩, .string ⟨va.toArray⟩, .string ⟨rk.toArray⟩, .slice a14 n14 c14, .slice a15 n15 c15, .slice a16 n16 c16, .slice a17 n17 c17] 35) = X at HQ HB ⊢
  go_wp2_with (first | (refine wpList_load_mid rfl _ _ rfl _ _ rfl _ _ HQ.out Tryz.underlying35 rfl (by kernel_rfl) ?_) | (go_at_call 40; refine (HC.out _ HB.out).mono ?_; rintro e Y ⟨rfl, hY⟩))
  exact bodyPost_ret (v := .tuple #[.slice none 0 0, .iface 148 (.agg #[.string T.1, .int .i64 T.2.1, .iface 27 (.int .i64 T.2.2)])]) (by simp [results, Tryz.results39, go_sem]) rfl ⟨rfl, HB.out.trans (hY.mono HB.out.size)⟩
end Go.Proofs.YtgbcjmpnkejpeaaGreatDoor
namespace Go.Proofs.YtgbcjmpnkejpeaaGreatDoor
open Go.RowKit

theorem idx8 (p j : Nat) (hj : j < 8) (W : World) : (Instr.index 114 (.agg #[.pointer (some ⟨p, 1, none⟩), .pointer (some ⟨p, 2, none⟩), .pointer (some ⟨p, 3, none⟩), .pointer (some ⟨p, 4, none⟩), .pointer (some ⟨p, 5, none⟩), .pointer (some ⟨p, 6, none⟩), .pointer (some ⟨p, 7, none⟩), .pointer (some ⟨p, 8, none⟩)]) (.int .i64 (j : Int))).run Tryz.prog W = .ok (.pointer (some ⟨p, j + 1, none⟩)) W := by
  have e0 : (Instr.index 114 (.agg #[.pointer (some ⟨p, 1, none⟩), .pointer (some ⟨p, 2, none⟩), .pointer (some ⟨p, 3, none⟩), .pointer (some ⟨p, 4, none⟩), .pointer (some ⟨p, 5, none⟩), .pointer (some ⟨p, 6, none⟩), .pointer (some ⟨p, 7, none⟩), .pointer (some ⟨p, 8, none⟩)]) (.int .i64 0)).run Tryz.prog W = .ok (.pointer (some ⟨p, 1, none⟩)) W := by kernel_rfl
  have e1 : (Instr.index 114 (.agg #[.pointer (some ⟨p, 1, none⟩), .pointer (some ⟨p, 2, none⟩), .pointer (some ⟨p, 3, none⟩), .pointer (some ⟨p, 4, none⟩), .pointer (some ⟨p, 5, none⟩), .pointer (some ⟨p, 6, none⟩), .pointer (some ⟨p, 7, none⟩), .pointer (some ⟨p, 8, none⟩)]) (.int .i64 1)).run Tryz.prog W = .ok (.pointer (some ⟨p, 2, none⟩)) W := by kernel_rfl
  have e2 : (Instr.index 114 (.agg #[.pointer (some ⟨p, 1, none⟩), .pointer (some ⟨p, 2, none⟩), .pointer (some ⟨p, 3, none⟩), .pointer (some ⟨p, 4, none⟩), .pointer (some ⟨p, 5, none⟩), .pointer (some ⟨p, 6, none⟩), .pointer (some ⟨p, 7, none⟩), .pointer (some ⟨p, 8, none⟩)]) (.int .i64 2)).run Tryz.prog W = .ok (.pointer (some ⟨p, 3, none⟩)) W := by kernel_rfl
  have e3 : (Instr.index 114 (.agg #[.pointer (some ⟨p, 1, none⟩), .pointer (some ⟨p, 2, none⟩), .pointer (some ⟨p, 3, none⟩), .pointer (some ⟨p, 4, none⟩), .pointer (some ⟨p, 5, none⟩), .pointer (some ⟨p, 6, none⟩), .pointer (some ⟨p, 7, none⟩), .pointer (some ⟨p, 8, none⟩)]) (.int .i64 3)).run Tryz.prog W = .ok (.pointer (some ⟨p, 4, none⟩)) W := by kernel_rfl
  have e4 : (Instr.index 114 (.agg #[.pointer (some ⟨p, 1, none⟩), .pointer (some ⟨p, 2, none⟩), .pointer (some ⟨p, 3, none⟩), .pointer (some ⟨p, 4, none⟩), .pointer (some ⟨p, 5, none⟩), .pointer (some ⟨p, 6, none⟩), .pointer (some ⟨p, 7, none⟩), .pointer (some ⟨p, 8, none⟩)]) (.int .i64 4)).run Tryz.prog W = .ok (.pointer (some ⟨p, 5, none⟩)) W := by kernel_rfl
  have e5 : (Instr.index 114 (.agg #[.pointer (some ⟨p, 1, none⟩), .pointer (some ⟨p, 2, none⟩), .pointer (some ⟨p, 3, none⟩), .pointer (some ⟨p, 4, none⟩), .pointer (some ⟨p, 5, none⟩), .pointer (some ⟨p, 6, none⟩), .pointer (some ⟨p, 7, none⟩), .pointer (some ⟨p, 8, none⟩)]) (.int .i64 5)).run Tryz.prog W = .ok (.pointer (some ⟨p, 6, none⟩)) W := by kernel_rfl
  have e6 : (Instr.index 114 (.agg #[.pointer (some ⟨p, 1, none⟩), .pointer (some ⟨p, 2, none⟩), .pointer (some ⟨p, 3, none⟩), .pointer (some ⟨p, 4, none⟩), .pointer (some ⟨p, 5, none⟩), .pointer (some ⟨p, 6, none⟩), .pointer (some ⟨p, 7, none⟩), .pointer (some ⟨p, 8, none⟩)]) (.int .i64 6)).run Tryz.prog W = .ok (.pointer (some ⟨p, 7, none⟩)) W := by kernel_rfl
  have e7 : (Instr.index 114 (.agg #[.pointer (some ⟨p, 1, none⟩), .pointer (some ⟨p, 2, none⟩), .pointer (some ⟨p, 3, none⟩), .pointer (some ⟨p, 4, none⟩), .pointer (some ⟨p, 5, none⟩), .pointer (some ⟨p, 6, none⟩), .pointer (some ⟨p, 7, none⟩), .pointer (some ⟨p, 8, none⟩)]) (.int .i64 7)).run Tryz.prog W = .ok (.pointer (some ⟨p, 8, none⟩)) W := by kernel_rfl
  have hc : j = 0 ∨ j = 1 ∨ j = 2 ∨ j = 3 ∨ j = 4 ∨ j = 5 ∨ j = 6 ∨ j = 7 := by omega
  rcases hc with rfl | rfl | rfl | rfl | rfl | rfl | rfl | rfl
  · exact (by simpa using e0)
  · exact (by simpa using e1)
  · exact (by simpa using e2)
  · exact (by simpa using e3)
  · exact (by simpa using e4)
  · exact (by simpa using e5)
  · exact (by simpa using e6)
  · exact (by simpa using e7)
theorem idxT (p j : Nat) (hj : j < 4) (W : World) : (Instr.index 119 (.agg #[.pointer (some ⟨p, 10, none⟩), .pointer (some ⟨p, 11, none⟩), .pointer (some ⟨p, 12, none⟩), .pointer (some ⟨p, 13, none⟩)]) (.int .i64 (j : Int))).run Tryz.prog W = .ok (.pointer (some ⟨p, j + 10, none⟩)) W := by
  have e0 : (Instr.index 119 (.agg #[.pointer (some ⟨p, 10, none⟩), .pointer (some ⟨p, 11, none⟩), .pointer (some ⟨p, 12, none⟩), .pointer (some ⟨p, 13, none⟩)]) (.int .i64 0)).run Tryz.prog W = .ok (.pointer (some ⟨p, 10, none⟩)) W := by kernel_rfl
  have e1 : (Instr.index 119 (.agg #[.pointer (some ⟨p, 10, none⟩), .pointer (some ⟨p, 11, none⟩), .pointer (some ⟨p, 12, none⟩), .pointer (some ⟨p, 13, none⟩)]) (.int .i64 1)).run Tryz.prog W = .ok (.pointer (some ⟨p, 11, none⟩)) W := by kernel_rfl
  have e2 : (Instr.index 119 (.agg #[.pointer (some ⟨p, 10, none⟩), .pointer (some ⟨p, 11, none⟩), .pointer (some ⟨p, 12, none⟩), .pointer (some ⟨p, 13, none⟩)]) (.int .i64 2)).run Tryz.prog W = .ok (.pointer (some ⟨p, 12, none⟩)) W := by kernel_rfl
  have e3 : (Instr.index 119 (.agg #[.pointer (some ⟨p, 10, none⟩), .pointer (some ⟨p, 11, none⟩), .pointer (some ⟨p, 12, none⟩), .pointer (some ⟨p, 13, none⟩)]) (.int .i64 3)).run Tryz.prog W = .ok (.pointer (some ⟨p, 13, none⟩)) W := by kernel_rfl
  have hc : j = 0 ∨ j = 1 ∨ j = 2 ∨ j = 3 := by omega
  rcases hc with rfl | rfl | rfl | rfl
  · exact (by simpa using e0)
  · exact (by simpa using e1)
  · exact (by simpa using e2)
  · exact (by simpa using e3)
theorem idxR (p j : Nat) (hj : j < 4) (W : World) : (Instr.index 123 (.agg #[.pointer (some ⟨p, 14, none⟩), .pointer (some ⟨p, 15, none⟩), .pointer (some ⟨p, 16, none⟩), .pointer (some ⟨p, 17, none⟩)]) (.int .i64 (j : Int))).run Tryz.prog W = .ok (.pointer (some ⟨p, j + 14, none⟩)) W := by
  have e0 : (Instr.index 123 (.agg #[.pointer (some ⟨p, 14, none⟩), .pointer (some ⟨p, 15, none⟩), .pointer (some ⟨p, 16, none⟩), .pointer (some ⟨p, 17, none⟩)]) (.int .i64 0)).run Tryz.prog W = .ok (.pointer (some ⟨p, 14, none⟩)) W := by kernel_rfl
  have e1 : (Instr.index 123 (.agg #[.pointer (some ⟨p, 14, none⟩), .pointer (some ⟨p, 15, none⟩), .pointer (some ⟨p, 16, none⟩), .pointer (some ⟨p, 17, none⟩)]) (.int .i64 1)).run Tryz.prog W = .ok (.pointer (some ⟨p, 15, none⟩)) W := by kernel_rfl
  have e2 : (Instr.index 123 (.agg #[.pointer (some ⟨p, 14, none⟩), .pointer (some ⟨p, 15, none⟩), .pointer (some ⟨p, 16, none⟩), .pointer (some ⟨p, 17, none⟩)]) (.int .i64 2)).run Tryz.prog W = .ok (.pointer (some ⟨p, 16, none⟩)) W := by kernel_rfl
  have e3 : (Instr.index 123 (.agg #[.pointer (some ⟨p, 14, none⟩), .pointer (some ⟨p, 15, none⟩), .pointer (some ⟨p, 16, none⟩), .pointer (some ⟨p, 17, none⟩)]) (.int .i64 3)).run Tryz.prog W = .ok (.pointer (some ⟨p, 17, none⟩)) W := by kernel_rfl
  have hc : j = 0 ∨ j = 1 ∨ j = 2 ∨ j = 3 := by omega
  rcases hc with rfl | rfl | rfl | rfl
  · exact (by simpa using e0)
  · exact (by simpa using e1)
  · exact (by simpa using e2)
  · exact (by simpa using e3)
theorem cell8 {W : World} {p : Nat} {x0 x9 x10 x11 x12 x13 x14 x15 x16 x17 : Value} {n1 n2 n3 n4 n5 n6 n7 n8 : Int} (h : W.rangeAt p 0 [x0, .int .i64 n1, .int .i64 n2, .int .i64 n3, .int .i64 n4, .int .i64 n5, .int .i64 n6, .int .i64 n7, .int .i64 n8, x9, x10, x11, x12, x13, x14, x15, x16, x17]) (j : Nat) (hj : j < 8) : W.cell? ⟨p, j + 1, none⟩ = some (.int .i64 ([n1, n2, n3, n4, n5, n6, n7, n8].getD j 0)) := by
  match j, hj with
  | 0, _ => exact (by simpa using h 1 _ rfl)
  | 1, _ => exact (by simpa using h 2 _ rfl)
  | 2, _ => exact (by simpa using h 3 _ rfl)
  | 3, _ => exact (by simpa using h 4 _ rfl)
  | 4, _ => exact (by simpa using h 5 _ rfl)
  | 5, _ => exact (by simpa using h 6 _ rfl)
  | 6, _ => exact (by simpa using h 7 _ rfl)
  | 7, _ => exact (by simpa using h 8 _ rfl)
  | n + 8, h => exact absurd h (by omega)
theorem cellT {W : World} {p : Nat} {x0 x1 x2 x3 x4 x5 x6 x7 x8 x9 x14 x15 x16 x17 : Value} {n1 n2 n3 n4 : List UInt8} (h : W.rangeAt p 0 [x0, x1, x2, x3, x4, x5, x6, x7, x8, x9, .string ⟨n1.toArray⟩, .string ⟨n2.toArray⟩, .string ⟨n3.toArray⟩, .string ⟨n4.toArray⟩, x14, x15, x16, x17]) (j : Nat) (hj : j < 4) : W.cell? ⟨p, j + 10, none⟩ = some (.string ⟨([n1, n2, n3, n4].getD j []).toArray⟩) := by
  match j, hj with
  | 0, _ => exact (by simpa using h 10 _ rfl)
  | 1, _ => exact (by simpa using h 11 _ rfl)
  | 2, _ => exact (by simpa using h 12 _ rfl)
  | 3, _ => exact (by simpa using h 13 _ rfl)
  | n + 4, h => exact absurd h (by omega)
theorem cellW {W : World} {p : Nat} {x0 x1 x2 x3 x4 x5 x6 x7 x8 x9 x10 x11 x12 x13 x14 x15 x16 x17 : Value} (h : W.rangeAt p 0 [x0, x1, x2, x3, x4, x5, x6, x7, x8, x9, x10, x11, x12, x13, x14, x15, x16, x17]) (j : Nat) (hj : j < 4) : W.cell? ⟨p, j + 14, none⟩ = some ([x14, x15, x16, x17].getD j (.slice none 0 0)) := by
  match j, hj with
  | 0, _ => exact (by simpa using h 14 _ rfl)
  | 1, _ => exact (by simpa using h 15 _ rfl)
  | 2, _ => exact (by simpa using h 16 _ rfl)
  | 3, _ => exact (by simpa using h 17 _ rfl)
  | n + 4, h => exact absurd h (by omega)
theorem bit8 {k : Int} (hk : 1 ≤ k ∧ k ≤ 12) (j : Nat) (hj : j < 8) : bitB (sbj k) (2 ^ j % 4294967296) = (hN k).getD j false := by
  have q := bit_has hk
  match j, hj with
  | 0, _ => exact q.1
  | 1, _ => exact q.2.1
  | 2, _ => exact q.2.2.1
  | 3, _ => exact q.2.2.2.1
  | 4, _ => exact q.2.2.2.2.1
  | 5, _ => exact q.2.2.2.2.2.1
  | 6, _ => exact q.2.2.2.2.2.2.1
  | 7, _ => exact q.2.2.2.2.2.2.2.1
  | n + 8, h => exact absurd h (by omega)
theorem bitT {k : Int} (hk : 1 ≤ k ∧ k ≤ 12) (j : Nat) (hj : j < 4) : bitB (sbj k) (512 * 2 ^ j % 4294967296) = (hT k).getD j false := by
  have q := bit_has hk
  match j, hj with
  | 0, _ => exact q.2.2.2.2.2.2.2.2.2.1
  | 1, _ => exact q.2.2.2.2.2.2.2.2.2.2.1
  | 2, _ => exact q.2.2.2.2.2.2.2.2.2.2.2.1
  | 3, _ => exact q.2.2.2.2.2.2.2.2.2.2.2.2.1
  | n + 4, h => exact absurd h (by omega)
theorem bitR {k : Int} (hk : 1 ≤ k ∧ k ≤ 12) (j : Nat) (hj : j < 4) : bitB (sbj k) (8192 * 2 ^ j % 4294967296) = (hR k).getD j false := by
  have q := bit_has hk
  match j, hj with
  | 0, _ => exact q.2.2.2.2.2.2.2.2.2.2.2.2.2.1
  | 1, _ => exact q.2.2.2.2.2.2.2.2.2.2.2.2.2.2.1
  | 2, _ => exact q.2.2.2.2.2.2.2.2.2.2.2.2.2.2.2.1
  | 3, _ => exact q.2.2.2.2.2.2.2.2.2.2.2.2.2.2.2.2
  | n + 4, h => exact absurd h (by omega)
theorem encs_le {α : Type} (en : α → List Int) (c : Nat) : ∀ (hs : List Bool) (xs : List α), (∀ x ∈ xs, (en x).length ≤ c) → (encs en hs xs).length ≤ c * xs.length
  | [], xs, _ => by simp [encs]
  | h :: hs, [], _ => by simp [encs]
  | h :: hs, x :: xs, hx => by
    have h1 := encs_le en c hs xs (fun y hy => hx y (List.mem_cons_of_mem _ hy))
    have h2 := hx x (List.mem_cons_self ..)
    have h3 : (if h then en x else []).length ≤ c := by cases h <;> simp <;> omega
    show ((if h then en x else []) ++ encs en hs xs).length ≤ c * (xs.length + 1)
    rw [List.length_append, Nat.mul_add]
    omega
theorem ow_lt {B : Nat} {W : World} {v : Value} {l : List Int} (h : Ow B W v l) {g : Nat} (hg : v.ownBlock = some g) : g < W.heap.size ∧ B ≤ g := by
  obtain ⟨cur, h1, _⟩ := h
  rcases h1.2.2 with ⟨rfl, _⟩ | ⟨g', rfl, h2, h3⟩
  · cases hg
  · have e : g' = g := Option.some.inj hg
    have := (Array.getElem?_eq_some_iff.1 h3).1
    omega
theorem Ow.text {B : Nat} {W' : World} {v' : Value} {l news : List Int} {cur : List Value} (hn : ∃ n, n = l.length + news.length ∧ W'.ownsRow B 5 1 v' n (cur.take l.length ++ bv news)) (h2 : cur.take l.length = bv l) : Ow B W' v' (l ++ news) := by
  obtain ⟨n, h, hp⟩ := hn
  exact Ow.owns h h2 hp
theorem sli_off {B : Nat} {W : World} {U v : Value} {R : List Int} (h : Sli (fun b => b < B) W U R) (hv : ∀ g, v.ownBlock = some g → g < W.heap.size ∧ B ≤ g) : 0 < R.length → ∀ b o k c, U = .slice (some ⟨b, o, none⟩) k c → v.ownBlock ≠ some b := by
  intro hp b o k c e q
  have := (hv b q).2
  rcases h with ⟨_, _, h2, _⟩ | ⟨b', o', c', h3, _, h4, _⟩
  · rw [h2] at hp; simp at hp
  · rw [e] at h3; cases h3
    omega
theorem getD_mem {α : Type} (l : List α) (d : α) (j n : Nat) (hl : l.length = n) (hj : j < n) : l.getD j d ∈ l := by
  rw [show l.getD j d = l[j]'(by omega) by simp [List.getD, hl, hj]]
  exact List.getElem_mem _
theorem sb_sl {W : World} {b cap : Nat} {S : List UInt8} (hc : S.length ≤ cap) (h : ∀ i (h : i < S.length), W.cell? ⟨b, 0 + i, none⟩ = some (uc S[i])) : Sl bc W (.slice (some ⟨b, 0, none⟩) S.length cap) (sb S) :=
  .inr ⟨b, 0, cap, by rw [sb_len], by rw [sb_len]; exact hc, fun i hi => by
    rw [h i (by rwa [sb_len] at hi)]
    simp [sb, bc, uc]⟩
set_option maxRecDepth 100000 in
set_option maxHeartbeats 16000000 in
theorem cput_go (B : Nat) (u : Value) (l0 : List Int) (k br ep tp pa le cl se co : Int) (fl : Bool) (nm ky va rk : List UInt8) (a14 a15 a16 a17 : Option Addr) (c14 c15 c16 c17 : Nat) (ids isr ad dr : List Int) (w : World) (ns : List Int) (ts : List (List UInt8)) (rs : List (List Int)) (us : List Value) (h8 hf ht hr : List Bool)
    (hu : Ow B w u l0) (hl0 : l0.length ≤ 700000) (hB : B ≤ w.heap.size) (hk1 : 1 ≤ k) (hk2 : k ≤ 12) (HNS : Hid (ns = [br, ep, tp, pa, le, cl, se, co])) (HTS : Hid (ts = [nm, ky, va, rk])) (HUS : Hid (us = [.slice a14 ids.length c14, .slice a15 isr.length c15, .slice a16 ad.length c16, .slice a17 dr.length c17])) (HH8 : Hid (h8 = hN k)) (HHF : Hid (hf = hF k)) (HHT : Hid (ht = hT k)) (HHR : Hid (hr = hR k))
    (HNB : Hid (∀ j, j < 8 → ns.getD j 0 ≤ 9223372036854775807)) (HTB : Hid (∀ x ∈ ts, x.length ≤ 1000)) (hrl : rs.length = 4) (HRB : Hid (∀ j, j < 4 → Sli (fun b => b < B) w (us.getD j (.slice none 0 0)) (rs.getD j []))) (HRI : Hid (∀ x ∈ rs, x.length ≤ 1000 ∧ ∀ y ∈ x, y ≤ 9223372036854775807))
    (HC : Hid (∀ W, Below w.heap.size w W → Calls Tryz.prog 40 #[.agg #[.int .i64 k, .int .i64 br, .int .i64 ep, .int .i64 tp, .int .i64 pa, .int .i64 le, .int .i64 cl, .int .i64 se, .int .i64 co, .bool fl, .string ⟨nm.toArray⟩, .string ⟨ky.toArray⟩, .string ⟨va.toArray⟩, .string ⟨rk.toArray⟩, .slice a14 ids.length c14, .slice a15 isr.length c15, .slice a16 ad.length c16, .slice a17 dr.length c17]] W fun e w' => e = .returned .nilIface ∧ Below W.heap.size W w')) :
    Calls Tryz.prog 39 #[u, .agg #[.int .i64 k, .int .i64 br, .int .i64 ep, .int .i64 tp, .int .i64 pa, .int .i64 le, .int .i64 cl, .int .i64 se, .int .i64 co, .bool fl, .string ⟨nm.toArray⟩, .string ⟨ky.toArray⟩, .string ⟨va.toArray⟩, .string ⟨rk.toArray⟩, .slice a14 ids.length c14, .slice a15 isr.length c15, .slice a16 ad.length c16, .slice a17 dr.length c17]] w fun e w' => ∃ v', e = .returned (.tuple #[v', .nilIface]) ∧ Ow B w' v' (l0 ++ ([k] ++ (encs intL h8 ns ++ (encs (fun f => [flB f]) hf [fl] ++ (encs enT ht ts ++ encs enR hr rs))))) ∧ Gw B w w' u v' := by
  have hub : u.ownBlock ≠ some w.heap.size := fun e => by have := (ow_lt hu e).1; omega
  have HK := hide (And.intro hk1 hk2)
  have HS := hide (fun W => subj_any k W)
  have HQ : Hid ((w.alloc (.cells #[.int .i64 k, .int .i64 br, .int .i64 ep, .int .i64 tp, .int .i64 pa, .int .i64 le, .int .i64 cl, .int .i64 se, .int .i64 co, .bool fl, .string ⟨nm.toArray⟩, .string ⟨ky.toArray⟩, .string ⟨va.toArray⟩, .string ⟨rk.toArray⟩, .slice a14 ids.length c14, .slice a15 isr.length c15, .slice a16 ad.length c16, .slice a17 dr.length c17] 35)).rangeAt w.heap.size 0 [.int .i64 k, .int .i64 br, .int .i64 ep, .int .i64 tp, .int .i64 pa, .int .i64 le, .int .i64 cl, .int .i64 se, .int .i64 co, .bool fl, .string ⟨nm.toArray⟩, .string ⟨ky.toArray⟩, .string ⟨va.toArray⟩, .string ⟨rk.toArray⟩, .slice a14 ids.length c14, .slice a15 isr.length c15, .slice a16 ad.length c16, .slice a17 dr.length c17]) := hide (range_new w _ _)
  have HB : Hid (Below w.heap.size w (w.alloc (.cells #[.int .i64 k, .int .i64 br, .int .i64 ep, .int .i64 tp, .int .i64 pa, .int .i64 le, .int .i64 cl, .int .i64 se, .int .i64 co, .bool fl, .string ⟨nm.toArray⟩, .string ⟨ky.toArray⟩, .string ⟨va.toArray⟩, .string ⟨rk.toArray⟩, .slice a14 ids.length c14, .slice a15 isr.length c15, .slice a16 ad.length c16, .slice a17 dr.length c17] 35))) := hide ((Below.refl _ _).alloc (Nat.le_refl _) _)
  have HZ : Hid (w.heap.size < (w.alloc (.cells #[.int .i64 k, .int .i64 br, .int .i64 ep, .int .i64 tp, .int .i64 pa, .int .i64 le, .int .i64 cl, .int .i64 se, .int .i64 co, .bool fl, .string ⟨nm.toArray⟩, .string ⟨ky.toArray⟩, .string ⟨va.toArray⟩, .string ⟨rk.toArray⟩, .slice a14 ids.length c14, .slice a15 isr.length c15, .slice a16 ad.length c16, .slice a17 dr.length c17] 35)).heap.size) := hide (by simp)
  go_enter Tryz.func39, Tryz.ntmps39
  go_upto_region 1 with fail
  generalize w.alloc (.cells #[.int .i64 k, .int .i64 br, .int .i64 ep, .int .i64 tp, .int .i64 pa, .int .i64 le, .int .i64 cl, .int .i64 se, .int .i64 co, .bool fl, .string ⟨nm.toArray⟩, .string ⟨ky.toArray⟩, .string ⟨va.toArray⟩, .string ⟨rk.toArray⟩, .slice a14 ids.length c14, .slice a15 isr.length c15, .slice a16 ad.length c16, .slice a17 dr.length c17] 35) = X at HQ HB HZ ⊢
  go_upto_region 4 with (first | (refine wpList_load_mid rfl _ _ rfl _ _ rfl _ _ HQ.out Tryz.underlying35 rfl (by kernel_rfl) ?_) | (go_at_call 40; refine (HC.out _ HB.out).mono ?_; rintro e Y ⟨rfl, hY⟩))
  replace HQ := hide (range_below HQ.out hY)
  replace HB := hide (HB.out.trans (hY.mono HB.out.size))
  replace HZ := hide (Nat.lt_of_lt_of_le HZ.out hY.size)
  clear hY
  clear X
  have g0 := (C18.of HQ.out).c0
  obtain ⟨cur, hrw, htk⟩ := id (hu.below HB.out)
  have HRW := hide hrw
  have HTK := hide htk
  have hBY : B ≤ Y.heap.size := Nat.le_trans hB HB.out.size
  clear hrw htk
  have hkw : IntKind.u8.wrap k = k := by rw [IntKind.wrap_u8]; omega
  go_upto_region 6 with (first | (go_at_call 47; refine (HS.out _).mono ?_; rintro e w1 ⟨rfl, hw1⟩; rw [hw1]; clear hw1 w1) | (at_builtin; refine wpList_append_rw _ rfl _ _ rfl B _ l0.length cur rfl (HRW.out.below ((Below.refl _ _).alloc (Nat.le_refl _) _)) (by simp; omega) _ 1 1 (bv [k]) rfl rfl (by omega) (cells_at _ _ _) (one_bytes _) (by omega) ?_; intro w1 v1 cur1 hp1))
  have HG := hide ((Gw.of u HB.out hB).trans (Gw.put (hp1.pre (w := Y) hBY ((Below.refl _ _).alloc (Nat.le_refl _) _))))
  have hgY : Gw B Y w1 u v1 := Gw.put (hp1.pre (w := Y) hBY ((Below.refl _ _).alloc (Nat.le_refl _) _))
  have HO := hide (Ow.put HTK.out hp1)
  replace HQ := hide (hgY.range HQ.out hub)
  have HVB : Hid (v1.ownBlock ≠ some w.heap.size) := hide (fun e => by
    rcases hgY.blk with q | q
    · rw [q] at e; exact hub e
    · have h1 := q _ e
      have := HZ.out
      omega)
  replace HZ := hide (Nat.lt_of_lt_of_le HZ.out hgY.grown.size)
  have hB1 : B ≤ w1.heap.size := Nat.le_trans hBY hgY.grown.size
  obtain ⟨lb, hlb⟩ : ∃ lb, lb = l0 ++ [k] := ⟨_, rfl⟩
  rw [← hlb] at HO
  have HL0 := hide hlb
  have hll : lb.length ≤ 700001 := by rw [hlb]; simp; omega
  clear hp1 hgY HRW HTK g0 cur hlb
  clear HB hBY HC HS hu hkw cur1
  have HLH : Hid (h8.length = 8) := hide (by rw [HH8.out]; rfl)
  have HLX : Hid (ns.length = 8) := hide (by rw [HNS.out]; rfl)
  have HHH := HH8
  have HXL : Hid (∀ {j : Nat}, ∀ x ∈ ns.take j, (intL x).length ≤ 8) := hide (fun x _ => intL_le x)
  have HXF : Hid (∀ x ∈ ns, (intL x).length ≤ 8) := hide (fun x _ => intL_le x)
  go_upto_region 7 with (first | (go_at_call 70; refine (numbers_pts _ _).mono ?_; rintro e w2 ⟨rfl, hY⟩; unfold pts8))
  replace HQ := hide (range_below HQ.out hY)
  replace HG := hide (HG.out.trans (Gw.of v1 hY hB1))
  replace HO := hide (HO.out.below hY)
  replace HZ := hide (Nat.lt_of_lt_of_le HZ.out hY.size)
  replace hB1 := Nat.le_trans hB1 hY.size
  clear hY
  have hvb : v1.ownBlock ≠ some w.heap.size := HVB.out
  go_loopw [0, 33] (fun b i wr => ∃ (j : Nat), j ≤ 8 ∧ i = .int .i64 (j : Int) ∧ Hid (Ow B wr b (lb ++ encs intL (h8.take j) (ns.take j))) ∧ Hid (Gw B w2 wr v1 b)) (fun _ i _ => 8 - (intOf i).toNat)
  case atStart => exact ⟨0, Nat.zero_le _, rfl, hide (by simpa [encs] using HO.out), hide (Gw.refl _ _ _)⟩
  case round =>
    obtain ⟨j, hj, rfl, HOj, HGj⟩ := hrel
    by_cases hlt : j < 8
    · have hltI : (j : Int) < 8 := by omega
      have hix := idx8 w.heap.size j hlt
      have hcj := cell8 (HGj.out.range HQ.out HVB.out) j hlt
      rw [← HNS.out] at hcj
      have hxb := HNB.out j hlt
      have hBr : B ≤ wr.heap.size := Nat.le_trans hB1 HGj.out.grown.size
      have HH := hide (fun W => bhas_any (sbj k) (2 ^ j % 4294967296) W)
      rw [bit8 HK.out j hlt] at HH
      have hen : (lb ++ encs intL (h8.take j) (ns.take j)).length ≤ 700100 := by
        have := encs_le intL 8 (h8.take j) (ns.take j) HXL.out
        rw [List.length_append]
        have h4 : (ns.take j).length ≤ 8 := by rw [List.length_take]; omega
        have := Nat.mul_le_mul_left 8 h4
        omega
      have HE : Hid (encs intL (h8.take (j + 1)) (ns.take (j + 1)) = encs intL (h8.take j) (ns.take j) ++ (if h8.getD j false then intL (ns.getD j 0) else [])) := hide (by rw [encs_take intL h8 ns j (by rw [HLH.out]; omega) (by rw [HLH.out, HLX.out])]; simp [List.getD, HLH.out, HLX.out, hlt])
      rw [← HHH.out] at HH
      generalize ns.getD j 0 = x at *
      generalize h8.getD j false = hb at *
      obtain ⟨cur, hrw, htk⟩ := id HOj.out
      have HRW := hide hrw
      have HTK := hide htk
      clear hrw htk
      have hbl := fun g (hg : u0.ownBlock = some g) => ow_lt HOj.out hg
      have HBL := hide hbl
      clear hbl
      cases hb with
      | true =>
        go_wp2_with (first | (go_at_call 71; refine (HH.out _).mono ?_; rintro e w1 ⟨rfl, hw1⟩; rw [hw1]; clear hw1 w1) | (go_at_call 67; refine (wint_any B _ _ cur _ _ HRW.out hBr (by omega) hxb).mono ?_; rintro e w5 ⟨v5, cur5, rfl, hp⟩))
        have HO5 := hide (Ow.put HTK.out hp)
        have HG5 := hide (HGj.out.trans (Gw.put hp))
        clear hp
        go_roundw
        case rel => exact ⟨j + 1, by omega, by go_num, hide (by have e := HE.out; simp only [↓reduceIte] at e; rw [e, ← List.append_assoc]; exact HO5.out), HG5⟩
        case measure => simp [intOf]; omega
      | false =>
        go_wp2_with (first | (go_at_call 71; refine (HH.out _).mono ?_; rintro e w1 ⟨rfl, hw1⟩; rw [hw1]; clear hw1 w1))
        go_roundw
        case rel => exact ⟨j + 1, by omega, by go_num, hide (by rw [HE.out]; simpa using HOj.out), HGj⟩
        case measure => simp [intOf]; omega
    · obtain rfl : j = 8 := by omega
      clear hlt hj
      have HO2 : Hid (Ow B wr u0 (lb ++ encs intL h8 ns)) := hide (by have := HOj.out; rwa [List.take_of_length_le (by rw [HLH.out]; omega), List.take_of_length_le (by rw [HLX.out]; omega)] at this)
      have HG2 := hide (HG.out.trans HGj.out)
      have HVB2 : Hid (u0.ownBlock ≠ some w.heap.size) := hide (fun e => by rcases HGj.out.blk with q | q; (rw [q] at e; exact HVB.out e); (have := q _ e; have := HZ.out; omega))
      have HQ2 := hide (HGj.out.range HQ.out HVB.out)
      have HZ2 := hide (Nat.lt_of_lt_of_le HZ.out HGj.out.grown.size)
      have hB2 : B ≤ wr.heap.size := Nat.le_trans hB1 HGj.out.grown.size
      have hl2 : (lb ++ encs intL h8 ns).length ≤ 700100 := by
        have := encs_le intL 8 h8 ns HXF.out
        rw [HLX.out] at this
        rw [List.length_append]
        omega
      obtain ⟨lb1, hlb⟩ : ∃ x, x = lb ++ encs intL h8 ns := ⟨_, rfl⟩
      rw [← hlb] at HO2 hl2
      have HLB1 := hide hlb
      clear HOj HGj HO HG HVB hvb HQ HZ hB1 hll hlb
      obtain ⟨wa1, rfl⟩ : ∃ x : World, x = wr := ⟨_, rfl⟩
      obtain ⟨va1, rfl⟩ : ∃ x : Value, x = u0 := ⟨_, rfl⟩
      have HO := HO2
      have HG := HG2
      have HVB := HVB2
      have HQ := HQ2
      have HZ := HZ2
      have hB1 := hB2
      have hll := hl2
      clear HO2 HG2 HVB2 HQ2 HZ2 hB2 hl2
      have HFB := hide (fun W => bhas_any (sbj k) 256 W)
      rw [(bit_has HK.out).2.2.2.2.2.2.2.2.1] at HFB
      have HFE : Hid (hf = [hasL k 102]) := hide HHF.out
      generalize hasL k 102 = hb at *
      cases hb with
      | true =>
        obtain ⟨cur, hrw, htk⟩ := id HO.out
        have HRW := hide hrw
        have HTK := hide htk
        clear hrw htk
        have g9 := (C18.of HQ.out).c9
        go_upto_region 14 with (first | (go_at_call 71; refine (HFB.out _).mono ?_; rintro e w1 ⟨rfl, hw1⟩; rw [hw1]; clear hw1 w1) | (go_at_call 72; refine (wflag_any B _ _ cur _ _ HRW.out hB1 (by omega)).mono ?_; rintro e w5 ⟨v5, cur5, rfl, hp⟩))
        have HGp := hide (Gw.put hp)
        have HO2 := hide (Ow.put (news := [flB fl]) HTK.out hp)
        have HG2 := hide (HG.out.trans HGp.out)
        have HVB2 : Hid (v5.ownBlock ≠ some w.heap.size) := hide (fun e => by rcases HGp.out.blk with q | q; (rw [q] at e; exact HVB.out e); (have := q _ e; have := HZ.out; omega))
        have HQ2 := hide (HGp.out.range HQ.out HVB.out)
        have HZ2 := hide (Nat.lt_of_lt_of_le HZ.out HGp.out.grown.size)
        have hB2 : B ≤ w5.heap.size := Nat.le_trans hB1 HGp.out.grown.size
        have hl2 : (lb1 ++ [flB fl]).length ≤ 700101 := by rw [List.length_append]; simp; omega
        obtain ⟨lb2, hlb⟩ : ∃ x, x = lb1 ++ [flB fl] := ⟨_, rfl⟩
        rw [← hlb] at HO2 hl2
        have HLB2 : Hid (lb2 = lb1 ++ encs (fun f => [flB f]) hf [fl]) := hide (by rw [hlb, HFE.out]; rfl)
        clear hp HGp HRW HTK g9 cur cur5 HO HG HVB HQ HZ hB1 hll hlb
        obtain ⟨wa2, rfl⟩ : ∃ x : World, x = w5 := ⟨_, rfl⟩
        obtain ⟨va2, rfl⟩ : ∃ x : Value, x = v5 := ⟨_, rfl⟩
        have HO := HO2
        have HG := HG2
        have HVB := HVB2
        have HQ := HQ2
        have HZ := HZ2
        have hB1 := hB2
        have hll := hl2
        clear HO2 HG2 HVB2 HQ2 HZ2 hB2 hl2
        clear HLH HLX HHH HXF HXL
        have HLH : Hid (ht.length = 4) := hide (by rw [HHT.out]; rfl)
        have HLX : Hid (ts.length = 4) := hide (by rw [HTS.out]; rfl)
        have HHH := HHT
        have HXF : Hid (∀ x ∈ ts, (enT x).length ≤ 1008) := hide (fun x hx => by unfold enT; rw [List.length_append, sb_len]; have h1 := intL_le x.length; have h3 := HTB.out x hx; omega)
        have HXL : Hid (∀ {j : Nat}, ∀ x ∈ ts.take j, (enT x).length ≤ 1008) := hide (fun x hx => HXF.out x (List.mem_of_mem_take hx))
        go_upto_region 15 with (first | (go_at_call 73; refine (texts_any _ _).mono ?_; rintro e w6 ⟨rfl, hY⟩; unfold ptsT))
        replace HQ := hide (range_below HQ.out hY)
        replace HG := hide (HG.out.trans (Gw.of va2 hY hB1))
        replace HO := hide (HO.out.below hY)
        replace HZ := hide (Nat.lt_of_lt_of_le HZ.out hY.size)
        replace hB1 := Nat.le_trans hB1 hY.size
        clear hY
        have hvb : va2.ownBlock ≠ some w.heap.size := HVB.out
        go_loopw [0, 54] (fun b i wr => ∃ (j : Nat), j ≤ 4 ∧ i = .int .i64 (j : Int) ∧ Hid (Ow B wr b (lb2 ++ encs enT (ht.take j) (ts.take j))) ∧ Hid (Gw B w6 wr va2 b)) (fun _ i _ => 4 - (intOf i).toNat)
        case atStart => exact ⟨0, Nat.zero_le _, rfl, hide (by simpa [encs] using HO.out), hide (Gw.refl _ _ _)⟩
        case round =>
          obtain ⟨j, hj, rfl, HOj, HGj⟩ := hrel
          by_cases hlt : j < 4
          · have hltI : (j : Int) < 4 := by omega
            have hix := idxT w.heap.size j hlt
            have hcj := cellT (HGj.out.range HQ.out HVB.out) j hlt
            rw [← HTS.out] at hcj
            have hSl := HTB.out _ (getD_mem ts [] j 4 HLX.out hlt)
            have hBr : B ≤ wr.heap.size := Nat.le_trans hB1 HGj.out.grown.size
            have HH := hide (fun W => bhas_any (sbj k) (512 * 2 ^ j % 4294967296) W)
            rw [bitT HK.out j hlt] at HH
            have hen : (lb2 ++ encs enT (ht.take j) (ts.take j)).length ≤ 705000 := by
              have := encs_le enT 1008 (ht.take j) (ts.take j) HXL.out
              rw [List.length_append]
              have h4 : (ts.take j).length ≤ 4 := by rw [List.length_take]; omega
              have := Nat.mul_le_mul_left 1008 h4
              omega
            have HE : Hid (encs enT (ht.take (j + 1)) (ts.take (j + 1)) = encs enT (ht.take j) (ts.take j) ++ (if ht.getD j false then enT (ts.getD j []) else [])) := hide (by rw [encs_take enT ht ts j (by rw [HLH.out]; omega) (by rw [HLH.out, HLX.out])]; simp [List.getD, HLH.out, HLX.out, hlt])
            rw [← HHH.out] at HH
            generalize ts.getD j [] = S at *
            generalize ht.getD j false = hb at *
            obtain ⟨cur, hrw, htk⟩ := id HOj.out
            have HRW := hide hrw
            have HTK := hide htk
            clear hrw htk
            have hbl := fun g (hg : u0.ownBlock = some g) => ow_lt HOj.out hg
            have HBL := hide hbl
            clear hbl
            cases hb with
            | true =>
              obtain ⟨cap, w4, hcv, hcell, hb4, hsz4, hcp⟩ := bytes_of S wr
              have HSL := hide (sb_sl hcp hcell)
              have HB4 := hide hb4
              have HOFF : Hid (0 < (sb S).length → ∀ b o k c, Value.slice (some ⟨wr.heap.size, 0, none⟩) S.length cap = .slice (some ⟨b, o, none⟩) k c → u0.ownBlock ≠ some b) := hide (fun _ b o k c e q => by cases e; have := (HBL.out _ q).1; omega)
              have hsb : (sb S).length ≤ 4000 := by rw [sb_len]; omega
              have hB4 : B ≤ w4.heap.size := by omega
              clear hcell hb4
              go_wp2_with (first | (go_at_call 71; refine (HH.out _).mono ?_; rintro e w1 ⟨rfl, hw1⟩; rw [hw1]; clear hw1 w1) | (go_at_call 74; refine (wtext_anyg B _ _ _ cur (sb S) _ (HRW.out.below HB4.out) hB4 (by omega) hsb HSL.out HOFF.out).mono ?_; rintro e w5 ⟨v5, rfl, hown, hbl5, hgr5, hbk5⟩))
              have HO5 := hide (Ow.owns (by rw [List.length_append]) HTK.out hown)
              have HG5 := hide (HGj.out.trans ((Gw.of u0 HB4.out hBr).trans ⟨hbl5, hgr5, hbk5⟩))
              clear hown hbl5 hgr5 hbk5
              go_roundw
              case rel => exact ⟨j + 1, by omega, by go_num, hide (by have e := HE.out; simp only [↓reduceIte] at e; rw [e, ← List.append_assoc]; have h5 := HO5.out; rw [sb_len] at h5; exact h5), HG5⟩
              case measure => simp [intOf]; omega
            | false =>
              go_wp2_with (first | (go_at_call 71; refine (HH.out _).mono ?_; rintro e w1 ⟨rfl, hw1⟩; rw [hw1]; clear hw1 w1))
              go_roundw
              case rel => exact ⟨j + 1, by omega, by go_num, hide (by rw [HE.out]; simpa using HOj.out), HGj⟩
              case measure => simp [intOf]; omega
          · obtain rfl : j = 4 := by omega
            clear hlt hj
            have HO2 : Hid (Ow B wr u0 (lb2 ++ encs enT ht ts)) := hide (by have := HOj.out; rwa [List.take_of_length_le (by rw [HLH.out]; omega), List.take_of_length_le (by rw [HLX.out]; omega)] at this)
            have HG2 := hide (HG.out.trans HGj.out)
            have HVB2 : Hid (u0.ownBlock ≠ some w.heap.size) := hide (fun e => by rcases HGj.out.blk with q | q; (rw [q] at e; exact HVB.out e); (have := q _ e; have := HZ.out; omega))
            have HQ2 := hide (HGj.out.range HQ.out HVB.out)
            have HZ2 := hide (Nat.lt_of_lt_of_le HZ.out HGj.out.grown.size)
            have hB2 : B ≤ wr.heap.size := Nat.le_trans hB1 HGj.out.grown.size
            have hl2 : (lb2 ++ encs enT ht ts).length ≤ 705000 := by
              have := encs_le enT 1008 ht ts HXF.out
              rw [HLX.out] at this
              rw [List.length_append]
              omega
            obtain ⟨lb3, hlb⟩ : ∃ x, x = lb2 ++ encs enT ht ts := ⟨_, rfl⟩
            rw [← hlb] at HO2 hl2
            have HLB3 := hide hlb
            clear HOj HGj HO HG HVB hvb HQ HZ hB1 hll hlb
            obtain ⟨wa3, rfl⟩ : ∃ x : World, x = wr := ⟨_, rfl⟩
            obtain ⟨va3, rfl⟩ : ∃ x : Value, x = u0 := ⟨_, rfl⟩
            have HO := HO2
            have HG := HG2
            have HVB := HVB2
            have HQ := HQ2
            have HZ := HZ2
            have hB1 := hB2
            have hll := hl2
            clear HO2 HG2 HVB2 HQ2 HZ2 hB2 hl2
            clear HLH HLX HHH HXF HXL
            have HLH : Hid (hr.length = 4) := hide (by rw [HHR.out]; rfl)
            have HLX : Hid (rs.length = 4) := hide hrl
            have HHH := HHR
            have HXF : Hid (∀ x ∈ rs, (enR x).length ≤ 8008) := hide (fun x hx => by unfold enR; rw [List.length_append]; have h1 := intL_le x.length; have h2 := rowL_le x; have h3 := (HRI.out x hx).1; omega)
            have HXL : Hid (∀ {j : Nat}, ∀ x ∈ rs.take j, (enR x).length ≤ 8008) := hide (fun x hx => HXF.out x (List.mem_of_mem_take hx))
            go_upto_region 21 with (first | (go_at_call 75; refine (rows_any _ _).mono ?_; rintro e w7 ⟨rfl, hY⟩; unfold ptsR))
            replace HQ := hide (range_below HQ.out hY)
            replace HG := hide (HG.out.trans (Gw.of va3 hY hB1))
            replace HO := hide (HO.out.below hY)
            replace HZ := hide (Nat.lt_of_lt_of_le HZ.out hY.size)
            replace hB1 := Nat.le_trans hB1 hY.size
            clear hY
            have hvb : va3.ownBlock ≠ some w.heap.size := HVB.out
            go_loopw [0, 70] (fun b i wr => ∃ (j : Nat), j ≤ 4 ∧ i = .int .i64 (j : Int) ∧ Hid (Ow B wr b (lb3 ++ encs enR (hr.take j) (rs.take j))) ∧ Hid (Gw B w7 wr va3 b)) (fun _ i _ => 4 - (intOf i).toNat)
            case atStart => exact ⟨0, Nat.zero_le _, rfl, hide (by simpa [encs] using HO.out), hide (Gw.refl _ _ _)⟩
            case round =>
              obtain ⟨j, hj, rfl, HOj, HGj⟩ := hrel
              by_cases hlt : j < 4
              · have hltI : (j : Int) < 4 := by omega
                have hix := idxR w.heap.size j hlt
                have hcj := cellW (HGj.out.range HQ.out HVB.out) j hlt
                rw [← HUS.out] at hcj
                have HSLR := hide ((HRB.out j hlt).imp (ok' := fun b => b < B) (W' := wr) (fun _ _ q => q) (fun b i _ ok => ((HG.out.trans HGj.out).below.cell (p := ⟨b, i, none⟩) ok)))
                have hRl := HRI.out _ (getD_mem rs [] j 4 HLX.out hlt)
                have hRl1 := hRl.1
                have HI64 := hide (fun i (h : i < (rs.getD j []).length) => hRl.2 _ (List.getElem_mem h))
                clear hRl
                have hBr : B ≤ wr.heap.size := Nat.le_trans hB1 HGj.out.grown.size
                have HH := hide (fun W => bhas_any (sbj k) (8192 * 2 ^ j % 4294967296) W)
                rw [bitR HK.out j hlt] at HH
                have hen : (lb3 ++ encs enR (hr.take j) (rs.take j)).length ≤ 738000 := by
                  have := encs_le enR 8008 (hr.take j) (rs.take j) HXL.out
                  rw [List.length_append]
                  have h4 : (rs.take j).length ≤ 4 := by rw [List.length_take]; omega
                  have := Nat.mul_le_mul_left 8008 h4
                  omega
                have HE : Hid (encs enR (hr.take (j + 1)) (rs.take (j + 1)) = encs enR (hr.take j) (rs.take j) ++ (if hr.getD j false then enR (rs.getD j []) else [])) := hide (by rw [encs_take enR hr rs j (by rw [HLH.out]; omega) (by rw [HLH.out, HLX.out])]; simp [List.getD, HLH.out, HLX.out, hlt])
                rw [← HHH.out] at HH
                generalize rs.getD j [] = R at *
                generalize us.getD j (.slice none 0 0) = U at *
                generalize hr.getD j false = hb at *
                obtain ⟨cur, hrw, htk⟩ := id HOj.out
                have HRW := hide hrw
                have HTK := hide htk
                clear hrw htk
                have hbl := fun g (hg : u0.ownBlock = some g) => ow_lt HOj.out hg
                have HBL := hide hbl
                clear hbl
                cases hb with
                | true =>
                  go_wp2_with (first | (go_at_call 71; refine (HH.out _).mono ?_; rintro e w1 ⟨rfl, hw1⟩; rw [hw1]; clear hw1 w1) | (go_at_call 76; refine (wrow_any B _ _ _ cur R _ HRW.out hBr (by omega) (by omega) HI64.out HSLR.out.sl (sli_off HSLR.out HBL.out)).mono ?_; rintro e w5 ⟨v5, cur5, rfl, hp⟩))
                  have HO5 := hide (Ow.put HTK.out hp)
                  have HG5 := hide (HGj.out.trans (Gw.put hp))
                  clear hp
                  go_roundw
                  case rel => exact ⟨j + 1, by omega, by go_num, hide (by have e := HE.out; simp only [↓reduceIte] at e; rw [e, ← List.append_assoc]; exact HO5.out), HG5⟩
                  case measure => simp [intOf]; omega
                | false =>
                  go_wp2_with (first | (go_at_call 71; refine (HH.out _).mono ?_; rintro e w1 ⟨rfl, hw1⟩; rw [hw1]; clear hw1 w1))
                  go_roundw
                  case rel => exact ⟨j + 1, by omega, by go_num, hide (by rw [HE.out]; simpa using HOj.out), HGj⟩
                  case measure => simp [intOf]; omega
              · obtain rfl : j = 4 := by omega
                clear hlt hj
                have HO2 : Hid (Ow B wr u0 (lb3 ++ encs enR hr rs)) := hide (by have := HOj.out; rwa [List.take_of_length_le (by rw [HLH.out]; omega), List.take_of_length_le (by rw [HLX.out]; omega)] at this)
                have HG2 := hide (HG.out.trans HGj.out)
                have HVB2 : Hid (u0.ownBlock ≠ some w.heap.size) := hide (fun e => by rcases HGj.out.blk with q | q; (rw [q] at e; exact HVB.out e); (have := q _ e; have := HZ.out; omega))
                have HQ2 := hide (HGj.out.range HQ.out HVB.out)
                have HZ2 := hide (Nat.lt_of_lt_of_le HZ.out HGj.out.grown.size)
                have hB2 : B ≤ wr.heap.size := Nat.le_trans hB1 HGj.out.grown.size
                have hl2 : (lb3 ++ encs enR hr rs).length ≤ 738000 := by
                  have := encs_le enR 8008 hr rs HXF.out
                  rw [HLX.out] at this
                  rw [List.length_append]
                  omega
                obtain ⟨lb4, hlb⟩ : ∃ x, x = lb3 ++ encs enR hr rs := ⟨_, rfl⟩
                rw [← hlb] at HO2 hl2
                have HLB4 := hide hlb
                clear HOj HGj HO HG HVB hvb HQ HZ hB1 hll hlb
                go_wp2_with fail
                exact bodyPost_ret (v := .tuple #[u0, .nilIface]) (by simp [results, Tryz.results39, go_sem]) rfl ⟨u0, rfl, by have h9 := HO2.out; rw [HLB4.out, HLB3.out, HLB2.out, HLB1.out, HL0.out] at h9; simp only [List.append_assoc] at h9; exact h9, HG2.out⟩
      | false =>
        go_upto_region 14 with (first | (go_at_call 71; refine (HFB.out _).mono ?_; rintro e w1 ⟨rfl, hw1⟩; rw [hw1]; clear hw1 w1))
        have HO2 := HO
        have HG2 := HG
        have HVB2 := HVB
        have HQ2 := HQ
        have HZ2 := HZ
        have hB2 := hB1
        have hl2 : lb1.length ≤ 700101 := by omega
        obtain ⟨lb2, hlb⟩ : ∃ x, x = lb1 := ⟨_, rfl⟩
        rw [← hlb] at HO2 hl2
        have HLB2 : Hid (lb2 = lb1 ++ encs (fun f => [flB f]) hf [fl]) := hide (by rw [hlb, HFE.out]; simp [encs])
        clear HO HG HVB HQ HZ hB1 hll hlb
        obtain ⟨wa2, rfl⟩ : ∃ x : World, x = wa1 := ⟨_, rfl⟩
        obtain ⟨va2, rfl⟩ : ∃ x : Value, x = va1 := ⟨_, rfl⟩
        have HO := HO2
        have HG := HG2
        have HVB := HVB2
        have HQ := HQ2
        have HZ := HZ2
        have hB1 := hB2
        have hll := hl2
        clear HO2 HG2 HVB2 HQ2 HZ2 hB2 hl2
        clear HLH HLX HHH HXF HXL
        have HLH : Hid (ht.length = 4) := hide (by rw [HHT.out]; rfl)
        have HLX : Hid (ts.length = 4) := hide (by rw [HTS.out]; rfl)
        have HHH := HHT
        have HXF : Hid (∀ x ∈ ts, (enT x).length ≤ 1008) := hide (fun x hx => by unfold enT; rw [List.length_append, sb_len]; have h1 := intL_le x.length; have h3 := HTB.out x hx; omega)
        have HXL : Hid (∀ {j : Nat}, ∀ x ∈ ts.take j, (enT x).length ≤ 1008) := hide (fun x hx => HXF.out x (List.mem_of_mem_take hx))
        go_upto_region 15 with (first | (go_at_call 73; refine (texts_any _ _).mono ?_; rintro e w6 ⟨rfl, hY⟩; unfold ptsT))
        replace HQ := hide (range_below HQ.out hY)
        replace HG := hide (HG.out.trans (Gw.of va2 hY hB1))
        replace HO := hide (HO.out.below hY)
        replace HZ := hide (Nat.lt_of_lt_of_le HZ.out hY.size)
        replace hB1 := Nat.le_trans hB1 hY.size
        clear hY
        have hvb : va2.ownBlock ≠ some w.heap.size := HVB.out
        go_loopw [0, 54] (fun b i wr => ∃ (j : Nat), j ≤ 4 ∧ i = .int .i64 (j : Int) ∧ Hid (Ow B wr b (lb2 ++ encs enT (ht.take j) (ts.take j))) ∧ Hid (Gw B w6 wr va2 b)) (fun _ i _ => 4 - (intOf i).toNat)
        case atStart => exact ⟨0, Nat.zero_le _, rfl, hide (by simpa [encs] using HO.out), hide (Gw.refl _ _ _)⟩
        case round =>
          obtain ⟨j, hj, rfl, HOj, HGj⟩ := hrel
          by_cases hlt : j < 4
          · have hltI : (j : Int) < 4 := by omega
            have hix := idxT w.heap.size j hlt
            have hcj := cellT (HGj.out.range HQ.out HVB.out) j hlt
            rw [← HTS.out] at hcj
            have hSl := HTB.out _ (getD_mem ts [] j 4 HLX.out hlt)
            have hBr : B ≤ wr.heap.size := Nat.le_trans hB1 HGj.out.grown.size
            have HH := hide (fun W => bhas_any (sbj k) (512 * 2 ^ j % 4294967296) W)
            rw [bitT HK.out j hlt] at HH
            have hen : (lb2 ++ encs enT (ht.take j) (ts.take j)).length ≤ 705000 := by
              have := encs_le enT 1008 (ht.take j) (ts.take j) HXL.out
              rw [List.length_append]
              have h4 : (ts.take j).length ≤ 4 := by rw [List.length_take]; omega
              have := Nat.mul_le_mul_left 1008 h4
              omega
            have HE : Hid (encs enT (ht.take (j + 1)) (ts.take (j + 1)) = encs enT (ht.take j) (ts.take j) ++ (if ht.getD j false then enT (ts.getD j []) else [])) := hide (by rw [encs_take enT ht ts j (by rw [HLH.out]; omega) (by rw [HLH.out, HLX.out])]; simp [List.getD, HLH.out, HLX.out, hlt])
            rw [← HHH.out] at HH
            generalize ts.getD j [] = S at *
            generalize ht.getD j false = hb at *
            obtain ⟨cur, hrw, htk⟩ := id HOj.out
            have HRW := hide hrw
            have HTK := hide htk
            clear hrw htk
            have hbl := fun g (hg : u0.ownBlock = some g) => ow_lt HOj.out hg
            have HBL := hide hbl
            clear hbl
            cases hb with
            | true =>
              obtain ⟨cap, w4, hcv, hcell, hb4, hsz4, hcp⟩ := bytes_of S wr
              have HSL := hide (sb_sl hcp hcell)
              have HB4 := hide hb4
              have HOFF : Hid (0 < (sb S).length → ∀ b o k c, Value.slice (some ⟨wr.heap.size, 0, none⟩) S.length cap = .slice (some ⟨b, o, none⟩) k c → u0.ownBlock ≠ some b) := hide (fun _ b o k c e q => by cases e; have := (HBL.out _ q).1; omega)
              have hsb : (sb S).length ≤ 4000 := by rw [sb_len]; omega
              have hB4 : B ≤ w4.heap.size := by omega
              clear hcell hb4
              go_wp2_with (first | (go_at_call 71; refine (HH.out _).mono ?_; rintro e w1 ⟨rfl, hw1⟩; rw [hw1]; clear hw1 w1) | (go_at_call 74; refine (wtext_anyg B _ _ _ cur (sb S) _ (HRW.out.below HB4.out) hB4 (by omega) hsb HSL.out HOFF.out).mono ?_; rintro e w5 ⟨v5, rfl, hown, hbl5, hgr5, hbk5⟩))
              have HO5 := hide (Ow.owns (by rw [List.length_append]) HTK.out hown)
              have HG5 := hide (HGj.out.trans ((Gw.of u0 HB4.out hBr).trans ⟨hbl5, hgr5, hbk5⟩))
              clear hown hbl5 hgr5 hbk5
              go_roundw
              case rel => exact ⟨j + 1, by omega, by go_num, hide (by have e := HE.out; simp only [↓reduceIte] at e; rw [e, ← List.append_assoc]; have h5 := HO5.out; rw [sb_len] at h5; exact h5), HG5⟩
              case measure => simp [intOf]; omega
            | false =>
              go_wp2_with (first | (go_at_call 71; refine (HH.out _).mono ?_; rintro e w1 ⟨rfl, hw1⟩; rw [hw1]; clear hw1 w1))
              go_roundw
              case rel => exact ⟨j + 1, by omega, by go_num, hide (by rw [HE.out]; simpa using HOj.out), HGj⟩
              case measure => simp [intOf]; omega
          · obtain rfl : j = 4 := by omega
            clear hlt hj
            have HO2 : Hid (Ow B wr u0 (lb2 ++ encs enT ht ts)) := hide (by have := HOj.out; rwa [List.take_of_length_le (by rw [HLH.out]; omega), List.take_of_length_le (by rw [HLX.out]; omega)] at this)
            have HG2 := hide (HG.out.trans HGj.out)
            have HVB2 : Hid (u0.ownBlock ≠ some w.heap.size) := hide (fun e => by rcases HGj.out.blk with q | q; (rw [q] at e; exact HVB.out e); (have := q _ e; have := HZ.out; omega))
            have HQ2 := hide (HGj.out.range HQ.out HVB.out)
            have HZ2 := hide (Nat.lt_of_lt_of_le HZ.out HGj.out.grown.size)
            have hB2 : B ≤ wr.heap.size := Nat.le_trans hB1 HGj.out.grown.size
            have hl2 : (lb2 ++ encs enT ht ts).length ≤ 705000 := by
              have := encs_le enT 1008 ht ts HXF.out
              rw [HLX.out] at this
              rw [List.length_append]
              omega
            obtain ⟨lb3, hlb⟩ : ∃ x, x = lb2 ++ encs enT ht ts := ⟨_, rfl⟩
            rw [← hlb] at HO2 hl2
            have HLB3 := hide hlb
            clear HOj HGj HO HG HVB hvb HQ HZ hB1 hll hlb
            obtain ⟨wa3, rfl⟩ : ∃ x : World, x = wr := ⟨_, rfl⟩
            obtain ⟨va3, rfl⟩ : ∃ x : Value, x = u0 := ⟨_, rfl⟩
            have HO := HO2
            have HG := HG2
            have HVB := HVB2
            have HQ := HQ2
            have HZ := HZ2
            have hB1 := hB2
            have hll := hl2
            clear HO2 HG2 HVB2 HQ2 HZ2 hB2 hl2
            clear HLH HLX HHH HXF HXL
            have HLH : Hid (hr.length = 4) := hide (by rw [HHR.out]; rfl)
            have HLX : Hid (rs.length = 4) := hide hrl
            have HHH := HHR
            have HXF : Hid (∀ x ∈ rs, (enR x).length ≤ 8008) := hide (fun x hx => by unfold enR; rw [List.length_append]; have h1 := intL_le x.length; have h2 := rowL_le x; have h3 := (HRI.out x hx).1; omega)
            have HXL : Hid (∀ {j : Nat}, ∀ x ∈ rs.take j, (enR x).length ≤ 8008) := hide (fun x hx => HXF.out x (List.mem_of_mem_take hx))
            go_upto_region 21 with (first | (go_at_call 75; refine (rows_any _ _).mono ?_; rintro e w7 ⟨rfl, hY⟩; unfold ptsR))
            replace HQ := hide (range_below HQ.out hY)
            replace HG := hide (HG.out.trans (Gw.of va3 hY hB1))
            replace HO := hide (HO.out.below hY)
            replace HZ := hide (Nat.lt_of_lt_of_le HZ.out hY.size)
            replace hB1 := Nat.le_trans hB1 hY.size
            clear hY
            have hvb : va3.ownBlock ≠ some w.heap.size := HVB.out
            go_loopw [0, 70] (fun b i wr => ∃ (j : Nat), j ≤ 4 ∧ i = .int .i64 (j : Int) ∧ Hid (Ow B wr b (lb3 ++ encs enR (hr.take j) (rs.take j))) ∧ Hid (Gw B w7 wr va3 b)) (fun _ i _ => 4 - (intOf i).toNat)
            case atStart => exact ⟨0, Nat.zero_le _, rfl, hide (by simpa [encs] using HO.out), hide (Gw.refl _ _ _)⟩
            case round =>
              obtain ⟨j, hj, rfl, HOj, HGj⟩ := hrel
              by_cases hlt : j < 4
              · have hltI : (j : Int) < 4 := by omega
                have hix := idxR w.heap.size j hlt
                have hcj := cellW (HGj.out.range HQ.out HVB.out) j hlt
                rw [← HUS.out] at hcj
                have HSLR := hide ((HRB.out j hlt).imp (ok' := fun b => b < B) (W' := wr) (fun _ _ q => q) (fun b i _ ok => ((HG.out.trans HGj.out).below.cell (p := ⟨b, i, none⟩) ok)))
                have hRl := HRI.out _ (getD_mem rs [] j 4 HLX.out hlt)
                have hRl1 := hRl.1
                have HI64 := hide (fun i (h : i < (rs.getD j []).length) => hRl.2 _ (List.getElem_mem h))
                clear hRl
                have hBr : B ≤ wr.heap.size := Nat.le_trans hB1 HGj.out.grown.size
                have HH := hide (fun W => bhas_any (sbj k) (8192 * 2 ^ j % 4294967296) W)
                rw [bitR HK.out j hlt] at HH
                have hen : (lb3 ++ encs enR (hr.take j) (rs.take j)).length ≤ 738000 := by
                  have := encs_le enR 8008 (hr.take j) (rs.take j) HXL.out
                  rw [List.length_append]
                  have h4 : (rs.take j).length ≤ 4 := by rw [List.length_take]; omega
                  have := Nat.mul_le_mul_left 8008 h4
                  omega
                have HE : Hid (encs enR (hr.take (j + 1)) (rs.take (j + 1)) = encs enR (hr.take j) (rs.take j) ++ (if hr.getD j false then enR (rs.getD j []) else [])) := hide (by rw [encs_take enR hr rs j (by rw [HLH.out]; omega) (by rw [HLH.out, HLX.out])]; simp [List.getD, HLH.out, HLX.out, hlt])
                rw [← HHH.out] at HH
                generalize rs.getD j [] = R at *
                generalize us.getD j (.slice none 0 0) = U at *
                generalize hr.getD j false = hb at *
                obtain ⟨cur, hrw, htk⟩ := id HOj.out
                have HRW := hide hrw
                have HTK := hide htk
                clear hrw htk
                have hbl := fun g (hg : u0.ownBlock = some g) => ow_lt HOj.out hg
                have HBL := hide hbl
                clear hbl
                cases hb with
                | true =>
                  go_wp2_with (first | (go_at_call 71; refine (HH.out _).mono ?_; rintro e w1 ⟨rfl, hw1⟩; rw [hw1]; clear hw1 w1) | (go_at_call 76; refine (wrow_any B _ _ _ cur R _ HRW.out hBr (by omega) (by omega) HI64.out HSLR.out.sl (sli_off HSLR.out HBL.out)).mono ?_; rintro e w5 ⟨v5, cur5, rfl, hp⟩))
                  have HO5 := hide (Ow.put HTK.out hp)
                  have HG5 := hide (HGj.out.trans (Gw.put hp))
                  clear hp
                  go_roundw
                  case rel => exact ⟨j + 1, by omega, by go_num, hide (by have e := HE.out; simp only [↓reduceIte] at e; rw [e, ← List.append_assoc]; exact HO5.out), HG5⟩
                  case measure => simp [intOf]; omega
                | false =>
                  go_wp2_with (first | (go_at_call 71; refine (HH.out _).mono ?_; rintro e w1 ⟨rfl, hw1⟩; rw [hw1]; clear hw1 w1))
                  go_roundw
                  case rel => exact ⟨j + 1, by omega, by go_num, hide (by rw [HE.out]; simpa using HOj.out), HGj⟩
                  case measure => simp [intOf]; omega
              · obtain rfl : j = 4 := by omega
                clear hlt hj
                have HO2 : Hid (Ow B wr u0 (lb3 ++ encs enR hr rs)) := hide (by have := HOj.out; rwa [List.take_of_length_le (by rw [HLH.out]; omega), List.take_of_length_le (by rw [HLX.out]; omega)] at this)
                have HG2 := hide (HG.out.trans HGj.out)
                have HVB2 : Hid (u0.ownBlock ≠ some w.heap.size) := hide (fun e => by rcases HGj.out.blk with q | q; (rw [q] at e; exact HVB.out e); (have := q _ e; have := HZ.out; omega))
                have HQ2 := hide (HGj.out.range HQ.out HVB.out)
                have HZ2 := hide (Nat.lt_of_lt_of_le HZ.out HGj.out.grown.size)
                have hB2 : B ≤ wr.heap.size := Nat.le_trans hB1 HGj.out.grown.size
                have hl2 : (lb3 ++ encs enR hr rs).length ≤ 738000 := by
                  have := encs_le enR 8008 hr rs HXF.out
                  rw [HLX.out] at this
                  rw [List.length_append]
                  omega
                obtain ⟨lb4, hlb⟩ : ∃ x, x = lb3 ++ encs enR hr rs := ⟨_, rfl⟩
                rw [← hlb] at HO2 hl2
                have HLB4 := hide hlb
                clear HOj HGj HO HG HVB hvb HQ HZ hB1 hll hlb
                go_wp2_with fail
                exact bodyPost_ret (v := .tuple #[u0, .nilIface]) (by simp [results, Tryz.results39, go_sem]) rfl ⟨u0, rfl, by have h9 := HO2.out; rw [HLB4.out, HLB3.out, HLB2.out, HLB1.out, HL0.out] at h9; simp only [List.append_assoc] at h9; exact h9, HG2.out⟩
/-- A record that may be, behind any bytes. -/
theorem cput_ok (B : Nat) (u : Value) (l0 : List Int) (r : Rc) (v : Value) (w : World) (hu : Ow B w u l0) (hl0 : l0.length ≤ 700000) (hB : B ≤ w.heap.size) (hv : IsR (fun b => b < B) w v r) (hc : (chk r).2.2 = 0) :
    Calls Tryz.prog 39 #[u, v] w fun e w' => ∃ v', e = .returned (.tuple #[v', .nilIface]) ∧ Ow B w' v' (l0 ++ putL r) ∧ Gw B w w' u v' := by
  have hi := chk_is hc
  have ho := hi.ok
  have n1 : r.nm.length ≤ 256 := by have := nameA_asks hi.nm; split at this; (exact this); (rw [this]; simp)
  have n2 : r.ky.length ≤ 256 := by have := nameA_asks hi.ky; split at this; (exact this); (rw [this]; simp)
  have n4 : r.rk.length ≤ 256 := by have := nameA_asks hi.rk; split at this; (exact this); (rw [this]; simp)
  have n3 := hi.va
  have hrow : ∀ (l : List Int) (h : Bool), rowB l h = true → l.length ≤ 1000 ∧ ∀ y ∈ l, y ≤ 9223372036854775807 := fun l h e => by
    have := rowB_asks e
    split at this
    · exact ⟨by omega, fun y hy => by have := this.2 y hy; omega⟩
    · rw [this]; exact ⟨by simp, fun y hy => by simp at hy⟩
  have hnum : ∀ (x lo hi : Int) (h : Bool), numB x h lo hi = true → hi ≤ 1073741824 → x ≤ 9223372036854775807 := fun x lo hi h e q => by
    have := numB_asks e
    split at this <;> omega
  have HC := hide (fun W (h : Below w.heap.size w W) => ccheck_any r v W (hv.below h) ⟨by omega, by omega, by omega, by omega⟩)
  rw [show erN (chk r).1 (chk r).2.1 (chk r).2.2 = .nilIface from if_pos hc] at HC
  obtain ⟨a14, a15, a16, a17, c14, c15, c16, c17, rfl, h⟩ := hv
  refine cput_go B u l0 r.k r.br r.ep r.tp r.pa r.le r.cl r.se r.co r.fl r.nm r.ky r.va r.rk a14 a15 a16 a17 c14 c15 c16 c17 r.ids r.isr r.ad r.dr w r.ns r.ts r.rs _ (hN r.k) (hF r.k) (hT r.k) (hR r.k) hu hl0 hB hi.k1 hi.k2 (hide rfl) (hide rfl) (hide rfl) (hide rfl) (hide rfl) (hide rfl) (hide rfl) (hide ?_) (hide ?_) rfl (hide ?_) (hide ?_) HC
  · intro j hj
    match j, hj with
    | 0, _ => exact hnum _ _ _ _ hi.br (by decide)
    | 1, _ => exact hnum _ _ _ _ hi.ep (by decide)
    | 2, _ => exact hnum _ _ _ _ hi.tp (by decide)
    | 3, _ => exact hnum _ _ _ _ hi.pa (by decide)
    | 4, _ => exact hnum _ _ _ _ hi.le (by decide)
    | 5, _ => exact hnum _ _ _ _ hi.cl (by decide)
    | 6, _ => exact hnum _ _ _ _ hi.se (by decide)
    | 7, _ => exact hnum _ _ _ _ hi.co (by decide)
    | n + 8, h => exact absurd h (by omega)
  · intro x hx
    simp only [Rc.ts, List.mem_cons, List.not_mem_nil, or_false] at hx
    rcases hx with rfl | rfl | rfl | rfl <;> omega
  · intro j hj
    match j, hj with
    | 0, _ => exact h.h14
    | 1, _ => exact h.h15
    | 2, _ => exact h.h16
    | 3, _ => exact h.h17
    | n + 4, h => exact absurd h (by omega)
  · intro x hx
    simp only [Rc.rs, List.mem_cons, List.not_mem_nil, or_false] at hx
    rcases hx with rfl | rfl | rfl | rfl
    · exact hrow _ _ hi.ids
    · exact hrow _ _ hi.isr
    · exact hrow _ _ hi.ad
    · exact hrow _ _ hi.dr
end Go.Proofs.YtgbcjmpnkejpeaaGreatDoor
namespace Go.Proofs.YtgbcjmpnkejpeaaGreatDoor
open Go.RowKit

theorem mkS_pt {c : Int} {op : ByteArray} {n a L : Nat} (h1 : n ≤ L) (h2 : a ≤ L) : (mkS c op n a).pt ≤ L := by
  unfold mkS; split
  · exact h1
  · exact h2
theorem gN_pt {m : Int} {l : List Int} {s : Gs} (hb : Byt l) (hs : s.pt ≤ l.length) : (gN m l s).1.pt ≤ l.length := by
  unfold gN; split
  · refine mkS_pt ?_ hs
    have := numS_next (most := m) (hb.drop s.pt)
    rw [List.length_drop] at this
    omega
  · exact hs
theorem gF_pt {l : List Int} {s : Gs} (hb : Byt l) (hs : s.pt ≤ l.length) : (gF l s).1.pt ≤ l.length := by
  unfold gF; split
  · exact mkS_pt (askS_next l s.pt 2 0 0 hb hs) hs
  · exact hs
theorem gT_pt {l : List Int} {s : Gs} (hb : Byt l) (hs : s.pt ≤ l.length) : (gT l s).1.pt ≤ l.length := by
  unfold gT; split
  · exact mkS_pt (askS_next l s.pt 3 256 0 hb hs) hs
  · exact hs
theorem gR_pt {l : List Int} {s : Gs} (hb : Byt l) (hs : s.pt ≤ l.length) : (gR l s).1.pt ≤ l.length := by
  unfold gR; split
  · exact mkS_pt (askS_next l s.pt 4 7 64 hb hs) (askS_next l s.pt 4 7 64 hb hs)
  · exact hs
theorem fL_pt {α : Type} (z : α) (g : Gs → Gs × α) (L : Nat) (hg : ∀ s, s.pt ≤ L → (g s).1.pt ≤ L) : ∀ (hs : List Bool) (s : Gs), s.pt ≤ L → (fL z g hs s).1.pt ≤ L
  | [], s, h => h
  | b :: hs, s, h => fL_pt z g L hg hs _ (by cases b; (exact h); (exact hg s h))
theorem fL_take {α : Type} (z : α) (g : Gs → Gs × α) (hs : List Bool) (s : Gs) (j : Nat) (hj : j < hs.length) : fL z g (hs.take (j + 1)) s = ((if hs.getD j false then g (fL z g (hs.take j) s).1 else ((fL z g (hs.take j) s).1, z)).1, (fL z g (hs.take j) s).2 ++ [(if hs.getD j false then g (fL z g (hs.take j) s).1 else ((fL z g (hs.take j) s).1, z)).2]) := by
  rw [List.take_succ_eq_append_getElem hj, show hs.getD j false = hs[j] by simp [List.getD, hj]]
  exact fL_snoc z g _ _ _
theorem Bx.fresh {p X i : Nat} {a b : World} {x : Value} (h : Bx p a b) (hX : a.heap.size ≤ X) : Bx p a (b.setCell ⟨X, i, none⟩ x) :=
  ⟨h.os, h.tape, h.output, by simpa [World.setCell] using h.size, fun k hk hp => (Below.heap_setCell _ _ _ _ (fun e => by simp at e; omega)).trans (h.block k hk hp)⟩
theorem getD_snoc {α : Type} (l : List α) (x d : α) (i : Nat) : (l ++ [x]).getD i d = if i = l.length then x else l.getD i d := by
  by_cases h : i = l.length
  · subst h; simp [List.getD]
  · rw [if_neg h]
    by_cases h2 : i < l.length
    · simp [List.getD, List.getElem?_append_left h2]
    · simp [List.getD, List.getElem?_eq_none (show (l ++ [x]).length ≤ i by simp; omega), List.getElem?_eq_none (show l.length ≤ i by omega)]
theorem getD_pad {α : Type} (l : List α) (d : α) (i : Nat) : (l ++ [d]).getD i d = l.getD i d := by
  rw [getD_snoc]
  split
  · rename_i h; subst h; simp [List.getD]
  · rfl
/-- A record that is being read, in its cells. -/
structure Fi (p R X : Nat) (w W : World) (v : Value) (s : Gs) (n : List Int) (f : List Bool) (t : List (List UInt8)) (r : List Value) (rs : List (List Int)) : Prop where
  rd : RdG W p v s
  c0 : W.cell? ⟨X, 0, none⟩ = some (.int .i64 0)
  cn : ∀ i, i < 8 → W.cell? ⟨X, i + 1, none⟩ = some (.int .i64 (n.getD i 0))
  cf : W.cell? ⟨X, 9, none⟩ = some (.bool (f.getD 0 false))
  ct : ∀ i, i < 4 → W.cell? ⟨X, i + 10, none⟩ = some (.string ⟨(t.getD i []).toArray⟩)
  cr : ∀ i, i < 4 → W.cell? ⟨X, i + 14, none⟩ = some (r.getD i (.slice none 0 0))
  fz : ∀ i, W.frozen? ⟨X, i, none⟩ = false
  th : W.there R 0 18
  rw : ∀ i, i < 4 → Sli (fun b => X < b) W (r.getD i (.slice none 0 0)) (rs.getD i [])
  bx : Bx p w W
  hp : p < w.heap.size
  hR : R = w.heap.size
  hX : X = w.heap.size + 1
section
variable {p R X : Nat} {w W W' : World} {v : Value} {s s' : Gs} {n : List Int} {f : List Bool} {t : List (List UInt8)} {r : List Value} {rs : List (List Int)}
theorem Fi.sz (h : Fi p R X w W v s n f t r rs) : X < W.heap.size := cell_block h.c0
theorem Fi.step (h : Fi p R X w W v s n f t r rs) (hr : RdG W' p v s') (hb : Bx p W W') : Fi p R X w W' v s' n f t r rs := by
  have hXl := h.sz
  have hXp : X ≠ p := by have := h.hp; have := h.hX; omega
  have hRp : R ≠ p := by have := h.hp; have := h.hR; omega
  have hRl : R < W.heap.size := by have := h.hR; have := h.hX; omega
  have hc : ∀ i, W'.cell? ⟨X, i, none⟩ = W.cell? ⟨X, i, none⟩ := fun i => hb.cell hXl hXp
  refine ⟨hr, by rw [hc]; exact h.c0, fun i hi => by rw [hc]; exact h.cn i hi, by rw [hc]; exact h.cf, fun i hi => by rw [hc]; exact h.ct i hi, fun i hi => by rw [hc]; exact h.cr i hi, fun i => by rw [hb.frozen hXl hXp]; exact h.fz i, fun j hj => by rw [hb.cell hRl hRp, hb.frozen hRl hRp]; exact h.th j hj, fun i hi => (h.rw i hi).imp (fun _ _ q => q) (fun b j hl hk => hb.cell hl (by have := h.hp; have := h.hX; omega)), h.bx.trans hb, h.hp, h.hR, h.hX⟩
theorem Fi.below (h : Fi p R X w W v s n f t r rs) (hb : Below W.heap.size W W') : Fi p R X w W' v s n f t r rs := h.step (h.rd.below hb) (Bx.of hb)
theorem rdG_set {i : Nat} {x : Value} (h : RdG W p v s) (hX : X ≠ p) : RdG (W.setCell ⟨X, i, none⟩ x) p v s := by
  have o : ∀ j, (W.setCell ⟨X, i, none⟩ x).cell? ⟨p, j, none⟩ = W.cell? ⟨p, j, none⟩ := fun j => World.cell?_setCell_other _ _ _ _ (fun q => hX (congrArg Addr.block q))
  exact ⟨by rw [o]; exact h.c0, by rw [o]; exact h.c1, by rw [o]; exact h.c2, fun j => by simp [h.fz j]⟩
theorem cell_off {i j : Nat} {x : Value} (h : ¬ i = j) : (W.setCell ⟨X, i, none⟩ x).cell? ⟨X, j, none⟩ = W.cell? ⟨X, j, none⟩ := World.cell?_setCell_other _ _ _ _ (fun q => h (congrArg Addr.off q))
/-- A store into one of its cells. -/
theorem Fi.set {i : Nat} {x : Value} {n' : List Int} {f' : List Bool} {t' : List (List UInt8)} {r' : List Value} {rs' : List (List Int)} (h : Fi p R X w W v s n f t r rs) (h0 : 0 < i)
    (cn : ∀ j, j < 8 → (W.setCell ⟨X, i, none⟩ x).cell? ⟨X, j + 1, none⟩ = some (.int .i64 (n'.getD j 0))) (cf : (W.setCell ⟨X, i, none⟩ x).cell? ⟨X, 9, none⟩ = some (.bool (f'.getD 0 false)))
    (ct : ∀ j, j < 4 → (W.setCell ⟨X, i, none⟩ x).cell? ⟨X, j + 10, none⟩ = some (.string ⟨(t'.getD j []).toArray⟩)) (cr : ∀ j, j < 4 → (W.setCell ⟨X, i, none⟩ x).cell? ⟨X, j + 14, none⟩ = some (r'.getD j (.slice none 0 0)))
    (hrw : ∀ j, j < 4 → Sli (fun b => X < b) W (r'.getD j (.slice none 0 0)) (rs'.getD j [])) : Fi p R X w (W.setCell ⟨X, i, none⟩ x) v s n' f' t' r' rs' := by
  have hXp : X ≠ p := by have := h.hp; have := h.hX; omega
  have ho : ∀ b j, b ≠ X → (W.setCell ⟨X, i, none⟩ x).cell? ⟨b, j, none⟩ = W.cell? ⟨b, j, none⟩ := fun b j hb => World.cell?_setCell_other _ _ _ _ (fun q => hb (congrArg Addr.block q).symm)
  refine ⟨rdG_set h.rd hXp, by rw [cell_off (by omega)]; exact h.c0, cn, cf, ct, cr, fun j => by simp [h.fz j], fun j hj => by rw [ho _ _ (by have := h.hR; have := h.hX; omega)]; simpa using h.th j hj, fun j hj => (hrw j hj).imp (fun _ _ q => q) (fun b j _ hk => ho b j (by omega)), h.bx.fresh (by have := h.hX; omega), h.hp, h.hR, h.hX⟩
theorem Fi.setN {j : Nat} {x : Int} (h : Fi p R X w W v s n f t r rs) (hn : n.length = j) (hj : j < 8) : Fi p R X w (W.setCell ⟨X, j + 1, none⟩ (.int .i64 x)) v s (n ++ [x]) f t r rs := by
  refine h.set (by omega) (fun i hi => ?_) (by rw [cell_off (by omega)]; exact h.cf) (fun i hi => by rw [cell_off (by omega)]; exact h.ct i hi) (fun i hi => by rw [cell_off (by omega)]; exact h.cr i hi) h.rw
  rw [getD_snoc]
  by_cases e : i = j
  · subst e
    rw [if_pos hn.symm]
    exact World.cell?_setCell_same _ _ _ (h.cn i hi)
  · rw [if_neg (by omega), cell_off (by omega)]
    exact h.cn i hi
theorem Fi.setF {b : Bool} (h : Fi p R X w W v s n [] t r rs) : Fi p R X w (W.setCell ⟨X, 9, none⟩ (.bool b)) v s n [b] t r rs :=
  h.set (by omega) (fun i hi => by rw [cell_off (by omega)]; exact h.cn i hi) (World.cell?_setCell_same _ _ _ h.cf) (fun i hi => by rw [cell_off (by omega)]; exact h.ct i hi) (fun i hi => by rw [cell_off (by omega)]; exact h.cr i hi) h.rw
theorem Fi.setT {j : Nat} {x : List UInt8} (h : Fi p R X w W v s n f t r rs) (hn : t.length = j) (hj : j < 4) : Fi p R X w (W.setCell ⟨X, j + 10, none⟩ (.string ⟨x.toArray⟩)) v s n f (t ++ [x]) r rs := by
  refine h.set (by omega) (fun i hi => by rw [cell_off (by omega)]; exact h.cn i hi) (by rw [cell_off (by omega)]; exact h.cf) (fun i hi => ?_) (fun i hi => by rw [cell_off (by omega)]; exact h.cr i hi) h.rw
  rw [getD_snoc]
  by_cases e : i = j
  · subst e
    rw [if_pos hn.symm]
    exact World.cell?_setCell_same _ _ _ (h.ct i hi)
  · rw [if_neg (by omega), cell_off (by omega)]
    exact h.ct i hi
theorem Fi.setR {j : Nat} {u : Value} {x : List Int} (h : Fi p R X w W v s n f t r rs) (hn : r.length = j) (hn2 : rs.length = j) (hj : j < 4) (hu : Sli (fun b => X < b) W u x) : Fi p R X w (W.setCell ⟨X, j + 14, none⟩ u) v s n f t (r ++ [u]) (rs ++ [x]) := by
  refine h.set (by omega) (fun i hi => by rw [cell_off (by omega)]; exact h.cn i hi) (by rw [cell_off (by omega)]; exact h.cf) (fun i hi => by rw [cell_off (by omega)]; exact h.ct i hi) (fun i hi => ?_) (fun i hi => ?_)
  · rw [getD_snoc]
    by_cases e : i = j
    · subst e
      rw [if_pos hn.symm]
      exact World.cell?_setCell_same _ _ _ (h.cr i hi)
    · rw [if_neg (by omega), cell_off (by omega)]
      exact h.cr i hi
  · rw [getD_snoc, getD_snoc]
    by_cases e : i = j
    · rw [if_pos (by omega), if_pos (by omega)]
      exact hu
    · rw [if_neg (by omega), if_neg (by omega)]
      exact h.rw i hi
theorem Fi.padN (h : Fi p R X w W v s n f t r rs) : Fi p R X w W v s (n ++ [0]) f t r rs :=
  ⟨h.rd, h.c0, fun i hi => by rw [getD_pad]; exact h.cn i hi, h.cf, h.ct, h.cr, h.fz, h.th, h.rw, h.bx, h.hp, h.hR, h.hX⟩
theorem Fi.padF (h : Fi p R X w W v s n [] t r rs) : Fi p R X w W v s n [false] t r rs :=
  ⟨h.rd, h.c0, h.cn, h.cf, h.ct, h.cr, h.fz, h.th, h.rw, h.bx, h.hp, h.hR, h.hX⟩
theorem Fi.padT (h : Fi p R X w W v s n f t r rs) : Fi p R X w W v s n f (t ++ [[]]) r rs :=
  ⟨h.rd, h.c0, h.cn, h.cf, fun i hi => by rw [getD_pad]; exact h.ct i hi, h.cr, h.fz, h.th, h.rw, h.bx, h.hp, h.hR, h.hX⟩
theorem Fi.padR (h : Fi p R X w W v s n f t r rs) : Fi p R X w W v s n f t (r ++ [.slice none 0 0]) (rs ++ [[]]) :=
  ⟨h.rd, h.c0, h.cn, h.cf, h.ct, fun i hi => by rw [getD_pad]; exact h.cr i hi, h.fz, h.th, fun i hi => by rw [getD_pad, getD_pad]; exact h.rw i hi, h.bx, h.hp, h.hR, h.hX⟩
end
end Go.Proofs.YtgbcjmpnkejpeaaGreatDoor
