/-
  A RECORD AS BYTES, OR WHAT IS WRONG WITH IT (record.Put): what the document says. Conditions: its rows' cells hold them, texts of no more than a thousand letters; the bytes that are ahead are nil or a row of their own, the record's rows lie ahead of it.
-/
import Derived.Test.YthoeajiojdfgdaaGreatDoorRecChc
import Derived.Test.YthoeajiojdfgdaaGreatDoorRecPt
import Derived.Test.YthoeajiojdfgdaaGreatDoorMJ
import Derived.Test.YthoeajiojdfgdaaGreatDoorWpute
namespace Go.Proofs.YthoeajiojdfgdaaGreatDoor
open Go.RowKit

/-- The slice v is nil, or the head of a row of its own, with the bytes l. -/
def Ow (B : Nat) (W : World) (v : Value) (l : List Int) : Prop := ∃ cur, Rw B W v l.length cur ∧ cur.take l.length = bv l
theorem Ow.below {B : Nat} {W W' : World} {v : Value} {l : List Int} (h : Ow B W v l) (hb : Below W.heap.size W W') : Ow B W' v l := by
  obtain ⟨cur, h1, h2⟩ := h
  exact ⟨cur, h1.below hb, h2⟩
theorem Ow.put {B : Nat} {W W' : World} {v v' : Value} {l news : List Int} {cur cur' : List Value} {m : Nat} (h2 : cur.take l.length = bv l) (hp : Put B W v l.length cur W' v' m cur' (bv news)) : Ow B W' v' (l ++ news) := by
  have hm : m = news.length := by rw [← hp.len]; simp [bv]
  subst hm
  refine ⟨cur', ?_, ?_⟩
  · rw [List.length_append]; exact hp.rw
  · rw [List.length_append, hp.tk, h2]; simp [bv]
theorem Ow.owns {B : Nat} {W' : World} {v' : Value} {l news : List Int} {cur : List Value} {n : Nat} (hn : n = l.length + news.length) (h2 : cur.take l.length = bv l) (hp : W'.ownsRow B 5 1 v' n (cur.take l.length ++ bv news)) : Ow B W' v' (l ++ news) := by
  subst hn
  obtain ⟨cur', h1, h3⟩ := Rw.of hp
  exact ⟨cur', by rw [List.length_append]; exact h1, by rw [List.length_append, h3, h2]; simp [bv]⟩
theorem Ow.sl {B : Nat} {W : World} {v : Value} {l : List Int} (h : Ow B W v l) : Sl bc W v l := by
  obtain ⟨cur, h1, h2⟩ := h
  have := h1.owns
  rw [h2] at this
  exact sl_of_owns (base := B) (e := 5) (by simpa [bv_eq] using this)
theorem ow_nil (B : Nat) (W : World) : Ow B W (.slice none 0 0) [] := ⟨[], rw_nil B W, rfl⟩
/-- What has turned: the row, and new memory. -/
structure Gw (B : Nat) (w W : World) (u v : Value) : Prop where
  below : Below B w W
  grown : w.grownBy W u.ownBlock
  blk : v.ownBlock = u.ownBlock ∨ ∀ g, v.ownBlock = some g → w.heap.size ≤ g
theorem Gw.refl (B : Nat) (w : World) (u : Value) : Gw B w w u u := ⟨Below.refl _ _, ⟨rfl, rfl, rfl, Nat.le_refl _, fun _ _ _ => rfl⟩, .inl rfl⟩
theorem Gw.trans {B : Nat} {w w1 w2 : World} {u v v2 : Value} (h : Gw B w w1 u v) (k : Gw B w1 w2 v v2) : Gw B w w2 u v2 := by
  refine ⟨h.below.trans k.below, ⟨k.grown.os.trans h.grown.os, k.grown.tape.trans h.grown.tape, k.grown.output.trans h.grown.output, Nat.le_trans h.grown.size k.grown.size, fun i hi hp => ?_⟩, ?_⟩
  · refine (k.grown.block i (Nat.lt_of_lt_of_le hi h.grown.size) ?_).trans (h.grown.block i hi hp)
    rcases h.blk with q | q
    · rw [q]; exact hp
    · intro e
      have := q i e.symm
      omega
  · rcases k.blk with q | q
    · rw [q]; exact h.blk
    · exact .inr fun g hg => Nat.le_trans h.grown.size (q g hg)
theorem Gw.of {B : Nat} {w W : World} (u : Value) (h : Below w.heap.size w W) (hB : B ≤ w.heap.size) : Gw B w W u u :=
  ⟨h.mono hB, ⟨h.os, h.tape, h.output, h.size, fun k hk _ => h.block k hk⟩, .inl rfl⟩
theorem Gw.put {B : Nat} {W W' : World} {v v' : Value} {n m : Nat} {cur cur' news : List Value} (hp : Put B W v n cur W' v' m cur' news) : Gw B W W' v v' := ⟨hp.below, hp.grown, hp.blk⟩
theorem Gw.cell {B : Nat} {w W : World} {u v : Value} (h : Gw B w W u v) {b : Nat} (hb : b < w.heap.size) (hn : u.ownBlock ≠ some b) (i : Nat) : W.cell? ⟨b, i, none⟩ = w.cell? ⟨b, i, none⟩ :=
  World.cell?_of_block (h.grown.block b hb (fun e => hn e.symm))
theorem Gw.range {B : Nat} {w W : World} {u v : Value} {p : Nat} {x : Value} {xs : List Value} (h : Gw B w W u v) (hr : w.rangeAt p 0 (x :: xs)) (hn : u.ownBlock ≠ some p) : W.rangeAt p 0 (x :: xs) := fun j y hy =>
  (h.cell (cell_block (hr 0 _ rfl) : p < w.heap.size) hn (0 + j)).trans (hr j y hy)
theorem encs_take {α : Type} (en : α → List Int) (hs : List Bool) (xs : List α) (j : Nat) (hj : j < hs.length) (hl : hs.length = xs.length) : encs en (hs.take (j + 1)) (xs.take (j + 1)) = encs en (hs.take j) (xs.take j) ++ (if hs[j] then en (xs[j]'(by omega)) else []) := by
  rw [List.take_succ_eq_append_getElem hj, List.take_succ_eq_append_getElem (show j < xs.length by omega)]
  exact encs_snoc en _ _ _ _ (by simp [hl])
set_option maxRecDepth 100000 in
set_option maxHeartbeats 4000000 in
theorem cput_bad {ok : Nat → Prop} (r : Rc) (v b : Value) (w : World) (hv : IsR ok w v r) (ht : TxR r) (hc : (chk r).2.2 ≠ 0) :
    Calls Tryz.prog 17 #[b, v] w fun e w' => e = .returned (.tuple #[.slice none 0 0, ft (chk r).1 (chk r).2.1 (chk r).2.2]) ∧ Below w.heap.size w w' := by
  have HC := hide (fun W (h : Below w.heap.size w W) => ccheck_any r v W (hv.below h) ht)
  rw [show erN (chk r).1 (chk r).2.1 (chk r).2.2 = ft (chk r).1 (chk r).2.1 (chk r).2.2 from if_neg hc] at HC
  obtain ⟨a14, a15, a16, a17, c14, c15, c16, c17, rfl, _⟩ := hv
  generalize chk r = T at *
  clear hc ht
  unfold cellsR at HC ⊢
  generalize r.k = k at *
  generalize r.br = br at *
  generalize r.ep = ep at *
  generalize r.tp = tp at *
  generalize r.pa = pa at *
  generalize r.le = le at *
  generalize r.cl = cl at *
  generalize r.se = se at *
  generalize r.co = co at *
  generalize r.fl = fl at *
  generalize r.nm = nm at *
  generalize r.ky = ky at *
  generalize r.va = va at *
  generalize r.rk = rk at *
  generalize r.ids.length = n14 at *
  generalize r.isr.length = n15 at *
  generalize r.ad.length = n16 at *
  generalize r.dr.length = n17 at *
  unfold ft at *
  have HQ : Hid ((w.alloc (.cells #[.int .i64 k, .int .i64 br, .int .i64 ep, .int .i64 tp, .int .i64 pa, .int .i64 le, .int .i64 cl, .int .i64 se, .int .i64 co, .bool fl, .string ⟨nm.toArray⟩, .string ⟨ky.toArray⟩, .string ⟨va.toArray⟩, .string ⟨rk.toArray⟩, .slice a14 n14 c14, .slice a15 n15 c15, .slice a16 n16 c16, .slice a17 n17 c17] 24)).rangeAt w.heap.size 0 [.int .i64 k, .int .i64 br, .int .i64 ep, .int .i64 tp, .int .i64 pa, .int .i64 le, .int .i64 cl, .int .i64 se, .int .i64 co, .bool fl, .string ⟨nm.toArray⟩, .string ⟨ky.toArray⟩, .string ⟨va.toArray⟩, .string ⟨rk.toArray⟩, .slice a14 n14 c14, .slice a15 n15 c15, .slice a16 n16 c16, .slice a17 n17 c17]) := hide (range_new w _ _)
  have HB : Hid (Below w.heap.size w (w.alloc (.cells #[.int .i64 k, .int .i64 br, .int .i64 ep, .int .i64 tp, .int .i64 pa, .int .i64 le, .int .i64 cl, .int .i64 se, .int .i64 co, .bool fl, .string ⟨nm.toArray⟩, .string ⟨ky.toArray⟩, .string ⟨va.toArray⟩, .string ⟨rk.toArray⟩, .slice a14 n14 c14, .slice a15 n15 c15, .slice a16 n16 c16, .slice a17 n17 c17] 24))) := hide ((Below.refl _ _).alloc (Nat.le_refl _) _)
  go_enter Tryz.func17, Tryz.ntmps17
  go_upto_region 1 with fail
  generalize w.alloc (.cells #[.int .i64 k, .int .i64 br, .int .i64 ep, .int .i64 tp, .int .i64 pa, .int .i64 le, .int .i64 cl, .int .i64 se, .int .i64 co, .bool fl, .string ⟨nm.toArray⟩, .string ⟨ky.toArray⟩, .string ⟨va.toArray⟩, .string ⟨rk.toArray⟩, .slice a14 n14 c14, .slice a15 n15 c15, .slice a16 n16 c16, .slice a17 n17 c17] 24) = X at HQ HB ⊢
  go_wp2_with (first | (refine wpList_load_mid rfl _ _ rfl _ _ rfl _ _ HQ.out Tryz.underlying24 rfl (by kernel_rfl) ?_) | (go_at_call 9; refine (HC.out _ HB.out).mono ?_; rintro e Y ⟨rfl, hY⟩))
  exact bodyPost_ret (v := .tuple #[.slice none 0 0, .iface 107 (.agg #[.string T.1, .int .i64 T.2.1, .iface 31 (.int .i64 T.2.2)])]) (by simp [results, Tryz.results17, go_sem]) rfl ⟨rfl, HB.out.trans (hY.mono HB.out.size)⟩
end Go.Proofs.YthoeajiojdfgdaaGreatDoor
