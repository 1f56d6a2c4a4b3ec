/-
  A CURSOR REFUSES (castellanref05.Cursor.Refuse): something is wrong where it is, if nothing was wrong before.
  A CURSOR's End (castellanref05.Cursor.End): there must be nothing left. Conditions: its bytes' cells hold them, no more than four thousand bytes.
  A RECORD THAT IS BEING READ BY THE DOCUMENT'S CURSOR (castellanref05.Read), in its cells. Conditions: its bytes' cells hold them, no more than four thousand bytes.
  IS AN ERROR SUCH A ONE (castellanlaw05.wrong): of what a record's check told, and of what the document says. Condition: errors.errorType is laid.
-/
import Derived.Test.YtjjpfajbljbelaaGreatDoorJKRecCuta3
namespace Go.Proofs.YtjjpfajbljbelaaGreatDoor
open Go.RowKit
set_option maxRecDepth 100000 in
set_option maxHeartbeats 16000000 in
theorem curef_gs (p : Nat) (v : Value) (s : Gs) (op : ByteArray) (c : Int) (w : World) (hc0 : c ≠ 0) (hr : CuG w p v s) :
  Calls Tryz.prog 58 #[.pointer (some ⟨p, 0, none⟩), .string op, .int .i64 c] w fun e w' => e = .returned (.tuple #[]) ∧ CuG w' p v (refS op c s) ∧ Bx p w w' := by
 have HR := hide hr
 obtain ⟨c0, c1, c2, c3, c4, fz⟩ := hr
 unfold refS
 by_cases hc : s.c = 0
 ·rw [if_pos hc]
  have f1 := fz 1
  have f2 := fz 2
  have f3 := fz 3
  have f4 := fz 4
  rw [hc] at c2
  have d0 : w.drew.cell? ⟨p, 0, none⟩ = some v := c0
  have d1 : w.drew.cell? ⟨p, 1, none⟩ = some (.int .i64 s.pt) := c1
  have d2 : w.drew.cell? ⟨p, 2, none⟩ = some (.int .i64 0) := c2
  have d3 : w.drew.cell? ⟨p, 3, none⟩ = some (.string s.op) := c3
  have d4 : w.drew.cell? ⟨p, 4, none⟩ = some (.int .i64 (whS s)) := c4
  have k1 : w.drew.frozen? ⟨p, 1, none⟩ = false := f1
  have k2 : w.drew.frozen? ⟨p, 2, none⟩ = false := f2
  have k3 : w.drew.frozen? ⟨p, 3, none⟩ = false := f3
  have k4 : w.drew.frozen? ⟨p, 4, none⟩ = false := f4
  have HE := hide (And.intro d0 (And.intro d1 (And.intro d2 (And.intro d3 d4))))
  have HZ : Hid (∀ i, w.drew.frozen? ⟨p, i, none⟩ = false) := hide fz
  clear fz
  go_enter Tryz.func58, Tryz.ntmps58
  go_upto_region 1 with fail
  go_region
  go_wp2_with fail
  obtain ⟨a0, a1, a2, a3, a4⟩ := set_p (x := .int .i64 s.pt) (y := .int .i64 c) (z := .string op) (t := .int .i64 s.pt) HE.out
  exact bodyPost_end (v := .tuple #[]) (by simp [results, Tryz.results58]) rfl ⟨rfl, ⟨a0, a1, a2, a3, by rw [whS, if_neg hc0]; exact a4, fun i => by simp [World.frozen?_setCell, show w.frozen? ⟨p, i, none⟩ = false from HZ.out i]⟩, bx_p ((Below.refl _ _).drew)⟩
 ·rw [if_neg hc]
  have hcb : (s.c == 0) = false := by simpa using hc
  clear fz
  go_enter Tryz.func58, Tryz.ntmps58
  go_wp2_with fail
  exact bodyPost_end (v := .tuple #[]) (by simp [results, Tryz.results58]) rfl ⟨rfl, HR.out, Bx.refl _ _⟩
set_option maxRecDepth 100000 in
set_option maxHeartbeats 16000000 in
theorem cuend_go (p : Nat) (v : Value) (a c wh A C WH : Int) (op OP : ByteArray) (w : World) (hp : p < w.heap.size) (hfz : ∀ i, w.frozen? ⟨p, i, none⟩ = false)
  (hF : ∀ W, Below w.heap.size w W → (W.cell? ⟨p, 0, none⟩ = some v ∧ W.cell? ⟨p, 1, none⟩ = some (.int .i64 a) ∧ W.cell? ⟨p, 2, none⟩ = some (.int .i64 c) ∧ W.cell? ⟨p, 3, none⟩ = some (.string op) ∧ W.cell? ⟨p, 4, none⟩ = some (.int .i64 wh)))
  (HC : Hid (∀ W, Below w.heap.size w W → Calls Tryz.prog 60 #[v, .agg #[.int .i64 a, .int .i64 c, .string op, .int .i64 wh]] W fun e w' => e = .returned (.agg #[.int .i64 A, .int .i64 C, .string OP, .int .i64 WH]) ∧ Below W.heap.size W w')) :
  Calls Tryz.prog 26 #[.pointer (some ⟨p, 0, none⟩)] w fun e w' => e = .returned (.tuple #[]) ∧ (w'.cell? ⟨p, 0, none⟩ = some v ∧ w'.cell? ⟨p, 1, none⟩ = some (.int .i64 A) ∧ w'.cell? ⟨p, 2, none⟩ = some (.int .i64 C) ∧ w'.cell? ⟨p, 3, none⟩ = some (.string OP) ∧ w'.cell? ⟨p, 4, none⟩ = some (.int .i64 WH)) ∧ (∀ i, w'.frozen? ⟨p, i, none⟩ = false) ∧ Bx p w w' := by
 have HF := hide hF
 obtain ⟨d0, d1, d2, d3, d4⟩ := hF w.drew (Below.refl _ _).drew
 clear hF
 go_enter Tryz.func26, Tryz.ntmps26
 go_upto_region 0 with fail
 go_region_with (go_at_call 60; refine (HC.out _ (Below.refl _ _).drew).mono ?_; rintro e W1 ⟨rfl, hb⟩; have HB : Hid (Below w.heap.size w W1) := hide ((Below.refl _ _).drew.trans hb); obtain ⟨e0, e1, e2, e3, e4⟩ := HF.out W1 HB.out; have HE := hide (And.intro e0 (And.intro e1 (And.intro e2 (And.intro e3 e4)))); have HZ : Hid (∀ i, W1.frozen? ⟨p, i, none⟩ = false) := hide (fun i => (HB.out.frozen (p := ⟨p, i, none⟩) hp).trans (hfz i)); have k1 := HZ.out 1; have k2 := HZ.out 2; have k3 := HZ.out 3; have k4 := HZ.out 4; clear hb)
 all_goals go_wp2_with fail
 all_goals exact bodyPost_end (v := .tuple #[]) (by simp [results, Tryz.results26]) rfl ⟨rfl, set_p HE.out, fun i => by simp [World.frozen?_setCell, HZ.out], bx_p HB.out⟩
theorem cuend_gs (p : Nat) (v : Value) (l : List Int) (s : Gs) (w0 w : World) (hr : CuG w p v s) (hv : Sl bc w0 v l) :
  Calls Tryz.prog 26 #[.pointer (some ⟨p, 0, none⟩)] w fun e w' => e = .returned (.tuple #[]) ∧ CuG w' p v (if s.pt < l.length then refS ⟨#[101, 110, 100]⟩ 5 s else s) ∧ Bx p w w' := by
 have hp : p < w.heap.size := cell_block hr.c0
 have hF := fun W (h : Below w.heap.size w W) => (hr.below h).cells
 obtain ⟨ao, cap, rfl⟩ := hv.form
 by_cases ha : s.pt < l.length
 ·rw [if_pos ha]
  unfold refS
  by_cases hc : s.c = 0
  ·rw [if_pos hc]
   refine (cuend_go p _ s.pt s.c (whS s) s.pt 5 s.pt s.op ⟨#[101, 110, 100]⟩ w hp hr.fz hF (hide fun W _ => ?_)).mono ?_
   ·have := end_left ao l.length cap s.pt s.c (whS s) 5 s.pt s.op ⟨#[101, 110, 100]⟩ W ha (hide fun W => bad_any s.pt s.c (whS s) s.pt 5 s.op ⟨#[101, 110, 100]⟩ W (by simp [hc]))
    exact this
   ·rintro e w' ⟨rfl, ⟨a0, a1, a2, a3, a4⟩, h2, h3⟩
    exact ⟨rfl, ⟨a0, a1, a2, a3, by simpa [whS] using a4, h2⟩, h3⟩
  ·rw [if_neg hc]
   refine (cuend_go p _ s.pt s.c (whS s) s.pt s.c (whS s) s.op s.op w hp hr.fz hF (hide fun W _ => ?_)).mono ?_
   ·have := end_left ao l.length cap s.pt s.c (whS s) s.c (whS s) s.op s.op W ha (hide fun W => bad_keep s.pt s.c (whS s) s.pt 5 s.op ⟨#[101, 110, 100]⟩ W (by simpa using hc))
    exact this
   ·rintro e w' ⟨rfl, ⟨a0, a1, a2, a3, a4⟩, h2, h3⟩
    exact ⟨rfl, ⟨a0, a1, a2, a3, a4, h2⟩, h3⟩
 ·rw [if_neg ha]
  refine (cuend_go p _ s.pt s.c (whS s) s.pt s.c (whS s) s.op s.op w hp hr.fz hF (hide fun W _ => ?_)).mono ?_
  ·exact end_all ao l.length cap s.pt s.c (whS s) s.op W (by omega)
  ·rintro e w' ⟨rfl, ⟨a0, a1, a2, a3, a4⟩, h2, h3⟩
   exact ⟨rfl, ⟨a0, a1, a2, a3, a4, h2⟩, h3⟩
structure Fc (p R X : Nat) (w W : World) (v : Value) (s : Gs) (cs : List Value) (r : List Value) (rs : List (List Int)) : Prop where
 cu : CuG W p v s
 rg : W.rangeAt X 0 cs
 fz : ∀ i, W.frozen? ⟨X, i, none⟩ = false
 th : W.there R 0 18
 rw : ∀ i, i < 4 → Sli (fun b => X < b) W (r.getD i (.slice none 0 0)) (rs.getD i [])
 bx : Bx p w W
 hp : p < w.heap.size
 hR : R = w.heap.size
 hX : X = w.heap.size + 1
 sz : X < W.heap.size
section
variable {p R X : Nat} {w W W' : World} {v : Value} {s s' : Gs} {cs r : List Value} {rs : List (List Int)}
theorem Fc.cell (h : Fc p R X w W v s cs r rs) (i : Nat) (u : Value) (hu : cs[i]? = some u) : W.cell? ⟨X, i, none⟩ = some u := by
 have := h.rg i u hu
 rwa [Nat.zero_add] at this
theorem Fc.step (h : Fc p R X w W v s cs r rs) (hr : CuG W' p v s') (hb : Bx p W W') : Fc p R X w W' v s' cs r rs := by
 have hXp : X ≠ p := by have := h.hp; have := h.hX; omega
 have hRp : R ≠ p := by have := h.hp; have := h.hR; omega
 refine ⟨hr, fun j u hu => by rw [hb.cell h.sz hXp]; exact h.rg j u hu, fun i => by rw [hb.frozen h.sz hXp]; exact h.fz i, there_bx h.th hb hRp, fun i hi => (h.rw i hi).imp (fun _ _ q => q) (fun b j hl hk => hb.cell hl (by have := h.hp; have := h.hX; omega)), h.bx.trans hb, h.hp, h.hR, h.hX, Nat.lt_of_lt_of_le h.sz hb.size⟩
theorem Fc.below (h : Fc p R X w W v s cs r rs) (hb : Below W.heap.size W W') : Fc p R X w W' v s cs r rs := h.step (h.cu.below hb) (Bx.of hb)
theorem cuG_set {i : Nat} {x : Value} (h : CuG W p v s) (hX : X ≠ p) : CuG (W.setCell ⟨X, i, none⟩ x) p v s := by
 have o : ∀ j, (W.setCell ⟨X, i, none⟩ x).cell? ⟨p, j, none⟩ = W.cell? ⟨p, j, none⟩ := fun j => World.cell?_setCell_other _ _ _ _ (fun q => hX (congrArg Addr.block q))
 exact ⟨by rw [o]; exact h.c0, by rw [o]; exact h.c1, by rw [o]; exact h.c2, by rw [o]; exact h.c3, by rw [o]; exact h.c4, fun j => by simp [h.fz j]⟩
theorem cuG_many (hX : X ≠ p) : ∀ (vs : List Value) (o : Nat) {b : World}, CuG b p v s → CuG (b.setCells X o vs) p v s
 | [], _, _, h => h
 | _ :: vs, o, _, h => by
  rw [World.setCells]
  exact cuG_many hX vs (o + 1) (cuG_set h hX)
theorem Fc.set (h : Fc p R X w W v s cs r rs) (i : Nat) (x : Value) (hi : i < cs.length) {r' : List Value} {rs' : List (List Int)} (hrw : ∀ j, j < 4 → Sli (fun b => X < b) W (r'.getD j (.slice none 0 0)) (rs'.getD j [])) : Fc p R X w (W.setCell ⟨X, i, none⟩ x) v s (cs.set i x) r' rs' := by
 have hXp : X ≠ p := by have := h.hp; have := h.hX; omega
 have ho : ∀ b j, b ≠ X → (W.setCell ⟨X, i, none⟩ x).cell? ⟨b, j, none⟩ = W.cell? ⟨b, j, none⟩ := fun b j hb => World.cell?_setCell_other _ _ _ _ (fun q => hb (congrArg Addr.block q).symm)
 refine ⟨cuG_set h.cu hXp, fun j u hu => ?_, fun j => by simp [h.fz j], fun j hj => by rw [ho _ _ (by have := h.hR; have := h.hX; omega)]; simpa using h.th j hj, fun j hj => (hrw j hj).imp (fun _ _ q => q) (fun b j _ hk => ho b j (by omega)), h.bx.fresh (by have := h.hX; omega), h.hp, h.hR, h.hX, by have := h.sz; simpa [World.setCell] using this⟩
 rw [Nat.zero_add]
 by_cases e : i = j
 ·subst e
  rw [List.getElem?_set_self hi] at hu
  cases hu
  exact World.cell?_setCell_same _ _ _ (h.cell i _ (List.getElem?_eq_getElem hi))
 ·rw [List.getElem?_set_ne e] at hu
  rw [World.cell?_setCell_other _ _ _ _ (fun q => e (congrArg Addr.off q))]
  exact h.cell j u hu
theorem Fc.setR (h : Fc p R X w W v s cs r rs) (j : Nat) (u : Value) (x : List Int) (hi : j + 14 < cs.length) (hn : r.length = j) (hn2 : rs.length = j) (hu : Sli (fun b => X < b) W u x) : Fc p R X w (W.setCell ⟨X, j + 14, none⟩ u) v s (cs.set (j + 14) u) (r ++ [u]) (rs ++ [x]) := by
 refine h.set (j + 14) u hi (fun i hi => ?_)
 rw [getD_snoc, getD_snoc]
 by_cases e : i = j
 ·rw [if_pos (by omega), if_pos (by omega)]
  exact hu
 ·rw [if_neg (by omega), if_neg (by omega)]
  exact h.rw i hi
end
section
variable {p : Nat} {v : Value} {l : List Int} {asks : Bool} {s s' : Gs} {w0 w : World}
theorem cusome_p {x : Int} (hq : (if asks then gN 1073741824 l s else (s, 0)) = (s', x)) (hr : CuG w p v s) (hv : Sl bc w0 v l) (hW : Below w0.heap.size w0 w) (hl : l.length ≤ 4000) (hby : Byt l) (hs : s.pt ≤ l.length) :
  Calls Tryz.prog 90 #[.pointer (some ⟨p, 0, none⟩), .bool asks] w fun e w' => e = .returned (.int .i64 x) ∧ CuG w' p v s' ∧ Bx p w w' := by
 have h := cusome_gs p v l asks s w0 w hr hv hW hl hby hs
 cases asks with
 | true => simp only [if_true] at h hq; rw [hq] at h; exact h
 | false => simp only [Bool.false_eq_true, if_false] at h hq; obtain ⟨rfl, rfl⟩ := Prod.mk.inj hq; exact h
theorem cuword_p {x : List UInt8} (hq : (if asks then gT l s else (s, [])) = (s', x)) (hr : CuG w p v s) (hv : Sl bc w0 v l) (hW : Below w0.heap.size w0 w) (hp0 : w0.heap.size ≤ p) (hl : l.length ≤ 4000) (hby : Byt l) (hs : s.pt ≤ l.length) :
  Calls Tryz.prog 92 #[.pointer (some ⟨p, 0, none⟩), .bool asks] w fun e w' => e = .returned (.string ⟨x.toArray⟩) ∧ CuG w' p v s' ∧ Bx p w w' := by
 have h := cuword_gs p v l asks s w0 w hr hv hW hp0 hl hby hs
 cases asks with
 | true => simp only [if_true] at h hq; rw [hq] at h; exact h
 | false => simp only [Bool.false_eq_true, if_false] at h hq; obtain ⟨rfl, rfl⟩ := Prod.mk.inj hq; exact h
theorem cubrok_p {x : List Int} (hq : (if asks then gR l s else (s, [])) = (s', x)) (hr : CuG w p v s) (hv : Sl bc w0 v l) (hW : Below w0.heap.size w0 w) (hl : l.length ≤ 4000) (hby : Byt l) (hs : s.pt ≤ l.length) :
  Calls Tryz.prog 93 #[.pointer (some ⟨p, 0, none⟩), .bool asks] w fun e w' => ∃ ao cap, e = .returned (.slice ao x.length cap) ∧ Sli (fun b => w.heap.size ≤ b) w' (.slice ao x.length cap) x ∧ CuG w' p v s' ∧ Bx p w w' := by
 have h := cubrok_gs p v l asks s w0 w hr hv hW hl hby hs
 cases asks with
 | true =>
  simp only [if_true] at h hq; rw [hq] at h
  refine h.mono ?_
  rintro e w' ⟨u, rfl, h1, h2, h3⟩
  obtain ⟨ao, cap, rfl⟩ := h1.sl.form
  exact ⟨ao, cap, rfl, h1, h2, h3⟩
 | false =>
  simp only [Bool.false_eq_true, if_false] at h hq; obtain ⟨rfl, rfl⟩ := Prod.mk.inj hq
  refine h.mono ?_
  rintro e w' ⟨u, rfl, h1, h2, h3⟩
  obtain ⟨ao, cap, rfl⟩ := h1.sl.form
  exact ⟨ao, cap, rfl, h1, h2, h3⟩
theorem if_pt {α : Type} {q : Gs × α} {z x : α} (hq : (if asks then q else (s, z)) = (s', x)) (h : q.1.pt ≤ l.length) (hs : s.pt ≤ l.length) : s'.pt ≤ l.length := by
 cases asks with
 | true => simp only [if_true] at hq; rw [hq] at h; exact h
 | false => simp only [Bool.false_eq_true, if_false] at hq; obtain ⟨rfl, rfl⟩ := Prod.mk.inj hq; exact hs
end
theorem Fc.old {p R X : Nat} {w w0 W : World} {v : Value} {s : Gs} {cs r : List Value} {rs : List (List Int)} (h : Fc p R X w W v s cs r rs) (hW : Below w0.heap.size w0 w) (hp : w0.heap.size ≤ p) : Below w0.heap.size w0 W := below_bx hW h.bx hp hW.size
theorem fc_new (p : Nat) (v : Value) (s : Gs) (w : World) (hr : CuG w p v s) : Fc p w.heap.size (w.heap.size + 1) w ((w.alloc (.cells #[.int .i64 0, .int .i64 0, .int .i64 0, .int .i64 0, .int .i64 0, .int .i64 0, .int .i64 0, .int .i64 0, .int .i64 0, .bool false, .string ⟨#[]⟩, .string ⟨#[]⟩, .string ⟨#[]⟩, .string ⟨#[]⟩, .slice none 0 0, .slice none 0 0, .slice none 0 0, .slice none 0 0] 45)).alloc (.cells #[.int .i64 0, .int .i64 0, .int .i64 0, .int .i64 0, .int .i64 0, .int .i64 0, .int .i64 0, .int .i64 0, .int .i64 0, .bool false, .string ⟨#[]⟩, .string ⟨#[]⟩, .string ⟨#[]⟩, .string ⟨#[]⟩, .slice none 0 0, .slice none 0 0, .slice none 0 0, .slice none 0 0] 45)) v s [.int .i64 0, .int .i64 0, .int .i64 0, .int .i64 0, .int .i64 0, .int .i64 0, .int .i64 0, .int .i64 0, .int .i64 0, .bool false, .string ⟨#[]⟩, .string ⟨#[]⟩, .string ⟨#[]⟩, .string ⟨#[]⟩, .slice none 0 0, .slice none 0 0, .slice none 0 0, .slice none 0 0] [] [] := by
 have hp : p < w.heap.size := cell_block hr.c0
 have hbl : Below w.heap.size w ((w.alloc (.cells #[.int .i64 0, .int .i64 0, .int .i64 0, .int .i64 0, .int .i64 0, .int .i64 0, .int .i64 0, .int .i64 0, .int .i64 0, .bool false, .string ⟨#[]⟩, .string ⟨#[]⟩, .string ⟨#[]⟩, .string ⟨#[]⟩, .slice none 0 0, .slice none 0 0, .slice none 0 0, .slice none 0 0] 45)).alloc (.cells #[.int .i64 0, .int .i64 0, .int .i64 0, .int .i64 0, .int .i64 0, .int .i64 0, .int .i64 0, .int .i64 0, .int .i64 0, .bool false, .string ⟨#[]⟩, .string ⟨#[]⟩, .string ⟨#[]⟩, .string ⟨#[]⟩, .slice none 0 0, .slice none 0 0, .slice none 0 0, .slice none 0 0] 45)) := ((Below.refl _ _).alloc (Nat.le_refl _) _).alloc (by simp) _
 have hsz : (w.alloc (.cells #[.int .i64 0, .int .i64 0, .int .i64 0, .int .i64 0, .int .i64 0, .int .i64 0, .int .i64 0, .int .i64 0, .int .i64 0, .bool false, .string ⟨#[]⟩, .string ⟨#[]⟩, .string ⟨#[]⟩, .string ⟨#[]⟩, .slice none 0 0, .slice none 0 0, .slice none 0 0, .slice none 0 0] 45)).heap.size = w.heap.size + 1 := by simp
 have hrg := range_new (w.alloc (.cells #[.int .i64 0, .int .i64 0, .int .i64 0, .int .i64 0, .int .i64 0, .int .i64 0, .int .i64 0, .int .i64 0, .int .i64 0, .bool false, .string ⟨#[]⟩, .string ⟨#[]⟩, .string ⟨#[]⟩, .string ⟨#[]⟩, .slice none 0 0, .slice none 0 0, .slice none 0 0, .slice none 0 0] 45)) [.int .i64 0, .int .i64 0, .int .i64 0, .int .i64 0, .int .i64 0, .int .i64 0, .int .i64 0, .int .i64 0, .int .i64 0, .bool false, .string ⟨#[]⟩, .string ⟨#[]⟩, .string ⟨#[]⟩, .string ⟨#[]⟩, .slice none 0 0, .slice none 0 0, .slice none 0 0, .slice none 0 0] 45
 rw [hsz] at hrg
 refine ⟨hr.below hbl, hrg, fun i => by simp, fun j hj => ?_, fun i hi => ?_, Bx.of hbl, hp, rfl, rfl, by simp⟩
 ·refine World.there_alloc (o := 0) (n := 18) (fun j hj => ⟨?_, by simp⟩) _ j hj
  have hr2 := range_new w [.int .i64 0, .int .i64 0, .int .i64 0, .int .i64 0, .int .i64 0, .int .i64 0, .int .i64 0, .int .i64 0, .int .i64 0, .bool false, .string ⟨#[]⟩, .string ⟨#[]⟩, .string ⟨#[]⟩, .string ⟨#[]⟩, .slice none 0 0, .slice none 0 0, .slice none 0 0, .slice none 0 0] 45
  exact hr2.isSome j hj
 ·simp only [List.getD_nil]; exact Sli.nil _ _ _ _
end Go.Proofs.YtjjpfajbljbelaaGreatDoor
