/-
  A RECORD THAT IS BEING READ BY THE DOCUMENT'S CURSOR (castellanref05.Read), in its cells. Conditions: its bytes' cells hold them, no more than four thousand bytes.
-/
import Derived.Test.YtgbcjmpnkejpeaaGreatDoorJKRecCurefa2
import Derived.Test.YtgbcjmpnkejpeaaGreatDoorJKRecRdba4
import Derived.Test.YtgbcjmpnkejpeaaGreatDoorJKRecWkaa2
import Derived.Deep.DeepCutAuto
namespace Go.Proofs.YtgbcjmpnkejpeaaGreatDoor
open Go.RowKit

/-- A record in eighteen cells that the cursor p fills. -/
structure Fc (p R X : Nat) (w W : World) (v : Value) (s : Gs) (cs : List Value) (r : List Value) (rs : List (List Int)) : Prop where
  cu : CuG W p v s
  rg : W.rangeAt X 0 cs
  fz : ∀ i, W.frozen? ⟨X, i, none⟩ = false
  th : W.there R 0 18
  rw : ∀ i, i < 4 → Sli (fun b => X < b) W (r.getD i (.slice none 0 0)) (rs.getD i [])
  bx : Bx p w W
  hp : p < w.heap.size
  hR : R = w.heap.size
  hX : X = w.heap.size + 1
  sz : X < W.heap.size
section
variable {p R X : Nat} {w W W' : World} {v : Value} {s s' : Gs} {cs r : List Value} {rs : List (List Int)}
theorem Fc.cell (h : Fc p R X w W v s cs r rs) (i : Nat) (u : Value) (hu : cs[i]? = some u) : W.cell? ⟨X, i, none⟩ = some u := by
  have := h.rg i u hu
  rwa [Nat.zero_add] at this
theorem Fc.step (h : Fc p R X w W v s cs r rs) (hr : CuG W' p v s') (hb : Bx p W W') : Fc p R X w W' v s' cs r rs := by
  have hXp : X ≠ p := by have := h.hp; have := h.hX; omega
  have hRp : R ≠ p := by have := h.hp; have := h.hR; omega
  refine ⟨hr, fun j u hu => by rw [hb.cell h.sz hXp]; exact h.rg j u hu, fun i => by rw [hb.frozen h.sz hXp]; exact h.fz i, there_bx h.th hb hRp, fun i hi => (h.rw i hi).imp (fun _ _ q => q) (fun b j hl hk => hb.cell hl (by have := h.hp; have := h.hX; omega)), h.bx.trans hb, h.hp, h.hR, h.hX, Nat.lt_of_lt_of_le h.sz hb.size⟩
theorem Fc.below (h : Fc p R X w W v s cs r rs) (hb : Below W.heap.size W W') : Fc p R X w W' v s cs r rs := h.step (h.cu.below hb) (Bx.of hb)
theorem cuG_set {i : Nat} {x : Value} (h : CuG W p v s) (hX : X ≠ p) : CuG (W.setCell ⟨X, i, none⟩ x) p v s := by
  have o : ∀ j, (W.setCell ⟨X, i, none⟩ x).cell? ⟨p, j, none⟩ = W.cell? ⟨p, j, none⟩ := fun j => World.cell?_setCell_other _ _ _ _ (fun q => hX (congrArg Addr.block q))
  exact ⟨by rw [o]; exact h.c0, by rw [o]; exact h.c1, by rw [o]; exact h.c2, by rw [o]; exact h.c3, by rw [o]; exact h.c4, fun j => by simp [h.fz j]⟩
theorem cuG_many (hX : X ≠ p) : ∀ (vs : List Value) (o : Nat) {b : World}, CuG b p v s → CuG (b.setCells X o vs) p v s
  | [], _, _, h => h
  | _ :: vs, o, _, h => by
    rw [World.setCells]
    exact cuG_many hX vs (o + 1) (cuG_set h hX)
theorem Fc.set (h : Fc p R X w W v s cs r rs) (i : Nat) (x : Value) (hi : i < cs.length) {r' : List Value} {rs' : List (List Int)} (hrw : ∀ j, j < 4 → Sli (fun b => X < b) W (r'.getD j (.slice none 0 0)) (rs'.getD j [])) : Fc p R X w (W.setCell ⟨X, i, none⟩ x) v s (cs.set i x) r' rs' := by
  have hXp : X ≠ p := by have := h.hp; have := h.hX; omega
  have ho : ∀ b j, b ≠ X → (W.setCell ⟨X, i, none⟩ x).cell? ⟨b, j, none⟩ = W.cell? ⟨b, j, none⟩ := fun b j hb => World.cell?_setCell_other _ _ _ _ (fun q => hb (congrArg Addr.block q).symm)
  refine ⟨cuG_set h.cu hXp, fun j u hu => ?_, fun j => by simp [h.fz j], fun j hj => by rw [ho _ _ (by have := h.hR; have := h.hX; omega)]; simpa using h.th j hj, fun j hj => (hrw j hj).imp (fun _ _ q => q) (fun b j _ hk => ho b j (by omega)), h.bx.fresh (by have := h.hX; omega), h.hp, h.hR, h.hX, by have := h.sz; simpa [World.setCell] using this⟩
  rw [Nat.zero_add]
  by_cases e : i = j
  · subst e
    rw [List.getElem?_set_self hi] at hu
    cases hu
    exact World.cell?_setCell_same _ _ _ (h.cell i _ (List.getElem?_eq_getElem hi))
  · rw [List.getElem?_set_ne e] at hu
    rw [World.cell?_setCell_other _ _ _ _ (fun q => e (congrArg Addr.off q))]
    exact h.cell j u hu
theorem Fc.setR (h : Fc p R X w W v s cs r rs) (j : Nat) (u : Value) (x : List Int) (hi : j + 14 < cs.length) (hn : r.length = j) (hn2 : rs.length = j) (hu : Sli (fun b => X < b) W u x) : Fc p R X w (W.setCell ⟨X, j + 14, none⟩ u) v s (cs.set (j + 14) u) (r ++ [u]) (rs ++ [x]) := by
  refine h.set (j + 14) u hi (fun i hi => ?_)
  rw [getD_snoc, getD_snoc]
  by_cases e : i = j
  · rw [if_pos (by omega), if_pos (by omega)]
    exact hu
  · rw [if_neg (by omega), if_neg (by omega)]
    exact h.rw i hi
end
section
variable {p : Nat} {v : Value} {l : List Int} {asks : Bool} {s s' : Gs} {w0 w : World}
theorem cusome_p {x : Int} (hq : (if asks then gN 1073741824 l s else (s, 0)) = (s', x)) (hr : CuG w p v s) (hv : Sl bc w0 v l) (hW : Below w0.heap.size w0 w) (hl : l.length ≤ 4000) (hby : Byt l) (hs : s.pt ≤ l.length) :
    Calls Tryz.prog 52 #[.pointer (some ⟨p, 0, none⟩), .bool asks] w fun e w' => e = .returned (.int .i64 x) ∧ CuG w' p v s' ∧ Bx p w w' := by
  have h := cusome_gs p v l asks s w0 w hr hv hW hl hby hs
  cases asks with
  | true => simp only [if_true] at h hq; rw [hq] at h; exact h
  | false => simp only [Bool.false_eq_true, if_false] at h hq; obtain ⟨rfl, rfl⟩ := Prod.mk.inj hq; exact h
theorem cuword_p {x : List UInt8} (hq : (if asks then gT l s else (s, [])) = (s', x)) (hr : CuG w p v s) (hv : Sl bc w0 v l) (hW : Below w0.heap.size w0 w) (hp0 : w0.heap.size ≤ p) (hl : l.length ≤ 4000) (hby : Byt l) (hs : s.pt ≤ l.length) :
    Calls Tryz.prog 55 #[.pointer (some ⟨p, 0, none⟩), .bool asks] w fun e w' => e = .returned (.string ⟨x.toArray⟩) ∧ CuG w' p v s' ∧ Bx p w w' := by
  have h := cuword_gs p v l asks s w0 w hr hv hW hp0 hl hby hs
  cases asks with
  | true => simp only [if_true] at h hq; rw [hq] at h; exact h
  | false => simp only [Bool.false_eq_true, if_false] at h hq; obtain ⟨rfl, rfl⟩ := Prod.mk.inj hq; exact h
theorem cubrok_p {x : List Int} (hq : (if asks then gR l s else (s, [])) = (s', x)) (hr : CuG w p v s) (hv : Sl bc w0 v l) (hW : Below w0.heap.size w0 w) (hl : l.length ≤ 4000) (hby : Byt l) (hs : s.pt ≤ l.length) :
    Calls Tryz.prog 56 #[.pointer (some ⟨p, 0, none⟩), .bool asks] w fun e w' => ∃ ao cap, e = .returned (.slice ao x.length cap) ∧ Sli (fun b => w.heap.size ≤ b) w' (.slice ao x.length cap) x ∧ CuG w' p v s' ∧ Bx p w w' := by
  have h := cubrok_gs p v l asks s w0 w hr hv hW hl hby hs
  cases asks with
  | true =>
    simp only [if_true] at h hq; rw [hq] at h
    refine h.mono ?_
    rintro e w' ⟨u, rfl, h1, h2, h3⟩
    obtain ⟨ao, cap, rfl⟩ := h1.sl.form
    exact ⟨ao, cap, rfl, h1, h2, h3⟩
  | false =>
    simp only [Bool.false_eq_true, if_false] at h hq; obtain ⟨rfl, rfl⟩ := Prod.mk.inj hq
    refine h.mono ?_
    rintro e w' ⟨u, rfl, h1, h2, h3⟩
    obtain ⟨ao, cap, rfl⟩ := h1.sl.form
    exact ⟨ao, cap, rfl, h1, h2, h3⟩
theorem if_pt {α : Type} {q : Gs × α} {z x : α} (hq : (if asks then q else (s, z)) = (s', x)) (h : q.1.pt ≤ l.length) (hs : s.pt ≤ l.length) : s'.pt ≤ l.length := by
  cases asks with
  | true => simp only [if_true] at hq; rw [hq] at h; exact h
  | false => simp only [Bool.false_eq_true, if_false] at hq; obtain ⟨rfl, rfl⟩ := Prod.mk.inj hq; exact hs
end
/-- Bytes that lie below the cursor stay. -/
theorem Fc.old {p R X : Nat} {w w0 W : World} {v : Value} {s : Gs} {cs r : List Value} {rs : List (List Int)} (h : Fc p R X w W v s cs r rs) (hW : Below w0.heap.size w0 w) (hp : w0.heap.size ≤ p) : Below w0.heap.size w0 W := below_bx hW h.bx hp hW.size
theorem fc_new (p : Nat) (v : Value) (s : Gs) (w : World) (hr : CuG w p v s) : Fc p w.heap.size (w.heap.size + 1) w ((w.alloc (.cells #[.int .i64 0, .int .i64 0, .int .i64 0, .int .i64 0, .int .i64 0, .int .i64 0, .int .i64 0, .int .i64 0, .int .i64 0, .bool false, .string ⟨#[]⟩, .string ⟨#[]⟩, .string ⟨#[]⟩, .string ⟨#[]⟩, .slice none 0 0, .slice none 0 0, .slice none 0 0, .slice none 0 0] 35)).alloc (.cells #[.int .i64 0, .int .i64 0, .int .i64 0, .int .i64 0, .int .i64 0, .int .i64 0, .int .i64 0, .int .i64 0, .int .i64 0, .bool false, .string ⟨#[]⟩, .string ⟨#[]⟩, .string ⟨#[]⟩, .string ⟨#[]⟩, .slice none 0 0, .slice none 0 0, .slice none 0 0, .slice none 0 0] 35)) v s [.int .i64 0, .int .i64 0, .int .i64 0, .int .i64 0, .int .i64 0, .int .i64 0, .int .i64 0, .int .i64 0, .int .i64 0, .bool false, .string ⟨#[]⟩, .string ⟨#[]⟩, .string ⟨#[]⟩, .string ⟨#[]⟩, .slice none 0 0, .slice none 0 0, .slice none 0 0, .slice none 0 0] [] [] := by
  have hp : p < w.heap.size := cell_block hr.c0
  have hbl : Below w.heap.size w ((w.alloc (.cells #[.int .i64 0, .int .i64 0, .int .i64 0, .int .i64 0, .int .i64 0, .int .i64 0, .int .i64 0, .int .i64 0, .int .i64 0, .bool false, .string ⟨#[]⟩, .string ⟨#[]⟩, .string ⟨#[]⟩, .string ⟨#[]⟩, .slice none 0 0, .slice none 0 0, .slice none 0 0, .slice none 0 0] 35)).alloc (.cells #[.int .i64 0, .int .i64 0, .int .i64 0, .int .i64 0, .int .i64 0, .int .i64 0, .int .i64 0, .int .i64 0, .int .i64 0, .bool false, .string ⟨#[]⟩, .string ⟨#[]⟩, .string ⟨#[]⟩, .string ⟨#[]⟩, .slice none 0 0, .slice none 0 0, .slice none 0 0, .slice none 0 0] 35)) := ((Below.refl _ _).alloc (Nat.le_refl _) _).alloc (by simp) _
  have hsz : (w.alloc (.cells #[.int .i64 0, .int .i64 0, .int .i64 0, .int .i64 0, .int .i64 0, .int .i64 0, .int .i64 0, .int .i64 0, .int .i64 0, .bool false, .string ⟨#[]⟩, .string ⟨#[]⟩, .string ⟨#[]⟩, .string ⟨#[]⟩, .slice none 0 0, .slice none 0 0, .slice none 0 0, .slice none 0 0] 35)).heap.size = w.heap.size + 1 := by simp
  have hrg := range_new (w.alloc (.cells #[.int .i64 0, .int .i64 0, .int .i64 0, .int .i64 0, .int .i64 0, .int .i64 0, .int .i64 0, .int .i64 0, .int .i64 0, .bool false, .string ⟨#[]⟩, .string ⟨#[]⟩, .string ⟨#[]⟩, .string ⟨#[]⟩, .slice none 0 0, .slice none 0 0, .slice none 0 0, .slice none 0 0] 35)) [.int .i64 0, .int .i64 0, .int .i64 0, .int .i64 0, .int .i64 0, .int .i64 0, .int .i64 0, .int .i64 0, .int .i64 0, .bool false, .string ⟨#[]⟩, .string ⟨#[]⟩, .string ⟨#[]⟩, .string ⟨#[]⟩, .slice none 0 0, .slice none 0 0, .slice none 0 0, .slice none 0 0] 35
  rw [hsz] at hrg
  refine ⟨hr.below hbl, hrg, fun i => by simp, fun j hj => ?_, fun i hi => ?_, Bx.of hbl, hp, rfl, rfl, by simp⟩
  · refine World.there_alloc (o := 0) (n := 18) (fun j hj => ⟨?_, by simp⟩) _ j hj
    have hr2 := range_new w [.int .i64 0, .int .i64 0, .int .i64 0, .int .i64 0, .int .i64 0, .int .i64 0, .int .i64 0, .int .i64 0, .int .i64 0, .bool false, .string ⟨#[]⟩, .string ⟨#[]⟩, .string ⟨#[]⟩, .string ⟨#[]⟩, .slice none 0 0, .slice none 0 0, .slice none 0 0, .slice none 0 0] 35
    exact hr2.isSome j hj
  · simp only [List.getD_nil]; exact Sli.nil _ _ _ _
end Go.Proofs.YtgbcjmpnkejpeaaGreatDoor
