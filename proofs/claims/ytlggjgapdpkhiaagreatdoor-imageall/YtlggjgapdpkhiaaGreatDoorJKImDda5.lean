/-
  WHAT IS TAKEN OUT OF A ROW OF SETTINGS (slices.DeleteFunc with image.drop's function), in its own memory. Conditions: the row is one that may be written, no more than a hundred thousand.
  A ROW IN NEW MEMORY (slices.Clone). Conditions: the cells hold it, no more than a hundred thousand.
  A ROW OF SETTINGS OF A CALL's OWN, some taken out (slices.DeleteFunc); where a setting stands, and whether it is there. Conditions: an image in order.
  A TOPIC IS GONE, AND ITS SETTINGS, AS THE DOCUMENT HAS IT (castellanref15.drop). Conditions: an image in order, its lists no longer than a hundred thousand.
  ONE THAT IS TAKEN OUT OF A ROW (slices.Concat of two, image.without). Conditions: the cells hold it, no more than a hundred thousand.
-/
import Derived.Test.YtlggjgapdpkhiaaGreatDoorJKImQia2
import Derived.Test.YtlggjgapdpkhiaaGreatDoorJKImCda5
import Derived.Test.YtlggjgapdpkhiaaGreatDoorJKImCba5
import Derived.Test.YtlggjgapdpkhiaaGreatDoorJKImQha3
namespace Go.Proofs.YtlggjgapdpkhiaaGreatDoor
open Go.RowKit
theorem infoC : (Tryz.prog.info? 72).map (fun i => (i.zero, i.size, i.bytes)) = some (some (.agg #[.int .i64 0, .string ⟨#[]⟩, .string ⟨#[]⟩]), 3, 40) := by kernel_rfl
theorem run_clearC (w : World) (ty : TypeId) (g o n cap : Nat) (ht : w.there g o (n * 3)) : ∃ vs : List Value, vs.length = n * 3 ∧ (Builtin.clear_ #[27] ty #[.slice (some ⟨g, o, none⟩) n cap]).run Tryz.prog w = .ok (.tuple #[]) (w.setCells g o vs) := by
 obtain ⟨i0, hi, hz0, hz1, hz2⟩ := info_parts infoC
 have hu := Tryz.underlying27
 rcases Nat.eq_zero_or_pos n with h0 | h0
 ·subst h0
  exact ⟨[], by simp, by simp [Builtin.clear_, run_underlying hu, go_sem, World.setCells]⟩
 ·obtain ⟨m, rfl⟩ : ∃ m, n = m + 1 := ⟨n - 1, by omega⟩
  obtain ⟨vs, hvs⟩ : ∃ vs, vs = (Builtin.zeroCells (Value.agg #[.int .i64 0, .string ⟨#[]⟩, .string ⟨#[]⟩]).cells (m + 1)).toList := ⟨_, rfl⟩
  have hl : vs.length = (m + 1) * 3 := by rw [hvs]; simp [Builtin.zeroCells, Value.cells]
  have hone : ∀ v ∈ vs, v.oneCell' = true := by
   intro v hv
   rw [hvs] at hv
   simp only [Builtin.zeroCells, Array.toList_map, List.mem_map] at hv
   obtain ⟨i, _, rfl⟩ := hv
   have h3 : i % 3 = 0 ∨ i % 3 = 1 ∨ i % 3 = 2 := by omega
   show (#[Value.int .i64 0, .string ⟨#[]⟩, .string ⟨#[]⟩][i % 3]!).oneCell' = true
   rcases h3 with e | e | e <;> rw [e] <;> rfl
  have hst := run_storeCells_cells (P := Tryz.prog) g o vs 0 w (fun j hj => (ht j (by omega)).1) (fun j hj => (ht j (by omega)).2) hone
  simp only [Nat.add_zero] at hst
  refine ⟨vs, hl, ?_⟩
  have hz : ∀ W, (zeroValue 72).run Tryz.prog W = .ok (.agg #[.int .i64 0, .string ⟨#[]⟩, .string ⟨#[]⟩]) W := fun W => by simp [zeroValue, typeInfo, hi, hz0]
  simp [Builtin.clear_, run_underlying hu, hz, ← hvs, hst]
structure Dl (W : World) (B g C : Nat) (t : Int) (l : List Cf) (i j : Nat) : Prop where
 lo : W.rangeAt g 0 (((l.take j).filter fun x => !(x.tp == t)).flatMap cfc)
 hi : W.rangeAt g (j * 3) ((l.drop j).flatMap cfc)
 th : W.there g 0 (l.length * 3)
 n : i = ((l.take j).filter fun x => !(x.tp == t)).length
 lt : i < j
 le : j ≤ l.length
 c : W.cell? ⟨C, 3, none⟩ = some (.int .i64 t)
 nc : ¬ C = g
theorem Dl.below {W W' : World} {B g C : Nat} {t : Int} {l : List Cf} {i j : Nat} (h : Dl W B g C t l i j) (hg : g < W.heap.size) (hb : Below W.heap.size W W') : Dl W' B g C t l i j :=
 ⟨rg_bel h.lo hb, rg_bel h.hi hb, fun k hk => by
  have := h.th k hk
  rw [hb.cell (p := ⟨g, 0 + k, none⟩) hg, hb.frozen (p := ⟨g, 0 + k, none⟩) hg]
  exact this, h.n, h.lt, h.le, (hb.cell (p := ⟨C, 3, none⟩) (cell_block h.c)).trans h.c, h.nc⟩
theorem Dl.skip {W : World} {B g C : Nat} {t : Int} {l : List Cf} {i j : Nat} (h : Dl W B g C t l i j) (hj : j < l.length) (hx : (l[j].tp == t) = true) : Dl W B g C t l i (j + 1) := by
 have e : ((l.take (j + 1)).filter fun x => !(x.tp == t)) = (l.take j).filter fun x => !(x.tp == t) := by
  rw [List.take_succ_eq_append_getElem hj, List.filter_append, List.filter_cons, if_neg (by rw [hx]; decide)]; simp
 have hh := h.hi
 rw [List.drop_eq_getElem_cons hj, List.flatMap_cons] at hh
 have h2 := (rg_app hh).2
 exact ⟨by rw [e]; exact h.lo, by rw [Nat.succ_mul]; exact h2, h.th, by rw [e]; exact h.n, by have := h.lt; omega, hj, h.c, h.nc⟩
theorem Dl.keep {W : World} {B g C : Nat} {t : Int} {l : List Cf} {i j : Nat} (h : Dl W B g C t l i j) (hj : j < l.length) (hx : (l[j].tp == t) = false) : Dl (W.setCells g (i * 3) (cfc l[j])) B g C t l (i + 1) (j + 1) := by
 have e : ((l.take (j + 1)).filter fun x => !(x.tp == t)) = ((l.take j).filter fun x => !(x.tp == t)) ++ [l[j]] := by
  rw [List.take_succ_eq_append_getElem hj, List.filter_append, List.filter_cons, if_pos (by rw [hx]; rfl)]; simp
 have hh := h.hi
 rw [List.drop_eq_getElem_cons hj, List.flatMap_cons] at hh
 have h2 := (rg_app hh).2
 have hlt := h.lt
 have hle := h.le
 have hln : (((l.take j).filter fun x => !(x.tp == t)).flatMap cfc).length = i * 3 := by rw [fm_len encC, ← h.n]
 have hth : W.there g (i * 3) (cfc l[j]).length := fun k hk => by
  have h3 : (cfc l[j]).length = 3 := rfl
  have := h.th (i * 3 + k) (by have : i * 3 + 3 ≤ l.length * 3 := by omega
                               omega)
  rwa [Nat.zero_add] at this
 refine ⟨?_, ?_, World.there_setCells h.th g _ _, by rw [e, List.length_append, ← h.n]; rfl, by omega, hj, by rw [World.cell?_setCells_out _ _ _ _ _ (fun q _ => absurd q h.nc)]; exact h.c, h.nc⟩
 ·rw [e, List.flatMap_append, List.flatMap_cons, List.flatMap_nil, List.append_nil]
  intro q u hu
  rcases Nat.lt_or_ge q (i * 3) with hq | hq
  ·rw [List.getElem?_append_left (by omega)] at hu
   have := World.rangeAt_setCells_apart h.lo g (i * 3) (cfc l[j]) (.inr (.inl (by omega)))
   exact this q u hu
  ·rw [List.getElem?_append_right (by omega), hln] at hu
   have := World.rangeAt_setCells_same W g (i * 3) (cfc l[j]) hth (q - i * 3) u hu
   rwa [show i * 3 + (q - i * 3) = 0 + q by omega] at this
 ·have h3 : (cfc l[j]).length = 3 := rfl
  have := World.rangeAt_setCells_apart h2 g (i * 3) (cfc l[j]) (.inr (.inr (by rw [h3]; omega)))
  rwa [h3, show j * 3 + 3 = (j + 1) * 3 by omega] at this
theorem bel_sets {B : Nat} {w W : World} {g o : Nat} {vs : List Value} (h : Below B w W) (hg : B ≤ g) : Below B w (W.setCells g o vs) := below_sets hg vs o W h
theorem wpList_put {P : Program} {ops : Array Oper} {rest : List Oper} {op : Oper} {a : Act} {w : World} {Q : Exit → Act → World → Prop} (hgd : op.guard = none) (ty : TypeId) (x y : Operand) (ho : op.op = .store ty x y)
  (g o : Nat) (hx : a.eval x = .pointer (some ⟨g, o, none⟩)) (ds : List Value) (hy : a.eval y = .agg ds.toArray) (ht : w.there g o ds.length) (hi : (P.info? ty).map (·.size) = some ds.length) (h1 : ds.all (·.oneCell') = true)
  (h : ∀ W, W = w.setCells g o ds → wpList P ops Q rest (a.put op.dst undef) W) : wpList P ops Q (op :: rest) a w :=
 wpList_store_mid hgd ty x y ho g o ds.toArray hx hy (by simpa using ht) (by rw [hi]; simp) (all_oneCell_toArray (List.all_eq_true.1 h1)) (by
  rw [List.toList_toArray]
  exact h _ rfl)
theorem Dl.there {W : World} {B g C : Nat} {t : Int} {l : List Cf} {i j : Nat} (h : Dl W B g C t l i j) (hj : j < l.length) : W.there g (i * 3) 3 := fun k hk => by
 have := h.lt
 have h1 := h.th (i * 3 + k) (by omega)
 rwa [Nat.zero_add] at h1
theorem IxP.first {α : Type} {p : α → Bool} {l : List α} {w w' : World} {e : Ending} (h : IxP p l w w' e) {y : α} (hn : l.find? p = some y) : ∃ (k : Nat) (hk : k < l.length), p l[k] = true ∧ (∀ j (h : j < l.length), j < k → p l[j] = false) ∧ e = .returned (.int .i64 (k : Int)) ∧ Below w.heap.size w w' := by
 obtain ⟨⟨k, hk, hp, hj, rfl⟩ | ⟨hn', rfl⟩, hb⟩ := h
 ·exact ⟨k, hk, hp, hj, rfl, hb⟩
 ·obtain ⟨h1, h2⟩ := List.find?_eq_some_iff_append.1 hn
  exact absurd h1 (by rw [hn' y (List.mem_of_find?_eq_some hn)]; simp)
theorem Dl.start {W : World} {B g C : Nat} {t : Int} {l : List Cf} {k : Nat} (hr : W.rangeAt g 0 (l.flatMap cfc)) (hth : W.there g 0 (l.length * 3)) (hC : W.cell? ⟨C, 3, none⟩ = some (.int .i64 t)) (hcg : ¬ C = g) (hk : k < l.length) (hp : (l[k].tp == t) = true) (hj : ∀ j (h : j < l.length), j < k → (l[j].tp == t) = false) : Dl W B g C t l k (k + 1) := by
 have e : ((l.take (k + 1)).filter fun x => !(x.tp == t)) = l.take k := by
  rw [List.take_succ_eq_append_getElem hk, List.filter_append, List.filter_cons, if_neg (by rw [hp]; decide), List.filter_nil, List.append_nil]
  refine List.filter_eq_self.2 fun x hx => ?_
  obtain ⟨j, hj1, rfl⟩ := List.getElem_of_mem hx
  rw [List.length_take] at hj1
  rw [List.getElem_take, hj j (by omega) (by omega)]
  rfl
 have h1 : l.flatMap cfc = (l.take k).flatMap cfc ++ (l.drop k).flatMap cfc := by rw [← List.flatMap_append, List.take_append_drop]
 have h2 : l.flatMap cfc = (l.take (k + 1)).flatMap cfc ++ (l.drop (k + 1)).flatMap cfc := by rw [← List.flatMap_append, List.take_append_drop]
 refine ⟨by rw [e]; rw [h1] at hr; exact (rg_app hr).1, ?_, hth, by rw [e, List.length_take]; omega, Nat.lt_succ_self _, hk, hC, hcg⟩
 rw [h2] at hr
 have := (rg_app hr).2
 rwa [fm_len encC, List.length_take, Nat.min_eq_left (by omega), Nat.zero_add] at this
set_option maxRecDepth 100000 in
set_option maxHeartbeats 8000000 in
theorem delf_any (l : List Cf) (g cap B C : Nat) (t : Int) (w : World) (hr : w.rangeAt g 0 (l.flatMap cfc)) (hth : w.there g 0 (l.length * 3)) (hcap : l.length ≤ cap) (hg : B ≤ g) (hgl : g < w.heap.size) (hB : B ≤ w.heap.size) (hC : w.cell? ⟨C, 3, none⟩ = some (.int .i64 t)) (hcg : ¬ C = g) (hl : l.length ≤ 100000) :
  Calls Tryz.prog 101 #[.slice (some ⟨g, 0, none⟩) l.length cap, .func (.func 103) #[] #[.pointer (some ⟨C, 0, none⟩)]] w fun e w' => ∃ n, e = .returned (.slice (some ⟨g, 0, none⟩) n cap) ∧ Rs cfc w' (.slice (some ⟨g, 0, none⟩) n cap) (l.filter fun x => !(x.tp == t)) ∧ Below B w w' := by
 have HCL := hide (fun W (x : Cf) (h : W.cell? ⟨C, 3, none⟩ = some (.int .i64 t)) => cDrp_any x t C W h)
 have HIX := hide (ix_drp l (fun x => x.tp == t) (some ⟨g, 0, none⟩) _ cap (.pointer (some ⟨C, 0, none⟩)) w rfl ⟨_, _, rfl, hcap, fun _ => ⟨g, 0, rfl, hr⟩⟩ hl (fun W x _ hb => HCL.out W x ((hb.cell (p := ⟨C, 3, none⟩) (cell_block hC)).trans hC)))
 cases hf : l.find? (fun x => x.tp == t) with
 | none =>
  have HI := hide (HIX.out.mono fun _ _ q => q.find_no hf)
  have hfil : (l.filter fun x => !(x.tp == t)) = l := List.filter_eq_self.2 (fun x hx => by have := List.find?_eq_none.1 hf x hx; simpa using this)
  rw [hfil]
  have HR := hide hr
  clear hf hfil HIX hr hth hC hcg
  go_enter Tryz.func101, Tryz.ntmps101
  go_wp2_with (go_at_call 143; refine HI.out.mono ?_; rintro e w1 ⟨rfl, hb⟩; have HB1 := hide hb; clear hb HI)
  go_ret
  exact ⟨_, rfl, ⟨_, _, rfl, hcap, fun _ => ⟨g, 0, rfl, rg_bel HR.out HB1.out⟩⟩, HB1.out.mono hB⟩
 | some y =>
  have HI := hide (HIX.out.mono fun _ _ q => q.first hf)
  have HS := hide (fun W (hb : Below w.heap.size w W) k hk hp hj => Dl.start (W := W) (B := B) (k := k) (rg_bel hr hb) (fun q hq => by
   have := hth q hq
   rw [hb.cell (p := ⟨g, 0 + q, none⟩) hgl, hb.frozen (p := ⟨g, 0 + q, none⟩) hgl]
   exact this) ((hb.cell (p := ⟨C, 3, none⟩) (cell_block hC)).trans hC) hcg hk hp hj)
  have hUP := fun W i (hi : i ≤ l.length) => upto_run tyiC (some ⟨g, 0, none⟩) l.length cap i hi hcap W
  have hFR := fun i (hi : i ≤ l.length) => from_runR tyiC (some ⟨g, 0, none⟩) l.length cap i hi (fun e => by cases e)
  have HUP := hide hUP
  have HFR := hide hFR
  clear hf HIX hr hth hC hcg hUP hFR
  go_enter Tryz.func101, Tryz.ntmps101
  go_wp2_with (go_at_call 143; refine HI.out.mono ?_; rintro e w1 ⟨k, hk, hp, hj, rfl, hb⟩; have HD0 := hide (HS.out w1 hb k hk hp hj); have HB1 := hide (hb.mono hB); have HZ1 : Hid (g < w1.heap.size) := hide (Nat.lt_of_lt_of_le hgl hb.size); have hkI : ((k : Int) == -1) = false := beq_eq_false_iff_ne.2 (by omega); clear hb HI hp hj HS)
  go_loopw [5, 6] (fun x y W => ∃ i j : Nat, x = .int .i64 (i : Int) ∧ y = .int .i64 (j : Int) ∧ Dl W B g C t l i j ∧ Below B w W ∧ g < W.heap.size) (fun _ y _ => l.length - (intOf y).toNat)
  case atStart => exact ⟨k, k + 1, rfl, by go_num, HD0.out, HB1.out, HZ1.out⟩
  case round =>
   obtain ⟨i, j, rfl, rfl, hd, hb, hz⟩ := hrel
   have HD := hide hd
   have HB := hide hb
   have HZ := hide hz
   have HBS : Hid (B ≤ wr.heap.size) := hide (Nat.le_trans hB hb.size)
   have hij := hd.lt
   have hjl := hd.le
   clear hd hb hz HD0 HB1 HZ1
   by_cases hlt : j < l.length
   ·have hltI : (j : Int) < (l.length : Int) := by omega
    have hilI : (i : Int) < (l.length : Int) := by omega
    have hil : i < l.length := by omega
    have HE : Hid (wr.rangeAt g (j * 3) (cfc l[j])) := hide (by
     have := HD.out.hi
     rw [List.drop_eq_getElem_cons hlt, List.flatMap_cons] at this
     exact (rg_app this).1)
    have HCC := hide (fun W (hb : Below wr.heap.size wr W) => HCL.out W l[j] ((HD.out.below HZ.out hb).c))
    have HSK := hide (fun W (hb : Below wr.heap.size wr W) h => (HD.out.below HZ.out hb).skip hlt h)
    have HKE := hide (fun W (hb : Below wr.heap.size wr W) h => (HD.out.below HZ.out hb).keep hlt h)
    have HTH := hide (fun W (hb : Below wr.heap.size wr W) => (HD.out.below HZ.out hb).there hlt)
    clear HD
    cases hx : (l[j].tp == t) with
    | true =>
     rw [hx] at HCC
     replace HSK := hide (fun W hb => HSK.out W hb hx)
     clear hx HKE HTH
     generalize l[j] = y at HE HCC
     unfold cfc at HE HCC
     go_wp2_with (first
      | (refine wpList_load_mid rfl _ _ rfl _ _ rfl _ _ HE.out Tryz.underlying72 rfl (by kernel_rfl) ?_)
      | (go_at_call 103; refine (HCC.out _ (below_al1 _ _)).mono ?_; rintro e w2 ⟨rfl, hb2⟩; have HB2 := hide (bt (below_al1 _ _) hb2); clear hb2 HCC HE))
     go_roundw
     case rel => exact ⟨i, j + 1, rfl, by go_num, HSK.out _ HB2.out, HB.out.trans (HB2.out.mono HBS.out), Nat.lt_of_lt_of_le HZ.out HB2.out.size⟩
     case measure => simp [intOf]; omega
    | false =>
     rw [hx] at HCC
     replace HKE := hide (fun W hb => HKE.out W hb hx)
     clear hx HSK
     generalize l[j] = y at HE HCC HKE
     unfold cfc at HE HCC HKE
     go_wp2_with (first
      | (refine wpList_load_mid rfl _ _ rfl _ _ rfl _ _ HE.out Tryz.underlying72 rfl (by kernel_rfl) ?_)
      | (go_at_call 103; refine (HCC.out _ (below_al1 _ _)).mono ?_; rintro e w2 ⟨rfl, hb2⟩; have HB2 := hide (bt (below_al1 _ _) hb2); obtain ⟨z0, z1, z2⟩ := (Bx.mk1 wr [.int .i64 y.tp, .string ⟨y.ky.toArray⟩, .string ⟨y.va.toArray⟩] _ hb2).c3; clear hb2 HCC HE)
      | (refine wpList_put rfl _ _ _ rfl _ _ rfl [.int .i64 y.tp, .string ⟨y.ky.toArray⟩, .string ⟨y.va.toArray⟩] rfl (HTH.out _ HB2.out) (by kernel_rfl) rfl ?_; intro W3 hW3; have HW3 := hide hW3; clear hW3 HTH))
     go_roundw
     case rel =>
      have e3 := HW3.out
      exact ⟨i + 1, j + 1, by go_num, by go_num, by rw [e3]; exact HKE.out _ HB2.out, by rw [e3]; exact bel_sets (HB.out.trans (HB2.out.mono HBS.out)) hg, by rw [e3, sz_sets]; exact Nat.lt_of_lt_of_le HZ.out HB2.out.size⟩
     case measure => simp [intOf]; omega
   ·obtain rfl : j = l.length := by omega
    have hil : i ≤ l.length := by omega
    have HLO := hide HD.out.lo
    have HTH := hide HD.out.th
    have HNI := hide HD.out.n
    obtain ⟨ao', hfr, hao⟩ := HFR.out i hil
    have hup := HUP.out
    have hup' : ∀ W, (Instr.slice 27 (.slice (some ⟨g, 0, none⟩) l.length cap) none (some (.int .i64 (i : Int))) none).run Tryz.prog W = .ok (.slice (some ⟨g, 0, none⟩) i cap) W := fun W => hup W i hil
    clear hup hlt HD
    rw [List.take_length] at HLO HNI
    have hi0 : i < l.length := by omega
    obtain rfl := hao g 0 rfl hi0 hcap
    rw [Nat.zero_add] at hfr
    obtain ⟨vs, hvs, hcl⟩ := run_clearC wr 0 g (i * 3) (l.length - i) (cap - i) (fun q hq => by
     have := HTH.out (i * 3 + q) (by omega)
     rwa [Nat.zero_add] at this)
    go_wp2_with fail
    go_ret
    refine ⟨i, rfl, ⟨_, _, by rw [← HNI.out], by rw [← HNI.out]; omega, fun _ => ⟨g, 0, rfl, ?_⟩⟩, bel_sets HB.out hg⟩
    exact World.rangeAt_setCells_apart HLO.out g (i * 3) vs (.inr (.inl (by rw [fm_len encC, ← HNI.out]; omega)))
end Go.Proofs.YtlggjgapdpkhiaaGreatDoor
namespace Go.Proofs.YtlggjgapdpkhiaaGreatDoor
open Go.RowKit
theorem nilC_yes (n cap : Nat) (w : World) : (binOp .eql 27 (.slice none n cap) (.slice none 0 0)).run Tryz.prog w = .ok (.bool true) w := by kernel_rfl
theorem nilC_no (a : Addr) (n cap : Nat) (w : World) : (binOp .eql 27 (.slice (some a) n cap) (.slice none 0 0)).run Tryz.prog w = .ok (.bool false) w := by kernel_rfl
set_option maxRecDepth 100000 in
set_option maxHeartbeats 4000000 in
theorem cloneC_any (l : List Cf) (ao : Option Addr) (n cap : Nat) (w : World) (hn : n = l.length) (hv : Rs cfc w (.slice ao n cap) l) (hl : l.length ≤ 100000) :
  Calls Tryz.prog 102 #[.slice ao n cap] w fun e w' => ∃ v, e = .returned v ∧ Ro cfc 3 72 w' w.heap.size v l ∧ Below w.heap.size w w' := by
 subst hn
 cases ao with
 | none =>
  have e1 := nilC_yes
  have h0 := hv.none0 rfl
  obtain rfl := List.eq_nil_iff_length_eq_zero.2 h0
  clear hv hl h0
  go_enter Tryz.func102, Tryz.ntmps102
  go_wp2_with fail
  go_ret
  exact ⟨_, rfl, ro_nil _ _ _ _ _, Below.refl _ _⟩
 | some a =>
  have e2 := nilC_no
  have HV := hide (hv.below ((Below.refl _ _).alloc (Nat.le_refl _) (.cells #[] 72)))
  have HR := hide (ro_new encC 72 w [] (Nat.zero_le _))
  clear hv
  go_enter Tryz.func102, Tryz.ntmps102
  go_wp2_with (at_builtin; refine wpList_appR tyiC encC _ rfl _ _ rfl w.heap.size _ [] rfl HR.out (by simp) _ l rfl HV.out (by rw [List.length_nil]; omega) ?_; intro v1 w2 hr _ hb; rw [List.nil_append] at hr; have HRO := hide hr; have HB := hide (((Below.refl w.heap.size w).alloc (Nat.le_refl _) _).trans hb); clear hr hb)
  go_ret
  exact ⟨_, rfl, HRO.out, HB.out⟩
end Go.Proofs.YtlggjgapdpkhiaaGreatDoor
namespace Go.Proofs.YtlggjgapdpkhiaaGreatDoor
open Go.RowKit
def Rg {α : Type} (f : α → List Value) (W : World) (B : Nat) (v : Value) (l : List α) : Prop := ∃ ao cap, v = .slice ao l.length cap ∧ l.length ≤ cap ∧ (0 < l.length → ∃ b o, ao = some ⟨b, o, none⟩ ∧ B ≤ b ∧ W.rangeAt b o (l.flatMap f))
theorem Rg.rs {α : Type} {f : α → List Value} {W : World} {B : Nat} {v : Value} {l : List α} (h : Rg f W B v l) : Rs f W v l := by
 obtain ⟨ao, cap, e, hc, hr⟩ := h
 exact ⟨ao, cap, e, hc, fun q => by obtain ⟨b, o, e1, _, e2⟩ := hr q; exact ⟨b, o, e1, e2⟩⟩
theorem Rg.keepG {α : Type} {f : α → List Value} {W W' : World} {B : Nat} {v : Value} {l : List α} (h : Rg f W B v l) (hk : ∀ g, B ≤ g → W'.heap[g]? = W.heap[g]?) : Rg f W' B v l := by
 obtain ⟨ao, cap, e, hc, hr⟩ := h
 refine ⟨ao, cap, e, hc, fun q => ?_⟩
 obtain ⟨b, o, e1, e3, e2⟩ := hr q
 exact ⟨b, o, e1, e3, fun j u hj => (World.cell?_of_block (w := W) (hk b e3)).trans (e2 j u hj)⟩
theorem Rg.mono {α : Type} {f : α → List Value} {W : World} {B C : Nat} {v : Value} {l : List α} (h : Rg f W B v l) (hc : C ≤ B) : Rg f W C v l := by
 obtain ⟨ao, cap, e, hc', hr⟩ := h
 exact ⟨ao, cap, e, hc', fun q => by obtain ⟨b, o, e1, e3, e2⟩ := hr q; exact ⟨b, o, e1, Nat.le_trans hc e3, e2⟩⟩
theorem Rg.form {α : Type} {f : α → List Value} {W : World} {B : Nat} {v : Value} {l : List α} (h : Rg f W B v l) : ∃ a c, v = .slice a l.length c := by
 obtain ⟨ao, cap, e, _⟩ := h
 exact ⟨_, _, e⟩
set_option maxRecDepth 100000 in
theorem delf_nil (cap C : Nat) (w : World) : Calls Tryz.prog 101 #[.slice none 0 cap, .func (.func 103) #[] #[.pointer (some ⟨C, 0, none⟩)]] w fun e w' => e = .returned (.slice none 0 cap) ∧ Below w.heap.size w w' := by
 have HIX : Hid (Calls Tryz.prog 143 #[.slice none 0 cap, .func (.func 103) #[] #[.pointer (some ⟨C, 0, none⟩)]] w fun e w' => e = .returned (.int .i64 (-1)) ∧ Below w.heap.size w w') := hide ((ix_drp [] (fun _ => false) none 0 cap (.pointer (some ⟨C, 0, none⟩)) w rfl (rs_nil _ _ _ _) (by simp) (fun W x hx => by cases hx)).mono fun _ _ q => q.find_no rfl)
 go_enter Tryz.func101, Tryz.ntmps101
 go_wp2_with (go_at_call 143; refine HIX.out.mono ?_; rintro e w1 ⟨rfl, hb⟩; have HB1 := hide hb; clear hb HIX)
 go_ret
 exact ⟨rfl, HB1.out⟩
theorem delf_own (l : List Cf) (v : Value) (B C : Nat) (t : Int) (w : World) (hr : Ro cfc 3 72 w B v l) (hC : w.cell? ⟨C, 3, none⟩ = some (.int .i64 t)) (hCB : C < B) (hB : B ≤ w.heap.size) (hl : l.length ≤ 100000) :
  Calls Tryz.prog 101 #[v, .func (.func 103) #[] #[.pointer (some ⟨C, 0, none⟩)]] w fun e w' => ∃ v', e = .returned v' ∧ Rg cfc w' B v' (l.filter fun x => !(x.tp == t)) ∧ Below B w w' := by
 have hrs := hr.rs
 rcases hr.2 with ⟨rfl, h0⟩ | ⟨g, cap, cur, rfl, a2, a3, a4, a5, a6, a7⟩
 ·obtain rfl := List.eq_nil_iff_length_eq_zero.2 h0
  refine (delf_nil 0 C w).mono ?_
  rintro e w' ⟨rfl, hb⟩
  exact ⟨_, rfl, ⟨none, 0, rfl, Nat.zero_le _, fun q => absurd q (Nat.lt_irrefl 0)⟩, hb.mono hB⟩
 ·have hgl : g < w.heap.size := (Array.getElem?_eq_some_iff.1 a3).1
  have hrg : w.rangeAt g 0 (l.flatMap cfc) := by
   intro j u hj
   have hlt : j < (l.flatMap cfc).length := (List.getElem?_eq_some_iff.1 hj).1
   have h1 : (l.flatMap cfc).length = l.length * 3 := hr.1
   rw [← a7, List.getElem?_take_of_lt (by omega)] at hj
   simp only [World.cell?, a3, Nat.zero_add]
   simpa using hj
  have hth : w.there g 0 (l.length * 3) := fun j hj => by
   have h3 : l.length * 3 ≤ cap * 3 := Nat.mul_le_mul_right 3 a4
   rw [Nat.zero_add]
   constructor
   ·simp only [World.cell?, a3]
    rw [Array.getElem?_eq_getElem (by omega)]
    rfl
   ·simp [World.frozen?, a3]
  refine (delf_any l g cap B C t w hrg hth a4 a2 hgl hB hC (by omega) hl).mono ?_
  rintro e w' ⟨n, rfl, ⟨ao, cap', e1, hc, hrr⟩, hb⟩
  refine ⟨_, rfl, ⟨ao, cap', e1, hc, fun q => ?_⟩, hb⟩
  obtain ⟨b, o, e2, e3⟩ := hrr q
  subst e2
  cases e1
  exact ⟨g, 0, rfl, a2, e3⟩
theorem findConfig_no (m : Im) (p : Ip) (t : Int) (k : List UInt8) (w : World) (hv : ImR w m p) (hw : Wf m 100000) (h : fC m.cf t k = none) : Calls Tryz.prog 97 #[imv m p, .int .i64 t, .string ⟨k.toArray⟩] w fun e w' => ∃ i : Nat, i ≤ m.cf.length ∧ (∀ b, insO (fun x : Cf => cmpC x t k) b m.cf = m.cf.take i ++ b :: m.cf.drop i) ∧ e = .returned (.tuple #[.int .i64 (i : Int), .bool false]) ∧ Below w.heap.size w w' :=
 (findConfig_any m p t k w hv hw.nc (stn_C hw.c t k)).mono fun _ _ q => q.no (stn_C hw.c t k) (fun x => keyC x) h
theorem findConfig_yes (m : Im) (p : Ip) (t : Int) (k : List UInt8) (w : World) (hv : ImR w m p) (hw : Wf m 100000) (b : Cf) (h : fC m.cf t k = some b) : Calls Tryz.prog 97 #[imv m p, .int .i64 t, .string ⟨k.toArray⟩] w fun e w' => ∃ (i : Nat) (hi : i < m.cf.length), m.cf[i] = b ∧ (∀ b, insO (fun x : Cf => cmpC x t k) b m.cf = m.cf.take i ++ b :: m.cf.drop (i + 1)) ∧ remO (fun x : Cf => cmpC x t k) m.cf = m.cf.take i ++ m.cf.drop (i + 1) ∧ (∀ x ∈ m.cf.take i, cmpC x t k < 0) ∧ (∀ x ∈ m.cf.drop (i + 1), 0 < cmpC x t k) ∧ e = .returned (.tuple #[.int .i64 (i : Int), .bool true]) ∧ Below w.heap.size w w' :=
 (findConfig_any m p t k w hv hw.nc (stn_C hw.c t k)).mono fun _ _ q => q.yes (stn_C hw.c t k) (fun x => keyC x) h
theorem putC_ins {l : List Cf} {c : Cf} : putC l c = insO (fun x : Cf => cmpC x c.tp c.ky) c l := rfl
theorem remC_rem {l : List Cf} {t : Int} {k : List UInt8} : (l.filter fun c => !idC t k c) = remO (fun x : Cf => cmpC x t k) l := by
 unfold remO
 congr 1
 funext x
 have := @cmpC_zero x t k
 cases h : idC t k x with
 | true => rw [decide_eq_true (this.2 h)]
 | false => rw [decide_eq_false (fun q => by rw [this.1 q] at h; cases h)]
theorem remQ_rem {l : List Tq} {id : Int} : (l.filter fun t => !idQ id t) = remO (fun x : Tq => cmpN x.id id) l := by
 unfold remO
 congr 1
 funext x
 by_cases h : x.id = id
 ·rw [decide_eq_true (cmpN_zero.2 h)]; simp [idQ, h]
 ·rw [decide_eq_false (fun q => h (cmpN_zero.1 q))]; simp [idQ, h]
end Go.Proofs.YtlggjgapdpkhiaaGreatDoor
namespace Go.Proofs.YtlggjgapdpkhiaaGreatDoor
open Go.RowKit
structure Df (w : World) (m : Im) (p : Ip) (W : World) : Prop where
 i : Bx W w.heap.size (iml m p)
 z : Bx W (w.heap.size + 1) imz
 b : Below w.heap.size w W
structure Dg (w W : World) (m : Im) (p : Ip) (bo : Nat) (os : List Value) : Prop where
 f : Df w m p W
 o : Bx W bo os
 ge : w.heap.size + 1 + 1 ≤ bo
def Kpd (B B2 : Nat) (A W : World) : Prop := B2 ≤ W.heap.size ∧ ∀ g, B ≤ g → g < B2 → W.heap[g]? = A.heap[g]?
section
variable {w W W' A : World} {m : Im} {p : Ip} {os : List Value} {bo B B2 : Nat}
theorem Df.below (h : Df w m p W) (hb : Below W.heap.size W W') : Df w m p W' := ⟨h.i.below hb, h.z.below hb, bt h.b hb⟩
theorem Df.drewN (h : Df w m p W) (n : Nat) : Df w m p (W.drewN n) := ⟨h.i.drewN n, h.z.drewN n, ⟨h.b.os, h.b.tape, h.b.output, h.b.size, h.b.block⟩⟩
theorem Df.sz (h : Df w m p W) : w.heap.size + 1 + 1 ≤ W.heap.size := h.z.l
theorem Df.out (h : Df w m p W) (hz : Bx W' (w.heap.size + 1) (iml m p)) (hb : ∀ B u, B ≤ w.heap.size + 1 → Below B u W → Below B u W') : Bx W' (w.heap.size + 1) (iml m p) ∧ Below w.heap.size w W' := ⟨hz, hb _ _ (by omega) h.b⟩
theorem Dg.below (h : Dg w W m p bo os) (hb : Below W.heap.size W W') : Dg w W' m p bo os := ⟨h.f.below hb, h.o.below hb, h.ge⟩
theorem Dg.drewN (h : Dg w W m p bo os) (n : Nat) : Dg w (W.drewN n) m p bo os := ⟨h.f.drewN n, h.o.drewN n, h.ge⟩
theorem Dg.set (h : Dg w W m p bo os) (j : Nat) (hj : j < os.length) (v : Value) : Dg w (W.setCell ⟨bo, j, none⟩ v) m p bo (os.set j v) :=
 have hg := h.ge
 ⟨⟨h.f.i.setOther (by omega) j v, h.f.z.setOther (by omega) j v, h.f.b.setCell (p := ⟨bo, j, none⟩) (show w.heap.size ≤ bo by omega) v⟩, h.o.setCell j hj v, hg⟩
theorem Dg.new (h : Df w m p W) (os : List Value) (t : TypeId) : Dg w (W.alloc (.cells os.toArray t)) m p W.heap.size os := ⟨h.below (below_al1 W _), Bx.new W os t, h.sz⟩
theorem Dg.low (h : Dg w W m p bo os) (hb : Below (bo + 1) W W') : Dg w W' m p bo os :=
 have hg := h.ge
 ⟨⟨h.f.i.lowB hb (by omega), h.f.z.lowB hb (by omega), h.f.b.trans (hb.mono (by omega))⟩, h.o.lowB hb (by omega), h.ge⟩
theorem Kpd.below (h : Kpd B B2 A W) (hb : Below B2 W W') : Kpd B B2 A W' := ⟨Nat.le_trans h.1 hb.size, fun g h1 h2 => (hb.block g h2).trans (h.2 g h1 h2)⟩
theorem Kpd.drewN (h : Kpd B B2 A W) (n : Nat) : Kpd B B2 A (W.drewN n) := ⟨h.1, h.2⟩
theorem Kpd.set (h : Kpd B B2 A W) (hb : bo < B) (j : Nat) (v : Value) : Kpd B B2 A (W.setCell ⟨bo, j, none⟩ v) := ⟨by simpa using h.1, fun g h1 h2 => (Below.heap_setCell _ _ _ _ (show ¬ g = bo by omega)).trans (h.2 g h1 h2)⟩
theorem Ro.kr {α : Type} {f : α → List Value} {k : Nat} {T : TypeId} {v : Value} {l : List α} (h : Ro f k T W B v l) (hk : ∀ g, B ≤ g → g < W.heap.size → W'.heap[g]? = W.heap[g]?) : Rs f W' v l := by
 obtain ⟨ao, cap, e, hc, hr⟩ := h.rs
 refine ⟨ao, cap, e, hc, fun q => ?_⟩
 obtain ⟨b, o, e1, e2⟩ := hr q
 refine ⟨b, o, e1, fun j u hu => ?_⟩
 have hl := h.lt b (by rw [e, e1]; rfl)
 have hb := hk b hl.1 hl.2
 have he := e2 j u hu
 simp only [World.cell?] at he ⊢
 rw [hb]
 exact he
end
set_option maxRecDepth 100000 in
set_option maxHeartbeats 16000000 in
theorem rdrop_any (m : Im) (p : Ip) (r : Rc) (w : World) (n0 : Nat → Prop) (hn0 : ∀ g, n0 g → g < w.heap.size) (hv : ∀ W, (∀ g, n0 g → W.heap[g]? = w.heap[g]?) → ImR W m p) (hw : Wf m 100000) : Calls Tryz.prog 30 #[imv m p, .int .i64 r.tp] w fun e w' => StD n0 w w' (drpT m r).1 (drpT m r).2 e := by
 have HVV := hide (fun (W W3 : World) (hb : Below w.heap.size w W3) (hW : Agr n0 w.heap.size W3 W) => hv W (fun g hg => (hW g (.inl hg)).trans (hb.block g (hn0 g hg))))
 replace hv : ImR w m p := hv w (fun _ _ => rfl)
 have HV := hide (fun W (h : Below w.heap.size w W) => hv.below h)
 have HTP := hide (fun W (h : Below w.heap.size w W) => rtopic_any m p r.tp W (hv.below h) (by rw [hv.len]; exact hw.nt))
 have HNT : Hid (p.ts.length ≤ 100000) := hide (by rw [hv.len]; exact hw.nt)
 have HNC := hide hw.nc
 have HFN := hide (hv.fT r.tp)
 obtain ⟨u, hu⟩ : ∃ u, u = tqOf p r.tp := ⟨_, rfl⟩
 rw [← hu] at HTP
 clear hu
 obtain ⟨T1, hT1⟩ : ∃ T, T = m.ts.filter fun t => !idT r.tp t := ⟨_, rfl⟩
 have HTL : Hid ((p.ts.filter fun t => !idQ r.tp t).map Tq.tp = T1) := hide (by rw [hT1, ← hv.e, List.filter_map]; rfl)
 cases hf : p.ts.find? (idQ r.tp) with
 | none =>
  have HRE : Hid (drpT m r = (m, 8)) := hide (by unfold drpT; rw [HFN.out, hf]; rfl)
  rw [HRE.out]
  rw [hf] at HTP
  clear hf hT1 HTL
  unfold imv at HTP
  unfold tpc at HTP
  simp only [Option.isSome_none] at HTP
  have HFR0 : Df w m p ((w.alloc (.cells (List.toArray [Value.slice p.ab m.br.length p.cb, .slice p.aq p.ts.length p.cq, .slice p.ac m.cf.length p.cc, .slice p.ad m.dn.length p.cd, .int .i64 m.la]) 30)).alloc (.cells (List.toArray [Value.slice none 0 0, .slice none 0 0, .slice none 0 0, .slice none 0 0, .int .i64 0]) 30)) := by
   obtain ⟨h1, h2, h3⟩ := Bx.mk2 w (iml m p) imz 30 30 (Below.refl _ _)
   exact ⟨h1, h2, h3⟩
  clear hv hw hn0
  unfold imv
  go_enter Tryz.func30, Tryz.ntmps30
  go_upto_region 1 with fail
  generalize (w.alloc (.cells (List.toArray [Value.slice p.ab m.br.length p.cb, .slice p.aq p.ts.length p.cq, .slice p.ac m.cf.length p.cc, .slice p.ad m.dn.length p.cd, .int .i64 m.la]) 30)).alloc (.cells (List.toArray [Value.slice none 0 0, .slice none 0 0, .slice none 0 0, .slice none 0 0, .int .i64 0]) 30) = X at HFR0 ⊢
  have HFR := hide HFR0
  clear HFR0
  obtain ⟨i0, i1, i2, i3, i4⟩ := HFR.out.i.im
  go_upto_region 2 with (first | (refine wpList_load_mid rfl _ _ rfl _ _ rfl _ _ HFR.out.i.c Tryz.underlying30 rfl (by kernel_rfl) ?_) | (go_at_call 68; refine (HTP.out _ HFR.out.b).mono ?_; rintro e wx ⟨rfl, hbx⟩; replace HFR := hide (HFR.out.below hbx); clear i0 i1 i2 i3 i4; clear hbx HTP))
  replace HFR := hide (HFR.out.below (below_al1 wx (.cells (List.toArray [Value.int .i64 u.id, .string ⟨u.nm.toArray⟩, .slice u.a u.ps.length u.c]) 70)))
  generalize wx.alloc (.cells (List.toArray [Value.int .i64 u.id, .string ⟨u.nm.toArray⟩, .slice u.a u.ps.length u.c]) 70) = X2 at HFR ⊢
  obtain ⟨i0, i1, i2, i3, i4⟩ := HFR.out.i.im
  go_wp2_with (first | (refine wpList_load_mid rfl _ _ rfl _ _ rfl _ _ HFR.out.i.c Tryz.underlying30 rfl (by kernel_rfl) ?_) | (refine wpList_set rfl _ _ _ rfl _ _ rfl HFR.out.z (iml m p) rfl rfl (by kernel_rfl) rfl ?_; intro W3 hz hk hb hp; have HFO := hide (HFR.out.out hz hb); clear hz hk hb hp))
  obtain ⟨q0, q1, q2, q3, q4⟩ := HFO.out.1.im
  exact bodyPost_ret (v := .tuple #[.agg (iml m p).toArray, .int .i64 8]) (by simp [results, Tryz.results30, go_sem, q0, q1, q2, q3, q4, iml]) rfl ⟨p, rfl, (fun W hW => HVV.out W _ HFO.out.2 hW), HFO.out.2⟩
 | some q9 =>
  obtain ⟨L2, hL2⟩ : ∃ L, L = m.cf.filter fun c => !(c.tp == r.tp) := ⟨_, rfl⟩
  have HRE : Hid (drpT m r = ({ m with ts := T1, cf := L2 }, 0)) := hide (by unfold drpT; rw [HFN.out, hf, hT1, hL2]; rfl)
  have HL2 := hide hL2
  clear hL2
  rw [HRE.out]
  rw [hf] at HTP
  clear hf hT1
  unfold imv at HTP
  unfold tpc at HTP
  simp only [Option.isSome_some] at HTP
  have HFR0 : Df w m p ((w.alloc (.cells (List.toArray [Value.slice p.ab m.br.length p.cb, .slice p.aq p.ts.length p.cq, .slice p.ac m.cf.length p.cc, .slice p.ad m.dn.length p.cd, .int .i64 m.la]) 30)).alloc (.cells (List.toArray [Value.slice none 0 0, .slice none 0 0, .slice none 0 0, .slice none 0 0, .int .i64 0]) 30)) := by
   obtain ⟨h1, h2, h3⟩ := Bx.mk2 w (iml m p) imz 30 30 (Below.refl _ _)
   exact ⟨h1, h2, h3⟩
  clear hv hw hn0
  unfold imv
  go_enter Tryz.func30, Tryz.ntmps30
  go_upto_region 1 with fail
  generalize (w.alloc (.cells (List.toArray [Value.slice p.ab m.br.length p.cb, .slice p.aq p.ts.length p.cq, .slice p.ac m.cf.length p.cc, .slice p.ad m.dn.length p.cd, .int .i64 m.la]) 30)).alloc (.cells (List.toArray [Value.slice none 0 0, .slice none 0 0, .slice none 0 0, .slice none 0 0, .int .i64 0]) 30) = X at HFR0 ⊢
  have HFR := hide HFR0
  clear HFR0
  obtain ⟨i0, i1, i2, i3, i4⟩ := HFR.out.i.im
  go_upto_region 2 with (first | (refine wpList_load_mid rfl _ _ rfl _ _ rfl _ _ HFR.out.i.c Tryz.underlying30 rfl (by kernel_rfl) ?_) | (go_at_call 68; refine (HTP.out _ HFR.out.b).mono ?_; rintro e wx ⟨rfl, hbx⟩; replace HFR := hide (HFR.out.below hbx); clear i0 i1 i2 i3 i4; clear hbx HTP))
  replace HFR := hide (HFR.out.below (below_al1 wx (.cells (List.toArray [Value.int .i64 u.id, .string ⟨u.nm.toArray⟩, .slice u.a u.ps.length u.c]) 70)))
  generalize wx.alloc (.cells (List.toArray [Value.int .i64 u.id, .string ⟨u.nm.toArray⟩, .slice u.a u.ps.length u.c]) 70) = X2 at HFR ⊢
  obtain ⟨i0, i1, i2, i3, i4⟩ := HFR.out.i.im
  have HIU : Hid (X2.rangeAt w.heap.size 0 [Value.slice p.ab m.br.length p.cb, .slice p.aq p.ts.length p.cq, .slice p.ac m.cf.length p.cc, .slice p.ad m.dn.length p.cd, .int .i64 m.la]) := hide HFR.out.i.c
  go_upto_region 5 with (first | (refine wpList_load_mid rfl _ _ rfl _ _ rfl _ _ HIU.out Tryz.underlying30 rfl (by kernel_rfl) ?_))
  clear HIU
  clear i0 i1 i2 i3 i4
  have HFZ := hide (Dg.new HFR.out [Value.slice p.ab m.br.length p.cb, .slice p.aq p.ts.length p.cq, .slice p.ac m.cf.length p.cc, .slice p.ad m.dn.length p.cd, .int .i64 m.la] 30)
  generalize X2.alloc (.cells (List.toArray [Value.slice p.ab m.br.length p.cb, .slice p.aq p.ts.length p.cq, .slice p.ac m.cf.length p.cc, .slice p.ad m.dn.length p.cd, .int .i64 m.la]) 30) = Y at HFZ ⊢
  generalize X2.heap.size = bo at HFZ ⊢
  have o1 := HFZ.out.o.at 1 _ rfl
  have f1 := HFZ.out.o.f 1 (by simp)
  go_upto_region 6 with fail
  replace HFZ := hide (HFZ.out.set 1 (by simp) (.slice none 0 0))
  simp only [List.set] at HFZ
  clear o1 f1 HFR
  generalize Y.setCell ⟨bo, 1, none⟩ (.slice none 0 0) = Y1 at HFZ ⊢
  go_upto_region 7 with fail
  have hnt := HNT.out
  have hnc := HNC.out
  go_loopw [9] (fun i W => ∃ (k : Nat) (av : Option Addr) (cv : Nat) (Q : List Tq), k ≤ p.ts.length ∧ i = .int .i64 (k : Int) ∧ Dg w W m p bo [Value.slice p.ab m.br.length p.cb, .slice av Q.length cv, .slice p.ac m.cf.length p.cc, .slice p.ad m.dn.length p.cd, .int .i64 m.la] ∧ Ro tpc 3 70 W (bo + 1) (.slice av Q.length cv) Q ∧ Hid (Q = (p.ts.take k).filter (fun y : Tq => !idQ r.tp y))) (fun i _ => p.ts.length - (ivQ i).toNat)
  case atStart => exact ⟨0, none, 0, [], Nat.zero_le _, rfl, HFZ.out, ro_nil _ _ _ _ _, hide rfl⟩
  case round =>
   clear HFZ
   obtain ⟨k, av, cv, Q, hk, rfl, hf, hr, HQ⟩ := hrel
   have HFB := hide hf
   have HRO := hide hr
   clear hf hr
   have i0 := HFB.out.f.i.at 1 _ rfl
   by_cases hlt : k < p.ts.length
   ·have hltI : (k : Int) < (p.ts.length : Int) := by omega
    obtain ⟨bb, ob, hab, hrg⟩ := (HV.out wr HFB.out.f.b).t.rg (show 0 < p.ts.length by omega)
    have HPA := hide hab
    have HXA : Hid (∀ W, Below w.heap.size w W → W.rangeAt bb (ob + k * 3) (tpc p.ts[k])) := hide (fun W h => by
     have hh := (HV.out W h).t
     rw [hab] at hh
     exact hh.at encT hlt)
    rw [hab] at i0
    clear hab hrg
    have HT : Hid (∀ c, c = (fun y : Tq => !idQ r.tp y) p.ts[k] → (p.ts.take (k + 1)).filter (fun y : Tq => !idQ r.tp y) = Q ++ (if c then [p.ts[k]] else [])) := hide (fun c hc => by
     rw [List.take_succ_eq_append_getElem hlt, List.filter_append, ← HQ.out, hc, List.filter_cons, List.filter_nil])
    generalize p.ts[k] = x at HXA HT
    unfold tpc at HXA
    have c0 : wr.cell? ⟨bb, ob + k * 3, none⟩ = some (.int .i64 x.id) := HXA.out wr HFB.out.f.b 0 _ rfl
    by_cases hx : x.id = r.tp
    ·have n1 : (x.id != r.tp) = false := by simp [hx]
     have HQ3 : Hid (Q = (p.ts.take (k + 1)).filter (fun y : Tq => !idQ r.tp y)) := hide (by rw [HT.out false (by simp [idQ, hx])]; simp)
     clear hx
     go_wp2_with fail
     go_roundw
     case rel => exact ⟨k + 1, av, cv, Q, by omega, by go_num, HFB.out, HRO.out, HQ3⟩
     case measure => simp [ivQ]; omega
    ·have n1 : (x.id != r.tp) = true := by simpa using hx
     obtain ⟨Q2, hq2⟩ : ∃ Q2, Q2 = Q ++ [x] := ⟨_, rfl⟩
     have HQ2 := hide hq2
     have HQ3 : Hid (Q2 = (p.ts.take (k + 1)).filter (fun y : Tq => !idQ r.tp y)) := hide (by rw [HT.out true (by simp [idQ, hx]), hq2]; simp)
     have HQL : Hid (Q.length + [x].length ≤ 2000000000) := hide (by rw [HQ.out]; have h1 := List.length_filter_le (fun y : Tq => !idQ r.tp y) (p.ts.take k); have h2 : (p.ts.take k).length ≤ k := (by rw [List.length_take]; omega); have := HNT.out; simp only [List.length_cons, List.length_nil]; omega)
     clear hx hq2
     go_wp2_with fail
     clear c0 i0
     refine wp_region_held_drew (S := fun W => Df w m p W) (by kernel_rfl) (HFB.out.f.drewN 1) (fun hHeld => ?_)
     have HF4 : Hid (Dg w wr.drew m p bo [Value.slice p.ab m.br.length p.cb, .slice av Q.length cv, .slice p.ac m.cf.length p.cc, .slice p.ad m.dn.length p.cd, .int .i64 m.la]) := hide (HFB.out.drewN 1)
     have HR4 : Hid (Ro tpc 3 70 wr.drew (bo + 1) (.slice av Q.length cv) Q) := hide HRO.out
     generalize wr.drew = V4 at hHeld HF4 HR4 ⊢
     clear HFB HRO
     refine tk 0 37 (.pointer (some ⟨bo, 1, none⟩)) rfl rfl hHeld ?_
     simp only [Act.put, zA, zB, zC]
     refine tk 2 39 (.pointer (some ⟨w.heap.size, 1, none⟩)) rfl rfl hHeld ?_
     simp only [Act.put, zA, zB, zC]
     refine tky 3 40 (.slice (some ⟨bb, ob, none⟩) p.ts.length p.cq) rfl rfl (Or.inl ⟨by rfl, by intro w hSw; have h0 := hSw.i.at 1 _ rfl; rw [HPA.out] at h0; go_simp⟩) hHeld ?_
     simp only [Act.put, zA, zB, zC]
     refine tk 4 41 (.int .i64 (k : Int)) rfl rfl hHeld ?_
     simp only [Act.put, zA, zB, zC]
     refine tk 5 42 (.pointer (some ⟨bb, ob + k * 3, none⟩)) rfl rfl hHeld ?_
     simp only [Act.put, zA, zB, zC]
     refine tky 6 43 (_) rfl rfl (yieldsIf_load_mid (by rfl) _ _ rfl _ _ rfl ([Value.int .i64 x.id, .string ⟨x.nm.toArray⟩, .slice x.a x.ps.length x.c]) _ (fun W hW => HXA.out W hW.b) Tryz.underlying70 rfl (by kernel_rfl)) hHeld ?_
     simp only [Act.put, zA, zB, zC]
     refine wpAnyH_ready (rs := [1, 7]) (by kernel_rfl) (by simp) ?_
     refine AllReadyH.cons (o := _) rfl (fun K hK => ?_) (AllReadyH.cons (o := _) rfl (fun K hK => ?_) AllReadyH.nil)
     ·have h0 := HF4.out.o.at 1 _ rfl
      go_simp
      clear h0
      refine hK.out _ _ hHeld (fun hHeld1 => ?_)
      clear hK K hHeld
      have hHeld := hHeld1
      clear hHeld1
      refine wpAnyH_ready (rs := [7]) (by kernel_rfl) (by simp) ?_
      refine AllReadyH.cons (o := _) rfl (fun K hK => ?_) AllReadyH.nil
      go_simp
      have HF5 := hide (HF4.out.below (below_al1 V4 (.cells (List.toArray [Value.int .i64 x.id, .string ⟨x.nm.toArray⟩, .slice x.a x.ps.length x.c]) 70)))
      have HR5 := hide (HR4.out.below (below_al1 V4 (.cells (List.toArray [Value.int .i64 x.id, .string ⟨x.nm.toArray⟩, .slice x.a x.ps.length x.c]) 70)))
      have HC5 := hide (Bx.new V4 [Value.int .i64 x.id, .string ⟨x.nm.toArray⟩, .slice x.a x.ps.length x.c] 70).c
      refine hK.out _ _ HF5.out.f (fun hHeld1 => ?_)
      clear hK K hHeld
      have hHeld := hHeld1
      clear hHeld1
      refine wpAnyH_ready (rs := [8]) (by kernel_rfl) (by simp) ?_
      refine AllReadyH.cons (o := _) rfl (fun K hK => ?_) AllReadyH.nil
      refine step_appR tyiT encT rfl _ _ rfl (bo + 1) (.slice av Q.length cv) Q rfl HR5.out (by have := HF5.out.o.l; omega) _ [x] rfl ⟨_, 1, rfl, Nat.le_refl _, fun _ => ⟨_, 0, rfl, by have := HC5.out; simpa [tpc] using this⟩⟩ HQL.out ?_
      intro av2 cv2 w1 ho1 hb1
      have HF6 := hide (HF5.out.low hb1)
      have HR6 := hide ho1
      clear ho1 hb1
      rw [← HQ2.out] at HR6 ⊢
      refine hK.out _ _ HF6.out.f (fun hHeld1 => ?_)
      clear hK K hHeld
      have hHeld := hHeld1
      clear hHeld1
      change wpAnyH _ _ _ _ _ _ _ (Act.put _ (some 45) _) _
      simp only [Act.put, zA, zB, zC]
      refine tk 9 46 (.pointer (some ⟨bo, 1, none⟩)) rfl rfl hHeld ?_
      simp only [Act.put, zA, zB, zC]
      refine wpAnyH_ready (rs := [10]) (by kernel_rfl) (by simp) ?_
      refine AllReadyH.cons (o := _) rfl (fun K hK => ?_) AllReadyH.nil
      have o0 := HF6.out.o.at 1 _ rfl
      have f0 := HF6.out.o.f 1 (by simp)
      go_simp
      clear o0 f0
      have HF70 := hide (HF6.out.set 1 (by simp) (.slice av2 Q2.length cv2))
      simp only [List.set] at HF70
      have HR7 := hide (HR6.out.keepG (W' := w1.setCell ⟨bo, 1, none⟩ (.slice av2 Q2.length cv2)) (fun g hg => Below.heap_setCell _ _ _ _ (show ¬ g = bo by omega)))
      refine hK.out _ _ HF70.out.f (fun hHeld1 => ?_)
      clear hK K hHeld
      have hHeld := hHeld1
      clear hHeld1
      refine wpAnyH_done (by kernel_rfl) ?_ _
      clear hHeld
      go_wp2_with fail
      go_roundw
      case rel => exact ⟨k + 1, av2, cv2, Q2, by omega, by go_num, HF70.out, HR7.out, HQ3⟩
      case measure => simp [ivQ]; omega
     ·go_simp
      have HF5 := hide (HF4.out.below (below_al1 V4 (.cells (List.toArray [Value.int .i64 x.id, .string ⟨x.nm.toArray⟩, .slice x.a x.ps.length x.c]) 70)))
      have HR5 := hide (HR4.out.below (below_al1 V4 (.cells (List.toArray [Value.int .i64 x.id, .string ⟨x.nm.toArray⟩, .slice x.a x.ps.length x.c]) 70)))
      have HC5 := hide (Bx.new V4 [Value.int .i64 x.id, .string ⟨x.nm.toArray⟩, .slice x.a x.ps.length x.c] 70).c
      refine hK.out _ _ HF5.out.f (fun hHeld1 => ?_)
      clear hK K hHeld
      have hHeld := hHeld1
      clear hHeld1
      refine wpAnyH_ready (rs := [1]) (by kernel_rfl) (by simp) ?_
      refine AllReadyH.cons (o := _) rfl (fun K hK => ?_) AllReadyH.nil
      have h0 := HF5.out.o.at 1 _ rfl
      go_simp
      clear h0
      refine hK.out _ _ hHeld (fun hHeld1 => ?_)
      clear hK K hHeld
      have hHeld := hHeld1
      clear hHeld1
      refine wpAnyH_ready (rs := [8]) (by kernel_rfl) (by simp) ?_
      refine AllReadyH.cons (o := _) rfl (fun K hK => ?_) AllReadyH.nil
      refine step_appR tyiT encT rfl _ _ rfl (bo + 1) (.slice av Q.length cv) Q rfl HR5.out (by have := HF5.out.o.l; omega) _ [x] rfl ⟨_, 1, rfl, Nat.le_refl _, fun _ => ⟨_, 0, rfl, by have := HC5.out; simpa [tpc] using this⟩⟩ HQL.out ?_
      intro av2 cv2 w1 ho1 hb1
      have HF6 := hide (HF5.out.low hb1)
      have HR6 := hide ho1
      clear ho1 hb1
      rw [← HQ2.out] at HR6 ⊢
      refine hK.out _ _ HF6.out.f (fun hHeld1 => ?_)
      clear hK K hHeld
      have hHeld := hHeld1
      clear hHeld1
      change wpAnyH _ _ _ _ _ _ _ (Act.put _ (some 45) _) _
      simp only [Act.put, zA, zB, zC]
      refine tk 9 46 (.pointer (some ⟨bo, 1, none⟩)) rfl rfl hHeld ?_
      simp only [Act.put, zA, zB, zC]
      refine wpAnyH_ready (rs := [10]) (by kernel_rfl) (by simp) ?_
      refine AllReadyH.cons (o := _) rfl (fun K hK => ?_) AllReadyH.nil
      have o0 := HF6.out.o.at 1 _ rfl
      have f0 := HF6.out.o.f 1 (by simp)
      go_simp
      clear o0 f0
      have HF70 := hide (HF6.out.set 1 (by simp) (.slice av2 Q2.length cv2))
      simp only [List.set] at HF70
      have HR7 := hide (HR6.out.keepG (W' := w1.setCell ⟨bo, 1, none⟩ (.slice av2 Q2.length cv2)) (fun g hg => Below.heap_setCell _ _ _ _ (show ¬ g = bo by omega)))
      refine hK.out _ _ HF70.out.f (fun hHeld1 => ?_)
      clear hK K hHeld
      have hHeld := hHeld1
      clear hHeld1
      refine wpAnyH_done (by kernel_rfl) ?_ _
      clear hHeld
      go_wp2_with fail
      go_roundw
      case rel => exact ⟨k + 1, av2, cv2, Q2, by omega, by go_num, HF70.out, HR7.out, HQ3⟩
      case measure => simp [ivQ]; omega
   ·obtain rfl : k = p.ts.length := by omega
    obtain ⟨L1, hL1⟩ : ∃ L, L = p.ts.filter fun t => !idQ r.tp t := ⟨_, rfl⟩
    have hq : L1 = Q := by rw [hL1, HQ.out, List.take_length]
    clear HQ
    rw [← hL1] at HTL
    have HMQ : Hid (∀ t ∈ L1, t ∈ p.ts) := hide (fun t ht => by rw [hL1] at ht; exact (List.mem_filter.1 ht).1)
    clear hL1
    subst hq
    have o2 := HFB.out.o.at 2 _ rfl
    have f2 := HFB.out.o.f 2 (by simp)
    go_upto_region 12 with fail
    clear o2 f2 i0
    have HFZ0 := hide (HFB.out.set 2 (by simp) (.slice none 0 0))
    simp only [List.set] at HFZ0
    have HRN := hide (HRO.out.keepG (W' := wr.setCell ⟨bo, 2, none⟩ (.slice none 0 0)) (fun g hg => Below.heap_setCell _ _ _ _ (show ¬ g = bo by omega)))
    clear HFB HRO
    generalize wr.setCell ⟨bo, 2, none⟩ (.slice none 0 0) = A2 at HFZ0 HRN ⊢
    have HFZ := hide HFZ0.out
    clear HFZ0
    obtain ⟨B2, hB2⟩ : ∃ B2, B2 = A2.heap.size := ⟨_, rfl⟩
    have HKR : Hid (∀ W', (∀ g, bo + 1 ≤ g → g < B2 → W'.heap[g]? = A2.heap[g]?) → Rs tpc W' (.slice av L1.length cv) L1) := hide (fun W' h => HRN.out.kr (fun g h1 h2 => h g h1 (by rw [hB2]; exact h2)))
    have HBB2 : Hid (bo + 1 ≤ B2) := hide (by rw [hB2]; exact HFZ.out.o.l)
    have HKS : Hid (Kpd (bo + 1) B2 A2 A2) := hide ⟨by omega, fun _ _ _ => rfl⟩
    clear hB2 HRN
    generalize av = av1 at HFZ HKR ⊢
    generalize cv = cv1 at HFZ HKR ⊢
    go_upto_region 13 with fail
    go_loopw [10] (fun i W => ∃ (k : Nat) (av : Option Addr) (cv : Nat) (Q : List Cf), k ≤ m.cf.length ∧ i = .int .i64 (k : Int) ∧ Dg w W m p bo [Value.slice p.ab m.br.length p.cb, .slice av1 L1.length cv1, .slice av Q.length cv, .slice p.ad m.dn.length p.cd, .int .i64 m.la] ∧ Ro cfc 3 72 W (B2) (.slice av Q.length cv) Q ∧ Kpd (bo + 1) B2 A2 W ∧ Hid (Q = (m.cf.take k).filter (fun y : Cf => !(y.tp == r.tp)))) (fun i _ => m.cf.length - (ivQ i).toNat)
    case atStart => exact ⟨0, none, 0, [], Nat.zero_le _, rfl, HFZ.out, ro_nil _ _ _ _ _, HKS.out, hide rfl⟩
    case round =>
     clear HFZ HKS
     obtain ⟨k, av, cv, Q, hk, rfl, hf, hr, hkp, HQ⟩ := hrel
     have HFB := hide hf
     have HRO := hide hr
     have HKP := hide hkp
     clear hf hr hkp
     have i0 := HFB.out.f.i.at 2 _ rfl
     by_cases hlt : k < m.cf.length
     ·have hltI : (k : Int) < (m.cf.length : Int) := by omega
      obtain ⟨bb, ob, hab, hrg⟩ := (HV.out wr HFB.out.f.b).c.rg (show 0 < m.cf.length by omega)
      have HPA := hide hab
      have HXA : Hid (∀ W, Below w.heap.size w W → W.rangeAt bb (ob + k * 3) (cfc m.cf[k])) := hide (fun W h => by
       have hh := (HV.out W h).c
       rw [hab] at hh
       exact hh.at encC hlt)
      rw [hab] at i0
      clear hab hrg
      have HT : Hid (∀ c, c = (fun y : Cf => !(y.tp == r.tp)) m.cf[k] → (m.cf.take (k + 1)).filter (fun y : Cf => !(y.tp == r.tp)) = Q ++ (if c then [m.cf[k]] else [])) := hide (fun c hc => by
       rw [List.take_succ_eq_append_getElem hlt, List.filter_append, ← HQ.out, hc, List.filter_cons, List.filter_nil])
      generalize m.cf[k] = x at HXA HT
      unfold cfc at HXA
      have c0 : wr.cell? ⟨bb, ob + k * 3, none⟩ = some (.int .i64 x.tp) := HXA.out wr HFB.out.f.b 0 _ rfl
      by_cases hx : x.tp = r.tp
      ·have n1 : (x.tp != r.tp) = false := by simp [hx]
       have HQ3 : Hid (Q = (m.cf.take (k + 1)).filter (fun y : Cf => !(y.tp == r.tp))) := hide (by rw [HT.out false (by simp [hx])]; simp)
       clear hx
       go_wp2_with fail
       go_roundw
       case rel => exact ⟨k + 1, av, cv, Q, by omega, by go_num, HFB.out, HRO.out, HKP.out, HQ3⟩
       case measure => simp [ivQ]; omega
      ·have n1 : (x.tp != r.tp) = true := by simpa using hx
       obtain ⟨Q2, hq2⟩ : ∃ Q2, Q2 = Q ++ [x] := ⟨_, rfl⟩
       have HQ2 := hide hq2
       have HQ3 : Hid (Q2 = (m.cf.take (k + 1)).filter (fun y : Cf => !(y.tp == r.tp))) := hide (by rw [HT.out true (by simp [hx]), hq2]; simp)
       have HQL : Hid (Q.length + [x].length ≤ 2000000000) := hide (by rw [HQ.out]; have h1 := List.length_filter_le (fun y : Cf => !(y.tp == r.tp)) (m.cf.take k); have h2 : (m.cf.take k).length ≤ k := (by rw [List.length_take]; omega); have := HNC.out; simp only [List.length_cons, List.length_nil]; omega)
       clear hx hq2
       go_wp2_with fail
       clear c0 i0
       refine wp_region_held_drew (S := fun W => Df w m p W) (by kernel_rfl) (HFB.out.f.drewN 1) (fun hHeld => ?_)
       have HF4 : Hid (Dg w wr.drew m p bo [Value.slice p.ab m.br.length p.cb, .slice av1 L1.length cv1, .slice av Q.length cv, .slice p.ad m.dn.length p.cd, .int .i64 m.la]) := hide (HFB.out.drewN 1)
       have HR4 : Hid (Ro cfc 3 72 wr.drew (B2) (.slice av Q.length cv) Q) := hide HRO.out
       have HK4 : Hid (Kpd (bo + 1) B2 A2 wr.drew) := hide (HKP.out.drewN 1)
       generalize wr.drew = V4 at hHeld HF4 HR4 HK4 ⊢
       clear HFB HRO HKP
       refine tk 0 63 (.pointer (some ⟨bo, 2, none⟩)) rfl rfl hHeld ?_
       simp only [Act.put, zA, zB, zC]
       refine tk 2 65 (.pointer (some ⟨w.heap.size, 2, none⟩)) rfl rfl hHeld ?_
       simp only [Act.put, zA, zB, zC]
       refine tky 3 66 (.slice (some ⟨bb, ob, none⟩) m.cf.length p.cc) rfl rfl (Or.inl ⟨by rfl, by intro w hSw; have h0 := hSw.i.at 2 _ rfl; rw [HPA.out] at h0; go_simp⟩) hHeld ?_
       simp only [Act.put, zA, zB, zC]
       refine tk 4 67 (.int .i64 (k : Int)) rfl rfl hHeld ?_
       simp only [Act.put, zA, zB, zC]
       refine tk 5 68 (.pointer (some ⟨bb, ob + k * 3, none⟩)) rfl rfl hHeld ?_
       simp only [Act.put, zA, zB, zC]
       refine tky 6 69 (_) rfl rfl (yieldsIf_load_mid (by rfl) _ _ rfl _ _ rfl ([Value.int .i64 x.tp, .string ⟨x.ky.toArray⟩, .string ⟨x.va.toArray⟩]) _ (fun W hW => HXA.out W hW.b) Tryz.underlying72 rfl (by kernel_rfl)) hHeld ?_
       simp only [Act.put, zA, zB, zC]
       refine wpAnyH_ready (rs := [1, 7]) (by kernel_rfl) (by simp) ?_
       refine AllReadyH.cons (o := _) rfl (fun K hK => ?_) (AllReadyH.cons (o := _) rfl (fun K hK => ?_) AllReadyH.nil)
       ·have h0 := HF4.out.o.at 2 _ rfl
        go_simp
        clear h0
        refine hK.out _ _ hHeld (fun hHeld1 => ?_)
        clear hK K hHeld
        have hHeld := hHeld1
        clear hHeld1
        refine wpAnyH_ready (rs := [7]) (by kernel_rfl) (by simp) ?_
        refine AllReadyH.cons (o := _) rfl (fun K hK => ?_) AllReadyH.nil
        go_simp
        have HF5 := hide (HF4.out.below (below_al1 V4 (.cells (List.toArray [Value.int .i64 x.tp, .string ⟨x.ky.toArray⟩, .string ⟨x.va.toArray⟩]) 72)))
        have HR5 := hide (HR4.out.below (below_al1 V4 (.cells (List.toArray [Value.int .i64 x.tp, .string ⟨x.ky.toArray⟩, .string ⟨x.va.toArray⟩]) 72)))
        have HC5 := hide (Bx.new V4 [Value.int .i64 x.tp, .string ⟨x.ky.toArray⟩, .string ⟨x.va.toArray⟩] 72).c
        have HK5 := hide (HK4.out.below ((below_al1 V4 (.cells (List.toArray [Value.int .i64 x.tp, .string ⟨x.ky.toArray⟩, .string ⟨x.va.toArray⟩]) 72)).mono HK4.out.1))
        refine hK.out _ _ HF5.out.f (fun hHeld1 => ?_)
        clear hK K hHeld
        have hHeld := hHeld1
        clear hHeld1
        refine wpAnyH_ready (rs := [8]) (by kernel_rfl) (by simp) ?_
        refine AllReadyH.cons (o := _) rfl (fun K hK => ?_) AllReadyH.nil
        refine step_appR tyiC encC rfl _ _ rfl (B2) (.slice av Q.length cv) Q rfl HR5.out HK5.out.1 _ [x] rfl ⟨_, 1, rfl, Nat.le_refl _, fun _ => ⟨_, 0, rfl, by have := HC5.out; simpa [cfc] using this⟩⟩ HQL.out ?_
        intro av2 cv2 w1 ho1 hb1
        have HF6 := hide (HF5.out.low (hb1.mono (by have := HBB2.out; omega)))
        have HR6 := hide ho1
        have HK6 := hide (HK5.out.below hb1)
        clear ho1 hb1
        rw [← HQ2.out] at HR6 ⊢
        refine hK.out _ _ HF6.out.f (fun hHeld1 => ?_)
        clear hK K hHeld
        have hHeld := hHeld1
        clear hHeld1
        change wpAnyH _ _ _ _ _ _ _ (Act.put _ (some 71) _) _
        simp only [Act.put, zA, zB, zC]
        refine tk 9 72 (.pointer (some ⟨bo, 2, none⟩)) rfl rfl hHeld ?_
        simp only [Act.put, zA, zB, zC]
        refine wpAnyH_ready (rs := [10]) (by kernel_rfl) (by simp) ?_
        refine AllReadyH.cons (o := _) rfl (fun K hK => ?_) AllReadyH.nil
        have o0 := HF6.out.o.at 2 _ rfl
        have f0 := HF6.out.o.f 2 (by simp)
        go_simp
        clear o0 f0
        have HF70 := hide (HF6.out.set 2 (by simp) (.slice av2 Q2.length cv2))
        simp only [List.set] at HF70
        have HR7 := hide (HR6.out.keepG (W' := w1.setCell ⟨bo, 2, none⟩ (.slice av2 Q2.length cv2)) (fun g hg => Below.heap_setCell _ _ _ _ (show ¬ g = bo by have := HBB2.out; omega)))
        have HK7 := hide (HK6.out.set (Nat.lt_succ_self bo) 2 (.slice av2 Q2.length cv2))
        refine hK.out _ _ HF70.out.f (fun hHeld1 => ?_)
        clear hK K hHeld
        have hHeld := hHeld1
        clear hHeld1
        refine wpAnyH_done (by kernel_rfl) ?_ _
        clear hHeld
        go_wp2_with fail
        go_roundw
        case rel => exact ⟨k + 1, av2, cv2, Q2, by omega, by go_num, HF70.out, HR7.out, HK7.out, HQ3⟩
        case measure => simp [ivQ]; omega
       ·go_simp
        have HF5 := hide (HF4.out.below (below_al1 V4 (.cells (List.toArray [Value.int .i64 x.tp, .string ⟨x.ky.toArray⟩, .string ⟨x.va.toArray⟩]) 72)))
        have HR5 := hide (HR4.out.below (below_al1 V4 (.cells (List.toArray [Value.int .i64 x.tp, .string ⟨x.ky.toArray⟩, .string ⟨x.va.toArray⟩]) 72)))
        have HC5 := hide (Bx.new V4 [Value.int .i64 x.tp, .string ⟨x.ky.toArray⟩, .string ⟨x.va.toArray⟩] 72).c
        have HK5 := hide (HK4.out.below ((below_al1 V4 (.cells (List.toArray [Value.int .i64 x.tp, .string ⟨x.ky.toArray⟩, .string ⟨x.va.toArray⟩]) 72)).mono HK4.out.1))
        refine hK.out _ _ HF5.out.f (fun hHeld1 => ?_)
        clear hK K hHeld
        have hHeld := hHeld1
        clear hHeld1
        refine wpAnyH_ready (rs := [1]) (by kernel_rfl) (by simp) ?_
        refine AllReadyH.cons (o := _) rfl (fun K hK => ?_) AllReadyH.nil
        have h0 := HF5.out.o.at 2 _ rfl
        go_simp
        clear h0
        refine hK.out _ _ hHeld (fun hHeld1 => ?_)
        clear hK K hHeld
        have hHeld := hHeld1
        clear hHeld1
        refine wpAnyH_ready (rs := [8]) (by kernel_rfl) (by simp) ?_
        refine AllReadyH.cons (o := _) rfl (fun K hK => ?_) AllReadyH.nil
        refine step_appR tyiC encC rfl _ _ rfl (B2) (.slice av Q.length cv) Q rfl HR5.out HK5.out.1 _ [x] rfl ⟨_, 1, rfl, Nat.le_refl _, fun _ => ⟨_, 0, rfl, by have := HC5.out; simpa [cfc] using this⟩⟩ HQL.out ?_
        intro av2 cv2 w1 ho1 hb1
        have HF6 := hide (HF5.out.low (hb1.mono (by have := HBB2.out; omega)))
        have HR6 := hide ho1
        have HK6 := hide (HK5.out.below hb1)
        clear ho1 hb1
        rw [← HQ2.out] at HR6 ⊢
        refine hK.out _ _ HF6.out.f (fun hHeld1 => ?_)
        clear hK K hHeld
        have hHeld := hHeld1
        clear hHeld1
        change wpAnyH _ _ _ _ _ _ _ (Act.put _ (some 71) _) _
        simp only [Act.put, zA, zB, zC]
        refine tk 9 72 (.pointer (some ⟨bo, 2, none⟩)) rfl rfl hHeld ?_
        simp only [Act.put, zA, zB, zC]
        refine wpAnyH_ready (rs := [10]) (by kernel_rfl) (by simp) ?_
        refine AllReadyH.cons (o := _) rfl (fun K hK => ?_) AllReadyH.nil
        have o0 := HF6.out.o.at 2 _ rfl
        have f0 := HF6.out.o.f 2 (by simp)
        go_simp
        clear o0 f0
        have HF70 := hide (HF6.out.set 2 (by simp) (.slice av2 Q2.length cv2))
        simp only [List.set] at HF70
        have HR7 := hide (HR6.out.keepG (W' := w1.setCell ⟨bo, 2, none⟩ (.slice av2 Q2.length cv2)) (fun g hg => Below.heap_setCell _ _ _ _ (show ¬ g = bo by have := HBB2.out; omega)))
        have HK7 := hide (HK6.out.set (Nat.lt_succ_self bo) 2 (.slice av2 Q2.length cv2))
        refine hK.out _ _ HF70.out.f (fun hHeld1 => ?_)
        clear hK K hHeld
        have hHeld := hHeld1
        clear hHeld1
        refine wpAnyH_done (by kernel_rfl) ?_ _
        clear hHeld
        go_wp2_with fail
        go_roundw
        case rel => exact ⟨k + 1, av2, cv2, Q2, by omega, by go_num, HF70.out, HR7.out, HK7.out, HQ3⟩
        case measure => simp [ivQ]; omega
     ·obtain rfl : k = m.cf.length := by omega
      have HLL : Hid (L2 = Q) := hide (by rw [HL2.out, HQ.out, List.take_length])
      have hq := HLL.out
      clear HLL HQ HL2
      subst hq
      go_wp2_with (first | (refine wpList_load_mid rfl _ _ rfl _ _ rfl _ _ HFB.out.o.c Tryz.underlying30 rfl (by kernel_rfl) ?_) | (refine wpList_set rfl _ _ _ rfl _ _ rfl HFB.out.f.z (iml { m with ts := T1, cf := L2 } { p with aq := av1, cq := cv1, ts := L1, ac := av, cc := cv }) rfl rfl (by kernel_rfl) rfl ?_; intro W3 hz hk hb hp; have HZ := hide hz; have HBB := hide (hb _ _ (show w.heap.size ≤ w.heap.size + 1 by omega) HFB.out.f.b); have HRT := hide (fun W (hW : Agr n0 w.heap.size W3 W) => HKR.out W (fun g h1 h2 => ((hW g (.inr (by have := HFB.out.ge; omega))).trans (hp g (by have := HFB.out.ge; omega))).trans (HKP.out.2 g h1 h2))); have HRS := hide (fun W (hW : Agr n0 w.heap.size W3 W) => (HRO.out.keepG (fun g hg => (hW g (.inr (by have := HBB2.out; have := HFB.out.ge; omega))).trans (hp g (by have := HBB2.out; have := HFB.out.ge; omega)))).rs); clear hz hk hb hp))
      obtain ⟨q0, q1, q2, q3, q4⟩ := HZ.out.im
      exact bodyPost_ret (v := .tuple #[.agg (iml { m with ts := T1, cf := L2 } { p with aq := av1, cq := cv1, ts := L1, ac := av, cc := cv }).toArray, .int .i64 0]) (by simp [results, Tryz.results30, go_sem, q0, q1, q2, q3, q4, iml]) rfl ⟨{ p with aq := av1, cq := cv1, ts := L1, ac := av, cc := cv }, rfl, (fun W hW => ⟨(HVV.out W _ HBB.out hW).b, HRT.out W hW, fun t ht => (HVV.out W _ HBB.out hW).q t (HMQ.out t ht), HTL.out, HRS.out W hW, (HVV.out W _ HBB.out hW).d⟩), HBB.out⟩
end Go.Proofs.YtlggjgapdpkhiaaGreatDoor
namespace Go.Proofs.YtlggjgapdpkhiaaGreatDoor
open Go.RowKit
set_option maxRecDepth 100000
set_option maxHeartbeats 8000000
theorem concC_2 (v1 v2 : Value) (l1 l2 : List Cf) (B : Nat) (w : World) (hB : Bx w B [v1, v2]) (h1 : Rs cfc w v1 l1) (h2 : Rs cfc w v2 l2) (hl1 : l1.length ≤ 200000) (hl2 : l2.length ≤ 200000) :
  Calls Tryz.prog 142 #[.slice (some ⟨B, 0, none⟩) 2 2] w fun e w' => ∃ v, e = .returned v ∧ Ro cfc 3 72 w' w.heap.size v (l1 ++ l2) ∧ Below w.heap.size w w' := by
 have HG := hide (fun n hn => growC_any n w hn)
 obtain ⟨a1, c1, rfl⟩ := h1.form
 obtain ⟨a2, c2, rfl⟩ := h2.form
 have HB := hide (fun W (h : Below w.heap.size w W) => (hB.below h).c2)
 have H1 := hide (fun W (h : Below w.heap.size w W) => h1.below h)
 have H2 := hide (fun W (h : Below w.heap.size w W) => h2.below h)
 obtain ⟨b0, b1⟩ := hB.c2
 have hbl := hB.l
 clear h1 h2 hB
 go_enter Tryz.func142, Tryz.ntmps142
 go_wp2_with fail
 refine wp_loop_rounds 3 ?_
 rw [rounds_succ]
 go_wp2_with fail
 rw [rounds_succ]
 go_wp2_with fail
 rw [rounds_succ]
 have HN : Hid (((l1.length : Int) + l2.length) = ((l1.length + l2.length : Nat) : Int)) := hide (by omega)
 have HK : Hid (l1.length + l2.length ≤ 1000000) := hide (by omega)
 go_wp2_with (go_at_call 162; first | rw [HN.out] | skip; refine (HG.out _ HK.out).mono ?_; rintro e w1 ⟨v, rfl, hr, hb⟩; obtain ⟨d0, d1⟩ := HB.out _ hb; have HR := hide hr; have HBl := hide hb; clear hr hb HG b0 b1)
 refine wp_loop_rounds 3 ?_
 rw [rounds_succ]
 go_wp2_with (at_builtin; refine wpList_appR tyiC encC _ rfl _ _ rfl w.heap.size _ [] rfl HR.out HBl.out.size _ l1 rfl (H1.out _ HBl.out) (by rw [List.length_nil]; omega) ?_; intro v1 w2 hr _ hb; rw [List.nil_append] at hr; obtain ⟨d0, d1⟩ := HB.out _ (HBl.out.trans hb); replace HR := hide hr; replace HBl := hide (HBl.out.trans hb); clear hr hb)
 rw [rounds_succ]
 go_wp2_with (at_builtin; refine wpList_appR tyiC encC _ rfl _ _ rfl w.heap.size _ l1 rfl HR.out HBl.out.size _ l2 rfl (H2.out _ HBl.out) (by omega) ?_; intro v2 w3 hr _ hb; obtain ⟨d0, d1⟩ := HB.out _ (HBl.out.trans hb); replace HR := hide hr; replace HBl := hide (HBl.out.trans hb); clear hr hb)
 rw [rounds_succ]
 go_wp2_with fail
 go_ret
 exact ⟨_, rfl, HR.out, HBl.out⟩
theorem woC_any (l : List Cf) (ao : Option Addr) (n cap i : Nat) (w : World) (hn : n = l.length) (hv : Rs cfc w (.slice ao n cap) l) (hi : i < l.length) (hl : l.length ≤ 100000) :
  Calls Tryz.prog 98 #[.slice ao n cap, .int .i64 (i : Int)] w fun e w' => ∃ v, e = .returned v ∧ Ro cfc 3 72 w' w.heap.size v (l.take i ++ l.drop (i + 1)) ∧ Below w.heap.size w w' := by
 subst hn
 obtain ⟨bb, oo, rfl, hrg⟩ := hv.rg (by omega)
 have hu := fun W => upto_run tyiC (some ⟨bb, oo, none⟩) l.length cap i (Nat.le_of_lt hi) hv.cap.2 W
 have hcap := hv.cap.2
 have h0 : ¬ ((i : Int) + 1 < 0) := by omega
 have hwr : IntKind.i64.wrap ((i : Int) + 1) = (i : Int) + 1 := by rw [IntKind.wrap_i64]; omega
 have h00 : (0 : Int) ≤ (i : Int) + 1 := by omega
 have h1 : (i : Int) + 1 ≤ (l.length : Int) := by omega
 have hd : ∀ (ao' : Option Addr), (¬ cap = i + 1 → ao' = some ⟨bb, oo + (i + 1) * 3, none⟩) → ∀ W, Below w.heap.size w W → Rs cfc W (.slice ao' (l.length - (i + 1)) (cap - (i + 1))) (l.drop (i + 1)) := fun ao' hao W hb => by
  have := (hv.below hb).part encC (i + 1) l.length hi (Nat.le_refl _) ao' (fun q b o e => by cases e; rw [hao (by omega)])
  rwa [List.take_of_length_le (by rw [List.length_drop]; omega)] at this
 have HC : Hid (∀ (ao' : Option Addr), (¬ cap = i + 1 → ao' = some ⟨bb, oo + (i + 1) * 3, none⟩) → ∀ (n1 n2 : Nat), n1 = l.length - (i + 1) → n2 = cap - (i + 1) → ∀ U, Calls Tryz.prog 142 #[.slice (some ⟨w.heap.size, 0, none⟩) 2 2] (w.alloc (.cells #[.slice (some ⟨bb, oo, none⟩) i cap, .slice ao' n1 n2] U)).drew fun e w' => ∃ v, e = .returned v ∧ Ro cfc 3 72 w' w.heap.size v (l.take i ++ l.drop (i + 1)) ∧ Below w.heap.size w w') := hide (fun ao' hao n1 n2 e1 e2 U => by
  subst e1 e2
  obtain ⟨p1, p3⟩ := wo_frame w U (.slice (some ⟨bb, oo, none⟩) i cap) (.slice ao' (l.length - (i + 1)) (cap - (i + 1)))
  refine (concC_2 _ _ (l.take i) (l.drop (i + 1)) _ _ p1 ((hv.below p3).upto encC i (Nat.le_of_lt hi)) (hd ao' hao _ p3) (by rw [List.length_take]; omega) (by rw [List.length_drop]; omega)).mono ?_
  rintro e w1 ⟨v, rfl, hr, hb⟩
  exact ⟨v, rfl, hr.mono p3.size, bt p3 hb⟩)
 have hcap := hv.cap.2
 clear hv hd hrg hu
 by_cases hce : cap = i + 1
 ·subst hce
  go_enter Tryz.func98, Tryz.ntmps98
  go_upto_region 1 with fail
  go_region_with (go_at_call 142; refine (HC.out _ (by simp) _ _ (by omega) (by omega) _).mono ?_; rintro e w1 ⟨v, rfl, hr, hb⟩; have HR := hide hr; have HB := hide hb; clear hr hb)
  all_goals
   go_wp2_with fail
   go_ret
   exact ⟨_, rfl, HR.out, HB.out⟩
 ·have hce2 : ¬ cap - (i + 1) = 0 := by omega
  have hce3 : ¬ cap ≤ i + 1 := by omega
  go_enter Tryz.func98, Tryz.ntmps98
  go_upto_region 1 with fail
  go_region_with (go_at_call 142; refine (HC.out _ (fun _ => rfl) _ _ (by omega) (by omega) _).mono ?_; rintro e w1 ⟨v, rfl, hr, hb⟩; have HR := hide hr; have HB := hide hb; clear hr hb)
  all_goals
   go_wp2_with fail
   go_ret
   exact ⟨_, rfl, HR.out, HB.out⟩
end Go.Proofs.YtlggjgapdpkhiaaGreatDoor
