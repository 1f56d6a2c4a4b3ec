/-
  WHAT IS TAKEN OUT OF A ROW OF SETTINGS (slices.DeleteFunc with image.drop's function), in its own memory. Conditions: the row is one that may be written, no more than a hundred thousand.
  A ROW IN NEW MEMORY (slices.Clone). Conditions: the cells hold it, no more than a hundred thousand.
  A ROW OF SETTINGS OF A CALL's OWN, some taken out (slices.DeleteFunc); where a setting stands, and whether it is there. Conditions: an image in order.
-/
import Derived.Test.YtfnemlbkmhcodaaGreatJImDpTa3
import Derived.Test.YtfnemlbkmhcodaaGreatJImCha3
namespace Go.Proofs.YtfnemlbkmhcodaaGreat
open Go.RowKit

theorem infoC : (Tryz.prog.info? 82).map (fun i => (i.zero, i.size, i.bytes)) = some (some (.agg #[.int .i64 0, .string ⟨#[]⟩, .string ⟨#[]⟩]), 3, 40) := by kernel_rfl
theorem run_clearC (w : World) (ty : TypeId) (g o n cap : Nat) (ht : w.there g o (n * 3)) : ∃ vs : List Value, vs.length = n * 3 ∧ (Builtin.clear_ #[27] ty #[.slice (some ⟨g, o, none⟩) n cap]).run Tryz.prog w = .ok (.tuple #[]) (w.setCells g o vs) := by
  obtain ⟨i0, hi, hz0, hz1, hz2⟩ := info_parts infoC
  have hu := Tryz.underlying27
  rcases Nat.eq_zero_or_pos n with h0 | h0
  · subst h0
    exact ⟨[], by simp, by simp [Builtin.clear_, run_underlying hu, go_sem, World.setCells]⟩
  · obtain ⟨m, rfl⟩ : ∃ m, n = m + 1 := ⟨n - 1, by omega⟩
    obtain ⟨vs, hvs⟩ : ∃ vs, vs = (Builtin.zeroCells (Value.agg #[.int .i64 0, .string ⟨#[]⟩, .string ⟨#[]⟩]).cells (m + 1)).toList := ⟨_, rfl⟩
    have hl : vs.length = (m + 1) * 3 := by rw [hvs]; simp [Builtin.zeroCells, Value.cells]
    have hone : ∀ v ∈ vs, v.oneCell' = true := by
      intro v hv
      rw [hvs] at hv
      simp only [Builtin.zeroCells, Array.toList_map, List.mem_map] at hv
      obtain ⟨i, _, rfl⟩ := hv
      have h3 : i % 3 = 0 ∨ i % 3 = 1 ∨ i % 3 = 2 := by omega
      show (#[Value.int .i64 0, .string ⟨#[]⟩, .string ⟨#[]⟩][i % 3]!).oneCell' = true
      rcases h3 with e | e | e <;> rw [e] <;> rfl
    have hst := run_storeCells_cells (P := Tryz.prog) g o vs 0 w (fun j hj => (ht j (by omega)).1) (fun j hj => (ht j (by omega)).2) hone
    simp only [Nat.add_zero] at hst
    refine ⟨vs, hl, ?_⟩
    have hz : ∀ W, (zeroValue 82).run Tryz.prog W = .ok (.agg #[.int .i64 0, .string ⟨#[]⟩, .string ⟨#[]⟩]) W := fun W => by simp [zeroValue, typeInfo, hi, hz0]
    simp [Builtin.clear_, run_underlying hu, hz, ← hvs, hst]
/-- A row of settings out of which some were taken up to j: i are left, those from j on stand as they stood. -/
structure Dl (W : World) (B g C : Nat) (t : Int) (l : List Cf) (i j : Nat) : Prop where
  lo : W.rangeAt g 0 (((l.take j).filter fun x => !(x.tp == t)).flatMap cfc)
  hi : W.rangeAt g (j * 3) ((l.drop j).flatMap cfc)
  th : W.there g 0 (l.length * 3)
  n : i = ((l.take j).filter fun x => !(x.tp == t)).length
  lt : i < j
  le : j ≤ l.length
  c : W.cell? ⟨C, 3, none⟩ = some (.int .i64 t)
  nc : ¬ C = g
theorem Dl.below {W W' : World} {B g C : Nat} {t : Int} {l : List Cf} {i j : Nat} (h : Dl W B g C t l i j) (hg : g < W.heap.size) (hb : Below W.heap.size W W') : Dl W' B g C t l i j :=
  ⟨rg_bel h.lo hb, rg_bel h.hi hb, fun k hk => by
    have := h.th k hk
    rw [hb.cell (p := ⟨g, 0 + k, none⟩) hg, hb.frozen (p := ⟨g, 0 + k, none⟩) hg]
    exact this, h.n, h.lt, h.le, (hb.cell (p := ⟨C, 3, none⟩) (cell_block h.c)).trans h.c, h.nc⟩
theorem Dl.skip {W : World} {B g C : Nat} {t : Int} {l : List Cf} {i j : Nat} (h : Dl W B g C t l i j) (hj : j < l.length) (hx : (l[j].tp == t) = true) : Dl W B g C t l i (j + 1) := by
  have e : ((l.take (j + 1)).filter fun x => !(x.tp == t)) = (l.take j).filter fun x => !(x.tp == t) := by
    rw [List.take_succ_eq_append_getElem hj, List.filter_append, List.filter_cons, if_neg (by rw [hx]; decide)]; simp
  have hh := h.hi
  rw [List.drop_eq_getElem_cons hj, List.flatMap_cons] at hh
  have h2 := (rg_app hh).2
  exact ⟨by rw [e]; exact h.lo, by rw [Nat.succ_mul]; exact h2, h.th, by rw [e]; exact h.n, by have := h.lt; omega, hj, h.c, h.nc⟩
theorem Dl.keep {W : World} {B g C : Nat} {t : Int} {l : List Cf} {i j : Nat} (h : Dl W B g C t l i j) (hj : j < l.length) (hx : (l[j].tp == t) = false) : Dl (W.setCells g (i * 3) (cfc l[j])) B g C t l (i + 1) (j + 1) := by
  have e : ((l.take (j + 1)).filter fun x => !(x.tp == t)) = ((l.take j).filter fun x => !(x.tp == t)) ++ [l[j]] := by
    rw [List.take_succ_eq_append_getElem hj, List.filter_append, List.filter_cons, if_pos (by rw [hx]; rfl)]; simp
  have hh := h.hi
  rw [List.drop_eq_getElem_cons hj, List.flatMap_cons] at hh
  have h2 := (rg_app hh).2
  have hlt := h.lt
  have hle := h.le
  have hln : (((l.take j).filter fun x => !(x.tp == t)).flatMap cfc).length = i * 3 := by rw [fm_len encC, ← h.n]
  have hth : W.there g (i * 3) (cfc l[j]).length := fun k hk => by
    have h3 : (cfc l[j]).length = 3 := rfl
    have := h.th (i * 3 + k) (by have : i * 3 + 3 ≤ l.length * 3 := by omega
                                 omega)
    rwa [Nat.zero_add] at this
  refine ⟨?_, ?_, World.there_setCells h.th g _ _, by rw [e, List.length_append, ← h.n]; rfl, by omega, hj, by rw [World.cell?_setCells_out _ _ _ _ _ (fun q _ => absurd q h.nc)]; exact h.c, h.nc⟩
  · rw [e, List.flatMap_append, List.flatMap_cons, List.flatMap_nil, List.append_nil]
    intro q u hu
    rcases Nat.lt_or_ge q (i * 3) with hq | hq
    · rw [List.getElem?_append_left (by omega)] at hu
      have := World.rangeAt_setCells_apart h.lo g (i * 3) (cfc l[j]) (.inr (.inl (by omega)))
      exact this q u hu
    · rw [List.getElem?_append_right (by omega), hln] at hu
      have := World.rangeAt_setCells_same W g (i * 3) (cfc l[j]) hth (q - i * 3) u hu
      rwa [show i * 3 + (q - i * 3) = 0 + q by omega] at this
  · have h3 : (cfc l[j]).length = 3 := rfl
    have := World.rangeAt_setCells_apart h2 g (i * 3) (cfc l[j]) (.inr (.inr (by rw [h3]; omega)))
    rwa [h3, show j * 3 + 3 = (j + 1) * 3 by omega] at this
theorem bel_sets {B : Nat} {w W : World} {g o : Nat} {vs : List Value} (h : Below B w W) (hg : B ≤ g) : Below B w (W.setCells g o vs) := below_sets hg vs o W h
theorem wpList_put {P : Program} {ops : Array Oper} {rest : List Oper} {op : Oper} {a : Act} {w : World} {Q : Exit → Act → World → Prop} (hgd : op.guard = none) (ty : TypeId) (x y : Operand) (ho : op.op = .store ty x y)
    (g o : Nat) (hx : a.eval x = .pointer (some ⟨g, o, none⟩)) (ds : List Value) (hy : a.eval y = .agg ds.toArray) (ht : w.there g o ds.length) (hi : (P.info? ty).map (·.size) = some ds.length) (h1 : ds.all (·.oneCell') = true)
    (h : ∀ W, W = w.setCells g o ds → wpList P ops Q rest (a.put op.dst undef) W) : wpList P ops Q (op :: rest) a w :=
  wpList_store_mid hgd ty x y ho g o ds.toArray hx hy (by simpa using ht) (by rw [hi]; simp) (all_oneCell_toArray (List.all_eq_true.1 h1)) (by
    rw [List.toList_toArray]
    exact h _ rfl)
theorem Dl.there {W : World} {B g C : Nat} {t : Int} {l : List Cf} {i j : Nat} (h : Dl W B g C t l i j) (hj : j < l.length) : W.there g (i * 3) 3 := fun k hk => by
  have := h.lt
  have h1 := h.th (i * 3 + k) (by omega)
  rwa [Nat.zero_add] at h1
theorem IxP.first {α : Type} {p : α → Bool} {l : List α} {w w' : World} {e : Ending} (h : IxP p l w w' e) {y : α} (hn : l.find? p = some y) : ∃ (k : Nat) (hk : k < l.length), p l[k] = true ∧ (∀ j (h : j < l.length), j < k → p l[j] = false) ∧ e = .returned (.int .i64 (k : Int)) ∧ Below w.heap.size w w' := by
  obtain ⟨⟨k, hk, hp, hj, rfl⟩ | ⟨hn', rfl⟩, hb⟩ := h
  · exact ⟨k, hk, hp, hj, rfl, hb⟩
  · obtain ⟨h1, h2⟩ := List.find?_eq_some_iff_append.1 hn
    exact absurd h1 (by rw [hn' y (List.mem_of_find?_eq_some hn)]; simp)
theorem Dl.start {W : World} {B g C : Nat} {t : Int} {l : List Cf} {k : Nat} (hr : W.rangeAt g 0 (l.flatMap cfc)) (hth : W.there g 0 (l.length * 3)) (hC : W.cell? ⟨C, 3, none⟩ = some (.int .i64 t)) (hcg : ¬ C = g) (hk : k < l.length) (hp : (l[k].tp == t) = true) (hj : ∀ j (h : j < l.length), j < k → (l[j].tp == t) = false) : Dl W B g C t l k (k + 1) := by
  have e : ((l.take (k + 1)).filter fun x => !(x.tp == t)) = l.take k := by
    rw [List.take_succ_eq_append_getElem hk, List.filter_append, List.filter_cons, if_neg (by rw [hp]; decide), List.filter_nil, List.append_nil]
    refine List.filter_eq_self.2 fun x hx => ?_
    obtain ⟨j, hj1, rfl⟩ := List.getElem_of_mem hx
    rw [List.length_take] at hj1
    rw [List.getElem_take, hj j (by omega) (by omega)]
    rfl
  have h1 : l.flatMap cfc = (l.take k).flatMap cfc ++ (l.drop k).flatMap cfc := by rw [← List.flatMap_append, List.take_append_drop]
  have h2 : l.flatMap cfc = (l.take (k + 1)).flatMap cfc ++ (l.drop (k + 1)).flatMap cfc := by rw [← List.flatMap_append, List.take_append_drop]
  refine ⟨by rw [e]; rw [h1] at hr; exact (rg_app hr).1, ?_, hth, by rw [e, List.length_take]; omega, Nat.lt_succ_self _, hk, hC, hcg⟩
  rw [h2] at hr
  have := (rg_app hr).2
  rwa [fm_len encC, List.length_take, Nat.min_eq_left (by omega), Nat.zero_add] at this
set_option maxRecDepth 100000 in
set_option maxHeartbeats 8000000 in
theorem delf_any (l : List Cf) (g cap B C : Nat) (t : Int) (w : World) (hr : w.rangeAt g 0 (l.flatMap cfc)) (hth : w.there g 0 (l.length * 3)) (hcap : l.length ≤ cap) (hg : B ≤ g) (hgl : g < w.heap.size) (hB : B ≤ w.heap.size) (hC : w.cell? ⟨C, 3, none⟩ = some (.int .i64 t)) (hcg : ¬ C = g) (hl : l.length ≤ 100000) :
    Calls Tryz.prog 135 #[.slice (some ⟨g, 0, none⟩) l.length cap, .func (.func 136) #[] #[.pointer (some ⟨C, 0, none⟩)]] w fun e w' => ∃ n, e = .returned (.slice (some ⟨g, 0, none⟩) n cap) ∧ Rs cfc w' (.slice (some ⟨g, 0, none⟩) n cap) (l.filter fun x => !(x.tp == t)) ∧ Below B w w' := by
  have HCL := hide (fun W (x : Cf) (h : W.cell? ⟨C, 3, none⟩ = some (.int .i64 t)) => cDrp_any x t C W h)
  have HIX := hide (ix_drp l (fun x => x.tp == t) (some ⟨g, 0, none⟩) _ cap (.pointer (some ⟨C, 0, none⟩)) w rfl ⟨_, _, rfl, hcap, fun _ => ⟨g, 0, rfl, hr⟩⟩ hl (fun W x _ hb => HCL.out W x ((hb.cell (p := ⟨C, 3, none⟩) (cell_block hC)).trans hC)))
  cases hf : l.find? (fun x => x.tp == t) with
  | none =>
    have HI := hide (HIX.out.mono fun _ _ q => q.find_no hf)
    have hfil : (l.filter fun x => !(x.tp == t)) = l := List.filter_eq_self.2 (fun x hx => by have := List.find?_eq_none.1 hf x hx; simpa using this)
    rw [hfil]
    have HR := hide hr
    clear hf hfil HIX hr hth hC hcg
    go_enter Tryz.func135, Tryz.ntmps135
    go_wp2_with (go_at_call 153; refine HI.out.mono ?_; rintro e w1 ⟨rfl, hb⟩; have HB1 := hide hb; clear hb HI)
    go_ret
    exact ⟨_, rfl, ⟨_, _, rfl, hcap, fun _ => ⟨g, 0, rfl, rg_bel HR.out HB1.out⟩⟩, HB1.out.mono hB⟩
  | some y =>
    have HI := hide (HIX.out.mono fun _ _ q => q.first hf)
    have HS := hide (fun W (hb : Below w.heap.size w W) k hk hp hj => Dl.start (W := W) (B := B) (k := k) (rg_bel hr hb) (fun q hq => by
      have := hth q hq
      rw [hb.cell (p := ⟨g, 0 + q, none⟩) hgl, hb.frozen (p := ⟨g, 0 + q, none⟩) hgl]
      exact this) ((hb.cell (p := ⟨C, 3, none⟩) (cell_block hC)).trans hC) hcg hk hp hj)
    have hUP := fun W i (hi : i ≤ l.length) => upto_run tyiC (some ⟨g, 0, none⟩) l.length cap i hi hcap W
    have hFR := fun i (hi : i ≤ l.length) => from_runR tyiC (some ⟨g, 0, none⟩) l.length cap i hi (fun e => by cases e)
    have HUP := hide hUP
    have HFR := hide hFR
    clear hf HIX hr hth hC hcg hUP hFR
    go_enter Tryz.func135, Tryz.ntmps135
    go_wp2_with (go_at_call 153; refine HI.out.mono ?_; rintro e w1 ⟨k, hk, hp, hj, rfl, hb⟩; have HD0 := hide (HS.out w1 hb k hk hp hj); have HB1 := hide (hb.mono hB); have HZ1 : Hid (g < w1.heap.size) := hide (Nat.lt_of_lt_of_le hgl hb.size); have hkI : ((k : Int) == -1) = false := beq_eq_false_iff_ne.2 (by omega); clear hb HI hp hj HS)
    go_loopw [5, 6] (fun x y W => ∃ i j : Nat, x = .int .i64 (i : Int) ∧ y = .int .i64 (j : Int) ∧ Dl W B g C t l i j ∧ Below B w W ∧ g < W.heap.size) (fun _ y _ => l.length - (intOf y).toNat)
    case atStart => exact ⟨k, k + 1, rfl, by go_num, HD0.out, HB1.out, HZ1.out⟩
    case round =>
      obtain ⟨i, j, rfl, rfl, hd, hb, hz⟩ := hrel
      have HD := hide hd
      have HB := hide hb
      have HZ := hide hz
      have HBS : Hid (B ≤ wr.heap.size) := hide (Nat.le_trans hB hb.size)
      have hij := hd.lt
      have hjl := hd.le
      clear hd hb hz HD0 HB1 HZ1
      by_cases hlt : j < l.length
      · have hltI : (j : Int) < (l.length : Int) := by omega
        have hilI : (i : Int) < (l.length : Int) := by omega
        have hil : i < l.length := by omega
        have HE : Hid (wr.rangeAt g (j * 3) (cfc l[j])) := hide (by
          have := HD.out.hi
          rw [List.drop_eq_getElem_cons hlt, List.flatMap_cons] at this
          exact (rg_app this).1)
        have HCC := hide (fun W (hb : Below wr.heap.size wr W) => HCL.out W l[j] ((HD.out.below HZ.out hb).c))
        have HSK := hide (fun W (hb : Below wr.heap.size wr W) h => (HD.out.below HZ.out hb).skip hlt h)
        have HKE := hide (fun W (hb : Below wr.heap.size wr W) h => (HD.out.below HZ.out hb).keep hlt h)
        have HTH := hide (fun W (hb : Below wr.heap.size wr W) => (HD.out.below HZ.out hb).there hlt)
        clear HD
        cases hx : (l[j].tp == t) with
        | true =>
          rw [hx] at HCC
          replace HSK := hide (fun W hb => HSK.out W hb hx)
          clear hx HKE HTH
          generalize l[j] = y at HE HCC
          unfold cfc at HE HCC
          go_wp2_with (first
            | (refine wpList_load_mid rfl _ _ rfl _ _ rfl _ _ HE.out Tryz.underlying82 rfl (by kernel_rfl) ?_)
            | (go_at_call 136; refine (HCC.out _ (below_al1 _ _)).mono ?_; rintro e w2 ⟨rfl, hb2⟩; have HB2 := hide (bt (below_al1 _ _) hb2); clear hb2 HCC HE))
          go_roundw
          case rel => exact ⟨i, j + 1, rfl, by go_num, HSK.out _ HB2.out, HB.out.trans (HB2.out.mono HBS.out), Nat.lt_of_lt_of_le HZ.out HB2.out.size⟩
          case measure => simp [intOf]; omega
        | false =>
          rw [hx] at HCC
          replace HKE := hide (fun W hb => HKE.out W hb hx)
          clear hx HSK
          generalize l[j] = y at HE HCC HKE
          unfold cfc at HE HCC HKE
          go_wp2_with (first
            | (refine wpList_load_mid rfl _ _ rfl _ _ rfl _ _ HE.out Tryz.underlying82 rfl (by kernel_rfl) ?_)
            | (go_at_call 136; refine (HCC.out _ (below_al1 _ _)).mono ?_; rintro e w2 ⟨rfl, hb2⟩; have HB2 := hide (bt (below_al1 _ _) hb2); obtain ⟨z0, z1, z2⟩ := (Bx.mk1 wr [.int .i64 y.tp, .string ⟨y.ky.toArray⟩, .string ⟨y.va.toArray⟩] _ hb2).c3; clear hb2 HCC HE)
            | (refine wpList_put rfl _ _ _ rfl _ _ rfl [.int .i64 y.tp, .string ⟨y.ky.toArray⟩, .string ⟨y.va.toArray⟩] rfl (HTH.out _ HB2.out) (by kernel_rfl) rfl ?_; intro W3 hW3; have HW3 := hide hW3; clear hW3 HTH))
          go_roundw
          case rel =>
            have e3 := HW3.out
            exact ⟨i + 1, j + 1, by go_num, by go_num, by rw [e3]; exact HKE.out _ HB2.out, by rw [e3]; exact bel_sets (HB.out.trans (HB2.out.mono HBS.out)) hg, by rw [e3, sz_sets]; exact Nat.lt_of_lt_of_le HZ.out HB2.out.size⟩
          case measure => simp [intOf]; omega
      · obtain rfl : j = l.length := by omega
        have hil : i ≤ l.length := by omega
        have HLO := hide HD.out.lo
        have HTH := hide HD.out.th
        have HNI := hide HD.out.n
        obtain ⟨ao', hfr, hao⟩ := HFR.out i hil
        have hup := HUP.out
        have hup' : ∀ W, (Instr.slice 27 (.slice (some ⟨g, 0, none⟩) l.length cap) none (some (.int .i64 (i : Int))) none).run Tryz.prog W = .ok (.slice (some ⟨g, 0, none⟩) i cap) W := fun W => hup W i hil
        clear hup hlt HD
        rw [List.take_length] at HLO HNI
        have hi0 : i < l.length := by omega
        obtain rfl := hao g 0 rfl hi0 hcap
        rw [Nat.zero_add] at hfr
        obtain ⟨vs, hvs, hcl⟩ := run_clearC wr 0 g (i * 3) (l.length - i) (cap - i) (fun q hq => by
          have := HTH.out (i * 3 + q) (by omega)
          rwa [Nat.zero_add] at this)
        go_wp2_with fail
        go_ret
        refine ⟨i, rfl, ⟨_, _, by rw [← HNI.out], by rw [← HNI.out]; omega, fun _ => ⟨g, 0, rfl, ?_⟩⟩, bel_sets HB.out hg⟩
        exact World.rangeAt_setCells_apart HLO.out g (i * 3) vs (.inr (.inl (by rw [fm_len encC, ← HNI.out]; omega)))
end Go.Proofs.YtfnemlbkmhcodaaGreat
namespace Go.Proofs.YtfnemlbkmhcodaaGreat
open Go.RowKit


theorem nilC_yes (n cap : Nat) (w : World) : (binOp .eql 27 (.slice none n cap) (.slice none 0 0)).run Tryz.prog w = .ok (.bool true) w := by kernel_rfl
theorem nilC_no (a : Addr) (n cap : Nat) (w : World) : (binOp .eql 27 (.slice (some a) n cap) (.slice none 0 0)).run Tryz.prog w = .ok (.bool false) w := by kernel_rfl
set_option maxRecDepth 100000 in
set_option maxHeartbeats 4000000 in
theorem cloneC_any (l : List Cf) (ao : Option Addr) (n cap : Nat) (w : World) (hn : n = l.length) (hv : Rs cfc w (.slice ao n cap) l) (hl : l.length ≤ 100000) :
    Calls Tryz.prog 60 #[.slice ao n cap] w fun e w' => ∃ v, e = .returned v ∧ Ro cfc 3 82 w' w.heap.size v l ∧ Below w.heap.size w w' := by
  subst hn
  cases ao with
  | none =>
    have e1 := nilC_yes
    have h0 := hv.none0 rfl
    obtain rfl := List.eq_nil_iff_length_eq_zero.2 h0
    clear hv hl h0
    go_enter Tryz.func60, Tryz.ntmps60
    go_wp2_with fail
    go_ret
    exact ⟨_, rfl, ro_nil _ _ _ _ _, Below.refl _ _⟩
  | some a =>
    have e2 := nilC_no
    have HV := hide (hv.below ((Below.refl _ _).alloc (Nat.le_refl _) (.cells #[] 82)))
    have HR := hide (ro_new encC 82 w [] (Nat.zero_le _))
    clear hv
    go_enter Tryz.func60, Tryz.ntmps60
    go_wp2_with (at_builtin; refine wpList_appR tyiC encC _ rfl _ _ rfl w.heap.size _ [] rfl HR.out (by simp) _ l rfl HV.out (by rw [List.length_nil]; omega) ?_; intro v1 w2 hr _ hb; rw [List.nil_append] at hr; have HRO := hide hr; have HB := hide (((Below.refl w.heap.size w).alloc (Nat.le_refl _) _).trans hb); clear hr hb)
    go_ret
    exact ⟨_, rfl, HRO.out, HB.out⟩
end Go.Proofs.YtfnemlbkmhcodaaGreat
namespace Go.Proofs.YtfnemlbkmhcodaaGreat
open Go.RowKit

/-- The slice v holds l, in a block from B on. -/
def Rg {α : Type} (f : α → List Value) (W : World) (B : Nat) (v : Value) (l : List α) : Prop := ∃ ao cap, v = .slice ao l.length cap ∧ l.length ≤ cap ∧ (0 < l.length → ∃ b o, ao = some ⟨b, o, none⟩ ∧ B ≤ b ∧ W.rangeAt b o (l.flatMap f))
theorem Rg.rs {α : Type} {f : α → List Value} {W : World} {B : Nat} {v : Value} {l : List α} (h : Rg f W B v l) : Rs f W v l := by
  obtain ⟨ao, cap, e, hc, hr⟩ := h
  exact ⟨ao, cap, e, hc, fun q => by obtain ⟨b, o, e1, _, e2⟩ := hr q; exact ⟨b, o, e1, e2⟩⟩
theorem Rg.keepG {α : Type} {f : α → List Value} {W W' : World} {B : Nat} {v : Value} {l : List α} (h : Rg f W B v l) (hk : ∀ g, B ≤ g → W'.heap[g]? = W.heap[g]?) : Rg f W' B v l := by
  obtain ⟨ao, cap, e, hc, hr⟩ := h
  refine ⟨ao, cap, e, hc, fun q => ?_⟩
  obtain ⟨b, o, e1, e3, e2⟩ := hr q
  exact ⟨b, o, e1, e3, fun j u hj => (World.cell?_of_block (w := W) (hk b e3)).trans (e2 j u hj)⟩
theorem Rg.mono {α : Type} {f : α → List Value} {W : World} {B C : Nat} {v : Value} {l : List α} (h : Rg f W B v l) (hc : C ≤ B) : Rg f W C v l := by
  obtain ⟨ao, cap, e, hc', hr⟩ := h
  exact ⟨ao, cap, e, hc', fun q => by obtain ⟨b, o, e1, e3, e2⟩ := hr q; exact ⟨b, o, e1, Nat.le_trans hc e3, e2⟩⟩
theorem Rg.form {α : Type} {f : α → List Value} {W : World} {B : Nat} {v : Value} {l : List α} (h : Rg f W B v l) : ∃ a c, v = .slice a l.length c := by
  obtain ⟨ao, cap, e, _⟩ := h
  exact ⟨_, _, e⟩
set_option maxRecDepth 100000 in
theorem delf_nil (cap C : Nat) (w : World) : Calls Tryz.prog 135 #[.slice none 0 cap, .func (.func 136) #[] #[.pointer (some ⟨C, 0, none⟩)]] w fun e w' => e = .returned (.slice none 0 cap) ∧ Below w.heap.size w w' := by
  have HIX : Hid (Calls Tryz.prog 153 #[.slice none 0 cap, .func (.func 136) #[] #[.pointer (some ⟨C, 0, none⟩)]] w fun e w' => e = .returned (.int .i64 (-1)) ∧ Below w.heap.size w w') := hide ((ix_drp [] (fun _ => false) none 0 cap (.pointer (some ⟨C, 0, none⟩)) w rfl (rs_nil _ _ _ _) (by simp) (fun W x hx => by cases hx)).mono fun _ _ q => q.find_no rfl)
  go_enter Tryz.func135, Tryz.ntmps135
  go_wp2_with (go_at_call 153; refine HIX.out.mono ?_; rintro e w1 ⟨rfl, hb⟩; have HB1 := hide hb; clear hb HIX)
  go_ret
  exact ⟨rfl, HB1.out⟩
theorem delf_own (l : List Cf) (v : Value) (B C : Nat) (t : Int) (w : World) (hr : Ro cfc 3 82 w B v l) (hC : w.cell? ⟨C, 3, none⟩ = some (.int .i64 t)) (hCB : C < B) (hB : B ≤ w.heap.size) (hl : l.length ≤ 100000) :
    Calls Tryz.prog 135 #[v, .func (.func 136) #[] #[.pointer (some ⟨C, 0, none⟩)]] w fun e w' => ∃ v', e = .returned v' ∧ Rg cfc w' B v' (l.filter fun x => !(x.tp == t)) ∧ Below B w w' := by
  have hrs := hr.rs
  rcases hr.2 with ⟨rfl, h0⟩ | ⟨g, cap, cur, rfl, a2, a3, a4, a5, a6, a7⟩
  · obtain rfl := List.eq_nil_iff_length_eq_zero.2 h0
    refine (delf_nil 0 C w).mono ?_
    rintro e w' ⟨rfl, hb⟩
    exact ⟨_, rfl, ⟨none, 0, rfl, Nat.zero_le _, fun q => absurd q (Nat.lt_irrefl 0)⟩, hb.mono hB⟩
  · have hgl : g < w.heap.size := (Array.getElem?_eq_some_iff.1 a3).1
    have hrg : w.rangeAt g 0 (l.flatMap cfc) := by
      intro j u hj
      have hlt : j < (l.flatMap cfc).length := (List.getElem?_eq_some_iff.1 hj).1
      have h1 : (l.flatMap cfc).length = l.length * 3 := hr.1
      rw [← a7, List.getElem?_take_of_lt (by omega)] at hj
      simp only [World.cell?, a3, Nat.zero_add]
      simpa using hj
    have hth : w.there g 0 (l.length * 3) := fun j hj => by
      have h3 : l.length * 3 ≤ cap * 3 := Nat.mul_le_mul_right 3 a4
      rw [Nat.zero_add]
      constructor
      · simp only [World.cell?, a3]
        rw [Array.getElem?_eq_getElem (by omega)]
        rfl
      · simp [World.frozen?, a3]
    refine (delf_any l g cap B C t w hrg hth a4 a2 hgl hB hC (by omega) hl).mono ?_
    rintro e w' ⟨n, rfl, ⟨ao, cap', e1, hc, hrr⟩, hb⟩
    refine ⟨_, rfl, ⟨ao, cap', e1, hc, fun q => ?_⟩, hb⟩
    obtain ⟨b, o, e2, e3⟩ := hrr q
    subst e2
    cases e1
    exact ⟨g, 0, rfl, a2, e3⟩
theorem findConfig_no (m : Im) (p : Ip) (t : Int) (k : List UInt8) (w : World) (hv : ImR w m p) (hw : Wf m 100000) (h : fC m.cf t k = none) : Calls Tryz.prog 46 #[imv m p, .int .i64 t, .string ⟨k.toArray⟩] w fun e w' => ∃ i : Nat, i ≤ m.cf.length ∧ (∀ b, insO (fun x : Cf => cmpC x t k) b m.cf = m.cf.take i ++ b :: m.cf.drop i) ∧ e = .returned (.tuple #[.int .i64 (i : Int), .bool false]) ∧ Below w.heap.size w w' :=
  (findConfig_any m p t k w hv hw.nc (stn_C hw.c t k)).mono fun _ _ q => q.no (stn_C hw.c t k) (fun x => keyC x) h
theorem findConfig_yes (m : Im) (p : Ip) (t : Int) (k : List UInt8) (w : World) (hv : ImR w m p) (hw : Wf m 100000) (b : Cf) (h : fC m.cf t k = some b) : Calls Tryz.prog 46 #[imv m p, .int .i64 t, .string ⟨k.toArray⟩] w fun e w' => ∃ (i : Nat) (hi : i < m.cf.length), m.cf[i] = b ∧ (∀ b, insO (fun x : Cf => cmpC x t k) b m.cf = m.cf.take i ++ b :: m.cf.drop (i + 1)) ∧ remO (fun x : Cf => cmpC x t k) m.cf = m.cf.take i ++ m.cf.drop (i + 1) ∧ (∀ x ∈ m.cf.take i, cmpC x t k < 0) ∧ (∀ x ∈ m.cf.drop (i + 1), 0 < cmpC x t k) ∧ e = .returned (.tuple #[.int .i64 (i : Int), .bool true]) ∧ Below w.heap.size w w' :=
  (findConfig_any m p t k w hv hw.nc (stn_C hw.c t k)).mono fun _ _ q => q.yes (stn_C hw.c t k) (fun x => keyC x) h
theorem putC_ins {l : List Cf} {c : Cf} : putC l c = insO (fun x : Cf => cmpC x c.tp c.ky) c l := rfl
theorem remC_rem {l : List Cf} {t : Int} {k : List UInt8} : (l.filter fun c => !idC t k c) = remO (fun x : Cf => cmpC x t k) l := by
  unfold remO
  congr 1
  funext x
  have := @cmpC_zero x t k
  cases h : idC t k x with
  | true => rw [decide_eq_true (this.2 h)]
  | false => rw [decide_eq_false (fun q => by rw [this.1 q] at h; cases h)]
theorem remQ_rem {l : List Tq} {id : Int} : (l.filter fun t => !idQ id t) = remO (fun x : Tq => cmpN x.id id) l := by
  unfold remO
  congr 1
  funext x
  by_cases h : x.id = id
  · rw [decide_eq_true (cmpN_zero.2 h)]; simp [idQ, h]
  · rw [decide_eq_false (fun q => h (cmpN_zero.1 q))]; simp [idQ, h]
end Go.Proofs.YtfnemlbkmhcodaaGreat
