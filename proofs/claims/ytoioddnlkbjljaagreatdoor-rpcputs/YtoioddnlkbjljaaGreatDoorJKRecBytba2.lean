/-
  A RECORD THAT MAY BE AS BYTES, BY THE DOCUMENT: the bytes that the mathematics says. Condition: the rows' cells hold them.
  A BATCH, BY THE DOCUMENT: what is wrong with it first, its bytes (castellanref06.Check, Bytes, Put): what the mathematics says. Conditions: the records' cells hold them, their texts are not too long.
-/
import Derived.Test.YtoioddnlkbjljaaGreatDoorJKRecByt
import Derived.Test.YtoioddnlkbjljaaGreatDoorJKRecWkaa4
import Derived.Test.YtoioddnlkbjljaaGreatDoorJKBatPt
namespace Go.Proofs.YtoioddnlkbjljaaGreatDoor
open Go.RowKit

theorem one_le {α : Type} {en : α → List Int} {x : α} (h : Bool) (hx : (en x).length ≤ 9000) : (if h then en x else []).length ≤ 9000 := by
  cases h
  · simp
  · simpa using hx
theorem row_few {l : List Int} {h : Bool} (e : rowB l h = true) : l.length ≤ 7 ∧ ∀ y ∈ l, y ≤ 9223372036854775807 := by
  have := rowB_asks e
  split at this
  · exact ⟨this.1, fun y hy => by have := this.2 y hy; omega⟩
  · rw [this]; exact ⟨by simp, fun y hy => by simp at hy⟩
theorem num_few {x lo hi : Int} {h : Bool} (e : numB x h lo hi = true) (q : hi ≤ 1073741824) : x ≤ 9223372036854775807 := by
  have := numB_asks e
  split at this <;> omega
theorem li (x : Int) (h : Bool) : (if h then intL x else []).length ≤ 9000 := one_le (en := intL) h (by have := intL_le x; omega)
theorem lt (S : List UInt8) (h : Bool) (q : S.length ≤ 256) : (if h then enT S else []).length ≤ 9000 := one_le (en := enT) h (by
  unfold enT
  rw [List.length_append, sb_len]
  have := intL_le S.length
  omega)
theorem lr (l : List Int) (h : Bool) (q : rowB l h = true) : (if h then enR l else []).length ≤ 9000 := one_le (en := enR) h (by
  unfold enR
  rw [List.length_append]
  have h1 := intL_le l.length
  have h2 := rowL_le l
  have h3 := (row_few q).1
  omega)
theorem rw1 (x : Value) (l : List Int) (h : Bool) (W : World) (hs : Sl ic W x l) (q : rowB l h = true) : Calls Tryz.prog 137 #[x, .bool h] W fun e w' => ∃ v, e = .returned v ∧ Sl bc w' v (if h then enR l else []) ∧ Below W.heap.size W w' := row1_any x l h W hs (by have := (row_few q).1; omega) (fun i hl => (row_few q).2 _ (List.getElem_mem hl))
theorem has_is {k c : Int} {b : Bool} (h : hasL k c = b) (W : World) : Calls Tryz.prog 115 #[.int .i64 k, .int .u8 c] W fun e w' => e = .returned (.bool b) ∧ w' = W := h ▸ has_any k c W
theorem glue16 (k : Int) (p0 p1 p2 p3 p4 p5 p6 p7 p8 p9 p10 p11 p12 p13 p14 p15 : List Int) : (((((((((((((((([k] ++ p0) ++ p1) ++ p2) ++ p3) ++ p4) ++ p5) ++ p6) ++ p7) ++ p8) ++ p9) ++ p10) ++ p11) ++ p12) ++ p13) ++ p14) ++ p15) = k :: (p0 ++ (p1 ++ (p2 ++ (p3 ++ (p4 ++ (p5 ++ (p6 ++ (p7 ++ []))))))) ++ ([] ++ (p8 ++ (p9 ++ (p10 ++ (p11 ++ []))) ++ (p12 ++ (p13 ++ (p14 ++ (p15 ++ []))))))) := by
  simp only [List.append_nil, List.append_assoc, List.cons_append, List.nil_append]
theorem encs_no {α : Type} (en : α → List Int) (x : α) {h : Bool} (e : h = false) : encs en [h] [x] = [] := by
  subst e
  simp [encs]
theorem flag_no {r : Rc} (hf : hasL r.k 102 = false) : encs (fun f => [flB f]) (hF r.k) [r.fl] = [] := encs_no _ _ hf
theorem put_t {r : Rc} (hf : hasL r.k 102 = true) : ((((((((((((((((([r.k] ++ (if hasL r.k 98 then intL r.br else [])) ++ (if hasL r.k 101 then intL r.ep else [])) ++ (if hasL r.k 116 then intL r.tp else [])) ++ (if hasL r.k 112 then intL r.pa else [])) ++ (if hasL r.k 108 then intL r.le else [])) ++ (if hasL r.k 97 then intL r.cl else [])) ++ (if hasL r.k 97 then intL r.se else [])) ++ (if hasL r.k 97 then intL r.co else [])) ++ [flB r.fl]) ++ (if hasL r.k 110 then enT r.nm else [])) ++ (if hasL r.k 107 then enT r.ky else [])) ++ (if hasL r.k 118 then enT r.va else [])) ++ (if hasL r.k 114 then enT r.rk else [])) ++ (if hasL r.k 105 then enR r.ids else [])) ++ (if hasL r.k 109 then enR r.isr else [])) ++ (if hasL r.k 120 then enR r.ad else [])) ++ (if hasL r.k 120 then enR r.dr else [])) = putL r := by
  unfold putL tailL
  simp only [hN, hF, hT, hR, Rc.ns, Rc.ts, Rc.rs, encs, hf, if_true, List.append_nil, List.append_assoc, List.cons_append, List.nil_append]
theorem put_f {r : Rc} (hf : hasL r.k 102 = false) : (((((((((((((((([r.k] ++ (if hasL r.k 98 then intL r.br else [])) ++ (if hasL r.k 101 then intL r.ep else [])) ++ (if hasL r.k 116 then intL r.tp else [])) ++ (if hasL r.k 112 then intL r.pa else [])) ++ (if hasL r.k 108 then intL r.le else [])) ++ (if hasL r.k 97 then intL r.cl else [])) ++ (if hasL r.k 97 then intL r.se else [])) ++ (if hasL r.k 97 then intL r.co else [])) ++ (if hasL r.k 110 then enT r.nm else [])) ++ (if hasL r.k 107 then enT r.ky else [])) ++ (if hasL r.k 118 then enT r.va else [])) ++ (if hasL r.k 114 then enT r.rk else [])) ++ (if hasL r.k 105 then enR r.ids else [])) ++ (if hasL r.k 109 then enR r.isr else [])) ++ (if hasL r.k 120 then enR r.ad else [])) ++ (if hasL r.k 120 then enR r.dr else [])) = putL r := by
  unfold putL tailL
  rw [flag_no hf]
  simp only [hN, hT, hR, Rc.ns, Rc.ts, Rc.rs, encs]
  exact glue16 _ _ _ _ _ _ _ _ _ _ _ _ _ _ _ _ _
theorem rbytes_t {ok : Nat → Prop} (r : Rc) (v : Value) (w : World) (hv : IsR ok w v r) (hc : (chk r).2.2 = 0) (hf : hasL r.k 102 = true) :
    Calls Tryz.prog 97 #[v] w fun e w' => ∃ u, e = .returned u ∧ Sl bc w' u (putL r) ∧ Below w.heap.size w w' := by
  have hi := chk_is hc
  have n1 : r.nm.length ≤ 256 := by have := nameA_asks hi.nm; split at this; (exact this); (rw [this]; simp)
  have n2 : r.ky.length ≤ 256 := by have := nameA_asks hi.ky; split at this; (exact this); (rw [this]; simp)
  have n4 : r.rk.length ≤ 256 := by have := nameA_asks hi.rk; split at this; (exact this); (rw [this]; simp)
  have n3 := hi.va
  have hkw : IntKind.u8.wrap r.k = r.k := by rw [IntKind.wrap_u8]; have := hi.k1; have := hi.k2; omega
  obtain ⟨a14, a15, a16, a17, c14, c15, c16, c17, rfl, h⟩ := hv
  rw [← put_t hf]
  exact bytes_t r.k r.br r.ep r.tp r.pa r.le r.cl r.se r.co r.fl r.nm r.ky r.va r.rk a14 a15 a16 a17 r.ids.length r.isr.length r.ad.length r.dr.length c14 c15 c16 c17 _ _ _ _ _ _ _ _ _ _ _ _ _ _ _ _ _ _ _ _ _ _ _ _ _ _ _ _ _ _ w hkw
      (li r.br (hasL r.k 98)) (li r.ep (hasL r.k 101)) (li r.tp (hasL r.k 116)) (li r.pa (hasL r.k 112)) (li r.le (hasL r.k 108)) (li r.cl (hasL r.k 97)) (li r.se (hasL r.k 97)) (li r.co (hasL r.k 97)) (by simp) (lt r.nm (hasL r.k 110) n1) (lt r.ky (hasL r.k 107) n2) (lt r.va (hasL r.k 118) n3) (lt r.rk (hasL r.k 114) n4) (lr r.ids (hasL r.k 105) hi.ids) (lr r.isr (hasL r.k 109) hi.isr) (lr r.ad (hasL r.k 120) hi.ad) (lr r.dr (hasL r.k 120) hi.dr)
      (hide (fun W => has_any r.k 98 W)) (hide (fun W => has_any r.k 101 W)) (hide (fun W => has_any r.k 116 W)) (hide (fun W => has_any r.k 112 W)) (hide (fun W => has_any r.k 108 W)) (hide (fun W => has_any r.k 97 W)) (hide (fun W => has_any r.k 110 W)) (hide (fun W => has_any r.k 107 W)) (hide (fun W => has_any r.k 118 W)) (hide (fun W => has_any r.k 114 W)) (hide (fun W => has_any r.k 105 W)) (hide (fun W => has_any r.k 109 W)) (hide (fun W => has_any r.k 120 W)) (hide (fun W => has_is hf W)) (hide (fun W _ => int1_any r.br (hasL r.k 98) W (num_few hi.br (by decide)))) (hide (fun W _ => int1_any r.ep (hasL r.k 101) W (num_few hi.ep (by decide)))) (hide (fun W _ => int1_any r.tp (hasL r.k 116) W (num_few hi.tp (by decide)))) (hide (fun W _ => int1_any r.pa (hasL r.k 112) W (num_few hi.pa (by decide)))) (hide (fun W _ => int1_any r.le (hasL r.k 108) W (num_few hi.le (by decide)))) (hide (fun W _ => int1_any r.cl (hasL r.k 97) W (num_few hi.cl (by decide)))) (hide (fun W _ => int1_any r.se (hasL r.k 97) W (num_few hi.se (by decide)))) (hide (fun W _ => int1_any r.co (hasL r.k 97) W (num_few hi.co (by decide)))) (hide (fun W _ => refFlag_sl r.fl W)) (hide (fun W _ => text1_any r.nm (hasL r.k 110) W (by omega))) (hide (fun W _ => text1_any r.ky (hasL r.k 107) W (by omega))) (hide (fun W _ => text1_any r.va (hasL r.k 118) W (by omega))) (hide (fun W _ => text1_any r.rk (hasL r.k 114) W (by omega))) (hide (fun W hb => rw1 _ r.ids (hasL r.k 105) W (h.h14.sl.below hb) hi.ids)) (hide (fun W hb => rw1 _ r.isr (hasL r.k 109) W (h.h15.sl.below hb) hi.isr)) (hide (fun W hb => rw1 _ r.ad (hasL r.k 120) W (h.h16.sl.below hb) hi.ad)) (hide (fun W hb => rw1 _ r.dr (hasL r.k 120) W (h.h17.sl.below hb) hi.dr))
theorem rbytes_f {ok : Nat → Prop} (r : Rc) (v : Value) (w : World) (hv : IsR ok w v r) (hc : (chk r).2.2 = 0) (hf : hasL r.k 102 = false) :
    Calls Tryz.prog 97 #[v] w fun e w' => ∃ u, e = .returned u ∧ Sl bc w' u (putL r) ∧ Below w.heap.size w w' := by
  have hi := chk_is hc
  have n1 : r.nm.length ≤ 256 := by have := nameA_asks hi.nm; split at this; (exact this); (rw [this]; simp)
  have n2 : r.ky.length ≤ 256 := by have := nameA_asks hi.ky; split at this; (exact this); (rw [this]; simp)
  have n4 : r.rk.length ≤ 256 := by have := nameA_asks hi.rk; split at this; (exact this); (rw [this]; simp)
  have n3 := hi.va
  have hkw : IntKind.u8.wrap r.k = r.k := by rw [IntKind.wrap_u8]; have := hi.k1; have := hi.k2; omega
  obtain ⟨a14, a15, a16, a17, c14, c15, c16, c17, rfl, h⟩ := hv
  rw [← put_f hf]
  exact bytes_f r.k r.br r.ep r.tp r.pa r.le r.cl r.se r.co r.fl r.nm r.ky r.va r.rk a14 a15 a16 a17 r.ids.length r.isr.length r.ad.length r.dr.length c14 c15 c16 c17 _ _ _ _ _ _ _ _ _ _ _ _ _ _ _ _ _ _ _ _ _ _ _ _ _ _ _ _ _ w hkw
      (li r.br (hasL r.k 98)) (li r.ep (hasL r.k 101)) (li r.tp (hasL r.k 116)) (li r.pa (hasL r.k 112)) (li r.le (hasL r.k 108)) (li r.cl (hasL r.k 97)) (li r.se (hasL r.k 97)) (li r.co (hasL r.k 97)) (lt r.nm (hasL r.k 110) n1) (lt r.ky (hasL r.k 107) n2) (lt r.va (hasL r.k 118) n3) (lt r.rk (hasL r.k 114) n4) (lr r.ids (hasL r.k 105) hi.ids) (lr r.isr (hasL r.k 109) hi.isr) (lr r.ad (hasL r.k 120) hi.ad) (lr r.dr (hasL r.k 120) hi.dr)
      (hide (fun W => has_any r.k 98 W)) (hide (fun W => has_any r.k 101 W)) (hide (fun W => has_any r.k 116 W)) (hide (fun W => has_any r.k 112 W)) (hide (fun W => has_any r.k 108 W)) (hide (fun W => has_any r.k 97 W)) (hide (fun W => has_any r.k 110 W)) (hide (fun W => has_any r.k 107 W)) (hide (fun W => has_any r.k 118 W)) (hide (fun W => has_any r.k 114 W)) (hide (fun W => has_any r.k 105 W)) (hide (fun W => has_any r.k 109 W)) (hide (fun W => has_any r.k 120 W)) (hide (fun W => has_is hf W)) (hide (fun W _ => int1_any r.br (hasL r.k 98) W (num_few hi.br (by decide)))) (hide (fun W _ => int1_any r.ep (hasL r.k 101) W (num_few hi.ep (by decide)))) (hide (fun W _ => int1_any r.tp (hasL r.k 116) W (num_few hi.tp (by decide)))) (hide (fun W _ => int1_any r.pa (hasL r.k 112) W (num_few hi.pa (by decide)))) (hide (fun W _ => int1_any r.le (hasL r.k 108) W (num_few hi.le (by decide)))) (hide (fun W _ => int1_any r.cl (hasL r.k 97) W (num_few hi.cl (by decide)))) (hide (fun W _ => int1_any r.se (hasL r.k 97) W (num_few hi.se (by decide)))) (hide (fun W _ => int1_any r.co (hasL r.k 97) W (num_few hi.co (by decide))))  (hide (fun W _ => text1_any r.nm (hasL r.k 110) W (by omega))) (hide (fun W _ => text1_any r.ky (hasL r.k 107) W (by omega))) (hide (fun W _ => text1_any r.va (hasL r.k 118) W (by omega))) (hide (fun W _ => text1_any r.rk (hasL r.k 114) W (by omega))) (hide (fun W hb => rw1 _ r.ids (hasL r.k 105) W (h.h14.sl.below hb) hi.ids)) (hide (fun W hb => rw1 _ r.isr (hasL r.k 109) W (h.h15.sl.below hb) hi.isr)) (hide (fun W hb => rw1 _ r.ad (hasL r.k 120) W (h.h16.sl.below hb) hi.ad)) (hide (fun W hb => rw1 _ r.dr (hasL r.k 120) W (h.h17.sl.below hb) hi.dr))
theorem rbytes_any {ok : Nat → Prop} (r : Rc) (v : Value) (w : World) (hv : IsR ok w v r) (hc : (chk r).2.2 = 0) :
    Calls Tryz.prog 97 #[v] w fun e w' => ∃ u, e = .returned u ∧ Sl bc w' u (putL r) ∧ Below w.heap.size w w' := by
  cases hf : hasL r.k 102 with
  | true => exact rbytes_t r v w hv hc hf
  | false => exact rbytes_f r v w hv hc hf
end Go.Proofs.YtoioddnlkbjljaaGreatDoor
namespace Go.Proofs.YtoioddnlkbjljaaGreatDoor
open Go.RowKit

theorem box_four (w : World) (x y z : Value) {Y : World} (hY : Y = (w.alloc (.cells #[x, y, z] 52)).alloc (.cells #[.string ⟨#[]⟩, .int .i64 0, .int .i64 0, .int .i64 0] 38)) : Below w.heap.size w Y ∧ (∀ V, Below Y.heap.size Y V → V.cell? ⟨w.heap.size, 0, none⟩ = some x ∧ V.cell? ⟨w.heap.size, 1, none⟩ = some y ∧ V.cell? ⟨w.heap.size, 2, none⟩ = some z) ∧ (∀ V, Below Y.heap.size Y V → V.cell? ⟨w.heap.size + 1, 0, none⟩ = some (.string ⟨#[]⟩) ∧ V.cell? ⟨w.heap.size + 1, 1, none⟩ = some (.int .i64 0) ∧ V.cell? ⟨w.heap.size + 1, 2, none⟩ = some (.int .i64 0) ∧ V.cell? ⟨w.heap.size + 1, 3, none⟩ = some (.int .i64 0) ∧ ∀ i, V.frozen? ⟨w.heap.size + 1, i, none⟩ = false) := by
  have hs : Y.heap.size = w.heap.size + 2 := by rw [hY]; simp
  refine ⟨by rw [hY]; exact ((Below.refl _ _).alloc (Nat.le_refl _) _).alloc (by simp) _, fun V h => ?_, fun V h => ?_⟩
  · have hc : ∀ i, V.cell? ⟨w.heap.size, i, none⟩ = _ := fun i => h.cell (p := ⟨w.heap.size, i, none⟩) (by show w.heap.size < _; omega)
    exact ⟨by rw [hc, hY]; simp, by rw [hc, hY]; simp, by rw [hc, hY]; simp⟩
  · have hc : ∀ i, V.cell? ⟨w.heap.size + 1, i, none⟩ = _ := fun i => h.cell (p := ⟨w.heap.size + 1, i, none⟩) (by show w.heap.size + 1 < _; omega)
    have hf : ∀ i, V.frozen? ⟨w.heap.size + 1, i, none⟩ = _ := fun i => h.frozen (p := ⟨w.heap.size + 1, i, none⟩) (by show w.heap.size + 1 < _; omega)
    exact ⟨by rw [hc, hY]; simp, by rw [hc, hY]; simp, by rw [hc, hY]; simp, by rw [hc, hY]; simp, fun i => by rw [hf, hY]; exact World.frozen?_alloc_at _ _ _ _ (by simp)⟩
set_option maxRecDepth 100000 in
set_option maxHeartbeats 16000000 in
theorem rbcheck_go {ok : Nat → Prop} (t bs : Int) (ao : Option Addr) (cap : Nat) (ps : List Rp) (w : World) (hrg : 0 < ps.length → ∃ b o, ao = some ⟨b, o, none⟩ ∧ w.rangeAt b o (rcs ps)) (hrw : ∀ p ∈ ps, RwP ok w p) (htx : ∀ p ∈ ps, TxR p.1) :
    Calls Tryz.prog 64 #[.agg #[.int .i64 t, .int .i64 bs, .slice ao ps.length cap]] w fun e w' => e = .returned (wrB (bw ⟨t, bs, rcl ps⟩)) ∧ Below w.heap.size w w' := by
  have HR := hide hrg
  have HW := hide hrw
  have HTX := hide htx
  obtain ⟨hb0, ht0, hr0⟩ := box_four w (.int .i64 t) (.int .i64 bs) (.slice ao ps.length cap) (Y := ((w.alloc (.cells #[.int .i64 t, .int .i64 bs, .slice ao ps.length cap] 52)).alloc (.cells #[.string ⟨#[]⟩, .int .i64 0, .int .i64 0, .int .i64 0] 38))) rfl
  have HB0 := hide hb0
  have HT := hide ht0
  have HR4 := hide hr0
  clear hrg hrw htx hb0 ht0 hr0
  by_cases h1 : t < 1 ∨ 1073741824 < t
  · have e : bw ⟨t, bs, rcl ps⟩ = ⟨⟨#[116, 101, 114, 109]⟩, t, 2, -1, 0⟩ := by unfold bw; simp only; rw [if_pos h1]
    rw [e]
    unfold wrB
    clear e HR HW HTX
    by_cases h2 : t < 1
    · go_enter Tryz.func64, Tryz.ntmps64
      go_upto_region 1 with fail
      generalize ((w.alloc (.cells #[.int .i64 t, .int .i64 bs, .slice ao ps.length cap] 52)).alloc (.cells #[.string ⟨#[]⟩, .int .i64 0, .int .i64 0, .int .i64 0] 38)) = Y at HB0 HT HR4 ⊢
      obtain ⟨i0, i1, i2⟩ := HT.out Y (Below.refl _ _)
      obtain ⟨r0, r1, r2, r3, rf⟩ := HR4.out Y (Below.refl _ _)
      have rf0 := rf 0
      have rf1 := rf 1
      have rf2 := rf 2
      have rf3 := rf 3
      clear rf
      go_wp2_with fail
      exact bodyPost_ret (v := .agg #[.string ⟨#[116, 101, 114, 109]⟩, .int .i64 t, .int .i64 2, .int .i64 (-1)]) (by simp [results, Tryz.results64, go_sem, r0, r1, r2, r3]) rfl ⟨rfl, (((HB0.out.setCell (by exact Nat.le_succ _) _).setCell (by exact Nat.le_succ _) _).setCell (by exact Nat.le_succ _) _).setCell (by exact Nat.le_succ _) _⟩
    · have h3 : 1073741824 < t := by omega
      go_enter Tryz.func64, Tryz.ntmps64
      go_upto_region 1 with fail
      generalize ((w.alloc (.cells #[.int .i64 t, .int .i64 bs, .slice ao ps.length cap] 52)).alloc (.cells #[.string ⟨#[]⟩, .int .i64 0, .int .i64 0, .int .i64 0] 38)) = Y at HB0 HT HR4 ⊢
      obtain ⟨i0, i1, i2⟩ := HT.out Y (Below.refl _ _)
      obtain ⟨r0, r1, r2, r3, rf⟩ := HR4.out Y (Below.refl _ _)
      have rf0 := rf 0
      have rf1 := rf 1
      have rf2 := rf 2
      have rf3 := rf 3
      clear rf
      go_wp2_with fail
      exact bodyPost_ret (v := .agg #[.string ⟨#[116, 101, 114, 109]⟩, .int .i64 t, .int .i64 2, .int .i64 (-1)]) (by simp [results, Tryz.results64, go_sem, r0, r1, r2, r3]) rfl ⟨rfl, (((HB0.out.setCell (by exact Nat.le_succ _) _).setCell (by exact Nat.le_succ _) _).setCell (by exact Nat.le_succ _) _).setCell (by exact Nat.le_succ _) _⟩
  by_cases h2 : bs < 0 ∨ 1073741824 < bs
  · have e : bw ⟨t, bs, rcl ps⟩ = ⟨⟨#[98, 97, 115, 101]⟩, bs, 2, -1, 0⟩ := by unfold bw; simp only; rw [if_neg h1, if_pos h2]
    rw [e]
    unfold wrB
    have k1 : ¬ t < 1 := by omega
    have k2 : ¬ 1073741824 < t := by omega
    clear e HR HW HTX h1
    by_cases h2 : bs < 0
    · go_enter Tryz.func64, Tryz.ntmps64
      go_upto_region 1 with fail
      generalize ((w.alloc (.cells #[.int .i64 t, .int .i64 bs, .slice ao ps.length cap] 52)).alloc (.cells #[.string ⟨#[]⟩, .int .i64 0, .int .i64 0, .int .i64 0] 38)) = Y at HB0 HT HR4 ⊢
      obtain ⟨i0, i1, i2⟩ := HT.out Y (Below.refl _ _)
      obtain ⟨r0, r1, r2, r3, rf⟩ := HR4.out Y (Below.refl _ _)
      have rf0 := rf 0
      have rf1 := rf 1
      have rf2 := rf 2
      have rf3 := rf 3
      clear rf
      go_wp2_with fail
      exact bodyPost_ret (v := .agg #[.string ⟨#[98, 97, 115, 101]⟩, .int .i64 bs, .int .i64 2, .int .i64 (-1)]) (by simp [results, Tryz.results64, go_sem, r0, r1, r2, r3]) rfl ⟨rfl, (((HB0.out.setCell (by exact Nat.le_succ _) _).setCell (by exact Nat.le_succ _) _).setCell (by exact Nat.le_succ _) _).setCell (by exact Nat.le_succ _) _⟩
    · have h3 : 1073741824 < bs := by omega
      go_enter Tryz.func64, Tryz.ntmps64
      go_upto_region 1 with fail
      generalize ((w.alloc (.cells #[.int .i64 t, .int .i64 bs, .slice ao ps.length cap] 52)).alloc (.cells #[.string ⟨#[]⟩, .int .i64 0, .int .i64 0, .int .i64 0] 38)) = Y at HB0 HT HR4 ⊢
      obtain ⟨i0, i1, i2⟩ := HT.out Y (Below.refl _ _)
      obtain ⟨r0, r1, r2, r3, rf⟩ := HR4.out Y (Below.refl _ _)
      have rf0 := rf 0
      have rf1 := rf 1
      have rf2 := rf 2
      have rf3 := rf 3
      clear rf
      go_wp2_with fail
      exact bodyPost_ret (v := .agg #[.string ⟨#[98, 97, 115, 101]⟩, .int .i64 bs, .int .i64 2, .int .i64 (-1)]) (by simp [results, Tryz.results64, go_sem, r0, r1, r2, r3]) rfl ⟨rfl, (((HB0.out.setCell (by exact Nat.le_succ _) _).setCell (by exact Nat.le_succ _) _).setCell (by exact Nat.le_succ _) _).setCell (by exact Nat.le_succ _) _⟩
  by_cases h3 : ps.length < 1 ∨ 64 < ps.length
  · have e : bw ⟨t, bs, rcl ps⟩ = ⟨⟨#[114, 101, 99, 111, 114, 100, 115]⟩, (ps.length : Int), 6, -1, 0⟩ := by unfold bw; simp only; rw [if_neg h1, if_neg h2, rcl_len, if_pos h3]
    rw [e]
    unfold wrB
    have k1 : ¬ t < 1 := by omega
    have k2 : ¬ 1073741824 < t := by omega
    have k3 : ¬ bs < 0 := by omega
    have k4 : ¬ 1073741824 < bs := by omega
    clear e HR HW HTX h1 h2
    by_cases h2 : ps.length < 1
    · have h2I : (ps.length : Int) < 1 := by omega
      go_enter Tryz.func64, Tryz.ntmps64
      go_upto_region 1 with fail
      generalize ((w.alloc (.cells #[.int .i64 t, .int .i64 bs, .slice ao ps.length cap] 52)).alloc (.cells #[.string ⟨#[]⟩, .int .i64 0, .int .i64 0, .int .i64 0] 38)) = Y at HB0 HT HR4 ⊢
      obtain ⟨i0, i1, i2⟩ := HT.out Y (Below.refl _ _)
      obtain ⟨r0, r1, r2, r3, rf⟩ := HR4.out Y (Below.refl _ _)
      have rf0 := rf 0
      have rf1 := rf 1
      have rf2 := rf 2
      have rf3 := rf 3
      clear rf
      go_wp2_with fail
      exact bodyPost_ret (v := .agg #[.string ⟨#[114, 101, 99, 111, 114, 100, 115]⟩, .int .i64 (ps.length : Int), .int .i64 6, .int .i64 (-1)]) (by simp [results, Tryz.results64, go_sem, r0, r1, r2, r3]) rfl ⟨rfl, (((HB0.out.setCell (by exact Nat.le_succ _) _).setCell (by exact Nat.le_succ _) _).setCell (by exact Nat.le_succ _) _).setCell (by exact Nat.le_succ _) _⟩
    · have h5 : ¬ (ps.length : Int) < 1 := by omega
      have h4 : (64 : Int) < (ps.length : Int) := by omega
      go_enter Tryz.func64, Tryz.ntmps64
      go_upto_region 1 with fail
      generalize ((w.alloc (.cells #[.int .i64 t, .int .i64 bs, .slice ao ps.length cap] 52)).alloc (.cells #[.string ⟨#[]⟩, .int .i64 0, .int .i64 0, .int .i64 0] 38)) = Y at HB0 HT HR4 ⊢
      obtain ⟨i0, i1, i2⟩ := HT.out Y (Below.refl _ _)
      obtain ⟨r0, r1, r2, r3, rf⟩ := HR4.out Y (Below.refl _ _)
      have rf0 := rf 0
      have rf1 := rf 1
      have rf2 := rf 2
      have rf3 := rf 3
      clear rf
      go_wp2_with fail
      exact bodyPost_ret (v := .agg #[.string ⟨#[114, 101, 99, 111, 114, 100, 115]⟩, .int .i64 (ps.length : Int), .int .i64 6, .int .i64 (-1)]) (by simp [results, Tryz.results64, go_sem, r0, r1, r2, r3]) rfl ⟨rfl, (((HB0.out.setCell (by exact Nat.le_succ _) _).setCell (by exact Nat.le_succ _) _).setCell (by exact Nat.le_succ _) _).setCell (by exact Nat.le_succ _) _⟩
  obtain ⟨b, o, rfl, hrg⟩ := HR.out (by omega)
  clear HR
  have HR := hide hrg
  clear hrg
  have HAT := hide (fun j hj ha hc => bw_at (t := t) (b := bs) (ps := ps) (j := j) h1 h2 h3 hj ha hc)
  have HFI := hide (fun ha => bw_fine (t := t) (b := bs) (ps := ps) h1 h2 h3 ha)
  have k1 : ¬ t < 1 := by omega
  have k2 : ¬ 1073741824 < t := by omega
  have k3 : ¬ bs < 0 := by omega
  have k4 : ¬ 1073741824 < bs := by omega
  have k5 : ¬ (ps.length : Int) < 1 := by omega
  have k6 : ¬ (64 : Int) < (ps.length : Int) := by omega
  have hn : ps.length ≤ 64 := by omega
  clear h1 h2 h3
  go_enter Tryz.func64, Tryz.ntmps64
  go_upto_region 1 with fail
  generalize ((w.alloc (.cells #[.int .i64 t, .int .i64 bs, .slice (some ⟨b, o, none⟩) ps.length cap] 52)).alloc (.cells #[.string ⟨#[]⟩, .int .i64 0, .int .i64 0, .int .i64 0] 38)) = Y at HB0 HT HR4 ⊢
  obtain ⟨i0, i1, i2⟩ := HT.out Y (Below.refl _ _)
  go_wp2_with fail
  clear i0 i1 i2
  go_loopw [4] (fun i wr => ∃ j : Nat, j ≤ ps.length ∧ i = .int .i64 (j : Int) ∧ (∀ r ∈ (rcl ps).take j, (chk r).2.2 = 0) ∧ Below Y.heap.size Y wr) (fun i _ => ps.length - (intOf i).toNat)
  case atStart => exact ⟨0, Nat.zero_le _, rfl, fun r hr => by simp at hr, Below.refl _ _⟩
  case round =>
    obtain ⟨j, hj, rfl, hall, hb⟩ := hrel
    have HA := hide hall
    have HB := hide hb
    clear hall hb
    obtain ⟨i0, i1, i2⟩ := HT.out wr HB.out
    have HBw := hide (HB0.out.trans (HB.out.mono HB0.out.size))
    by_cases hlt : j < ps.length
    · have hltI : (j : Int) < (ps.length : Int) := by omega
      have HE := hide (range_bel (range_at HR.out hlt) HBw.out)
      have HP := hide ((HW.out _ (List.getElem_mem hlt)).below HBw.out)
      have HX := hide (HTX.out _ (List.getElem_mem hlt))
      have HN := hide (fun h => HAT.out j hlt HA.out h)
      have HK := hide (fun h => ok_take hlt HA.out h)
      generalize ps[j] = p at *
      have HC : Hid (Calls Tryz.prog 96 #[.agg (cel p).toArray] wr fun e w' => e = .returned (wr3 (chk p.1).1 (chk p.1).2.1 (chk p.1).2.2) ∧ Below wr.heap.size wr w') := hide (check_any p.1.k p.1.br p.1.ep p.1.tp p.1.pa p.1.le p.1.cl p.1.se p.1.co p.1.fl p.1.nm p.1.ky p.1.va p.1.rk p.2.a14 p.2.a15 p.2.a16 p.2.a17 p.2.c14 p.2.c15 p.2.c16 p.2.c17 p.1.ids p.1.isr p.1.ad p.1.dr wr HX.out.nm HX.out.ky HX.out.va HX.out.rk HP.out.h14.sl HP.out.h15.sl HP.out.h16.sl HP.out.h17.sl)
      unfold wr3 at HC
      generalize chk p.1 = TT at *
      obtain ⟨tpo, tpa, tc⟩ := TT
      simp only at HC HN HK
      go_upto_region 12 with (first | (refine wpList_load_mid rfl _ _ rfl _ _ rfl _ _ HE.out Tryz.underlying55 rfl (by kernel_rfl) ?_) | (go_at_call 96; refine HC.out.mono ?_; rintro e V5 ⟨rfl, hb5⟩))
      obtain ⟨V, hV⟩ : ∃ V, V = V5.alloc (.cells #[.string tpo, .int .i64 tpa, .int .i64 tc] 36) := ⟨_, rfl⟩
      have hbV : Below wr.heap.size wr V := by rw [hV]; exact hb5.alloc hb5.size _
      have e0 : V.cell? ⟨V5.heap.size, 0, none⟩ = some (.string tpo) := by rw [hV]; simp
      have e2 : V.cell? ⟨V5.heap.size, 2, none⟩ = some (.int .i64 tc) := by rw [hV]; simp
      rw [← hV]
      have HBV := hide (HB.out.trans (hbV.mono HB.out.size))
      clear hV hbV hb5 HC HE HP HX HTX HW HAT HFI HR i0 i1 i2
      by_cases hc : tc = 0
      · subst hc
        go_wp2_with fail
        go_roundw
        case rel => exact ⟨j + 1, by omega, by go_num, HK.out rfl, HBV.out⟩
        case measure => simp [intOf]; omega
      · have hw := HN.out hc
        have hcb : (tc != 0) = true := by simp [hc]
        obtain ⟨r0, r1, r2, r3, rf⟩ := HR4.out V HBV.out
        have rf0 := rf 0
        have rf1 := rf 1
        have rf2 := rf 2
        have rf3 := rf 3
        clear rf
        have HBW := hide (HB0.out.trans (HBV.out.mono HB0.out.size))
        go_wp2_with fail
        exact bodyPost_ret (v := .agg #[.string tpo, .int .i64 (j : Int), .int .i64 tc, .int .i64 (j : Int)]) (by simp [results, Tryz.results64, go_sem, r0, r1, r2, r3]) rfl ⟨by rw [hw]; rfl, (((HBW.out.setCell (by exact Nat.le_succ _) _).setCell (by exact Nat.le_succ _) _).setCell (by exact Nat.le_succ _) _).setCell (by exact Nat.le_succ _) _⟩
    · obtain rfl : j = ps.length := by omega
      have hf := HFI.out (by have := HA.out; rw [← rcl_len, List.take_length] at this; exact this)
      obtain ⟨r0, r1, r2, r3, rf⟩ := HR4.out wr HB.out
      have rf0 := rf 0
      have rf1 := rf 1
      have rf2 := rf 2
      have rf3 := rf 3
      clear rf
      clear hlt HAT HFI HR HW HTX
      go_wp2_with fail
      exact bodyPost_ret (v := .agg #[.string ⟨#[]⟩, .int .i64 0, .int .i64 0, .int .i64 (-1)]) (by simp [results, Tryz.results64, go_sem, r0, r1, r2, r3]) rfl ⟨by rw [hf]; rfl, (((HBw.out.setCell (by exact Nat.le_succ _) _).setCell (by exact Nat.le_succ _) _).setCell (by exact Nat.le_succ _) _).setCell (by exact Nat.le_succ _) _⟩
theorem rbcheck_any {okb ok : Nat → Prop} (x : Bt) (v : Value) (w : World) (hv : IsB okb ok w v x) (htx : ∀ r ∈ x.rs, TxR r) : Calls Tryz.prog 64 #[v] w fun e w' => e = .returned (wrB (bw x)) ∧ Below w.heap.size w w' := by
  obtain ⟨u, ps, rfl, h2, h3⟩ := hv
  obtain ⟨t, b, rs⟩ := x
  simp only at h3 htx ⊢
  subst h3
  obtain ⟨ao, cap, rfl⟩ := h2.form
  exact rbcheck_go t b ao cap ps w h2.rg h2.2 (fun p hp => htx p.1 (List.mem_map.2 ⟨p, hp, rfl⟩))
end Go.Proofs.YtoioddnlkbjljaaGreatDoor
