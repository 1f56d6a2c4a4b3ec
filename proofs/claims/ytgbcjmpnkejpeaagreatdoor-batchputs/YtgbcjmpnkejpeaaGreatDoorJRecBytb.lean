/-
  A RECORD THAT MAY BE AS BYTES, BY THE DOCUMENT: the bytes that the mathematics says. Condition: the rows' cells hold them.
-/
import Derived.Test.YtgbcjmpnkejpeaaGreatDoorJRecByt
import Derived.Test.YtgbcjmpnkejpeaaGreatDoorJRecPb
namespace Go.Proofs.YtgbcjmpnkejpeaaGreatDoor
open Go.RowKit

theorem one_le {α : Type} {en : α → List Int} {x : α} (h : Bool) (hx : (en x).length ≤ 9000) : (if h then en x else []).length ≤ 9000 := by
  cases h
  · simp
  · simpa using hx
theorem row_few {l : List Int} {h : Bool} (e : rowB l h = true) : l.length ≤ 7 ∧ ∀ y ∈ l, y ≤ 9223372036854775807 := by
  have := rowB_asks e
  split at this
  · exact ⟨this.1, fun y hy => by have := this.2 y hy; omega⟩
  · rw [this]; exact ⟨by simp, fun y hy => by simp at hy⟩
theorem num_few {x lo hi : Int} {h : Bool} (e : numB x h lo hi = true) (q : hi ≤ 1073741824) : x ≤ 9223372036854775807 := by
  have := numB_asks e
  split at this <;> omega
theorem li (x : Int) (h : Bool) : (if h then intL x else []).length ≤ 9000 := one_le (en := intL) h (by have := intL_le x; omega)
theorem lt (S : List UInt8) (h : Bool) (q : S.length ≤ 256) : (if h then enT S else []).length ≤ 9000 := one_le (en := enT) h (by
  unfold enT
  rw [List.length_append, sb_len]
  have := intL_le S.length
  omega)
theorem lr (l : List Int) (h : Bool) (q : rowB l h = true) : (if h then enR l else []).length ≤ 9000 := one_le (en := enR) h (by
  unfold enR
  rw [List.length_append]
  have h1 := intL_le l.length
  have h2 := rowL_le l
  have h3 := (row_few q).1
  omega)
theorem rw1 (x : Value) (l : List Int) (h : Bool) (W : World) (hs : Sl ic W x l) (q : rowB l h = true) : Calls Tryz.prog 135 #[x, .bool h] W fun e w' => ∃ v, e = .returned v ∧ Sl bc w' v (if h then enR l else []) ∧ Below W.heap.size W w' := row1_any x l h W hs (by have := (row_few q).1; omega) (fun i hl => (row_few q).2 _ (List.getElem_mem hl))
theorem has_is {k c : Int} {b : Bool} (h : hasL k c = b) (W : World) : Calls Tryz.prog 53 #[.int .i64 k, .int .u8 c] W fun e w' => e = .returned (.bool b) ∧ w' = W := h ▸ has_any k c W
theorem glue16 (k : Int) (p0 p1 p2 p3 p4 p5 p6 p7 p8 p9 p10 p11 p12 p13 p14 p15 : List Int) : (((((((((((((((([k] ++ p0) ++ p1) ++ p2) ++ p3) ++ p4) ++ p5) ++ p6) ++ p7) ++ p8) ++ p9) ++ p10) ++ p11) ++ p12) ++ p13) ++ p14) ++ p15) = k :: (p0 ++ (p1 ++ (p2 ++ (p3 ++ (p4 ++ (p5 ++ (p6 ++ (p7 ++ []))))))) ++ ([] ++ (p8 ++ (p9 ++ (p10 ++ (p11 ++ []))) ++ (p12 ++ (p13 ++ (p14 ++ (p15 ++ []))))))) := by
  simp only [List.append_nil, List.append_assoc, List.cons_append, List.nil_append]
theorem encs_no {α : Type} (en : α → List Int) (x : α) {h : Bool} (e : h = false) : encs en [h] [x] = [] := by
  subst e
  simp [encs]
theorem flag_no {r : Rc} (hf : hasL r.k 102 = false) : encs (fun f => [flB f]) (hF r.k) [r.fl] = [] := encs_no _ _ hf
theorem put_t {r : Rc} (hf : hasL r.k 102 = true) : ((((((((((((((((([r.k] ++ (if hasL r.k 98 then intL r.br else [])) ++ (if hasL r.k 101 then intL r.ep else [])) ++ (if hasL r.k 116 then intL r.tp else [])) ++ (if hasL r.k 112 then intL r.pa else [])) ++ (if hasL r.k 108 then intL r.le else [])) ++ (if hasL r.k 97 then intL r.cl else [])) ++ (if hasL r.k 97 then intL r.se else [])) ++ (if hasL r.k 97 then intL r.co else [])) ++ [flB r.fl]) ++ (if hasL r.k 110 then enT r.nm else [])) ++ (if hasL r.k 107 then enT r.ky else [])) ++ (if hasL r.k 118 then enT r.va else [])) ++ (if hasL r.k 114 then enT r.rk else [])) ++ (if hasL r.k 105 then enR r.ids else [])) ++ (if hasL r.k 109 then enR r.isr else [])) ++ (if hasL r.k 120 then enR r.ad else [])) ++ (if hasL r.k 120 then enR r.dr else [])) = putL r := by
  unfold putL tailL
  simp only [hN, hF, hT, hR, Rc.ns, Rc.ts, Rc.rs, encs, hf, if_true, List.append_nil, List.append_assoc, List.cons_append, List.nil_append]
theorem put_f {r : Rc} (hf : hasL r.k 102 = false) : (((((((((((((((([r.k] ++ (if hasL r.k 98 then intL r.br else [])) ++ (if hasL r.k 101 then intL r.ep else [])) ++ (if hasL r.k 116 then intL r.tp else [])) ++ (if hasL r.k 112 then intL r.pa else [])) ++ (if hasL r.k 108 then intL r.le else [])) ++ (if hasL r.k 97 then intL r.cl else [])) ++ (if hasL r.k 97 then intL r.se else [])) ++ (if hasL r.k 97 then intL r.co else [])) ++ (if hasL r.k 110 then enT r.nm else [])) ++ (if hasL r.k 107 then enT r.ky else [])) ++ (if hasL r.k 118 then enT r.va else [])) ++ (if hasL r.k 114 then enT r.rk else [])) ++ (if hasL r.k 105 then enR r.ids else [])) ++ (if hasL r.k 109 then enR r.isr else [])) ++ (if hasL r.k 120 then enR r.ad else [])) ++ (if hasL r.k 120 then enR r.dr else [])) = putL r := by
  unfold putL tailL
  rw [flag_no hf]
  simp only [hN, hT, hR, Rc.ns, Rc.ts, Rc.rs, encs]
  exact glue16 _ _ _ _ _ _ _ _ _ _ _ _ _ _ _ _ _
theorem rbytes_t {ok : Nat → Prop} (r : Rc) (v : Value) (w : World) (hv : IsR ok w v r) (hc : (chk r).2.2 = 0) (hf : hasL r.k 102 = true) :
    Calls Tryz.prog 109 #[v] w fun e w' => ∃ u, e = .returned u ∧ Sl bc w' u (putL r) ∧ Below w.heap.size w w' := by
  have hi := chk_is hc
  have n1 : r.nm.length ≤ 256 := by have := nameA_asks hi.nm; split at this; (exact this); (rw [this]; simp)
  have n2 : r.ky.length ≤ 256 := by have := nameA_asks hi.ky; split at this; (exact this); (rw [this]; simp)
  have n4 : r.rk.length ≤ 256 := by have := nameA_asks hi.rk; split at this; (exact this); (rw [this]; simp)
  have n3 := hi.va
  have hkw : IntKind.u8.wrap r.k = r.k := by rw [IntKind.wrap_u8]; have := hi.k1; have := hi.k2; omega
  obtain ⟨a14, a15, a16, a17, c14, c15, c16, c17, rfl, h⟩ := hv
  rw [← put_t hf]
  exact bytes_t r.k r.br r.ep r.tp r.pa r.le r.cl r.se r.co r.fl r.nm r.ky r.va r.rk a14 a15 a16 a17 r.ids.length r.isr.length r.ad.length r.dr.length c14 c15 c16 c17 _ _ _ _ _ _ _ _ _ _ _ _ _ _ _ _ _ _ _ _ _ _ _ _ _ _ _ _ _ _ w hkw
      (li r.br (hasL r.k 98)) (li r.ep (hasL r.k 101)) (li r.tp (hasL r.k 116)) (li r.pa (hasL r.k 112)) (li r.le (hasL r.k 108)) (li r.cl (hasL r.k 97)) (li r.se (hasL r.k 97)) (li r.co (hasL r.k 97)) (by simp) (lt r.nm (hasL r.k 110) n1) (lt r.ky (hasL r.k 107) n2) (lt r.va (hasL r.k 118) n3) (lt r.rk (hasL r.k 114) n4) (lr r.ids (hasL r.k 105) hi.ids) (lr r.isr (hasL r.k 109) hi.isr) (lr r.ad (hasL r.k 120) hi.ad) (lr r.dr (hasL r.k 120) hi.dr)
      (hide (fun W => has_any r.k 98 W)) (hide (fun W => has_any r.k 101 W)) (hide (fun W => has_any r.k 116 W)) (hide (fun W => has_any r.k 112 W)) (hide (fun W => has_any r.k 108 W)) (hide (fun W => has_any r.k 97 W)) (hide (fun W => has_any r.k 110 W)) (hide (fun W => has_any r.k 107 W)) (hide (fun W => has_any r.k 118 W)) (hide (fun W => has_any r.k 114 W)) (hide (fun W => has_any r.k 105 W)) (hide (fun W => has_any r.k 109 W)) (hide (fun W => has_any r.k 120 W)) (hide (fun W => has_is hf W)) (hide (fun W _ => int1_any r.br (hasL r.k 98) W (num_few hi.br (by decide)))) (hide (fun W _ => int1_any r.ep (hasL r.k 101) W (num_few hi.ep (by decide)))) (hide (fun W _ => int1_any r.tp (hasL r.k 116) W (num_few hi.tp (by decide)))) (hide (fun W _ => int1_any r.pa (hasL r.k 112) W (num_few hi.pa (by decide)))) (hide (fun W _ => int1_any r.le (hasL r.k 108) W (num_few hi.le (by decide)))) (hide (fun W _ => int1_any r.cl (hasL r.k 97) W (num_few hi.cl (by decide)))) (hide (fun W _ => int1_any r.se (hasL r.k 97) W (num_few hi.se (by decide)))) (hide (fun W _ => int1_any r.co (hasL r.k 97) W (num_few hi.co (by decide)))) (hide (fun W _ => refFlag_sl r.fl W)) (hide (fun W _ => text1_any r.nm (hasL r.k 110) W (by omega))) (hide (fun W _ => text1_any r.ky (hasL r.k 107) W (by omega))) (hide (fun W _ => text1_any r.va (hasL r.k 118) W (by omega))) (hide (fun W _ => text1_any r.rk (hasL r.k 114) W (by omega))) (hide (fun W hb => rw1 _ r.ids (hasL r.k 105) W (h.h14.sl.below hb) hi.ids)) (hide (fun W hb => rw1 _ r.isr (hasL r.k 109) W (h.h15.sl.below hb) hi.isr)) (hide (fun W hb => rw1 _ r.ad (hasL r.k 120) W (h.h16.sl.below hb) hi.ad)) (hide (fun W hb => rw1 _ r.dr (hasL r.k 120) W (h.h17.sl.below hb) hi.dr))
theorem rbytes_f {ok : Nat → Prop} (r : Rc) (v : Value) (w : World) (hv : IsR ok w v r) (hc : (chk r).2.2 = 0) (hf : hasL r.k 102 = false) :
    Calls Tryz.prog 109 #[v] w fun e w' => ∃ u, e = .returned u ∧ Sl bc w' u (putL r) ∧ Below w.heap.size w w' := by
  have hi := chk_is hc
  have n1 : r.nm.length ≤ 256 := by have := nameA_asks hi.nm; split at this; (exact this); (rw [this]; simp)
  have n2 : r.ky.length ≤ 256 := by have := nameA_asks hi.ky; split at this; (exact this); (rw [this]; simp)
  have n4 : r.rk.length ≤ 256 := by have := nameA_asks hi.rk; split at this; (exact this); (rw [this]; simp)
  have n3 := hi.va
  have hkw : IntKind.u8.wrap r.k = r.k := by rw [IntKind.wrap_u8]; have := hi.k1; have := hi.k2; omega
  obtain ⟨a14, a15, a16, a17, c14, c15, c16, c17, rfl, h⟩ := hv
  rw [← put_f hf]
  exact bytes_f r.k r.br r.ep r.tp r.pa r.le r.cl r.se r.co r.fl r.nm r.ky r.va r.rk a14 a15 a16 a17 r.ids.length r.isr.length r.ad.length r.dr.length c14 c15 c16 c17 _ _ _ _ _ _ _ _ _ _ _ _ _ _ _ _ _ _ _ _ _ _ _ _ _ _ _ _ _ w hkw
      (li r.br (hasL r.k 98)) (li r.ep (hasL r.k 101)) (li r.tp (hasL r.k 116)) (li r.pa (hasL r.k 112)) (li r.le (hasL r.k 108)) (li r.cl (hasL r.k 97)) (li r.se (hasL r.k 97)) (li r.co (hasL r.k 97)) (lt r.nm (hasL r.k 110) n1) (lt r.ky (hasL r.k 107) n2) (lt r.va (hasL r.k 118) n3) (lt r.rk (hasL r.k 114) n4) (lr r.ids (hasL r.k 105) hi.ids) (lr r.isr (hasL r.k 109) hi.isr) (lr r.ad (hasL r.k 120) hi.ad) (lr r.dr (hasL r.k 120) hi.dr)
      (hide (fun W => has_any r.k 98 W)) (hide (fun W => has_any r.k 101 W)) (hide (fun W => has_any r.k 116 W)) (hide (fun W => has_any r.k 112 W)) (hide (fun W => has_any r.k 108 W)) (hide (fun W => has_any r.k 97 W)) (hide (fun W => has_any r.k 110 W)) (hide (fun W => has_any r.k 107 W)) (hide (fun W => has_any r.k 118 W)) (hide (fun W => has_any r.k 114 W)) (hide (fun W => has_any r.k 105 W)) (hide (fun W => has_any r.k 109 W)) (hide (fun W => has_any r.k 120 W)) (hide (fun W => has_is hf W)) (hide (fun W _ => int1_any r.br (hasL r.k 98) W (num_few hi.br (by decide)))) (hide (fun W _ => int1_any r.ep (hasL r.k 101) W (num_few hi.ep (by decide)))) (hide (fun W _ => int1_any r.tp (hasL r.k 116) W (num_few hi.tp (by decide)))) (hide (fun W _ => int1_any r.pa (hasL r.k 112) W (num_few hi.pa (by decide)))) (hide (fun W _ => int1_any r.le (hasL r.k 108) W (num_few hi.le (by decide)))) (hide (fun W _ => int1_any r.cl (hasL r.k 97) W (num_few hi.cl (by decide)))) (hide (fun W _ => int1_any r.se (hasL r.k 97) W (num_few hi.se (by decide)))) (hide (fun W _ => int1_any r.co (hasL r.k 97) W (num_few hi.co (by decide))))  (hide (fun W _ => text1_any r.nm (hasL r.k 110) W (by omega))) (hide (fun W _ => text1_any r.ky (hasL r.k 107) W (by omega))) (hide (fun W _ => text1_any r.va (hasL r.k 118) W (by omega))) (hide (fun W _ => text1_any r.rk (hasL r.k 114) W (by omega))) (hide (fun W hb => rw1 _ r.ids (hasL r.k 105) W (h.h14.sl.below hb) hi.ids)) (hide (fun W hb => rw1 _ r.isr (hasL r.k 109) W (h.h15.sl.below hb) hi.isr)) (hide (fun W hb => rw1 _ r.ad (hasL r.k 120) W (h.h16.sl.below hb) hi.ad)) (hide (fun W hb => rw1 _ r.dr (hasL r.k 120) W (h.h17.sl.below hb) hi.dr))
theorem rbytes_any {ok : Nat → Prop} (r : Rc) (v : Value) (w : World) (hv : IsR ok w v r) (hc : (chk r).2.2 = 0) :
    Calls Tryz.prog 109 #[v] w fun e w' => ∃ u, e = .returned u ∧ Sl bc w' u (putL r) ∧ Below w.heap.size w w' := by
  cases hf : hasL r.k 102 with
  | true => exact rbytes_t r v w hv hc hf
  | false => exact rbytes_f r v w hv hc hf
end Go.Proofs.YtgbcjmpnkejpeaaGreatDoor
