/-
  TWO RECORDS THE SAME (record.Same, castellanref05.Same): just if all their fields are.
-/
import Derived.Test.YtjjpfajbljbelaaGreatDoorJKRecSma3
import Derived.BigFrame
namespace Go.Proofs.YtjjpfajbljbelaaGreatDoor
open Go.RowKit
theorem wpList_load_want {P : Program} {ops : Array Oper} {rest : List Oper} {op : Oper} {a : Act} {w : World} {Q : Exit → Act → World → Prop} (hw : Region.wanted op (yielded ops a.tmps) = true) (ty : TypeId) (x : Operand) (ho : op.op = .load ty x)
  (b o : Nat) (hx : a.eval x = .pointer (some ⟨b, o, none⟩)) (cs : List Value) (d : TypeDesc) (hc : w.rangeAt b o cs) (hu : P.underlying ty = some d) (hd : d.isRow = true) (hi : (P.info? ty).map (·.size) = some cs.length)
  (h : wpList P ops Q rest (a.put op.dst (.agg cs.toArray)) w) : wpList P ops Q (op :: rest) a w :=
 BigFrame.wpList_want hw fun _ hK => wp_load_mid ty x ho b o hx cs d hc hu hd hi (hK _ _ h)
set_option maxRecDepth 100000 in
set_option maxHeartbeats 16000000 in
theorem csame_6 (k br ep tp pa le cl se co br' ep' tp' pa' le' cl' se' co' : Int) (fl : Bool) (nm ky va rk nm' ky' va' rk' : List UInt8) (a14 a15 a16 a17 b14 b15 b16 b17 : Option Addr) (c14 c15 c16 c17 d14 d15 d16 d17 : Nat) (ids isr ad dr ids' isr' ad' dr' : List Int) (w : World) (vA vB : Value) (hvA : vA = .agg #[.int .i64 k, .int .i64 br, .int .i64 ep, .int .i64 tp, .int .i64 pa, .int .i64 le, .int .i64 cl, .int .i64 se, .int .i64 co, .bool fl, .string ⟨nm.toArray⟩, .string ⟨ky.toArray⟩, .string ⟨va.toArray⟩, .string ⟨rk.toArray⟩, .slice a14 ids.length c14, .slice a15 isr.length c15, .slice a16 ad.length c16, .slice a17 dr.length c17]) (hvB : vB = .agg #[.int .i64 k, .int .i64 br', .int .i64 ep', .int .i64 tp', .int .i64 pa', .int .i64 le', .int .i64 cl', .int .i64 se', .int .i64 co', .bool fl, .string ⟨nm'.toArray⟩, .string ⟨ky'.toArray⟩, .string ⟨va'.toArray⟩, .string ⟨rk'.toArray⟩, .slice b14 ids'.length d14, .slice b15 isr'.length d15, .slice b16 ad'.length d16, .slice b17 dr'.length d17]) (HN : Hid (∀ W, Calls Tryz.prog 104 #[vA, vB] W fun e w' => e = .returned (.bool true) ∧ Below W.heap.size W w')) (HT : Hid (∀ W, Calls Tryz.prog 105 #[vA, vB] W fun e w' => e = .returned (.bool true) ∧ Below W.heap.size W w')) (HI0 : Hid (∀ W, Below w.heap.size w W → Calls Tryz.prog 106 #[.slice a14 ids.length c14, .slice b14 ids'.length d14] W fun e w' => e = .returned (.bool true) ∧ Qt W w')) (HI1 : Hid (∀ W, Below w.heap.size w W → Calls Tryz.prog 106 #[.slice a15 isr.length c15, .slice b15 isr'.length d15] W fun e w' => e = .returned (.bool true) ∧ Qt W w')) (HI2 : Hid (∀ W, Below w.heap.size w W → Calls Tryz.prog 106 #[.slice a16 ad.length c16, .slice b16 ad'.length d16] W fun e w' => e = .returned (.bool true) ∧ Qt W w')) (HI3 : Hid (∀ W, Below w.heap.size w W → Calls Tryz.prog 106 #[.slice a17 dr.length c17, .slice b17 dr'.length d17] W fun e w' => e = .returned (.bool true) ∧ Qt W w')) :
  Calls Tryz.prog 74 #[vA, vB] w fun e w' => e = .returned (.bool true) ∧ Below w.heap.size w w' := by
 subst hvA hvB
 obtain ⟨X, HX, HQ, HP, HB⟩ := lay2 w [.int .i64 k, .int .i64 br, .int .i64 ep, .int .i64 tp, .int .i64 pa, .int .i64 le, .int .i64 cl, .int .i64 se, .int .i64 co, .bool fl, .string ⟨nm.toArray⟩, .string ⟨ky.toArray⟩, .string ⟨va.toArray⟩, .string ⟨rk.toArray⟩, .slice a14 ids.length c14, .slice a15 isr.length c15, .slice a16 ad.length c16, .slice a17 dr.length c17] [.int .i64 k, .int .i64 br', .int .i64 ep', .int .i64 tp', .int .i64 pa', .int .i64 le', .int .i64 cl', .int .i64 se', .int .i64 co', .bool fl, .string ⟨nm'.toArray⟩, .string ⟨ky'.toArray⟩, .string ⟨va'.toArray⟩, .string ⟨rk'.toArray⟩, .slice b14 ids'.length d14, .slice b15 isr'.length d15, .slice b16 ad'.length d16, .slice b17 dr'.length d17]
 go_enter Tryz.func74, Tryz.ntmps74
 go_upto_region 1 with fail
 show Code.wp _ _ _ _ _
 rw [← HX.out]
 clear HX
 obtain ⟨g0, g9, g14, g15, g16, g17⟩ := six HQ.out
 obtain ⟨h0, h9, h14, h15, h16, h17⟩ := six HP.out
 skip
 go_wp2_with (first | (refine wpList_load_want (by rfl) _ _ rfl _ _ rfl _ _ HQ.out Tryz.underlying45 rfl (by kernel_rfl) ?_) | (refine wpList_load_want (by rfl) _ _ rfl _ _ rfl _ _ HP.out Tryz.underlying45 rfl (by kernel_rfl) ?_) | (go_at_call 104; refine (HN.out _).mono ?_; rintro e Y ⟨rfl, hY⟩; replace HQ := hide (range_below HQ.out hY); replace HP := hide (range_below HP.out hY); replace HB := hide (HB.out.trans ((hY).mono HB.out.size)); clear g0 g9 g14 g15 g16 g17 h0 h9 h14 h15 h16 h17; obtain ⟨g0, g9, g14, g15, g16, g17⟩ := six HQ.out; obtain ⟨h0, h9, h14, h15, h16, h17⟩ := six HP.out; skip; clear hY) | (go_at_call 105; refine (HT.out _).mono ?_; rintro e Y ⟨rfl, hY⟩; replace HQ := hide (range_below HQ.out hY); replace HP := hide (range_below HP.out hY); replace HB := hide (HB.out.trans ((hY).mono HB.out.size)); clear g0 g9 g14 g15 g16 g17 h0 h9 h14 h15 h16 h17; obtain ⟨g0, g9, g14, g15, g16, g17⟩ := six HQ.out; obtain ⟨h0, h9, h14, h15, h16, h17⟩ := six HP.out; skip; clear hY) | (go_at_call 106; first | (with_reducible refine (HI0.out _ HB.out).mono ?_; rintro e Y ⟨rfl, hY⟩; replace HQ := hide (range_below HQ.out hY.below); replace HP := hide (range_below HP.out hY.below); replace HB := hide (HB.out.trans ((hY.below).mono HB.out.size)); clear g0 g9 g14 g15 g16 g17 h0 h9 h14 h15 h16 h17; obtain ⟨g0, g9, g14, g15, g16, g17⟩ := six HQ.out; obtain ⟨h0, h9, h14, h15, h16, h17⟩ := six HP.out; skip; clear hY) | (with_reducible refine (HI1.out _ HB.out).mono ?_; rintro e Y ⟨rfl, hY⟩; replace HQ := hide (range_below HQ.out hY.below); replace HP := hide (range_below HP.out hY.below); replace HB := hide (HB.out.trans ((hY.below).mono HB.out.size)); clear g0 g9 g14 g15 g16 g17 h0 h9 h14 h15 h16 h17; obtain ⟨g0, g9, g14, g15, g16, g17⟩ := six HQ.out; obtain ⟨h0, h9, h14, h15, h16, h17⟩ := six HP.out; skip; clear hY) | (with_reducible refine (HI2.out _ HB.out).mono ?_; rintro e Y ⟨rfl, hY⟩; replace HQ := hide (range_below HQ.out hY.below); replace HP := hide (range_below HP.out hY.below); replace HB := hide (HB.out.trans ((hY.below).mono HB.out.size)); clear g0 g9 g14 g15 g16 g17 h0 h9 h14 h15 h16 h17; obtain ⟨g0, g9, g14, g15, g16, g17⟩ := six HQ.out; obtain ⟨h0, h9, h14, h15, h16, h17⟩ := six HP.out; skip; clear hY) | (with_reducible refine (HI3.out _ HB.out).mono ?_; rintro e Y ⟨rfl, hY⟩; replace HQ := hide (range_below HQ.out hY.below); replace HP := hide (range_below HP.out hY.below); replace HB := hide (HB.out.trans ((hY.below).mono HB.out.size)); clear g0 g9 g14 g15 g16 g17 h0 h9 h14 h15 h16 h17; obtain ⟨g0, g9, g14, g15, g16, g17⟩ := six HQ.out; obtain ⟨h0, h9, h14, h15, h16, h17⟩ := six HP.out; skip; clear hY)))
 go_ret
 exact ⟨rfl, HB.out⟩
def sameR (a b : Rc) : Bool := decide (a.k = b.k ∧ a.br = b.br ∧ a.ep = b.ep ∧ a.tp = b.tp ∧ a.pa = b.pa ∧ a.le = b.le ∧ a.cl = b.cl ∧ a.se = b.se ∧ a.co = b.co ∧ a.fl = b.fl ∧ a.nm = b.nm ∧ a.ky = b.ky ∧ a.va = b.va ∧ a.rk = b.rk) && eqI a.ids b.ids && eqI a.isr b.isr && eqI a.ad b.ad && eqI a.dr b.dr
theorem sameR_self (a : Rc) : sameR a a = true := by simp [sameR, eqI]
structure LnR (r : Rc) : Prop where
 ids : r.ids.length ≤ 100000
 isr : r.isr.length ≤ 100000
 ad : r.ad.length ≤ 100000
 dr : r.dr.length ≤ 100000
end Go.Proofs.YtjjpfajbljbelaaGreatDoor
