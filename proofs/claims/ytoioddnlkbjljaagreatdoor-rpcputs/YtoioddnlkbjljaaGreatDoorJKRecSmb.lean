/-
  TWO RECORDS THE SAME (record.Same, castellanref05.Same): just if all their fields are.
-/
import Derived.Test.YtoioddnlkbjljaaGreatDoorJKRecSma3
import Derived.BigFrame
namespace Go.Proofs.YtoioddnlkbjljaaGreatDoor
open Go.RowKit

/-- A load of many cells whose guard says yes. -/
theorem wpList_load_want {P : Program} {ops : Array Oper} {rest : List Oper} {op : Oper} {a : Act} {w : World} {Q : Exit → Act → World → Prop} (hw : Region.wanted op (yielded ops a.tmps) = true) (ty : TypeId) (x : Operand) (ho : op.op = .load ty x)
    (b o : Nat) (hx : a.eval x = .pointer (some ⟨b, o, none⟩)) (cs : List Value) (d : TypeDesc) (hc : w.rangeAt b o cs) (hu : P.underlying ty = some d) (hd : d.isRow = true) (hi : (P.info? ty).map (·.size) = some cs.length)
    (h : wpList P ops Q rest (a.put op.dst (.agg cs.toArray)) w) : wpList P ops Q (op :: rest) a w :=
  BigFrame.wpList_want hw fun _ hK => wp_load_mid ty x ho b o hx cs d hc hu hd hi (hK _ _ h)
set_option maxRecDepth 100000 in
set_option maxHeartbeats 16000000 in
theorem csame_0 (k br ep tp pa le cl se co br' ep' tp' pa' le' cl' se' co' : Int) (fl : Bool) (nm ky va rk nm' ky' va' rk' : List UInt8) (a14 a15 a16 a17 b14 b15 b16 b17 : Option Addr) (c14 c15 c16 c17 d14 d15 d16 d17 : Nat) (ids isr ad dr ids' isr' ad' dr' : List Int) (w : World) (vA vB : Value) (hvA : vA = .agg #[.int .i64 k, .int .i64 br, .int .i64 ep, .int .i64 tp, .int .i64 pa, .int .i64 le, .int .i64 cl, .int .i64 se, .int .i64 co, .bool fl, .string ⟨nm.toArray⟩, .string ⟨ky.toArray⟩, .string ⟨va.toArray⟩, .string ⟨rk.toArray⟩, .slice a14 ids.length c14, .slice a15 isr.length c15, .slice a16 ad.length c16, .slice a17 dr.length c17]) (hvB : vB = .agg #[.int .i64 k, .int .i64 br', .int .i64 ep', .int .i64 tp', .int .i64 pa', .int .i64 le', .int .i64 cl', .int .i64 se', .int .i64 co', .bool fl, .string ⟨nm'.toArray⟩, .string ⟨ky'.toArray⟩, .string ⟨va'.toArray⟩, .string ⟨rk'.toArray⟩, .slice b14 ids'.length d14, .slice b15 isr'.length d15, .slice b16 ad'.length d16, .slice b17 dr'.length d17]) (HN : Hid (∀ W, Calls Tryz.prog 119 #[vA, vB] W fun e w' => e = .returned (.bool false) ∧ Below W.heap.size W w')) :
    Calls Tryz.prog 86 #[vA, vB] w fun e w' => e = .returned (.bool false) ∧ Below w.heap.size w w' := by
  subst hvA hvB
  obtain ⟨X, HX, HQ, HP, HB⟩ := lay2 w [.int .i64 k, .int .i64 br, .int .i64 ep, .int .i64 tp, .int .i64 pa, .int .i64 le, .int .i64 cl, .int .i64 se, .int .i64 co, .bool fl, .string ⟨nm.toArray⟩, .string ⟨ky.toArray⟩, .string ⟨va.toArray⟩, .string ⟨rk.toArray⟩, .slice a14 ids.length c14, .slice a15 isr.length c15, .slice a16 ad.length c16, .slice a17 dr.length c17] [.int .i64 k, .int .i64 br', .int .i64 ep', .int .i64 tp', .int .i64 pa', .int .i64 le', .int .i64 cl', .int .i64 se', .int .i64 co', .bool fl, .string ⟨nm'.toArray⟩, .string ⟨ky'.toArray⟩, .string ⟨va'.toArray⟩, .string ⟨rk'.toArray⟩, .slice b14 ids'.length d14, .slice b15 isr'.length d15, .slice b16 ad'.length d16, .slice b17 dr'.length d17]
  go_enter Tryz.func86, Tryz.ntmps86
  go_upto_region 1 with fail
  show Code.wp _ _ _ _ _
  rw [← HX.out]
  clear HX
  obtain ⟨g0, g9, g14, g15, g16, g17⟩ := six HQ.out
  obtain ⟨h0, h9, h14, h15, h16, h17⟩ := six HP.out
  skip
  go_wp2_with (first | (refine wpList_load_want (by rfl) _ _ rfl _ _ rfl _ _ HQ.out Tryz.underlying55 rfl (by kernel_rfl) ?_) | (refine wpList_load_want (by rfl) _ _ rfl _ _ rfl _ _ HP.out Tryz.underlying55 rfl (by kernel_rfl) ?_) | (go_at_call 119; refine (HN.out _).mono ?_; rintro e Y ⟨rfl, hY⟩; replace HQ := hide (range_below HQ.out hY); replace HP := hide (range_below HP.out hY); replace HB := hide (HB.out.trans ((hY).mono HB.out.size)); clear g0 g9 g14 g15 g16 g17 h0 h9 h14 h15 h16 h17; obtain ⟨g0, g9, g14, g15, g16, g17⟩ := six HQ.out; obtain ⟨h0, h9, h14, h15, h16, h17⟩ := six HP.out; skip; clear hY))
  go_ret
  exact ⟨rfl, HB.out⟩
set_option maxRecDepth 100000 in
set_option maxHeartbeats 16000000 in
theorem csame_1 (k br ep tp pa le cl se co br' ep' tp' pa' le' cl' se' co' : Int) (fl : Bool) (nm ky va rk nm' ky' va' rk' : List UInt8) (a14 a15 a16 a17 b14 b15 b16 b17 : Option Addr) (c14 c15 c16 c17 d14 d15 d16 d17 : Nat) (ids isr ad dr ids' isr' ad' dr' : List Int) (w : World) (vA vB : Value) (hvA : vA = .agg #[.int .i64 k, .int .i64 br, .int .i64 ep, .int .i64 tp, .int .i64 pa, .int .i64 le, .int .i64 cl, .int .i64 se, .int .i64 co, .bool fl, .string ⟨nm.toArray⟩, .string ⟨ky.toArray⟩, .string ⟨va.toArray⟩, .string ⟨rk.toArray⟩, .slice a14 ids.length c14, .slice a15 isr.length c15, .slice a16 ad.length c16, .slice a17 dr.length c17]) (hvB : vB = .agg #[.int .i64 k, .int .i64 br', .int .i64 ep', .int .i64 tp', .int .i64 pa', .int .i64 le', .int .i64 cl', .int .i64 se', .int .i64 co', .bool fl, .string ⟨nm'.toArray⟩, .string ⟨ky'.toArray⟩, .string ⟨va'.toArray⟩, .string ⟨rk'.toArray⟩, .slice b14 ids'.length d14, .slice b15 isr'.length d15, .slice b16 ad'.length d16, .slice b17 dr'.length d17]) (HN : Hid (∀ W, Calls Tryz.prog 119 #[vA, vB] W fun e w' => e = .returned (.bool true) ∧ Below W.heap.size W w')) (HT : Hid (∀ W, Calls Tryz.prog 120 #[vA, vB] W fun e w' => e = .returned (.bool false) ∧ Below W.heap.size W w')) :
    Calls Tryz.prog 86 #[vA, vB] w fun e w' => e = .returned (.bool false) ∧ Below w.heap.size w w' := by
  subst hvA hvB
  obtain ⟨X, HX, HQ, HP, HB⟩ := lay2 w [.int .i64 k, .int .i64 br, .int .i64 ep, .int .i64 tp, .int .i64 pa, .int .i64 le, .int .i64 cl, .int .i64 se, .int .i64 co, .bool fl, .string ⟨nm.toArray⟩, .string ⟨ky.toArray⟩, .string ⟨va.toArray⟩, .string ⟨rk.toArray⟩, .slice a14 ids.length c14, .slice a15 isr.length c15, .slice a16 ad.length c16, .slice a17 dr.length c17] [.int .i64 k, .int .i64 br', .int .i64 ep', .int .i64 tp', .int .i64 pa', .int .i64 le', .int .i64 cl', .int .i64 se', .int .i64 co', .bool fl, .string ⟨nm'.toArray⟩, .string ⟨ky'.toArray⟩, .string ⟨va'.toArray⟩, .string ⟨rk'.toArray⟩, .slice b14 ids'.length d14, .slice b15 isr'.length d15, .slice b16 ad'.length d16, .slice b17 dr'.length d17]
  go_enter Tryz.func86, Tryz.ntmps86
  go_upto_region 1 with fail
  show Code.wp _ _ _ _ _
  rw [← HX.out]
  clear HX
  obtain ⟨g0, g9, g14, g15, g16, g17⟩ := six HQ.out
  obtain ⟨h0, h9, h14, h15, h16, h17⟩ := six HP.out
  skip
  go_wp2_with (first | (refine wpList_load_want (by rfl) _ _ rfl _ _ rfl _ _ HQ.out Tryz.underlying55 rfl (by kernel_rfl) ?_) | (refine wpList_load_want (by rfl) _ _ rfl _ _ rfl _ _ HP.out Tryz.underlying55 rfl (by kernel_rfl) ?_) | (go_at_call 119; refine (HN.out _).mono ?_; rintro e Y ⟨rfl, hY⟩; replace HQ := hide (range_below HQ.out hY); replace HP := hide (range_below HP.out hY); replace HB := hide (HB.out.trans ((hY).mono HB.out.size)); clear g0 g9 g14 g15 g16 g17 h0 h9 h14 h15 h16 h17; obtain ⟨g0, g9, g14, g15, g16, g17⟩ := six HQ.out; obtain ⟨h0, h9, h14, h15, h16, h17⟩ := six HP.out; skip; clear hY) | (go_at_call 120; refine (HT.out _).mono ?_; rintro e Y ⟨rfl, hY⟩; replace HQ := hide (range_below HQ.out hY); replace HP := hide (range_below HP.out hY); replace HB := hide (HB.out.trans ((hY).mono HB.out.size)); clear g0 g9 g14 g15 g16 g17 h0 h9 h14 h15 h16 h17; obtain ⟨g0, g9, g14, g15, g16, g17⟩ := six HQ.out; obtain ⟨h0, h9, h14, h15, h16, h17⟩ := six HP.out; skip; clear hY))
  go_ret
  exact ⟨rfl, HB.out⟩
set_option maxRecDepth 100000 in
set_option maxHeartbeats 16000000 in
theorem csame_2 (k br ep tp pa le cl se co br' ep' tp' pa' le' cl' se' co' : Int) (fl : Bool) (nm ky va rk nm' ky' va' rk' : List UInt8) (a14 a15 a16 a17 b14 b15 b16 b17 : Option Addr) (c14 c15 c16 c17 d14 d15 d16 d17 : Nat) (ids isr ad dr ids' isr' ad' dr' : List Int) (w : World) (vA vB : Value) (hvA : vA = .agg #[.int .i64 k, .int .i64 br, .int .i64 ep, .int .i64 tp, .int .i64 pa, .int .i64 le, .int .i64 cl, .int .i64 se, .int .i64 co, .bool fl, .string ⟨nm.toArray⟩, .string ⟨ky.toArray⟩, .string ⟨va.toArray⟩, .string ⟨rk.toArray⟩, .slice a14 ids.length c14, .slice a15 isr.length c15, .slice a16 ad.length c16, .slice a17 dr.length c17]) (hvB : vB = .agg #[.int .i64 k, .int .i64 br', .int .i64 ep', .int .i64 tp', .int .i64 pa', .int .i64 le', .int .i64 cl', .int .i64 se', .int .i64 co', .bool fl, .string ⟨nm'.toArray⟩, .string ⟨ky'.toArray⟩, .string ⟨va'.toArray⟩, .string ⟨rk'.toArray⟩, .slice b14 ids'.length d14, .slice b15 isr'.length d15, .slice b16 ad'.length d16, .slice b17 dr'.length d17]) (HN : Hid (∀ W, Calls Tryz.prog 119 #[vA, vB] W fun e w' => e = .returned (.bool true) ∧ Below W.heap.size W w')) (HT : Hid (∀ W, Calls Tryz.prog 120 #[vA, vB] W fun e w' => e = .returned (.bool true) ∧ Below W.heap.size W w')) (HI0 : Hid (∀ W, Below w.heap.size w W → Calls Tryz.prog 121 #[.slice a14 ids.length c14, .slice b14 ids'.length d14] W fun e w' => e = .returned (.bool false) ∧ Qt W w')) :
    Calls Tryz.prog 86 #[vA, vB] w fun e w' => e = .returned (.bool false) ∧ Below w.heap.size w w' := by
  subst hvA hvB
  obtain ⟨X, HX, HQ, HP, HB⟩ := lay2 w [.int .i64 k, .int .i64 br, .int .i64 ep, .int .i64 tp, .int .i64 pa, .int .i64 le, .int .i64 cl, .int .i64 se, .int .i64 co, .bool fl, .string ⟨nm.toArray⟩, .string ⟨ky.toArray⟩, .string ⟨va.toArray⟩, .string ⟨rk.toArray⟩, .slice a14 ids.length c14, .slice a15 isr.length c15, .slice a16 ad.length c16, .slice a17 dr.length c17] [.int .i64 k, .int .i64 br', .int .i64 ep', .int .i64 tp', .int .i64 pa', .int .i64 le', .int .i64 cl', .int .i64 se', .int .i64 co', .bool fl, .string ⟨nm'.toArray⟩, .string ⟨ky'.toArray⟩, .string ⟨va'.toArray⟩, .string ⟨rk'.toArray⟩, .slice b14 ids'.length d14, .slice b15 isr'.length d15, .slice b16 ad'.length d16, .slice b17 dr'.length d17]
  go_enter Tryz.func86, Tryz.ntmps86
  go_upto_region 1 with fail
  show Code.wp _ _ _ _ _
  rw [← HX.out]
  clear HX
  obtain ⟨g0, g9, g14, g15, g16, g17⟩ := six HQ.out
  obtain ⟨h0, h9, h14, h15, h16, h17⟩ := six HP.out
  skip
  go_wp2_with (first | (refine wpList_load_want (by rfl) _ _ rfl _ _ rfl _ _ HQ.out Tryz.underlying55 rfl (by kernel_rfl) ?_) | (refine wpList_load_want (by rfl) _ _ rfl _ _ rfl _ _ HP.out Tryz.underlying55 rfl (by kernel_rfl) ?_) | (go_at_call 119; refine (HN.out _).mono ?_; rintro e Y ⟨rfl, hY⟩; replace HQ := hide (range_below HQ.out hY); replace HP := hide (range_below HP.out hY); replace HB := hide (HB.out.trans ((hY).mono HB.out.size)); clear g0 g9 g14 g15 g16 g17 h0 h9 h14 h15 h16 h17; obtain ⟨g0, g9, g14, g15, g16, g17⟩ := six HQ.out; obtain ⟨h0, h9, h14, h15, h16, h17⟩ := six HP.out; skip; clear hY) | (go_at_call 120; refine (HT.out _).mono ?_; rintro e Y ⟨rfl, hY⟩; replace HQ := hide (range_below HQ.out hY); replace HP := hide (range_below HP.out hY); replace HB := hide (HB.out.trans ((hY).mono HB.out.size)); clear g0 g9 g14 g15 g16 g17 h0 h9 h14 h15 h16 h17; obtain ⟨g0, g9, g14, g15, g16, g17⟩ := six HQ.out; obtain ⟨h0, h9, h14, h15, h16, h17⟩ := six HP.out; skip; clear hY) | (go_at_call 121; first | (with_reducible refine (HI0.out _ HB.out).mono ?_; rintro e Y ⟨rfl, hY⟩; replace HQ := hide (range_below HQ.out hY.below); replace HP := hide (range_below HP.out hY.below); replace HB := hide (HB.out.trans ((hY.below).mono HB.out.size)); clear g0 g9 g14 g15 g16 g17 h0 h9 h14 h15 h16 h17; obtain ⟨g0, g9, g14, g15, g16, g17⟩ := six HQ.out; obtain ⟨h0, h9, h14, h15, h16, h17⟩ := six HP.out; skip; clear hY)))
  go_ret
  exact ⟨rfl, HB.out⟩
set_option maxRecDepth 100000 in
set_option maxHeartbeats 16000000 in
theorem csame_3 (k br ep tp pa le cl se co br' ep' tp' pa' le' cl' se' co' : Int) (fl : Bool) (nm ky va rk nm' ky' va' rk' : List UInt8) (a14 a15 a16 a17 b14 b15 b16 b17 : Option Addr) (c14 c15 c16 c17 d14 d15 d16 d17 : Nat) (ids isr ad dr ids' isr' ad' dr' : List Int) (w : World) (vA vB : Value) (hvA : vA = .agg #[.int .i64 k, .int .i64 br, .int .i64 ep, .int .i64 tp, .int .i64 pa, .int .i64 le, .int .i64 cl, .int .i64 se, .int .i64 co, .bool fl, .string ⟨nm.toArray⟩, .string ⟨ky.toArray⟩, .string ⟨va.toArray⟩, .string ⟨rk.toArray⟩, .slice a14 ids.length c14, .slice a15 isr.length c15, .slice a16 ad.length c16, .slice a17 dr.length c17]) (hvB : vB = .agg #[.int .i64 k, .int .i64 br', .int .i64 ep', .int .i64 tp', .int .i64 pa', .int .i64 le', .int .i64 cl', .int .i64 se', .int .i64 co', .bool fl, .string ⟨nm'.toArray⟩, .string ⟨ky'.toArray⟩, .string ⟨va'.toArray⟩, .string ⟨rk'.toArray⟩, .slice b14 ids'.length d14, .slice b15 isr'.length d15, .slice b16 ad'.length d16, .slice b17 dr'.length d17]) (HN : Hid (∀ W, Calls Tryz.prog 119 #[vA, vB] W fun e w' => e = .returned (.bool true) ∧ Below W.heap.size W w')) (HT : Hid (∀ W, Calls Tryz.prog 120 #[vA, vB] W fun e w' => e = .returned (.bool true) ∧ Below W.heap.size W w')) (HI0 : Hid (∀ W, Below w.heap.size w W → Calls Tryz.prog 121 #[.slice a14 ids.length c14, .slice b14 ids'.length d14] W fun e w' => e = .returned (.bool true) ∧ Qt W w')) (HI1 : Hid (∀ W, Below w.heap.size w W → Calls Tryz.prog 121 #[.slice a15 isr.length c15, .slice b15 isr'.length d15] W fun e w' => e = .returned (.bool false) ∧ Qt W w')) :
    Calls Tryz.prog 86 #[vA, vB] w fun e w' => e = .returned (.bool false) ∧ Below w.heap.size w w' := by
  subst hvA hvB
  obtain ⟨X, HX, HQ, HP, HB⟩ := lay2 w [.int .i64 k, .int .i64 br, .int .i64 ep, .int .i64 tp, .int .i64 pa, .int .i64 le, .int .i64 cl, .int .i64 se, .int .i64 co, .bool fl, .string ⟨nm.toArray⟩, .string ⟨ky.toArray⟩, .string ⟨va.toArray⟩, .string ⟨rk.toArray⟩, .slice a14 ids.length c14, .slice a15 isr.length c15, .slice a16 ad.length c16, .slice a17 dr.length c17] [.int .i64 k, .int .i64 br', .int .i64 ep', .int .i64 tp', .int .i64 pa', .int .i64 le', .int .i64 cl', .int .i64 se', .int .i64 co', .bool fl, .string ⟨nm'.toArray⟩, .string ⟨ky'.toArray⟩, .string ⟨va'.toArray⟩, .string ⟨rk'.toArray⟩, .slice b14 ids'.length d14, .slice b15 isr'.length d15, .slice b16 ad'.length d16, .slice b17 dr'.length d17]
  go_enter Tryz.func86, Tryz.ntmps86
  go_upto_region 1 with fail
  show Code.wp _ _ _ _ _
  rw [← HX.out]
  clear HX
  obtain ⟨g0, g9, g14, g15, g16, g17⟩ := six HQ.out
  obtain ⟨h0, h9, h14, h15, h16, h17⟩ := six HP.out
  skip
  go_wp2_with (first | (refine wpList_load_want (by rfl) _ _ rfl _ _ rfl _ _ HQ.out Tryz.underlying55 rfl (by kernel_rfl) ?_) | (refine wpList_load_want (by rfl) _ _ rfl _ _ rfl _ _ HP.out Tryz.underlying55 rfl (by kernel_rfl) ?_) | (go_at_call 119; refine (HN.out _).mono ?_; rintro e Y ⟨rfl, hY⟩; replace HQ := hide (range_below HQ.out hY); replace HP := hide (range_below HP.out hY); replace HB := hide (HB.out.trans ((hY).mono HB.out.size)); clear g0 g9 g14 g15 g16 g17 h0 h9 h14 h15 h16 h17; obtain ⟨g0, g9, g14, g15, g16, g17⟩ := six HQ.out; obtain ⟨h0, h9, h14, h15, h16, h17⟩ := six HP.out; skip; clear hY) | (go_at_call 120; refine (HT.out _).mono ?_; rintro e Y ⟨rfl, hY⟩; replace HQ := hide (range_below HQ.out hY); replace HP := hide (range_below HP.out hY); replace HB := hide (HB.out.trans ((hY).mono HB.out.size)); clear g0 g9 g14 g15 g16 g17 h0 h9 h14 h15 h16 h17; obtain ⟨g0, g9, g14, g15, g16, g17⟩ := six HQ.out; obtain ⟨h0, h9, h14, h15, h16, h17⟩ := six HP.out; skip; clear hY) | (go_at_call 121; first | (with_reducible refine (HI0.out _ HB.out).mono ?_; rintro e Y ⟨rfl, hY⟩; replace HQ := hide (range_below HQ.out hY.below); replace HP := hide (range_below HP.out hY.below); replace HB := hide (HB.out.trans ((hY.below).mono HB.out.size)); clear g0 g9 g14 g15 g16 g17 h0 h9 h14 h15 h16 h17; obtain ⟨g0, g9, g14, g15, g16, g17⟩ := six HQ.out; obtain ⟨h0, h9, h14, h15, h16, h17⟩ := six HP.out; skip; clear hY) | (with_reducible refine (HI1.out _ HB.out).mono ?_; rintro e Y ⟨rfl, hY⟩; replace HQ := hide (range_below HQ.out hY.below); replace HP := hide (range_below HP.out hY.below); replace HB := hide (HB.out.trans ((hY.below).mono HB.out.size)); clear g0 g9 g14 g15 g16 g17 h0 h9 h14 h15 h16 h17; obtain ⟨g0, g9, g14, g15, g16, g17⟩ := six HQ.out; obtain ⟨h0, h9, h14, h15, h16, h17⟩ := six HP.out; skip; clear hY)))
  go_ret
  exact ⟨rfl, HB.out⟩
set_option maxRecDepth 100000 in
set_option maxHeartbeats 16000000 in
theorem csame_4 (k br ep tp pa le cl se co br' ep' tp' pa' le' cl' se' co' : Int) (fl : Bool) (nm ky va rk nm' ky' va' rk' : List UInt8) (a14 a15 a16 a17 b14 b15 b16 b17 : Option Addr) (c14 c15 c16 c17 d14 d15 d16 d17 : Nat) (ids isr ad dr ids' isr' ad' dr' : List Int) (w : World) (vA vB : Value) (hvA : vA = .agg #[.int .i64 k, .int .i64 br, .int .i64 ep, .int .i64 tp, .int .i64 pa, .int .i64 le, .int .i64 cl, .int .i64 se, .int .i64 co, .bool fl, .string ⟨nm.toArray⟩, .string ⟨ky.toArray⟩, .string ⟨va.toArray⟩, .string ⟨rk.toArray⟩, .slice a14 ids.length c14, .slice a15 isr.length c15, .slice a16 ad.length c16, .slice a17 dr.length c17]) (hvB : vB = .agg #[.int .i64 k, .int .i64 br', .int .i64 ep', .int .i64 tp', .int .i64 pa', .int .i64 le', .int .i64 cl', .int .i64 se', .int .i64 co', .bool fl, .string ⟨nm'.toArray⟩, .string ⟨ky'.toArray⟩, .string ⟨va'.toArray⟩, .string ⟨rk'.toArray⟩, .slice b14 ids'.length d14, .slice b15 isr'.length d15, .slice b16 ad'.length d16, .slice b17 dr'.length d17]) (HN : Hid (∀ W, Calls Tryz.prog 119 #[vA, vB] W fun e w' => e = .returned (.bool true) ∧ Below W.heap.size W w')) (HT : Hid (∀ W, Calls Tryz.prog 120 #[vA, vB] W fun e w' => e = .returned (.bool true) ∧ Below W.heap.size W w')) (HI0 : Hid (∀ W, Below w.heap.size w W → Calls Tryz.prog 121 #[.slice a14 ids.length c14, .slice b14 ids'.length d14] W fun e w' => e = .returned (.bool true) ∧ Qt W w')) (HI1 : Hid (∀ W, Below w.heap.size w W → Calls Tryz.prog 121 #[.slice a15 isr.length c15, .slice b15 isr'.length d15] W fun e w' => e = .returned (.bool true) ∧ Qt W w')) (HI2 : Hid (∀ W, Below w.heap.size w W → Calls Tryz.prog 121 #[.slice a16 ad.length c16, .slice b16 ad'.length d16] W fun e w' => e = .returned (.bool false) ∧ Qt W w')) :
    Calls Tryz.prog 86 #[vA, vB] w fun e w' => e = .returned (.bool false) ∧ Below w.heap.size w w' := by
  subst hvA hvB
  obtain ⟨X, HX, HQ, HP, HB⟩ := lay2 w [.int .i64 k, .int .i64 br, .int .i64 ep, .int .i64 tp, .int .i64 pa, .int .i64 le, .int .i64 cl, .int .i64 se, .int .i64 co, .bool fl, .string ⟨nm.toArray⟩, .string ⟨ky.toArray⟩, .string ⟨va.toArray⟩, .string ⟨rk.toArray⟩, .slice a14 ids.length c14, .slice a15 isr.length c15, .slice a16 ad.length c16, .slice a17 dr.length c17] [.int .i64 k, .int .i64 br', .int .i64 ep', .int .i64 tp', .int .i64 pa', .int .i64 le', .int .i64 cl', .int .i64 se', .int .i64 co', .bool fl, .string ⟨nm'.toArray⟩, .string ⟨ky'.toArray⟩, .string ⟨va'.toArray⟩, .string ⟨rk'.toArray⟩, .slice b14 ids'.length d14, .slice b15 isr'.length d15, .slice b16 ad'.length d16, .slice b17 dr'.length d17]
  go_enter Tryz.func86, Tryz.ntmps86
  go_upto_region 1 with fail
  show Code.wp _ _ _ _ _
  rw [← HX.out]
  clear HX
  obtain ⟨g0, g9, g14, g15, g16, g17⟩ := six HQ.out
  obtain ⟨h0, h9, h14, h15, h16, h17⟩ := six HP.out
  skip
  go_wp2_with (first | (refine wpList_load_want (by rfl) _ _ rfl _ _ rfl _ _ HQ.out Tryz.underlying55 rfl (by kernel_rfl) ?_) | (refine wpList_load_want (by rfl) _ _ rfl _ _ rfl _ _ HP.out Tryz.underlying55 rfl (by kernel_rfl) ?_) | (go_at_call 119; refine (HN.out _).mono ?_; rintro e Y ⟨rfl, hY⟩; replace HQ := hide (range_below HQ.out hY); replace HP := hide (range_below HP.out hY); replace HB := hide (HB.out.trans ((hY).mono HB.out.size)); clear g0 g9 g14 g15 g16 g17 h0 h9 h14 h15 h16 h17; obtain ⟨g0, g9, g14, g15, g16, g17⟩ := six HQ.out; obtain ⟨h0, h9, h14, h15, h16, h17⟩ := six HP.out; skip; clear hY) | (go_at_call 120; refine (HT.out _).mono ?_; rintro e Y ⟨rfl, hY⟩; replace HQ := hide (range_below HQ.out hY); replace HP := hide (range_below HP.out hY); replace HB := hide (HB.out.trans ((hY).mono HB.out.size)); clear g0 g9 g14 g15 g16 g17 h0 h9 h14 h15 h16 h17; obtain ⟨g0, g9, g14, g15, g16, g17⟩ := six HQ.out; obtain ⟨h0, h9, h14, h15, h16, h17⟩ := six HP.out; skip; clear hY) | (go_at_call 121; first | (with_reducible refine (HI0.out _ HB.out).mono ?_; rintro e Y ⟨rfl, hY⟩; replace HQ := hide (range_below HQ.out hY.below); replace HP := hide (range_below HP.out hY.below); replace HB := hide (HB.out.trans ((hY.below).mono HB.out.size)); clear g0 g9 g14 g15 g16 g17 h0 h9 h14 h15 h16 h17; obtain ⟨g0, g9, g14, g15, g16, g17⟩ := six HQ.out; obtain ⟨h0, h9, h14, h15, h16, h17⟩ := six HP.out; skip; clear hY) | (with_reducible refine (HI1.out _ HB.out).mono ?_; rintro e Y ⟨rfl, hY⟩; replace HQ := hide (range_below HQ.out hY.below); replace HP := hide (range_below HP.out hY.below); replace HB := hide (HB.out.trans ((hY.below).mono HB.out.size)); clear g0 g9 g14 g15 g16 g17 h0 h9 h14 h15 h16 h17; obtain ⟨g0, g9, g14, g15, g16, g17⟩ := six HQ.out; obtain ⟨h0, h9, h14, h15, h16, h17⟩ := six HP.out; skip; clear hY) | (with_reducible refine (HI2.out _ HB.out).mono ?_; rintro e Y ⟨rfl, hY⟩; replace HQ := hide (range_below HQ.out hY.below); replace HP := hide (range_below HP.out hY.below); replace HB := hide (HB.out.trans ((hY.below).mono HB.out.size)); clear g0 g9 g14 g15 g16 g17 h0 h9 h14 h15 h16 h17; obtain ⟨g0, g9, g14, g15, g16, g17⟩ := six HQ.out; obtain ⟨h0, h9, h14, h15, h16, h17⟩ := six HP.out; skip; clear hY)))
  go_ret
  exact ⟨rfl, HB.out⟩
set_option maxRecDepth 100000 in
set_option maxHeartbeats 16000000 in
theorem csame_5 (k br ep tp pa le cl se co br' ep' tp' pa' le' cl' se' co' : Int) (fl : Bool) (nm ky va rk nm' ky' va' rk' : List UInt8) (a14 a15 a16 a17 b14 b15 b16 b17 : Option Addr) (c14 c15 c16 c17 d14 d15 d16 d17 : Nat) (ids isr ad dr ids' isr' ad' dr' : List Int) (w : World) (vA vB : Value) (hvA : vA = .agg #[.int .i64 k, .int .i64 br, .int .i64 ep, .int .i64 tp, .int .i64 pa, .int .i64 le, .int .i64 cl, .int .i64 se, .int .i64 co, .bool fl, .string ⟨nm.toArray⟩, .string ⟨ky.toArray⟩, .string ⟨va.toArray⟩, .string ⟨rk.toArray⟩, .slice a14 ids.length c14, .slice a15 isr.length c15, .slice a16 ad.length c16, .slice a17 dr.length c17]) (hvB : vB = .agg #[.int .i64 k, .int .i64 br', .int .i64 ep', .int .i64 tp', .int .i64 pa', .int .i64 le', .int .i64 cl', .int .i64 se', .int .i64 co', .bool fl, .string ⟨nm'.toArray⟩, .string ⟨ky'.toArray⟩, .string ⟨va'.toArray⟩, .string ⟨rk'.toArray⟩, .slice b14 ids'.length d14, .slice b15 isr'.length d15, .slice b16 ad'.length d16, .slice b17 dr'.length d17]) (HN : Hid (∀ W, Calls Tryz.prog 119 #[vA, vB] W fun e w' => e = .returned (.bool true) ∧ Below W.heap.size W w')) (HT : Hid (∀ W, Calls Tryz.prog 120 #[vA, vB] W fun e w' => e = .returned (.bool true) ∧ Below W.heap.size W w')) (HI0 : Hid (∀ W, Below w.heap.size w W → Calls Tryz.prog 121 #[.slice a14 ids.length c14, .slice b14 ids'.length d14] W fun e w' => e = .returned (.bool true) ∧ Qt W w')) (HI1 : Hid (∀ W, Below w.heap.size w W → Calls Tryz.prog 121 #[.slice a15 isr.length c15, .slice b15 isr'.length d15] W fun e w' => e = .returned (.bool true) ∧ Qt W w')) (HI2 : Hid (∀ W, Below w.heap.size w W → Calls Tryz.prog 121 #[.slice a16 ad.length c16, .slice b16 ad'.length d16] W fun e w' => e = .returned (.bool true) ∧ Qt W w')) (HI3 : Hid (∀ W, Below w.heap.size w W → Calls Tryz.prog 121 #[.slice a17 dr.length c17, .slice b17 dr'.length d17] W fun e w' => e = .returned (.bool false) ∧ Qt W w')) :
    Calls Tryz.prog 86 #[vA, vB] w fun e w' => e = .returned (.bool false) ∧ Below w.heap.size w w' := by
  subst hvA hvB
  obtain ⟨X, HX, HQ, HP, HB⟩ := lay2 w [.int .i64 k, .int .i64 br, .int .i64 ep, .int .i64 tp, .int .i64 pa, .int .i64 le, .int .i64 cl, .int .i64 se, .int .i64 co, .bool fl, .string ⟨nm.toArray⟩, .string ⟨ky.toArray⟩, .string ⟨va.toArray⟩, .string ⟨rk.toArray⟩, .slice a14 ids.length c14, .slice a15 isr.length c15, .slice a16 ad.length c16, .slice a17 dr.length c17] [.int .i64 k, .int .i64 br', .int .i64 ep', .int .i64 tp', .int .i64 pa', .int .i64 le', .int .i64 cl', .int .i64 se', .int .i64 co', .bool fl, .string ⟨nm'.toArray⟩, .string ⟨ky'.toArray⟩, .string ⟨va'.toArray⟩, .string ⟨rk'.toArray⟩, .slice b14 ids'.length d14, .slice b15 isr'.length d15, .slice b16 ad'.length d16, .slice b17 dr'.length d17]
  go_enter Tryz.func86, Tryz.ntmps86
  go_upto_region 1 with fail
  show Code.wp _ _ _ _ _
  rw [← HX.out]
  clear HX
  obtain ⟨g0, g9, g14, g15, g16, g17⟩ := six HQ.out
  obtain ⟨h0, h9, h14, h15, h16, h17⟩ := six HP.out
  skip
  go_wp2_with (first | (refine wpList_load_want (by rfl) _ _ rfl _ _ rfl _ _ HQ.out Tryz.underlying55 rfl (by kernel_rfl) ?_) | (refine wpList_load_want (by rfl) _ _ rfl _ _ rfl _ _ HP.out Tryz.underlying55 rfl (by kernel_rfl) ?_) | (go_at_call 119; refine (HN.out _).mono ?_; rintro e Y ⟨rfl, hY⟩; replace HQ := hide (range_below HQ.out hY); replace HP := hide (range_below HP.out hY); replace HB := hide (HB.out.trans ((hY).mono HB.out.size)); clear g0 g9 g14 g15 g16 g17 h0 h9 h14 h15 h16 h17; obtain ⟨g0, g9, g14, g15, g16, g17⟩ := six HQ.out; obtain ⟨h0, h9, h14, h15, h16, h17⟩ := six HP.out; skip; clear hY) | (go_at_call 120; refine (HT.out _).mono ?_; rintro e Y ⟨rfl, hY⟩; replace HQ := hide (range_below HQ.out hY); replace HP := hide (range_below HP.out hY); replace HB := hide (HB.out.trans ((hY).mono HB.out.size)); clear g0 g9 g14 g15 g16 g17 h0 h9 h14 h15 h16 h17; obtain ⟨g0, g9, g14, g15, g16, g17⟩ := six HQ.out; obtain ⟨h0, h9, h14, h15, h16, h17⟩ := six HP.out; skip; clear hY) | (go_at_call 121; first | (with_reducible refine (HI0.out _ HB.out).mono ?_; rintro e Y ⟨rfl, hY⟩; replace HQ := hide (range_below HQ.out hY.below); replace HP := hide (range_below HP.out hY.below); replace HB := hide (HB.out.trans ((hY.below).mono HB.out.size)); clear g0 g9 g14 g15 g16 g17 h0 h9 h14 h15 h16 h17; obtain ⟨g0, g9, g14, g15, g16, g17⟩ := six HQ.out; obtain ⟨h0, h9, h14, h15, h16, h17⟩ := six HP.out; skip; clear hY) | (with_reducible refine (HI1.out _ HB.out).mono ?_; rintro e Y ⟨rfl, hY⟩; replace HQ := hide (range_below HQ.out hY.below); replace HP := hide (range_below HP.out hY.below); replace HB := hide (HB.out.trans ((hY.below).mono HB.out.size)); clear g0 g9 g14 g15 g16 g17 h0 h9 h14 h15 h16 h17; obtain ⟨g0, g9, g14, g15, g16, g17⟩ := six HQ.out; obtain ⟨h0, h9, h14, h15, h16, h17⟩ := six HP.out; skip; clear hY) | (with_reducible refine (HI2.out _ HB.out).mono ?_; rintro e Y ⟨rfl, hY⟩; replace HQ := hide (range_below HQ.out hY.below); replace HP := hide (range_below HP.out hY.below); replace HB := hide (HB.out.trans ((hY.below).mono HB.out.size)); clear g0 g9 g14 g15 g16 g17 h0 h9 h14 h15 h16 h17; obtain ⟨g0, g9, g14, g15, g16, g17⟩ := six HQ.out; obtain ⟨h0, h9, h14, h15, h16, h17⟩ := six HP.out; skip; clear hY) | (with_reducible refine (HI3.out _ HB.out).mono ?_; rintro e Y ⟨rfl, hY⟩; replace HQ := hide (range_below HQ.out hY.below); replace HP := hide (range_below HP.out hY.below); replace HB := hide (HB.out.trans ((hY.below).mono HB.out.size)); clear g0 g9 g14 g15 g16 g17 h0 h9 h14 h15 h16 h17; obtain ⟨g0, g9, g14, g15, g16, g17⟩ := six HQ.out; obtain ⟨h0, h9, h14, h15, h16, h17⟩ := six HP.out; skip; clear hY)))
  go_ret
  exact ⟨rfl, HB.out⟩
set_option maxRecDepth 100000 in
set_option maxHeartbeats 16000000 in
theorem csame_6 (k br ep tp pa le cl se co br' ep' tp' pa' le' cl' se' co' : Int) (fl : Bool) (nm ky va rk nm' ky' va' rk' : List UInt8) (a14 a15 a16 a17 b14 b15 b16 b17 : Option Addr) (c14 c15 c16 c17 d14 d15 d16 d17 : Nat) (ids isr ad dr ids' isr' ad' dr' : List Int) (w : World) (vA vB : Value) (hvA : vA = .agg #[.int .i64 k, .int .i64 br, .int .i64 ep, .int .i64 tp, .int .i64 pa, .int .i64 le, .int .i64 cl, .int .i64 se, .int .i64 co, .bool fl, .string ⟨nm.toArray⟩, .string ⟨ky.toArray⟩, .string ⟨va.toArray⟩, .string ⟨rk.toArray⟩, .slice a14 ids.length c14, .slice a15 isr.length c15, .slice a16 ad.length c16, .slice a17 dr.length c17]) (hvB : vB = .agg #[.int .i64 k, .int .i64 br', .int .i64 ep', .int .i64 tp', .int .i64 pa', .int .i64 le', .int .i64 cl', .int .i64 se', .int .i64 co', .bool fl, .string ⟨nm'.toArray⟩, .string ⟨ky'.toArray⟩, .string ⟨va'.toArray⟩, .string ⟨rk'.toArray⟩, .slice b14 ids'.length d14, .slice b15 isr'.length d15, .slice b16 ad'.length d16, .slice b17 dr'.length d17]) (HN : Hid (∀ W, Calls Tryz.prog 119 #[vA, vB] W fun e w' => e = .returned (.bool true) ∧ Below W.heap.size W w')) (HT : Hid (∀ W, Calls Tryz.prog 120 #[vA, vB] W fun e w' => e = .returned (.bool true) ∧ Below W.heap.size W w')) (HI0 : Hid (∀ W, Below w.heap.size w W → Calls Tryz.prog 121 #[.slice a14 ids.length c14, .slice b14 ids'.length d14] W fun e w' => e = .returned (.bool true) ∧ Qt W w')) (HI1 : Hid (∀ W, Below w.heap.size w W → Calls Tryz.prog 121 #[.slice a15 isr.length c15, .slice b15 isr'.length d15] W fun e w' => e = .returned (.bool true) ∧ Qt W w')) (HI2 : Hid (∀ W, Below w.heap.size w W → Calls Tryz.prog 121 #[.slice a16 ad.length c16, .slice b16 ad'.length d16] W fun e w' => e = .returned (.bool true) ∧ Qt W w')) (HI3 : Hid (∀ W, Below w.heap.size w W → Calls Tryz.prog 121 #[.slice a17 dr.length c17, .slice b17 dr'.length d17] W fun e w' => e = .returned (.bool true) ∧ Qt W w')) :
    Calls Tryz.prog 86 #[vA, vB] w fun e w' => e = .returned (.bool true) ∧ Below w.heap.size w w' := by
  subst hvA hvB
  obtain ⟨X, HX, HQ, HP, HB⟩ := lay2 w [.int .i64 k, .int .i64 br, .int .i64 ep, .int .i64 tp, .int .i64 pa, .int .i64 le, .int .i64 cl, .int .i64 se, .int .i64 co, .bool fl, .string ⟨nm.toArray⟩, .string ⟨ky.toArray⟩, .string ⟨va.toArray⟩, .string ⟨rk.toArray⟩, .slice a14 ids.length c14, .slice a15 isr.length c15, .slice a16 ad.length c16, .slice a17 dr.length c17] [.int .i64 k, .int .i64 br', .int .i64 ep', .int .i64 tp', .int .i64 pa', .int .i64 le', .int .i64 cl', .int .i64 se', .int .i64 co', .bool fl, .string ⟨nm'.toArray⟩, .string ⟨ky'.toArray⟩, .string ⟨va'.toArray⟩, .string ⟨rk'.toArray⟩, .slice b14 ids'.length d14, .slice b15 isr'.length d15, .slice b16 ad'.length d16, .slice b17 dr'.length d17]
  go_enter Tryz.func86, Tryz.ntmps86
  go_upto_region 1 with fail
  show Code.wp _ _ _ _ _
  rw [← HX.out]
  clear HX
  obtain ⟨g0, g9, g14, g15, g16, g17⟩ := six HQ.out
  obtain ⟨h0, h9, h14, h15, h16, h17⟩ := six HP.out
  skip
  go_wp2_with (first | (refine wpList_load_want (by rfl) _ _ rfl _ _ rfl _ _ HQ.out Tryz.underlying55 rfl (by kernel_rfl) ?_) | (refine wpList_load_want (by rfl) _ _ rfl _ _ rfl _ _ HP.out Tryz.underlying55 rfl (by kernel_rfl) ?_) | (go_at_call 119; refine (HN.out _).mono ?_; rintro e Y ⟨rfl, hY⟩; replace HQ := hide (range_below HQ.out hY); replace HP := hide (range_below HP.out hY); replace HB := hide (HB.out.trans ((hY).mono HB.out.size)); clear g0 g9 g14 g15 g16 g17 h0 h9 h14 h15 h16 h17; obtain ⟨g0, g9, g14, g15, g16, g17⟩ := six HQ.out; obtain ⟨h0, h9, h14, h15, h16, h17⟩ := six HP.out; skip; clear hY) | (go_at_call 120; refine (HT.out _).mono ?_; rintro e Y ⟨rfl, hY⟩; replace HQ := hide (range_below HQ.out hY); replace HP := hide (range_below HP.out hY); replace HB := hide (HB.out.trans ((hY).mono HB.out.size)); clear g0 g9 g14 g15 g16 g17 h0 h9 h14 h15 h16 h17; obtain ⟨g0, g9, g14, g15, g16, g17⟩ := six HQ.out; obtain ⟨h0, h9, h14, h15, h16, h17⟩ := six HP.out; skip; clear hY) | (go_at_call 121; first | (with_reducible refine (HI0.out _ HB.out).mono ?_; rintro e Y ⟨rfl, hY⟩; replace HQ := hide (range_below HQ.out hY.below); replace HP := hide (range_below HP.out hY.below); replace HB := hide (HB.out.trans ((hY.below).mono HB.out.size)); clear g0 g9 g14 g15 g16 g17 h0 h9 h14 h15 h16 h17; obtain ⟨g0, g9, g14, g15, g16, g17⟩ := six HQ.out; obtain ⟨h0, h9, h14, h15, h16, h17⟩ := six HP.out; skip; clear hY) | (with_reducible refine (HI1.out _ HB.out).mono ?_; rintro e Y ⟨rfl, hY⟩; replace HQ := hide (range_below HQ.out hY.below); replace HP := hide (range_below HP.out hY.below); replace HB := hide (HB.out.trans ((hY.below).mono HB.out.size)); clear g0 g9 g14 g15 g16 g17 h0 h9 h14 h15 h16 h17; obtain ⟨g0, g9, g14, g15, g16, g17⟩ := six HQ.out; obtain ⟨h0, h9, h14, h15, h16, h17⟩ := six HP.out; skip; clear hY) | (with_reducible refine (HI2.out _ HB.out).mono ?_; rintro e Y ⟨rfl, hY⟩; replace HQ := hide (range_below HQ.out hY.below); replace HP := hide (range_below HP.out hY.below); replace HB := hide (HB.out.trans ((hY.below).mono HB.out.size)); clear g0 g9 g14 g15 g16 g17 h0 h9 h14 h15 h16 h17; obtain ⟨g0, g9, g14, g15, g16, g17⟩ := six HQ.out; obtain ⟨h0, h9, h14, h15, h16, h17⟩ := six HP.out; skip; clear hY) | (with_reducible refine (HI3.out _ HB.out).mono ?_; rintro e Y ⟨rfl, hY⟩; replace HQ := hide (range_below HQ.out hY.below); replace HP := hide (range_below HP.out hY.below); replace HB := hide (HB.out.trans ((hY.below).mono HB.out.size)); clear g0 g9 g14 g15 g16 g17 h0 h9 h14 h15 h16 h17; obtain ⟨g0, g9, g14, g15, g16, g17⟩ := six HQ.out; obtain ⟨h0, h9, h14, h15, h16, h17⟩ := six HP.out; skip; clear hY)))
  go_ret
  exact ⟨rfl, HB.out⟩
set_option maxRecDepth 100000 in
set_option maxHeartbeats 16000000 in
theorem csame_go (k br ep tp pa le cl se co k' br' ep' tp' pa' le' cl' se' co' : Int) (fl fl' : Bool) (nm ky va rk nm' ky' va' rk' : List UInt8) (a14 a15 a16 a17 b14 b15 b16 b17 : Option Addr) (c14 c15 c16 c17 d14 d15 d16 d17 : Nat) (ids isr ad dr ids' isr' ad' dr' : List Int) (w : World) (h14 : Sl ic w (.slice a14 ids.length c14) ids) (h15 : Sl ic w (.slice a15 isr.length c15) isr) (h16 : Sl ic w (.slice a16 ad.length c16) ad) (h17 : Sl ic w (.slice a17 dr.length c17) dr) (k14 : Sl ic w (.slice b14 ids'.length d14) ids') (k15 : Sl ic w (.slice b15 isr'.length d15) isr') (k16 : Sl ic w (.slice b16 ad'.length d16) ad') (k17 : Sl ic w (.slice b17 dr'.length d17) dr') (l14 : ids.length ≤ 100000) (l15 : isr.length ≤ 100000) (l16 : ad.length ≤ 100000) (l17 : dr.length ≤ 100000) :
    Calls Tryz.prog 86 #[.agg #[.int .i64 k, .int .i64 br, .int .i64 ep, .int .i64 tp, .int .i64 pa, .int .i64 le, .int .i64 cl, .int .i64 se, .int .i64 co, .bool fl, .string ⟨nm.toArray⟩, .string ⟨ky.toArray⟩, .string ⟨va.toArray⟩, .string ⟨rk.toArray⟩, .slice a14 ids.length c14, .slice a15 isr.length c15, .slice a16 ad.length c16, .slice a17 dr.length c17], .agg #[.int .i64 k', .int .i64 br', .int .i64 ep', .int .i64 tp', .int .i64 pa', .int .i64 le', .int .i64 cl', .int .i64 se', .int .i64 co', .bool fl', .string ⟨nm'.toArray⟩, .string ⟨ky'.toArray⟩, .string ⟨va'.toArray⟩, .string ⟨rk'.toArray⟩, .slice b14 ids'.length d14, .slice b15 isr'.length d15, .slice b16 ad'.length d16, .slice b17 dr'.length d17]] w fun e w' => e = .returned (.bool (decide (k = k') && decide (fl = fl') && decide (br = br' ∧ ep = ep' ∧ tp = tp' ∧ pa = pa' ∧ le = le' ∧ cl = cl' ∧ se = se' ∧ co = co') && decide (nm = nm' ∧ ky = ky' ∧ va = va' ∧ rk = rk') && eqI ids ids' && eqI isr isr' && eqI ad ad' && eqI dr dr')) ∧ Below w.heap.size w w' := by
  obtain ⟨R, hR⟩ : ∃ R, R = (decide (k = k') && decide (fl = fl') && decide (br = br' ∧ ep = ep' ∧ tp = tp' ∧ pa = pa' ∧ le = le' ∧ cl = cl' ∧ se = se' ∧ co = co') && decide (nm = nm' ∧ ky = ky' ∧ va = va' ∧ rk = rk') && eqI ids ids' && eqI isr isr' && eqI ad ad' && eqI dr dr') := ⟨_, rfl⟩
  rw [← hR]
  have HR := hide hR
  clear hR
  have HI0 := hide (fun W (h : Below w.heap.size w W) => equal_any _ _ ids ids' W (h14.below h) (k14.below h) l14)
  have HI1 := hide (fun W (h : Below w.heap.size w W) => equal_any _ _ isr isr' W (h15.below h) (k15.below h) l15)
  have HI2 := hide (fun W (h : Below w.heap.size w W) => equal_any _ _ ad ad' W (h16.below h) (k16.below h) l16)
  have HI3 := hide (fun W (h : Below w.heap.size w W) => equal_any _ _ dr dr' W (h17.below h) (k17.below h) l17)
  have HN := hide (fun W => snum_any k br ep tp pa le cl se co k' br' ep' tp' pa' le' cl' se' co' fl fl' nm ky va rk nm' ky' va' rk' a14 a15 a16 a17 b14 b15 b16 b17 c14 c15 c16 c17 d14 d15 d16 d17 ids isr ad dr ids' isr' ad' dr' W)
  have HT := hide (fun W => stxt_any k br ep tp pa le cl se co k' br' ep' tp' pa' le' cl' se' co' fl fl' nm ky va rk nm' ky' va' rk' a14 a15 a16 a17 b14 b15 b16 b17 c14 c15 c16 c17 d14 d15 d16 d17 ids isr ad dr ids' isr' ad' dr' W)
  generalize decide (br = br' ∧ ep = ep' ∧ tp = tp' ∧ pa = pa' ∧ le = le' ∧ cl = cl' ∧ se = se' ∧ co = co') = sn at *
  generalize decide (nm = nm' ∧ ky = ky' ∧ va = va' ∧ rk = rk') = st at *
  generalize eqI ids ids' = e0 at *
  generalize eqI isr isr' = e1 at *
  generalize eqI ad ad' = e2 at *
  generalize eqI dr dr' = e3 at *
  clear h14 h15 h16 h17 k14 k15 k16 k17
  by_cases hne : k = k'
  case neg =>
    have HE : Hid (R = false) := hide (by rw [HR.out]; simp [hne])
    have hn1 : (k == k') = false := by simpa using hne
    obtain ⟨X, HX, HQ, HP, HB⟩ := lay2 w [.int .i64 k, .int .i64 br, .int .i64 ep, .int .i64 tp, .int .i64 pa, .int .i64 le, .int .i64 cl, .int .i64 se, .int .i64 co, .bool fl, .string ⟨nm.toArray⟩, .string ⟨ky.toArray⟩, .string ⟨va.toArray⟩, .string ⟨rk.toArray⟩, .slice a14 ids.length c14, .slice a15 isr.length c15, .slice a16 ad.length c16, .slice a17 dr.length c17] [.int .i64 k', .int .i64 br', .int .i64 ep', .int .i64 tp', .int .i64 pa', .int .i64 le', .int .i64 cl', .int .i64 se', .int .i64 co', .bool fl', .string ⟨nm'.toArray⟩, .string ⟨ky'.toArray⟩, .string ⟨va'.toArray⟩, .string ⟨rk'.toArray⟩, .slice b14 ids'.length d14, .slice b15 isr'.length d15, .slice b16 ad'.length d16, .slice b17 dr'.length d17]
    go_enter Tryz.func86, Tryz.ntmps86
    go_upto_region 1 with fail
    show Code.wp _ _ _ _ _
    rw [← HX.out]
    clear HX
    have g0 := (C18.of HQ.out).c0
    have h0 := (C18.of HP.out).c0
    go_wp2_with fail
    go_ret
    exact ⟨by rw [HE.out]; rfl, HB.out⟩
  subst hne
  by_cases hne : fl = fl'
  case neg =>
    have HE : Hid (R = false) := hide (by rw [HR.out]; simp [hne])
    have hn1 : (fl == fl') = false := by simpa using hne
    obtain ⟨X, HX, HQ, HP, HB⟩ := lay2 w [.int .i64 k, .int .i64 br, .int .i64 ep, .int .i64 tp, .int .i64 pa, .int .i64 le, .int .i64 cl, .int .i64 se, .int .i64 co, .bool fl, .string ⟨nm.toArray⟩, .string ⟨ky.toArray⟩, .string ⟨va.toArray⟩, .string ⟨rk.toArray⟩, .slice a14 ids.length c14, .slice a15 isr.length c15, .slice a16 ad.length c16, .slice a17 dr.length c17] [.int .i64 k, .int .i64 br', .int .i64 ep', .int .i64 tp', .int .i64 pa', .int .i64 le', .int .i64 cl', .int .i64 se', .int .i64 co', .bool fl', .string ⟨nm'.toArray⟩, .string ⟨ky'.toArray⟩, .string ⟨va'.toArray⟩, .string ⟨rk'.toArray⟩, .slice b14 ids'.length d14, .slice b15 isr'.length d15, .slice b16 ad'.length d16, .slice b17 dr'.length d17]
    go_enter Tryz.func86, Tryz.ntmps86
    go_upto_region 1 with fail
    show Code.wp _ _ _ _ _
    rw [← HX.out]
    clear HX
    have g0 := (C18.of HQ.out).c0
    have h0 := (C18.of HP.out).c0
    have g9 := (C18.of HQ.out).c9
    have h9 := (C18.of HP.out).c9
    go_wp2_with fail
    go_ret
    exact ⟨by rw [HE.out]; rfl, HB.out⟩
  subst hne
  rcases sn with _ | _
  · rw [show R = false by rw [HR.out]; simp]
    exact csame_0 k br ep tp pa le cl se co br' ep' tp' pa' le' cl' se' co' fl nm ky va rk nm' ky' va' rk' a14 a15 a16 a17 b14 b15 b16 b17 c14 c15 c16 c17 d14 d15 d16 d17 ids isr ad dr ids' isr' ad' dr' w _ _ rfl rfl HN
  rcases st with _ | _
  · rw [show R = false by rw [HR.out]; simp]
    exact csame_1 k br ep tp pa le cl se co br' ep' tp' pa' le' cl' se' co' fl nm ky va rk nm' ky' va' rk' a14 a15 a16 a17 b14 b15 b16 b17 c14 c15 c16 c17 d14 d15 d16 d17 ids isr ad dr ids' isr' ad' dr' w _ _ rfl rfl HN HT
  rcases e0 with _ | _
  · rw [show R = false by rw [HR.out]; simp]
    exact csame_2 k br ep tp pa le cl se co br' ep' tp' pa' le' cl' se' co' fl nm ky va rk nm' ky' va' rk' a14 a15 a16 a17 b14 b15 b16 b17 c14 c15 c16 c17 d14 d15 d16 d17 ids isr ad dr ids' isr' ad' dr' w _ _ rfl rfl HN HT HI0
  rcases e1 with _ | _
  · rw [show R = false by rw [HR.out]; simp]
    exact csame_3 k br ep tp pa le cl se co br' ep' tp' pa' le' cl' se' co' fl nm ky va rk nm' ky' va' rk' a14 a15 a16 a17 b14 b15 b16 b17 c14 c15 c16 c17 d14 d15 d16 d17 ids isr ad dr ids' isr' ad' dr' w _ _ rfl rfl HN HT HI0 HI1
  rcases e2 with _ | _
  · rw [show R = false by rw [HR.out]; simp]
    exact csame_4 k br ep tp pa le cl se co br' ep' tp' pa' le' cl' se' co' fl nm ky va rk nm' ky' va' rk' a14 a15 a16 a17 b14 b15 b16 b17 c14 c15 c16 c17 d14 d15 d16 d17 ids isr ad dr ids' isr' ad' dr' w _ _ rfl rfl HN HT HI0 HI1 HI2
  rcases e3 with _ | _
  · rw [show R = false by rw [HR.out]; simp]
    exact csame_5 k br ep tp pa le cl se co br' ep' tp' pa' le' cl' se' co' fl nm ky va rk nm' ky' va' rk' a14 a15 a16 a17 b14 b15 b16 b17 c14 c15 c16 c17 d14 d15 d16 d17 ids isr ad dr ids' isr' ad' dr' w _ _ rfl rfl HN HT HI0 HI1 HI2 HI3
  rw [show R = true by rw [HR.out]; simp]
  exact csame_6 k br ep tp pa le cl se co br' ep' tp' pa' le' cl' se' co' fl nm ky va rk nm' ky' va' rk' a14 a15 a16 a17 b14 b15 b16 b17 c14 c15 c16 c17 d14 d15 d16 d17 ids isr ad dr ids' isr' ad' dr' w _ _ rfl rfl HN HT HI0 HI1 HI2 HI3
/-- Are two records the same? -/
def sameR (a b : Rc) : Bool := decide (a.k = b.k ∧ a.br = b.br ∧ a.ep = b.ep ∧ a.tp = b.tp ∧ a.pa = b.pa ∧ a.le = b.le ∧ a.cl = b.cl ∧ a.se = b.se ∧ a.co = b.co ∧ a.fl = b.fl ∧ a.nm = b.nm ∧ a.ky = b.ky ∧ a.va = b.va ∧ a.rk = b.rk) && eqI a.ids b.ids && eqI a.isr b.isr && eqI a.ad b.ad && eqI a.dr b.dr
theorem sameR_self (a : Rc) : sameR a a = true := by simp [sameR, eqI]
/-- Its rows are not too long. -/
structure LnR (r : Rc) : Prop where
  ids : r.ids.length ≤ 100000
  isr : r.isr.length ≤ 100000
  ad : r.ad.length ≤ 100000
  dr : r.dr.length ≤ 100000
theorem csame_any {ok ok' : Nat → Prop} (a b : Rc) (v u : Value) (w : World) (hv : IsR ok w v a) (hu : IsR ok' w u b) (hl : LnR a) : Calls Tryz.prog 86 #[v, u] w fun e w' => e = .returned (.bool (sameR a b)) ∧ Below w.heap.size w w' := by
  obtain ⟨a14, a15, a16, a17, c14, c15, c16, c17, rfl, h⟩ := hv
  obtain ⟨b14, b15, b16, b17, d14, d15, d16, d17, rfl, k⟩ := hu
  refine (csame_go a.k a.br a.ep a.tp a.pa a.le a.cl a.se a.co b.k b.br b.ep b.tp b.pa b.le b.cl b.se b.co a.fl b.fl a.nm a.ky a.va a.rk b.nm b.ky b.va b.rk a14 a15 a16 a17 b14 b15 b16 b17 c14 c15 c16 c17 d14 d15 d16 d17 a.ids a.isr a.ad a.dr b.ids b.isr b.ad b.dr w h.h14.sl h.h15.sl h.h16.sl h.h17.sl k.h14.sl k.h15.sl k.h16.sl k.h17.sl hl.ids hl.isr hl.ad hl.dr).mono ?_
  rintro e w' ⟨rfl, hb⟩
  refine ⟨?_, hb⟩
  congr 2
  unfold sameR
  congr 4
  rw [← Bool.decide_and, ← Bool.decide_and, ← Bool.decide_and]
  exact decide_eq_decide.2 ⟨fun ⟨⟨⟨q1, q2⟩, q3, q4, q5, q6, q7, q8, q9, q10⟩, q11, q12, q13, q14⟩ => ⟨q1, q3, q4, q5, q6, q7, q8, q9, q10, q2, q11, q12, q13, q14⟩, fun ⟨q1, q3, q4, q5, q6, q7, q8, q9, q10, q2, q11, q12, q13, q14⟩ => ⟨⟨⟨q1, q2⟩, q3, q4, q5, q6, q7, q8, q9, q10⟩, q11, q12, q13, q14⟩⟩
end Go.Proofs.YtoioddnlkbjljaaGreatDoor
