/-
  A RECORD AS BYTES, BY THE DOCUMENT (castellanref05.Bytes): the bytes of its kind and of each field that the kind asks for. Conditions: the record may be; its rows' cells hold them.
-/
import Derived.Test.YtoioddnlkbjljaaGreatDoorJKRecBy
import Derived.Test.YtoioddnlkbjljaaGreatDoorJKRecWkaa4
import Derived.Deep.RegionHeld3
namespace Go.Proofs.YtoioddnlkbjljaaGreatDoor
open Go.RowKit

/-- An append of bytes as one step of a region that draws. -/
theorem step_append_ow {ops : Array Oper} {o : Oper} {a : Act} {w : World} {K : Act → World → Prop} {Q : Exit → Act → World → Prop} {E : Prop} (hg : o.guard = none) (s x : Operand)
    (ho : o.op = .call { callee := .builtin .append, args := #[s, x], argTypes := #[23, 23] }) (B : Nat) (u : Value) (L : List Int) (hs : a.eval s = u) (hr : Ow B w u L) (hB : B ≤ w.heap.size) (v : Value) (l : List Int)
    (hx : a.eval x = v) (hv : Sl bc w v l) (hn : L.length + l.length ≤ 1000000)
    (h : ∀ w' v', Ow B w' v' (L ++ l) → Below B w w' → K (a.put o.dst v') w') : if Region.wanted o (yielded ops a.tmps) = true then Oper.wp Tryz.prog o a w K Q else E := by
  have hw : Region.wanted o (yielded ops a.tmps) = true := by simp [Region.wanted, hg]
  rw [if_pos hw]
  obtain ⟨cur, h1, h2⟩ := hr
  obtain ⟨w', v', cur', hrun, hp⟩ := run_append_sl w o.type B u L.length cur h1 hB v l hv hn
  unfold Oper.wp
  simp [execOp, ho, resolve, invoke, builtin, hs, hx, hrun, Result.andThen]
  exact h w' v' (Ow.put h2 hp) hp.below
theorem wpList_append_ow {ops : Array Oper} {rest : List Oper} {o : Oper} {a : Act} {w : World} {Q : Exit → Act → World → Prop} (hgd : o.guard = none) (s x : Operand)
    (ho : o.op = .call { callee := .builtin .append, args := #[s, x], argTypes := #[23, 23] }) (B : Nat) (u : Value) (L : List Int) (hs : a.eval s = u) (hr : Ow B w u L) (hB : B ≤ w.heap.size) (v : Value) (l : List Int)
    (hx : a.eval x = v) (hv : Sl bc w v l) (hn : L.length + l.length ≤ 1000000)
    (h : ∀ w' v', Ow B w' v' (L ++ l) → Below B w w' → wpList Tryz.prog ops Q rest (a.put o.dst v') w') : wpList Tryz.prog ops Q (o :: rest) a w := by
  obtain ⟨cur, h1, h2⟩ := hr
  exact wpList_append_sl w hgd s x ho B u L.length cur hs h1 hB v l hx hv hn fun w' v' cur' hp => h w' v' (Ow.put h2 hp) hp.below
theorem hs_putb {F : World → Prop} {N : Nat} {w0 W W' : World} (hF : ∀ W, Below N w0 W → F W) (hb : Below N W W') (h : F W ∧ Below N w0 W ∧ N ≤ W.heap.size) : F W' ∧ Below N w0 W' ∧ N ≤ W'.heap.size :=
  have k := h.2.1.trans hb
  ⟨hF _ k, k, Nat.le_trans h.2.2 hb.size⟩
set_option maxRecDepth 100000 in
set_option maxHeartbeats 64000000 in
theorem bytes_t (k br ep tp pa le cl se co : Int) (fl : Bool) (nm ky va rk : List UInt8) (a14 a15 a16 a17 : Option Addr) (n14 n15 n16 n17 c14 c15 c16 c17 : Nat) (tp98 tp101 tp116 tp112 tp108 tp97 tp110 tp107 tp118 tp114 tp105 tp109 tp120 : Bool) (P1 P2 P3 P4 P5 P6 P7 P8 P9 P10 P11 P12 P13 P14 P15 P16 P17 : List Int) (w : World) (hkw : IntKind.u8.wrap k = k) (hl1 : P1.length ≤ 9000) (hl2 : P2.length ≤ 9000) (hl3 : P3.length ≤ 9000) (hl4 : P4.length ≤ 9000) (hl5 : P5.length ≤ 9000) (hl6 : P6.length ≤ 9000) (hl7 : P7.length ≤ 9000) (hl8 : P8.length ≤ 9000) (hl9 : P9.length ≤ 9000) (hl10 : P10.length ≤ 9000) (hl11 : P11.length ≤ 9000) (hl12 : P12.length ≤ 9000) (hl13 : P13.length ≤ 9000) (hl14 : P14.length ≤ 9000) (hl15 : P15.length ≤ 9000) (hl16 : P16.length ≤ 9000) (hl17 : P17.length ≤ 9000)
    (HH98 : Hid (∀ W, Calls Tryz.prog 115 #[.int .i64 k, .int .u8 98] W fun e w' => e = .returned (.bool tp98) ∧ w' = W)) (HH101 : Hid (∀ W, Calls Tryz.prog 115 #[.int .i64 k, .int .u8 101] W fun e w' => e = .returned (.bool tp101) ∧ w' = W)) (HH116 : Hid (∀ W, Calls Tryz.prog 115 #[.int .i64 k, .int .u8 116] W fun e w' => e = .returned (.bool tp116) ∧ w' = W)) (HH112 : Hid (∀ W, Calls Tryz.prog 115 #[.int .i64 k, .int .u8 112] W fun e w' => e = .returned (.bool tp112) ∧ w' = W)) (HH108 : Hid (∀ W, Calls Tryz.prog 115 #[.int .i64 k, .int .u8 108] W fun e w' => e = .returned (.bool tp108) ∧ w' = W)) (HH97 : Hid (∀ W, Calls Tryz.prog 115 #[.int .i64 k, .int .u8 97] W fun e w' => e = .returned (.bool tp97) ∧ w' = W)) (HH110 : Hid (∀ W, Calls Tryz.prog 115 #[.int .i64 k, .int .u8 110] W fun e w' => e = .returned (.bool tp110) ∧ w' = W)) (HH107 : Hid (∀ W, Calls Tryz.prog 115 #[.int .i64 k, .int .u8 107] W fun e w' => e = .returned (.bool tp107) ∧ w' = W)) (HH118 : Hid (∀ W, Calls Tryz.prog 115 #[.int .i64 k, .int .u8 118] W fun e w' => e = .returned (.bool tp118) ∧ w' = W)) (HH114 : Hid (∀ W, Calls Tryz.prog 115 #[.int .i64 k, .int .u8 114] W fun e w' => e = .returned (.bool tp114) ∧ w' = W)) (HH105 : Hid (∀ W, Calls Tryz.prog 115 #[.int .i64 k, .int .u8 105] W fun e w' => e = .returned (.bool tp105) ∧ w' = W)) (HH109 : Hid (∀ W, Calls Tryz.prog 115 #[.int .i64 k, .int .u8 109] W fun e w' => e = .returned (.bool tp109) ∧ w' = W)) (HH120 : Hid (∀ W, Calls Tryz.prog 115 #[.int .i64 k, .int .u8 120] W fun e w' => e = .returned (.bool tp120) ∧ w' = W)) (HH102 : Hid (∀ W, Calls Tryz.prog 115 #[.int .i64 k, .int .u8 102] W fun e w' => e = .returned (.bool true) ∧ w' = W)) (HP1 : Hid (∀ W, Below w.heap.size w W → Calls Tryz.prog 135 #[.int .i64 br, .bool tp98] W fun e w' => ∃ v, e = .returned v ∧ Sl bc w' v P1 ∧ Below W.heap.size W w')) (HP2 : Hid (∀ W, Below w.heap.size w W → Calls Tryz.prog 135 #[.int .i64 ep, .bool tp101] W fun e w' => ∃ v, e = .returned v ∧ Sl bc w' v P2 ∧ Below W.heap.size W w')) (HP3 : Hid (∀ W, Below w.heap.size w W → Calls Tryz.prog 135 #[.int .i64 tp, .bool tp116] W fun e w' => ∃ v, e = .returned v ∧ Sl bc w' v P3 ∧ Below W.heap.size W w')) (HP4 : Hid (∀ W, Below w.heap.size w W → Calls Tryz.prog 135 #[.int .i64 pa, .bool tp112] W fun e w' => ∃ v, e = .returned v ∧ Sl bc w' v P4 ∧ Below W.heap.size W w')) (HP5 : Hid (∀ W, Below w.heap.size w W → Calls Tryz.prog 135 #[.int .i64 le, .bool tp108] W fun e w' => ∃ v, e = .returned v ∧ Sl bc w' v P5 ∧ Below W.heap.size W w')) (HP6 : Hid (∀ W, Below w.heap.size w W → Calls Tryz.prog 135 #[.int .i64 cl, .bool tp97] W fun e w' => ∃ v, e = .returned v ∧ Sl bc w' v P6 ∧ Below W.heap.size W w')) (HP7 : Hid (∀ W, Below w.heap.size w W → Calls Tryz.prog 135 #[.int .i64 se, .bool tp97] W fun e w' => ∃ v, e = .returned v ∧ Sl bc w' v P7 ∧ Below W.heap.size W w')) (HP8 : Hid (∀ W, Below w.heap.size w W → Calls Tryz.prog 135 #[.int .i64 co, .bool tp97] W fun e w' => ∃ v, e = .returned v ∧ Sl bc w' v P8 ∧ Below W.heap.size W w')) (HP9 : Hid (∀ W, Below w.heap.size w W → Calls Tryz.prog 99 #[.bool fl] W fun e w' => ∃ v, e = .returned v ∧ Sl bc w' v P9 ∧ Below W.heap.size W w')) (HP10 : Hid (∀ W, Below w.heap.size w W → Calls Tryz.prog 136 #[.string ⟨nm.toArray⟩, .bool tp110] W fun e w' => ∃ v, e = .returned v ∧ Sl bc w' v P10 ∧ Below W.heap.size W w')) (HP11 : Hid (∀ W, Below w.heap.size w W → Calls Tryz.prog 136 #[.string ⟨ky.toArray⟩, .bool tp107] W fun e w' => ∃ v, e = .returned v ∧ Sl bc w' v P11 ∧ Below W.heap.size W w')) (HP12 : Hid (∀ W, Below w.heap.size w W → Calls Tryz.prog 136 #[.string ⟨va.toArray⟩, .bool tp118] W fun e w' => ∃ v, e = .returned v ∧ Sl bc w' v P12 ∧ Below W.heap.size W w')) (HP13 : Hid (∀ W, Below w.heap.size w W → Calls Tryz.prog 136 #[.string ⟨rk.toArray⟩, .bool tp114] W fun e w' => ∃ v, e = .returned v ∧ Sl bc w' v P13 ∧ Below W.heap.size W w')) (HP14 : Hid (∀ W, Below w.heap.size w W → Calls Tryz.prog 137 #[.slice a14 n14 c14, .bool tp105] W fun e w' => ∃ v, e = .returned v ∧ Sl bc w' v P14 ∧ Below W.heap.size W w')) (HP15 : Hid (∀ W, Below w.heap.size w W → Calls Tryz.prog 137 #[.slice a15 n15 c15, .bool tp109] W fun e w' => ∃ v, e = .returned v ∧ Sl bc w' v P15 ∧ Below W.heap.size W w')) (HP16 : Hid (∀ W, Below w.heap.size w W → Calls Tryz.prog 137 #[.slice a16 n16 c16, .bool tp120] W fun e w' => ∃ v, e = .returned v ∧ Sl bc w' v P16 ∧ Below W.heap.size W w')) (HP17 : Hid (∀ W, Below w.heap.size w W → Calls Tryz.prog 137 #[.slice a17 n17 c17, .bool tp120] W fun e w' => ∃ v, e = .returned v ∧ Sl bc w' v P17 ∧ Below W.heap.size W w')) :
    Calls Tryz.prog 97 #[.agg #[.int .i64 k, .int .i64 br, .int .i64 ep, .int .i64 tp, .int .i64 pa, .int .i64 le, .int .i64 cl, .int .i64 se, .int .i64 co, .bool fl, .string ⟨nm.toArray⟩, .string ⟨ky.toArray⟩, .string ⟨va.toArray⟩, .string ⟨rk.toArray⟩, .slice a14 n14 c14, .slice a15 n15 c15, .slice a16 n16 c16, .slice a17 n17 c17]] w fun e w' => ∃ v, e = .returned v ∧ Sl bc w' v ((((((((((((((((([k] ++ P1) ++ P2) ++ P3) ++ P4) ++ P5) ++ P6) ++ P7) ++ P8) ++ P9) ++ P10) ++ P11) ++ P12) ++ P13) ++ P14) ++ P15) ++ P16) ++ P17) ∧ Below w.heap.size w w' := by
  have HRG : Hid ((w.alloc (.cells #[.int .i64 k, .int .i64 br, .int .i64 ep, .int .i64 tp, .int .i64 pa, .int .i64 le, .int .i64 cl, .int .i64 se, .int .i64 co, .bool fl, .string ⟨nm.toArray⟩, .string ⟨ky.toArray⟩, .string ⟨va.toArray⟩, .string ⟨rk.toArray⟩, .slice a14 n14 c14, .slice a15 n15 c15, .slice a16 n16 c16, .slice a17 n17 c17] 55)).rangeAt w.heap.size 0 [.int .i64 k, .int .i64 br, .int .i64 ep, .int .i64 tp, .int .i64 pa, .int .i64 le, .int .i64 cl, .int .i64 se, .int .i64 co, .bool fl, .string ⟨nm.toArray⟩, .string ⟨ky.toArray⟩, .string ⟨va.toArray⟩, .string ⟨rk.toArray⟩, .slice a14 n14 c14, .slice a15 n15 c15, .slice a16 n16 c16, .slice a17 n17 c17]) := hide (range_new w _ _)
  have HBX : Hid (Below w.heap.size w (w.alloc (.cells #[.int .i64 k, .int .i64 br, .int .i64 ep, .int .i64 tp, .int .i64 pa, .int .i64 le, .int .i64 cl, .int .i64 se, .int .i64 co, .bool fl, .string ⟨nm.toArray⟩, .string ⟨ky.toArray⟩, .string ⟨va.toArray⟩, .string ⟨rk.toArray⟩, .slice a14 n14 c14, .slice a15 n15 c15, .slice a16 n16 c16, .slice a17 n17 c17] 55))) := hide ((Below.refl _ _).alloc (Nat.le_refl _) _)
  go_enter Tryz.func97, Tryz.ntmps97
  go_upto_region 1 with fail
  generalize w.alloc (.cells #[.int .i64 k, .int .i64 br, .int .i64 ep, .int .i64 tp, .int .i64 pa, .int .i64 le, .int .i64 cl, .int .i64 se, .int .i64 co, .bool fl, .string ⟨nm.toArray⟩, .string ⟨ky.toArray⟩, .string ⟨va.toArray⟩, .string ⟨rk.toArray⟩, .slice a14 n14 c14, .slice a15 n15 c15, .slice a16 n16 c16, .slice a17 n17 c17] 55) = X at HRG HBX ⊢
  have g0 := (C18.of HRG.out).c0
  have HOW := hide (ow_new X [k] (by unfold maxLen; simp))
  have HY : Hid (Below X.heap.size X (X.alloc (.cells (bv [k]).toArray 5))) := hide ((Below.refl _ _).alloc (Nat.le_refl _) _)
  go_upto_region 3 with fail
  change Hid (Ow X.heap.size (X.alloc (.cells #[.int .u8 k] 5)) (.slice (some ⟨X.heap.size, 0, none⟩) 1 1) [k]) at HOW
  change Hid (Below X.heap.size X (X.alloc (.cells #[.int .u8 k] 5))) at HY
  generalize X.alloc (.cells #[.int .u8 k] 5) = Y at HOW HY ⊢
  clear g0
  have HLN : Hid (([k] : List Int).length ≤ 1) := hide (by simp)
  -- P1
  have HF : Hid (∀ W, Below X.heap.size X W → (fun W : World => W.cell? ⟨w.heap.size, 1, none⟩ = some (.int .i64 br)) W) := hide (fun W h => (C18.of (range_below HRG.out h)).c1)
  have HS0 : Hid ((fun W : World => W.cell? ⟨w.heap.size, 1, none⟩ = some (.int .i64 br)) Y.drew ∧ Below X.heap.size X Y.drew ∧ X.heap.size ≤ Y.drew.heap.size) := hide ⟨HF.out _ HY.out.drew, HY.out.drew, HY.out.size⟩
  have HOD : Hid (Ow X.heap.size Y.drew _ [k]) := hide (HOW.out.below (Below.refl _ _).drew)
  go_region_held3 (fun W => W.cell? ⟨w.heap.size, 1, none⟩ = some (.int .i64 br) ∧ Below X.heap.size X W ∧ X.heap.size ≤ W.heap.size)
    (first | with_reducible assumption | with_reducible exact hs_call HF.out (by assumption) (by assumption) | with_reducible exact hs_putb HF.out (by assumption) (by assumption) | with_reducible exact HS0.out)
    (first
      | (go_at_call 115; refine (HH98.out _).mono ?_; rintro e w' ⟨rfl, rfl⟩)
      | (go_at_call 135; refine (HP1.out _ ?_).mono ?_; exact HBX.out.trans ((And.left (And.right HS0.out)).mono HBX.out.size); rintro e w1 ⟨v, rfl, hs, hb⟩; have HSL := hide hs; have HRW := hide (HOD.out.below hb); clear hs)
      | (refine step_append_ow rfl _ _ rfl _ _ _ rfl HRW.out (by exact And.right (And.right (by assumption))) _ _ rfl HSL.out (by have := HLN.out; omega) ?_; intro w2 v2 ho2 hb2; have HO1 := hide ho2; clear ho2))
  have HYN : Hid (Below X.heap.size X w2) := hide (And.left (And.right (by assumption)))
  rename_i hHeld
  clear HF HS0 HOD HSL HRW hHeld hb hb2 w1
  have HLN2 : Hid (([k] ++ P1).length ≤ 9001) := hide (by have := HLN.out; rw [List.length_append]; omega)
  clear HLN HOW HY Y
  have HLN := HLN2
  have HOW := HO1
  have HY := HYN
  clear HLN2 HO1 HYN
  go_upto_region 4 with fail
  generalize w2 = Y at HOW HY ⊢
  generalize v2 = u at HOW ⊢
  -- P2
  have HF : Hid (∀ W, Below X.heap.size X W → (fun W : World => W.cell? ⟨w.heap.size, 2, none⟩ = some (.int .i64 ep)) W) := hide (fun W h => (C18.of (range_below HRG.out h)).c2)
  have HS0 : Hid ((fun W : World => W.cell? ⟨w.heap.size, 2, none⟩ = some (.int .i64 ep)) Y.drew ∧ Below X.heap.size X Y.drew ∧ X.heap.size ≤ Y.drew.heap.size) := hide ⟨HF.out _ HY.out.drew, HY.out.drew, HY.out.size⟩
  have HOD : Hid (Ow X.heap.size Y.drew _ ([k] ++ P1)) := hide (HOW.out.below (Below.refl _ _).drew)
  go_region_held3 (fun W => W.cell? ⟨w.heap.size, 2, none⟩ = some (.int .i64 ep) ∧ Below X.heap.size X W ∧ X.heap.size ≤ W.heap.size)
    (first | with_reducible assumption | with_reducible exact hs_call HF.out (by assumption) (by assumption) | with_reducible exact hs_putb HF.out (by assumption) (by assumption) | with_reducible exact HS0.out)
    (first
      | (go_at_call 115; refine (HH101.out _).mono ?_; rintro e w' ⟨rfl, rfl⟩)
      | (go_at_call 135; refine (HP2.out _ ?_).mono ?_; exact HBX.out.trans ((And.left (And.right HS0.out)).mono HBX.out.size); rintro e w1 ⟨v, rfl, hs, hb⟩; have HSL := hide hs; have HRW := hide (HOD.out.below hb); clear hs)
      | (refine step_append_ow rfl _ _ rfl _ _ _ rfl HRW.out (by exact And.right (And.right (by assumption))) _ _ rfl HSL.out (by have := HLN.out; omega) ?_; intro w2 v2 ho2 hb2; have HO2 := hide ho2; clear ho2))
  have HYN : Hid (Below X.heap.size X w2) := hide (And.left (And.right (by assumption)))
  rename_i hHeld
  clear HF HS0 HOD HSL HRW hHeld hb hb2 w1
  have HLN2 : Hid ((([k] ++ P1) ++ P2).length ≤ 18001) := hide (by have := HLN.out; rw [List.length_append]; omega)
  clear HLN HOW HY Y
  have HLN := HLN2
  have HOW := HO2
  have HY := HYN
  clear HLN2 HO2 HYN
  go_upto_region 5 with fail
  generalize w2 = Y at HOW HY ⊢
  generalize v2 = u at HOW ⊢
  -- P3
  have HF : Hid (∀ W, Below X.heap.size X W → (fun W : World => W.cell? ⟨w.heap.size, 3, none⟩ = some (.int .i64 tp)) W) := hide (fun W h => (C18.of (range_below HRG.out h)).c3)
  have HS0 : Hid ((fun W : World => W.cell? ⟨w.heap.size, 3, none⟩ = some (.int .i64 tp)) Y.drew ∧ Below X.heap.size X Y.drew ∧ X.heap.size ≤ Y.drew.heap.size) := hide ⟨HF.out _ HY.out.drew, HY.out.drew, HY.out.size⟩
  have HOD : Hid (Ow X.heap.size Y.drew _ (([k] ++ P1) ++ P2)) := hide (HOW.out.below (Below.refl _ _).drew)
  go_region_held3 (fun W => W.cell? ⟨w.heap.size, 3, none⟩ = some (.int .i64 tp) ∧ Below X.heap.size X W ∧ X.heap.size ≤ W.heap.size)
    (first | with_reducible assumption | with_reducible exact hs_call HF.out (by assumption) (by assumption) | with_reducible exact hs_putb HF.out (by assumption) (by assumption) | with_reducible exact HS0.out)
    (first
      | (go_at_call 115; refine (HH116.out _).mono ?_; rintro e w' ⟨rfl, rfl⟩)
      | (go_at_call 135; refine (HP3.out _ ?_).mono ?_; exact HBX.out.trans ((And.left (And.right HS0.out)).mono HBX.out.size); rintro e w1 ⟨v, rfl, hs, hb⟩; have HSL := hide hs; have HRW := hide (HOD.out.below hb); clear hs)
      | (refine step_append_ow rfl _ _ rfl _ _ _ rfl HRW.out (by exact And.right (And.right (by assumption))) _ _ rfl HSL.out (by have := HLN.out; omega) ?_; intro w2 v2 ho2 hb2; have HO3 := hide ho2; clear ho2))
  have HYN : Hid (Below X.heap.size X w2) := hide (And.left (And.right (by assumption)))
  rename_i hHeld
  clear HF HS0 HOD HSL HRW hHeld hb hb2 w1
  have HLN2 : Hid (((([k] ++ P1) ++ P2) ++ P3).length ≤ 27001) := hide (by have := HLN.out; rw [List.length_append]; omega)
  clear HLN HOW HY Y
  have HLN := HLN2
  have HOW := HO3
  have HY := HYN
  clear HLN2 HO3 HYN
  go_upto_region 6 with fail
  generalize w2 = Y at HOW HY ⊢
  generalize v2 = u at HOW ⊢
  -- P4
  have HF : Hid (∀ W, Below X.heap.size X W → (fun W : World => W.cell? ⟨w.heap.size, 4, none⟩ = some (.int .i64 pa)) W) := hide (fun W h => (C18.of (range_below HRG.out h)).c4)
  have HS0 : Hid ((fun W : World => W.cell? ⟨w.heap.size, 4, none⟩ = some (.int .i64 pa)) Y.drew ∧ Below X.heap.size X Y.drew ∧ X.heap.size ≤ Y.drew.heap.size) := hide ⟨HF.out _ HY.out.drew, HY.out.drew, HY.out.size⟩
  have HOD : Hid (Ow X.heap.size Y.drew _ ((([k] ++ P1) ++ P2) ++ P3)) := hide (HOW.out.below (Below.refl _ _).drew)
  go_region_held3 (fun W => W.cell? ⟨w.heap.size, 4, none⟩ = some (.int .i64 pa) ∧ Below X.heap.size X W ∧ X.heap.size ≤ W.heap.size)
    (first | with_reducible assumption | with_reducible exact hs_call HF.out (by assumption) (by assumption) | with_reducible exact hs_putb HF.out (by assumption) (by assumption) | with_reducible exact HS0.out)
    (first
      | (go_at_call 115; refine (HH112.out _).mono ?_; rintro e w' ⟨rfl, rfl⟩)
      | (go_at_call 135; refine (HP4.out _ ?_).mono ?_; exact HBX.out.trans ((And.left (And.right HS0.out)).mono HBX.out.size); rintro e w1 ⟨v, rfl, hs, hb⟩; have HSL := hide hs; have HRW := hide (HOD.out.below hb); clear hs)
      | (refine step_append_ow rfl _ _ rfl _ _ _ rfl HRW.out (by exact And.right (And.right (by assumption))) _ _ rfl HSL.out (by have := HLN.out; omega) ?_; intro w2 v2 ho2 hb2; have HO4 := hide ho2; clear ho2))
  have HYN : Hid (Below X.heap.size X w2) := hide (And.left (And.right (by assumption)))
  rename_i hHeld
  clear HF HS0 HOD HSL HRW hHeld hb hb2 w1
  have HLN2 : Hid ((((([k] ++ P1) ++ P2) ++ P3) ++ P4).length ≤ 36001) := hide (by have := HLN.out; rw [List.length_append]; omega)
  clear HLN HOW HY Y
  have HLN := HLN2
  have HOW := HO4
  have HY := HYN
  clear HLN2 HO4 HYN
  go_upto_region 7 with fail
  generalize w2 = Y at HOW HY ⊢
  generalize v2 = u at HOW ⊢
  -- P5
  have HF : Hid (∀ W, Below X.heap.size X W → (fun W : World => W.cell? ⟨w.heap.size, 5, none⟩ = some (.int .i64 le)) W) := hide (fun W h => (C18.of (range_below HRG.out h)).c5)
  have HS0 : Hid ((fun W : World => W.cell? ⟨w.heap.size, 5, none⟩ = some (.int .i64 le)) Y.drew ∧ Below X.heap.size X Y.drew ∧ X.heap.size ≤ Y.drew.heap.size) := hide ⟨HF.out _ HY.out.drew, HY.out.drew, HY.out.size⟩
  have HOD : Hid (Ow X.heap.size Y.drew _ (((([k] ++ P1) ++ P2) ++ P3) ++ P4)) := hide (HOW.out.below (Below.refl _ _).drew)
  go_region_held3 (fun W => W.cell? ⟨w.heap.size, 5, none⟩ = some (.int .i64 le) ∧ Below X.heap.size X W ∧ X.heap.size ≤ W.heap.size)
    (first | with_reducible assumption | with_reducible exact hs_call HF.out (by assumption) (by assumption) | with_reducible exact hs_putb HF.out (by assumption) (by assumption) | with_reducible exact HS0.out)
    (first
      | (go_at_call 115; refine (HH108.out _).mono ?_; rintro e w' ⟨rfl, rfl⟩)
      | (go_at_call 135; refine (HP5.out _ ?_).mono ?_; exact HBX.out.trans ((And.left (And.right HS0.out)).mono HBX.out.size); rintro e w1 ⟨v, rfl, hs, hb⟩; have HSL := hide hs; have HRW := hide (HOD.out.below hb); clear hs)
      | (refine step_append_ow rfl _ _ rfl _ _ _ rfl HRW.out (by exact And.right (And.right (by assumption))) _ _ rfl HSL.out (by have := HLN.out; omega) ?_; intro w2 v2 ho2 hb2; have HO5 := hide ho2; clear ho2))
  have HYN : Hid (Below X.heap.size X w2) := hide (And.left (And.right (by assumption)))
  rename_i hHeld
  clear HF HS0 HOD HSL HRW hHeld hb hb2 w1
  have HLN2 : Hid (((((([k] ++ P1) ++ P2) ++ P3) ++ P4) ++ P5).length ≤ 45001) := hide (by have := HLN.out; rw [List.length_append]; omega)
  clear HLN HOW HY Y
  have HLN := HLN2
  have HOW := HO5
  have HY := HYN
  clear HLN2 HO5 HYN
  go_upto_region 8 with fail
  generalize w2 = Y at HOW HY ⊢
  generalize v2 = u at HOW ⊢
  -- P6
  have HF : Hid (∀ W, Below X.heap.size X W → (fun W : World => W.cell? ⟨w.heap.size, 6, none⟩ = some (.int .i64 cl)) W) := hide (fun W h => (C18.of (range_below HRG.out h)).c6)
  have HS0 : Hid ((fun W : World => W.cell? ⟨w.heap.size, 6, none⟩ = some (.int .i64 cl)) Y.drew ∧ Below X.heap.size X Y.drew ∧ X.heap.size ≤ Y.drew.heap.size) := hide ⟨HF.out _ HY.out.drew, HY.out.drew, HY.out.size⟩
  have HOD : Hid (Ow X.heap.size Y.drew _ ((((([k] ++ P1) ++ P2) ++ P3) ++ P4) ++ P5)) := hide (HOW.out.below (Below.refl _ _).drew)
  go_region_held3 (fun W => W.cell? ⟨w.heap.size, 6, none⟩ = some (.int .i64 cl) ∧ Below X.heap.size X W ∧ X.heap.size ≤ W.heap.size)
    (first | with_reducible assumption | with_reducible exact hs_call HF.out (by assumption) (by assumption) | with_reducible exact hs_putb HF.out (by assumption) (by assumption) | with_reducible exact HS0.out)
    (first
      | (go_at_call 115; refine (HH97.out _).mono ?_; rintro e w' ⟨rfl, rfl⟩)
      | (go_at_call 135; refine (HP6.out _ ?_).mono ?_; exact HBX.out.trans ((And.left (And.right HS0.out)).mono HBX.out.size); rintro e w1 ⟨v, rfl, hs, hb⟩; have HSL := hide hs; have HRW := hide (HOD.out.below hb); clear hs)
      | (refine step_append_ow rfl _ _ rfl _ _ _ rfl HRW.out (by exact And.right (And.right (by assumption))) _ _ rfl HSL.out (by have := HLN.out; omega) ?_; intro w2 v2 ho2 hb2; have HO6 := hide ho2; clear ho2))
  have HYN : Hid (Below X.heap.size X w2) := hide (And.left (And.right (by assumption)))
  rename_i hHeld
  clear HF HS0 HOD HSL HRW hHeld hb hb2 w1
  have HLN2 : Hid ((((((([k] ++ P1) ++ P2) ++ P3) ++ P4) ++ P5) ++ P6).length ≤ 54001) := hide (by have := HLN.out; rw [List.length_append]; omega)
  clear HLN HOW HY Y
  have HLN := HLN2
  have HOW := HO6
  have HY := HYN
  clear HLN2 HO6 HYN
  go_upto_region 9 with fail
  generalize w2 = Y at HOW HY ⊢
  generalize v2 = u at HOW ⊢
  -- P7
  have HF : Hid (∀ W, Below X.heap.size X W → (fun W : World => W.cell? ⟨w.heap.size, 7, none⟩ = some (.int .i64 se)) W) := hide (fun W h => (C18.of (range_below HRG.out h)).c7)
  have HS0 : Hid ((fun W : World => W.cell? ⟨w.heap.size, 7, none⟩ = some (.int .i64 se)) Y.drew ∧ Below X.heap.size X Y.drew ∧ X.heap.size ≤ Y.drew.heap.size) := hide ⟨HF.out _ HY.out.drew, HY.out.drew, HY.out.size⟩
  have HOD : Hid (Ow X.heap.size Y.drew _ (((((([k] ++ P1) ++ P2) ++ P3) ++ P4) ++ P5) ++ P6)) := hide (HOW.out.below (Below.refl _ _).drew)
  go_region_held3 (fun W => W.cell? ⟨w.heap.size, 7, none⟩ = some (.int .i64 se) ∧ Below X.heap.size X W ∧ X.heap.size ≤ W.heap.size)
    (first | with_reducible assumption | with_reducible exact hs_call HF.out (by assumption) (by assumption) | with_reducible exact hs_putb HF.out (by assumption) (by assumption) | with_reducible exact HS0.out)
    (first
      | (go_at_call 115; refine (HH97.out _).mono ?_; rintro e w' ⟨rfl, rfl⟩)
      | (go_at_call 135; refine (HP7.out _ ?_).mono ?_; exact HBX.out.trans ((And.left (And.right HS0.out)).mono HBX.out.size); rintro e w1 ⟨v, rfl, hs, hb⟩; have HSL := hide hs; have HRW := hide (HOD.out.below hb); clear hs)
      | (refine step_append_ow rfl _ _ rfl _ _ _ rfl HRW.out (by exact And.right (And.right (by assumption))) _ _ rfl HSL.out (by have := HLN.out; omega) ?_; intro w2 v2 ho2 hb2; have HO7 := hide ho2; clear ho2))
  have HYN : Hid (Below X.heap.size X w2) := hide (And.left (And.right (by assumption)))
  rename_i hHeld
  clear HF HS0 HOD HSL HRW hHeld hb hb2 w1
  have HLN2 : Hid (((((((([k] ++ P1) ++ P2) ++ P3) ++ P4) ++ P5) ++ P6) ++ P7).length ≤ 63001) := hide (by have := HLN.out; rw [List.length_append]; omega)
  clear HLN HOW HY Y
  have HLN := HLN2
  have HOW := HO7
  have HY := HYN
  clear HLN2 HO7 HYN
  go_upto_region 10 with fail
  generalize w2 = Y at HOW HY ⊢
  generalize v2 = u at HOW ⊢
  -- P8
  have HF : Hid (∀ W, Below X.heap.size X W → (fun W : World => W.cell? ⟨w.heap.size, 8, none⟩ = some (.int .i64 co)) W) := hide (fun W h => (C18.of (range_below HRG.out h)).c8)
  have HS0 : Hid ((fun W : World => W.cell? ⟨w.heap.size, 8, none⟩ = some (.int .i64 co)) Y.drew ∧ Below X.heap.size X Y.drew ∧ X.heap.size ≤ Y.drew.heap.size) := hide ⟨HF.out _ HY.out.drew, HY.out.drew, HY.out.size⟩
  have HOD : Hid (Ow X.heap.size Y.drew _ ((((((([k] ++ P1) ++ P2) ++ P3) ++ P4) ++ P5) ++ P6) ++ P7)) := hide (HOW.out.below (Below.refl _ _).drew)
  go_region_held3 (fun W => W.cell? ⟨w.heap.size, 8, none⟩ = some (.int .i64 co) ∧ Below X.heap.size X W ∧ X.heap.size ≤ W.heap.size)
    (first | with_reducible assumption | with_reducible exact hs_call HF.out (by assumption) (by assumption) | with_reducible exact hs_putb HF.out (by assumption) (by assumption) | with_reducible exact HS0.out)
    (first
      | (go_at_call 115; refine (HH97.out _).mono ?_; rintro e w' ⟨rfl, rfl⟩)
      | (go_at_call 135; refine (HP8.out _ ?_).mono ?_; exact HBX.out.trans ((And.left (And.right HS0.out)).mono HBX.out.size); rintro e w1 ⟨v, rfl, hs, hb⟩; have HSL := hide hs; have HRW := hide (HOD.out.below hb); clear hs)
      | (refine step_append_ow rfl _ _ rfl _ _ _ rfl HRW.out (by exact And.right (And.right (by assumption))) _ _ rfl HSL.out (by have := HLN.out; omega) ?_; intro w2 v2 ho2 hb2; have HO8 := hide ho2; clear ho2))
  have HYN : Hid (Below X.heap.size X w2) := hide (And.left (And.right (by assumption)))
  rename_i hHeld
  clear HF HS0 HOD HSL HRW hHeld hb hb2 w1
  have HLN2 : Hid ((((((((([k] ++ P1) ++ P2) ++ P3) ++ P4) ++ P5) ++ P6) ++ P7) ++ P8).length ≤ 72001) := hide (by have := HLN.out; rw [List.length_append]; omega)
  clear HLN HOW HY Y
  have HLN := HLN2
  have HOW := HO8
  have HY := HYN
  clear HLN2 HO8 HYN
  generalize w2 = Y at HOW HY ⊢
  generalize v2 = u at HOW ⊢
  -- P9
  have g9 := (C18.of (range_below HRG.out HY.out)).c9
  go_upto_region 13 with (first | (go_at_call 115; refine (HH102.out _).mono ?_; rintro e w1 ⟨rfl, hw1⟩; rw [hw1]; clear hw1 w1) | (go_at_call 99; refine (HP9.out _ (HBX.out.trans (HY.out.mono HBX.out.size))).mono ?_; rintro e w1 ⟨v, rfl, hs, hb⟩; have HSL := hide hs; have HRW := hide (HOW.out.below hb); have HY1 := hide (HY.out.trans (hb.mono HY.out.size)); clear hs hb g9) | (at_builtin; refine wpList_append_ow rfl _ _ rfl _ _ _ rfl HRW.out HY1.out.size _ _ rfl HSL.out (by have := HLN.out; omega) ?_; intro w2 v2 ho2 hb2))
  have HO9 := hide ho2
  have HYN := hide (HY1.out.trans hb2)
  clear ho2 hb2 HSL HRW HY1
  have HLN2 : Hid (((((((((([k] ++ P1) ++ P2) ++ P3) ++ P4) ++ P5) ++ P6) ++ P7) ++ P8) ++ P9).length ≤ 81001) := hide (by have := HLN.out; rw [List.length_append]; omega)
  clear HLN HOW HY Y
  have HLN := HLN2
  have HOW := HO9
  have HY := HYN
  clear HLN2 HO9 HYN
  generalize w2 = Y at HOW HY ⊢
  generalize v2 = u at HOW ⊢
  -- P10
  have HF : Hid (∀ W, Below X.heap.size X W → (fun W : World => W.cell? ⟨w.heap.size, 10, none⟩ = some (.string ⟨nm.toArray⟩)) W) := hide (fun W h => (C18.of (range_below HRG.out h)).c10)
  have HS0 : Hid ((fun W : World => W.cell? ⟨w.heap.size, 10, none⟩ = some (.string ⟨nm.toArray⟩)) Y.drew ∧ Below X.heap.size X Y.drew ∧ X.heap.size ≤ Y.drew.heap.size) := hide ⟨HF.out _ HY.out.drew, HY.out.drew, HY.out.size⟩
  have HOD : Hid (Ow X.heap.size Y.drew _ ((((((((([k] ++ P1) ++ P2) ++ P3) ++ P4) ++ P5) ++ P6) ++ P7) ++ P8) ++ P9)) := hide (HOW.out.below (Below.refl _ _).drew)
  go_region_held3 (fun W => W.cell? ⟨w.heap.size, 10, none⟩ = some (.string ⟨nm.toArray⟩) ∧ Below X.heap.size X W ∧ X.heap.size ≤ W.heap.size)
    (first | with_reducible assumption | with_reducible exact hs_call HF.out (by assumption) (by assumption) | with_reducible exact hs_putb HF.out (by assumption) (by assumption) | with_reducible exact HS0.out)
    (first
      | (go_at_call 115; refine (HH110.out _).mono ?_; rintro e w' ⟨rfl, rfl⟩)
      | (go_at_call 136; refine (HP10.out _ ?_).mono ?_; exact HBX.out.trans ((And.left (And.right HS0.out)).mono HBX.out.size); rintro e w1 ⟨v, rfl, hs, hb⟩; have HSL := hide hs; have HRW := hide (HOD.out.below hb); clear hs)
      | (refine step_append_ow rfl _ _ rfl _ _ _ rfl HRW.out (by exact And.right (And.right (by assumption))) _ _ rfl HSL.out (by have := HLN.out; omega) ?_; intro w2 v2 ho2 hb2; have HO10 := hide ho2; clear ho2))
  have HYN : Hid (Below X.heap.size X w2) := hide (And.left (And.right (by assumption)))
  rename_i hHeld
  clear HF HS0 HOD HSL HRW hHeld hb hb2 w1
  have HLN2 : Hid ((((((((((([k] ++ P1) ++ P2) ++ P3) ++ P4) ++ P5) ++ P6) ++ P7) ++ P8) ++ P9) ++ P10).length ≤ 90001) := hide (by have := HLN.out; rw [List.length_append]; omega)
  clear HLN HOW HY Y
  have HLN := HLN2
  have HOW := HO10
  have HY := HYN
  clear HLN2 HO10 HYN
  go_upto_region 14 with fail
  generalize w2 = Y at HOW HY ⊢
  generalize v2 = u at HOW ⊢
  -- P11
  have HF : Hid (∀ W, Below X.heap.size X W → (fun W : World => W.cell? ⟨w.heap.size, 11, none⟩ = some (.string ⟨ky.toArray⟩)) W) := hide (fun W h => (C18.of (range_below HRG.out h)).c11)
  have HS0 : Hid ((fun W : World => W.cell? ⟨w.heap.size, 11, none⟩ = some (.string ⟨ky.toArray⟩)) Y.drew ∧ Below X.heap.size X Y.drew ∧ X.heap.size ≤ Y.drew.heap.size) := hide ⟨HF.out _ HY.out.drew, HY.out.drew, HY.out.size⟩
  have HOD : Hid (Ow X.heap.size Y.drew _ (((((((((([k] ++ P1) ++ P2) ++ P3) ++ P4) ++ P5) ++ P6) ++ P7) ++ P8) ++ P9) ++ P10)) := hide (HOW.out.below (Below.refl _ _).drew)
  go_region_held3 (fun W => W.cell? ⟨w.heap.size, 11, none⟩ = some (.string ⟨ky.toArray⟩) ∧ Below X.heap.size X W ∧ X.heap.size ≤ W.heap.size)
    (first | with_reducible assumption | with_reducible exact hs_call HF.out (by assumption) (by assumption) | with_reducible exact hs_putb HF.out (by assumption) (by assumption) | with_reducible exact HS0.out)
    (first
      | (go_at_call 115; refine (HH107.out _).mono ?_; rintro e w' ⟨rfl, rfl⟩)
      | (go_at_call 136; refine (HP11.out _ ?_).mono ?_; exact HBX.out.trans ((And.left (And.right HS0.out)).mono HBX.out.size); rintro e w1 ⟨v, rfl, hs, hb⟩; have HSL := hide hs; have HRW := hide (HOD.out.below hb); clear hs)
      | (refine step_append_ow rfl _ _ rfl _ _ _ rfl HRW.out (by exact And.right (And.right (by assumption))) _ _ rfl HSL.out (by have := HLN.out; omega) ?_; intro w2 v2 ho2 hb2; have HO11 := hide ho2; clear ho2))
  have HYN : Hid (Below X.heap.size X w2) := hide (And.left (And.right (by assumption)))
  rename_i hHeld
  clear HF HS0 HOD HSL HRW hHeld hb hb2 w1
  have HLN2 : Hid (((((((((((([k] ++ P1) ++ P2) ++ P3) ++ P4) ++ P5) ++ P6) ++ P7) ++ P8) ++ P9) ++ P10) ++ P11).length ≤ 99001) := hide (by have := HLN.out; rw [List.length_append]; omega)
  clear HLN HOW HY Y
  have HLN := HLN2
  have HOW := HO11
  have HY := HYN
  clear HLN2 HO11 HYN
  go_upto_region 15 with fail
  generalize w2 = Y at HOW HY ⊢
  generalize v2 = u at HOW ⊢
  -- P12
  have HF : Hid (∀ W, Below X.heap.size X W → (fun W : World => W.cell? ⟨w.heap.size, 12, none⟩ = some (.string ⟨va.toArray⟩)) W) := hide (fun W h => (C18.of (range_below HRG.out h)).c12)
  have HS0 : Hid ((fun W : World => W.cell? ⟨w.heap.size, 12, none⟩ = some (.string ⟨va.toArray⟩)) Y.drew ∧ Below X.heap.size X Y.drew ∧ X.heap.size ≤ Y.drew.heap.size) := hide ⟨HF.out _ HY.out.drew, HY.out.drew, HY.out.size⟩
  have HOD : Hid (Ow X.heap.size Y.drew _ ((((((((((([k] ++ P1) ++ P2) ++ P3) ++ P4) ++ P5) ++ P6) ++ P7) ++ P8) ++ P9) ++ P10) ++ P11)) := hide (HOW.out.below (Below.refl _ _).drew)
  go_region_held3 (fun W => W.cell? ⟨w.heap.size, 12, none⟩ = some (.string ⟨va.toArray⟩) ∧ Below X.heap.size X W ∧ X.heap.size ≤ W.heap.size)
    (first | with_reducible assumption | with_reducible exact hs_call HF.out (by assumption) (by assumption) | with_reducible exact hs_putb HF.out (by assumption) (by assumption) | with_reducible exact HS0.out)
    (first
      | (go_at_call 115; refine (HH118.out _).mono ?_; rintro e w' ⟨rfl, rfl⟩)
      | (go_at_call 136; refine (HP12.out _ ?_).mono ?_; exact HBX.out.trans ((And.left (And.right HS0.out)).mono HBX.out.size); rintro e w1 ⟨v, rfl, hs, hb⟩; have HSL := hide hs; have HRW := hide (HOD.out.below hb); clear hs)
      | (refine step_append_ow rfl _ _ rfl _ _ _ rfl HRW.out (by exact And.right (And.right (by assumption))) _ _ rfl HSL.out (by have := HLN.out; omega) ?_; intro w2 v2 ho2 hb2; have HO12 := hide ho2; clear ho2))
  have HYN : Hid (Below X.heap.size X w2) := hide (And.left (And.right (by assumption)))
  rename_i hHeld
  clear HF HS0 HOD HSL HRW hHeld hb hb2 w1
  have HLN2 : Hid ((((((((((((([k] ++ P1) ++ P2) ++ P3) ++ P4) ++ P5) ++ P6) ++ P7) ++ P8) ++ P9) ++ P10) ++ P11) ++ P12).length ≤ 108001) := hide (by have := HLN.out; rw [List.length_append]; omega)
  clear HLN HOW HY Y
  have HLN := HLN2
  have HOW := HO12
  have HY := HYN
  clear HLN2 HO12 HYN
  go_upto_region 16 with fail
  generalize w2 = Y at HOW HY ⊢
  generalize v2 = u at HOW ⊢
  -- P13
  have HF : Hid (∀ W, Below X.heap.size X W → (fun W : World => W.cell? ⟨w.heap.size, 13, none⟩ = some (.string ⟨rk.toArray⟩)) W) := hide (fun W h => (C18.of (range_below HRG.out h)).c13)
  have HS0 : Hid ((fun W : World => W.cell? ⟨w.heap.size, 13, none⟩ = some (.string ⟨rk.toArray⟩)) Y.drew ∧ Below X.heap.size X Y.drew ∧ X.heap.size ≤ Y.drew.heap.size) := hide ⟨HF.out _ HY.out.drew, HY.out.drew, HY.out.size⟩
  have HOD : Hid (Ow X.heap.size Y.drew _ (((((((((((([k] ++ P1) ++ P2) ++ P3) ++ P4) ++ P5) ++ P6) ++ P7) ++ P8) ++ P9) ++ P10) ++ P11) ++ P12)) := hide (HOW.out.below (Below.refl _ _).drew)
  go_region_held3 (fun W => W.cell? ⟨w.heap.size, 13, none⟩ = some (.string ⟨rk.toArray⟩) ∧ Below X.heap.size X W ∧ X.heap.size ≤ W.heap.size)
    (first | with_reducible assumption | with_reducible exact hs_call HF.out (by assumption) (by assumption) | with_reducible exact hs_putb HF.out (by assumption) (by assumption) | with_reducible exact HS0.out)
    (first
      | (go_at_call 115; refine (HH114.out _).mono ?_; rintro e w' ⟨rfl, rfl⟩)
      | (go_at_call 136; refine (HP13.out _ ?_).mono ?_; exact HBX.out.trans ((And.left (And.right HS0.out)).mono HBX.out.size); rintro e w1 ⟨v, rfl, hs, hb⟩; have HSL := hide hs; have HRW := hide (HOD.out.below hb); clear hs)
      | (refine step_append_ow rfl _ _ rfl _ _ _ rfl HRW.out (by exact And.right (And.right (by assumption))) _ _ rfl HSL.out (by have := HLN.out; omega) ?_; intro w2 v2 ho2 hb2; have HO13 := hide ho2; clear ho2))
  have HYN : Hid (Below X.heap.size X w2) := hide (And.left (And.right (by assumption)))
  rename_i hHeld
  clear HF HS0 HOD HSL HRW hHeld hb hb2 w1
  have HLN2 : Hid (((((((((((((([k] ++ P1) ++ P2) ++ P3) ++ P4) ++ P5) ++ P6) ++ P7) ++ P8) ++ P9) ++ P10) ++ P11) ++ P12) ++ P13).length ≤ 117001) := hide (by have := HLN.out; rw [List.length_append]; omega)
  clear HLN HOW HY Y
  have HLN := HLN2
  have HOW := HO13
  have HY := HYN
  clear HLN2 HO13 HYN
  go_upto_region 17 with fail
  generalize w2 = Y at HOW HY ⊢
  generalize v2 = u at HOW ⊢
  -- P14
  have HF : Hid (∀ W, Below X.heap.size X W → (fun W : World => W.cell? ⟨w.heap.size, 14, none⟩ = some (.slice a14 n14 c14)) W) := hide (fun W h => (C18.of (range_below HRG.out h)).c14)
  have HS0 : Hid ((fun W : World => W.cell? ⟨w.heap.size, 14, none⟩ = some (.slice a14 n14 c14)) Y.drew ∧ Below X.heap.size X Y.drew ∧ X.heap.size ≤ Y.drew.heap.size) := hide ⟨HF.out _ HY.out.drew, HY.out.drew, HY.out.size⟩
  have HOD : Hid (Ow X.heap.size Y.drew _ ((((((((((((([k] ++ P1) ++ P2) ++ P3) ++ P4) ++ P5) ++ P6) ++ P7) ++ P8) ++ P9) ++ P10) ++ P11) ++ P12) ++ P13)) := hide (HOW.out.below (Below.refl _ _).drew)
  go_region_held3 (fun W => W.cell? ⟨w.heap.size, 14, none⟩ = some (.slice a14 n14 c14) ∧ Below X.heap.size X W ∧ X.heap.size ≤ W.heap.size)
    (first | with_reducible assumption | with_reducible exact hs_call HF.out (by assumption) (by assumption) | with_reducible exact hs_putb HF.out (by assumption) (by assumption) | with_reducible exact HS0.out)
    (first
      | (go_at_call 115; refine (HH105.out _).mono ?_; rintro e w' ⟨rfl, rfl⟩)
      | (go_at_call 137; refine (HP14.out _ ?_).mono ?_; exact HBX.out.trans ((And.left (And.right HS0.out)).mono HBX.out.size); rintro e w1 ⟨v, rfl, hs, hb⟩; have HSL := hide hs; have HRW := hide (HOD.out.below hb); clear hs)
      | (refine step_append_ow rfl _ _ rfl _ _ _ rfl HRW.out (by exact And.right (And.right (by assumption))) _ _ rfl HSL.out (by have := HLN.out; omega) ?_; intro w2 v2 ho2 hb2; have HO14 := hide ho2; clear ho2))
  have HYN : Hid (Below X.heap.size X w2) := hide (And.left (And.right (by assumption)))
  rename_i hHeld
  clear HF HS0 HOD HSL HRW hHeld hb hb2 w1
  have HLN2 : Hid ((((((((((((((([k] ++ P1) ++ P2) ++ P3) ++ P4) ++ P5) ++ P6) ++ P7) ++ P8) ++ P9) ++ P10) ++ P11) ++ P12) ++ P13) ++ P14).length ≤ 126001) := hide (by have := HLN.out; rw [List.length_append]; omega)
  clear HLN HOW HY Y
  have HLN := HLN2
  have HOW := HO14
  have HY := HYN
  clear HLN2 HO14 HYN
  go_upto_region 18 with fail
  generalize w2 = Y at HOW HY ⊢
  generalize v2 = u at HOW ⊢
  -- P15
  have HF : Hid (∀ W, Below X.heap.size X W → (fun W : World => W.cell? ⟨w.heap.size, 15, none⟩ = some (.slice a15 n15 c15)) W) := hide (fun W h => (C18.of (range_below HRG.out h)).c15)
  have HS0 : Hid ((fun W : World => W.cell? ⟨w.heap.size, 15, none⟩ = some (.slice a15 n15 c15)) Y.drew ∧ Below X.heap.size X Y.drew ∧ X.heap.size ≤ Y.drew.heap.size) := hide ⟨HF.out _ HY.out.drew, HY.out.drew, HY.out.size⟩
  have HOD : Hid (Ow X.heap.size Y.drew _ (((((((((((((([k] ++ P1) ++ P2) ++ P3) ++ P4) ++ P5) ++ P6) ++ P7) ++ P8) ++ P9) ++ P10) ++ P11) ++ P12) ++ P13) ++ P14)) := hide (HOW.out.below (Below.refl _ _).drew)
  go_region_held3 (fun W => W.cell? ⟨w.heap.size, 15, none⟩ = some (.slice a15 n15 c15) ∧ Below X.heap.size X W ∧ X.heap.size ≤ W.heap.size)
    (first | with_reducible assumption | with_reducible exact hs_call HF.out (by assumption) (by assumption) | with_reducible exact hs_putb HF.out (by assumption) (by assumption) | with_reducible exact HS0.out)
    (first
      | (go_at_call 115; refine (HH109.out _).mono ?_; rintro e w' ⟨rfl, rfl⟩)
      | (go_at_call 137; refine (HP15.out _ ?_).mono ?_; exact HBX.out.trans ((And.left (And.right HS0.out)).mono HBX.out.size); rintro e w1 ⟨v, rfl, hs, hb⟩; have HSL := hide hs; have HRW := hide (HOD.out.below hb); clear hs)
      | (refine step_append_ow rfl _ _ rfl _ _ _ rfl HRW.out (by exact And.right (And.right (by assumption))) _ _ rfl HSL.out (by have := HLN.out; omega) ?_; intro w2 v2 ho2 hb2; have HO15 := hide ho2; clear ho2))
  have HYN : Hid (Below X.heap.size X w2) := hide (And.left (And.right (by assumption)))
  rename_i hHeld
  clear HF HS0 HOD HSL HRW hHeld hb hb2 w1
  have HLN2 : Hid (((((((((((((((([k] ++ P1) ++ P2) ++ P3) ++ P4) ++ P5) ++ P6) ++ P7) ++ P8) ++ P9) ++ P10) ++ P11) ++ P12) ++ P13) ++ P14) ++ P15).length ≤ 135001) := hide (by have := HLN.out; rw [List.length_append]; omega)
  clear HLN HOW HY Y
  have HLN := HLN2
  have HOW := HO15
  have HY := HYN
  clear HLN2 HO15 HYN
  go_upto_region 19 with fail
  generalize w2 = Y at HOW HY ⊢
  generalize v2 = u at HOW ⊢
  -- P16
  have HF : Hid (∀ W, Below X.heap.size X W → (fun W : World => W.cell? ⟨w.heap.size, 16, none⟩ = some (.slice a16 n16 c16)) W) := hide (fun W h => (C18.of (range_below HRG.out h)).c16)
  have HS0 : Hid ((fun W : World => W.cell? ⟨w.heap.size, 16, none⟩ = some (.slice a16 n16 c16)) Y.drew ∧ Below X.heap.size X Y.drew ∧ X.heap.size ≤ Y.drew.heap.size) := hide ⟨HF.out _ HY.out.drew, HY.out.drew, HY.out.size⟩
  have HOD : Hid (Ow X.heap.size Y.drew _ ((((((((((((((([k] ++ P1) ++ P2) ++ P3) ++ P4) ++ P5) ++ P6) ++ P7) ++ P8) ++ P9) ++ P10) ++ P11) ++ P12) ++ P13) ++ P14) ++ P15)) := hide (HOW.out.below (Below.refl _ _).drew)
  go_region_held3 (fun W => W.cell? ⟨w.heap.size, 16, none⟩ = some (.slice a16 n16 c16) ∧ Below X.heap.size X W ∧ X.heap.size ≤ W.heap.size)
    (first | with_reducible assumption | with_reducible exact hs_call HF.out (by assumption) (by assumption) | with_reducible exact hs_putb HF.out (by assumption) (by assumption) | with_reducible exact HS0.out)
    (first
      | (go_at_call 115; refine (HH120.out _).mono ?_; rintro e w' ⟨rfl, rfl⟩)
      | (go_at_call 137; refine (HP16.out _ ?_).mono ?_; exact HBX.out.trans ((And.left (And.right HS0.out)).mono HBX.out.size); rintro e w1 ⟨v, rfl, hs, hb⟩; have HSL := hide hs; have HRW := hide (HOD.out.below hb); clear hs)
      | (refine step_append_ow rfl _ _ rfl _ _ _ rfl HRW.out (by exact And.right (And.right (by assumption))) _ _ rfl HSL.out (by have := HLN.out; omega) ?_; intro w2 v2 ho2 hb2; have HO16 := hide ho2; clear ho2))
  have HYN : Hid (Below X.heap.size X w2) := hide (And.left (And.right (by assumption)))
  rename_i hHeld
  clear HF HS0 HOD HSL HRW hHeld hb hb2 w1
  have HLN2 : Hid ((((((((((((((((([k] ++ P1) ++ P2) ++ P3) ++ P4) ++ P5) ++ P6) ++ P7) ++ P8) ++ P9) ++ P10) ++ P11) ++ P12) ++ P13) ++ P14) ++ P15) ++ P16).length ≤ 144001) := hide (by have := HLN.out; rw [List.length_append]; omega)
  clear HLN HOW HY Y
  have HLN := HLN2
  have HOW := HO16
  have HY := HYN
  clear HLN2 HO16 HYN
  go_upto_region 20 with fail
  generalize w2 = Y at HOW HY ⊢
  generalize v2 = u at HOW ⊢
  -- P17
  have HF : Hid (∀ W, Below X.heap.size X W → (fun W : World => W.cell? ⟨w.heap.size, 17, none⟩ = some (.slice a17 n17 c17)) W) := hide (fun W h => (C18.of (range_below HRG.out h)).c17)
  have HS0 : Hid ((fun W : World => W.cell? ⟨w.heap.size, 17, none⟩ = some (.slice a17 n17 c17)) Y.drew ∧ Below X.heap.size X Y.drew ∧ X.heap.size ≤ Y.drew.heap.size) := hide ⟨HF.out _ HY.out.drew, HY.out.drew, HY.out.size⟩
  have HOD : Hid (Ow X.heap.size Y.drew _ (((((((((((((((([k] ++ P1) ++ P2) ++ P3) ++ P4) ++ P5) ++ P6) ++ P7) ++ P8) ++ P9) ++ P10) ++ P11) ++ P12) ++ P13) ++ P14) ++ P15) ++ P16)) := hide (HOW.out.below (Below.refl _ _).drew)
  go_region_held3 (fun W => W.cell? ⟨w.heap.size, 17, none⟩ = some (.slice a17 n17 c17) ∧ Below X.heap.size X W ∧ X.heap.size ≤ W.heap.size)
    (first | with_reducible assumption | with_reducible exact hs_call HF.out (by assumption) (by assumption) | with_reducible exact hs_putb HF.out (by assumption) (by assumption) | with_reducible exact HS0.out)
    (first
      | (go_at_call 115; refine (HH120.out _).mono ?_; rintro e w' ⟨rfl, rfl⟩)
      | (go_at_call 137; refine (HP17.out _ ?_).mono ?_; exact HBX.out.trans ((And.left (And.right HS0.out)).mono HBX.out.size); rintro e w1 ⟨v, rfl, hs, hb⟩; have HSL := hide hs; have HRW := hide (HOD.out.below hb); clear hs)
      | (refine step_append_ow rfl _ _ rfl _ _ _ rfl HRW.out (by exact And.right (And.right (by assumption))) _ _ rfl HSL.out (by have := HLN.out; omega) ?_; intro w2 v2 ho2 hb2; have HO17 := hide ho2; clear ho2))
  have HYN : Hid (Below X.heap.size X w2) := hide (And.left (And.right (by assumption)))
  rename_i hHeld
  clear HF HS0 HOD HSL HRW hHeld hb hb2 w1
  have HLN2 : Hid (((((((((((((((((([k] ++ P1) ++ P2) ++ P3) ++ P4) ++ P5) ++ P6) ++ P7) ++ P8) ++ P9) ++ P10) ++ P11) ++ P12) ++ P13) ++ P14) ++ P15) ++ P16) ++ P17).length ≤ 153001) := hide (by have := HLN.out; rw [List.length_append]; omega)
  clear HLN HOW HY Y
  have HLN := HLN2
  have HOW := HO17
  have HY := HYN
  clear HLN2 HO17 HYN
  go_wp2_with fail
  go_ret
  exact ⟨_, rfl, HOW.out.sl, HBX.out.trans (HY.out.mono HBX.out.size)⟩
set_option maxRecDepth 100000 in
set_option maxHeartbeats 64000000 in
theorem bytes_f (k br ep tp pa le cl se co : Int) (fl : Bool) (nm ky va rk : List UInt8) (a14 a15 a16 a17 : Option Addr) (n14 n15 n16 n17 c14 c15 c16 c17 : Nat) (tp98 tp101 tp116 tp112 tp108 tp97 tp110 tp107 tp118 tp114 tp105 tp109 tp120 : Bool) (P1 P2 P3 P4 P5 P6 P7 P8 P10 P11 P12 P13 P14 P15 P16 P17 : List Int) (w : World) (hkw : IntKind.u8.wrap k = k) (hl1 : P1.length ≤ 9000) (hl2 : P2.length ≤ 9000) (hl3 : P3.length ≤ 9000) (hl4 : P4.length ≤ 9000) (hl5 : P5.length ≤ 9000) (hl6 : P6.length ≤ 9000) (hl7 : P7.length ≤ 9000) (hl8 : P8.length ≤ 9000) (hl10 : P10.length ≤ 9000) (hl11 : P11.length ≤ 9000) (hl12 : P12.length ≤ 9000) (hl13 : P13.length ≤ 9000) (hl14 : P14.length ≤ 9000) (hl15 : P15.length ≤ 9000) (hl16 : P16.length ≤ 9000) (hl17 : P17.length ≤ 9000)
    (HH98 : Hid (∀ W, Calls Tryz.prog 115 #[.int .i64 k, .int .u8 98] W fun e w' => e = .returned (.bool tp98) ∧ w' = W)) (HH101 : Hid (∀ W, Calls Tryz.prog 115 #[.int .i64 k, .int .u8 101] W fun e w' => e = .returned (.bool tp101) ∧ w' = W)) (HH116 : Hid (∀ W, Calls Tryz.prog 115 #[.int .i64 k, .int .u8 116] W fun e w' => e = .returned (.bool tp116) ∧ w' = W)) (HH112 : Hid (∀ W, Calls Tryz.prog 115 #[.int .i64 k, .int .u8 112] W fun e w' => e = .returned (.bool tp112) ∧ w' = W)) (HH108 : Hid (∀ W, Calls Tryz.prog 115 #[.int .i64 k, .int .u8 108] W fun e w' => e = .returned (.bool tp108) ∧ w' = W)) (HH97 : Hid (∀ W, Calls Tryz.prog 115 #[.int .i64 k, .int .u8 97] W fun e w' => e = .returned (.bool tp97) ∧ w' = W)) (HH110 : Hid (∀ W, Calls Tryz.prog 115 #[.int .i64 k, .int .u8 110] W fun e w' => e = .returned (.bool tp110) ∧ w' = W)) (HH107 : Hid (∀ W, Calls Tryz.prog 115 #[.int .i64 k, .int .u8 107] W fun e w' => e = .returned (.bool tp107) ∧ w' = W)) (HH118 : Hid (∀ W, Calls Tryz.prog 115 #[.int .i64 k, .int .u8 118] W fun e w' => e = .returned (.bool tp118) ∧ w' = W)) (HH114 : Hid (∀ W, Calls Tryz.prog 115 #[.int .i64 k, .int .u8 114] W fun e w' => e = .returned (.bool tp114) ∧ w' = W)) (HH105 : Hid (∀ W, Calls Tryz.prog 115 #[.int .i64 k, .int .u8 105] W fun e w' => e = .returned (.bool tp105) ∧ w' = W)) (HH109 : Hid (∀ W, Calls Tryz.prog 115 #[.int .i64 k, .int .u8 109] W fun e w' => e = .returned (.bool tp109) ∧ w' = W)) (HH120 : Hid (∀ W, Calls Tryz.prog 115 #[.int .i64 k, .int .u8 120] W fun e w' => e = .returned (.bool tp120) ∧ w' = W)) (HH102 : Hid (∀ W, Calls Tryz.prog 115 #[.int .i64 k, .int .u8 102] W fun e w' => e = .returned (.bool false) ∧ w' = W)) (HP1 : Hid (∀ W, Below w.heap.size w W → Calls Tryz.prog 135 #[.int .i64 br, .bool tp98] W fun e w' => ∃ v, e = .returned v ∧ Sl bc w' v P1 ∧ Below W.heap.size W w')) (HP2 : Hid (∀ W, Below w.heap.size w W → Calls Tryz.prog 135 #[.int .i64 ep, .bool tp101] W fun e w' => ∃ v, e = .returned v ∧ Sl bc w' v P2 ∧ Below W.heap.size W w')) (HP3 : Hid (∀ W, Below w.heap.size w W → Calls Tryz.prog 135 #[.int .i64 tp, .bool tp116] W fun e w' => ∃ v, e = .returned v ∧ Sl bc w' v P3 ∧ Below W.heap.size W w')) (HP4 : Hid (∀ W, Below w.heap.size w W → Calls Tryz.prog 135 #[.int .i64 pa, .bool tp112] W fun e w' => ∃ v, e = .returned v ∧ Sl bc w' v P4 ∧ Below W.heap.size W w')) (HP5 : Hid (∀ W, Below w.heap.size w W → Calls Tryz.prog 135 #[.int .i64 le, .bool tp108] W fun e w' => ∃ v, e = .returned v ∧ Sl bc w' v P5 ∧ Below W.heap.size W w')) (HP6 : Hid (∀ W, Below w.heap.size w W → Calls Tryz.prog 135 #[.int .i64 cl, .bool tp97] W fun e w' => ∃ v, e = .returned v ∧ Sl bc w' v P6 ∧ Below W.heap.size W w')) (HP7 : Hid (∀ W, Below w.heap.size w W → Calls Tryz.prog 135 #[.int .i64 se, .bool tp97] W fun e w' => ∃ v, e = .returned v ∧ Sl bc w' v P7 ∧ Below W.heap.size W w')) (HP8 : Hid (∀ W, Below w.heap.size w W → Calls Tryz.prog 135 #[.int .i64 co, .bool tp97] W fun e w' => ∃ v, e = .returned v ∧ Sl bc w' v P8 ∧ Below W.heap.size W w')) (HP10 : Hid (∀ W, Below w.heap.size w W → Calls Tryz.prog 136 #[.string ⟨nm.toArray⟩, .bool tp110] W fun e w' => ∃ v, e = .returned v ∧ Sl bc w' v P10 ∧ Below W.heap.size W w')) (HP11 : Hid (∀ W, Below w.heap.size w W → Calls Tryz.prog 136 #[.string ⟨ky.toArray⟩, .bool tp107] W fun e w' => ∃ v, e = .returned v ∧ Sl bc w' v P11 ∧ Below W.heap.size W w')) (HP12 : Hid (∀ W, Below w.heap.size w W → Calls Tryz.prog 136 #[.string ⟨va.toArray⟩, .bool tp118] W fun e w' => ∃ v, e = .returned v ∧ Sl bc w' v P12 ∧ Below W.heap.size W w')) (HP13 : Hid (∀ W, Below w.heap.size w W → Calls Tryz.prog 136 #[.string ⟨rk.toArray⟩, .bool tp114] W fun e w' => ∃ v, e = .returned v ∧ Sl bc w' v P13 ∧ Below W.heap.size W w')) (HP14 : Hid (∀ W, Below w.heap.size w W → Calls Tryz.prog 137 #[.slice a14 n14 c14, .bool tp105] W fun e w' => ∃ v, e = .returned v ∧ Sl bc w' v P14 ∧ Below W.heap.size W w')) (HP15 : Hid (∀ W, Below w.heap.size w W → Calls Tryz.prog 137 #[.slice a15 n15 c15, .bool tp109] W fun e w' => ∃ v, e = .returned v ∧ Sl bc w' v P15 ∧ Below W.heap.size W w')) (HP16 : Hid (∀ W, Below w.heap.size w W → Calls Tryz.prog 137 #[.slice a16 n16 c16, .bool tp120] W fun e w' => ∃ v, e = .returned v ∧ Sl bc w' v P16 ∧ Below W.heap.size W w')) (HP17 : Hid (∀ W, Below w.heap.size w W → Calls Tryz.prog 137 #[.slice a17 n17 c17, .bool tp120] W fun e w' => ∃ v, e = .returned v ∧ Sl bc w' v P17 ∧ Below W.heap.size W w')) :
    Calls Tryz.prog 97 #[.agg #[.int .i64 k, .int .i64 br, .int .i64 ep, .int .i64 tp, .int .i64 pa, .int .i64 le, .int .i64 cl, .int .i64 se, .int .i64 co, .bool fl, .string ⟨nm.toArray⟩, .string ⟨ky.toArray⟩, .string ⟨va.toArray⟩, .string ⟨rk.toArray⟩, .slice a14 n14 c14, .slice a15 n15 c15, .slice a16 n16 c16, .slice a17 n17 c17]] w fun e w' => ∃ v, e = .returned v ∧ Sl bc w' v (((((((((((((((([k] ++ P1) ++ P2) ++ P3) ++ P4) ++ P5) ++ P6) ++ P7) ++ P8) ++ P10) ++ P11) ++ P12) ++ P13) ++ P14) ++ P15) ++ P16) ++ P17) ∧ Below w.heap.size w w' := by
  have HRG : Hid ((w.alloc (.cells #[.int .i64 k, .int .i64 br, .int .i64 ep, .int .i64 tp, .int .i64 pa, .int .i64 le, .int .i64 cl, .int .i64 se, .int .i64 co, .bool fl, .string ⟨nm.toArray⟩, .string ⟨ky.toArray⟩, .string ⟨va.toArray⟩, .string ⟨rk.toArray⟩, .slice a14 n14 c14, .slice a15 n15 c15, .slice a16 n16 c16, .slice a17 n17 c17] 55)).rangeAt w.heap.size 0 [.int .i64 k, .int .i64 br, .int .i64 ep, .int .i64 tp, .int .i64 pa, .int .i64 le, .int .i64 cl, .int .i64 se, .int .i64 co, .bool fl, .string ⟨nm.toArray⟩, .string ⟨ky.toArray⟩, .string ⟨va.toArray⟩, .string ⟨rk.toArray⟩, .slice a14 n14 c14, .slice a15 n15 c15, .slice a16 n16 c16, .slice a17 n17 c17]) := hide (range_new w _ _)
  have HBX : Hid (Below w.heap.size w (w.alloc (.cells #[.int .i64 k, .int .i64 br, .int .i64 ep, .int .i64 tp, .int .i64 pa, .int .i64 le, .int .i64 cl, .int .i64 se, .int .i64 co, .bool fl, .string ⟨nm.toArray⟩, .string ⟨ky.toArray⟩, .string ⟨va.toArray⟩, .string ⟨rk.toArray⟩, .slice a14 n14 c14, .slice a15 n15 c15, .slice a16 n16 c16, .slice a17 n17 c17] 55))) := hide ((Below.refl _ _).alloc (Nat.le_refl _) _)
  go_enter Tryz.func97, Tryz.ntmps97
  go_upto_region 1 with fail
  generalize w.alloc (.cells #[.int .i64 k, .int .i64 br, .int .i64 ep, .int .i64 tp, .int .i64 pa, .int .i64 le, .int .i64 cl, .int .i64 se, .int .i64 co, .bool fl, .string ⟨nm.toArray⟩, .string ⟨ky.toArray⟩, .string ⟨va.toArray⟩, .string ⟨rk.toArray⟩, .slice a14 n14 c14, .slice a15 n15 c15, .slice a16 n16 c16, .slice a17 n17 c17] 55) = X at HRG HBX ⊢
  have g0 := (C18.of HRG.out).c0
  have HOW := hide (ow_new X [k] (by unfold maxLen; simp))
  have HY : Hid (Below X.heap.size X (X.alloc (.cells (bv [k]).toArray 5))) := hide ((Below.refl _ _).alloc (Nat.le_refl _) _)
  go_upto_region 3 with fail
  change Hid (Ow X.heap.size (X.alloc (.cells #[.int .u8 k] 5)) (.slice (some ⟨X.heap.size, 0, none⟩) 1 1) [k]) at HOW
  change Hid (Below X.heap.size X (X.alloc (.cells #[.int .u8 k] 5))) at HY
  generalize X.alloc (.cells #[.int .u8 k] 5) = Y at HOW HY ⊢
  clear g0
  have HLN : Hid (([k] : List Int).length ≤ 1) := hide (by simp)
  -- P1
  have HF : Hid (∀ W, Below X.heap.size X W → (fun W : World => W.cell? ⟨w.heap.size, 1, none⟩ = some (.int .i64 br)) W) := hide (fun W h => (C18.of (range_below HRG.out h)).c1)
  have HS0 : Hid ((fun W : World => W.cell? ⟨w.heap.size, 1, none⟩ = some (.int .i64 br)) Y.drew ∧ Below X.heap.size X Y.drew ∧ X.heap.size ≤ Y.drew.heap.size) := hide ⟨HF.out _ HY.out.drew, HY.out.drew, HY.out.size⟩
  have HOD : Hid (Ow X.heap.size Y.drew _ [k]) := hide (HOW.out.below (Below.refl _ _).drew)
  go_region_held3 (fun W => W.cell? ⟨w.heap.size, 1, none⟩ = some (.int .i64 br) ∧ Below X.heap.size X W ∧ X.heap.size ≤ W.heap.size)
    (first | with_reducible assumption | with_reducible exact hs_call HF.out (by assumption) (by assumption) | with_reducible exact hs_putb HF.out (by assumption) (by assumption) | with_reducible exact HS0.out)
    (first
      | (go_at_call 115; refine (HH98.out _).mono ?_; rintro e w' ⟨rfl, rfl⟩)
      | (go_at_call 135; refine (HP1.out _ ?_).mono ?_; exact HBX.out.trans ((And.left (And.right HS0.out)).mono HBX.out.size); rintro e w1 ⟨v, rfl, hs, hb⟩; have HSL := hide hs; have HRW := hide (HOD.out.below hb); clear hs)
      | (refine step_append_ow rfl _ _ rfl _ _ _ rfl HRW.out (by exact And.right (And.right (by assumption))) _ _ rfl HSL.out (by have := HLN.out; omega) ?_; intro w2 v2 ho2 hb2; have HO1 := hide ho2; clear ho2))
  have HYN : Hid (Below X.heap.size X w2) := hide (And.left (And.right (by assumption)))
  rename_i hHeld
  clear HF HS0 HOD HSL HRW hHeld hb hb2 w1
  have HLN2 : Hid (([k] ++ P1).length ≤ 9001) := hide (by have := HLN.out; rw [List.length_append]; omega)
  clear HLN HOW HY Y
  have HLN := HLN2
  have HOW := HO1
  have HY := HYN
  clear HLN2 HO1 HYN
  go_upto_region 4 with fail
  generalize w2 = Y at HOW HY ⊢
  generalize v2 = u at HOW ⊢
  -- P2
  have HF : Hid (∀ W, Below X.heap.size X W → (fun W : World => W.cell? ⟨w.heap.size, 2, none⟩ = some (.int .i64 ep)) W) := hide (fun W h => (C18.of (range_below HRG.out h)).c2)
  have HS0 : Hid ((fun W : World => W.cell? ⟨w.heap.size, 2, none⟩ = some (.int .i64 ep)) Y.drew ∧ Below X.heap.size X Y.drew ∧ X.heap.size ≤ Y.drew.heap.size) := hide ⟨HF.out _ HY.out.drew, HY.out.drew, HY.out.size⟩
  have HOD : Hid (Ow X.heap.size Y.drew _ ([k] ++ P1)) := hide (HOW.out.below (Below.refl _ _).drew)
  go_region_held3 (fun W => W.cell? ⟨w.heap.size, 2, none⟩ = some (.int .i64 ep) ∧ Below X.heap.size X W ∧ X.heap.size ≤ W.heap.size)
    (first | with_reducible assumption | with_reducible exact hs_call HF.out (by assumption) (by assumption) | with_reducible exact hs_putb HF.out (by assumption) (by assumption) | with_reducible exact HS0.out)
    (first
      | (go_at_call 115; refine (HH101.out _).mono ?_; rintro e w' ⟨rfl, rfl⟩)
      | (go_at_call 135; refine (HP2.out _ ?_).mono ?_; exact HBX.out.trans ((And.left (And.right HS0.out)).mono HBX.out.size); rintro e w1 ⟨v, rfl, hs, hb⟩; have HSL := hide hs; have HRW := hide (HOD.out.below hb); clear hs)
      | (refine step_append_ow rfl _ _ rfl _ _ _ rfl HRW.out (by exact And.right (And.right (by assumption))) _ _ rfl HSL.out (by have := HLN.out; omega) ?_; intro w2 v2 ho2 hb2; have HO2 := hide ho2; clear ho2))
  have HYN : Hid (Below X.heap.size X w2) := hide (And.left (And.right (by assumption)))
  rename_i hHeld
  clear HF HS0 HOD HSL HRW hHeld hb hb2 w1
  have HLN2 : Hid ((([k] ++ P1) ++ P2).length ≤ 18001) := hide (by have := HLN.out; rw [List.length_append]; omega)
  clear HLN HOW HY Y
  have HLN := HLN2
  have HOW := HO2
  have HY := HYN
  clear HLN2 HO2 HYN
  go_upto_region 5 with fail
  generalize w2 = Y at HOW HY ⊢
  generalize v2 = u at HOW ⊢
  -- P3
  have HF : Hid (∀ W, Below X.heap.size X W → (fun W : World => W.cell? ⟨w.heap.size, 3, none⟩ = some (.int .i64 tp)) W) := hide (fun W h => (C18.of (range_below HRG.out h)).c3)
  have HS0 : Hid ((fun W : World => W.cell? ⟨w.heap.size, 3, none⟩ = some (.int .i64 tp)) Y.drew ∧ Below X.heap.size X Y.drew ∧ X.heap.size ≤ Y.drew.heap.size) := hide ⟨HF.out _ HY.out.drew, HY.out.drew, HY.out.size⟩
  have HOD : Hid (Ow X.heap.size Y.drew _ (([k] ++ P1) ++ P2)) := hide (HOW.out.below (Below.refl _ _).drew)
  go_region_held3 (fun W => W.cell? ⟨w.heap.size, 3, none⟩ = some (.int .i64 tp) ∧ Below X.heap.size X W ∧ X.heap.size ≤ W.heap.size)
    (first | with_reducible assumption | with_reducible exact hs_call HF.out (by assumption) (by assumption) | with_reducible exact hs_putb HF.out (by assumption) (by assumption) | with_reducible exact HS0.out)
    (first
      | (go_at_call 115; refine (HH116.out _).mono ?_; rintro e w' ⟨rfl, rfl⟩)
      | (go_at_call 135; refine (HP3.out _ ?_).mono ?_; exact HBX.out.trans ((And.left (And.right HS0.out)).mono HBX.out.size); rintro e w1 ⟨v, rfl, hs, hb⟩; have HSL := hide hs; have HRW := hide (HOD.out.below hb); clear hs)
      | (refine step_append_ow rfl _ _ rfl _ _ _ rfl HRW.out (by exact And.right (And.right (by assumption))) _ _ rfl HSL.out (by have := HLN.out; omega) ?_; intro w2 v2 ho2 hb2; have HO3 := hide ho2; clear ho2))
  have HYN : Hid (Below X.heap.size X w2) := hide (And.left (And.right (by assumption)))
  rename_i hHeld
  clear HF HS0 HOD HSL HRW hHeld hb hb2 w1
  have HLN2 : Hid (((([k] ++ P1) ++ P2) ++ P3).length ≤ 27001) := hide (by have := HLN.out; rw [List.length_append]; omega)
  clear HLN HOW HY Y
  have HLN := HLN2
  have HOW := HO3
  have HY := HYN
  clear HLN2 HO3 HYN
  go_upto_region 6 with fail
  generalize w2 = Y at HOW HY ⊢
  generalize v2 = u at HOW ⊢
  -- P4
  have HF : Hid (∀ W, Below X.heap.size X W → (fun W : World => W.cell? ⟨w.heap.size, 4, none⟩ = some (.int .i64 pa)) W) := hide (fun W h => (C18.of (range_below HRG.out h)).c4)
  have HS0 : Hid ((fun W : World => W.cell? ⟨w.heap.size, 4, none⟩ = some (.int .i64 pa)) Y.drew ∧ Below X.heap.size X Y.drew ∧ X.heap.size ≤ Y.drew.heap.size) := hide ⟨HF.out _ HY.out.drew, HY.out.drew, HY.out.size⟩
  have HOD : Hid (Ow X.heap.size Y.drew _ ((([k] ++ P1) ++ P2) ++ P3)) := hide (HOW.out.below (Below.refl _ _).drew)
  go_region_held3 (fun W => W.cell? ⟨w.heap.size, 4, none⟩ = some (.int .i64 pa) ∧ Below X.heap.size X W ∧ X.heap.size ≤ W.heap.size)
    (first | with_reducible assumption | with_reducible exact hs_call HF.out (by assumption) (by assumption) | with_reducible exact hs_putb HF.out (by assumption) (by assumption) | with_reducible exact HS0.out)
    (first
      | (go_at_call 115; refine (HH112.out _).mono ?_; rintro e w' ⟨rfl, rfl⟩)
      | (go_at_call 135; refine (HP4.out _ ?_).mono ?_; exact HBX.out.trans ((And.left (And.right HS0.out)).mono HBX.out.size); rintro e w1 ⟨v, rfl, hs, hb⟩; have HSL := hide hs; have HRW := hide (HOD.out.below hb); clear hs)
      | (refine step_append_ow rfl _ _ rfl _ _ _ rfl HRW.out (by exact And.right (And.right (by assumption))) _ _ rfl HSL.out (by have := HLN.out; omega) ?_; intro w2 v2 ho2 hb2; have HO4 := hide ho2; clear ho2))
  have HYN : Hid (Below X.heap.size X w2) := hide (And.left (And.right (by assumption)))
  rename_i hHeld
  clear HF HS0 HOD HSL HRW hHeld hb hb2 w1
  have HLN2 : Hid ((((([k] ++ P1) ++ P2) ++ P3) ++ P4).length ≤ 36001) := hide (by have := HLN.out; rw [List.length_append]; omega)
  clear HLN HOW HY Y
  have HLN := HLN2
  have HOW := HO4
  have HY := HYN
  clear HLN2 HO4 HYN
  go_upto_region 7 with fail
  generalize w2 = Y at HOW HY ⊢
  generalize v2 = u at HOW ⊢
  -- P5
  have HF : Hid (∀ W, Below X.heap.size X W → (fun W : World => W.cell? ⟨w.heap.size, 5, none⟩ = some (.int .i64 le)) W) := hide (fun W h => (C18.of (range_below HRG.out h)).c5)
  have HS0 : Hid ((fun W : World => W.cell? ⟨w.heap.size, 5, none⟩ = some (.int .i64 le)) Y.drew ∧ Below X.heap.size X Y.drew ∧ X.heap.size ≤ Y.drew.heap.size) := hide ⟨HF.out _ HY.out.drew, HY.out.drew, HY.out.size⟩
  have HOD : Hid (Ow X.heap.size Y.drew _ (((([k] ++ P1) ++ P2) ++ P3) ++ P4)) := hide (HOW.out.below (Below.refl _ _).drew)
  go_region_held3 (fun W => W.cell? ⟨w.heap.size, 5, none⟩ = some (.int .i64 le) ∧ Below X.heap.size X W ∧ X.heap.size ≤ W.heap.size)
    (first | with_reducible assumption | with_reducible exact hs_call HF.out (by assumption) (by assumption) | with_reducible exact hs_putb HF.out (by assumption) (by assumption) | with_reducible exact HS0.out)
    (first
      | (go_at_call 115; refine (HH108.out _).mono ?_; rintro e w' ⟨rfl, rfl⟩)
      | (go_at_call 135; refine (HP5.out _ ?_).mono ?_; exact HBX.out.trans ((And.left (And.right HS0.out)).mono HBX.out.size); rintro e w1 ⟨v, rfl, hs, hb⟩; have HSL := hide hs; have HRW := hide (HOD.out.below hb); clear hs)
      | (refine step_append_ow rfl _ _ rfl _ _ _ rfl HRW.out (by exact And.right (And.right (by assumption))) _ _ rfl HSL.out (by have := HLN.out; omega) ?_; intro w2 v2 ho2 hb2; have HO5 := hide ho2; clear ho2))
  have HYN : Hid (Below X.heap.size X w2) := hide (And.left (And.right (by assumption)))
  rename_i hHeld
  clear HF HS0 HOD HSL HRW hHeld hb hb2 w1
  have HLN2 : Hid (((((([k] ++ P1) ++ P2) ++ P3) ++ P4) ++ P5).length ≤ 45001) := hide (by have := HLN.out; rw [List.length_append]; omega)
  clear HLN HOW HY Y
  have HLN := HLN2
  have HOW := HO5
  have HY := HYN
  clear HLN2 HO5 HYN
  go_upto_region 8 with fail
  generalize w2 = Y at HOW HY ⊢
  generalize v2 = u at HOW ⊢
  -- P6
  have HF : Hid (∀ W, Below X.heap.size X W → (fun W : World => W.cell? ⟨w.heap.size, 6, none⟩ = some (.int .i64 cl)) W) := hide (fun W h => (C18.of (range_below HRG.out h)).c6)
  have HS0 : Hid ((fun W : World => W.cell? ⟨w.heap.size, 6, none⟩ = some (.int .i64 cl)) Y.drew ∧ Below X.heap.size X Y.drew ∧ X.heap.size ≤ Y.drew.heap.size) := hide ⟨HF.out _ HY.out.drew, HY.out.drew, HY.out.size⟩
  have HOD : Hid (Ow X.heap.size Y.drew _ ((((([k] ++ P1) ++ P2) ++ P3) ++ P4) ++ P5)) := hide (HOW.out.below (Below.refl _ _).drew)
  go_region_held3 (fun W => W.cell? ⟨w.heap.size, 6, none⟩ = some (.int .i64 cl) ∧ Below X.heap.size X W ∧ X.heap.size ≤ W.heap.size)
    (first | with_reducible assumption | with_reducible exact hs_call HF.out (by assumption) (by assumption) | with_reducible exact hs_putb HF.out (by assumption) (by assumption) | with_reducible exact HS0.out)
    (first
      | (go_at_call 115; refine (HH97.out _).mono ?_; rintro e w' ⟨rfl, rfl⟩)
      | (go_at_call 135; refine (HP6.out _ ?_).mono ?_; exact HBX.out.trans ((And.left (And.right HS0.out)).mono HBX.out.size); rintro e w1 ⟨v, rfl, hs, hb⟩; have HSL := hide hs; have HRW := hide (HOD.out.below hb); clear hs)
      | (refine step_append_ow rfl _ _ rfl _ _ _ rfl HRW.out (by exact And.right (And.right (by assumption))) _ _ rfl HSL.out (by have := HLN.out; omega) ?_; intro w2 v2 ho2 hb2; have HO6 := hide ho2; clear ho2))
  have HYN : Hid (Below X.heap.size X w2) := hide (And.left (And.right (by assumption)))
  rename_i hHeld
  clear HF HS0 HOD HSL HRW hHeld hb hb2 w1
  have HLN2 : Hid ((((((([k] ++ P1) ++ P2) ++ P3) ++ P4) ++ P5) ++ P6).length ≤ 54001) := hide (by have := HLN.out; rw [List.length_append]; omega)
  clear HLN HOW HY Y
  have HLN := HLN2
  have HOW := HO6
  have HY := HYN
  clear HLN2 HO6 HYN
  go_upto_region 9 with fail
  generalize w2 = Y at HOW HY ⊢
  generalize v2 = u at HOW ⊢
  -- P7
  have HF : Hid (∀ W, Below X.heap.size X W → (fun W : World => W.cell? ⟨w.heap.size, 7, none⟩ = some (.int .i64 se)) W) := hide (fun W h => (C18.of (range_below HRG.out h)).c7)
  have HS0 : Hid ((fun W : World => W.cell? ⟨w.heap.size, 7, none⟩ = some (.int .i64 se)) Y.drew ∧ Below X.heap.size X Y.drew ∧ X.heap.size ≤ Y.drew.heap.size) := hide ⟨HF.out _ HY.out.drew, HY.out.drew, HY.out.size⟩
  have HOD : Hid (Ow X.heap.size Y.drew _ (((((([k] ++ P1) ++ P2) ++ P3) ++ P4) ++ P5) ++ P6)) := hide (HOW.out.below (Below.refl _ _).drew)
  go_region_held3 (fun W => W.cell? ⟨w.heap.size, 7, none⟩ = some (.int .i64 se) ∧ Below X.heap.size X W ∧ X.heap.size ≤ W.heap.size)
    (first | with_reducible assumption | with_reducible exact hs_call HF.out (by assumption) (by assumption) | with_reducible exact hs_putb HF.out (by assumption) (by assumption) | with_reducible exact HS0.out)
    (first
      | (go_at_call 115; refine (HH97.out _).mono ?_; rintro e w' ⟨rfl, rfl⟩)
      | (go_at_call 135; refine (HP7.out _ ?_).mono ?_; exact HBX.out.trans ((And.left (And.right HS0.out)).mono HBX.out.size); rintro e w1 ⟨v, rfl, hs, hb⟩; have HSL := hide hs; have HRW := hide (HOD.out.below hb); clear hs)
      | (refine step_append_ow rfl _ _ rfl _ _ _ rfl HRW.out (by exact And.right (And.right (by assumption))) _ _ rfl HSL.out (by have := HLN.out; omega) ?_; intro w2 v2 ho2 hb2; have HO7 := hide ho2; clear ho2))
  have HYN : Hid (Below X.heap.size X w2) := hide (And.left (And.right (by assumption)))
  rename_i hHeld
  clear HF HS0 HOD HSL HRW hHeld hb hb2 w1
  have HLN2 : Hid (((((((([k] ++ P1) ++ P2) ++ P3) ++ P4) ++ P5) ++ P6) ++ P7).length ≤ 63001) := hide (by have := HLN.out; rw [List.length_append]; omega)
  clear HLN HOW HY Y
  have HLN := HLN2
  have HOW := HO7
  have HY := HYN
  clear HLN2 HO7 HYN
  go_upto_region 10 with fail
  generalize w2 = Y at HOW HY ⊢
  generalize v2 = u at HOW ⊢
  -- P8
  have HF : Hid (∀ W, Below X.heap.size X W → (fun W : World => W.cell? ⟨w.heap.size, 8, none⟩ = some (.int .i64 co)) W) := hide (fun W h => (C18.of (range_below HRG.out h)).c8)
  have HS0 : Hid ((fun W : World => W.cell? ⟨w.heap.size, 8, none⟩ = some (.int .i64 co)) Y.drew ∧ Below X.heap.size X Y.drew ∧ X.heap.size ≤ Y.drew.heap.size) := hide ⟨HF.out _ HY.out.drew, HY.out.drew, HY.out.size⟩
  have HOD : Hid (Ow X.heap.size Y.drew _ ((((((([k] ++ P1) ++ P2) ++ P3) ++ P4) ++ P5) ++ P6) ++ P7)) := hide (HOW.out.below (Below.refl _ _).drew)
  go_region_held3 (fun W => W.cell? ⟨w.heap.size, 8, none⟩ = some (.int .i64 co) ∧ Below X.heap.size X W ∧ X.heap.size ≤ W.heap.size)
    (first | with_reducible assumption | with_reducible exact hs_call HF.out (by assumption) (by assumption) | with_reducible exact hs_putb HF.out (by assumption) (by assumption) | with_reducible exact HS0.out)
    (first
      | (go_at_call 115; refine (HH97.out _).mono ?_; rintro e w' ⟨rfl, rfl⟩)
      | (go_at_call 135; refine (HP8.out _ ?_).mono ?_; exact HBX.out.trans ((And.left (And.right HS0.out)).mono HBX.out.size); rintro e w1 ⟨v, rfl, hs, hb⟩; have HSL := hide hs; have HRW := hide (HOD.out.below hb); clear hs)
      | (refine step_append_ow rfl _ _ rfl _ _ _ rfl HRW.out (by exact And.right (And.right (by assumption))) _ _ rfl HSL.out (by have := HLN.out; omega) ?_; intro w2 v2 ho2 hb2; have HO8 := hide ho2; clear ho2))
  have HYN : Hid (Below X.heap.size X w2) := hide (And.left (And.right (by assumption)))
  rename_i hHeld
  clear HF HS0 HOD HSL HRW hHeld hb hb2 w1
  have HLN2 : Hid ((((((((([k] ++ P1) ++ P2) ++ P3) ++ P4) ++ P5) ++ P6) ++ P7) ++ P8).length ≤ 72001) := hide (by have := HLN.out; rw [List.length_append]; omega)
  clear HLN HOW HY Y
  have HLN := HLN2
  have HOW := HO8
  have HY := HYN
  clear HLN2 HO8 HYN
  generalize w2 = Y at HOW HY ⊢
  generalize v2 = u at HOW ⊢
  -- P10
  go_upto_region 13 with (go_at_call 115; refine (HH102.out _).mono ?_; rintro e w1 ⟨rfl, hw1⟩; rw [hw1]; clear hw1 w1)
  have HF : Hid (∀ W, Below X.heap.size X W → (fun W : World => W.cell? ⟨w.heap.size, 10, none⟩ = some (.string ⟨nm.toArray⟩)) W) := hide (fun W h => (C18.of (range_below HRG.out h)).c10)
  have HS0 : Hid ((fun W : World => W.cell? ⟨w.heap.size, 10, none⟩ = some (.string ⟨nm.toArray⟩)) Y.drew ∧ Below X.heap.size X Y.drew ∧ X.heap.size ≤ Y.drew.heap.size) := hide ⟨HF.out _ HY.out.drew, HY.out.drew, HY.out.size⟩
  have HOD : Hid (Ow X.heap.size Y.drew _ (((((((([k] ++ P1) ++ P2) ++ P3) ++ P4) ++ P5) ++ P6) ++ P7) ++ P8)) := hide (HOW.out.below (Below.refl _ _).drew)
  go_region_held3 (fun W => W.cell? ⟨w.heap.size, 10, none⟩ = some (.string ⟨nm.toArray⟩) ∧ Below X.heap.size X W ∧ X.heap.size ≤ W.heap.size)
    (first | with_reducible assumption | with_reducible exact hs_call HF.out (by assumption) (by assumption) | with_reducible exact hs_putb HF.out (by assumption) (by assumption) | with_reducible exact HS0.out)
    (first
      | (go_at_call 115; refine (HH110.out _).mono ?_; rintro e w' ⟨rfl, rfl⟩)
      | (go_at_call 136; refine (HP10.out _ ?_).mono ?_; exact HBX.out.trans ((And.left (And.right HS0.out)).mono HBX.out.size); rintro e w1 ⟨v, rfl, hs, hb⟩; have HSL := hide hs; have HRW := hide (HOD.out.below hb); clear hs)
      | (refine step_append_ow rfl _ _ rfl _ _ _ rfl HRW.out (by exact And.right (And.right (by assumption))) _ _ rfl HSL.out (by have := HLN.out; omega) ?_; intro w2 v2 ho2 hb2; have HO10 := hide ho2; clear ho2))
  have HYN : Hid (Below X.heap.size X w2) := hide (And.left (And.right (by assumption)))
  rename_i hHeld
  clear HF HS0 HOD HSL HRW hHeld hb hb2 w1
  have HLN2 : Hid (((((((((([k] ++ P1) ++ P2) ++ P3) ++ P4) ++ P5) ++ P6) ++ P7) ++ P8) ++ P10).length ≤ 81001) := hide (by have := HLN.out; rw [List.length_append]; omega)
  clear HLN HOW HY Y
  have HLN := HLN2
  have HOW := HO10
  have HY := HYN
  clear HLN2 HO10 HYN
  go_upto_region 14 with fail
  generalize w2 = Y at HOW HY ⊢
  generalize v2 = u at HOW ⊢
  -- P11
  have HF : Hid (∀ W, Below X.heap.size X W → (fun W : World => W.cell? ⟨w.heap.size, 11, none⟩ = some (.string ⟨ky.toArray⟩)) W) := hide (fun W h => (C18.of (range_below HRG.out h)).c11)
  have HS0 : Hid ((fun W : World => W.cell? ⟨w.heap.size, 11, none⟩ = some (.string ⟨ky.toArray⟩)) Y.drew ∧ Below X.heap.size X Y.drew ∧ X.heap.size ≤ Y.drew.heap.size) := hide ⟨HF.out _ HY.out.drew, HY.out.drew, HY.out.size⟩
  have HOD : Hid (Ow X.heap.size Y.drew _ ((((((((([k] ++ P1) ++ P2) ++ P3) ++ P4) ++ P5) ++ P6) ++ P7) ++ P8) ++ P10)) := hide (HOW.out.below (Below.refl _ _).drew)
  go_region_held3 (fun W => W.cell? ⟨w.heap.size, 11, none⟩ = some (.string ⟨ky.toArray⟩) ∧ Below X.heap.size X W ∧ X.heap.size ≤ W.heap.size)
    (first | with_reducible assumption | with_reducible exact hs_call HF.out (by assumption) (by assumption) | with_reducible exact hs_putb HF.out (by assumption) (by assumption) | with_reducible exact HS0.out)
    (first
      | (go_at_call 115; refine (HH107.out _).mono ?_; rintro e w' ⟨rfl, rfl⟩)
      | (go_at_call 136; refine (HP11.out _ ?_).mono ?_; exact HBX.out.trans ((And.left (And.right HS0.out)).mono HBX.out.size); rintro e w1 ⟨v, rfl, hs, hb⟩; have HSL := hide hs; have HRW := hide (HOD.out.below hb); clear hs)
      | (refine step_append_ow rfl _ _ rfl _ _ _ rfl HRW.out (by exact And.right (And.right (by assumption))) _ _ rfl HSL.out (by have := HLN.out; omega) ?_; intro w2 v2 ho2 hb2; have HO11 := hide ho2; clear ho2))
  have HYN : Hid (Below X.heap.size X w2) := hide (And.left (And.right (by assumption)))
  rename_i hHeld
  clear HF HS0 HOD HSL HRW hHeld hb hb2 w1
  have HLN2 : Hid ((((((((((([k] ++ P1) ++ P2) ++ P3) ++ P4) ++ P5) ++ P6) ++ P7) ++ P8) ++ P10) ++ P11).length ≤ 90001) := hide (by have := HLN.out; rw [List.length_append]; omega)
  clear HLN HOW HY Y
  have HLN := HLN2
  have HOW := HO11
  have HY := HYN
  clear HLN2 HO11 HYN
  go_upto_region 15 with fail
  generalize w2 = Y at HOW HY ⊢
  generalize v2 = u at HOW ⊢
  -- P12
  have HF : Hid (∀ W, Below X.heap.size X W → (fun W : World => W.cell? ⟨w.heap.size, 12, none⟩ = some (.string ⟨va.toArray⟩)) W) := hide (fun W h => (C18.of (range_below HRG.out h)).c12)
  have HS0 : Hid ((fun W : World => W.cell? ⟨w.heap.size, 12, none⟩ = some (.string ⟨va.toArray⟩)) Y.drew ∧ Below X.heap.size X Y.drew ∧ X.heap.size ≤ Y.drew.heap.size) := hide ⟨HF.out _ HY.out.drew, HY.out.drew, HY.out.size⟩
  have HOD : Hid (Ow X.heap.size Y.drew _ (((((((((([k] ++ P1) ++ P2) ++ P3) ++ P4) ++ P5) ++ P6) ++ P7) ++ P8) ++ P10) ++ P11)) := hide (HOW.out.below (Below.refl _ _).drew)
  go_region_held3 (fun W => W.cell? ⟨w.heap.size, 12, none⟩ = some (.string ⟨va.toArray⟩) ∧ Below X.heap.size X W ∧ X.heap.size ≤ W.heap.size)
    (first | with_reducible assumption | with_reducible exact hs_call HF.out (by assumption) (by assumption) | with_reducible exact hs_putb HF.out (by assumption) (by assumption) | with_reducible exact HS0.out)
    (first
      | (go_at_call 115; refine (HH118.out _).mono ?_; rintro e w' ⟨rfl, rfl⟩)
      | (go_at_call 136; refine (HP12.out _ ?_).mono ?_; exact HBX.out.trans ((And.left (And.right HS0.out)).mono HBX.out.size); rintro e w1 ⟨v, rfl, hs, hb⟩; have HSL := hide hs; have HRW := hide (HOD.out.below hb); clear hs)
      | (refine step_append_ow rfl _ _ rfl _ _ _ rfl HRW.out (by exact And.right (And.right (by assumption))) _ _ rfl HSL.out (by have := HLN.out; omega) ?_; intro w2 v2 ho2 hb2; have HO12 := hide ho2; clear ho2))
  have HYN : Hid (Below X.heap.size X w2) := hide (And.left (And.right (by assumption)))
  rename_i hHeld
  clear HF HS0 HOD HSL HRW hHeld hb hb2 w1
  have HLN2 : Hid (((((((((((([k] ++ P1) ++ P2) ++ P3) ++ P4) ++ P5) ++ P6) ++ P7) ++ P8) ++ P10) ++ P11) ++ P12).length ≤ 99001) := hide (by have := HLN.out; rw [List.length_append]; omega)
  clear HLN HOW HY Y
  have HLN := HLN2
  have HOW := HO12
  have HY := HYN
  clear HLN2 HO12 HYN
  go_upto_region 16 with fail
  generalize w2 = Y at HOW HY ⊢
  generalize v2 = u at HOW ⊢
  -- P13
  have HF : Hid (∀ W, Below X.heap.size X W → (fun W : World => W.cell? ⟨w.heap.size, 13, none⟩ = some (.string ⟨rk.toArray⟩)) W) := hide (fun W h => (C18.of (range_below HRG.out h)).c13)
  have HS0 : Hid ((fun W : World => W.cell? ⟨w.heap.size, 13, none⟩ = some (.string ⟨rk.toArray⟩)) Y.drew ∧ Below X.heap.size X Y.drew ∧ X.heap.size ≤ Y.drew.heap.size) := hide ⟨HF.out _ HY.out.drew, HY.out.drew, HY.out.size⟩
  have HOD : Hid (Ow X.heap.size Y.drew _ ((((((((((([k] ++ P1) ++ P2) ++ P3) ++ P4) ++ P5) ++ P6) ++ P7) ++ P8) ++ P10) ++ P11) ++ P12)) := hide (HOW.out.below (Below.refl _ _).drew)
  go_region_held3 (fun W => W.cell? ⟨w.heap.size, 13, none⟩ = some (.string ⟨rk.toArray⟩) ∧ Below X.heap.size X W ∧ X.heap.size ≤ W.heap.size)
    (first | with_reducible assumption | with_reducible exact hs_call HF.out (by assumption) (by assumption) | with_reducible exact hs_putb HF.out (by assumption) (by assumption) | with_reducible exact HS0.out)
    (first
      | (go_at_call 115; refine (HH114.out _).mono ?_; rintro e w' ⟨rfl, rfl⟩)
      | (go_at_call 136; refine (HP13.out _ ?_).mono ?_; exact HBX.out.trans ((And.left (And.right HS0.out)).mono HBX.out.size); rintro e w1 ⟨v, rfl, hs, hb⟩; have HSL := hide hs; have HRW := hide (HOD.out.below hb); clear hs)
      | (refine step_append_ow rfl _ _ rfl _ _ _ rfl HRW.out (by exact And.right (And.right (by assumption))) _ _ rfl HSL.out (by have := HLN.out; omega) ?_; intro w2 v2 ho2 hb2; have HO13 := hide ho2; clear ho2))
  have HYN : Hid (Below X.heap.size X w2) := hide (And.left (And.right (by assumption)))
  rename_i hHeld
  clear HF HS0 HOD HSL HRW hHeld hb hb2 w1
  have HLN2 : Hid ((((((((((((([k] ++ P1) ++ P2) ++ P3) ++ P4) ++ P5) ++ P6) ++ P7) ++ P8) ++ P10) ++ P11) ++ P12) ++ P13).length ≤ 108001) := hide (by have := HLN.out; rw [List.length_append]; omega)
  clear HLN HOW HY Y
  have HLN := HLN2
  have HOW := HO13
  have HY := HYN
  clear HLN2 HO13 HYN
  go_upto_region 17 with fail
  generalize w2 = Y at HOW HY ⊢
  generalize v2 = u at HOW ⊢
  -- P14
  have HF : Hid (∀ W, Below X.heap.size X W → (fun W : World => W.cell? ⟨w.heap.size, 14, none⟩ = some (.slice a14 n14 c14)) W) := hide (fun W h => (C18.of (range_below HRG.out h)).c14)
  have HS0 : Hid ((fun W : World => W.cell? ⟨w.heap.size, 14, none⟩ = some (.slice a14 n14 c14)) Y.drew ∧ Below X.heap.size X Y.drew ∧ X.heap.size ≤ Y.drew.heap.size) := hide ⟨HF.out _ HY.out.drew, HY.out.drew, HY.out.size⟩
  have HOD : Hid (Ow X.heap.size Y.drew _ (((((((((((([k] ++ P1) ++ P2) ++ P3) ++ P4) ++ P5) ++ P6) ++ P7) ++ P8) ++ P10) ++ P11) ++ P12) ++ P13)) := hide (HOW.out.below (Below.refl _ _).drew)
  go_region_held3 (fun W => W.cell? ⟨w.heap.size, 14, none⟩ = some (.slice a14 n14 c14) ∧ Below X.heap.size X W ∧ X.heap.size ≤ W.heap.size)
    (first | with_reducible assumption | with_reducible exact hs_call HF.out (by assumption) (by assumption) | with_reducible exact hs_putb HF.out (by assumption) (by assumption) | with_reducible exact HS0.out)
    (first
      | (go_at_call 115; refine (HH105.out _).mono ?_; rintro e w' ⟨rfl, rfl⟩)
      | (go_at_call 137; refine (HP14.out _ ?_).mono ?_; exact HBX.out.trans ((And.left (And.right HS0.out)).mono HBX.out.size); rintro e w1 ⟨v, rfl, hs, hb⟩; have HSL := hide hs; have HRW := hide (HOD.out.below hb); clear hs)
      | (refine step_append_ow rfl _ _ rfl _ _ _ rfl HRW.out (by exact And.right (And.right (by assumption))) _ _ rfl HSL.out (by have := HLN.out; omega) ?_; intro w2 v2 ho2 hb2; have HO14 := hide ho2; clear ho2))
  have HYN : Hid (Below X.heap.size X w2) := hide (And.left (And.right (by assumption)))
  rename_i hHeld
  clear HF HS0 HOD HSL HRW hHeld hb hb2 w1
  have HLN2 : Hid (((((((((((((([k] ++ P1) ++ P2) ++ P3) ++ P4) ++ P5) ++ P6) ++ P7) ++ P8) ++ P10) ++ P11) ++ P12) ++ P13) ++ P14).length ≤ 117001) := hide (by have := HLN.out; rw [List.length_append]; omega)
  clear HLN HOW HY Y
  have HLN := HLN2
  have HOW := HO14
  have HY := HYN
  clear HLN2 HO14 HYN
  go_upto_region 18 with fail
  generalize w2 = Y at HOW HY ⊢
  generalize v2 = u at HOW ⊢
  -- P15
  have HF : Hid (∀ W, Below X.heap.size X W → (fun W : World => W.cell? ⟨w.heap.size, 15, none⟩ = some (.slice a15 n15 c15)) W) := hide (fun W h => (C18.of (range_below HRG.out h)).c15)
  have HS0 : Hid ((fun W : World => W.cell? ⟨w.heap.size, 15, none⟩ = some (.slice a15 n15 c15)) Y.drew ∧ Below X.heap.size X Y.drew ∧ X.heap.size ≤ Y.drew.heap.size) := hide ⟨HF.out _ HY.out.drew, HY.out.drew, HY.out.size⟩
  have HOD : Hid (Ow X.heap.size Y.drew _ ((((((((((((([k] ++ P1) ++ P2) ++ P3) ++ P4) ++ P5) ++ P6) ++ P7) ++ P8) ++ P10) ++ P11) ++ P12) ++ P13) ++ P14)) := hide (HOW.out.below (Below.refl _ _).drew)
  go_region_held3 (fun W => W.cell? ⟨w.heap.size, 15, none⟩ = some (.slice a15 n15 c15) ∧ Below X.heap.size X W ∧ X.heap.size ≤ W.heap.size)
    (first | with_reducible assumption | with_reducible exact hs_call HF.out (by assumption) (by assumption) | with_reducible exact hs_putb HF.out (by assumption) (by assumption) | with_reducible exact HS0.out)
    (first
      | (go_at_call 115; refine (HH109.out _).mono ?_; rintro e w' ⟨rfl, rfl⟩)
      | (go_at_call 137; refine (HP15.out _ ?_).mono ?_; exact HBX.out.trans ((And.left (And.right HS0.out)).mono HBX.out.size); rintro e w1 ⟨v, rfl, hs, hb⟩; have HSL := hide hs; have HRW := hide (HOD.out.below hb); clear hs)
      | (refine step_append_ow rfl _ _ rfl _ _ _ rfl HRW.out (by exact And.right (And.right (by assumption))) _ _ rfl HSL.out (by have := HLN.out; omega) ?_; intro w2 v2 ho2 hb2; have HO15 := hide ho2; clear ho2))
  have HYN : Hid (Below X.heap.size X w2) := hide (And.left (And.right (by assumption)))
  rename_i hHeld
  clear HF HS0 HOD HSL HRW hHeld hb hb2 w1
  have HLN2 : Hid ((((((((((((((([k] ++ P1) ++ P2) ++ P3) ++ P4) ++ P5) ++ P6) ++ P7) ++ P8) ++ P10) ++ P11) ++ P12) ++ P13) ++ P14) ++ P15).length ≤ 126001) := hide (by have := HLN.out; rw [List.length_append]; omega)
  clear HLN HOW HY Y
  have HLN := HLN2
  have HOW := HO15
  have HY := HYN
  clear HLN2 HO15 HYN
  go_upto_region 19 with fail
  generalize w2 = Y at HOW HY ⊢
  generalize v2 = u at HOW ⊢
  -- P16
  have HF : Hid (∀ W, Below X.heap.size X W → (fun W : World => W.cell? ⟨w.heap.size, 16, none⟩ = some (.slice a16 n16 c16)) W) := hide (fun W h => (C18.of (range_below HRG.out h)).c16)
  have HS0 : Hid ((fun W : World => W.cell? ⟨w.heap.size, 16, none⟩ = some (.slice a16 n16 c16)) Y.drew ∧ Below X.heap.size X Y.drew ∧ X.heap.size ≤ Y.drew.heap.size) := hide ⟨HF.out _ HY.out.drew, HY.out.drew, HY.out.size⟩
  have HOD : Hid (Ow X.heap.size Y.drew _ (((((((((((((([k] ++ P1) ++ P2) ++ P3) ++ P4) ++ P5) ++ P6) ++ P7) ++ P8) ++ P10) ++ P11) ++ P12) ++ P13) ++ P14) ++ P15)) := hide (HOW.out.below (Below.refl _ _).drew)
  go_region_held3 (fun W => W.cell? ⟨w.heap.size, 16, none⟩ = some (.slice a16 n16 c16) ∧ Below X.heap.size X W ∧ X.heap.size ≤ W.heap.size)
    (first | with_reducible assumption | with_reducible exact hs_call HF.out (by assumption) (by assumption) | with_reducible exact hs_putb HF.out (by assumption) (by assumption) | with_reducible exact HS0.out)
    (first
      | (go_at_call 115; refine (HH120.out _).mono ?_; rintro e w' ⟨rfl, rfl⟩)
      | (go_at_call 137; refine (HP16.out _ ?_).mono ?_; exact HBX.out.trans ((And.left (And.right HS0.out)).mono HBX.out.size); rintro e w1 ⟨v, rfl, hs, hb⟩; have HSL := hide hs; have HRW := hide (HOD.out.below hb); clear hs)
      | (refine step_append_ow rfl _ _ rfl _ _ _ rfl HRW.out (by exact And.right (And.right (by assumption))) _ _ rfl HSL.out (by have := HLN.out; omega) ?_; intro w2 v2 ho2 hb2; have HO16 := hide ho2; clear ho2))
  have HYN : Hid (Below X.heap.size X w2) := hide (And.left (And.right (by assumption)))
  rename_i hHeld
  clear HF HS0 HOD HSL HRW hHeld hb hb2 w1
  have HLN2 : Hid (((((((((((((((([k] ++ P1) ++ P2) ++ P3) ++ P4) ++ P5) ++ P6) ++ P7) ++ P8) ++ P10) ++ P11) ++ P12) ++ P13) ++ P14) ++ P15) ++ P16).length ≤ 135001) := hide (by have := HLN.out; rw [List.length_append]; omega)
  clear HLN HOW HY Y
  have HLN := HLN2
  have HOW := HO16
  have HY := HYN
  clear HLN2 HO16 HYN
  go_upto_region 20 with fail
  generalize w2 = Y at HOW HY ⊢
  generalize v2 = u at HOW ⊢
  -- P17
  have HF : Hid (∀ W, Below X.heap.size X W → (fun W : World => W.cell? ⟨w.heap.size, 17, none⟩ = some (.slice a17 n17 c17)) W) := hide (fun W h => (C18.of (range_below HRG.out h)).c17)
  have HS0 : Hid ((fun W : World => W.cell? ⟨w.heap.size, 17, none⟩ = some (.slice a17 n17 c17)) Y.drew ∧ Below X.heap.size X Y.drew ∧ X.heap.size ≤ Y.drew.heap.size) := hide ⟨HF.out _ HY.out.drew, HY.out.drew, HY.out.size⟩
  have HOD : Hid (Ow X.heap.size Y.drew _ ((((((((((((((([k] ++ P1) ++ P2) ++ P3) ++ P4) ++ P5) ++ P6) ++ P7) ++ P8) ++ P10) ++ P11) ++ P12) ++ P13) ++ P14) ++ P15) ++ P16)) := hide (HOW.out.below (Below.refl _ _).drew)
  go_region_held3 (fun W => W.cell? ⟨w.heap.size, 17, none⟩ = some (.slice a17 n17 c17) ∧ Below X.heap.size X W ∧ X.heap.size ≤ W.heap.size)
    (first | with_reducible assumption | with_reducible exact hs_call HF.out (by assumption) (by assumption) | with_reducible exact hs_putb HF.out (by assumption) (by assumption) | with_reducible exact HS0.out)
    (first
      | (go_at_call 115; refine (HH120.out _).mono ?_; rintro e w' ⟨rfl, rfl⟩)
      | (go_at_call 137; refine (HP17.out _ ?_).mono ?_; exact HBX.out.trans ((And.left (And.right HS0.out)).mono HBX.out.size); rintro e w1 ⟨v, rfl, hs, hb⟩; have HSL := hide hs; have HRW := hide (HOD.out.below hb); clear hs)
      | (refine step_append_ow rfl _ _ rfl _ _ _ rfl HRW.out (by exact And.right (And.right (by assumption))) _ _ rfl HSL.out (by have := HLN.out; omega) ?_; intro w2 v2 ho2 hb2; have HO17 := hide ho2; clear ho2))
  have HYN : Hid (Below X.heap.size X w2) := hide (And.left (And.right (by assumption)))
  rename_i hHeld
  clear HF HS0 HOD HSL HRW hHeld hb hb2 w1
  have HLN2 : Hid ((((((((((((((((([k] ++ P1) ++ P2) ++ P3) ++ P4) ++ P5) ++ P6) ++ P7) ++ P8) ++ P10) ++ P11) ++ P12) ++ P13) ++ P14) ++ P15) ++ P16) ++ P17).length ≤ 144001) := hide (by have := HLN.out; rw [List.length_append]; omega)
  clear HLN HOW HY Y
  have HLN := HLN2
  have HOW := HO17
  have HY := HYN
  clear HLN2 HO17 HYN
  go_wp2_with fail
  go_ret
  exact ⟨_, rfl, HOW.out.sl, HBX.out.trans (HY.out.mono HBX.out.size)⟩
end Go.Proofs.YtoioddnlkbjljaaGreatDoor
