/-
  THE DOCUMENT's BLOCK OF A CHAIN IS FILLED (castellanref09.digits, fill), and how many blocks a record takes (blocks). Conditions: stamps from 0 to 2^62, no more than 16448 bytes.
-/
import Derived.Test.YtoamghncncalgaaGreatDoorJRefCda2
import Derived.Test.YtoamghncncalgaaGreatDoorJRefCaa2
namespace Go.Proofs.YtoamghncncalgaaGreatDoor
open Go.RowKit

/-- Bytes in a row of their own. -/
def Ob (B : Nat) (W : World) (v : Value) (b : List Int) : Prop := W.ownsRow B 5 1 v b.length (bv b)
theorem Ob.below {B : Nat} {W W' : World} {v : Value} {b : List Int} (h : Ob B W v b) (hb : Below W.heap.size W W') : Ob B W' v b := owns_below h hb
theorem Ob.form {B : Nat} {W : World} {v : Value} {b : List Int} (h : Ob B W v b) : ∃ a k, v = .slice a b.length k := by
  rcases h.2 with ⟨e, h0⟩ | ⟨g, cap, cur, e, _⟩
  · rw [e, h0]; exact ⟨_, _, rfl⟩
  · exact ⟨_, _, e⟩
theorem ob_nil (B : Nat) (W : World) : Ob B W (.slice none 0 0) [] := World.ownsRow_nil _ _ _ _
theorem Ob.sl {B : Nat} {W : World} {v : Value} {b : List Int} (h : Ob B W v b) : Sl bc W v b := sl_of_own h
theorem wpList_ob {ops : Array Oper} {rest : List Oper} {o : Oper} {a : Act} {Q : Exit → Act → World → Prop} (w : World) (hgd : o.guard = none) (s x : Operand) (ho : o.op = .call { callee := .builtin .append, args := #[s, x], argTypes := #[43, 43] }) (B : Nat) (v : Value) (b : List Int) (hs : a.eval s = v) (hr : Ob B w v b) (hB : B ≤ w.heap.size) (u : Value) (l : List Int) (hx : a.eval x = u) (hu : Sl bc w u l) (hn : b.length + l.length ≤ 1000000)
    (h : ∀ w' v', Ob B w' v' (b ++ l) → Below B w w' → wpList Tryz.prog ops Q rest (a.put o.dst v') w') : wpList Tryz.prog ops Q (o :: rest) a w := by
  obtain ⟨cur, k1, k2⟩ := Rw.of hr
  refine wpList_append_sl w hgd s x ho B v b.length cur hs k1 hB u l hx hu hn (fun w' v' cur' hp => h w' v' ?_ hp.below)
  have := hp.rw.owns
  rw [hp.tk, k2] at this
  unfold Ob
  rw [List.length_append, show bv (b ++ l) = bv b ++ bv l by simp [bv]]
  exact this
def z8 : List Int := List.replicate 8 0
theorem make8c (W : World) : (Instr.makeSlice 43 (.int .i64 8) (.int .i64 8)).run Tryz.prog W = .ok (.slice (some ⟨W.heap.size, 0, none⟩) 8 8) (W.alloc (.cells (bv z8).toArray 5)) := by kernel_rfl
theorem dg_step {j : Nat} (hj : j < 8) {n : Int} (h0 : 0 ≤ n) : (List.replicate (8 - j) (0 : Int) ++ dig j n).set (7 - j) (n / 256 ^ j % 256) = List.replicate (8 - (j + 1)) 0 ++ dig (j + 1) n := by
  rw [show 8 - j = (7 - j) + 1 by omega, List.replicate_succ', List.append_assoc, List.set_append_right _ _ (by simp), dig_cons j n h0]
  simp
theorem dg_div {n : Int} (j : Nat) : n / 256 ^ j / 256 = n / 256 ^ (j + 1) := by
  rw [Int.ediv_ediv_of_nonneg (Int.pow_nonneg (by decide)), Int.pow_succ]
theorem buildTwo (W : World) (x y : Int) : (Instr.buildSlice 43 2 #[(0, .int .u8 x), (1, .int .u8 y)]).run Tryz.prog W = .ok (.slice (some ⟨W.heap.size, 0, none⟩) 2 2) (W.alloc (.cells #[.int .u8 x, .int .u8 y] 5)) := by kernel_rfl
theorem sl2n (W : World) (x y : Int) (t : TypeId) : Sl bc (W.alloc (.cells #[.int .u8 x, .int .u8 y] t)) (.slice (some ⟨W.heap.size, 0, none⟩) 2 2) [x, y] := .inr ⟨W.heap.size, 0, 2, rfl, Nat.le_refl _, fun i hi => by
  rw [Nat.zero_add, World.cell?_alloc_at _ _ _ _ rfl]
  match i, hi with
  | 0, _ => rfl
  | 1, _ => rfl⟩
theorem sl1n (W : World) (x : Int) (t : TypeId) : Sl bc (W.alloc (.cells #[.int .u8 x] t)) (.slice (some ⟨W.heap.size, 0, none⟩) 1 1) [x] := .inr ⟨W.heap.size, 0, 1, rfl, Nat.le_refl _, fun i hi => by
  rw [Nat.zero_add, World.cell?_alloc_at _ _ _ _ rfl]
  match i, hi with
  | 0, _ => rfl⟩
set_option maxRecDepth 100000 in
set_option maxHeartbeats 8000000 in
theorem rblocks_any (n : Nat) (w : World) (h : n ≤ 16448) : Calls Tryz.prog 41 #[.int .i64 (n : Int)] w fun e w' => e = .returned (.int .i64 (blks (n : Int))) ∧ w' = w := by
  by_cases h1 : n ≤ 46
  · have hI : (n : Int) ≤ 46 := by omega
    have HB : Hid (blks (n : Int) = 1) := hide (by unfold blks; rw [if_pos hI])
    go_enter Tryz.func41, Tryz.ntmps41
    go_wp2_with fail
    go_ret
    exact ⟨by rw [HB.out]; rfl, rfl⟩
  · have hI : ¬ (n : Int) ≤ 46 := by omega
    have HB : Hid (blks (n : Int) = ((n : Int) + 45) / 46) := hide (by unfold blks; rw [if_neg hI]; omega)
    have hw1 : IntKind.i64.wrap ((n : Int) + 45) = (n : Int) + 45 := by rw [IntKind.wrap_i64]; omega
    have hw2 : IntKind.i64.wrap (((n : Int) + 45) / 46) = ((n : Int) + 45) / 46 := by rw [IntKind.wrap_i64]; omega
    have h45 : 0 ≤ (n : Int) + 45 := by omega
    go_enter Tryz.func41, Tryz.ntmps41
    go_wp2_with fail
    go_ret
    exact ⟨by rw [HB.out]; rfl, rfl⟩
set_option maxRecDepth 100000 in
set_option maxHeartbeats 8000000 in
theorem digits_any (n : Int) (w : World) (h0 : 0 ≤ n) (h1 : n ≤ 4611686018427387904) : Calls Tryz.prog 72 #[.int .i64 n] w fun e w' => e = .returned (.slice (some ⟨w.heap.size, 0, none⟩) 8 8) ∧ Rq w' w.heap.size 5 (dig 8 n) ∧ Below w.heap.size w w' := by
  have hmk := make8c
  have HR := hide (Rq.new w 5 z8)
  have HB := hide ((Below.refl w.heap.size w).alloc (Nat.le_refl _) (.cells (bv z8).toArray 5))
  go_enter Tryz.func72, Tryz.ntmps72
  go_upto_region 4 with fail
  clear hmk
  generalize w.alloc (.cells (bv z8).toArray 5) = W1 at HR HB ⊢
  go_loopw [4, 5] (fun kv iv_ W => ∃ j : Nat, j ≤ 8 ∧ kv = .int .i64 (n / 256 ^ j) ∧ iv_ = .int .i64 (7 - (j : Int)) ∧ Rq W w.heap.size 5 (List.replicate (8 - j) 0 ++ dig j n) ∧ Below w.heap.size w W) (fun _ i _ => (iv i + 1).toNat)
  case atStart => exact ⟨0, by omega, by simp, rfl, HR.out, HB.out⟩
  case round =>
    clear HR HB
    obtain ⟨j, hj, rfl, rfl, hr, hb⟩ := hrel
    have HR := hide hr
    have HB := hide hb
    clear hr hb
    have hq0 : 0 ≤ n / 256 ^ j := Int.ediv_nonneg h0 (Int.pow_nonneg (by decide))
    have hq1 : n / 256 ^ j ≤ n := Int.ediv_le_self _ h0
    by_cases hlt : j < 8
    · have HS := hide (HR.out.set1 (7 - j) (n / 256 ^ j % 256))
      rw [dg_step hlt h0] at HS
      have HD : Hid (n / 256 ^ j / 256 = n / 256 ^ (j + 1)) := hide (dg_div j)
      have hl8 : (List.replicate (8 - j) (0 : Int) ++ dig j n).length = 8 := by rw [List.length_append, List.length_replicate, dig_len]; omega
      have c7 := HR.out.at (i := 7 - j) (by rw [hl8]; omega)
      have f7 := HR.out.fz (7 - j)
      generalize (List.replicate (8 - j) (0 : Int) ++ dig j n)[7 - j]'(by rw [hl8]; omega) = y at c7
      generalize hQ : n / 256 ^ j = q at hq0 hq1 HS HD ⊢
      clear hQ hl8
      have h7a : (0 : Int) ≤ 7 - (j : Int) := by omega
      have h7b : (7 : Int) - (j : Int) < 8 := by omega
      have h7t : (7 - (j : Int)).toNat = 7 - j := by omega
      have hr1 : (q % 256) % 256 = q % 256 := by omega
      have hr2 : IntKind.u8.wrap (q % 256) = q % 256 := by rw [IntKind.wrap_u8]; omega
      have hr3 : IntKind.i64.wrap (q / 256) = q / 256 := by rw [IntKind.wrap_i64]; omega
      have hr4 : IntKind.i64.wrap (7 - (j : Int) - 1) = 7 - (j : Int) - 1 := by rw [IntKind.wrap_i64]; omega
      go_wp2_with fail
      exact ⟨⟨j + 1, by omega, by rw [HD.out], by go_num, HS.out, HB.out.setCell (Nat.le_refl _) _⟩, by simp [iv]; omega⟩
    · obtain rfl : j = 8 := by omega
      have HF : Hid (Rq wr w.heap.size 5 (dig 8 n)) := hide (by have i := HR.out; rw [show List.replicate (8 - 8) (0 : Int) = [] from rfl, List.nil_append] at i; exact i)
      clear HR
      have h7c : ¬ (0 : Int) ≤ 7 - ((8 : Nat) : Int) := by omega
      generalize n / 256 ^ 8 = q at hq0 hq1 ⊢
      go_wp2_with fail
      go_ret
      exact ⟨rfl, HF.out, HB.out⟩
def slcLen : Value → Nat
  | .slice _ n _ => n
  | _ => 0
set_option maxRecDepth 100000 in
set_option maxHeartbeats 8000000 in
theorem fill_true (st : Int) (v : Value) (r : List Int) (w : World) (h0 : 0 ≤ st) (h1 : st ≤ 4611686018427387904) (hl : r.length ≤ 16448) (hv : Sl bc w v (r.take 46)) : Calls Tryz.prog 43 #[.int .i64 st, .bool true, .int .i64 (r.length : Int), v] w fun e w' => ∃ x, e = .returned x ∧ Sl bc w' x (blkOf st true r) ∧ Below w.heap.size w w' := by
  have HV := hide hv
  have H8 : Hid ((dig 8 st).length = 8) := hide (dig_len 8 st)
  obtain ⟨pn, hpn⟩ : ∃ pn, (r.take 46).length = pn := ⟨_, rfl⟩
  have hl46 : pn ≤ 46 := by rw [← hpn, List.length_take]; omega
  obtain ⟨pa, pk, hpv⟩ := hv.form
  rw [hpn] at hpv
  subst hpv
  have HPN := hide hpn
  have HLa : Hid (([] ++ dig 8 st).length = 8) := hide (by rw [List.nil_append]; exact dig_len 8 st)
  clear hv hpn
  go_enter Tryz.func43, Tryz.ntmps43
  go_upto_region 3 with (first | (go_at_call 72; refine (digits_any st _ h0 h1).mono ?_; rintro e W1 ⟨rfl, hr, hb⟩; have HD1 := hide (hr.all (n := 8) (dig_len 8 st).symm); have HB1 := hide hb; clear hr hb) | (at_builtin; refine wpList_ob _ rfl _ _ rfl w.heap.size _ [] rfl (ob_nil _ _) HB1.out.size _ (dig 8 st) rfl HD1.out (by rw [H8.out]; decide) ?_; intro W2 v2 ho hb; obtain ⟨va2, vk2, hv⟩ := ho.form; rw [HLa.out] at hv; subst hv; have HO2 := hide ho; have HB2 := hide (HB1.out.trans hb); clear ho hb))
  rw [List.nil_append] at HO2
  clear HD1 HB1
  have hL0 : (0 : Int) ≤ (r.length : Int) := by omega
  have hL1 : IntKind.i64.wrap ((r.length : Int) / 256) = (r.length : Int) / 256 := by rw [IntKind.wrap_i64]; omega
  have hL2 : (r.length : Int) / 256 % 256 = (r.length : Int) / 256 := by omega
  have hL3 : IntKind.u8.wrap ((r.length : Int) / 256) = (r.length : Int) / 256 := by rw [IntKind.wrap_u8]; omega
  have hL5 : (r.length : Int) % 256 % 256 = (r.length : Int) % 256 := by omega
  have hL6 : IntKind.u8.wrap ((r.length : Int) % 256) = (r.length : Int) % 256 := by rw [IntKind.wrap_u8]; omega
  have hL4 : IntKind.u8.wrap ((r.length : Int) / 256 + 128) = (r.length : Int) / 256 + 128 := by rw [IntKind.wrap_u8]; omega
  have hL7 : ((r.length : Int) / 256 + 128) % 256 = (r.length : Int) / 256 + 128 := by omega
  have HL3 : Hid ((dig 8 st ++ [((r.length : Int) / 256 + 128), (r.length : Int) % 256]).length = 10) := hide (by rw [List.length_append, H8.out]; rfl)
  have HL4 : Hid ((dig 8 st ++ [((r.length : Int) / 256 + 128), (r.length : Int) % 256] ++ r.take 46).length = 10 + pn) := hide (by rw [List.length_append, HL3.out, HPN.out])
  have hbt := fun W => buildTwo W ((r.length : Int) / 256 + 128) ((r.length : Int) % 256)
  have hal : Below W2.heap.size W2 (W2.alloc (.cells #[.int .u8 ((r.length : Int) / 256 + 128), .int .u8 ((r.length : Int) % 256)] 5)) := (Below.refl _ _).alloc (Nat.le_refl _) _
  go_upto_region 7 with (first | (at_builtin; refine wpList_ob _ rfl _ _ rfl w.heap.size _ _ rfl (HO2.out.below hal) (HB2.out.trans (hal.mono HB2.out.size)).size _ [((r.length : Int) / 256 + 128), (r.length : Int) % 256] rfl (sl2n W2 _ _ _) (by rw [H8.out]; simp) ?_; intro W3 v3 ho hb; obtain ⟨va3, vk3, hv⟩ := ho.form; rw [HL3.out] at hv; subst hv; have HO3 := hide ho; have HB3 := hide ((HB2.out.trans (hal.mono HB2.out.size)).trans hb); clear ho hb))
  clear hal hbt HO2 HB2
  go_upto_region 8 with (first | (at_builtin; refine wpList_ob _ rfl _ _ rfl w.heap.size _ _ rfl HO3.out HB3.out.size _ (r.take 46) rfl (HV.out.below HB3.out) (by rw [HL3.out, HPN.out]; omega) ?_; intro W4 v4 ho hb; obtain ⟨va4, vk4, hv⟩ := ho.form; rw [HL4.out] at hv; subst hv; have HO4 := hide ho; have HB4 := hide (HB3.out.trans hb); clear ho hb))
  clear HO3 HB3
  have HFL : Hid (dig 8 st ++ [((r.length : Int) / 256 + 128), (r.length : Int) % 256] ++ r.take 46 ++ List.replicate (46 - pn) 0 ++ dig 8 st = blkOf st true r) := hide (by unfold blkOf; rw [show List.replicate (46 - pn) (0 : Int) = List.replicate (46 - r.length) 0 by rw [← HPN.out, List.length_take]; congr 1; omega]; simp)
  generalize dig 8 st ++ [((r.length : Int) / 256 + 128), (r.length : Int) % 256] ++ r.take 46 = pre at HO4 HL4 HFL ⊢
  go_loopw [9] (fun bv_ W => ∃ k : Nat, k ≤ 46 - pn ∧ Ob w.heap.size W bv_ (pre ++ List.replicate k 0) ∧ Below w.heap.size w W) (fun b _ => 56 - (slcLen b))
  case atStart => exact ⟨0, Nat.zero_le _, by rw [List.replicate_zero, List.append_nil]; exact HO4.out, HB4.out⟩
  case round =>
    clear HO4 HB4
    obtain ⟨k, hk, ho, hb⟩ := hrel
    obtain ⟨qa, qk, hq⟩ := ho.form
    subst hq
    have HO := hide ho
    have HB := hide hb
    clear ho hb
    have HLN : Hid ((pre ++ List.replicate k (0 : Int)).length = 10 + pn + k) := hide (by rw [List.length_append, HL4.out, List.length_replicate])
    rw [HLN.out]
    by_cases hlt : k < 46 - pn
    · have hI : ((10 + pn + k : Nat) : Int) < 56 := by omega
      have hal : Below wr.heap.size wr (wr.alloc (.cells #[.int .u8 0] 5)) := (Below.refl _ _).alloc (Nat.le_refl _) _
      have HOL : Hid (Ob w.heap.size wr (.slice qa (10 + pn + k) qk) (pre ++ List.replicate k 0)) := hide (by have i := HO.out; rw [HLN.out] at i; exact i)
      have HNX : Hid (pre ++ List.replicate k 0 ++ [0] = pre ++ List.replicate (k + 1) (0 : Int)) := hide (by rw [List.append_assoc, List.replicate_succ'])
      go_wp2_with (first | (at_builtin; refine wpList_ob _ rfl _ _ rfl w.heap.size _ (pre ++ List.replicate k 0) rfl (HOL.out.below hal) (Nat.le_trans HB.out.size hal.size) _ [0] rfl (sl1n wr 0 _) (by rw [HLN.out]; simp; omega) ?_; intro W5 v5 ho hb; rw [HNX.out] at ho; obtain ⟨va5, vk5, hv5⟩ := ho.form; have HS5 := hide hv5; have HO5 := hide ho; have HB5 := hide ((bt HB.out hal).trans (hb)); clear ho hb hv5))
      exact ⟨⟨k + 1, by omega, HO5.out, HB5.out⟩, by rw [HS5.out]; simp [slcLen, HL4.out]; omega⟩
    · obtain rfl : k = 46 - pn := by omega
      have hI : ¬ ((10 + pn + (46 - pn) : Nat) : Int) < 56 := by omega
      have HOL : Hid (Ob w.heap.size wr (.slice qa (10 + pn + (46 - pn)) qk) (pre ++ List.replicate (46 - pn) 0)) := hide (by have i := HO.out; rw [HLN.out] at i; exact i)
      go_wp2_with (first | (go_at_call 72; refine (digits_any st _ h0 h1).mono ?_; rintro e W6 ⟨rfl, hr, hb⟩; have HD6 := hide (hr.all (n := 8) (dig_len 8 st).symm); have HO6 := hide (HOL.out.below hb); have HB6 := hide (bt HB.out hb); clear hr hb) | (at_builtin; refine wpList_ob _ rfl _ _ rfl w.heap.size _ (pre ++ List.replicate (46 - pn) 0) rfl HO6.out HB6.out.size _ (dig 8 st) rfl HD6.out (by rw [HLN.out, H8.out]; omega) ?_; intro W7 v7 ho hb; rw [HFL.out] at ho; have HO7 := hide ho; have HB7 := hide (HB6.out.trans hb); clear ho hb))
      go_ret
      exact ⟨_, rfl, HO7.out.sl, HB7.out⟩
set_option maxRecDepth 100000 in
set_option maxHeartbeats 8000000 in
theorem fill_false (st : Int) (v : Value) (r : List Int) (w : World) (h0 : 0 ≤ st) (h1 : st ≤ 4611686018427387904) (hl : r.length ≤ 16448) (hv : Sl bc w v (r.take 46)) : Calls Tryz.prog 43 #[.int .i64 st, .bool false, .int .i64 (r.length : Int), v] w fun e w' => ∃ x, e = .returned x ∧ Sl bc w' x (blkOf st false r) ∧ Below w.heap.size w w' := by
  have HV := hide hv
  have H8 : Hid ((dig 8 st).length = 8) := hide (dig_len 8 st)
  obtain ⟨pn, hpn⟩ : ∃ pn, (r.take 46).length = pn := ⟨_, rfl⟩
  have hl46 : pn ≤ 46 := by rw [← hpn, List.length_take]; omega
  obtain ⟨pa, pk, hpv⟩ := hv.form
  rw [hpn] at hpv
  subst hpv
  have HPN := hide hpn
  have HLa : Hid (([] ++ dig 8 st).length = 8) := hide (by rw [List.nil_append]; exact dig_len 8 st)
  clear hv hpn
  go_enter Tryz.func43, Tryz.ntmps43
  go_upto_region 3 with (first | (go_at_call 72; refine (digits_any st _ h0 h1).mono ?_; rintro e W1 ⟨rfl, hr, hb⟩; have HD1 := hide (hr.all (n := 8) (dig_len 8 st).symm); have HB1 := hide hb; clear hr hb) | (at_builtin; refine wpList_ob _ rfl _ _ rfl w.heap.size _ [] rfl (ob_nil _ _) HB1.out.size _ (dig 8 st) rfl HD1.out (by rw [H8.out]; decide) ?_; intro W2 v2 ho hb; obtain ⟨va2, vk2, hv⟩ := ho.form; rw [HLa.out] at hv; subst hv; have HO2 := hide ho; have HB2 := hide (HB1.out.trans hb); clear ho hb))
  rw [List.nil_append] at HO2
  clear HD1 HB1
  have hL0 : (0 : Int) ≤ (r.length : Int) := by omega
  have hL1 : IntKind.i64.wrap ((r.length : Int) / 256) = (r.length : Int) / 256 := by rw [IntKind.wrap_i64]; omega
  have hL2 : (r.length : Int) / 256 % 256 = (r.length : Int) / 256 := by omega
  have hL3 : IntKind.u8.wrap ((r.length : Int) / 256) = (r.length : Int) / 256 := by rw [IntKind.wrap_u8]; omega
  have hL5 : (r.length : Int) % 256 % 256 = (r.length : Int) % 256 := by omega
  have hL6 : IntKind.u8.wrap ((r.length : Int) % 256) = (r.length : Int) % 256 := by rw [IntKind.wrap_u8]; omega
  have HL3 : Hid ((dig 8 st ++ [((r.length : Int) / 256), (r.length : Int) % 256]).length = 10) := hide (by rw [List.length_append, H8.out]; rfl)
  have HL4 : Hid ((dig 8 st ++ [((r.length : Int) / 256), (r.length : Int) % 256] ++ r.take 46).length = 10 + pn) := hide (by rw [List.length_append, HL3.out, HPN.out])
  have hbt := fun W => buildTwo W ((r.length : Int) / 256) ((r.length : Int) % 256)
  have hal : Below W2.heap.size W2 (W2.alloc (.cells #[.int .u8 ((r.length : Int) / 256), .int .u8 ((r.length : Int) % 256)] 5)) := (Below.refl _ _).alloc (Nat.le_refl _) _
  go_upto_region 7 with (first | (at_builtin; refine wpList_ob _ rfl _ _ rfl w.heap.size _ _ rfl (HO2.out.below hal) (HB2.out.trans (hal.mono HB2.out.size)).size _ [((r.length : Int) / 256), (r.length : Int) % 256] rfl (sl2n W2 _ _ _) (by rw [H8.out]; simp) ?_; intro W3 v3 ho hb; obtain ⟨va3, vk3, hv⟩ := ho.form; rw [HL3.out] at hv; subst hv; have HO3 := hide ho; have HB3 := hide ((HB2.out.trans (hal.mono HB2.out.size)).trans hb); clear ho hb))
  clear hal hbt HO2 HB2
  go_upto_region 8 with (first | (at_builtin; refine wpList_ob _ rfl _ _ rfl w.heap.size _ _ rfl HO3.out HB3.out.size _ (r.take 46) rfl (HV.out.below HB3.out) (by rw [HL3.out, HPN.out]; omega) ?_; intro W4 v4 ho hb; obtain ⟨va4, vk4, hv⟩ := ho.form; rw [HL4.out] at hv; subst hv; have HO4 := hide ho; have HB4 := hide (HB3.out.trans hb); clear ho hb))
  clear HO3 HB3
  have HFL : Hid (dig 8 st ++ [((r.length : Int) / 256), (r.length : Int) % 256] ++ r.take 46 ++ List.replicate (46 - pn) 0 ++ dig 8 st = blkOf st false r) := hide (by unfold blkOf; rw [show List.replicate (46 - pn) (0 : Int) = List.replicate (46 - r.length) 0 by rw [← HPN.out, List.length_take]; congr 1; omega]; simp)
  generalize dig 8 st ++ [((r.length : Int) / 256), (r.length : Int) % 256] ++ r.take 46 = pre at HO4 HL4 HFL ⊢
  go_loopw [9] (fun bv_ W => ∃ k : Nat, k ≤ 46 - pn ∧ Ob w.heap.size W bv_ (pre ++ List.replicate k 0) ∧ Below w.heap.size w W) (fun b _ => 56 - (slcLen b))
  case atStart => exact ⟨0, Nat.zero_le _, by rw [List.replicate_zero, List.append_nil]; exact HO4.out, HB4.out⟩
  case round =>
    clear HO4 HB4
    obtain ⟨k, hk, ho, hb⟩ := hrel
    obtain ⟨qa, qk, hq⟩ := ho.form
    subst hq
    have HO := hide ho
    have HB := hide hb
    clear ho hb
    have HLN : Hid ((pre ++ List.replicate k (0 : Int)).length = 10 + pn + k) := hide (by rw [List.length_append, HL4.out, List.length_replicate])
    rw [HLN.out]
    by_cases hlt : k < 46 - pn
    · have hI : ((10 + pn + k : Nat) : Int) < 56 := by omega
      have hal : Below wr.heap.size wr (wr.alloc (.cells #[.int .u8 0] 5)) := (Below.refl _ _).alloc (Nat.le_refl _) _
      have HOL : Hid (Ob w.heap.size wr (.slice qa (10 + pn + k) qk) (pre ++ List.replicate k 0)) := hide (by have i := HO.out; rw [HLN.out] at i; exact i)
      have HNX : Hid (pre ++ List.replicate k 0 ++ [0] = pre ++ List.replicate (k + 1) (0 : Int)) := hide (by rw [List.append_assoc, List.replicate_succ'])
      go_wp2_with (first | (at_builtin; refine wpList_ob _ rfl _ _ rfl w.heap.size _ (pre ++ List.replicate k 0) rfl (HOL.out.below hal) (Nat.le_trans HB.out.size hal.size) _ [0] rfl (sl1n wr 0 _) (by rw [HLN.out]; simp; omega) ?_; intro W5 v5 ho hb; rw [HNX.out] at ho; obtain ⟨va5, vk5, hv5⟩ := ho.form; have HS5 := hide hv5; have HO5 := hide ho; have HB5 := hide ((bt HB.out hal).trans (hb)); clear ho hb hv5))
      exact ⟨⟨k + 1, by omega, HO5.out, HB5.out⟩, by rw [HS5.out]; simp [slcLen, HL4.out]; omega⟩
    · obtain rfl : k = 46 - pn := by omega
      have hI : ¬ ((10 + pn + (46 - pn) : Nat) : Int) < 56 := by omega
      have HOL : Hid (Ob w.heap.size wr (.slice qa (10 + pn + (46 - pn)) qk) (pre ++ List.replicate (46 - pn) 0)) := hide (by have i := HO.out; rw [HLN.out] at i; exact i)
      go_wp2_with (first | (go_at_call 72; refine (digits_any st _ h0 h1).mono ?_; rintro e W6 ⟨rfl, hr, hb⟩; have HD6 := hide (hr.all (n := 8) (dig_len 8 st).symm); have HO6 := hide (HOL.out.below hb); have HB6 := hide (bt HB.out hb); clear hr hb) | (at_builtin; refine wpList_ob _ rfl _ _ rfl w.heap.size _ (pre ++ List.replicate (46 - pn) 0) rfl HO6.out HB6.out.size _ (dig 8 st) rfl HD6.out (by rw [HLN.out, H8.out]; omega) ?_; intro W7 v7 ho hb; rw [HFL.out] at ho; have HO7 := hide ho; have HB7 := hide (HB6.out.trans hb); clear ho hb))
      go_ret
      exact ⟨_, rfl, HO7.out.sl, HB7.out⟩
theorem fill_any (st : Int) (bg : Bool) (v : Value) (r : List Int) (w : World) (h0 : 0 ≤ st) (h1 : st ≤ 4611686018427387904) (hl : r.length ≤ 16448) (hv : Sl bc w v (r.take 46)) : Calls Tryz.prog 43 #[.int .i64 st, .bool bg, .int .i64 (r.length : Int), v] w fun e w' => ∃ x, e = .returned x ∧ Sl bc w' x (blkOf st bg r) ∧ Below w.heap.size w w' := by
  cases bg with
  | true => exact fill_true st v r w h0 h1 hl hv
  | false => exact fill_false st v r w h0 h1 hl hv
end Go.Proofs.YtoamghncncalgaaGreatDoor
