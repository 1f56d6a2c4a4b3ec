/-
  WHETHER OF SOME NUMBERS SOMETHING IS SO (slices.IndexFunc, ContainsFunc with the functions of image.may).
  WHAT IS WRONG WITH A PARTITION (image.may).
-/
import Derived.Test.YtlggjgapdpkhiaaGreatJKImCda5
import Derived.Test.YtlggjgapdpkhiaaGreatJKImCba5
namespace Go.Proofs.YtlggjgapdpkhiaaGreat
open Go.RowKit
set_option maxRecDepth 100000
set_option maxHeartbeats 4000000
theorem ix_my1_some (l : List Int) (p : Int → Bool) (b o cap : Nat) (u0 : Value) (w : World) (hv : ∀ i (h : i < l.length), w.cell? ⟨b, o + i, none⟩ = some (ic l[i])) (hl : l.length ≤ 100000)
  (hc : ∀ W x, Below w.heap.size w W → Calls Tryz.prog 142 #[.int .i64 x, u0] W fun e w' => e = .returned (.bool (p x)) ∧ Below W.heap.size W w') :
  Calls Tryz.prog 156 #[.slice (some ⟨b, o, none⟩) l.length cap, .func (.func 142) #[] #[u0]] w fun e w' => IxP p l w w' e := by
 have HV := Hd hv
 have HC := Hd hc
 clear hv hc
 go_enter Tryz.func156, Tryz.ntmps156
 go_wp2_with fail
 go_loopw [8] (fun x W => ∃ i : Nat, x = .int .i64 (i : Int) ∧ i ≤ l.length ∧ (∀ q (h : q < l.length), q < i → p l[q] = false) ∧ Below w.heap.size w W) (fun x _ => l.length - (intOf x).toNat)
 case atStart => exact ⟨0, rfl, Nat.zero_le _, fun q h h' => absurd h' (Nat.not_lt_zero _), Below.refl _ _⟩
 case round =>
  obtain ⟨i, rfl, hi, h1, hb⟩ := hrel
  have H1 := Hd h1
  have HB := Hd hb
  clear h1 hb
  by_cases hlt : i < l.length
  ·have hltI : (i : Int) < (l.length : Int) := by omega
   have hcell := (HB.out.cell (p := ⟨b, o + i, none⟩) (cB (HV.out i hlt))).trans (HV.out i hlt)
   unfold ic at hcell
   have HCL := Hd (HC.out wr l[i] HB.out)
   cases hp : p l[i] with
   | true =>
    have HP := Hd hp
    rw [hp] at HCL
    clear hp
    generalize l[i] = y at hcell HCL
    go_wp2_with (go_at_call 142; refine HCL.out.mono ?_; rintro e w1 ⟨rfl, hb1⟩; have HB1 := Hd (bt HB.out hb1); clear hb1 HCL hcell)
    go_ret
    exact IxP.yes i hlt HP.out H1.out rfl HB1.out
   | false =>
    have HP : Hid (∀ q (h : q < l.length), q < i + 1 → p l[q] = false) := Hd (fun q h hq => by
     by_cases e : q = i
     ·subst e; exact hp
     ·exact H1.out q h (by omega))
    rw [hp] at HCL
    clear hp
    generalize l[i] = y at hcell HCL
    go_wp2_with (go_at_call 142; refine HCL.out.mono ?_; rintro e w1 ⟨rfl, hb1⟩; have HB1 := Hd (bt HB.out hb1); clear hb1 HCL hcell)
    go_roundw
    case rel => exact ⟨i + 1, by go_num, by omega, HP.out, HB1.out⟩
    case measure => simp [intOf]; omega
  ·obtain rfl : i = l.length := by omega
   have HN : Hid (∀ q (h : q < l.length), p l[q] = false) := Hd (fun q h => H1.out q h h)
   clear hlt H1
   go_wp2_with fail
   go_ret
   exact IxP.no HN.out rfl HB.out
theorem ix_my1 (l : List Int) (p : Int → Bool) (v : Value) (u0 : Value) (w : World) (hv : Sl ic w v l) (hl : l.length ≤ 100000)
  (hc : ∀ W x, Below w.heap.size w W → Calls Tryz.prog 142 #[.int .i64 x, u0] W fun e w' => e = .returned (.bool (p x)) ∧ Below W.heap.size W w') :
  Calls Tryz.prog 156 #[v, .func (.func 142) #[] #[u0]] w fun e w' => IxP p l w w' e := by
 rcases hv with ⟨ao, cap, rfl, rfl⟩ | ⟨b, o, cap, rfl, h2, h3⟩
 ·clear hl hc
  go_enter Tryz.func156, Tryz.ntmps156
  go_wp2_with fail
  refine wp_loop_rounds 1 ?_
  rw [rounds_succ]
  go_wp2_with fail
  go_ret
  exact IxP.no (fun j h => absurd h (Nat.not_lt_zero _)) rfl (Below.refl _ _)
 ·exact ix_my1_some l p b o cap u0 w h3 hl hc
theorem ct_my1 (l : List Int) (p : Int → Bool) (a : Option Addr) (n c : Nat) (u0 : Value) (w : World) (hv : Sl ic w (.slice a n c) l) (hl : l.length ≤ 100000)
  (hc : ∀ W x, Below w.heap.size w W → Calls Tryz.prog 142 #[.int .i64 x, u0] W fun e w' => e = .returned (.bool (p x)) ∧ Below W.heap.size W w') :
  Calls Tryz.prog 143 #[.slice a n c, .func (.func 142) #[] #[u0]] w fun e w' => e = .returned (.bool (l.any p)) ∧ Below w.heap.size w w' := by
 have HC := Hd (ix_my1 l p _ u0 w hv hl hc)
 clear hv hl hc
 generalize hA : l.any p = A
 have HA := Hd hA
 clear hA
 go_enter Tryz.func143, Tryz.ntmps143
 go_wp2_with (go_at_call 156; refine HC.out.mono ?_; rintro e w1 h1; obtain ⟨i, rfl, hi, hb⟩ := h1.any; have HI := Hd hi; have HB := Hd hb; clear hi hb h1 HC)
 go_ret
 exact ⟨by rw [← HA.out, ← HI.out]; rfl, HB.out⟩
theorem ix_my2_some (l : List Int) (p : Int → Bool) (b o cap : Nat) (u0 : Value) (w : World) (hv : ∀ i (h : i < l.length), w.cell? ⟨b, o + i, none⟩ = some (ic l[i])) (hl : l.length ≤ 100000)
  (hc : ∀ W x, Below w.heap.size w W → Calls Tryz.prog 144 #[.int .i64 x, u0] W fun e w' => e = .returned (.bool (p x)) ∧ Below W.heap.size W w') :
  Calls Tryz.prog 156 #[.slice (some ⟨b, o, none⟩) l.length cap, .func (.func 144) #[] #[u0]] w fun e w' => IxP p l w w' e := by
 have HV := Hd hv
 have HC := Hd hc
 clear hv hc
 go_enter Tryz.func156, Tryz.ntmps156
 go_wp2_with fail
 go_loopw [8] (fun x W => ∃ i : Nat, x = .int .i64 (i : Int) ∧ i ≤ l.length ∧ (∀ q (h : q < l.length), q < i → p l[q] = false) ∧ Below w.heap.size w W) (fun x _ => l.length - (intOf x).toNat)
 case atStart => exact ⟨0, rfl, Nat.zero_le _, fun q h h' => absurd h' (Nat.not_lt_zero _), Below.refl _ _⟩
 case round =>
  obtain ⟨i, rfl, hi, h1, hb⟩ := hrel
  have H1 := Hd h1
  have HB := Hd hb
  clear h1 hb
  by_cases hlt : i < l.length
  ·have hltI : (i : Int) < (l.length : Int) := by omega
   have hcell := (HB.out.cell (p := ⟨b, o + i, none⟩) (cB (HV.out i hlt))).trans (HV.out i hlt)
   unfold ic at hcell
   have HCL := Hd (HC.out wr l[i] HB.out)
   cases hp : p l[i] with
   | true =>
    have HP := Hd hp
    rw [hp] at HCL
    clear hp
    generalize l[i] = y at hcell HCL
    go_wp2_with (go_at_call 144; refine HCL.out.mono ?_; rintro e w1 ⟨rfl, hb1⟩; have HB1 := Hd (bt HB.out hb1); clear hb1 HCL hcell)
    go_ret
    exact IxP.yes i hlt HP.out H1.out rfl HB1.out
   | false =>
    have HP : Hid (∀ q (h : q < l.length), q < i + 1 → p l[q] = false) := Hd (fun q h hq => by
     by_cases e : q = i
     ·subst e; exact hp
     ·exact H1.out q h (by omega))
    rw [hp] at HCL
    clear hp
    generalize l[i] = y at hcell HCL
    go_wp2_with (go_at_call 144; refine HCL.out.mono ?_; rintro e w1 ⟨rfl, hb1⟩; have HB1 := Hd (bt HB.out hb1); clear hb1 HCL hcell)
    go_roundw
    case rel => exact ⟨i + 1, by go_num, by omega, HP.out, HB1.out⟩
    case measure => simp [intOf]; omega
  ·obtain rfl : i = l.length := by omega
   have HN : Hid (∀ q (h : q < l.length), p l[q] = false) := Hd (fun q h => H1.out q h h)
   clear hlt H1
   go_wp2_with fail
   go_ret
   exact IxP.no HN.out rfl HB.out
theorem ix_my2 (l : List Int) (p : Int → Bool) (v : Value) (u0 : Value) (w : World) (hv : Sl ic w v l) (hl : l.length ≤ 100000)
  (hc : ∀ W x, Below w.heap.size w W → Calls Tryz.prog 144 #[.int .i64 x, u0] W fun e w' => e = .returned (.bool (p x)) ∧ Below W.heap.size W w') :
  Calls Tryz.prog 156 #[v, .func (.func 144) #[] #[u0]] w fun e w' => IxP p l w w' e := by
 rcases hv with ⟨ao, cap, rfl, rfl⟩ | ⟨b, o, cap, rfl, h2, h3⟩
 ·clear hl hc
  go_enter Tryz.func156, Tryz.ntmps156
  go_wp2_with fail
  refine wp_loop_rounds 1 ?_
  rw [rounds_succ]
  go_wp2_with fail
  go_ret
  exact IxP.no (fun j h => absurd h (Nat.not_lt_zero _)) rfl (Below.refl _ _)
 ·exact ix_my2_some l p b o cap u0 w h3 hl hc
theorem ct_my2 (l : List Int) (p : Int → Bool) (a : Option Addr) (n c : Nat) (u0 : Value) (w : World) (hv : Sl ic w (.slice a n c) l) (hl : l.length ≤ 100000)
  (hc : ∀ W x, Below w.heap.size w W → Calls Tryz.prog 144 #[.int .i64 x, u0] W fun e w' => e = .returned (.bool (p x)) ∧ Below W.heap.size W w') :
  Calls Tryz.prog 143 #[.slice a n c, .func (.func 144) #[] #[u0]] w fun e w' => e = .returned (.bool (l.any p)) ∧ Below w.heap.size w w' := by
 have HC := Hd (ix_my2 l p _ u0 w hv hl hc)
 clear hv hl hc
 generalize hA : l.any p = A
 have HA := Hd hA
 clear hA
 go_enter Tryz.func143, Tryz.ntmps143
 go_wp2_with (go_at_call 156; refine HC.out.mono ?_; rintro e w1 h1; obtain ⟨i, rfl, hi, hb⟩ := h1.any; have HI := Hd hi; have HB := Hd hb; clear hi hb h1 HC)
 go_ret
 exact ⟨by rw [← HA.out, ← HI.out]; rfl, HB.out⟩
theorem ix_my3_some (l : List Int) (p : Int → Bool) (b o cap : Nat) (u0 : Value) (w : World) (hv : ∀ i (h : i < l.length), w.cell? ⟨b, o + i, none⟩ = some (ic l[i])) (hl : l.length ≤ 100000)
  (hc : ∀ W x, Below w.heap.size w W → Calls Tryz.prog 146 #[.int .i64 x, u0] W fun e w' => e = .returned (.bool (p x)) ∧ Below W.heap.size W w') :
  Calls Tryz.prog 156 #[.slice (some ⟨b, o, none⟩) l.length cap, .func (.func 146) #[] #[u0]] w fun e w' => IxP p l w w' e := by
 have HV := Hd hv
 have HC := Hd hc
 clear hv hc
 go_enter Tryz.func156, Tryz.ntmps156
 go_wp2_with fail
 go_loopw [8] (fun x W => ∃ i : Nat, x = .int .i64 (i : Int) ∧ i ≤ l.length ∧ (∀ q (h : q < l.length), q < i → p l[q] = false) ∧ Below w.heap.size w W) (fun x _ => l.length - (intOf x).toNat)
 case atStart => exact ⟨0, rfl, Nat.zero_le _, fun q h h' => absurd h' (Nat.not_lt_zero _), Below.refl _ _⟩
 case round =>
  obtain ⟨i, rfl, hi, h1, hb⟩ := hrel
  have H1 := Hd h1
  have HB := Hd hb
  clear h1 hb
  by_cases hlt : i < l.length
  ·have hltI : (i : Int) < (l.length : Int) := by omega
   have hcell := (HB.out.cell (p := ⟨b, o + i, none⟩) (cB (HV.out i hlt))).trans (HV.out i hlt)
   unfold ic at hcell
   have HCL := Hd (HC.out wr l[i] HB.out)
   cases hp : p l[i] with
   | true =>
    have HP := Hd hp
    rw [hp] at HCL
    clear hp
    generalize l[i] = y at hcell HCL
    go_wp2_with (go_at_call 146; refine HCL.out.mono ?_; rintro e w1 ⟨rfl, hb1⟩; have HB1 := Hd (bt HB.out hb1); clear hb1 HCL hcell)
    go_ret
    exact IxP.yes i hlt HP.out H1.out rfl HB1.out
   | false =>
    have HP : Hid (∀ q (h : q < l.length), q < i + 1 → p l[q] = false) := Hd (fun q h hq => by
     by_cases e : q = i
     ·subst e; exact hp
     ·exact H1.out q h (by omega))
    rw [hp] at HCL
    clear hp
    generalize l[i] = y at hcell HCL
    go_wp2_with (go_at_call 146; refine HCL.out.mono ?_; rintro e w1 ⟨rfl, hb1⟩; have HB1 := Hd (bt HB.out hb1); clear hb1 HCL hcell)
    go_roundw
    case rel => exact ⟨i + 1, by go_num, by omega, HP.out, HB1.out⟩
    case measure => simp [intOf]; omega
  ·obtain rfl : i = l.length := by omega
   have HN : Hid (∀ q (h : q < l.length), p l[q] = false) := Hd (fun q h => H1.out q h h)
   clear hlt H1
   go_wp2_with fail
   go_ret
   exact IxP.no HN.out rfl HB.out
theorem ix_my3 (l : List Int) (p : Int → Bool) (v : Value) (u0 : Value) (w : World) (hv : Sl ic w v l) (hl : l.length ≤ 100000)
  (hc : ∀ W x, Below w.heap.size w W → Calls Tryz.prog 146 #[.int .i64 x, u0] W fun e w' => e = .returned (.bool (p x)) ∧ Below W.heap.size W w') :
  Calls Tryz.prog 156 #[v, .func (.func 146) #[] #[u0]] w fun e w' => IxP p l w w' e := by
 rcases hv with ⟨ao, cap, rfl, rfl⟩ | ⟨b, o, cap, rfl, h2, h3⟩
 ·clear hl hc
  go_enter Tryz.func156, Tryz.ntmps156
  go_wp2_with fail
  refine wp_loop_rounds 1 ?_
  rw [rounds_succ]
  go_wp2_with fail
  go_ret
  exact IxP.no (fun j h => absurd h (Nat.not_lt_zero _)) rfl (Below.refl _ _)
 ·exact ix_my3_some l p b o cap u0 w h3 hl hc
theorem ct_my3 (l : List Int) (p : Int → Bool) (a : Option Addr) (n c : Nat) (u0 : Value) (w : World) (hv : Sl ic w (.slice a n c) l) (hl : l.length ≤ 100000)
  (hc : ∀ W x, Below w.heap.size w W → Calls Tryz.prog 146 #[.int .i64 x, u0] W fun e w' => e = .returned (.bool (p x)) ∧ Below W.heap.size W w') :
  Calls Tryz.prog 143 #[.slice a n c, .func (.func 146) #[] #[u0]] w fun e w' => e = .returned (.bool (l.any p)) ∧ Below w.heap.size w w' := by
 have HC := Hd (ix_my3 l p _ u0 w hv hl hc)
 clear hv hl hc
 generalize hA : l.any p = A
 have HA := Hd hA
 clear hA
 go_enter Tryz.func143, Tryz.ntmps143
 go_wp2_with (go_at_call 156; refine HC.out.mono ?_; rintro e w1 h1; obtain ⟨i, rfl, hi, hb⟩ := h1.any; have HI := Hd hi; have HB := Hd hb; clear hi hb h1 HC)
 go_ret
 exact ⟨by rw [← HA.out, ← HI.out]; rfl, HB.out⟩
theorem cMay1_any (x : Int) (q : Pp) (B : Nat) (w : World) (hB : Bx w B (ptc q)) (hq : PtR w q) (h7 : q.1.ids.length ≤ 7) : Calls Tryz.prog 142 #[.int .i64 x, .pointer (some ⟨B, 0, none⟩)] w fun e w' => e = .returned (.bool (!q.1.ids.contains x)) ∧ Below w.heap.size w w' := by
 have HC := Hd (cont_any _ q.1.ids x w hq.s0 h7)
 obtain ⟨i0, i1, i2, i3, i4, i5⟩ := hB.c6
 clear hB hq h7
 generalize q.1.ids.contains x = A at *
 go_enter Tryz.func142, Tryz.ntmps142
 go_wp2_with (go_at_call 138; refine HC.out.mono ?_; rintro e w1 ⟨rfl, rfl⟩)
 go_ret
 exact ⟨rfl, Below.refl _ _⟩
theorem cMay3_any (x : Int) (q : Pp) (B : Nat) (w : World) (hB : Bx w B (ptc q)) (hq : PtR w q) (h7 : q.1.dr.length ≤ 7) : Calls Tryz.prog 146 #[.int .i64 x, .pointer (some ⟨B, 0, none⟩)] w fun e w' => e = .returned (.bool (q.1.dr.contains x)) ∧ Below w.heap.size w w' := by
 have HC := Hd (cont_any _ q.1.dr x w hq.s3 h7)
 obtain ⟨i0, i1, i2, i3, i4, i5⟩ := hB.c6
 clear hB hq h7
 generalize q.1.dr.contains x = A at *
 go_enter Tryz.func146, Tryz.ntmps146
 go_wp2_with (go_at_call 138; refine HC.out.mono ?_; rintro e w1 ⟨rfl, rfl⟩)
 go_ret
 exact ⟨rfl, Below.refl _ _⟩
theorem cMay2_any (x : Int) (m : Im) (p : Ip) (B : Nat) (w : World) (hB : Bx w B (iml m p)) (hv : ImR w m p) (hw : Wf m 100000) : Calls Tryz.prog 144 #[.int .i64 x, .pointer (some ⟨B, 0, none⟩)] w fun e w' => e = .returned (.bool (fB m.br x).isNone) ∧ Below w.heap.size w w' := by
 have HC := Hd (registered_any m p x w hv hw)
 have hA : (fB m.br x).isNone = !(fB m.br x).isSome := by cases fB m.br x <;> rfl
 rw [hA]
 obtain ⟨i0, i1, i2, i3, i4⟩ := hB.im
 clear hB hv hw hA
 generalize (fB m.br x).isSome = A at *
 unfold imv at HC
 go_enter Tryz.func144, Tryz.ntmps144
 go_wp2_with (go_at_call 145; refine HC.out.mono ?_; rintro e w1 ⟨rfl, hb⟩; have HB := Hd hb; clear hb HC)
 go_ret
 exact ⟨rfl, HB.out⟩
end Go.Proofs.YtlggjgapdpkhiaaGreat
namespace Go.Proofs.YtlggjgapdpkhiaaGreat
open Go.RowKit
set_option maxRecDepth 100000 in
set_option maxHeartbeats 16000000 in
theorem may_any (m : Im) (p : Ip) (q : Pp) (w : World) (hv : ImR w m p) (hw : Wf m 100000) (hq : PtR w q) (hl : WfP q.1) : Calls Tryz.prog 123 #[imv m p, .agg (ptc q).toArray] w fun e w' => ∃ E, e = .returned E ∧ Erc (right m.br q.1) E ∧ Below w.heap.size w w' := by
 have HH0 := Hd (fun W (h : Below w.heap.size w W) (hi : Bx W w.heap.size (iml m p)) => ct_my2 q.1.ids (fun x => (fB m.br x).isNone) _ _ _ (.pointer (some ⟨w.heap.size, 0, none⟩)) W (hq.s0.below h) (Nat.le_trans hl.l0 (by decide)) (fun W' x h' => cMay2_any x m p w.heap.size W' (hi.below h') (hv.below (bt h h')) hw))
 have HF := Hd (fun (v : Option Addr) n c (l : List Int) W (hs : Sl ic W (.slice v n c) l) (h7 : l.length ≤ 7) (h : Below w.heap.size w W) (hp : Bx W (w.heap.size + 1) (ptc q)) => ct_my1 l (fun x => !q.1.ids.contains x) v n c (.pointer (some ⟨w.heap.size + 1, 0, none⟩)) W hs (Nat.le_trans h7 (by decide)) (fun W' x h' => cMay1_any x q (w.heap.size + 1) W' (hp.below h') (hq.below (bt h h')) hl.l0))
 have H0 := Hd (fun W (h : Below w.heap.size w W) (hi : Bx W w.heap.size (iml m p)) (_ : Bx W (w.heap.size + 1) (ptc q)) => HH0.out W h hi)
 have H1 := Hd (fun W (h : Below w.heap.size w W) (_ : Bx W w.heap.size (iml m p)) (hp : Bx W (w.heap.size + 1) (ptc q)) => HF.out _ _ _ q.1.isr W (hq.s1.below h) hl.l1 h hp)
 have H2 := Hd (fun W (h : Below w.heap.size w W) (_ : Bx W w.heap.size (iml m p)) (hp : Bx W (w.heap.size + 1) (ptc q)) => HF.out _ _ _ q.1.ad W (hq.s2.below h) hl.l2 h hp)
 have H3 := Hd (fun W (h : Below w.heap.size w W) (_ : Bx W w.heap.size (iml m p)) (hp : Bx W (w.heap.size + 1) (ptc q)) => HF.out _ _ _ q.1.dr W (hq.s3.below h) hl.l3 h hp)
 have H4 := Hd (fun W (h : Below w.heap.size w W) (_ : Bx W w.heap.size (iml m p)) (hp : Bx W (w.heap.size + 1) (ptc q)) => ct_my3 q.1.ad (fun x => q.1.dr.contains x) _ _ _ (.pointer (some ⟨w.heap.size + 1, 0, none⟩)) W (hq.s2.below h) (Nat.le_trans hl.l2 (by decide)) (fun W' x h' => cMay3_any x q (w.heap.size + 1) W' (hp.below h') (hq.below (bt h h')) hl.l3))
 have H5 := Hd (fun W (h : Below w.heap.size w W) (_ : Bx W w.heap.size (iml m p)) (_ : Bx W (w.heap.size + 1) (ptc q)) => (cont_any _ q.1.isr q.1.ld W (hq.s1.below h) hl.l1).mono (fun e w' z => (⟨z.1, by rw [z.2]; exact Below.refl _ _⟩ : e = .returned (.bool (q.1.isr.contains q.1.ld)) ∧ Below W.heap.size W w')))
 have H6 := Hd (fun W (h : Below w.heap.size w W) (_ : Bx W w.heap.size (iml m p)) (_ : Bx W (w.heap.size + 1) (ptc q)) => Alive_any m p q.1.ld W (hv.below h) hw)
 clear HH0 HF hv hw hq hl
 obtain ⟨ANS, hANS⟩ : ∃ A, A = right m.br q.1 := ⟨_, rfl⟩
 rw [← hANS]
 unfold right at hANS
 have HANS := Hd hANS
 clear hANS
 obtain ⟨⟨ids, isr, ld, ep, ad, dr⟩, ⟨a0, a1, a2, a3, c0, c1, c2, c3⟩⟩ := q
 dsimp only at HANS H0 H1 H2 H3 H4 H5 H6
 have hE0 : ((ids.length : Int) == 0) = ids.isEmpty := by cases ids <;> simp; omega
 have hE1 : ((isr.length : Int) == 0) = isr.isEmpty := by cases isr <;> simp; omega
 generalize (ids.any fun x => (fB m.br x).isNone) = b0 at HANS H0
 generalize (isr.any fun x => !ids.contains x) = b1 at HANS H1
 generalize (ad.any fun x => !ids.contains x) = b2 at HANS H2
 generalize (dr.any fun x => !ids.contains x) = b3 at HANS H3
 generalize (ad.any fun x => dr.contains x) = b4 at HANS H4
 generalize isr.contains ld = b5 at HANS H5
 generalize alive m.br ld = b6 at HANS H6
 generalize ids.isEmpty = e0 at HANS hE0
 generalize isr.isEmpty = e1 at HANS hE1
 generalize hL : (ld != 0) = b7 at HANS
 obtain ⟨HI0, HP0, HB0⟩ := Bx.mk2 w [.slice p.ab m.br.length p.cb, .slice p.aq p.ts.length p.cq, .slice p.ac m.cf.length p.cc, .slice p.ad m.dn.length p.cd, .int .i64 m.la] [.slice a0 ids.length c0, .slice a1 isr.length c1, .int .i64 ld, .int .i64 ep, .slice a2 ad.length c2, .slice a3 dr.length c3] 30 44 (Below.refl _ _)
 unfold imv ptc at *
 dsimp only at *
 go_enter Tryz.func123, Tryz.ntmps123
 go_upto_region 1 with fail
 generalize ((w.alloc (.cells (List.toArray [Value.slice p.ab m.br.length p.cb, .slice p.aq p.ts.length p.cq, .slice p.ac m.cf.length p.cc, .slice p.ad m.dn.length p.cd, .int .i64 m.la]) 30)).alloc (.cells (List.toArray [Value.slice a0 ids.length c0, .slice a1 isr.length c1, .int .i64 ld, .int .i64 ep, .slice a2 ad.length c2, .slice a3 dr.length c3]) 44)) = X at HI0 HP0 HB0 ⊢
 have HI : Hid (Bx X w.heap.size (iml m p)) := Hd HI0
 have HP := Hd HP0
 have HB := Hd HB0
 clear HI0 HP0 HB0
 obtain ⟨i0, i1, i2, i3, i4⟩ := HI.out.im
 obtain ⟨p0, p1, p2, p3, p4, p5⟩ := HP.out.c6
 cases e0 with
 | true =>
  have HA : Hid (ANS = 18) := Hd (HANS.out.trans (by simp [*]))
  go_wp2_with (first | (go_at_call 143; refine (H0.out _ HB.out HI.out HP.out).mono ?_; rintro e w1 ⟨rfl, hb⟩; clear i0 i1 i2 i3 i4 p0 p1 p2 p3 p4 p5; replace HI := Hd (HI.out.below hb); replace HP := Hd (HP.out.below hb); replace HB := Hd (bt HB.out hb); clear hb H0; obtain ⟨i0, i1, i2, i3, i4⟩ := HI.out.im; obtain ⟨p0, p1, p2, p3, p4, p5⟩ := HP.out.c6) | (go_at_call 143; refine (H1.out _ HB.out HI.out HP.out).mono ?_; rintro e w1 ⟨rfl, hb⟩; clear i0 i1 i2 i3 i4 p0 p1 p2 p3 p4 p5; replace HI := Hd (HI.out.below hb); replace HP := Hd (HP.out.below hb); replace HB := Hd (bt HB.out hb); clear hb H1; obtain ⟨i0, i1, i2, i3, i4⟩ := HI.out.im; obtain ⟨p0, p1, p2, p3, p4, p5⟩ := HP.out.c6) | (go_at_call 143; refine (H2.out _ HB.out HI.out HP.out).mono ?_; rintro e w1 ⟨rfl, hb⟩; clear i0 i1 i2 i3 i4 p0 p1 p2 p3 p4 p5; replace HI := Hd (HI.out.below hb); replace HP := Hd (HP.out.below hb); replace HB := Hd (bt HB.out hb); clear hb H2; obtain ⟨i0, i1, i2, i3, i4⟩ := HI.out.im; obtain ⟨p0, p1, p2, p3, p4, p5⟩ := HP.out.c6) | (go_at_call 143; refine (H3.out _ HB.out HI.out HP.out).mono ?_; rintro e w1 ⟨rfl, hb⟩; clear i0 i1 i2 i3 i4 p0 p1 p2 p3 p4 p5; replace HI := Hd (HI.out.below hb); replace HP := Hd (HP.out.below hb); replace HB := Hd (bt HB.out hb); clear hb H3; obtain ⟨i0, i1, i2, i3, i4⟩ := HI.out.im; obtain ⟨p0, p1, p2, p3, p4, p5⟩ := HP.out.c6) | (go_at_call 143; refine (H4.out _ HB.out HI.out HP.out).mono ?_; rintro e w1 ⟨rfl, hb⟩; clear i0 i1 i2 i3 i4 p0 p1 p2 p3 p4 p5; replace HI := Hd (HI.out.below hb); replace HP := Hd (HP.out.below hb); replace HB := Hd (bt HB.out hb); clear hb H4; obtain ⟨i0, i1, i2, i3, i4⟩ := HI.out.im; obtain ⟨p0, p1, p2, p3, p4, p5⟩ := HP.out.c6) | (go_at_call 138; refine (H5.out _ HB.out HI.out HP.out).mono ?_; rintro e w1 ⟨rfl, hb⟩; clear i0 i1 i2 i3 i4 p0 p1 p2 p3 p4 p5; replace HI := Hd (HI.out.below hb); replace HP := Hd (HP.out.below hb); replace HB := Hd (bt HB.out hb); clear hb H5; obtain ⟨i0, i1, i2, i3, i4⟩ := HI.out.im; obtain ⟨p0, p1, p2, p3, p4, p5⟩ := HP.out.c6) | (go_at_call 22; refine (H6.out _ HB.out HI.out HP.out).mono ?_; rintro e w1 ⟨rfl, hb⟩; clear i0 i1 i2 i3 i4 p0 p1 p2 p3 p4 p5; replace HI := Hd (HI.out.below hb); replace HP := Hd (HP.out.below hb); replace HB := Hd (bt HB.out hb); clear hb H6; obtain ⟨i0, i1, i2, i3, i4⟩ := HI.out.im; obtain ⟨p0, p1, p2, p3, p4, p5⟩ := HP.out.c6) | (go_at_call 85; refine (new_any _ _ _ _).mono ?_; rintro e w1 ⟨rfl, rfl⟩))
  go_ret
  exact ⟨_, rfl, by rw [HA.out]; exact .inr ⟨by decide, [(_, _)], rfl⟩, HB.out⟩
 | false =>
  cases b0 with
  | true =>
   have HA : Hid (ANS = 18) := Hd (HANS.out.trans (by simp [*]))
   go_wp2_with (first | (go_at_call 143; refine (H0.out _ HB.out HI.out HP.out).mono ?_; rintro e w1 ⟨rfl, hb⟩; clear i0 i1 i2 i3 i4 p0 p1 p2 p3 p4 p5; replace HI := Hd (HI.out.below hb); replace HP := Hd (HP.out.below hb); replace HB := Hd (bt HB.out hb); clear hb H0; obtain ⟨i0, i1, i2, i3, i4⟩ := HI.out.im; obtain ⟨p0, p1, p2, p3, p4, p5⟩ := HP.out.c6) | (go_at_call 143; refine (H1.out _ HB.out HI.out HP.out).mono ?_; rintro e w1 ⟨rfl, hb⟩; clear i0 i1 i2 i3 i4 p0 p1 p2 p3 p4 p5; replace HI := Hd (HI.out.below hb); replace HP := Hd (HP.out.below hb); replace HB := Hd (bt HB.out hb); clear hb H1; obtain ⟨i0, i1, i2, i3, i4⟩ := HI.out.im; obtain ⟨p0, p1, p2, p3, p4, p5⟩ := HP.out.c6) | (go_at_call 143; refine (H2.out _ HB.out HI.out HP.out).mono ?_; rintro e w1 ⟨rfl, hb⟩; clear i0 i1 i2 i3 i4 p0 p1 p2 p3 p4 p5; replace HI := Hd (HI.out.below hb); replace HP := Hd (HP.out.below hb); replace HB := Hd (bt HB.out hb); clear hb H2; obtain ⟨i0, i1, i2, i3, i4⟩ := HI.out.im; obtain ⟨p0, p1, p2, p3, p4, p5⟩ := HP.out.c6) | (go_at_call 143; refine (H3.out _ HB.out HI.out HP.out).mono ?_; rintro e w1 ⟨rfl, hb⟩; clear i0 i1 i2 i3 i4 p0 p1 p2 p3 p4 p5; replace HI := Hd (HI.out.below hb); replace HP := Hd (HP.out.below hb); replace HB := Hd (bt HB.out hb); clear hb H3; obtain ⟨i0, i1, i2, i3, i4⟩ := HI.out.im; obtain ⟨p0, p1, p2, p3, p4, p5⟩ := HP.out.c6) | (go_at_call 143; refine (H4.out _ HB.out HI.out HP.out).mono ?_; rintro e w1 ⟨rfl, hb⟩; clear i0 i1 i2 i3 i4 p0 p1 p2 p3 p4 p5; replace HI := Hd (HI.out.below hb); replace HP := Hd (HP.out.below hb); replace HB := Hd (bt HB.out hb); clear hb H4; obtain ⟨i0, i1, i2, i3, i4⟩ := HI.out.im; obtain ⟨p0, p1, p2, p3, p4, p5⟩ := HP.out.c6) | (go_at_call 138; refine (H5.out _ HB.out HI.out HP.out).mono ?_; rintro e w1 ⟨rfl, hb⟩; clear i0 i1 i2 i3 i4 p0 p1 p2 p3 p4 p5; replace HI := Hd (HI.out.below hb); replace HP := Hd (HP.out.below hb); replace HB := Hd (bt HB.out hb); clear hb H5; obtain ⟨i0, i1, i2, i3, i4⟩ := HI.out.im; obtain ⟨p0, p1, p2, p3, p4, p5⟩ := HP.out.c6) | (go_at_call 22; refine (H6.out _ HB.out HI.out HP.out).mono ?_; rintro e w1 ⟨rfl, hb⟩; clear i0 i1 i2 i3 i4 p0 p1 p2 p3 p4 p5; replace HI := Hd (HI.out.below hb); replace HP := Hd (HP.out.below hb); replace HB := Hd (bt HB.out hb); clear hb H6; obtain ⟨i0, i1, i2, i3, i4⟩ := HI.out.im; obtain ⟨p0, p1, p2, p3, p4, p5⟩ := HP.out.c6) | (go_at_call 85; refine (new_any _ _ _ _).mono ?_; rintro e w1 ⟨rfl, rfl⟩))
   go_ret
   exact ⟨_, rfl, by rw [HA.out]; exact .inr ⟨by decide, [(_, _)], rfl⟩, HB.out⟩
  | false =>
   cases e1 with
   | true =>
    have HA : Hid (ANS = 18) := Hd (HANS.out.trans (by simp [*]))
    go_wp2_with (first | (go_at_call 143; refine (H0.out _ HB.out HI.out HP.out).mono ?_; rintro e w1 ⟨rfl, hb⟩; clear i0 i1 i2 i3 i4 p0 p1 p2 p3 p4 p5; replace HI := Hd (HI.out.below hb); replace HP := Hd (HP.out.below hb); replace HB := Hd (bt HB.out hb); clear hb H0; obtain ⟨i0, i1, i2, i3, i4⟩ := HI.out.im; obtain ⟨p0, p1, p2, p3, p4, p5⟩ := HP.out.c6) | (go_at_call 143; refine (H1.out _ HB.out HI.out HP.out).mono ?_; rintro e w1 ⟨rfl, hb⟩; clear i0 i1 i2 i3 i4 p0 p1 p2 p3 p4 p5; replace HI := Hd (HI.out.below hb); replace HP := Hd (HP.out.below hb); replace HB := Hd (bt HB.out hb); clear hb H1; obtain ⟨i0, i1, i2, i3, i4⟩ := HI.out.im; obtain ⟨p0, p1, p2, p3, p4, p5⟩ := HP.out.c6) | (go_at_call 143; refine (H2.out _ HB.out HI.out HP.out).mono ?_; rintro e w1 ⟨rfl, hb⟩; clear i0 i1 i2 i3 i4 p0 p1 p2 p3 p4 p5; replace HI := Hd (HI.out.below hb); replace HP := Hd (HP.out.below hb); replace HB := Hd (bt HB.out hb); clear hb H2; obtain ⟨i0, i1, i2, i3, i4⟩ := HI.out.im; obtain ⟨p0, p1, p2, p3, p4, p5⟩ := HP.out.c6) | (go_at_call 143; refine (H3.out _ HB.out HI.out HP.out).mono ?_; rintro e w1 ⟨rfl, hb⟩; clear i0 i1 i2 i3 i4 p0 p1 p2 p3 p4 p5; replace HI := Hd (HI.out.below hb); replace HP := Hd (HP.out.below hb); replace HB := Hd (bt HB.out hb); clear hb H3; obtain ⟨i0, i1, i2, i3, i4⟩ := HI.out.im; obtain ⟨p0, p1, p2, p3, p4, p5⟩ := HP.out.c6) | (go_at_call 143; refine (H4.out _ HB.out HI.out HP.out).mono ?_; rintro e w1 ⟨rfl, hb⟩; clear i0 i1 i2 i3 i4 p0 p1 p2 p3 p4 p5; replace HI := Hd (HI.out.below hb); replace HP := Hd (HP.out.below hb); replace HB := Hd (bt HB.out hb); clear hb H4; obtain ⟨i0, i1, i2, i3, i4⟩ := HI.out.im; obtain ⟨p0, p1, p2, p3, p4, p5⟩ := HP.out.c6) | (go_at_call 138; refine (H5.out _ HB.out HI.out HP.out).mono ?_; rintro e w1 ⟨rfl, hb⟩; clear i0 i1 i2 i3 i4 p0 p1 p2 p3 p4 p5; replace HI := Hd (HI.out.below hb); replace HP := Hd (HP.out.below hb); replace HB := Hd (bt HB.out hb); clear hb H5; obtain ⟨i0, i1, i2, i3, i4⟩ := HI.out.im; obtain ⟨p0, p1, p2, p3, p4, p5⟩ := HP.out.c6) | (go_at_call 22; refine (H6.out _ HB.out HI.out HP.out).mono ?_; rintro e w1 ⟨rfl, hb⟩; clear i0 i1 i2 i3 i4 p0 p1 p2 p3 p4 p5; replace HI := Hd (HI.out.below hb); replace HP := Hd (HP.out.below hb); replace HB := Hd (bt HB.out hb); clear hb H6; obtain ⟨i0, i1, i2, i3, i4⟩ := HI.out.im; obtain ⟨p0, p1, p2, p3, p4, p5⟩ := HP.out.c6) | (go_at_call 85; refine (new_any _ _ _ _).mono ?_; rintro e w1 ⟨rfl, rfl⟩))
    go_ret
    exact ⟨_, rfl, by rw [HA.out]; exact .inr ⟨by decide, [(_, _)], rfl⟩, HB.out⟩
   | false =>
    cases b1 with
    | true =>
     have HA : Hid (ANS = 18) := Hd (HANS.out.trans (by simp [*]))
     go_wp2_with (first | (go_at_call 143; refine (H0.out _ HB.out HI.out HP.out).mono ?_; rintro e w1 ⟨rfl, hb⟩; clear i0 i1 i2 i3 i4 p0 p1 p2 p3 p4 p5; replace HI := Hd (HI.out.below hb); replace HP := Hd (HP.out.below hb); replace HB := Hd (bt HB.out hb); clear hb H0; obtain ⟨i0, i1, i2, i3, i4⟩ := HI.out.im; obtain ⟨p0, p1, p2, p3, p4, p5⟩ := HP.out.c6) | (go_at_call 143; refine (H1.out _ HB.out HI.out HP.out).mono ?_; rintro e w1 ⟨rfl, hb⟩; clear i0 i1 i2 i3 i4 p0 p1 p2 p3 p4 p5; replace HI := Hd (HI.out.below hb); replace HP := Hd (HP.out.below hb); replace HB := Hd (bt HB.out hb); clear hb H1; obtain ⟨i0, i1, i2, i3, i4⟩ := HI.out.im; obtain ⟨p0, p1, p2, p3, p4, p5⟩ := HP.out.c6) | (go_at_call 143; refine (H2.out _ HB.out HI.out HP.out).mono ?_; rintro e w1 ⟨rfl, hb⟩; clear i0 i1 i2 i3 i4 p0 p1 p2 p3 p4 p5; replace HI := Hd (HI.out.below hb); replace HP := Hd (HP.out.below hb); replace HB := Hd (bt HB.out hb); clear hb H2; obtain ⟨i0, i1, i2, i3, i4⟩ := HI.out.im; obtain ⟨p0, p1, p2, p3, p4, p5⟩ := HP.out.c6) | (go_at_call 143; refine (H3.out _ HB.out HI.out HP.out).mono ?_; rintro e w1 ⟨rfl, hb⟩; clear i0 i1 i2 i3 i4 p0 p1 p2 p3 p4 p5; replace HI := Hd (HI.out.below hb); replace HP := Hd (HP.out.below hb); replace HB := Hd (bt HB.out hb); clear hb H3; obtain ⟨i0, i1, i2, i3, i4⟩ := HI.out.im; obtain ⟨p0, p1, p2, p3, p4, p5⟩ := HP.out.c6) | (go_at_call 143; refine (H4.out _ HB.out HI.out HP.out).mono ?_; rintro e w1 ⟨rfl, hb⟩; clear i0 i1 i2 i3 i4 p0 p1 p2 p3 p4 p5; replace HI := Hd (HI.out.below hb); replace HP := Hd (HP.out.below hb); replace HB := Hd (bt HB.out hb); clear hb H4; obtain ⟨i0, i1, i2, i3, i4⟩ := HI.out.im; obtain ⟨p0, p1, p2, p3, p4, p5⟩ := HP.out.c6) | (go_at_call 138; refine (H5.out _ HB.out HI.out HP.out).mono ?_; rintro e w1 ⟨rfl, hb⟩; clear i0 i1 i2 i3 i4 p0 p1 p2 p3 p4 p5; replace HI := Hd (HI.out.below hb); replace HP := Hd (HP.out.below hb); replace HB := Hd (bt HB.out hb); clear hb H5; obtain ⟨i0, i1, i2, i3, i4⟩ := HI.out.im; obtain ⟨p0, p1, p2, p3, p4, p5⟩ := HP.out.c6) | (go_at_call 22; refine (H6.out _ HB.out HI.out HP.out).mono ?_; rintro e w1 ⟨rfl, hb⟩; clear i0 i1 i2 i3 i4 p0 p1 p2 p3 p4 p5; replace HI := Hd (HI.out.below hb); replace HP := Hd (HP.out.below hb); replace HB := Hd (bt HB.out hb); clear hb H6; obtain ⟨i0, i1, i2, i3, i4⟩ := HI.out.im; obtain ⟨p0, p1, p2, p3, p4, p5⟩ := HP.out.c6) | (go_at_call 85; refine (new_any _ _ _ _).mono ?_; rintro e w1 ⟨rfl, rfl⟩))
     go_ret
     exact ⟨_, rfl, by rw [HA.out]; exact .inr ⟨by decide, [(_, _)], rfl⟩, HB.out⟩
    | false =>
     cases b7 with
     | true =>
      cases b5 with
      | false =>
       have HA : Hid (ANS = 17) := Hd (HANS.out.trans (by simp [*]))
       go_wp2_with (first | (go_at_call 143; refine (H0.out _ HB.out HI.out HP.out).mono ?_; rintro e w1 ⟨rfl, hb⟩; clear i0 i1 i2 i3 i4 p0 p1 p2 p3 p4 p5; replace HI := Hd (HI.out.below hb); replace HP := Hd (HP.out.below hb); replace HB := Hd (bt HB.out hb); clear hb H0; obtain ⟨i0, i1, i2, i3, i4⟩ := HI.out.im; obtain ⟨p0, p1, p2, p3, p4, p5⟩ := HP.out.c6) | (go_at_call 143; refine (H1.out _ HB.out HI.out HP.out).mono ?_; rintro e w1 ⟨rfl, hb⟩; clear i0 i1 i2 i3 i4 p0 p1 p2 p3 p4 p5; replace HI := Hd (HI.out.below hb); replace HP := Hd (HP.out.below hb); replace HB := Hd (bt HB.out hb); clear hb H1; obtain ⟨i0, i1, i2, i3, i4⟩ := HI.out.im; obtain ⟨p0, p1, p2, p3, p4, p5⟩ := HP.out.c6) | (go_at_call 143; refine (H2.out _ HB.out HI.out HP.out).mono ?_; rintro e w1 ⟨rfl, hb⟩; clear i0 i1 i2 i3 i4 p0 p1 p2 p3 p4 p5; replace HI := Hd (HI.out.below hb); replace HP := Hd (HP.out.below hb); replace HB := Hd (bt HB.out hb); clear hb H2; obtain ⟨i0, i1, i2, i3, i4⟩ := HI.out.im; obtain ⟨p0, p1, p2, p3, p4, p5⟩ := HP.out.c6) | (go_at_call 143; refine (H3.out _ HB.out HI.out HP.out).mono ?_; rintro e w1 ⟨rfl, hb⟩; clear i0 i1 i2 i3 i4 p0 p1 p2 p3 p4 p5; replace HI := Hd (HI.out.below hb); replace HP := Hd (HP.out.below hb); replace HB := Hd (bt HB.out hb); clear hb H3; obtain ⟨i0, i1, i2, i3, i4⟩ := HI.out.im; obtain ⟨p0, p1, p2, p3, p4, p5⟩ := HP.out.c6) | (go_at_call 143; refine (H4.out _ HB.out HI.out HP.out).mono ?_; rintro e w1 ⟨rfl, hb⟩; clear i0 i1 i2 i3 i4 p0 p1 p2 p3 p4 p5; replace HI := Hd (HI.out.below hb); replace HP := Hd (HP.out.below hb); replace HB := Hd (bt HB.out hb); clear hb H4; obtain ⟨i0, i1, i2, i3, i4⟩ := HI.out.im; obtain ⟨p0, p1, p2, p3, p4, p5⟩ := HP.out.c6) | (go_at_call 138; refine (H5.out _ HB.out HI.out HP.out).mono ?_; rintro e w1 ⟨rfl, hb⟩; clear i0 i1 i2 i3 i4 p0 p1 p2 p3 p4 p5; replace HI := Hd (HI.out.below hb); replace HP := Hd (HP.out.below hb); replace HB := Hd (bt HB.out hb); clear hb H5; obtain ⟨i0, i1, i2, i3, i4⟩ := HI.out.im; obtain ⟨p0, p1, p2, p3, p4, p5⟩ := HP.out.c6) | (go_at_call 22; refine (H6.out _ HB.out HI.out HP.out).mono ?_; rintro e w1 ⟨rfl, hb⟩; clear i0 i1 i2 i3 i4 p0 p1 p2 p3 p4 p5; replace HI := Hd (HI.out.below hb); replace HP := Hd (HP.out.below hb); replace HB := Hd (bt HB.out hb); clear hb H6; obtain ⟨i0, i1, i2, i3, i4⟩ := HI.out.im; obtain ⟨p0, p1, p2, p3, p4, p5⟩ := HP.out.c6) | (go_at_call 85; refine (new_any _ _ _ _).mono ?_; rintro e w1 ⟨rfl, rfl⟩))
       go_ret
       exact ⟨_, rfl, by rw [HA.out]; exact .inr ⟨by decide, [(_, _)], rfl⟩, HB.out⟩
      | true =>
       cases b6 with
       | false =>
        have HA : Hid (ANS = 17) := Hd (HANS.out.trans (by simp [*]))
        go_wp2_with (first | (go_at_call 143; refine (H0.out _ HB.out HI.out HP.out).mono ?_; rintro e w1 ⟨rfl, hb⟩; clear i0 i1 i2 i3 i4 p0 p1 p2 p3 p4 p5; replace HI := Hd (HI.out.below hb); replace HP := Hd (HP.out.below hb); replace HB := Hd (bt HB.out hb); clear hb H0; obtain ⟨i0, i1, i2, i3, i4⟩ := HI.out.im; obtain ⟨p0, p1, p2, p3, p4, p5⟩ := HP.out.c6) | (go_at_call 143; refine (H1.out _ HB.out HI.out HP.out).mono ?_; rintro e w1 ⟨rfl, hb⟩; clear i0 i1 i2 i3 i4 p0 p1 p2 p3 p4 p5; replace HI := Hd (HI.out.below hb); replace HP := Hd (HP.out.below hb); replace HB := Hd (bt HB.out hb); clear hb H1; obtain ⟨i0, i1, i2, i3, i4⟩ := HI.out.im; obtain ⟨p0, p1, p2, p3, p4, p5⟩ := HP.out.c6) | (go_at_call 143; refine (H2.out _ HB.out HI.out HP.out).mono ?_; rintro e w1 ⟨rfl, hb⟩; clear i0 i1 i2 i3 i4 p0 p1 p2 p3 p4 p5; replace HI := Hd (HI.out.below hb); replace HP := Hd (HP.out.below hb); replace HB := Hd (bt HB.out hb); clear hb H2; obtain ⟨i0, i1, i2, i3, i4⟩ := HI.out.im; obtain ⟨p0, p1, p2, p3, p4, p5⟩ := HP.out.c6) | (go_at_call 143; refine (H3.out _ HB.out HI.out HP.out).mono ?_; rintro e w1 ⟨rfl, hb⟩; clear i0 i1 i2 i3 i4 p0 p1 p2 p3 p4 p5; replace HI := Hd (HI.out.below hb); replace HP := Hd (HP.out.below hb); replace HB := Hd (bt HB.out hb); clear hb H3; obtain ⟨i0, i1, i2, i3, i4⟩ := HI.out.im; obtain ⟨p0, p1, p2, p3, p4, p5⟩ := HP.out.c6) | (go_at_call 143; refine (H4.out _ HB.out HI.out HP.out).mono ?_; rintro e w1 ⟨rfl, hb⟩; clear i0 i1 i2 i3 i4 p0 p1 p2 p3 p4 p5; replace HI := Hd (HI.out.below hb); replace HP := Hd (HP.out.below hb); replace HB := Hd (bt HB.out hb); clear hb H4; obtain ⟨i0, i1, i2, i3, i4⟩ := HI.out.im; obtain ⟨p0, p1, p2, p3, p4, p5⟩ := HP.out.c6) | (go_at_call 138; refine (H5.out _ HB.out HI.out HP.out).mono ?_; rintro e w1 ⟨rfl, hb⟩; clear i0 i1 i2 i3 i4 p0 p1 p2 p3 p4 p5; replace HI := Hd (HI.out.below hb); replace HP := Hd (HP.out.below hb); replace HB := Hd (bt HB.out hb); clear hb H5; obtain ⟨i0, i1, i2, i3, i4⟩ := HI.out.im; obtain ⟨p0, p1, p2, p3, p4, p5⟩ := HP.out.c6) | (go_at_call 22; refine (H6.out _ HB.out HI.out HP.out).mono ?_; rintro e w1 ⟨rfl, hb⟩; clear i0 i1 i2 i3 i4 p0 p1 p2 p3 p4 p5; replace HI := Hd (HI.out.below hb); replace HP := Hd (HP.out.below hb); replace HB := Hd (bt HB.out hb); clear hb H6; obtain ⟨i0, i1, i2, i3, i4⟩ := HI.out.im; obtain ⟨p0, p1, p2, p3, p4, p5⟩ := HP.out.c6) | (go_at_call 85; refine (new_any _ _ _ _).mono ?_; rintro e w1 ⟨rfl, rfl⟩))
        go_ret
        exact ⟨_, rfl, by rw [HA.out]; exact .inr ⟨by decide, [(_, _)], rfl⟩, HB.out⟩
       | true =>
        cases b2 with
        | true =>
         have HA : Hid (ANS = 18) := Hd (HANS.out.trans (by simp [*]))
         go_wp2_with (first | (go_at_call 143; refine (H0.out _ HB.out HI.out HP.out).mono ?_; rintro e w1 ⟨rfl, hb⟩; clear i0 i1 i2 i3 i4 p0 p1 p2 p3 p4 p5; replace HI := Hd (HI.out.below hb); replace HP := Hd (HP.out.below hb); replace HB := Hd (bt HB.out hb); clear hb H0; obtain ⟨i0, i1, i2, i3, i4⟩ := HI.out.im; obtain ⟨p0, p1, p2, p3, p4, p5⟩ := HP.out.c6) | (go_at_call 143; refine (H1.out _ HB.out HI.out HP.out).mono ?_; rintro e w1 ⟨rfl, hb⟩; clear i0 i1 i2 i3 i4 p0 p1 p2 p3 p4 p5; replace HI := Hd (HI.out.below hb); replace HP := Hd (HP.out.below hb); replace HB := Hd (bt HB.out hb); clear hb H1; obtain ⟨i0, i1, i2, i3, i4⟩ := HI.out.im; obtain ⟨p0, p1, p2, p3, p4, p5⟩ := HP.out.c6) | (go_at_call 143; refine (H2.out _ HB.out HI.out HP.out).mono ?_; rintro e w1 ⟨rfl, hb⟩; clear i0 i1 i2 i3 i4 p0 p1 p2 p3 p4 p5; replace HI := Hd (HI.out.below hb); replace HP := Hd (HP.out.below hb); replace HB := Hd (bt HB.out hb); clear hb H2; obtain ⟨i0, i1, i2, i3, i4⟩ := HI.out.im; obtain ⟨p0, p1, p2, p3, p4, p5⟩ := HP.out.c6) | (go_at_call 143; refine (H3.out _ HB.out HI.out HP.out).mono ?_; rintro e w1 ⟨rfl, hb⟩; clear i0 i1 i2 i3 i4 p0 p1 p2 p3 p4 p5; replace HI := Hd (HI.out.below hb); replace HP := Hd (HP.out.below hb); replace HB := Hd (bt HB.out hb); clear hb H3; obtain ⟨i0, i1, i2, i3, i4⟩ := HI.out.im; obtain ⟨p0, p1, p2, p3, p4, p5⟩ := HP.out.c6) | (go_at_call 143; refine (H4.out _ HB.out HI.out HP.out).mono ?_; rintro e w1 ⟨rfl, hb⟩; clear i0 i1 i2 i3 i4 p0 p1 p2 p3 p4 p5; replace HI := Hd (HI.out.below hb); replace HP := Hd (HP.out.below hb); replace HB := Hd (bt HB.out hb); clear hb H4; obtain ⟨i0, i1, i2, i3, i4⟩ := HI.out.im; obtain ⟨p0, p1, p2, p3, p4, p5⟩ := HP.out.c6) | (go_at_call 138; refine (H5.out _ HB.out HI.out HP.out).mono ?_; rintro e w1 ⟨rfl, hb⟩; clear i0 i1 i2 i3 i4 p0 p1 p2 p3 p4 p5; replace HI := Hd (HI.out.below hb); replace HP := Hd (HP.out.below hb); replace HB := Hd (bt HB.out hb); clear hb H5; obtain ⟨i0, i1, i2, i3, i4⟩ := HI.out.im; obtain ⟨p0, p1, p2, p3, p4, p5⟩ := HP.out.c6) | (go_at_call 22; refine (H6.out _ HB.out HI.out HP.out).mono ?_; rintro e w1 ⟨rfl, hb⟩; clear i0 i1 i2 i3 i4 p0 p1 p2 p3 p4 p5; replace HI := Hd (HI.out.below hb); replace HP := Hd (HP.out.below hb); replace HB := Hd (bt HB.out hb); clear hb H6; obtain ⟨i0, i1, i2, i3, i4⟩ := HI.out.im; obtain ⟨p0, p1, p2, p3, p4, p5⟩ := HP.out.c6) | (go_at_call 85; refine (new_any _ _ _ _).mono ?_; rintro e w1 ⟨rfl, rfl⟩))
         go_ret
         exact ⟨_, rfl, by rw [HA.out]; exact .inr ⟨by decide, [(_, _)], rfl⟩, HB.out⟩
        | false =>
         cases b3 with
         | true =>
          have HA : Hid (ANS = 18) := Hd (HANS.out.trans (by simp [*]))
          go_wp2_with (first | (go_at_call 143; refine (H0.out _ HB.out HI.out HP.out).mono ?_; rintro e w1 ⟨rfl, hb⟩; clear i0 i1 i2 i3 i4 p0 p1 p2 p3 p4 p5; replace HI := Hd (HI.out.below hb); replace HP := Hd (HP.out.below hb); replace HB := Hd (bt HB.out hb); clear hb H0; obtain ⟨i0, i1, i2, i3, i4⟩ := HI.out.im; obtain ⟨p0, p1, p2, p3, p4, p5⟩ := HP.out.c6) | (go_at_call 143; refine (H1.out _ HB.out HI.out HP.out).mono ?_; rintro e w1 ⟨rfl, hb⟩; clear i0 i1 i2 i3 i4 p0 p1 p2 p3 p4 p5; replace HI := Hd (HI.out.below hb); replace HP := Hd (HP.out.below hb); replace HB := Hd (bt HB.out hb); clear hb H1; obtain ⟨i0, i1, i2, i3, i4⟩ := HI.out.im; obtain ⟨p0, p1, p2, p3, p4, p5⟩ := HP.out.c6) | (go_at_call 143; refine (H2.out _ HB.out HI.out HP.out).mono ?_; rintro e w1 ⟨rfl, hb⟩; clear i0 i1 i2 i3 i4 p0 p1 p2 p3 p4 p5; replace HI := Hd (HI.out.below hb); replace HP := Hd (HP.out.below hb); replace HB := Hd (bt HB.out hb); clear hb H2; obtain ⟨i0, i1, i2, i3, i4⟩ := HI.out.im; obtain ⟨p0, p1, p2, p3, p4, p5⟩ := HP.out.c6) | (go_at_call 143; refine (H3.out _ HB.out HI.out HP.out).mono ?_; rintro e w1 ⟨rfl, hb⟩; clear i0 i1 i2 i3 i4 p0 p1 p2 p3 p4 p5; replace HI := Hd (HI.out.below hb); replace HP := Hd (HP.out.below hb); replace HB := Hd (bt HB.out hb); clear hb H3; obtain ⟨i0, i1, i2, i3, i4⟩ := HI.out.im; obtain ⟨p0, p1, p2, p3, p4, p5⟩ := HP.out.c6) | (go_at_call 143; refine (H4.out _ HB.out HI.out HP.out).mono ?_; rintro e w1 ⟨rfl, hb⟩; clear i0 i1 i2 i3 i4 p0 p1 p2 p3 p4 p5; replace HI := Hd (HI.out.below hb); replace HP := Hd (HP.out.below hb); replace HB := Hd (bt HB.out hb); clear hb H4; obtain ⟨i0, i1, i2, i3, i4⟩ := HI.out.im; obtain ⟨p0, p1, p2, p3, p4, p5⟩ := HP.out.c6) | (go_at_call 138; refine (H5.out _ HB.out HI.out HP.out).mono ?_; rintro e w1 ⟨rfl, hb⟩; clear i0 i1 i2 i3 i4 p0 p1 p2 p3 p4 p5; replace HI := Hd (HI.out.below hb); replace HP := Hd (HP.out.below hb); replace HB := Hd (bt HB.out hb); clear hb H5; obtain ⟨i0, i1, i2, i3, i4⟩ := HI.out.im; obtain ⟨p0, p1, p2, p3, p4, p5⟩ := HP.out.c6) | (go_at_call 22; refine (H6.out _ HB.out HI.out HP.out).mono ?_; rintro e w1 ⟨rfl, hb⟩; clear i0 i1 i2 i3 i4 p0 p1 p2 p3 p4 p5; replace HI := Hd (HI.out.below hb); replace HP := Hd (HP.out.below hb); replace HB := Hd (bt HB.out hb); clear hb H6; obtain ⟨i0, i1, i2, i3, i4⟩ := HI.out.im; obtain ⟨p0, p1, p2, p3, p4, p5⟩ := HP.out.c6) | (go_at_call 85; refine (new_any _ _ _ _).mono ?_; rintro e w1 ⟨rfl, rfl⟩))
          go_ret
          exact ⟨_, rfl, by rw [HA.out]; exact .inr ⟨by decide, [(_, _)], rfl⟩, HB.out⟩
         | false =>
          cases b4 with
          | true =>
           have HA : Hid (ANS = 18) := Hd (HANS.out.trans (by simp [*]))
           go_wp2_with (first | (go_at_call 143; refine (H0.out _ HB.out HI.out HP.out).mono ?_; rintro e w1 ⟨rfl, hb⟩; clear i0 i1 i2 i3 i4 p0 p1 p2 p3 p4 p5; replace HI := Hd (HI.out.below hb); replace HP := Hd (HP.out.below hb); replace HB := Hd (bt HB.out hb); clear hb H0; obtain ⟨i0, i1, i2, i3, i4⟩ := HI.out.im; obtain ⟨p0, p1, p2, p3, p4, p5⟩ := HP.out.c6) | (go_at_call 143; refine (H1.out _ HB.out HI.out HP.out).mono ?_; rintro e w1 ⟨rfl, hb⟩; clear i0 i1 i2 i3 i4 p0 p1 p2 p3 p4 p5; replace HI := Hd (HI.out.below hb); replace HP := Hd (HP.out.below hb); replace HB := Hd (bt HB.out hb); clear hb H1; obtain ⟨i0, i1, i2, i3, i4⟩ := HI.out.im; obtain ⟨p0, p1, p2, p3, p4, p5⟩ := HP.out.c6) | (go_at_call 143; refine (H2.out _ HB.out HI.out HP.out).mono ?_; rintro e w1 ⟨rfl, hb⟩; clear i0 i1 i2 i3 i4 p0 p1 p2 p3 p4 p5; replace HI := Hd (HI.out.below hb); replace HP := Hd (HP.out.below hb); replace HB := Hd (bt HB.out hb); clear hb H2; obtain ⟨i0, i1, i2, i3, i4⟩ := HI.out.im; obtain ⟨p0, p1, p2, p3, p4, p5⟩ := HP.out.c6) | (go_at_call 143; refine (H3.out _ HB.out HI.out HP.out).mono ?_; rintro e w1 ⟨rfl, hb⟩; clear i0 i1 i2 i3 i4 p0 p1 p2 p3 p4 p5; replace HI := Hd (HI.out.below hb); replace HP := Hd (HP.out.below hb); replace HB := Hd (bt HB.out hb); clear hb H3; obtain ⟨i0, i1, i2, i3, i4⟩ := HI.out.im; obtain ⟨p0, p1, p2, p3, p4, p5⟩ := HP.out.c6) | (go_at_call 143; refine (H4.out _ HB.out HI.out HP.out).mono ?_; rintro e w1 ⟨rfl, hb⟩; clear i0 i1 i2 i3 i4 p0 p1 p2 p3 p4 p5; replace HI := Hd (HI.out.below hb); replace HP := Hd (HP.out.below hb); replace HB := Hd (bt HB.out hb); clear hb H4; obtain ⟨i0, i1, i2, i3, i4⟩ := HI.out.im; obtain ⟨p0, p1, p2, p3, p4, p5⟩ := HP.out.c6) | (go_at_call 138; refine (H5.out _ HB.out HI.out HP.out).mono ?_; rintro e w1 ⟨rfl, hb⟩; clear i0 i1 i2 i3 i4 p0 p1 p2 p3 p4 p5; replace HI := Hd (HI.out.below hb); replace HP := Hd (HP.out.below hb); replace HB := Hd (bt HB.out hb); clear hb H5; obtain ⟨i0, i1, i2, i3, i4⟩ := HI.out.im; obtain ⟨p0, p1, p2, p3, p4, p5⟩ := HP.out.c6) | (go_at_call 22; refine (H6.out _ HB.out HI.out HP.out).mono ?_; rintro e w1 ⟨rfl, hb⟩; clear i0 i1 i2 i3 i4 p0 p1 p2 p3 p4 p5; replace HI := Hd (HI.out.below hb); replace HP := Hd (HP.out.below hb); replace HB := Hd (bt HB.out hb); clear hb H6; obtain ⟨i0, i1, i2, i3, i4⟩ := HI.out.im; obtain ⟨p0, p1, p2, p3, p4, p5⟩ := HP.out.c6) | (go_at_call 85; refine (new_any _ _ _ _).mono ?_; rintro e w1 ⟨rfl, rfl⟩))
           go_ret
           exact ⟨_, rfl, by rw [HA.out]; exact .inr ⟨by decide, [(_, _)], rfl⟩, HB.out⟩
          | false =>
           have HA : Hid (ANS = 0) := Hd (HANS.out.trans (by simp [*]))
           go_wp2_with (first | (go_at_call 143; refine (H0.out _ HB.out HI.out HP.out).mono ?_; rintro e w1 ⟨rfl, hb⟩; clear i0 i1 i2 i3 i4 p0 p1 p2 p3 p4 p5; replace HI := Hd (HI.out.below hb); replace HP := Hd (HP.out.below hb); replace HB := Hd (bt HB.out hb); clear hb H0; obtain ⟨i0, i1, i2, i3, i4⟩ := HI.out.im; obtain ⟨p0, p1, p2, p3, p4, p5⟩ := HP.out.c6) | (go_at_call 143; refine (H1.out _ HB.out HI.out HP.out).mono ?_; rintro e w1 ⟨rfl, hb⟩; clear i0 i1 i2 i3 i4 p0 p1 p2 p3 p4 p5; replace HI := Hd (HI.out.below hb); replace HP := Hd (HP.out.below hb); replace HB := Hd (bt HB.out hb); clear hb H1; obtain ⟨i0, i1, i2, i3, i4⟩ := HI.out.im; obtain ⟨p0, p1, p2, p3, p4, p5⟩ := HP.out.c6) | (go_at_call 143; refine (H2.out _ HB.out HI.out HP.out).mono ?_; rintro e w1 ⟨rfl, hb⟩; clear i0 i1 i2 i3 i4 p0 p1 p2 p3 p4 p5; replace HI := Hd (HI.out.below hb); replace HP := Hd (HP.out.below hb); replace HB := Hd (bt HB.out hb); clear hb H2; obtain ⟨i0, i1, i2, i3, i4⟩ := HI.out.im; obtain ⟨p0, p1, p2, p3, p4, p5⟩ := HP.out.c6) | (go_at_call 143; refine (H3.out _ HB.out HI.out HP.out).mono ?_; rintro e w1 ⟨rfl, hb⟩; clear i0 i1 i2 i3 i4 p0 p1 p2 p3 p4 p5; replace HI := Hd (HI.out.below hb); replace HP := Hd (HP.out.below hb); replace HB := Hd (bt HB.out hb); clear hb H3; obtain ⟨i0, i1, i2, i3, i4⟩ := HI.out.im; obtain ⟨p0, p1, p2, p3, p4, p5⟩ := HP.out.c6) | (go_at_call 143; refine (H4.out _ HB.out HI.out HP.out).mono ?_; rintro e w1 ⟨rfl, hb⟩; clear i0 i1 i2 i3 i4 p0 p1 p2 p3 p4 p5; replace HI := Hd (HI.out.below hb); replace HP := Hd (HP.out.below hb); replace HB := Hd (bt HB.out hb); clear hb H4; obtain ⟨i0, i1, i2, i3, i4⟩ := HI.out.im; obtain ⟨p0, p1, p2, p3, p4, p5⟩ := HP.out.c6) | (go_at_call 138; refine (H5.out _ HB.out HI.out HP.out).mono ?_; rintro e w1 ⟨rfl, hb⟩; clear i0 i1 i2 i3 i4 p0 p1 p2 p3 p4 p5; replace HI := Hd (HI.out.below hb); replace HP := Hd (HP.out.below hb); replace HB := Hd (bt HB.out hb); clear hb H5; obtain ⟨i0, i1, i2, i3, i4⟩ := HI.out.im; obtain ⟨p0, p1, p2, p3, p4, p5⟩ := HP.out.c6) | (go_at_call 22; refine (H6.out _ HB.out HI.out HP.out).mono ?_; rintro e w1 ⟨rfl, hb⟩; clear i0 i1 i2 i3 i4 p0 p1 p2 p3 p4 p5; replace HI := Hd (HI.out.below hb); replace HP := Hd (HP.out.below hb); replace HB := Hd (bt HB.out hb); clear hb H6; obtain ⟨i0, i1, i2, i3, i4⟩ := HI.out.im; obtain ⟨p0, p1, p2, p3, p4, p5⟩ := HP.out.c6) | (go_at_call 85; refine (new_any _ _ _ _).mono ?_; rintro e w1 ⟨rfl, rfl⟩))
           go_ret
           exact ⟨_, rfl, .inl ⟨HA.out, rfl⟩, HB.out⟩
     | false =>
      cases b2 with
      | true =>
       have HA : Hid (ANS = 18) := Hd (HANS.out.trans (by simp [*]))
       go_wp2_with (first | (go_at_call 143; refine (H0.out _ HB.out HI.out HP.out).mono ?_; rintro e w1 ⟨rfl, hb⟩; clear i0 i1 i2 i3 i4 p0 p1 p2 p3 p4 p5; replace HI := Hd (HI.out.below hb); replace HP := Hd (HP.out.below hb); replace HB := Hd (bt HB.out hb); clear hb H0; obtain ⟨i0, i1, i2, i3, i4⟩ := HI.out.im; obtain ⟨p0, p1, p2, p3, p4, p5⟩ := HP.out.c6) | (go_at_call 143; refine (H1.out _ HB.out HI.out HP.out).mono ?_; rintro e w1 ⟨rfl, hb⟩; clear i0 i1 i2 i3 i4 p0 p1 p2 p3 p4 p5; replace HI := Hd (HI.out.below hb); replace HP := Hd (HP.out.below hb); replace HB := Hd (bt HB.out hb); clear hb H1; obtain ⟨i0, i1, i2, i3, i4⟩ := HI.out.im; obtain ⟨p0, p1, p2, p3, p4, p5⟩ := HP.out.c6) | (go_at_call 143; refine (H2.out _ HB.out HI.out HP.out).mono ?_; rintro e w1 ⟨rfl, hb⟩; clear i0 i1 i2 i3 i4 p0 p1 p2 p3 p4 p5; replace HI := Hd (HI.out.below hb); replace HP := Hd (HP.out.below hb); replace HB := Hd (bt HB.out hb); clear hb H2; obtain ⟨i0, i1, i2, i3, i4⟩ := HI.out.im; obtain ⟨p0, p1, p2, p3, p4, p5⟩ := HP.out.c6) | (go_at_call 143; refine (H3.out _ HB.out HI.out HP.out).mono ?_; rintro e w1 ⟨rfl, hb⟩; clear i0 i1 i2 i3 i4 p0 p1 p2 p3 p4 p5; replace HI := Hd (HI.out.below hb); replace HP := Hd (HP.out.below hb); replace HB := Hd (bt HB.out hb); clear hb H3; obtain ⟨i0, i1, i2, i3, i4⟩ := HI.out.im; obtain ⟨p0, p1, p2, p3, p4, p5⟩ := HP.out.c6) | (go_at_call 143; refine (H4.out _ HB.out HI.out HP.out).mono ?_; rintro e w1 ⟨rfl, hb⟩; clear i0 i1 i2 i3 i4 p0 p1 p2 p3 p4 p5; replace HI := Hd (HI.out.below hb); replace HP := Hd (HP.out.below hb); replace HB := Hd (bt HB.out hb); clear hb H4; obtain ⟨i0, i1, i2, i3, i4⟩ := HI.out.im; obtain ⟨p0, p1, p2, p3, p4, p5⟩ := HP.out.c6) | (go_at_call 138; refine (H5.out _ HB.out HI.out HP.out).mono ?_; rintro e w1 ⟨rfl, hb⟩; clear i0 i1 i2 i3 i4 p0 p1 p2 p3 p4 p5; replace HI := Hd (HI.out.below hb); replace HP := Hd (HP.out.below hb); replace HB := Hd (bt HB.out hb); clear hb H5; obtain ⟨i0, i1, i2, i3, i4⟩ := HI.out.im; obtain ⟨p0, p1, p2, p3, p4, p5⟩ := HP.out.c6) | (go_at_call 22; refine (H6.out _ HB.out HI.out HP.out).mono ?_; rintro e w1 ⟨rfl, hb⟩; clear i0 i1 i2 i3 i4 p0 p1 p2 p3 p4 p5; replace HI := Hd (HI.out.below hb); replace HP := Hd (HP.out.below hb); replace HB := Hd (bt HB.out hb); clear hb H6; obtain ⟨i0, i1, i2, i3, i4⟩ := HI.out.im; obtain ⟨p0, p1, p2, p3, p4, p5⟩ := HP.out.c6) | (go_at_call 85; refine (new_any _ _ _ _).mono ?_; rintro e w1 ⟨rfl, rfl⟩))
       go_ret
       exact ⟨_, rfl, by rw [HA.out]; exact .inr ⟨by decide, [(_, _)], rfl⟩, HB.out⟩
      | false =>
       cases b3 with
       | true =>
        have HA : Hid (ANS = 18) := Hd (HANS.out.trans (by simp [*]))
        go_wp2_with (first | (go_at_call 143; refine (H0.out _ HB.out HI.out HP.out).mono ?_; rintro e w1 ⟨rfl, hb⟩; clear i0 i1 i2 i3 i4 p0 p1 p2 p3 p4 p5; replace HI := Hd (HI.out.below hb); replace HP := Hd (HP.out.below hb); replace HB := Hd (bt HB.out hb); clear hb H0; obtain ⟨i0, i1, i2, i3, i4⟩ := HI.out.im; obtain ⟨p0, p1, p2, p3, p4, p5⟩ := HP.out.c6) | (go_at_call 143; refine (H1.out _ HB.out HI.out HP.out).mono ?_; rintro e w1 ⟨rfl, hb⟩; clear i0 i1 i2 i3 i4 p0 p1 p2 p3 p4 p5; replace HI := Hd (HI.out.below hb); replace HP := Hd (HP.out.below hb); replace HB := Hd (bt HB.out hb); clear hb H1; obtain ⟨i0, i1, i2, i3, i4⟩ := HI.out.im; obtain ⟨p0, p1, p2, p3, p4, p5⟩ := HP.out.c6) | (go_at_call 143; refine (H2.out _ HB.out HI.out HP.out).mono ?_; rintro e w1 ⟨rfl, hb⟩; clear i0 i1 i2 i3 i4 p0 p1 p2 p3 p4 p5; replace HI := Hd (HI.out.below hb); replace HP := Hd (HP.out.below hb); replace HB := Hd (bt HB.out hb); clear hb H2; obtain ⟨i0, i1, i2, i3, i4⟩ := HI.out.im; obtain ⟨p0, p1, p2, p3, p4, p5⟩ := HP.out.c6) | (go_at_call 143; refine (H3.out _ HB.out HI.out HP.out).mono ?_; rintro e w1 ⟨rfl, hb⟩; clear i0 i1 i2 i3 i4 p0 p1 p2 p3 p4 p5; replace HI := Hd (HI.out.below hb); replace HP := Hd (HP.out.below hb); replace HB := Hd (bt HB.out hb); clear hb H3; obtain ⟨i0, i1, i2, i3, i4⟩ := HI.out.im; obtain ⟨p0, p1, p2, p3, p4, p5⟩ := HP.out.c6) | (go_at_call 143; refine (H4.out _ HB.out HI.out HP.out).mono ?_; rintro e w1 ⟨rfl, hb⟩; clear i0 i1 i2 i3 i4 p0 p1 p2 p3 p4 p5; replace HI := Hd (HI.out.below hb); replace HP := Hd (HP.out.below hb); replace HB := Hd (bt HB.out hb); clear hb H4; obtain ⟨i0, i1, i2, i3, i4⟩ := HI.out.im; obtain ⟨p0, p1, p2, p3, p4, p5⟩ := HP.out.c6) | (go_at_call 138; refine (H5.out _ HB.out HI.out HP.out).mono ?_; rintro e w1 ⟨rfl, hb⟩; clear i0 i1 i2 i3 i4 p0 p1 p2 p3 p4 p5; replace HI := Hd (HI.out.below hb); replace HP := Hd (HP.out.below hb); replace HB := Hd (bt HB.out hb); clear hb H5; obtain ⟨i0, i1, i2, i3, i4⟩ := HI.out.im; obtain ⟨p0, p1, p2, p3, p4, p5⟩ := HP.out.c6) | (go_at_call 22; refine (H6.out _ HB.out HI.out HP.out).mono ?_; rintro e w1 ⟨rfl, hb⟩; clear i0 i1 i2 i3 i4 p0 p1 p2 p3 p4 p5; replace HI := Hd (HI.out.below hb); replace HP := Hd (HP.out.below hb); replace HB := Hd (bt HB.out hb); clear hb H6; obtain ⟨i0, i1, i2, i3, i4⟩ := HI.out.im; obtain ⟨p0, p1, p2, p3, p4, p5⟩ := HP.out.c6) | (go_at_call 85; refine (new_any _ _ _ _).mono ?_; rintro e w1 ⟨rfl, rfl⟩))
        go_ret
        exact ⟨_, rfl, by rw [HA.out]; exact .inr ⟨by decide, [(_, _)], rfl⟩, HB.out⟩
       | false =>
        cases b4 with
        | true =>
         have HA : Hid (ANS = 18) := Hd (HANS.out.trans (by simp [*]))
         go_wp2_with (first | (go_at_call 143; refine (H0.out _ HB.out HI.out HP.out).mono ?_; rintro e w1 ⟨rfl, hb⟩; clear i0 i1 i2 i3 i4 p0 p1 p2 p3 p4 p5; replace HI := Hd (HI.out.below hb); replace HP := Hd (HP.out.below hb); replace HB := Hd (bt HB.out hb); clear hb H0; obtain ⟨i0, i1, i2, i3, i4⟩ := HI.out.im; obtain ⟨p0, p1, p2, p3, p4, p5⟩ := HP.out.c6) | (go_at_call 143; refine (H1.out _ HB.out HI.out HP.out).mono ?_; rintro e w1 ⟨rfl, hb⟩; clear i0 i1 i2 i3 i4 p0 p1 p2 p3 p4 p5; replace HI := Hd (HI.out.below hb); replace HP := Hd (HP.out.below hb); replace HB := Hd (bt HB.out hb); clear hb H1; obtain ⟨i0, i1, i2, i3, i4⟩ := HI.out.im; obtain ⟨p0, p1, p2, p3, p4, p5⟩ := HP.out.c6) | (go_at_call 143; refine (H2.out _ HB.out HI.out HP.out).mono ?_; rintro e w1 ⟨rfl, hb⟩; clear i0 i1 i2 i3 i4 p0 p1 p2 p3 p4 p5; replace HI := Hd (HI.out.below hb); replace HP := Hd (HP.out.below hb); replace HB := Hd (bt HB.out hb); clear hb H2; obtain ⟨i0, i1, i2, i3, i4⟩ := HI.out.im; obtain ⟨p0, p1, p2, p3, p4, p5⟩ := HP.out.c6) | (go_at_call 143; refine (H3.out _ HB.out HI.out HP.out).mono ?_; rintro e w1 ⟨rfl, hb⟩; clear i0 i1 i2 i3 i4 p0 p1 p2 p3 p4 p5; replace HI := Hd (HI.out.below hb); replace HP := Hd (HP.out.below hb); replace HB := Hd (bt HB.out hb); clear hb H3; obtain ⟨i0, i1, i2, i3, i4⟩ := HI.out.im; obtain ⟨p0, p1, p2, p3, p4, p5⟩ := HP.out.c6) | (go_at_call 143; refine (H4.out _ HB.out HI.out HP.out).mono ?_; rintro e w1 ⟨rfl, hb⟩; clear i0 i1 i2 i3 i4 p0 p1 p2 p3 p4 p5; replace HI := Hd (HI.out.below hb); replace HP := Hd (HP.out.below hb); replace HB := Hd (bt HB.out hb); clear hb H4; obtain ⟨i0, i1, i2, i3, i4⟩ := HI.out.im; obtain ⟨p0, p1, p2, p3, p4, p5⟩ := HP.out.c6) | (go_at_call 138; refine (H5.out _ HB.out HI.out HP.out).mono ?_; rintro e w1 ⟨rfl, hb⟩; clear i0 i1 i2 i3 i4 p0 p1 p2 p3 p4 p5; replace HI := Hd (HI.out.below hb); replace HP := Hd (HP.out.below hb); replace HB := Hd (bt HB.out hb); clear hb H5; obtain ⟨i0, i1, i2, i3, i4⟩ := HI.out.im; obtain ⟨p0, p1, p2, p3, p4, p5⟩ := HP.out.c6) | (go_at_call 22; refine (H6.out _ HB.out HI.out HP.out).mono ?_; rintro e w1 ⟨rfl, hb⟩; clear i0 i1 i2 i3 i4 p0 p1 p2 p3 p4 p5; replace HI := Hd (HI.out.below hb); replace HP := Hd (HP.out.below hb); replace HB := Hd (bt HB.out hb); clear hb H6; obtain ⟨i0, i1, i2, i3, i4⟩ := HI.out.im; obtain ⟨p0, p1, p2, p3, p4, p5⟩ := HP.out.c6) | (go_at_call 85; refine (new_any _ _ _ _).mono ?_; rintro e w1 ⟨rfl, rfl⟩))
         go_ret
         exact ⟨_, rfl, by rw [HA.out]; exact .inr ⟨by decide, [(_, _)], rfl⟩, HB.out⟩
        | false =>
         have HA : Hid (ANS = 0) := Hd (HANS.out.trans (by simp [*]))
         go_wp2_with (first | (go_at_call 143; refine (H0.out _ HB.out HI.out HP.out).mono ?_; rintro e w1 ⟨rfl, hb⟩; clear i0 i1 i2 i3 i4 p0 p1 p2 p3 p4 p5; replace HI := Hd (HI.out.below hb); replace HP := Hd (HP.out.below hb); replace HB := Hd (bt HB.out hb); clear hb H0; obtain ⟨i0, i1, i2, i3, i4⟩ := HI.out.im; obtain ⟨p0, p1, p2, p3, p4, p5⟩ := HP.out.c6) | (go_at_call 143; refine (H1.out _ HB.out HI.out HP.out).mono ?_; rintro e w1 ⟨rfl, hb⟩; clear i0 i1 i2 i3 i4 p0 p1 p2 p3 p4 p5; replace HI := Hd (HI.out.below hb); replace HP := Hd (HP.out.below hb); replace HB := Hd (bt HB.out hb); clear hb H1; obtain ⟨i0, i1, i2, i3, i4⟩ := HI.out.im; obtain ⟨p0, p1, p2, p3, p4, p5⟩ := HP.out.c6) | (go_at_call 143; refine (H2.out _ HB.out HI.out HP.out).mono ?_; rintro e w1 ⟨rfl, hb⟩; clear i0 i1 i2 i3 i4 p0 p1 p2 p3 p4 p5; replace HI := Hd (HI.out.below hb); replace HP := Hd (HP.out.below hb); replace HB := Hd (bt HB.out hb); clear hb H2; obtain ⟨i0, i1, i2, i3, i4⟩ := HI.out.im; obtain ⟨p0, p1, p2, p3, p4, p5⟩ := HP.out.c6) | (go_at_call 143; refine (H3.out _ HB.out HI.out HP.out).mono ?_; rintro e w1 ⟨rfl, hb⟩; clear i0 i1 i2 i3 i4 p0 p1 p2 p3 p4 p5; replace HI := Hd (HI.out.below hb); replace HP := Hd (HP.out.below hb); replace HB := Hd (bt HB.out hb); clear hb H3; obtain ⟨i0, i1, i2, i3, i4⟩ := HI.out.im; obtain ⟨p0, p1, p2, p3, p4, p5⟩ := HP.out.c6) | (go_at_call 143; refine (H4.out _ HB.out HI.out HP.out).mono ?_; rintro e w1 ⟨rfl, hb⟩; clear i0 i1 i2 i3 i4 p0 p1 p2 p3 p4 p5; replace HI := Hd (HI.out.below hb); replace HP := Hd (HP.out.below hb); replace HB := Hd (bt HB.out hb); clear hb H4; obtain ⟨i0, i1, i2, i3, i4⟩ := HI.out.im; obtain ⟨p0, p1, p2, p3, p4, p5⟩ := HP.out.c6) | (go_at_call 138; refine (H5.out _ HB.out HI.out HP.out).mono ?_; rintro e w1 ⟨rfl, hb⟩; clear i0 i1 i2 i3 i4 p0 p1 p2 p3 p4 p5; replace HI := Hd (HI.out.below hb); replace HP := Hd (HP.out.below hb); replace HB := Hd (bt HB.out hb); clear hb H5; obtain ⟨i0, i1, i2, i3, i4⟩ := HI.out.im; obtain ⟨p0, p1, p2, p3, p4, p5⟩ := HP.out.c6) | (go_at_call 22; refine (H6.out _ HB.out HI.out HP.out).mono ?_; rintro e w1 ⟨rfl, hb⟩; clear i0 i1 i2 i3 i4 p0 p1 p2 p3 p4 p5; replace HI := Hd (HI.out.below hb); replace HP := Hd (HP.out.below hb); replace HB := Hd (bt HB.out hb); clear hb H6; obtain ⟨i0, i1, i2, i3, i4⟩ := HI.out.im; obtain ⟨p0, p1, p2, p3, p4, p5⟩ := HP.out.c6) | (go_at_call 85; refine (new_any _ _ _ _).mono ?_; rintro e w1 ⟨rfl, rfl⟩))
         go_ret
         exact ⟨_, rfl, .inl ⟨HA.out, rfl⟩, HB.out⟩
end Go.Proofs.YtlggjgapdpkhiaaGreat
