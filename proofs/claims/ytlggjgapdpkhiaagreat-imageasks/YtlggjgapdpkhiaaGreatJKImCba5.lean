/-
  WHETHER THERE IS ANY (slices.IndexFunc, ContainsFunc), by what the function that is handed in answers.
  WHAT STANDS AT A PLACE (image.at), or nothing. Condition: the cells hold them.
  A STEP's FRAME: the three boxes that a step of package image lays first (the image, the record, the answer), and what it answers. No condition.
  ROOM FOR MORE: a row that was just grown out of nothing. Condition: no more than a million elements.
  TWO RECORDS THE SAME (slices.Equal, record.sameNumbers, sameTexts, Same.
-/
import Derived.Test.YtlggjgapdpkhiaaGreatJKImBaa2
import Derived.Test.YtlggjgapdpkhiaaGreatJKImMa5
import Derived.Test.YtlggjgapdpkhiaaGreatJKIsca5
import Derived.Test.YtlggjgapdpkhiaaGreatJKRecMa5
import Derived.Lib.AppendZerosOnto
import Derived.Deep.RegionWith
import Derived.Deep.MidRow
import Derived.Deep.DeepCutAuto
namespace Go.Proofs.YtlggjgapdpkhiaaGreat
open Go.RowKit
set_option maxRecDepth 100000
set_option maxHeartbeats 4000000
theorem IxP.any {α : Type} {p : α → Bool} {l : List α} {w w' : World} {e : Ending} (h : IxP p l w w' e) : ∃ i : Int, e = .returned (.int .i64 i) ∧ decide (0 ≤ i) = l.any p ∧ Below w.heap.size w w' := by
 obtain ⟨⟨k, hk, hp, _, rfl⟩ | ⟨hn, rfl⟩, hb⟩ := h
 ·refine ⟨_, rfl, ?_, hb⟩
  rw [decide_eq_true (by omega), List.any_eq_true.2 ⟨l[k], List.getElem_mem hk, hp⟩]
 ·refine ⟨_, rfl, ?_, hb⟩
  rw [List.any_eq_false.2 (fun x hx => by rw [hn x hx]; simp)]
  rfl
theorem ix_any_some (l : List Tq) (p : Tq → Bool) (b o cap : Nat) (u0 : Value) (w : World) (hv : w.rangeAt b o (l.flatMap tpc)) (hl : l.length ≤ 100000)
  (hc : ∀ W x, x ∈ l → Below w.heap.size w W → Calls Tryz.prog 82 #[.agg (tpc x).toArray, u0] W fun e w' => e = .returned (.bool (p x)) ∧ Below W.heap.size W w') :
  Calls Tryz.prog 39 #[.slice (some ⟨b, o, none⟩) l.length cap, .func (.func 82) #[] #[u0]] w fun e w' => IxP p l w w' e := by
 have HV := Hd (fun i (h : i < l.length) => fm_at encT hv h)
 have HC := Hd hc
 clear hv hc
 go_enter Tryz.func39, Tryz.ntmps39
 go_wp2_with fail
 go_loopw [8] (fun x W => ∃ i : Nat, x = .int .i64 (i : Int) ∧ i ≤ l.length ∧ (∀ q (h : q < l.length), q < i → p l[q] = false) ∧ Below w.heap.size w W) (fun x _ => l.length - (intOf x).toNat)
 case atStart => exact ⟨0, rfl, Nat.zero_le _, fun q h h' => absurd h' (Nat.not_lt_zero _), Below.refl _ _⟩
 case round =>
  obtain ⟨i, rfl, hi, h1, hb⟩ := hrel
  have H1 := Hd h1
  have HB := Hd hb
  clear h1 hb
  by_cases hlt : i < l.length
  ·have hltI : (i : Int) < (l.length : Int) := by omega
   have HE := Hd (rg_bel (HV.out _ hlt) HB.out)
   have HCL := Hd (HC.out wr l[i] (List.getElem_mem hlt) HB.out)
   cases hp : p l[i] with
   | true =>
    have HP := Hd hp
    rw [hp] at HCL
    clear hp
    generalize l[i] = y at HE HCL
    go_wp2_with (first
     | (refine wpList_load_mid rfl _ _ rfl _ _ rfl _ _ HE.out Tryz.underlying38 rfl (by kernel_rfl) ?_)
     | (go_at_call 82; refine HCL.out.mono ?_; rintro e w1 ⟨rfl, hb1⟩; have HB1 := Hd (bt HB.out hb1); clear hb1 HCL HE))
    go_ret
    exact IxP.yes i hlt HP.out H1.out rfl HB1.out
   | false =>
    have HP : Hid (∀ q (h : q < l.length), q < i + 1 → p l[q] = false) := Hd (fun q h hq => by
     by_cases e : q = i
     ·subst e; exact hp
     ·exact H1.out q h (by omega))
    rw [hp] at HCL
    clear hp
    generalize l[i] = y at HE HCL
    go_wp2_with (first
     | (refine wpList_load_mid rfl _ _ rfl _ _ rfl _ _ HE.out Tryz.underlying38 rfl (by kernel_rfl) ?_)
     | (go_at_call 82; refine HCL.out.mono ?_; rintro e w1 ⟨rfl, hb1⟩; have HB1 := Hd (bt HB.out hb1); clear hb1 HCL HE))
    go_roundw
    case rel => exact ⟨i + 1, by go_num, by omega, HP.out, HB1.out⟩
    case measure => simp [intOf]; omega
  ·obtain rfl : i = l.length := by omega
   have HN : Hid (∀ q (h : q < l.length), p l[q] = false) := Hd (fun q h => H1.out q h h)
   clear hlt H1
   go_wp2_with fail
   go_ret
   exact IxP.no HN.out rfl HB.out
theorem ix_any (l : List Tq) (p : Tq → Bool) (ao : Option Addr) (n cap : Nat) (u0 : Value) (w : World) (hn : n = l.length) (hv : Rs tpc w (.slice ao n cap) l) (hl : l.length ≤ 100000)
  (hc : ∀ W x, x ∈ l → Below w.heap.size w W → Calls Tryz.prog 82 #[.agg (tpc x).toArray, u0] W fun e w' => e = .returned (.bool (p x)) ∧ Below W.heap.size W w') :
  Calls Tryz.prog 39 #[.slice ao n cap, .func (.func 82) #[] #[u0]] w fun e w' => IxP p l w w' e := by
 subst hn
 rcases Nat.eq_zero_or_pos l.length with h0 | h0
 ·obtain rfl := List.eq_nil_iff_length_eq_zero.2 h0
  clear hv hl hc h0
  show Calls Tryz.prog 39 #[.slice ao 0 cap, .func (.func 82) #[] #[u0]] w fun e w' => IxP p [] w w' e
  go_enter Tryz.func39, Tryz.ntmps39
  go_wp2_with fail
  refine wp_loop_rounds 1 ?_
  rw [rounds_succ]
  go_wp2_with fail
  go_ret
  exact IxP.no (fun j h => absurd h (Nat.not_lt_zero _)) rfl (Below.refl _ _)
 ·obtain ⟨b, o, rfl, hr⟩ := hv.rg h0
  exact ix_any_some l p b o cap u0 w hr hl hc
theorem ct_any (l : List Tq) (p : Tq → Bool) (ao : Option Addr) (n cap : Nat) (u0 : Value) (w : World) (hn : n = l.length) (hv : Rs tpc w (.slice ao n cap) l) (hl : l.length ≤ 100000)
  (hc : ∀ W x, x ∈ l → Below w.heap.size w W → Calls Tryz.prog 82 #[.agg (tpc x).toArray, u0] W fun e w' => e = .returned (.bool (p x)) ∧ Below W.heap.size W w') :
  Calls Tryz.prog 81 #[.slice ao n cap, .func (.func 82) #[] #[u0]] w fun e w' => e = .returned (.bool (l.any p)) ∧ Below w.heap.size w w' := by
 have HC := Hd (ix_any l p ao n cap u0 w hn hv hl hc)
 clear hn hv hl hc
 generalize hA : l.any p = A
 have HA := Hd hA
 clear hA
 go_enter Tryz.func81, Tryz.ntmps81
 go_wp2_with (go_at_call 39; refine HC.out.mono ?_; rintro e w1 h1; obtain ⟨i, rfl, hi, hb⟩ := h1.any; have HI := Hd hi; have HB := Hd hb; clear hi hb h1 HC)
 go_ret
 exact ⟨by rw [← HA.out, ← HI.out]; rfl, HB.out⟩
theorem ix_led_some (l : List Pp) (p : Pp → Bool) (b o cap : Nat) (u0 : Value) (w : World) (hv : w.rangeAt b o (l.flatMap ptc)) (hl : l.length ≤ 100000)
  (hc : ∀ W x, x ∈ l → Below w.heap.size w W → Calls Tryz.prog 51 #[.agg (ptc x).toArray, u0] W fun e w' => e = .returned (.bool (p x)) ∧ Below W.heap.size W w') :
  Calls Tryz.prog 116 #[.slice (some ⟨b, o, none⟩) l.length cap, .func (.func 51) #[] #[u0]] w fun e w' => IxP p l w w' e := by
 have HV := Hd (fun i (h : i < l.length) => fm_at encP hv h)
 have HC := Hd hc
 clear hv hc
 go_enter Tryz.func116, Tryz.ntmps116
 go_wp2_with fail
 go_loopw [8] (fun x W => ∃ i : Nat, x = .int .i64 (i : Int) ∧ i ≤ l.length ∧ (∀ q (h : q < l.length), q < i → p l[q] = false) ∧ Below w.heap.size w W) (fun x _ => l.length - (intOf x).toNat)
 case atStart => exact ⟨0, rfl, Nat.zero_le _, fun q h h' => absurd h' (Nat.not_lt_zero _), Below.refl _ _⟩
 case round =>
  obtain ⟨i, rfl, hi, h1, hb⟩ := hrel
  have H1 := Hd h1
  have HB := Hd hb
  clear h1 hb
  by_cases hlt : i < l.length
  ·have hltI : (i : Int) < (l.length : Int) := by omega
   have HE := Hd (rg_bel (HV.out _ hlt) HB.out)
   have HCL := Hd (HC.out wr l[i] (List.getElem_mem hlt) HB.out)
   cases hp : p l[i] with
   | true =>
    have HP := Hd hp
    rw [hp] at HCL
    clear hp
    generalize l[i] = y at HE HCL
    go_wp2_with (first
     | (refine wpList_load_mid rfl _ _ rfl _ _ rfl _ _ HE.out Tryz.underlying44 rfl (by kernel_rfl) ?_)
     | (go_at_call 51; refine HCL.out.mono ?_; rintro e w1 ⟨rfl, hb1⟩; have HB1 := Hd (bt HB.out hb1); clear hb1 HCL HE))
    go_ret
    exact IxP.yes i hlt HP.out H1.out rfl HB1.out
   | false =>
    have HP : Hid (∀ q (h : q < l.length), q < i + 1 → p l[q] = false) := Hd (fun q h hq => by
     by_cases e : q = i
     ·subst e; exact hp
     ·exact H1.out q h (by omega))
    rw [hp] at HCL
    clear hp
    generalize l[i] = y at HE HCL
    go_wp2_with (first
     | (refine wpList_load_mid rfl _ _ rfl _ _ rfl _ _ HE.out Tryz.underlying44 rfl (by kernel_rfl) ?_)
     | (go_at_call 51; refine HCL.out.mono ?_; rintro e w1 ⟨rfl, hb1⟩; have HB1 := Hd (bt HB.out hb1); clear hb1 HCL HE))
    go_roundw
    case rel => exact ⟨i + 1, by go_num, by omega, HP.out, HB1.out⟩
    case measure => simp [intOf]; omega
  ·obtain rfl : i = l.length := by omega
   have HN : Hid (∀ q (h : q < l.length), p l[q] = false) := Hd (fun q h => H1.out q h h)
   clear hlt H1
   go_wp2_with fail
   go_ret
   exact IxP.no HN.out rfl HB.out
theorem ix_led (l : List Pp) (p : Pp → Bool) (ao : Option Addr) (n cap : Nat) (u0 : Value) (w : World) (hn : n = l.length) (hv : Rs ptc w (.slice ao n cap) l) (hl : l.length ≤ 100000)
  (hc : ∀ W x, x ∈ l → Below w.heap.size w W → Calls Tryz.prog 51 #[.agg (ptc x).toArray, u0] W fun e w' => e = .returned (.bool (p x)) ∧ Below W.heap.size W w') :
  Calls Tryz.prog 116 #[.slice ao n cap, .func (.func 51) #[] #[u0]] w fun e w' => IxP p l w w' e := by
 subst hn
 rcases Nat.eq_zero_or_pos l.length with h0 | h0
 ·obtain rfl := List.eq_nil_iff_length_eq_zero.2 h0
  clear hv hl hc h0
  show Calls Tryz.prog 116 #[.slice ao 0 cap, .func (.func 51) #[] #[u0]] w fun e w' => IxP p [] w w' e
  go_enter Tryz.func116, Tryz.ntmps116
  go_wp2_with fail
  refine wp_loop_rounds 1 ?_
  rw [rounds_succ]
  go_wp2_with fail
  go_ret
  exact IxP.no (fun j h => absurd h (Nat.not_lt_zero _)) rfl (Below.refl _ _)
 ·obtain ⟨b, o, rfl, hr⟩ := hv.rg h0
  exact ix_led_some l p b o cap u0 w hr hl hc
theorem ct_led (l : List Pp) (p : Pp → Bool) (ao : Option Addr) (n cap : Nat) (u0 : Value) (w : World) (hn : n = l.length) (hv : Rs ptc w (.slice ao n cap) l) (hl : l.length ≤ 100000)
  (hc : ∀ W x, x ∈ l → Below w.heap.size w W → Calls Tryz.prog 51 #[.agg (ptc x).toArray, u0] W fun e w' => e = .returned (.bool (p x)) ∧ Below W.heap.size W w') :
  Calls Tryz.prog 83 #[.slice ao n cap, .func (.func 51) #[] #[u0]] w fun e w' => e = .returned (.bool (l.any p)) ∧ Below w.heap.size w w' := by
 have HC := Hd (ix_led l p ao n cap u0 w hn hv hl hc)
 clear hn hv hl hc
 generalize hA : l.any p = A
 have HA := Hd hA
 clear hA
 go_enter Tryz.func83, Tryz.ntmps83
 go_wp2_with (go_at_call 116; refine HC.out.mono ?_; rintro e w1 h1; obtain ⟨i, rfl, hi, hb⟩ := h1.any; have HI := Hd hi; have HB := Hd hb; clear hi hb h1 HC)
 go_ret
 exact ⟨by rw [← HA.out, ← HI.out]; rfl, HB.out⟩
theorem ix_hol_some (l : List Pp) (p : Pp → Bool) (b o cap : Nat) (u0 : Value) (w : World) (hv : w.rangeAt b o (l.flatMap ptc)) (hl : l.length ≤ 100000)
  (hc : ∀ W x, x ∈ l → Below w.heap.size w W → Calls Tryz.prog 154 #[.agg (ptc x).toArray, u0] W fun e w' => e = .returned (.bool (p x)) ∧ Below W.heap.size W w') :
  Calls Tryz.prog 116 #[.slice (some ⟨b, o, none⟩) l.length cap, .func (.func 154) #[] #[u0]] w fun e w' => IxP p l w w' e := by
 have HV := Hd (fun i (h : i < l.length) => fm_at encP hv h)
 have HC := Hd hc
 clear hv hc
 go_enter Tryz.func116, Tryz.ntmps116
 go_wp2_with fail
 go_loopw [8] (fun x W => ∃ i : Nat, x = .int .i64 (i : Int) ∧ i ≤ l.length ∧ (∀ q (h : q < l.length), q < i → p l[q] = false) ∧ Below w.heap.size w W) (fun x _ => l.length - (intOf x).toNat)
 case atStart => exact ⟨0, rfl, Nat.zero_le _, fun q h h' => absurd h' (Nat.not_lt_zero _), Below.refl _ _⟩
 case round =>
  obtain ⟨i, rfl, hi, h1, hb⟩ := hrel
  have H1 := Hd h1
  have HB := Hd hb
  clear h1 hb
  by_cases hlt : i < l.length
  ·have hltI : (i : Int) < (l.length : Int) := by omega
   have HE := Hd (rg_bel (HV.out _ hlt) HB.out)
   have HCL := Hd (HC.out wr l[i] (List.getElem_mem hlt) HB.out)
   cases hp : p l[i] with
   | true =>
    have HP := Hd hp
    rw [hp] at HCL
    clear hp
    generalize l[i] = y at HE HCL
    go_wp2_with (first
     | (refine wpList_load_mid rfl _ _ rfl _ _ rfl _ _ HE.out Tryz.underlying44 rfl (by kernel_rfl) ?_)
     | (go_at_call 154; refine HCL.out.mono ?_; rintro e w1 ⟨rfl, hb1⟩; have HB1 := Hd (bt HB.out hb1); clear hb1 HCL HE))
    go_ret
    exact IxP.yes i hlt HP.out H1.out rfl HB1.out
   | false =>
    have HP : Hid (∀ q (h : q < l.length), q < i + 1 → p l[q] = false) := Hd (fun q h hq => by
     by_cases e : q = i
     ·subst e; exact hp
     ·exact H1.out q h (by omega))
    rw [hp] at HCL
    clear hp
    generalize l[i] = y at HE HCL
    go_wp2_with (first
     | (refine wpList_load_mid rfl _ _ rfl _ _ rfl _ _ HE.out Tryz.underlying44 rfl (by kernel_rfl) ?_)
     | (go_at_call 154; refine HCL.out.mono ?_; rintro e w1 ⟨rfl, hb1⟩; have HB1 := Hd (bt HB.out hb1); clear hb1 HCL HE))
    go_roundw
    case rel => exact ⟨i + 1, by go_num, by omega, HP.out, HB1.out⟩
    case measure => simp [intOf]; omega
  ·obtain rfl : i = l.length := by omega
   have HN : Hid (∀ q (h : q < l.length), p l[q] = false) := Hd (fun q h => H1.out q h h)
   clear hlt H1
   go_wp2_with fail
   go_ret
   exact IxP.no HN.out rfl HB.out
theorem ix_hol (l : List Pp) (p : Pp → Bool) (ao : Option Addr) (n cap : Nat) (u0 : Value) (w : World) (hn : n = l.length) (hv : Rs ptc w (.slice ao n cap) l) (hl : l.length ≤ 100000)
  (hc : ∀ W x, x ∈ l → Below w.heap.size w W → Calls Tryz.prog 154 #[.agg (ptc x).toArray, u0] W fun e w' => e = .returned (.bool (p x)) ∧ Below W.heap.size W w') :
  Calls Tryz.prog 116 #[.slice ao n cap, .func (.func 154) #[] #[u0]] w fun e w' => IxP p l w w' e := by
 subst hn
 rcases Nat.eq_zero_or_pos l.length with h0 | h0
 ·obtain rfl := List.eq_nil_iff_length_eq_zero.2 h0
  clear hv hl hc h0
  show Calls Tryz.prog 116 #[.slice ao 0 cap, .func (.func 154) #[] #[u0]] w fun e w' => IxP p [] w w' e
  go_enter Tryz.func116, Tryz.ntmps116
  go_wp2_with fail
  refine wp_loop_rounds 1 ?_
  rw [rounds_succ]
  go_wp2_with fail
  go_ret
  exact IxP.no (fun j h => absurd h (Nat.not_lt_zero _)) rfl (Below.refl _ _)
 ·obtain ⟨b, o, rfl, hr⟩ := hv.rg h0
  exact ix_hol_some l p b o cap u0 w hr hl hc
theorem ct_hol (l : List Pp) (p : Pp → Bool) (ao : Option Addr) (n cap : Nat) (u0 : Value) (w : World) (hn : n = l.length) (hv : Rs ptc w (.slice ao n cap) l) (hl : l.length ≤ 100000)
  (hc : ∀ W x, x ∈ l → Below w.heap.size w W → Calls Tryz.prog 154 #[.agg (ptc x).toArray, u0] W fun e w' => e = .returned (.bool (p x)) ∧ Below W.heap.size W w') :
  Calls Tryz.prog 83 #[.slice ao n cap, .func (.func 154) #[] #[u0]] w fun e w' => e = .returned (.bool (l.any p)) ∧ Below w.heap.size w w' := by
 have HC := Hd (ix_hol l p ao n cap u0 w hn hv hl hc)
 clear hn hv hl hc
 generalize hA : l.any p = A
 have HA := Hd hA
 clear hA
 go_enter Tryz.func83, Tryz.ntmps83
 go_wp2_with (go_at_call 116; refine HC.out.mono ?_; rintro e w1 h1; obtain ⟨i, rfl, hi, hb⟩ := h1.any; have HI := Hd hi; have HB := Hd hb; clear hi hb h1 HC)
 go_ret
 exact ⟨by rw [← HA.out, ← HI.out]; rfl, HB.out⟩
end Go.Proofs.YtlggjgapdpkhiaaGreat
namespace Go.Proofs.YtlggjgapdpkhiaaGreat
open Go.RowKit
set_option maxRecDepth 100000
theorem atB_no (v : Value) (i : Int) (w : World) : Calls Tryz.prog 36 #[v, .int .i64 i, .bool false] w fun e w' => e = .returned (.tuple #[.agg #[.int .i64 0, .int .i64 0, .string ⟨#[]⟩, .bool false, .bool false], .bool false]) ∧ Below w.heap.size w w' := by
 go_enter Tryz.func36, Tryz.ntmps36
 go_wp2_with fail
 exact bodyPost_ret (v := .tuple #[.agg #[.int .i64 0, .int .i64 0, .string ⟨#[]⟩, .bool false, .bool false], .bool false]) (by simp [results, Tryz.results36, go_sem]) rfl ⟨rfl, ((Below.refl _ _).alloc (Nat.le_refl _) _).alloc (by simp) _⟩
theorem atB_yes (l : List Bk) (ao : Option Addr) (n cap i : Nat) (w : World) (hn : n = l.length) (hv : Rs bkc w (.slice ao n cap) l) (hi : i < l.length) :
  Calls Tryz.prog 36 #[.slice ao n cap, .int .i64 i, .bool true] w fun e w' => e = .returned (.tuple #[.agg (bkc l[i]).toArray, .bool true]) ∧ Below w.heap.size w w' := by
 subst hn
 obtain ⟨b, o, rfl, hr⟩ := hv.rg (by omega)
 have HE := Hd (rg_bel (fm_at encB hr hi) ((Below.refl _ _).alloc (Nat.le_refl _) (.cells #[.int .i64 0, .int .i64 0, .string ⟨#[]⟩, .bool false, .bool false] 33)))
 have hiI : (i : Int) < (l.length : Int) := by omega
 clear hv hr
 generalize l[i] = y at *
 unfold bkc at *
 go_enter Tryz.func36, Tryz.ntmps36
 go_wp2_with (refine wpList_load_mid rfl _ _ rfl _ _ rfl _ _ HE.out Tryz.underlying33 rfl (by kernel_rfl) ?_)
 exact bodyPost_ret (v := .tuple #[.agg #[.int .i64 y.id, .int .i64 y.ep, .string ⟨y.rk.toArray⟩, .bool y.fe, .bool y.lv], .bool true]) (by simp [results, Tryz.results36, go_sem]) rfl ⟨rfl, (Below.refl _ _).alloc (Nat.le_refl _) _⟩
theorem atT_no (v : Value) (i : Int) (w : World) : Calls Tryz.prog 38 #[v, .int .i64 i, .bool false] w fun e w' => e = .returned (.tuple #[.agg #[.int .i64 0, .string ⟨#[]⟩, .slice none 0 0], .bool false]) ∧ Below w.heap.size w w' := by
 go_enter Tryz.func38, Tryz.ntmps38
 go_wp2_with fail
 exact bodyPost_ret (v := .tuple #[.agg #[.int .i64 0, .string ⟨#[]⟩, .slice none 0 0], .bool false]) (by simp [results, Tryz.results38, go_sem]) rfl ⟨rfl, ((Below.refl _ _).alloc (Nat.le_refl _) _).alloc (by simp) _⟩
theorem atT_yes (l : List Tq) (ao : Option Addr) (n cap i : Nat) (w : World) (hn : n = l.length) (hv : Rs tpc w (.slice ao n cap) l) (hi : i < l.length) :
  Calls Tryz.prog 38 #[.slice ao n cap, .int .i64 i, .bool true] w fun e w' => e = .returned (.tuple #[.agg (tpc l[i]).toArray, .bool true]) ∧ Below w.heap.size w w' := by
 subst hn
 obtain ⟨b, o, rfl, hr⟩ := hv.rg (by omega)
 have HE := Hd (rg_bel (fm_at encT hr hi) ((Below.refl _ _).alloc (Nat.le_refl _) (.cells #[.int .i64 0, .string ⟨#[]⟩, .slice none 0 0] 38)))
 have hiI : (i : Int) < (l.length : Int) := by omega
 clear hv hr
 generalize l[i] = y at *
 unfold tpc at *
 go_enter Tryz.func38, Tryz.ntmps38
 go_wp2_with (refine wpList_load_mid rfl _ _ rfl _ _ rfl _ _ HE.out Tryz.underlying38 rfl (by kernel_rfl) ?_)
 exact bodyPost_ret (v := .tuple #[.agg #[.int .i64 y.id, .string ⟨y.nm.toArray⟩, .slice y.a y.ps.length y.c], .bool true]) (by simp [results, Tryz.results38, go_sem]) rfl ⟨rfl, (Below.refl _ _).alloc (Nat.le_refl _) _⟩
theorem atP_no (v : Value) (i : Int) (w : World) : Calls Tryz.prog 41 #[v, .int .i64 i, .bool false] w fun e w' => e = .returned (.tuple #[.agg #[.slice none 0 0, .slice none 0 0, .int .i64 0, .int .i64 0, .slice none 0 0, .slice none 0 0], .bool false]) ∧ Below w.heap.size w w' := by
 go_enter Tryz.func41, Tryz.ntmps41
 go_wp2_with fail
 exact bodyPost_ret (v := .tuple #[.agg #[.slice none 0 0, .slice none 0 0, .int .i64 0, .int .i64 0, .slice none 0 0, .slice none 0 0], .bool false]) (by simp [results, Tryz.results41, go_sem]) rfl ⟨rfl, ((Below.refl _ _).alloc (Nat.le_refl _) _).alloc (by simp) _⟩
theorem atP_yes (l : List Pp) (ao : Option Addr) (n cap i : Nat) (w : World) (hn : n = l.length) (hv : Rs ptc w (.slice ao n cap) l) (hi : i < l.length) :
  Calls Tryz.prog 41 #[.slice ao n cap, .int .i64 i, .bool true] w fun e w' => e = .returned (.tuple #[.agg (ptc l[i]).toArray, .bool true]) ∧ Below w.heap.size w w' := by
 subst hn
 obtain ⟨b, o, rfl, hr⟩ := hv.rg (by omega)
 have HE := Hd (rg_bel (fm_at encP hr hi) ((Below.refl _ _).alloc (Nat.le_refl _) (.cells #[.slice none 0 0, .slice none 0 0, .int .i64 0, .int .i64 0, .slice none 0 0, .slice none 0 0] 44)))
 have hiI : (i : Int) < (l.length : Int) := by omega
 clear hv hr
 generalize l[i] = y at *
 unfold ptc at *
 go_enter Tryz.func41, Tryz.ntmps41
 go_wp2_with (refine wpList_load_mid rfl _ _ rfl _ _ rfl _ _ HE.out Tryz.underlying44 rfl (by kernel_rfl) ?_)
 exact bodyPost_ret (v := .tuple #[.agg #[.slice y.2.a0 y.1.ids.length y.2.c0, .slice y.2.a1 y.1.isr.length y.2.c1, .int .i64 y.1.ld, .int .i64 y.1.ep, .slice y.2.a2 y.1.ad.length y.2.c2, .slice y.2.a3 y.1.dr.length y.2.c3], .bool true]) (by simp [results, Tryz.results41, go_sem]) rfl ⟨rfl, (Below.refl _ _).alloc (Nat.le_refl _) _⟩
theorem atC_no (v : Value) (i : Int) (w : World) : Calls Tryz.prog 43 #[v, .int .i64 i, .bool false] w fun e w' => e = .returned (.tuple #[.agg #[.int .i64 0, .string ⟨#[]⟩, .string ⟨#[]⟩], .bool false]) ∧ Below w.heap.size w w' := by
 go_enter Tryz.func43, Tryz.ntmps43
 go_wp2_with fail
 exact bodyPost_ret (v := .tuple #[.agg #[.int .i64 0, .string ⟨#[]⟩, .string ⟨#[]⟩], .bool false]) (by simp [results, Tryz.results43, go_sem]) rfl ⟨rfl, ((Below.refl _ _).alloc (Nat.le_refl _) _).alloc (by simp) _⟩
theorem atC_yes (l : List Cf) (ao : Option Addr) (n cap i : Nat) (w : World) (hn : n = l.length) (hv : Rs cfc w (.slice ao n cap) l) (hi : i < l.length) :
  Calls Tryz.prog 43 #[.slice ao n cap, .int .i64 i, .bool true] w fun e w' => e = .returned (.tuple #[.agg (cfc l[i]).toArray, .bool true]) ∧ Below w.heap.size w w' := by
 subst hn
 obtain ⟨b, o, rfl, hr⟩ := hv.rg (by omega)
 have HE := Hd (rg_bel (fm_at encC hr hi) ((Below.refl _ _).alloc (Nat.le_refl _) (.cells #[.int .i64 0, .string ⟨#[]⟩, .string ⟨#[]⟩] 78)))
 have hiI : (i : Int) < (l.length : Int) := by omega
 clear hv hr
 generalize l[i] = y at *
 unfold cfc at *
 go_enter Tryz.func43, Tryz.ntmps43
 go_wp2_with (refine wpList_load_mid rfl _ _ rfl _ _ rfl _ _ HE.out Tryz.underlying78 rfl (by kernel_rfl) ?_)
 exact bodyPost_ret (v := .tuple #[.agg #[.int .i64 y.tp, .string ⟨y.ky.toArray⟩, .string ⟨y.va.toArray⟩], .bool true]) (by simp [results, Tryz.results43, go_sem]) rfl ⟨rfl, (Below.refl _ _).alloc (Nat.le_refl _) _⟩
theorem atD_no (v : Value) (i : Int) (w : World) : Calls Tryz.prog 46 #[v, .int .i64 i, .bool false] w fun e w' => e = .returned (.tuple #[.agg #[.int .i64 0, .int .i64 0, .int .i64 0], .bool false]) ∧ Below w.heap.size w w' := by
 go_enter Tryz.func46, Tryz.ntmps46
 go_wp2_with fail
 exact bodyPost_ret (v := .tuple #[.agg #[.int .i64 0, .int .i64 0, .int .i64 0], .bool false]) (by simp [results, Tryz.results46, go_sem]) rfl ⟨rfl, ((Below.refl _ _).alloc (Nat.le_refl _) _).alloc (by simp) _⟩
theorem atD_yes (l : List Dn) (ao : Option Addr) (n cap i : Nat) (w : World) (hn : n = l.length) (hv : Rs dnc w (.slice ao n cap) l) (hi : i < l.length) :
  Calls Tryz.prog 46 #[.slice ao n cap, .int .i64 i, .bool true] w fun e w' => e = .returned (.tuple #[.agg (dnc l[i]).toArray, .bool true]) ∧ Below w.heap.size w w' := by
 subst hn
 obtain ⟨b, o, rfl, hr⟩ := hv.rg (by omega)
 have HE := Hd (rg_bel (fm_at encD hr hi) ((Below.refl _ _).alloc (Nat.le_refl _) (.cells #[.int .i64 0, .int .i64 0, .int .i64 0] 83)))
 have hiI : (i : Int) < (l.length : Int) := by omega
 clear hv hr
 generalize l[i] = y at *
 unfold dnc at *
 go_enter Tryz.func46, Tryz.ntmps46
 go_wp2_with (refine wpList_load_mid rfl _ _ rfl _ _ rfl _ _ HE.out Tryz.underlying83 rfl (by kernel_rfl) ?_)
 exact bodyPost_ret (v := .tuple #[.agg #[.int .i64 y.cl, .int .i64 y.se, .int .i64 y.co], .bool true]) (by simp [results, Tryz.results46, go_sem]) rfl ⟨rfl, (Below.refl _ _).alloc (Nat.le_refl _) _⟩
end Go.Proofs.YtlggjgapdpkhiaaGreat
namespace Go.Proofs.YtlggjgapdpkhiaaGreat
open Go.RowKit
def Erc (c : Int) (E : Value) : Prop := (c = 0 ∧ E = .nilIface) ∨ (c ≠ 0 ∧ ∃ l, E = chn l (bse c))
theorem erc_code {c : Int} (h : c ≠ 0) : Erc c (.iface 67 (.int .i64 c)) := .inr ⟨h, [], rfl⟩
theorem erc_nil : Erc 0 .nilIface := .inl ⟨rfl, rfl⟩
def Agr (n0 : Nat → Prop) (n1 : Nat) (A W : World) : Prop := ∀ g, n0 g ∨ n1 ≤ g → W.heap[g]? = A.heap[g]?
def StP (n0 : Nat → Prop) (w w' : World) (m : Im) (c : Int) (e : Ending) : Prop := ∃ p E, e = .returned (.tuple #[imv m p, E]) ∧ (∀ W, Agr n0 w.heap.size w' W → ImR W m p) ∧ Erc c E ∧ Below w.heap.size w w'
def imz : List Value := [.slice none 0 0, .slice none 0 0, .slice none 0 0, .slice none 0 0, .int .i64 0]
structure Fr (w : World) (m : Im) (p : Ip) (cs zs : List Value) (W : World) : Prop where
 i : Bx W w.heap.size (iml m p)
 r : Bx W (w.heap.size + 1) cs
 z : Bx W (w.heap.size + 1 + 1) zs
 b : Below w.heap.size w W
theorem Fr.mk0 (w : World) (m : Im) (p : Ip) (cs : List Value) (t u x : TypeId) {W : World} (hb : Below (((w.alloc (.cells (iml m p).toArray t)).alloc (.cells cs.toArray u)).alloc (.cells imz.toArray x)).heap.size (((w.alloc (.cells (iml m p).toArray t)).alloc (.cells cs.toArray u)).alloc (.cells imz.toArray x)) W) : Fr w m p cs imz W := by
 obtain ⟨h1, h2, h3, h4⟩ := Bx.mk3 w (iml m p) cs imz t u x hb
 exact ⟨h1, h2, h3, h4⟩
theorem Fr.below {w W W' : World} {m : Im} {p : Ip} {cs zs : List Value} (h : Fr w m p cs zs W) (hb : Below W.heap.size W W') : Fr w m p cs zs W' := ⟨h.i.below hb, h.r.below hb, h.z.below hb, bt h.b hb⟩
theorem Fr.drewN {w W : World} {m : Im} {p : Ip} {cs zs : List Value} (h : Fr w m p cs zs W) (n : Nat) : Fr w m p cs zs (W.drewN n) := ⟨h.i.drewN n, h.r.drewN n, h.z.drewN n, ⟨h.b.os, h.b.tape, h.b.output, h.b.size, h.b.block⟩⟩
theorem Bx.setCell {W : World} {n : Nat} {cs : List Value} (h : Bx W n cs) (j : Nat) (hj : j < cs.length) (v : Value) : Bx (W.setCell ⟨n, j, none⟩ v) n (cs.set j v) :=
 ⟨by simpa using h.l, fun q u hu => by
  rw [Nat.zero_add]
  by_cases e : q = j
  ·subst e
   rw [List.getElem?_set_self hj] at hu
   cases hu
   exact World.cell?_setCell_same _ _ _ (u := cs[q]) (h.at q _ (List.getElem?_eq_getElem hj))
  ·rw [List.getElem?_set_ne (fun q' => e q'.symm)] at hu
   rw [World.cell?_setCell_other _ _ _ _ (fun q' => e (congrArg Addr.off q').symm)]
   exact h.at q u hu, fun q hq => by
  rw [List.length_set] at hq
  simpa using h.f q hq⟩
theorem Bx.setOther {W : World} {n m : Nat} {cs : List Value} (h : Bx W n cs) (hm : ¬ n = m) (j : Nat) (v : Value) : Bx (W.setCell ⟨m, j, none⟩ v) n cs :=
 ⟨by simpa using h.l, fun q u hu => by
  rw [World.cell?_setCell_other _ _ _ _ (fun q' => hm (congrArg Addr.block q').symm)]
  exact h.c q u hu, fun q hq => by simpa using h.f q hq⟩
theorem Fr.set {w W : World} {m : Im} {p : Ip} {cs zs : List Value} (h : Fr w m p cs zs W) (j : Nat) (v : Value) (m' : Im) (p' : Ip) (hj : j < 5) (he : (iml m p).set j v = iml m' p') : Fr w m' p' cs zs (W.setCell ⟨w.heap.size, j, none⟩ v) :=
 ⟨he ▸ h.i.setCell j hj v, h.r.setOther (by omega) j v, h.z.setOther (by omega) j v, h.b.setCell (p := ⟨w.heap.size, j, none⟩) (Nat.le_refl _) v⟩
theorem Fr.f {w W : World} {m : Im} {p : Ip} {cs zs : List Value} (h : Fr w m p cs zs W) (j : Nat) (hj : j < 5) : W.frozen? ⟨w.heap.size, j, none⟩ = false := h.i.f j hj
theorem Fr.sz {w W : World} {m : Im} {p : Ip} {cs zs : List Value} (h : Fr w m p cs zs W) : w.heap.size + 1 + 1 + 1 ≤ W.heap.size := h.z.l
theorem Bx.imx {W : World} {n : Nat} {m : Im} {ab aq ac ad : Option Addr} {cb cq cc cd : Nat} {ts : List Tq} (h : Bx W n (iml m ⟨ab, aq, ac, ad, cb, cq, cc, cd, ts⟩)) : W.cell? ⟨n, 0, none⟩ = some (.slice ab m.br.length cb) ∧ W.cell? ⟨n, 1, none⟩ = some (.slice aq ts.length cq) ∧ W.cell? ⟨n, 2, none⟩ = some (.slice ac m.cf.length cc) ∧ W.cell? ⟨n, 3, none⟩ = some (.slice ad m.dn.length cd) ∧ W.cell? ⟨n, 4, none⟩ = some (.int .i64 m.la) := Bx.c5 h
theorem st_ret {n0 : Nat → Prop} {w W : World} {m : Im} {p : Ip} {cs : List Value} {c : Int} {E : Value} (h : Fr w m p cs (iml m p) W) (hv : ∀ W', Agr n0 w.heap.size W W' → ImR W' m p) (hE : Erc c E) : StP n0 w W m c (.returned (.tuple #[.agg (iml m p).toArray, E])) := ⟨_, _, rfl, hv, hE, h.b⟩
theorem Fr.out {w W W' : World} {m : Im} {p : Ip} {cs zs : List Value} (h : Fr w m p cs zs W) (hz : Bx W' (w.heap.size + 1 + 1) (iml m p)) (hk : ∀ q xs, ¬ q = w.heap.size + 1 + 1 → Bx W q xs → Bx W' q xs) (hb : ∀ B u, B ≤ w.heap.size + 1 + 1 → Below B u W → Below B u W') : Fr w m p cs (iml m p) W' := ⟨hk _ _ (by omega) h.i, hk _ _ (by omega) h.r, hz, hb _ _ (by omega) h.b⟩
theorem putB_ins {l : List Bk} {b : Bk} {id : Int} (h : b.id = id) : putB l b = insO (fun x : Bk => cmpN x.id id) b l := by
 subst h
 unfold putB insO
 congr 2
 ·funext x; exact decide_eq_decide.2 cmpN_lt.symm
 ·congr 1
  funext x; exact decide_eq_decide.2 cmpN_gt.symm
theorem remB_rem {l : List Bk} {id : Int} : remB l id = remO (fun x : Bk => cmpN x.id id) l := by
 unfold remB remO
 congr 1
 funext x
 by_cases h : x.id = id
 ·rw [decide_eq_true (cmpN_zero.2 h)]; simp [idB, h]
 ·rw [decide_eq_false (fun q => h (cmpN_zero.1 q))]; simp [idB, h]
def frW (w : World) (m : Im) (p : Ip) (r : Rc) (a14 a15 a16 a17 : Option Addr) (c14 c15 c16 c17 : Nat) : World := ((w.alloc (.cells (List.toArray [Value.slice p.ab m.br.length p.cb, .slice p.aq p.ts.length p.cq, .slice p.ac m.cf.length p.cc, .slice p.ad m.dn.length p.cd, .int .i64 m.la]) 30)).alloc (.cells (List.toArray [Value.int .i64 r.k, .int .i64 r.br, .int .i64 r.ep, .int .i64 r.tp, .int .i64 r.pa, .int .i64 r.le, .int .i64 r.cl, .int .i64 r.se, .int .i64 r.co, .bool r.fl, .string ⟨r.nm.toArray⟩, .string ⟨r.ky.toArray⟩, .string ⟨r.va.toArray⟩, .string ⟨r.rk.toArray⟩, .slice a14 r.ids.length c14, .slice a15 r.isr.length c15, .slice a16 r.ad.length c16, .slice a17 r.dr.length c17]) 65)).alloc (.cells (List.toArray [Value.slice none 0 0, .slice none 0 0, .slice none 0 0, .slice none 0 0, .int .i64 0]) 30)
theorem fE (w : World) (m : Im) (p : Ip) (r : Rc) (a14 a15 a16 a17 : Option Addr) (c14 c15 c16 c17 : Nat) : ((w.alloc (.cells (List.toArray [Value.slice p.ab m.br.length p.cb, .slice p.aq p.ts.length p.cq, .slice p.ac m.cf.length p.cc, .slice p.ad m.dn.length p.cd, .int .i64 m.la]) 30)).alloc (.cells (List.toArray [Value.int .i64 r.k, .int .i64 r.br, .int .i64 r.ep, .int .i64 r.tp, .int .i64 r.pa, .int .i64 r.le, .int .i64 r.cl, .int .i64 r.se, .int .i64 r.co, .bool r.fl, .string ⟨r.nm.toArray⟩, .string ⟨r.ky.toArray⟩, .string ⟨r.va.toArray⟩, .string ⟨r.rk.toArray⟩, .slice a14 r.ids.length c14, .slice a15 r.isr.length c15, .slice a16 r.ad.length c16, .slice a17 r.dr.length c17]) 65)).alloc (.cells (List.toArray [Value.slice none 0 0, .slice none 0 0, .slice none 0 0, .slice none 0 0, .int .i64 0]) 30) = frW w m p r a14 a15 a16 a17 c14 c15 c16 c17 := rfl
theorem fF (w : World) (m : Im) (p : Ip) (r : Rc) (a14 a15 a16 a17 : Option Addr) (c14 c15 c16 c17 : Nat) : Fr w m p (cR r a14 a15 a16 a17 c14 c15 c16 c17) imz (frW w m p r a14 a15 a16 a17 c14 c15 c16 c17) := Fr.mk0 w m p _ _ _ _ (Below.refl _ _)
end Go.Proofs.YtlggjgapdpkhiaaGreat
namespace Go.Proofs.YtlggjgapdpkhiaaGreat
open Go.RowKit
theorem grow_zeros {P : Program} {S T I : TypeId} {k : Nat} (hi : Tyi P S T k) (hk : 0 < k) (hI : P.underlying I = some (.int .i64)) (w : World) (n : Nat) (h0 : 0 < n) (hn : n ≤ 1000000) (ty : TypeId) : ∃ G c, (Builtin.append_ #[S, I] ty #[.slice none 0 0, .int .i64 (n : Int)]).run P w = .ok (.slice (some ⟨w.heap.size, 0, none⟩) n G) (w.drew.alloc (.cells c T)) ∧ n ≤ G ∧ G ≤ maxLen ∧ c.size = G * k := by
 obtain ⟨⟨i0, z, h1, h2, h3, h4, h5⟩, hu⟩ := hi
 have hb : n * i0.bytes ≤ 1000000 * 300 := Nat.mul_le_mul hn h4
 have h := Lib.run_append_grow_zeros (P := P) w S I ty T i0 z .i64 .i64 hu hI h1 h2 none 0 0 [] (run_firstCells_none w.drew i0.size 0 0 0) n h0 (by omega) (by omega) (by omega) (by omega)
  (by rw [Nat.zero_add]; exact growslice_fits (by omega) (by omega))
 rw [Nat.zero_add] at h
 refine ⟨_, _, h, grownCap_ge w _ _ _, grownCap_le_maxLen w n 0 T (by unfold maxLen; omega), ?_⟩
 have hg := grownCap_ge w n 0 T
 simp only [Array.size_append, size_zeroCells, h5]
 have : n * k + (grownCap w n 0 T - n) * k = grownCap w n 0 T * k := by rw [← Nat.add_mul]; congr 1; omega
 simpa using this
theorem ro_room {α : Type} (f : α → List Value) (k : Nat) (T : TypeId) (w : World) (G : Nat) (c : Array Value) (hG : G ≤ maxLen) (hc : c.size = G * k) : Ro f k T (w.drew.alloc (.cells c T)) w.heap.size (.slice (some ⟨w.heap.size, 0, none⟩) 0 G) [] :=
 ⟨by simp, .inr ⟨w.heap.size, G, c, rfl, Nat.le_refl _, Array.getElem?_push_size, Nat.zero_le _, hG, hc, by simp⟩⟩
theorem below_dal (w : World) (o : Obj) : Below w.heap.size w (w.drew.alloc o) := (Below.refl _ _).drew.alloc (Nat.le_refl _) _
theorem from_runR {P : Program} {S T : TypeId} {k : Nat} (hi : Tyi P S T k) (ao : Option Addr) (n cap i : Nat) (h : i ≤ n) (hn : ao = none → n = 0) : ∃ ao', (∀ W, (Instr.slice S (.slice ao n cap) (some (.int .i64 (i : Int))) none none).run P W = .ok (.slice ao' (n - i) (cap - i)) W) ∧ ∀ b o, ao = some ⟨b, o, none⟩ → i < n → n ≤ cap → ao' = some ⟨b, o + i * k, none⟩ := by
 obtain ⟨⟨i0, z, h1, h2, h3, h4, h5⟩, hu⟩ := hi
 have hinf := h1
 have h1 : (i : Int) ≤ (n : Int) := by omega
 cases ao with
 | none =>
  obtain rfl := hn rfl
  obtain rfl : i = 0 := by omega
  exact ⟨none, fun W => by simp [Instr.slice, go_sem, run_underlying hu, sizeOf, typeInfo, hinf], fun b o e => by cases e⟩
 | some a =>
  refine ⟨if cap = i then some a else some (a.add (i * k)), fun W => by simp [Instr.slice, go_sem, h1, run_underlying hu, sizeOf, typeInfo, hinf, h3], fun b o e hi hc => ?_⟩
  cases e
  rw [if_neg (by omega), Addr.add_mid]
theorem upto_run {P : Program} {S T : TypeId} {k : Nat} (hi : Tyi P S T k) (ao : Option Addr) (n cap i : Nat) (h : i ≤ n) (hc : n ≤ cap) (W : World) : (Instr.slice S (.slice ao n cap) none (some (.int .i64 (i : Int))) none).run P W = .ok (.slice ao i cap) W := by
 obtain ⟨⟨i0, z, h1, h2, h3, h4, h5⟩, hu⟩ := hi
 have hinf := h1
 have h1 : (i : Int) ≤ (cap : Int) := by omega
 cases ao with
 | none => simp [Instr.slice, go_sem, h1, run_underlying hu, sizeOf, typeInfo, hinf]
 | some a => simp [Instr.slice, go_sem, h1, run_underlying hu, sizeOf, typeInfo, hinf]
section
variable {α : Type} {f : α → List Value} {k : Nat}
theorem Rs.none0 {W : World} {ao : Option Addr} {n c : Nat} {l : List α} (h : Rs f W (.slice ao n c) l) (e : ao = none) : n = 0 := by
 rw [h.cap.1]
 rcases Nat.eq_zero_or_pos l.length with q | q
 ·exact q
 ·obtain ⟨b, o, e', _⟩ := h.rg q
  rw [e] at e'
  cases e'
theorem Rs.from {P : Program} {S T : TypeId} (hi : Tyi P S T k) (hf : Enc f k) {w : World} {ao : Option Addr} {cap : Nat} {l : List α} (h : Rs f w (.slice ao l.length cap) l) (i : Nat) (hil : i ≤ l.length) : ∃ ao', (∀ W, (Instr.slice S (.slice ao l.length cap) (some (.int .i64 (i : Int))) none none).run P W = .ok (.slice ao' (l.length - i) (cap - i)) W) ∧ ∀ W, Below w.heap.size w W → Rs f W (.slice ao' (l.length - i) (cap - i)) (l.drop i) := by
 obtain ⟨ao', h1, h2⟩ := from_runR hi ao l.length cap i hil (fun e => h.none0 e)
 refine ⟨ao', h1, fun W hb => ?_⟩
 have := (h.below hb).part hf i l.length hil (Nat.le_refl _) ao' (fun q b o e => h2 b o e q h.cap.2)
 rwa [List.take_of_length_le (by rw [List.length_drop]; omega)] at this
theorem Rs.upto {w : World} {ao : Option Addr} {cap : Nat} {l : List α} (hf : Enc f k) (h : Rs f w (.slice ao l.length cap) l) (i : Nat) (hil : i ≤ l.length) : Rs f w (.slice ao i cap) (l.take i) := by
 have := h.part hf 0 i (Nat.zero_le _) hil ao (fun q b o e => by rw [e, Nat.zero_mul, Nat.add_zero])
 simpa using this
theorem put_frame (w : World) (o1 : Obj) (x : α) (T U : TypeId) (v1 v3 : Value) : Bx (((w.alloc o1).alloc (.cells (f x).toArray T)).alloc (.cells #[v1, .slice (some ⟨w.heap.size + 1, 0, none⟩) 1 1, v3] U)).drew (w.heap.size + 1 + 1) [v1, .slice (some ⟨w.heap.size + 1, 0, none⟩) 1 1, v3] ∧ Rs f (((w.alloc o1).alloc (.cells (f x).toArray T)).alloc (.cells #[v1, .slice (some ⟨w.heap.size + 1, 0, none⟩) 1 1, v3] U)).drew (.slice (some ⟨w.heap.size + 1, 0, none⟩) 1 1) [x] ∧ Below w.heap.size w (((w.alloc o1).alloc (.cells (f x).toArray T)).alloc (.cells #[v1, .slice (some ⟨w.heap.size + 1, 0, none⟩) 1 1, v3] U)).drew := by
 refine ⟨?_, ⟨_, _, rfl, Nat.le_refl _, fun _ => ⟨w.heap.size + 1, 0, rfl, ?_⟩⟩, (below_al3 _ _ _ _).drew⟩
 ·have h := Bx.new ((w.alloc o1).alloc (.cells (f x).toArray T)) [v1, .slice (some ⟨w.heap.size + 1, 0, none⟩) 1 1, v3] U
  have h' : Bx (((w.alloc o1).alloc (.cells (f x).toArray T)).alloc (.cells #[v1, .slice (some ⟨w.heap.size + 1, 0, none⟩) 1 1, v3] U)) (w.heap.size + 1 + 1) [v1, .slice (some ⟨w.heap.size + 1, 0, none⟩) 1 1, v3] := by simpa using h
  exact ⟨h'.l, h'.c, h'.f⟩
 ·have h := (Bx.new (w.alloc o1) (f x) T).alloc (.cells #[v1, .slice (some ⟨w.heap.size + 1, 0, none⟩) 1 1, v3] U)
  have h' : Bx (((w.alloc o1).alloc (.cells (f x).toArray T)).alloc (.cells #[v1, .slice (some ⟨w.heap.size + 1, 0, none⟩) 1 1, v3] U)) (w.heap.size + 1) (f x) := by simpa using h
  intro j u hu
  rw [List.flatMap_cons, List.flatMap_nil, List.append_nil] at hu
  exact h'.c j u hu
theorem wo_frame (w : World) (U : TypeId) (v1 v3 : Value) : Bx (w.alloc (.cells #[v1, v3] U)).drew w.heap.size [v1, v3] ∧ Below w.heap.size w (w.alloc (.cells #[v1, v3] U)).drew := by
 have h := Bx.new w [v1, v3] U
 exact ⟨⟨h.l, h.c, h.f⟩, (bA _ _).drew⟩
theorem Bx.c2 {W : World} {n : Nat} {a b : Value} (h : Bx W n [a, b]) : W.cell? ⟨n, 0, none⟩ = some a ∧ W.cell? ⟨n, 1, none⟩ = some b := ⟨h.at 0 _ rfl, h.at 1 _ rfl⟩
end
end Go.Proofs.YtlggjgapdpkhiaaGreat
namespace Go.Proofs.YtlggjgapdpkhiaaGreat
open Go.RowKit
set_option maxRecDepth 100000
set_option maxHeartbeats 4000000
def eqI (a b : List Int) : Bool := decide (a = b)
theorem eqI_no {a b : List Int} {j : Nat} (h : ¬ a.getD j 0 = b.getD j 0) : eqI a b = false := decide_eq_false (fun e => h (by rw [e]))
theorem eqI_len {a b : List Int} (h : ¬ a.length = b.length) : eqI a b = false := decide_eq_false (fun e => h (by rw [e]))
theorem eqI_yes {a b : List Int} (hl : a.length = b.length) (h : ∀ j, j < a.length → a.getD j 0 = b.getD j 0) : eqI a b = true := by
 refine decide_eq_true (List.ext_getElem hl fun i h1 h2 => ?_)
 have := h i h1
 simpa [List.getD, h1, h2] using this
theorem equal_some (b o cap b' o' cap' : Nat) (a c : List Int) (w : World) (hac : a.length = c.length) (hl : a.length ≤ 100000) (h3 : ∀ i (h : i < a.length), w.cell? ⟨b, o + i, none⟩ = some (ic a[i])) (h3' : ∀ i (h : i < c.length), w.cell? ⟨b', o' + i, none⟩ = some (ic c[i])) :
  Calls Tryz.prog 48 #[.slice (some ⟨b, o, none⟩) a.length cap, .slice (some ⟨b', o', none⟩) a.length cap'] w fun e w' => e = .returned (.bool (eqI a c)) ∧ Qt w w' := by
 obtain ⟨R, hR⟩ : ∃ R, R = eqI a c := ⟨_, rfl⟩
 rw [← hR]
 have HR := Hd hR
 clear hR
 have H3 : Hid (∀ W, Qt w W → ∀ i, i < a.length → W.cell? ⟨b, o + i, none⟩ = some (.int .i64 (a.getD i 0))) := Hd (fun W hW i hi => by
  have := h3 i hi
  rw [hW.below.cell (p := ⟨b, o + i, none⟩) (cB this), this]
  simp [List.getD, hi, ic])
 have H4 : Hid (∀ W, Qt w W → ∀ i, i < a.length → W.cell? ⟨b', o' + i, none⟩ = some (.int .i64 (c.getD i 0))) := Hd (fun W hW i hi => by
  have hi' : i < c.length := by omega
  have := h3' i hi'
  rw [hW.below.cell (p := ⟨b', o' + i, none⟩) (cB this), this]
  simp [List.getD, hi', ic])
 have HAC := Hd hac
 clear h3 h3' hac
 go_enter Tryz.func48, Tryz.ntmps48
 go_wp2_with fail
 go_loopw [13] (fun i wr => ∃ j : Nat, j ≤ a.length ∧ i = .int .i64 (j : Int) ∧ Hid (∀ m, m < j → a.getD m 0 = c.getD m 0) ∧ Qt w wr) (fun i _ => a.length - (intOf i).toNat)
 case atStart => exact ⟨0, Nat.zero_le _, rfl, Hd (fun m hm => absurd hm (Nat.not_lt_zero _)), Qt.refl _⟩
 case round =>
  obtain ⟨j, hj, rfl, HN, hb⟩ := hrel
  have HB := Hd hb
  clear hb
  by_cases hlt : j < a.length
  ·have hltI : (j : Int) < (a.length : Int) := by omega
   have cj := H3.out wr HB.out j hlt
   have dj := H4.out wr HB.out j hlt
   obtain ⟨x, hx⟩ : ∃ x, x = a.getD j 0 := ⟨_, rfl⟩
   obtain ⟨y, hy⟩ : ∃ y, y = c.getD j 0 := ⟨_, rfl⟩
   rw [← hx] at cj
   rw [← hy] at dj
   have HX := Hd hx
   have HY := Hd hy
   clear hx hy
   by_cases he : x = y
   ·subst he
    go_wp2_with fail
    go_quiet (fail)
    go_wp2_with fail
    go_roundw
    case rel => exact ⟨j + 1, by omega, by go_num, Hd (fun m hm => by by_cases e : m = j; (subst e; rw [← HX.out, ← HY.out]); exact HN.out m (by omega)), HB.out.drewN _⟩
    case measure => simp [intOf]; omega
   ·have HE : Hid (R = false) := Hd (by rw [HR.out]; exact eqI_no (j := j) (by rw [← HX.out, ← HY.out]; exact he))
    have he' : (x != y) = true := by simpa using he
    go_wp2_with fail
    go_quiet (fail)
    go_wp2_with fail
    go_ret
    exact ⟨by rw [HE.out]; rfl, HB.out.drewN _⟩
  ·obtain rfl : j = a.length := by omega
   have HE : Hid (R = true) := Hd (by rw [HR.out]; exact eqI_yes HAC.out HN.out)
   clear hlt
   go_wp2_with fail
   go_ret
   exact ⟨by rw [HE.out]; rfl, HB.out⟩
theorem equal_none (ao bo : Option Addr) (cap cap' : Nat) (w : World) : Calls Tryz.prog 48 #[.slice ao 0 cap, .slice bo 0 cap'] w fun e w' => e = .returned (.bool (eqI [] [])) ∧ Qt w w' := by
 go_enter Tryz.func48, Tryz.ntmps48
 go_wp2_with fail
 refine wp_loop_rounds 1 ?_
 rw [rounds_succ]
 go_wp2_with fail
 go_ret
 exact ⟨rfl, Qt.refl _⟩
theorem equal_len (ao bo : Option Addr) (L M cap cap' : Nat) (w : World) (h : ¬ L = M) : Calls Tryz.prog 48 #[.slice ao L cap, .slice bo M cap'] w fun e w' => e = .returned (.bool false) ∧ Qt w w' := by
 have h' : ((L : Int) != (M : Int)) = true := by simpa using fun e => h (by omega)
 go_enter Tryz.func48, Tryz.ntmps48
 go_wp2_with fail
 go_ret
 exact ⟨rfl, Qt.refl _⟩
theorem equal_any (v u : Value) (a c : List Int) (w : World) (hv : Sl ic w v a) (hu : Sl ic w u c) (hl : a.length ≤ 100000) : Calls Tryz.prog 48 #[v, u] w fun e w' => e = .returned (.bool (eqI a c)) ∧ Qt w w' := by
 by_cases hac : a.length = c.length
 ·rcases hv with ⟨ao, cap, rfl, rfl⟩ | ⟨b, o, cap, rfl, hc, h3⟩
  ·obtain ⟨bo, cap', rfl⟩ := hu.form
   have : c = [] := List.length_eq_zero_iff.1 (by simpa using hac.symm)
   subst this
   exact equal_none ao bo cap cap' w
  ·rcases hu with ⟨ao', cap', rfl, rfl⟩ | ⟨b', o', cap', rfl, hc', h3'⟩
   ·have : a = [] := List.length_eq_zero_iff.1 (by simpa using hac)
    subst this
    exact equal_none _ _ cap cap' w
   ·rw [← hac]
    exact equal_some b o cap b' o' cap' a c w hac hl h3 h3'
 ·obtain ⟨ao, cap, rfl⟩ := hv.form
  obtain ⟨bo, cap', rfl⟩ := hu.form
  rw [eqI_len hac]
  exact equal_len ao bo _ _ cap cap' w hac
theorem ints_some (b o cap b' o' cap' : Nat) (a c : List Int) (w : World) (hac : a.length = c.length) (hl : a.length ≤ 100000) (h3 : ∀ i (h : i < a.length), w.cell? ⟨b, o + i, none⟩ = some (ic a[i])) (h3' : ∀ i (h : i < c.length), w.cell? ⟨b', o' + i, none⟩ = some (ic c[i])) :
  Calls Tryz.prog 47 #[.slice (some ⟨b, o, none⟩) a.length cap, .slice (some ⟨b', o', none⟩) a.length cap'] w fun e w' => e = .returned (.bool (eqI a c)) ∧ Qt w w' := by
 obtain ⟨R, hR⟩ : ∃ R, R = eqI a c := ⟨_, rfl⟩
 rw [← hR]
 have HR := Hd hR
 clear hR
 have H3 : Hid (∀ W, Qt w W → ∀ i, i < a.length → W.cell? ⟨b, o + i, none⟩ = some (.int .i64 (a.getD i 0))) := Hd (fun W hW i hi => by
  have := h3 i hi
  rw [hW.below.cell (p := ⟨b, o + i, none⟩) (cB this), this]
  simp [List.getD, hi, ic])
 have H4 : Hid (∀ W, Qt w W → ∀ i, i < a.length → W.cell? ⟨b', o' + i, none⟩ = some (.int .i64 (c.getD i 0))) := Hd (fun W hW i hi => by
  have hi' : i < c.length := by omega
  have := h3' i hi'
  rw [hW.below.cell (p := ⟨b', o' + i, none⟩) (cB this), this]
  simp [List.getD, hi', ic])
 have HAC := Hd hac
 clear h3 h3' hac
 go_enter Tryz.func47, Tryz.ntmps47
 go_wp2_with fail
 go_loopw [5] (fun i wr => ∃ j : Nat, j ≤ a.length ∧ i = .int .i64 (j : Int) ∧ Hid (∀ m, m < j → a.getD m 0 = c.getD m 0) ∧ Qt w wr) (fun i _ => a.length - (intOf i).toNat)
 case atStart => exact ⟨0, Nat.zero_le _, rfl, Hd (fun m hm => absurd hm (Nat.not_lt_zero _)), Qt.refl _⟩
 case round =>
  obtain ⟨j, hj, rfl, HN, hb⟩ := hrel
  have HB := Hd hb
  clear hb
  by_cases hlt : j < a.length
  ·have hltI : (j : Int) < (a.length : Int) := by omega
   have cj := H3.out wr HB.out j hlt
   have dj := H4.out wr HB.out j hlt
   obtain ⟨x, hx⟩ : ∃ x, x = a.getD j 0 := ⟨_, rfl⟩
   obtain ⟨y, hy⟩ : ∃ y, y = c.getD j 0 := ⟨_, rfl⟩
   rw [← hx] at cj
   rw [← hy] at dj
   have HX := Hd hx
   have HY := Hd hy
   clear hx hy
   by_cases he : x = y
   ·subst he
    go_wp2_with fail
    go_quiet (fail)
    go_wp2_with fail
    go_roundw
    case rel => exact ⟨j + 1, by omega, by go_num, Hd (fun m hm => by by_cases e : m = j; (subst e; rw [← HX.out, ← HY.out]); exact HN.out m (by omega)), HB.out.drewN _⟩
    case measure => simp [intOf]; omega
   ·have HE : Hid (R = false) := Hd (by rw [HR.out]; exact eqI_no (j := j) (by rw [← HX.out, ← HY.out]; exact he))
    have he' : (x != y) = true := by simpa using he
    go_wp2_with fail
    go_quiet (fail)
    go_wp2_with fail
    go_ret
    exact ⟨by rw [HE.out]; rfl, HB.out.drewN _⟩
  ·obtain rfl : j = a.length := by omega
   have HE : Hid (R = true) := Hd (by rw [HR.out]; exact eqI_yes HAC.out HN.out)
   clear hlt
   go_wp2_with fail
   go_ret
   exact ⟨by rw [HE.out]; rfl, HB.out⟩
theorem ints_none (ao bo : Option Addr) (cap cap' : Nat) (w : World) : Calls Tryz.prog 47 #[.slice ao 0 cap, .slice bo 0 cap'] w fun e w' => e = .returned (.bool (eqI [] [])) ∧ Qt w w' := by
 go_enter Tryz.func47, Tryz.ntmps47
 go_wp2_with fail
 refine wp_loop_rounds 1 ?_
 rw [rounds_succ]
 go_wp2_with fail
 go_ret
 exact ⟨rfl, Qt.refl _⟩
theorem ints_len (ao bo : Option Addr) (L M cap cap' : Nat) (w : World) (h : ¬ L = M) : Calls Tryz.prog 47 #[.slice ao L cap, .slice bo M cap'] w fun e w' => e = .returned (.bool false) ∧ Qt w w' := by
 have h' : ((L : Int) != (M : Int)) = true := by simpa using fun e => h (by omega)
 go_enter Tryz.func47, Tryz.ntmps47
 go_wp2_with fail
 go_ret
 exact ⟨rfl, Qt.refl _⟩
theorem ints_any (v u : Value) (a c : List Int) (w : World) (hv : Sl ic w v a) (hu : Sl ic w u c) (hl : a.length ≤ 100000) : Calls Tryz.prog 47 #[v, u] w fun e w' => e = .returned (.bool (eqI a c)) ∧ Qt w w' := by
 by_cases hac : a.length = c.length
 ·rcases hv with ⟨ao, cap, rfl, rfl⟩ | ⟨b, o, cap, rfl, hc, h3⟩
  ·obtain ⟨bo, cap', rfl⟩ := hu.form
   have : c = [] := List.length_eq_zero_iff.1 (by simpa using hac.symm)
   subst this
   exact ints_none ao bo cap cap' w
  ·rcases hu with ⟨ao', cap', rfl, rfl⟩ | ⟨b', o', cap', rfl, hc', h3'⟩
   ·have : a = [] := List.length_eq_zero_iff.1 (by simpa using hac)
    subst this
    exact ints_none _ _ cap cap' w
   ·rw [← hac]
    exact ints_some b o cap b' o' cap' a c w hac hl h3 h3'
 ·obtain ⟨ao, cap, rfl⟩ := hv.form
  obtain ⟨bo, cap', rfl⟩ := hu.form
  rw [eqI_len hac]
  exact ints_len ao bo _ _ cap cap' w hac
end Go.Proofs.YtlggjgapdpkhiaaGreat
