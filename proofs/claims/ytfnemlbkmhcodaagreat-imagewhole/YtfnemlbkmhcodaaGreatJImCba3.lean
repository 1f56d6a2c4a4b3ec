/-
  WHETHER THERE IS ANY (slices.IndexFunc, ContainsFunc), by what the function that is handed in answers. Conditions: the cells hold them, no more than a hundred thousand.
  WHAT STANDS AT A PLACE (image.at), or nothing. Condition: the cells hold them.
  WHAT IS ASKED OF METADATA, the places (image.findBroker, findTopic, findConfig) by what is there. Conditions: an image in order, its lists no longer than a hundred thousand.
-/
import Derived.Test.YtfnemlbkmhcodaaGreatJImBaa2
import Derived.Test.YtfnemlbkmhcodaaGreatJImMa3
import Derived.Test.YtfnemlbkmhcodaaGreatJImBb
namespace Go.Proofs.YtfnemlbkmhcodaaGreat
open Go.RowKit

theorem IxP.any {α : Type} {p : α → Bool} {l : List α} {w w' : World} {e : Ending} (h : IxP p l w w' e) : ∃ i : Int, e = .returned (.int .i64 i) ∧ decide (0 ≤ i) = l.any p ∧ Below w.heap.size w w' := by
  obtain ⟨⟨k, hk, hp, _, rfl⟩ | ⟨hn, rfl⟩, hb⟩ := h
  · refine ⟨_, rfl, ?_, hb⟩
    rw [decide_eq_true (by omega), List.any_eq_true.2 ⟨l[k], List.getElem_mem hk, hp⟩]
  · refine ⟨_, rfl, ?_, hb⟩
    rw [List.any_eq_false.2 (fun x hx => by rw [hn x hx]; simp)]
    rfl
set_option maxRecDepth 100000 in
set_option maxHeartbeats 4000000 in
theorem ix_any_some (l : List Tq) (p : Tq → Bool) (b o cap : Nat) (u0 : Value) (w : World) (hv : w.rangeAt b o (l.flatMap tpc)) (hl : l.length ≤ 100000)
    (hc : ∀ W x, x ∈ l → Below w.heap.size w W → Calls Tryz.prog 88 #[.agg (tpc x).toArray, u0] W fun e w' => e = .returned (.bool (p x)) ∧ Below W.heap.size W w') :
    Calls Tryz.prog 43 #[.slice (some ⟨b, o, none⟩) l.length cap, .func (.func 88) #[] #[u0]] w fun e w' => IxP p l w w' e := by
  have HV := hide (fun i (h : i < l.length) => fm_at encT hv h)
  have HC := hide hc
  clear hv hc
  go_enter Tryz.func43, Tryz.ntmps43
  go_wp2_with fail
  go_loopw [8] (fun x W => ∃ i : Nat, x = .int .i64 (i : Int) ∧ i ≤ l.length ∧ (∀ q (h : q < l.length), q < i → p l[q] = false) ∧ Below w.heap.size w W) (fun x _ => l.length - (intOf x).toNat)
  case atStart => exact ⟨0, rfl, Nat.zero_le _, fun q h h' => absurd h' (Nat.not_lt_zero _), Below.refl _ _⟩
  case round =>
    obtain ⟨i, rfl, hi, h1, hb⟩ := hrel
    have H1 := hide h1
    have HB := hide hb
    clear h1 hb
    by_cases hlt : i < l.length
    · have hltI : (i : Int) < (l.length : Int) := by omega
      have HE := hide (rg_bel (HV.out _ hlt) HB.out)
      have HCL := hide (HC.out wr l[i] (List.getElem_mem hlt) HB.out)
      cases hp : p l[i] with
      | true =>
        have HP := hide hp
        rw [hp] at HCL
        clear hp
        generalize l[i] = y at HE HCL
        go_wp2_with (first
          | (refine wpList_load_mid rfl _ _ rfl _ _ rfl _ _ HE.out Tryz.underlying38 rfl (by kernel_rfl) ?_)
          | (go_at_call 88; refine HCL.out.mono ?_; rintro e w1 ⟨rfl, hb1⟩; have HB1 := hide (bt HB.out hb1); clear hb1 HCL HE))
        go_ret
        exact IxP.yes i hlt HP.out H1.out rfl HB1.out
      | false =>
        have HP : Hid (∀ q (h : q < l.length), q < i + 1 → p l[q] = false) := hide (fun q h hq => by
          by_cases e : q = i
          · subst e; exact hp
          · exact H1.out q h (by omega))
        rw [hp] at HCL
        clear hp
        generalize l[i] = y at HE HCL
        go_wp2_with (first
          | (refine wpList_load_mid rfl _ _ rfl _ _ rfl _ _ HE.out Tryz.underlying38 rfl (by kernel_rfl) ?_)
          | (go_at_call 88; refine HCL.out.mono ?_; rintro e w1 ⟨rfl, hb1⟩; have HB1 := hide (bt HB.out hb1); clear hb1 HCL HE))
        go_roundw
        case rel => exact ⟨i + 1, by go_num, by omega, HP.out, HB1.out⟩
        case measure => simp [intOf]; omega
    · obtain rfl : i = l.length := by omega
      have HN : Hid (∀ q (h : q < l.length), p l[q] = false) := hide (fun q h => H1.out q h h)
      clear hlt H1
      go_wp2_with fail
      go_ret
      exact IxP.no HN.out rfl HB.out
set_option maxRecDepth 100000 in
theorem ix_any (l : List Tq) (p : Tq → Bool) (ao : Option Addr) (n cap : Nat) (u0 : Value) (w : World) (hn : n = l.length) (hv : Rs tpc w (.slice ao n cap) l) (hl : l.length ≤ 100000)
    (hc : ∀ W x, x ∈ l → Below w.heap.size w W → Calls Tryz.prog 88 #[.agg (tpc x).toArray, u0] W fun e w' => e = .returned (.bool (p x)) ∧ Below W.heap.size W w') :
    Calls Tryz.prog 43 #[.slice ao n cap, .func (.func 88) #[] #[u0]] w fun e w' => IxP p l w w' e := by
  subst hn
  rcases Nat.eq_zero_or_pos l.length with h0 | h0
  · obtain rfl := List.eq_nil_iff_length_eq_zero.2 h0
    clear hv hl hc h0
    show Calls Tryz.prog 43 #[.slice ao 0 cap, .func (.func 88) #[] #[u0]] w fun e w' => IxP p [] w w' e
    go_enter Tryz.func43, Tryz.ntmps43
    go_wp2_with fail
    refine wp_loop_rounds 1 ?_
    rw [rounds_succ]
    go_wp2_with fail
    go_ret
    exact IxP.no (fun j h => absurd h (Nat.not_lt_zero _)) rfl (Below.refl _ _)
  · obtain ⟨b, o, rfl, hr⟩ := hv.rg h0
    exact ix_any_some l p b o cap u0 w hr hl hc
set_option maxRecDepth 100000 in
theorem ct_any (l : List Tq) (p : Tq → Bool) (ao : Option Addr) (n cap : Nat) (u0 : Value) (w : World) (hn : n = l.length) (hv : Rs tpc w (.slice ao n cap) l) (hl : l.length ≤ 100000)
    (hc : ∀ W x, x ∈ l → Below w.heap.size w W → Calls Tryz.prog 88 #[.agg (tpc x).toArray, u0] W fun e w' => e = .returned (.bool (p x)) ∧ Below W.heap.size W w') :
    Calls Tryz.prog 87 #[.slice ao n cap, .func (.func 88) #[] #[u0]] w fun e w' => e = .returned (.bool (l.any p)) ∧ Below w.heap.size w w' := by
  have HC := hide (ix_any l p ao n cap u0 w hn hv hl hc)
  clear hn hv hl hc
  generalize hA : l.any p = A
  have HA := hide hA
  clear hA
  go_enter Tryz.func87, Tryz.ntmps87
  go_wp2_with (go_at_call 43; refine HC.out.mono ?_; rintro e w1 h1; obtain ⟨i, rfl, hi, hb⟩ := h1.any; have HI := hide hi; have HB := hide hb; clear hi hb h1 HC)
  go_ret
  exact ⟨by rw [← HA.out, ← HI.out]; rfl, HB.out⟩
set_option maxRecDepth 100000 in
set_option maxHeartbeats 4000000 in
theorem ix_led_some (l : List Pp) (p : Pp → Bool) (b o cap : Nat) (u0 : Value) (w : World) (hv : w.rangeAt b o (l.flatMap ptc)) (hl : l.length ≤ 100000)
    (hc : ∀ W x, x ∈ l → Below w.heap.size w W → Calls Tryz.prog 55 #[.agg (ptc x).toArray, u0] W fun e w' => e = .returned (.bool (p x)) ∧ Below W.heap.size W w') :
    Calls Tryz.prog 122 #[.slice (some ⟨b, o, none⟩) l.length cap, .func (.func 55) #[] #[u0]] w fun e w' => IxP p l w w' e := by
  have HV := hide (fun i (h : i < l.length) => fm_at encP hv h)
  have HC := hide hc
  clear hv hc
  go_enter Tryz.func122, Tryz.ntmps122
  go_wp2_with fail
  go_loopw [8] (fun x W => ∃ i : Nat, x = .int .i64 (i : Int) ∧ i ≤ l.length ∧ (∀ q (h : q < l.length), q < i → p l[q] = false) ∧ Below w.heap.size w W) (fun x _ => l.length - (intOf x).toNat)
  case atStart => exact ⟨0, rfl, Nat.zero_le _, fun q h h' => absurd h' (Nat.not_lt_zero _), Below.refl _ _⟩
  case round =>
    obtain ⟨i, rfl, hi, h1, hb⟩ := hrel
    have H1 := hide h1
    have HB := hide hb
    clear h1 hb
    by_cases hlt : i < l.length
    · have hltI : (i : Int) < (l.length : Int) := by omega
      have HE := hide (rg_bel (HV.out _ hlt) HB.out)
      have HCL := hide (HC.out wr l[i] (List.getElem_mem hlt) HB.out)
      cases hp : p l[i] with
      | true =>
        have HP := hide hp
        rw [hp] at HCL
        clear hp
        generalize l[i] = y at HE HCL
        go_wp2_with (first
          | (refine wpList_load_mid rfl _ _ rfl _ _ rfl _ _ HE.out Tryz.underlying44 rfl (by kernel_rfl) ?_)
          | (go_at_call 55; refine HCL.out.mono ?_; rintro e w1 ⟨rfl, hb1⟩; have HB1 := hide (bt HB.out hb1); clear hb1 HCL HE))
        go_ret
        exact IxP.yes i hlt HP.out H1.out rfl HB1.out
      | false =>
        have HP : Hid (∀ q (h : q < l.length), q < i + 1 → p l[q] = false) := hide (fun q h hq => by
          by_cases e : q = i
          · subst e; exact hp
          · exact H1.out q h (by omega))
        rw [hp] at HCL
        clear hp
        generalize l[i] = y at HE HCL
        go_wp2_with (first
          | (refine wpList_load_mid rfl _ _ rfl _ _ rfl _ _ HE.out Tryz.underlying44 rfl (by kernel_rfl) ?_)
          | (go_at_call 55; refine HCL.out.mono ?_; rintro e w1 ⟨rfl, hb1⟩; have HB1 := hide (bt HB.out hb1); clear hb1 HCL HE))
        go_roundw
        case rel => exact ⟨i + 1, by go_num, by omega, HP.out, HB1.out⟩
        case measure => simp [intOf]; omega
    · obtain rfl : i = l.length := by omega
      have HN : Hid (∀ q (h : q < l.length), p l[q] = false) := hide (fun q h => H1.out q h h)
      clear hlt H1
      go_wp2_with fail
      go_ret
      exact IxP.no HN.out rfl HB.out
set_option maxRecDepth 100000 in
theorem ix_led (l : List Pp) (p : Pp → Bool) (ao : Option Addr) (n cap : Nat) (u0 : Value) (w : World) (hn : n = l.length) (hv : Rs ptc w (.slice ao n cap) l) (hl : l.length ≤ 100000)
    (hc : ∀ W x, x ∈ l → Below w.heap.size w W → Calls Tryz.prog 55 #[.agg (ptc x).toArray, u0] W fun e w' => e = .returned (.bool (p x)) ∧ Below W.heap.size W w') :
    Calls Tryz.prog 122 #[.slice ao n cap, .func (.func 55) #[] #[u0]] w fun e w' => IxP p l w w' e := by
  subst hn
  rcases Nat.eq_zero_or_pos l.length with h0 | h0
  · obtain rfl := List.eq_nil_iff_length_eq_zero.2 h0
    clear hv hl hc h0
    show Calls Tryz.prog 122 #[.slice ao 0 cap, .func (.func 55) #[] #[u0]] w fun e w' => IxP p [] w w' e
    go_enter Tryz.func122, Tryz.ntmps122
    go_wp2_with fail
    refine wp_loop_rounds 1 ?_
    rw [rounds_succ]
    go_wp2_with fail
    go_ret
    exact IxP.no (fun j h => absurd h (Nat.not_lt_zero _)) rfl (Below.refl _ _)
  · obtain ⟨b, o, rfl, hr⟩ := hv.rg h0
    exact ix_led_some l p b o cap u0 w hr hl hc
set_option maxRecDepth 100000 in
theorem ct_led (l : List Pp) (p : Pp → Bool) (ao : Option Addr) (n cap : Nat) (u0 : Value) (w : World) (hn : n = l.length) (hv : Rs ptc w (.slice ao n cap) l) (hl : l.length ≤ 100000)
    (hc : ∀ W x, x ∈ l → Below w.heap.size w W → Calls Tryz.prog 55 #[.agg (ptc x).toArray, u0] W fun e w' => e = .returned (.bool (p x)) ∧ Below W.heap.size W w') :
    Calls Tryz.prog 89 #[.slice ao n cap, .func (.func 55) #[] #[u0]] w fun e w' => e = .returned (.bool (l.any p)) ∧ Below w.heap.size w w' := by
  have HC := hide (ix_led l p ao n cap u0 w hn hv hl hc)
  clear hn hv hl hc
  generalize hA : l.any p = A
  have HA := hide hA
  clear hA
  go_enter Tryz.func89, Tryz.ntmps89
  go_wp2_with (go_at_call 122; refine HC.out.mono ?_; rintro e w1 h1; obtain ⟨i, rfl, hi, hb⟩ := h1.any; have HI := hide hi; have HB := hide hb; clear hi hb h1 HC)
  go_ret
  exact ⟨by rw [← HA.out, ← HI.out]; rfl, HB.out⟩
set_option maxRecDepth 100000 in
set_option maxHeartbeats 4000000 in
theorem ix_hol_some (l : List Pp) (p : Pp → Bool) (b o cap : Nat) (u0 : Value) (w : World) (hv : w.rangeAt b o (l.flatMap ptc)) (hl : l.length ≤ 100000)
    (hc : ∀ W x, x ∈ l → Below w.heap.size w W → Calls Tryz.prog 158 #[.agg (ptc x).toArray, u0] W fun e w' => e = .returned (.bool (p x)) ∧ Below W.heap.size W w') :
    Calls Tryz.prog 122 #[.slice (some ⟨b, o, none⟩) l.length cap, .func (.func 158) #[] #[u0]] w fun e w' => IxP p l w w' e := by
  have HV := hide (fun i (h : i < l.length) => fm_at encP hv h)
  have HC := hide hc
  clear hv hc
  go_enter Tryz.func122, Tryz.ntmps122
  go_wp2_with fail
  go_loopw [8] (fun x W => ∃ i : Nat, x = .int .i64 (i : Int) ∧ i ≤ l.length ∧ (∀ q (h : q < l.length), q < i → p l[q] = false) ∧ Below w.heap.size w W) (fun x _ => l.length - (intOf x).toNat)
  case atStart => exact ⟨0, rfl, Nat.zero_le _, fun q h h' => absurd h' (Nat.not_lt_zero _), Below.refl _ _⟩
  case round =>
    obtain ⟨i, rfl, hi, h1, hb⟩ := hrel
    have H1 := hide h1
    have HB := hide hb
    clear h1 hb
    by_cases hlt : i < l.length
    · have hltI : (i : Int) < (l.length : Int) := by omega
      have HE := hide (rg_bel (HV.out _ hlt) HB.out)
      have HCL := hide (HC.out wr l[i] (List.getElem_mem hlt) HB.out)
      cases hp : p l[i] with
      | true =>
        have HP := hide hp
        rw [hp] at HCL
        clear hp
        generalize l[i] = y at HE HCL
        go_wp2_with (first
          | (refine wpList_load_mid rfl _ _ rfl _ _ rfl _ _ HE.out Tryz.underlying44 rfl (by kernel_rfl) ?_)
          | (go_at_call 158; refine HCL.out.mono ?_; rintro e w1 ⟨rfl, hb1⟩; have HB1 := hide (bt HB.out hb1); clear hb1 HCL HE))
        go_ret
        exact IxP.yes i hlt HP.out H1.out rfl HB1.out
      | false =>
        have HP : Hid (∀ q (h : q < l.length), q < i + 1 → p l[q] = false) := hide (fun q h hq => by
          by_cases e : q = i
          · subst e; exact hp
          · exact H1.out q h (by omega))
        rw [hp] at HCL
        clear hp
        generalize l[i] = y at HE HCL
        go_wp2_with (first
          | (refine wpList_load_mid rfl _ _ rfl _ _ rfl _ _ HE.out Tryz.underlying44 rfl (by kernel_rfl) ?_)
          | (go_at_call 158; refine HCL.out.mono ?_; rintro e w1 ⟨rfl, hb1⟩; have HB1 := hide (bt HB.out hb1); clear hb1 HCL HE))
        go_roundw
        case rel => exact ⟨i + 1, by go_num, by omega, HP.out, HB1.out⟩
        case measure => simp [intOf]; omega
    · obtain rfl : i = l.length := by omega
      have HN : Hid (∀ q (h : q < l.length), p l[q] = false) := hide (fun q h => H1.out q h h)
      clear hlt H1
      go_wp2_with fail
      go_ret
      exact IxP.no HN.out rfl HB.out
set_option maxRecDepth 100000 in
theorem ix_hol (l : List Pp) (p : Pp → Bool) (ao : Option Addr) (n cap : Nat) (u0 : Value) (w : World) (hn : n = l.length) (hv : Rs ptc w (.slice ao n cap) l) (hl : l.length ≤ 100000)
    (hc : ∀ W x, x ∈ l → Below w.heap.size w W → Calls Tryz.prog 158 #[.agg (ptc x).toArray, u0] W fun e w' => e = .returned (.bool (p x)) ∧ Below W.heap.size W w') :
    Calls Tryz.prog 122 #[.slice ao n cap, .func (.func 158) #[] #[u0]] w fun e w' => IxP p l w w' e := by
  subst hn
  rcases Nat.eq_zero_or_pos l.length with h0 | h0
  · obtain rfl := List.eq_nil_iff_length_eq_zero.2 h0
    clear hv hl hc h0
    show Calls Tryz.prog 122 #[.slice ao 0 cap, .func (.func 158) #[] #[u0]] w fun e w' => IxP p [] w w' e
    go_enter Tryz.func122, Tryz.ntmps122
    go_wp2_with fail
    refine wp_loop_rounds 1 ?_
    rw [rounds_succ]
    go_wp2_with fail
    go_ret
    exact IxP.no (fun j h => absurd h (Nat.not_lt_zero _)) rfl (Below.refl _ _)
  · obtain ⟨b, o, rfl, hr⟩ := hv.rg h0
    exact ix_hol_some l p b o cap u0 w hr hl hc
set_option maxRecDepth 100000 in
theorem ct_hol (l : List Pp) (p : Pp → Bool) (ao : Option Addr) (n cap : Nat) (u0 : Value) (w : World) (hn : n = l.length) (hv : Rs ptc w (.slice ao n cap) l) (hl : l.length ≤ 100000)
    (hc : ∀ W x, x ∈ l → Below w.heap.size w W → Calls Tryz.prog 158 #[.agg (ptc x).toArray, u0] W fun e w' => e = .returned (.bool (p x)) ∧ Below W.heap.size W w') :
    Calls Tryz.prog 89 #[.slice ao n cap, .func (.func 158) #[] #[u0]] w fun e w' => e = .returned (.bool (l.any p)) ∧ Below w.heap.size w w' := by
  have HC := hide (ix_hol l p ao n cap u0 w hn hv hl hc)
  clear hn hv hl hc
  generalize hA : l.any p = A
  have HA := hide hA
  clear hA
  go_enter Tryz.func89, Tryz.ntmps89
  go_wp2_with (go_at_call 122; refine HC.out.mono ?_; rintro e w1 h1; obtain ⟨i, rfl, hi, hb⟩ := h1.any; have HI := hide hi; have HB := hide hb; clear hi hb h1 HC)
  go_ret
  exact ⟨by rw [← HA.out, ← HI.out]; rfl, HB.out⟩
end Go.Proofs.YtfnemlbkmhcodaaGreat
namespace Go.Proofs.YtfnemlbkmhcodaaGreat
open Go.RowKit

set_option maxRecDepth 100000 in
theorem atB_no (v : Value) (i : Int) (w : World) : Calls Tryz.prog 40 #[v, .int .i64 i, .bool false] w fun e w' => e = .returned (.tuple #[.agg #[.int .i64 0, .int .i64 0, .string ⟨#[]⟩, .bool false, .bool false], .bool false]) ∧ Below w.heap.size w w' := by
  go_enter Tryz.func40, Tryz.ntmps40
  go_wp2_with fail
  exact bodyPost_ret (v := .tuple #[.agg #[.int .i64 0, .int .i64 0, .string ⟨#[]⟩, .bool false, .bool false], .bool false]) (by simp [results, Tryz.results40, go_sem]) rfl ⟨rfl, ((Below.refl _ _).alloc (Nat.le_refl _) _).alloc (by simp) _⟩
set_option maxRecDepth 100000 in
theorem atB_yes (l : List Bk) (ao : Option Addr) (n cap i : Nat) (w : World) (hn : n = l.length) (hv : Rs bkc w (.slice ao n cap) l) (hi : i < l.length) :
    Calls Tryz.prog 40 #[.slice ao n cap, .int .i64 i, .bool true] w fun e w' => e = .returned (.tuple #[.agg (bkc l[i]).toArray, .bool true]) ∧ Below w.heap.size w w' := by
  subst hn
  obtain ⟨b, o, rfl, hr⟩ := hv.rg (by omega)
  have HE := hide (rg_bel (fm_at encB hr hi) ((Below.refl _ _).alloc (Nat.le_refl _) (.cells #[.int .i64 0, .int .i64 0, .string ⟨#[]⟩, .bool false, .bool false] 33)))
  have hiI : (i : Int) < (l.length : Int) := by omega
  clear hv hr
  generalize l[i] = y at *
  unfold bkc at *
  go_enter Tryz.func40, Tryz.ntmps40
  go_wp2_with (refine wpList_load_mid rfl _ _ rfl _ _ rfl _ _ HE.out Tryz.underlying33 rfl (by kernel_rfl) ?_)
  exact bodyPost_ret (v := .tuple #[.agg #[.int .i64 y.id, .int .i64 y.ep, .string ⟨y.rk.toArray⟩, .bool y.fe, .bool y.lv], .bool true]) (by simp [results, Tryz.results40, go_sem]) rfl ⟨rfl, (Below.refl _ _).alloc (Nat.le_refl _) _⟩
set_option maxRecDepth 100000 in
theorem atT_no (v : Value) (i : Int) (w : World) : Calls Tryz.prog 42 #[v, .int .i64 i, .bool false] w fun e w' => e = .returned (.tuple #[.agg #[.int .i64 0, .string ⟨#[]⟩, .slice none 0 0], .bool false]) ∧ Below w.heap.size w w' := by
  go_enter Tryz.func42, Tryz.ntmps42
  go_wp2_with fail
  exact bodyPost_ret (v := .tuple #[.agg #[.int .i64 0, .string ⟨#[]⟩, .slice none 0 0], .bool false]) (by simp [results, Tryz.results42, go_sem]) rfl ⟨rfl, ((Below.refl _ _).alloc (Nat.le_refl _) _).alloc (by simp) _⟩
set_option maxRecDepth 100000 in
theorem atT_yes (l : List Tq) (ao : Option Addr) (n cap i : Nat) (w : World) (hn : n = l.length) (hv : Rs tpc w (.slice ao n cap) l) (hi : i < l.length) :
    Calls Tryz.prog 42 #[.slice ao n cap, .int .i64 i, .bool true] w fun e w' => e = .returned (.tuple #[.agg (tpc l[i]).toArray, .bool true]) ∧ Below w.heap.size w w' := by
  subst hn
  obtain ⟨b, o, rfl, hr⟩ := hv.rg (by omega)
  have HE := hide (rg_bel (fm_at encT hr hi) ((Below.refl _ _).alloc (Nat.le_refl _) (.cells #[.int .i64 0, .string ⟨#[]⟩, .slice none 0 0] 38)))
  have hiI : (i : Int) < (l.length : Int) := by omega
  clear hv hr
  generalize l[i] = y at *
  unfold tpc at *
  go_enter Tryz.func42, Tryz.ntmps42
  go_wp2_with (refine wpList_load_mid rfl _ _ rfl _ _ rfl _ _ HE.out Tryz.underlying38 rfl (by kernel_rfl) ?_)
  exact bodyPost_ret (v := .tuple #[.agg #[.int .i64 y.id, .string ⟨y.nm.toArray⟩, .slice y.a y.ps.length y.c], .bool true]) (by simp [results, Tryz.results42, go_sem]) rfl ⟨rfl, (Below.refl _ _).alloc (Nat.le_refl _) _⟩
set_option maxRecDepth 100000 in
theorem atP_no (v : Value) (i : Int) (w : World) : Calls Tryz.prog 45 #[v, .int .i64 i, .bool false] w fun e w' => e = .returned (.tuple #[.agg #[.slice none 0 0, .slice none 0 0, .int .i64 0, .int .i64 0, .slice none 0 0, .slice none 0 0], .bool false]) ∧ Below w.heap.size w w' := by
  go_enter Tryz.func45, Tryz.ntmps45
  go_wp2_with fail
  exact bodyPost_ret (v := .tuple #[.agg #[.slice none 0 0, .slice none 0 0, .int .i64 0, .int .i64 0, .slice none 0 0, .slice none 0 0], .bool false]) (by simp [results, Tryz.results45, go_sem]) rfl ⟨rfl, ((Below.refl _ _).alloc (Nat.le_refl _) _).alloc (by simp) _⟩
set_option maxRecDepth 100000 in
theorem atP_yes (l : List Pp) (ao : Option Addr) (n cap i : Nat) (w : World) (hn : n = l.length) (hv : Rs ptc w (.slice ao n cap) l) (hi : i < l.length) :
    Calls Tryz.prog 45 #[.slice ao n cap, .int .i64 i, .bool true] w fun e w' => e = .returned (.tuple #[.agg (ptc l[i]).toArray, .bool true]) ∧ Below w.heap.size w w' := by
  subst hn
  obtain ⟨b, o, rfl, hr⟩ := hv.rg (by omega)
  have HE := hide (rg_bel (fm_at encP hr hi) ((Below.refl _ _).alloc (Nat.le_refl _) (.cells #[.slice none 0 0, .slice none 0 0, .int .i64 0, .int .i64 0, .slice none 0 0, .slice none 0 0] 44)))
  have hiI : (i : Int) < (l.length : Int) := by omega
  clear hv hr
  generalize l[i] = y at *
  unfold ptc at *
  go_enter Tryz.func45, Tryz.ntmps45
  go_wp2_with (refine wpList_load_mid rfl _ _ rfl _ _ rfl _ _ HE.out Tryz.underlying44 rfl (by kernel_rfl) ?_)
  exact bodyPost_ret (v := .tuple #[.agg #[.slice y.2.a0 y.1.ids.length y.2.c0, .slice y.2.a1 y.1.isr.length y.2.c1, .int .i64 y.1.ld, .int .i64 y.1.ep, .slice y.2.a2 y.1.ad.length y.2.c2, .slice y.2.a3 y.1.dr.length y.2.c3], .bool true]) (by simp [results, Tryz.results45, go_sem]) rfl ⟨rfl, (Below.refl _ _).alloc (Nat.le_refl _) _⟩
set_option maxRecDepth 100000 in
theorem atC_no (v : Value) (i : Int) (w : World) : Calls Tryz.prog 47 #[v, .int .i64 i, .bool false] w fun e w' => e = .returned (.tuple #[.agg #[.int .i64 0, .string ⟨#[]⟩, .string ⟨#[]⟩], .bool false]) ∧ Below w.heap.size w w' := by
  go_enter Tryz.func47, Tryz.ntmps47
  go_wp2_with fail
  exact bodyPost_ret (v := .tuple #[.agg #[.int .i64 0, .string ⟨#[]⟩, .string ⟨#[]⟩], .bool false]) (by simp [results, Tryz.results47, go_sem]) rfl ⟨rfl, ((Below.refl _ _).alloc (Nat.le_refl _) _).alloc (by simp) _⟩
set_option maxRecDepth 100000 in
theorem atC_yes (l : List Cf) (ao : Option Addr) (n cap i : Nat) (w : World) (hn : n = l.length) (hv : Rs cfc w (.slice ao n cap) l) (hi : i < l.length) :
    Calls Tryz.prog 47 #[.slice ao n cap, .int .i64 i, .bool true] w fun e w' => e = .returned (.tuple #[.agg (cfc l[i]).toArray, .bool true]) ∧ Below w.heap.size w w' := by
  subst hn
  obtain ⟨b, o, rfl, hr⟩ := hv.rg (by omega)
  have HE := hide (rg_bel (fm_at encC hr hi) ((Below.refl _ _).alloc (Nat.le_refl _) (.cells #[.int .i64 0, .string ⟨#[]⟩, .string ⟨#[]⟩] 82)))
  have hiI : (i : Int) < (l.length : Int) := by omega
  clear hv hr
  generalize l[i] = y at *
  unfold cfc at *
  go_enter Tryz.func47, Tryz.ntmps47
  go_wp2_with (refine wpList_load_mid rfl _ _ rfl _ _ rfl _ _ HE.out Tryz.underlying82 rfl (by kernel_rfl) ?_)
  exact bodyPost_ret (v := .tuple #[.agg #[.int .i64 y.tp, .string ⟨y.ky.toArray⟩, .string ⟨y.va.toArray⟩], .bool true]) (by simp [results, Tryz.results47, go_sem]) rfl ⟨rfl, (Below.refl _ _).alloc (Nat.le_refl _) _⟩
set_option maxRecDepth 100000 in
theorem atD_no (v : Value) (i : Int) (w : World) : Calls Tryz.prog 50 #[v, .int .i64 i, .bool false] w fun e w' => e = .returned (.tuple #[.agg #[.int .i64 0, .int .i64 0, .int .i64 0], .bool false]) ∧ Below w.heap.size w w' := by
  go_enter Tryz.func50, Tryz.ntmps50
  go_wp2_with fail
  exact bodyPost_ret (v := .tuple #[.agg #[.int .i64 0, .int .i64 0, .int .i64 0], .bool false]) (by simp [results, Tryz.results50, go_sem]) rfl ⟨rfl, ((Below.refl _ _).alloc (Nat.le_refl _) _).alloc (by simp) _⟩
set_option maxRecDepth 100000 in
theorem atD_yes (l : List Dn) (ao : Option Addr) (n cap i : Nat) (w : World) (hn : n = l.length) (hv : Rs dnc w (.slice ao n cap) l) (hi : i < l.length) :
    Calls Tryz.prog 50 #[.slice ao n cap, .int .i64 i, .bool true] w fun e w' => e = .returned (.tuple #[.agg (dnc l[i]).toArray, .bool true]) ∧ Below w.heap.size w w' := by
  subst hn
  obtain ⟨b, o, rfl, hr⟩ := hv.rg (by omega)
  have HE := hide (rg_bel (fm_at encD hr hi) ((Below.refl _ _).alloc (Nat.le_refl _) (.cells #[.int .i64 0, .int .i64 0, .int .i64 0] 87)))
  have hiI : (i : Int) < (l.length : Int) := by omega
  clear hv hr
  generalize l[i] = y at *
  unfold dnc at *
  go_enter Tryz.func50, Tryz.ntmps50
  go_wp2_with (refine wpList_load_mid rfl _ _ rfl _ _ rfl _ _ HE.out Tryz.underlying87 rfl (by kernel_rfl) ?_)
  exact bodyPost_ret (v := .tuple #[.agg #[.int .i64 y.cl, .int .i64 y.se, .int .i64 y.co], .bool true]) (by simp [results, Tryz.results50, go_sem]) rfl ⟨rfl, (Below.refl _ _).alloc (Nat.le_refl _) _⟩
end Go.Proofs.YtfnemlbkmhcodaaGreat
namespace Go.Proofs.YtfnemlbkmhcodaaGreat
open Go.RowKit

section
variable {α : Type} {c : α → Int} {l : List α} {w w' : World} {e : Ending}
theorem find_eq {p : α → Bool} (hp : ∀ x, p x = true ↔ c x = 0) : l.find? p = l.find? (fun x => decide (c x = 0)) := by
  congr 1
  funext x
  by_cases h : c x = 0
  · rw [(hp x).2 h, decide_eq_true h]
  · rw [decide_eq_false h]
    exact Bool.eq_false_iff.2 (fun q => h ((hp x).1 q))
/-- Nothing is there. -/
theorem BsP.no (h : BsP c l w w' e) (hs : Stn c l) {p : α → Bool} (hp : ∀ x, p x = true ↔ c x = 0) (hn : l.find? p = Option.none) : ∃ i : Nat, i ≤ l.length ∧ (∀ b, insO c b l = l.take i ++ b :: l.drop i) ∧ e = .returned (.tuple #[.int .i64 (i : Int), .bool false]) ∧ Below w.heap.size w w' := by
  obtain ⟨i, hi, rfl, hb⟩ := h
  rw [find_eq hp] at hn
  rcases hi.cases hs with q | ⟨q0, q1, q2⟩
  · refine ⟨i, hi.le, fun b => hi.put_new q b, ?_, hb⟩
    rw [decide_eq_false]
    rintro ⟨r0, r1⟩
    have := q l[i] (by rw [List.drop_eq_getElem_cons r0]; exact List.mem_cons_self)
    omega
  · rw [hi.find_yes q0 q1] at hn
    cases hn
/-- It is there. -/
theorem BsP.yes (h : BsP c l w w' e) (hs : Stn c l) {p : α → Bool} (hp : ∀ x, p x = true ↔ c x = 0) {y : α} (hn : l.find? p = some y) : ∃ (i : Nat) (hi : i < l.length), l[i] = y ∧ (∀ b, insO c b l = l.take i ++ b :: l.drop (i + 1)) ∧ remO c l = l.take i ++ l.drop (i + 1) ∧ (∀ x ∈ l.take i, c x < 0) ∧ (∀ x ∈ l.drop (i + 1), 0 < c x) ∧ e = .returned (.tuple #[.int .i64 (i : Int), .bool true]) ∧ Below w.heap.size w w' := by
  obtain ⟨i, hi, rfl, hb⟩ := h
  rw [find_eq hp] at hn
  rcases hi.cases hs with q | ⟨q0, q1, q2⟩
  · rw [hi.find_no q] at hn
    cases hn
  · rw [hi.find_yes q0 q1] at hn
    cases hn
    exact ⟨i, q0, rfl, fun b => hi.put_old q0 q1 q2 b, hi.rem q0 q1 q2, hi.lo, q2, by rw [decide_eq_true ⟨q0, q1⟩], hb⟩
end
theorem keyB {id : Int} (x : Bk) : idB id x = true ↔ cmpN x.id id = 0 := by rw [cmpN_zero]; simp [idB]
def idQ (id : Int) (t : Tq) : Bool := t.id == id
theorem keyT {id : Int} (x : Tq) : idQ id x = true ↔ cmpN x.id id = 0 := by rw [cmpN_zero]; simp [idQ]
theorem keyC {t : Int} {k : List UInt8} (x : Cf) : idC t k x = true ↔ cmpC x t k = 0 := cmpC_zero.symm
/-- A topic that is found, where it lies. -/
theorem ImR.fT {W : World} {m : Im} {p : Ip} (h : ImR W m p) (id : Int) : fT m.ts id = (p.ts.find? (idQ id)).map Tq.tp := by
  unfold Go.Proofs.YtfnemlbkmhcodaaGreat.fT
  rw [← h.e, List.find?_map]
  rfl
theorem getD_at {l : List Int} {j : Nat} (h : j < l.length) : l.getD j 0 = l[j] := by
  show (l[j]?).getD 0 = l[j]
  rw [List.getElem?_eq_getElem h]
  rfl
theorem cont_any (v : Value) (l : List Int) (x : Int) (w : World) (hv : Sl ic w v l) (hl : l.length ≤ 7) : Calls Tryz.prog 142 #[v, .int .i64 x] w fun e w' => e = .returned (.bool (l.contains x)) ∧ w' = w := by
  have he : l.contains x = inB l l.length x := by
    unfold inB
    rw [Bool.eq_iff_iff, List.contains_iff_mem, List.any_eq_true]
    constructor
    · intro hm
      obtain ⟨j, hj, rfl⟩ := List.getElem_of_mem hm
      exact ⟨j, List.mem_range.2 hj, decide_eq_true (by rw [getD_at hj])⟩
    · rintro ⟨j, hj, e⟩
      have hj' := List.mem_range.1 hj
      have := of_decide_eq_true e
      rw [getD_at hj'] at this
      rw [← this]
      exact List.getElem_mem hj'
  rcases hv with ⟨ao, cap, rfl, rfl⟩ | ⟨b, o, cap, rfl, h2, h3⟩
  · have HC : Hid (Calls Tryz.prog 156 #[.slice ao 0 cap, .int .i64 x] w fun e w' => e = .returned (.int .i64 (-1)) ∧ w' = w) := hide (by
      go_enter Tryz.func156, Tryz.ntmps156
      go_wp2_with fail
      refine wp_loop_rounds 1 ?_
      rw [rounds_succ]
      go_wp2_with fail
      go_ret
      exact ⟨rfl, rfl⟩)
    clear he
    go_enter Tryz.func142, Tryz.ntmps142
    go_wp2_with (go_at_call 156; refine HC.out.mono ?_; rintro e w' ⟨rfl, rfl⟩)
    go_ret
    exact ⟨rfl, rfl⟩
  · rw [he]
    exact ctni_some b o cap l l.length x w (Nat.le_refl _) hl (fun i hi => by rw [getD_at hi]; exact h3 i hi)
end Go.Proofs.YtfnemlbkmhcodaaGreat
