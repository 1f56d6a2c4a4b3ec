/-
  A NUMBER THAT IS READ WAS WRITTEN IN JUST THAT WAY: WireOnce answers true. Conditions: the slice's cells hold bytes; errors.errorType holds the handle of the type error.
-/
import Derived.Test.YtfjkahclobnhiaaDoorWorks
namespace Go.Proofs.YtfjkahclobnhiaaDoor
open Go.RowKit

set_option maxRecDepth 100000 in
set_option maxHeartbeats 8000000 in
theorem once_long (ao : Option Addr) (L cap : Nat) (w : World) (hg : Hnd w) (hL : 100 < L) (h63 : L ≤ 9223372036854775807) :
    Calls Tryd.prog 6 #[.slice ao L cap] w fun e w' => e = .returned (.bool true) ∧ Below w.heap.size w w' := by
  have HW := hide (works_any w hg)
  clear hg
  go_enter Tryd.func6, Tryd.ntmps6
  go_wp2_with (first | (go_at_call 8; refine (HW.out).mono ?_; rintro e w' ⟨rfl, hb⟩))
  go_ret
  exact ⟨rfl, hb⟩
theorem Sl.head {W : World} {b o L cap k : Nat} {l : List Int} (hL : L = l.length) (h3 : ∀ i (h : i < l.length), W.cell? ⟨b, o + i, none⟩ = some (bc l[i])) (hk : k ≤ L) (hc : L ≤ cap) : Sl bc W (.slice (some ⟨b, o, none⟩) k cap) (l.take k) := by
  have e : (l.take k).length = k := by rw [List.length_take]; omega
  refine .inr ⟨b, o, cap, by rw [e], by omega, fun i hi => ?_⟩
  rw [e] at hi
  rw [List.getElem_take]
  exact h3 i (by omega)
set_option maxRecDepth 100000 in
set_option maxHeartbeats 8000000 in
theorem once_bad (ao : Option Addr) (L cap : Nat) (c : Int) (w : World) (hg : Hnd w) (hL : L ≤ 100)
    (HN : Hid (∀ W, Rd W w.heap.size (.slice ao L cap) 0 .nilIface → Below w.heap.size w W → Calls Tryd.prog 29 #[.pointer (some ⟨w.heap.size, 0, none⟩), .int .u64 4611686018427387904] W fun x w' => x = .returned (.int .u64 0) ∧ Rd w' w.heap.size (.slice ao L cap) 0 (ft ⟨#[110, 117, 109]⟩ 0 c) ∧ Bx w.heap.size W w')) :
    Calls Tryd.prog 6 #[.slice ao L cap] w fun e w' => e = .returned (.bool true) ∧ Below w.heap.size w w' := by
  have G0 := hide hg
  clear hg
  have hL' : ¬ 100 < L := by omega
  go_enter Tryd.func6, Tryd.ntmps6
  go_wp2_with (first | (go_at_call 20; refine (read_any ao L cap _).mono ?_; rintro e w1 ⟨rfl, hr1, hb1⟩))
  refine (HN.out _ hr1 hb1).mono ?_
  rintro e w2 ⟨rfl, hr2, hx2⟩
  have HB2 := hide (hr1.low hb1 hx2 (Nat.le_refl _))
  have HR2 := hide hr2
  clear hr1 hb1 hx2 hr2 HN
  unfold ft at HR2
  have HW := hide (works_any w2 (G0.out.below HB2.out))
  go_wp2_with (first
    | (go_at_call 26; refine (err_any _ _ _ _ _ HR2.out).mono ?_; rintro e w' ⟨rfl, rfl⟩)
    | (go_at_call 24; refine (at_any _ _ _ _ _ HR2.out).mono ?_; rintro e w' ⟨rfl, rfl⟩)
    | (go_at_call 8; refine (HW.out).mono ?_; rintro e w3 ⟨rfl, hb3⟩))
  go_ret
  exact ⟨rfl, HB2.out.trans (hb3.mono HB2.out.size)⟩
set_option maxRecDepth 100000 in
set_option maxHeartbeats 8000000 in
theorem once_ok (b o cap k : Nat) (l : List Int) (x : Int) (w : World) (hg : Hnd w) (hL : l.length ≤ 100) (hc : l.length ≤ cap) (hk : k ≤ l.length) (hx0 : 0 ≤ x) (hx1 : x ≤ 4611686018427387903) (hkx : l.take k = numL x) (h3 : ∀ i (h : i < l.length), w.cell? ⟨b, o + i, none⟩ = some (bc l[i]))
    (HN : Hid (∀ W, Rd W w.heap.size (.slice (some ⟨b, o, none⟩) l.length cap) 0 .nilIface → Below w.heap.size w W → Calls Tryd.prog 29 #[.pointer (some ⟨w.heap.size, 0, none⟩), .int .u64 4611686018427387904] W fun y w' => y = .returned (.int .u64 x) ∧ Rd w' w.heap.size (.slice (some ⟨b, o, none⟩) l.length cap) k .nilIface ∧ Bx w.heap.size W w')) :
    Calls Tryd.prog 6 #[.slice (some ⟨b, o, none⟩) l.length cap] w fun e w' => e = .returned (.bool true) ∧ Below w.heap.size w w' := by
  have G0 := hide hg
  have H3 := hide h3
  have HK := hide hkx
  clear hg h3 hkx
  have hL' : ¬ 100 < l.length := by omega
  go_enter Tryd.func6, Tryd.ntmps6
  go_wp2_with (first | (go_at_call 20; refine (read_any _ l.length cap _).mono ?_; rintro e w1 ⟨rfl, hr1, hb1⟩))
  refine (HN.out _ hr1 hb1).mono ?_
  rintro e w2 ⟨rfl, hr2, hx2⟩
  have HB2 := hide (hr1.low hb1 hx2 (Nat.le_refl _))
  have HR2 := hide hr2
  clear hr1 hb1 hx2 hr2 HN
  go_wp2_with (first
    | (go_at_call 26; refine (err_any _ _ _ _ _ HR2.out).mono ?_; rintro e w' ⟨rfl, rfl⟩))
  refine (wnum_any w'.heap.size _ 0 [] x w' (rw_nil _ _) (Nat.le_refl _) (by omega) hx0).mono ?_
  rintro e w3 ⟨v3, cur3, rfl, hp3⟩
  have hS : Sl bc w3 v3 (numL x) := by
    have h1 := hp3.rw.owns
    rw [hp3.tk, show capN x = x from if_neg (by omega)] at h1
    exact sl_of_owns (by simpa [bv_eq] using h1)
  have HR3 := hide (HR2.out.below hp3.below)
  have HB3 := hide (HB2.out.trans (hp3.below.mono HB2.out.size))
  have HSame := hide (same_bytes v3 (.slice (some ⟨b, o, none⟩) k cap) (numL x) w3 hS (by
    rw [← HK.out]
    exact Sl.head rfl (fun i hi => by rw [HB3.out.cell (p := ⟨b, o + i, none⟩) (cell_block (H3.out i hi))]; exact H3.out i hi) hk hc) (by have := numL_le x; omega))
  clear hp3 hS
  go_wp2_with (first
    | (go_at_call 24; refine (at_any _ _ _ _ _ HR3.out).mono ?_; rintro e w' ⟨rfl, rfl⟩)
    | (go_at_call 18; refine (HSame.out).mono ?_; rintro e w4 ⟨rfl, hb4⟩; have HB4 := hide (HB3.out.trans (hb4.mono HB3.out.size)); clear hb4)
    | (go_at_call 8; refine (works_any _ (G0.out.below HB4.out)).mono ?_; rintro e w5 ⟨rfl, hb5⟩))
  go_ret
  exact ⟨rfl, HB4.out.trans (hb5.mono HB4.out.size)⟩
theorem once_law (v : Value) (l : List Int) (w : World) (hg : Hnd w) (hv : Sl bc w v l) (hby : Byt l) (h63 : l.length ≤ 9223372036854775807) :
    Calls Tryd.prog 6 #[v] w fun e w' => e = .returned (.bool true) ∧ Below w.heap.size w w' := by
  by_cases hL : 100 < l.length
  · obtain ⟨ao, cap, rfl⟩ := hv.form
    exact once_long ao l.length cap w hg hL h63
  · have hq := fun W (hr : Rd W w.heap.size v 0 .nilIface) (hb : Below w.heap.size w W) => rnum_any w.heap.size v l 0 4611686018427387904 W hr (hv.below hb) (by omega) hby (Nat.zero_le _)
    rw [List.drop_zero] at hq
    rcases hn : numS l 4611686018427387904 with ⟨c, k, x⟩
    rw [hn] at hq
    by_cases hc : c = 0
    · subst hc
      obtain ⟨h1, _, h2, h3, _, h4⟩ := numS_once hby hn
      rcases hv with ⟨ao, cap, rfl, rfl⟩ | ⟨b, o, cap, rfl, hcap, hcell⟩
      · simp [numS] at hn
      · refine once_ok b o cap k l x w hg (by omega) hcap h4 h2 h3 h1 hcell (hide fun W hr hb => ?_)
        have := hq W hr hb
        simpa [erN] using this
    · obtain ⟨rfl, rfl⟩ := numS_bad hn hc
      obtain ⟨ao, cap, rfl⟩ := hv.form
      refine once_bad ao l.length cap c w hg (by omega) (hide fun W hr hb => ?_)
      have := hq W hr hb
      simpa [erN, hc] using this
end Go.Proofs.YtfjkahclobnhiaaDoor
