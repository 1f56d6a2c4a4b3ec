/-
  WHAT IS WRONG FIRST (spans.Check, and the document's): a code, and at which span; nil, if nothing is. Conditions: the spans' cells hold them; no more than a hundred thousand.
-/
import Derived.Test.YtkihdceieljkgaaDoorSpF
import Derived.BigQuiet
import Derived.WalkSmall
import Derived.Deep.DeepCutAuto
namespace Go.Proofs.YtkihdceieljkgaaDoor
open Go.RowKit

def ivS : Value → Int
  | .int _ n => n
  | _ => 0
/-- The error of a code at a span; nil for nought. -/
def erS (r : Int × Nat) : Value := if r.1 = 0 then .nilIface else .iface 51 (.agg #[.string ⟨#[115, 112, 97, 110]⟩, .int .i64 (r.2 : Int), .iface 29 (.int .i64 r.1)])
set_option maxRecDepth 100000 in
set_option maxHeartbeats 4000000 in
theorem newS_any (k : Int) (c : Int) (w : World) : Calls Tryd.prog 20 #[.string ⟨#[115, 112, 97, 110]⟩, .int .i64 k, .int .i64 c] w fun e w' => e = .returned (.iface 51 (.agg #[.string ⟨#[115, 112, 97, 110]⟩, .int .i64 k, .iface 29 (.int .i64 c)])) ∧ w' = w := by
  go_enter Tryd.func20, Tryd.ntmps20
  go_wp2
  go_ret
  exact ⟨rfl, rfl⟩
theorem chk_on {l : List Spn} {k : Nat} (hk : k < l.length) (h : chkL l = chkS l (l.length - k) k) (hb : badL l k = 0) : chkL l = chkS l (l.length - (k + 1)) (k + 1) := by
  rw [h]
  obtain ⟨d, hd⟩ : ∃ d, l.length - k = d + 1 := ⟨l.length - k - 1, by omega⟩
  rw [hd, show l.length - (k + 1) = d by omega]
  show (if _ then _ else _) = _
  rw [if_pos hb]
theorem chk_off {l : List Spn} {k : Nat} (hk : k < l.length) (h : chkL l = chkS l (l.length - k) k) (hb : ¬ badL l k = 0) : chkL l = (badL l k, k) := by
  rw [h]
  obtain ⟨d, hd⟩ : ∃ d, l.length - k = d + 1 := ⟨l.length - k - 1, by omega⟩
  rw [hd]
  show (if _ then _ else _) = _
  rw [if_neg hb]
theorem chk_end {l : List Spn} (h : chkL l = chkS l (l.length - l.length) l.length) : chkL l = (0, 0) := by
  rw [h, Nat.sub_self]
  rfl
theorem bad_zero {l : List Spn} (h : 0 < l.length) : badL l 0 = if badN (l[0]).1 || badN (l[0]).2 then 2 else 0 := by
  unfold badL badC
  rw [List.getElem?_eq_getElem h]
  simp
theorem bad_succ {l : List Spn} {m : Nat} (h : m + 1 < l.length) : badL l (m + 1) = if badN (l[m + 1]).1 || badN (l[m + 1]).2 then 2 else if (l[m + 1]).1 ≤ (l[m]).1 ∨ (l[m + 1]).2 ≤ (l[m]).2 then 10 else 0 := by
  unfold badL badC
  rw [List.getElem?_eq_getElem h, List.getElem?_eq_getElem (by omega : m + 1 - 1 < l.length)]
  simp
set_option maxRecDepth 100000 in
set_option maxHeartbeats 16000000 in
theorem check_any (v : Value) (l : List Spn) (w : World) (hv : Ssp w v l) (hs : l.length ≤ 100000) : Calls Tryd.prog 5 #[v] w fun e w' => e = .returned (erS (chkL l)) ∧ Below w.heap.size w w' := by
  obtain ⟨ao, cap, rfl⟩ := hv.form
  have HV := hide hv
  obtain ⟨E, hE⟩ : ∃ E, erS (chkL l) = E := ⟨_, rfl⟩
  rw [hE]
  have HE := hide hE
  clear hv hE
  go_enter Tryd.func5, Tryd.ntmps5
  go_wp2
  go_loopw [7] (fun i W => ∃ k : Nat, k ≤ l.length ∧ i = .int .i64 k ∧ chkL l = chkS l (l.length - k) k ∧ Below w.heap.size w W) (fun i _ => l.length - (ivS i).toNat)
  case atStart => exact ⟨0, Nat.zero_le _, rfl, rfl, Below.refl _ _⟩
  case round =>
    obtain ⟨k, hk, rfl, hc, hb⟩ := hrel
    have HC := hide hc
    have HB := hide hb
    clear hc hb
    by_cases hlt : k < l.length
    · obtain ⟨b, o, cap', e, -, -, -⟩ := HV.out.at hlt
      obtain rfl := (Value.slice.inj e).1
      clear e
      obtain ⟨c0, c1⟩ := (HV.out.below HB.out).cells hlt
      obtain ⟨x, hx⟩ : ∃ x, (l[k]).1 = x := ⟨_, rfl⟩
      obtain ⟨y, hy⟩ : ∃ y, (l[k]).2 = y := ⟨_, rfl⟩
      rw [hx] at c0
      rw [hy] at c1
      have HXY := hide (And.intro hx hy)
      clear hx hy
      have hltI : (k : Int) < (l.length : Int) := by omega
      have HAL : Hid (Below w.heap.size w (wr.alloc (.cells #[.int .i64 x, .int .i64 y] 43))) := hide (HB.out.alloc HB.out.size _)
      cases hbx : badN x with
      | true =>
        have HBD : Hid (badL l k = 2) := hide (by
          cases k with
          | zero => rw [bad_zero hlt, HXY.out.1, hbx]; rfl
          | succ m => rw [bad_succ hlt, HXY.out.1, hbx]; rfl)
        go_wp2_with (first
          | (go_at_call 19; refine (number_any _ _).mono ?_; rintro e W9 ⟨rfl, rfl⟩)
          | (go_at_call 20; refine (newS_any _ _ _).mono ?_; rintro e W9 ⟨rfl, rfl⟩))
        go_ret
        exact ⟨by rw [← HE.out, chk_off hlt HC.out (by rw [HBD.out]; decide), HBD.out]; rfl, HAL.out⟩
      | false =>
        cases hby : badN y with
        | true =>
          have HBD : Hid (badL l k = 2) := hide (by
            cases k with
            | zero => rw [bad_zero hlt, HXY.out.1, HXY.out.2, hbx, hby]; rfl
            | succ m => rw [bad_succ hlt, HXY.out.1, HXY.out.2, hbx, hby]; rfl)
          go_wp2_with (first
            | (go_at_call 19; refine (number_any _ _).mono ?_; rintro e W9 ⟨rfl, rfl⟩)
            | (go_at_call 20; refine (newS_any _ _ _).mono ?_; rintro e W9 ⟨rfl, rfl⟩))
          go_ret
          exact ⟨by rw [← HE.out, chk_off hlt HC.out (by rw [HBD.out]; decide), HBD.out]; rfl, HAL.out⟩
        | false =>
          have q0 : (wr.alloc (.cells #[.int .i64 x, .int .i64 y] 43)).cell? ⟨wr.heap.size, 0, none⟩ = some (.int .i64 x) := World.cell?_alloc_at _ _ _ _ rfl
          have q1 : (wr.alloc (.cells #[.int .i64 x, .int .i64 y] 43)).cell? ⟨wr.heap.size, 1, none⟩ = some (.int .i64 y) := World.cell?_alloc_at _ _ _ _ rfl
          cases k with
          | zero =>
            simp only [Nat.zero_mul, Nat.add_zero] at c0 c1
            have HBD : Hid (badL l 0 = 0) := hide (by rw [bad_zero hlt, HXY.out.1, HXY.out.2, hbx, hby]; rfl)
            go_wp2_with (first
              | (go_at_call 19; refine (number_any _ _).mono ?_; rintro e W9 ⟨rfl, rfl⟩))
            go_quiet (fail)
            go_wp2
            exact ⟨⟨1, by omega, rfl, chk_on hlt HC.out HBD.out, below_drewN HAL.out _⟩, by simp [ivS]; omega⟩
          | succ m =>
            have hmm : m < l.length := by omega
            obtain ⟨d0, d1⟩ := (HV.out.below HAL.out).cells hmm
            obtain ⟨p, hp⟩ : ∃ p, (l[m]).1 = p := ⟨_, rfl⟩
            obtain ⟨q, hq⟩ : ∃ q, (l[m]).2 = q := ⟨_, rfl⟩
            rw [hp] at d0
            rw [hq] at d1
            have HPQ := hide (And.intro hp hq)
            clear hp hq
            have hm0 : decide ((0 : Int) < (m : Int) + 1) = true := decide_eq_true (by omega)
            have hmI : (m : Int) < (l.length : Int) := by omega
            by_cases h1 : x ≤ p
            · have HBD : Hid (badL l (m + 1) = 10) := hide (by rw [bad_succ hlt, HXY.out.1, HXY.out.2, HPQ.out.1, hbx, hby]; simp [h1])
              have h1' : decide (x ≤ p) = true := decide_eq_true h1
              go_wp2_with (first
                | (go_at_call 19; refine (number_any _ _).mono ?_; rintro e W9 ⟨rfl, rfl⟩))
              go_quiet (fail)
              go_wp2_with (first
                | (go_at_call 20; refine (newS_any _ _ _).mono ?_; rintro e W9 ⟨rfl, rfl⟩))
              go_ret
              exact ⟨by rw [← HE.out, chk_off hlt HC.out (by rw [HBD.out]; decide), HBD.out]; rfl, below_drewN HAL.out _⟩
            · have h1' : decide (x ≤ p) = false := decide_eq_false h1
              by_cases h2 : y ≤ q
              · have HBD : Hid (badL l (m + 1) = 10) := hide (by rw [bad_succ hlt, HXY.out.1, HXY.out.2, HPQ.out.2, hbx, hby]; simp [h2])
                have h2' : decide (y ≤ q) = true := decide_eq_true h2
                go_wp2_with (first
                  | (go_at_call 19; refine (number_any _ _).mono ?_; rintro e W9 ⟨rfl, rfl⟩))
                go_quiet (fail)
                go_wp2_with (first
                  | (go_at_call 20; refine (newS_any _ _ _).mono ?_; rintro e W9 ⟨rfl, rfl⟩))
                go_ret
                exact ⟨by rw [← HE.out, chk_off hlt HC.out (by rw [HBD.out]; decide), HBD.out]; rfl, below_drewN HAL.out _⟩
              · have HBD : Hid (badL l (m + 1) = 0) := hide (by rw [bad_succ hlt, HXY.out.1, HXY.out.2, HPQ.out.1, HPQ.out.2, hbx, hby]; simp [h1, h2])
                have h2' : decide (y ≤ q) = false := decide_eq_false h2
                go_wp2_with (first
                  | (go_at_call 19; refine (number_any _ _).mono ?_; rintro e W9 ⟨rfl, rfl⟩))
                go_quiet (fail)
                go_wp2
                exact ⟨⟨m + 1 + 1, by omega, by go_num, chk_on hlt HC.out HBD.out, below_drewN HAL.out _⟩, by simp [ivS]; omega⟩
    · obtain rfl : k = l.length := by omega
      go_wp2
      go_ret
      exact ⟨by rw [← HE.out, chk_end HC.out]; rfl, HB.out⟩
end Go.Proofs.YtkihdceieljkgaaDoor
