/-
  WHERE A TERM ENDS, AS THE DOCUMENT SAYS (castellanref13.EndOf, Parted, Keep, first). Condition: the spans' cells hold them; no more than a hundred thousand.
-/
import Derived.Test.YtkihdceieljkgaaSpC
namespace Go.Proofs.Ytkihdceieljkgaa
open Go.RowKit

def endV : Option (Int × Int) → Value
  | none => .tuple #[.int .i64 0, .int .i64 0, .bool false]
  | some r => .tuple #[.int .i64 r.1, .int .i64 r.2, .bool true]
/-- Where the loop stands: the spans up to k are left, and the end is the next one's start. -/
def nextE (l : List Spn) (e : Int) (k : Nat) : Int := if k = l.length then e else (l[k]?.getD (0, 0)).2
theorem end_on {l : List Spn} {t e : Int} {m : Nat} (hm : m < l.length) (h : endL l t e = endL (l.take (m + 1)) t (nextE l e (m + 1))) (ht : ¬ (l[m]).1 ≤ t) : endL l t e = endL (l.take m) t (nextE l e m) := by
  rw [h, endL_step l m hm, if_neg ht]
  congr 1
  unfold nextE
  rw [if_neg (by omega), List.getElem?_eq_getElem hm]
  rfl
theorem end_off {l : List Spn} {t e : Int} {m : Nat} (hm : m < l.length) (h : endL l t e = endL (l.take (m + 1)) t (nextE l e (m + 1))) (ht : (l[m]).1 ≤ t) : endL l t e = some ((l[m]).1, nextE l e (m + 1)) := by
  rw [h, endL_step l m hm, if_pos ht]
set_option maxRecDepth 100000 in
set_option maxHeartbeats 8000000 in
theorem rend_any (v : Value) (l : List Spn) (t z : Int) (w : World) (hv : Ssp w v l) (hs : l.length ≤ 100000) : Calls Try.prog 9 #[v, .int .i64 t, .int .i64 z] w fun e w' => e = .returned (endV (endL l t z)) ∧ Below w.heap.size w w' := by
  obtain ⟨ao, cap, rfl⟩ := hv.form
  have HV := hide hv
  obtain ⟨E, hE⟩ : ∃ E, endV (endL l t z) = E := ⟨_, rfl⟩
  rw [hE]
  have HE := hide hE
  clear hv hE
  go_enter Try.func9, Try.ntmps9
  go_wp2
  go_loopw [9] (fun i W => ∃ k : Nat, k ≤ l.length ∧ i = .int .i64 ((k : Int) - 1) ∧ endL l t z = endL (l.take k) t (nextE l z k) ∧ Below w.heap.size w W) (fun i _ => (ivS i + 1).toNat)
  case atStart => exact ⟨l.length, Nat.le_refl _, by go_num, by rw [List.take_length]; unfold nextE; rw [if_pos rfl], Below.refl _ _⟩
  case round =>
    obtain ⟨k, hk, rfl, hc, hb⟩ := hrel
    have HC := hide hc
    have HB := hide hb
    clear hc hb
    cases k with
    | zero =>
      go_wp2
      go_ret3
      exact ⟨by rw [← HE.out, HC.out]; rfl, HB.out⟩
    | succ m =>
      have hlt : m < l.length := by omega
      obtain ⟨b, o, cap', e, -, -, -⟩ := HV.out.at hlt
      obtain rfl := (Value.slice.inj e).1
      clear e
      obtain ⟨c0, -⟩ := (HV.out.below HB.out).cells hlt
      obtain ⟨x, hx⟩ : ∃ x, (l[m]).1 = x := ⟨_, rfl⟩
      rw [hx] at c0
      have HX := hide hx
      clear hx
      have hmI : (m : Int) < (l.length : Int) := by omega
      have e0 : ((m + 1 : Nat) : Int) - 1 = (m : Int) := by omega
      rw [e0]
      clear e0
      by_cases ht : x ≤ t
      · have HEN := hide (end_off hlt HC.out (by rw [HX.out]; exact ht))
        have ht' : ¬ t < x := by omega
        by_cases hl : m + 1 = l.length
        · have hl2 : (l.length : Int) - 1 = (m : Int) := by omega
          go_wp2
          go_ret3
          exact ⟨by rw [← HE.out, HEN.out, HX.out]; unfold nextE; rw [if_pos hl]; rfl, HB.out⟩
        · have hl3 : m + 1 < l.length := by omega
          have hne : ((m : Int) == (l.length : Int) - 1) = false := by simp; omega
          obtain ⟨-, d1⟩ := (HV.out.below HB.out).cells hl3
          obtain ⟨y, hy⟩ : ∃ y, (l[m + 1]).2 = y := ⟨_, rfl⟩
          rw [hy] at d1
          have HY := hide hy
          clear hy
          have hm1 : (m : Int) + 1 < (l.length : Int) := by omega
          go_wp2
          go_quiet (fail)
          go_wp2
          go_ret3
          exact ⟨by rw [← HE.out, HEN.out, HX.out]; unfold nextE; rw [if_neg hl, List.getElem?_eq_getElem hl3]; simp only [Option.getD_some, HY.out]; rfl, below_drewN HB.out _⟩
      · have HEN := hide (end_on hlt HC.out (by rw [HX.out]; exact ht))
        have ht' : t < x := by omega
        go_wp2
        exact ⟨⟨m, by omega, by go_num, HEN.out, HB.out⟩, by simp [ivS]⟩
end Go.Proofs.Ytkihdceieljkgaa
