/-
  A SLOT'S VALUE IS PUT, SYNCED AND TOLD (Slot.Put, Sync, Value, Turn). Conditions: turns below 256; room for its blocks; fewer than twenty thousand blocks and writes.
-/
import Derived.Test.YtmgfcgknajehaaaSlP
import Derived.Test.YtmgfcgknajehaaaBcl
import Derived.Test.YtmgfcgknajehaaaChU
namespace Go.Proofs.Ytmgfcgknajehaaa
open Go.RowKit

def opTurn : ByteArray := ⟨#[116, 117, 114, 110]⟩
def opValue : ByteArray := ⟨#[118, 97, 108, 117, 101]⟩
theorem own_slp {W : World} {B : Nat} {v : Value} {b : List Int} (h : W.ownsRow B 5 1 v b.length (bv b)) : Slp (fun k => B ≤ k) W v b := slp_of (sl_of_own h) (fr_own h (Nat.le_refl _))
section
variable {c d bS bT : Nat} {u : Value} {s : Dst} {a T : Int} {v : Value} {V : List Int} {lz : Bool}
set_option maxRecDepth 100000 in
set_option maxHeartbeats 16000000 in
theorem sput_lim (c n cap : Nat) (ao : Option Addr) (w : World) (h : 47 < n) : Calls Try.prog 21 #[.pointer (some ⟨c, 0, none⟩), .slice ao n cap] w fun e w' => e = .returned (ev (some ([(opValue, (n : Int))], 6))) ∧ w' = w := by
  have hI : (47 : Int) < (n : Int) := by omega
  go_enter Try.func21, Try.ntmps21
  go_wp2_with (first | (go_at_call 32; refine (new_any _ _ _ _).mono ?_; rintro e w9 ⟨rfl, hw9⟩; rw [hw9]; clear hw9 w9))
  go_ret
  exact ⟨rfl, rfl⟩
set_option maxRecDepth 100000 in
set_option maxHeartbeats 16000000 in
theorem sput_state (ao : Option Addr) (n cap : Nat) (w : World) (h : Slo w c d bS bT u s a T v V true) (hn : n ≤ 47) (hw : s.wt < 30000) (ha : Num a) (ha1 : Num (a + 1)) (hT : (slotAt s.cs a).1 < T) : Calls Try.prog 21 #[.pointer (some ⟨c, 0, none⟩), .slice ao n cap] w fun e w' => e = .returned (ev (some ([(opTurn, T)], 10))) ∧ Below w.heap.size w w' := by
  have HX := hide h.x
  have HQ := hide h.q
  have HA := hide ha
  have HA1 := hide ha1
  have hnI : ¬ (47 : Int) < (n : Int) := by omega
  clear h ha1
  go_enter Try.func21, Try.ntmps21
  go_upto_region 3 with fail
  have hdw : Below w.heap.size w w.drew := (Below.refl _ _).drew
  refine wp_region_held_drew (S := fun W => W.cell? ⟨c, 4, none⟩ = some (.bool true) ∧ W.cell? ⟨c, 2, none⟩ = some (.int .i64 T)) (by kernel_rfl) ⟨(HX.out.below hdw).c4, (HX.out.below hdw).c2⟩ (fun hHeld => ?_)
  have HX1 := hide (HX.out.below hdw)
  have HQ1 := hide (HQ.out.below hdw)
  have HB1 := hide hdw
  generalize w.drew = W1 at HX1 HQ1 HB1 hHeld ⊢
  clear hdw HX HQ
  refine wpAnyH_take (i := 0) (oi := _) (v := .pointer (some ⟨c, 0, none⟩)) rfl (by kernel_rfl) (by kernel_rfl) (by kernel_rfl) (fun _ _ _ h => h) (Or.inl ⟨by rfl, by intro w hSw; go_simp⟩) hHeld ?_
  change wpAnyH _ _ _ _ _ _ _ (Act.put _ (some 13) _) _
  simp only [Act.put, List.setIfInBounds_toArray, List.set_cons_zero, List.set_cons_succ]
  refine wpAnyH_take (i := 1) (oi := _) (v := .pointer (some ⟨c, 0, none⟩)) rfl (by kernel_rfl) (by kernel_rfl) (by kernel_rfl) (fun _ _ _ h => h) (Or.inl ⟨by rfl, by intro w hSw; go_simp⟩) hHeld ?_
  change wpAnyH _ _ _ _ _ _ _ (Act.put _ (some 14) _) _
  simp only [Act.put, List.setIfInBounds_toArray, List.set_cons_zero, List.set_cons_succ]
  refine wpAnyH_take (i := 2) (oi := _) (v := .pointer (some ⟨c, 4, none⟩)) rfl (by kernel_rfl) (by kernel_rfl) (by kernel_rfl) (fun _ _ _ h => h) (Or.inl ⟨by rfl, by intro w hSw; go_simp⟩) hHeld ?_
  change wpAnyH _ _ _ _ _ _ _ (Act.put _ (some 15) _) _
  simp only [Act.put, List.setIfInBounds_toArray, List.set_cons_zero, List.set_cons_succ]
  refine wpAnyH_take (i := 3) (oi := _) (v := .bool true) rfl (by kernel_rfl) (by kernel_rfl) (by kernel_rfl) (fun _ _ _ h => h) (Or.inl ⟨by rfl, by intro w hSw; have h1 := hSw.1; go_simp⟩) hHeld ?_
  change wpAnyH _ _ _ _ _ _ _ (Act.put _ (some 16) _) _
  simp only [Act.put, List.setIfInBounds_toArray, List.set_cons_zero, List.set_cons_succ]
  refine wpAnyH_take (i := 4) (oi := _) (v := .bool true) rfl (by kernel_rfl) (by kernel_rfl) (by kernel_rfl) (fun _ _ _ h => h) (Or.inl ⟨by rfl, by intro w hSw; go_simp⟩) hHeld ?_
  change wpAnyH _ _ _ _ _ _ _ (Act.put _ (some 17) _) _
  simp only [Act.put, List.setIfInBounds_toArray, List.set_cons_zero, List.set_cons_succ]
  refine wpAnyH_take (i := 5) (oi := _) (v := .pointer (some ⟨c, 0, none⟩)) rfl (by kernel_rfl) (by kernel_rfl) (by kernel_rfl) (fun _ _ _ h => h) (Or.inl ⟨by rfl, by intro w hSw; go_simp⟩) hHeld ?_
  change wpAnyH _ _ _ _ _ _ _ (Act.put _ (some 18) _) _
  simp only [Act.put, List.setIfInBounds_toArray, List.set_cons_zero, List.set_cons_succ]
  refine wpAnyH_take (i := 7) (oi := _) (v := .pointer (some ⟨c, 0, none⟩)) rfl (by kernel_rfl) (by kernel_rfl) (by kernel_rfl) (fun _ _ _ h => h) (Or.inl ⟨by rfl, by intro w hSw; go_simp⟩) hHeld ?_
  change wpAnyH _ _ _ _ _ _ _ (Act.put _ (some 20) _) _
  simp only [Act.put, List.setIfInBounds_toArray, List.set_cons_zero, List.set_cons_succ]
  refine wpAnyH_take (i := 8) (oi := _) (v := .pointer (some ⟨c, 0, none⟩)) rfl (by kernel_rfl) (by kernel_rfl) (by kernel_rfl) (fun _ _ _ h => h) (Or.inl ⟨by rfl, by intro w hSw; go_simp⟩) hHeld ?_
  change wpAnyH _ _ _ _ _ _ _ (Act.put _ (some 21) _) _
  simp only [Act.put, List.setIfInBounds_toArray, List.set_cons_zero, List.set_cons_succ]
  refine wpAnyH_take (i := 9) (oi := _) (v := .pointer (some ⟨c, 2, none⟩)) rfl (by kernel_rfl) (by kernel_rfl) (by kernel_rfl) (fun _ _ _ h => h) (Or.inl ⟨by rfl, by intro w hSw; go_simp⟩) hHeld ?_
  change wpAnyH _ _ _ _ _ _ _ (Act.put _ (some 22) _) _
  simp only [Act.put, List.setIfInBounds_toArray, List.set_cons_zero, List.set_cons_succ]
  refine wpAnyH_take (i := 10) (oi := _) (v := .pointer (some ⟨c, 2, none⟩)) rfl (by kernel_rfl) (by kernel_rfl) (by kernel_rfl) (fun _ _ _ h => h) (Or.inl ⟨by rfl, by intro w hSw; go_simp⟩) hHeld ?_
  change wpAnyH _ _ _ _ _ _ _ (Act.put _ (some 23) _) _
  simp only [Act.put, List.setIfInBounds_toArray, List.set_cons_zero, List.set_cons_succ]
  refine wpAnyH_take (i := 11) (oi := _) (v := .int .i64 T) rfl (by kernel_rfl) (by kernel_rfl) (by kernel_rfl) (fun _ _ _ h => h) (Or.inl ⟨by rfl, by intro w hSw; have h1 := hSw.2; go_simp⟩) hHeld ?_
  change wpAnyH _ _ _ _ _ _ _ (Act.put _ (some 24) _) _
  simp only [Act.put, List.setIfInBounds_toArray, List.set_cons_zero, List.set_cons_succ]
  refine wpAnyH_ready (rs := [6]) (by kernel_rfl) (by simp) ?_
  refine AllReadyH.cons (o := _) rfl (fun K hK => ?_) AllReadyH.nil
  go_simp
  go_at_call 47
  refine (synced_any c a _ _ _ _ HX1.out HQ1.out hw HA.out HA1.out).mono ?_
  rintro e W2 ⟨rfl, hb2⟩
  go_wp2_with fail
  refine hK.out _ _ ⟨(hb2.cell (p := ⟨c, 4, none⟩) HX1.out.lt).trans hHeld.1, (hb2.cell (p := ⟨c, 2, none⟩) HX1.out.lt).trans hHeld.2⟩ (fun hHeld1 => ?_)
  clear hK K hHeld
  have hHeld := hHeld1
  clear hHeld1
  have HX2 := hide (HX1.out.below hb2)
  have HB2 := hide (bt HB1.out hb2)
  clear hb2 HX1 HB1 HQ1
  have hdT : decide ((slotAt s.cs a).1 < T) = true := decide_eq_true hT
  refine wpAnyH_take (i := 12) (oi := _) (v := .bool true) rfl (by kernel_rfl) (by kernel_rfl) (by kernel_rfl) (fun _ _ _ h => h) (Or.inl ⟨by rfl, by intro w hSw; go_simp⟩) hHeld ?_
  change wpAnyH _ _ _ _ _ _ _ (Act.put _ (some 25) _) _
  simp only [Act.put, List.setIfInBounds_toArray, List.set_cons_zero, List.set_cons_succ]
  refine wpAnyH_take (i := 13) (oi := _) (v := .bool true) rfl (by kernel_rfl) (by kernel_rfl) (by kernel_rfl) (fun _ _ _ h => h) (Or.inl ⟨by rfl, by intro w hSw; go_simp⟩) hHeld ?_
  change wpAnyH _ _ _ _ _ _ _ (Act.put _ (some 26) _) _
  simp only [Act.put, List.setIfInBounds_toArray, List.set_cons_zero, List.set_cons_succ]
  refine wpAnyH_done (by kernel_rfl) ?_ _
  clear hHeld hdT
  have x2 := HX2.out.c2
  go_wp2_with (first | (go_at_call 32; refine (new_any _ _ _ _).mono ?_; rintro e w9 ⟨rfl, hw9⟩; rw [hw9]; clear hw9 w9))
  go_ret
  exact ⟨rfl, HB2.out⟩
/-- What Put answers. -/
def PutP (w w' : World) (e : Ending) (c d bS bT : Nat) (u : Value) (s : Dst) (a T : Int) (X : List Int) : Prop := ∃ u' v', e = .returned .nilIface ∧ Slo w' c d bS bT u' (wrS s (a + (T + 1) % 2) (blkS (T + 1) X)) a (T + 1) v' X true ∧ Cx c d bS bT u w w' u'
set_option maxRecDepth 100000 in
set_option maxHeartbeats 16000000 in
theorem sput_ok (ao : Option Addr) (cap : Nat) (X : List Int) (w : World) (h : Slo w c d bS bT u s a T v V false) (hv : Sl bc w (.slice ao X.length cap) X) (hby : Byt X) (hn : X.length ≤ 47) (hw : s.wt < 20000) (hT : 0 ≤ T ∧ T < 255) (ha : Num a) (hE : wrE s (a + (T + 1) % 2) (blkS (T + 1) X) = none) : Calls Try.prog 21 #[.pointer (some ⟨c, 0, none⟩), .slice ao X.length cap] w fun e w' => PutP w w' e c d bS bT u s a T X := by
  have HS := hide h
  have HV := hide hv
  have HE := hide hE
  have HOW : Hid (∀ k, Own d bS bT u k → k < w.heap.size) := hide (fun k e => h.q.dk.lt e)
  have HCL : Hid (c < w.heap.size) := hide h.x.lt
  have hnI : ¬ (47 : Int) < (X.length : Int) := by omega
  obtain ⟨hT0, hT1⟩ := hT
  obtain ⟨ha0, hab⟩ := ha
  clear h hv hE
  go_enter Try.func21, Try.ntmps21
  go_upto_region 3 with fail
  have hdw : Below w.heap.size w w.drew := (Below.refl _ _).drew
  refine wp_region_held_drew (S := fun W => W.cell? ⟨c, 4, none⟩ = some (.bool false)) (by kernel_rfl) (HS.out.x.below hdw).c4 (fun hHeld => ?_)
  have HB1 := hide hdw
  generalize w.drew = W1 at HB1 hHeld ⊢
  clear hdw
  refine wpAnyH_take (i := 0) (oi := _) (v := .pointer (some ⟨c, 0, none⟩)) rfl (by kernel_rfl) (by kernel_rfl) (by kernel_rfl) (fun _ _ _ h => h) (Or.inl ⟨by rfl, by intro w hSw; go_simp⟩) hHeld ?_
  change wpAnyH _ _ _ _ _ _ _ (Act.put _ (some 13) _) _
  simp only [Act.put, List.setIfInBounds_toArray, List.set_cons_zero, List.set_cons_succ]
  refine wpAnyH_take (i := 1) (oi := _) (v := .pointer (some ⟨c, 0, none⟩)) rfl (by kernel_rfl) (by kernel_rfl) (by kernel_rfl) (fun _ _ _ h => h) (Or.inl ⟨by rfl, by intro w hSw; go_simp⟩) hHeld ?_
  change wpAnyH _ _ _ _ _ _ _ (Act.put _ (some 14) _) _
  simp only [Act.put, List.setIfInBounds_toArray, List.set_cons_zero, List.set_cons_succ]
  refine wpAnyH_take (i := 2) (oi := _) (v := .pointer (some ⟨c, 4, none⟩)) rfl (by kernel_rfl) (by kernel_rfl) (by kernel_rfl) (fun _ _ _ h => h) (Or.inl ⟨by rfl, by intro w hSw; go_simp⟩) hHeld ?_
  change wpAnyH _ _ _ _ _ _ _ (Act.put _ (some 15) _) _
  simp only [Act.put, List.setIfInBounds_toArray, List.set_cons_zero, List.set_cons_succ]
  refine wpAnyH_take (i := 3) (oi := _) (v := .bool false) rfl (by kernel_rfl) (by kernel_rfl) (by kernel_rfl) (fun _ _ _ h => h) (Or.inl ⟨by rfl, by intro w hSw; have h1 := hSw; go_simp⟩) hHeld ?_
  change wpAnyH _ _ _ _ _ _ _ (Act.put _ (some 16) _) _
  simp only [Act.put, List.setIfInBounds_toArray, List.set_cons_zero, List.set_cons_succ]
  refine wpAnyH_take (i := 4) (oi := _) (v := .bool false) rfl (by kernel_rfl) (by kernel_rfl) (by kernel_rfl) (fun _ _ _ h => h) (Or.inl ⟨by rfl, by intro w hSw; go_simp⟩) hHeld ?_
  change wpAnyH _ _ _ _ _ _ _ (Act.put _ (some 17) _) _
  simp only [Act.put, List.setIfInBounds_toArray, List.set_cons_zero, List.set_cons_succ]
  refine wpAnyH_take (i := 5) (oi := _) (v := undef) rfl (by kernel_rfl) (by kernel_rfl) (by kernel_rfl) (fun _ _ _ h => h) (Or.inr ⟨by rfl, rfl⟩) hHeld ?_
  change wpAnyH _ _ _ _ _ _ _ (Act.put _ (some 18) _) _
  simp only [Act.put, List.setIfInBounds_toArray, List.set_cons_zero, List.set_cons_succ]
  refine wpAnyH_take (i := 6) (oi := _) (v := undef) rfl (by kernel_rfl) (by kernel_rfl) (by kernel_rfl) (fun _ _ _ h => h) (Or.inr ⟨by rfl, rfl⟩) hHeld ?_
  change wpAnyH _ _ _ _ _ _ _ (Act.put _ (some 19) _) _
  simp only [Act.put, List.setIfInBounds_toArray, List.set_cons_zero, List.set_cons_succ]
  refine wpAnyH_take (i := 7) (oi := _) (v := undef) rfl (by kernel_rfl) (by kernel_rfl) (by kernel_rfl) (fun _ _ _ h => h) (Or.inr ⟨by rfl, rfl⟩) hHeld ?_
  change wpAnyH _ _ _ _ _ _ _ (Act.put _ (some 20) _) _
  simp only [Act.put, List.setIfInBounds_toArray, List.set_cons_zero, List.set_cons_succ]
  refine wpAnyH_take (i := 8) (oi := _) (v := undef) rfl (by kernel_rfl) (by kernel_rfl) (by kernel_rfl) (fun _ _ _ h => h) (Or.inr ⟨by rfl, rfl⟩) hHeld ?_
  change wpAnyH _ _ _ _ _ _ _ (Act.put _ (some 21) _) _
  simp only [Act.put, List.setIfInBounds_toArray, List.set_cons_zero, List.set_cons_succ]
  refine wpAnyH_take (i := 9) (oi := _) (v := undef) rfl (by kernel_rfl) (by kernel_rfl) (by kernel_rfl) (fun _ _ _ h => h) (Or.inr ⟨by rfl, rfl⟩) hHeld ?_
  change wpAnyH _ _ _ _ _ _ _ (Act.put _ (some 22) _) _
  simp only [Act.put, List.setIfInBounds_toArray, List.set_cons_zero, List.set_cons_succ]
  refine wpAnyH_take (i := 10) (oi := _) (v := undef) rfl (by kernel_rfl) (by kernel_rfl) (by kernel_rfl) (fun _ _ _ h => h) (Or.inr ⟨by rfl, rfl⟩) hHeld ?_
  change wpAnyH _ _ _ _ _ _ _ (Act.put _ (some 23) _) _
  simp only [Act.put, List.setIfInBounds_toArray, List.set_cons_zero, List.set_cons_succ]
  refine wpAnyH_take (i := 11) (oi := _) (v := undef) rfl (by kernel_rfl) (by kernel_rfl) (by kernel_rfl) (fun _ _ _ h => h) (Or.inr ⟨by rfl, rfl⟩) hHeld ?_
  change wpAnyH _ _ _ _ _ _ _ (Act.put _ (some 24) _) _
  simp only [Act.put, List.setIfInBounds_toArray, List.set_cons_zero, List.set_cons_succ]
  refine wpAnyH_take (i := 12) (oi := _) (v := undef) rfl (by kernel_rfl) (by kernel_rfl) (by kernel_rfl) (fun _ _ _ h => h) (Or.inr ⟨by rfl, rfl⟩) hHeld ?_
  change wpAnyH _ _ _ _ _ _ _ (Act.put _ (some 25) _) _
  simp only [Act.put, List.setIfInBounds_toArray, List.set_cons_zero, List.set_cons_succ]
  refine wpAnyH_take (i := 13) (oi := _) (v := .bool false) rfl (by kernel_rfl) (by kernel_rfl) (by kernel_rfl) (fun _ _ _ h => h) (Or.inl ⟨by rfl, by intro w hSw; go_simp⟩) hHeld ?_
  change wpAnyH _ _ _ _ _ _ _ (Act.put _ (some 26) _) _
  simp only [Act.put, List.setIfInBounds_toArray, List.set_cons_zero, List.set_cons_succ]
  refine wpAnyH_done (by kernel_rfl) ?_ _
  clear hHeld
  go_wp2_with fail
  go_cut [5] (fun p W => ∃ (g : Nat) (v' : Value), p = .pointer (some ⟨g, 0, none⟩) ∧ (∃ a n k, v' = .slice a n k) ∧ B2 W g (.int .i64 (T + 1)) v' ∧ Slp (fun b => w.heap.size ≤ b ∧ b ≠ g) W v' X ∧ w.heap.size ≤ g ∧ Below w.heap.size w W)
  case first =>
    have hdw : Below W1.heap.size W1 W1.drew := (Below.refl _ _).drew
    refine wp_region_held_drew (S := fun W => W.cell? ⟨c, 2, none⟩ = some (.int .i64 T)) (by kernel_rfl) (HS.out.x.below (bt HB1.out hdw)).c2 (fun hHeld => ?_)
    have HB2 := hide (bt HB1.out hdw)
    generalize W1.drew = W2 at HB2 hHeld ⊢
    clear hdw HB1
    have hwr : IntKind.i64.wrap (T + 1) = T + 1 := by rw [IntKind.wrap_i64]; omega
    have HCC : Hid (∀ W, Below w.heap.size w W → c < W.heap.size) := hide (fun W h => Nat.lt_of_lt_of_le HCL.out h.size)
    refine wpAnyH_take (i := 0) (oi := _) (v := .pointer (some ⟨c, 0, none⟩)) rfl (by kernel_rfl) (by kernel_rfl) (by kernel_rfl) (fun _ _ _ h => h) (Or.inl ⟨by rfl, by intro w hSw; go_simp⟩) hHeld ?_
    change wpAnyH _ _ _ _ _ _ _ (Act.put _ (some 33) _) _
    simp only [Act.put, List.setIfInBounds_toArray, List.set_cons_zero, List.set_cons_succ]
    refine wpAnyH_take (i := 1) (oi := _) (v := .pointer (some ⟨c, 0, none⟩)) rfl (by kernel_rfl) (by kernel_rfl) (by kernel_rfl) (fun _ _ _ h => h) (Or.inl ⟨by rfl, by intro w hSw; go_simp⟩) hHeld ?_
    change wpAnyH _ _ _ _ _ _ _ (Act.put _ (some 34) _) _
    simp only [Act.put, List.setIfInBounds_toArray, List.set_cons_zero, List.set_cons_succ]
    refine wpAnyH_take (i := 2) (oi := _) (v := .pointer (some ⟨c, 2, none⟩)) rfl (by kernel_rfl) (by kernel_rfl) (by kernel_rfl) (fun _ _ _ h => h) (Or.inl ⟨by rfl, by intro w hSw; go_simp⟩) hHeld ?_
    change wpAnyH _ _ _ _ _ _ _ (Act.put _ (some 35) _) _
    simp only [Act.put, List.setIfInBounds_toArray, List.set_cons_zero, List.set_cons_succ]
    refine wpAnyH_take (i := 3) (oi := _) (v := .pointer (some ⟨c, 2, none⟩)) rfl (by kernel_rfl) (by kernel_rfl) (by kernel_rfl) (fun _ _ _ h => h) (Or.inl ⟨by rfl, by intro w hSw; go_simp⟩) hHeld ?_
    change wpAnyH _ _ _ _ _ _ _ (Act.put _ (some 36) _) _
    simp only [Act.put, List.setIfInBounds_toArray, List.set_cons_zero, List.set_cons_succ]
    refine wpAnyH_take (i := 4) (oi := _) (v := .int .i64 T) rfl (by kernel_rfl) (by kernel_rfl) (by kernel_rfl) (fun _ _ _ h => h) (Or.inl ⟨by rfl, by intro w hSw; have h1 := hSw; go_simp⟩) hHeld ?_
    change wpAnyH _ _ _ _ _ _ _ (Act.put _ (some 37) _) _
    simp only [Act.put, List.setIfInBounds_toArray, List.set_cons_zero, List.set_cons_succ]
    refine wpAnyH_take (i := 5) (oi := _) (v := .int .i64 (T + 1)) rfl (by kernel_rfl) (by kernel_rfl) (by kernel_rfl) (fun _ _ _ h => h) (Or.inl ⟨by rfl, by intro w hSw; go_simp⟩) hHeld ?_
    change wpAnyH _ _ _ _ _ _ _ (Act.put _ (some 38) _) _
    simp only [Act.put, List.setIfInBounds_toArray, List.set_cons_zero, List.set_cons_succ]
    refine wpAnyH_take (i := 6) (oi := _) (v := .slice ao X.length cap) rfl (by kernel_rfl) (by kernel_rfl) (by kernel_rfl) (fun _ _ _ h => h) (Or.inl ⟨by rfl, by intro w hSw; go_simp⟩) hHeld ?_
    change wpAnyH _ _ _ _ _ _ _ (Act.put _ (some 39) _) _
    simp only [Act.put, List.setIfInBounds_toArray, List.set_cons_zero, List.set_cons_succ]
    refine wpAnyH_ready (rs := [7, 9]) (by kernel_rfl) (by simp) ?_
    refine AllReadyH.cons (o := _) rfl (fun K hK => ?_) (AllReadyH.cons (o := _) rfl (fun K hK => ?_) AllReadyH.nil)
    · go_simp
      go_at_call 48
      refine (bclone_own _ X _ (HV.out.below HB2.out) (by omega)).mono ?_
      rintro e W3 ⟨v3, rfl, ho, hb⟩
      have HSL := hide (own_slp ho)
      obtain ⟨vp, vn, vm, rfl⟩ : ∃ a n k, v3 = .slice a n k := by obtain ⟨ad, k, e⟩ := HSL.out.form; exact ⟨_, _, _, e⟩
      go_wp2_with fail
      refine hK.out _ _ ((hb.cell (p := ⟨c, 2, none⟩) (HCC.out _ HB2.out)).trans hHeld) (fun hHeld1 => ?_)
      clear hK K hHeld
      have hHeld := hHeld1
      clear hHeld1
      have HB3 := hide (bt HB2.out hb)
      have HWS : Hid (w.heap.size ≤ W2.heap.size) := hide HB2.out.size
      clear ho hb
      refine wpAnyH_take (i := 8) (oi := _) (v := .agg #[.int .i64 (T + 1), .slice vp vn vm]) rfl (by kernel_rfl) (by kernel_rfl) (by kernel_rfl) (fun _ _ _ h => h) (Or.inl ⟨by rfl, by intro w hSw; go_simp⟩) hHeld ?_
      change wpAnyH _ _ _ _ _ _ _ (Act.put _ (some 41) _) _
      simp only [Act.put, List.setIfInBounds_toArray, List.set_cons_zero, List.set_cons_succ]
      refine wpAnyH_ready (rs := [9]) (by kernel_rfl) (by simp) ?_
      refine AllReadyH.cons (o := _) rfl (fun K hK => ?_) AllReadyH.nil
      go_simp
      refine hK.out _ _ ((((Below.refl _ _).alloc (Nat.le_refl _) _ : Below W3.heap.size W3 (W3.alloc (.cells #[.int .i64 0, .slice none 0 0] 88))).cell (p := ⟨c, 2, none⟩) (HCC.out _ HB3.out)).trans hHeld) (fun hHeld1 => ?_)
      clear hK K hHeld
      have hHeld := hHeld1
      clear hHeld1
      have hal : Below W3.heap.size W3 (W3.alloc (.cells #[.int .i64 0, .slice none 0 0] 88)) := (Below.refl _ _).alloc (Nat.le_refl _) _
      have HG := hide (B2.new W3 (.int .i64 0) (.slice none 0 0) 88)
      have HB4 := hide (bt HB3.out hal)
      have HS4 := hide ((HSL.out.keep (Q := fun b => w.heap.size ≤ b ∧ b ≠ W3.heap.size) (W' := W3) (fun b p hb => ⟨Nat.le_trans HWS.out p, by omega⟩) (fun _ _ _ => rfl)).below hal)
      have HGE : Hid (w.heap.size ≤ W3.heap.size) := hide HB3.out.size
      have hcg : c ≠ W3.heap.size := by have := HCC.out _ HB3.out; omega
      clear hal
      generalize W3.alloc (.cells #[.int .i64 0, .slice none 0 0] 88) = W4 at HG HB4 HS4 hHeld ⊢
      generalize W3.heap.size = g at HG HS4 HGE hcg ⊢
      refine wpAnyH_ready (rs := [10]) (by kernel_rfl) (by simp) ?_
      refine AllReadyH.cons (o := _) rfl (fun K hK => ?_) AllReadyH.nil
      have k0 := HG.out.c0
      have k1 := HG.out.c1
      have f0 := HG.out.fz 0
      have f1 := HG.out.fz 1
      go_simp
      clear k0 k1 f0 f1
      refine hK.out _ _ ((World.cell?_setCell_other _ _ _ _ (by simp <;> omega)).trans ((World.cell?_setCell_other _ _ _ _ (by simp <;> omega)).trans hHeld)) (fun hHeld1 => ?_)
      clear hK K hHeld
      have hHeld := hHeld1
      clear hHeld1
      refine wpAnyH_done (by kernel_rfl) ?_ _
      clear hHeld
      go_wp2_with fail
      go_meet
      exact ⟨g, .slice vp vn vm, rfl, ⟨_, _, _, rfl⟩, HG.out.set _ _, HS4.out.keep (fun _ p _ => p) (fun b p _ => (Below.heap_setCell _ _ _ _ p.2).trans (Below.heap_setCell _ _ _ _ p.2)), HGE.out, (HB4.out.setCell HGE.out _).setCell HGE.out _⟩
    · go_simp
      refine hK.out _ _ ((((Below.refl _ _).alloc (Nat.le_refl _) _ : Below W2.heap.size W2 (W2.alloc (.cells #[.int .i64 0, .slice none 0 0] 88))).cell (p := ⟨c, 2, none⟩) (HCC.out _ HB2.out)).trans hHeld) (fun hHeld1 => ?_)
      clear hK K hHeld
      have hHeld := hHeld1
      clear hHeld1
      have hal : Below W2.heap.size W2 (W2.alloc (.cells #[.int .i64 0, .slice none 0 0] 88)) := (Below.refl _ _).alloc (Nat.le_refl _) _
      have HG0 := hide (B2.new W2 (.int .i64 0) (.slice none 0 0) 88)
      have HB3 := hide (bt HB2.out hal)
      have HGE : Hid (w.heap.size ≤ W2.heap.size) := hide HB2.out.size
      have hcg : c ≠ W2.heap.size := by have := HCC.out _ HB2.out; omega
      clear hal
      generalize W2.alloc (.cells #[.int .i64 0, .slice none 0 0] 88) = W3 at HG0 HB3 hHeld ⊢
      generalize W2.heap.size = g at HG0 HGE hcg ⊢
      refine wpAnyH_ready (rs := [7]) (by kernel_rfl) (by simp) ?_
      refine AllReadyH.cons (o := _) rfl (fun K hK => ?_) AllReadyH.nil
      go_simp
      go_at_call 48
      refine (bclone_own _ X _ (HV.out.below HB3.out) (by omega)).mono ?_
      rintro e W4 ⟨v4, rfl, ho, hb⟩
      have HSL := hide (own_slp ho)
      obtain ⟨vp, vn, vm, rfl⟩ : ∃ a n k, v4 = .slice a n k := by obtain ⟨ad, k, e⟩ := HSL.out.form; exact ⟨_, _, _, e⟩
      go_wp2_with fail
      refine hK.out _ _ ((hb.cell (p := ⟨c, 2, none⟩) (HCC.out _ HB3.out)).trans hHeld) (fun hHeld1 => ?_)
      clear hK K hHeld
      have hHeld := hHeld1
      clear hHeld1
      have HB4 := hide (bt HB3.out hb)
      have HG := hide (HG0.out.below hb)
      have HS4 := hide (HSL.out.keep (Q := fun b => w.heap.size ≤ b ∧ b ≠ g) (W' := W4) (fun b p _ => ⟨Nat.le_trans HB3.out.size p, by have := HG0.out.lt; omega⟩) (fun _ _ _ => rfl))
      clear ho hb
      refine wpAnyH_take (i := 8) (oi := _) (v := .agg #[.int .i64 (T + 1), .slice vp vn vm]) rfl (by kernel_rfl) (by kernel_rfl) (by kernel_rfl) (fun _ _ _ h => h) (Or.inl ⟨by rfl, by intro w hSw; go_simp⟩) hHeld ?_
      change wpAnyH _ _ _ _ _ _ _ (Act.put _ (some 41) _) _
      simp only [Act.put, List.setIfInBounds_toArray, List.set_cons_zero, List.set_cons_succ]
      refine wpAnyH_ready (rs := [10]) (by kernel_rfl) (by simp) ?_
      refine AllReadyH.cons (o := _) rfl (fun K hK => ?_) AllReadyH.nil
      have k0 := HG.out.c0
      have k1 := HG.out.c1
      have f0 := HG.out.fz 0
      have f1 := HG.out.fz 1
      go_simp
      clear k0 k1 f0 f1
      refine hK.out _ _ ((World.cell?_setCell_other _ _ _ _ (by simp <;> omega)).trans ((World.cell?_setCell_other _ _ _ _ (by simp <;> omega)).trans hHeld)) (fun hHeld1 => ?_)
      clear hK K hHeld
      have hHeld := hHeld1
      clear hHeld1
      refine wpAnyH_done (by kernel_rfl) ?_ _
      clear hHeld
      go_wp2_with fail
      go_meet
      exact ⟨g, .slice vp vn vm, rfl, ⟨_, _, _, rfl⟩, HG.out.set _ _, HS4.out.keep (fun _ p _ => p) (fun b p _ => (Below.heap_setCell _ _ _ _ p.2).trans (Below.heap_setCell _ _ _ _ p.2)), HGE.out, (HB4.out.setCell HGE.out _).setCell HGE.out _⟩
  case rest =>
    obtain ⟨g, v', rfl, ⟨vp, vn, vm, rfl⟩, hg, hs, hge, hb⟩ := hcut
    have HG := hide hg
    have HSL := hide hs
    have HGE := hide hge
    have HB := hide hb
    clear hg hs hge hb
    go_wp2_with fail
    go_cut [6] (fun p W => p = .nilIface ∧ ∃ u', Dq W d bS bT u' (wrS s (a + (T + 1) % 2) (blkS (T + 1) X)) ∧ B5 W c (.pointer (some ⟨d, 0, none⟩)) (.int .i64 a) (.int .i64 T) v (.bool false) ∧ ¬ Own d bS bT u' c ∧ B2 W g (.int .i64 (T + 1)) (.slice vp vn vm) ∧ Slp (fun b => ¬ (Own d bS bT u' b ∨ b = c)) W (.slice vp vn vm) X ∧ Cx c d bS bT u w W u')
    case first =>
      have hdw : Below wc.heap.size wc wc.drew := (Below.refl _ _).drew
      refine wp_region_held_drew (S := fun W => W.cell? ⟨c, 0, none⟩ = some (.pointer (some ⟨d, 0, none⟩)) ∧ W.cell? ⟨c, 1, none⟩ = some (.int .i64 a) ∧ W.cell? ⟨g, 0, none⟩ = some (.int .i64 (T + 1)) ∧ W.cell? ⟨g, 1, none⟩ = some (.slice vp vn vm)) (by kernel_rfl) ⟨(HS.out.x.below (bt HB.out hdw)).c0, (HS.out.x.below (bt HB.out hdw)).c1, (HG.out.below hdw).c0, (HG.out.below hdw).c1⟩ (fun hHeld => ?_)
      have HB4 := hide (bt HB.out hdw)
      have HG4 := hide (HG.out.below hdw)
      have HS4 := hide (HSL.out.below hdw)
      generalize wc.drew = W4 at HB4 HG4 HS4 hHeld ⊢
      clear hdw HB HG HSL
      have HST : Hid (∀ W W', Below w.heap.size w W → g < W.heap.size → Below W.heap.size W W' → (fun W => W.cell? ⟨c, 0, none⟩ = some (.pointer (some ⟨d, 0, none⟩)) ∧ W.cell? ⟨c, 1, none⟩ = some (.int .i64 a) ∧ W.cell? ⟨g, 0, none⟩ = some (.int .i64 (T + 1)) ∧ W.cell? ⟨g, 1, none⟩ = some (.slice vp vn vm)) W → (fun W => W.cell? ⟨c, 0, none⟩ = some (.pointer (some ⟨d, 0, none⟩)) ∧ W.cell? ⟨c, 1, none⟩ = some (.int .i64 a) ∧ W.cell? ⟨g, 0, none⟩ = some (.int .i64 (T + 1)) ∧ W.cell? ⟨g, 1, none⟩ = some (.slice vp vn vm)) W') := hide (fun W W' h1 h2 hb h => ⟨(hb.cell (p := ⟨c, 0, none⟩) (Nat.lt_of_lt_of_le HCL.out h1.size)).trans h.1, (hb.cell (p := ⟨c, 1, none⟩) (Nat.lt_of_lt_of_le HCL.out h1.size)).trans h.2.1, (hb.cell (p := ⟨g, 0, none⟩) h2).trans h.2.2.1, (hb.cell (p := ⟨g, 1, none⟩) h2).trans h.2.2.2⟩)
      have hwr : IntKind.i64.wrap (a + (T + 1) % 2) = a + (T + 1) % 2 := by rw [IntKind.wrap_i64]; omega
      refine wpAnyH_take (i := 0) (oi := _) (v := .pointer (some ⟨c, 0, none⟩)) rfl (by kernel_rfl) (by kernel_rfl) (by kernel_rfl) (fun _ _ _ h => h) (Or.inl ⟨by rfl, by intro w hSw; go_simp⟩) hHeld ?_
      change wpAnyH _ _ _ _ _ _ _ (Act.put _ (some 42) _) _
      simp only [Act.put, List.setIfInBounds_toArray, List.set_cons_zero, List.set_cons_succ]
      refine wpAnyH_take (i := 1) (oi := _) (v := .pointer (some ⟨c, 0, none⟩)) rfl (by kernel_rfl) (by kernel_rfl) (by kernel_rfl) (fun _ _ _ h => h) (Or.inl ⟨by rfl, by intro w hSw; go_simp⟩) hHeld ?_
      change wpAnyH _ _ _ _ _ _ _ (Act.put _ (some 43) _) _
      simp only [Act.put, List.setIfInBounds_toArray, List.set_cons_zero, List.set_cons_succ]
      refine wpAnyH_take (i := 2) (oi := _) (v := .pointer (some ⟨c, 0, none⟩)) rfl (by kernel_rfl) (by kernel_rfl) (by kernel_rfl) (fun _ _ _ h => h) (Or.inl ⟨by rfl, by intro w hSw; go_simp⟩) hHeld ?_
      change wpAnyH _ _ _ _ _ _ _ (Act.put _ (some 44) _) _
      simp only [Act.put, List.setIfInBounds_toArray, List.set_cons_zero, List.set_cons_succ]
      refine wpAnyH_take (i := 3) (oi := _) (v := .pointer (some ⟨d, 0, none⟩)) rfl (by kernel_rfl) (by kernel_rfl) (by kernel_rfl) (fun _ _ _ h => h) (Or.inl ⟨by rfl, by intro w hSw; have h1 := hSw.1; go_simp⟩) hHeld ?_
      change wpAnyH _ _ _ _ _ _ _ (Act.put _ (some 45) _) _
      simp only [Act.put, List.setIfInBounds_toArray, List.set_cons_zero, List.set_cons_succ]
      refine wpAnyH_take (i := 4) (oi := _) (v := .pointer (some ⟨c, 0, none⟩)) rfl (by kernel_rfl) (by kernel_rfl) (by kernel_rfl) (fun _ _ _ h => h) (Or.inl ⟨by rfl, by intro w hSw; go_simp⟩) hHeld ?_
      change wpAnyH _ _ _ _ _ _ _ (Act.put _ (some 46) _) _
      simp only [Act.put, List.setIfInBounds_toArray, List.set_cons_zero, List.set_cons_succ]
      refine wpAnyH_take (i := 5) (oi := _) (v := .pointer (some ⟨c, 0, none⟩)) rfl (by kernel_rfl) (by kernel_rfl) (by kernel_rfl) (fun _ _ _ h => h) (Or.inl ⟨by rfl, by intro w hSw; go_simp⟩) hHeld ?_
      change wpAnyH _ _ _ _ _ _ _ (Act.put _ (some 47) _) _
      simp only [Act.put, List.setIfInBounds_toArray, List.set_cons_zero, List.set_cons_succ]
      refine wpAnyH_take (i := 6) (oi := _) (v := .pointer (some ⟨c, 1, none⟩)) rfl (by kernel_rfl) (by kernel_rfl) (by kernel_rfl) (fun _ _ _ h => h) (Or.inl ⟨by rfl, by intro w hSw; go_simp⟩) hHeld ?_
      change wpAnyH _ _ _ _ _ _ _ (Act.put _ (some 48) _) _
      simp only [Act.put, List.setIfInBounds_toArray, List.set_cons_zero, List.set_cons_succ]
      refine wpAnyH_take (i := 7) (oi := _) (v := .int .i64 a) rfl (by kernel_rfl) (by kernel_rfl) (by kernel_rfl) (fun _ _ _ h => h) (Or.inl ⟨by rfl, by intro w hSw; have h1 := hSw.2.1; go_simp⟩) hHeld ?_
      change wpAnyH _ _ _ _ _ _ _ (Act.put _ (some 49) _) _
      simp only [Act.put, List.setIfInBounds_toArray, List.set_cons_zero, List.set_cons_succ]
      refine wpAnyH_take (i := 8) (oi := _) (v := .agg #[.int .i64 (T + 1), .slice vp vn vm]) rfl (by kernel_rfl) (by kernel_rfl) (by kernel_rfl) (fun _ _ _ h => h) (Or.inl ⟨by rfl, by intro w hSw; have h1 := hSw.2.2.1; have h2 := hSw.2.2.2; go_simp⟩) hHeld ?_
      change wpAnyH _ _ _ _ _ _ _ (Act.put _ (some 50) _) _
      simp only [Act.put, List.setIfInBounds_toArray, List.set_cons_zero, List.set_cons_succ]
      refine wpAnyH_take (i := 11) (oi := _) (v := .agg #[.int .i64 (T + 1), .slice vp vn vm]) rfl (by kernel_rfl) (by kernel_rfl) (by kernel_rfl) (fun _ _ _ h => h) (Or.inl ⟨by rfl, by intro w hSw; have h1 := hSw.2.2.1; have h2 := hSw.2.2.2; go_simp⟩) hHeld ?_
      change wpAnyH _ _ _ _ _ _ _ (Act.put _ (some 53) _) _
      simp only [Act.put, List.setIfInBounds_toArray, List.set_cons_zero, List.set_cons_succ]
      refine wpAnyH_ready (rs := [9]) (by kernel_rfl) (by simp) ?_
      refine AllReadyH.cons (o := _) rfl (fun K hK => ?_) AllReadyH.nil
      go_simp
      go_at_call 50
      refine (place_any (T + 1) _ _ ⟨_, _, _, rfl⟩ (by omega)).mono ?_
      rintro e W5 ⟨rfl, hb⟩
      go_wp2_with fail
      refine hK.out _ _ (HST.out _ _ HB4.out HG4.out.lt hb hHeld) (fun hHeld1 => ?_)
      clear hK K hHeld
      have hHeld := hHeld1
      clear hHeld1
      have HB5 := hide (bt HB4.out hb)
      have HG5 := hide (HG4.out.below hb)
      have HS5 := hide (HS4.out.below hb)
      clear hb
      refine wpAnyH_take (i := 10) (oi := _) (v := .int .i64 (a + (T + 1) % 2)) rfl (by kernel_rfl) (by kernel_rfl) (by kernel_rfl) (fun _ _ _ h => h) (Or.inl ⟨by rfl, by intro w hSw; go_simp⟩) hHeld ?_
      change wpAnyH _ _ _ _ _ _ _ (Act.put _ (some 52) _) _
      simp only [Act.put, List.setIfInBounds_toArray, List.set_cons_zero, List.set_cons_succ]
      refine wpAnyH_ready (rs := [12]) (by kernel_rfl) (by simp) ?_
      refine AllReadyH.cons (o := _) rfl (fun K hK => ?_) AllReadyH.nil
      go_simp
      go_at_call 51
      refine (block_any (T + 1) _ X _ (by omega) HS5.out.sl hn).mono ?_
      rintro e W6 ⟨gb, rfl, hr, hgb, hb⟩
      go_wp2_with fail
      refine hK.out _ _ (HST.out _ _ HB5.out HG5.out.lt hb hHeld) (fun hHeld1 => ?_)
      clear hK K hHeld
      have hHeld := hHeld1
      clear hHeld1
      have HB6 := hide (bt HB5.out hb)
      have HG6 := hide (HG5.out.below hb)
      have HS6 := hide (HS5.out.below hb)
      have HR6 := hide hr
      clear hb hr hgb
      refine wpAnyH_ready (rs := [13]) (by kernel_rfl) (by simp) ?_
      refine AllReadyH.cons (o := _) rfl (fun K hK => ?_) AllReadyH.nil
      go_simp
      go_at_call 49
      refine (q_writeN (a + (T + 1) % 2) _ (blkS (T + 1) X) _ (HS.out.q.below HB6.out) (HR6.out.all (blkS_len _ hn).symm) (fun x hx => (blkS_blk hby hn (by omega) (by omega)).2 x hx) (by omega) HE.out).mono ?_
      rintro e W7 ⟨u7, rfl, hq7, hx7⟩
      go_wp2_with fail
      have hnc : ¬ Own d bS bT u c := HS.out.no
      have hng : ¬ Own d bS bT u g := fun e => by have h1 := HOW.out g e; have h2 := HGE.out; omega
      have hc6 : c < W6.heap.size := Nat.lt_of_lt_of_le HCL.out HB6.out.size
      refine hK.out _ _ ⟨(hx7.cell hc6 hnc 0).trans hHeld.1, (hx7.cell hc6 hnc 1).trans hHeld.2.1, (hx7.cell HG6.out.lt hng 0).trans hHeld.2.2.1, (hx7.cell HG6.out.lt hng 1).trans hHeld.2.2.2⟩ (fun hHeld1 => ?_)
      clear hK K hHeld
      have hHeld := hHeld1
      clear hHeld1
      have HQ7 := hide hq7
      have HX7 := hide ((HS.out.x.below HB6.out).keepB (hx7.ba.block c hc6 hnc))
      have HG7 := hide (HG6.out.keepB (hx7.ba.block g HG6.out.lt hng))
      have HN7 : Hid (¬ Own d bS bT u7 c) := hide (hx7.own hc6 hnc)
      have HS7 : Hid (Slp (fun b => ¬ (Own d bS bT u7 b ∨ b = c)) W7 (.slice vp vn vm) X) := hide (HS6.out.keep (fun b p hb e => e.elim (hx7.own hb (fun e => by have h1 := HOW.out b e; have h2 := p.1; omega)) (fun e => by have h1 := HCL.out; have h2 := p.1; omega)) (fun b p hb => hx7.ba.block b hb (fun e => by have h1 := HOW.out b e; have h2 := p.1; omega)))
      have HC7 : Hid (Cx c d bS bT u w W7 u7) := hide ((Cx.of (Dx.of HB6.out)).trans (Cx.of hx7))
      clear hq7 hx7 hnc hng hc6
      refine wpAnyH_take (i := 14) (oi := _) (v := .nilIface) rfl (by kernel_rfl) (by kernel_rfl) (by kernel_rfl) (fun _ _ _ h => h) (Or.inl ⟨by rfl, by intro w hSw; go_simp⟩) hHeld ?_
      change wpAnyH _ _ _ _ _ _ _ (Act.put _ (some 6) _) _
      simp only [Act.put, List.setIfInBounds_toArray, List.set_cons_zero, List.set_cons_succ]
      refine wpAnyH_done (by kernel_rfl) ?_ _
      clear hHeld
      go_wp2_with fail
      go_meet
      exact ⟨rfl, u7, HQ7.out, HX7.out, HN7.out, HG7.out, HS7.out, HC7.out⟩
    case rest =>
      obtain ⟨rfl, u7, hq, hx, hno, hg, hs, hc⟩ := hcut
      have HQ7 := hide hq
      have HX7 := hide hx
      have HN7 := hide hno
      have HS7 := hide hs
      have HC7 := hide hc
      have g0 := hg.c0
      have g1 := hg.c1
      have x2 := hx.c2
      have x3 := hx.c3
      have x4 := hx.c4
      have f2 := hx.fz 2
      have f3 := hx.fz 3
      have f4 := hx.fz 4
      have HX8 := hide (((hx.set2 (.int .i64 (T + 1))).set3 (.slice vp vn vm)).set4 (.bool true))
      clear hq hx hno hg hs hc
      go_wp2_with fail
      go_ret
      exact ⟨u7, .slice vp vn vm, rfl, ⟨((HQ7.out.setC HN7.out _ _).setC HN7.out _ _).setC HN7.out _ _, HX8.out, HN7.out, HS7.out.keep (fun _ p _ => p) (fun b p _ => (Below.heap_setCell _ _ _ _ (fun e => p (.inr e))).trans ((Below.heap_setCell _ _ _ _ (fun e => p (.inr e))).trans (Below.heap_setCell _ _ _ _ (fun e => p (.inr e)))))⟩, ⟨((HC7.out.ba.set (fun _ => .inr rfl) _ _).set (fun _ => .inr rfl) _ _).set (fun _ => .inr rfl) _ _, HC7.out.bl⟩⟩
set_option maxRecDepth 100000 in
set_option maxHeartbeats 16000000 in
theorem ssync_any (w : World) (h : Slo w c d bS bT u s a T v V lz) (hw : s.wt < 30000) : Calls Try.prog 22 #[.pointer (some ⟨c, 0, none⟩)] w fun e w' => e = .returned (.tuple #[]) ∧ Slo w' c d bS bT (.slice none 0 0) (syS s) a T v V false ∧ Cx c d bS bT u w w' (.slice none 0 0) := by
  have HS := hide h
  have x0 := h.x.c0
  clear h
  go_enter Try.func22, Try.ntmps22
  go_upto_region 1 with (first | (go_at_call 31; refine (q_sync _ HS.out.q hw).mono ?_; rintro e W1 ⟨rfl, hq, hx⟩; have HQ1 := hide hq; have HX1 := hide hx; clear hq hx))
  have HX := hide (HS.out.x.keepB (HX1.out.ba.block c HS.out.x.lt HS.out.no))
  have HNO : Hid (¬ Own d bS bT (.slice none 0 0) c) := hide (HX1.out.own HS.out.x.lt HS.out.no)
  have HSL : Hid (Slp (fun b => ¬ (Own d bS bT (.slice none 0 0) b ∨ b = c)) W1 v V) := hide (HS.out.sl.keep (fun b p hb e => e.elim (HX1.out.own hb (fun e => p (.inl e))) (fun e => p (.inr e))) (fun b p hb => HX1.out.ba.block b hb (fun e => p (.inl e))))
  have x4 := HX.out.c4
  have f4 := HX.out.fz 4
  have HX8 := hide (HX.out.set4 (.bool false))
  clear x0
  go_wp2_with fail
  exact bodyPost_end (v := .tuple #[]) (by simp [results, Try.results22]) rfl ⟨rfl, ⟨HQ1.out.setC HNO.out _ _, HX8.out, HNO.out, HSL.out.keep (fun _ p _ => p) (fun b p _ => Below.heap_setCell _ _ _ _ (fun e => p (.inr e)))⟩, ⟨(Cx.of HX1.out).ba.set (fun _ => .inr rfl) _ _, HX1.out.bl⟩⟩
set_option maxRecDepth 100000 in
set_option maxHeartbeats 16000000 in
theorem svalue_any (w : World) (h : Slo w c d bS bT u s a T v V lz) (hl : V.length ≤ 47) : Calls Try.prog 23 #[.pointer (some ⟨c, 0, none⟩)] w fun e w' => ∃ x, e = .returned x ∧ Slp (fun b => w.heap.size ≤ b) w' x V ∧ Below w.heap.size w w' := by
  have HS := hide h
  obtain ⟨p, n, hv⟩ := h.sl.form
  subst hv
  have x3 := h.x.c3
  clear h
  go_enter Try.func23, Try.ntmps23
  go_wp2_with (first | (go_at_call 48; refine (bclone_own _ V _ HS.out.sl.sl (by omega)).mono ?_; rintro e W1 ⟨v1, rfl, ho, hb⟩; have HO := hide (own_slp ho); have HB := hide hb; clear ho hb))
  go_ret
  exact ⟨_, rfl, HO.out, HB.out⟩
set_option maxRecDepth 100000 in
set_option maxHeartbeats 16000000 in
theorem sturn_any (w : World) (h : Slo w c d bS bT u s a T v V lz) : Calls Try.prog 24 #[.pointer (some ⟨c, 0, none⟩)] w fun e w' => e = .returned (.int .i64 T) ∧ w' = w := by
  have x2 := h.x.c2
  go_enter Try.func24, Try.ntmps24
  go_wp2
  go_ret
  exact ⟨rfl, rfl⟩
end
end Go.Proofs.Ytmgfcgknajehaaa
