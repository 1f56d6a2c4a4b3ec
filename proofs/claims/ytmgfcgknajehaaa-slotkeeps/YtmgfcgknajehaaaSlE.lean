/-
  A SLOT IS OPENED (slot.Open), on a store where all is synced: the value that counts, firm; what is wrong at a block that is none. Condition: fewer than thirty thousand blocks.
-/
import Derived.Test.YtmgfcgknajehaaaSlD
namespace Go.Proofs.Ytmgfcgknajehaaa
open Go.RowKit

/-- A slot in its memory. -/
structure Slo (W : World) (c d bS bT : Nat) (u : Value) (s : Dst) (a T : Int) (v : Value) (V : List Int) (lz : Bool) : Prop where
  q : Dq W d bS bT u s
  x : B5 W c (.pointer (some ⟨d, 0, none⟩)) (.int .i64 a) (.int .i64 T) v (.bool lz)
  no : ¬ Own d bS bT u c
  sl : Slp (fun b => ¬ (Own d bS bT u b ∨ b = c)) W v V
theorem Slo.below {W W' : World} {c d bS bT : Nat} {u : Value} {s : Dst} {a T : Int} {v : Value} {V : List Int} {lz : Bool} (h : Slo W c d bS bT u s a T v V lz) (hb : Below W.heap.size W W') : Slo W' c d bS bT u s a T v V lz := ⟨h.q.below hb, h.x.below hb, h.no, h.sl.below hb⟩
theorem newV_slp {P : Nat → Prop} {W : World} {x0 x1 : Sd} {v0 v1 : Value} (h0 : Slp P W v0 x0.2) (h1 : Slp P W v1 x1.2) : Slp P W (newV x0.1 v0 x1.1 v1).2 (newest x0 x1).2 := by
  unfold newV newest newO newVE newE
  by_cases h : x0.1 % 2 = 0 ∧ 0 ≤ x0.1
  · simp only [if_pos h]
    split
    · exact h1
    · exact h0
  · simp only [if_neg h]
    split
    · exact h1
    · exact .inl ⟨_, _, rfl, rfl⟩
/-- What Open answers. -/
def SopP (w w' : World) (e : Ending) (d bS bT : Nat) (u : Value) (s : Dst) (a : Int) : Prop := ∃ c v, e = .returned (.tuple #[.pointer (some ⟨c, 0, none⟩), .nilIface]) ∧ Slo w' c d bS bT u s a (slotAt s.cs a).1 v (slotAt s.cs a).2 false ∧ w.heap.size ≤ c ∧ Below w.heap.size w w'
def opSlot : ByteArray := ⟨#[115, 108, 111, 116]⟩
set_option maxRecDepth 100000 in
set_option maxHeartbeats 8000000 in
theorem sopen_ok {d bS bT : Nat} {u : Value} {s : Dst} (a : Int) (w : World) (hq : Dq w d bS bT u s) (hlo : s.lo = []) (hw : s.wt < 30000) (ha : Num a) (ha1 : Num (a + 1)) : Calls Try.prog 20 #[.pointer (some ⟨d, 0, none⟩), .int .i64 a] w fun e w' => SopP w w' e d bS bT u s a := by
  have hal : Below w.heap.size w (w.alloc (.cells #[.int .i64 0, .slice none 0 0, .int .i64 0, .slice none 0 0] 90)) := (Below.refl _ _).alloc (Nat.le_refl _) _
  have HP := hide (b4_new w (.int .i64 0) (.slice none 0 0) (.int .i64 0) (.slice none 0 0) 90)
  have HQ := hide (hq.below hal)
  have HB := hide hal
  have HOK := hide hq.ok
  have HTK : Hid (s.tk = s.cs) := hide (by unfold Dst.tk; rw [hlo]; rfl)
  have HOW : Hid (∀ k, Own d bS bT u k → k < w.heap.size) := hide (fun k e => hq.dk.lt e)
  have HA := hide ha
  have HA1 := hide ha1
  obtain ⟨ha0, hab⟩ := ha
  clear hal hq ha1
  go_enter Try.func20, Try.ntmps20
  go_upto_region 5 with fail
  generalize (w.alloc (.cells #[.int .i64 0, .slice none 0 0, .int .i64 0, .slice none 0 0] 90)) = W1 at HP HQ HB ⊢
  go_loopw [16] (fun i W => ∃ (k : Nat) (t0 t1 : Int) (v0 v1 : Value), k ≤ 2 ∧ i = .int .i64 k ∧ (∃ p n m, v0 = .slice p n m) ∧ (∃ p n m, v1 = .slice p n m) ∧ B4 W w.heap.size (.int .i64 t0) v0 (.int .i64 t1) v1 ∧ (0 < k → t0 = (said (vw s.cs a)).1 ∧ Slp (fun b => w.heap.size < b) W v0 (said (vw s.cs a)).2) ∧ (1 < k → t1 = (said (vw s.cs (a + 1))).1 ∧ Slp (fun b => w.heap.size < b) W v1 (said (vw s.cs (a + 1))).2) ∧ Dq W d bS bT u s ∧ Below w.heap.size w W) (fun i _ => 2 - (iv i).toNat)
  case atStart => exact ⟨0, 0, 0, _, _, by omega, rfl, ⟨_, _, _, rfl⟩, ⟨_, _, _, rfl⟩, HP.out, fun h => by omega, fun h => by omega, HQ.out, HB.out⟩
  case round =>
    clear HP HQ HB
    obtain ⟨k, t0, t1, v0, v1, hk, rfl, ⟨p0, n0, m0, rfl⟩, ⟨p1, n1, m1, rfl⟩, hp, h0, h1, hq, hb⟩ := hrel
    have HP := hide hp
    have H0 := hide h0
    have H1 := hide h1
    have HQ := hide hq
    have HB := hide hb
    clear hp h0 h1 hq hb
    rcases (show k = 0 ∨ k = 1 ∨ k = 2 by omega) with rfl | rfl | rfl
    · have hbk : Blk (vw s.cs a) := vw_blk HOK.out.cb a
      have HBK := hide hbk
      clear hbk
      have HLK : Hid ((look s.tk a).getD zer = vw s.cs a) := hide (by rw [HTK.out, vw_num HA.out])
      have hgl := HP.out.lt
      have hwr : a + 0 = a := by omega
      have hwr2 : IntKind.i64.wrap a = a := by rw [IntKind.wrap_i64]; omega
      go_upto_region 10 with (first | (go_at_call 44; refine (q_read a _ HQ.out HA.out).mono ?_; rintro e W2 ⟨rfl, hw2⟩; rw [HLK.out] at hw2; have HR2 : Hid (Rq W2 wr.heap.size 79 (vw s.cs a)) := hide (by rw [hw2]; exact Rq.new wr 79 _); have hal2 : Below wr.heap.size wr W2 := (by rw [hw2]; exact (Below.refl _ _).alloc (Nat.le_refl _) _); have HP2 := hide (HP.out.below hal2); have HQ2 := hide (HQ.out.below hal2); have HB2 := hide (bt HB.out hal2); have HL2 := hide hal2; clear hw2 hal2))
      clear hwr HP HQ HB hwr2
      have HGG : Hid (w.heap.size < wr.heap.size) := hide hgl
      clear hgl
      generalize hgq : wr.heap.size = gr at HR2 HGG ⊢
      go_upto_region 11 with (first | (go_at_call 45; refine (saidOf_any gr 79 (vw s.cs a) _ HBK.out HR2.out).mono ?_; rintro e W3 ⟨v3, rfl, hs3, hb3⟩; obtain ⟨p3, n3, m3, rfl⟩ := hs3.form; have HS3 := hide (hs3.slp (P := fun b => w.heap.size < b) (HR2.out.below hb3) HBK.out.1 HGG.out); have HP3 := hide (HP2.out.below hb3); have HQ3 := hide (HQ2.out.below hb3); have HB3 := hide (bt HB2.out hb3); have HL3 : Hid (Below wr.heap.size wr W3) := hide (bt HL2.out hb3); have q0 := HP3.out.c0; have q1 := HP3.out.c1; have f0 := HP3.out.fz 0; have f1 := HP3.out.fz 1; clear hs3 hb3))
      clear HR2 HP2 HQ2 HB2
      go_wp2_with fail
      exact ⟨⟨1, _, _, _, _, by omega, by go_num, ⟨_, _, _, rfl⟩, ⟨_, _, _, rfl⟩, (HP3.out.set0 _).set1 _, fun _ => ⟨rfl, (HS3.out).keep (fun _ p _ => p) (fun b p _ => (Below.heap_setCell _ _ _ _ (by simp; omega)).trans (Below.heap_setCell _ _ _ _ (by simp; omega)))⟩, fun h => by omega, (HQ3.out.setC (fun e => by have := HOW.out _ e; omega) _ _).setC (fun e => by have := HOW.out _ e; omega) _ _, (HB3.out.setCell (Nat.le_refl _) _).setCell (Nat.le_refl _) _⟩, by simp [iv]⟩
    · have hbk : Blk (vw s.cs (a + 1)) := vw_blk HOK.out.cb (a + 1)
      have HBK := hide hbk
      clear hbk
      have HLK : Hid ((look s.tk (a + 1)).getD zer = vw s.cs (a + 1)) := hide (by rw [HTK.out, vw_num HA1.out])
      have hgl := HP.out.lt
      have hwr : IntKind.i64.wrap (a + 1) = a + 1 := by rw [IntKind.wrap_i64]; omega
      skip
      go_upto_region 10 with (first | (go_at_call 44; refine (q_read (a + 1) _ HQ.out HA1.out).mono ?_; rintro e W2 ⟨rfl, hw2⟩; rw [HLK.out] at hw2; have HR2 : Hid (Rq W2 wr.heap.size 79 (vw s.cs (a + 1))) := hide (by rw [hw2]; exact Rq.new wr 79 _); have hal2 : Below wr.heap.size wr W2 := (by rw [hw2]; exact (Below.refl _ _).alloc (Nat.le_refl _) _); have HP2 := hide (HP.out.below hal2); have HQ2 := hide (HQ.out.below hal2); have HB2 := hide (bt HB.out hal2); have HL2 := hide hal2; clear hw2 hal2))
      clear hwr HP HQ HB
      have HGG : Hid (w.heap.size < wr.heap.size) := hide hgl
      clear hgl
      generalize hgq : wr.heap.size = gr at HR2 HGG ⊢
      go_upto_region 11 with (first | (go_at_call 45; refine (saidOf_any gr 79 (vw s.cs (a + 1)) _ HBK.out HR2.out).mono ?_; rintro e W3 ⟨v3, rfl, hs3, hb3⟩; obtain ⟨p3, n3, m3, rfl⟩ := hs3.form; have HS3 := hide (hs3.slp (P := fun b => w.heap.size < b) (HR2.out.below hb3) HBK.out.1 HGG.out); have HP3 := hide (HP2.out.below hb3); have HQ3 := hide (HQ2.out.below hb3); have HB3 := hide (bt HB2.out hb3); have HL3 : Hid (Below wr.heap.size wr W3) := hide (bt HL2.out hb3); have q2 := HP3.out.c2; have q3 := HP3.out.c3; have f2 := HP3.out.fz 2; have f3 := HP3.out.fz 3; clear hs3 hb3))
      clear HR2 HP2 HQ2 HB2
      go_wp2_with fail
      exact ⟨⟨2, _, _, _, _, by omega, by go_num, ⟨_, _, _, rfl⟩, ⟨_, _, _, rfl⟩, (HP3.out.set2 _).set3 _, fun _ => ⟨(H0.out (by omega)).1, (((H0.out (by omega)).2.below HL3.out)).keep (fun _ p _ => p) (fun b p _ => (Below.heap_setCell _ _ _ _ (by simp; omega)).trans (Below.heap_setCell _ _ _ _ (by simp; omega)))⟩, fun _ => ⟨rfl, (HS3.out).keep (fun _ p _ => p) (fun b p _ => (Below.heap_setCell _ _ _ _ (by simp; omega)).trans (Below.heap_setCell _ _ _ _ (by simp; omega)))⟩, (HQ3.out.setC (fun e => by have := HOW.out _ e; omega) _ _).setC (fun e => by have := HOW.out _ e; omega) _ _, (HB3.out.setCell (Nat.le_refl _) _).setCell (Nat.le_refl _) _⟩, by simp [iv]⟩
    · obtain ⟨e0, hs0⟩ := H0.out (by omega)
      obtain ⟨e1, hs1⟩ := H1.out (by omega)
      subst e0
      subst e1
      have HN0 := hide (said_nn (vw_blk HOK.out.cb a))
      have HN1 := hide (said_nn (vw_blk HOK.out.cb (a + 1)))
      have HF1 : Hid ((newV (said (vw s.cs a)).1 (.slice p0 n0 m0) (said (vw s.cs (a + 1))).1 (.slice p1 n1 m1)).1 = (slotAt s.cs a).1) := hide (newV_fst _ _ _ _)
      have HF2 : Hid (Slp (fun b => w.heap.size < b) wr (newV (said (vw s.cs a)).1 (.slice p0 n0 m0) (said (vw s.cs (a + 1))).1 (.slice p1 n1 m1)).2 (slotAt s.cs a).2) := hide (newV_slp hs0 hs1)
      clear hs0 hs1 H0 H1
      generalize (said (vw s.cs a)).1 = t0 at HP HN0 HF1 HF2
      generalize (said (vw s.cs (a + 1))).1 = t1 at HP HN1 HF1 HF2
      have q0 := HP.out.c0
      have q1 := HP.out.c1
      have q2 := HP.out.c2
      have q3 := HP.out.c3
      obtain ⟨pv, nv, mv, hvf⟩ : ∃ p n m, (newV t0 (.slice p0 n0 m0) t1 (.slice p1 n1 m1)).2 = .slice p n m := by unfold newV; split; exact ⟨_, _, _, rfl⟩; exact newVE_form ⟨_, _, _, rfl⟩
      go_upto_region 13 with (first | (go_at_call 46; refine (newest_any t0 t1 _ _ _ HN0.out HN1.out ⟨_, _, _, rfl⟩ ⟨_, _, _, rfl⟩).mono ?_; rintro e W5 ⟨rfl, hb5⟩; rw [HF1.out, hvf]; have HQ5 := hide (HQ.out.below hb5); have HB5 := hide (bt HB.out hb5); have HS5 := hide (HF2.out.below hb5); clear hb5))
      rw [hvf] at HS5
      clear q0 q1 q2 q3 HP HQ HB HF1 HF2 HN0 HN1 hvf
      have HSY := hide (fun (W : World) (c : Nat) (z t q : Value) (hx : B5 W c (.pointer (some ⟨d, 0, none⟩)) (.int .i64 a) z t q) (h : Dq W d bS bT u s) => synced_any c a z t q W hx h hw HA.out HA1.out)
      have hal5 : Below W5.heap.size W5 (W5.alloc (.cells #[.pointer (some ⟨d, 0, none⟩), .int .i64 a, .int .i64 (slotAt s.cs a).1, .slice pv nv mv, .bool false] 96)) := (Below.refl _ _).alloc (Nat.le_refl _) _
      have HX6 := hide (B5.new W5 (.pointer (some ⟨d, 0, none⟩)) (.int .i64 a) (.int .i64 (slotAt s.cs a).1) (.slice pv nv mv) (.bool false) 96)
      have HQ6 := hide (HQ5.out.below hal5)
      have HB6 := hide (bt HB5.out hal5)
      have HS6 := hide ((HS5.out.keep (Q := fun b => w.heap.size < b ∧ b ≠ W5.heap.size) (W' := W5) (fun b p hb => ⟨p, fun e => by omega⟩) (fun _ _ _ => rfl)).below hal5)
      have HCW : Hid (w.heap.size ≤ W5.heap.size) := hide HB5.out.size
      clear hal5 HQ5 HB5 HS5
      generalize W5.alloc (.cells #[.pointer (some ⟨d, 0, none⟩), .int .i64 a, .int .i64 (slotAt s.cs a).1, .slice pv nv mv, .bool false] 96) = W6 at HX6 HQ6 HB6 HS6 ⊢
      generalize W5.heap.size = c at HX6 HS6 HCW ⊢
      go_upto_region 14 with (first | (go_at_call 47; refine (HSY.out _ c _ _ _ HX6.out HQ6.out).mono ?_; rintro e W7 ⟨rfl, hb7⟩; have HX7 := hide (HX6.out.below hb7); have HQ7 := hide (HQ6.out.below hb7); have HB7 := hide (bt HB6.out hb7); have HS7 := hide (HS6.out.below hb7); clear hb7))
      clear HX6 HQ6 HB6 HS6 HSY
      have HNO : Hid (¬ Own d bS bT u c) := hide (fun e => by have h1 := HOW.out c e; have h2 := HCW.out; omega)
      have HSS : Hid (∀ W : World, (∀ b, b < W7.heap.size → b ≠ c → W.heap[b]? = W7.heap[b]?) → Slp (fun b => ¬ (Own d bS bT u b ∨ b = c)) W (.slice pv nv mv) (slotAt s.cs a).2) := hide (fun W hW => HS7.out.keep (fun b p _ e => e.elim (fun e => by have h1 := HOW.out b e; have h2 := p.1; omega) p.2) (fun b p hb => hW b hb p.2))
      skip
      have x2 := HX7.out.c2
      have x4 := HX7.out.c4
      have f4 := HX7.out.fz 4
      have HX8 := hide (HX7.out.set4 (.bool false))
      skip
      have hTT : ¬ (slotAt s.cs a).1 < (slotAt s.cs a).1 := by omega
      by_cases hp : 0 < (slotAt s.cs a).1
      all_goals
        go_wp2_with fail
        go_ret2
        exact ⟨c, .slice pv nv mv, rfl, ⟨HQ7.out.setC HNO.out _ _, HX8.out, HNO.out, HSS.out _ (fun b _ hb => Below.heap_setCell _ _ _ _ hb)⟩, HCW.out, HB7.out.setCell HCW.out _⟩
set_option maxRecDepth 100000 in
set_option maxHeartbeats 8000000 in
theorem sopen_bad {d bS bT : Nat} {u : Value} {s : Dst} (a : Int) (w : World) (hq : Dq w d bS bT u s) (ha : ¬ Num a) (hr : -1000 ≤ a ∧ a ≤ 2000000000) : Calls Try.prog 20 #[.pointer (some ⟨d, 0, none⟩), .int .i64 a] w fun e w' => e = .returned (.tuple #[.pointer none, ev (some ([(opSlot, 0), (opBlock, a)], 2))]) ∧ Below w.heap.size w w' := by
  have hal : Below w.heap.size w (w.alloc (.cells #[.int .i64 0, .slice none 0 0, .int .i64 0, .slice none 0 0] 90)) := (Below.refl _ _).alloc (Nat.le_refl _) _
  have HQ := hide (hq.below hal)
  have HB := hide hal
  have HA := hide ha
  obtain ⟨hr0, hr1⟩ := hr
  have hwr : a + 0 = a := by omega
  clear hal hq
  go_enter Try.func20, Try.ntmps20
  go_wp2
  refine wp_loop_rounds 1 ?_
  rw [rounds_succ]
  go_wp2_with (first | (go_at_call 44; refine (bread_bad a _ HQ.out.dk HA.out).mono ?_; rintro e w2 ⟨rfl, hw2⟩; rw [hw2]; clear hw2 w2) | (go_at_call 38; refine (wrap_some _ _ _ _ _).mono ?_; rintro e w3 ⟨rfl, hw3⟩; rw [hw3]; clear hw3 w3))
  go_ret2
  exact ⟨rfl, HB.out⟩
end Go.Proofs.Ytmgfcgknajehaaa
