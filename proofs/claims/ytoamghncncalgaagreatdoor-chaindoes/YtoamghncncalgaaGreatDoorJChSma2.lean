/-
  RECORDS, ONE BY ONE (castellanref09.Same): where both rows have the same, true. Condition: fewer than a hundred thousand.
  HOW MANY BLOCKS ARE TAKEN, AS THE DOCUMENT COUNTS THEM (castellanref08.Used), over any store: as many as are there. Conditions: the numbers rise, fewer than eighty thousand blocks and writes.
-/
import Derived.Test.YtoamghncncalgaaGreatDoorJChO
import Derived.Test.YtoamghncncalgaaGreatDoorJHelda2
import Derived.Laws.IdiomStrings
import Derived.BigQuiet
import Derived.Test.YtoamghncncalgaaGreatDoorJDocFra2
namespace Go.Proofs.YtoamghncncalgaaGreatDoor
open Go.RowKit

def bsC (l : List Int) : List UInt8 := l.map fun x => UInt8.ofNat x.toNat
theorem bsC_len (l : List Int) : (bsC l).length = l.length := by simp [bsC]
theorem str_ofC {W : World} {u : Value} {T : List Int} (h : Sl bc W u T) (hb : Byt T) : (convert 43 9 u).run Tryz.prog W = .ok (.string ⟨(bsC T).toArray⟩) W := by
  rcases h with ⟨ao, cap, rfl, rfl⟩ | ⟨b, o, cap, rfl, _, h3⟩
  · cases ao with
    | none =>
      rw [run_convert_bytes_string W 43 9 5 none 0 cap Tryz.underlying43 Tryz.underlying5 Tryz.underlying9]
      simp [Conv.bytesToString]
      rfl
    | some a => exact run_convert_bytes_back W 43 9 5 a cap [] Tryz.underlying43 Tryz.underlying5 Tryz.underlying9 (fun j hj => by simp at hj)
  · have := run_convert_bytes_back W 43 9 5 ⟨b, o, none⟩ cap (bsC T) Tryz.underlying43 Tryz.underlying5 Tryz.underlying9 (fun j hj => by
      have hj' : j < T.length := by rwa [bsC_len] at hj
      have e := h3 j hj'
      rw [show ((⟨b, o, none⟩ : Addr).add j) = ⟨b, o + j, none⟩ from Addr.add_lit b o j, e]
      have hx := hb T[j] (List.getElem_mem hj')
      have e2 : (bsC T)[j] = UInt8.ofNat T[j].toNat := by simp [bsC]
      rw [e2, UInt8.toNat_ofNat']
      unfold bc
      congr 2
      omega)
    rwa [bsC_len] at this
theorem lm_get {α : Type} (f : α → List Value) (n : Nat) (hf : ∀ x, (f x).length = n) : ∀ (l : List α) (i : Nat) (h : i < l.length) (j : Nat) (u : Value), (f l[i])[j]? = some u → (l.flatMap f)[i * n + j]? = some u
  | [], i, h, _, _, _ => by simp at h
  | x :: r, 0, _, j, u, hj => by
    have hl : j < (f x).length := (List.getElem?_eq_some_iff.1 hj).1
    rw [List.flatMap_cons, Nat.zero_mul, Nat.zero_add, List.getElem?_append_left hl]
    exact hj
  | x :: r, i + 1, h, j, u, hj => by
    rw [List.flatMap_cons, List.getElem?_append_right (by rw [hf, Nat.succ_mul]; omega), hf, show (i + 1) * n + j - n = i * n + j by rw [Nat.succ_mul]; omega]
    exact lm_get f n hf r i (by simpa using h) j u hj
theorem lm_at {α : Type} (f : α → List Value) (n : Nat) (hf : ∀ x, (f x).length = n) {W : World} {b o : Nat} {l : List α} (h : W.rangeAt b o (l.flatMap f)) {i : Nat} (hi : i < l.length) : W.rangeAt b (o + i * n) (f l[i]) := fun j u hu => by
  rw [Nat.add_assoc]
  exact h _ u (lm_get f n hf l i hi j u hu)
theorem yields_conv {ops : Array Oper} {o : Oper} {a : Act} {S : World → Prop} (hw : Region.wanted o (yielded ops a.tmps) = true) (x : Operand) (ho : o.op = .convert 43 9 x) (v v' : Value) (hx : a.eval x = v) (hr : ∀ W, S W → (convert 43 9 v).run Tryz.prog W = .ok v' W) : YieldsIf Tryz.prog ops S o v' a :=
  .inl ⟨hw, fun w h => by
    unfold execOp
    simp only [ho, hx]
    have h2 := hr w h
    simp [h2, Result.andThen]⟩
/-- Records in a row, to be read. -/
def Lrd (W : World) (v : Value) (qs : List Lc) : Prop := (∃ ao cap, v = .slice ao qs.length cap ∧ (0 < qs.length → ∃ b o, ao = some ⟨b, o, none⟩ ∧ W.rangeAt b o (qs.flatMap lkc))) ∧ ∀ q ∈ qs, Sl bc W q.2.1 q.2.2 ∧ Byt q.2.2
theorem Lrd.below {W W' : World} {v : Value} {qs : List Lc} (h : Lrd W v qs) (hb : Below W.heap.size W W') : Lrd W' v qs := by
  obtain ⟨⟨ao, cap, e, hr⟩, h2⟩ := h
  exact ⟨⟨ao, cap, e, fun q => by obtain ⟨b, o, e1, e2⟩ := hr q; exact ⟨b, o, e1, range_belW e2 hb⟩⟩, fun p hp => ⟨(h2 p hp).1.below hb, (h2 p hp).2⟩⟩
theorem Lrd.at {W : World} {v : Value} {qs : List Lc} (h : Lrd W v qs) {k : Nat} (hk : k < qs.length) : ∃ b o cap, v = .slice (some ⟨b, o, none⟩) qs.length cap ∧ W.cell? ⟨b, o + k * 2, none⟩ = some (.int .i64 (qs[k]).1) ∧ W.cell? ⟨b, o + k * 2 + 1, none⟩ = some (qs[k]).2.1 := by
  obtain ⟨⟨ao, cap, e, hr⟩, _⟩ := h
  obtain ⟨b, o, rfl, h2⟩ := hr (by omega)
  have hf := lm_at lkc 2 (fun _ => rfl) h2 hk
  have h0 := hf 0 _ rfl
  have h1 := hf 1 _ rfl
  exact ⟨b, o, cap, e, h0, h1⟩
theorem Lrd.form {W : World} {v : Value} {qs : List Lc} (h : Lrd W v qs) : ∃ a k, v = .slice a qs.length k := by
  obtain ⟨⟨ao, cap, e, _⟩, _⟩ := h
  exact ⟨ao, cap, e⟩
set_option maxRecDepth 100000 in
set_option maxHeartbeats 4000000 in
theorem lsame_any (va vb : Value) (ps qs : List Lc) (w : World) (hp : Lrd w va ps) (hq : Lrd w vb qs) (he : lkO ps = lkO qs) (hn : ps.length < 100000) : Calls Tryz.prog 23 #[va, vb] w fun e w' => e = .returned (.bool true) ∧ Below w.heap.size w w' := by
  have hl : qs.length = ps.length := by have := congrArg List.length he; simpa [lkO] using this.symm
  obtain ⟨a0, c0, rfl⟩ := hp.form
  obtain ⟨b0, d0, rfl⟩ := hq.form
  have HP := hide hp
  have HQ := hide hq
  have HE : Hid (∀ k (h : k < ps.length) (h' : k < qs.length), (ps[k]).1 = (qs[k]).1 ∧ (ps[k]).2.2 = (qs[k]).2.2) := hide (fun k h h' => by
    have := congrArg (fun L => L[k]?) he
    simp only [lkO, List.getElem?_map, List.getElem?_eq_getElem h, List.getElem?_eq_getElem h', Option.map_some] at this
    have := Option.some.inj this
    exact Prod.mk.inj this)
  have HLL := hide hl
  rw [hl] at HQ ⊢
  clear hp hq he hl
  go_enter Tryz.func23, Tryz.ntmps23
  go_wp2
  go_loopw [5] (fun i W => ∃ k : Nat, k ≤ ps.length ∧ i = .int .i64 k ∧ Below w.heap.size w W) (fun i _ => ps.length - (iv i).toNat)
  case atStart => exact ⟨0, Nat.zero_le _, rfl, Below.refl _ _⟩
  case round =>
    obtain ⟨k, hk, rfl, hb⟩ := hrel
    have HB := hide hb
    clear hb
    by_cases hlt : k < ps.length
    · have hlq : k < qs.length := by have := HLL.out; omega
      obtain ⟨cb, co, cc, ea, x0, x1⟩ := (HP.out.below HB.out).at hlt
      obtain ⟨lb, lo, lc, eb, y0, y1⟩ := (HQ.out.below HB.out).at hlq
      obtain rfl := (Value.slice.inj ea).1
      obtain rfl := (Value.slice.inj eb).1
      clear ea eb
      obtain ⟨e1, e2⟩ := HE.out k hlt hlq
      have HS : Hid (∀ W, Below wr.heap.size wr W → (fun W => W.cell? ⟨cb, co + k * 2, none⟩ = some (.int .i64 (ps[k]).1) ∧ W.cell? ⟨lb, lo + k * 2, none⟩ = some (.int .i64 (ps[k]).1) ∧ W.cell? ⟨cb, co + k * 2 + 1, none⟩ = some (ps[k]).2.1 ∧ W.cell? ⟨lb, lo + k * 2 + 1, none⟩ = some (qs[k]).2.1 ∧ (convert 43 9 (ps[k]).2.1).run Tryz.prog W = .ok (.string ⟨(bsC (ps[k]).2.2).toArray⟩) W ∧ (convert 43 9 (qs[k]).2.1).run Tryz.prog W = .ok (.string ⟨(bsC (ps[k]).2.2).toArray⟩) W) W) := hide (fun W h => by
        have hW := HB.out.trans (h.mono HB.out.size)
        have s1 := str_ofC ((HP.out.below hW).2 _ (List.getElem_mem hlt)).1 ((HP.out.below hW).2 _ (List.getElem_mem hlt)).2
        have s2 := str_ofC ((HQ.out.below hW).2 _ (List.getElem_mem hlq)).1 ((HQ.out.below hW).2 _ (List.getElem_mem hlq)).2
        rw [← e2] at s2
        rw [← e1] at y0
        exact ⟨(h.cell (p := ⟨cb, co + k * 2, none⟩) (cell_block x0)).trans x0, (h.cell (p := ⟨lb, lo + k * 2, none⟩) (cell_block y0)).trans y0, (h.cell (p := ⟨cb, co + k * 2 + 1, none⟩) (cell_block x1)).trans x1, (h.cell (p := ⟨lb, lo + k * 2 + 1, none⟩) (cell_block y1)).trans y1, s1, s2⟩)
      clear x0 x1 y0 y1 e1 e2
      generalize (ps[k]).1 = xa at HS
      generalize (ps[k]).2.1 = xg at HS
      generalize (⟨(bsC (ps[k]).2.2).toArray⟩ : ByteArray) = xb at HS
      generalize (qs[k]).2.1 = yg at HS
      have hltI : (k : Int) < (ps.length : Int) := by omega
      have hne : (xa != xa) = false := by simp
      go_wp2_with fail
      have hdw : Below wr.heap.size wr wr.drew := (Below.refl _ _).drew
      refine wp_region_held_drew (S := fun W => W.cell? ⟨cb, co + k * 2, none⟩ = some (.int .i64 xa) ∧ W.cell? ⟨lb, lo + k * 2, none⟩ = some (.int .i64 xa) ∧ W.cell? ⟨cb, co + k * 2 + 1, none⟩ = some xg ∧ W.cell? ⟨lb, lo + k * 2 + 1, none⟩ = some yg ∧ (convert 43 9 xg).run Tryz.prog W = .ok (.string xb) W ∧ (convert 43 9 yg).run Tryz.prog W = .ok (.string xb) W) (by kernel_rfl) (HS.out _ hdw) (fun hHeld => ?_)
      have HB1 := hide (HB.out.trans (hdw.mono HB.out.size))
      generalize wr.drew = V1 at HB1 hHeld ⊢
      clear hdw HB HS
      refine wpAnyH_take (i := 0) (oi := _) (v := .slice (some ⟨cb, co, none⟩) ps.length c0) rfl (by kernel_rfl) (by kernel_rfl) (by kernel_rfl) (fun _ _ _ h => h) (Or.inl ⟨by rfl, by intro w hSw; clear hSw; go_simp⟩) hHeld ?_
      change wpAnyH _ _ _ _ _ _ _ (Act.put _ (some 17) _) _
      simp only [Act.put, List.setIfInBounds_toArray, List.set_cons_zero, List.set_cons_succ]
      refine wpAnyH_take (i := 1) (oi := _) (v := .int .i64 (k : Int)) rfl (by kernel_rfl) (by kernel_rfl) (by kernel_rfl) (fun _ _ _ h => h) (Or.inl ⟨by rfl, by intro w hSw; clear hSw; go_simp⟩) hHeld ?_
      change wpAnyH _ _ _ _ _ _ _ (Act.put _ (some 18) _) _
      simp only [Act.put, List.setIfInBounds_toArray, List.set_cons_zero, List.set_cons_succ]
      refine wpAnyH_take (i := 2) (oi := _) (v := .pointer (some ⟨cb, co + k * 2, none⟩)) rfl (by kernel_rfl) (by kernel_rfl) (by kernel_rfl) (fun _ _ _ h => h) (Or.inl ⟨by rfl, by intro w hSw; clear hSw; go_simp⟩) hHeld ?_
      change wpAnyH _ _ _ _ _ _ _ (Act.put _ (some 19) _) _
      simp only [Act.put, List.setIfInBounds_toArray, List.set_cons_zero, List.set_cons_succ]
      refine wpAnyH_take (i := 3) (oi := _) (v := .pointer (some ⟨cb, co + k * 2, none⟩)) rfl (by kernel_rfl) (by kernel_rfl) (by kernel_rfl) (fun _ _ _ h => h) (Or.inl ⟨by rfl, by intro w hSw; clear hSw; go_simp⟩) hHeld ?_
      change wpAnyH _ _ _ _ _ _ _ (Act.put _ (some 20) _) _
      simp only [Act.put, List.setIfInBounds_toArray, List.set_cons_zero, List.set_cons_succ]
      refine wpAnyH_take (i := 4) (oi := _) (v := .int .i64 xa) rfl (by kernel_rfl) (by kernel_rfl) (by kernel_rfl) (fun _ _ _ h => h) (Or.inl ⟨by rfl, by intro w hSw; obtain ⟨q0, q1, q2, q3, q4⟩ := hSw; clear q4; go_simp⟩) hHeld ?_
      change wpAnyH _ _ _ _ _ _ _ (Act.put _ (some 21) _) _
      simp only [Act.put, List.setIfInBounds_toArray, List.set_cons_zero, List.set_cons_succ]
      refine wpAnyH_take (i := 5) (oi := _) (v := .slice (some ⟨lb, lo, none⟩) ps.length d0) rfl (by kernel_rfl) (by kernel_rfl) (by kernel_rfl) (fun _ _ _ h => h) (Or.inl ⟨by rfl, by intro w hSw; clear hSw; go_simp⟩) hHeld ?_
      change wpAnyH _ _ _ _ _ _ _ (Act.put _ (some 22) _) _
      simp only [Act.put, List.setIfInBounds_toArray, List.set_cons_zero, List.set_cons_succ]
      refine wpAnyH_take (i := 6) (oi := _) (v := .int .i64 (k : Int)) rfl (by kernel_rfl) (by kernel_rfl) (by kernel_rfl) (fun _ _ _ h => h) (Or.inl ⟨by rfl, by intro w hSw; clear hSw; go_simp⟩) hHeld ?_
      change wpAnyH _ _ _ _ _ _ _ (Act.put _ (some 23) _) _
      simp only [Act.put, List.setIfInBounds_toArray, List.set_cons_zero, List.set_cons_succ]
      refine wpAnyH_take (i := 7) (oi := _) (v := .pointer (some ⟨lb, lo + k * 2, none⟩)) rfl (by kernel_rfl) (by kernel_rfl) (by kernel_rfl) (fun _ _ _ h => h) (Or.inl ⟨by rfl, by intro w hSw; clear hSw; go_simp⟩) hHeld ?_
      change wpAnyH _ _ _ _ _ _ _ (Act.put _ (some 24) _) _
      simp only [Act.put, List.setIfInBounds_toArray, List.set_cons_zero, List.set_cons_succ]
      refine wpAnyH_take (i := 8) (oi := _) (v := .pointer (some ⟨lb, lo + k * 2, none⟩)) rfl (by kernel_rfl) (by kernel_rfl) (by kernel_rfl) (fun _ _ _ h => h) (Or.inl ⟨by rfl, by intro w hSw; clear hSw; go_simp⟩) hHeld ?_
      change wpAnyH _ _ _ _ _ _ _ (Act.put _ (some 25) _) _
      simp only [Act.put, List.setIfInBounds_toArray, List.set_cons_zero, List.set_cons_succ]
      refine wpAnyH_take (i := 9) (oi := _) (v := .int .i64 xa) rfl (by kernel_rfl) (by kernel_rfl) (by kernel_rfl) (fun _ _ _ h => h) (Or.inl ⟨by rfl, by intro w hSw; obtain ⟨q0, q1, q2, q3, q4⟩ := hSw; clear q4; go_simp⟩) hHeld ?_
      change wpAnyH _ _ _ _ _ _ _ (Act.put _ (some 26) _) _
      simp only [Act.put, List.setIfInBounds_toArray, List.set_cons_zero, List.set_cons_succ]
      refine wpAnyH_take (i := 10) (oi := _) (v := .bool false) rfl (by kernel_rfl) (by kernel_rfl) (by kernel_rfl) (fun _ _ _ h => h) (Or.inl ⟨by rfl, by intro w hSw; clear hSw; go_simp⟩) hHeld ?_
      change wpAnyH _ _ _ _ _ _ _ (Act.put _ (some 27) _) _
      simp only [Act.put, List.setIfInBounds_toArray, List.set_cons_zero, List.set_cons_succ]
      refine wpAnyH_take (i := 11) (oi := _) (v := .bool false) rfl (by kernel_rfl) (by kernel_rfl) (by kernel_rfl) (fun _ _ _ h => h) (Or.inl ⟨by rfl, by intro w hSw; clear hSw; go_simp⟩) hHeld ?_
      change wpAnyH _ _ _ _ _ _ _ (Act.put _ (some 28) _) _
      simp only [Act.put, List.setIfInBounds_toArray, List.set_cons_zero, List.set_cons_succ]
      refine wpAnyH_take (i := 12) (oi := _) (v := .slice (some ⟨cb, co, none⟩) ps.length c0) rfl (by kernel_rfl) (by kernel_rfl) (by kernel_rfl) (fun _ _ _ h => h) (Or.inl ⟨by rfl, by intro w hSw; clear hSw; go_simp⟩) hHeld ?_
      change wpAnyH _ _ _ _ _ _ _ (Act.put _ (some 29) _) _
      simp only [Act.put, List.setIfInBounds_toArray, List.set_cons_zero, List.set_cons_succ]
      refine wpAnyH_take (i := 13) (oi := _) (v := .int .i64 (k : Int)) rfl (by kernel_rfl) (by kernel_rfl) (by kernel_rfl) (fun _ _ _ h => h) (Or.inl ⟨by rfl, by intro w hSw; clear hSw; go_simp⟩) hHeld ?_
      change wpAnyH _ _ _ _ _ _ _ (Act.put _ (some 30) _) _
      simp only [Act.put, List.setIfInBounds_toArray, List.set_cons_zero, List.set_cons_succ]
      refine wpAnyH_take (i := 14) (oi := _) (v := .pointer (some ⟨cb, co + k * 2, none⟩)) rfl (by kernel_rfl) (by kernel_rfl) (by kernel_rfl) (fun _ _ _ h => h) (Or.inl ⟨by rfl, by intro w hSw; clear hSw; go_simp⟩) hHeld ?_
      change wpAnyH _ _ _ _ _ _ _ (Act.put _ (some 31) _) _
      simp only [Act.put, List.setIfInBounds_toArray, List.set_cons_zero, List.set_cons_succ]
      refine wpAnyH_take (i := 15) (oi := _) (v := .pointer (some ⟨cb, co + k * 2 + 1, none⟩)) rfl (by kernel_rfl) (by kernel_rfl) (by kernel_rfl) (fun _ _ _ h => h) (Or.inl ⟨by rfl, by intro w hSw; clear hSw; go_simp⟩) hHeld ?_
      change wpAnyH _ _ _ _ _ _ _ (Act.put _ (some 32) _) _
      simp only [Act.put, List.setIfInBounds_toArray, List.set_cons_zero, List.set_cons_succ]
      refine wpAnyH_take (i := 16) (oi := _) (v := xg) rfl (by kernel_rfl) (by kernel_rfl) (by kernel_rfl) (fun _ _ _ h => h) (Or.inl ⟨by rfl, by intro w hSw; obtain ⟨q0, q1, q2, q3, q4⟩ := hSw; clear q4; go_simp⟩) hHeld ?_
      change wpAnyH _ _ _ _ _ _ _ (Act.put _ (some 33) _) _
      simp only [Act.put, List.setIfInBounds_toArray, List.set_cons_zero, List.set_cons_succ]
      refine wpAnyH_take (i := 17) (oi := _) (v := .string xb) rfl (by kernel_rfl) (by kernel_rfl) (by kernel_rfl) (fun _ _ _ h => h) (yields_conv (by rfl) _ rfl xg (.string xb) rfl (fun W hW => hW.2.2.2.2.1)) hHeld ?_
      change wpAnyH _ _ _ _ _ _ _ (Act.put _ (some 34) _) _
      simp only [Act.put, List.setIfInBounds_toArray, List.set_cons_zero, List.set_cons_succ]
      refine wpAnyH_take (i := 18) (oi := _) (v := .slice (some ⟨lb, lo, none⟩) ps.length d0) rfl (by kernel_rfl) (by kernel_rfl) (by kernel_rfl) (fun _ _ _ h => h) (Or.inl ⟨by rfl, by intro w hSw; clear hSw; go_simp⟩) hHeld ?_
      change wpAnyH _ _ _ _ _ _ _ (Act.put _ (some 35) _) _
      simp only [Act.put, List.setIfInBounds_toArray, List.set_cons_zero, List.set_cons_succ]
      refine wpAnyH_take (i := 19) (oi := _) (v := .int .i64 (k : Int)) rfl (by kernel_rfl) (by kernel_rfl) (by kernel_rfl) (fun _ _ _ h => h) (Or.inl ⟨by rfl, by intro w hSw; clear hSw; go_simp⟩) hHeld ?_
      change wpAnyH _ _ _ _ _ _ _ (Act.put _ (some 36) _) _
      simp only [Act.put, List.setIfInBounds_toArray, List.set_cons_zero, List.set_cons_succ]
      refine wpAnyH_take (i := 20) (oi := _) (v := .pointer (some ⟨lb, lo + k * 2, none⟩)) rfl (by kernel_rfl) (by kernel_rfl) (by kernel_rfl) (fun _ _ _ h => h) (Or.inl ⟨by rfl, by intro w hSw; clear hSw; go_simp⟩) hHeld ?_
      change wpAnyH _ _ _ _ _ _ _ (Act.put _ (some 37) _) _
      simp only [Act.put, List.setIfInBounds_toArray, List.set_cons_zero, List.set_cons_succ]
      refine wpAnyH_take (i := 21) (oi := _) (v := .pointer (some ⟨lb, lo + k * 2 + 1, none⟩)) rfl (by kernel_rfl) (by kernel_rfl) (by kernel_rfl) (fun _ _ _ h => h) (Or.inl ⟨by rfl, by intro w hSw; clear hSw; go_simp⟩) hHeld ?_
      change wpAnyH _ _ _ _ _ _ _ (Act.put _ (some 38) _) _
      simp only [Act.put, List.setIfInBounds_toArray, List.set_cons_zero, List.set_cons_succ]
      refine wpAnyH_take (i := 22) (oi := _) (v := yg) rfl (by kernel_rfl) (by kernel_rfl) (by kernel_rfl) (fun _ _ _ h => h) (Or.inl ⟨by rfl, by intro w hSw; obtain ⟨q0, q1, q2, q3, q4⟩ := hSw; clear q4; go_simp⟩) hHeld ?_
      change wpAnyH _ _ _ _ _ _ _ (Act.put _ (some 39) _) _
      simp only [Act.put, List.setIfInBounds_toArray, List.set_cons_zero, List.set_cons_succ]
      refine wpAnyH_take (i := 23) (oi := _) (v := .string xb) rfl (by kernel_rfl) (by kernel_rfl) (by kernel_rfl) (fun _ _ _ h => h) (yields_conv (by rfl) _ rfl yg (.string xb) rfl (fun W hW => hW.2.2.2.2.2)) hHeld ?_
      change wpAnyH _ _ _ _ _ _ _ (Act.put _ (some 40) _) _
      simp only [Act.put, List.setIfInBounds_toArray, List.set_cons_zero, List.set_cons_succ]
      refine wpAnyH_take (i := 24) (oi := _) (v := .bool false) rfl (by kernel_rfl) (by kernel_rfl) (by kernel_rfl) (fun _ _ _ h => h) (Or.inl ⟨by rfl, by intro w hSw; clear hSw; go_simp⟩) hHeld ?_
      change wpAnyH _ _ _ _ _ _ _ (Act.put _ (some 41) _) _
      simp only [Act.put, List.setIfInBounds_toArray, List.set_cons_zero, List.set_cons_succ]
      refine wpAnyH_take (i := 25) (oi := _) (v := .bool false) rfl (by kernel_rfl) (by kernel_rfl) (by kernel_rfl) (fun _ _ _ h => h) (Or.inl ⟨by rfl, by intro w hSw; clear hSw; go_simp⟩) hHeld ?_
      change wpAnyH _ _ _ _ _ _ _ (Act.put _ (some 42) _) _
      simp only [Act.put, List.setIfInBounds_toArray, List.set_cons_zero, List.set_cons_succ]
      refine wpAnyH_done (by kernel_rfl) ?_ _
      clear hHeld
      go_wp2
      exact ⟨⟨k + 1, by omega, by go_num, HB1.out⟩, by simp [iv]; omega⟩
    · go_wp2
      go_ret
      exact ⟨rfl, HB.out⟩
end Go.Proofs.YtoamghncncalgaaGreatDoor
namespace Go.Proofs.YtoamghncncalgaaGreatDoor
open Go.RowKit

theorem look_stT_is (t : Cs) (w : Wr) (a : Int) : (look (stT t w) a).isSome = ((look t a).isSome || (decide (w.at_ = a) && !w.fr)) := by
  by_cases e : w.at_ = a
  · subst e
    unfold stT
    cases hf : w.fr
    · simp only [Bool.false_eq_true, if_false]
      rw [look_ins, if_pos rfl]; simp
    · simp only [if_true]
      split
      · rename_i h; rw [look_ins, if_pos rfl]; simp [h]
      · simp
  · rw [look_stT e]; simp [e]
/-- What is taken is what is there. -/
theorem tkn_is (a : Int) : ∀ (lo : List Wr) (cs : Cs), tkn cs lo a = (look (tkO cs lo) a).isSome
  | [], cs => by simp [tkn, tkO]
  | w :: lo, cs => by
    have h : tkO cs (w :: lo) = tkO (stT cs w) lo := rfl
    rw [h, ← tkn_is a lo (stT cs w)]
    unfold tkn
    rw [look_stT_is, List.any_cons, Bool.or_assoc]
theorem tk_len_step {cs : Cs} (h : Asc cs) {lo : List Wr} {k : Nat} (hk : k < lo.length) : (tkO cs (lo.take (k + 1))).length = (tkO cs (lo.take k)).length + (if (lo[k]).fr || tkn cs (lo.take k) (lo[k]).at_ then 0 else 1) := by
  rw [take_step hk, tkO_snoc, tkn_is]
  have ha := asc_tkO h (lo.take k)
  generalize tkO cs (lo.take k) = t at ha
  unfold stT
  cases hf : (lo[k]).fr
  · simp only [Bool.false_eq_true, if_false, Bool.false_or]
    rw [ins_len _ _ ha]
    split <;> rfl
  · simp only [if_true, Bool.true_or]
    split
    · rename_i hs
      rw [ins_len _ _ ha, if_pos hs]; rfl
    · rfl
/-- Was it written ahead? -/
def wrb (q : Dw) (a : Int) : Bool := decide (q.1.at_ = a) && !q.1.fr
set_option maxRecDepth 100000 in
set_option maxHeartbeats 8000000 in
theorem rused_any {P : Nat → Prop} (v : Value) (s : Dst) (w : World) (h : Dd w P v s) (hA : Asc s.cs) (hn : s.cs.length + s.lo.length < 80000) : Calls Tryz.prog 42 #[v] w fun e w' => e = .returned (.int .i64 s.tk.length) ∧ Below w.heap.size w w' := by
  obtain ⟨vc, vl, qs, ls, rfl, hc, hl, h3, h4⟩ := h
  obtain ⟨ca, cc, rfl⟩ := hc.fm
  obtain ⟨la, lc, rfl⟩ := hl.fm
  have hnl : ls.length = s.lo.length := by have := congrArg List.length h4; simpa [loOf] using this
  have hnq : qs.length = s.cs.length := by have := congrArg List.length h3; simpa [csOf] using this
  have HA := hide hA
  have HC := hide hc
  have HL := hide hl
  have H3 := hide h3
  have H4 := hide h4
  have HNL := hide hnl
  have HNQ := hide hnq
  have hls : ls.length < 80000 := by omega
  have HQN : Hid (qs.length < 100000) := hide (by omega)
  have HTL : Hid (∀ k, k ≤ ls.length → (tkO s.cs (s.lo.take k)).length < 80000) := hide (fun k hk => by
    have h1 := tkO_len hA (l := s.lo.take k)
    rw [List.length_take] at h1
    omega)
  clear hA hc hl h3 h4 hnl hnq
  go_enter Tryz.func42, Tryz.ntmps42
  go_wp2
  have HV := hide (b3_new w (.int .i64 s.room) (.slice ca qs.length cc) (.slice la ls.length lc) 37)
  have HB := hide (al_d w (.cells #[.int .i64 s.room, .slice ca qs.length cc, .slice la ls.length lc] 37))
  generalize w.alloc (.cells #[.int .i64 s.room, .slice ca qs.length cc, .slice la ls.length lc] 37) = V at HV HB ⊢
  have HS0 : Hid (tkO s.cs (s.lo.take 0) = s.cs) := hide rfl
  go_loopw [3, 4] (fun n i W => ∃ k : Nat, k ≤ ls.length ∧ i = .int .i64 k ∧ n = .int .i64 (tkO s.cs (s.lo.take k)).length ∧ Below V.heap.size V W) (fun _ i _ => ls.length - (iv i).toNat)
  case atStart => exact ⟨0, Nat.zero_le _, rfl, by rw [HS0.out, HNQ.out], Below.refl _ _⟩
  case round =>
    obtain ⟨k, hk, rfl, rfl, hb⟩ := hrel
    have HW := hide hb
    have HWW := hide (HB.out.trans (hb.mono HB.out.size))
    obtain ⟨d0, d1, d2, _⟩ := HV.out.below hb
    clear hb
    by_cases hlt : k < ls.length
    · have hlo : k < s.lo.length := by have := HNL.out; omega
      obtain ⟨lb, lo, rfl, c0, c1, c2⟩ := Ll.at (HL.out.below HWW.out) hlt
      have hq4 : (ls[k]).1 = s.lo[k] := by have := congrArg (fun L => L[k]?) H4.out; simp only [loOf, List.getElem?_map, List.getElem?_eq_getElem hlt, List.getElem?_eq_getElem hlo, Option.map_some] at this; exact Option.some.inj this
      have hst := tk_len_step HA.out hlo
      rw [← hq4, ← H3.out, ← H4.out] at hst
      rw [← H3.out, ← H4.out]
      have htk : (tkO (csOf qs) ((loOf ls).take k)).length < 80000 := by rw [H3.out, H4.out]; exact HTL.out k hk
      have HST := hide hst
      obtain ⟨t1, ht1⟩ : ∃ t1, t1 = (tkO (csOf qs) ((loOf ls).take (k + 1))).length := ⟨_, rfl⟩
      rw [← ht1] at HST
      have HT0 : Hid ((tkO (csOf qs) ((loOf ls).take (k + 1))).length = t1) := hide ht1.symm
      clear ht1
      generalize (tkO (csOf qs) ((loOf ls).take k)).length = t0 at HST htk ⊢
      clear hst hq4 hlo
      generalize ls[k] = q at c0 c1 c2 HST
      obtain ⟨va, vn, vc, hv⟩ := dwv_form q
      rw [hv] at c2
      clear hv
      go_upto_region 6 with fail
      have hbx := b3_new wr (.int .i64 q.1.at_) (.bool q.1.fr) (.slice va vn vc) 107
      have hal := al_d wr (.cells #[.int .i64 q.1.at_, .bool q.1.fr, .slice va vn vc] 107)
      have HD1 := hide ((HV.out.below HW.out).below hal)
      have HW1 := hide (bt HWW.out hal)
      have HV1 := hide (bt HW.out hal)
      clear c0 c1 c2 d0 d1 d2
      generalize wr.alloc (.cells #[.int .i64 q.1.at_, .bool q.1.fr, .slice va vn vc] 107) = W1 at hbx hal HD1 HW1 HV1 ⊢
      generalize wr.heap.size = bx at hbx ⊢
      generalize q.1.at_ = qa at hbx HST ⊢
      generalize q.1.fr = qf at hbx HST ⊢
      have HBX := hide hbx
      obtain ⟨b0, b1, b2, _⟩ := hbx
      obtain ⟨d0, d1, d2, _⟩ := HD1.out
      clear hal
      cases hlk : (look (csOf qs) qa).isSome
      · have HLK := hide hlk
        cases qf
        · have HTN : Hid (t1 = t0 + (if (ls.take k).any (fun q => wrb q qa) then 0 else 1)) := hide (by
            have := HST.out
            simp only [tkn, hlk, Bool.false_or, loOf, ← List.map_take, List.any_map] at this
            exact this)
          clear HST hlk
          go_wp2_with (first | (go_at_call 53; refine (find_any qs qa _ (HC.out.below HW1.out) HQN.out).mono ?_; rintro e w9 ⟨x, rfl, hw9, _, _⟩; rw [hw9, HLK.out]; clear hw9 w9))
          clear HLK
          go_loopw [8, 9] (fun f i W => ∃ m : Nat, m ≤ k ∧ i = .int .i64 m ∧ f = .bool (!((ls.take m).any fun q => wrb q qa)) ∧ Below W1.heap.size W1 W) (fun _ i _ => k - (iv i).toNat)
          case atStart => exact ⟨0, Nat.zero_le _, rfl, rfl, Below.refl _ _⟩
          case round =>
            obtain ⟨m, hm, rfl, rfl, hb⟩ := hrel
            have HBM := hide hb
            have HVM := hide (HV1.out.trans (hb.mono HV1.out.size))
            have HWM := hide (bt HW1.out hb)
            obtain ⟨y0, y1, y2, _⟩ := HBX.out.below hb
            obtain ⟨z0, z1, z2, _⟩ := HD1.out.below hb
            clear hb b0 b1 b2 d0 d1 d2
            by_cases hmk : m < k
            · have hml : m < ls.length := by omega
              obtain ⟨lb', lo', e, c0, c1, c2⟩ := Ll.at (HL.out.below HWM.out) hml
              cases e
              have HTK : Hid ((ls.take (m + 1)).any (fun q => wrb q qa) = ((ls.take m).any (fun q => wrb q qa) || wrb ls[m] qa)) := hide (by rw [take_step hml, List.any_append]; simp)
              generalize (ls.take m).any (fun q => wrb q qa) = f0 at HTK ⊢
              generalize ls[m] = p at c0 c1 c2 HTK
              obtain ⟨⟨pa, pf, pb⟩, pg⟩ := p
              simp only at c0 c1
              clear c2
              by_cases he : pa = qa
              · subst he
                cases pf
                · go_wp2_with fail
                  go_quiet (fail)
                  go_wp2
                  exact ⟨⟨m + 1, by omega, by go_num, by rw [HTK.out]; simp [wrb], below_drewN HBM.out _⟩, by simp [iv]; omega⟩
                · go_wp2_with fail
                  go_quiet (fail)
                  go_wp2
                  exact ⟨⟨m + 1, by omega, by go_num, by rw [HTK.out]; simp [wrb], below_drewN HBM.out _⟩, by simp [iv]; omega⟩
              · have hz : (pa == qa) = false := beq_eq_false_iff_ne.2 he
                go_wp2_with fail
                go_quiet (fail)
                go_wp2
                exact ⟨⟨m + 1, by omega, by go_num, by rw [HTK.out]; simp [wrb, he], below_drewN HBM.out _⟩, by simp [iv]; omega⟩
            · obtain rfl : m = k := by omega
              cases hf : (ls.take m).any (fun q => wrb q qa)
              · have HTM : Hid (t1 = t0 + 1) := hide (by have := HTN.out; rw [hf] at this; simpa using this)
                go_wp2
                exact ⟨⟨m + 1, by omega, by go_num, by rw [HT0.out, HTM.out]; simp, HVM.out⟩, by simp [iv]; omega⟩
              · have HTM : Hid (t1 = t0) := hide (by have := HTN.out; rw [hf] at this; simpa using this)
                go_wp2
                exact ⟨⟨m + 1, by omega, by go_num, by rw [HT0.out, HTM.out], HVM.out⟩, by simp [iv]; omega⟩
        · have HTN : Hid (t1 = t0) := hide (by have := HST.out; simpa using this)
          clear HST hlk
          go_wp2_with (first | (go_at_call 53; refine (find_any qs qa _ (HC.out.below HW1.out) HQN.out).mono ?_; rintro e w9 ⟨x, rfl, hw9, _, _⟩; rw [hw9, HLK.out]; clear hw9 w9))
          exact ⟨⟨k + 1, by omega, by go_num, by rw [HT0.out, HTN.out], HV1.out⟩, by simp [iv]; omega⟩
      · have HLK := hide hlk
        have HTN : Hid (t1 = t0) := hide (by have := HST.out; simpa [tkn, hlk] using this)
        clear HST hlk
        cases qf
        · go_wp2_with (first | (go_at_call 53; refine (find_any qs qa _ (HC.out.below HW1.out) HQN.out).mono ?_; rintro e w9 ⟨x, rfl, hw9, _, _⟩; rw [hw9, HLK.out]; clear hw9 w9))
          exact ⟨⟨k + 1, by omega, by go_num, by rw [HT0.out, HTN.out], HV1.out⟩, by simp [iv]; omega⟩
        · go_wp2_with (first | (go_at_call 53; refine (find_any qs qa _ (HC.out.below HW1.out) HQN.out).mono ?_; rintro e w9 ⟨x, rfl, hw9, _, _⟩; rw [hw9, HLK.out]; clear hw9 w9))
          exact ⟨⟨k + 1, by omega, by go_num, by rw [HT0.out, HTN.out], HV1.out⟩, by simp [iv]; omega⟩
    · obtain rfl : k = ls.length := by omega
      have HE : Hid (s.lo.take ls.length = s.lo) := hide (List.take_of_length_le (by have := HNL.out; omega))
      go_wp2
      go_ret
      exact ⟨by rw [HE.out]; rfl, HWW.out⟩
end Go.Proofs.YtoamghncncalgaaGreatDoor
