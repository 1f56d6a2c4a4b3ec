/-
  RECORDS, ONE BY ONE (castellanref09.Same): where both rows have the same, true. Condition: fewer than a hundred thousand.
-/
import Derived.Test.YtmgfcgknajehaaaChO
import Derived.Test.YtmgfcgknajehaaaHeld
import Derived.Laws.IdiomStrings
import Derived.BigQuiet
namespace Go.Proofs.Ytmgfcgknajehaaa
open Go.RowKit

def bsC (l : List Int) : List UInt8 := l.map fun x => UInt8.ofNat x.toNat
theorem bsC_len (l : List Int) : (bsC l).length = l.length := by simp [bsC]
theorem str_ofC {W : World} {u : Value} {T : List Int} (h : Sl bc W u T) (hb : Byt T) : (convert 27 9 u).run Try.prog W = .ok (.string ⟨(bsC T).toArray⟩) W := by
  rcases h with ⟨ao, cap, rfl, rfl⟩ | ⟨b, o, cap, rfl, _, h3⟩
  · cases ao with
    | none =>
      rw [run_convert_bytes_string W 27 9 5 none 0 cap Try.underlying27 Try.underlying5 Try.underlying9]
      simp [Conv.bytesToString]
      rfl
    | some a => exact run_convert_bytes_back W 27 9 5 a cap [] Try.underlying27 Try.underlying5 Try.underlying9 (fun j hj => by simp at hj)
  · have := run_convert_bytes_back W 27 9 5 ⟨b, o, none⟩ cap (bsC T) Try.underlying27 Try.underlying5 Try.underlying9 (fun j hj => by
      have hj' : j < T.length := by rwa [bsC_len] at hj
      have e := h3 j hj'
      rw [show ((⟨b, o, none⟩ : Addr).add j) = ⟨b, o + j, none⟩ from Addr.add_lit b o j, e]
      have hx := hb T[j] (List.getElem_mem hj')
      have e2 : (bsC T)[j] = UInt8.ofNat T[j].toNat := by simp [bsC]
      rw [e2, UInt8.toNat_ofNat']
      unfold bc
      congr 2
      omega)
    rwa [bsC_len] at this
theorem lm_get {α : Type} (f : α → List Value) (n : Nat) (hf : ∀ x, (f x).length = n) : ∀ (l : List α) (i : Nat) (h : i < l.length) (j : Nat) (u : Value), (f l[i])[j]? = some u → (l.flatMap f)[i * n + j]? = some u
  | [], i, h, _, _, _ => by simp at h
  | x :: r, 0, _, j, u, hj => by
    have hl : j < (f x).length := (List.getElem?_eq_some_iff.1 hj).1
    rw [List.flatMap_cons, Nat.zero_mul, Nat.zero_add, List.getElem?_append_left hl]
    exact hj
  | x :: r, i + 1, h, j, u, hj => by
    rw [List.flatMap_cons, List.getElem?_append_right (by rw [hf, Nat.succ_mul]; omega), hf, show (i + 1) * n + j - n = i * n + j by rw [Nat.succ_mul]; omega]
    exact lm_get f n hf r i (by simpa using h) j u hj
theorem lm_at {α : Type} (f : α → List Value) (n : Nat) (hf : ∀ x, (f x).length = n) {W : World} {b o : Nat} {l : List α} (h : W.rangeAt b o (l.flatMap f)) {i : Nat} (hi : i < l.length) : W.rangeAt b (o + i * n) (f l[i]) := fun j u hu => by
  rw [Nat.add_assoc]
  exact h _ u (lm_get f n hf l i hi j u hu)
theorem yields_conv {ops : Array Oper} {o : Oper} {a : Act} {S : World → Prop} (hw : Region.wanted o (yielded ops a.tmps) = true) (x : Operand) (ho : o.op = .convert 27 9 x) (v v' : Value) (hx : a.eval x = v) (hr : ∀ W, S W → (convert 27 9 v).run Try.prog W = .ok v' W) : YieldsIf Try.prog ops S o v' a :=
  .inl ⟨hw, fun w h => by
    unfold execOp
    simp only [ho, hx]
    have h2 := hr w h
    simp [h2, Result.andThen]⟩
/-- Records in a row, to be read. -/
def Lrd (W : World) (v : Value) (qs : List Lc) : Prop := (∃ ao cap, v = .slice ao qs.length cap ∧ (0 < qs.length → ∃ b o, ao = some ⟨b, o, none⟩ ∧ W.rangeAt b o (qs.flatMap lkc))) ∧ ∀ q ∈ qs, Sl bc W q.2.1 q.2.2 ∧ Byt q.2.2
theorem Lrd.below {W W' : World} {v : Value} {qs : List Lc} (h : Lrd W v qs) (hb : Below W.heap.size W W') : Lrd W' v qs := by
  obtain ⟨⟨ao, cap, e, hr⟩, h2⟩ := h
  exact ⟨⟨ao, cap, e, fun q => by obtain ⟨b, o, e1, e2⟩ := hr q; exact ⟨b, o, e1, range_belW e2 hb⟩⟩, fun p hp => ⟨(h2 p hp).1.below hb, (h2 p hp).2⟩⟩
theorem Lrd.at {W : World} {v : Value} {qs : List Lc} (h : Lrd W v qs) {k : Nat} (hk : k < qs.length) : ∃ b o cap, v = .slice (some ⟨b, o, none⟩) qs.length cap ∧ W.cell? ⟨b, o + k * 2, none⟩ = some (.int .i64 (qs[k]).1) ∧ W.cell? ⟨b, o + k * 2 + 1, none⟩ = some (qs[k]).2.1 := by
  obtain ⟨⟨ao, cap, e, hr⟩, _⟩ := h
  obtain ⟨b, o, rfl, h2⟩ := hr (by omega)
  have hf := lm_at lkc 2 (fun _ => rfl) h2 hk
  have h0 := hf 0 _ rfl
  have h1 := hf 1 _ rfl
  exact ⟨b, o, cap, e, h0, h1⟩
theorem Lrd.form {W : World} {v : Value} {qs : List Lc} (h : Lrd W v qs) : ∃ a k, v = .slice a qs.length k := by
  obtain ⟨⟨ao, cap, e, _⟩, _⟩ := h
  exact ⟨ao, cap, e⟩
set_option maxRecDepth 100000 in
set_option maxHeartbeats 4000000 in
theorem lsame_any (va vb : Value) (ps qs : List Lc) (w : World) (hp : Lrd w va ps) (hq : Lrd w vb qs) (he : lkO ps = lkO qs) (hn : ps.length < 100000) : Calls Try.prog 14 #[va, vb] w fun e w' => e = .returned (.bool true) ∧ Below w.heap.size w w' := by
  have hl : qs.length = ps.length := by have := congrArg List.length he; simpa [lkO] using this.symm
  obtain ⟨a0, c0, rfl⟩ := hp.form
  obtain ⟨b0, d0, rfl⟩ := hq.form
  have HP := hide hp
  have HQ := hide hq
  have HE : Hid (∀ k (h : k < ps.length) (h' : k < qs.length), (ps[k]).1 = (qs[k]).1 ∧ (ps[k]).2.2 = (qs[k]).2.2) := hide (fun k h h' => by
    have := congrArg (fun L => L[k]?) he
    simp only [lkO, List.getElem?_map, List.getElem?_eq_getElem h, List.getElem?_eq_getElem h', Option.map_some] at this
    have := Option.some.inj this
    exact Prod.mk.inj this)
  have HLL := hide hl
  rw [hl] at HQ ⊢
  clear hp hq he hl
  go_enter Try.func14, Try.ntmps14
  go_wp2
  go_loopw [5] (fun i W => ∃ k : Nat, k ≤ ps.length ∧ i = .int .i64 k ∧ Below w.heap.size w W) (fun i _ => ps.length - (iv i).toNat)
  case atStart => exact ⟨0, Nat.zero_le _, rfl, Below.refl _ _⟩
  case round =>
    obtain ⟨k, hk, rfl, hb⟩ := hrel
    have HB := hide hb
    clear hb
    by_cases hlt : k < ps.length
    · have hlq : k < qs.length := by have := HLL.out; omega
      obtain ⟨cb, co, cc, ea, x0, x1⟩ := (HP.out.below HB.out).at hlt
      obtain ⟨lb, lo, lc, eb, y0, y1⟩ := (HQ.out.below HB.out).at hlq
      obtain rfl := (Value.slice.inj ea).1
      obtain rfl := (Value.slice.inj eb).1
      clear ea eb
      obtain ⟨e1, e2⟩ := HE.out k hlt hlq
      have HS : Hid (∀ W, Below wr.heap.size wr W → (fun W => W.cell? ⟨cb, co + k * 2, none⟩ = some (.int .i64 (ps[k]).1) ∧ W.cell? ⟨lb, lo + k * 2, none⟩ = some (.int .i64 (ps[k]).1) ∧ W.cell? ⟨cb, co + k * 2 + 1, none⟩ = some (ps[k]).2.1 ∧ W.cell? ⟨lb, lo + k * 2 + 1, none⟩ = some (qs[k]).2.1 ∧ (convert 27 9 (ps[k]).2.1).run Try.prog W = .ok (.string ⟨(bsC (ps[k]).2.2).toArray⟩) W ∧ (convert 27 9 (qs[k]).2.1).run Try.prog W = .ok (.string ⟨(bsC (ps[k]).2.2).toArray⟩) W) W) := hide (fun W h => by
        have hW := HB.out.trans (h.mono HB.out.size)
        have s1 := str_ofC ((HP.out.below hW).2 _ (List.getElem_mem hlt)).1 ((HP.out.below hW).2 _ (List.getElem_mem hlt)).2
        have s2 := str_ofC ((HQ.out.below hW).2 _ (List.getElem_mem hlq)).1 ((HQ.out.below hW).2 _ (List.getElem_mem hlq)).2
        rw [← e2] at s2
        rw [← e1] at y0
        exact ⟨(h.cell (p := ⟨cb, co + k * 2, none⟩) (cell_block x0)).trans x0, (h.cell (p := ⟨lb, lo + k * 2, none⟩) (cell_block y0)).trans y0, (h.cell (p := ⟨cb, co + k * 2 + 1, none⟩) (cell_block x1)).trans x1, (h.cell (p := ⟨lb, lo + k * 2 + 1, none⟩) (cell_block y1)).trans y1, s1, s2⟩)
      clear x0 x1 y0 y1 e1 e2
      generalize (ps[k]).1 = xa at HS
      generalize (ps[k]).2.1 = xg at HS
      generalize (⟨(bsC (ps[k]).2.2).toArray⟩ : ByteArray) = xb at HS
      generalize (qs[k]).2.1 = yg at HS
      have hltI : (k : Int) < (ps.length : Int) := by omega
      have hne : (xa != xa) = false := by simp
      go_wp2_with fail
      have hdw : Below wr.heap.size wr wr.drew := (Below.refl _ _).drew
      refine wp_region_held_drew (S := fun W => W.cell? ⟨cb, co + k * 2, none⟩ = some (.int .i64 xa) ∧ W.cell? ⟨lb, lo + k * 2, none⟩ = some (.int .i64 xa) ∧ W.cell? ⟨cb, co + k * 2 + 1, none⟩ = some xg ∧ W.cell? ⟨lb, lo + k * 2 + 1, none⟩ = some yg ∧ (convert 27 9 xg).run Try.prog W = .ok (.string xb) W ∧ (convert 27 9 yg).run Try.prog W = .ok (.string xb) W) (by kernel_rfl) (HS.out _ hdw) (fun hHeld => ?_)
      have HB1 := hide (HB.out.trans (hdw.mono HB.out.size))
      generalize wr.drew = V1 at HB1 hHeld ⊢
      clear hdw HB HS
      refine wpAnyH_take (i := 0) (oi := _) (v := .slice (some ⟨cb, co, none⟩) ps.length c0) rfl (by kernel_rfl) (by kernel_rfl) (by kernel_rfl) (fun _ _ _ h => h) (Or.inl ⟨by rfl, by intro w hSw; clear hSw; go_simp⟩) hHeld ?_
      change wpAnyH _ _ _ _ _ _ _ (Act.put _ (some 17) _) _
      simp only [Act.put, List.setIfInBounds_toArray, List.set_cons_zero, List.set_cons_succ]
      refine wpAnyH_take (i := 1) (oi := _) (v := .int .i64 (k : Int)) rfl (by kernel_rfl) (by kernel_rfl) (by kernel_rfl) (fun _ _ _ h => h) (Or.inl ⟨by rfl, by intro w hSw; clear hSw; go_simp⟩) hHeld ?_
      change wpAnyH _ _ _ _ _ _ _ (Act.put _ (some 18) _) _
      simp only [Act.put, List.setIfInBounds_toArray, List.set_cons_zero, List.set_cons_succ]
      refine wpAnyH_take (i := 2) (oi := _) (v := .pointer (some ⟨cb, co + k * 2, none⟩)) rfl (by kernel_rfl) (by kernel_rfl) (by kernel_rfl) (fun _ _ _ h => h) (Or.inl ⟨by rfl, by intro w hSw; clear hSw; go_simp⟩) hHeld ?_
      change wpAnyH _ _ _ _ _ _ _ (Act.put _ (some 19) _) _
      simp only [Act.put, List.setIfInBounds_toArray, List.set_cons_zero, List.set_cons_succ]
      refine wpAnyH_take (i := 3) (oi := _) (v := .pointer (some ⟨cb, co + k * 2, none⟩)) rfl (by kernel_rfl) (by kernel_rfl) (by kernel_rfl) (fun _ _ _ h => h) (Or.inl ⟨by rfl, by intro w hSw; clear hSw; go_simp⟩) hHeld ?_
      change wpAnyH _ _ _ _ _ _ _ (Act.put _ (some 20) _) _
      simp only [Act.put, List.setIfInBounds_toArray, List.set_cons_zero, List.set_cons_succ]
      refine wpAnyH_take (i := 4) (oi := _) (v := .int .i64 xa) rfl (by kernel_rfl) (by kernel_rfl) (by kernel_rfl) (fun _ _ _ h => h) (Or.inl ⟨by rfl, by intro w hSw; obtain ⟨q0, q1, q2, q3, q4⟩ := hSw; clear q4; go_simp⟩) hHeld ?_
      change wpAnyH _ _ _ _ _ _ _ (Act.put _ (some 21) _) _
      simp only [Act.put, List.setIfInBounds_toArray, List.set_cons_zero, List.set_cons_succ]
      refine wpAnyH_take (i := 5) (oi := _) (v := .slice (some ⟨lb, lo, none⟩) ps.length d0) rfl (by kernel_rfl) (by kernel_rfl) (by kernel_rfl) (fun _ _ _ h => h) (Or.inl ⟨by rfl, by intro w hSw; clear hSw; go_simp⟩) hHeld ?_
      change wpAnyH _ _ _ _ _ _ _ (Act.put _ (some 22) _) _
      simp only [Act.put, List.setIfInBounds_toArray, List.set_cons_zero, List.set_cons_succ]
      refine wpAnyH_take (i := 6) (oi := _) (v := .int .i64 (k : Int)) rfl (by kernel_rfl) (by kernel_rfl) (by kernel_rfl) (fun _ _ _ h => h) (Or.inl ⟨by rfl, by intro w hSw; clear hSw; go_simp⟩) hHeld ?_
      change wpAnyH _ _ _ _ _ _ _ (Act.put _ (some 23) _) _
      simp only [Act.put, List.setIfInBounds_toArray, List.set_cons_zero, List.set_cons_succ]
      refine wpAnyH_take (i := 7) (oi := _) (v := .pointer (some ⟨lb, lo + k * 2, none⟩)) rfl (by kernel_rfl) (by kernel_rfl) (by kernel_rfl) (fun _ _ _ h => h) (Or.inl ⟨by rfl, by intro w hSw; clear hSw; go_simp⟩) hHeld ?_
      change wpAnyH _ _ _ _ _ _ _ (Act.put _ (some 24) _) _
      simp only [Act.put, List.setIfInBounds_toArray, List.set_cons_zero, List.set_cons_succ]
      refine wpAnyH_take (i := 8) (oi := _) (v := .pointer (some ⟨lb, lo + k * 2, none⟩)) rfl (by kernel_rfl) (by kernel_rfl) (by kernel_rfl) (fun _ _ _ h => h) (Or.inl ⟨by rfl, by intro w hSw; clear hSw; go_simp⟩) hHeld ?_
      change wpAnyH _ _ _ _ _ _ _ (Act.put _ (some 25) _) _
      simp only [Act.put, List.setIfInBounds_toArray, List.set_cons_zero, List.set_cons_succ]
      refine wpAnyH_take (i := 9) (oi := _) (v := .int .i64 xa) rfl (by kernel_rfl) (by kernel_rfl) (by kernel_rfl) (fun _ _ _ h => h) (Or.inl ⟨by rfl, by intro w hSw; obtain ⟨q0, q1, q2, q3, q4⟩ := hSw; clear q4; go_simp⟩) hHeld ?_
      change wpAnyH _ _ _ _ _ _ _ (Act.put _ (some 26) _) _
      simp only [Act.put, List.setIfInBounds_toArray, List.set_cons_zero, List.set_cons_succ]
      refine wpAnyH_take (i := 10) (oi := _) (v := .bool false) rfl (by kernel_rfl) (by kernel_rfl) (by kernel_rfl) (fun _ _ _ h => h) (Or.inl ⟨by rfl, by intro w hSw; clear hSw; go_simp⟩) hHeld ?_
      change wpAnyH _ _ _ _ _ _ _ (Act.put _ (some 27) _) _
      simp only [Act.put, List.setIfInBounds_toArray, List.set_cons_zero, List.set_cons_succ]
      refine wpAnyH_take (i := 11) (oi := _) (v := .bool false) rfl (by kernel_rfl) (by kernel_rfl) (by kernel_rfl) (fun _ _ _ h => h) (Or.inl ⟨by rfl, by intro w hSw; clear hSw; go_simp⟩) hHeld ?_
      change wpAnyH _ _ _ _ _ _ _ (Act.put _ (some 28) _) _
      simp only [Act.put, List.setIfInBounds_toArray, List.set_cons_zero, List.set_cons_succ]
      refine wpAnyH_take (i := 12) (oi := _) (v := .slice (some ⟨cb, co, none⟩) ps.length c0) rfl (by kernel_rfl) (by kernel_rfl) (by kernel_rfl) (fun _ _ _ h => h) (Or.inl ⟨by rfl, by intro w hSw; clear hSw; go_simp⟩) hHeld ?_
      change wpAnyH _ _ _ _ _ _ _ (Act.put _ (some 29) _) _
      simp only [Act.put, List.setIfInBounds_toArray, List.set_cons_zero, List.set_cons_succ]
      refine wpAnyH_take (i := 13) (oi := _) (v := .int .i64 (k : Int)) rfl (by kernel_rfl) (by kernel_rfl) (by kernel_rfl) (fun _ _ _ h => h) (Or.inl ⟨by rfl, by intro w hSw; clear hSw; go_simp⟩) hHeld ?_
      change wpAnyH _ _ _ _ _ _ _ (Act.put _ (some 30) _) _
      simp only [Act.put, List.setIfInBounds_toArray, List.set_cons_zero, List.set_cons_succ]
      refine wpAnyH_take (i := 14) (oi := _) (v := .pointer (some ⟨cb, co + k * 2, none⟩)) rfl (by kernel_rfl) (by kernel_rfl) (by kernel_rfl) (fun _ _ _ h => h) (Or.inl ⟨by rfl, by intro w hSw; clear hSw; go_simp⟩) hHeld ?_
      change wpAnyH _ _ _ _ _ _ _ (Act.put _ (some 31) _) _
      simp only [Act.put, List.setIfInBounds_toArray, List.set_cons_zero, List.set_cons_succ]
      refine wpAnyH_take (i := 15) (oi := _) (v := .pointer (some ⟨cb, co + k * 2 + 1, none⟩)) rfl (by kernel_rfl) (by kernel_rfl) (by kernel_rfl) (fun _ _ _ h => h) (Or.inl ⟨by rfl, by intro w hSw; clear hSw; go_simp⟩) hHeld ?_
      change wpAnyH _ _ _ _ _ _ _ (Act.put _ (some 32) _) _
      simp only [Act.put, List.setIfInBounds_toArray, List.set_cons_zero, List.set_cons_succ]
      refine wpAnyH_take (i := 16) (oi := _) (v := xg) rfl (by kernel_rfl) (by kernel_rfl) (by kernel_rfl) (fun _ _ _ h => h) (Or.inl ⟨by rfl, by intro w hSw; obtain ⟨q0, q1, q2, q3, q4⟩ := hSw; clear q4; go_simp⟩) hHeld ?_
      change wpAnyH _ _ _ _ _ _ _ (Act.put _ (some 33) _) _
      simp only [Act.put, List.setIfInBounds_toArray, List.set_cons_zero, List.set_cons_succ]
      refine wpAnyH_take (i := 17) (oi := _) (v := .string xb) rfl (by kernel_rfl) (by kernel_rfl) (by kernel_rfl) (fun _ _ _ h => h) (yields_conv (by rfl) _ rfl xg (.string xb) rfl (fun W hW => hW.2.2.2.2.1)) hHeld ?_
      change wpAnyH _ _ _ _ _ _ _ (Act.put _ (some 34) _) _
      simp only [Act.put, List.setIfInBounds_toArray, List.set_cons_zero, List.set_cons_succ]
      refine wpAnyH_take (i := 18) (oi := _) (v := .slice (some ⟨lb, lo, none⟩) ps.length d0) rfl (by kernel_rfl) (by kernel_rfl) (by kernel_rfl) (fun _ _ _ h => h) (Or.inl ⟨by rfl, by intro w hSw; clear hSw; go_simp⟩) hHeld ?_
      change wpAnyH _ _ _ _ _ _ _ (Act.put _ (some 35) _) _
      simp only [Act.put, List.setIfInBounds_toArray, List.set_cons_zero, List.set_cons_succ]
      refine wpAnyH_take (i := 19) (oi := _) (v := .int .i64 (k : Int)) rfl (by kernel_rfl) (by kernel_rfl) (by kernel_rfl) (fun _ _ _ h => h) (Or.inl ⟨by rfl, by intro w hSw; clear hSw; go_simp⟩) hHeld ?_
      change wpAnyH _ _ _ _ _ _ _ (Act.put _ (some 36) _) _
      simp only [Act.put, List.setIfInBounds_toArray, List.set_cons_zero, List.set_cons_succ]
      refine wpAnyH_take (i := 20) (oi := _) (v := .pointer (some ⟨lb, lo + k * 2, none⟩)) rfl (by kernel_rfl) (by kernel_rfl) (by kernel_rfl) (fun _ _ _ h => h) (Or.inl ⟨by rfl, by intro w hSw; clear hSw; go_simp⟩) hHeld ?_
      change wpAnyH _ _ _ _ _ _ _ (Act.put _ (some 37) _) _
      simp only [Act.put, List.setIfInBounds_toArray, List.set_cons_zero, List.set_cons_succ]
      refine wpAnyH_take (i := 21) (oi := _) (v := .pointer (some ⟨lb, lo + k * 2 + 1, none⟩)) rfl (by kernel_rfl) (by kernel_rfl) (by kernel_rfl) (fun _ _ _ h => h) (Or.inl ⟨by rfl, by intro w hSw; clear hSw; go_simp⟩) hHeld ?_
      change wpAnyH _ _ _ _ _ _ _ (Act.put _ (some 38) _) _
      simp only [Act.put, List.setIfInBounds_toArray, List.set_cons_zero, List.set_cons_succ]
      refine wpAnyH_take (i := 22) (oi := _) (v := yg) rfl (by kernel_rfl) (by kernel_rfl) (by kernel_rfl) (fun _ _ _ h => h) (Or.inl ⟨by rfl, by intro w hSw; obtain ⟨q0, q1, q2, q3, q4⟩ := hSw; clear q4; go_simp⟩) hHeld ?_
      change wpAnyH _ _ _ _ _ _ _ (Act.put _ (some 39) _) _
      simp only [Act.put, List.setIfInBounds_toArray, List.set_cons_zero, List.set_cons_succ]
      refine wpAnyH_take (i := 23) (oi := _) (v := .string xb) rfl (by kernel_rfl) (by kernel_rfl) (by kernel_rfl) (fun _ _ _ h => h) (yields_conv (by rfl) _ rfl yg (.string xb) rfl (fun W hW => hW.2.2.2.2.2)) hHeld ?_
      change wpAnyH _ _ _ _ _ _ _ (Act.put _ (some 40) _) _
      simp only [Act.put, List.setIfInBounds_toArray, List.set_cons_zero, List.set_cons_succ]
      refine wpAnyH_take (i := 24) (oi := _) (v := .bool false) rfl (by kernel_rfl) (by kernel_rfl) (by kernel_rfl) (fun _ _ _ h => h) (Or.inl ⟨by rfl, by intro w hSw; clear hSw; go_simp⟩) hHeld ?_
      change wpAnyH _ _ _ _ _ _ _ (Act.put _ (some 41) _) _
      simp only [Act.put, List.setIfInBounds_toArray, List.set_cons_zero, List.set_cons_succ]
      refine wpAnyH_take (i := 25) (oi := _) (v := .bool false) rfl (by kernel_rfl) (by kernel_rfl) (by kernel_rfl) (fun _ _ _ h => h) (Or.inl ⟨by rfl, by intro w hSw; clear hSw; go_simp⟩) hHeld ?_
      change wpAnyH _ _ _ _ _ _ _ (Act.put _ (some 42) _) _
      simp only [Act.put, List.setIfInBounds_toArray, List.set_cons_zero, List.set_cons_succ]
      refine wpAnyH_done (by kernel_rfl) ?_ _
      clear hHeld
      go_wp2
      exact ⟨⟨k + 1, by omega, by go_num, HB1.out⟩, by simp [iv]; omega⟩
    · go_wp2
      go_ret
      exact ⟨rfl, HB.out⟩
end Go.Proofs.Ytmgfcgknajehaaa
