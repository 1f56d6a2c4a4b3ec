/-
  BOTH CHAINS BETWEEN THEIR CALLS, and that they are the same (castellanlaw09.same): where both are in one state, true. Condition: fewer than thirty thousand blocks and writes.
-/
import Derived.Test.YtoamghncncalgaaGreatDoorJDocMx
import Derived.Test.YtoamghncncalgaaGreatDoorJChX
import Derived.Test.YtoamghncncalgaaGreatDoorJChSma2
import Derived.Test.YtoamghncncalgaaGreatDoorJDocCe
namespace Go.Proofs.YtoamghncncalgaaGreatDoor
open Go.RowKit

/-- The blocks of memory that are neither the chain's nor the box. -/
def Qc (c d bS bT rB : Nat) (u : Value) : Nat → Prop := fun k => ¬ (Own d bS bT u k ∨ k = c) ∧ k ≠ rB
/-- The program's chain, and the document's in its box, each in its state. -/
structure Cd (w W : World) (c d bS bT rB : Nat) (u : Value) (s : Dst) (base nx sp : Int) (t : Dst) (ny sy : Int) (x y : Value) : Prop where
  ch : Chn W c d bS bT u s base nx sp
  nc : Nc w W c d bS bT u
  bx : B6 W rB [.int .i64 t.room, x, y, .int .i64 base, .int .i64 ny, .int .i64 sy]
  dd : Dd W (Qc c d bS bT rB u) (.agg #[.int .i64 t.room, x, y]) t
  no : ¬ (Own d bS bT u rB ∨ rB = c)
  ge : w.heap.size ≤ rB
theorem Cx.outD {W W' : World} {c d bS bT : Nat} {u u' : Value} (hx : Cx c d bS bT u W W' u') {k : Nat} (hk : k < W.heap.size) (hn : ¬ (Own d bS bT u k ∨ k = c)) : ¬ (Own d bS bT u' k ∨ k = c) := fun e => by
  rcases e with (e | e | e | e) | e
  · exact hn (.inl (.inl e))
  · exact hn (.inl (.inr (.inl e)))
  · exact hn (.inl (.inr (.inr (.inl e))))
  · rcases hx.bl k e with q | q
    · exact hn (.inl (.inr (.inr (.inr q))))
    · omega
  · exact hn (.inr e)
theorem Chn.keepD {W W' : World} {c d bS bT : Nat} {u : Value} {s : Dst} {base nx sp : Int} (h : Chn W c d bS bT u s base nx sp) (hk : ∀ k, (Own d bS bT u k ∨ k = c) → W'.heap[k]? = W.heap[k]?) : Chn W' c d bS bT u s base nx sp := ⟨⟨h.q.dk.keep (fun k e => hk k (.inl e)), h.q.ok⟩, h.x.keepB (hk c (.inr rfl)), h.no⟩
theorem Chn.ltD {W : World} {c d bS bT : Nat} {u : Value} {s : Dst} {base nx sp : Int} (h : Chn W c d bS bT u s base nx sp) {k : Nat} (e : Own d bS bT u k ∨ k = c) : k < W.heap.size := e.elim (fun e => h.q.dk.lt e) (fun e => by rw [e]; exact h.x.lt)
section
variable {w W W' V : World} {c d bS bT rB : Nat} {u u' : Value} {s s' t t' : Dst} {base nx sp nx' sp' ny sy ny' sy' : Int} {x y x' y' : Value}
theorem Cd.below (h : Cd w W c d bS bT rB u s base nx sp t ny sy x y) (hb : Below W.heap.size W W') : Cd w W' c d bS bT rB u s base nx sp t ny sy x y := ⟨h.ch.below hb, h.nc.call hb, h.bx.below hb, h.dd.below hb, h.no, h.ge⟩
/-- Behind a call of the program's. -/
theorem Cd.prog (h : Cd w W c d bS bT rB u s base nx sp t ny sy x y) (hc : Chn W' c d bS bT u' s' base nx' sp') (hx : Cx c d bS bT u W W' u') : Cd w W' c d bS bT rB u' s' base nx' sp' t ny sy x y :=
  ⟨hc, h.nc.step hx, h.bx.keepB (hx.ba.block rB h.bx.lt h.no), h.dd.keep (fun _ p hk => ⟨hx.outD hk p.1, p.2⟩) (fun k p hk => hx.ba.block k hk p.1), hx.outD h.bx.lt h.no, h.ge⟩
/-- Behind a call of the document's, where the box takes what it answered. -/
theorem Cd.doc (h : Cd w W c d bS bT rB u s base nx sp t ny sy x y) (hb : Below W.heap.size W V) (hd : Dd V (fun k => Qc c d bS bT rB u k ∨ W.heap.size ≤ k) (.agg #[.int .i64 t'.room, x', y']) t') : Cd w (s6 V rB (.int .i64 t'.room) x' y' (.int .i64 base) (.int .i64 ny') (.int .i64 sy')) c d bS bT rB u s base nx sp t' ny' sy' x' y' := by
  have hne : ∀ k, (Own d bS bT u k ∨ k = c) → k ≠ rB := fun k e q => h.no (by rw [← q]; exact e)
  refine ⟨(h.ch.below hb).keepD (fun k e => s6_heap (hne k e) _ _ _ _ _ _), ⟨s6_below (bt h.nc.be hb) h.ge _ _ _ _ _ _, h.nc.ow⟩, (h.bx.below hb).put _ _ _ _ _ _, ?_, h.no, h.ge⟩
  refine hd.keep (fun k p hk => ?_) (fun _ p hk => s6_heap ?_ _ _ _ _ _ _)
  · exact p.elim id (fun e => ⟨fun q => by have := h.ch.ltD q; omega, fun q => by have := h.bx.lt; omega⟩)
  · exact p.elim (fun e => e.2) (fun e q => by have := h.bx.lt; omega)
end
set_option maxRecDepth 100000 in
set_option maxHeartbeats 8000000 in
theorem same9_any {c d bS bT : Nat} {u : Value} {s : Dst} {base nx sp : Int} {P : Nat → Prop} (a1 a2 : Option Addr) (n1 k1 n2 k2 : Nat) (w : World) (h : Chn w c d bS bT u s base nx sp) (hd : Dd w P (.agg #[.int .i64 s.room, .slice a1 n1 k1, .slice a2 n2 k2]) s) (hw : s.wt < 30000) : Calls Tryz.prog 24 #[.pointer (some ⟨d, 0, none⟩), .pointer (some ⟨c, 0, none⟩), .agg #[.int .i64 s.room, .slice a1 n1 k1, .slice a2 n2 k2, .int .i64 base, .int .i64 nx, .int .i64 sp]] w fun e w' => e = .returned (.bool true) ∧ Below w.heap.size w w' := by
  have hal : Below w.heap.size w (w.alloc (.cells #[.int .i64 s.room, .slice a1 n1 k1, .slice a2 n2 k2, .int .i64 base, .int .i64 nx, .int .i64 sp] 39)) := (Below.refl _ _).alloc (Nat.le_refl _) _
  have HX := hide (B6.new w (.int .i64 s.room) (.slice a1 n1 k1) (.slice a2 n2 k2) (.int .i64 base) (.int .i64 nx) (.int .i64 sp) 39)
  have HC := hide (h.below hal)
  have HD := hide (hd.below hal)
  have HB := hide hal
  clear h hd hal
  go_enter Tryz.func24, Tryz.ntmps24
  go_upto_region 1 with fail
  generalize (w.alloc (.cells #[.int .i64 s.room, .slice a1 n1 k1, .slice a2 n2 k2, .int .i64 base, .int .i64 nx, .int .i64 sp] 39)) = W1 at HX HC HD HB ⊢
  have HG : Hid (w.heap.size < W1.heap.size) := hide HX.out.lt
  have hdw : Below W1.heap.size W1 W1.drew := (Below.refl _ _).drew
  refine wp_region_held_drew (S := fun W => B6 W w.heap.size [.int .i64 s.room, .slice a1 n1 k1, .slice a2 n2 k2, .int .i64 base, .int .i64 nx, .int .i64 sp]) (by kernel_rfl) (HX.out.below hdw) (fun hHeld => ?_)
  have HC1 := hide (HC.out.below hdw)
  have HD1 := hide (HD.out.below hdw)
  have HB1 := hide (bt HB.out hdw)
  generalize W1.drew = V1 at HC1 HD1 HB1 hHeld ⊢
  clear hdw HX HC HD HB
  obtain ⟨qs, ls, hqs, hls⟩ : ∃ qs ls, (∀ W, Below V1.heap.size V1 W → Cl W P (.slice a1 n1 k1) qs) ∧ csOf qs = s.cs ∧ n2 = ls ∧ ls = s.lo.length := (by obtain ⟨vc, vl, qs, ls, e, h1, h2, h3, h4⟩ := HD1.out; obtain ⟨ca, cc, rfl⟩ := h1.fm; obtain ⟨la, lc, rfl⟩ := h2.fm; cases e; exact ⟨qs, ls.length, fun W hW => h1.below hW, h3, rfl, by have := congrArg List.length h4; simpa [loOf] using this⟩)
  have HQS := hide hqs
  obtain ⟨hcs, rfl, hlo⟩ := hls
  have HCS := hide hcs
  have HLO := hide hlo
  clear hqs hcs hlo
  refine wpAnyH_take (i := 0) (oi := _) (v := .pointer (some ⟨c, 0, none⟩)) rfl (by kernel_rfl) (by kernel_rfl) (by kernel_rfl) (fun _ _ _ h => h) (Or.inl ⟨by rfl, by intro w hSw; go_simp⟩) hHeld ?_
  change wpAnyH _ _ _ _ _ _ _ (Act.put _ (some 7) _) _
  simp only [Act.put, List.setIfInBounds_toArray, List.set_cons_zero, List.set_cons_succ]
  refine wpAnyH_take (i := 2) (oi := _) (v := .pointer (some ⟨w.heap.size, 4, none⟩)) rfl (by kernel_rfl) (by kernel_rfl) (by kernel_rfl) (fun _ _ _ h => h) (Or.inl ⟨by rfl, by intro w hSw; go_simp⟩) hHeld ?_
  change wpAnyH _ _ _ _ _ _ _ (Act.put _ (some 9) _) _
  simp only [Act.put, List.setIfInBounds_toArray, List.set_cons_zero, List.set_cons_succ]
  refine wpAnyH_take (i := 3) (oi := _) (v := .int .i64 nx) rfl (by kernel_rfl) (by kernel_rfl) (by kernel_rfl) (fun _ _ _ h => h) (Or.inl ⟨by rfl, by intro w hSw; have h4 := hSw.at (i := 4) (by simp); simp only [List.getElem_cons_zero, List.getElem_cons_succ] at h4; go_simp⟩) hHeld ?_
  change wpAnyH _ _ _ _ _ _ _ (Act.put _ (some 10) _) _
  simp only [Act.put, List.setIfInBounds_toArray, List.set_cons_zero, List.set_cons_succ]
  refine wpAnyH_ready (rs := [1]) (by kernel_rfl) (by simp) ?_
  refine AllReadyH.cons (o := _) rfl (fun K hK => ?_) AllReadyH.nil
  go_simp
  go_at_call 16
  refine (next_any _ HC1.out).mono ?_
  rintro e Wz ⟨rfl, hwz⟩
  rw [hwz]
  clear hwz Wz
  go_wp2_with fail
  refine hK.out _ _ hHeld (fun hHeld1 => ?_)
  clear hK K hHeld
  have hHeld := hHeld1
  clear hHeld1
  have hxx : (nx == nx) = true := by simp
  refine wpAnyH_take (i := 4) (oi := _) (v := .bool true) rfl (by kernel_rfl) (by kernel_rfl) (by kernel_rfl) (fun _ _ _ h => h) (Or.inl ⟨by rfl, by intro w hSw; go_simp⟩) hHeld ?_
  change wpAnyH _ _ _ _ _ _ _ (Act.put _ (some 11) _) _
  simp only [Act.put, List.setIfInBounds_toArray, List.set_cons_zero, List.set_cons_succ]
  clear hxx
  refine wpAnyH_take (i := 5) (oi := _) (v := .bool true) rfl (by kernel_rfl) (by kernel_rfl) (by kernel_rfl) (fun _ _ _ h => h) (Or.inl ⟨by rfl, by intro w hSw; go_simp⟩) hHeld ?_
  change wpAnyH _ _ _ _ _ _ _ (Act.put _ (some 12) _) _
  simp only [Act.put, List.setIfInBounds_toArray, List.set_cons_zero, List.set_cons_succ]
  refine wpAnyH_take (i := 6) (oi := _) (v := .pointer (some ⟨c, 0, none⟩)) rfl (by kernel_rfl) (by kernel_rfl) (by kernel_rfl) (fun _ _ _ h => h) (Or.inl ⟨by rfl, by intro w hSw; go_simp⟩) hHeld ?_
  change wpAnyH _ _ _ _ _ _ _ (Act.put _ (some 13) _) _
  simp only [Act.put, List.setIfInBounds_toArray, List.set_cons_zero, List.set_cons_succ]
  refine wpAnyH_take (i := 8) (oi := _) (v := .pointer (some ⟨w.heap.size, 5, none⟩)) rfl (by kernel_rfl) (by kernel_rfl) (by kernel_rfl) (fun _ _ _ h => h) (Or.inl ⟨by rfl, by intro w hSw; go_simp⟩) hHeld ?_
  change wpAnyH _ _ _ _ _ _ _ (Act.put _ (some 15) _) _
  simp only [Act.put, List.setIfInBounds_toArray, List.set_cons_zero, List.set_cons_succ]
  refine wpAnyH_take (i := 9) (oi := _) (v := .int .i64 sp) rfl (by kernel_rfl) (by kernel_rfl) (by kernel_rfl) (fun _ _ _ h => h) (Or.inl ⟨by rfl, by intro w hSw; have h5 := hSw.at (i := 5) (by simp); simp only [List.getElem_cons_zero, List.getElem_cons_succ] at h5; go_simp⟩) hHeld ?_
  change wpAnyH _ _ _ _ _ _ _ (Act.put _ (some 16) _) _
  simp only [Act.put, List.setIfInBounds_toArray, List.set_cons_zero, List.set_cons_succ]
  refine wpAnyH_ready (rs := [7]) (by kernel_rfl) (by simp) ?_
  refine AllReadyH.cons (o := _) rfl (fun K hK => ?_) AllReadyH.nil
  go_simp
  go_at_call 29
  refine (stampC_any _ HC1.out).mono ?_
  rintro e Wz ⟨rfl, hwz⟩
  rw [hwz]
  clear hwz Wz
  go_wp2_with fail
  refine hK.out _ _ hHeld (fun hHeld1 => ?_)
  clear hK K hHeld
  have hHeld := hHeld1
  clear hHeld1
  have hxx : (sp == sp) = true := by simp
  refine wpAnyH_take (i := 10) (oi := _) (v := .bool true) rfl (by kernel_rfl) (by kernel_rfl) (by kernel_rfl) (fun _ _ _ h => h) (Or.inl ⟨by rfl, by intro w hSw; go_simp⟩) hHeld ?_
  change wpAnyH _ _ _ _ _ _ _ (Act.put _ (some 17) _) _
  simp only [Act.put, List.setIfInBounds_toArray, List.set_cons_zero, List.set_cons_succ]
  clear hxx
  refine wpAnyH_take (i := 11) (oi := _) (v := .bool true) rfl (by kernel_rfl) (by kernel_rfl) (by kernel_rfl) (fun _ _ _ h => h) (Or.inl ⟨by rfl, by intro w hSw; go_simp⟩) hHeld ?_
  change wpAnyH _ _ _ _ _ _ _ (Act.put _ (some 18) _) _
  simp only [Act.put, List.setIfInBounds_toArray, List.set_cons_zero, List.set_cons_succ]
  refine wpAnyH_take (i := 12) (oi := _) (v := .bool true) rfl (by kernel_rfl) (by kernel_rfl) (by kernel_rfl) (fun _ _ _ h => h) (Or.inl ⟨by rfl, by intro w hSw; go_simp⟩) hHeld ?_
  change wpAnyH _ _ _ _ _ _ _ (Act.put _ (some 19) _) _
  simp only [Act.put, List.setIfInBounds_toArray, List.set_cons_zero, List.set_cons_succ]
  refine wpAnyH_take (i := 13) (oi := _) (v := .pointer (some ⟨d, 0, none⟩)) rfl (by kernel_rfl) (by kernel_rfl) (by kernel_rfl) (fun _ _ _ h => h) (Or.inl ⟨by rfl, by intro w hSw; go_simp⟩) hHeld ?_
  change wpAnyH _ _ _ _ _ _ _ (Act.put _ (some 20) _) _
  simp only [Act.put, List.setIfInBounds_toArray, List.set_cons_zero, List.set_cons_succ]
  refine wpAnyH_take (i := 15) (oi := _) (v := .pointer (some ⟨w.heap.size, 0, none⟩)) rfl (by kernel_rfl) (by kernel_rfl) (by kernel_rfl) (fun _ _ _ h => h) (Or.inl ⟨by rfl, by intro w hSw; go_simp⟩) hHeld ?_
  change wpAnyH _ _ _ _ _ _ _ (Act.put _ (some 22) _) _
  simp only [Act.put, List.setIfInBounds_toArray, List.set_cons_zero, List.set_cons_succ]
  refine wpAnyH_take (i := 16) (oi := _) (v := .pointer (some ⟨w.heap.size, 1, none⟩)) rfl (by kernel_rfl) (by kernel_rfl) (by kernel_rfl) (fun _ _ _ h => h) (Or.inl ⟨by rfl, by intro w hSw; go_simp⟩) hHeld ?_
  change wpAnyH _ _ _ _ _ _ _ (Act.put _ (some 23) _) _
  simp only [Act.put, List.setIfInBounds_toArray, List.set_cons_zero, List.set_cons_succ]
  refine wpAnyH_take (i := 17) (oi := _) (v := .slice a1 n1 k1) rfl (by kernel_rfl) (by kernel_rfl) (by kernel_rfl) (fun _ _ _ h => h) (Or.inl ⟨by rfl, by intro w hSw; have h1 := hSw.at (i := 1) (by simp); simp only [List.getElem_cons_zero, List.getElem_cons_succ] at h1; go_simp⟩) hHeld ?_
  change wpAnyH _ _ _ _ _ _ _ (Act.put _ (some 24) _) _
  simp only [Act.put, List.setIfInBounds_toArray, List.set_cons_zero, List.set_cons_succ]
  refine wpAnyH_ready (rs := [14]) (by kernel_rfl) (by simp) ?_
  refine AllReadyH.cons (o := _) rfl (fun K hK => ?_) AllReadyH.nil
  go_simp
  go_at_call 57
  refine (q_cells _ HC1.out.q hw).mono ?_
  rintro e V2 ⟨vq, pq, rfl, hcw, hcq, hbq⟩
  go_wp2_with fail
  refine hK.out _ _ (hHeld.below hbq) (fun hHeld1 => ?_)
  clear hK K hHeld
  have hHeld := hHeld1
  clear hHeld1
  have HC2 := hide (HC1.out.below hbq)
  have HD2 := hide (HD1.out.below hbq)
  have HB2 := hide (bt HB1.out hbq)
  have HW2 := hide hcw
  have HCQ := hide hcq
  have HQ2 := hide (HQS.out V2 hbq)
  have HPB : Hid (∀ q ∈ pq, Blk q.2.2) := hide (fun q hq => (HC1.out.q.ok.cb (q.1, q.2.2) (by rw [← hcq]; exact List.mem_map.2 ⟨q, hq, rfl⟩)).2)
  have HPN : Hid (pq.length < 100000) := hide (by have h1 := congrArg List.length hcq; simp only [csOf, List.length_map] at h1; have h2 : s.wt = s.cs.length + s.lo.length := rfl; omega)
  obtain ⟨qa, qc, rfl⟩ := cw_form hcw
  clear hcw hcq hbq HC1 HD1 HB1 HQS
  refine wpAnyH_ready (rs := [18]) (by kernel_rfl) (by simp) ?_
  refine AllReadyH.cons (o := _) rfl (fun K hK => ?_) AllReadyH.nil
  go_simp
  go_at_call 56
  refine (rcells_same _ _ pq qs _ HW2.out HPB.out HQ2.out (by rw [HCQ.out, HCS.out]) HPN.out).mono ?_
  rintro e V3 ⟨rfl, hbq⟩
  go_wp2_with fail
  refine hK.out _ _ (hHeld.below hbq) (fun hHeld1 => ?_)
  clear hK K hHeld
  have hHeld := hHeld1
  clear hHeld1
  have HC3 := hide (HC2.out.below hbq)
  have HD3 := hide (HD2.out.below hbq)
  have HB3 := hide (bt HB2.out hbq)
  clear hbq HC2 HD2 HB2 HW2 HQ2
  refine wpAnyH_take (i := 19) (oi := _) (v := .bool true) rfl (by kernel_rfl) (by kernel_rfl) (by kernel_rfl) (fun _ _ _ h => h) (Or.inl ⟨by rfl, by intro w hSw; go_simp⟩) hHeld ?_
  change wpAnyH _ _ _ _ _ _ _ (Act.put _ (some 26) _) _
  simp only [Act.put, List.setIfInBounds_toArray, List.set_cons_zero, List.set_cons_succ]
  refine wpAnyH_take (i := 20) (oi := _) (v := .bool true) rfl (by kernel_rfl) (by kernel_rfl) (by kernel_rfl) (fun _ _ _ h => h) (Or.inl ⟨by rfl, by intro w hSw; go_simp⟩) hHeld ?_
  change wpAnyH _ _ _ _ _ _ _ (Act.put _ (some 27) _) _
  simp only [Act.put, List.setIfInBounds_toArray, List.set_cons_zero, List.set_cons_succ]
  refine wpAnyH_take (i := 21) (oi := _) (v := .pointer (some ⟨d, 0, none⟩)) rfl (by kernel_rfl) (by kernel_rfl) (by kernel_rfl) (fun _ _ _ h => h) (Or.inl ⟨by rfl, by intro w hSw; go_simp⟩) hHeld ?_
  change wpAnyH _ _ _ _ _ _ _ (Act.put _ (some 28) _) _
  simp only [Act.put, List.setIfInBounds_toArray, List.set_cons_zero, List.set_cons_succ]
  refine wpAnyH_take (i := 23) (oi := _) (v := .pointer (some ⟨w.heap.size, 0, none⟩)) rfl (by kernel_rfl) (by kernel_rfl) (by kernel_rfl) (fun _ _ _ h => h) (Or.inl ⟨by rfl, by intro w hSw; go_simp⟩) hHeld ?_
  change wpAnyH _ _ _ _ _ _ _ (Act.put _ (some 30) _) _
  simp only [Act.put, List.setIfInBounds_toArray, List.set_cons_zero, List.set_cons_succ]
  refine wpAnyH_take (i := 24) (oi := _) (v := .pointer (some ⟨w.heap.size, 2, none⟩)) rfl (by kernel_rfl) (by kernel_rfl) (by kernel_rfl) (fun _ _ _ h => h) (Or.inl ⟨by rfl, by intro w hSw; go_simp⟩) hHeld ?_
  change wpAnyH _ _ _ _ _ _ _ (Act.put _ (some 31) _) _
  simp only [Act.put, List.setIfInBounds_toArray, List.set_cons_zero, List.set_cons_succ]
  refine wpAnyH_take (i := 25) (oi := _) (v := .slice a2 n2 k2) rfl (by kernel_rfl) (by kernel_rfl) (by kernel_rfl) (fun _ _ _ h => h) (Or.inl ⟨by rfl, by intro w hSw; have h2 := hSw.at (i := 2) (by simp); simp only [List.getElem_cons_zero, List.getElem_cons_succ] at h2; go_simp⟩) hHeld ?_
  change wpAnyH _ _ _ _ _ _ _ (Act.put _ (some 32) _) _
  simp only [Act.put, List.setIfInBounds_toArray, List.set_cons_zero, List.set_cons_succ]
  refine wpAnyH_take (i := 26) (oi := _) (v := .int .i64 (n2 : Int)) rfl (by kernel_rfl) (by kernel_rfl) (by kernel_rfl) (fun _ _ _ h => h) (Or.inl ⟨by rfl, by intro w hSw; go_simp⟩) hHeld ?_
  change wpAnyH _ _ _ _ _ _ _ (Act.put _ (some 33) _) _
  simp only [Act.put, List.setIfInBounds_toArray, List.set_cons_zero, List.set_cons_succ]
  refine wpAnyH_ready (rs := [22]) (by kernel_rfl) (by simp) ?_
  refine AllReadyH.cons (o := _) rfl (fun K hK => ?_) AllReadyH.nil
  go_simp
  go_at_call 58
  refine (q_loose _ HC3.out.q).mono ?_
  rintro e Wz ⟨rfl, hwz⟩
  rw [hwz, ← HLO.out]
  clear hwz Wz
  go_wp2_with fail
  refine hK.out _ _ hHeld (fun hHeld1 => ?_)
  clear hK K hHeld
  have hHeld := hHeld1
  clear hHeld1
  have hxx : ((n2 : Int) == (n2 : Int)) = true := by simp
  refine wpAnyH_take (i := 27) (oi := _) (v := .bool true) rfl (by kernel_rfl) (by kernel_rfl) (by kernel_rfl) (fun _ _ _ h => h) (Or.inl ⟨by rfl, by intro w hSw; go_simp⟩) hHeld ?_
  change wpAnyH _ _ _ _ _ _ _ (Act.put _ (some 34) _) _
  simp only [Act.put, List.setIfInBounds_toArray, List.set_cons_zero, List.set_cons_succ]
  clear hxx
  refine wpAnyH_take (i := 28) (oi := _) (v := .bool true) rfl (by kernel_rfl) (by kernel_rfl) (by kernel_rfl) (fun _ _ _ h => h) (Or.inl ⟨by rfl, by intro w hSw; go_simp⟩) hHeld ?_
  change wpAnyH _ _ _ _ _ _ _ (Act.put _ (some 35) _) _
  simp only [Act.put, List.setIfInBounds_toArray, List.set_cons_zero, List.set_cons_succ]
  refine wpAnyH_take (i := 29) (oi := _) (v := .bool true) rfl (by kernel_rfl) (by kernel_rfl) (by kernel_rfl) (fun _ _ _ h => h) (Or.inl ⟨by rfl, by intro w hSw; go_simp⟩) hHeld ?_
  change wpAnyH _ _ _ _ _ _ _ (Act.put _ (some 36) _) _
  simp only [Act.put, List.setIfInBounds_toArray, List.set_cons_zero, List.set_cons_succ]
  refine wpAnyH_take (i := 30) (oi := _) (v := .pointer (some ⟨d, 0, none⟩)) rfl (by kernel_rfl) (by kernel_rfl) (by kernel_rfl) (fun _ _ _ h => h) (Or.inl ⟨by rfl, by intro w hSw; go_simp⟩) hHeld ?_
  change wpAnyH _ _ _ _ _ _ _ (Act.put _ (some 37) _) _
  simp only [Act.put, List.setIfInBounds_toArray, List.set_cons_zero, List.set_cons_succ]
  refine wpAnyH_take (i := 32) (oi := _) (v := .pointer (some ⟨w.heap.size, 0, none⟩)) rfl (by kernel_rfl) (by kernel_rfl) (by kernel_rfl) (fun _ _ _ h => h) (Or.inl ⟨by rfl, by intro w hSw; go_simp⟩) hHeld ?_
  change wpAnyH _ _ _ _ _ _ _ (Act.put _ (some 39) _) _
  simp only [Act.put, List.setIfInBounds_toArray, List.set_cons_zero, List.set_cons_succ]
  refine wpAnyH_take (i := 33) (oi := _) (v := .agg #[.int .i64 s.room, .slice a1 n1 k1, .slice a2 n2 k2]) rfl (by kernel_rfl) (by kernel_rfl) (by kernel_rfl) (fun _ _ _ h => h) (Or.inl ⟨by rfl, by intro w hSw; have h0 := hSw.at (i := 0) (by simp); have h1 := hSw.at (i := 1) (by simp); have h2 := hSw.at (i := 2) (by simp); simp only [List.getElem_cons_zero, List.getElem_cons_succ] at h0 h1 h2; go_simp⟩) hHeld ?_
  change wpAnyH _ _ _ _ _ _ _ (Act.put _ (some 40) _) _
  simp only [Act.put, List.setIfInBounds_toArray, List.set_cons_zero, List.set_cons_succ]
  refine wpAnyH_ready (rs := [31]) (by kernel_rfl) (by simp) ?_
  refine AllReadyH.cons (o := _) rfl (fun K hK => ?_) AllReadyH.nil
  go_simp
  go_at_call 37
  refine (q_used _ HC3.out.q).mono ?_
  rintro e Wz ⟨rfl, hwz⟩
  rw [hwz]
  clear hwz Wz
  go_wp2_with fail
  refine hK.out _ _ hHeld (fun hHeld1 => ?_)
  clear hK K hHeld
  have hHeld := hHeld1
  clear hHeld1
  refine wpAnyH_ready (rs := [34]) (by kernel_rfl) (by simp) ?_
  refine AllReadyH.cons (o := _) rfl (fun K hK => ?_) AllReadyH.nil
  go_simp
  go_at_call 42
  refine (rused_any _ s _ HD3.out HC3.out.q.ok.asc (by have h2 : s.wt = s.cs.length + s.lo.length := rfl; omega)).mono ?_
  rintro e V5 ⟨rfl, hbq⟩
  go_wp2_with fail
  refine hK.out _ _ (hHeld.below hbq) (fun hHeld1 => ?_)
  clear hK K hHeld
  have hHeld := hHeld1
  clear hHeld1
  have HB5 := hide (bt HB3.out hbq)
  clear hbq HC3 HD3 HB3
  generalize (s.tk.length : Int) = tl
  have htt : (tl == tl) = true := by simp
  refine wpAnyH_take (i := 35) (oi := _) (v := .bool true) rfl (by kernel_rfl) (by kernel_rfl) (by kernel_rfl) (fun _ _ _ h => h) (Or.inl ⟨by rfl, by intro w hSw; go_simp⟩) hHeld ?_
  change wpAnyH _ _ _ _ _ _ _ (Act.put _ (some 42) _) _
  simp only [Act.put, List.setIfInBounds_toArray, List.set_cons_zero, List.set_cons_succ]
  clear htt
  refine wpAnyH_take (i := 36) (oi := _) (v := .bool true) rfl (by kernel_rfl) (by kernel_rfl) (by kernel_rfl) (fun _ _ _ h => h) (Or.inl ⟨by rfl, by intro w hSw; go_simp⟩) hHeld ?_
  change wpAnyH _ _ _ _ _ _ _ (Act.put _ (some 43) _) _
  simp only [Act.put, List.setIfInBounds_toArray, List.set_cons_zero, List.set_cons_succ]
  refine wpAnyH_take (i := 37) (oi := _) (v := .bool true) rfl (by kernel_rfl) (by kernel_rfl) (by kernel_rfl) (fun _ _ _ h => h) (Or.inl ⟨by rfl, by intro w hSw; go_simp⟩) hHeld ?_
  change wpAnyH _ _ _ _ _ _ _ (Act.put _ (some 6) _) _
  simp only [Act.put, List.setIfInBounds_toArray, List.set_cons_zero, List.set_cons_succ]
  refine wpAnyH_done (by kernel_rfl) ?_ _
  clear hHeld
  go_wp2_with fail
  go_ret
  exact ⟨rfl, HB5.out⟩
end Go.Proofs.YtoamghncncalgaaGreatDoor
