/-
  THE DOCUMENT's CHAIN IS SYNCED, BLOCKS ARE FREED, AND IT IS TRIMMED (castellanref09.Sync, free, Trim). Condition: fewer than eighty thousand blocks and writes.
-/
import Derived.Test.YtoamghncncalgaaGreatDoorJRefCe
import Derived.Test.YtoamghncncalgaaGreatDoorJRefCda2
import Derived.Test.YtoamghncncalgaaGreatDoorJDocPua2
namespace Go.Proofs.YtoamghncncalgaaGreatDoor
open Go.RowKit

/-- Blocks of memory that were there, or are new. -/
def Pn (P : Nat → Prop) (B C : Nat) : Nat → Prop := fun k => (P k ∧ k < B) ∨ C ≤ k
theorem Dd.pn {W W' : World} {P : Nat → Prop} {v : Value} {s : Dst} (h : Dd W P v s) (hb : Below W.heap.size W W') (C : Nat) : Dd W' (Pn P W.heap.size C) v s := h.keep (fun _ p hk => .inl ⟨p, hk⟩) (fun k _ hk => hb.block k hk)
theorem Dd.pnC {W : World} {P : Nat → Prop} {B C D : Nat} {v : Value} {s : Dst} (h : Dd W (fun k => Pn P B C k ∨ D ≤ k) v s) (hD : C ≤ D) : Dd W (Pn P B C) v s := h.keep (fun _ p _ => p.elim id (fun e => .inr (Nat.le_trans hD e))) (fun _ _ _ => rfl)
theorem Dd.pnO {W W' : World} {P : Nat → Prop} {B C : Nat} {v : Value} {s : Dst} (h : Dd W (Pn P B C) v s) (hB : B ≤ C) (hk : ∀ k, (k < B ∨ C ≤ k) → k < W.heap.size → W'.heap[k]? = W.heap[k]?) : Dd W' (fun k => P k ∨ B ≤ k) v s := h.keep (fun _ p _ => p.elim (fun e => .inl e.1) (fun e => .inr (Nat.le_trans hB e))) (fun k p hk' => hk k (p.elim (fun e => .inl e.2) .inr) hk')
theorem Dd.pnK {W W' : World} {P : Nat → Prop} {B C : Nat} {v : Value} {s : Dst} (h : Dd W (Pn P B C) v s) (hk : ∀ k, (k < B ∨ C ≤ k) → k < W.heap.size → W'.heap[k]? = W.heap[k]?) : Dd W' (Pn P B C) v s := h.keep (fun _ p _ => p) (fun k p hk' => hk k (p.elim (fun e => .inl e.2) .inr) hk')
theorem res_1 {P : Program} {fn : Func} {q : Tmp} {ty : TypeId} (h : fn.results = #[.cell q ty]) (tmps : Array Value) (w : World) (b : Nat) (cs : List Value) (d : TypeDesc) (hp : tmps.getD q undef = .pointer (some ⟨b, 0, none⟩)) (hc : w.rangeAt b 0 cs) (hu : P.underlying ty = some d) (hd : d.isRow = true) (hi : (P.info? ty).map (·.size) = some cs.length) : (results fn tmps).run P w = .ok (.agg cs.toArray) w := by
  have hp' : tmps[q]?.getD undef = .pointer (some ⟨b, 0, none⟩) := by simpa using hp
  simp [results, h, hp', asAddr, run_loadVar_mid w b 0 ty cs d hc hu hd hi]
theorem res_2 {P : Program} {fn : Func} {q r : Tmp} {ty : TypeId} (h : fn.results = #[.cell q ty, .tmp r]) (tmps : Array Value) (w : World) (b : Nat) (cs : List Value) (d : TypeDesc) (x : Value) (hp : tmps.getD q undef = .pointer (some ⟨b, 0, none⟩)) (hx : tmps.getD r undef = x) (hc : w.rangeAt b 0 cs) (hu : P.underlying ty = some d) (hd : d.isRow = true) (hi : (P.info? ty).map (·.size) = some cs.length) : (results fn tmps).run P w = .ok (.tuple #[.agg cs.toArray, x]) w := by
  have hp' : tmps[q]?.getD undef = .pointer (some ⟨b, 0, none⟩) := by simpa using hp
  have hx' : tmps[r]?.getD undef = x := by simpa using hx
  simp [results, h, hp', hx', asAddr, run_loadVar_mid w b 0 ty cs d hc hu hd hi]
theorem infoD3 : (Tryz.prog.info? 37).map (·.size) = some 3 := by kernel_rfl
/-- Both boxes of a call: what came in, and what goes out. -/
structure Cb (w W : World) (l : List Value) : Prop where
  x : B6 W w.heap.size l
  y : B6 W (w.heap.size + 1) [.int .i64 0, .slice none 0 0, .slice none 0 0, .int .i64 0, .int .i64 0, .int .i64 0]
  be : Below w.heap.size w W
  sz : w.heap.size + 2 ≤ W.heap.size
theorem Cb.below {w W W' : World} {l : List Value} (h : Cb w W l) (hb : Below W.heap.size W W') : Cb w W' l := ⟨h.x.below hb, h.y.below hb, bt h.be hb, Nat.le_trans h.sz hb.size⟩
theorem Cb.new (w : World) (x0 x1 x2 x3 x4 x5 : Value) : Cb w ((w.alloc (.cells #[x0, x1, x2, x3, x4, x5] 39)).alloc (.cells #[.int .i64 0, .slice none 0 0, .slice none 0 0, .int .i64 0, .int .i64 0, .int .i64 0] 39)) [x0, x1, x2, x3, x4, x5] := by
  have hs : (w.alloc (.cells #[x0, x1, x2, x3, x4, x5] 39)).heap.size = w.heap.size + 1 := Array.size_push _
  have h1 : Below w.heap.size w (w.alloc (.cells #[x0, x1, x2, x3, x4, x5] 39)) := (Below.refl _ _).alloc (Nat.le_refl _) _
  have h2 : Below (w.alloc (.cells #[x0, x1, x2, x3, x4, x5] 39)).heap.size (w.alloc (.cells #[x0, x1, x2, x3, x4, x5] 39)) ((w.alloc (.cells #[x0, x1, x2, x3, x4, x5] 39)).alloc (.cells #[.int .i64 0, .slice none 0 0, .slice none 0 0, .int .i64 0, .int .i64 0, .int .i64 0] 39)) := (Below.refl _ _).alloc (Nat.le_refl _) _
  refine ⟨(B6.new w x0 x1 x2 x3 x4 x5 39).below h2, ?_, bt h1 h2, ?_⟩
  · have i := B6.new (w.alloc (.cells #[x0, x1, x2, x3, x4, x5] 39)) (.int .i64 0) (.slice none 0 0) (.slice none 0 0) (.int .i64 0) (.int .i64 0) (.int .i64 0) 39
    rw [hs] at i
    exact i
  · rw [show ((w.alloc (.cells #[x0, x1, x2, x3, x4, x5] 39)).alloc (.cells #[.int .i64 0, .slice none 0 0, .slice none 0 0, .int .i64 0, .int .i64 0, .int .i64 0] 39)).heap.size = (w.alloc (.cells #[x0, x1, x2, x3, x4, x5] 39)).heap.size + 1 from Array.size_push _, hs]
    exact Nat.le_refl _
/-- A chain of the document's, in a state. -/
def Dc (W : World) (P : Nat → Prop) (v : Value) (s : Dst) (base nx sp : Int) : Prop := ∃ b1 b2 m1 j1 m2 j2, v = .agg #[.int .i64 s.room, .slice b1 m1 j1, .slice b2 m2 j2, .int .i64 base, .int .i64 nx, .int .i64 sp] ∧ Dd W P (.agg #[.int .i64 s.room, .slice b1 m1 j1, .slice b2 m2 j2]) s
set_option maxRecDepth 100000 in
set_option maxHeartbeats 8000000 in
theorem rsync9_any {P : Nat → Prop} (a1 a2 : Option Addr) (n1 k1 n2 k2 : Nat) (s : Dst) (base nx sp : Int) (w : World) (hd : Dd w P (.agg #[.int .i64 s.room, .slice a1 n1 k1, .slice a2 n2 k2]) s) (hA : Asc s.cs) (hn : s.cs.length + s.lo.length < 80000) : Calls Tryz.prog 14 #[.agg #[.int .i64 s.room, .slice a1 n1 k1, .slice a2 n2 k2, .int .i64 base, .int .i64 nx, .int .i64 sp]] w fun e w' => ∃ v, e = .returned v ∧ Dc w' (fun k => P k ∨ w.heap.size ≤ k) v (syS s) base nx sp ∧ Below w.heap.size w w' := by
  have hcb := Cb.new w (.int .i64 s.room) (.slice a1 n1 k1) (.slice a2 n2 k2) (.int .i64 base) (.int .i64 nx) (.int .i64 sp)
  have HCB := hide hcb
  have HD := hide (hd.pn hcb.be (w.heap.size + 2))
  have HA := hide hA
  clear hcb hd hA
  go_enter Tryz.func14, Tryz.ntmps14
  go_upto_region 1 with fail
  generalize ((w.alloc (.cells #[.int .i64 s.room, .slice a1 n1 k1, .slice a2 n2 k2, .int .i64 base, .int .i64 nx, .int .i64 sp] 39)).alloc (.cells #[.int .i64 0, .slice none 0 0, .slice none 0 0, .int .i64 0, .int .i64 0, .int .i64 0] 39)) = W1 at HCB HD ⊢
  have hdw : Below W1.heap.size W1 W1.drew := (Below.refl _ _).drew
  refine wp_region_held_drew (S := fun W => B6 W w.heap.size [.int .i64 s.room, .slice a1 n1 k1, .slice a2 n2 k2, .int .i64 base, .int .i64 nx, .int .i64 sp]) (by kernel_rfl) (HCB.out.x.below hdw) (fun hHeld => ?_)
  have HCB2 := hide (HCB.out.below hdw)
  have HD2 := hide (HD.out.below hdw)
  generalize W1.drew = W2 at HCB2 HD2 hHeld ⊢
  clear hdw HCB HD
  refine wpAnyH_take (i := 0) (oi := _) (v := .pointer (some ⟨w.heap.size, 0, none⟩)) rfl (by kernel_rfl) (by kernel_rfl) (by kernel_rfl) (fun _ _ _ h => h) (Or.inl ⟨by rfl, by intro w hSw; go_simp⟩) hHeld ?_
  change wpAnyH _ _ _ _ _ _ _ (Act.put _ (some 3) _) _
  simp only [Act.put, List.setIfInBounds_toArray, List.set_cons_zero, List.set_cons_succ]
  refine wpAnyH_take (i := 1) (oi := _) (v := .agg #[.int .i64 s.room, .slice a1 n1 k1, .slice a2 n2 k2]) rfl (by kernel_rfl) (by kernel_rfl) (by kernel_rfl) (fun _ _ _ h => h) (Or.inl ⟨by rfl, by intro w hSw; have h0 := hSw.at (i := 0) (by simp); have h1 := hSw.at (i := 1) (by simp); have h2 := hSw.at (i := 2) (by simp); simp only [List.getElem_cons_zero, List.getElem_cons_succ] at h0 h1 h2; go_simp⟩) hHeld ?_
  change wpAnyH _ _ _ _ _ _ _ (Act.put _ (some 4) _) _
  simp only [Act.put, List.setIfInBounds_toArray, List.set_cons_zero, List.set_cons_succ]
  refine wpAnyH_take (i := 3) (oi := _) (v := .pointer (some ⟨w.heap.size, 3, none⟩)) rfl (by kernel_rfl) (by kernel_rfl) (by kernel_rfl) (fun _ _ _ h => h) (Or.inl ⟨by rfl, by intro w hSw; go_simp⟩) hHeld ?_
  change wpAnyH _ _ _ _ _ _ _ (Act.put _ (some 6) _) _
  simp only [Act.put, List.setIfInBounds_toArray, List.set_cons_zero, List.set_cons_succ]
  refine wpAnyH_take (i := 4) (oi := _) (v := .int .i64 base) rfl (by kernel_rfl) (by kernel_rfl) (by kernel_rfl) (fun _ _ _ h => h) (Or.inl ⟨by rfl, by intro w hSw; have h3 := hSw.at (i := 3) (by simp); simp only [List.getElem_cons_zero, List.getElem_cons_succ] at h3; go_simp⟩) hHeld ?_
  change wpAnyH _ _ _ _ _ _ _ (Act.put _ (some 7) _) _
  simp only [Act.put, List.setIfInBounds_toArray, List.set_cons_zero, List.set_cons_succ]
  refine wpAnyH_take (i := 5) (oi := _) (v := .pointer (some ⟨w.heap.size, 4, none⟩)) rfl (by kernel_rfl) (by kernel_rfl) (by kernel_rfl) (fun _ _ _ h => h) (Or.inl ⟨by rfl, by intro w hSw; go_simp⟩) hHeld ?_
  change wpAnyH _ _ _ _ _ _ _ (Act.put _ (some 8) _) _
  simp only [Act.put, List.setIfInBounds_toArray, List.set_cons_zero, List.set_cons_succ]
  refine wpAnyH_take (i := 6) (oi := _) (v := .int .i64 nx) rfl (by kernel_rfl) (by kernel_rfl) (by kernel_rfl) (fun _ _ _ h => h) (Or.inl ⟨by rfl, by intro w hSw; have h4 := hSw.at (i := 4) (by simp); simp only [List.getElem_cons_zero, List.getElem_cons_succ] at h4; go_simp⟩) hHeld ?_
  change wpAnyH _ _ _ _ _ _ _ (Act.put _ (some 9) _) _
  simp only [Act.put, List.setIfInBounds_toArray, List.set_cons_zero, List.set_cons_succ]
  refine wpAnyH_take (i := 7) (oi := _) (v := .pointer (some ⟨w.heap.size, 5, none⟩)) rfl (by kernel_rfl) (by kernel_rfl) (by kernel_rfl) (fun _ _ _ h => h) (Or.inl ⟨by rfl, by intro w hSw; go_simp⟩) hHeld ?_
  change wpAnyH _ _ _ _ _ _ _ (Act.put _ (some 10) _) _
  simp only [Act.put, List.setIfInBounds_toArray, List.set_cons_zero, List.set_cons_succ]
  refine wpAnyH_take (i := 8) (oi := _) (v := .int .i64 sp) rfl (by kernel_rfl) (by kernel_rfl) (by kernel_rfl) (fun _ _ _ h => h) (Or.inl ⟨by rfl, by intro w hSw; have h5 := hSw.at (i := 5) (by simp); simp only [List.getElem_cons_zero, List.getElem_cons_succ] at h5; go_simp⟩) hHeld ?_
  change wpAnyH _ _ _ _ _ _ _ (Act.put _ (some 11) _) _
  simp only [Act.put, List.setIfInBounds_toArray, List.set_cons_zero, List.set_cons_succ]
  refine wpAnyH_ready (rs := [2]) (by kernel_rfl) (by simp) ?_
  refine AllReadyH.cons (o := _) rfl (fun K hK => ?_) AllReadyH.nil
  go_simp
  go_at_call 28
  refine (rsync_any _ s _ HD2.out HA.out hn).mono ?_
  rintro e W3 ⟨v3, rfl, hd3, hb3⟩
  obtain ⟨b1, m1, j1, b2, m2, j2, rfl⟩ := hd3.form9
  have hrm : (syS s).room = s.room := rfl
  rw [hrm] at hd3 ⊢
  clear hrm
  go_wp2_with fail
  refine hK.out _ _ (hHeld.below hb3) (fun hHeld1 => ?_)
  clear hK K hHeld
  have hHeld := hHeld1
  clear hHeld1
  have HCB3 := hide (HCB2.out.below hb3)
  have HD3 := hide (hd3.pnC HCB2.out.sz)
  clear hd3 hb3 HCB2 HD2
  refine wpAnyH_take (i := 9) (oi := _) (v := .agg #[.int .i64 s.room, .slice b1 m1 j1, .slice b2 m2 j2, .int .i64 base, .int .i64 nx, .int .i64 sp]) rfl (by kernel_rfl) (by kernel_rfl) (by kernel_rfl) (fun _ _ _ h => h) (Or.inl ⟨by rfl, by intro w hSw; go_simp⟩) hHeld ?_
  change wpAnyH _ _ _ _ _ _ _ (Act.put _ (some 12) _) _
  simp only [Act.put, List.setIfInBounds_toArray, List.set_cons_zero, List.set_cons_succ]
  refine wpAnyH_ready (rs := [10]) (by kernel_rfl) (by simp) ?_
  refine AllReadyH.cons (o := _) rfl (fun K hK => ?_) AllReadyH.nil
  have z0 := HCB3.out.y.at (i := 0) (by simp)
  have z1 := HCB3.out.y.at (i := 1) (by simp)
  have z2 := HCB3.out.y.at (i := 2) (by simp)
  have z3 := HCB3.out.y.at (i := 3) (by simp)
  have z4 := HCB3.out.y.at (i := 4) (by simp)
  have z5 := HCB3.out.y.at (i := 5) (by simp)
  simp only [List.getElem_cons_zero, List.getElem_cons_succ] at z0 z1 z2 z3 z4 z5
  have f0 := HCB3.out.y.fz 0
  have f1 := HCB3.out.y.fz 1
  have f2 := HCB3.out.y.fz 2
  have f3 := HCB3.out.y.fz 3
  have f4 := HCB3.out.y.fz 4
  have f5 := HCB3.out.y.fz 5
  have HF := hide (HCB3.out.y.all (.int .i64 s.room) (.slice b1 m1 j1) (.slice b2 m2 j2) (.int .i64 base) (.int .i64 nx) (.int .i64 sp))
  have HK : Hid (∀ k, k ≠ w.heap.size + 1 → (s6 W3 (w.heap.size + 1) (.int .i64 s.room) (.slice b1 m1 j1) (.slice b2 m2 j2) (.int .i64 base) (.int .i64 nx) (.int .i64 sp)).heap[k]? = W3.heap[k]?) := hide (fun k hk => s6_heap hk _ _ _ _ _ _)
  go_simp
  clear z0 z1 z2 z3 z4 z5 f0 f1 f2 f3 f4 f5
  refine hK.out _ _ (HCB3.out.x.keepB (HK.out w.heap.size (by omega))) (fun hHeld1 => ?_)
  clear hK K hHeld
  have hHeld := hHeld1
  clear hHeld1
  refine wpAnyH_done (by kernel_rfl) ?_ _
  clear hHeld
  go_wp2_with fail
  exact bodyPost_ret (v := .agg #[.int .i64 s.room, .slice b1 m1 j1, .slice b2 m2 j2, .int .i64 base, .int .i64 nx, .int .i64 sp]) (res_1 Tryz.results14 _ _ (w.heap.size + 1) [_, _, _, _, _, _] _ rfl HF.out Tryz.underlying39 rfl infoHc) rfl ⟨_, rfl, ⟨b1, b2, m1, j1, m2, j2, rfl, HD3.out.pnO (by omega) (fun k hk _ => HK.out k (by omega))⟩, s6_below HCB3.out.be (by omega) _ _ _ _ _ _⟩
/-- The boxes of free. -/
structure Fb (w W : World) (P : Nat → Prop) (s t : Dst) (x y : Value) : Prop where
  r : B3 W (w.heap.size + 1) (.int .i64 0) (.slice none 0 0) (.slice none 0 0)
  b : B3 W (w.heap.size + 2) (.int .i64 s.room) x y
  d : Dd W (Pn P w.heap.size (w.heap.size + 3)) (.agg #[.int .i64 s.room, x, y]) t
  be : Below w.heap.size w W
  sz : w.heap.size + 3 ≤ W.heap.size
set_option maxRecDepth 100000 in
set_option maxHeartbeats 8000000 in
theorem rfreeN_any {P : Nat → Prop} (a1 a2 : Option Addr) (n1 k1 n2 k2 : Nat) (s : Dst) (frm : Int) (n : Nat) (w : World) (hd : Dd w P (.agg #[.int .i64 s.room, .slice a1 n1 k1, .slice a2 n2 k2]) s) (hf : 0 ≤ frm) (hu : frm + n ≤ 1073741825) (hn : s.lo.length + n < 90000) : Calls Tryz.prog 45 #[.agg #[.int .i64 s.room, .slice a1 n1 k1, .slice a2 n2 k2], .int .i64 frm, .int .i64 (frm + n)] w fun e w' => ∃ b1 b2 m1 j1 m2 j2, e = .returned (.agg #[.int .i64 s.room, .slice b1 m1 j1, .slice b2 m2 j2]) ∧ Dd w' (fun k => P k ∨ w.heap.size ≤ k) (.agg #[.int .i64 s.room, .slice b1 m1 j1, .slice b2 m2 j2]) (frN s (trL frm n)) ∧ Below w.heap.size w w' := by
  have hs0 : (w.alloc (.cells #[.int .i64 s.room, .slice a1 n1 k1, .slice a2 n2 k2] 37)).heap.size = w.heap.size + 1 := Array.size_push _
  have hs1 : ((w.alloc (.cells #[.int .i64 s.room, .slice a1 n1 k1, .slice a2 n2 k2] 37)).alloc (.cells #[.int .i64 0, .slice none 0 0, .slice none 0 0] 37)).heap.size = w.heap.size + 2 := (Array.size_push _).trans (congrArg (· + 1) hs0)
  have h0 := al_d w (.cells #[.int .i64 s.room, .slice a1 n1 k1, .slice a2 n2 k2] 37)
  have h1 := al_d (w.alloc (.cells #[.int .i64 s.room, .slice a1 n1 k1, .slice a2 n2 k2] 37)) (.cells #[.int .i64 0, .slice none 0 0, .slice none 0 0] 37)
  have h2 := al_d ((w.alloc (.cells #[.int .i64 s.room, .slice a1 n1 k1, .slice a2 n2 k2] 37)).alloc (.cells #[.int .i64 0, .slice none 0 0, .slice none 0 0] 37)) (.cells #[.int .i64 s.room, .slice a1 n1 k1, .slice a2 n2 k2] 37)
  have HX0 := hide ((b3_new w (.int .i64 s.room) (.slice a1 n1 k1) (.slice a2 n2 k2) 37).below h1)
  have HFB : Hid (Fb w (((w.alloc (.cells #[.int .i64 s.room, .slice a1 n1 k1, .slice a2 n2 k2] 37)).alloc (.cells #[.int .i64 0, .slice none 0 0, .slice none 0 0] 37)).alloc (.cells #[.int .i64 s.room, .slice a1 n1 k1, .slice a2 n2 k2] 37)) P s s (.slice a1 n1 k1) (.slice a2 n2 k2)) := hide (by
    have q1 := b3_new (w.alloc (.cells #[.int .i64 s.room, .slice a1 n1 k1, .slice a2 n2 k2] 37)) (.int .i64 0) (.slice none 0 0) (.slice none 0 0) 37
    have q2 := b3_new ((w.alloc (.cells #[.int .i64 s.room, .slice a1 n1 k1, .slice a2 n2 k2] 37)).alloc (.cells #[.int .i64 0, .slice none 0 0, .slice none 0 0] 37)) (.int .i64 s.room) (.slice a1 n1 k1) (.slice a2 n2 k2) 37
    rw [hs0] at q1
    rw [hs1] at q2
    exact ⟨q1.below h2, q2, hd.pn (bt (bt h0 h1) h2) _, bt (bt h0 h1) h2, by rw [show (((w.alloc (.cells #[.int .i64 s.room, .slice a1 n1 k1, .slice a2 n2 k2] 37)).alloc (.cells #[.int .i64 0, .slice none 0 0, .slice none 0 0] 37)).alloc (.cells #[.int .i64 s.room, .slice a1 n1 k1, .slice a2 n2 k2] 37)).heap.size = ((w.alloc (.cells #[.int .i64 s.room, .slice a1 n1 k1, .slice a2 n2 k2] 37)).alloc (.cells #[.int .i64 0, .slice none 0 0, .slice none 0 0] 37)).heap.size + 1 from Array.size_push _, hs1]; exact Nat.le_refl _⟩)
  clear hs0 h0 h1 h2 hd
  go_enter Tryz.func45, Tryz.ntmps45
  go_upto_region 1 with fail
  have i0 := HX0.out.c0
  have i1 := HX0.out.c1
  have i2 := HX0.out.c2
  go_upto_region 3 with fail
  clear i0 i1 i2 HX0
  generalize (((w.alloc (.cells #[.int .i64 s.room, .slice a1 n1 k1, .slice a2 n2 k2] 37)).alloc (.cells #[.int .i64 0, .slice none 0 0, .slice none 0 0] 37)).alloc (.cells #[.int .i64 s.room, .slice a1 n1 k1, .slice a2 n2 k2] 37)) = W2 at HFB ⊢
  go_loopw [8] (fun i W => ∃ (k : Nat) (b1 b2 : Option Addr) (m1 j1 m2 j2 : Nat), k ≤ n ∧ i = .int .i64 (frm + k) ∧ Fb w W P s (frN s (trL frm k)) (.slice b1 m1 j1) (.slice b2 m2 j2)) (fun i _ => n - (iv i - frm).toNat)
  case atStart => exact ⟨0, a1, a2, n1, k1, n2, k2, Nat.zero_le _, by simp, by rw [show trL frm 0 = [] from rfl, frN_nil]; exact HFB.out⟩
  case round =>
    clear HFB
    obtain ⟨k, b1, b2, m1, j1, m2, j2, hk, rfl, hfb⟩ := hrel
    have HFB := hide hfb
    clear hfb
    have x0 := HFB.out.b.c0
    have x1 := HFB.out.b.c1
    have x2 := HFB.out.b.c2
    by_cases hlt : k < n
    · have hltI : frm + (k : Int) < frm + (n : Int) := by omega
      have HNU : Hid (Num (frm + (k : Int))) := hide ⟨by omega, by omega⟩
      have HLN : Hid ((frN s (trL frm k)).lo.length < 90000) := hide (by simp [frN, trL]; omega)
      have HST : Hid (⟨(frN s (trL frm k)).room, (frN s (trL frm k)).cs, (frN s (trL frm k)).lo ++ [⟨frm + (k : Int), true, zer⟩]⟩ = frN s (trL frm (k + 1))) := hide (by rw [trL_succ, ← frN_snoc HNU.out]; unfold frS; rw [if_pos (show 0 ≤ frm + (k : Int) ∧ frm + (k : Int) ≤ 1073741824 from HNU.out)]; rfl)
      have hwk : IntKind.i64.wrap (frm + (k : Int) + 1) = frm + (k : Int) + 1 := by rw [IntKind.wrap_i64]; omega
      have f0 := HFB.out.b.fz 0
      have f1 := HFB.out.b.fz 1
      have f2 := HFB.out.b.fz 2
      go_upto_region 6 with (first | (go_at_call 75; refine (rfree_ok _ (frm + (k : Int)) _ _ HFB.out.d HNU.out HLN.out).mono ?_; rintro e W3 ⟨v3, rfl, hd3, hb3⟩; rw [HST.out] at hd3; obtain ⟨c1, o1, q1, c2, o2, q2, rfl⟩ := hd3.form9; have hrm : (frN s (trL frm (k + 1))).room = s.room := rfl; rw [hrm] at hd3 ⊢; clear hrm; have HF3 : Hid (B3 W3 (w.heap.size + 1) (.int .i64 0) (.slice none 0 0) (.slice none 0 0) ∧ B3 W3 (w.heap.size + 2) (.int .i64 s.room) (.slice b1 m1 j1) (.slice b2 m2 j2) ∧ Below w.heap.size w W3 ∧ w.heap.size + 3 ≤ W3.heap.size) := hide ⟨HFB.out.r.below hb3, HFB.out.b.below hb3, bt HFB.out.be hb3, Nat.le_trans HFB.out.sz hb3.size⟩; have HD3 := hide (hd3.pnC HFB.out.sz); clear hd3 hb3))
      clear x0 x1 x2 f0 f1 f2 HFB
      have hal := al_d W3 (.cells #[.int .i64 s.room, .slice c1 o1 q1, .slice c2 o2 q2] 37)
      have HG := hide (b3_new W3 (.int .i64 s.room) (.slice c1 o1 q1) (.slice c2 o2 q2) 37)
      have HR4 := hide (HF3.out.1.below hal)
      have HB4 := hide (HF3.out.2.1.below hal)
      have HE4 := hide (bt HF3.out.2.2.1 hal)
      have HZ4 : Hid (w.heap.size + 3 ≤ (W3.alloc (.cells #[.int .i64 s.room, .slice c1 o1 q1, .slice c2 o2 q2] 37)).heap.size) := hide (Nat.le_trans HF3.out.2.2.2 hal.size)
      have HD4 := hide (HD3.out.below hal)
      clear hal HF3 HD3
      generalize W3.alloc (.cells #[.int .i64 s.room, .slice c1 o1 q1, .slice c2 o2 q2] 37) = W4 at HG HR4 HB4 HE4 HZ4 HD4 ⊢
      generalize W3.heap.size = g at HG ⊢
      have g0 := HG.out.c0
      have g1 := HG.out.c1
      have g2 := HG.out.c2
      have x0 := HB4.out.c0
      have x1 := HB4.out.c1
      have x2 := HB4.out.c2
      have f0 := HB4.out.fz 0
      have f1 := HB4.out.fz 1
      have f2 := HB4.out.fz 2
      go_wp2_with fail
      exact ⟨⟨k + 1, _, _, _, _, _, _, by omega, by go_num, ⟨((HR4.out.setO (by omega) _).setO (by omega) _).setO (by omega) _, HB4.out.all _ _ _, HD4.out.pnK (fun k hk _ => set3_heap (by omega) _ _ _), set3_below HE4.out (by omega) _ _ _, by simpa using HZ4.out⟩⟩, by simp [iv]; omega⟩
    · obtain rfl : k = n := by omega
      have z0 := HFB.out.r.c0
      have z1 := HFB.out.r.c1
      have z2 := HFB.out.r.c2
      have f0 := HFB.out.r.fz 0
      have f1 := HFB.out.r.fz 1
      have f2 := HFB.out.r.fz 2
      have HF := hide ((HFB.out.r.all (.int .i64 s.room) (.slice b1 m1 j1) (.slice b2 m2 j2)).rg)
      have hnl : ¬ frm + (k : Int) < frm + (k : Int) := by omega
      go_wp2_with fail
      exact bodyPost_ret (v := .agg #[.int .i64 s.room, .slice b1 m1 j1, .slice b2 m2 j2]) (res_1 Tryz.results45 _ _ (w.heap.size + 1) [_, _, _] _ rfl HF.out Tryz.underlying37 rfl infoD3) rfl ⟨b1, b2, m1, j1, m2, j2, rfl, HFB.out.d.pnO (by omega) (fun k hk _ => set3_heap (by omega) _ _ _), set3_below HFB.out.be (by omega) _ _ _⟩
set_option maxRecDepth 100000 in
set_option maxHeartbeats 8000000 in
theorem rtrim_ok {P : Nat → Prop} (a1 a2 : Option Addr) (n1 k1 n2 k2 : Nat) (s : Dst) (base nx sp frm : Int) (n : Nat) (w : World) (hd : Dd w P (.agg #[.int .i64 s.room, .slice a1 n1 k1, .slice a2 n2 k2]) s) (hb0 : 0 ≤ base) (hb : base ≤ frm) (hu : frm + n ≤ nx) (hx : nx ≤ 1073741825) (hn : s.lo.length + n < 90000) : Calls Tryz.prog 19 #[.agg #[.int .i64 s.room, .slice a1 n1 k1, .slice a2 n2 k2, .int .i64 base, .int .i64 nx, .int .i64 sp], .int .i64 frm, .int .i64 (frm + n)] w fun e w' => ∃ v, e = .returned (.tuple #[v, .int .i64 0]) ∧ Dc w' (fun k => P k ∨ w.heap.size ≤ k) v (frN s (trL frm n)) base nx sp ∧ Below w.heap.size w w' := by
  have hcb := Cb.new w (.int .i64 s.room) (.slice a1 n1 k1) (.slice a2 n2 k2) (.int .i64 base) (.int .i64 nx) (.int .i64 sp)
  have HCB := hide hcb
  have HD := hide (hd.pn hcb.be (w.heap.size + 2))
  clear hcb hd
  have g1 : ¬ frm < base := by omega
  have g2 : ¬ frm + (n : Int) < frm := by omega
  have g3 : ¬ nx < frm + (n : Int) := by omega
  go_enter Tryz.func19, Tryz.ntmps19
  go_upto_region 1 with fail
  generalize ((w.alloc (.cells #[.int .i64 s.room, .slice a1 n1 k1, .slice a2 n2 k2, .int .i64 base, .int .i64 nx, .int .i64 sp] 39)).alloc (.cells #[.int .i64 0, .slice none 0 0, .slice none 0 0, .int .i64 0, .int .i64 0, .int .i64 0] 39)) = W1 at HCB HD ⊢
  have x3 := HCB.out.x.at (i := 3) (by simp)
  have x4 := HCB.out.x.at (i := 4) (by simp)
  simp only [List.getElem_cons_zero, List.getElem_cons_succ] at x3 x4
  go_upto_region 3 with fail
  clear x3 x4 g1 g2 g3
  have hdw : Below W1.heap.size W1 W1.drew := (Below.refl _ _).drew
  refine wp_region_held_drew (S := fun W => B6 W w.heap.size [.int .i64 s.room, .slice a1 n1 k1, .slice a2 n2 k2, .int .i64 base, .int .i64 nx, .int .i64 sp]) (by kernel_rfl) (HCB.out.x.below hdw) (fun hHeld => ?_)
  have HCB2 := hide (HCB.out.below hdw)
  have HD2 := hide (HD.out.below hdw)
  generalize W1.drew = W2 at HCB2 HD2 hHeld ⊢
  clear hdw HCB HD
  refine wpAnyH_take (i := 0) (oi := _) (v := .pointer (some ⟨w.heap.size, 0, none⟩)) rfl (by kernel_rfl) (by kernel_rfl) (by kernel_rfl) (fun _ _ _ h => h) (Or.inl ⟨by rfl, by intro w hSw; go_simp⟩) hHeld ?_
  change wpAnyH _ _ _ _ _ _ _ (Act.put _ (some 24) _) _
  simp only [Act.put, List.setIfInBounds_toArray, List.set_cons_zero, List.set_cons_succ]
  refine wpAnyH_take (i := 1) (oi := _) (v := .agg #[.int .i64 s.room, .slice a1 n1 k1, .slice a2 n2 k2]) rfl (by kernel_rfl) (by kernel_rfl) (by kernel_rfl) (fun _ _ _ h => h) (Or.inl ⟨by rfl, by intro w hSw; have h0 := hSw.at (i := 0) (by simp); have h1 := hSw.at (i := 1) (by simp); have h2 := hSw.at (i := 2) (by simp); simp only [List.getElem_cons_zero, List.getElem_cons_succ] at h0 h1 h2; go_simp⟩) hHeld ?_
  change wpAnyH _ _ _ _ _ _ _ (Act.put _ (some 25) _) _
  simp only [Act.put, List.setIfInBounds_toArray, List.set_cons_zero, List.set_cons_succ]
  refine wpAnyH_take (i := 2) (oi := _) (v := .int .i64 frm) rfl (by kernel_rfl) (by kernel_rfl) (by kernel_rfl) (fun _ _ _ h => h) (Or.inl ⟨by rfl, by intro w hSw; go_simp⟩) hHeld ?_
  change wpAnyH _ _ _ _ _ _ _ (Act.put _ (some 26) _) _
  simp only [Act.put, List.setIfInBounds_toArray, List.set_cons_zero, List.set_cons_succ]
  refine wpAnyH_take (i := 3) (oi := _) (v := .int .i64 (frm + (n : Int))) rfl (by kernel_rfl) (by kernel_rfl) (by kernel_rfl) (fun _ _ _ h => h) (Or.inl ⟨by rfl, by intro w hSw; go_simp⟩) hHeld ?_
  change wpAnyH _ _ _ _ _ _ _ (Act.put _ (some 27) _) _
  simp only [Act.put, List.setIfInBounds_toArray, List.set_cons_zero, List.set_cons_succ]
  refine wpAnyH_take (i := 5) (oi := _) (v := .pointer (some ⟨w.heap.size, 3, none⟩)) rfl (by kernel_rfl) (by kernel_rfl) (by kernel_rfl) (fun _ _ _ h => h) (Or.inl ⟨by rfl, by intro w hSw; go_simp⟩) hHeld ?_
  change wpAnyH _ _ _ _ _ _ _ (Act.put _ (some 29) _) _
  simp only [Act.put, List.setIfInBounds_toArray, List.set_cons_zero, List.set_cons_succ]
  refine wpAnyH_take (i := 6) (oi := _) (v := .int .i64 base) rfl (by kernel_rfl) (by kernel_rfl) (by kernel_rfl) (fun _ _ _ h => h) (Or.inl ⟨by rfl, by intro w hSw; have h3 := hSw.at (i := 3) (by simp); simp only [List.getElem_cons_zero, List.getElem_cons_succ] at h3; go_simp⟩) hHeld ?_
  change wpAnyH _ _ _ _ _ _ _ (Act.put _ (some 30) _) _
  simp only [Act.put, List.setIfInBounds_toArray, List.set_cons_zero, List.set_cons_succ]
  refine wpAnyH_take (i := 7) (oi := _) (v := .pointer (some ⟨w.heap.size, 4, none⟩)) rfl (by kernel_rfl) (by kernel_rfl) (by kernel_rfl) (fun _ _ _ h => h) (Or.inl ⟨by rfl, by intro w hSw; go_simp⟩) hHeld ?_
  change wpAnyH _ _ _ _ _ _ _ (Act.put _ (some 31) _) _
  simp only [Act.put, List.setIfInBounds_toArray, List.set_cons_zero, List.set_cons_succ]
  refine wpAnyH_take (i := 8) (oi := _) (v := .int .i64 nx) rfl (by kernel_rfl) (by kernel_rfl) (by kernel_rfl) (fun _ _ _ h => h) (Or.inl ⟨by rfl, by intro w hSw; have h4 := hSw.at (i := 4) (by simp); simp only [List.getElem_cons_zero, List.getElem_cons_succ] at h4; go_simp⟩) hHeld ?_
  change wpAnyH _ _ _ _ _ _ _ (Act.put _ (some 32) _) _
  simp only [Act.put, List.setIfInBounds_toArray, List.set_cons_zero, List.set_cons_succ]
  refine wpAnyH_take (i := 9) (oi := _) (v := .pointer (some ⟨w.heap.size, 5, none⟩)) rfl (by kernel_rfl) (by kernel_rfl) (by kernel_rfl) (fun _ _ _ h => h) (Or.inl ⟨by rfl, by intro w hSw; go_simp⟩) hHeld ?_
  change wpAnyH _ _ _ _ _ _ _ (Act.put _ (some 33) _) _
  simp only [Act.put, List.setIfInBounds_toArray, List.set_cons_zero, List.set_cons_succ]
  refine wpAnyH_take (i := 10) (oi := _) (v := .int .i64 sp) rfl (by kernel_rfl) (by kernel_rfl) (by kernel_rfl) (fun _ _ _ h => h) (Or.inl ⟨by rfl, by intro w hSw; have h5 := hSw.at (i := 5) (by simp); simp only [List.getElem_cons_zero, List.getElem_cons_succ] at h5; go_simp⟩) hHeld ?_
  change wpAnyH _ _ _ _ _ _ _ (Act.put _ (some 34) _) _
  simp only [Act.put, List.setIfInBounds_toArray, List.set_cons_zero, List.set_cons_succ]
  refine wpAnyH_ready (rs := [4]) (by kernel_rfl) (by simp) ?_
  refine AllReadyH.cons (o := _) rfl (fun K hK => ?_) AllReadyH.nil
  go_simp
  go_at_call 45
  refine (rfreeN_any _ _ _ _ _ _ s frm n _ HD2.out (by omega) (by omega) hn).mono ?_
  rintro e W3 ⟨b1, b2, m1, j1, m2, j2, rfl, hd3, hb3⟩
  go_wp2_with fail
  refine hK.out _ _ (hHeld.below hb3) (fun hHeld1 => ?_)
  clear hK K hHeld
  have hHeld := hHeld1
  clear hHeld1
  have HCB3 := hide (HCB2.out.below hb3)
  have HD3 := hide (hd3.pnC HCB2.out.sz)
  clear hd3 hb3 HCB2 HD2
  refine wpAnyH_take (i := 11) (oi := _) (v := .agg #[.int .i64 s.room, .slice b1 m1 j1, .slice b2 m2 j2, .int .i64 base, .int .i64 nx, .int .i64 sp]) rfl (by kernel_rfl) (by kernel_rfl) (by kernel_rfl) (fun _ _ _ h => h) (Or.inl ⟨by rfl, by intro w hSw; go_simp⟩) hHeld ?_
  change wpAnyH _ _ _ _ _ _ _ (Act.put _ (some 35) _) _
  simp only [Act.put, List.setIfInBounds_toArray, List.set_cons_zero, List.set_cons_succ]
  refine wpAnyH_ready (rs := [12]) (by kernel_rfl) (by simp) ?_
  refine AllReadyH.cons (o := _) rfl (fun K hK => ?_) AllReadyH.nil
  have z0 := HCB3.out.y.at (i := 0) (by simp)
  have z1 := HCB3.out.y.at (i := 1) (by simp)
  have z2 := HCB3.out.y.at (i := 2) (by simp)
  have z3 := HCB3.out.y.at (i := 3) (by simp)
  have z4 := HCB3.out.y.at (i := 4) (by simp)
  have z5 := HCB3.out.y.at (i := 5) (by simp)
  simp only [List.getElem_cons_zero, List.getElem_cons_succ] at z0 z1 z2 z3 z4 z5
  have f0 := HCB3.out.y.fz 0
  have f1 := HCB3.out.y.fz 1
  have f2 := HCB3.out.y.fz 2
  have f3 := HCB3.out.y.fz 3
  have f4 := HCB3.out.y.fz 4
  have f5 := HCB3.out.y.fz 5
  have HF := hide (HCB3.out.y.all (.int .i64 s.room) (.slice b1 m1 j1) (.slice b2 m2 j2) (.int .i64 base) (.int .i64 nx) (.int .i64 sp))
  have HK : Hid (∀ k, k ≠ w.heap.size + 1 → (s6 W3 (w.heap.size + 1) (.int .i64 s.room) (.slice b1 m1 j1) (.slice b2 m2 j2) (.int .i64 base) (.int .i64 nx) (.int .i64 sp)).heap[k]? = W3.heap[k]?) := hide (fun k hk => s6_heap hk _ _ _ _ _ _)
  go_simp
  clear z0 z1 z2 z3 z4 z5 f0 f1 f2 f3 f4 f5
  refine hK.out _ _ (HCB3.out.x.keepB (HK.out w.heap.size (by omega))) (fun hHeld1 => ?_)
  clear hK K hHeld
  have hHeld := hHeld1
  clear hHeld1
  refine wpAnyH_take (i := 13) (oi := _) (v := .int .i64 0) rfl (by kernel_rfl) (by kernel_rfl) (by kernel_rfl) (fun _ _ _ h => h) (Or.inl ⟨by rfl, by intro w hSw; go_simp⟩) hHeld ?_
  change wpAnyH _ _ _ _ _ _ _ (Act.put _ (some 7) _) _
  simp only [Act.put, List.setIfInBounds_toArray, List.set_cons_zero, List.set_cons_succ]
  refine wpAnyH_done (by kernel_rfl) ?_ _
  clear hHeld
  go_wp2_with fail
  exact bodyPost_ret (v := .tuple #[.agg #[.int .i64 s.room, .slice b1 m1 j1, .slice b2 m2 j2, .int .i64 base, .int .i64 nx, .int .i64 sp], .int .i64 0]) (res_2 Tryz.results19 _ _ (w.heap.size + 1) [_, _, _, _, _, _] _ _ rfl rfl HF.out Tryz.underlying39 rfl infoHc) rfl ⟨_, rfl, ⟨b1, b2, m1, j1, m2, j2, rfl, HD3.out.pnO (by omega) (fun k hk _ => HK.out k (by omega))⟩, s6_below HCB3.out.be (by omega) _ _ _ _ _ _⟩
set_option maxRecDepth 100000 in
set_option maxHeartbeats 8000000 in
theorem rtrim_bad {P : Nat → Prop} (a1 a2 : Option Addr) (n1 k1 n2 k2 : Nat) (s : Dst) (base nx sp frm upto : Int) (w : World) (hd : Dd w P (.agg #[.int .i64 s.room, .slice a1 n1 k1, .slice a2 n2 k2]) s) (hc : frm < base ∨ (base ≤ frm ∧ (upto < frm ∨ (frm ≤ upto ∧ nx < upto)))) : Calls Tryz.prog 19 #[.agg #[.int .i64 s.room, .slice a1 n1 k1, .slice a2 n2 k2, .int .i64 base, .int .i64 nx, .int .i64 sp], .int .i64 frm, .int .i64 upto] w fun e w' => ∃ v, e = .returned (.tuple #[v, .int .i64 2]) ∧ Dc w' (fun k => P k ∨ w.heap.size ≤ k) v s base nx sp ∧ Below w.heap.size w w' := by
  have hcb := Cb.new w (.int .i64 s.room) (.slice a1 n1 k1) (.slice a2 n2 k2) (.int .i64 base) (.int .i64 nx) (.int .i64 sp)
  have HCB := hide hcb
  have HD := hide (hd.pn hcb.be (w.heap.size + 2))
  clear hcb hd
  go_enter Tryz.func19, Tryz.ntmps19
  go_upto_region 1 with fail
  generalize ((w.alloc (.cells #[.int .i64 s.room, .slice a1 n1 k1, .slice a2 n2 k2, .int .i64 base, .int .i64 nx, .int .i64 sp] 39)).alloc (.cells #[.int .i64 0, .slice none 0 0, .slice none 0 0, .int .i64 0, .int .i64 0, .int .i64 0] 39)) = W1 at HCB HD ⊢
  have x0 := HCB.out.x.at (i := 0) (by simp)
  have x1 := HCB.out.x.at (i := 1) (by simp)
  have x2 := HCB.out.x.at (i := 2) (by simp)
  have x3 := HCB.out.x.at (i := 3) (by simp)
  have x4 := HCB.out.x.at (i := 4) (by simp)
  have x5 := HCB.out.x.at (i := 5) (by simp)
  simp only [List.getElem_cons_zero, List.getElem_cons_succ] at x0 x1 x2 x3 x4 x5
  have z0 := HCB.out.y.at (i := 0) (by simp)
  have z1 := HCB.out.y.at (i := 1) (by simp)
  have z2 := HCB.out.y.at (i := 2) (by simp)
  have z3 := HCB.out.y.at (i := 3) (by simp)
  have z4 := HCB.out.y.at (i := 4) (by simp)
  have z5 := HCB.out.y.at (i := 5) (by simp)
  simp only [List.getElem_cons_zero, List.getElem_cons_succ] at z0 z1 z2 z3 z4 z5
  have f0 := HCB.out.y.fz 0
  have f1 := HCB.out.y.fz 1
  have f2 := HCB.out.y.fz 2
  have f3 := HCB.out.y.fz 3
  have f4 := HCB.out.y.fz 4
  have f5 := HCB.out.y.fz 5
  have HF := hide (HCB.out.y.all (.int .i64 s.room) (.slice a1 n1 k1) (.slice a2 n2 k2) (.int .i64 base) (.int .i64 nx) (.int .i64 sp))
  rcases hc with h1 | ⟨h0, h1 | ⟨h1, h2⟩⟩
  all_goals
    go_wp2_with fail
    exact bodyPost_ret (v := .tuple #[.agg #[.int .i64 s.room, .slice a1 n1 k1, .slice a2 n2 k2, .int .i64 base, .int .i64 nx, .int .i64 sp], .int .i64 2]) (res_2 Tryz.results19 _ _ (w.heap.size + 1) [_, _, _, _, _, _] _ _ rfl rfl HF.out Tryz.underlying39 rfl infoHc) rfl ⟨_, rfl, ⟨a1, a2, n1, k1, n2, k2, rfl, HD.out.pnO (by omega) (fun k hk _ => s6_heap (by omega) _ _ _ _ _ _)⟩, s6_below HCB.out.be (by omega) _ _ _ _ _ _⟩
set_option maxRecDepth 100000 in
set_option maxHeartbeats 8000000 in
theorem rcut_bad {P : Nat → Prop} (a1 a2 : Option Addr) (n1 k1 n2 k2 : Nat) (s : Dst) (base nx sp a : Int) (w : World) (hd : Dd w P (.agg #[.int .i64 s.room, .slice a1 n1 k1, .slice a2 n2 k2]) s) (hc : a < base ∨ (base ≤ a ∧ nx < a)) : Calls Tryz.prog 17 #[.agg #[.int .i64 s.room, .slice a1 n1 k1, .slice a2 n2 k2, .int .i64 base, .int .i64 nx, .int .i64 sp], .int .i64 a] w fun e w' => ∃ v, e = .returned (.tuple #[v, .int .i64 2]) ∧ Dc w' (fun k => P k ∨ w.heap.size ≤ k) v s base nx sp ∧ Below w.heap.size w w' := by
  have hcb := Cb.new w (.int .i64 s.room) (.slice a1 n1 k1) (.slice a2 n2 k2) (.int .i64 base) (.int .i64 nx) (.int .i64 sp)
  have HCB := hide hcb
  have HD := hide (hd.pn hcb.be (w.heap.size + 2))
  clear hcb hd
  go_enter Tryz.func17, Tryz.ntmps17
  go_upto_region 1 with fail
  generalize ((w.alloc (.cells #[.int .i64 s.room, .slice a1 n1 k1, .slice a2 n2 k2, .int .i64 base, .int .i64 nx, .int .i64 sp] 39)).alloc (.cells #[.int .i64 0, .slice none 0 0, .slice none 0 0, .int .i64 0, .int .i64 0, .int .i64 0] 39)) = W1 at HCB HD ⊢
  have x0 := HCB.out.x.at (i := 0) (by simp)
  have x1 := HCB.out.x.at (i := 1) (by simp)
  have x2 := HCB.out.x.at (i := 2) (by simp)
  have x3 := HCB.out.x.at (i := 3) (by simp)
  have x4 := HCB.out.x.at (i := 4) (by simp)
  have x5 := HCB.out.x.at (i := 5) (by simp)
  simp only [List.getElem_cons_zero, List.getElem_cons_succ] at x0 x1 x2 x3 x4 x5
  have z0 := HCB.out.y.at (i := 0) (by simp)
  have z1 := HCB.out.y.at (i := 1) (by simp)
  have z2 := HCB.out.y.at (i := 2) (by simp)
  have z3 := HCB.out.y.at (i := 3) (by simp)
  have z4 := HCB.out.y.at (i := 4) (by simp)
  have z5 := HCB.out.y.at (i := 5) (by simp)
  simp only [List.getElem_cons_zero, List.getElem_cons_succ] at z0 z1 z2 z3 z4 z5
  have f0 := HCB.out.y.fz 0
  have f1 := HCB.out.y.fz 1
  have f2 := HCB.out.y.fz 2
  have f3 := HCB.out.y.fz 3
  have f4 := HCB.out.y.fz 4
  have f5 := HCB.out.y.fz 5
  have HF := hide (HCB.out.y.all (.int .i64 s.room) (.slice a1 n1 k1) (.slice a2 n2 k2) (.int .i64 base) (.int .i64 nx) (.int .i64 sp))
  rcases hc with h1 | ⟨h0, h1⟩
  all_goals
    go_wp2_with fail
    exact bodyPost_ret (v := .tuple #[.agg #[.int .i64 s.room, .slice a1 n1 k1, .slice a2 n2 k2, .int .i64 base, .int .i64 nx, .int .i64 sp], .int .i64 2]) (res_2 Tryz.results17 _ _ (w.heap.size + 1) [_, _, _, _, _, _] _ _ rfl rfl HF.out Tryz.underlying39 rfl infoHc) rfl ⟨_, rfl, ⟨a1, a2, n1, k1, n2, k2, rfl, HD.out.pnO (by omega) (fun k hk _ => s6_heap (by omega) _ _ _ _ _ _)⟩, s6_below HCB.out.be (by omega) _ _ _ _ _ _⟩
set_option maxRecDepth 100000 in
set_option maxHeartbeats 8000000 in
theorem rcut_same {P : Nat → Prop} (a1 a2 : Option Addr) (n1 k1 n2 k2 : Nat) (s : Dst) (base nx sp a : Int) (w : World) (hd : Dd w P (.agg #[.int .i64 s.room, .slice a1 n1 k1, .slice a2 n2 k2]) s) (hc : base ≤ a ∧ a = nx) : Calls Tryz.prog 17 #[.agg #[.int .i64 s.room, .slice a1 n1 k1, .slice a2 n2 k2, .int .i64 base, .int .i64 nx, .int .i64 sp], .int .i64 a] w fun e w' => ∃ v, e = .returned (.tuple #[v, .int .i64 0]) ∧ Dc w' (fun k => P k ∨ w.heap.size ≤ k) v s base nx sp ∧ Below w.heap.size w w' := by
  have hcb := Cb.new w (.int .i64 s.room) (.slice a1 n1 k1) (.slice a2 n2 k2) (.int .i64 base) (.int .i64 nx) (.int .i64 sp)
  have HCB := hide hcb
  have HD := hide (hd.pn hcb.be (w.heap.size + 2))
  clear hcb hd
  go_enter Tryz.func17, Tryz.ntmps17
  go_upto_region 1 with fail
  generalize ((w.alloc (.cells #[.int .i64 s.room, .slice a1 n1 k1, .slice a2 n2 k2, .int .i64 base, .int .i64 nx, .int .i64 sp] 39)).alloc (.cells #[.int .i64 0, .slice none 0 0, .slice none 0 0, .int .i64 0, .int .i64 0, .int .i64 0] 39)) = W1 at HCB HD ⊢
  have x0 := HCB.out.x.at (i := 0) (by simp)
  have x1 := HCB.out.x.at (i := 1) (by simp)
  have x2 := HCB.out.x.at (i := 2) (by simp)
  have x3 := HCB.out.x.at (i := 3) (by simp)
  have x4 := HCB.out.x.at (i := 4) (by simp)
  have x5 := HCB.out.x.at (i := 5) (by simp)
  simp only [List.getElem_cons_zero, List.getElem_cons_succ] at x0 x1 x2 x3 x4 x5
  have z0 := HCB.out.y.at (i := 0) (by simp)
  have z1 := HCB.out.y.at (i := 1) (by simp)
  have z2 := HCB.out.y.at (i := 2) (by simp)
  have z3 := HCB.out.y.at (i := 3) (by simp)
  have z4 := HCB.out.y.at (i := 4) (by simp)
  have z5 := HCB.out.y.at (i := 5) (by simp)
  simp only [List.getElem_cons_zero, List.getElem_cons_succ] at z0 z1 z2 z3 z4 z5
  have f0 := HCB.out.y.fz 0
  have f1 := HCB.out.y.fz 1
  have f2 := HCB.out.y.fz 2
  have f3 := HCB.out.y.fz 3
  have f4 := HCB.out.y.fz 4
  have f5 := HCB.out.y.fz 5
  have HF := hide (HCB.out.y.all (.int .i64 s.room) (.slice a1 n1 k1) (.slice a2 n2 k2) (.int .i64 base) (.int .i64 nx) (.int .i64 sp))
  have hq1 : ¬ a < base := by omega
  have hq2 : ¬ nx < a := by omega
  have hq3 : (a == nx) = true := beq_iff_eq.2 hc.2
  clear hc
  all_goals
    go_wp2_with fail
    exact bodyPost_ret (v := .tuple #[.agg #[.int .i64 s.room, .slice a1 n1 k1, .slice a2 n2 k2, .int .i64 base, .int .i64 nx, .int .i64 sp], .int .i64 0]) (res_2 Tryz.results17 _ _ (w.heap.size + 1) [_, _, _, _, _, _] _ _ rfl rfl HF.out Tryz.underlying39 rfl infoHc) rfl ⟨_, rfl, ⟨a1, a2, n1, k1, n2, k2, rfl, HD.out.pnO (by omega) (fun k hk _ => s6_heap (by omega) _ _ _ _ _ _)⟩, s6_below HCB.out.be (by omega) _ _ _ _ _ _⟩
end Go.Proofs.YtoamghncncalgaaGreatDoor
