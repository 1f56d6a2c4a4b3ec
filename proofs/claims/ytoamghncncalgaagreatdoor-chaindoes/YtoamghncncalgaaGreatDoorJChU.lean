/-
  RECORDS ARE WRITTEN (chain.put, Append), the store is synced (chain.Sync), and what is asked (chain.Next, Stamp). Condition: fewer than thirty thousand blocks and writes.
-/
import Derived.Test.YtoamghncncalgaaGreatDoorJChBa2
namespace Go.Proofs.YtoamghncncalgaaGreatDoor
open Go.RowKit

theorem Sl.someC {α : Type} {f : α → Value} {w : World} {ao : Option Addr} {n cap : Nat} {l : List α} (h : Sl f w (.slice ao n cap) l) (h0 : 0 < l.length) : ∃ g o, ao = some ⟨g, o, none⟩ ∧ l.length ≤ cap ∧ ∀ i (hi : i < l.length), w.cell? ⟨g, o + i, none⟩ = some (f l[i]) := by
  rcases h with ⟨_, _, rfl, _⟩ | ⟨g, o, c, e, h2, h3⟩
  · simp at h0
  · cases e; exact ⟨g, o, rfl, h2, h3⟩
theorem Sl.noneN {α : Type} {f : α → Value} {w : World} {L cap : Nat} {l : List α} (h : Sl f w (.slice none L cap) l) : l = [] := by
  rcases h with ⟨ao, cap, h, _⟩ | ⟨b, o, cap, h, _⟩
  · exact h
  · cases h
theorem fromC_run (a : Addr) (L cap n : Nat) (h1 : n ≤ L) (W : World) : (Instr.slice 43 (.slice (some a) L cap) (some (.int .i64 (n : Int))) none none).run Tryz.prog W = .ok (.slice (if cap = n then some a else some (a.add n)) (L - n) (cap - n)) W := by
  have g1 : (n : Int) ≤ (L : Int) := by omega
  simp [Instr.slice, go_sem, g1]
theorem sliceC_from (v : Value) (b : List Int) (n : Nat) (w : World) (hv : Sl bc w v b) (hn : n ≤ b.length) :
    ∃ u, (∀ W, (Instr.slice 43 v (some (.int .i64 (n : Int))) none none).run Tryz.prog W = .ok u W) ∧ ∀ W, Sl bc W v b → Sl bc W u (b.drop n) := by
  by_cases h0 : n < b.length
  · obtain ⟨ao, cap, rfl⟩ := hv.form
    obtain ⟨g, o, rfl, hc, _⟩ := hv.someC (by omega)
    refine ⟨_, fromC_run _ b.length cap n hn, fun W hW => ?_⟩
    obtain ⟨g', o', h1, h2, h3⟩ := hW.someC (by omega)
    cases h1
    have hl : (b.drop n).length = b.length - n := by rw [List.length_drop]
    refine .inr ⟨g, o + n, cap - n, by rw [if_neg (by omega), hl, Addr.add_lit], by rw [hl]; omega, fun i hi => ?_⟩
    rw [hl] at hi
    rw [Nat.add_assoc, h3 (n + i) (by omega)]
    simp [List.getElem_drop]
  · obtain rfl : n = b.length := by omega
    obtain ⟨ao, cap, rfl⟩ := hv.form
    rw [List.drop_length]
    cases ao with
    | none =>
      obtain rfl := hv.noneN
      refine ⟨.slice none 0 cap, fun W => ?_, fun W _ => Sl.nil _ _ _ _⟩
      simp [Instr.slice, go_sem]
    | some a =>
      refine ⟨_, fromC_run a b.length cap b.length (Nat.le_refl _), fun W _ => ?_⟩
      rw [Nat.sub_self]
      exact Sl.nil _ _ _ _
/-- What a call of a chain has turned: the store's blocks, the chain's own, and new ones. -/
structure Cx (c d bS bT : Nat) (u : Value) (w w' : World) (u' : Value) : Prop where
  ba : Ba (fun k => Own d bS bT u k ∨ k = c) w w'
  bl : ∀ k, u'.ownBlock = some k → u.ownBlock = some k ∨ w.heap.size ≤ k
section
variable {c d bS bT : Nat} {u u' u'' : Value} {w w' w'' : World}
theorem Cx.of (h : Dx d bS bT u w w' u') : Cx c d bS bT u w w' u' := ⟨h.ba.trans (Ba.refl (fun k => Own d bS bT u k) _) (fun _ _ e => e) |> fun q => ⟨q.os, q.tape, q.output, q.size, fun k hk hn => q.block k hk (fun e => hn (.inl e))⟩, h.bl⟩
theorem Cx.refl : Cx c d bS bT u w w u := Cx.of Dx.refl
theorem Cx.trans (h : Cx c d bS bT u w w' u') (k : Cx c d bS bT u' w' w'' u'') : Cx c d bS bT u w w'' u'' :=
  ⟨h.ba.trans k.ba (fun i hi e => by
    rcases e with (e | e | e | e) | e
    · exact .inl (.inl e)
    · exact .inl (.inr (.inl e))
    · exact .inl (.inr (.inr (.inl e)))
    · rcases h.bl i e with q | q
      · exact .inl (.inr (.inr (.inr q)))
      · omega
    · exact .inr e), fun i e => by
    rcases k.bl i e with q | q
    · exact h.bl i q
    · exact .inr (Nat.le_trans h.ba.size q)⟩
theorem Cx.call (h : Cx c d bS bT u w w' u') (k : Below w'.heap.size w' w'') : Cx c d bS bT u w w'' u' := h.trans (Cx.of (Dx.of k))
theorem Cx.set (h : Cx c d bS bT u w w' u') (i : Nat) (v : Value) : Cx c d bS bT u w (w'.setCell ⟨c, i, none⟩ v) u' := ⟨h.ba.set (fun _ => .inr rfl) i v, h.bl⟩
theorem Cx.own (h : Cx c d bS bT u w w' u') {k : Nat} (hk : k < w.heap.size) (hp : ¬ Own d bS bT u k) : ¬ Own d bS bT u' k := fun e => by
  rcases e with e | e | e | e
  · exact hp (.inl e)
  · exact hp (.inr (.inl e))
  · exact hp (.inr (.inr (.inl e)))
  · rcases h.bl k e with q | q
    · exact hp (.inr (.inr (.inr q)))
    · omega
theorem Dx.b4 {g : Nat} {x y z v : Value} (h : Dx d bS bT u w w' u') (hg : ¬ Own d bS bT u g) (hb : B4 w g x y z v) : B4 w' g x y z v := hb.keepB (h.ba.block g hb.lt hg)
theorem Dq.setC {s : Dst} {W : World} (h : Dq W d bS bT u s) {g : Nat} (hg : ¬ Own d bS bT u g) (i : Nat) (x : Value) : Dq (W.setCell ⟨g, i, none⟩ x) d bS bT u s :=
  ⟨h.dk.keep (fun k hk => Below.heap_setCell _ _ _ _ (fun e => hg ((show k = g from e) ▸ hk))), h.ok⟩
end
/-- The blocks of a record. -/
def pieces (a st : Int) (b : List Int) (n : Nat) : List Wr := (List.range n).map fun (i : Nat) => (⟨a + (i : Int), false, blkOf (st + (i : Int)) (decide (i = 0)) (b.drop (46 * i))⟩ : Wr)
theorem pieces_succ (a st : Int) (b : List Int) (n : Nat) : pieces a st b (n + 1) = pieces a st b n ++ [⟨a + n, false, blkOf (st + n) (decide (n = 0)) (b.drop (46 * n))⟩] := by simp [pieces, List.range_succ]
def pS (s : Dst) (a st : Int) (b : List Int) (n : Nat) : Dst := ⟨s.room, s.cs, s.lo ++ pieces a st b n⟩
theorem pS_zero (s : Dst) (a st : Int) (b : List Int) : pS s a st b 0 = s := by simp [pS, pieces]
theorem pS_tk (s : Dst) (a st : Int) (b : List Int) (hs : Asc s.cs) : ∀ n, (pS s a st b n).tk.length ≤ s.tk.length + n
  | 0 => by rw [pS_zero]; exact Nat.le_refl _
  | n + 1 => by
    have ih := pS_tk s a st b hs n
    have e : (pS s a st b (n + 1)).tk = stT (pS s a st b n).tk ⟨a + n, false, blkOf (st + n) (decide (n = 0)) (b.drop (46 * n))⟩ := by
      show tkO s.cs (s.lo ++ pieces a st b (n + 1)) = _
      rw [pieces_succ, ← List.append_assoc, tkO_snoc]
      rfl
    have h2 := stT_len (asc_tkO hs (s.lo ++ pieces a st b n)) ⟨a + n, false, blkOf (st + n) (decide (n = 0)) (b.drop (46 * n))⟩
    rw [e]
    exact Nat.le_trans h2 (by have : (tkO s.cs (s.lo ++ pieces a st b n)).length ≤ s.tk.length + n := ih; omega)
theorem pS_wt (s : Dst) (a st : Int) (b : List Int) (n : Nat) : (pS s a st b n).wt = s.wt + n := by simp [pS, Dst.wt, pieces]; omega
theorem pad_blk {b : List Int} (h : b.length = 64) : padL b = b := by unfold padL; rw [h, List.drop_eq_nil_of_le (by rw [zer_len]; exact Nat.le_refl _), List.append_nil]
theorem pS_step {s : Dst} {a st : Int} {b : List Int} {n : Nat} (hN : Num (a + n)) (hr : (look (pS s a st b n).tk (a + n)).isSome = true ∨ ((pS s a st b n).tk.length : Int) < s.room) : wrE (pS s a st b n) (a + n) (blkOf (st + n) (decide (n = 0)) (b.drop (46 * n))) = none ∧ wrS (pS s a st b n) (a + n) (blkOf (st + n) (decide (n = 0)) (b.drop (46 * n))) = pS s a st b (n + 1) := by
  have hl := blkOf_len (st + n) (decide (n = 0)) (b.drop (46 * n))
  constructor
  · unfold wrE
    rw [if_pos (show 0 ≤ a + (n : Int) ∧ a + n ≤ 1073741824 from hN), if_pos (by omega), if_pos (c := (look (pS s a st b n).tk (a + n)).isSome = true ∨ ((pS s a st b n).tk.length : Int) < (pS s a st b n).room) hr]
  · unfold wrS
    rw [if_pos (show 0 ≤ a + (n : Int) ∧ a + n ≤ 1073741824 from hN), if_pos (by omega), if_pos (c := (look (pS s a st b n).tk (a + n)).isSome = true ∨ ((pS s a st b n).tk.length : Int) < (pS s a st b n).room) hr, pad_blk hl]
    unfold pS
    rw [pieces_succ, List.append_assoc]
theorem yields_from {ops : Array Oper} {o : Oper} {a : Act} {S : World → Prop} (hw : Region.wanted o (yielded ops a.tmps) = true) (x y : Operand) (ho : o.op = .slice 43 x (some y) none none) (v v' : Value) (n : Nat) (hx : a.eval x = v) (hy : a.eval y = .int .i64 (n : Int)) (hr : ∀ W, (Instr.slice 43 v (some (.int .i64 (n : Int))) none none).run Tryz.prog W = .ok v' W) : YieldsIf Tryz.prog ops S o v' a :=
  .inl ⟨hw, fun w _ => by
    unfold execOp
    simp only [ho, hx, Option.map_some, Option.map_none, hy]
    have h2 : (Instr.sliceAt 43 v (some (.int .i64 (n : Int))) none none).run Tryz.prog w = .ok v' w := by
      unfold Instr.sliceAt
      simp only [Sem.run_bind, run_underlying Tryz.underlying43, Result.andThen_ok]
      exact hr w
    simp [h2, Result.andThen]⟩
set_option maxRecDepth 100000 in
set_option maxHeartbeats 8000000 in
theorem put_ok {c d bS bT : Nat} {u : Value} {s : Dst} {base nx sp : Int} (a : Int) (v : Value) (b : List Int) (n : Nat) (w : World) (h : Chn w c d bS bT u s base nx sp) (hv : ∀ W' u', Dx d bS bT u w W' u' → Sl bc W' v b) (hby : Byt b) (hl : b.length ≤ 16448) (hn : blks b.length = n) (ha : 0 ≤ a) (ha2 : a + n ≤ 1073741825) (hr : ∀ k : Nat, k < n → (look (pS s a sp b k).tk (a + k)).isSome = true ∨ ((pS s a sp b k).tk.length : Int) < s.room) (hw : s.wt < 20000) (hs : 0 ≤ sp ∧ sp ≤ 2305843009213693952) : Calls Tryz.prog 39 #[.pointer (some ⟨c, 0, none⟩), .int .i64 a, v] w fun e w' => ∃ u', e = .returned .nilIface ∧ Chn w' c d bS bT u' (pS s a sp b n) base (a + n) (sp + n) ∧ Cx c d bS bT u w w' u' := by
  have hn1 : n ≤ 360 := (by have h1 : blks (b.length : Int) ≤ 360 := (by unfold blks; split <;> omega); omega)
  have hn46 : 46 * n < b.length + 46 ∨ n = 1 := (by unfold blks at hn; split at hn <;> omega)
  have HV0 := hide (hv w u Dx.refl)
  obtain ⟨ao, cap, rfl⟩ := HV0.out.form
  have HH := hide h
  have HV := hide hv
  have HBY := hide hby
  have HR := hide hr
  have HN := hide hn
  obtain ⟨hs0, hs1⟩ := hs
  have HA := hide (And.intro ha ha2)
  clear h hv hby hr hn HV0
  go_enter Tryz.func39, Tryz.ntmps39
  go_wp2_with (first | (go_at_call 31; refine (blocks_any _ _ (by omega) (by omega)).mono ?_; rintro e w9 ⟨rfl, hw9⟩; rw [hw9, HN.out]; clear hw9 w9))
  go_loopw [14] (fun i W => ∃ (k : Nat) (u9 : Value), k ≤ n ∧ i = .int .i64 k ∧ Chn W c d bS bT u9 (pS s a sp b k) base nx sp ∧ Dx d bS bT u w W u9) (fun i _ => n - (iv i).toNat)
  case atStart => exact ⟨0, u, Nat.zero_le _, rfl, by rw [pS_zero]; exact HH.out, Dx.refl⟩
  case round =>
    obtain ⟨k, u9, hk, rfl, hc, hx⟩ := hrel
    have HC := hide hc
    have HX := hide hx
    clear hc hx
    by_cases hlt : k < n
    · have HNK : Hid (Num (a + k)) := hide ⟨by have := HA.out.1; omega, by have := HA.out.2; omega⟩
      have HST := hide (pS_step (b := b) (st := sp) HNK.out (HR.out k hlt))
      obtain ⟨vs, hvs1, hvs2⟩ := sliceC_from _ b (46 * k) wr (HV.out wr u9 HX.out) (by omega)
      have HVS := hide hvs1
      have HV2 := hide hvs2
      clear hvs1 hvs2
      have hk46 : (k : Int) * 46 = ((46 * k : Nat) : Int) := by omega
      have hko : (0 : Int) ≤ (k : Int) * 46 := by omega
      have HDE : Hid ((((k : Nat) : Int) == 0) = decide (k = 0)) := hide (by by_cases e : k = 0 <;> simp [e])
      have HWT : Hid ((pS s a sp b k).wt < 30000) := hide (by rw [pS_wt]; omega)
      have HA1 := hide HA.out.1
      have hac : 0 ≤ a := HA.out.1
      have hac2 : a + n ≤ 1073741825 := HA.out.2
      have hw1 : IntKind.i64.wrap (a + (k : Int)) = a + k := by rw [IntKind.wrap_i64]; omega
      have hw2 : IntKind.i64.wrap (sp + (k : Int)) = sp + k := by rw [IntKind.wrap_i64]; omega
      have hw3 : IntKind.i64.wrap (46 * (k : Int)) = 46 * (k : Int) := by rw [IntKind.wrap_i64]; omega
      go_wp2_with fail
      have hdw : Below wr.heap.size wr wr.drew := (Below.refl _ _).drew
      refine wp_region_held_drew (S := fun W => B4 W c (.pointer (some ⟨d, 0, none⟩)) (.int .i64 base) (.int .i64 nx) (.int .i64 sp)) (by kernel_rfl) (HC.out.x.below hdw) (fun hHeld => ?_)
      have HC1 := hide (HC.out.below hdw)
      have HX1 := hide (HX.out.call hdw)
      generalize wr.drew = V1 at HC1 HX1 hHeld ⊢
      clear hdw HC HX
      refine wpAnyH_take (i := 0) (oi := _) (v := .pointer (some ⟨c, 0, none⟩)) rfl (by kernel_rfl) (by kernel_rfl) (by kernel_rfl) (fun _ _ _ h => h) (Or.inl ⟨by rfl, by intro w hSw; go_simp⟩) hHeld ?_
      change wpAnyH _ _ _ _ _ _ _ (Act.put _ (some 17) _) _
      simp only [Act.put, List.setIfInBounds_toArray, List.set_cons_zero, List.set_cons_succ]
      refine wpAnyH_take (i := 1) (oi := _) (v := .pointer (some ⟨c, 0, none⟩)) rfl (by kernel_rfl) (by kernel_rfl) (by kernel_rfl) (fun _ _ _ h => h) (Or.inl ⟨by rfl, by intro w hSw; go_simp⟩) hHeld ?_
      change wpAnyH _ _ _ _ _ _ _ (Act.put _ (some 18) _) _
      simp only [Act.put, List.setIfInBounds_toArray, List.set_cons_zero, List.set_cons_succ]
      refine wpAnyH_take (i := 2) (oi := _) (v := .pointer (some ⟨c, 0, none⟩)) rfl (by kernel_rfl) (by kernel_rfl) (by kernel_rfl) (fun _ _ _ h => h) (Or.inl ⟨by rfl, by intro w hSw; go_simp⟩) hHeld ?_
      change wpAnyH _ _ _ _ _ _ _ (Act.put _ (some 19) _) _
      simp only [Act.put, List.setIfInBounds_toArray, List.set_cons_zero, List.set_cons_succ]
      refine wpAnyH_take (i := 3) (oi := _) (v := .pointer (some ⟨d, 0, none⟩)) rfl (by kernel_rfl) (by kernel_rfl) (by kernel_rfl) (fun _ _ _ h => h) (Or.inl ⟨by rfl, by intro w hSw; have h0 := hSw.c0; have h3 := hSw.c3; go_simp⟩) hHeld ?_
      change wpAnyH _ _ _ _ _ _ _ (Act.put _ (some 20) _) _
      simp only [Act.put, List.setIfInBounds_toArray, List.set_cons_zero, List.set_cons_succ]
      refine wpAnyH_take (i := 4) (oi := _) (v := .int .i64 a) rfl (by kernel_rfl) (by kernel_rfl) (by kernel_rfl) (fun _ _ _ h => h) (Or.inl ⟨by rfl, by intro w hSw; go_simp⟩) hHeld ?_
      change wpAnyH _ _ _ _ _ _ _ (Act.put _ (some 21) _) _
      simp only [Act.put, List.setIfInBounds_toArray, List.set_cons_zero, List.set_cons_succ]
      refine wpAnyH_take (i := 5) (oi := _) (v := .int .i64 (k : Int)) rfl (by kernel_rfl) (by kernel_rfl) (by kernel_rfl) (fun _ _ _ h => h) (Or.inl ⟨by rfl, by intro w hSw; go_simp⟩) hHeld ?_
      change wpAnyH _ _ _ _ _ _ _ (Act.put _ (some 22) _) _
      simp only [Act.put, List.setIfInBounds_toArray, List.set_cons_zero, List.set_cons_succ]
      refine wpAnyH_take (i := 6) (oi := _) (v := .int .i64 (a + k)) rfl (by kernel_rfl) (by kernel_rfl) (by kernel_rfl) (fun _ _ _ h => h) (Or.inl ⟨by rfl, by intro w hSw; go_simp⟩) hHeld ?_
      change wpAnyH _ _ _ _ _ _ _ (Act.put _ (some 23) _) _
      simp only [Act.put, List.setIfInBounds_toArray, List.set_cons_zero, List.set_cons_succ]
      refine wpAnyH_take (i := 7) (oi := _) (v := .pointer (some ⟨c, 0, none⟩)) rfl (by kernel_rfl) (by kernel_rfl) (by kernel_rfl) (fun _ _ _ h => h) (Or.inl ⟨by rfl, by intro w hSw; go_simp⟩) hHeld ?_
      change wpAnyH _ _ _ _ _ _ _ (Act.put _ (some 24) _) _
      simp only [Act.put, List.setIfInBounds_toArray, List.set_cons_zero, List.set_cons_succ]
      refine wpAnyH_take (i := 8) (oi := _) (v := .pointer (some ⟨c, 0, none⟩)) rfl (by kernel_rfl) (by kernel_rfl) (by kernel_rfl) (fun _ _ _ h => h) (Or.inl ⟨by rfl, by intro w hSw; go_simp⟩) hHeld ?_
      change wpAnyH _ _ _ _ _ _ _ (Act.put _ (some 25) _) _
      simp only [Act.put, List.setIfInBounds_toArray, List.set_cons_zero, List.set_cons_succ]
      refine wpAnyH_take (i := 9) (oi := _) (v := .pointer (some ⟨c, 3, none⟩)) rfl (by kernel_rfl) (by kernel_rfl) (by kernel_rfl) (fun _ _ _ h => h) (Or.inl ⟨by rfl, by intro w hSw; go_simp⟩) hHeld ?_
      change wpAnyH _ _ _ _ _ _ _ (Act.put _ (some 26) _) _
      simp only [Act.put, List.setIfInBounds_toArray, List.set_cons_zero, List.set_cons_succ]
      refine wpAnyH_take (i := 10) (oi := _) (v := .int .i64 sp) rfl (by kernel_rfl) (by kernel_rfl) (by kernel_rfl) (fun _ _ _ h => h) (Or.inl ⟨by rfl, by intro w hSw; have h0 := hSw.c0; have h3 := hSw.c3; go_simp⟩) hHeld ?_
      change wpAnyH _ _ _ _ _ _ _ (Act.put _ (some 27) _) _
      simp only [Act.put, List.setIfInBounds_toArray, List.set_cons_zero, List.set_cons_succ]
      refine wpAnyH_take (i := 11) (oi := _) (v := .int .i64 (k : Int)) rfl (by kernel_rfl) (by kernel_rfl) (by kernel_rfl) (fun _ _ _ h => h) (Or.inl ⟨by rfl, by intro w hSw; go_simp⟩) hHeld ?_
      change wpAnyH _ _ _ _ _ _ _ (Act.put _ (some 28) _) _
      simp only [Act.put, List.setIfInBounds_toArray, List.set_cons_zero, List.set_cons_succ]
      refine wpAnyH_take (i := 12) (oi := _) (v := .int .i64 (sp + k)) rfl (by kernel_rfl) (by kernel_rfl) (by kernel_rfl) (fun _ _ _ h => h) (Or.inl ⟨by rfl, by intro w hSw; go_simp⟩) hHeld ?_
      change wpAnyH _ _ _ _ _ _ _ (Act.put _ (some 29) _) _
      simp only [Act.put, List.setIfInBounds_toArray, List.set_cons_zero, List.set_cons_succ]
      refine wpAnyH_take (i := 13) (oi := _) (v := .int .i64 (k : Int)) rfl (by kernel_rfl) (by kernel_rfl) (by kernel_rfl) (fun _ _ _ h => h) (Or.inl ⟨by rfl, by intro w hSw; go_simp⟩) hHeld ?_
      change wpAnyH _ _ _ _ _ _ _ (Act.put _ (some 30) _) _
      simp only [Act.put, List.setIfInBounds_toArray, List.set_cons_zero, List.set_cons_succ]
      refine wpAnyH_take (i := 14) (oi := _) (v := .bool (((k : Nat) : Int) == 0)) rfl (by kernel_rfl) (by kernel_rfl) (by kernel_rfl) (fun _ _ _ h => h) (Or.inl ⟨by rfl, by intro w hSw; go_simp⟩) hHeld ?_
      change wpAnyH _ _ _ _ _ _ _ (Act.put _ (some 31) _) _
      simp only [Act.put, List.setIfInBounds_toArray, List.set_cons_zero, List.set_cons_succ]
      rw [HDE.out]
      refine wpAnyH_take (i := 15) (oi := _) (v := .slice ao b.length cap) rfl (by kernel_rfl) (by kernel_rfl) (by kernel_rfl) (fun _ _ _ h => h) (Or.inl ⟨by rfl, by intro w hSw; go_simp⟩) hHeld ?_
      change wpAnyH _ _ _ _ _ _ _ (Act.put _ (some 32) _) _
      simp only [Act.put, List.setIfInBounds_toArray, List.set_cons_zero, List.set_cons_succ]
      refine wpAnyH_take (i := 16) (oi := _) (v := .int .i64 (k : Int)) rfl (by kernel_rfl) (by kernel_rfl) (by kernel_rfl) (fun _ _ _ h => h) (Or.inl ⟨by rfl, by intro w hSw; go_simp⟩) hHeld ?_
      change wpAnyH _ _ _ _ _ _ _ (Act.put _ (some 33) _) _
      simp only [Act.put, List.setIfInBounds_toArray, List.set_cons_zero, List.set_cons_succ]
      refine wpAnyH_take (i := 17) (oi := _) (v := .int .i64 ((46 * k : Nat) : Int)) rfl (by kernel_rfl) (by kernel_rfl) (by kernel_rfl) (fun _ _ _ h => h) (Or.inl ⟨by rfl, by intro w hSw; go_simp⟩) hHeld ?_
      change wpAnyH _ _ _ _ _ _ _ (Act.put _ (some 34) _) _
      simp only [Act.put, List.setIfInBounds_toArray, List.set_cons_zero, List.set_cons_succ]
      refine wpAnyH_take (i := 18) (oi := _) (v := vs) rfl (by kernel_rfl) (by kernel_rfl) (by kernel_rfl) (fun _ _ _ h => h) (yields_from (by rfl) _ _ rfl _ _ (46 * k) rfl rfl HVS.out) hHeld ?_
      change wpAnyH _ _ _ _ _ _ _ (Act.put _ (some 35) _) _
      simp only [Act.put, List.setIfInBounds_toArray, List.set_cons_zero, List.set_cons_succ]
      refine wpAnyH_ready (rs := [19]) (by kernel_rfl) (by simp) ?_
      refine AllReadyH.cons (o := _) rfl (fun K hK => ?_) AllReadyH.nil
      go_simp
      go_at_call 71
      refine (blockOf_any (sp + k) _ _ (b.drop (46 * k)) _ (by omega) (HV2.out _ (HV.out _ _ HX1.out)) (by rw [List.length_drop]; omega)).mono ?_
      rintro e V2 ⟨g, rfl, hg, _, hb2⟩
      go_wp2_with fail
      refine hK.out _ _ (hHeld.below hb2) (fun hHeld1 => ?_)
      clear hK K hHeld
      have hHeld := hHeld1
      clear hHeld1
      have HC2 := hide (HC1.out.below hb2)
      have HX2 := hide (HX1.out.call hb2)
      have HG2 := hide hg
      clear hg hb2 HC1 HX1
      refine wpAnyH_ready (rs := [20]) (by kernel_rfl) (by simp) ?_
      refine AllReadyH.cons (o := _) rfl (fun K hK => ?_) AllReadyH.nil
      go_simp
      go_at_call 25
      refine (q_writeN (a + k) _ (blkOf (sp + k) (decide (k = 0)) (b.drop (46 * k))) _ HC2.out.q (HG2.out.all (blkOf_len _ _ _).symm) (blkOf_blk _ _ (fun x hx => HBY.out x (List.mem_of_mem_drop hx)) (by rw [List.length_drop]; omega)).2 HWT.out HST.out.1).mono ?_
      rintro e V3 ⟨u3, rfl, hq3, hx3⟩
      rw [HST.out.2] at hq3
      go_wp2_with fail
      refine hK.out _ _ (hx3.b4 HC2.out.no hHeld) (fun hHeld1 => ?_)
      clear hK K hHeld
      have hHeld := hHeld1
      clear hHeld1
      have HC3 : Hid (Chn V3 c d bS bT u3 (pS s a sp b (k + 1)) base nx sp) := hide ⟨hq3, hx3.b4 HC2.out.no HC2.out.x, hx3.own HC2.out.x.lt HC2.out.no⟩
      have HX3 := hide (HX2.out.trans hx3)
      clear hq3 hx3 HC2 HX2 HG2
      refine wpAnyH_take (i := 21) (oi := _) (v := .nilIface) rfl (by kernel_rfl) (by kernel_rfl) (by kernel_rfl) (fun _ _ _ h => h) (Or.inl ⟨by rfl, by intro w hSw; go_simp⟩) hHeld ?_
      change wpAnyH _ _ _ _ _ _ _ (Act.put _ (some 9) _) _
      simp only [Act.put, List.setIfInBounds_toArray, List.set_cons_zero, List.set_cons_succ]
      refine wpAnyH_done (by kernel_rfl) ?_ _
      clear hHeld
      go_wp2
      exact ⟨⟨k + 1, u3, by omega, by go_num, HC3.out, HX3.out⟩, by simp [iv]; omega⟩
    · obtain rfl : k = n := by omega
      obtain ⟨x0, x1, x2, x3, xf⟩ := HC.out.x
      have f2 := xf 2
      have f3 := xf 3
      clear xf
      have hac : 0 ≤ a := HA.out.1
      have hac2 : a + k ≤ 1073741825 := HA.out.2
      go_wp2
      go_ret
      refine ⟨u9, rfl, ⟨(HC.out.q.setC HC.out.no _ _).setC HC.out.no _ _, (HC.out.x.set2 _).set3 _, HC.out.no⟩, ((Cx.of HX.out).set _ _).set _ _⟩
def opRecord : ByteArray := ⟨#[114, 101, 99, 111, 114, 100]⟩
def opAppend : ByteArray := ⟨#[97, 112, 112, 101, 110, 100]⟩
set_option maxRecDepth 100000 in
set_option maxHeartbeats 8000000 in
theorem append_lim (c n cap : Nat) (ao : Option Addr) (w : World) (h : n = 0 ∨ 16448 < n) : Calls Tryz.prog 10 #[.pointer (some ⟨c, 0, none⟩), .slice ao n cap] w fun e w' => e = .returned (.tuple #[.int .i64 0, ev (some ([(opRecord, (n : Int))], 6))]) ∧ w' = w := by
  go_enter Tryz.func10, Tryz.ntmps10
  rcases h with rfl | h
  all_goals
    go_wp2_with (first | (go_at_call 32; refine (new_any _ _ _ _).mono ?_; rintro e w9 ⟨rfl, hw9⟩; rw [hw9]; clear hw9 w9))
    go_ret2
    exact ⟨rfl, rfl⟩
set_option maxRecDepth 100000 in
set_option maxHeartbeats 8000000 in
theorem append_full1 {c d bS bT : Nat} {u : Value} {s : Dst} {base nx sp : Int} (ao : Option Addr) (cap : Nat) (b : List Int) (n : Nat) (w : World) (h : Chn w c d bS bT u s base nx sp) (hb : 0 < b.length ∧ b.length ≤ 16448) (hn : blks b.length = n) (hw : s.wt < 20000) (hx : 0 ≤ nx ∧ nx ≤ 1073800000) (hf : decide (s.room < (s.tk.length : Int) + n) = true) : Calls Tryz.prog 10 #[.pointer (some ⟨c, 0, none⟩), .slice ao b.length cap] w fun e w' => e = .returned (.tuple #[.int .i64 0, ev (some ([(opAppend, nx)], 7))]) ∧ Chn w' c d bS bT u s base nx sp ∧ Dx d bS bT u w w' u := by
  have HH := hide h
  have HN := hide hn
  obtain ⟨hb0, hb1⟩ := hb
  obtain ⟨hx0, hx1⟩ := hx
  have HTL : Hid ((s.tk.length : Int) ≤ 30000) := hide (by have := h.q.ok.tl; omega)
  have htl0 : (0 : Int) ≤ (s.tk.length : Int) := by omega
  have htl1 := HTL.out
  have hbz : ((b.length : Int) == 0) = false := by simp; intro e; rw [e] at hb0; simp at hb0
  have hbq : decide (16448 < (b.length : Int)) = false := by simp; omega
  have hn1 : n ≤ 360 := (by have h1 : blks (b.length : Int) ≤ 360 := (by unfold blks; split <;> omega); omega)
  clear h hn
  go_enter Tryz.func10, Tryz.ntmps10
  go_upto_region 3 with fail
  have hdw : Below w.heap.size w w.drew := (Below.refl _ _).drew
  refine wp_region_held_drew (S := fun W => B4 W c (.pointer (some ⟨d, 0, none⟩)) (.int .i64 base) (.int .i64 nx) (.int .i64 sp)) (by kernel_rfl) (HH.out.x.below hdw) (fun hHeld => ?_)
  have HC1 := hide (HH.out.below hdw)
  have HX1 : Hid (Dx d bS bT u w w.drew u) := hide (Dx.of hdw)
  generalize w.drew = V1 at HC1 HX1 hHeld ⊢
  clear hdw
  refine wpAnyH_take (i := 0) (oi := _) (v := .pointer (some ⟨c, 0, none⟩)) rfl (by kernel_rfl) (by kernel_rfl) (by kernel_rfl) (fun _ _ _ h => h) (Or.inl ⟨by rfl, by intro w hSw; go_simp⟩) hHeld ?_
  change wpAnyH _ _ _ _ _ _ _ (Act.put _ (some 20) _) _
  simp only [Act.put, List.setIfInBounds_toArray, List.set_cons_zero, List.set_cons_succ]
  refine wpAnyH_take (i := 1) (oi := _) (v := .pointer (some ⟨c, 0, none⟩)) rfl (by kernel_rfl) (by kernel_rfl) (by kernel_rfl) (fun _ _ _ h => h) (Or.inl ⟨by rfl, by intro w hSw; go_simp⟩) hHeld ?_
  change wpAnyH _ _ _ _ _ _ _ (Act.put _ (some 21) _) _
  simp only [Act.put, List.setIfInBounds_toArray, List.set_cons_zero, List.set_cons_succ]
  refine wpAnyH_take (i := 2) (oi := _) (v := .pointer (some ⟨c, 2, none⟩)) rfl (by kernel_rfl) (by kernel_rfl) (by kernel_rfl) (fun _ _ _ h => h) (Or.inl ⟨by rfl, by intro w hSw; go_simp⟩) hHeld ?_
  change wpAnyH _ _ _ _ _ _ _ (Act.put _ (some 22) _) _
  simp only [Act.put, List.setIfInBounds_toArray, List.set_cons_zero, List.set_cons_succ]
  refine wpAnyH_take (i := 3) (oi := _) (v := .int .i64 nx) rfl (by kernel_rfl) (by kernel_rfl) (by kernel_rfl) (fun _ _ _ h => h) (Or.inl ⟨by rfl, by intro w hSw; have h0 := hSw.c0; have h2 := hSw.c2; go_simp⟩) hHeld ?_
  change wpAnyH _ _ _ _ _ _ _ (Act.put _ (some 23) _) _
  simp only [Act.put, List.setIfInBounds_toArray, List.set_cons_zero, List.set_cons_succ]
  refine wpAnyH_take (i := 4) (oi := _) (v := .slice ao b.length cap) rfl (by kernel_rfl) (by kernel_rfl) (by kernel_rfl) (fun _ _ _ h => h) (Or.inl ⟨by rfl, by intro w hSw; go_simp⟩) hHeld ?_
  change wpAnyH _ _ _ _ _ _ _ (Act.put _ (some 24) _) _
  simp only [Act.put, List.setIfInBounds_toArray, List.set_cons_zero, List.set_cons_succ]
  refine wpAnyH_take (i := 5) (oi := _) (v := .int .i64 (b.length : Int)) rfl (by kernel_rfl) (by kernel_rfl) (by kernel_rfl) (fun _ _ _ h => h) (Or.inl ⟨by rfl, by intro w hSw; go_simp⟩) hHeld ?_
  change wpAnyH _ _ _ _ _ _ _ (Act.put _ (some 25) _) _
  simp only [Act.put, List.setIfInBounds_toArray, List.set_cons_zero, List.set_cons_succ]
  refine wpAnyH_ready (rs := [6]) (by kernel_rfl) (by simp) ?_
  refine AllReadyH.cons (o := _) rfl (fun K hK => ?_) AllReadyH.nil
  go_simp
  go_at_call 31
  refine (blocks_any _ _ (by omega) (by omega)).mono ?_
  rintro e w9 ⟨rfl, hw9⟩
  rw [hw9, HN.out]
  clear hw9 w9
  go_wp2_with fail
  refine hK.out _ _ hHeld (fun hHeld1 => ?_)
  clear hK K hHeld
  have hHeld := hHeld1
  clear hHeld1
  refine wpAnyH_take (i := 7) (oi := _) (v := .int .i64 nx) rfl (by kernel_rfl) (by kernel_rfl) (by kernel_rfl) (fun _ _ _ h => h) (Or.inl ⟨by rfl, by intro w hSw; go_simp⟩) hHeld ?_
  change wpAnyH _ _ _ _ _ _ _ (Act.put _ (some 6) _) _
  simp only [Act.put, List.setIfInBounds_toArray, List.set_cons_zero, List.set_cons_succ]
  refine wpAnyH_take (i := 8) (oi := _) (v := .int .i64 (n : Int)) rfl (by kernel_rfl) (by kernel_rfl) (by kernel_rfl) (fun _ _ _ h => h) (Or.inl ⟨by rfl, by intro w hSw; go_simp⟩) hHeld ?_
  change wpAnyH _ _ _ _ _ _ _ (Act.put _ (some 7) _) _
  simp only [Act.put, List.setIfInBounds_toArray, List.set_cons_zero, List.set_cons_succ]
  refine wpAnyH_done (by kernel_rfl) ?_ _
  clear hHeld
  go_upto_region 4 with fail
  have hdw : Below V1.heap.size V1 V1.drew := (Below.refl _ _).drew
  refine wp_region_held_drew (S := fun W => B4 W c (.pointer (some ⟨d, 0, none⟩)) (.int .i64 base) (.int .i64 nx) (.int .i64 sp)) (by kernel_rfl) (HC1.out.x.below hdw) (fun hHeld => ?_)
  have HC2 := hide (HC1.out.below hdw)
  have HX2 := hide (HX1.out.call hdw)
  generalize V1.drew = V2 at HC2 HX2 hHeld ⊢
  clear hdw HC1 HX1
  refine wpAnyH_take (i := 0) (oi := _) (v := .pointer (some ⟨c, 0, none⟩)) rfl (by kernel_rfl) (by kernel_rfl) (by kernel_rfl) (fun _ _ _ h => h) (Or.inl ⟨by rfl, by intro w hSw; go_simp⟩) hHeld ?_
  change wpAnyH _ _ _ _ _ _ _ (Act.put _ (some 27) _) _
  simp only [Act.put, List.setIfInBounds_toArray, List.set_cons_zero, List.set_cons_succ]
  refine wpAnyH_take (i := 1) (oi := _) (v := .pointer (some ⟨c, 0, none⟩)) rfl (by kernel_rfl) (by kernel_rfl) (by kernel_rfl) (fun _ _ _ h => h) (Or.inl ⟨by rfl, by intro w hSw; go_simp⟩) hHeld ?_
  change wpAnyH _ _ _ _ _ _ _ (Act.put _ (some 28) _) _
  simp only [Act.put, List.setIfInBounds_toArray, List.set_cons_zero, List.set_cons_succ]
  refine wpAnyH_take (i := 2) (oi := _) (v := .pointer (some ⟨c, 0, none⟩)) rfl (by kernel_rfl) (by kernel_rfl) (by kernel_rfl) (fun _ _ _ h => h) (Or.inl ⟨by rfl, by intro w hSw; go_simp⟩) hHeld ?_
  change wpAnyH _ _ _ _ _ _ _ (Act.put _ (some 29) _) _
  simp only [Act.put, List.setIfInBounds_toArray, List.set_cons_zero, List.set_cons_succ]
  refine wpAnyH_take (i := 3) (oi := _) (v := .pointer (some ⟨d, 0, none⟩)) rfl (by kernel_rfl) (by kernel_rfl) (by kernel_rfl) (fun _ _ _ h => h) (Or.inl ⟨by rfl, by intro w hSw; have h0 := hSw.c0; have h2 := hSw.c2; go_simp⟩) hHeld ?_
  change wpAnyH _ _ _ _ _ _ _ (Act.put _ (some 30) _) _
  simp only [Act.put, List.setIfInBounds_toArray, List.set_cons_zero, List.set_cons_succ]
  refine wpAnyH_take (i := 5) (oi := _) (v := .int .i64 (n : Int)) rfl (by kernel_rfl) (by kernel_rfl) (by kernel_rfl) (fun _ _ _ h => h) (Or.inl ⟨by rfl, by intro w hSw; go_simp⟩) hHeld ?_
  change wpAnyH _ _ _ _ _ _ _ (Act.put _ (some 32) _) _
  simp only [Act.put, List.setIfInBounds_toArray, List.set_cons_zero, List.set_cons_succ]
  refine wpAnyH_take (i := 7) (oi := _) (v := .pointer (some ⟨c, 0, none⟩)) rfl (by kernel_rfl) (by kernel_rfl) (by kernel_rfl) (fun _ _ _ h => h) (Or.inl ⟨by rfl, by intro w hSw; go_simp⟩) hHeld ?_
  change wpAnyH _ _ _ _ _ _ _ (Act.put _ (some 34) _) _
  simp only [Act.put, List.setIfInBounds_toArray, List.set_cons_zero, List.set_cons_succ]
  refine wpAnyH_take (i := 8) (oi := _) (v := .pointer (some ⟨c, 0, none⟩)) rfl (by kernel_rfl) (by kernel_rfl) (by kernel_rfl) (fun _ _ _ h => h) (Or.inl ⟨by rfl, by intro w hSw; go_simp⟩) hHeld ?_
  change wpAnyH _ _ _ _ _ _ _ (Act.put _ (some 35) _) _
  simp only [Act.put, List.setIfInBounds_toArray, List.set_cons_zero, List.set_cons_succ]
  refine wpAnyH_take (i := 9) (oi := _) (v := .pointer (some ⟨c, 0, none⟩)) rfl (by kernel_rfl) (by kernel_rfl) (by kernel_rfl) (fun _ _ _ h => h) (Or.inl ⟨by rfl, by intro w hSw; go_simp⟩) hHeld ?_
  change wpAnyH _ _ _ _ _ _ _ (Act.put _ (some 36) _) _
  simp only [Act.put, List.setIfInBounds_toArray, List.set_cons_zero, List.set_cons_succ]
  refine wpAnyH_take (i := 10) (oi := _) (v := .pointer (some ⟨d, 0, none⟩)) rfl (by kernel_rfl) (by kernel_rfl) (by kernel_rfl) (fun _ _ _ h => h) (Or.inl ⟨by rfl, by intro w hSw; have h0 := hSw.c0; have h2 := hSw.c2; go_simp⟩) hHeld ?_
  change wpAnyH _ _ _ _ _ _ _ (Act.put _ (some 37) _) _
  simp only [Act.put, List.setIfInBounds_toArray, List.set_cons_zero, List.set_cons_succ]
  refine wpAnyH_ready (rs := [4]) (by kernel_rfl) (by simp) ?_
  refine AllReadyH.cons (o := _) rfl (fun K hK => ?_) AllReadyH.nil
  go_simp
  go_at_call 37
  refine (q_used _ HC2.out.q).mono ?_
  rintro e w9 ⟨rfl, hw9⟩
  rw [hw9]
  clear hw9 w9
  go_wp2_with fail
  refine hK.out _ _ hHeld (fun hHeld1 => ?_)
  clear hK K hHeld
  have hHeld := hHeld1
  clear hHeld1
  have hw1 : IntKind.i64.wrap ((s.tk.length : Int) + (n : Int)) = (s.tk.length : Int) + n := by rw [IntKind.wrap_i64]; omega
  refine wpAnyH_take (i := 6) (oi := _) (v := .int .i64 ((s.tk.length : Int) + n)) rfl (by kernel_rfl) (by kernel_rfl) (by kernel_rfl) (fun _ _ _ h => h) (Or.inl ⟨by rfl, by intro w hSw; go_simp⟩) hHeld ?_
  change wpAnyH _ _ _ _ _ _ _ (Act.put _ (some 33) _) _
  simp only [Act.put, List.setIfInBounds_toArray, List.set_cons_zero, List.set_cons_succ]
  refine wpAnyH_ready (rs := [11]) (by kernel_rfl) (by simp) ?_
  refine AllReadyH.cons (o := _) rfl (fun K hK => ?_) AllReadyH.nil
  go_simp
  go_at_call 38
  refine (q_room _ HC2.out.q).mono ?_
  rintro e w9 ⟨rfl, hw9⟩
  rw [hw9]
  clear hw9 w9
  go_wp2_with fail
  refine hK.out _ _ hHeld (fun hHeld1 => ?_)
  clear hK K hHeld
  have hHeld := hHeld1
  clear hHeld1
  refine wpAnyH_take (i := 12) (oi := _) (v := .bool true) rfl (by kernel_rfl) (by kernel_rfl) (by kernel_rfl) (fun _ _ _ h => h) (Or.inl ⟨by rfl, by intro w hSw; go_simp⟩) hHeld ?_
  change wpAnyH _ _ _ _ _ _ _ (Act.put _ (some 39) _) _
  simp only [Act.put, List.setIfInBounds_toArray, List.set_cons_zero, List.set_cons_succ]
  refine wpAnyH_take (i := 13) (oi := _) (v := .bool true) rfl (by kernel_rfl) (by kernel_rfl) (by kernel_rfl) (fun _ _ _ h => h) (Or.inl ⟨by rfl, by intro w hSw; go_simp⟩) hHeld ?_
  change wpAnyH _ _ _ _ _ _ _ (Act.put _ (some 40) _) _
  simp only [Act.put, List.setIfInBounds_toArray, List.set_cons_zero, List.set_cons_succ]
  refine wpAnyH_take (i := 14) (oi := _) (v := undef) rfl (by kernel_rfl) (by kernel_rfl) (by kernel_rfl) (fun _ _ _ h => h) (Or.inr ⟨by rfl, rfl⟩) hHeld ?_
  change wpAnyH _ _ _ _ _ _ _ (Act.put _ (some 41) _) _
  simp only [Act.put, List.setIfInBounds_toArray, List.set_cons_zero, List.set_cons_succ]
  refine wpAnyH_take (i := 15) (oi := _) (v := undef) rfl (by kernel_rfl) (by kernel_rfl) (by kernel_rfl) (fun _ _ _ h => h) (Or.inr ⟨by rfl, rfl⟩) hHeld ?_
  change wpAnyH _ _ _ _ _ _ _ (Act.put _ (some 42) _) _
  simp only [Act.put, List.setIfInBounds_toArray, List.set_cons_zero, List.set_cons_succ]
  refine wpAnyH_take (i := 16) (oi := _) (v := undef) rfl (by kernel_rfl) (by kernel_rfl) (by kernel_rfl) (fun _ _ _ h => h) (Or.inr ⟨by rfl, rfl⟩) hHeld ?_
  change wpAnyH _ _ _ _ _ _ _ (Act.put _ (some 43) _) _
  simp only [Act.put, List.setIfInBounds_toArray, List.set_cons_zero, List.set_cons_succ]
  refine wpAnyH_take (i := 17) (oi := _) (v := undef) rfl (by kernel_rfl) (by kernel_rfl) (by kernel_rfl) (fun _ _ _ h => h) (Or.inr ⟨by rfl, rfl⟩) hHeld ?_
  change wpAnyH _ _ _ _ _ _ _ (Act.put _ (some 44) _) _
  simp only [Act.put, List.setIfInBounds_toArray, List.set_cons_zero, List.set_cons_succ]
  refine wpAnyH_take (i := 18) (oi := _) (v := undef) rfl (by kernel_rfl) (by kernel_rfl) (by kernel_rfl) (fun _ _ _ h => h) (Or.inr ⟨by rfl, rfl⟩) hHeld ?_
  change wpAnyH _ _ _ _ _ _ _ (Act.put _ (some 45) _) _
  simp only [Act.put, List.setIfInBounds_toArray, List.set_cons_zero, List.set_cons_succ]
  refine wpAnyH_take (i := 19) (oi := _) (v := .bool true) rfl (by kernel_rfl) (by kernel_rfl) (by kernel_rfl) (fun _ _ _ h => h) (Or.inl ⟨by rfl, by intro w hSw; go_simp⟩) hHeld ?_
  change wpAnyH _ _ _ _ _ _ _ (Act.put _ (some 46) _) _
  simp only [Act.put, List.setIfInBounds_toArray, List.set_cons_zero, List.set_cons_succ]
  refine wpAnyH_done (by kernel_rfl) ?_ _
  clear hHeld
  go_wp2_with (first | (go_at_call 32; refine (new_any _ _ _ _).mono ?_; rintro e w9 ⟨rfl, hw9⟩; rw [hw9]; clear hw9 w9))
  go_ret2
  exact ⟨rfl, HC2.out, HX2.out⟩
set_option maxRecDepth 100000 in
set_option maxHeartbeats 8000000 in
theorem append_full2 {c d bS bT : Nat} {u : Value} {s : Dst} {base nx sp : Int} (ao : Option Addr) (cap : Nat) (b : List Int) (n : Nat) (w : World) (h : Chn w c d bS bT u s base nx sp) (hb : 0 < b.length ∧ b.length ≤ 16448) (hn : blks b.length = n) (hw : s.wt < 20000) (hx : 0 ≤ nx ∧ nx ≤ 1073800000) (hf : decide (s.room < (s.tk.length : Int) + n) = false) (hf2 : decide (1073741824 < nx + n - 1) = true) : Calls Tryz.prog 10 #[.pointer (some ⟨c, 0, none⟩), .slice ao b.length cap] w fun e w' => e = .returned (.tuple #[.int .i64 0, ev (some ([(opAppend, nx)], 7))]) ∧ Chn w' c d bS bT u s base nx sp ∧ Dx d bS bT u w w' u := by
  have HH := hide h
  have HN := hide hn
  obtain ⟨hb0, hb1⟩ := hb
  obtain ⟨hx0, hx1⟩ := hx
  have HTL : Hid ((s.tk.length : Int) ≤ 30000) := hide (by have := h.q.ok.tl; omega)
  have htl0 : (0 : Int) ≤ (s.tk.length : Int) := by omega
  have htl1 := HTL.out
  have hbz : ((b.length : Int) == 0) = false := by simp; intro e; rw [e] at hb0; simp at hb0
  have hbq : decide (16448 < (b.length : Int)) = false := by simp; omega
  have hn1 : n ≤ 360 := (by have h1 : blks (b.length : Int) ≤ 360 := (by unfold blks; split <;> omega); omega)
  clear h hn
  go_enter Tryz.func10, Tryz.ntmps10
  go_upto_region 3 with fail
  have hdw : Below w.heap.size w w.drew := (Below.refl _ _).drew
  refine wp_region_held_drew (S := fun W => B4 W c (.pointer (some ⟨d, 0, none⟩)) (.int .i64 base) (.int .i64 nx) (.int .i64 sp)) (by kernel_rfl) (HH.out.x.below hdw) (fun hHeld => ?_)
  have HC1 := hide (HH.out.below hdw)
  have HX1 : Hid (Dx d bS bT u w w.drew u) := hide (Dx.of hdw)
  generalize w.drew = V1 at HC1 HX1 hHeld ⊢
  clear hdw
  refine wpAnyH_take (i := 0) (oi := _) (v := .pointer (some ⟨c, 0, none⟩)) rfl (by kernel_rfl) (by kernel_rfl) (by kernel_rfl) (fun _ _ _ h => h) (Or.inl ⟨by rfl, by intro w hSw; go_simp⟩) hHeld ?_
  change wpAnyH _ _ _ _ _ _ _ (Act.put _ (some 20) _) _
  simp only [Act.put, List.setIfInBounds_toArray, List.set_cons_zero, List.set_cons_succ]
  refine wpAnyH_take (i := 1) (oi := _) (v := .pointer (some ⟨c, 0, none⟩)) rfl (by kernel_rfl) (by kernel_rfl) (by kernel_rfl) (fun _ _ _ h => h) (Or.inl ⟨by rfl, by intro w hSw; go_simp⟩) hHeld ?_
  change wpAnyH _ _ _ _ _ _ _ (Act.put _ (some 21) _) _
  simp only [Act.put, List.setIfInBounds_toArray, List.set_cons_zero, List.set_cons_succ]
  refine wpAnyH_take (i := 2) (oi := _) (v := .pointer (some ⟨c, 2, none⟩)) rfl (by kernel_rfl) (by kernel_rfl) (by kernel_rfl) (fun _ _ _ h => h) (Or.inl ⟨by rfl, by intro w hSw; go_simp⟩) hHeld ?_
  change wpAnyH _ _ _ _ _ _ _ (Act.put _ (some 22) _) _
  simp only [Act.put, List.setIfInBounds_toArray, List.set_cons_zero, List.set_cons_succ]
  refine wpAnyH_take (i := 3) (oi := _) (v := .int .i64 nx) rfl (by kernel_rfl) (by kernel_rfl) (by kernel_rfl) (fun _ _ _ h => h) (Or.inl ⟨by rfl, by intro w hSw; have h0 := hSw.c0; have h2 := hSw.c2; go_simp⟩) hHeld ?_
  change wpAnyH _ _ _ _ _ _ _ (Act.put _ (some 23) _) _
  simp only [Act.put, List.setIfInBounds_toArray, List.set_cons_zero, List.set_cons_succ]
  refine wpAnyH_take (i := 4) (oi := _) (v := .slice ao b.length cap) rfl (by kernel_rfl) (by kernel_rfl) (by kernel_rfl) (fun _ _ _ h => h) (Or.inl ⟨by rfl, by intro w hSw; go_simp⟩) hHeld ?_
  change wpAnyH _ _ _ _ _ _ _ (Act.put _ (some 24) _) _
  simp only [Act.put, List.setIfInBounds_toArray, List.set_cons_zero, List.set_cons_succ]
  refine wpAnyH_take (i := 5) (oi := _) (v := .int .i64 (b.length : Int)) rfl (by kernel_rfl) (by kernel_rfl) (by kernel_rfl) (fun _ _ _ h => h) (Or.inl ⟨by rfl, by intro w hSw; go_simp⟩) hHeld ?_
  change wpAnyH _ _ _ _ _ _ _ (Act.put _ (some 25) _) _
  simp only [Act.put, List.setIfInBounds_toArray, List.set_cons_zero, List.set_cons_succ]
  refine wpAnyH_ready (rs := [6]) (by kernel_rfl) (by simp) ?_
  refine AllReadyH.cons (o := _) rfl (fun K hK => ?_) AllReadyH.nil
  go_simp
  go_at_call 31
  refine (blocks_any _ _ (by omega) (by omega)).mono ?_
  rintro e w9 ⟨rfl, hw9⟩
  rw [hw9, HN.out]
  clear hw9 w9
  go_wp2_with fail
  refine hK.out _ _ hHeld (fun hHeld1 => ?_)
  clear hK K hHeld
  have hHeld := hHeld1
  clear hHeld1
  refine wpAnyH_take (i := 7) (oi := _) (v := .int .i64 nx) rfl (by kernel_rfl) (by kernel_rfl) (by kernel_rfl) (fun _ _ _ h => h) (Or.inl ⟨by rfl, by intro w hSw; go_simp⟩) hHeld ?_
  change wpAnyH _ _ _ _ _ _ _ (Act.put _ (some 6) _) _
  simp only [Act.put, List.setIfInBounds_toArray, List.set_cons_zero, List.set_cons_succ]
  refine wpAnyH_take (i := 8) (oi := _) (v := .int .i64 (n : Int)) rfl (by kernel_rfl) (by kernel_rfl) (by kernel_rfl) (fun _ _ _ h => h) (Or.inl ⟨by rfl, by intro w hSw; go_simp⟩) hHeld ?_
  change wpAnyH _ _ _ _ _ _ _ (Act.put _ (some 7) _) _
  simp only [Act.put, List.setIfInBounds_toArray, List.set_cons_zero, List.set_cons_succ]
  refine wpAnyH_done (by kernel_rfl) ?_ _
  clear hHeld
  go_upto_region 4 with fail
  have hdw : Below V1.heap.size V1 V1.drew := (Below.refl _ _).drew
  refine wp_region_held_drew (S := fun W => B4 W c (.pointer (some ⟨d, 0, none⟩)) (.int .i64 base) (.int .i64 nx) (.int .i64 sp)) (by kernel_rfl) (HC1.out.x.below hdw) (fun hHeld => ?_)
  have HC2 := hide (HC1.out.below hdw)
  have HX2 := hide (HX1.out.call hdw)
  generalize V1.drew = V2 at HC2 HX2 hHeld ⊢
  clear hdw HC1 HX1
  refine wpAnyH_take (i := 0) (oi := _) (v := .pointer (some ⟨c, 0, none⟩)) rfl (by kernel_rfl) (by kernel_rfl) (by kernel_rfl) (fun _ _ _ h => h) (Or.inl ⟨by rfl, by intro w hSw; go_simp⟩) hHeld ?_
  change wpAnyH _ _ _ _ _ _ _ (Act.put _ (some 27) _) _
  simp only [Act.put, List.setIfInBounds_toArray, List.set_cons_zero, List.set_cons_succ]
  refine wpAnyH_take (i := 1) (oi := _) (v := .pointer (some ⟨c, 0, none⟩)) rfl (by kernel_rfl) (by kernel_rfl) (by kernel_rfl) (fun _ _ _ h => h) (Or.inl ⟨by rfl, by intro w hSw; go_simp⟩) hHeld ?_
  change wpAnyH _ _ _ _ _ _ _ (Act.put _ (some 28) _) _
  simp only [Act.put, List.setIfInBounds_toArray, List.set_cons_zero, List.set_cons_succ]
  refine wpAnyH_take (i := 2) (oi := _) (v := .pointer (some ⟨c, 0, none⟩)) rfl (by kernel_rfl) (by kernel_rfl) (by kernel_rfl) (fun _ _ _ h => h) (Or.inl ⟨by rfl, by intro w hSw; go_simp⟩) hHeld ?_
  change wpAnyH _ _ _ _ _ _ _ (Act.put _ (some 29) _) _
  simp only [Act.put, List.setIfInBounds_toArray, List.set_cons_zero, List.set_cons_succ]
  refine wpAnyH_take (i := 3) (oi := _) (v := .pointer (some ⟨d, 0, none⟩)) rfl (by kernel_rfl) (by kernel_rfl) (by kernel_rfl) (fun _ _ _ h => h) (Or.inl ⟨by rfl, by intro w hSw; have h0 := hSw.c0; have h2 := hSw.c2; go_simp⟩) hHeld ?_
  change wpAnyH _ _ _ _ _ _ _ (Act.put _ (some 30) _) _
  simp only [Act.put, List.setIfInBounds_toArray, List.set_cons_zero, List.set_cons_succ]
  refine wpAnyH_take (i := 5) (oi := _) (v := .int .i64 (n : Int)) rfl (by kernel_rfl) (by kernel_rfl) (by kernel_rfl) (fun _ _ _ h => h) (Or.inl ⟨by rfl, by intro w hSw; go_simp⟩) hHeld ?_
  change wpAnyH _ _ _ _ _ _ _ (Act.put _ (some 32) _) _
  simp only [Act.put, List.setIfInBounds_toArray, List.set_cons_zero, List.set_cons_succ]
  refine wpAnyH_take (i := 7) (oi := _) (v := .pointer (some ⟨c, 0, none⟩)) rfl (by kernel_rfl) (by kernel_rfl) (by kernel_rfl) (fun _ _ _ h => h) (Or.inl ⟨by rfl, by intro w hSw; go_simp⟩) hHeld ?_
  change wpAnyH _ _ _ _ _ _ _ (Act.put _ (some 34) _) _
  simp only [Act.put, List.setIfInBounds_toArray, List.set_cons_zero, List.set_cons_succ]
  refine wpAnyH_take (i := 8) (oi := _) (v := .pointer (some ⟨c, 0, none⟩)) rfl (by kernel_rfl) (by kernel_rfl) (by kernel_rfl) (fun _ _ _ h => h) (Or.inl ⟨by rfl, by intro w hSw; go_simp⟩) hHeld ?_
  change wpAnyH _ _ _ _ _ _ _ (Act.put _ (some 35) _) _
  simp only [Act.put, List.setIfInBounds_toArray, List.set_cons_zero, List.set_cons_succ]
  refine wpAnyH_take (i := 9) (oi := _) (v := .pointer (some ⟨c, 0, none⟩)) rfl (by kernel_rfl) (by kernel_rfl) (by kernel_rfl) (fun _ _ _ h => h) (Or.inl ⟨by rfl, by intro w hSw; go_simp⟩) hHeld ?_
  change wpAnyH _ _ _ _ _ _ _ (Act.put _ (some 36) _) _
  simp only [Act.put, List.setIfInBounds_toArray, List.set_cons_zero, List.set_cons_succ]
  refine wpAnyH_take (i := 10) (oi := _) (v := .pointer (some ⟨d, 0, none⟩)) rfl (by kernel_rfl) (by kernel_rfl) (by kernel_rfl) (fun _ _ _ h => h) (Or.inl ⟨by rfl, by intro w hSw; have h0 := hSw.c0; have h2 := hSw.c2; go_simp⟩) hHeld ?_
  change wpAnyH _ _ _ _ _ _ _ (Act.put _ (some 37) _) _
  simp only [Act.put, List.setIfInBounds_toArray, List.set_cons_zero, List.set_cons_succ]
  refine wpAnyH_ready (rs := [4]) (by kernel_rfl) (by simp) ?_
  refine AllReadyH.cons (o := _) rfl (fun K hK => ?_) AllReadyH.nil
  go_simp
  go_at_call 37
  refine (q_used _ HC2.out.q).mono ?_
  rintro e w9 ⟨rfl, hw9⟩
  rw [hw9]
  clear hw9 w9
  go_wp2_with fail
  refine hK.out _ _ hHeld (fun hHeld1 => ?_)
  clear hK K hHeld
  have hHeld := hHeld1
  clear hHeld1
  have hw1 : IntKind.i64.wrap ((s.tk.length : Int) + (n : Int)) = (s.tk.length : Int) + n := by rw [IntKind.wrap_i64]; omega
  refine wpAnyH_take (i := 6) (oi := _) (v := .int .i64 ((s.tk.length : Int) + n)) rfl (by kernel_rfl) (by kernel_rfl) (by kernel_rfl) (fun _ _ _ h => h) (Or.inl ⟨by rfl, by intro w hSw; go_simp⟩) hHeld ?_
  change wpAnyH _ _ _ _ _ _ _ (Act.put _ (some 33) _) _
  simp only [Act.put, List.setIfInBounds_toArray, List.set_cons_zero, List.set_cons_succ]
  refine wpAnyH_ready (rs := [11]) (by kernel_rfl) (by simp) ?_
  refine AllReadyH.cons (o := _) rfl (fun K hK => ?_) AllReadyH.nil
  go_simp
  go_at_call 38
  refine (q_room _ HC2.out.q).mono ?_
  rintro e w9 ⟨rfl, hw9⟩
  rw [hw9]
  clear hw9 w9
  go_wp2_with fail
  refine hK.out _ _ hHeld (fun hHeld1 => ?_)
  clear hK K hHeld
  have hHeld := hHeld1
  clear hHeld1
  refine wpAnyH_take (i := 12) (oi := _) (v := .bool false) rfl (by kernel_rfl) (by kernel_rfl) (by kernel_rfl) (fun _ _ _ h => h) (Or.inl ⟨by rfl, by intro w hSw; go_simp⟩) hHeld ?_
  change wpAnyH _ _ _ _ _ _ _ (Act.put _ (some 39) _) _
  simp only [Act.put, List.setIfInBounds_toArray, List.set_cons_zero, List.set_cons_succ]
  refine wpAnyH_take (i := 13) (oi := _) (v := .bool false) rfl (by kernel_rfl) (by kernel_rfl) (by kernel_rfl) (fun _ _ _ h => h) (Or.inl ⟨by rfl, by intro w hSw; go_simp⟩) hHeld ?_
  change wpAnyH _ _ _ _ _ _ _ (Act.put _ (some 40) _) _
  simp only [Act.put, List.setIfInBounds_toArray, List.set_cons_zero, List.set_cons_succ]
  refine wpAnyH_take (i := 14) (oi := _) (v := .int .i64 nx) rfl (by kernel_rfl) (by kernel_rfl) (by kernel_rfl) (fun _ _ _ h => h) (Or.inl ⟨by rfl, by intro w hSw; go_simp⟩) hHeld ?_
  change wpAnyH _ _ _ _ _ _ _ (Act.put _ (some 41) _) _
  simp only [Act.put, List.setIfInBounds_toArray, List.set_cons_zero, List.set_cons_succ]
  refine wpAnyH_take (i := 15) (oi := _) (v := .int .i64 (n : Int)) rfl (by kernel_rfl) (by kernel_rfl) (by kernel_rfl) (fun _ _ _ h => h) (Or.inl ⟨by rfl, by intro w hSw; go_simp⟩) hHeld ?_
  change wpAnyH _ _ _ _ _ _ _ (Act.put _ (some 42) _) _
  simp only [Act.put, List.setIfInBounds_toArray, List.set_cons_zero, List.set_cons_succ]
  have hw2 : IntKind.i64.wrap (nx + (n : Int)) = nx + n := by rw [IntKind.wrap_i64]; omega
  refine wpAnyH_take (i := 16) (oi := _) (v := .int .i64 (nx + n)) rfl (by kernel_rfl) (by kernel_rfl) (by kernel_rfl) (fun _ _ _ h => h) (Or.inl ⟨by rfl, by intro w hSw; go_simp⟩) hHeld ?_
  change wpAnyH _ _ _ _ _ _ _ (Act.put _ (some 43) _) _
  simp only [Act.put, List.setIfInBounds_toArray, List.set_cons_zero, List.set_cons_succ]
  have hw3 : IntKind.i64.wrap (nx + (n : Int) - 1) = nx + n - 1 := by rw [IntKind.wrap_i64]; omega
  refine wpAnyH_take (i := 17) (oi := _) (v := .int .i64 (nx + n - 1)) rfl (by kernel_rfl) (by kernel_rfl) (by kernel_rfl) (fun _ _ _ h => h) (Or.inl ⟨by rfl, by intro w hSw; go_simp⟩) hHeld ?_
  change wpAnyH _ _ _ _ _ _ _ (Act.put _ (some 44) _) _
  simp only [Act.put, List.setIfInBounds_toArray, List.set_cons_zero, List.set_cons_succ]
  refine wpAnyH_take (i := 18) (oi := _) (v := .bool true) rfl (by kernel_rfl) (by kernel_rfl) (by kernel_rfl) (fun _ _ _ h => h) (Or.inl ⟨by rfl, by intro w hSw; go_simp⟩) hHeld ?_
  change wpAnyH _ _ _ _ _ _ _ (Act.put _ (some 45) _) _
  simp only [Act.put, List.setIfInBounds_toArray, List.set_cons_zero, List.set_cons_succ]
  refine wpAnyH_take (i := 19) (oi := _) (v := .bool true) rfl (by kernel_rfl) (by kernel_rfl) (by kernel_rfl) (fun _ _ _ h => h) (Or.inl ⟨by rfl, by intro w hSw; go_simp⟩) hHeld ?_
  change wpAnyH _ _ _ _ _ _ _ (Act.put _ (some 46) _) _
  simp only [Act.put, List.setIfInBounds_toArray, List.set_cons_zero, List.set_cons_succ]
  refine wpAnyH_done (by kernel_rfl) ?_ _
  clear hHeld
  go_wp2_with (first | (go_at_call 32; refine (new_any _ _ _ _).mono ?_; rintro e w9 ⟨rfl, hw9⟩; rw [hw9]; clear hw9 w9))
  go_ret2
  exact ⟨rfl, HC2.out, HX2.out⟩
set_option maxRecDepth 100000 in
set_option maxHeartbeats 8000000 in
theorem append_ok {c d bS bT : Nat} {u : Value} {s : Dst} {base nx sp : Int} (ao : Option Addr) (cap : Nat) (b : List Int) (n : Nat) (w : World) (h : Chn w c d bS bT u s base nx sp) (hb : 0 < b.length ∧ b.length ≤ 16448) (hn : blks b.length = n) (hw : s.wt < 20000) (hx : 0 ≤ nx ∧ nx ≤ 1073800000) (hv : ∀ W' u', Dx d bS bT u w W' u' → Sl bc W' (.slice ao b.length cap) b) (hby : Byt b) (hs : 0 ≤ sp ∧ sp ≤ 2305843009213693952) (hf : (s.tk.length : Int) + n ≤ s.room) (hf2 : nx + n - 1 ≤ 1073741824) : Calls Tryz.prog 10 #[.pointer (some ⟨c, 0, none⟩), .slice ao b.length cap] w fun e w' => ∃ u', e = .returned (.tuple #[.int .i64 nx, .nilIface]) ∧ Chn w' c d bS bT u' (pS s nx sp b n) base (nx + n) (sp + n) ∧ Cx c d bS bT u w w' u' := by
  have HR : Hid (∀ k : Nat, k < n → (look (pS s nx sp b k).tk (nx + k)).isSome = true ∨ ((pS s nx sp b k).tk.length : Int) < s.room) := hide (fun k hk => .inr (by have := pS_tk s nx sp b h.q.ok.asc k; omega))
  have HV := hide hv
  have HBY := hide hby
  have hg1 : decide (s.room < (s.tk.length : Int) + n) = false := by simp; omega
  have hg2 : decide (1073741824 < nx + n - 1) = false := by simp; omega
  clear hv hby
  have HH := hide h
  have HN := hide hn
  obtain ⟨hb0, hb1⟩ := hb
  obtain ⟨hx0, hx1⟩ := hx
  have HTL : Hid ((s.tk.length : Int) ≤ 30000) := hide (by have := h.q.ok.tl; omega)
  have htl0 : (0 : Int) ≤ (s.tk.length : Int) := by omega
  have htl1 := HTL.out
  have hbz : ((b.length : Int) == 0) = false := by simp; intro e; rw [e] at hb0; simp at hb0
  have hbq : decide (16448 < (b.length : Int)) = false := by simp; omega
  have hn1 : n ≤ 360 := (by have h1 : blks (b.length : Int) ≤ 360 := (by unfold blks; split <;> omega); omega)
  clear h hn
  go_enter Tryz.func10, Tryz.ntmps10
  go_upto_region 3 with fail
  have hdw : Below w.heap.size w w.drew := (Below.refl _ _).drew
  refine wp_region_held_drew (S := fun W => B4 W c (.pointer (some ⟨d, 0, none⟩)) (.int .i64 base) (.int .i64 nx) (.int .i64 sp)) (by kernel_rfl) (HH.out.x.below hdw) (fun hHeld => ?_)
  have HC1 := hide (HH.out.below hdw)
  have HX1 : Hid (Dx d bS bT u w w.drew u) := hide (Dx.of hdw)
  generalize w.drew = V1 at HC1 HX1 hHeld ⊢
  clear hdw
  refine wpAnyH_take (i := 0) (oi := _) (v := .pointer (some ⟨c, 0, none⟩)) rfl (by kernel_rfl) (by kernel_rfl) (by kernel_rfl) (fun _ _ _ h => h) (Or.inl ⟨by rfl, by intro w hSw; go_simp⟩) hHeld ?_
  change wpAnyH _ _ _ _ _ _ _ (Act.put _ (some 20) _) _
  simp only [Act.put, List.setIfInBounds_toArray, List.set_cons_zero, List.set_cons_succ]
  refine wpAnyH_take (i := 1) (oi := _) (v := .pointer (some ⟨c, 0, none⟩)) rfl (by kernel_rfl) (by kernel_rfl) (by kernel_rfl) (fun _ _ _ h => h) (Or.inl ⟨by rfl, by intro w hSw; go_simp⟩) hHeld ?_
  change wpAnyH _ _ _ _ _ _ _ (Act.put _ (some 21) _) _
  simp only [Act.put, List.setIfInBounds_toArray, List.set_cons_zero, List.set_cons_succ]
  refine wpAnyH_take (i := 2) (oi := _) (v := .pointer (some ⟨c, 2, none⟩)) rfl (by kernel_rfl) (by kernel_rfl) (by kernel_rfl) (fun _ _ _ h => h) (Or.inl ⟨by rfl, by intro w hSw; go_simp⟩) hHeld ?_
  change wpAnyH _ _ _ _ _ _ _ (Act.put _ (some 22) _) _
  simp only [Act.put, List.setIfInBounds_toArray, List.set_cons_zero, List.set_cons_succ]
  refine wpAnyH_take (i := 3) (oi := _) (v := .int .i64 nx) rfl (by kernel_rfl) (by kernel_rfl) (by kernel_rfl) (fun _ _ _ h => h) (Or.inl ⟨by rfl, by intro w hSw; have h0 := hSw.c0; have h2 := hSw.c2; go_simp⟩) hHeld ?_
  change wpAnyH _ _ _ _ _ _ _ (Act.put _ (some 23) _) _
  simp only [Act.put, List.setIfInBounds_toArray, List.set_cons_zero, List.set_cons_succ]
  refine wpAnyH_take (i := 4) (oi := _) (v := .slice ao b.length cap) rfl (by kernel_rfl) (by kernel_rfl) (by kernel_rfl) (fun _ _ _ h => h) (Or.inl ⟨by rfl, by intro w hSw; go_simp⟩) hHeld ?_
  change wpAnyH _ _ _ _ _ _ _ (Act.put _ (some 24) _) _
  simp only [Act.put, List.setIfInBounds_toArray, List.set_cons_zero, List.set_cons_succ]
  refine wpAnyH_take (i := 5) (oi := _) (v := .int .i64 (b.length : Int)) rfl (by kernel_rfl) (by kernel_rfl) (by kernel_rfl) (fun _ _ _ h => h) (Or.inl ⟨by rfl, by intro w hSw; go_simp⟩) hHeld ?_
  change wpAnyH _ _ _ _ _ _ _ (Act.put _ (some 25) _) _
  simp only [Act.put, List.setIfInBounds_toArray, List.set_cons_zero, List.set_cons_succ]
  refine wpAnyH_ready (rs := [6]) (by kernel_rfl) (by simp) ?_
  refine AllReadyH.cons (o := _) rfl (fun K hK => ?_) AllReadyH.nil
  go_simp
  go_at_call 31
  refine (blocks_any _ _ (by omega) (by omega)).mono ?_
  rintro e w9 ⟨rfl, hw9⟩
  rw [hw9, HN.out]
  clear hw9 w9
  go_wp2_with fail
  refine hK.out _ _ hHeld (fun hHeld1 => ?_)
  clear hK K hHeld
  have hHeld := hHeld1
  clear hHeld1
  refine wpAnyH_take (i := 7) (oi := _) (v := .int .i64 nx) rfl (by kernel_rfl) (by kernel_rfl) (by kernel_rfl) (fun _ _ _ h => h) (Or.inl ⟨by rfl, by intro w hSw; go_simp⟩) hHeld ?_
  change wpAnyH _ _ _ _ _ _ _ (Act.put _ (some 6) _) _
  simp only [Act.put, List.setIfInBounds_toArray, List.set_cons_zero, List.set_cons_succ]
  refine wpAnyH_take (i := 8) (oi := _) (v := .int .i64 (n : Int)) rfl (by kernel_rfl) (by kernel_rfl) (by kernel_rfl) (fun _ _ _ h => h) (Or.inl ⟨by rfl, by intro w hSw; go_simp⟩) hHeld ?_
  change wpAnyH _ _ _ _ _ _ _ (Act.put _ (some 7) _) _
  simp only [Act.put, List.setIfInBounds_toArray, List.set_cons_zero, List.set_cons_succ]
  refine wpAnyH_done (by kernel_rfl) ?_ _
  clear hHeld
  go_upto_region 4 with fail
  have hdw : Below V1.heap.size V1 V1.drew := (Below.refl _ _).drew
  refine wp_region_held_drew (S := fun W => B4 W c (.pointer (some ⟨d, 0, none⟩)) (.int .i64 base) (.int .i64 nx) (.int .i64 sp)) (by kernel_rfl) (HC1.out.x.below hdw) (fun hHeld => ?_)
  have HC2 := hide (HC1.out.below hdw)
  have HX2 := hide (HX1.out.call hdw)
  generalize V1.drew = V2 at HC2 HX2 hHeld ⊢
  clear hdw HC1 HX1
  refine wpAnyH_take (i := 0) (oi := _) (v := .pointer (some ⟨c, 0, none⟩)) rfl (by kernel_rfl) (by kernel_rfl) (by kernel_rfl) (fun _ _ _ h => h) (Or.inl ⟨by rfl, by intro w hSw; go_simp⟩) hHeld ?_
  change wpAnyH _ _ _ _ _ _ _ (Act.put _ (some 27) _) _
  simp only [Act.put, List.setIfInBounds_toArray, List.set_cons_zero, List.set_cons_succ]
  refine wpAnyH_take (i := 1) (oi := _) (v := .pointer (some ⟨c, 0, none⟩)) rfl (by kernel_rfl) (by kernel_rfl) (by kernel_rfl) (fun _ _ _ h => h) (Or.inl ⟨by rfl, by intro w hSw; go_simp⟩) hHeld ?_
  change wpAnyH _ _ _ _ _ _ _ (Act.put _ (some 28) _) _
  simp only [Act.put, List.setIfInBounds_toArray, List.set_cons_zero, List.set_cons_succ]
  refine wpAnyH_take (i := 2) (oi := _) (v := .pointer (some ⟨c, 0, none⟩)) rfl (by kernel_rfl) (by kernel_rfl) (by kernel_rfl) (fun _ _ _ h => h) (Or.inl ⟨by rfl, by intro w hSw; go_simp⟩) hHeld ?_
  change wpAnyH _ _ _ _ _ _ _ (Act.put _ (some 29) _) _
  simp only [Act.put, List.setIfInBounds_toArray, List.set_cons_zero, List.set_cons_succ]
  refine wpAnyH_take (i := 3) (oi := _) (v := .pointer (some ⟨d, 0, none⟩)) rfl (by kernel_rfl) (by kernel_rfl) (by kernel_rfl) (fun _ _ _ h => h) (Or.inl ⟨by rfl, by intro w hSw; have h0 := hSw.c0; have h2 := hSw.c2; go_simp⟩) hHeld ?_
  change wpAnyH _ _ _ _ _ _ _ (Act.put _ (some 30) _) _
  simp only [Act.put, List.setIfInBounds_toArray, List.set_cons_zero, List.set_cons_succ]
  refine wpAnyH_take (i := 5) (oi := _) (v := .int .i64 (n : Int)) rfl (by kernel_rfl) (by kernel_rfl) (by kernel_rfl) (fun _ _ _ h => h) (Or.inl ⟨by rfl, by intro w hSw; go_simp⟩) hHeld ?_
  change wpAnyH _ _ _ _ _ _ _ (Act.put _ (some 32) _) _
  simp only [Act.put, List.setIfInBounds_toArray, List.set_cons_zero, List.set_cons_succ]
  refine wpAnyH_take (i := 7) (oi := _) (v := .pointer (some ⟨c, 0, none⟩)) rfl (by kernel_rfl) (by kernel_rfl) (by kernel_rfl) (fun _ _ _ h => h) (Or.inl ⟨by rfl, by intro w hSw; go_simp⟩) hHeld ?_
  change wpAnyH _ _ _ _ _ _ _ (Act.put _ (some 34) _) _
  simp only [Act.put, List.setIfInBounds_toArray, List.set_cons_zero, List.set_cons_succ]
  refine wpAnyH_take (i := 8) (oi := _) (v := .pointer (some ⟨c, 0, none⟩)) rfl (by kernel_rfl) (by kernel_rfl) (by kernel_rfl) (fun _ _ _ h => h) (Or.inl ⟨by rfl, by intro w hSw; go_simp⟩) hHeld ?_
  change wpAnyH _ _ _ _ _ _ _ (Act.put _ (some 35) _) _
  simp only [Act.put, List.setIfInBounds_toArray, List.set_cons_zero, List.set_cons_succ]
  refine wpAnyH_take (i := 9) (oi := _) (v := .pointer (some ⟨c, 0, none⟩)) rfl (by kernel_rfl) (by kernel_rfl) (by kernel_rfl) (fun _ _ _ h => h) (Or.inl ⟨by rfl, by intro w hSw; go_simp⟩) hHeld ?_
  change wpAnyH _ _ _ _ _ _ _ (Act.put _ (some 36) _) _
  simp only [Act.put, List.setIfInBounds_toArray, List.set_cons_zero, List.set_cons_succ]
  refine wpAnyH_take (i := 10) (oi := _) (v := .pointer (some ⟨d, 0, none⟩)) rfl (by kernel_rfl) (by kernel_rfl) (by kernel_rfl) (fun _ _ _ h => h) (Or.inl ⟨by rfl, by intro w hSw; have h0 := hSw.c0; have h2 := hSw.c2; go_simp⟩) hHeld ?_
  change wpAnyH _ _ _ _ _ _ _ (Act.put _ (some 37) _) _
  simp only [Act.put, List.setIfInBounds_toArray, List.set_cons_zero, List.set_cons_succ]
  refine wpAnyH_ready (rs := [4]) (by kernel_rfl) (by simp) ?_
  refine AllReadyH.cons (o := _) rfl (fun K hK => ?_) AllReadyH.nil
  go_simp
  go_at_call 37
  refine (q_used _ HC2.out.q).mono ?_
  rintro e w9 ⟨rfl, hw9⟩
  rw [hw9]
  clear hw9 w9
  go_wp2_with fail
  refine hK.out _ _ hHeld (fun hHeld1 => ?_)
  clear hK K hHeld
  have hHeld := hHeld1
  clear hHeld1
  have hw1 : IntKind.i64.wrap ((s.tk.length : Int) + (n : Int)) = (s.tk.length : Int) + n := by rw [IntKind.wrap_i64]; omega
  refine wpAnyH_take (i := 6) (oi := _) (v := .int .i64 ((s.tk.length : Int) + n)) rfl (by kernel_rfl) (by kernel_rfl) (by kernel_rfl) (fun _ _ _ h => h) (Or.inl ⟨by rfl, by intro w hSw; go_simp⟩) hHeld ?_
  change wpAnyH _ _ _ _ _ _ _ (Act.put _ (some 33) _) _
  simp only [Act.put, List.setIfInBounds_toArray, List.set_cons_zero, List.set_cons_succ]
  refine wpAnyH_ready (rs := [11]) (by kernel_rfl) (by simp) ?_
  refine AllReadyH.cons (o := _) rfl (fun K hK => ?_) AllReadyH.nil
  go_simp
  go_at_call 38
  refine (q_room _ HC2.out.q).mono ?_
  rintro e w9 ⟨rfl, hw9⟩
  rw [hw9]
  clear hw9 w9
  go_wp2_with fail
  refine hK.out _ _ hHeld (fun hHeld1 => ?_)
  clear hK K hHeld
  have hHeld := hHeld1
  clear hHeld1
  refine wpAnyH_take (i := 12) (oi := _) (v := .bool false) rfl (by kernel_rfl) (by kernel_rfl) (by kernel_rfl) (fun _ _ _ h => h) (Or.inl ⟨by rfl, by intro w hSw; go_simp⟩) hHeld ?_
  change wpAnyH _ _ _ _ _ _ _ (Act.put _ (some 39) _) _
  simp only [Act.put, List.setIfInBounds_toArray, List.set_cons_zero, List.set_cons_succ]
  refine wpAnyH_take (i := 13) (oi := _) (v := .bool false) rfl (by kernel_rfl) (by kernel_rfl) (by kernel_rfl) (fun _ _ _ h => h) (Or.inl ⟨by rfl, by intro w hSw; go_simp⟩) hHeld ?_
  change wpAnyH _ _ _ _ _ _ _ (Act.put _ (some 40) _) _
  simp only [Act.put, List.setIfInBounds_toArray, List.set_cons_zero, List.set_cons_succ]
  refine wpAnyH_take (i := 14) (oi := _) (v := .int .i64 nx) rfl (by kernel_rfl) (by kernel_rfl) (by kernel_rfl) (fun _ _ _ h => h) (Or.inl ⟨by rfl, by intro w hSw; go_simp⟩) hHeld ?_
  change wpAnyH _ _ _ _ _ _ _ (Act.put _ (some 41) _) _
  simp only [Act.put, List.setIfInBounds_toArray, List.set_cons_zero, List.set_cons_succ]
  refine wpAnyH_take (i := 15) (oi := _) (v := .int .i64 (n : Int)) rfl (by kernel_rfl) (by kernel_rfl) (by kernel_rfl) (fun _ _ _ h => h) (Or.inl ⟨by rfl, by intro w hSw; go_simp⟩) hHeld ?_
  change wpAnyH _ _ _ _ _ _ _ (Act.put _ (some 42) _) _
  simp only [Act.put, List.setIfInBounds_toArray, List.set_cons_zero, List.set_cons_succ]
  have hw2 : IntKind.i64.wrap (nx + (n : Int)) = nx + n := by rw [IntKind.wrap_i64]; omega
  refine wpAnyH_take (i := 16) (oi := _) (v := .int .i64 (nx + n)) rfl (by kernel_rfl) (by kernel_rfl) (by kernel_rfl) (fun _ _ _ h => h) (Or.inl ⟨by rfl, by intro w hSw; go_simp⟩) hHeld ?_
  change wpAnyH _ _ _ _ _ _ _ (Act.put _ (some 43) _) _
  simp only [Act.put, List.setIfInBounds_toArray, List.set_cons_zero, List.set_cons_succ]
  have hw3 : IntKind.i64.wrap (nx + (n : Int) - 1) = nx + n - 1 := by rw [IntKind.wrap_i64]; omega
  refine wpAnyH_take (i := 17) (oi := _) (v := .int .i64 (nx + n - 1)) rfl (by kernel_rfl) (by kernel_rfl) (by kernel_rfl) (fun _ _ _ h => h) (Or.inl ⟨by rfl, by intro w hSw; go_simp⟩) hHeld ?_
  change wpAnyH _ _ _ _ _ _ _ (Act.put _ (some 44) _) _
  simp only [Act.put, List.setIfInBounds_toArray, List.set_cons_zero, List.set_cons_succ]
  refine wpAnyH_take (i := 18) (oi := _) (v := .bool false) rfl (by kernel_rfl) (by kernel_rfl) (by kernel_rfl) (fun _ _ _ h => h) (Or.inl ⟨by rfl, by intro w hSw; go_simp⟩) hHeld ?_
  change wpAnyH _ _ _ _ _ _ _ (Act.put _ (some 45) _) _
  simp only [Act.put, List.setIfInBounds_toArray, List.set_cons_zero, List.set_cons_succ]
  refine wpAnyH_take (i := 19) (oi := _) (v := .bool false) rfl (by kernel_rfl) (by kernel_rfl) (by kernel_rfl) (fun _ _ _ h => h) (Or.inl ⟨by rfl, by intro w hSw; go_simp⟩) hHeld ?_
  change wpAnyH _ _ _ _ _ _ _ (Act.put _ (some 46) _) _
  simp only [Act.put, List.setIfInBounds_toArray, List.set_cons_zero, List.set_cons_succ]
  refine wpAnyH_done (by kernel_rfl) ?_ _
  clear hHeld
  go_wp2_with (first | (go_at_call 39; refine (put_ok nx _ b n _ HC2.out (fun W9 u9 hx => HV.out W9 u9 (HX2.out.trans hx)) HBY.out hb1 HN.out hx0 (by omega) HR.out hw hs).mono ?_; rintro e V3 ⟨u3, rfl, hc3, hx3⟩; have HC3 := hide hc3; have HX3 := hide ((Cx.of HX2.out).trans hx3); clear hc3 hx3))
  go_ret2
  exact ⟨u3, rfl, HC3.out, HX3.out⟩
set_option maxRecDepth 100000 in
set_option maxHeartbeats 8000000 in
theorem next_any {c d bS bT : Nat} {u : Value} {s : Dst} {base nx sp : Int} (w : World) (h : Chn w c d bS bT u s base nx sp) : Calls Tryz.prog 16 #[.pointer (some ⟨c, 0, none⟩)] w fun e w' => e = .returned (.int .i64 nx) ∧ w' = w := by
  have x2 := h.x.c2
  go_enter Tryz.func16, Tryz.ntmps16
  go_wp2
  go_ret
  exact ⟨rfl, rfl⟩
set_option maxRecDepth 100000 in
set_option maxHeartbeats 8000000 in
theorem stampC_any {c d bS bT : Nat} {u : Value} {s : Dst} {base nx sp : Int} (w : World) (h : Chn w c d bS bT u s base nx sp) : Calls Tryz.prog 29 #[.pointer (some ⟨c, 0, none⟩)] w fun e w' => e = .returned (.int .i64 sp) ∧ w' = w := by
  have x3 := h.x.c3
  go_enter Tryz.func29, Tryz.ntmps29
  go_wp2
  go_ret
  exact ⟨rfl, rfl⟩
set_option maxRecDepth 100000 in
set_option maxHeartbeats 8000000 in
theorem syncC_any {c d bS bT : Nat} {u : Value} {s : Dst} {base nx sp : Int} (w : World) (h : Chn w c d bS bT u s base nx sp) (hw : s.wt < 30000) : Calls Tryz.prog 13 #[.pointer (some ⟨c, 0, none⟩)] w fun e w' => e = .returned (.tuple #[]) ∧ Chn w' c d bS bT (.slice none 0 0) (syS s) base nx sp ∧ Dx d bS bT u w w' (.slice none 0 0) := by
  have HH := hide h
  have x0 := h.x.c0
  clear h
  go_enter Tryz.func13, Tryz.ntmps13
  go_wp2_with (first | (go_at_call 27; refine (q_sync _ HH.out.q hw).mono ?_; rintro e W1 ⟨rfl, hq1, hx1⟩; have HC1 : Hid (Chn W1 c d bS bT (.slice none 0 0) (syS s) base nx sp) := hide ⟨hq1, hx1.b4 HH.out.no HH.out.x, hx1.own HH.out.x.lt HH.out.no⟩; have HX1 := hide hx1; clear hq1 hx1))
  exact bodyPost_end (v := .tuple #[]) (by simp [results, Tryz.results13]) rfl ⟨rfl, HC1.out, HX1.out⟩
end Go.Proofs.YtoamghncncalgaaGreatDoor
