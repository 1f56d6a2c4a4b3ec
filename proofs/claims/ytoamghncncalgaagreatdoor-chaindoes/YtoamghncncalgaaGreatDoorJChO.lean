/-
  A CHAIN IS OPENED (chain.Open): what is wrong, or the records that stand one behind the other, where none stands, and the next stamp. Condition: fewer than thirty thousand blocks and writes.
-/
import Derived.Test.YtoamghncncalgaaGreatDoorJChH
namespace Go.Proofs.YtoamghncncalgaaGreatDoor
open Go.RowKit

/-- Bytes in a block of memory of which P holds. -/
def Slp (P : Nat → Prop) (W : World) (v : Value) (l : List Int) : Prop := (∃ ad k, v = .slice ad 0 k ∧ l = []) ∨ ∃ b o k, v = .slice (some ⟨b, o, none⟩) l.length k ∧ l.length ≤ k ∧ 0 < l.length ∧ P b ∧ ∀ i (h : i < l.length), W.cell? ⟨b, o + i, none⟩ = some (bc l[i])
theorem Slp.sl {P : Nat → Prop} {W : World} {v : Value} {l : List Int} (h : Slp P W v l) : Sl bc W v l := by
  rcases h with ⟨ad, k, e, rfl⟩ | ⟨b, o, k, e, h1, _, _, h3⟩
  · exact .inl ⟨ad, k, rfl, e⟩
  · exact .inr ⟨b, o, k, e, h1, h3⟩
theorem Slp.form {P : Nat → Prop} {W : World} {v : Value} {l : List Int} (h : Slp P W v l) : ∃ ad k, v = .slice ad l.length k := h.sl.form
theorem Slp.keep {P Q : Nat → Prop} {W W' : World} {v : Value} {l : List Int} (h : Slp P W v l) (hP : ∀ b, P b → b < W.heap.size → Q b) (hk : ∀ b, P b → b < W.heap.size → W'.heap[b]? = W.heap[b]?) : Slp Q W' v l := by
  rcases h with h | ⟨b, o, k, e, h1, h0, hp, h3⟩
  · exact .inl h
  · have hb : b < W.heap.size := cell_block (h3 0 h0)
    exact .inr ⟨b, o, k, e, h1, h0, hP b hp hb, fun i hi => (World.cell?_of_block (hk b hp hb)).trans (h3 i hi)⟩
theorem Slp.below {P : Nat → Prop} {W W' : World} {v : Value} {l : List Int} (h : Slp P W v l) (hb : Below W.heap.size W W') : Slp P W' v l := h.keep (fun _ p _ => p) (fun b _ hk => hb.block b hk)
theorem slp_of {n0 : Nat} {W : World} {v : Value} {l : List Int} (h : Sl bc W v l) (hf : Fr n0 v) : Slp (fun b => n0 ≤ b) W v l := by
  rcases h with ⟨ad, k, rfl, e⟩ | ⟨b, o, k, e, h1, h3⟩
  · exact .inl ⟨ad, k, e, rfl⟩
  · by_cases h0 : 0 < l.length
    · exact .inr ⟨b, o, k, e, h1, h0, hf _ _ _ e h0, h3⟩
    · obtain rfl : l = [] := List.length_eq_zero_iff.1 (by omega)
      exact .inl ⟨_, _, e, rfl⟩
/-- A link: where, the bytes' slice, the bytes. -/
abbrev Lc := Int × Value × List Int
def lkc (q : Lc) : List Value := [.int .i64 q.1, q.2.1]
def lkO (qs : List Lc) : List Lk := qs.map fun q => (q.1, q.2.2)
structure Lw (W : World) (B : Nat) (v : Value) (qs : List Lc) : Prop where
  own : W.ownsRow B 74 2 v qs.length (qs.flatMap lkc)
  mem : ∀ q ∈ qs, Slp (fun b => v.ownBlock ≠ some b) W q.2.1 q.2.2
theorem lw_nil (W : World) (B : Nat) : Lw W B (.slice none 0 0) [] := ⟨World.ownsRow_nil _ _ _ _, fun q hq => by simp at hq⟩
theorem Lw.below {W W' : World} {B : Nat} {v : Value} {qs : List Lc} (h : Lw W B v qs) (hb : Below W.heap.size W W') : Lw W' B v qs := ⟨owns_below h.own hb, fun q hq => (h.mem q hq).below hb⟩
theorem Lw.form {W : World} {B : Nat} {v : Value} {qs : List Lc} (h : Lw W B v qs) : ∃ a k, v = .slice a qs.length k := by
  rcases h.own.2 with ⟨e, h0⟩ | ⟨g, cap, cur, e, _⟩
  · rw [e, h0]; exact ⟨_, _, rfl⟩
  · exact ⟨_, _, e⟩
/-- Another block is written. -/
theorem Lw.setC {W : World} {B : Nat} {v : Value} {qs : List Lc} (h : Lw W B v qs) {g : Nat} (hg : g < B) (hm : ∀ q ∈ qs, Slp (fun b => v.ownBlock ≠ some b ∧ g < b) W q.2.1 q.2.2) (i : Nat) (x : Value) : Lw (W.setCell ⟨g, i, none⟩ x) B v qs :=
  ⟨⟨h.own.1, h.own.2.imp id (fun ⟨k, cap, cur, a1, a2, a3, a4⟩ => ⟨k, cap, cur, a1, a2, (Below.heap_setCell _ _ _ _ (by simp; omega)).trans a3, a4⟩)⟩, fun q hq => (hm q hq).keep (fun _ p _ => p.1) (fun b p _ => Below.heap_setCell _ _ _ _ (Nat.ne_of_gt p.2))⟩
theorem infoLk : (Tryz.prog.info? 74).map (fun i => (i.zero, i.size, i.bytes)) = some (some (.agg #[.int .i64 0, .slice none 0 0]), 2, 32) := by kernel_rfl
theorem wpList_appLk {ops : Array Oper} {rest : List Oper} {o : Oper} {a : Act} {Q : Exit → Act → World → Prop} (w : World) (hg : o.guard = none) (y z : Operand) (ho : o.op = .call { callee := .builtin .append, args := #[y, z], argTypes := #[31, 31] }) (B : Nat) (v : Value) (qs : List Lc) (hy : a.eval y = v) (hown : Lw w B v qs) (hB : B ≤ w.heap.size) (ad : Addr) (c : Nat) (q : Lc) (hz : a.eval z = .slice (some ad) 1 c) (hnews : ∀ j u, (lkc q)[j]? = some u → w.cell? (ad.add j) = some u) (hone : ∃ a n k, q.2.1 = .slice a n k) (hq : Slp (fun b => v.ownBlock ≠ some b) w q.2.1 q.2.2) (hn : qs.length + 1 ≤ 2000000000)
    (h : ∀ v' w', Lw w' B v' (qs ++ [q]) → w.grownBy w' v.ownBlock → (∀ k, v.ownBlock = some k → B ≤ k) → wpList Tryz.prog ops Q rest (a.put o.dst v') w') : wpList Tryz.prog ops Q (o :: rest) a w := by
  refine wpList_plain hg fun K hK => ?_
  obtain ⟨i0, hi, hz0, hz1, hz2⟩ := info_parts infoLk
  obtain ⟨v', w', hrun, ho', hg', _, hk⟩ := run_append_own_at (P := Tryz.prog) w B 31 o.type 74 i0 (.agg #[.int .i64 0, .slice none 0 0]) 2 32 Tryz.underlying31 hi hz0 hz1 hz2 rfl (by decide) v qs.length (qs.flatMap lkc) hown.own ad 1 c (lkc q) rfl hnews (fun u hu => by
    obtain ⟨a9, n9, k9, e9⟩ := hone
    simp only [lkc, List.mem_cons, List.not_mem_nil, or_false] at hu
    rcases hu with rfl | rfl
    · rfl
    · rw [e9]; rfl) (by unfold maxLen; omega) (by omega) hB
  unfold Oper.wp
  simp [execOp, ho, resolve, invoke, builtin, hy, hz, hrun, Result.andThen]
  refine hK _ _ (h v' w' ⟨?_, ?_⟩ hg' (fun k e => (hown.own.lt k e).1))
  · rw [List.length_append, List.flatMap_append]
    simpa using ho'
  · have step : ∀ p : Lc, Slp (fun b => v.ownBlock ≠ some b) w p.2.1 p.2.2 → Slp (fun b => v'.ownBlock ≠ some b) w' p.2.1 p.2.2 := fun p hp => hp.keep (fun b h1 h2 => by
      rcases hk with e | e
      · rw [e]; exact h1
      · rw [e]; intro e2; cases e2; omega) (fun b h1 h2 => hg'.block b h2 (fun e => h1 e.symm))
    intro p hp
    rcases List.mem_append.1 hp with e | e
    · exact step p (hown.mem p e)
    · simp at e; rw [e]; exact step q hq
theorem recG_bd {t : Cs} (hb : ∀ q, Blk (vw t q)) : ∀ (n : Nat) (a : Int) (p : Pc) (b : List Int) (r : List Int × Int), p.st ≤ 1152921504606846976 → recG t n a p b = some r → r.2 ≤ 1152921504606846976
  | 0, a, p, b, r, hp, h => by simp only [recG, Option.some.injEq] at h; rw [← h]; exact hp
  | n + 1, a, p, b, r, hp, h => by
    unfold recG at h
    split at h
    · split at h
      · cases h
      · exact recG_bd hb n _ _ _ r (st_bd (hb a)).2 h
    · simp only [Option.some.injEq] at h; rw [← h]; exact hp
theorem recS_bd {t : Cs} (hb : ∀ q, Blk (vw t q)) {a last : Int} {b : List Int} {st : Int} (h : recS t a last = some (b, st)) : st ≤ 1152921504606846976 ∧ (b.length : Int) ≤ 16448 := by
  have hl := recS_len hb h
  have h' := h
  unfold recS at h'
  split at h'
  · cases h'
  · rename_i hh
    exact ⟨recG_bd hb _ _ _ _ _ (st_bd (hb a)).2 h', by omega⟩
theorem blks_le {n : Int} (h : n ≤ 16448) : blks n ≤ 360 := by unfold blks; split <;> omega
theorem slp_and {P Q : Nat → Prop} {W W' : World} {v : Value} {l : List Int} (h : Slp P W v l) (k : Slp Q W' v l) : Slp (fun b => P b ∧ Q b) W v l := by
  rcases h with h | ⟨b, o, n, e, h1, h0, hp, h3⟩
  · exact .inl h
  · rcases k with ⟨ad, m, e2, e3⟩ | ⟨b2, o2, n2, e2, _, _, hq, _⟩
    · rw [e3] at h0; simp at h0
    · rw [e] at e2; cases e2; exact .inr ⟨b, o, n, e, h1, h0, ⟨hp, hq⟩, h3⟩
/-- Where the loop of Open stands. -/
structure Ol (w W : World) (c d bS bT : Nat) (u : Value) (s : Dst) (base frm : Int) (vl : Value) (qs : List Lc) (a last : Int) : Prop where
  ch : Chn W c d bS bT u s base a last
  lw : Lw W (c + 1) vl qs
  lm : ∀ q ∈ qs, Slp (fun b => vl.ownBlock ≠ some b ∧ c < b) W q.2.1 q.2.2
  be : Below w.heap.size w W
  cw : w.heap.size ≤ c
  op : ∀ L x y, Opn s.tk a last L x y → Opn s.tk frm 0 (lkO qs ++ L) x y
  an : frm ≤ a ∧ a ≤ 1073742200
  la : 0 ≤ last ∧ last ≤ 1152921504606846976
  ql : (qs.length : Int) ≤ a - frm
/-- What was read of the next record. -/
def Rs (W : World) (vl : Value) (c : Nat) (r : Option (List Int × Int)) (vb lv ok : Value) : Prop := match r with
  | none => ok = .bool false
  | some q => ok = .bool true ∧ lv = .int .i64 q.2 ∧ (∃ ad n k, vb = .slice ad n k) ∧ Slp (fun b => vl.ownBlock ≠ some b ∧ c < b) W vb q.1
theorem rs_of {w W : World} {e : Ending} {r : Option (List Int × Int)} {vl : Value} {c : Nat} (h : RecP w W e r) (hn : ∀ b, w.heap.size ≤ b → vl.ownBlock ≠ some b ∧ c < b) : ∃ vb lv ok, e = .returned (.tuple #[vb, lv, ok]) ∧ Rs W vl c r vb lv ok := by
  cases r with
  | none => exact ⟨_, _, _, h, rfl⟩
  | some q =>
    obtain ⟨ad, n, k, e1, h1, h2⟩ := h
    exact ⟨_, _, _, e1, rfl, rfl, ⟨ad, n, k, rfl⟩, (slp_of h1 h2).keep (fun b hb _ => hn b hb) (fun _ _ _ => rfl)⟩
def opFrom : ByteArray := ⟨#[102, 114, 111, 109]⟩
set_option maxRecDepth 100000 in
set_option maxHeartbeats 8000000 in
theorem open_nil (base frm : Int) (w : World) : Calls Tryz.prog 8 #[.pointer none, .int .i64 base, .int .i64 frm] w fun e w' => e = .returned (.tuple #[.pointer none, .slice none 0 0, ev (some ([(opFrom, frm)], 2))]) ∧ w' = w := by
  go_enter Tryz.func8, Tryz.ntmps8
  go_wp2_with (first | (go_at_call 32; refine (new_any _ _ _ _).mono ?_; rintro e w9 ⟨rfl, hw9⟩; rw [hw9]; clear hw9 w9))
  go_ret3
  exact ⟨rfl, rfl⟩
set_option maxRecDepth 100000 in
set_option maxHeartbeats 8000000 in
theorem open_ok {d bS bT : Nat} {u : Value} {s : Dst} (base frm : Int) (w : World) (h : Dq w d bS bT u s) (hb : 0 ≤ base) (hf : base ≤ frm) (hm : frm ≤ 1073741824) (hw : s.wt < 30000) : Calls Tryz.prog 8 #[.pointer (some ⟨d, 0, none⟩), .int .i64 base, .int .i64 frm] w fun e w' => ∃ c vl qs a last, e = .returned (.tuple #[.pointer (some ⟨c, 0, none⟩), vl, .nilIface]) ∧ Chn w' c d bS bT u s base a (max last (hiS base s.cs) + 1) ∧ Lw w' (c + 1) vl qs ∧ (∀ q ∈ qs, Slp (fun b => vl.ownBlock ≠ some b ∧ c < b) w' q.2.1 q.2.2) ∧ Opn s.tk frm 0 (lkO qs) a last ∧ frm ≤ a ∧ a ≤ 1073742200 ∧ w.heap.size ≤ c ∧ Below w.heap.size w w' := by
  have HH := hide h
  have HBK : Hid (∀ q, Blk (vw s.tk q)) := hide (fun q => vw_blk h.ok.tb q)
  have HOWN : Hid (∀ k, Own d bS bT u k → k < w.heap.size) := hide (fun k e => h.dk.lt e)
  clear h
  have HC0 : Hid (Chn (w.alloc (.cells #[.pointer (some ⟨d, 0, none⟩), .int .i64 base, .int .i64 frm, .int .i64 0] 83)) w.heap.size d bS bT u s base frm 0) := hide ⟨HH.out.below ((Below.refl _ _).alloc (Nat.le_refl _) _), b4_new _ _ _ _ _ _, fun e => by have := HH.out.dk.lt e; omega⟩
  have HB0 := hide ((Below.refl w.heap.size w).alloc (Nat.le_refl _) (.cells #[.pointer (some ⟨d, 0, none⟩), .int .i64 base, .int .i64 frm, .int .i64 0] 83))
  go_enter Tryz.func8, Tryz.ntmps8
  go_upto_region 5 with fail
  generalize w.alloc (.cells #[.pointer (some ⟨d, 0, none⟩), .int .i64 base, .int .i64 frm, .int .i64 0] 83) = W0 at HC0 HB0 ⊢
  obtain ⟨c, hc⟩ : ∃ c, c = w.heap.size := ⟨_, rfl⟩
  rw [← hc] at HC0 ⊢
  have HCW : Hid (w.heap.size ≤ c) := hide (by omega)
  clear hc HH
  go_wp2_with (first | (go_at_call 33; refine (record_any 0 _ HC0.out ⟨by omega, by omega⟩).mono ?_; rintro e W1 ⟨hr1, hb1⟩; obtain ⟨rb, rl, rk, rfl, hrs⟩ : ∃ vb lv ok, e = .returned (.tuple #[vb, lv, ok]) ∧ Rs W1 (.slice none 0 0) c (recS s.tk frm 0) vb lv ok := rs_of hr1 (fun b h1 => ⟨by simp [Value.ownBlock], by have := HC0.out.x.lt; omega⟩); have HO1 : Hid (Ol w W1 c d bS bT u s base frm (.slice none 0 0) [] frm 0) := hide ⟨HC0.out.below hb1, lw_nil _ _, (fun q hq => by simp at hq), bt HB0.out hb1, HCW.out, (fun L x y h => h), ⟨Int.le_refl _, by omega⟩, by omega, by simp⟩; have HS1 := hide hrs; clear hr1 hb1 hrs))
  clear HC0 HB0
  go_loopw [10, 11, 12, 13] (fun vl vb lv ok W => ∃ (qs : List Lc) (a last : Int), Ol w W c d bS bT u s base frm vl qs a last ∧ Rs W vl c (recS s.tk a last) vb lv ok) (fun _ _ _ _ W => (1073742300 - iv ((W.cell? ⟨c, 2, none⟩).getD undef)).toNat)
  case atStart => exact ⟨[], frm, 0, HO1.out, HS1.out⟩
  case round =>
    obtain ⟨qs, a, last, hol, hrs⟩ := hrel
    have HO := hide hol
    obtain ⟨la, lk, rfl⟩ := hol.lw.form
    clear HO1 HS1
    have hmeas : iv ((wr.cell? ⟨c, 2, none⟩).getD undef) = a := by rw [hol.ch.x.c2]; rfl
    have HME := hide hmeas
    clear hmeas hol
    have han := HO.out.an
    have hla := HO.out.la
    have hql := HO.out.ql
    cases hrec : recS s.tk a last with
    | none =>
      rw [hrec] at hrs
      have hok : u13 = .bool false := hrs
      subst hok
      have HRN := hide hrec
      clear hrec hrs
      have HOP : Hid (Opn s.tk frm 0 (lkO qs) a last) := hide (by have := HO.out.op [] a last (.stop HRN.out); simpa using this)
      have HCW2 := hide HO.out.cw
      go_upto_region 12 with fail
      have hdw : Below wr.heap.size wr wr.drew := (Below.refl _ _).drew
      refine wp_region_held_drew (S := fun _ => True) (by kernel_rfl) trivial (fun hHeld => ?_)
      have HC2 := hide (HO.out.ch.below hdw)
      have HL2 := hide (HO.out.lw.below hdw)
      have HM2 : Hid (∀ q ∈ qs, Slp (fun b => (Value.slice la qs.length lk).ownBlock ≠ some b ∧ c < b) wr.drew q.2.1 q.2.2) := hide (fun q hq => (HO.out.lm q hq).below hdw)
      have HB2 := hide (bt HO.out.be hdw)
      generalize wr.drew = W2 at HC2 HL2 HM2 HB2 hHeld ⊢
      clear hdw
      clear HO
      refine wpAnyH_take (i := 0) (oi := _) (v := .pointer (some ⟨c, 0, none⟩)) rfl (by kernel_rfl) (by kernel_rfl) (by kernel_rfl) (fun _ _ _ h => h) (Or.inl ⟨by rfl, by intro w hSw; go_simp⟩) hHeld ?_
      change wpAnyH _ _ _ _ _ _ _ (Act.put _ (some 79) _) _
      simp only [Act.put, List.setIfInBounds_toArray, List.set_cons_zero, List.set_cons_succ]
      refine wpAnyH_take (i := 1) (oi := _) (v := .pointer (some ⟨c, 0, none⟩)) rfl (by kernel_rfl) (by kernel_rfl) (by kernel_rfl) (fun _ _ _ h => h) (Or.inl ⟨by rfl, by intro w hSw; go_simp⟩) hHeld ?_
      change wpAnyH _ _ _ _ _ _ _ (Act.put _ (some 80) _) _
      simp only [Act.put, List.setIfInBounds_toArray, List.set_cons_zero, List.set_cons_succ]
      refine wpAnyH_take (i := 2) (oi := _) (v := .pointer (some ⟨c, 0, none⟩)) rfl (by kernel_rfl) (by kernel_rfl) (by kernel_rfl) (fun _ _ _ h => h) (Or.inl ⟨by rfl, by intro w hSw; go_simp⟩) hHeld ?_
      change wpAnyH _ _ _ _ _ _ _ (Act.put _ (some 81) _) _
      simp only [Act.put, List.setIfInBounds_toArray, List.set_cons_zero, List.set_cons_succ]
      refine wpAnyH_take (i := 3) (oi := _) (v := .pointer (some ⟨c, 3, none⟩)) rfl (by kernel_rfl) (by kernel_rfl) (by kernel_rfl) (fun _ _ _ h => h) (Or.inl ⟨by rfl, by intro w hSw; go_simp⟩) hHeld ?_
      change wpAnyH _ _ _ _ _ _ _ (Act.put _ (some 82) _) _
      simp only [Act.put, List.setIfInBounds_toArray, List.set_cons_zero, List.set_cons_succ]
      refine wpAnyH_take (i := 5) (oi := _) (v := .pointer (some ⟨c, 0, none⟩)) rfl (by kernel_rfl) (by kernel_rfl) (by kernel_rfl) (fun _ _ _ h => h) (Or.inl ⟨by rfl, by intro w hSw; go_simp⟩) hHeld ?_
      change wpAnyH _ _ _ _ _ _ _ (Act.put _ (some 84) _) _
      simp only [Act.put, List.setIfInBounds_toArray, List.set_cons_zero, List.set_cons_succ]
      refine wpAnyH_ready (rs := [4, 6]) (by kernel_rfl) (by simp) ?_
      refine AllReadyH.cons (o := _) rfl (fun K hK => ?_) (AllReadyH.cons (o := _) rfl (fun K hK => ?_) AllReadyH.nil)
      · have x3 := HC2.out.x.c3
        go_simp
        clear x3
        refine hK.out _ _ trivial (fun hHeld1 => ?_)
        clear hK K hHeld
        have hHeld := hHeld1
        clear hHeld1
        refine wpAnyH_ready (rs := [6]) (by kernel_rfl) (by simp) ?_
        refine AllReadyH.cons (o := _) rfl (fun K hK => ?_) AllReadyH.nil
        go_simp
        go_at_call 34
        refine (highest_any _ HC2.out hw).mono ?_
        rintro e W3 ⟨rfl, hb3⟩
        go_wp2_with fail
        refine hK.out _ _ trivial (fun hHeld1 => ?_)
        clear hK K hHeld
        have hHeld := hHeld1
        clear hHeld1
        have HC3 := hide (HC2.out.below hb3)
        have HL3 := hide (HL2.out.below hb3)
        have HM3 : Hid (∀ q ∈ qs, Slp (fun b => (Value.slice la qs.length lk).ownBlock ≠ some b ∧ c < b) W3 q.2.1 q.2.2) := hide (fun q hq => (HM2.out q hq).below hb3)
        have HB3 := hide (bt HB2.out hb3)
        have HHB := hide (hiS_bd (base := base) (l := s.cs) (fun p hp => (HC3.out.q.ok.cb p hp).2))
        have hhb := HHB.out
        clear hb3 HC2 HL2 HM2 HB2
        generalize hhi : hiS base s.cs = hi at HHB hhb ⊢
        have HHI := hide hhi
        clear hhi
        obtain ⟨mx, hmx⟩ : ∃ mx, mx = max last hi := ⟨_, rfl⟩
        have HMX := hide hmx
        have hmb : 0 ≤ mx ∧ mx ≤ 1152921504606846976 := by omega
        have hif : max last hi = mx := hmx.symm
        have hw1 : IntKind.i64.wrap (mx + 1) = mx + 1 := (by rw [IntKind.wrap_i64]; omega)
        clear hmx hhb
        refine wpAnyH_take (i := 7) (oi := _) (v := .int .i64 mx) rfl (by kernel_rfl) (by kernel_rfl) (by kernel_rfl) (fun _ _ _ h => h) (Or.inl ⟨by rfl, by intro w hSw; go_simp⟩) hHeld ?_
        change wpAnyH _ _ _ _ _ _ _ (Act.put _ (some 86) _) _
        simp only [Act.put, List.setIfInBounds_toArray, List.set_cons_zero, List.set_cons_succ]
        clear hif
        refine wpAnyH_take (i := 8) (oi := _) (v := .int .i64 (mx + 1)) rfl (by kernel_rfl) (by kernel_rfl) (by kernel_rfl) (fun _ _ _ h => h) (Or.inl ⟨by rfl, by intro w hSw; go_simp⟩) hHeld ?_
        change wpAnyH _ _ _ _ _ _ _ (Act.put _ (some 87) _) _
        simp only [Act.put, List.setIfInBounds_toArray, List.set_cons_zero, List.set_cons_succ]
        clear hw1
        refine wpAnyH_take (i := 9) (oi := _) (v := .pointer (some ⟨c, 0, none⟩)) rfl (by kernel_rfl) (by kernel_rfl) (by kernel_rfl) (fun _ _ _ h => h) (Or.inl ⟨by rfl, by intro w hSw; go_simp⟩) hHeld ?_
        change wpAnyH _ _ _ _ _ _ _ (Act.put _ (some 88) _) _
        simp only [Act.put, List.setIfInBounds_toArray, List.set_cons_zero, List.set_cons_succ]
        refine wpAnyH_take (i := 10) (oi := _) (v := .pointer (some ⟨c, 3, none⟩)) rfl (by kernel_rfl) (by kernel_rfl) (by kernel_rfl) (fun _ _ _ h => h) (Or.inl ⟨by rfl, by intro w hSw; go_simp⟩) hHeld ?_
        change wpAnyH _ _ _ _ _ _ _ (Act.put _ (some 89) _) _
        simp only [Act.put, List.setIfInBounds_toArray, List.set_cons_zero, List.set_cons_succ]
        refine wpAnyH_ready (rs := [11]) (by kernel_rfl) (by simp) ?_
        refine AllReadyH.cons (o := _) rfl (fun K hK => ?_) AllReadyH.nil
        have e3 := HC3.out.x.c3
        have f3 := HC3.out.x.fz 3
        go_simp
        clear e3 f3
        refine hK.out _ _ trivial (fun hHeld1 => ?_)
        clear hK K hHeld
        have hHeld := hHeld1
        clear hHeld1
        refine wpAnyH_done (by kernel_rfl) ?_ _
        clear hHeld
        have HC4 : Hid (Chn (W3.setCell ⟨c, 3, none⟩ (.int .i64 (mx + 1))) c d bS bT u s base a (mx + 1)) := hide ⟨HC3.out.q.setC HC3.out.no _ _, HC3.out.x.set3 _, HC3.out.no⟩
        have HL4 := hide (HL3.out.setC (g := c) (by omega) HM3.out 3 (.int .i64 (mx + 1)))
        have HM4 : Hid (∀ q ∈ qs, Slp (fun b => (Value.slice la qs.length lk).ownBlock ≠ some b ∧ c < b) (W3.setCell ⟨c, 3, none⟩ (.int .i64 (mx + 1))) q.2.1 q.2.2) := hide (fun q hq => (HM3.out q hq).keep (fun _ p _ => p) (fun b p _ => Below.heap_setCell _ _ _ _ (Nat.ne_of_gt p.2)))
        have HB4 := hide (HB3.out.setCell (p := ⟨c, 3, none⟩) HCW2.out (.int .i64 (mx + 1)))
        generalize W3.setCell ⟨c, 3, none⟩ (.int .i64 (mx + 1)) = W4 at HC4 HL4 HM4 HB4 ⊢
        clear HC3 HL3 HM3 HB3
        go_wp2
        go_ret3
        exact ⟨c, _, qs, a, last, rfl, by rw [HHI.out, ← HMX.out]; exact HC4.out, HL4.out, HM4.out, HOP.out, han.1, han.2, HCW2.out, HB4.out⟩
      · go_simp
        go_at_call 34
        refine (highest_any _ HC2.out hw).mono ?_
        rintro e W3 ⟨rfl, hb3⟩
        go_wp2_with fail
        refine hK.out _ _ trivial (fun hHeld1 => ?_)
        clear hK K hHeld
        have hHeld := hHeld1
        clear hHeld1
        have HC3 := hide (HC2.out.below hb3)
        have HL3 := hide (HL2.out.below hb3)
        have HM3 : Hid (∀ q ∈ qs, Slp (fun b => (Value.slice la qs.length lk).ownBlock ≠ some b ∧ c < b) W3 q.2.1 q.2.2) := hide (fun q hq => (HM2.out q hq).below hb3)
        have HB3 := hide (bt HB2.out hb3)
        have HHB := hide (hiS_bd (base := base) (l := s.cs) (fun p hp => (HC3.out.q.ok.cb p hp).2))
        have hhb := HHB.out
        clear hb3 HC2 HL2 HM2 HB2
        refine wpAnyH_ready (rs := [4]) (by kernel_rfl) (by simp) ?_
        refine AllReadyH.cons (o := _) rfl (fun K hK => ?_) AllReadyH.nil
        have x3 := HC3.out.x.c3
        go_simp
        clear x3
        refine hK.out _ _ trivial (fun hHeld1 => ?_)
        clear hK K hHeld
        have hHeld := hHeld1
        clear hHeld1
        generalize hhi : hiS base s.cs = hi at HHB hhb ⊢
        have HHI := hide hhi
        clear hhi
        obtain ⟨mx, hmx⟩ : ∃ mx, mx = max last hi := ⟨_, rfl⟩
        have HMX := hide hmx
        have hmb : 0 ≤ mx ∧ mx ≤ 1152921504606846976 := by omega
        have hif : max last hi = mx := hmx.symm
        have hw1 : IntKind.i64.wrap (mx + 1) = mx + 1 := (by rw [IntKind.wrap_i64]; omega)
        clear hmx hhb
        refine wpAnyH_take (i := 7) (oi := _) (v := .int .i64 mx) rfl (by kernel_rfl) (by kernel_rfl) (by kernel_rfl) (fun _ _ _ h => h) (Or.inl ⟨by rfl, by intro w hSw; go_simp⟩) hHeld ?_
        change wpAnyH _ _ _ _ _ _ _ (Act.put _ (some 86) _) _
        simp only [Act.put, List.setIfInBounds_toArray, List.set_cons_zero, List.set_cons_succ]
        clear hif
        refine wpAnyH_take (i := 8) (oi := _) (v := .int .i64 (mx + 1)) rfl (by kernel_rfl) (by kernel_rfl) (by kernel_rfl) (fun _ _ _ h => h) (Or.inl ⟨by rfl, by intro w hSw; go_simp⟩) hHeld ?_
        change wpAnyH _ _ _ _ _ _ _ (Act.put _ (some 87) _) _
        simp only [Act.put, List.setIfInBounds_toArray, List.set_cons_zero, List.set_cons_succ]
        clear hw1
        refine wpAnyH_take (i := 9) (oi := _) (v := .pointer (some ⟨c, 0, none⟩)) rfl (by kernel_rfl) (by kernel_rfl) (by kernel_rfl) (fun _ _ _ h => h) (Or.inl ⟨by rfl, by intro w hSw; go_simp⟩) hHeld ?_
        change wpAnyH _ _ _ _ _ _ _ (Act.put _ (some 88) _) _
        simp only [Act.put, List.setIfInBounds_toArray, List.set_cons_zero, List.set_cons_succ]
        refine wpAnyH_take (i := 10) (oi := _) (v := .pointer (some ⟨c, 3, none⟩)) rfl (by kernel_rfl) (by kernel_rfl) (by kernel_rfl) (fun _ _ _ h => h) (Or.inl ⟨by rfl, by intro w hSw; go_simp⟩) hHeld ?_
        change wpAnyH _ _ _ _ _ _ _ (Act.put _ (some 89) _) _
        simp only [Act.put, List.setIfInBounds_toArray, List.set_cons_zero, List.set_cons_succ]
        refine wpAnyH_ready (rs := [11]) (by kernel_rfl) (by simp) ?_
        refine AllReadyH.cons (o := _) rfl (fun K hK => ?_) AllReadyH.nil
        have e3 := HC3.out.x.c3
        have f3 := HC3.out.x.fz 3
        go_simp
        clear e3 f3
        refine hK.out _ _ trivial (fun hHeld1 => ?_)
        clear hK K hHeld
        have hHeld := hHeld1
        clear hHeld1
        refine wpAnyH_done (by kernel_rfl) ?_ _
        clear hHeld
        have HC4 : Hid (Chn (W3.setCell ⟨c, 3, none⟩ (.int .i64 (mx + 1))) c d bS bT u s base a (mx + 1)) := hide ⟨HC3.out.q.setC HC3.out.no _ _, HC3.out.x.set3 _, HC3.out.no⟩
        have HL4 := hide (HL3.out.setC (g := c) (by omega) HM3.out 3 (.int .i64 (mx + 1)))
        have HM4 : Hid (∀ q ∈ qs, Slp (fun b => (Value.slice la qs.length lk).ownBlock ≠ some b ∧ c < b) (W3.setCell ⟨c, 3, none⟩ (.int .i64 (mx + 1))) q.2.1 q.2.2) := hide (fun q hq => (HM3.out q hq).keep (fun _ p _ => p) (fun b p _ => Below.heap_setCell _ _ _ _ (Nat.ne_of_gt p.2)))
        have HB4 := hide (HB3.out.setCell (p := ⟨c, 3, none⟩) HCW2.out (.int .i64 (mx + 1)))
        generalize W3.setCell ⟨c, 3, none⟩ (.int .i64 (mx + 1)) = W4 at HC4 HL4 HM4 HB4 ⊢
        clear HC3 HL3 HM3 HB3
        go_wp2
        go_ret3
        exact ⟨c, _, qs, a, last, rfl, by rw [HHI.out, ← HMX.out]; exact HC4.out, HL4.out, HM4.out, HOP.out, han.1, han.2, HCW2.out, HB4.out⟩
    | some q9 =>
      obtain ⟨b, st⟩ := q9
      rw [hrec] at hrs
      obtain ⟨hok, hlv, ⟨ab, nb, kb, hvb⟩, hsb⟩ := hrs
      subst hok
      subst hlv
      subst hvb
      have HNUM := hide (recS_num hrec)
      have HLA := hide (recS_last hrec)
      have HBD := hide (recS_bd HBK.out hrec)
      have HREC := hide hrec
      obtain rfl : nb = b.length := by obtain ⟨a9, k9, e9⟩ := hsb.form; cases e9; rfl
      have HSB := hide hsb
      clear hrec hsb
      have hbl : (b.length : Int) ≤ 16448 := HBD.out.2
      have hst : st ≤ 1152921504606846976 := HBD.out.1
      have hst0 : last < st := HLA.out
      have hnum : a ≤ 1073741824 := HNUM.out.2
      have hbk := blks_pos b.length
      have hbk2 := blks_le hbl
      by_cases hb0 : 0 < b.length
      · have hbg : decide (0 < (b.length : Int)) = true := decide_eq_true (by omega)
        have x2 := HO.out.ch.x.c2
        have hal : ∀ o, Below wr.heap.size wr (wr.alloc o) := fun o => (Below.refl _ _).alloc (Nat.le_refl _) o
        have HNW : Hid (∀ j u, (lkc (a, .slice ab b.length kb, b))[j]? = some u → (wr.alloc (.cells #[.int .i64 a, .slice ab b.length kb] 74)).cell? ((⟨wr.heap.size, 0, none⟩ : Addr).add j) = some u) := hide (fun j u hu => by rw [Addr.add_lit, Nat.zero_add]; match j, hu with | 0, hu => (cases hu; exact World.cell?_alloc_at _ _ _ _ rfl) | 1, hu => (cases hu; exact World.cell?_alloc_at _ _ _ _ rfl))
        have HCC : Hid (c + 1 ≤ wr.heap.size) := hide HO.out.ch.x.lt
        go_upto_region 9 with (first | (at_builtin; refine wpList_appLk _ rfl _ _ rfl (c + 1) _ qs rfl (HO.out.lw.below (hal _)) (Nat.le_trans HCC.out (hal _).size) ⟨wr.heap.size, 0, none⟩ 1 (a, .slice ab b.length kb, b) rfl HNW.out ⟨_, _, _, rfl⟩ ((HSB.out.below (hal _)).keep (fun _ p _ => p.1) (fun _ _ _ => rfl)) (by omega) ?_; intro v4 W4 hl4 hg4 hb4; have HL4 := hide hl4; have HG4 := hide (And.intro hg4 hb4); clear hl4 hg4 hb4))
        clear hbg x2 HNW
        have hba := hal (.cells #[.int .i64 a, .slice ab b.length kb] 74)
        have hkb : ∀ k, k < wr.heap.size → (Value.slice la qs.length lk).ownBlock ≠ some k → W4.heap[k]? = wr.heap[k]? := fun k h1 h2 => (HG4.out.1.block k (Nat.lt_of_lt_of_le h1 hba.size) (fun e => h2 e.symm)).trans (hba.block k h1)
        have hown : ∀ k, k ≤ c → (Value.slice la qs.length lk).ownBlock ≠ some k := fun k h e => by have h1 := HG4.out.2 k e; omega
        have HC5 : Hid (Chn W4 c d bS bT u s base a last) := hide ⟨⟨HO.out.ch.q.dk.keep (fun k e => hkb k (HO.out.ch.q.dk.lt e) (hown k (by have := HOWN.out k e; have := HO.out.cw; omega))), HO.out.ch.q.ok⟩, HO.out.ch.x.keepB (hkb c HO.out.ch.x.lt (hown c (Nat.le_refl _))), HO.out.ch.no⟩
        have HB5 : Hid (Below w.heap.size w W4) := hide ((bt HO.out.be hba).grown HG4.out.1 (bt HO.out.be hba).size (fun j e => by have := HG4.out.2 j e; have := HO.out.cw; omega))
        have HM5 : Hid (∀ q ∈ qs ++ [(a, .slice ab b.length kb, b)], Slp (fun b => v4.ownBlock ≠ some b ∧ c < b) W4 q.2.1 q.2.2) := hide (fun q hq => by
          have h1 := HL4.out.mem q hq
          have h2 : Slp (fun b => c < b) wr q.2.1 q.2.2 := by
            rcases List.mem_append.1 hq with e | e
            · exact (HO.out.lm q e).keep (fun _ p _ => p.2) (fun _ _ _ => rfl)
            · simp at e; rw [e]; exact HSB.out.keep (fun _ p _ => p.2) (fun _ _ _ => rfl)
          exact slp_and h1 h2)
        have HLK : Hid (lkO (qs ++ [(a, .slice ab b.length kb, b)]) = lkO qs ++ (if b.length = 0 then [] else [(a, b)])) := hide (by rw [if_neg (by omega)]; simp [lkO])
        have HQL : Hid (((qs ++ [(a, Value.slice ab b.length kb, b)]).length : Int) ≤ a - frm + 1) := hide (by simp; omega)
        obtain ⟨la5, lk5, hv5⟩ := HL4.out.form
        subst hv5
        generalize hq5 : qs ++ [(a, Value.slice ab b.length kb, b)] = q5 at HL4 HM5 HLK HQL ⊢
        have HL5 := HL4
        clear hq5 hal hba hkb hown HG4 HL4 HSB HCC
        have HCW2 := hide HO.out.cw
        have HOP2 : Hid (∀ L x y, Opn s.tk (a + blks b.length) st L x y → Opn s.tk frm 0 (lkO q5 ++ L) x y) := hide (fun L x y h => by rw [HLK.out, List.append_assoc]; exact HO.out.op _ _ _ (.more HREC.out h))
        clear HO
        have hdw : Below W4.heap.size W4 W4.drew := (Below.refl _ _).drew
        refine wp_region_held_drew (S := fun _ => True) (by kernel_rfl) trivial (fun hHeld => ?_)
        have HC6 := hide (HC5.out.below hdw)
        have HL6 := hide (HL5.out.below hdw)
        have HM6 : Hid (∀ q ∈ q5, Slp (fun b => (Value.slice la5 q5.length lk5).ownBlock ≠ some b ∧ c < b) W4.drew q.2.1 q.2.2) := hide (fun q hq => (HM5.out q hq).below hdw)
        have HB6 := hide (bt HB5.out hdw)
        generalize W4.drew = W6 at HC6 HL6 HM6 HB6 hHeld ⊢
        clear hdw HC5 HL5 HM5 HB5
        refine wpAnyH_take (i := 0) (oi := _) (v := .pointer (some ⟨c, 0, none⟩)) rfl (by kernel_rfl) (by kernel_rfl) (by kernel_rfl) (fun _ _ _ h => h) (Or.inl ⟨by rfl, by intro w hSw; go_simp⟩) hHeld ?_
        change wpAnyH _ _ _ _ _ _ _ (Act.put _ (some 55) _) _
        simp only [Act.put, List.setIfInBounds_toArray, List.set_cons_zero, List.set_cons_succ]
        refine wpAnyH_take (i := 1) (oi := _) (v := .pointer (some ⟨c, 0, none⟩)) rfl (by kernel_rfl) (by kernel_rfl) (by kernel_rfl) (fun _ _ _ h => h) (Or.inl ⟨by rfl, by intro w hSw; go_simp⟩) hHeld ?_
        change wpAnyH _ _ _ _ _ _ _ (Act.put _ (some 56) _) _
        simp only [Act.put, List.setIfInBounds_toArray, List.set_cons_zero, List.set_cons_succ]
        refine wpAnyH_take (i := 2) (oi := _) (v := .pointer (some ⟨c, 2, none⟩)) rfl (by kernel_rfl) (by kernel_rfl) (by kernel_rfl) (fun _ _ _ h => h) (Or.inl ⟨by rfl, by intro w hSw; go_simp⟩) hHeld ?_
        change wpAnyH _ _ _ _ _ _ _ (Act.put _ (some 57) _) _
        simp only [Act.put, List.setIfInBounds_toArray, List.set_cons_zero, List.set_cons_succ]
        refine wpAnyH_take (i := 4) (oi := _) (v := .slice ab b.length kb) rfl (by kernel_rfl) (by kernel_rfl) (by kernel_rfl) (fun _ _ _ h => h) (Or.inl ⟨by rfl, by intro w hSw; go_simp⟩) hHeld ?_
        change wpAnyH _ _ _ _ _ _ _ (Act.put _ (some 59) _) _
        simp only [Act.put, List.setIfInBounds_toArray, List.set_cons_zero, List.set_cons_succ]
        refine wpAnyH_take (i := 5) (oi := _) (v := .int .i64 (b.length : Int)) rfl (by kernel_rfl) (by kernel_rfl) (by kernel_rfl) (fun _ _ _ h => h) (Or.inl ⟨by rfl, by intro w hSw; go_simp⟩) hHeld ?_
        change wpAnyH _ _ _ _ _ _ _ (Act.put _ (some 60) _) _
        simp only [Act.put, List.setIfInBounds_toArray, List.set_cons_zero, List.set_cons_succ]
        refine wpAnyH_ready (rs := [3, 6]) (by kernel_rfl) (by simp) ?_
        refine AllReadyH.cons (o := _) rfl (fun K hK => ?_) (AllReadyH.cons (o := _) rfl (fun K hK => ?_) AllReadyH.nil)
        · have x3 := HC6.out.x.c2
          go_simp
          clear x3
          refine hK.out _ _ trivial (fun hHeld1 => ?_)
          clear hK K hHeld
          have hHeld := hHeld1
          clear hHeld1
          refine wpAnyH_ready (rs := [6]) (by kernel_rfl) (by simp) ?_
          refine AllReadyH.cons (o := _) rfl (fun K hK => ?_) AllReadyH.nil
          go_simp
          go_at_call 31
          refine (blocks_any _ _ (by omega) (by omega)).mono ?_
          rintro e w9 ⟨rfl, hw9⟩
          rw [hw9]
          clear hw9 w9
          go_wp2_with fail
          refine hK.out _ _ trivial (fun hHeld1 => ?_)
          clear hK K hHeld
          have hHeld := hHeld1
          clear hHeld1
          have hw1 : IntKind.i64.wrap (a + blks b.length) = a + blks b.length := by rw [IntKind.wrap_i64]; omega
          refine wpAnyH_take (i := 7) (oi := _) (v := .int .i64 (a + blks b.length)) rfl (by kernel_rfl) (by kernel_rfl) (by kernel_rfl) (fun _ _ _ h => h) (Or.inl ⟨by rfl, by intro w hSw; go_simp⟩) hHeld ?_
          change wpAnyH _ _ _ _ _ _ _ (Act.put _ (some 62) _) _
          simp only [Act.put, List.setIfInBounds_toArray, List.set_cons_zero, List.set_cons_succ]
          clear hw1
          refine wpAnyH_take (i := 8) (oi := _) (v := .pointer (some ⟨c, 0, none⟩)) rfl (by kernel_rfl) (by kernel_rfl) (by kernel_rfl) (fun _ _ _ h => h) (Or.inl ⟨by rfl, by intro w hSw; go_simp⟩) hHeld ?_
          change wpAnyH _ _ _ _ _ _ _ (Act.put _ (some 63) _) _
          simp only [Act.put, List.setIfInBounds_toArray, List.set_cons_zero, List.set_cons_succ]
          refine wpAnyH_take (i := 9) (oi := _) (v := .pointer (some ⟨c, 2, none⟩)) rfl (by kernel_rfl) (by kernel_rfl) (by kernel_rfl) (fun _ _ _ h => h) (Or.inl ⟨by rfl, by intro w hSw; go_simp⟩) hHeld ?_
          change wpAnyH _ _ _ _ _ _ _ (Act.put _ (some 64) _) _
          simp only [Act.put, List.setIfInBounds_toArray, List.set_cons_zero, List.set_cons_succ]
          refine wpAnyH_ready (rs := [10]) (by kernel_rfl) (by simp) ?_
          refine AllReadyH.cons (o := _) rfl (fun K hK => ?_) AllReadyH.nil
          have e2 := HC6.out.x.c2
          have f2 := HC6.out.x.fz 2
          go_simp
          clear e2 f2
          refine hK.out _ _ trivial (fun hHeld1 => ?_)
          clear hK K hHeld
          have hHeld := hHeld1
          clear hHeld1
          refine wpAnyH_done (by kernel_rfl) ?_ _
          clear hHeld
          have HC7 : Hid (Chn (W6.setCell ⟨c, 2, none⟩ (.int .i64 (a + blks b.length))) c d bS bT u s base (a + blks b.length) last) := hide ⟨HC6.out.q.setC HC6.out.no _ _, HC6.out.x.set2 _, HC6.out.no⟩
          have HL7 := hide (HL6.out.setC (g := c) (by omega) HM6.out 2 (.int .i64 (a + blks b.length)))
          have HM7 : Hid (∀ q ∈ q5, Slp (fun b => (Value.slice la5 q5.length lk5).ownBlock ≠ some b ∧ c < b) (W6.setCell ⟨c, 2, none⟩ (.int .i64 (a + blks b.length))) q.2.1 q.2.2) := hide (fun q hq => (HM6.out q hq).keep (fun _ p _ => p) (fun b p _ => Below.heap_setCell _ _ _ _ (Nat.ne_of_gt p.2)))
          have HB7 := hide (HB6.out.setCell (p := ⟨c, 2, none⟩) HCW2.out (.int .i64 (a + blks b.length)))
          generalize W6.setCell ⟨c, 2, none⟩ (.int .i64 (a + blks b.length)) = W7 at HC7 HL7 HM7 HB7 ⊢
          clear HC6 HL6 HM6 HB6
          have e3 := HC7.out.x.c3
          have f3 := HC7.out.x.fz 3
          go_upto_region 11 with fail
          clear e3 f3
          have HC8 : Hid (Chn (W7.setCell ⟨c, 3, none⟩ (.int .i64 st)) c d bS bT u s base (a + blks b.length) st) := hide ⟨HC7.out.q.setC HC7.out.no _ _, HC7.out.x.set3 _, HC7.out.no⟩
          have HL8 := hide (HL7.out.setC (g := c) (by omega) HM7.out 3 (.int .i64 st))
          have HM8 : Hid (∀ q ∈ q5, Slp (fun b => (Value.slice la5 q5.length lk5).ownBlock ≠ some b ∧ c < b) (W7.setCell ⟨c, 3, none⟩ (.int .i64 st)) q.2.1 q.2.2) := hide (fun q hq => (HM7.out q hq).keep (fun _ p _ => p) (fun b p _ => Below.heap_setCell _ _ _ _ (Nat.ne_of_gt p.2)))
          have HB8 := hide (HB7.out.setCell (p := ⟨c, 3, none⟩) HCW2.out (.int .i64 st))
          generalize W7.setCell ⟨c, 3, none⟩ (.int .i64 st) = W8 at HC8 HL8 HM8 HB8 ⊢
          clear HC7 HL7 HM7 HB7
          have x3 := HC8.out.x.c3
          go_wp2_with (first | (go_at_call 33; refine (record_any st _ HC8.out ⟨by omega, by omega⟩).mono ?_; rintro e W9 ⟨hr9, hb9⟩; obtain ⟨rb, rl, rk, rfl, hrs⟩ : ∃ vb lv ok, e = .returned (.tuple #[vb, lv, ok]) ∧ Rs W9 (Value.slice la5 q5.length lk5) c (recS s.tk (a + blks b.length) st) vb lv ok := rs_of hr9 (fun b h1 => ⟨fun e => by have := (HL8.out.own.lt b e).2; omega, by have := HC8.out.x.lt; omega⟩); have HO9 : Hid (Ol w W9 c d bS bT u s base frm (Value.slice la5 q5.length lk5) q5 (a + blks b.length) st) := hide ⟨HC8.out.below hb9, HL8.out.below hb9, (fun q hq => (HM8.out q hq).below hb9), bt HB8.out hb9, HCW2.out, HOP2.out, ⟨by omega, by omega⟩, ⟨by omega, hst⟩, by have := HQL.out; omega⟩; have HS9 := hide hrs; clear hr9 hb9 hrs))
          have hm9 : iv ((W9.cell? ⟨c, 2, none⟩).getD undef) = a + blks b.length := by rw [HO9.out.ch.x.c2]; rfl
          exact ⟨⟨_, _, _, HO9.out, HS9.out⟩, by rw [hm9, HME.out]; omega⟩
        · go_simp
          go_at_call 31
          refine (blocks_any _ _ (by omega) (by omega)).mono ?_
          rintro e w9 ⟨rfl, hw9⟩
          rw [hw9]
          clear hw9 w9
          go_wp2_with fail
          refine hK.out _ _ trivial (fun hHeld1 => ?_)
          clear hK K hHeld
          have hHeld := hHeld1
          clear hHeld1
          refine wpAnyH_ready (rs := [3]) (by kernel_rfl) (by simp) ?_
          refine AllReadyH.cons (o := _) rfl (fun K hK => ?_) AllReadyH.nil
          have x3 := HC6.out.x.c2
          go_simp
          clear x3
          refine hK.out _ _ trivial (fun hHeld1 => ?_)
          clear hK K hHeld
          have hHeld := hHeld1
          clear hHeld1
          have hw1 : IntKind.i64.wrap (a + blks b.length) = a + blks b.length := by rw [IntKind.wrap_i64]; omega
          refine wpAnyH_take (i := 7) (oi := _) (v := .int .i64 (a + blks b.length)) rfl (by kernel_rfl) (by kernel_rfl) (by kernel_rfl) (fun _ _ _ h => h) (Or.inl ⟨by rfl, by intro w hSw; go_simp⟩) hHeld ?_
          change wpAnyH _ _ _ _ _ _ _ (Act.put _ (some 62) _) _
          simp only [Act.put, List.setIfInBounds_toArray, List.set_cons_zero, List.set_cons_succ]
          clear hw1
          refine wpAnyH_take (i := 8) (oi := _) (v := .pointer (some ⟨c, 0, none⟩)) rfl (by kernel_rfl) (by kernel_rfl) (by kernel_rfl) (fun _ _ _ h => h) (Or.inl ⟨by rfl, by intro w hSw; go_simp⟩) hHeld ?_
          change wpAnyH _ _ _ _ _ _ _ (Act.put _ (some 63) _) _
          simp only [Act.put, List.setIfInBounds_toArray, List.set_cons_zero, List.set_cons_succ]
          refine wpAnyH_take (i := 9) (oi := _) (v := .pointer (some ⟨c, 2, none⟩)) rfl (by kernel_rfl) (by kernel_rfl) (by kernel_rfl) (fun _ _ _ h => h) (Or.inl ⟨by rfl, by intro w hSw; go_simp⟩) hHeld ?_
          change wpAnyH _ _ _ _ _ _ _ (Act.put _ (some 64) _) _
          simp only [Act.put, List.setIfInBounds_toArray, List.set_cons_zero, List.set_cons_succ]
          refine wpAnyH_ready (rs := [10]) (by kernel_rfl) (by simp) ?_
          refine AllReadyH.cons (o := _) rfl (fun K hK => ?_) AllReadyH.nil
          have e2 := HC6.out.x.c2
          have f2 := HC6.out.x.fz 2
          go_simp
          clear e2 f2
          refine hK.out _ _ trivial (fun hHeld1 => ?_)
          clear hK K hHeld
          have hHeld := hHeld1
          clear hHeld1
          refine wpAnyH_done (by kernel_rfl) ?_ _
          clear hHeld
          have HC7 : Hid (Chn (W6.setCell ⟨c, 2, none⟩ (.int .i64 (a + blks b.length))) c d bS bT u s base (a + blks b.length) last) := hide ⟨HC6.out.q.setC HC6.out.no _ _, HC6.out.x.set2 _, HC6.out.no⟩
          have HL7 := hide (HL6.out.setC (g := c) (by omega) HM6.out 2 (.int .i64 (a + blks b.length)))
          have HM7 : Hid (∀ q ∈ q5, Slp (fun b => (Value.slice la5 q5.length lk5).ownBlock ≠ some b ∧ c < b) (W6.setCell ⟨c, 2, none⟩ (.int .i64 (a + blks b.length))) q.2.1 q.2.2) := hide (fun q hq => (HM6.out q hq).keep (fun _ p _ => p) (fun b p _ => Below.heap_setCell _ _ _ _ (Nat.ne_of_gt p.2)))
          have HB7 := hide (HB6.out.setCell (p := ⟨c, 2, none⟩) HCW2.out (.int .i64 (a + blks b.length)))
          generalize W6.setCell ⟨c, 2, none⟩ (.int .i64 (a + blks b.length)) = W7 at HC7 HL7 HM7 HB7 ⊢
          clear HC6 HL6 HM6 HB6
          have e3 := HC7.out.x.c3
          have f3 := HC7.out.x.fz 3
          go_upto_region 11 with fail
          clear e3 f3
          have HC8 : Hid (Chn (W7.setCell ⟨c, 3, none⟩ (.int .i64 st)) c d bS bT u s base (a + blks b.length) st) := hide ⟨HC7.out.q.setC HC7.out.no _ _, HC7.out.x.set3 _, HC7.out.no⟩
          have HL8 := hide (HL7.out.setC (g := c) (by omega) HM7.out 3 (.int .i64 st))
          have HM8 : Hid (∀ q ∈ q5, Slp (fun b => (Value.slice la5 q5.length lk5).ownBlock ≠ some b ∧ c < b) (W7.setCell ⟨c, 3, none⟩ (.int .i64 st)) q.2.1 q.2.2) := hide (fun q hq => (HM7.out q hq).keep (fun _ p _ => p) (fun b p _ => Below.heap_setCell _ _ _ _ (Nat.ne_of_gt p.2)))
          have HB8 := hide (HB7.out.setCell (p := ⟨c, 3, none⟩) HCW2.out (.int .i64 st))
          generalize W7.setCell ⟨c, 3, none⟩ (.int .i64 st) = W8 at HC8 HL8 HM8 HB8 ⊢
          clear HC7 HL7 HM7 HB7
          have x3 := HC8.out.x.c3
          go_wp2_with (first | (go_at_call 33; refine (record_any st _ HC8.out ⟨by omega, by omega⟩).mono ?_; rintro e W9 ⟨hr9, hb9⟩; obtain ⟨rb, rl, rk, rfl, hrs⟩ : ∃ vb lv ok, e = .returned (.tuple #[vb, lv, ok]) ∧ Rs W9 (Value.slice la5 q5.length lk5) c (recS s.tk (a + blks b.length) st) vb lv ok := rs_of hr9 (fun b h1 => ⟨fun e => by have := (HL8.out.own.lt b e).2; omega, by have := HC8.out.x.lt; omega⟩); have HO9 : Hid (Ol w W9 c d bS bT u s base frm (Value.slice la5 q5.length lk5) q5 (a + blks b.length) st) := hide ⟨HC8.out.below hb9, HL8.out.below hb9, (fun q hq => (HM8.out q hq).below hb9), bt HB8.out hb9, HCW2.out, HOP2.out, ⟨by omega, by omega⟩, ⟨by omega, hst⟩, by have := HQL.out; omega⟩; have HS9 := hide hrs; clear hr9 hb9 hrs))
          have hm9 : iv ((W9.cell? ⟨c, 2, none⟩).getD undef) = a + blks b.length := by rw [HO9.out.ch.x.c2]; rfl
          exact ⟨⟨_, _, _, HO9.out, HS9.out⟩, by rw [hm9, HME.out]; omega⟩
      · have hbg : decide (0 < (b.length : Int)) = false := decide_eq_false (by omega)
        have HLK : Hid (lkO qs = lkO qs ++ (if b.length = 0 then [] else [(a, b)])) := hide (by rw [if_pos (by omega)]; simp)
        have HQL : Hid ((qs.length : Int) ≤ a - frm + 1) := hide (by omega)
        go_upto_region 9 with fail
        clear hbg
        have HC5 := hide HO.out.ch
        have HB5 := hide HO.out.be
        have HL5 := hide HO.out.lw
        have HM5 := hide HO.out.lm
        have HCW2 := hide HO.out.cw
        have HOP2 : Hid (∀ L x y, Opn s.tk (a + blks b.length) st L x y → Opn s.tk frm 0 (lkO qs ++ L) x y) := hide (fun L x y h => by rw [HLK.out, List.append_assoc]; exact HO.out.op _ _ _ (.more HREC.out h))
        clear HO
        have hdw : Below wr.heap.size wr wr.drew := (Below.refl _ _).drew
        refine wp_region_held_drew (S := fun _ => True) (by kernel_rfl) trivial (fun hHeld => ?_)
        have HC6 := hide (HC5.out.below hdw)
        have HL6 := hide (HL5.out.below hdw)
        have HM6 : Hid (∀ q ∈ qs, Slp (fun b => (Value.slice la qs.length lk).ownBlock ≠ some b ∧ c < b) wr.drew q.2.1 q.2.2) := hide (fun q hq => (HM5.out q hq).below hdw)
        have HB6 := hide (bt HB5.out hdw)
        generalize wr.drew = W6 at HC6 HL6 HM6 HB6 hHeld ⊢
        clear hdw HC5 HL5 HM5 HB5
        refine wpAnyH_take (i := 0) (oi := _) (v := .pointer (some ⟨c, 0, none⟩)) rfl (by kernel_rfl) (by kernel_rfl) (by kernel_rfl) (fun _ _ _ h => h) (Or.inl ⟨by rfl, by intro w hSw; go_simp⟩) hHeld ?_
        change wpAnyH _ _ _ _ _ _ _ (Act.put _ (some 55) _) _
        simp only [Act.put, List.setIfInBounds_toArray, List.set_cons_zero, List.set_cons_succ]
        refine wpAnyH_take (i := 1) (oi := _) (v := .pointer (some ⟨c, 0, none⟩)) rfl (by kernel_rfl) (by kernel_rfl) (by kernel_rfl) (fun _ _ _ h => h) (Or.inl ⟨by rfl, by intro w hSw; go_simp⟩) hHeld ?_
        change wpAnyH _ _ _ _ _ _ _ (Act.put _ (some 56) _) _
        simp only [Act.put, List.setIfInBounds_toArray, List.set_cons_zero, List.set_cons_succ]
        refine wpAnyH_take (i := 2) (oi := _) (v := .pointer (some ⟨c, 2, none⟩)) rfl (by kernel_rfl) (by kernel_rfl) (by kernel_rfl) (fun _ _ _ h => h) (Or.inl ⟨by rfl, by intro w hSw; go_simp⟩) hHeld ?_
        change wpAnyH _ _ _ _ _ _ _ (Act.put _ (some 57) _) _
        simp only [Act.put, List.setIfInBounds_toArray, List.set_cons_zero, List.set_cons_succ]
        refine wpAnyH_take (i := 4) (oi := _) (v := .slice ab b.length kb) rfl (by kernel_rfl) (by kernel_rfl) (by kernel_rfl) (fun _ _ _ h => h) (Or.inl ⟨by rfl, by intro w hSw; go_simp⟩) hHeld ?_
        change wpAnyH _ _ _ _ _ _ _ (Act.put _ (some 59) _) _
        simp only [Act.put, List.setIfInBounds_toArray, List.set_cons_zero, List.set_cons_succ]
        refine wpAnyH_take (i := 5) (oi := _) (v := .int .i64 (b.length : Int)) rfl (by kernel_rfl) (by kernel_rfl) (by kernel_rfl) (fun _ _ _ h => h) (Or.inl ⟨by rfl, by intro w hSw; go_simp⟩) hHeld ?_
        change wpAnyH _ _ _ _ _ _ _ (Act.put _ (some 60) _) _
        simp only [Act.put, List.setIfInBounds_toArray, List.set_cons_zero, List.set_cons_succ]
        refine wpAnyH_ready (rs := [3, 6]) (by kernel_rfl) (by simp) ?_
        refine AllReadyH.cons (o := _) rfl (fun K hK => ?_) (AllReadyH.cons (o := _) rfl (fun K hK => ?_) AllReadyH.nil)
        · have x3 := HC6.out.x.c2
          go_simp
          clear x3
          refine hK.out _ _ trivial (fun hHeld1 => ?_)
          clear hK K hHeld
          have hHeld := hHeld1
          clear hHeld1
          refine wpAnyH_ready (rs := [6]) (by kernel_rfl) (by simp) ?_
          refine AllReadyH.cons (o := _) rfl (fun K hK => ?_) AllReadyH.nil
          go_simp
          go_at_call 31
          refine (blocks_any _ _ (by omega) (by omega)).mono ?_
          rintro e w9 ⟨rfl, hw9⟩
          rw [hw9]
          clear hw9 w9
          go_wp2_with fail
          refine hK.out _ _ trivial (fun hHeld1 => ?_)
          clear hK K hHeld
          have hHeld := hHeld1
          clear hHeld1
          have hw1 : IntKind.i64.wrap (a + blks b.length) = a + blks b.length := by rw [IntKind.wrap_i64]; omega
          refine wpAnyH_take (i := 7) (oi := _) (v := .int .i64 (a + blks b.length)) rfl (by kernel_rfl) (by kernel_rfl) (by kernel_rfl) (fun _ _ _ h => h) (Or.inl ⟨by rfl, by intro w hSw; go_simp⟩) hHeld ?_
          change wpAnyH _ _ _ _ _ _ _ (Act.put _ (some 62) _) _
          simp only [Act.put, List.setIfInBounds_toArray, List.set_cons_zero, List.set_cons_succ]
          clear hw1
          refine wpAnyH_take (i := 8) (oi := _) (v := .pointer (some ⟨c, 0, none⟩)) rfl (by kernel_rfl) (by kernel_rfl) (by kernel_rfl) (fun _ _ _ h => h) (Or.inl ⟨by rfl, by intro w hSw; go_simp⟩) hHeld ?_
          change wpAnyH _ _ _ _ _ _ _ (Act.put _ (some 63) _) _
          simp only [Act.put, List.setIfInBounds_toArray, List.set_cons_zero, List.set_cons_succ]
          refine wpAnyH_take (i := 9) (oi := _) (v := .pointer (some ⟨c, 2, none⟩)) rfl (by kernel_rfl) (by kernel_rfl) (by kernel_rfl) (fun _ _ _ h => h) (Or.inl ⟨by rfl, by intro w hSw; go_simp⟩) hHeld ?_
          change wpAnyH _ _ _ _ _ _ _ (Act.put _ (some 64) _) _
          simp only [Act.put, List.setIfInBounds_toArray, List.set_cons_zero, List.set_cons_succ]
          refine wpAnyH_ready (rs := [10]) (by kernel_rfl) (by simp) ?_
          refine AllReadyH.cons (o := _) rfl (fun K hK => ?_) AllReadyH.nil
          have e2 := HC6.out.x.c2
          have f2 := HC6.out.x.fz 2
          go_simp
          clear e2 f2
          refine hK.out _ _ trivial (fun hHeld1 => ?_)
          clear hK K hHeld
          have hHeld := hHeld1
          clear hHeld1
          refine wpAnyH_done (by kernel_rfl) ?_ _
          clear hHeld
          have HC7 : Hid (Chn (W6.setCell ⟨c, 2, none⟩ (.int .i64 (a + blks b.length))) c d bS bT u s base (a + blks b.length) last) := hide ⟨HC6.out.q.setC HC6.out.no _ _, HC6.out.x.set2 _, HC6.out.no⟩
          have HL7 := hide (HL6.out.setC (g := c) (by omega) HM6.out 2 (.int .i64 (a + blks b.length)))
          have HM7 : Hid (∀ q ∈ qs, Slp (fun b => (Value.slice la qs.length lk).ownBlock ≠ some b ∧ c < b) (W6.setCell ⟨c, 2, none⟩ (.int .i64 (a + blks b.length))) q.2.1 q.2.2) := hide (fun q hq => (HM6.out q hq).keep (fun _ p _ => p) (fun b p _ => Below.heap_setCell _ _ _ _ (Nat.ne_of_gt p.2)))
          have HB7 := hide (HB6.out.setCell (p := ⟨c, 2, none⟩) HCW2.out (.int .i64 (a + blks b.length)))
          generalize W6.setCell ⟨c, 2, none⟩ (.int .i64 (a + blks b.length)) = W7 at HC7 HL7 HM7 HB7 ⊢
          clear HC6 HL6 HM6 HB6
          have e3 := HC7.out.x.c3
          have f3 := HC7.out.x.fz 3
          go_upto_region 11 with fail
          clear e3 f3
          have HC8 : Hid (Chn (W7.setCell ⟨c, 3, none⟩ (.int .i64 st)) c d bS bT u s base (a + blks b.length) st) := hide ⟨HC7.out.q.setC HC7.out.no _ _, HC7.out.x.set3 _, HC7.out.no⟩
          have HL8 := hide (HL7.out.setC (g := c) (by omega) HM7.out 3 (.int .i64 st))
          have HM8 : Hid (∀ q ∈ qs, Slp (fun b => (Value.slice la qs.length lk).ownBlock ≠ some b ∧ c < b) (W7.setCell ⟨c, 3, none⟩ (.int .i64 st)) q.2.1 q.2.2) := hide (fun q hq => (HM7.out q hq).keep (fun _ p _ => p) (fun b p _ => Below.heap_setCell _ _ _ _ (Nat.ne_of_gt p.2)))
          have HB8 := hide (HB7.out.setCell (p := ⟨c, 3, none⟩) HCW2.out (.int .i64 st))
          generalize W7.setCell ⟨c, 3, none⟩ (.int .i64 st) = W8 at HC8 HL8 HM8 HB8 ⊢
          clear HC7 HL7 HM7 HB7
          have x3 := HC8.out.x.c3
          go_wp2_with (first | (go_at_call 33; refine (record_any st _ HC8.out ⟨by omega, by omega⟩).mono ?_; rintro e W9 ⟨hr9, hb9⟩; obtain ⟨rb, rl, rk, rfl, hrs⟩ : ∃ vb lv ok, e = .returned (.tuple #[vb, lv, ok]) ∧ Rs W9 (Value.slice la qs.length lk) c (recS s.tk (a + blks b.length) st) vb lv ok := rs_of hr9 (fun b h1 => ⟨fun e => by have := (HL8.out.own.lt b e).2; omega, by have := HC8.out.x.lt; omega⟩); have HO9 : Hid (Ol w W9 c d bS bT u s base frm (Value.slice la qs.length lk) qs (a + blks b.length) st) := hide ⟨HC8.out.below hb9, HL8.out.below hb9, (fun q hq => (HM8.out q hq).below hb9), bt HB8.out hb9, HCW2.out, HOP2.out, ⟨by omega, by omega⟩, ⟨by omega, hst⟩, by have := HQL.out; omega⟩; have HS9 := hide hrs; clear hr9 hb9 hrs))
          have hm9 : iv ((W9.cell? ⟨c, 2, none⟩).getD undef) = a + blks b.length := by rw [HO9.out.ch.x.c2]; rfl
          exact ⟨⟨_, _, _, HO9.out, HS9.out⟩, by rw [hm9, HME.out]; omega⟩
        · go_simp
          go_at_call 31
          refine (blocks_any _ _ (by omega) (by omega)).mono ?_
          rintro e w9 ⟨rfl, hw9⟩
          rw [hw9]
          clear hw9 w9
          go_wp2_with fail
          refine hK.out _ _ trivial (fun hHeld1 => ?_)
          clear hK K hHeld
          have hHeld := hHeld1
          clear hHeld1
          refine wpAnyH_ready (rs := [3]) (by kernel_rfl) (by simp) ?_
          refine AllReadyH.cons (o := _) rfl (fun K hK => ?_) AllReadyH.nil
          have x3 := HC6.out.x.c2
          go_simp
          clear x3
          refine hK.out _ _ trivial (fun hHeld1 => ?_)
          clear hK K hHeld
          have hHeld := hHeld1
          clear hHeld1
          have hw1 : IntKind.i64.wrap (a + blks b.length) = a + blks b.length := by rw [IntKind.wrap_i64]; omega
          refine wpAnyH_take (i := 7) (oi := _) (v := .int .i64 (a + blks b.length)) rfl (by kernel_rfl) (by kernel_rfl) (by kernel_rfl) (fun _ _ _ h => h) (Or.inl ⟨by rfl, by intro w hSw; go_simp⟩) hHeld ?_
          change wpAnyH _ _ _ _ _ _ _ (Act.put _ (some 62) _) _
          simp only [Act.put, List.setIfInBounds_toArray, List.set_cons_zero, List.set_cons_succ]
          clear hw1
          refine wpAnyH_take (i := 8) (oi := _) (v := .pointer (some ⟨c, 0, none⟩)) rfl (by kernel_rfl) (by kernel_rfl) (by kernel_rfl) (fun _ _ _ h => h) (Or.inl ⟨by rfl, by intro w hSw; go_simp⟩) hHeld ?_
          change wpAnyH _ _ _ _ _ _ _ (Act.put _ (some 63) _) _
          simp only [Act.put, List.setIfInBounds_toArray, List.set_cons_zero, List.set_cons_succ]
          refine wpAnyH_take (i := 9) (oi := _) (v := .pointer (some ⟨c, 2, none⟩)) rfl (by kernel_rfl) (by kernel_rfl) (by kernel_rfl) (fun _ _ _ h => h) (Or.inl ⟨by rfl, by intro w hSw; go_simp⟩) hHeld ?_
          change wpAnyH _ _ _ _ _ _ _ (Act.put _ (some 64) _) _
          simp only [Act.put, List.setIfInBounds_toArray, List.set_cons_zero, List.set_cons_succ]
          refine wpAnyH_ready (rs := [10]) (by kernel_rfl) (by simp) ?_
          refine AllReadyH.cons (o := _) rfl (fun K hK => ?_) AllReadyH.nil
          have e2 := HC6.out.x.c2
          have f2 := HC6.out.x.fz 2
          go_simp
          clear e2 f2
          refine hK.out _ _ trivial (fun hHeld1 => ?_)
          clear hK K hHeld
          have hHeld := hHeld1
          clear hHeld1
          refine wpAnyH_done (by kernel_rfl) ?_ _
          clear hHeld
          have HC7 : Hid (Chn (W6.setCell ⟨c, 2, none⟩ (.int .i64 (a + blks b.length))) c d bS bT u s base (a + blks b.length) last) := hide ⟨HC6.out.q.setC HC6.out.no _ _, HC6.out.x.set2 _, HC6.out.no⟩
          have HL7 := hide (HL6.out.setC (g := c) (by omega) HM6.out 2 (.int .i64 (a + blks b.length)))
          have HM7 : Hid (∀ q ∈ qs, Slp (fun b => (Value.slice la qs.length lk).ownBlock ≠ some b ∧ c < b) (W6.setCell ⟨c, 2, none⟩ (.int .i64 (a + blks b.length))) q.2.1 q.2.2) := hide (fun q hq => (HM6.out q hq).keep (fun _ p _ => p) (fun b p _ => Below.heap_setCell _ _ _ _ (Nat.ne_of_gt p.2)))
          have HB7 := hide (HB6.out.setCell (p := ⟨c, 2, none⟩) HCW2.out (.int .i64 (a + blks b.length)))
          generalize W6.setCell ⟨c, 2, none⟩ (.int .i64 (a + blks b.length)) = W7 at HC7 HL7 HM7 HB7 ⊢
          clear HC6 HL6 HM6 HB6
          have e3 := HC7.out.x.c3
          have f3 := HC7.out.x.fz 3
          go_upto_region 11 with fail
          clear e3 f3
          have HC8 : Hid (Chn (W7.setCell ⟨c, 3, none⟩ (.int .i64 st)) c d bS bT u s base (a + blks b.length) st) := hide ⟨HC7.out.q.setC HC7.out.no _ _, HC7.out.x.set3 _, HC7.out.no⟩
          have HL8 := hide (HL7.out.setC (g := c) (by omega) HM7.out 3 (.int .i64 st))
          have HM8 : Hid (∀ q ∈ qs, Slp (fun b => (Value.slice la qs.length lk).ownBlock ≠ some b ∧ c < b) (W7.setCell ⟨c, 3, none⟩ (.int .i64 st)) q.2.1 q.2.2) := hide (fun q hq => (HM7.out q hq).keep (fun _ p _ => p) (fun b p _ => Below.heap_setCell _ _ _ _ (Nat.ne_of_gt p.2)))
          have HB8 := hide (HB7.out.setCell (p := ⟨c, 3, none⟩) HCW2.out (.int .i64 st))
          generalize W7.setCell ⟨c, 3, none⟩ (.int .i64 st) = W8 at HC8 HL8 HM8 HB8 ⊢
          clear HC7 HL7 HM7 HB7
          have x3 := HC8.out.x.c3
          go_wp2_with (first | (go_at_call 33; refine (record_any st _ HC8.out ⟨by omega, by omega⟩).mono ?_; rintro e W9 ⟨hr9, hb9⟩; obtain ⟨rb, rl, rk, rfl, hrs⟩ : ∃ vb lv ok, e = .returned (.tuple #[vb, lv, ok]) ∧ Rs W9 (Value.slice la qs.length lk) c (recS s.tk (a + blks b.length) st) vb lv ok := rs_of hr9 (fun b h1 => ⟨fun e => by have := (HL8.out.own.lt b e).2; omega, by have := HC8.out.x.lt; omega⟩); have HO9 : Hid (Ol w W9 c d bS bT u s base frm (Value.slice la qs.length lk) qs (a + blks b.length) st) := hide ⟨HC8.out.below hb9, HL8.out.below hb9, (fun q hq => (HM8.out q hq).below hb9), bt HB8.out hb9, HCW2.out, HOP2.out, ⟨by omega, by omega⟩, ⟨by omega, hst⟩, by have := HQL.out; omega⟩; have HS9 := hide hrs; clear hr9 hb9 hrs))
          have hm9 : iv ((W9.cell? ⟨c, 2, none⟩).getD undef) = a + blks b.length := by rw [HO9.out.ch.x.c2]; rfl
          exact ⟨⟨_, _, _, HO9.out, HS9.out⟩, by rw [hm9, HME.out]; omega⟩
end Go.Proofs.YtoamghncncalgaaGreatDoor
