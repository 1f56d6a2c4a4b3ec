/-
  AN ACT OF BOTH CHAINS: what each answers, and in which state both are then (Append, Cut, Trim). Conditions: fewer than forty acts, no more than three thousand bytes.
-/
import Derived.Test.YtoamghncncalgaaGreatDoorJDocSm
namespace Go.Proofs.YtoamghncncalgaaGreatDoor
open Go.RowKit

/-- How far it has come behind so many acts. -/
structure Bn (k : Nat) (base room : Int) (s : Dst) (frm nx sp : Int) : Prop where
  ok : s.Ok
  kb : KB (256 + 66 * (k : Int)) s
  nx : 0 ≤ nx ∧ nx ≤ 256 + 66 * (k : Int)
  fr : base ≤ frm ∧ frm ≤ 256 + 66 * (k : Int)
  wt : (s.wt : Int) ≤ 67 * (k : Int) + frm
  sp : 1 ≤ sp ∧ sp ≤ 1152921504606846977 + 67 * (k : Int)
  rm : s.room = room
  bs : 0 ≤ base ∧ base ≤ 255
  kk : k ≤ 40
section
variable {k : Nat} {base room : Int} {s : Dst} {frm nx sp : Int}
theorem Bn.w (h : Bn k base room s frm nx sp) : s.wt < 5700 ∧ s.cs.length + s.lo.length < 5700 ∧ nx ≤ 2900 ∧ frm ≤ 2900 ∧ sp ≤ 2305843009213693952 := by
  have h1 := h.wt
  have h2 := h.fr
  have h3 := h.nx
  have h4 := h.sp
  have h5 := h.kk
  have h6 : s.wt = s.cs.length + s.lo.length := rfl
  refine ⟨by omega, by omega, by omega, by omega, by omega⟩
theorem Bn.next (h : Bn k base room s frm nx sp) (hk : k < 40) : Bn (k + 1) base room s frm nx sp :=
  ⟨h.ok, h.kb.mono (by omega), ⟨h.nx.1, by have := h.nx; omega⟩, ⟨h.fr.1, by have := h.fr; omega⟩, by have := h.wt; omega, ⟨h.sp.1, by have := h.sp; omega⟩, h.rm, h.bs, by omega⟩
theorem pS_okD {n : Nat} {a st : Int} {b : List Int} (h : s.Ok) (ha : 0 ≤ a) (ha2 : a + n ≤ 1073741824) (hb : Byt b) (hl : b.length ≤ 16448) : (pS s a st b n).Ok := ⟨h.asc, h.cb, fun x hx => by
  rcases List.mem_append.1 hx with e | e
  · exact h.lb x e
  · obtain ⟨i, hi, rfl⟩ := List.mem_map.1 e
    have := List.mem_range.1 hi
    exact ⟨⟨by show 0 ≤ a + (i : Int); omega, by show a + (i : Int) ≤ 1073741824; omega⟩, blkOf_blk _ _ (fun y hy => hb y (List.mem_of_mem_drop hy)) (by rw [List.length_drop]; omega), fun q => by cases q⟩⟩
theorem frN_okL {l : List Int} (h : s.Ok) (hl : ∀ x ∈ l, Num x) : (frN s l).Ok := ⟨h.asc, h.cb, fun x hx => by
  rcases List.mem_append.1 hx with e | e
  · exact h.lb x e
  · obtain ⟨y, hy, rfl⟩ := List.mem_map.1 e
    exact ⟨hl y hy, blk_zer, fun _ => rfl⟩⟩
theorem frN_okD {lo hi : Int} (h : s.Ok) : (frN s (rngN lo hi s.cs)).Ok := frN_okL h (fun x hx => by
  obtain ⟨p, hp, _, rfl⟩ := mem_rngN.1 hx
  exact (h.cb p hp).1)
theorem frN_okT {a : Int} {n : Nat} (h : s.Ok) (ha : 0 ≤ a) (hn : a + n ≤ 1073741825) : (frN s (trL a n)).Ok := frN_okL h (fun x hx => by
  have := mem_trL.1 hx
  exact ⟨by omega, by omega⟩)
/-- A record is appended. -/
theorem act_app {c d bS bT : Nat} (h : Bn k base room s frm nx sp) (hk : k < 40) (b : List Int) (hl : b.length ≤ 3000) (hby : Byt b) : ∃ (at_ code : Int) (t : Dst) (ny sy : Int), Bn (k + 1) base room t frm ny sy ∧
    (∀ (W : World) (u : Value) (ao : Option Addr) (cap : Nat), Chn W c d bS bT u s base nx sp → (∀ W' u', Dx d bS bT u W W' u' → Sl bc W' (.slice ao b.length cap) b) → Calls Tryz.prog 10 #[.pointer (some ⟨c, 0, none⟩), .slice ao b.length cap] W fun e w' => ∃ u' er, e = .returned (.tuple #[.int .i64 at_, ev er]) ∧ Chn w' c d bS bT u' t base ny sy ∧ Cx c d bS bT u W w' u' ∧ ofV er = code) ∧
    (∀ (W : World) (P : Nat → Prop) (a1 a2 : Option Addr) (n1 k1 n2 k2 : Nat) (ao : Option Addr) (cap : Nat), Dd W P (.agg #[.int .i64 s.room, .slice a1 n1 k1, .slice a2 n2 k2]) s → Sl bc W (.slice ao b.length cap) b → Calls Tryz.prog 11 #[.agg #[.int .i64 s.room, .slice a1 n1 k1, .slice a2 n2 k2, .int .i64 base, .int .i64 nx, .int .i64 sp], .slice ao b.length cap] W fun e w' => ArP W w' P e s base nx sp at_ code t ny sy) := by
  have hw := h.w
  by_cases h0 : b.length = 0
  · refine ⟨0, 6, s, nx, sp, h.next hk, fun W u ao cap hc _ => ?_, fun W P a1 a2 n1 k1 n2 k2 ao cap hd _ => rappend_lim a1 a2 n1 k1 n2 k2 s base nx sp ao b.length cap W hd (.inl h0)⟩
    refine (append_lim c b.length cap ao W (.inl h0)).mono ?_
    rintro e w' ⟨rfl, rfl⟩
    exact ⟨u, _, rfl, hc, Cx.of Dx.refl, rfl⟩
  · obtain ⟨n, hn⟩ : ∃ n : Nat, blks (b.length : Int) = (n : Int) := ⟨(blks (b.length : Int)).toNat, by have := blks_pos (b.length : Int); omega⟩
    have hn66 : (n : Int) ≤ 66 := by rw [← hn]; unfold blks; split <;> omega
    have hbl : 0 < b.length ∧ b.length ≤ 16448 := by omega
    have hnx := h.nx
    have hsp := h.sp
    by_cases hf : s.room < (s.tk.length : Int) + n
    · refine ⟨0, 7, s, nx, sp, h.next hk, fun W u ao cap hc _ => ?_, fun W P a1 a2 n1 k1 n2 k2 ao cap hd _ => rappend_full a1 a2 n1 k1 n2 k2 s base nx sp ao cap b n W hd h.ok (by omega) hbl hn hf⟩
      refine (append_full1 ao cap b n W hc hbl hn (by omega) ⟨hnx.1, by omega⟩ (decide_eq_true hf)).mono ?_
      rintro e w' ⟨rfl, h1, h2⟩
      exact ⟨u, _, rfl, h1, Cx.of h2, rfl⟩
    · refine ⟨nx, 0, pS s nx sp b n, nx + n, sp + n, ?_, fun W u ao cap hc hv => ?_, fun W P a1 a2 n1 k1 n2 k2 ao cap hd hv => rappend_ok a1 a2 n1 k1 n2 k2 s base nx sp _ b n W hd h.ok (by omega) hbl hn hv hby ⟨hnx.1, by omega⟩ ⟨by omega, by omega⟩ (by omega)⟩
      · have h1 := pS_wt s nx sp b n
        have h2 := h.wt
        have h3 := h.fr
        exact ⟨pS_okD h.ok hnx.1 (by omega) hby (by omega), (h.kb.mono (K := 256 + 66 * ((k + 1 : Nat) : Int)) (by omega)).pS (by omega), ⟨by omega, by omega⟩, ⟨h3.1, by omega⟩, by omega, ⟨by omega, by omega⟩, h.rm, h.bs, by omega⟩
      · refine (append_ok ao cap b n W hc hbl hn (by omega) ⟨hnx.1, by omega⟩ hv hby ⟨by omega, by omega⟩ (by omega) (by omega)).mono ?_
        rintro e w' ⟨u', rfl, h1, h2⟩
        exact ⟨u', none, rfl, h1, h2, rfl⟩
/-- It is cut. -/
theorem act_cut {c d bS bT : Nat} (h : Bn k base room s frm nx sp) (hk : k < 40) (a : Int) : ∃ (code : Int) (t : Dst) (ny sy : Int), Bn (k + 1) base room t frm ny sy ∧
    (∀ (W : World) (u : Value), Chn W c d bS bT u s base nx sp → Calls Tryz.prog 18 #[.pointer (some ⟨c, 0, none⟩), .int .i64 a] W fun e w' => ∃ u' er, e = .returned (ev er) ∧ Chn w' c d bS bT u' t base ny sy ∧ Cx c d bS bT u W w' u' ∧ ofV er = code) ∧
    (∀ (W : World) (P : Nat → Prop) (a1 a2 : Option Addr) (n1 k1 n2 k2 : Nat), Dd W P (.agg #[.int .i64 s.room, .slice a1 n1 k1, .slice a2 n2 k2]) s → Calls Tryz.prog 17 #[.agg #[.int .i64 s.room, .slice a1 n1 k1, .slice a2 n2 k2, .int .i64 base, .int .i64 nx, .int .i64 sp], .int .i64 a] W fun e w' => ∃ v, e = .returned (.tuple #[v, .int .i64 code]) ∧ Dc w' (fun k => P k ∨ W.heap.size ≤ k) v t base ny sy ∧ Below W.heap.size W w') := by
  have hw := h.w
  have hnx := h.nx
  have hsp := h.sp
  have hbs := h.bs
  by_cases hr : base ≤ a ∧ a ≤ nx
  · by_cases he : a = nx
    · refine ⟨0, s, nx, sp, h.next hk, fun W u hc => ?_, fun W P a1 a2 n1 k1 n2 k2 hd => rcut_same a1 a2 n1 k1 n2 k2 s base nx sp a W hd ⟨hr.1, he⟩⟩
      refine (cutC_same a W hc hr.1 he).mono ?_
      rintro e w' ⟨rfl, rfl⟩
      exact ⟨u, none, rfl, hc, Cx.of Dx.refl, rfl⟩
    · have hN : Num a := ⟨by omega, by omega⟩
      obtain ⟨m, hm⟩ : ∃ m : Nat, nx = a + 1 + (m : Int) := ⟨(nx - a - 1).toNat, by omega⟩
      by_cases hroom : (look s.tk a).isSome = true ∨ (s.tk.length : Int) < s.room
      · have hcu := cu_ok (sp := sp) hN hroom
        refine ⟨0, cutS s a sp nx, a + 1, sp + 1, ?_, fun W u hc => ?_, fun W P a1 a2 n1 k1 n2 k2 hd => ?_⟩
        · have h1 := cutS_wt (a := a) (sp := sp) (nx := nx) h.ok.asc
          have h2 := h.wt
          have h3 := h.fr
          refine ⟨?_, (h.kb.mono (K := 256 + 66 * ((k + 1 : Nat) : Int)) (by omega)).cut (by omega) (by omega), ⟨by omega, by omega⟩, ⟨h3.1, by omega⟩, by omega, ⟨by omega, by omega⟩, h.rm, h.bs, by omega⟩
          exact syS_ok (frN_okD (syS_ok (pS_okD (n := 1) h.ok hN.1 (by omega) (fun x hx => by simp at hx) (by decide))))
        · refine (cut_ok a W hc hbs.1 hr.1 (by omega) (by omega) hroom (by omega) ⟨by omega, by omega⟩).mono ?_
          rintro e w' ⟨u', rfl, h1, h2⟩
          exact ⟨u', none, rfl, h1, h2, rfl⟩
        · have i := rcut_ok a1 a2 n1 k1 n2 k2 s base nx sp a m W hd h.ok (by omega) hbs.1 hr.1 hm (by omega) (by omega) ⟨by omega, by omega⟩ hcu.1
          rw [hcu.2, cut_eq h.ok.asc hm] at i
          exact i
      · have hcu := cu_full (sp := sp) hN hroom
        refine ⟨7, s, nx, sp, h.next hk, fun W u hc => ?_, fun W P a1 a2 n1 k1 n2 k2 hd => rcut_full a1 a2 n1 k1 n2 k2 s base nx sp a m W hd h.ok (by omega) hbs.1 hr.1 hm (by omega) (by omega) ⟨by omega, by omega⟩ hcu.1⟩
        refine (cutC_full a W hc hN hr.1 (by omega) hroom (by omega) ⟨by omega, by omega⟩).mono ?_
        rintro e w' ⟨rfl, h1, h2⟩
        exact ⟨u, _, rfl, h1, Cx.of (Dx.of h2), rfl⟩
  · have hc2 : a < base ∨ (base ≤ a ∧ nx < a) := by omega
    refine ⟨2, s, nx, sp, h.next hk, fun W u hc => ?_, fun W P a1 a2 n1 k1 n2 k2 hd => rcut_bad a1 a2 n1 k1 n2 k2 s base nx sp a W hd hc2⟩
    refine (cutC_bad a W hc hc2).mono ?_
    rintro e w' ⟨rfl, rfl⟩
    exact ⟨u, _, rfl, hc, Cx.of Dx.refl, rfl⟩
/-- It is trimmed. -/
theorem act_trim {c d bS bT : Nat} (h : Bn k base room s frm nx sp) (hk : k < 40) (a : Int) : ∃ (code : Int) (t : Dst), Bn (k + 1) base room t (if code = 0 then a else frm) nx sp ∧
    (∀ (W : World) (u : Value), Chn W c d bS bT u s base nx sp → Calls Tryz.prog 20 #[.pointer (some ⟨c, 0, none⟩), .int .i64 frm, .int .i64 a] W fun e w' => ∃ u' er, e = .returned (ev er) ∧ Chn w' c d bS bT u' t base nx sp ∧ Cx c d bS bT u W w' u' ∧ ofV er = code) ∧
    (∀ (W : World) (P : Nat → Prop) (a1 a2 : Option Addr) (n1 k1 n2 k2 : Nat), Dd W P (.agg #[.int .i64 s.room, .slice a1 n1 k1, .slice a2 n2 k2]) s → Calls Tryz.prog 19 #[.agg #[.int .i64 s.room, .slice a1 n1 k1, .slice a2 n2 k2, .int .i64 base, .int .i64 nx, .int .i64 sp], .int .i64 frm, .int .i64 a] W fun e w' => ∃ v, e = .returned (.tuple #[v, .int .i64 code]) ∧ Dc w' (fun k => P k ∨ W.heap.size ≤ k) v t base nx sp ∧ Below W.heap.size W w') := by
  have hw := h.w
  have hnx := h.nx
  have hfr := h.fr
  have hbs := h.bs
  by_cases hr : frm ≤ a ∧ a ≤ nx
  · obtain ⟨n, hn⟩ : ∃ n : Nat, a = frm + (n : Int) := ⟨(a - frm).toNat, by omega⟩
    subst hn
    refine ⟨0, frN s (trL frm n), ?_, fun W u hc => ?_, fun W P a1 a2 n1 k1 n2 k2 hd => rtrim_ok a1 a2 n1 k1 n2 k2 s base nx sp frm n W hd hbs.1 hfr.1 hr.2 (by omega) (by omega)⟩
    · have h1 := frN_wt s (trL frm n)
      rw [trL_len] at h1
      have h2 := h.wt
      have h3 := h.sp
      rw [if_pos rfl]
      exact ⟨frN_okT h.ok (by omega) (by omega), (h.kb.mono (K := 256 + 66 * ((k + 1 : Nat) : Int)) (by omega)).frN (by omega), ⟨hnx.1, by omega⟩, ⟨by omega, by omega⟩, by omega, ⟨h3.1, by omega⟩, h.rm, h.bs, by omega⟩
    · refine (trim_ok frm n W hc hbs.1 hfr.1 hr.2 (by omega) (by omega)).mono ?_
      rintro e w' ⟨u', rfl, h1, h2⟩
      exact ⟨u', none, rfl, h1, Cx.of h2, rfl⟩
  · have hc2 : frm < base ∨ (base ≤ frm ∧ (a < frm ∨ (frm ≤ a ∧ nx < a))) := by omega
    refine ⟨2, s, by rw [if_neg (by decide)]; exact h.next hk, fun W u hc => ?_, fun W P a1 a2 n1 k1 n2 k2 hd => rtrim_bad a1 a2 n1 k1 n2 k2 s base nx sp frm a W hd hc2⟩
    refine (trimC_bad frm a W hc hc2).mono ?_
    rintro e w' ⟨rfl, rfl⟩
    exact ⟨u, _, rfl, hc, Cx.of Dx.refl, rfl⟩
theorem Bn.sync (h : Bn k base room s frm nx sp) (hk : k < 40) : Bn (k + 1) base room (syS s) frm nx sp := by
  have i := h.next hk
  have h1 := syS_wt h.ok
  have h2 := i.wt
  exact ⟨syS_ok h.ok, i.kb.sync, i.nx, i.fr, by omega, i.sp, h.rm, h.bs, i.kk⟩
theorem Bn.crash (h : Bn k base room s frm nx sp) (ks : List Int) (cut : Int) : Bn k base room (crS s ks cut) frm nx sp := by
  have h1 := crS_wt h.ok ks cut
  have h2 := h.wt
  exact ⟨crS_ok h.ok ks cut, h.kb.crash ks cut, h.nx, h.fr, by omega, h.sp, h.rm, h.bs, h.kk⟩
/-- It is opened again. -/
theorem Bn.open (h : Bn k base room s frm nx sp) (hk : k < 40) {L : List Lk} {x y : Int} (ho : Opn s.tk frm 0 L x y) : Bn (k + 1) base room s frm x (max y (hiS base s.cs) + 1) := by
  have i := h.next hk
  have hb : ∀ q, Blk (vw s.tk q) := fun q => vw_blk h.ok.tb q
  have h1 := ho.hi hb h.kb.tk (Int.le_refl _) h.fr.2
  have h2 := ho.le
  have h3 := ho.last_bd hb ⟨Int.le_refl _, by decide⟩
  have h4 := hiS_bd (base := base) (l := s.cs) (fun p hp => (h.ok.cb p hp).2)
  have h5 := h.bs
  have h6 := h.fr
  exact ⟨h.ok, i.kb, ⟨by omega, by omega⟩, i.fr, i.wt, ⟨by omega, by omega⟩, h.rm, h.bs, i.kk⟩
end
end Go.Proofs.YtoamghncncalgaaGreatDoor
