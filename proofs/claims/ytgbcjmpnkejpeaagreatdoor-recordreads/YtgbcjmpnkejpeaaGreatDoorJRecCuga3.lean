/-
  A CURSOR's METHODS (castellanref05.Cursor) as functions of its state: Int. Conditions: its bytes' cells hold them, no more than four thousand bytes.
  A CURSOR's METHODS (castellanref05.Cursor) as functions of its state: Flag, Text, Row. Conditions: its bytes' cells hold them, no more than four thousand bytes.
  A CURSOR's METHODS (castellanref05.Cursor) as functions of its state: some, word, brokers, Refuse. Conditions: its bytes' cells hold them, no more than four thousand bytes.
-/
import Derived.Test.YtgbcjmpnkejpeaaGreatDoorJRecCui
import Derived.Test.YtgbcjmpnkejpeaaGreatDoorJRecCut
namespace Go.Proofs.YtgbcjmpnkejpeaaGreatDoor
open Go.RowKit

theorem st_gs (c : Int) (op : ByteArray) (n a : Nat) (h : c ≠ 0 → n = a) : stX c op (a : Int) (n : Int) = .agg #[.int .i64 ((mkS c op n a).pt : Int), .int .i64 (mkS c op n a).c, .string (mkS c op n a).op, .int .i64 (whS (mkS c op n a))] := by
  by_cases hc : c = 0
  · subst hc
    simp [stX, stv, mkS, okS, whS]
  · have := h hc
    subst this
    simp [stX, stv, mkS, whS, hc]
theorem CuG.cells {W : World} {p : Nat} {v : Value} {s : Gs} (h : CuG W p v s) : W.cell? ⟨p, 0, none⟩ = some v ∧ W.cell? ⟨p, 1, none⟩ = some (.int .i64 s.pt) ∧ W.cell? ⟨p, 2, none⟩ = some (.int .i64 s.c) ∧ W.cell? ⟨p, 3, none⟩ = some (.string s.op) ∧ W.cell? ⟨p, 4, none⟩ = some (.int .i64 (whS s)) := ⟨h.c0, h.c1, h.c2, h.c3, h.c4⟩
theorem cuint_gs (p : Nat) (v : Value) (l : List Int) (m : Int) (s : Gs) (w0 w : World) (hr : CuG w p v s) (hv : Sl bc w0 v l) (hW : Below w0.heap.size w0 w) (hl : l.length ≤ 4000) (hby : Byt l) (hs : s.pt ≤ l.length) (h0 : 0 ≤ m) (hm : m ≤ 1073741824) :
    Calls Tryz.prog 50 #[.pointer (some ⟨p, 0, none⟩), .int .i64 m] w fun e w' => e = .returned (.int .i64 (gN m l s).2) ∧ CuG w' p v (gN m l s).1 ∧ Bx p w w' := by
  have hp : p < w.heap.size := cell_block hr.c0
  have hF := fun W (h : Below w.heap.size w W) => (hr.below h).cells
  unfold gN
  by_cases hc : s.c = 0
  · rw [if_pos hc]
    have hrg := numS_range (l.drop s.pt) m (fun x hx => hby x (List.mem_of_mem_drop hx))
    rcases hq : numS (l.drop s.pt) m with ⟨c, k, n⟩
    rw [hq] at hrg
    simp only at hrg
    have hbad : c ≠ 0 → s.pt + k = s.pt := fun q => by have := (numS_bad hq q).1; omega
    have hask : askS l s.pt 1 m 0 = ⟨c, ⟨#[110, 117, 109]⟩, s.pt, s.pt + k, n, false, [], []⟩ := by
      unfold askS
      rw [if_pos (Or.inr rfl), abv', if_neg (by omega), hq]
    have hwr : IntKind.i64.wrap n = n := by rw [IntKind.wrap_i64]; omega
    refine (cuint_go p v s.pt s.c (whS s) (mkS c ⟨#[110, 117, 109]⟩ (s.pt + k) s.pt).pt (mkS c ⟨#[110, 117, 109]⟩ (s.pt + k) s.pt).c (whS (mkS c ⟨#[110, 117, 109]⟩ (s.pt + k) s.pt)) n m s.op (mkS c ⟨#[110, 117, 109]⟩ (s.pt + k) s.pt).op false 0 0 w hp hr.fz hwr hF (hide fun W h => ?_)).mono ?_
    · have hcall := refRead_any v l s.pt 1 m 0 (whS s) s.op w0 W hv (hW.trans (h.mono hW.size)) hl hby hs (by omega) (by omega)
      rw [hask] at hcall
      simp only at hcall
      rw [st_gs c _ _ _ hbad] at hcall
      rw [hc]
      refine hcall.mono ?_
      rintro e w' ⟨vt, vr, rfl, h1, h2, h3⟩
      obtain ⟨x1, x3, rfl⟩ := h1.sl.form
      obtain ⟨y1, y3, rfl⟩ := h2.sl.form
      exact ⟨x1, x3, y1, y3, rfl, h3⟩
    · rintro e w' ⟨rfl, ⟨a0, a1, a2, a3, a4⟩, h2, h3⟩
      exact ⟨rfl, ⟨a0, a1, a2, a3, a4, h2⟩, h3⟩
  · rw [if_neg hc]
    refine (cuint_go p v s.pt s.c (whS s) s.pt s.c (whS s) 0 m s.op s.op false 0 0 w hp hr.fz (by decide) hF (hide fun W h => ?_)).mono ?_
    · refine (read_err v s.pt s.c (whS s) 1 m 0 s.op W (by simpa using hc)).mono ?_
      rintro e w' ⟨rfl, h3⟩
      exact ⟨_, _, _, _, rfl, h3⟩
    · rintro e w' ⟨rfl, ⟨a0, a1, a2, a3, a4⟩, h2, h3⟩
      exact ⟨rfl, ⟨a0, a1, a2, a3, a4, h2⟩, h3⟩
end Go.Proofs.YtgbcjmpnkejpeaaGreatDoor
namespace Go.Proofs.YtgbcjmpnkejpeaaGreatDoor
open Go.RowKit

theorem cuflag_gs (p : Nat) (v : Value) (l : List Int) (s : Gs) (w0 w : World) (hr : CuG w p v s) (hv : Sl bc w0 v l) (hW : Below w0.heap.size w0 w) (hl : l.length ≤ 4000) (hby : Byt l) (hs : s.pt ≤ l.length) :
    Calls Tryz.prog 54 #[.pointer (some ⟨p, 0, none⟩)] w fun e w' => e = .returned (.bool (gF l s).2) ∧ CuG w' p v (gF l s).1 ∧ Bx p w w' := by
  have hp : p < w.heap.size := cell_block hr.c0
  have hF := fun W (h : Below w.heap.size w W) => (hr.below h).cells
  unfold gF
  by_cases hc : s.c = 0
  · rw [if_pos hc]
    have hbad : (flagS (l.drop s.pt)).1 ≠ 0 → s.pt + (flagS (l.drop s.pt)).2.1 = s.pt := by
      unfold flagS
      split
      · intro _; rfl
      · split
        · intro _; rfl
        · intro q; exact absurd rfl q
    have hask : askS l s.pt 2 0 0 = ⟨(flagS (l.drop s.pt)).1, ⟨#[102, 108, 97, 103]⟩, s.pt, s.pt + (flagS (l.drop s.pt)).2.1, 0, (flagS (l.drop s.pt)).2.2, [], []⟩ := rfl
    rcases hq : flagS (l.drop s.pt) with ⟨c, k, f⟩
    rw [hq] at hbad hask
    simp only at hbad hask
    refine (cuflag_go p v s.pt s.c (whS s) (mkS c ⟨#[102, 108, 97, 103]⟩ (s.pt + k) s.pt).pt (mkS c ⟨#[102, 108, 97, 103]⟩ (s.pt + k) s.pt).c (whS (mkS c ⟨#[102, 108, 97, 103]⟩ (s.pt + k) s.pt)) 0 s.op (mkS c ⟨#[102, 108, 97, 103]⟩ (s.pt + k) s.pt).op f 0 0 w hp hr.fz hF (hide fun W h => ?_)).mono ?_
    · have hcall := refRead_any v l s.pt 2 0 0 (whS s) s.op w0 W hv (hW.trans (h.mono hW.size)) hl hby hs (by decide) (by decide)
      rw [hask] at hcall
      simp only at hcall
      rw [st_gs c _ _ _ hbad] at hcall
      rw [hc]
      refine hcall.mono ?_
      rintro e w' ⟨vt, vr, rfl, h1, h2, h3⟩
      obtain ⟨x1, x3, rfl⟩ := h1.sl.form
      obtain ⟨y1, y3, rfl⟩ := h2.sl.form
      exact ⟨x1, x3, y1, y3, rfl, h3⟩
    · rintro e w' ⟨rfl, ⟨a0, a1, a2, a3, a4⟩, h2, h3⟩
      exact ⟨rfl, ⟨a0, a1, a2, a3, a4, h2⟩, h3⟩
  · rw [if_neg hc]
    refine (cuflag_go p v s.pt s.c (whS s) s.pt s.c (whS s) 0 s.op s.op false 0 0 w hp hr.fz hF (hide fun W h => ?_)).mono ?_
    · refine (read_err v s.pt s.c (whS s) 2 0 0 s.op W (by simpa using hc)).mono ?_
      rintro e w' ⟨rfl, h3⟩
      exact ⟨_, _, _, _, rfl, h3⟩
    · rintro e w' ⟨rfl, ⟨a0, a1, a2, a3, a4⟩, h2, h3⟩
      exact ⟨rfl, ⟨a0, a1, a2, a3, a4, h2⟩, h3⟩
theorem cutext_gs (p : Nat) (v : Value) (l : List Int) (s : Gs) (w0 w : World) (hr : CuG w p v s) (hv : Sl bc w0 v l) (hW : Below w0.heap.size w0 w) (hp0 : w0.heap.size ≤ p) (hl : l.length ≤ 4000) (hby : Byt l) (hs : s.pt ≤ l.length) :
    Calls Tryz.prog 97 #[.pointer (some ⟨p, 0, none⟩), .int .i64 256] w fun e w' => ∃ u, e = .returned u ∧ (convert 22 9 u).run Tryz.prog w' = .ok (.string ⟨((gT l s).2).toArray⟩) w' ∧ CuG w' p v (gT l s).1 ∧ Bx p w w' := by
  have hp : p < w.heap.size := cell_block hr.c0
  have hF := fun W (h : Below w.heap.size w W) => (hr.below h).cells
  unfold gT
  by_cases hc : s.c = 0
  · rw [if_pos hc]
    have hbad : (textS l s.pt 256).1 ≠ 0 → (textS l s.pt 256).2.2.1 = s.pt := by
      unfold textS
      simp only
      split
      · split
        · intro _; rfl
        · intro q; exact absurd rfl q
      · intro _; rfl
    have hask : askS l s.pt 3 256 0 = ⟨(textS l s.pt 256).1, (textS l s.pt 256).2.1, s.pt, (textS l s.pt 256).2.2.1, 0, false, (textS l s.pt 256).2.2.2, []⟩ := rfl
    have hbt := textS_byt l s.pt 256 hby
    rcases hq : textS l s.pt 256 with ⟨c, op, k, T⟩
    rw [hq] at hbad hask hbt
    simp only at hbad hask hbt
    refine (cutext_go p v s.pt s.c (whS s) (mkS c op k s.pt).pt (mkS c op k s.pt).c (whS (mkS c op k s.pt)) 0 256 s.op (mkS c op k s.pt).op false T.length 0 w hp hr.fz w0.heap.size hp0 T hF (hide fun W h => ?_)).mono ?_
    · have hcall := refRead_any v l s.pt 3 256 0 (whS s) s.op w0 W hv (hW.trans (h.mono hW.size)) hl hby hs (by decide) (by decide)
      rw [hask] at hcall
      simp only at hcall
      rw [st_gs c _ _ _ hbad] at hcall
      rw [hc]
      refine hcall.mono ?_
      rintro e w' ⟨vt, vr, rfl, h1, h2, h3⟩
      have h4 := h1.slk
      obtain ⟨x1, x3, rfl⟩ := h1.sl.form
      obtain ⟨y1, y3, rfl⟩ := h2.sl.form
      exact ⟨x1, x3, y1, y3, rfl, h4, h3⟩
    · rintro e w' ⟨z1, z3, rfl, h1, ⟨a0, a1, a2, a3, a4⟩, h2, h3⟩
      exact ⟨_, rfl, str_of h1.sl hbt, ⟨a0, a1, a2, a3, a4, h2⟩, h3⟩
  · rw [if_neg hc]
    refine (cutext_go p v s.pt s.c (whS s) s.pt s.c (whS s) 0 256 s.op s.op false 0 0 w hp hr.fz w0.heap.size hp0 [] hF (hide fun W h => ?_)).mono ?_
    · refine (read_err v s.pt s.c (whS s) 3 256 0 s.op W (by simpa using hc)).mono ?_
      rintro e w' ⟨rfl, h3⟩
      exact ⟨_, _, _, _, rfl, .inl ⟨_, _, rfl, rfl⟩, h3⟩
    · rintro e w' ⟨z1, z3, rfl, h1, ⟨a0, a1, a2, a3, a4⟩, h2, h3⟩
      exact ⟨_, rfl, str_of (Sl.nil _ _ _ _) (fun x hx => by simp at hx), ⟨a0, a1, a2, a3, a4, h2⟩, h3⟩
theorem curow_gs (p : Nat) (v : Value) (l : List Int) (s : Gs) (w0 w : World) (hr : CuG w p v s) (hv : Sl bc w0 v l) (hW : Below w0.heap.size w0 w) (hl : l.length ≤ 4000) (hby : Byt l) (hs : s.pt ≤ l.length) :
    Calls Tryz.prog 98 #[.pointer (some ⟨p, 0, none⟩), .int .i64 7, .int .i64 64] w fun e w' => ∃ u, e = .returned u ∧ Sli (fun b => w.heap.size ≤ b) w' u (gR l s).2 ∧ CuG w' p v (gR l s).1 ∧ Bx p w w' := by
  have hp : p < w.heap.size := cell_block hr.c0
  have hF := fun W (h : Below w.heap.size w W) => (hr.below h).cells
  have sli : ∀ {W : World} {u : Value} {T : List Int}, Slk (fun b => w.heap.size ≤ b) ic W u T → Sli (fun b => w.heap.size ≤ b) W u T := fun h => by
    rcases h with h | ⟨b, o, cap, h1, h2, h3, _, h5⟩
    · exact .inl h
    · exact .inr ⟨b, o, cap, h1, h2, h3, h5⟩
  unfold gR
  by_cases hc : s.c = 0
  · rw [if_pos hc]
    have hask : askS l s.pt 4 7 64 = ⟨(rowS l s.pt 7 64).1, ⟨#[110, 117, 109]⟩, (rowS l s.pt 7 64).2.1, (rowS l s.pt 7 64).2.1, 0, false, [], rowR (rowS l s.pt 7 64)⟩ := rfl
    generalize rowR (rowS l s.pt 7 64) = T at hask ⊢
    generalize (rowS l s.pt 7 64).1 = c at hask ⊢
    generalize (rowS l s.pt 7 64).2.1 = k at hask ⊢
    refine (curow_go p v s.pt s.c (whS s) (mkS c ⟨#[110, 117, 109]⟩ k k).pt (mkS c ⟨#[110, 117, 109]⟩ k k).c (whS (mkS c ⟨#[110, 117, 109]⟩ k k)) 0 7 64 s.op (mkS c ⟨#[110, 117, 109]⟩ k k).op false 0 T.length w hp hr.fz T hF (hide fun W h => ?_)).mono ?_
    · have hcall := refRead_any v l s.pt 4 7 64 (whS s) s.op w0 W hv (hW.trans (h.mono hW.size)) hl hby hs (by decide) (by decide)
      rw [hask] at hcall
      simp only at hcall
      rw [st_gs c _ _ _ (fun _ => rfl)] at hcall
      rw [hc]
      refine hcall.mono ?_
      rintro e w' ⟨vt, vr, rfl, h1, h2, h3⟩
      have h4 : Slk (fun b => W.heap.size ≤ b) ic w' vr T := h2.slk.imp (fun b _ q => by omega) (fun _ _ _ _ => rfl)
      obtain ⟨x1, x3, rfl⟩ := h1.sl.form
      obtain ⟨y1, y3, rfl⟩ := h2.sl.form
      exact ⟨x1, x3, y1, y3, rfl, h4, h3⟩
    · rintro e w' ⟨z1, z3, rfl, h1, ⟨a0, a1, a2, a3, a4⟩, h2, h3⟩
      exact ⟨_, rfl, sli h1, ⟨a0, a1, a2, a3, a4, h2⟩, h3⟩
  · rw [if_neg hc]
    refine (curow_go p v s.pt s.c (whS s) s.pt s.c (whS s) 0 7 64 s.op s.op false 0 0 w hp hr.fz [] hF (hide fun W h => ?_)).mono ?_
    · refine (read_err v s.pt s.c (whS s) 4 7 64 s.op W (by simpa using hc)).mono ?_
      rintro e w' ⟨rfl, h3⟩
      exact ⟨_, _, _, _, rfl, .inl ⟨_, _, rfl, rfl⟩, h3⟩
    · rintro e w' ⟨z1, z3, rfl, h1, ⟨a0, a1, a2, a3, a4⟩, h2, h3⟩
      exact ⟨_, rfl, sli h1, ⟨a0, a1, a2, a3, a4, h2⟩, h3⟩
end Go.Proofs.YtgbcjmpnkejpeaaGreatDoor
namespace Go.Proofs.YtgbcjmpnkejpeaaGreatDoor
open Go.RowKit

theorem cusome_gs (p : Nat) (v : Value) (l : List Int) (asks : Bool) (s : Gs) (w0 w : World) (hr : CuG w p v s) (hv : Sl bc w0 v l) (hW : Below w0.heap.size w0 w) (hl : l.length ≤ 4000) (hby : Byt l) (hs : s.pt ≤ l.length) :
    Calls Tryz.prog 52 #[.pointer (some ⟨p, 0, none⟩), .bool asks] w fun e w' => e = .returned (.int .i64 (if asks then (gN 1073741824 l s).2 else 0)) ∧ CuG w' p v (if asks then (gN 1073741824 l s).1 else s) ∧ Bx p w w' := by
  have HC := hide (cuint_gs p v l 1073741824 s w0 w hr hv hW hl hby hs (by decide) (by decide))
  have HR := hide hr
  generalize gN 1073741824 l s = G at *
  clear hr hv hW
  cases asks with
  | true =>
    go_enter Tryz.func52, Tryz.ntmps52
    go_wp2_with (first | (go_at_call 50; refine HC.out.mono ?_; rintro e w1 ⟨rfl, h1, h2⟩; have H1 := hide h1; have H2 := hide h2; clear h1 h2))
    go_ret
    exact ⟨rfl, by simpa using H1.out, H2.out⟩
  | false =>
    go_enter Tryz.func52, Tryz.ntmps52
    go_wp2_with fail
    go_ret
    exact ⟨rfl, by simpa using HR.out, Bx.refl _ _⟩
theorem cubrok_gs (p : Nat) (v : Value) (l : List Int) (asks : Bool) (s : Gs) (w0 w : World) (hr : CuG w p v s) (hv : Sl bc w0 v l) (hW : Below w0.heap.size w0 w) (hl : l.length ≤ 4000) (hby : Byt l) (hs : s.pt ≤ l.length) :
    Calls Tryz.prog 56 #[.pointer (some ⟨p, 0, none⟩), .bool asks] w fun e w' => ∃ u, e = .returned u ∧ Sli (fun b => w.heap.size ≤ b) w' u (if asks then (gR l s).2 else []) ∧ CuG w' p v (if asks then (gR l s).1 else s) ∧ Bx p w w' := by
  have HC := hide (curow_gs p v l s w0 w hr hv hW hl hby hs)
  have HR := hide hr
  generalize gR l s = G at *
  clear hr hv hW
  cases asks with
  | true =>
    go_enter Tryz.func56, Tryz.ntmps56
    go_wp2_with (first | (go_at_call 98; refine HC.out.mono ?_; rintro e w1 ⟨u, rfl, h0, h1, h2⟩; have H0 := hide h0; have H1 := hide h1; have H2 := hide h2; clear h0 h1 h2))
    go_ret
    exact ⟨_, rfl, by simpa using H0.out, by simpa using H1.out, H2.out⟩
  | false =>
    go_enter Tryz.func56, Tryz.ntmps56
    go_wp2_with fail
    go_ret
    exact ⟨_, rfl, Sli.nil _ _ _ _, by simpa using HR.out, Bx.refl _ _⟩
set_option maxRecDepth 100000 in
theorem cuword_gs (p : Nat) (v : Value) (l : List Int) (asks : Bool) (s : Gs) (w0 w : World) (hr : CuG w p v s) (hv : Sl bc w0 v l) (hW : Below w0.heap.size w0 w) (hp0 : w0.heap.size ≤ p) (hl : l.length ≤ 4000) (hby : Byt l) (hs : s.pt ≤ l.length) :
    Calls Tryz.prog 55 #[.pointer (some ⟨p, 0, none⟩), .bool asks] w fun e w' => e = .returned (.string ⟨(if asks then (gT l s).2 else []).toArray⟩) ∧ CuG w' p v (if asks then (gT l s).1 else s) ∧ Bx p w w' := by
  have HC := hide (cutext_gs p v l s w0 w hr hv hW hp0 hl hby hs)
  have HR := hide hr
  generalize gT l s = G at *
  clear hr hv hW
  cases asks with
  | true =>
    go_enter Tryz.func55, Tryz.ntmps55
    go_wp2_with (first | (go_at_call 97; refine HC.out.mono ?_; rintro e w1 ⟨u, rfl, h0, h1, h2⟩; have H1 := hide h1; have H2 := hide h2; clear h1 h2))
    go_ret
    exact ⟨rfl, by simpa using H1.out, H2.out⟩
  | false =>
    go_enter Tryz.func55, Tryz.ntmps55
    go_wp2_with fail
    go_ret
    exact ⟨rfl, by simpa using HR.out, Bx.refl _ _⟩
end Go.Proofs.YtgbcjmpnkejpeaaGreatDoor
