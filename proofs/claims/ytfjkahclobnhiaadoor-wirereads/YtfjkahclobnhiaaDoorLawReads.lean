/-
  WHATEVER IS READ FROM ANY BYTES, ONE THING BEHIND THE OTHER, AND WHAT IS WRONG FIRST, AND WHERE, IS WHAT THE CHAPTER SAYS: WireReads answers true. Conditions: the slices' cells hold bytes and things to be read; errors.errorType holds the handle of the type error.
-/
import Derived.Test.YtfjkahclobnhiaaDoorWrong
import Derived.Test.YtfjkahclobnhiaaDoorWrowd
namespace Go.Proofs.YtfjkahclobnhiaaDoor
open Go.RowKit

set_option maxRecDepth 100000 in
set_option maxHeartbeats 8000000 in
theorem reads_out (xo ao : Option Addr) (X S xc sc : Nat) (w : World) (hg : Hnd w) (hX : X ≤ 9223372036854775807) (hS : S ≤ 9223372036854775807) (h : 2000 < X ∨ (¬ 2000 < X ∧ 60 < S)) :
    Calls Tryd.prog 4 #[.slice xo X xc, .slice ao S sc] w fun e w' => e = .returned (.bool true) ∧ Below w.heap.size w w' := by
  have HW := hide (works_any w hg)
  clear hg
  rcases h with h1 | ⟨h1, h2⟩
  all_goals
    go_enter Tryd.func4, Tryd.ntmps4
    go_wp2_with (first | (go_at_call 8; refine (HW.out).mono ?_; rintro e w' ⟨rfl, hb⟩))
    go_ret
    exact ⟨rfl, hb⟩
/-- A reader's error and a state's say the same. -/
def Agr (E : Value) (C : Int) (OP : ByteArray) (WH : Int) : Prop := (E = .nilIface ∧ C = 0) ∨ (C ≠ 0 ∧ E = ft OP WH C)
theorem Agr.wrong {E : Value} {C WH : Int} {OP : ByteArray} (h : Agr E C OP WH) (A : Int) (w : World) (hg : Hnd w) : Calls Tryd.prog 25 #[E, .agg #[.int .i64 A, .int .i64 C, .string OP, .int .i64 WH]] w fun e w' => e = .returned (.bool true) ∧ Below w.heap.size w w' := by
  rcases h with ⟨rfl, rfl⟩ | ⟨_, rfl⟩
  · exact wrong_nil A WH OP w
  · exact wrong_ft OP WH C A w hg
theorem stX_agr (c : Int) (op : ByteArray) (wh next : Int) : ∃ C OP WH, stX c op wh next = .agg #[.int .i64 next, .int .i64 C, .string OP, .int .i64 WH] ∧ Agr (erN op wh c) C OP WH := by
  unfold stX erN stv
  by_cases hc : c = 0
  · rw [if_pos hc, if_pos hc]
    exact ⟨_, _, _, rfl, .inl ⟨rfl, rfl⟩⟩
  · rw [if_neg hc, if_neg hc]
    exact ⟨_, _, _, rfl, .inr ⟨hc, rfl⟩⟩
theorem rowI_count {l : List Int} {most : Int} (hb : Byt l) (a j : Nat) : (rowI l most a j).2.2.length + a ≤ (rowI l most a j).2.1 := by
  induction j with
  | zero => simp [rowI]
  | succ j ih =>
    by_cases h : (rowI l most a j).1 = 0
    · rcases hq : numS (l.drop (rowI l most a j).2.1) most with ⟨c, k, x⟩
      by_cases hc : c = 0
      · subst hc
        rw [rowI_ok h hq]
        obtain ⟨_, hkn, _, _, _, _⟩ := numS_once (hb.drop _) hq
        have hk1 : 1 ≤ k := by rw [hkn]; unfold numL; split; · simp
                               split; · simp
                               split <;> simp
        show ((rowI l most a j).2.2 ++ [x]).length + a ≤ (rowI l most a j).2.1 + k
        simp
        omega
      · rw [rowI_bad h hq hc]
        exact ih
    · rw [rowI_stays h 1]
      exact ih
theorem askS_len (l : List Int) (a : Nat) (K M E : Int) (hb : Byt l) (ha : a ≤ l.length) : (askS l a K M E).t.length ≤ l.length ∧ (askS l a K M E).r.length ≤ l.length := by
  have h1 := numS_next (most := abv' M) (hb.drop a)
  rw [List.length_drop] at h1
  unfold askS
  split
  · exact ⟨Nat.zero_le _, Nat.zero_le _⟩
  · split
    · exact ⟨Nat.zero_le _, Nat.zero_le _⟩
    · split
      · refine ⟨?_, Nat.zero_le _⟩
        show (textS l a M).2.2.2.length ≤ _
        unfold textS
        simp only
        split
        · split
          · exact Nat.zero_le _
          · simp only [List.length_take, List.length_drop]
            omega
        · exact Nat.zero_le _
      · refine ⟨Nat.zero_le _, ?_⟩
        show (rowR (rowS l a M E)).length ≤ _
        unfold rowR
        split
        · unfold rowS
          simp only
          split
          · have h2 := rowI_count (most := abv' E) hb (a + (numS (l.drop a) (abv' M)).2.1) (numS (l.drop a) (abv' M)).2.2.toNat
            have h3 := rowI_next (most := abv' E) hb (show a + (numS (l.drop a) (abv' M)).2.1 ≤ l.length by omega) (numS (l.drop a) (abv' M)).2.2.toNat
            omega
          · exact Nat.zero_le _
        · exact Nat.zero_le _
/-- Both sides of one question. -/
theorem both_ask (ao : Option Addr) (cap : Nat) (b : List Int) (a : Nat) (E : Value) (C WH : Int) (OP : ByteArray) (K M EE : Int) (h : Agr E C OP WH) (hl : b.length ≤ 2000) (hby : Byt b) (ha : a ≤ b.length) (hM : M ≤ 9223372036854775807) (hE : EE ≤ 9223372036854775807) :
    ∃ (n : Int) (f : Bool) (t r : List Int) (a' : Nat) (E' : Value) (C' WH' : Int) (OP' : ByteArray), Agr E' C' OP' WH' ∧ a' ≤ b.length ∧ t.length ≤ 40000 ∧ r.length ≤ 40000 ∧
      (∀ p W, Rd W p (.slice ao b.length cap) a E → Slx p bc W (.slice ao b.length cap) b → Calls Tryd.prog 21 #[.pointer (some ⟨p, 0, none⟩), .agg #[.int .i64 K, .int .i64 M, .int .i64 EE]] W fun x w' => ∃ vt vr, x = .returned (.agg #[.int .u64 n, .bool f, vt, vr]) ∧ Sl bc w' vt t ∧ Sld 0 W.heap.size ic w' vr r ∧ Rd w' p (.slice ao b.length cap) a' E' ∧ Bx p W w') ∧
      (∀ w0 W, Sl bc w0 (.slice ao b.length cap) b → Below w0.heap.size w0 W → Calls Tryd.prog 22 #[.slice ao b.length cap, .agg #[.int .i64 a, .int .i64 C, .string OP, .int .i64 WH], .agg #[.int .i64 K, .int .i64 M, .int .i64 EE]] W fun e w' => ∃ vt vr, e = .returned (.tuple #[.agg #[.int .i64 a', .int .i64 C', .string OP', .int .i64 WH'], .agg #[.int .u64 n, .bool f, vt, vr]]) ∧ Sld w0.heap.size W.heap.size bc w' vt t ∧ Sld 0 W.heap.size ic w' vr r ∧ Below W.heap.size W w') := by
  rcases h with ⟨rfl, rfl⟩ | ⟨hc, rfl⟩
  · obtain ⟨C', OP', WH', hf, hag⟩ := stX_agr (askS b a K M EE).c (askS b a K M EE).op (askS b a K M EE).wh (askS b a K M EE).next
    refine ⟨(askS b a K M EE).n, (askS b a K M EE).f, (askS b a K M EE).t, (askS b a K M EE).r, (askS b a K M EE).next, _, C', WH', OP', hag, askS_next b a K M EE hby ha, ?_, ?_, fun p W h1 h2 => got_anyd p _ b a K M EE W h1 h2 (by omega) hby ha hM hE, fun w0 W h1 h2 => ?_⟩
    · have := (askS_len b a K M EE hby ha).1; omega
    · have := (askS_len b a K M EE hby ha).2; omega
    · have := refRead_any _ b a K M EE WH OP w0 W h1 h2 (by omega) hby ha hM hE
      rw [hf] at this
      exact this
  · refine ⟨0, false, [], [], a, ft OP WH C, C, WH, OP, .inr ⟨hc, rfl⟩, ha, by simp, by simp, fun p W h1 h2 => ?_, fun w0 W h1 h2 => ?_⟩
    · refine (got_err p ao b.length cap a K M EE _ _ W h1 (by omega) ha hM).mono ?_
      rintro e w' ⟨vt, vr, rfl, hs1, hs2, h3, h4⟩
      obtain ⟨ao', cap', rfl⟩ := hs2.form
      exact ⟨_, _, rfl, hs1, Sld.nil _ _ _ _ _ _, h3, h4⟩
    refine (read_err _ a C WH K M EE OP W (by simpa using hc)).mono ?_
    rintro e w' ⟨rfl, hb⟩
    exact ⟨_, _, rfl, Sld.nil _ _ _ _ _ _, Sld.nil _ _ _ _ _ _, hb⟩
theorem Sld.set4 {α : Type} {lo hi : Nat} {f : α → Value} {W : World} {v : Value} {l : List α} (h : Sld lo hi f W v l) {q : Nat} (x y z t : Value) (h1 : lo ≤ q) (h2 : q < hi) : Sld lo hi f ((((W.setCell ⟨q, 0, none⟩ x).setCell ⟨q, 1, none⟩ y).setCell ⟨q, 2, none⟩ z).setCell ⟨q, 3, none⟩ t) v l :=
  (((h.set 0 x h1 h2).set 1 y h1 h2).set 2 z h1 h2).set 3 t h1 h2
theorem al (u : World) (o : Obj) : Below u.heap.size u (u.alloc o) := (Below.refl _ _).alloc (Nat.le_refl _) o
theorem al_cell {u : World} {o : Obj} {b i : Nat} {x : Value} (h : u.cell? ⟨b, i, none⟩ = some x) : (u.alloc o).cell? ⟨b, i, none⟩ = some x := ((al u o).cell (p := ⟨b, i, none⟩) (cell_block h)).trans h
/-- The four cells of what was read. -/
def Gt4 (W : World) (g : Nat) (n : Int) (f : Bool) (t r : Value) : Prop := W.cell? ⟨g, 0, none⟩ = some (.int .u64 n) ∧ W.cell? ⟨g, 1, none⟩ = some (.bool f) ∧ W.cell? ⟨g, 2, none⟩ = some t ∧ W.cell? ⟨g, 3, none⟩ = some r
theorem Gt4.below {W W' : World} {g : Nat} {n : Int} {f : Bool} {t r : Value} (h : Gt4 W g n f t r) (hb : Below W.heap.size W W') : Gt4 W' g n f t r := by
  obtain ⟨h0, h1, h2, h3⟩ := h
  have hl : g < W.heap.size := cell_block h0
  exact ⟨(hb.cell (p := ⟨g, 0, none⟩) hl).trans h0, (hb.cell (p := ⟨g, 1, none⟩) hl).trans h1, (hb.cell (p := ⟨g, 2, none⟩) hl).trans h2, (hb.cell (p := ⟨g, 3, none⟩) hl).trans h3⟩
theorem Gt4.bx {p : Nat} {W W' : World} {g : Nat} {n : Int} {f : Bool} {t r : Value} (h : Gt4 W g n f t r) (hb : Bx p W W') (hp : g ≠ p) : Gt4 W' g n f t r := by
  obtain ⟨h0, h1, h2, h3⟩ := h
  have hl : g < W.heap.size := cell_block h0
  exact ⟨(hb.cell hl hp).trans h0, (hb.cell hl hp).trans h1, (hb.cell hl hp).trans h2, (hb.cell hl hp).trans h3⟩
theorem Sl.put4 {α : Type} {f : α → Value} {q : Nat} {W : World} {v : Value} {l : List α} (h : Sl f W v l) (h0 : ∀ i x, i < 4 → W.cell? ⟨q, i, none⟩ ≠ some (f x)) (x y z t : Value) : Sl f ((((W.setCell ⟨q, 0, none⟩ x).setCell ⟨q, 1, none⟩ y).setCell ⟨q, 2, none⟩ z).setCell ⟨q, 3, none⟩ t) v l := by
  rcases h with h | ⟨b, o, cap, h1, h2, h3⟩
  · exact .inl h
  · refine .inr ⟨b, o, cap, h1, h2, fun i hi => ?_⟩
    have ne : ∀ k, k < 4 → (⟨q, k, none⟩ : Addr) ≠ ⟨b, o + i, none⟩ := fun k hk e => h0 k _ hk (by rw [e]; exact h3 i hi)
    rw [World.cell?_setCell_other _ _ _ _ (ne 3 (by omega)), World.cell?_setCell_other _ _ _ _ (ne 2 (by omega)), World.cell?_setCell_other _ _ _ _ (ne 1 (by omega)), World.cell?_setCell_other _ _ _ _ (ne 0 (by omega))]
    exact h3 i hi
theorem st_nob {W : World} {g : Nat} {a c wh : Int} {op : ByteArray} (h : St4 W g a c op wh) : ∀ i x, i < 4 → W.cell? ⟨g, i, none⟩ ≠ some (bc x) := by
  obtain ⟨⟨h0, h1, h2, h3⟩, _⟩ := h
  intro i x hi e
  have : i = 0 ∨ i = 1 ∨ i = 2 ∨ i = 3 := by omega
  rcases this with rfl | rfl | rfl | rfl
  · rw [h0] at e; simp [bc] at e
  · rw [h1] at e; simp [bc] at e
  · rw [h2] at e; simp [bc] at e
  · rw [h3] at e; simp [bc] at e
/-- The three cells of a thing to be read. -/
def Ak3 (W : World) (g o : Nat) (K M E : Int) : Prop := W.cell? ⟨g, o, none⟩ = some (.int .i64 K) ∧ W.cell? ⟨g, o + 1, none⟩ = some (.int .i64 M) ∧ W.cell? ⟨g, o + 2, none⟩ = some (.int .i64 E)
theorem Ak3.below {W W' : World} {g o : Nat} {K M E : Int} (h : Ak3 W g o K M E) (hb : Below W.heap.size W W') : Ak3 W' g o K M E := by
  obtain ⟨h0, h1, h2⟩ := h
  have hl : g < W.heap.size := cell_block h0
  exact ⟨(hb.cell (p := ⟨g, o, none⟩) hl).trans h0, (hb.cell (p := ⟨g, o + 1, none⟩) hl).trans h1, (hb.cell (p := ⟨g, o + 2, none⟩) hl).trans h2⟩
theorem Ak3.bx {p : Nat} {W W' : World} {g o : Nat} {K M E : Int} (h : Ak3 W g o K M E) (hb : Bx p W W') (hp : g ≠ p) : Ak3 W' g o K M E := by
  obtain ⟨h0, h1, h2⟩ := h
  have hl : g < W.heap.size := cell_block h0
  exact ⟨(hb.cell hl hp).trans h0, (hb.cell hl hp).trans h1, (hb.cell hl hp).trans h2⟩
theorem St4.bx {p : Nat} {W W' : World} {g : Nat} {a c wh : Int} {op : ByteArray} (h : St4 W g a c op wh) (hb : Bx p W W') (hp : g ≠ p) : St4 W' g a c op wh := by
  obtain ⟨⟨h0, h1, h2, h3⟩, hf⟩ := h
  have hl : g < W.heap.size := cell_block h0
  exact ⟨⟨(hb.cell hl hp).trans h0, (hb.cell hl hp).trans h1, (hb.cell hl hp).trans h2, (hb.cell hl hp).trans h3⟩, fun i => (hb.frozen hl hp).trans (hf i)⟩
theorem hx_call {F : World → Prop} {p : Nat} {w0 W W' : World} (hF : ∀ W, Bx p w0 W → F W) (hb : Below W.heap.size W W') (h : F W ∧ Bx p w0 W) : F W' ∧ Bx p w0 W' := ⟨hF _ (h.2.call hb), h.2.call hb⟩
theorem hx_bx {F : World → Prop} {p : Nat} {w0 W W' : World} (hF : ∀ W, Bx p w0 W → F W) (hb : Bx p W W') (h : F W ∧ Bx p w0 W) : F W' ∧ Bx p w0 W' := ⟨hF _ (h.2.trans hb), h.2.trans hb⟩
theorem hx_drew {F : World → Prop} {p : Nat} {w0 : World} (hF : ∀ W, Bx p w0 W → F W) : F w0.drew ∧ Bx p w0 w0.drew :=
  have k := (Bx.refl p w0).call (Below.refl _ _).drew
  ⟨hF _ k, k⟩
/-- Both sides at the end. -/
theorem both_end (ao : Option Addr) (L cap a : Nat) (E : Value) (C WH : Int) (OP : ByteArray) (h : Agr E C OP WH) :
    ∃ (E2 : Value) (C2 WH2 : Int) (OP2 : ByteArray), Agr E2 C2 OP2 WH2 ∧
      (∀ p W, Rd W p (.slice ao L cap) a E → Calls Tryd.prog 27 #[.pointer (some ⟨p, 0, none⟩)] W fun x w' => x = .returned E2 ∧ Bx p W w') ∧
      (∀ W, Calls Tryd.prog 28 #[.slice ao L cap, .agg #[.int .i64 a, .int .i64 C, .string OP, .int .i64 WH]] W fun e w' => e = .returned (.agg #[.int .i64 a, .int .i64 C2, .string OP2, .int .i64 WH2]) ∧ Below W.heap.size W w') := by
  rcases h with ⟨rfl, rfl⟩ | ⟨hc, rfl⟩
  · by_cases ha : a < L
    · refine ⟨ft ⟨#[101, 110, 100]⟩ a 5, 5, a, ⟨#[101, 110, 100]⟩, .inr ⟨by decide, rfl⟩, fun p W hr => ?_, fun W => ?_⟩
      · refine (rend_any p ao L cap a W hr).mono ?_
        rintro x w' ⟨rfl, _, hx⟩
        rw [endC, if_pos ha]
        exact ⟨rfl, hx⟩
      · exact end_left ao L cap a 0 WH 5 a OP ⟨#[101, 110, 100]⟩ W ha (hide fun W => bad_any a 0 WH a 5 OP ⟨#[101, 110, 100]⟩ W rfl)
    · refine ⟨.nilIface, 0, WH, OP, .inl ⟨rfl, rfl⟩, fun p W hr => ?_, fun W => ?_⟩
      · refine (rend_any p ao L cap a W hr).mono ?_
        rintro x w' ⟨rfl, _, hx⟩
        rw [endC, if_neg ha]
        exact ⟨rfl, hx⟩
      · exact end_all ao L cap a 0 WH OP W (by omega)
  · refine ⟨ft OP WH C, C, WH, OP, .inr ⟨hc, rfl⟩, fun p W hr => ?_, fun W => ?_⟩
    · refine (rend_err p ao L cap a _ _ W hr).mono ?_
      rintro x w' ⟨rfl, _, hx⟩
      exact ⟨rfl, hx⟩
    · by_cases ha : a < L
      · exact end_left ao L cap a C WH C WH OP OP W ha (hide fun W => bad_keep a C WH a 5 OP ⟨#[101, 110, 100]⟩ W (by simpa using hc))
      · exact end_all ao L cap a C WH OP W (by omega)
set_option maxRecDepth 100000 in
set_option maxHeartbeats 8000000 in
theorem reads_main (vb vq : Value) (b : List Int) (q : List (Int × Int × Int)) (w : World) (hg : Hnd w) (hb : Sl bc w vb b) (hq : Sa w vq q) (hby : Byt b) (hq64 : ∀ i (h : i < q.length), q[i].2.1 ≤ 9223372036854775807 ∧ q[i].2.2 ≤ 9223372036854775807) (b1 : ¬ 2000 < b.length) (q1 : ¬ 60 < q.length) :
    Calls Tryd.prog 4 #[vb, vq] w fun e w' => e = .returned (.bool true) ∧ Below w.heap.size w w' := by
  have G0 := hide hg
  have HBY := hide hby
  have HQ64 := hide hq64
  obtain ⟨qo, qc, hvq, hqg⟩ := hq.get
  obtain ⟨xo, xc, hvb⟩ := hb.form
  subst hvq
  subst hvb
  have HB := hide hb
  have HQG := hide hqg
  have hpos : 0 < w.heap.size := size_of_handle hg
  clear hg hb hq hby hq64 hqg
  go_enter Tryd.func4, Tryd.ntmps4
  go_wp2_with (first | (go_at_call 20; refine (read_any _ b.length xc _).mono ?_; rintro e w1 ⟨rfl, hr1, hb1⟩; have hz1 := hb1.size; have hl1 := hr1.lt; have HR1 := hide hr1; have HB1 := hide hb1; clear hr1 hb1))
  go_loopw [7] (fun i wr => ∃ j : Nat, j ≤ q.length ∧ i = .int .i64 j ∧ ∃ (a : Nat) (E : Value) (C WH : Int) (OP : ByteArray), Agr E C OP WH ∧ a ≤ b.length ∧ Rd wr w.heap.size (.slice xo b.length xc) a E ∧ St4 wr w1.heap.size a C OP WH ∧ Slx w.heap.size bc wr (.slice xo b.length xc) b ∧ Below w.heap.size w wr) (fun i _ => q.length - (intOf i).toNat)
  case atStart =>
    exact ⟨0, Nat.zero_le _, rfl, 0, _, 0, 0, ⟨#[]⟩, .inl ⟨rfl, rfl⟩, Nat.zero_le _, HR1.out.alloc _, ⟨⟨by simp, by simp, by simp, by simp⟩, fun i => World.frozen?_alloc_at _ _ _ _ (by simp)⟩, ((HB.out.out (Nat.le_refl _)).below HB1.out).below ((Below.refl _ _).alloc (Nat.le_refl _) _), HB1.out.alloc HB1.out.size _⟩
  case round =>
    obtain ⟨j, hj, rfl, a, E, C, WH, OP, hag, ha, hr, hst, hv, hbw⟩ := hrel
    by_cases hlt : j < q.length
    · obtain ⟨bb, o, rfl, hbl, hc0, hc1, hc2⟩ := HQG.out j hlt
      have c0 : wr.cell? ⟨bb, o + j * 3, none⟩ = some (.int .i64 q[j].1) := (hbw.cell (p := ⟨bb, o + j * 3, none⟩) hbl).trans hc0
      have c1 : wr.cell? ⟨bb, o + j * 3 + 1, none⟩ = some (.int .i64 q[j].2.1) := (hbw.cell (p := ⟨bb, o + j * 3 + 1, none⟩) hbl).trans hc1
      have c2 : wr.cell? ⟨bb, o + j * 3 + 2, none⟩ = some (.int .i64 q[j].2.2) := (hbw.cell (p := ⟨bb, o + j * 3 + 2, none⟩) hbl).trans hc2
      obtain ⟨n, f, t, r, a', E', C', WH', OP', hag', ha', ht, hrr, h21, h22⟩ := both_ask xo xc b a E C WH OP q[j].1 q[j].2.1 q[j].2.2 hag (by omega) HBY.out ha (HQ64.out j hlt).1 (HQ64.out j hlt).2
      have HS := hide (h21 w.heap.size wr hr hv)
      have H22 := hide h22
      have HK := hide (And.intro hr (And.intro hst (And.intro hv hbw)))
      clear hc0 hc1 hc2 hr hst hv hbw h21 h22
      generalize q[j].1 = K at *
      generalize q[j].2.1 = M at *
      generalize q[j].2.2 = EE at *
      go_wp2_with (first | (go_at_call 21; refine (HS.out).mono ?_; rintro x w2 ⟨vt, vr, rfl, hvt, hvr, hr2, hx2⟩; obtain ⟨tp, tc, hvt'⟩ := hvt.form; subst hvt'; obtain ⟨ro, rc, hvr'⟩ := hvr.sl.form; subst hvr'; have HN := hide (And.intro hr2 (And.intro hvt (And.intro hvr hx2))); clear hr2 hvt hvr hx2))
      have hz2 : wr.heap.size ≤ w2.heap.size := HN.out.2.2.2.size
      have HB3 : Hid (Below w.heap.size w (w2.alloc (.cells #[.int .u64 n, .bool f, .slice tp t.length tc, .slice ro r.length rc] 45))) := hide ((HK.out.1.low HK.out.2.2.2 HN.out.2.2.2 (Nat.le_refl _)).alloc (Nat.le_trans HK.out.2.2.2.size hz2) _)
      have HR3 : Hid (Rd (w2.alloc (.cells #[.int .u64 n, .bool f, .slice tp t.length tc, .slice ro r.length rc] 45)) w.heap.size (.slice xo b.length xc) a' E') := hide (HN.out.1.alloc _)
      have HV3 : Hid (Slx w.heap.size bc (w2.alloc (.cells #[.int .u64 n, .bool f, .slice tp t.length tc, .slice ro r.length rc] 45)) (.slice xo b.length xc) b) := hide ((HK.out.2.2.1.bx HN.out.2.2.2).below ((Below.refl _ _).alloc (Nat.le_refl _) _))
      have HT3 : Hid (Sl bc (w2.alloc (.cells #[.int .u64 n, .bool f, .slice tp t.length tc, .slice ro r.length rc] 45)) (.slice tp t.length tc) t ∧ Sld 0 wr.heap.size ic (w2.alloc (.cells #[.int .u64 n, .bool f, .slice tp t.length tc, .slice ro r.length rc] 45)) (.slice ro r.length rc) r) := hide ⟨HN.out.2.1.below ((Below.refl _ _).alloc (Nat.le_refl _) _), HN.out.2.2.1.below ((Below.refl _ _).alloc (Nat.le_refl _) _)⟩
      have HG3 : Hid (Gt4 (w2.alloc (.cells #[.int .u64 n, .bool f, .slice tp t.length tc, .slice ro r.length rc] 45)) w2.heap.size n f (.slice tp t.length tc) (.slice ro r.length rc)) := hide ⟨by simp, by simp, by simp, by simp⟩
      have hqr : w1.heap.size < wr.heap.size := cell_block HK.out.2.1.1.1
      have HQ3 : Hid (St4 (w2.alloc (.cells #[.int .u64 n, .bool f, .slice tp t.length tc, .slice ro r.length rc] 45)) w1.heap.size a C OP WH) := hide ((HK.out.2.1.bx HN.out.2.2.2 (by omega)).below ((Below.refl _ _).alloc (Nat.le_refl _) _))
      have HA3 : Hid (Ak3 (w2.alloc (.cells #[.int .u64 n, .bool f, .slice tp t.length tc, .slice ro r.length rc] 45)) bb (o + j * 3) K M EE) := hide ((Ak3.bx ⟨c0, c1, c2⟩ HN.out.2.2.2 (by omega)).below ((Below.refl _ _).alloc (Nat.le_refl _) _))
      have hsz3 : (w2.alloc (.cells #[.int .u64 n, .bool f, .slice tp t.length tc, .slice ro r.length rc] 45)).heap.size = w2.heap.size + 1 := by simp
      generalize w2.alloc (.cells #[.int .u64 n, .bool f, .slice tp t.length tc, .slice ro r.length rc] 45) = w3 at *
      have hF : ∀ W, Below w3.heap.size w3 W → ((W.cell? ⟨w1.heap.size, 0, none⟩ = some (.int .i64 (a : Int)) ∧ W.cell? ⟨w1.heap.size, 1, none⟩ = some (.int .i64 C) ∧ W.cell? ⟨w1.heap.size, 2, none⟩ = some (.string OP) ∧ W.cell? ⟨w1.heap.size, 3, none⟩ = some (.int .i64 WH)) ∧ (W.cell? ⟨bb, o + j * 3, none⟩ = some (.int .i64 K) ∧ W.cell? ⟨bb, o + j * 3 + 1, none⟩ = some (.int .i64 M) ∧ W.cell? ⟨bb, o + j * 3 + 2, none⟩ = some (.int .i64 EE))) := fun W h => ⟨(HQ3.out.below h).1, HA3.out.below h⟩
      have HS0 := hide (hs_drew hF (Nat.le_refl _))
      have HS1 := hide (hs_first hF (Nat.le_refl _))
      have HS2 := hide (hs_second hF (Nat.le_refl _))
      have HF := hide hF
      have HSB := hide (HV3.out.sl)
      have HZ3 := hide hsz3
      clear hF HS HN c0 c1 c2 hsz3
      go_cut [9, 10] from 25 to 89 (fun p9 p10 W => ∃ g1 g2 vt2 vr2, p9 = .pointer (some ⟨g1, 0, none⟩) ∧ p10 = .pointer (some ⟨g2, 0, none⟩) ∧ (W.cell? ⟨g1, 0, none⟩ = some (.int .i64 (a' : Int)) ∧ W.cell? ⟨g1, 1, none⟩ = some (.int .i64 C') ∧ W.cell? ⟨g1, 2, none⟩ = some (.string OP') ∧ W.cell? ⟨g1, 3, none⟩ = some (.int .i64 WH')) ∧ Gt4 W g2 n f vt2 vr2 ∧ w3.heap.size ≤ g1 ∧ w3.heap.size ≤ g2 ∧ Sl bc W vt2 t ∧ Sld 0 w3.heap.size ic W vr2 r ∧ Below w3.heap.size w3 W ∧ w3.heap.size ≤ W.heap.size)
      case first =>
        go_region_held3 (fun W => ((W.cell? ⟨w1.heap.size, 0, none⟩ = some (.int .i64 (a : Int)) ∧ W.cell? ⟨w1.heap.size, 1, none⟩ = some (.int .i64 C) ∧ W.cell? ⟨w1.heap.size, 2, none⟩ = some (.string OP) ∧ W.cell? ⟨w1.heap.size, 3, none⟩ = some (.int .i64 WH)) ∧ (W.cell? ⟨bb, o + j * 3, none⟩ = some (.int .i64 K) ∧ W.cell? ⟨bb, o + j * 3 + 1, none⟩ = some (.int .i64 M) ∧ W.cell? ⟨bb, o + j * 3 + 2, none⟩ = some (.int .i64 EE))) ∧ Below w3.heap.size w3 W ∧ w3.heap.size ≤ W.heap.size)
          (first | with_reducible assumption | with_reducible exact hs_call HF.out (by assumption) (by assumption) | with_reducible exact hs_alloc HF.out (by assumption) | with_reducible exact hs_set4 HF.out (by simp) (by assumption) | with_reducible exact hs_alloc HF.out KW.out | with_reducible exact hs_alloc HF.out (hs_alloc HF.out KW.out) | with_reducible exact hs_alloc HF.out (hs_set4 HF.out (by simp) KW.out) | with_reducible exact HS0.out | with_reducible exact HS1.out _ | with_reducible exact HS2.out _ _)
          (first
            | (go_at_call 22; refine (H22.out w3 _ HSB.out ?_).mono ?_; exact And.left (And.right (by assumption)); rintro e w' ⟨vt2, vr2, rfl, hvt2, hvr2, hb⟩; obtain ⟨tp2, tc2, hvt'⟩ := hvt2.sl.form; subst hvt'; obtain ⟨rp2, rc2, hvr'⟩ := hvr2.sl.form; subst hvr'; obtain ⟨hcc, hf⟩ := bcell hb; have hlo := And.right (And.right (show _ ∧ _ ∧ w3.heap.size ≤ _ by assumption)); have KW := hide (hs_call HF.out hb (by assumption)); (try have hlt1 : w3.heap.size < w'.heap.size := (by have := hb.size; simp at this; omega))))
        all_goals go_wp2_with fail
        all_goals go_meet
        · exact ⟨_, _, _, _, rfl, rfl, ⟨by simp [go_sem], by simp [go_sem], by simp [go_sem], by simp [go_sem]⟩, ⟨by simp [go_sem], by simp [go_sem], by simp [go_sem], by simp [go_sem]⟩, KW.out.2.2, Nat.le_succ_of_le KW.out.2.2, ((hvt2.below (al _ _)).below (al _ _)).sl, ((hvr2.below (al _ _)).below (al _ _)).more hlo, (hs_alloc HF.out (hs_alloc HF.out KW.out)).2⟩
        · exact ⟨_, _, _, _, rfl, rfl, ⟨by simp [go_sem], by simp [go_sem], by simp [go_sem], by simp [go_sem]⟩, ⟨by simp [go_sem], by simp [go_sem], by simp [go_sem], by simp [go_sem]⟩, Nat.le_succ_of_le KW.out.2.2, KW.out.2.2, ((hvt2.below (al _ _)).below (al _ _)).sl, ((hvr2.below (al _ _)).below (al _ _)).more hlo, (hs_alloc HF.out (hs_alloc HF.out KW.out)).2⟩
        · have hh : w3.heap.size < ((w3.alloc (.cells #[.int .i64 0, .int .i64 0, .string ⟨#[]⟩, .int .i64 0] 43)).drew).heap.size := by simp
          have q0 : w'.cell? ⟨w3.heap.size, 0, none⟩ = some (.int .i64 0) := by rw [hcc _ _ (by simp <;> omega)]; simp [go_sem]
          have q1 : w'.cell? ⟨w3.heap.size, 1, none⟩ = some (.int .i64 0) := by rw [hcc _ _ (by simp <;> omega)]; simp [go_sem]
          have q2 : w'.cell? ⟨w3.heap.size, 2, none⟩ = some (.string ⟨#[]⟩) := by rw [hcc _ _ (by simp <;> omega)]; simp [go_sem]
          have q3 : w'.cell? ⟨w3.heap.size, 3, none⟩ = some (.int .i64 0) := by rw [hcc _ _ (by simp <;> omega)]; simp [go_sem]
          have T := four_cells (x := .int .i64 (a' : Int)) (y := .int .i64 C') (z := .string OP') (t := .int .i64 WH') q0 q1 q2 q3
          exact ⟨_, _, _, _, rfl, rfl, ⟨al_cell T.1, al_cell T.2.1, al_cell T.2.2.1, al_cell T.2.2.2⟩, ⟨by simp [go_sem], by simp [go_sem], by simp [go_sem], by simp [go_sem]⟩, Nat.le_refl _, KW.out.2.2, ((hvt2.set4 (.int .i64 (a' : Int)) (.int .i64 C') (.string OP') (.int .i64 WH') (Nat.le_refl _) hh).below (al _ _)).sl, ((hvr2.set4 (.int .i64 (a' : Int)) (.int .i64 C') (.string OP') (.int .i64 WH') (Nat.zero_le _) hh).below (al _ _)).more hlo, (hs_alloc HF.out (hs_set4 HF.out (Nat.le_refl _) KW.out)).2⟩
        · have h1 : w3.heap.size < (((w3.alloc (.cells #[.int .i64 0, .int .i64 0, .string ⟨#[]⟩, .int .i64 0] 43)).alloc (.cells #[.int .u64 0, .bool false, .slice none 0 0, .slice none 0 0] 45)).drew).heap.size := by simp; omega
          have h2 : w3.heap.size + 1 < (((w3.alloc (.cells #[.int .i64 0, .int .i64 0, .string ⟨#[]⟩, .int .i64 0] 43)).alloc (.cells #[.int .u64 0, .bool false, .slice none 0 0, .slice none 0 0] 45)).drew).heap.size := by simp
          have q0 : w'.cell? ⟨w3.heap.size, 0, none⟩ = some (.int .i64 0) := by rw [hcc _ _ (by simp <;> omega)]; simp [go_sem]
          have q1 : w'.cell? ⟨w3.heap.size, 1, none⟩ = some (.int .i64 0) := by rw [hcc _ _ (by simp <;> omega)]; simp [go_sem]
          have q2 : w'.cell? ⟨w3.heap.size, 2, none⟩ = some (.string ⟨#[]⟩) := by rw [hcc _ _ (by simp <;> omega)]; simp [go_sem]
          have q3 : w'.cell? ⟨w3.heap.size, 3, none⟩ = some (.int .i64 0) := by rw [hcc _ _ (by simp <;> omega)]; simp [go_sem]
          have k0 : w'.cell? ⟨w3.heap.size + 1, 0, none⟩ = some (.int .u64 0) := by rw [hcc _ _ (by simp <;> omega)]; simp [go_sem]
          have k1 : w'.cell? ⟨w3.heap.size + 1, 1, none⟩ = some (.bool false) := by rw [hcc _ _ (by simp <;> omega)]; simp [go_sem]
          have k2 : w'.cell? ⟨w3.heap.size + 1, 2, none⟩ = some (.slice none 0 0) := by rw [hcc _ _ (by simp <;> omega)]; simp [go_sem]
          have k3 : w'.cell? ⟨w3.heap.size + 1, 3, none⟩ = some (.slice none 0 0) := by rw [hcc _ _ (by simp <;> omega)]; simp [go_sem]
          have T := set8 (x := .int .i64 (a' : Int)) (y := .int .i64 C') (z := .string OP') (t := .int .i64 WH') (a := .int .u64 n) (b := .bool f) (c := .slice tp2 t.length tc2) (d := .slice rp2 r.length rc2) (by omega) q0 q1 q2 q3 k0 k1 k2 k3 _ rfl
          exact ⟨_, _, _, _, rfl, rfl, T.1, T.2, by simp, by simp, ((hvt2.set4 (.int .i64 (a' : Int)) (.int .i64 C') (.string OP') (.int .i64 WH') (by simp) h1).set4 (.int .u64 n) (.bool f) (.slice tp2 t.length tc2) (.slice rp2 r.length rc2) (by simp) h2).sl, ((hvr2.set4 (.int .i64 (a' : Int)) (.int .i64 C') (.string OP') (.int .i64 WH') (Nat.zero_le _) h1).set4 (.int .u64 n) (.bool f) (.slice tp2 t.length tc2) (.slice rp2 r.length rc2) (Nat.zero_le _) h2).more hlo, (hs_set4 HF.out (by simp) (hs_set4 HF.out (by simp) KW.out)).2⟩
        · have hh : w3.heap.size < ((w3.alloc (.cells #[.int .u64 0, .bool false, .slice none 0 0, .slice none 0 0] 45)).drew).heap.size := by simp
          have q0 : w'.cell? ⟨w3.heap.size, 0, none⟩ = some (.int .u64 0) := by rw [hcc _ _ (by simp <;> omega)]; simp [go_sem]
          have q1 : w'.cell? ⟨w3.heap.size, 1, none⟩ = some (.bool false) := by rw [hcc _ _ (by simp <;> omega)]; simp [go_sem]
          have q2 : w'.cell? ⟨w3.heap.size, 2, none⟩ = some (.slice none 0 0) := by rw [hcc _ _ (by simp <;> omega)]; simp [go_sem]
          have q3 : w'.cell? ⟨w3.heap.size, 3, none⟩ = some (.slice none 0 0) := by rw [hcc _ _ (by simp <;> omega)]; simp [go_sem]
          have T := four_cells (x := .int .u64 n) (y := .bool f) (z := .slice tp2 t.length tc2) (t := .slice rp2 r.length rc2) q0 q1 q2 q3
          exact ⟨_, _, _, _, rfl, rfl, ⟨by simp [go_sem], by simp [go_sem], by simp [go_sem], by simp [go_sem]⟩, ⟨al_cell T.1, al_cell T.2.1, al_cell T.2.2.1, al_cell T.2.2.2⟩, KW.out.2.2, Nat.le_refl _, ((hvt2.set4 (.int .u64 n) (.bool f) (.slice tp2 t.length tc2) (.slice rp2 r.length rc2) (Nat.le_refl _) hh).below (al _ _)).sl, ((hvr2.set4 (.int .u64 n) (.bool f) (.slice tp2 t.length tc2) (.slice rp2 r.length rc2) (Nat.zero_le _) hh).below (al _ _)).more hlo, (hs_alloc HF.out (hs_set4 HF.out (Nat.le_refl _) KW.out)).2⟩
        · have h1 : w3.heap.size < (((w3.alloc (.cells #[.int .u64 0, .bool false, .slice none 0 0, .slice none 0 0] 45)).alloc (.cells #[.int .i64 0, .int .i64 0, .string ⟨#[]⟩, .int .i64 0] 43)).drew).heap.size := by simp; omega
          have h2 : w3.heap.size + 1 < (((w3.alloc (.cells #[.int .u64 0, .bool false, .slice none 0 0, .slice none 0 0] 45)).alloc (.cells #[.int .i64 0, .int .i64 0, .string ⟨#[]⟩, .int .i64 0] 43)).drew).heap.size := by simp
          have q0 : w'.cell? ⟨w3.heap.size + 1, 0, none⟩ = some (.int .i64 0) := by rw [hcc _ _ (by simp <;> omega)]; simp [go_sem]
          have q1 : w'.cell? ⟨w3.heap.size + 1, 1, none⟩ = some (.int .i64 0) := by rw [hcc _ _ (by simp <;> omega)]; simp [go_sem]
          have q2 : w'.cell? ⟨w3.heap.size + 1, 2, none⟩ = some (.string ⟨#[]⟩) := by rw [hcc _ _ (by simp <;> omega)]; simp [go_sem]
          have q3 : w'.cell? ⟨w3.heap.size + 1, 3, none⟩ = some (.int .i64 0) := by rw [hcc _ _ (by simp <;> omega)]; simp [go_sem]
          have k0 : w'.cell? ⟨w3.heap.size, 0, none⟩ = some (.int .u64 0) := by rw [hcc _ _ (by simp <;> omega)]; simp [go_sem]
          have k1 : w'.cell? ⟨w3.heap.size, 1, none⟩ = some (.bool false) := by rw [hcc _ _ (by simp <;> omega)]; simp [go_sem]
          have k2 : w'.cell? ⟨w3.heap.size, 2, none⟩ = some (.slice none 0 0) := by rw [hcc _ _ (by simp <;> omega)]; simp [go_sem]
          have k3 : w'.cell? ⟨w3.heap.size, 3, none⟩ = some (.slice none 0 0) := by rw [hcc _ _ (by simp <;> omega)]; simp [go_sem]
          have T := set8 (x := .int .i64 (a' : Int)) (y := .int .i64 C') (z := .string OP') (t := .int .i64 WH') (a := .int .u64 n) (b := .bool f) (c := .slice tp2 t.length tc2) (d := .slice rp2 r.length rc2) (by omega) q0 q1 q2 q3 k0 k1 k2 k3 _ rfl
          exact ⟨_, _, _, _, rfl, rfl, T.1, T.2, by simp, by simp, ((hvt2.set4 (.int .i64 (a' : Int)) (.int .i64 C') (.string OP') (.int .i64 WH') (by simp) h2).set4 (.int .u64 n) (.bool f) (.slice tp2 t.length tc2) (.slice rp2 r.length rc2) (by simp) h1).sl, ((hvr2.set4 (.int .i64 (a' : Int)) (.int .i64 C') (.string OP') (.int .i64 WH') (Nat.zero_le _) h2).set4 (.int .u64 n) (.bool f) (.slice tp2 t.length tc2) (.slice rp2 r.length rc2) (Nat.zero_le _) h1).more hlo, (hs_set4 HF.out (by simp) (hs_set4 HF.out (by simp) KW.out)).2⟩
      case rest =>
        obtain ⟨g1, g2, vt2, vr2, rfl, rfl, ⟨d0, d1, d2, d3⟩, hg2, hn1, hn2, hvt2, hvr2, hB, hS⟩ := hcut
        obtain ⟨tp2, tc2, hvt'⟩ := hvt2.form
        subst hvt'
        obtain ⟨rp2, rc2, hvr'⟩ := hvr2.sl.form
        subst hvr'
        have hsz3 := HZ3.out
        have hst := HQ3.out.below hB
        have hqn : w1.heap.size < w3.heap.size := by omega
        have hx4 : Bx w1.heap.size wc ((((wc.setCell ⟨w1.heap.size, 0, none⟩ (.int .i64 (a' : Int))).setCell ⟨w1.heap.size, 1, none⟩ (.int .i64 C')).setCell ⟨w1.heap.size, 2, none⟩ (.string OP')).setCell ⟨w1.heap.size, 3, none⟩ (.int .i64 WH')) := (Bx.refl _ _).put4 _ _ _ _
        have HS4 := hide (hst.put (a' : Int) C' OP' WH')
        have HG4 := hide ((HG3.out.below hB).bx hx4 (by omega))
        have HG5 := hide (hg2.bx hx4 (by omega))
        have HR4 := hide ((((((HR3.out.below hB).setNew (k := w1.heap.size) 0 (.int .i64 (a' : Int)) (by omega)).setNew (k := w1.heap.size) 1 (.int .i64 C') (by omega)).setNew (k := w1.heap.size) 2 (.string OP') (by omega)).setNew (k := w1.heap.size) 3 (.int .i64 WH') (by omega)))
        have HB4 := hide ((HB3.out.trans (hB.mono HB3.out.size)).trans (hx4.below (by omega) |>.mono (by omega)))
        have HV4 := hide (HV3.out.below hB)
        have HT4 := hide (And.intro ((HT3.out.1.below hB).put4 (st_nob hst) (.int .i64 (a' : Int)) (.int .i64 C') (.string OP') (.int .i64 WH')) (hvt2.put4 (st_nob hst) (.int .i64 (a' : Int)) (.int .i64 C') (.string OP') (.int .i64 WH')))
        have HW4 := hide (And.intro ((HT3.out.2.below hB).set4 (q := w1.heap.size) (.int .i64 (a' : Int)) (.int .i64 C') (.string OP') (.int .i64 WH') (Nat.zero_le _) hqr).sl (hvr2.set4 (q := w1.heap.size) (.int .i64 (a' : Int)) (.int .i64 C') (.string OP') (.int .i64 WH') (Nat.zero_le _) hqn).sl)
        obtain ⟨⟨e0, e1, e2, e3⟩, ef⟩ := hst
        have f0 := ef 0
        have f1 := ef 1
        have f2 := ef 2
        have f3 := ef 3
        have hne1 : ¬ w1.heap.size = g1 := by omega
        have hne2 : ¬ g1 = w1.heap.size := by omega
        clear ef hsz3 HS0 HS1 HS2 HF H22 HQ3 HA3 hvt2 hvr2 hg2 hx4 HK HB3 HR3 HV3 HT3 HG3 HSB hB
        go_wp2_with fail
        generalize (((wc.setCell ⟨w1.heap.size, 0, none⟩ (.int .i64 (a' : Int))).setCell ⟨w1.heap.size, 1, none⟩ (.int .i64 C')).setCell ⟨w1.heap.size, 2, none⟩ (.string OP')).setCell ⟨w1.heap.size, 3, none⟩ (.int .i64 WH') = w4 at *
        have hF : ∀ W, Below w4.heap.size w4 W → ((W.cell? ⟨w2.heap.size, 0, none⟩ = some (.int .u64 n) ∧ W.cell? ⟨w2.heap.size, 1, none⟩ = some (.bool f) ∧ W.cell? ⟨w2.heap.size, 2, none⟩ = some (.slice tp t.length tc) ∧ W.cell? ⟨w2.heap.size, 3, none⟩ = some (.slice ro r.length rc)) ∧ (W.cell? ⟨g2, 0, none⟩ = some (.int .u64 n) ∧ W.cell? ⟨g2, 1, none⟩ = some (.bool f) ∧ W.cell? ⟨g2, 2, none⟩ = some (.slice tp2 t.length tc2) ∧ W.cell? ⟨g2, 3, none⟩ = some (.slice rp2 r.length rc2)) ∧ (W.cell? ⟨w1.heap.size, 0, none⟩ = some (.int .i64 (a' : Int)) ∧ W.cell? ⟨w1.heap.size, 1, none⟩ = some (.int .i64 C') ∧ W.cell? ⟨w1.heap.size, 2, none⟩ = some (.string OP') ∧ W.cell? ⟨w1.heap.size, 3, none⟩ = some (.int .i64 WH'))) := fun W h => ⟨HG4.out.below h, HG5.out.below h, (HS4.out.below h).1⟩
        have HS0 := hide (hs_drew hF (Nat.le_refl _))
        have HF := hide hF
        have H18 := hide (fun W (h : Below w4.heap.size w4 W) => same_bytes (.slice tp t.length tc) (.slice tp2 t.length tc2) t W (HT4.out.1.below h) (HT4.out.2.below h) ht)
        have H23 := hide (fun W (h : Below w4.heap.size w4 W) => same_ints (.slice ro r.length rc) (.slice rp2 r.length rc2) r W (HW4.out.1.below h) (HW4.out.2.below h) hrr)
        have H24 := hide (fun W (h : Below w4.heap.size w4 W) => at_any _ _ _ _ W (HR4.out.below h))
        have H26 := hide (fun W (h : Below w4.heap.size w4 W) => err_any _ _ _ _ W (HR4.out.below h))
        have H25 := hide (fun W (h : Below w4.heap.size w4 W) => hag'.wrong (a' : Int) W (G0.out.below (HB4.out.trans (h.mono HB4.out.size))))
        clear hF d0 d1 d2 d3 e0 e1 e2 e3 f0 f1 f2 f3
        go_region_held3 (fun W => ((W.cell? ⟨w2.heap.size, 0, none⟩ = some (.int .u64 n) ∧ W.cell? ⟨w2.heap.size, 1, none⟩ = some (.bool f) ∧ W.cell? ⟨w2.heap.size, 2, none⟩ = some (.slice tp t.length tc) ∧ W.cell? ⟨w2.heap.size, 3, none⟩ = some (.slice ro r.length rc)) ∧ (W.cell? ⟨g2, 0, none⟩ = some (.int .u64 n) ∧ W.cell? ⟨g2, 1, none⟩ = some (.bool f) ∧ W.cell? ⟨g2, 2, none⟩ = some (.slice tp2 t.length tc2) ∧ W.cell? ⟨g2, 3, none⟩ = some (.slice rp2 r.length rc2)) ∧ (W.cell? ⟨w1.heap.size, 0, none⟩ = some (.int .i64 (a' : Int)) ∧ W.cell? ⟨w1.heap.size, 1, none⟩ = some (.int .i64 C') ∧ W.cell? ⟨w1.heap.size, 2, none⟩ = some (.string OP') ∧ W.cell? ⟨w1.heap.size, 3, none⟩ = some (.int .i64 WH'))) ∧ Below w4.heap.size w4 W ∧ w4.heap.size ≤ W.heap.size)
          (first | with_reducible assumption | with_reducible exact hs_call HF.out (by assumption) (by assumption) | with_reducible exact HS0.out)
          (first
            | (go_at_call 18; refine (H18.out _ ?_).mono ?_; exact And.left (And.right (by assumption)); rintro e w' ⟨rfl, hb⟩)
            | (go_at_call 23; refine (H23.out _ ?_).mono ?_; exact And.left (And.right (by assumption)); rintro e w' ⟨rfl, hb⟩)
            | (go_at_call 24; refine (H24.out _ ?_).mono ?_; exact And.left (And.right (by assumption)); rintro e w' ⟨rfl, rfl⟩)
            | (go_at_call 26; refine (H26.out _ ?_).mono ?_; exact And.left (And.right (by assumption)); rintro e w' ⟨rfl, rfl⟩)
            | (go_at_call 25; refine (H25.out _ ?_).mono ?_; exact And.left (And.right (by assumption)); rintro e w' ⟨rfl, hb⟩))
        have hfin : Below w4.heap.size w4 w' := And.left (And.right (by assumption))
        have HFN := hide hfin
        have HBF := hide (HB4.out.trans (hfin.mono HB4.out.size))
        clear hfin
        go_wp2_with fail
        go_roundw
        case rel => exact ⟨j + 1, by omega, by go_num, a', E', C', WH', OP', hag', ha', HR4.out.below HFN.out, HS4.out.below HFN.out, (HB.out.out (Nat.le_refl _)).below HBF.out, HBF.out⟩
        case measure => simp [intOf]; omega
    · obtain rfl : j = q.length := by omega
      obtain ⟨E2, C2, WH2, OP2, hag2, h27, h28⟩ := both_end xo b.length xc a E C WH OP hag
      have hqp : w1.heap.size ≠ w.heap.size := by omega
      have hF : ∀ W, Bx w.heap.size wr W → (W.cell? ⟨w1.heap.size, 0, none⟩ = some (.int .i64 (a : Int)) ∧ W.cell? ⟨w1.heap.size, 1, none⟩ = some (.int .i64 C) ∧ W.cell? ⟨w1.heap.size, 2, none⟩ = some (.string OP) ∧ W.cell? ⟨w1.heap.size, 3, none⟩ = some (.int .i64 WH)) := fun W h => (hst.bx h hqp).1
      have HS0 := hide (hx_drew hF)
      have H27 := hide (h27 w.heap.size wr.drew (hr.below (Below.refl _ _).drew))
      have H28 := hide h28
      have HGW := hide (G0.out.below hbw)
      have H25 := hide (fun W (h : Bx w.heap.size wr W) => hag2.wrong (a : Int) W (h.hnd (by omega) HGW.out))
      have H8 := hide (fun W (h : Bx w.heap.size wr W) => works_any W (h.hnd (by omega) HGW.out))
      have HL := hide (fun W (h : Bx w.heap.size wr W) => hr.low hbw h (Nat.le_refl _))
      have HF := hide hF
      clear hF hlt HQG HR1 HB1 hr hst hv hbw h27 h28
      go_wp2_with fail
      go_region_held3 (fun W => (W.cell? ⟨w1.heap.size, 0, none⟩ = some (.int .i64 (a : Int)) ∧ W.cell? ⟨w1.heap.size, 1, none⟩ = some (.int .i64 C) ∧ W.cell? ⟨w1.heap.size, 2, none⟩ = some (.string OP) ∧ W.cell? ⟨w1.heap.size, 3, none⟩ = some (.int .i64 WH)) ∧ Bx w.heap.size wr W)
        (first | with_reducible assumption | with_reducible exact hx_call HF.out (by assumption) (by assumption) | with_reducible exact hx_bx HF.out (by assumption) (by assumption) | with_reducible exact HS0.out)
        (first
          | (go_at_call 27; refine (H27.out).mono ?_; rintro e w' ⟨rfl, hb⟩)
          | (go_at_call 28; refine (H28.out _).mono ?_; rintro e w' ⟨rfl, hb⟩)
          | (go_at_call 25; refine (H25.out _ ?_).mono ?_; exact And.right (by assumption); rintro e w' ⟨rfl, hb⟩)
          | (go_at_call 8; refine (H8.out _ ?_).mono ?_; exact And.right (by assumption); rintro e w' ⟨rfl, hb⟩))
      have hfin : Bx w.heap.size wr w' := And.right (by assumption)
      have HFN := hide (HL.out _ hfin)
      clear hfin
      go_wp2_with fail
      go_ret
      exact ⟨rfl, HFN.out⟩
theorem reads_law (vb vq : Value) (b : List Int) (q : List (Int × Int × Int)) (w : World) (hg : Hnd w) (hb : Sl bc w vb b) (hq : Sa w vq q) (hby : Byt b) (hq64 : ∀ i (h : i < q.length), q[i].2.1 ≤ 9223372036854775807 ∧ q[i].2.2 ≤ 9223372036854775807) (hb63 : b.length ≤ 9223372036854775807) (hq63 : q.length ≤ 9223372036854775807) :
    Calls Tryd.prog 4 #[vb, vq] w fun e w' => e = .returned (.bool true) ∧ Below w.heap.size w w' := by
  by_cases h : 2000 < b.length ∨ (¬ 2000 < b.length ∧ 60 < q.length)
  · obtain ⟨xo, xc, rfl⟩ := hb.form
    obtain ⟨ao, sc, rfl, _⟩ := hq.get
    exact reads_out xo ao b.length q.length xc sc w hg hb63 hq63 h
  · exact reads_main vb vq b q w hg hb hq hby hq64 (by omega) (by omega)
end Go.Proofs.YtfjkahclobnhiaaDoor
