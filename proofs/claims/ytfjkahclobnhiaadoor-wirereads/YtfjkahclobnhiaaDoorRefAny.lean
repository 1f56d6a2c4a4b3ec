/-
  THE DOCUMENT's NEXT THING, WHATEVER IS ASKED: the same function 'askS' of the bytes that a reader's answers are. Conditions: the bytes' cells hold them, no more than four thousand.
-/
import Derived.Test.YtfjkahclobnhiaaDoorRefRow
import Derived.Test.YtfjkahclobnhiaaDoorRefAsk
namespace Go.Proofs.YtfjkahclobnhiaaDoor
open Go.RowKit

theorem refr_any (v : Value) (l : List Int) (a : Nat) (m m2 wh : Int) (op : ByteArray) (w W : World) (hv : Sl bc w v l) (hW : Below w.heap.size w W) (hl : l.length ≤ 4000) (hby : Byt l) (hm : m ≤ 9223372036854775807) (hm2 : m2 ≤ 9223372036854775807) (ha : a ≤ l.length) :
    Calls Tryd.prog 47 #[v, .agg #[.int .i64 a, .int .i64 0, .string op, .int .i64 wh], .int .i64 m, .int .i64 m2] W fun e w' => ∃ u, e = .returned (.tuple #[stX (rowS l a m m2).1 ⟨#[110, 117, 109]⟩ (rowS l a m m2).2.1 (rowS l a m m2).2.1, u]) ∧ Sld 0 W.heap.size ic w' u (rowR (rowS l a m m2)) ∧ Below W.heap.size W w' := by
  have H15 := hide (fun W => above_any m W hm)
  simp only [abv_eq] at H15
  have h14 := fun W (h : Sl bc W v l) => num_next v l a wh (abv' m) op W h hl hby
  have hbd : Byt (l.drop a) := hby.drop a
  have hrg := numS_range (l.drop a) (abv' m) hbd
  unfold rowS
  rcases hq : numS (l.drop a) (abv' m) with ⟨c, k, N⟩
  rw [hq] at h14 hrg
  simp only [stN] at h14 ⊢
  by_cases hc : c = 0
  · subst hc
    obtain ⟨_, _, n0, n1, _, hkl⟩ := numS_once hbd hq
    rw [List.length_drop] at hkl
    simp only [if_true] at h14 ⊢
    have H14 := hide h14
    unfold stv at H14
    obtain ⟨N', rfl⟩ := Int.eq_ofNat_of_zero_le n0
    simp only [Int.toNat_natCast] at *
    exact row_some v l a wh m m2 (abv' m) (a + k) N' 0 op W (hv.below hW) hl hby (by omega) (by omega) hm2 (Nat.zero_le _) H15 H14
  · obtain ⟨rfl, rfl⟩ := numS_bad hq hc
    simp only [if_neg hc] at h14 ⊢
    have H14 := hide h14
    unfold stv at H14
    refine (row_bad v l a wh m m2 (abv' m) a c a op _ W (hv.below hW) (by simpa using hc) H15 H14).mono ?_
    rintro e w' ⟨rfl, hb⟩
    exact ⟨.slice none 0 0, by simp [stX, hc, stv], by simp only [rowR, if_neg hc]; exact Sld.nil _ _ _ _ _ _, hb⟩
theorem refRead_any (v : Value) (l : List Int) (a : Nat) (K M E wh : Int) (op : ByteArray) (w0 w : World) (hv0 : Sl bc w0 v l) (hW0 : Below w0.heap.size w0 w) (hl : l.length ≤ 4000) (hby : Byt l) (ha : a ≤ l.length) (hM : M ≤ 9223372036854775807) (hE : E ≤ 9223372036854775807) :
    Calls Tryd.prog 22 #[v, .agg #[.int .i64 a, .int .i64 0, .string op, .int .i64 wh], .agg #[.int .i64 K, .int .i64 M, .int .i64 E]] w fun e w' => ∃ vt vr, e = .returned (.tuple #[stX (askS l a K M E).c (askS l a K M E).op (askS l a K M E).wh (askS l a K M E).next, .agg #[.int .u64 (askS l a K M E).n, .bool (askS l a K M E).f, vt, vr]]) ∧ Sld w0.heap.size w.heap.size bc w' vt (askS l a K M E).t ∧ Sld 0 w.heap.size ic w' vr (askS l a K M E).r ∧ Below w.heap.size w w' := by
  have hv := hv0.below hW0
  have H15 := hide (fun W => above_any M W hM)
  simp only [abv_eq] at H15
  by_cases h01 : K = 0 ∨ K = 1
  · rw [askS, if_pos h01]
    simp only
    have h14 := fun W (h : Sl bc W v l) => num_next v l a wh (abv' M) op W h hl hby
    rcases hq : numS (l.drop a) (abv' M) with ⟨c, k, N⟩
    rw [hq] at h14
    simp only [stN] at h14 ⊢
    have hX : (if c = 0 then stv (a + k : Nat) 0 ⟨#[]⟩ 0 else stv a c ⟨#[110, 117, 109]⟩ a) = stX c ⟨#[110, 117, 109]⟩ a (a + k : Nat) := by
      unfold stX
      by_cases hc : c = 0
      · rw [if_pos hc, if_pos hc]
      · obtain ⟨rfl, rfl⟩ := numS_bad hq hc
        rw [if_neg hc, if_neg hc]; rfl
    rw [hX] at h14
    obtain ⟨A', C', OP', WH', hf⟩ := stX_form c ⟨#[110, 117, 109]⟩ a (a + k : Nat)
    rw [hf] at h14 ⊢
    have H14 := hide h14
    unfold stv at H14
    rcases h01 with rfl | rfl
    · refine (read_num0 v l a wh M (abv' M) E A' C' WH' N op OP' w hv H15 H14).mono ?_
      rintro e w' ⟨rfl, hb⟩
      exact ⟨_, _, rfl, Sld.nil _ _ _ _ _ _, Sld.nil _ _ _ _ _ _, hb⟩
    · refine (read_num1 v l a wh M (abv' M) E A' C' WH' N op OP' w hv H15 H14).mono ?_
      rintro e w' ⟨rfl, hb⟩
      exact ⟨_, _, rfl, Sld.nil _ _ _ _ _ _, Sld.nil _ _ _ _ _ _, hb⟩
  · rw [askS, if_neg h01]
    by_cases h2 : K = 2
    · subst h2
      rw [if_pos rfl]
      generalize hd : l.drop a = r
      have hlen : r.length = l.length - a := by rw [← hd, List.length_drop]
      rcases r with _ | ⟨x, r⟩
      · obtain ⟨ao, cap, rfl⟩ := hv.form
        refine (read_flag_short ao l.length cap a wh M E op w (by simp at hlen; omega)).mono ?_
        rintro e w' ⟨rfl, hb⟩
        exact ⟨.slice none 0 0, .slice none 0 0, by simp [flagS, stX, stv], Sld.nil _ _ _ _ _ _, Sld.nil _ _ _ _ _ _, hb⟩
      · have hal : a < l.length := by simp at hlen; omega
        have hx : l[a] = x := by
          have := List.drop_eq_getElem_cons hal
          rw [hd] at this
          exact (List.cons.inj this).1.symm
        rcases hv with ⟨ao, cap, rfl, rfl⟩ | ⟨b, o, cap, rfl, hcap, h3⟩
        · simp at hal
        · have hcell := h3 a hal
          rw [hx] at hcell
          by_cases h1 : 1 < x
          · refine (read_flag_kind b o l.length cap a x wh M E op w hal h1 hcell).mono ?_
            rintro e w' ⟨rfl, hb⟩
            exact ⟨.slice none 0 0, .slice none 0 0, by simp [flagS, h1, stX, stv], Sld.nil _ _ _ _ _ _, Sld.nil _ _ _ _ _ _, hb⟩
          · refine (read_flag_ok b o l.length cap a x wh M E op w hal (by omega) h1 hcell).mono ?_
            rintro e w' ⟨rfl, hb⟩
            exact ⟨.slice none 0 0, .slice none 0 0, by simp [flagS, h1, stX, stv], Sld.nil _ _ _ _ _ _, Sld.nil _ _ _ _ _ _, hb⟩
    · rw [if_neg h2]
      by_cases h3 : K = 3
      · subst h3
        rw [if_pos rfl]
        simp only
        have hc := fun W (h : Below w.heap.size w W) => reft_any v l a M wh op w0 W hv0 (hW0.trans (h.mono hW0.size)) hl hby hM ha
        obtain ⟨A', C', OP', WH', hf⟩ := stX_form (textS l a M).1 (textS l a M).2.1 a (textS l a M).2.2.1
        simp only [hf] at hc ⊢
        refine (read_text v a wh M E A' C' WH' _ op OP' w0.heap.size w hW0.size (hide hc)).mono ?_
        rintro e w' ⟨u, rfl, hs, hb⟩
        exact ⟨_, _, rfl, hs, Sld.nil _ _ _ _ _ _, hb⟩
      · rw [if_neg h3]
        simp only
        have hc := fun W (h : Below w.heap.size w W) => refr_any v l a M E wh op w0 W hv0 (hW0.trans (h.mono hW0.size)) hl hby hM hE ha
        obtain ⟨A', C', OP', WH', hf⟩ := stX_form (rowS l a M E).1 ⟨#[110, 117, 109]⟩ (rowS l a M E).2.1 (rowS l a M E).2.1
        simp only [hf] at hc ⊢
        refine (read_row v a wh K M E A' C' WH' _ op OP' 0 w (Nat.zero_le _) (by simpa using fun h => h01 (.inl h)) (by simpa using fun h => h01 (.inr h)) (by simpa using h2) (by simpa using h3) (hide hc)).mono ?_
        rintro e w' ⟨u, rfl, hs, hb⟩
        exact ⟨_, _, rfl, Sld.nil _ _ _ _ _ _, hs, hb⟩
end Go.Proofs.YtfjkahclobnhiaaDoor
