/-
  WHAT A READER READS NEXT, whatever was wrong before (wire.Reader's Int, Flag, Text, Row, Refuse, Err): one state in, one state out. Conditions: the bytes' cells hold them, each is a byte, no more than ten thousand, they don't lie in the reader, and the reader is within them.
-/
import Derived.Test.YthoeajiojdfgdaaGreatDoorRecV
import Derived.Test.YthoeajiojdfgdaaGreatDoorWrowd
import Derived.Laws.IdiomStrings
namespace Go.Proofs.YthoeajiojdfgdaaGreatDoor
open Go.RowKit

/-- The reader at p, of the slice v, is in the state s. -/
def RdG (W : World) (p : Nat) (v : Value) (s : Gs) : Prop := Rd W p v (s.pt : Int) (erN s.op s.pt s.c)
theorem RdG.below {W W' : World} {p : Nat} {v : Value} {s : Gs} (h : RdG W p v s) (hb : Below W.heap.size W W') : RdG W' p v s := Rd.below h hb
theorem RdG.ok {W : World} {p : Nat} {v : Value} {a : Nat} (h : RdG W p v (okS a)) : Rd W p v a .nilIface := h
theorem RdG.bad {W : World} {p : Nat} {v : Value} {s : Gs} (h : RdG W p v s) (hc : s.c ≠ 0) : Rd W p v s.pt (ft s.op s.pt s.c) := by
  unfold RdG at h
  rwa [erN, if_neg hc] at h
theorem rdG_mk {W : World} {p : Nat} {v : Value} {c : Int} {op : ByteArray} {n a : Nat} (hn : c ≠ 0 → n = a) (h : Rd W p v (n : Int) (erN op a c)) : RdG W p v (mkS c op n a) := by
  unfold mkS
  by_cases hc : c = 0
  · subst hc; rw [if_pos rfl]; exact h
  · rw [if_neg hc]
    have := hn hc
    subst this
    exact h
theorem rint_gs (p : Nat) (v : Value) (l : List Int) (m : Int) (s : Gs) (w : World) (hr : RdG w p v s) (hv : Slx p bc w v l) (hl : l.length ≤ 10000) (hby : Byt l) (hs : s.pt ≤ l.length) (h0 : 0 ≤ m) (hm : m ≤ 1073741824) :
    Calls Tryz.prog 61 #[.pointer (some ⟨p, 0, none⟩), .int .i64 m] w fun x w' => x = .returned (.int .i64 (gN m l s).2) ∧ RdG w' p v (gN m l s).1 ∧ Bx p w w' := by
  unfold gN
  by_cases hc : s.c = 0
  · rw [if_pos hc]
    have hr' : Rd w p v s.pt .nilIface := by unfold RdG at hr; rwa [erN, if_pos hc] at hr
    have h1 := rnum_any p v l s.pt m w hr' hv.sl hl hby hs
    have hrg := numS_range (l.drop s.pt) m (fun x hx => hby x (List.mem_of_mem_drop hx))
    refine (rint_of p m m _ w (by omega) (by rw [abv', if_neg (by omega)]) ⟨hrg.1, by omega⟩ (hide h1)).mono ?_
    rintro e w' ⟨rfl, h2, h3⟩
    refine ⟨rfl, rdG_mk (fun q => ?_) h2, h3⟩
    rcases hq : numS (l.drop s.pt) m with ⟨c, k, n⟩
    rw [hq] at q
    have := (numS_bad hq q).1
    simp [this]
  · rw [if_neg hc]
    have hb := hr.bad hc
    refine (rint_keep p v s.pt m _ _ w (by omega) hb).mono ?_
    rintro e w' ⟨rfl, h2, h3⟩
    exact ⟨rfl, by unfold RdG; rw [erN, if_neg hc]; exact h2, h3⟩
theorem rflag_gs (p : Nat) (v : Value) (l : List Int) (s : Gs) (w : World) (hr : RdG w p v s) (hv : Slx p bc w v l) (hl : l.length ≤ 10000) (hs : s.pt ≤ l.length) :
    Calls Tryz.prog 89 #[.pointer (some ⟨p, 0, none⟩)] w fun x w' => x = .returned (.bool (gF l s).2) ∧ RdG w' p v (gF l s).1 ∧ Bx p w w' := by
  unfold gF
  by_cases hc : s.c = 0
  · rw [if_pos hc]
    have hr' : Rd w p v s.pt .nilIface := by unfold RdG at hr; rwa [erN, if_pos hc] at hr
    refine (rflag_any p v l s.pt w hr' hv.sl hl hs).mono ?_
    rintro e w' ⟨rfl, h2, h3⟩
    refine ⟨rfl, rdG_mk (fun q => ?_) h2, h3⟩
    revert q
    unfold flagS
    split
    · intro _; rfl
    · split
      · intro _; rfl
      · intro q; exact absurd rfl q
  · rw [if_neg hc]
    have hb := hr.bad hc
    refine (rflag_err p v s.pt _ _ w hb).mono ?_
    rintro e w' ⟨rfl, rfl⟩
    exact ⟨rfl, by unfold RdG; rw [erN, if_neg hc]; exact hb, Bx.refl _ _⟩
/-- A text's bytes as a string. -/
theorem str_of {W : World} {u : Value} {T : List Int} (h : Sl bc W u T) (hb : Byt T) : (convert 39 9 u).run Tryz.prog W = .ok (.string ⟨(bs T).toArray⟩) W := by
  rcases h with ⟨ao, cap, rfl, rfl⟩ | ⟨b, o, cap, rfl, _, h3⟩
  · cases ao with
    | none =>
      rw [run_convert_bytes_string W 39 9 5 none 0 cap Tryz.underlying39 Tryz.underlying5 Tryz.underlying9]
      simp [Conv.bytesToString]
      rfl
    | some a => exact run_convert_bytes_back W 39 9 5 a cap [] Tryz.underlying39 Tryz.underlying5 Tryz.underlying9 (fun j hj => by simp at hj)
  · have := run_convert_bytes_back W 39 9 5 ⟨b, o, none⟩ cap (bs T) Tryz.underlying39 Tryz.underlying5 Tryz.underlying9 (fun j hj => by
      have hj' : j < T.length := by rwa [bs_len] at hj
      have e := h3 j hj'
      rw [show ((⟨b, o, none⟩ : Addr).add j) = ⟨b, o + j, none⟩ from Addr.add_lit b o j, e]
      have hx := hb T[j] (List.getElem_mem hj')
      have e2 : (bs T)[j] = UInt8.ofNat T[j].toNat := by simp [bs]
      rw [e2, UInt8.toNat_ofNat']
      unfold bc
      congr 2
      omega)
    rwa [bs_len] at this
theorem textS_byt (l : List Int) (a : Nat) (m : Int) (hby : Byt l) : Byt (textS l a m).2.2.2 := by
  unfold textS
  simp only
  split
  · split
    · intro x hx; simp at hx
    · intro x hx; exact hby x (List.mem_of_mem_drop (List.mem_of_mem_take hx))
  · intro x hx; simp at hx
theorem rtext_gs (p : Nat) (v : Value) (l : List Int) (s : Gs) (w : World) (hr : RdG w p v s) (hv : Slx p bc w v l) (hl : l.length ≤ 10000) (hby : Byt l) (hs : s.pt ≤ l.length) :
    Calls Tryz.prog 90 #[.pointer (some ⟨p, 0, none⟩), .int .i64 256] w fun x w' => ∃ u, x = .returned u ∧ (convert 39 9 u).run Tryz.prog w' = .ok (.string ⟨((gT l s).2).toArray⟩) w' ∧ RdG w' p v (gT l s).1 ∧ Bx p w w' := by
  unfold gT
  by_cases hc : s.c = 0
  · rw [if_pos hc]
    have hr' : Rd w p v s.pt .nilIface := by unfold RdG at hr; rwa [erN, if_pos hc] at hr
    refine (rtext_any p v l s.pt 256 w hr' hv hl hby hs (by decide)).mono ?_
    rintro e w' ⟨u, rfl, h1, h2, h3⟩
    refine ⟨u, rfl, str_of h1 (textS_byt l s.pt 256 hby), rdG_mk (fun q => ?_) h2, h3⟩
    revert q
    unfold textS
    simp only
    split
    · split
      · intro _; rfl
      · intro q; exact absurd rfl q
    · intro _; rfl
  · rw [if_neg hc]
    have hb := hr.bad hc
    refine (rtext_bad p v s.pt s.pt 256 0 _ _ _ w hb (hide (rint_keep p v s.pt 256 _ _ w (by decide) hb))).mono ?_
    rintro e w' ⟨rfl, h2, h3⟩
    exact ⟨_, rfl, str_of (Sl.nil _ _ _ _) (fun x hx => by simp at hx), by unfold RdG; rw [erN, if_neg hc]; exact h2, h3⟩
theorem rrow_gs (p : Nat) (v : Value) (l : List Int) (s : Gs) (w : World) (hr : RdG w p v s) (hv : Slx p bc w v l) (hl : l.length ≤ 10000) (hby : Byt l) (hs : s.pt ≤ l.length) :
    Calls Tryz.prog 91 #[.pointer (some ⟨p, 0, none⟩), .int .i64 7, .int .i64 64] w fun x w' => ∃ u, x = .returned u ∧ Sli (fun b => w.heap.size ≤ b) w' u (gR l s).2 ∧ RdG w' p v (gR l s).1 ∧ Bx p w w' := by
  unfold gR
  by_cases hc : s.c = 0
  · rw [if_pos hc]
    have hr' : Rd w p v s.pt .nilIface := by unfold RdG at hr; rwa [erN, if_pos hc] at hr
    refine (rrow_anyd p v l s.pt 7 64 w hr' hv hl hby hs (by decide) (by decide)).mono ?_
    rintro e w' ⟨u, rfl, h1, h2, h3⟩
    refine ⟨u, rfl, ?_, rdG_mk (fun _ => rfl) h2, h3⟩
    rcases h1 with h1 | ⟨b, o, cap, e1, e2, e3, e4⟩
    · exact .inl h1
    · exact .inr ⟨b, o, cap, e1, e2, by omega, e4⟩
  · rw [if_neg hc]
    have hb := hr.bad hc
    obtain ⟨ao, cap, rfl⟩ := hv.sl.form
    refine (rrow_none p ao l.length cap s.pt 7 64 w _ hl hs (hide (rint_keep p _ s.pt 7 _ _ w (by decide) hb))).mono ?_
    rintro e w' ⟨u, rfl, h1, h2, h3⟩
    obtain ⟨ao', cap', rfl⟩ := h1.form
    exact ⟨_, rfl, Sli.nil _ _ _ _, by unfold RdG; rw [erN, if_neg hc]; exact h2, h3⟩
/-- Something is wrong where it is, if nothing was wrong before. -/
def refS (op : ByteArray) (c : Int) (s : Gs) : Gs := if s.c = 0 then ⟨c, op, s.pt⟩ else s
theorem refuse_gs (p : Nat) (v : Value) (s : Gs) (op : ByteArray) (c : Int) (w : World) (hc0 : c ≠ 0) (hr : RdG w p v s) :
    Calls Tryz.prog 62 #[.pointer (some ⟨p, 0, none⟩), .string op, .int .i64 c] w fun x w' => x = .returned (.tuple #[]) ∧ RdG w' p v (refS op c s) ∧ Bx p w w' := by
  unfold refS
  by_cases hc : s.c = 0
  · rw [if_pos hc]
    have hr' : Rd w p v s.pt .nilIface := by unfold RdG at hr; rwa [erN, if_pos hc] at hr
    refine (refuse_none p v s.pt op c w hr').mono ?_
    rintro e w' ⟨rfl, rfl⟩
    exact ⟨rfl, by unfold RdG; rw [erN, if_neg hc0]; exact hr'.sete _, (Bx.refl _ _).set _ _⟩
  · rw [if_neg hc]
    have hb := hr.bad hc
    refine (refuse_some p v s.pt _ _ op c w hb).mono ?_
    rintro e w' ⟨rfl, rfl⟩
    exact ⟨rfl, hr, Bx.refl _ _⟩
end Go.Proofs.YthoeajiojdfgdaaGreatDoor
