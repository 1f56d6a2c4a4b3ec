/-
  HOW MANY BLOCKS ARE TAKEN: never more than there is room for; all freed and synced, none. Mathematics alone.
-/
import Derived.Test.YtpmpmdlmcpakiaaDoorBlkDz
namespace Go.Proofs.YtpmpmdlmcpakiaaDoor

theorem asc_sub_len : ∀ {m l : Cs}, Asc l → Asc m → (∀ a, (look l a).isSome = true → (look m a).isSome = true) → l.length ≤ m.length
  | [], [], _, _, _ => Nat.le_refl _
  | [], p :: r, _, _, h => by have := h p.1 (by simp [look]); simp [look] at this
  | q :: s, [], _, _, _ => Nat.zero_le _
  | q :: s, p :: r, hl, hm, h => by
    obtain ⟨h1, h2⟩ := List.pairwise_cons.1 hl
    obtain ⟨k1, k2⟩ := List.pairwise_cons.1 hm
    have hp := h p.1 (by simp [look])
    have hge : q.1 ≤ p.1 := by
      by_cases e : q.1 = p.1
      · omega
      · rw [look, if_neg e] at hp
        by_cases hlt : q.1 ≤ p.1
        · exact hlt
        · rw [look_low (fun x hx => by have := k1 x hx; omega)] at hp
          cases hp
    by_cases e : q.1 = p.1
    · have ih := asc_sub_len (l := r) h2 k2 (fun a ha => by
        have hane : a ≠ p.1 := fun e' => by
          rw [e', look_low (fun x hx => h1 x hx)] at ha
          cases ha
        have := h a (by rw [look, if_neg (fun q => hane q.symm)]; exact ha)
        rw [look, if_neg (fun q => hane (by rw [← e]; exact q.symm))] at this
        exact this)
      simp only [List.length_cons]
      omega
    · have ih := asc_sub_len (l := p :: r) hl k2 (fun a ha => by
        have hane : a ≠ q.1 := fun e' => by
          rw [e', look_low (fun x hx => by
            rcases List.mem_cons.1 hx with e2 | e2
            · rw [e2]; omega
            · have := h1 x e2; omega)] at ha
          cases ha
        have := h a ha
        rw [look, if_neg (fun q => hane q.symm)] at this
        exact this)
      simp only [List.length_cons] at ih ⊢
      omega
theorem stT_keeps {t : Cs} (w : Wr) {a : Int} (h : (look t a).isSome = true) : (look (stT t w) a).isSome = true := by
  unfold stT
  split
  · split
    · rw [look_ins]; split
      · rfl
      · exact h
    · exact h
  · rw [look_ins]; split
    · rfl
    · exact h
theorem tkO_keeps : ∀ {lo : List Wr} {cs : Cs} {a : Int}, (look cs a).isSome = true → (look (tkO cs lo) a).isSome = true
  | [], _, _, h => h
  | w :: r, cs, _, h => tkO_keeps (lo := r) (cs := stT cs w) (stT_keeps w h)
theorem tkO_has : ∀ {lo : List Wr} {cs : Cs} {w : Wr}, w ∈ lo → w.fr = false → (look (tkO cs lo) w.at_).isSome = true
  | x :: r, cs, w, hw, hf => by
    rcases List.mem_cons.1 hw with e | e
    · show (look (tkO (stT cs x) r) w.at_).isSome = true
      refine tkO_keeps ?_
      rw [← e]
      unfold stT
      rw [if_neg (by rw [hf]; decide), look_ins, if_pos rfl]
      rfl
    · exact tkO_has (lo := r) (cs := stT cs x) e hf
theorem stS_from {c : Cs} {w : Wr} {a : Int} (h : (look (stS c w) a).isSome = true) : (look c a).isSome = true ∨ (w.fr = false ∧ w.at_ = a) := by
  unfold stS at h
  split at h
  · rw [look_del] at h
    split at h
    · cases h
    · exact .inl h
  · rename_i hf
    rw [look_ins] at h
    split at h
    · rename_i e
      exact .inr ⟨by simpa using hf, e.symm⟩
    · exact .inl h
theorem syn_from : ∀ {lo : List Wr} {cs : Cs} {a : Int}, (look (syn cs lo) a).isSome = true → (look cs a).isSome = true ∨ ∃ w ∈ lo, w.fr = false ∧ w.at_ = a
  | [], _, _, h => .inl h
  | w :: r, cs, a, h => by
    rcases syn_from (lo := r) (cs := stS cs w) h with q | ⟨x, hx, q⟩
    · rcases stS_from q with q | q
      · exact .inl q
      · exact .inr ⟨w, List.mem_cons_self, q⟩
    · exact .inr ⟨x, List.mem_cons_of_mem _ hx, q⟩
theorem torn_fr (w : Wr) (old : List Int) (cut : Int) : (torn w old cut).fr = w.fr := by
  unfold torn; split <;> rfl
theorem crs_from {K : List Wr} {cs : Cs} {cut a : Int} (h : (look (crs cs K cut) a).isSome = true) : (look cs a).isSome = true ∨ ∃ w ∈ K, w.fr = false ∧ w.at_ = a := by
  rcases nil_or_snoc K with rfl | ⟨K0, x, rfl⟩
  · exact .inl h
  · rw [crs_snoc] at h
    rcases stS_from h with q | q
    · rcases syn_from q with q | ⟨y, hy, q⟩
      · exact .inl q
      · exact .inr ⟨y, by simp [hy], q⟩
    · rw [torn_fr, torn_at] at q
      exact .inr ⟨x, by simp, q⟩
theorem syS_tk {s : Dst} (h : s.Ok) : (syS s).tk.length ≤ s.tk.length :=
  asc_sub_len (asc_syn h.asc _) h.ta (fun a ha => by
    rcases syn_from ha with q | ⟨w, hw, q1, q2⟩
    · exact tkO_keeps q
    · rw [← q2]; exact tkO_has hw q1)
theorem crS_tk {s : Dst} (h : s.Ok) (ks : List Int) (cut : Int) : (crS s ks cut).tk.length ≤ s.tk.length :=
  asc_sub_len (asc_crs h.asc _ _) h.ta (fun a ha => by
    rcases crs_from ha with q | ⟨w, hw, q1, q2⟩
    · exact tkO_keeps q
    · rw [← q2]; exact tkO_has (kpt_sub hw) q1)
theorem frS_tk {s : Dst} (h : s.Ok) (a : Int) : (frS s a).tk.length = s.tk.length := by
  unfold frS
  split
  · rw [show (Dst.tk ⟨s.room, s.cs, s.lo ++ [wfr a]⟩) = stT s.tk (wfr a) from tkO_snoc _ _ _]
    unfold stT
    rw [if_pos (show (wfr a).fr = true from rfl)]
    split
    · rename_i hs
      rw [ins_len _ _ h.ta, if_pos hs]
    · rfl
  · rfl
theorem wrS_tk {s : Dst} (h : s.Ok) (a : Int) (b : List Int) (hr : (s.tk.length : Int) ≤ s.room) : ((wrS s a b).tk.length : Int) ≤ s.room := by
  unfold wrS
  split
  · split
    · split
      · rename_i hq
        rw [show (Dst.tk ⟨s.room, s.cs, s.lo ++ [⟨a, false, padL b⟩]⟩) = insM a (padL b) s.tk from tkO_snoc _ _ _, ins_len _ _ h.ta]
        split
        · exact hr
        · rename_i hn
          rcases hq with q | q
          · exact absurd q hn
          · simp only [Int.natCast_add]
            omega
      · exact hr
    · exact hr
  · exact hr
theorem doS_room (s : Dst) (p : Ac) : (doS s p).room = s.room := by
  unfold doS wrS frS syS crS
  repeat' split
  all_goals rfl
theorem doS_tk {s : Dst} (h : s.Ok) (p : Ac) (hr : (s.tk.length : Int) ≤ s.room) : ((doS s p).tk.length : Int) ≤ s.room := by
  unfold doS
  split
  · exact wrS_tk h _ _ hr
  · split
    · rw [frS_tk h]; exact hr
    · split
      · exact hr
      · split
        · have := syS_tk h; omega
        · split
          · have := crS_tk h p.ks p.cut; omega
          · split
            · show ((0 : Nat) : Int) ≤ _
              omega
            · exact hr
/-- Freed one by one. -/
def frL (s : Dst) (l : Cs) : Dst := ⟨s.room, s.cs, s.lo ++ l.map fun p => wfr p.1⟩
theorem frL_snoc {s : Dst} {l : Cs} {p : Int × List Int} (h : Num p.1) : frS (frL s l) p.1 = frL s (l ++ [p]) := by
  unfold frS frL
  rw [if_pos (show 0 ≤ p.1 ∧ p.1 ≤ 1073741824 from h)]
  simp
theorem syn_frees : ∀ {l m : Cs}, (∀ p ∈ m, ∃ q ∈ l, q.1 = p.1) → syn m (l.map fun p => wfr p.1) = []
  | [], m, h => by
    cases m with
    | nil => rfl
    | cons p r => obtain ⟨q, hq, _⟩ := h p List.mem_cons_self; simp at hq
  | q :: l, m, h => by
    show syn (stS m (wfr q.1)) (l.map fun p => wfr p.1) = []
    refine syn_frees (fun p hp => ?_)
    have hp' : p ∈ delM q.1 m := hp
    obtain ⟨h1, h2⟩ := List.mem_filter.1 hp'
    obtain ⟨x, hx, e⟩ := h p h1
    rcases List.mem_cons.1 hx with e2 | e2
    · rw [e2] at e
      simp at h2
      exact absurd e.symm h2
    · exact ⟨x, e2, e⟩
theorem all_freed (r : Int) (cs : Cs) : syS (frL ⟨r, cs, []⟩ cs) = ⟨r, [], []⟩ := by
  unfold syS frL
  simp only [List.nil_append]
  rw [syn_frees (fun p hp => ⟨p, hp, rfl⟩)]
theorem crash_none (s : Dst) : crS s [] 0 = ⟨s.room, s.cs, []⟩ := by
  unfold crS
  rw [show kpt [] s.lo = [] by simp [kpt], crs_nil]
end Go.Proofs.YtpmpmdlmcpakiaaDoor
