/-
  HOW MANY BLOCKS ARE TAKEN, AS THE DOCUMENT COUNTS THEM (castellanref08.Used), over any store: as many as are there. Conditions: the numbers rise, fewer than eighty thousand blocks and writes.
-/
import Derived.Test.YtpmpmdlmcpakiaaDoorDocFr
namespace Go.Proofs.YtpmpmdlmcpakiaaDoor
open Go.RowKit

theorem look_stT_is (t : Cs) (w : Wr) (a : Int) : (look (stT t w) a).isSome = ((look t a).isSome || (decide (w.at_ = a) && !w.fr)) := by
  by_cases e : w.at_ = a
  · subst e
    unfold stT
    cases hf : w.fr
    · simp only [Bool.false_eq_true, if_false]
      rw [look_ins, if_pos rfl]; simp
    · simp only [if_true]
      split
      · rename_i h; rw [look_ins, if_pos rfl]; simp [h]
      · simp
  · rw [look_stT e]; simp [e]
/-- What is taken is what is there. -/
theorem tkn_is (a : Int) : ∀ (lo : List Wr) (cs : Cs), tkn cs lo a = (look (tkO cs lo) a).isSome
  | [], cs => by simp [tkn, tkO]
  | w :: lo, cs => by
    have h : tkO cs (w :: lo) = tkO (stT cs w) lo := rfl
    rw [h, ← tkn_is a lo (stT cs w)]
    unfold tkn
    rw [look_stT_is, List.any_cons, Bool.or_assoc]
theorem tk_len_step {cs : Cs} (h : Asc cs) {lo : List Wr} {k : Nat} (hk : k < lo.length) : (tkO cs (lo.take (k + 1))).length = (tkO cs (lo.take k)).length + (if (lo[k]).fr || tkn cs (lo.take k) (lo[k]).at_ then 0 else 1) := by
  rw [take_step hk, tkO_snoc, tkn_is]
  have ha := asc_tkO h (lo.take k)
  generalize tkO cs (lo.take k) = t at ha
  unfold stT
  cases hf : (lo[k]).fr
  · simp only [Bool.false_eq_true, if_false, Bool.false_or]
    rw [ins_len _ _ ha]
    split <;> rfl
  · simp only [if_true, Bool.true_or]
    split
    · rename_i hs
      rw [ins_len _ _ ha, if_pos hs]; rfl
    · rfl
/-- Was it written ahead? -/
def wrb (q : Dw) (a : Int) : Bool := decide (q.1.at_ = a) && !q.1.fr
set_option maxRecDepth 100000 in
set_option maxHeartbeats 8000000 in
theorem rused_any {P : Nat → Prop} (v : Value) (s : Dst) (w : World) (h : Dd w P v s) (hA : Asc s.cs) (hn : s.cs.length + s.lo.length < 80000) : Calls Tryd.prog 13 #[v] w fun e w' => e = .returned (.int .i64 s.tk.length) ∧ Below w.heap.size w w' := by
  obtain ⟨vc, vl, qs, ls, rfl, hc, hl, h3, h4⟩ := h
  obtain ⟨ca, cc, rfl⟩ := hc.fm
  obtain ⟨la, lc, rfl⟩ := hl.fm
  have hnl : ls.length = s.lo.length := by have := congrArg List.length h4; simpa [loOf] using this
  have hnq : qs.length = s.cs.length := by have := congrArg List.length h3; simpa [csOf] using this
  have HA := hide hA
  have HC := hide hc
  have HL := hide hl
  have H3 := hide h3
  have H4 := hide h4
  have HNL := hide hnl
  have HNQ := hide hnq
  have hls : ls.length < 80000 := by omega
  have HQN : Hid (qs.length < 100000) := hide (by omega)
  have HTL : Hid (∀ k, k ≤ ls.length → (tkO s.cs (s.lo.take k)).length < 80000) := hide (fun k hk => by
    have h1 := tkO_len hA (l := s.lo.take k)
    rw [List.length_take] at h1
    omega)
  clear hA hc hl h3 h4 hnl hnq
  go_enter Tryd.func13, Tryd.ntmps13
  go_wp2
  have HV := hide (b3_new w (.int .i64 s.room) (.slice ca qs.length cc) (.slice la ls.length lc) 35)
  have HB := hide (al_d w (.cells #[.int .i64 s.room, .slice ca qs.length cc, .slice la ls.length lc] 35))
  generalize w.alloc (.cells #[.int .i64 s.room, .slice ca qs.length cc, .slice la ls.length lc] 35) = V at HV HB ⊢
  have HS0 : Hid (tkO s.cs (s.lo.take 0) = s.cs) := hide rfl
  go_loopw [3, 4] (fun n i W => ∃ k : Nat, k ≤ ls.length ∧ i = .int .i64 k ∧ n = .int .i64 (tkO s.cs (s.lo.take k)).length ∧ Below V.heap.size V W) (fun _ i _ => ls.length - (iv i).toNat)
  case atStart => exact ⟨0, Nat.zero_le _, rfl, by rw [HS0.out, HNQ.out], Below.refl _ _⟩
  case round =>
    obtain ⟨k, hk, rfl, rfl, hb⟩ := hrel
    have HW := hide hb
    have HWW := hide (HB.out.trans (hb.mono HB.out.size))
    obtain ⟨d0, d1, d2, _⟩ := HV.out.below hb
    clear hb
    by_cases hlt : k < ls.length
    · have hlo : k < s.lo.length := by have := HNL.out; omega
      obtain ⟨lb, lo, rfl, c0, c1, c2⟩ := Ll.at (HL.out.below HWW.out) hlt
      have hq4 : (ls[k]).1 = s.lo[k] := by have := congrArg (fun L => L[k]?) H4.out; simp only [loOf, List.getElem?_map, List.getElem?_eq_getElem hlt, List.getElem?_eq_getElem hlo, Option.map_some] at this; exact Option.some.inj this
      have hst := tk_len_step HA.out hlo
      rw [← hq4, ← H3.out, ← H4.out] at hst
      rw [← H3.out, ← H4.out]
      have htk : (tkO (csOf qs) ((loOf ls).take k)).length < 80000 := by rw [H3.out, H4.out]; exact HTL.out k hk
      have HST := hide hst
      obtain ⟨t1, ht1⟩ : ∃ t1, t1 = (tkO (csOf qs) ((loOf ls).take (k + 1))).length := ⟨_, rfl⟩
      rw [← ht1] at HST
      have HT0 : Hid ((tkO (csOf qs) ((loOf ls).take (k + 1))).length = t1) := hide ht1.symm
      clear ht1
      generalize (tkO (csOf qs) ((loOf ls).take k)).length = t0 at HST htk ⊢
      clear hst hq4 hlo
      generalize ls[k] = q at c0 c1 c2 HST
      obtain ⟨va, vn, vc, hv⟩ := dwv_form q
      rw [hv] at c2
      clear hv
      go_upto_region 6 with fail
      have hbx := b3_new wr (.int .i64 q.1.at_) (.bool q.1.fr) (.slice va vn vc) 76
      have hal := al_d wr (.cells #[.int .i64 q.1.at_, .bool q.1.fr, .slice va vn vc] 76)
      have HD1 := hide ((HV.out.below HW.out).below hal)
      have HW1 := hide (bt HWW.out hal)
      have HV1 := hide (bt HW.out hal)
      clear c0 c1 c2 d0 d1 d2
      generalize wr.alloc (.cells #[.int .i64 q.1.at_, .bool q.1.fr, .slice va vn vc] 76) = W1 at hbx hal HD1 HW1 HV1 ⊢
      generalize wr.heap.size = bx at hbx ⊢
      generalize q.1.at_ = qa at hbx HST ⊢
      generalize q.1.fr = qf at hbx HST ⊢
      have HBX := hide hbx
      obtain ⟨b0, b1, b2, _⟩ := hbx
      obtain ⟨d0, d1, d2, _⟩ := HD1.out
      clear hal
      cases hlk : (look (csOf qs) qa).isSome
      · have HLK := hide hlk
        cases qf
        · have HTN : Hid (t1 = t0 + (if (ls.take k).any (fun q => wrb q qa) then 0 else 1)) := hide (by
            have := HST.out
            simp only [tkn, hlk, Bool.false_or, loOf, ← List.map_take, List.any_map] at this
            exact this)
          clear HST hlk
          go_wp2_with (first | (go_at_call 33; refine (find_any qs qa _ (HC.out.below HW1.out) HQN.out).mono ?_; rintro e w9 ⟨x, rfl, hw9, _, _⟩; rw [hw9, HLK.out]; clear hw9 w9))
          clear HLK
          go_loopw [8, 9] (fun f i W => ∃ m : Nat, m ≤ k ∧ i = .int .i64 m ∧ f = .bool (!((ls.take m).any fun q => wrb q qa)) ∧ Below W1.heap.size W1 W) (fun _ i _ => k - (iv i).toNat)
          case atStart => exact ⟨0, Nat.zero_le _, rfl, rfl, Below.refl _ _⟩
          case round =>
            obtain ⟨m, hm, rfl, rfl, hb⟩ := hrel
            have HBM := hide hb
            have HVM := hide (HV1.out.trans (hb.mono HV1.out.size))
            have HWM := hide (bt HW1.out hb)
            obtain ⟨y0, y1, y2, _⟩ := HBX.out.below hb
            obtain ⟨z0, z1, z2, _⟩ := HD1.out.below hb
            clear hb b0 b1 b2 d0 d1 d2
            by_cases hmk : m < k
            · have hml : m < ls.length := by omega
              obtain ⟨lb', lo', e, c0, c1, c2⟩ := Ll.at (HL.out.below HWM.out) hml
              cases e
              have HTK : Hid ((ls.take (m + 1)).any (fun q => wrb q qa) = ((ls.take m).any (fun q => wrb q qa) || wrb ls[m] qa)) := hide (by rw [take_step hml, List.any_append]; simp)
              generalize (ls.take m).any (fun q => wrb q qa) = f0 at HTK ⊢
              generalize ls[m] = p at c0 c1 c2 HTK
              obtain ⟨⟨pa, pf, pb⟩, pg⟩ := p
              simp only at c0 c1
              clear c2
              by_cases he : pa = qa
              · subst he
                cases pf
                · go_wp2_with fail
                  go_quiet (fail)
                  go_wp2
                  exact ⟨⟨m + 1, by omega, by go_num, by rw [HTK.out]; simp [wrb], below_drewN HBM.out _⟩, by simp [iv]; omega⟩
                · go_wp2_with fail
                  go_quiet (fail)
                  go_wp2
                  exact ⟨⟨m + 1, by omega, by go_num, by rw [HTK.out]; simp [wrb], below_drewN HBM.out _⟩, by simp [iv]; omega⟩
              · have hz : (pa == qa) = false := beq_eq_false_iff_ne.2 he
                go_wp2_with fail
                go_quiet (fail)
                go_wp2
                exact ⟨⟨m + 1, by omega, by go_num, by rw [HTK.out]; simp [wrb, he], below_drewN HBM.out _⟩, by simp [iv]; omega⟩
            · obtain rfl : m = k := by omega
              cases hf : (ls.take m).any (fun q => wrb q qa)
              · have HTM : Hid (t1 = t0 + 1) := hide (by have := HTN.out; rw [hf] at this; simpa using this)
                go_wp2
                exact ⟨⟨m + 1, by omega, by go_num, by rw [HT0.out, HTM.out]; simp, HVM.out⟩, by simp [iv]; omega⟩
              · have HTM : Hid (t1 = t0) := hide (by have := HTN.out; rw [hf] at this; simpa using this)
                go_wp2
                exact ⟨⟨m + 1, by omega, by go_num, by rw [HT0.out, HTM.out], HVM.out⟩, by simp [iv]; omega⟩
        · have HTN : Hid (t1 = t0) := hide (by have := HST.out; simpa using this)
          clear HST hlk
          go_wp2_with (first | (go_at_call 33; refine (find_any qs qa _ (HC.out.below HW1.out) HQN.out).mono ?_; rintro e w9 ⟨x, rfl, hw9, _, _⟩; rw [hw9, HLK.out]; clear hw9 w9))
          exact ⟨⟨k + 1, by omega, by go_num, by rw [HT0.out, HTN.out], HV1.out⟩, by simp [iv]; omega⟩
      · have HLK := hide hlk
        have HTN : Hid (t1 = t0) := hide (by have := HST.out; simpa [tkn, hlk] using this)
        clear HST hlk
        cases qf
        · go_wp2_with (first | (go_at_call 33; refine (find_any qs qa _ (HC.out.below HW1.out) HQN.out).mono ?_; rintro e w9 ⟨x, rfl, hw9, _, _⟩; rw [hw9, HLK.out]; clear hw9 w9))
          exact ⟨⟨k + 1, by omega, by go_num, by rw [HT0.out, HTN.out], HV1.out⟩, by simp [iv]; omega⟩
        · go_wp2_with (first | (go_at_call 33; refine (find_any qs qa _ (HC.out.below HW1.out) HQN.out).mono ?_; rintro e w9 ⟨x, rfl, hw9, _, _⟩; rw [hw9, HLK.out]; clear hw9 w9))
          exact ⟨⟨k + 1, by omega, by go_num, by rw [HT0.out, HTN.out], HV1.out⟩, by simp [iv]; omega⟩
    · obtain rfl : k = ls.length := by omega
      have HE : Hid (s.lo.take ls.length = s.lo) := hide (List.take_of_length_le (by have := HNL.out; omega))
      go_wp2
      go_ret
      exact ⟨by rw [HE.out]; rfl, HWW.out⟩
end Go.Proofs.YtpmpmdlmcpakiaaDoor
