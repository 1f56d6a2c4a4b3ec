/-
  A BLOCK IS READ, AS THE DOCUMENT READS IT (castellanref08.Read), over any store: what was written last, noughts else. Condition: fewer than eighty thousand blocks and writes.
-/
import Derived.Test.YtpmpmdlmcpakiaaDoorDocFr
namespace Go.Proofs.YtpmpmdlmcpakiaaDoor
open Go.RowKit

theorem look_tk_skip {cs : Cs} {lo : List Wr} {a : Int} {k : Nat} (h : ∀ j (hj : j < lo.length), k ≤ j → (lo[j]).at_ ≠ a) : look (tkO cs lo) a = look (tkO cs (lo.take k)) a := by
  have e : tkO cs lo = tkO (tkO cs (lo.take k)) (lo.drop k) := by
    unfold tkO
    rw [← List.foldl_append, List.take_append_drop]
  rw [e]
  refine look_tkO (fun w hw => ?_)
  obtain ⟨j, hj, rfl⟩ := List.mem_iff_getElem.1 hw
  rw [List.length_drop] at hj
  rw [List.getElem_drop]
  exact h (k + j) (by omega) (by omega)
theorem look_tk_hit {cs : Cs} {lo : List Wr} {a : Int} {k : Nat} (hk : k < lo.length) (h : ∀ j (hj : j < lo.length), k + 1 ≤ j → (lo[j]).at_ ≠ a) (he : (lo[k]).at_ = a) : (look (tkO cs lo) a).getD zer = if (lo[k]).fr then zer else (lo[k]).by_ := by
  rw [look_tk_skip h, take_step hk, tkO_snoc]
  unfold stT
  cases hf : (lo[k]).fr
  · simp only [Bool.false_eq_true, if_false]
    rw [look_ins, if_pos he.symm]; rfl
  · simp only [if_true]
    split
    · rw [look_ins, if_pos he.symm]; rfl
    · rename_i hn
      rw [he] at hn
      cases hl : look (tkO cs (lo.take k)) a with
      | none => rfl
      | some b => rw [hl] at hn; simp at hn
theorem dwv_sl {W : World} {P : Nat → Prop} {q : Dw} (h : q.1.fr = false → P q.2 ∧ Au W q.2 q.1.by_) : Sl bc W (dwv q) (if q.1.fr then [] else q.1.by_) := by
  unfold dwv
  cases hf : q.1.fr
  · simp only [Bool.false_eq_true, if_false]; exact (h hf).2.all
  · simp only [if_true]; exact Sl.nil _ _ _ _
theorem pad_blk {b : List Int} (h : b.length = 64) : b.take 64 ++ zer.drop b.length = b := by
  rw [List.take_of_length_le (by omega), h, List.drop_of_length_le (by rw [zer_len]; exact Nat.le_refl _), List.append_nil]
theorem rd_found {W : World} {P : Nat → Prop} {qs : List Ce} {cs : Cs} {a : Int} {x : Value} (h3 : csOf qs = cs) (h1 : look (csOf qs) a = none → x = .slice none 0 0) (h2 : ∀ b, look (csOf qs) a = some b → ∃ g, x = .slice (some ⟨g, 0, none⟩) 64 64 ∧ P g ∧ Au W g b) : ∃ b, Sl bc W x b ∧ b.length ≤ 64 ∧ b.take 64 ++ zer.drop b.length = (look cs a).getD zer := by
  subst h3
  cases hl : look (csOf qs) a with
  | none =>
    rw [h1 hl]
    exact ⟨[], Sl.nil _ _ _ _, by simp, by simp⟩
  | some b =>
    obtain ⟨g, rfl, _, ha⟩ := h2 b hl
    exact ⟨b, ha.all, by rw [ha.1.1]; exact Nat.le_refl _, pad_blk ha.1.1⟩
set_option maxRecDepth 100000 in
set_option maxHeartbeats 4000000 in
theorem rread_ok {P : Nat → Prop} (v : Value) (a : Int) (s : Dst) (w : World) (h : Dd w P v s) (ha : Num a) (hok : s.Ok) (hn : s.cs.length + s.lo.length < 80000) : Calls Tryd.prog 26 #[v, .int .i64 a] w fun e w' => ∃ g, e = .returned (.tuple #[.slice (some ⟨g, 0, none⟩) 64 64, .int .i64 0]) ∧ w'.heap[g]? = some (.cells (bv ((look s.tk a).getD zer)).toArray 5 (0, 0)) ∧ w.heap.size ≤ g ∧ Below w.heap.size w w' := by
  obtain ⟨vc, vl, qs, ls, rfl, hc, hl, h3, h4⟩ := h
  obtain ⟨ca, cc, rfl⟩ := hc.fm
  obtain ⟨la, lc, rfl⟩ := hl.fm
  have hnl : ls.length = s.lo.length := by have := congrArg List.length h4; simpa [loOf] using this
  have hnq : qs.length = s.cs.length := by have := congrArg List.length h3; simpa [csOf] using this
  have HA := hide ha
  have HC := hide hc
  have HL := hide hl
  have H3 := hide h3
  have H4 := hide h4
  have HNL := hide hnl
  have HOK := hide hok
  have hls : ls.length < 80000 := by omega
  have HQN : Hid (qs.length < 100000) := hide (by omega)
  clear ha hc hl h3 h4 hnl hnq hok
  go_enter Tryd.func26, Tryd.ntmps26
  go_wp2_with (first | (go_at_call 41; refine (right_ok _ _ HA.out).mono ?_; rintro e w9 ⟨rfl, hw9⟩; rw [hw9]; clear hw9 w9))
  have HV := hide (b3_new w (.int .i64 s.room) (.slice ca qs.length cc) (.slice la ls.length lc) 35)
  have HB := hide (al_d w (.cells #[.int .i64 s.room, .slice ca qs.length cc, .slice la ls.length lc] 35))
  generalize w.alloc (.cells #[.int .i64 s.room, .slice ca qs.length cc, .slice la ls.length lc] 35) = V at HV HB ⊢
  have i2 := HV.out.c2
  go_loopw [6] (fun i W => ∃ k : Nat, k ≤ ls.length ∧ i = .int .i64 ((k : Int) - 1) ∧ Below V.heap.size V W ∧ ∀ j (h : j < ls.length), k ≤ j → (ls[j]).1.at_ ≠ a) (fun i _ => (iv i + 1).toNat)
  case atStart => exact ⟨ls.length, Nat.le_refl _, rfl, Below.refl _ _, fun j h h2 => by omega⟩
  case round =>
    obtain ⟨k, hk, rfl, hb, hno⟩ := hrel
    have HNO : Hid (∀ j (h : j < s.lo.length), k ≤ j → (s.lo[j]).at_ ≠ a) := hide (fun j h h2 => by
      have h' : j < ls.length := by have := HNL.out; omega
      have := congrArg (fun L => L[j]?) H4.out
      simp only [loOf, List.getElem?_map, List.getElem?_eq_getElem h', List.getElem?_eq_getElem h, Option.map_some] at this
      rw [← Option.some.inj this]
      exact hno j h' h2)
    have HNX := hide hno
    have HW := hide hb
    have HWW := hide (HB.out.trans (hb.mono HB.out.size))
    obtain ⟨d0, d1, d2, _⟩ := HV.out.below hb
    clear hb hno i2
    cases k with
    | zero =>
      rw [show ((0 : Nat) : Int) - 1 = -1 by omega]
      have HE : Hid (look s.tk a = look s.cs a) := hide (look_tk_skip HNO.out)
      go_wp2_with (first | (go_at_call 33; refine (find_any qs a _ (HC.out.below HWW.out) HQN.out).mono ?_; rintro e w9 ⟨x, rfl, hw9, hx1, hx2⟩; subst hw9; have hsl : ∃ b, Sl bc w9 x b ∧ b.length ≤ 64 ∧ b.take 64 ++ zer.drop b.length = (look s.cs a).getD zer := rd_found H3.out hx1 hx2; obtain ⟨b, hsl, hb64, hbe⟩ := hsl; obtain ⟨xa, xc, rfl⟩ := hsl.form; have HSL := hide hsl; have HBE := hide hbe; clear hx1 hx2 hsl hbe) | (go_at_call 44; refine (pad_any _ b _ HSL.out (by omega)).mono ?_; rintro e w8 ⟨rfl, hg8, hb8⟩; rw [HBE.out] at hg8; have HG8 := hide hg8; have HB8 := hide hb8; clear hg8 hb8))
      go_ret2
      exact ⟨_, rfl, by rw [HE.out]; exact HG8.out, HWW.out.size, HWW.out.trans (HB8.out.mono HWW.out.size)⟩
    | succ m =>
      rw [show ((m + 1 : Nat) : Int) - 1 = (m : Int) by omega]
      have hm : m < ls.length := by omega
      have hm2 : m < s.lo.length := by have := HNL.out; omega
      obtain ⟨lb, lo, rfl, c0, c1, c2⟩ := Ll.at (HL.out.below HWW.out) hm
      have hq4 : (ls[m]).1 = s.lo[m] := by have := congrArg (fun L => L[m]?) H4.out; simp only [loOf, List.getElem?_map, List.getElem?_eq_getElem hm, List.getElem?_eq_getElem hm2, Option.map_some] at this; exact Option.some.inj this
      have HSL := hide (dwv_sl (fun e => (HL.out.below HWW.out).au _ (List.getElem_mem hm) e))
      have HEQ : Hid ((ls[m]).1.at_ = a → (look s.tk a).getD zer = (if (ls[m]).1.fr then zer else (ls[m]).1.by_)) := hide (fun e => by rw [hq4] at e ⊢; exact look_tk_hit hm2 HNO.out e)
      have HLN : Hid ((ls[m]).1.by_.length = 64) := hide (by rw [hq4]; exact (HOK.out.lb _ (List.getElem_mem hm2)).2.1.1)
      have HNN : Hid ((ls[m]).1.at_ ≠ a → ∀ j (h : j < ls.length), m ≤ j → (ls[j]).1.at_ ≠ a) := hide (fun hne j h h2 => by
        by_cases e : j = m
        · subst e; exact hne
        · exact HNX.out j h (by omega))
      generalize ls[m] = q at c0 c1 c2 HSL HEQ HLN HNN
      clear hq4 c1
      obtain ⟨va, vn, vc, hv⟩ := dwv_form q
      rw [hv] at c2 HSL
      by_cases he : q.1.at_ = a
      · have HE := hide (HEQ.out he)
        have HPD : Hid ((if q.1.fr then ([] : List Int) else q.1.by_).take 64 ++ zer.drop (if q.1.fr then ([] : List Int) else q.1.by_).length = (if q.1.fr then zer else q.1.by_)) := hide (by
          cases q.1.fr
          · simp only [Bool.false_eq_true, if_false]; exact pad_blk HLN.out
          · simp)
        have HPL : Hid ((if q.1.fr then ([] : List Int) else q.1.by_).length ≤ 100000) := hide (by
          cases q.1.fr
          · simp only [Bool.false_eq_true, if_false]; rw [HLN.out]; decide
          · simp)
        rw [he] at c0
        clear hv HNN he HEQ
        go_wp2_with (first | (go_at_call 44; refine (pad_any _ _ _ HSL.out HPL.out).mono ?_; rintro e w8 ⟨rfl, hg8, hb8⟩; rw [HPD.out] at hg8; have HG8 := hide hg8; have HB8 := hide hb8; clear hg8 hb8))
        go_ret2
        exact ⟨_, rfl, by rw [HE.out]; exact HG8.out, HWW.out.size, HWW.out.trans (HB8.out.mono HWW.out.size)⟩
      · have hz : (q.1.at_ == a) = false := beq_eq_false_iff_ne.2 he
        have HN2 := hide (HNN.out he)
        generalize q.1.at_ = qa at c0 hz
        clear hv HNN he HEQ HSL HLN
        go_wp2
        exact ⟨⟨m, by omega, by go_num, HW.out, HN2.out⟩, by simp [iv]⟩
end Go.Proofs.YtpmpmdlmcpakiaaDoor
