/-
  THE DOCUMENT's STORE OVER ONE STATE (castellanref08): a block is freed (Free). Condition: fewer than ninety thousand writes.
  A BLOCK IS READ, AS THE DOCUMENT READS IT (castellanref08.Read), over any store: what was written last, noughts else. Condition: fewer than eighty thousand blocks and writes.
-/
import Derived.Test.YtoamghncncalgaaGreatDoorJDocAna2
namespace Go.Proofs.YtoamghncncalgaaGreatDoor
open Go.RowKit

/-- The document's store v is in the state s, in blocks of memory that P names. -/
def Dd (W : World) (P : Nat → Prop) (v : Value) (s : Dst) : Prop := ∃ vc vl qs ls, v = .agg #[.int .i64 s.room, vc, vl] ∧ Cl W P vc qs ∧ Ll W P vl ls ∧ csOf qs = s.cs ∧ loOf ls = s.lo
theorem Dd.keep {W W' : World} {P P' : Nat → Prop} {v : Value} {s : Dst} (h : Dd W P v s) (hP : ∀ k, P k → k < W.heap.size → P' k) (hk : ∀ k, P k → k < W.heap.size → W'.heap[k]? = W.heap[k]?) : Dd W' P' v s := by
  obtain ⟨vc, vl, qs, ls, e, h1, h2, h3, h4⟩ := h
  exact ⟨vc, vl, qs, ls, e, h1.keep hP hk, h2.keep hP hk, h3, h4⟩
theorem Dd.below {W W' : World} {P : Nat → Prop} {v : Value} {s : Dst} (h : Dd W P v s) (hb : Below W.heap.size W W') : Dd W' P v s := h.keep (fun _ p _ => p) (fun k _ hk => hb.block k hk)
theorem Dd.old {W : World} {P : Nat → Prop} {v : Value} {s : Dst} (h : Dd W P v s) : Dd W (fun k => P k ∧ k < W.heap.size) v s := h.keep (fun _ p q => ⟨p, q⟩) (fun _ _ _ => rfl)
theorem two_boxes (w : World) (x y z : Value) : B3 ((w.alloc (.cells #[x, y, z] 37)).alloc (.cells #[.int .i64 0, .slice none 0 0, .slice none 0 0] 37)) w.heap.size x y z ∧ B3 ((w.alloc (.cells #[x, y, z] 37)).alloc (.cells #[.int .i64 0, .slice none 0 0, .slice none 0 0] 37)) (w.heap.size + 1) (.int .i64 0) (.slice none 0 0) (.slice none 0 0) ∧ Below w.heap.size w ((w.alloc (.cells #[x, y, z] 37)).alloc (.cells #[.int .i64 0, .slice none 0 0, .slice none 0 0] 37)) := by
  have hr := b3_new (w.alloc (.cells #[x, y, z] 37)) (.int .i64 0) (.slice none 0 0) (.slice none 0 0) 37
  have s1 : (w.alloc (.cells #[x, y, z] 37)).heap.size = w.heap.size + 1 := by simp
  rw [s1] at hr
  exact ⟨(b3_new w x y z 37).below (al_d _ _), hr, bt (al_d w _) (al_d _ _)⟩
set_option maxRecDepth 100000 in
set_option maxHeartbeats 4000000 in
theorem rfree_ok {P : Nat → Prop} (v : Value) (a : Int) (s : Dst) (w : World) (h : Dd w P v s) (ha : Num a) (hn : s.lo.length < 90000) : Calls Tryz.prog 75 #[v, .int .i64 a] w fun e w' => ∃ v', e = .returned (.tuple #[v', .int .i64 0]) ∧ Dd w' (fun k => P k ∨ w.heap.size ≤ k) v' ⟨s.room, s.cs, s.lo ++ [⟨a, true, zer⟩]⟩ ∧ Below w.heap.size w w' := by
  obtain ⟨vc, vl, qs, ls, rfl, hc, hl, h3, h4⟩ := h.old
  obtain ⟨ca, cc, rfl⟩ := hc.fm
  obtain ⟨la, lc, rfl⟩ := hl.fm
  have hnl : ls.length < 90000 := by have := congrArg List.length h4; simp [loOf] at this; omega
  have HA := hide ha
  have HC := hide hc
  have HL := hide hl
  have H3 := hide h3
  have H4 := hide h4
  have HT := hide (two_boxes w (.int .i64 s.room) (.slice ca qs.length cc) (.slice la ls.length lc))
  clear ha hc hl h3 h4 h
  go_enter Tryz.func75, Tryz.ntmps75
  go_upto_region 3 with (first | (go_at_call 60; refine (right_ok _ _ HA.out).mono ?_; rintro e w9 ⟨rfl, hw9⟩; rw [hw9]; clear hw9 w9))
  generalize (w.alloc (.cells #[.int .i64 s.room, .slice ca qs.length cc, .slice la ls.length lc] 37)).alloc (.cells #[.int .i64 0, .slice none 0 0, .slice none 0 0] 37) = V at HT ⊢
  obtain ⟨d0, d1, d2, _⟩ := HT.out.1
  have HR := hide HT.out.2.1
  have HB := hide HT.out.2.2
  have HLV := hide (HL.out.below HT.out.2.2)
  have hwr : w.heap.size ≤ w.heap.size + 1 := by omega
  have HRV : Hid (w.heap.size + 1 < V.heap.size) := hide (cell_block HT.out.2.1.c0)
  clear HT
  generalize w.heap.size + 1 = R at HR hwr HRV ⊢
  go_wp2_with (first | (go_at_call 62; refine (and_any s.room (.slice ca qs.length cc) (.slice la ls.length lc) ls (⟨a, true, zer⟩, 0) _ ⟨_, _, _, rfl⟩ HLV.out (fun e => by cases e) hnl).mono ?_; rintro e W7 ⟨v7, rfl, hl7, hb7⟩; obtain ⟨a7, c7, rfl⟩ := hl7.fm; have HL7 := hide hl7; have HR7 := hide (HR.out.below hb7); have HB7 := hide (bt HB.out hb7); have e0 := HR7.out.c0; have e1 := HR7.out.c1; have e2 := HR7.out.c2; have f0 := HR7.out.fz 0; have f1 := HR7.out.fz 1; have f2 := HR7.out.fz 2; clear hl7 hb7))
  have hl7 := HL7.out
  have hlen : (ls ++ [(((⟨a, true, zer⟩ : Wr), (0 : Nat)) : Dw)]).length = ls.length + 1 := by simp
  rw [hlen] at hl7
  have hb9 := set3_below HB7.out hwr (.int .i64 s.room) (.slice ca qs.length cc) (.slice a7 (ls.length + 1) c7)
  refine bodyPost_ret (v := .tuple #[.agg #[_, _, _], .int .i64 0]) (res_two Tryz.results75 _ _ R [_, _, _] _ _ rfl rfl (HR7.out.all (.int .i64 s.room) (.slice ca qs.length cc) (.slice a7 (ls.length + 1) c7)).rg Tryz.underlying37 rfl infoDd) rfl ⟨_, rfl, ⟨_, _, qs, ls ++ [(⟨a, true, zer⟩, 0)], rfl, ?_, ?_, H3.out, by rw [loOf, List.map_append]; exact congrArg (· ++ [(⟨a, true, zer⟩ : Wr)]) H4.out⟩, hb9⟩
  · exact HC.out.keep (fun k h _ => .inl h.1) (fun k h hk => hb9.block k hk)
  · exact hl7.keep (fun k h _ => h.elim (fun q => .inl q.1) (fun q => .inr (by have := HB.out.size; omega))) (fun k h _ => set3_heap (h.elim (fun q => by have := q.2; omega) (fun q => by have := HRV.out; omega)) _ _ _)
end Go.Proofs.YtoamghncncalgaaGreatDoor
namespace Go.Proofs.YtoamghncncalgaaGreatDoor
open Go.RowKit

theorem look_tk_skip {cs : Cs} {lo : List Wr} {a : Int} {k : Nat} (h : ∀ j (hj : j < lo.length), k ≤ j → (lo[j]).at_ ≠ a) : look (tkO cs lo) a = look (tkO cs (lo.take k)) a := by
  have e : tkO cs lo = tkO (tkO cs (lo.take k)) (lo.drop k) := by
    unfold tkO
    rw [← List.foldl_append, List.take_append_drop]
  rw [e]
  refine look_tkO (fun w hw => ?_)
  obtain ⟨j, hj, rfl⟩ := List.mem_iff_getElem.1 hw
  rw [List.length_drop] at hj
  rw [List.getElem_drop]
  exact h (k + j) (by omega) (by omega)
theorem look_tk_hit {cs : Cs} {lo : List Wr} {a : Int} {k : Nat} (hk : k < lo.length) (h : ∀ j (hj : j < lo.length), k + 1 ≤ j → (lo[j]).at_ ≠ a) (he : (lo[k]).at_ = a) : (look (tkO cs lo) a).getD zer = if (lo[k]).fr then zer else (lo[k]).by_ := by
  rw [look_tk_skip h, take_step hk, tkO_snoc]
  unfold stT
  cases hf : (lo[k]).fr
  · simp only [Bool.false_eq_true, if_false]
    rw [look_ins, if_pos he.symm]; rfl
  · simp only [if_true]
    split
    · rw [look_ins, if_pos he.symm]; rfl
    · rename_i hn
      rw [he] at hn
      cases hl : look (tkO cs (lo.take k)) a with
      | none => rfl
      | some b => rw [hl] at hn; simp at hn
theorem dwv_sl {W : World} {P : Nat → Prop} {q : Dw} (h : q.1.fr = false → P q.2 ∧ Au W q.2 q.1.by_) : Sl bc W (dwv q) (if q.1.fr then [] else q.1.by_) := by
  unfold dwv
  cases hf : q.1.fr
  · simp only [Bool.false_eq_true, if_false]; exact (h hf).2.all
  · simp only [if_true]; exact Sl.nil _ _ _ _
theorem pad_blkD {b : List Int} (h : b.length = 64) : b.take 64 ++ zer.drop b.length = b := by
  rw [List.take_of_length_le (by omega), h, List.drop_of_length_le (by rw [zer_len]; exact Nat.le_refl _), List.append_nil]
theorem rd_found {W : World} {P : Nat → Prop} {qs : List Ce} {cs : Cs} {a : Int} {x : Value} (h3 : csOf qs = cs) (h1 : look (csOf qs) a = none → x = .slice none 0 0) (h2 : ∀ b, look (csOf qs) a = some b → ∃ g, x = .slice (some ⟨g, 0, none⟩) 64 64 ∧ P g ∧ Au W g b) : ∃ b, Sl bc W x b ∧ b.length ≤ 64 ∧ b.take 64 ++ zer.drop b.length = (look cs a).getD zer := by
  subst h3
  cases hl : look (csOf qs) a with
  | none =>
    rw [h1 hl]
    exact ⟨[], Sl.nil _ _ _ _, by simp, by simp⟩
  | some b =>
    obtain ⟨g, rfl, _, ha⟩ := h2 b hl
    exact ⟨b, ha.all, by rw [ha.1.1]; exact Nat.le_refl _, pad_blkD ha.1.1⟩
set_option maxRecDepth 100000 in
set_option maxHeartbeats 4000000 in
theorem rread_ok {P : Nat → Prop} (v : Value) (a : Int) (s : Dst) (w : World) (h : Dd w P v s) (ha : Num a) (hok : s.Ok) (hn : s.cs.length + s.lo.length < 80000) : Calls Tryz.prog 69 #[v, .int .i64 a] w fun e w' => ∃ g, e = .returned (.tuple #[.slice (some ⟨g, 0, none⟩) 64 64, .int .i64 0]) ∧ w'.heap[g]? = some (.cells (bv ((look s.tk a).getD zer)).toArray 5 (0, 0)) ∧ w.heap.size ≤ g ∧ Below w.heap.size w w' := by
  obtain ⟨vc, vl, qs, ls, rfl, hc, hl, h3, h4⟩ := h
  obtain ⟨ca, cc, rfl⟩ := hc.fm
  obtain ⟨la, lc, rfl⟩ := hl.fm
  have hnl : ls.length = s.lo.length := by have := congrArg List.length h4; simpa [loOf] using this
  have hnq : qs.length = s.cs.length := by have := congrArg List.length h3; simpa [csOf] using this
  have HA := hide ha
  have HC := hide hc
  have HL := hide hl
  have H3 := hide h3
  have H4 := hide h4
  have HNL := hide hnl
  have HOK := hide hok
  have hls : ls.length < 80000 := by omega
  have HQN : Hid (qs.length < 100000) := hide (by omega)
  clear ha hc hl h3 h4 hnl hnq hok
  go_enter Tryz.func69, Tryz.ntmps69
  go_wp2_with (first | (go_at_call 60; refine (right_ok _ _ HA.out).mono ?_; rintro e w9 ⟨rfl, hw9⟩; rw [hw9]; clear hw9 w9))
  have HV := hide (b3_new w (.int .i64 s.room) (.slice ca qs.length cc) (.slice la ls.length lc) 37)
  have HB := hide (al_d w (.cells #[.int .i64 s.room, .slice ca qs.length cc, .slice la ls.length lc] 37))
  generalize w.alloc (.cells #[.int .i64 s.room, .slice ca qs.length cc, .slice la ls.length lc] 37) = V at HV HB ⊢
  have i2 := HV.out.c2
  go_loopw [6] (fun i W => ∃ k : Nat, k ≤ ls.length ∧ i = .int .i64 ((k : Int) - 1) ∧ Below V.heap.size V W ∧ ∀ j (h : j < ls.length), k ≤ j → (ls[j]).1.at_ ≠ a) (fun i _ => (iv i + 1).toNat)
  case atStart => exact ⟨ls.length, Nat.le_refl _, rfl, Below.refl _ _, fun j h h2 => by omega⟩
  case round =>
    obtain ⟨k, hk, rfl, hb, hno⟩ := hrel
    have HNO : Hid (∀ j (h : j < s.lo.length), k ≤ j → (s.lo[j]).at_ ≠ a) := hide (fun j h h2 => by
      have h' : j < ls.length := by have := HNL.out; omega
      have := congrArg (fun L => L[j]?) H4.out
      simp only [loOf, List.getElem?_map, List.getElem?_eq_getElem h', List.getElem?_eq_getElem h, Option.map_some] at this
      rw [← Option.some.inj this]
      exact hno j h' h2)
    have HNX := hide hno
    have HW := hide hb
    have HWW := hide (HB.out.trans (hb.mono HB.out.size))
    obtain ⟨d0, d1, d2, _⟩ := HV.out.below hb
    clear hb hno i2
    cases k with
    | zero =>
      rw [show ((0 : Nat) : Int) - 1 = -1 by omega]
      have HE : Hid (look s.tk a = look s.cs a) := hide (look_tk_skip HNO.out)
      go_wp2_with (first | (go_at_call 53; refine (find_any qs a _ (HC.out.below HWW.out) HQN.out).mono ?_; rintro e w9 ⟨x, rfl, hw9, hx1, hx2⟩; subst hw9; have hsl : ∃ b, Sl bc w9 x b ∧ b.length ≤ 64 ∧ b.take 64 ++ zer.drop b.length = (look s.cs a).getD zer := rd_found H3.out hx1 hx2; obtain ⟨b, hsl, hb64, hbe⟩ := hsl; obtain ⟨xa, xc, rfl⟩ := hsl.form; have HSL := hide hsl; have HBE := hide hbe; clear hx1 hx2 hsl hbe) | (go_at_call 54; refine (pad_any _ b _ HSL.out (by omega)).mono ?_; rintro e w8 ⟨rfl, hg8, hb8⟩; rw [HBE.out] at hg8; have HG8 := hide hg8; have HB8 := hide hb8; clear hg8 hb8))
      go_ret2
      exact ⟨_, rfl, by rw [HE.out]; exact HG8.out, HWW.out.size, HWW.out.trans (HB8.out.mono HWW.out.size)⟩
    | succ m =>
      rw [show ((m + 1 : Nat) : Int) - 1 = (m : Int) by omega]
      have hm : m < ls.length := by omega
      have hm2 : m < s.lo.length := by have := HNL.out; omega
      obtain ⟨lb, lo, rfl, c0, c1, c2⟩ := Ll.at (HL.out.below HWW.out) hm
      have hq4 : (ls[m]).1 = s.lo[m] := by have := congrArg (fun L => L[m]?) H4.out; simp only [loOf, List.getElem?_map, List.getElem?_eq_getElem hm, List.getElem?_eq_getElem hm2, Option.map_some] at this; exact Option.some.inj this
      have HSL := hide (dwv_sl (fun e => (HL.out.below HWW.out).au _ (List.getElem_mem hm) e))
      have HEQ : Hid ((ls[m]).1.at_ = a → (look s.tk a).getD zer = (if (ls[m]).1.fr then zer else (ls[m]).1.by_)) := hide (fun e => by rw [hq4] at e ⊢; exact look_tk_hit hm2 HNO.out e)
      have HLN : Hid ((ls[m]).1.by_.length = 64) := hide (by rw [hq4]; exact (HOK.out.lb _ (List.getElem_mem hm2)).2.1.1)
      have HNN : Hid ((ls[m]).1.at_ ≠ a → ∀ j (h : j < ls.length), m ≤ j → (ls[j]).1.at_ ≠ a) := hide (fun hne j h h2 => by
        by_cases e : j = m
        · subst e; exact hne
        · exact HNX.out j h (by omega))
      generalize ls[m] = q at c0 c1 c2 HSL HEQ HLN HNN
      clear hq4 c1
      obtain ⟨va, vn, vc, hv⟩ := dwv_form q
      rw [hv] at c2 HSL
      by_cases he : q.1.at_ = a
      · have HE := hide (HEQ.out he)
        have HPD : Hid ((if q.1.fr then ([] : List Int) else q.1.by_).take 64 ++ zer.drop (if q.1.fr then ([] : List Int) else q.1.by_).length = (if q.1.fr then zer else q.1.by_)) := hide (by
          cases q.1.fr
          · simp only [Bool.false_eq_true, if_false]; exact pad_blkD HLN.out
          · simp)
        have HPL : Hid ((if q.1.fr then ([] : List Int) else q.1.by_).length ≤ 100000) := hide (by
          cases q.1.fr
          · simp only [Bool.false_eq_true, if_false]; rw [HLN.out]; decide
          · simp)
        rw [he] at c0
        clear hv HNN he HEQ
        go_wp2_with (first | (go_at_call 54; refine (pad_any _ _ _ HSL.out HPL.out).mono ?_; rintro e w8 ⟨rfl, hg8, hb8⟩; rw [HPD.out] at hg8; have HG8 := hide hg8; have HB8 := hide hb8; clear hg8 hb8))
        go_ret2
        exact ⟨_, rfl, by rw [HE.out]; exact HG8.out, HWW.out.size, HWW.out.trans (HB8.out.mono HWW.out.size)⟩
      · have hz : (q.1.at_ == a) = false := beq_eq_false_iff_ne.2 he
        have HN2 := hide (HNN.out he)
        generalize q.1.at_ = qa at c0 hz
        clear hv HNN he HEQ HSL HLN
        go_wp2
        exact ⟨⟨m, by omega, by go_num, HW.out, HN2.out⟩, by simp [iv]⟩
end Go.Proofs.YtoamghncncalgaaGreatDoor
