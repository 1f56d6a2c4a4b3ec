/-
  A CRASH, AS THE DOCUMENT SAYS IT (castellanref08.kept, Crash), over any store. Conditions: the numbers rise, fewer than eighty thousand blocks and writes.
  A STORE, AND THE DOCUMENT's STORE IN A BOX BESIDE IT: each in its own state. What a chain finds, as rows that are read. No condition of its own.
-/
import Derived.Test.YtoamghncncalgaaGreatDoorJDocPua2
import Derived.Test.YtoamghncncalgaaGreatDoorJRefCda2
import Derived.Test.YtoamghncncalgaaGreatDoorJChWk
import Derived.Test.YtoamghncncalgaaGreatDoorJChSma2
namespace Go.Proofs.YtoamghncncalgaaGreatDoor
open Go.RowKit

/-- Is the write i kept? -/
def kp1 (ks : List Int) (i : Nat) : Bool := decide (ks.getD i 0 ≠ 0)
theorem kpt_nil (ks : List Int) : kpt ks [] = [] := by cases ks <;> rfl
theorem kpt_stp : ∀ (k : Nat) (ks : List Int) (lo : List Wr) (h : k < lo.length), kpt ks (lo.take (k + 1)) = kpt ks (lo.take k) ++ (if kp1 ks k then [lo[k]] else [])
  | _, _, [], h => by simp at h
  | 0, [], x :: r, _ => by simp [kpt, kp1]
  | 0, a :: ks, x :: r, _ => by
    by_cases ha : a = 0
    · simp [kpt, kp1, ha, kpt_nil]
    · simp [kpt, kp1, ha, kpt_nil]
  | k + 1, [], x :: r, _ => by simp [kpt, kp1]
  | k + 1, a :: ks, x :: r, h => by
    have ih := kpt_stp k ks r (by simpa using h)
    have e : kp1 (a :: ks) (k + 1) = kp1 ks k := by simp [kp1]
    simp only [List.take_succ_cons, kpt, List.getElem_cons_succ, e]
    rw [ih]
    split <;> simp
/-- L is the last one of the first k that is kept; -1: none is. -/
def LK (ks : List Int) (k : Nat) (L : Int) : Prop := (L = -1 ∧ ∀ j, j < k → kp1 ks j = false) ∨ ∃ l : Nat, L = l ∧ l < k ∧ kp1 ks l = true ∧ ∀ j, l < j → j < k → kp1 ks j = false
theorem LK.yes {ks : List Int} {k : Nat} (h : kp1 ks k = true) : LK ks (k + 1) k := .inr ⟨k, rfl, by omega, h, fun j h1 h2 => by omega⟩
theorem LK.no {ks : List Int} {k : Nat} {L : Int} (hL : LK ks k L) (h : kp1 ks k = false) : LK ks (k + 1) L := by
  rcases hL with ⟨h1, h2⟩ | ⟨l, h1, h2, h3, h4⟩
  · refine .inl ⟨h1, fun j hj => ?_⟩
    by_cases e : j = k
    · rw [e]; exact h
    · exact h2 j (by omega)
  · refine .inr ⟨l, h1, by omega, h3, fun j hj1 hj2 => ?_⟩
    by_cases e : j = k
    · rw [e]; exact h
    · exact h4 j hj1 (by omega)
theorem kpt_rest {ks : List Int} {lo : List Wr} {m : Nat} (h : ∀ j, m ≤ j → j < lo.length → kp1 ks j = false) : ∀ n, m ≤ n → n ≤ lo.length → kpt ks (lo.take n) = kpt ks (lo.take m) := by
  intro n
  induction n with
  | zero => intro h1 _; rw [show m = 0 by omega]
  | succ n ih =>
    intro h1 h2
    by_cases e : m = n + 1
    · rw [e]
    · rw [kpt_stp n ks lo (by omega), h n (by omega) (by omega), ih (by omega) (by omega)]
      simp
/-- What is synced behind the first k writes of a crash. -/
def crk (cs : Cs) (ks : List Int) (lo : List Wr) (cut L : Int) (k : Nat) : Cs := if 0 ≤ L ∧ L < k then crs cs (kpt ks lo) cut else syn cs (kpt ks (lo.take k))
theorem crk_zero (cs : Cs) (ks : List Int) (lo : List Wr) (cut L : Int) : crk cs ks lo cut L 0 = cs := by
  unfold crk
  rw [if_neg (by omega), List.take_zero, kpt_nil]
  rfl
theorem crk_skip {cs : Cs} {ks : List Int} {lo : List Wr} {cut L : Int} {k : Nat} (hL : LK ks lo.length L) (hk : k < lo.length) (h : kp1 ks k = false) : crk cs ks lo cut L (k + 1) = crk cs ks lo cut L k := by
  unfold crk
  by_cases e : 0 ≤ L ∧ L < k
  · rw [if_pos e, if_pos ⟨e.1, by omega⟩]
  · rw [if_neg e]
    by_cases e2 : 0 ≤ L ∧ L < ((k + 1 : Nat) : Int)
    · exfalso
      have e3 : L = k := by omega
      rcases hL with ⟨h1, _⟩ | ⟨l, h1, _, h3, _⟩
      · omega
      · have : l = k := by omega
        rw [this, h] at h3; cases h3
    · rw [if_neg e2, kpt_stp k ks lo hk, h]
      simp
theorem crk_step {cs : Cs} {ks : List Int} {lo : List Wr} {cut L : Int} {k : Nat} (hL : LK ks lo.length L) (hk : k < lo.length) (h : kp1 ks k = true) : crk cs ks lo cut L (k + 1) = stS (crk cs ks lo cut L k) (if (k : Int) = L then torn lo[k] ((look (crk cs ks lo cut L k) (lo[k]).at_).getD zer) cut else lo[k]) := by
  rcases hL with ⟨h1, h2⟩ | ⟨l, h1, h2, h3, h4⟩
  · rw [h2 k hk] at h; cases h
  · have hlk : k ≤ l := by
      by_cases e : l < k
      · rw [h4 k e hk] at h; cases h
      · omega
    have e0 : crk cs ks lo cut L k = syn cs (kpt ks (lo.take k)) := by unfold crk; rw [if_neg (by omega)]
    rw [e0]
    by_cases e : k = l
    · subst e
      have e1 : crk cs ks lo cut L (k + 1) = crs cs (kpt ks lo) cut := by unfold crk; rw [if_pos (by omega)]
      have e2 : kpt ks lo = kpt ks (lo.take k) ++ [lo[k]] := by
        have h5 := kpt_rest (ks := ks) (lo := lo) (m := k + 1) (fun j h1 h2 => h4 j (by omega) h2) lo.length (by omega) (Nat.le_refl _)
        rw [List.take_length, kpt_stp k ks lo hk, h] at h5
        simpa using h5
      rw [e1, e2, crs_snoc, if_pos h1.symm]
    · have e1 : crk cs ks lo cut L (k + 1) = syn cs (kpt ks (lo.take (k + 1))) := by unfold crk; rw [if_neg (by omega)]
      rw [e1, kpt_stp k ks lo hk, h, if_neg (show ¬ (k : Int) = L by omega)]
      simp [syn_snoc]
theorem crk_end {cs : Cs} {ks : List Int} {lo : List Wr} {cut L : Int} (hL : LK ks lo.length L) : crk cs ks lo cut L lo.length = crs cs (kpt ks lo) cut := by
  unfold crk
  rcases hL with ⟨h1, h2⟩ | ⟨l, h1, h2, _, _⟩
  · rw [if_neg (by omega), List.take_length]
    have := kpt_rest (ks := ks) (lo := lo) (m := 0) (fun j _ h => h2 j h) lo.length (by omega) (Nat.le_refl _)
    rw [List.take_length, List.take_zero, kpt_nil] at this
    rw [this]
    rfl
  · rw [if_pos (by omega)]
theorem crk_asc {cs : Cs} (h : Asc cs) (ks : List Int) (lo : List Wr) (cut L : Int) (k : Nat) : Asc (crk cs ks lo cut L k) := by
  unfold crk
  split
  · exact asc_crs h _ _
  · exact asc_syn h _
theorem crk_len {cs : Cs} (h : Asc cs) (ks : List Int) (lo : List Wr) (cut L : Int) (k : Nat) : (crk cs ks lo cut L k).length ≤ cs.length + lo.length := by
  unfold crk
  split
  · have h1 := crs_len h (kpt ks lo) cut
    have h2 := kpt_len ks lo
    omega
  · have h1 := syn_lenk h (kpt ks (lo.take k))
    have h2 := kpt_len ks (lo.take k)
    rw [List.length_take] at h2
    omega
set_option maxRecDepth 100000 in
set_option maxHeartbeats 4000000 in
theorem kept_any (kv : Value) (ks : List Int) (i : Nat) (w : World) (hk : Sl ic w kv ks) : Calls Tryz.prog 52 #[kv, .int .i64 (i : Int)] w fun e w' => e = .returned (.bool (kp1 ks i)) ∧ w' = w := by
  by_cases h : i < ks.length
  · rcases hk with ⟨_, _, e, _⟩ | ⟨g, o, cap, rfl, hc, h3⟩
    · rw [e] at h; simp at h
    have c0 := h3 i h
    have hx : kp1 ks i = decide (ks[i] ≠ 0) := by simp [kp1, List.getD_eq_getElem?_getD, List.getElem?_eq_getElem h]
    rw [hx]
    generalize ks[i] = x at c0
    simp only [ic] at c0
    clear h3 hx
    go_enter Tryz.func52, Tryz.ntmps52
    go_wp2
    go_ret
    refine ⟨?_, rfl⟩
    by_cases hx : x = 0 <;> simp [hx, bne]
  · obtain ⟨ao, cap, rfl⟩ := hk.form
    have hx : kp1 ks i = false := by simp [kp1, List.getD_eq_getElem?_getD, List.getElem?_eq_none (by omega : ks.length ≤ i)]
    rw [hx]
    clear hx hk
    go_enter Tryz.func52, Tryz.ntmps52
    go_wp2
    go_ret
    exact ⟨rfl, rfl⟩
theorem old_pad {qs : List Ce} {a : Int} {x : Value} {W : World} {P : Nat → Prop} (h0 : look (csOf qs) a = none → x = .slice none 0 0) (h1 : ∀ b, look (csOf qs) a = some b → ∃ g, x = .slice (some ⟨g, 0, none⟩) 64 64 ∧ P g ∧ Au W g b) : ∃ b, Sl bc W x b ∧ b.length ≤ 64 ∧ b.take 64 ++ zer.drop b.length = (look (csOf qs) a).getD zer ∧ Blk ((look (csOf qs) a).getD zer) := by
  cases hl : look (csOf qs) a with
  | none => rw [h0 hl]; exact ⟨[], Sl.nil _ _ _ _, by simp, rfl, blk_zer⟩
  | some b =>
    obtain ⟨g, rfl, _, hA⟩ := h1 b hl
    have hb := hA.1.1
    exact ⟨b, hA.all, by omega, by rw [List.take_of_length_le (by omega), List.drop_eq_nil_of_le (by rw [zer_len]; omega), List.append_nil]; rfl, hA.1⟩
theorem mix_setL {b z : List Int} {k : Nat} (h : k < b.length) (h2 : k < z.length) : (b.take k ++ z.drop k).set k b[k] = b.take (k + 1) ++ z.drop (k + 1) := by
  rw [List.set_append_right _ _ (by rw [List.length_take]; omega), List.length_take, Nat.min_eq_left (by omega), Nat.sub_self, List.take_succ_eq_append_getElem h, List.append_assoc]
  congr 1
  rw [show z.drop k = z[k] :: z.drop (k + 1) from List.drop_eq_getElem_cons h2]
  rfl
set_option maxRecDepth 100000 in
set_option maxHeartbeats 16000000 in
theorem rcrash_any {P : Nat → Prop} (v kv : Value) (ks : List Int) (cut : Int) (s : Dst) (w : World) (h : Dd w P v s) (hk : Sl ic w kv ks) (hA : Asc s.cs) (hn : s.cs.length + s.lo.length < 80000) : Calls Tryz.prog 22 #[v, kv, .int .i64 cut] w fun e w' => ∃ v', e = .returned v' ∧ Dd w' (fun k => P k ∨ w.heap.size ≤ k) v' (crS s ks cut) ∧ Below w.heap.size w w' := by
  obtain ⟨vc, vl, qs, ls, rfl, hc, hl, h3, h4⟩ := h.old
  obtain ⟨ca, cc, rfl⟩ := hc.fm
  obtain ⟨la, lc, rfl⟩ := hl.fm
  obtain ⟨ka, kc, rfl⟩ := hk.form
  have hnl : ls.length = s.lo.length := by have := congrArg List.length h4; simpa [loOf] using this
  have HA := hide hA
  have HC := hide hc
  have HL := hide hl
  have H3 := hide h3
  have H4 := hide h4
  have HKS := hide hk
  have HT2 := hide (two_boxes w (.int .i64 s.room) (.slice ca qs.length cc) (.slice la ls.length lc))
  have HT := hide (three_boxes w s.room (.slice ca qs.length cc) (.slice la ls.length lc))
  have HNL := hide hnl
  have hls : ls.length < 80000 := by omega
  have HN := hide hn
  clear hA hc hl h3 h4 h hnl hk hn
  go_enter Tryz.func22, Tryz.ntmps22
  go_wp2
  obtain ⟨V, hV⟩ : ∃ V, V = (w.alloc (.cells #[.int .i64 s.room, .slice ca qs.length cc, .slice la ls.length lc] 37)).alloc (.cells #[.int .i64 0, .slice none 0 0, .slice none 0 0] 37) := ⟨_, rfl⟩
  rw [← hV] at HT2 HT ⊢
  have HV2 : Hid (V.heap.size = w.heap.size + 1 + 1) := hide (by rw [hV]; simp)
  clear hV
  have HKV := hide (HKS.out.below HT2.out.2.2)
  go_loopw [7, 8] (fun l i W => ∃ (k : Nat) (L : Int), k ≤ ls.length ∧ i = .int .i64 k ∧ l = .int .i64 L ∧ LK ks k L ∧ W = V) (fun _ i _ => ls.length - (iv i).toNat)
  case atStart => exact ⟨0, -1, Nat.zero_le _, rfl, rfl, .inl ⟨rfl, fun j h => by omega⟩, rfl⟩
  case round =>
    obtain ⟨k, L, hk, rfl, rfl, hL, rfl⟩ := hrel
    obtain ⟨d0, d1, d2, _⟩ := HT2.out.1
    by_cases hlt : k < ls.length
    · cases hkp : kp1 ks k
      · have HLN := hide (hL.no hkp)
        have HKP := hide hkp
        clear hL hkp
        go_wp2_with (first | (go_at_call 52; refine (kept_any _ ks k _ HKV.out).mono ?_; rintro e w9 ⟨rfl, hw9⟩; rw [hw9, HKP.out]; clear hw9 w9))
        exact ⟨⟨k + 1, L, by omega, by go_num, rfl, HLN.out, by trivial⟩, by simp [iv]; omega⟩
      · have HLN := hide (LK.yes hkp)
        have HKP := hide hkp
        clear hL hkp
        go_wp2_with (first | (go_at_call 52; refine (kept_any _ ks k _ HKV.out).mono ?_; rintro e w9 ⟨rfl, hw9⟩; rw [hw9, HKP.out]; clear hw9 w9))
        exact ⟨⟨k + 1, k, by omega, by go_num, rfl, HLN.out, by trivial⟩, by simp [iv]; omega⟩
    · obtain rfl : k = ls.length := by omega
      have HLK : Hid (LK ks s.lo.length L) := hide (by rw [← HNL.out]; exact hL)
      clear hL
      go_wp2
      rw [HV2.out]
      clear d0 d1 d2 HT2 HV2 HKV
      generalize wr.alloc (.cells #[.int .i64 s.room, .slice ca qs.length cc, .slice none 0 0] 37) = V at HT ⊢
      have HSV : Hid (V.heap.size = w.heap.size + 1 + 1 + 1) := hide HT.out.2.2.2.2
      have HCV : Hid (Cl V (fun k => (P k ∧ k < w.heap.size) ∨ w.heap.size + 1 + 1 + 1 ≤ k) (.slice ca qs.length cc) qs) := hide ((HC.out.below HT.out.2.2.2.1).keep (fun k h _ => .inl h) (fun _ _ _ => rfl))
      go_loopw [10] (fun i W => ∃ (k : Nat) (vk : Value) (qk : List Ce), k ≤ ls.length ∧ i = .int .i64 k ∧ B3 W w.heap.size (.int .i64 s.room) (.slice ca qs.length cc) (.slice la ls.length lc) ∧ B3 W (w.heap.size + 1) (.int .i64 0) (.slice none 0 0) (.slice none 0 0) ∧ B3 W (w.heap.size + 1 + 1) (.int .i64 s.room) vk (.slice none 0 0) ∧ Cl W (fun k => (P k ∧ k < w.heap.size) ∨ w.heap.size + 1 + 1 + 1 ≤ k) vk qk ∧ csOf qk = crk s.cs ks s.lo cut L k ∧ Below w.heap.size w W ∧ w.heap.size + 1 + 1 + 1 ≤ W.heap.size) (fun i _ => ls.length - (iv i).toNat)
      case atStart => exact ⟨0, _, qs, Nat.zero_le _, rfl, HT.out.1, HT.out.2.1, HT.out.2.2.1, HCV.out, by rw [crk_zero]; exact H3.out, HT.out.2.2.2.1, Nat.le_of_eq HSV.out.symm⟩
      case round =>
        obtain ⟨k, vk, qk, hk, rfl, hd, hr, hx, hck, hcs, hb, hsz⟩ := hrel
        have HD := hide hd
        have HR := hide hr
        have HX := hide hx
        have HCK := hide hck
        have HCS := hide hcs
        have HB := hide hb
        have HSZ := hide hsz
        obtain ⟨ka', kc', rfl⟩ := hck.fm
        have d2 := hd.c2
        have HKW := hide (HKS.out.below hb)
        clear hd hr hx hck hcs hb hsz
        by_cases hlt : k < ls.length
        · have hlo : k < s.lo.length := by have := HNL.out; omega
          cases hkp : kp1 ks k
          · have HST := hide (crk_skip (cs := s.cs) (cut := cut) HLK.out hlo hkp)
            have HKP := hide hkp
            clear hkp hlo
            go_wp2_with (first | (go_at_call 52; refine (kept_any _ ks k _ HKW.out).mono ?_; rintro e w9 ⟨rfl, hw9⟩; rw [hw9, HKP.out]; clear hw9 w9))
            exact ⟨⟨k + 1, _, qk, by omega, by go_num, HD.out, HR.out, HX.out, HCK.out, by rw [HST.out]; exact HCS.out, HB.out, HSZ.out⟩, by simp [iv]; omega⟩
          · have hq4 : (ls[k]).1 = s.lo[k] := by have := congrArg (fun L => L[k]?) H4.out; simp only [loOf, List.getElem?_map, List.getElem?_eq_getElem hlt, List.getElem?_eq_getElem hlo, Option.map_some] at this; exact Option.some.inj this
            have HST := hide (crk_step (cs := s.cs) (cut := cut) HLK.out hlo hkp)
            rw [← hq4] at HST
            have HKP := hide hkp
            obtain ⟨lb, lo, rfl, c0, c1, c2⟩ := Ll.at (HL.out.below HB.out) hlt
            have HAU := hide (HL.out.au _ (List.getElem_mem hlt))
            clear hkp hlo hq4
            generalize ls[k] = q at c0 c1 c2 HST HAU
            have HQK : Hid (qk.length < 90000) := hide (by have h1 := congrArg List.length HCS.out; have h2 := crk_len HA.out ks s.lo cut L k; have h3 := HN.out; simp only [csOf, List.length_map] at h1; omega)
            obtain ⟨va, vn, vc', hv⟩ := dwv_form q
            have HDW : Hid (dwc q = [.int .i64 q.1.at_, .bool q.1.fr, .slice va vn vc']) := hide (by unfold dwc; rw [hv])
            have HDV : Hid (q.1.fr = false → Value.slice va vn vc' = .slice (some ⟨q.2, 0, none⟩) 64 64) := hide (fun e => by rw [← hv]; unfold dwv; rw [e]; rfl)
            rw [hv] at c2
            clear hv
            go_upto_region 13 with (first | (go_at_call 52; refine (kept_any _ ks k _ HKW.out).mono ?_; rintro e w9 ⟨rfl, hw9⟩; rw [hw9, HKP.out]; clear hw9 w9))
            have hbx := b3_new wr (.int .i64 q.1.at_) (.bool q.1.fr) (.slice va vn vc') 107
            have hal := al_d wr (.cells #[.int .i64 q.1.at_, .bool q.1.fr, .slice va vn vc'] 107)
            have HD1 := hide (HD.out.below hal)
            have HR1 := hide (HR.out.below hal)
            have HX1 := hide (HX.out.below hal)
            have HCK1 := hide ((HCK.out.keep (P' := fun k => ((P k ∧ k < w.heap.size) ∨ w.heap.size + 1 + 1 + 1 ≤ k) ∧ k < wr.heap.size) (fun k h hk => ⟨h, hk⟩) (fun _ _ _ => rfl)).below hal)
            have HB1 := hide (HB.out.trans (hal.mono HB.out.size))
            have HSZ1 := hide (Nat.le_trans HSZ.out hal.size)
            have HBXL : Hid (w.heap.size + 1 + 1 + 1 ≤ wr.heap.size) := hide HSZ.out
            clear c0 c1 c2 d2 HD HR HX HCK HB HSZ HKW hal
            generalize wr.alloc (.cells #[.int .i64 q.1.at_, .bool q.1.fr, .slice va vn vc'] 107) = W1 at hbx HD1 HR1 HX1 HCK1 HB1 HSZ1 ⊢
            generalize wr.heap.size = bx at hbx HBXL HCK1 ⊢
            have HBX := hide hbx
            clear hbx
            have HNO : Hid (∀ k, ((P k ∧ k < w.heap.size) ∨ w.heap.size + 1 + 1 + 1 ≤ k) → k ≠ w.heap.size + 1 + 1) := hide (fun k h => h.elim (fun q => by have := q.2; omega) (fun q => by omega))
            by_cases htr : (k : Int) = L ∧ q.1.fr = false ∧ 0 ≤ cut ∧ cut < 64
            · obtain ⟨hkl, hfr, hc0, hc1⟩ := htr
              have HTR : Hid (crk s.cs ks s.lo cut L (k + 1) = stS (csOf qk) ⟨q.1.at_, false, q.1.by_.take cut.toNat ++ ((look (csOf qk) q.1.at_).getD zer).drop cut.toNat⟩) := hide (by
                rw [HST.out, if_pos hkl, ← HCS.out]
                unfold torn
                rw [if_pos ⟨hfr, hc0, hc1⟩]
                congr 1
                rw [← hfr])
              have hvv := HDV.out hfr
              cases hvv
              have HAQ := hide (HAU.out hfr)
              rw [hfr] at HBX
              clear HST HDV HDW HAU
              generalize q.1.at_ = qa at HBX HTR ⊢
              generalize q.1.by_ = qb at HAQ HTR ⊢
              obtain ⟨ld, hld⟩ : ∃ n : Nat, cut = n := ⟨cut.toNat, by omega⟩
              subst hld
              have hll : ld < 64 := by omega
              rw [Int.toNat_natCast] at HTR
              obtain ⟨b0, b1, b2, bf⟩ := HBX.out
              have x1 := HX1.out.c1
              have hlz : (((k : Nat) : Int) == L) = true := by simp [hkl]
              go_wp2_with (first | (go_at_call 53; refine (find_any qk qa _ HCK1.out (by have := HQK.out; omega)).mono ?_; rintro e w9 ⟨x, rfl, hw9, hx0, hx1⟩; rw [hw9]; clear hw9 w9; obtain ⟨ob, hob1, hob2, hob3, hob4⟩ := old_pad hx0 hx1; have HOB := hide (And.intro hob1 (And.intro hob2 (And.intro hob3 hob4))); obtain ⟨oa, oc, rfl⟩ := hob1.form; clear hx0 hx1 hob1 hob2 hob3 hob4) | (go_at_call 54; refine (pad_any _ ob _ HOB.out.1 (by have := HOB.out.2.1; omega)).mono ?_; rintro e W2 ⟨rfl, hg2, hb2⟩; rw [HOB.out.2.2.1] at hg2; have HAN : Hid (Au W2 W1.heap.size ((look (csOf qk) qa).getD zer)) := hide ⟨HOB.out.2.2.2, hg2⟩; have HB2 := hide hb2; clear hg2 hb2))
              clear b0 b1 b2 bf x1 HOB
              have HBX2 := hide (HBX.out.below HB2.out)
              have HD2 := hide (HD1.out.below HB2.out)
              have HR2 := hide (HR1.out.below HB2.out)
              have HX2 := hide (HX1.out.below HB2.out)
              have HCK2 := hide (HCK1.out.below HB2.out)
              have HBW2 := hide (HB1.out.trans (HB2.out.mono HB1.out.size))
              have HAQ2 := hide (And.intro HAQ.out.1 (HAQ.out.2.keep (HBW2.out.block _ HAQ.out.2.lt)))
              have HQL : Hid (q.2 < w.heap.size) := hide HAQ.out.1.2
              have HNG : Hid (bx < W1.heap.size ∧ w.heap.size + 1 + 1 + 1 ≤ W1.heap.size) := hide ⟨cell_block HBX.out.c0, HSZ1.out⟩
              have HSZ2 := hide (Nat.le_trans HSZ1.out HB2.out.size)
              generalize hod : (look (csOf qk) qa).getD zer = od at HAN HTR
              clear HBX HD1 HR1 HX1 HCK1 HB1 HAQ HSZ1 hod
              generalize W1.heap.size = ng at HAN HNG ⊢
              clear HB2
              have HQ6 : Hid (qb.length = 64 ∧ od.length = 64) := hide ⟨HAQ2.out.2.1.1, HAN.out.1.1⟩
              have HQB : Hid (Blk (qb.take ld ++ od.drop ld)) := hide (blk_tear HAQ2.out.2.1 HAN.out.1 _)
              go_loopw [15] (fun i W => ∃ m : Nat, m ≤ ld ∧ i = .int .i64 m ∧ Ba (fun k => k = ng) W2 W ∧ W.heap[ng]? = some (.cells (bv (qb.take m ++ od.drop m)).toArray 5 (0, 0))) (fun i _ => ld - (iv i).toNat)
              case atStart => exact ⟨0, Nat.zero_le _, rfl, Ba.refl _ _, by simpa using HAN.out.2⟩
              case round =>
                obtain ⟨m, hm, rfl, hba, hng⟩ := hrel
                have HBA := hide hba
                have HG := hide hng
                have hkb : ∀ k, k < W2.heap.size → k ≠ ng → wr.heap[k]? = W2.heap[k]? := fun k h1 h2 => hba.block k h1 h2
                have HBX3 := hide (HBX2.out.keepB (hkb bx (cell_block HBX2.out.c0) (by have := HNG.out; omega)))
                have HKB := hide hkb
                clear hba hng hkb
                by_cases hml : m < ld
                · have hqm : m < qb.length := by have := HQ6.out; omega
                  have hom : m < od.length := by have := HQ6.out; omega
                  have haq := HAQ2.out.2.keep (HKB.out _ HAQ2.out.2.lt (by have := HQL.out; have := HNG.out; omega))
                  have c0 : wr.cell? ⟨q.2, m, none⟩ = some (.int .u8 qb[m]) := arr_at0 haq.2 (List.getElem?_eq_getElem hqm)
                  have hlen : m < (qb.take m ++ od.drop m).length := by rw [List.length_append, List.length_take, List.length_drop]; omega
                  have c1 : wr.cell? ⟨ng, m, none⟩ = some (.int .u8 (qb.take m ++ od.drop m)[m]) := arr_at0 HG.out (List.getElem?_eq_getElem hlen)
                  have hf2 : wr.frozen? ⟨ng, m, none⟩ = false := by have := HG.out; simp only [World.frozen?, this]; simp
                  have HS := hide (arr_set HG.out m qb[m])
                  rw [mix_setL hqm hom] at HS
                  have b2 := HBX3.out.c2
                  have hm64 : m < 64 := by omega
                  generalize qb[m] = x at c0 HS
                  generalize (qb.take m ++ od.drop m)[m] = y at c1
                  clear haq hlen hqm hom
                  go_wp2
                  exact ⟨⟨m + 1, by omega, by go_num, HBA.out.set (fun _ => rfl) _ _, HS.out⟩, by simp [iv]; omega⟩
                · obtain rfl : m = ld := by omega
                  have HX3 := hide (HX2.out.keepB (HKB.out _ (cell_block HX2.out.c0) (by have := HNG.out; omega)))
                  have HD3 := hide (HD2.out.keepB (HKB.out _ (cell_block HD2.out.c0) (by have := HNG.out; omega)))
                  have HR3 := hide (HR2.out.keepB (HKB.out _ (cell_block HR2.out.c0) (by have := HNG.out; omega)))
                  have HS3 : Hid (w.heap.size + 1 + 1 + 1 ≤ wr.heap.size) := hide (Nat.le_trans HSZ2.out HBA.out.size)
                  have HB3 : Hid (Below w.heap.size w wr) := hide (HBW2.out.trans (HBA.out.below HBW2.out.size (fun k e => by have := HNG.out; omega)))
                  have HC3 : Hid (Cl wr (fun k => ((P k ∧ k < w.heap.size) ∨ w.heap.size + 1 + 1 + 1 ≤ k) ∧ k < bx) (.slice ka' qk.length kc') qk) := hide (HCK2.out.keep (fun _ h _ => h) (fun k h hk => HKB.out k hk (by have := h.2; have := HNG.out; omega)))
                  have hbxl := HBXL.out
                  have HS9 := hide (HBX3.out.all (.int .i64 qa) (.bool false) (.slice (some ⟨ng, 0, none⟩) 64 64))
                  have HC9 : Hid (Cl (((wr.setCell ⟨bx, 0, none⟩ (.int .i64 qa)).setCell ⟨bx, 1, none⟩ (.bool false)).setCell ⟨bx, 2, none⟩ (.slice (some ⟨ng, 0, none⟩) 64 64)) (fun k => (P k ∧ k < w.heap.size) ∨ w.heap.size + 1 + 1 + 1 ≤ k) (.slice ka' qk.length kc') qk) := hide (HC3.out.keep (fun _ h _ => h.1) (fun k h _ => set3_heap (by have := h.2; omega) _ _ _))
                  have HA9 : Hid (Au (((wr.setCell ⟨bx, 0, none⟩ (.int .i64 qa)).setCell ⟨bx, 1, none⟩ (.bool false)).setCell ⟨bx, 2, none⟩ (.slice (some ⟨ng, 0, none⟩) 64 64)) ng (qb.take m ++ od.drop m)) := hide ⟨HQB.out, (set3_heap (by have := HNG.out; omega) _ _ _).trans HG.out⟩
                  have HX9 := hide (((HX3.out.setO (k := bx) (i := 0) (by omega) (.int .i64 qa)).setO (k := bx) (i := 1) (by omega) (.bool false)).setO (k := bx) (i := 2) (by omega) (.slice (some ⟨ng, 0, none⟩) 64 64))
                  have HD9 := hide (((HD3.out.setO (k := bx) (i := 0) (by omega) (.int .i64 qa)).setO (k := bx) (i := 1) (by omega) (.bool false)).setO (k := bx) (i := 2) (by omega) (.slice (some ⟨ng, 0, none⟩) 64 64))
                  have HR9 := hide (((HR3.out.setO (k := bx) (i := 0) (by omega) (.int .i64 qa)).setO (k := bx) (i := 1) (by omega) (.bool false)).setO (k := bx) (i := 2) (by omega) (.slice (some ⟨ng, 0, none⟩) 64 64))
                  have HB9 := hide (set3_below HB3.out (g := bx) (by omega) (.int .i64 qa) (.bool false) (.slice (some ⟨ng, 0, none⟩) 64 64))
                  have HS99 : Hid (w.heap.size + 1 + 1 + 1 ≤ (((wr.setCell ⟨bx, 0, none⟩ (.int .i64 qa)).setCell ⟨bx, 1, none⟩ (.bool false)).setCell ⟨bx, 2, none⟩ (.slice (some ⟨ng, 0, none⟩) 64 64)).heap.size) := hide (by simpa using HS3.out)
                  clear hbxl
                  obtain ⟨b0, b1, b2, bf⟩ := HBX3.out
                  have bf0 := bf 0
                  have bf1 := bf 1
                  have bf2 := bf 2
                  clear bf
                  have x1 := HX3.out.c1
                  go_upto_region 21 with fail
                  clear b0 b1 b2 bf0 bf1 bf2 x1
                  generalize ((wr.setCell ⟨bx, 0, none⟩ (.int .i64 qa)).setCell ⟨bx, 1, none⟩ (.bool false)).setCell ⟨bx, 2, none⟩ (.slice (some ⟨ng, 0, none⟩) 64 64) = W9 at HS9 HC9 HA9 HX9 HD9 HR9 HB9 HS99 ⊢
                  obtain ⟨b0, b1, b2, _⟩ := HS9.out
                  have x1 := HX9.out.c1
                  have HPUT := hide (rput_any _ qk ((⟨qa, false, qb.take m ++ od.drop m⟩ : Wr), ng) _ HC9.out (fun _ => ⟨.inr (by have := HNG.out; omega), HA9.out⟩) HQK.out)
                  go_wp2_with (first | (go_at_call 55; refine HPUT.out.mono ?_; rintro e V6 ⟨v6, rfl, hc6, hb6⟩; obtain ⟨a6, c6, rfl⟩ := hc6.fm; have HC6 := hide (hc6.keep (P' := fun k => (P k ∧ k < w.heap.size) ∨ w.heap.size + 1 + 1 + 1 ≤ k) (fun k h _ => h.elim id (fun h => .inr (Nat.le_trans HS99.out h))) (fun _ _ _ => rfl)); have HD6 := hide (HD9.out.below hb6); have HR6 := hide (HR9.out.below hb6); have HX6 := hide (HX9.out.below hb6); have HB6 := hide (HB9.out.trans (hb6.mono HB9.out.size)); have HSZ6 := hide (Nat.le_trans HS99.out hb6.size); have y1 := HX6.out.c1; have yf := HX6.out.fz 1; clear hc6 hb6))
                  exact ⟨⟨k + 1, _, _, by omega, by go_num, HD6.out.setO (by omega) _, HR6.out.setO (by omega) _, HX6.out.set1 _, HC6.out.keep (fun _ h _ => h) (fun k h _ => Below.heap_setCell _ _ _ _ (HNO.out k h)), by rw [putQ_stS ⟨qa, false, qb.take m ++ od.drop m⟩ ng qk (by rw [HCS.out]; exact crk_asc HA.out _ _ _ _ _), HTR.out], HB6.out.setCell (p := ⟨w.heap.size + 1 + 1, 1, none⟩) (by simp; omega) _, by simpa using HSZ6.out⟩, by simp [iv]; omega⟩
            · have HTR : Hid (crk s.cs ks s.lo cut L (k + 1) = stS (csOf qk) q.1) := hide (by
                rw [HST.out, ← HCS.out]
                congr 1
                split
                · rename_i hkl
                  unfold torn
                  rw [if_neg (fun h => htr ⟨hkl, h⟩)]
                · rfl)
              have HPUT : Hid (Calls Tryz.prog 55 #[.slice ka' qk.length kc', .agg #[.int .i64 q.1.at_, .bool q.1.fr, .slice va vn vc']] W1 fun e w' => ∃ v', e = .returned v' ∧ Cl w' (fun k => ((P k ∧ k < w.heap.size) ∨ w.heap.size + 1 + 1 + 1 ≤ k) ∨ W1.heap.size ≤ k) v' (putQ q.1.at_ (q.1.at_, q.2, q.1.by_) q.1.fr qk) ∧ Below W1.heap.size W1 w') := hide (by
                have := rput_any _ qk q W1 (HCK1.out.keep (P' := fun k => (P k ∧ k < w.heap.size) ∨ w.heap.size + 1 + 1 + 1 ≤ k) (fun _ h _ => h.1) (fun _ _ _ => rfl)) (fun e => ⟨.inl (HAU.out e).1, (HAU.out e).2.keep (HB1.out.block _ (HAU.out e).2.lt)⟩) HQK.out
                rw [HDW.out] at this
                exact this)
              have HPQ := hide (putQ_stS q.1 q.2 qk (by rw [HCS.out]; exact crk_asc HA.out _ _ _ _ _))
              have hcas : (((k : Nat) : Int) == L) = false ∨ (((k : Nat) : Int) == L) = true ∧ (q.1.fr = true ∨ q.1.fr = false ∧ (cut < 0 ∨ 0 ≤ cut ∧ 64 ≤ cut)) := by
                by_cases h1 : (k : Int) = L
                · refine .inr ⟨by simp [h1], ?_⟩
                  cases h2 : q.1.fr
                  · exact .inr ⟨rfl, by
                      by_cases h3 : cut < 0
                      · exact .inl h3
                      · exact .inr ⟨by omega, by
                          by_cases h4 : cut < 64
                          · exact absurd ⟨h1, h2, by omega, h4⟩ htr
                          · omega⟩⟩
                  · exact .inl rfl
                · exact .inl (by simp [h1])
              clear htr HST HDV HDW HAU
              generalize q.1.fr = qf at HBX HPUT HPQ hcas ⊢
              generalize q.1.at_ = qa at HBX HPUT HPQ ⊢
              obtain ⟨b0, b1, b2, _⟩ := HBX.out
              have x1 := HX1.out.c1
              rcases hcas with hz | ⟨hz, hf | ⟨hf, hc | ⟨hc, hc'⟩⟩⟩ <;> (try subst hf)
              all_goals
                go_wp2_with (first | (go_at_call 55; refine HPUT.out.mono ?_; rintro e V6 ⟨v6, rfl, hc6, hb6⟩; obtain ⟨a6, c6, rfl⟩ := hc6.fm; have HC6 := hide (hc6.keep (P' := fun k => (P k ∧ k < w.heap.size) ∨ w.heap.size + 1 + 1 + 1 ≤ k) (fun k h _ => h.elim id (fun h => .inr (Nat.le_trans HSZ1.out h))) (fun _ _ _ => rfl)); have HD6 := hide (HD1.out.below hb6); have HR6 := hide (HR1.out.below hb6); have HX6 := hide (HX1.out.below hb6); have HB6 := hide (HB1.out.trans (hb6.mono HB1.out.size)); have HSZ6 := hide (Nat.le_trans HSZ1.out hb6.size); have y1 := HX6.out.c1; have yf := HX6.out.fz 1; clear hc6 hb6))
                exact ⟨⟨k + 1, _, _, by omega, by go_num, HD6.out.setO (by omega) _, HR6.out.setO (by omega) _, HX6.out.set1 _, HC6.out.keep (fun _ h _ => h) (fun k h _ => Below.heap_setCell _ _ _ _ (HNO.out k h)), by rw [HPQ.out, HTR.out], HB6.out.setCell (p := ⟨w.heap.size + 1 + 1, 1, none⟩) (by simp; omega) _, by simpa using HSZ6.out⟩, by simp [iv]; omega⟩
        · obtain rfl : k = ls.length := by omega
          have HEN : Hid (crk s.cs ks s.lo cut L ls.length = crs s.cs (kpt ks s.lo) cut) := hide (by rw [HNL.out]; exact crk_end HLK.out)
          obtain ⟨x0, x1, x2, _⟩ := HX.out
          obtain ⟨r0, r1, r2, rf⟩ := HR.out
          have f0 := rf 0
          have f1 := rf 1
          have f2 := rf 2
          clear rf
          have hwr : w.heap.size ≤ w.heap.size + 1 := by omega
          have HNE : Hid (∀ k, ((P k ∧ k < w.heap.size) ∨ w.heap.size + 1 + 1 + 1 ≤ k) → k ≠ w.heap.size + 1) := hide (fun k h => h.elim (fun q => by have := q.2; omega) (fun q => by omega))
          have HPP : Hid (∀ k, ((P k ∧ k < w.heap.size) ∨ w.heap.size + 1 + 1 + 1 ≤ k) → P k ∨ w.heap.size ≤ k) := hide (fun k h => h.elim (fun q => .inl q.1) (fun q => .inr (by omega)))
          generalize w.heap.size + 1 + 1 + 1 = Q4 at HCK HNE HPP
          generalize w.heap.size + 1 + 1 = X at x0 x1 x2 ⊢
          generalize w.heap.size + 1 = R at r0 r1 r2 f0 f1 f2 hwr HR HNE ⊢
          go_wp2
          have hb9 := set3_below HB.out hwr (.int .i64 s.room) (.slice ka' qk.length kc') (.slice none 0 0)
          exact bodyPost_ret (v := .agg #[_, _, _]) (res_one Tryz.results22 _ _ R [_, _, _] _ rfl (HR.out.all (.int .i64 s.room) (.slice ka' qk.length kc') (.slice none 0 0)).rg Tryz.underlying37 rfl infoDd) rfl ⟨_, rfl, ⟨_, _, qk, [], rfl, HCK.out.keep (fun k h _ => HPP.out k h) (fun k h _ => set3_heap (HNE.out k h) _ _ _), ⟨⟨_, _, rfl⟩, (fun h => by simp at h), (fun q hq => by simp at hq)⟩, by rw [HCS.out, HEN.out]; rfl, rfl⟩, hb9⟩
end Go.Proofs.YtoamghncncalgaaGreatDoor
namespace Go.Proofs.YtoamghncncalgaaGreatDoor
open Go.RowKit

/-- The blocks of memory that are neither the store's nor in the way. -/
def Nol (d bS bT : Nat) (u : Value) (Bd : Nat → Prop) : Nat → Prop := fun k => ¬ Own d bS bT u k ∧ ¬ Bd k
theorem wt_8L {s : Dst} (h : s.wt < 30000) : s.cs.length + s.lo.length < 80000 := by unfold Dst.wt at h; omega
theorem Dx.b3L {d bS bT : Nat} {u u' : Value} {w w' : World} {g : Nat} {x y z : Value} (h : Dx d bS bT u w w' u') (hg : ¬ Own d bS bT u g) (hb : B3 w g x y z) : B3 w' g x y z :=
  have hl := cell_block hb.c0
  ⟨(h.cell hl hg 0).trans hb.c0, (h.cell hl hg 1).trans hb.c1, (h.cell hl hg 2).trans hb.c2, fun i => (World.frozen?_of_block (a := ⟨g, i, none⟩) (h.ba.block g hl hg)).trans (hb.fz i)⟩
theorem Dx.rgL {d bS bT : Nat} {u u' : Value} {w w' : World} {g o : Nat} {cs : List Value} (h : Dx d bS bT u w w' u') (hg : ¬ Own d bS bT u g) (hb : w.rangeAt g o cs) : w'.rangeAt g o cs := range_ba hb h.ba hg
theorem rg_setL {W : World} {g o k i : Nat} {v : Value} {cs : List Value} (h : W.rangeAt g o cs) (hk : g ≠ k) : (W.setCell ⟨k, i, none⟩ v).rangeAt g o cs := fun j x hx => (World.cell?_setCell_other _ _ _ _ (fun q => hk (congrArg Addr.block q).symm)).trans (h j x hx)
theorem Dq.set3L {d bS bT : Nat} {u : Value} {s : Dst} {W : World} (h : Dq W d bS bT u s) {g : Nat} (hg : ¬ Own d bS bT u g) (x y z : Value) : Dq (((W.setCell ⟨g, 0, none⟩ x).setCell ⟨g, 1, none⟩ y).setCell ⟨g, 2, none⟩ z) d bS bT u s :=
  ⟨h.dk.keep (fun k hk => by
    have hne : k ≠ g := fun e => hg (by rw [← e]; exact hk)
    rw [Below.heap_setCell _ _ _ _ hne, Below.heap_setCell _ _ _ _ hne, Below.heap_setCell _ _ _ _ hne]), h.ok⟩
theorem Dd.nol {d bS bT : Nat} {u : Value} {s t : Dst} {V W : World} {v : Value} {Bd : Nat → Prop} (h : Dd W (fun k => Nol d bS bT u Bd k ∨ V.heap.size ≤ k) v t) (hq : Dq V d bS bT u s) (hB : ∀ k, Bd k → k < V.heap.size) : Dd W (Nol d bS bT u Bd) v t := h.keep (fun _ p _ => p.elim id (fun q => ⟨fun e => by have := hq.dk.lt e; omega, fun e => by have := hB _ e; omega⟩)) (fun _ _ _ => rfl)
theorem Dd.nolX {d bS bT : Nat} {u u' : Value} {t : Dst} {W W' : World} {v : Value} {Bd : Nat → Prop} (h : Dd W (Nol d bS bT u Bd) v t) (hx : Dx d bS bT u W W' u') : Dd W' (Nol d bS bT u' Bd) v t := h.keep (fun _ p hk => ⟨hx.own hk p.1, p.2⟩) (fun k p hk => hx.ba.block k hk p.1)
/-- Both stores, and the box of the document's. -/
structure Lp (w W : World) (d bS bT rB : Nat) (u : Value) (s t : Dst) (r : Int) (a3 a4 : Option Addr) (n3 k3 n4 k4 : Nat) : Prop where
  q : Dq W d bS bT u s
  b : Nb w W d bS bT u
  dd : Dd W (Nol d bS bT u (fun k => k = rB)) (.agg #[.int .i64 r, .slice a3 n3 k3, .slice a4 n4 k4]) t
  x : B3 W rB (.int .i64 r) (.slice a3 n3 k3) (.slice a4 n4 k4)
  no : ¬ Own d bS bT u rB
  ge : w.heap.size ≤ rB
  rm : t.room = r
section
variable {w W W' : World} {d bS bT rB : Nat} {u u' : Value} {s s' t t' : Dst} {r : Int} {a3 a4 : Option Addr} {n3 k3 n4 k4 : Nat}
theorem Lp.below (h : Lp w W d bS bT rB u s t r a3 a4 n3 k3 n4 k4) (hb : Below W.heap.size W W') : Lp w W' d bS bT rB u s t r a3 a4 n3 k3 n4 k4 :=
  ⟨h.q.below hb, h.b.call hb, h.dd.below hb, h.x.below hb, h.no, h.ge, h.rm⟩
/-- Behind a call of the program's store. -/
theorem Lp.step (h : Lp w W d bS bT rB u s t r a3 a4 n3 k3 n4 k4) (hq : Dq W' d bS bT u' s') (hx : Dx d bS bT u W W' u') : Lp w W' d bS bT rB u' s' t r a3 a4 n3 k3 n4 k4 :=
  ⟨hq, h.b.step hx, h.dd.nolX hx, hx.b3L h.no h.x, hx.own (cell_block h.x.c0) h.no, h.ge, h.rm⟩
theorem Dd.freshL {P : Nat → Prop} {v : Value} (h : Dd W P v s) (o : Obj) (x y z : Value) : Dd ((((W.alloc o).setCell ⟨W.heap.size, 0, none⟩ x).setCell ⟨W.heap.size, 1, none⟩ y).setCell ⟨W.heap.size, 2, none⟩ z) P v s :=
  h.keep (fun _ p _ => p) (fun k _ hk => (set3_heap (by omega) _ _ _).trans ((al_d W o).block k hk))
theorem Nb.set3L (h : Nb w W d bS bT u) {g : Nat} (hg : w.heap.size ≤ g) (x y z : Value) : Nb w (((W.setCell ⟨g, 0, none⟩ x).setCell ⟨g, 1, none⟩ y).setCell ⟨g, 2, none⟩ z) d bS bT u := ⟨set3_below h.be hg _ _ _, h.ow⟩
/-- Behind the document's call, with the box of what it answered. -/
structure Lr (w W : World) (d bS bT rB g : Nat) (u : Value) (s t : Dst) (r : Int) (a3 a4 b3 b4 : Option Addr) (n3 k3 n4 k4 m3 j3 m4 j4 : Nat) : Prop where
  q : Dq W d bS bT u s
  b : Nb w W d bS bT u
  dd : Dd W (Nol d bS bT u (fun k => k = rB)) (.agg #[.int .i64 r, .slice b3 m3 j3, .slice b4 m4 j4]) t
  x : B3 W rB (.int .i64 r) (.slice a3 n3 k3) (.slice a4 n4 k4)
  y : B3 W g (.int .i64 r) (.slice b3 m3 j3) (.slice b4 m4 j4)
  no : ¬ Own d bS bT u rB
  rm : t.room = r
/-- The box takes what the document answered. -/
theorem Lr.store {g : Nat} {b3 b4 : Option Addr} {m3 j3 m4 j4 : Nat} (h : Lr w W d bS bT rB g u s t r a3 a4 b3 b4 n3 k3 n4 k4 m3 j3 m4 j4) (hge : w.heap.size ≤ rB) : Lp w (((W.setCell ⟨rB, 0, none⟩ (.int .i64 r)).setCell ⟨rB, 1, none⟩ (.slice b3 m3 j3)).setCell ⟨rB, 2, none⟩ (.slice b4 m4 j4)) d bS bT rB u s t r b3 b4 m3 j3 m4 j4 :=
  ⟨h.q.set3L h.no _ _ _, h.b.set3L hge _ _ _, h.dd.keep (fun _ p _ => p) (fun _ p _ => set3_heap p.2 _ _ _), h.x.all _ _ _, h.no, hge, h.rm⟩
/-- The call first, then the box. -/
theorem lrL_one {b3 b4 : Option Addr} {m3 j3 m4 j4 : Nat} {V : World} (h : Lp w V d bS bT rB u s t r a3 a4 n3 k3 n4 k4) (hd : Dd W (Nol d bS bT u (fun k => k = rB)) (.agg #[.int .i64 r, .slice b3 m3 j3, .slice b4 m4 j4]) t') (hb : Below V.heap.size V W) (hr : t'.room = r) : Lr w ((((W.alloc (.cells #[.int .i64 0, .slice none 0 0, .slice none 0 0] 37)).setCell ⟨W.heap.size, 0, none⟩ (.int .i64 r)).setCell ⟨W.heap.size, 1, none⟩ (.slice b3 m3 j3)).setCell ⟨W.heap.size, 2, none⟩ (.slice b4 m4 j4)) d bS bT rB W.heap.size u s t' r a3 a4 b3 b4 n3 k3 n4 k4 m3 j3 m4 j4 := by
  have hal := al_d W (.cells #[.int .i64 0, .slice none 0 0, .slice none 0 0] 37)
  have hlt : rB < W.heap.size := Nat.lt_of_lt_of_le (cell_block h.x.c0) hb.size
  have hnb := h.b.call hb
  have hq := h.q.below hb
  refine ⟨(hq.below hal).set3L (fun e => by have := hq.dk.lt e; omega) _ _ _, (hnb.call hal).set3L hnb.be.size _ _ _, hd.freshL _ _ _ _, ?_, (b3_new W _ _ _ 37).all _ _ _, h.no, hr⟩
  exact ((((h.x.below hb).below hal).setO (by omega) _).setO (by omega) _).setO (by omega) _
/-- The box first, then the call. -/
theorem lrL_two {b3 b4 : Option Addr} {m3 j3 m4 j4 g : Nat} {V : World} (h : Lp w V d bS bT rB u s t r a3 a4 n3 k3 n4 k4) (hg : B3 V g (.int .i64 0) (.slice none 0 0) (.slice none 0 0)) (hgo : ¬ Own d bS bT u g) (hgr : rB ≠ g) (hgw : w.heap.size ≤ g) (hd : Dd W (Nol d bS bT u (fun k => k = rB ∨ k = g)) (.agg #[.int .i64 r, .slice b3 m3 j3, .slice b4 m4 j4]) t') (hb : Below V.heap.size V W) (hr : t'.room = r) : Lr w (((W.setCell ⟨g, 0, none⟩ (.int .i64 r)).setCell ⟨g, 1, none⟩ (.slice b3 m3 j3)).setCell ⟨g, 2, none⟩ (.slice b4 m4 j4)) d bS bT rB g u s t' r a3 a4 b3 b4 n3 k3 n4 k4 m3 j3 m4 j4 :=
  ⟨(h.q.below hb).set3L hgo _ _ _, (h.b.call hb).set3L hgw _ _ _, hd.keep (fun _ p _ => ⟨p.1, fun e => p.2 (.inl e)⟩) (fun _ p _ => set3_heap (fun e => p.2 (.inr e)) _ _ _), (((h.x.below hb).setO hgr _).setO hgr _).setO hgr _, (hg.below hb).all _ _ _, h.no, hr⟩
end
theorem wrS_rm (s : Dst) (a : Int) (b : List Int) : (wrS s a b).room = s.room := by
  unfold wrS
  split
  · split
    · split <;> rfl
    · rfl
  · rfl
/-- Records that are found are bytes. -/
theorem ownL_byt {b : List Int} (h : Blk b) : Byt (pcs b).own := fun x hx => h.2 x (List.mem_of_mem_drop (List.mem_of_mem_take hx))
theorem recGL_byt {t : Cs} (hb : ∀ q, Blk (vw t q)) : ∀ (n : Nat) (a : Int) (p : Pc) (b : List Int) (r : List Int × Int), Byt b → recG t n a p b = some r → Byt r.1
  | 0, a, p, b, r, hp, h => by simp only [recG, Option.some.injEq] at h; rw [← h]; exact hp
  | n + 1, a, p, b, r, hp, h => by
    unfold recG at h
    split at h
    · split at h
      · cases h
      · exact recGL_byt hb n _ _ _ r (fun x hx => (List.mem_append.1 hx).elim (hp x) (ownL_byt (hb a) x)) h
    · simp only [Option.some.injEq] at h; rw [← h]; exact hp
theorem Opn.bytL {t : Cs} (hb : ∀ q, Blk (vw t q)) {a last : Int} {L : List Lk} {x y : Int} (h : Opn t a last L x y) : ∀ l ∈ L, Byt l.2 := by
  induction h with
  | stop => intro l hl; simp at hl
  | more h1 _ ih =>
    intro l hl
    rcases List.mem_append.1 hl with e | e
    · split at e
      · simp at e
      · simp at e
        rw [e]
        unfold recS at h1
        split at h1
        · cases h1
        · exact recGL_byt hb _ _ _ _ _ (ownL_byt (hb _)) h1
    · exact ih l e
theorem lkOL_len (qs : List Lc) : (lkO qs).length = qs.length := by simp [lkO]
/-- There are no more of them than blocks. -/
def cntL (t : Cs) (a : Int) : Nat := (t.filter fun p => decide (a ≤ p.1)).length
theorem cntL_mono (t : Cs) {a b : Int} (h : a ≤ b) : cntL t b ≤ cntL t a := by
  unfold cntL
  induction t with
  | nil => exact Nat.le_refl _
  | cons p r ih =>
    simp only [List.filter_cons]
    by_cases h1 : b ≤ p.1
    · rw [if_pos (by simpa using h1), if_pos (by simpa using Int.le_trans h h1)]
      simp only [List.length_cons]; omega
    · rw [if_neg (by simpa using h1)]
      split
      · simp only [List.length_cons]; omega
      · exact ih
theorem cntL_step {t : Cs} {a : Int} {b : List Int} (h : (a, b) ∈ t) : cntL t (a + 1) < cntL t a := by
  induction t with
  | nil => simp at h
  | cons p r ih =>
    have hm : cntL r (a + 1) ≤ cntL r a := cntL_mono r (by omega)
    unfold cntL at ih hm ⊢
    simp only [List.filter_cons]
    rcases List.mem_cons.1 h with e | e
    · rw [← e]
      rw [if_neg (by simp only [decide_eq_true_eq]; omega), if_pos (by simp)]
      simp only [List.length_cons]; omega
    · have := ih e
      by_cases h1 : a + 1 ≤ p.1
      · rw [if_pos (by simpa using h1), if_pos (by simpa using (show a ≤ p.1 by omega))]
        simp only [List.length_cons]; omega
      · rw [if_neg (by simpa using h1)]
        split
        · simp only [List.length_cons]; omega
        · exact this
theorem Opn.cntL {t : Cs} {a last : Int} {L : List Lk} {x y : Int} (h : Opn t a last L x y) (hl : 0 ≤ last) : L.length ≤ cntL t a := by
  induction h with
  | stop => exact Nat.zero_le _
  | @more a last b st L _ _ h1 _ ih =>
    have h2 := recS_last h1
    simp only at h2
    have h3 := recS_num h1
    have hp := blks_pos (b.length : Int)
    have ih := ih (by omega)
    have h4 : ∃ q, (a, q) ∈ t := by
      cases hk : look t a with
      | some q => exact ⟨q, look_mem hk⟩
      | none =>
        unfold recS at h1
        rw [vw_num h3, hk] at h1
        simp only [Option.getD_none, pcs_zer] at h1
        rw [if_pos (by simp)] at h1
        cases h1
    obtain ⟨q, hq⟩ := h4
    have h5 := cntL_step hq
    have h6 := cntL_mono t (show a + 1 ≤ a + blks (b.length : Int) by omega)
    rw [List.length_append]
    split <;> simp <;> omega
theorem Opn.lenL {t : Cs} {a : Int} {L : List Lk} {x y : Int} (h : Opn t a 0 L x y) : L.length ≤ t.length := Nat.le_trans (h.cntL (Int.le_refl _)) (List.length_filter_le _ _)
theorem lrdL {W : World} {v : Value} {qs : List Lc} {B : Nat} (h : Lw W B v qs) (hb : ∀ q ∈ qs, Byt q.2.2) : Lrd W v qs := by
  refine ⟨?_, fun q hq => ⟨(h.mem q hq).sl, hb q hq⟩⟩
  rcases h.own.2 with ⟨e, h0⟩ | ⟨g, cap, cur, e, a2, a3, a4, a5, a6, a7⟩
  · exact ⟨none, 0, by rw [e, h0], fun q => by omega⟩
  · refine ⟨some ⟨g, 0, none⟩, cap, e, fun _ => ⟨g, 0, rfl, fun j x hj => ?_⟩⟩
    have hl : j < (qs.flatMap lkc).length := (List.getElem?_eq_some_iff.1 hj).1
    have h1 : (qs.flatMap lkc).length = qs.length * 2 := h.own.1
    rw [← a7, List.getElem?_take_of_lt (by omega)] at hj
    simp only [World.cell?, a3, Nat.zero_add]
    simpa using hj
/-- Of what is found: rows that are read. -/
theorem Opn.rd {W : World} {v : Value} {qs : List Lc} {B : Nat} {t : Cs} (hb : ∀ q, Blk (vw t q)) {a x y : Int} (h : Opn t a 0 (lkO qs) x y) (hl : Lw W B v qs) : Lrd W v qs ∧ qs.length ≤ t.length :=
  ⟨lrdL hl (fun q hq => h.bytL hb (q.1, q.2.2) (List.mem_map.2 ⟨q, hq, rfl⟩)), by rw [← lkOL_len]; exact h.lenL⟩
end Go.Proofs.YtoamghncncalgaaGreatDoor
