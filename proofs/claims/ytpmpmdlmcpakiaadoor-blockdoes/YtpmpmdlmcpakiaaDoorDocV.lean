/-
  THE DOCUMENT's STORE IN ITS MEMORY (castellanref08): rows of blocks and of writes, each block's bytes in a row of their own; what stays of them; a block is found (find). Conditions: blocks of sixty-four bytes, fewer than a hundred thousand.
-/
import Derived.Test.YtpmpmdlmcpakiaaDoorDocPad
import Derived.Test.YtpmpmdlmcpakiaaDoorBlkWk
namespace Go.Proofs.YtpmpmdlmcpakiaaDoor
open Go.RowKit

/-- Sixty-four bytes in a row of their own, as the document makes them. -/
def Au (W : World) (g : Nat) (b : List Int) : Prop := Blk b ∧ W.heap[g]? = some (.cells (bv b).toArray 5 (0, 0))
theorem Au.lt {W : World} {g : Nat} {b : List Int} (h : Au W g b) : g < W.heap.size := (Array.getElem?_eq_some_iff.1 h.2).1
theorem Au.keep {W W' : World} {g : Nat} {b : List Int} (h : Au W g b) (he : W'.heap[g]? = W.heap[g]?) : Au W' g b := ⟨h.1, he.trans h.2⟩
theorem Au.all {W : World} {g : Nat} {b : List Int} (h : Au W g b) : Sl bc W (.slice (some ⟨g, 0, none⟩) 64 64) b := by
  have hl := h.1.1
  refine .inr ⟨g, 0, 64, by rw [hl], by omega, fun i hi => ?_⟩
  rw [Nat.zero_add]
  exact arr_at h.2 (List.getElem?_eq_getElem hi)
theorem fm_get {α : Type} (f : α → List Value) (n : Nat) (hf : ∀ x, (f x).length = n) : ∀ (l : List α) (i : Nat) (h : i < l.length) (j : Nat) (u : Value), (f l[i])[j]? = some u → (l.flatMap f)[i * n + j]? = some u
  | [], i, h, _, _, _ => by simp at h
  | x :: r, 0, _, j, u, hj => by
    have hl : j < (f x).length := (List.getElem?_eq_some_iff.1 hj).1
    rw [List.flatMap_cons, Nat.zero_mul, Nat.zero_add, List.getElem?_append_left hl]
    exact hj
  | x :: r, i + 1, h, j, u, hj => by
    rw [List.flatMap_cons, List.getElem?_append_right (by rw [hf, Nat.succ_mul]; omega), hf, show (i + 1) * n + j - n = i * n + j by rw [Nat.succ_mul]; omega]
    exact fm_get f n hf r i (by simpa using h) j u hj
theorem fm_at {α : Type} (f : α → List Value) (n : Nat) (hf : ∀ x, (f x).length = n) {W : World} {b o : Nat} {l : List α} (h : W.rangeAt b o (l.flatMap f)) {i : Nat} (hi : i < l.length) : W.rangeAt b (o + i * n) (f l[i]) := fun j u hu => by
  rw [Nat.add_assoc]
  exact h _ u (fm_get f n hf l i hi j u hu)
/-- A write as the document has it, and where its bytes lie. -/
abbrev Dw := Wr × Nat
def dwv (q : Dw) : Value := if q.1.fr then .slice none 0 0 else .slice (some ⟨q.2, 0, none⟩) 64 64
def dwc (q : Dw) : List Value := [.int .i64 q.1.at_, .bool q.1.fr, dwv q]
def dws (qs : List Dw) : List Value := qs.flatMap dwc
theorem dwv_form (q : Dw) : ∃ a n c, dwv q = .slice a n c := by
  unfold dwv; split <;> exact ⟨_, _, _, rfl⟩
theorem dwc_one (q : Dw) : ∀ u ∈ dwc q, u.oneCell' = true := fun u hu => by
  obtain ⟨a, n, c, e⟩ := dwv_form q
  simp only [dwc, List.mem_cons, List.not_mem_nil, or_false] at hu
  rcases hu with rfl | rfl | rfl
  · rfl
  · rfl
  · rw [e]; rfl
/-- The document's row of blocks, in blocks of memory that P names. -/
structure Cl (W : World) (P : Nat → Prop) (v : Value) (qs : List Ce) : Prop where
  fm : ∃ a c, v = .slice a qs.length c
  rg : 0 < qs.length → ∃ b o c, v = .slice (some ⟨b, o, none⟩) qs.length c ∧ P b ∧ W.rangeAt b o (ces qs)
  au : ∀ q ∈ qs, P q.2.1 ∧ Au W q.2.1 q.2.2
/-- The document's row of writes. -/
structure Ll (W : World) (P : Nat → Prop) (v : Value) (qs : List Dw) : Prop where
  fm : ∃ a c, v = .slice a qs.length c
  rg : 0 < qs.length → ∃ b o c, v = .slice (some ⟨b, o, none⟩) qs.length c ∧ P b ∧ W.rangeAt b o (dws qs)
  au : ∀ q ∈ qs, q.1.fr = false → P q.2 ∧ Au W q.2 q.1.by_
def loOf (qs : List Dw) : List Wr := qs.map (·.1)
section
variable {W W' : World} {P P' : Nat → Prop} {v : Value}
theorem range_keep {b o : Nat} {l : List Value} (h : W.rangeAt b o l) (h0 : 0 < l.length) (hk : b < W.heap.size → W'.heap[b]? = W.heap[b]?) : W'.rangeAt b o l := by
  have hb : b < W.heap.size := cell_block (h 0 _ (List.getElem?_eq_getElem h0))
  exact fun j u hu => (World.cell?_of_block (hk hb)).trans (h j u hu)
theorem ces_len (qs : List Ce) : (ces qs).length = qs.length * 2 := by
  unfold ces
  induction qs with
  | nil => rfl
  | cons q r ih => rw [List.flatMap_cons, List.length_append, ih, List.length_cons]; simp only [cec, List.length_cons, List.length_nil]; omega
theorem dws_len (qs : List Dw) : (dws qs).length = qs.length * 3 := by
  unfold dws
  induction qs with
  | nil => rfl
  | cons q r ih => rw [List.flatMap_cons, List.length_append, ih, List.length_cons]; simp only [dwc, List.length_cons, List.length_nil]; omega
theorem Cl.keep {qs : List Ce} (h : Cl W P v qs) (hP : ∀ k, P k → k < W.heap.size → P' k) (hk : ∀ k, P k → k < W.heap.size → W'.heap[k]? = W.heap[k]?) : Cl W' P' v qs := by
  refine ⟨h.fm, fun h0 => ?_, fun q hq => ?_⟩
  · obtain ⟨b, o, c, e, p, r⟩ := h.rg h0
    have hl : 0 < (ces qs).length := by rw [ces_len]; omega
    have hb : b < W.heap.size := cell_block (r 0 _ (List.getElem?_eq_getElem hl))
    exact ⟨b, o, c, e, hP b p hb, range_keep r hl (hk b p)⟩
  · obtain ⟨p, a⟩ := h.au q hq
    exact ⟨hP _ p a.lt, a.keep (hk _ p a.lt)⟩
theorem Ll.keep {qs : List Dw} (h : Ll W P v qs) (hP : ∀ k, P k → k < W.heap.size → P' k) (hk : ∀ k, P k → k < W.heap.size → W'.heap[k]? = W.heap[k]?) : Ll W' P' v qs := by
  refine ⟨h.fm, fun h0 => ?_, fun q hq hf => ?_⟩
  · obtain ⟨b, o, c, e, p, r⟩ := h.rg h0
    have hl : 0 < (dws qs).length := by rw [dws_len]; omega
    have hb : b < W.heap.size := cell_block (r 0 _ (List.getElem?_eq_getElem hl))
    exact ⟨b, o, c, e, hP b p hb, range_keep r hl (hk b p)⟩
  · obtain ⟨p, a⟩ := h.au q hq hf
    exact ⟨hP _ p a.lt, a.keep (hk _ p a.lt)⟩
theorem Cl.below {qs : List Ce} (h : Cl W P v qs) (hb : Below W.heap.size W W') : Cl W' P v qs := h.keep (fun _ p _ => p) (fun k _ hk => hb.block k hk)
theorem Ll.below {qs : List Dw} (h : Ll W P v qs) (hb : Below W.heap.size W W') : Ll W' P v qs := h.keep (fun _ p _ => p) (fun k _ hk => hb.block k hk)
theorem Cl.at {qs : List Ce} {a : Option Addr} {n c : Nat} (h : Cl W P (.slice a n c) qs) {k : Nat} (hk : k < qs.length) : ∃ b o, a = some ⟨b, o, none⟩ ∧ W.cell? ⟨b, o + k * 2, none⟩ = some (.int .i64 (qs[k]).1) ∧ W.cell? ⟨b, o + k * 2 + 1, none⟩ = some (.slice (some ⟨(qs[k]).2.1, 0, none⟩) 64 64) := by
  obtain ⟨b, o, c', e, _, r⟩ := h.rg (by omega)
  cases e
  have hr := fm_at cec 2 (fun _ => rfl) r hk
  exact ⟨b, o, rfl, hr 0 _ rfl, hr 1 _ rfl⟩
theorem Ll.at {qs : List Dw} {a : Option Addr} {n c : Nat} (h : Ll W P (.slice a n c) qs) {k : Nat} (hk : k < qs.length) : ∃ b o, a = some ⟨b, o, none⟩ ∧ W.cell? ⟨b, o + k * 3, none⟩ = some (.int .i64 (qs[k]).1.at_) ∧ W.cell? ⟨b, o + k * 3 + 1, none⟩ = some (.bool (qs[k]).1.fr) ∧ W.cell? ⟨b, o + k * 3 + 2, none⟩ = some (dwv qs[k]) := by
  obtain ⟨b, o, c', e, _, r⟩ := h.rg (by omega)
  cases e
  have hr := fm_at dwc 3 (fun _ => rfl) r hk
  exact ⟨b, o, rfl, hr 0 _ rfl, hr 1 _ rfl, hr 2 _ rfl⟩
theorem look_skip {qs : List Ce} {a : Int} : ∀ {k : Nat}, (∀ j (h : j < qs.length), j < k → (qs[j]).1 ≠ a) → look (csOf qs) a = look (csOf (qs.drop k)) a := by
  induction qs with
  | nil => intro k _; simp
  | cons q r ih =>
    intro k h
    cases k with
    | zero => rfl
    | succ k =>
      have h0 : q.1 ≠ a := h 0 (by simp) (by omega)
      show (if q.1 = a then some q.2.2 else look (csOf r) a) = _
      rw [if_neg h0, List.drop_succ_cons]
      exact ih (fun j hj hjk => h (j + 1) (by simpa using hj) (by omega))
set_option maxRecDepth 100000 in
set_option maxHeartbeats 4000000 in
theorem find_any (qs : List Ce) (a : Int) (w : World) (h : Cl w P v qs) (hn : qs.length < 100000) : Calls Tryd.prog 33 #[v, .int .i64 a] w fun e w' => ∃ x, e = .returned (.tuple #[x, .bool (look (csOf qs) a).isSome]) ∧ w' = w ∧ (look (csOf qs) a = none → x = .slice none 0 0) ∧ ∀ b, look (csOf qs) a = some b → ∃ g, x = .slice (some ⟨g, 0, none⟩) 64 64 ∧ P g ∧ Au w g b := by
  obtain ⟨a0, c, rfl⟩ := h.fm
  have HC := hide h
  clear h
  go_enter Tryd.func33, Tryd.ntmps33
  go_wp2
  go_loopw [6] (fun i W => ∃ k : Nat, k ≤ qs.length ∧ i = .int .i64 k ∧ W = w ∧ ∀ j (h : j < qs.length), j < k → (qs[j]).1 ≠ a) (fun i _ => qs.length - (iv i).toNat)
  case atStart => exact ⟨0, Nat.zero_le _, rfl, rfl, fun j _ h => by omega⟩
  case round =>
    obtain ⟨k, hk, rfl, rfl, hno⟩ := hrel
    have HNO := hide hno
    clear hno
    by_cases hlt : k < qs.length
    · obtain ⟨b, o, rfl, c0, c1⟩ := Cl.at HC.out hlt
      have HQ : Hid (P (qs[k]).2.1 ∧ Au wr (qs[k]).2.1 (qs[k]).2.2) := hide (HC.out.au _ (List.getElem_mem hlt))
      have HL : Hid (look (csOf qs) a = if (qs[k]).1 = a then some (qs[k]).2.2 else look (csOf (qs.drop (k + 1))) a) := hide (by
        rw [look_skip HNO.out, List.drop_eq_getElem_cons hlt]; rfl)
      have HK : Hid (∀ j (h : j < qs.length), j < k + 1 → j ≠ k → (qs[j]).1 ≠ a) := hide (fun j h h1 h2 => HNO.out j h (by omega))
      have HKK : Hid ((qs[k]).1 ≠ a → ∀ j (h : j < qs.length), j < k + 1 → (qs[j]).1 ≠ a) := hide (fun hne j h h1 => by
        by_cases e : j = k
        · subst e; exact hne
        · exact HNO.out j h (by omega))
      generalize qs[k] = q at c0 c1 HQ HL HKK
      obtain ⟨qa, qg, qb⟩ := q
      simp only at c0 c1 HQ HL HKK
      by_cases he : qa = a
      · subst he
        go_wp2
        have hl : look (csOf qs) qa = some qb := by rw [HL.out]; simp
        go_ret2
        exact ⟨_, by rw [hl]; rfl, rfl, (fun e => by rw [hl] at e; cases e), fun b hb => by rw [hl] at hb; cases hb; exact ⟨qg, rfl, HQ.out⟩⟩
      · have hz : (qa == a) = false := beq_eq_false_iff_ne.2 he
        go_wp2
        exact ⟨⟨k + 1, by omega, by go_num, by trivial, HKK.out he⟩, by simp [iv]; omega⟩
    · have HE : Hid (look (csOf qs) a = none) := hide (by rw [look_skip HNO.out, List.drop_of_length_le (by omega)]; rfl)
      go_wp2
      go_ret2
      refine ⟨_, by rw [HE.out]; rfl, rfl, fun _ => rfl, fun b hb => ?_⟩
      rw [HE.out] at hb; cases hb
/-- Is a block taken, as the document asks. -/
def tkn (cs : Cs) (lo : List Wr) (a : Int) : Bool := (look cs a).isSome || lo.any fun w => decide (w.at_ = a) && !w.fr
set_option maxRecDepth 100000 in
set_option maxHeartbeats 4000000 in
theorem taken_any (r : Int) (vl : Value) (qs : List Ce) (ls : List Dw) (a : Int) (w : World) (h : Cl w P v qs) (h2 : Ll w P vl ls) (hn : qs.length < 100000) (hm : ls.length < 100000) : Calls Tryd.prog 42 #[.agg #[.int .i64 r, v, vl], .int .i64 a] w fun e w' => e = .returned (.bool (tkn (csOf qs) (loOf ls) a)) ∧ Below w.heap.size w w' := by
  obtain ⟨a0, c, rfl⟩ := h.fm
  obtain ⟨a1, c1, rfl⟩ := h2.fm
  have HC := hide h
  have HL := hide h2
  clear h h2
  go_enter Tryd.func42, Tryd.ntmps42
  cases hlk : look (csOf qs) a with
  | some b =>
    have HK := hide hlk
    clear hlk
    have hal : ∀ o, Below w.heap.size w (w.alloc o) := fun o => (Below.refl _ _).alloc (Nat.le_refl _) o
    go_wp2_with (first | (go_at_call 33; refine (find_any qs a _ (HC.out.below (hal _)) hn).mono ?_; rintro e w9 ⟨x, rfl, hw9, _, _⟩; rw [hw9, HK.out]; clear hw9 w9))
    go_ret
    exact ⟨by unfold tkn; rw [HK.out]; rfl, hal _⟩
  | none =>
    have HK := hide hlk
    clear hlk
    have hal : ∀ o, Below w.heap.size w (w.alloc o) := fun o => (Below.refl _ _).alloc (Nat.le_refl _) o
    go_wp2_with (first | (go_at_call 33; refine (find_any qs a _ (HC.out.below (hal _)) hn).mono ?_; rintro e w9 ⟨x, rfl, hw9, hx9, _⟩; have hx := hx9 HK.out; subst hx; rw [hw9, HK.out]; clear hw9 w9 hx9))
    have HL1 := hide (HL.out.below (hal (.cells #[.int .i64 r, .slice a0 qs.length c, .slice a1 ls.length c1] 35)))
    have hV : (w.alloc (.cells #[.int .i64 r, .slice a0 qs.length c, .slice a1 ls.length c1] 35)).cell? ⟨w.heap.size, 2, none⟩ = some (.slice a1 ls.length c1) := by simp
    have HB := hide (hal (.cells #[.int .i64 r, .slice a0 qs.length c, .slice a1 ls.length c1] 35))
    have HSZ : Hid (w.heap.size < (w.alloc (.cells #[.int .i64 r, .slice a0 qs.length c, .slice a1 ls.length c1] 35)).heap.size) := hide (cell_block hV)
    generalize w.alloc (.cells #[.int .i64 r, .slice a0 qs.length c, .slice a1 ls.length c1] 35) = V at HL1 hV HB HSZ ⊢
    clear hal HL HC
    go_loopw [7] (fun i W => ∃ k : Nat, k ≤ ls.length ∧ i = .int .i64 k ∧ Below V.heap.size V W ∧ ∀ j (h : j < ls.length), j < k → (decide ((ls[j]).1.at_ = a) && !(ls[j]).1.fr) = false) (fun i _ => ls.length - (iv i).toNat)
    case atStart => exact ⟨0, Nat.zero_le _, rfl, Below.refl _ _, fun j _ h => by omega⟩
    case round =>
      obtain ⟨k, hk, rfl, hbw, hno⟩ := hrel
      have HNO := hide hno
      have HBW := hide hbw
      have d2 := (hbw.cell (p := ⟨w.heap.size, 2, none⟩) HSZ.out).trans hV
      have HBF := hide (HB.out.trans (hbw.mono HB.out.size))
      clear hno hbw
      by_cases hlt : k < ls.length
      · obtain ⟨b, o, rfl, c0, c1', c2⟩ := Ll.at (HL1.out.below HBW.out) hlt
        have HKK : Hid ((decide ((ls[k]).1.at_ = a) && !(ls[k]).1.fr) = false → ∀ j (h : j < ls.length), j < k + 1 → (decide ((ls[j]).1.at_ = a) && !(ls[j]).1.fr) = false) := hide (fun hne j h h1 => by
          by_cases e : j = k
          · subst e; exact hne
          · exact HNO.out j h (by omega))
        have HYE : Hid ((decide ((ls[k]).1.at_ = a) && !(ls[k]).1.fr) = true → tkn (csOf qs) (loOf ls) a = true) := hide (fun h => by
          unfold tkn loOf
          rw [List.any_map, Bool.or_eq_true]
          exact .inr (List.any_eq_true.2 ⟨ls[k], List.getElem_mem hlt, h⟩))
        generalize ls[k] = q at c0 c1' c2 HKK HYE
        obtain ⟨⟨qa, qf, qb⟩, qg⟩ := q
        simp only at c0 c1' HKK HYE
        clear c2
        by_cases he : qa = a
        · subst he
          cases qf
          · go_wp2
            go_ret
            exact ⟨by rw [HYE.out (by simp)]; rfl, HBF.out⟩
          · go_wp2
            exact ⟨⟨k + 1, by omega, by go_num, HBW.out, HKK.out (by simp)⟩, by simp [iv]; omega⟩
        · have hz : (qa == a) = false := beq_eq_false_iff_ne.2 he
          go_wp2
          exact ⟨⟨k + 1, by omega, by go_num, HBW.out, HKK.out (by simp [he])⟩, by simp [iv]; omega⟩
      · have HE : Hid (tkn (csOf qs) (loOf ls) a = false) := hide (by
          unfold tkn loOf
          rw [HK.out, List.any_map, Option.isSome_none, Bool.false_or, List.any_eq_false]
          intro q hq
          obtain ⟨j, hj, rfl⟩ := List.mem_iff_getElem.1 hq
          have := HNO.out j hj (by omega)
          simpa using this)
        go_wp2
        go_ret
        exact ⟨by rw [HE.out]; rfl, HBF.out⟩
end
end Go.Proofs.YtpmpmdlmcpakiaaDoor
