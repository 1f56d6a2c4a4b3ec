/-
  THE DOCUMENT's STORE IN ITS MEMORY (castellanref08): rows of blocks and of writes, each block's bytes in a row of their own; what stays of them; a block is found (find). Conditions: blocks of sixty-four bytes, fewer than a hundred thousand.
  BLOCKS BEHIND A WRITE, AS THE DOCUMENT MAKES THEM (castellanref08.put): a new row, in order. Condition: the numbers rise, fewer than ninety thousand.
-/
import Derived.Test.YtoamghncncalgaaGreatDoorJDocPada2
import Derived.Test.YtoamghncncalgaaGreatDoorJBlkQa2
namespace Go.Proofs.YtoamghncncalgaaGreatDoor
open Go.RowKit

theorem arrAt {W : World} {g : Nat} {b : List Int} {t : TypeId} (h : W.heap[g]? = some (.cells (bv b).toArray t (0, 0))) {i : Nat} {x : Int} (hx : b[i]? = some x) : W.cell? ⟨g, i, none⟩ = some (.int .u8 x) := by
  simp [World.cell?, h, bv, hx]
/-- Sixty-four bytes in a row of their own, as the document makes them. -/
def Au (W : World) (g : Nat) (b : List Int) : Prop := Blk b ∧ W.heap[g]? = some (.cells (bv b).toArray 5 (0, 0))
theorem Au.lt {W : World} {g : Nat} {b : List Int} (h : Au W g b) : g < W.heap.size := (Array.getElem?_eq_some_iff.1 h.2).1
theorem Au.keep {W W' : World} {g : Nat} {b : List Int} (h : Au W g b) (he : W'.heap[g]? = W.heap[g]?) : Au W' g b := ⟨h.1, he.trans h.2⟩
theorem Au.all {W : World} {g : Nat} {b : List Int} (h : Au W g b) : Sl bc W (.slice (some ⟨g, 0, none⟩) 64 64) b := by
  have hl := h.1.1
  refine .inr ⟨g, 0, 64, by rw [hl], by omega, fun i hi => ?_⟩
  rw [Nat.zero_add]
  exact arrAt h.2 (List.getElem?_eq_getElem hi)
theorem fm_get {α : Type} (f : α → List Value) (n : Nat) (hf : ∀ x, (f x).length = n) : ∀ (l : List α) (i : Nat) (h : i < l.length) (j : Nat) (u : Value), (f l[i])[j]? = some u → (l.flatMap f)[i * n + j]? = some u
  | [], i, h, _, _, _ => by simp at h
  | x :: r, 0, _, j, u, hj => by
    have hl : j < (f x).length := (List.getElem?_eq_some_iff.1 hj).1
    rw [List.flatMap_cons, Nat.zero_mul, Nat.zero_add, List.getElem?_append_left hl]
    exact hj
  | x :: r, i + 1, h, j, u, hj => by
    rw [List.flatMap_cons, List.getElem?_append_right (by rw [hf, Nat.succ_mul]; omega), hf, show (i + 1) * n + j - n = i * n + j by rw [Nat.succ_mul]; omega]
    exact fm_get f n hf r i (by simpa using h) j u hj
theorem fm_at {α : Type} (f : α → List Value) (n : Nat) (hf : ∀ x, (f x).length = n) {W : World} {b o : Nat} {l : List α} (h : W.rangeAt b o (l.flatMap f)) {i : Nat} (hi : i < l.length) : W.rangeAt b (o + i * n) (f l[i]) := fun j u hu => by
  rw [Nat.add_assoc]
  exact h _ u (fm_get f n hf l i hi j u hu)
/-- A write as the document has it, and where its bytes lie. -/
abbrev Dw := Wr × Nat
def dwv (q : Dw) : Value := if q.1.fr then .slice none 0 0 else .slice (some ⟨q.2, 0, none⟩) 64 64
def dwc (q : Dw) : List Value := [.int .i64 q.1.at_, .bool q.1.fr, dwv q]
def dws (qs : List Dw) : List Value := qs.flatMap dwc
theorem dwv_form (q : Dw) : ∃ a n c, dwv q = .slice a n c := by
  unfold dwv; split <;> exact ⟨_, _, _, rfl⟩
theorem dwc_one (q : Dw) : ∀ u ∈ dwc q, u.oneCell' = true := fun u hu => by
  obtain ⟨a, n, c, e⟩ := dwv_form q
  simp only [dwc, List.mem_cons, List.not_mem_nil, or_false] at hu
  rcases hu with rfl | rfl | rfl
  · rfl
  · rfl
  · rw [e]; rfl
/-- The document's row of blocks, in blocks of memory that P names. -/
structure Cl (W : World) (P : Nat → Prop) (v : Value) (qs : List Ce) : Prop where
  fm : ∃ a c, v = .slice a qs.length c
  rg : 0 < qs.length → ∃ b o c, v = .slice (some ⟨b, o, none⟩) qs.length c ∧ P b ∧ W.rangeAt b o (ces qs)
  au : ∀ q ∈ qs, P q.2.1 ∧ Au W q.2.1 q.2.2
/-- The document's row of writes. -/
structure Ll (W : World) (P : Nat → Prop) (v : Value) (qs : List Dw) : Prop where
  fm : ∃ a c, v = .slice a qs.length c
  rg : 0 < qs.length → ∃ b o c, v = .slice (some ⟨b, o, none⟩) qs.length c ∧ P b ∧ W.rangeAt b o (dws qs)
  au : ∀ q ∈ qs, q.1.fr = false → P q.2 ∧ Au W q.2 q.1.by_
def loOf (qs : List Dw) : List Wr := qs.map (·.1)
section
variable {W W' : World} {P P' : Nat → Prop} {v : Value}
theorem range_keep {b o : Nat} {l : List Value} (h : W.rangeAt b o l) (h0 : 0 < l.length) (hk : b < W.heap.size → W'.heap[b]? = W.heap[b]?) : W'.rangeAt b o l := by
  have hb : b < W.heap.size := cell_block (h 0 _ (List.getElem?_eq_getElem h0))
  exact fun j u hu => (World.cell?_of_block (hk hb)).trans (h j u hu)
theorem ces_len (qs : List Ce) : (ces qs).length = qs.length * 2 := by
  unfold ces
  induction qs with
  | nil => rfl
  | cons q r ih => rw [List.flatMap_cons, List.length_append, ih, List.length_cons]; simp only [cec, List.length_cons, List.length_nil]; omega
theorem dws_len (qs : List Dw) : (dws qs).length = qs.length * 3 := by
  unfold dws
  induction qs with
  | nil => rfl
  | cons q r ih => rw [List.flatMap_cons, List.length_append, ih, List.length_cons]; simp only [dwc, List.length_cons, List.length_nil]; omega
theorem Cl.keep {qs : List Ce} (h : Cl W P v qs) (hP : ∀ k, P k → k < W.heap.size → P' k) (hk : ∀ k, P k → k < W.heap.size → W'.heap[k]? = W.heap[k]?) : Cl W' P' v qs := by
  refine ⟨h.fm, fun h0 => ?_, fun q hq => ?_⟩
  · obtain ⟨b, o, c, e, p, r⟩ := h.rg h0
    have hl : 0 < (ces qs).length := by rw [ces_len]; omega
    have hb : b < W.heap.size := cell_block (r 0 _ (List.getElem?_eq_getElem hl))
    exact ⟨b, o, c, e, hP b p hb, range_keep r hl (hk b p)⟩
  · obtain ⟨p, a⟩ := h.au q hq
    exact ⟨hP _ p a.lt, a.keep (hk _ p a.lt)⟩
theorem Ll.keep {qs : List Dw} (h : Ll W P v qs) (hP : ∀ k, P k → k < W.heap.size → P' k) (hk : ∀ k, P k → k < W.heap.size → W'.heap[k]? = W.heap[k]?) : Ll W' P' v qs := by
  refine ⟨h.fm, fun h0 => ?_, fun q hq hf => ?_⟩
  · obtain ⟨b, o, c, e, p, r⟩ := h.rg h0
    have hl : 0 < (dws qs).length := by rw [dws_len]; omega
    have hb : b < W.heap.size := cell_block (r 0 _ (List.getElem?_eq_getElem hl))
    exact ⟨b, o, c, e, hP b p hb, range_keep r hl (hk b p)⟩
  · obtain ⟨p, a⟩ := h.au q hq hf
    exact ⟨hP _ p a.lt, a.keep (hk _ p a.lt)⟩
theorem Cl.below {qs : List Ce} (h : Cl W P v qs) (hb : Below W.heap.size W W') : Cl W' P v qs := h.keep (fun _ p _ => p) (fun k _ hk => hb.block k hk)
theorem Ll.below {qs : List Dw} (h : Ll W P v qs) (hb : Below W.heap.size W W') : Ll W' P v qs := h.keep (fun _ p _ => p) (fun k _ hk => hb.block k hk)
theorem Cl.at {qs : List Ce} {a : Option Addr} {n c : Nat} (h : Cl W P (.slice a n c) qs) {k : Nat} (hk : k < qs.length) : ∃ b o, a = some ⟨b, o, none⟩ ∧ W.cell? ⟨b, o + k * 2, none⟩ = some (.int .i64 (qs[k]).1) ∧ W.cell? ⟨b, o + k * 2 + 1, none⟩ = some (.slice (some ⟨(qs[k]).2.1, 0, none⟩) 64 64) := by
  obtain ⟨b, o, c', e, _, r⟩ := h.rg (by omega)
  cases e
  have hr := fm_at cec 2 (fun _ => rfl) r hk
  exact ⟨b, o, rfl, hr 0 _ rfl, hr 1 _ rfl⟩
theorem Ll.at {qs : List Dw} {a : Option Addr} {n c : Nat} (h : Ll W P (.slice a n c) qs) {k : Nat} (hk : k < qs.length) : ∃ b o, a = some ⟨b, o, none⟩ ∧ W.cell? ⟨b, o + k * 3, none⟩ = some (.int .i64 (qs[k]).1.at_) ∧ W.cell? ⟨b, o + k * 3 + 1, none⟩ = some (.bool (qs[k]).1.fr) ∧ W.cell? ⟨b, o + k * 3 + 2, none⟩ = some (dwv qs[k]) := by
  obtain ⟨b, o, c', e, _, r⟩ := h.rg (by omega)
  cases e
  have hr := fm_at dwc 3 (fun _ => rfl) r hk
  exact ⟨b, o, rfl, hr 0 _ rfl, hr 1 _ rfl, hr 2 _ rfl⟩
theorem look_skip {qs : List Ce} {a : Int} : ∀ {k : Nat}, (∀ j (h : j < qs.length), j < k → (qs[j]).1 ≠ a) → look (csOf qs) a = look (csOf (qs.drop k)) a := by
  induction qs with
  | nil => intro k _; simp
  | cons q r ih =>
    intro k h
    cases k with
    | zero => rfl
    | succ k =>
      have h0 : q.1 ≠ a := h 0 (by simp) (by omega)
      show (if q.1 = a then some q.2.2 else look (csOf r) a) = _
      rw [if_neg h0, List.drop_succ_cons]
      exact ih (fun j hj hjk => h (j + 1) (by simpa using hj) (by omega))
set_option maxRecDepth 100000 in
set_option maxHeartbeats 4000000 in
theorem find_any (qs : List Ce) (a : Int) (w : World) (h : Cl w P v qs) (hn : qs.length < 100000) : Calls Tryz.prog 53 #[v, .int .i64 a] w fun e w' => ∃ x, e = .returned (.tuple #[x, .bool (look (csOf qs) a).isSome]) ∧ w' = w ∧ (look (csOf qs) a = none → x = .slice none 0 0) ∧ ∀ b, look (csOf qs) a = some b → ∃ g, x = .slice (some ⟨g, 0, none⟩) 64 64 ∧ P g ∧ Au w g b := by
  obtain ⟨a0, c, rfl⟩ := h.fm
  have HC := hide h
  clear h
  go_enter Tryz.func53, Tryz.ntmps53
  go_wp2
  go_loopw [6] (fun i W => ∃ k : Nat, k ≤ qs.length ∧ i = .int .i64 k ∧ W = w ∧ ∀ j (h : j < qs.length), j < k → (qs[j]).1 ≠ a) (fun i _ => qs.length - (iv i).toNat)
  case atStart => exact ⟨0, Nat.zero_le _, rfl, rfl, fun j _ h => by omega⟩
  case round =>
    obtain ⟨k, hk, rfl, rfl, hno⟩ := hrel
    have HNO := hide hno
    clear hno
    by_cases hlt : k < qs.length
    · obtain ⟨b, o, rfl, c0, c1⟩ := Cl.at HC.out hlt
      have HQ : Hid (P (qs[k]).2.1 ∧ Au wr (qs[k]).2.1 (qs[k]).2.2) := hide (HC.out.au _ (List.getElem_mem hlt))
      have HL : Hid (look (csOf qs) a = if (qs[k]).1 = a then some (qs[k]).2.2 else look (csOf (qs.drop (k + 1))) a) := hide (by
        rw [look_skip HNO.out, List.drop_eq_getElem_cons hlt]; rfl)
      have HK : Hid (∀ j (h : j < qs.length), j < k + 1 → j ≠ k → (qs[j]).1 ≠ a) := hide (fun j h h1 h2 => HNO.out j h (by omega))
      have HKK : Hid ((qs[k]).1 ≠ a → ∀ j (h : j < qs.length), j < k + 1 → (qs[j]).1 ≠ a) := hide (fun hne j h h1 => by
        by_cases e : j = k
        · subst e; exact hne
        · exact HNO.out j h (by omega))
      generalize qs[k] = q at c0 c1 HQ HL HKK
      obtain ⟨qa, qg, qb⟩ := q
      simp only at c0 c1 HQ HL HKK
      by_cases he : qa = a
      · subst he
        go_wp2
        have hl : look (csOf qs) qa = some qb := by rw [HL.out]; simp
        go_ret2
        exact ⟨_, by rw [hl]; rfl, rfl, (fun e => by rw [hl] at e; cases e), fun b hb => by rw [hl] at hb; cases hb; exact ⟨qg, rfl, HQ.out⟩⟩
      · have hz : (qa == a) = false := beq_eq_false_iff_ne.2 he
        go_wp2
        exact ⟨⟨k + 1, by omega, by go_num, by trivial, HKK.out he⟩, by simp [iv]; omega⟩
    · have HE : Hid (look (csOf qs) a = none) := hide (by rw [look_skip HNO.out, List.drop_of_length_le (by omega)]; rfl)
      go_wp2
      go_ret2
      refine ⟨_, by rw [HE.out]; rfl, rfl, fun _ => rfl, fun b hb => ?_⟩
      rw [HE.out] at hb; cases hb
/-- Is a block taken, as the document asks. -/
def tkn (cs : Cs) (lo : List Wr) (a : Int) : Bool := (look cs a).isSome || lo.any fun w => decide (w.at_ = a) && !w.fr
set_option maxRecDepth 100000 in
set_option maxHeartbeats 4000000 in
theorem taken_any (r : Int) (vl : Value) (qs : List Ce) (ls : List Dw) (a : Int) (w : World) (h : Cl w P v qs) (h2 : Ll w P vl ls) (hn : qs.length < 100000) (hm : ls.length < 100000) : Calls Tryz.prog 61 #[.agg #[.int .i64 r, v, vl], .int .i64 a] w fun e w' => e = .returned (.bool (tkn (csOf qs) (loOf ls) a)) ∧ Below w.heap.size w w' := by
  obtain ⟨a0, c, rfl⟩ := h.fm
  obtain ⟨a1, c1, rfl⟩ := h2.fm
  have HC := hide h
  have HL := hide h2
  clear h h2
  go_enter Tryz.func61, Tryz.ntmps61
  cases hlk : look (csOf qs) a with
  | some b =>
    have HK := hide hlk
    clear hlk
    have hal : ∀ o, Below w.heap.size w (w.alloc o) := fun o => (Below.refl _ _).alloc (Nat.le_refl _) o
    go_wp2_with (first | (go_at_call 53; refine (find_any qs a _ (HC.out.below (hal _)) hn).mono ?_; rintro e w9 ⟨x, rfl, hw9, _, _⟩; rw [hw9, HK.out]; clear hw9 w9))
    go_ret
    exact ⟨by unfold tkn; rw [HK.out]; rfl, hal _⟩
  | none =>
    have HK := hide hlk
    clear hlk
    have hal : ∀ o, Below w.heap.size w (w.alloc o) := fun o => (Below.refl _ _).alloc (Nat.le_refl _) o
    go_wp2_with (first | (go_at_call 53; refine (find_any qs a _ (HC.out.below (hal _)) hn).mono ?_; rintro e w9 ⟨x, rfl, hw9, hx9, _⟩; have hx := hx9 HK.out; subst hx; rw [hw9, HK.out]; clear hw9 w9 hx9))
    have HL1 := hide (HL.out.below (hal (.cells #[.int .i64 r, .slice a0 qs.length c, .slice a1 ls.length c1] 37)))
    have hV : (w.alloc (.cells #[.int .i64 r, .slice a0 qs.length c, .slice a1 ls.length c1] 37)).cell? ⟨w.heap.size, 2, none⟩ = some (.slice a1 ls.length c1) := by simp
    have HB := hide (hal (.cells #[.int .i64 r, .slice a0 qs.length c, .slice a1 ls.length c1] 37))
    have HSZ : Hid (w.heap.size < (w.alloc (.cells #[.int .i64 r, .slice a0 qs.length c, .slice a1 ls.length c1] 37)).heap.size) := hide (cell_block hV)
    generalize w.alloc (.cells #[.int .i64 r, .slice a0 qs.length c, .slice a1 ls.length c1] 37) = V at HL1 hV HB HSZ ⊢
    clear hal HL HC
    go_loopw [7] (fun i W => ∃ k : Nat, k ≤ ls.length ∧ i = .int .i64 k ∧ Below V.heap.size V W ∧ ∀ j (h : j < ls.length), j < k → (decide ((ls[j]).1.at_ = a) && !(ls[j]).1.fr) = false) (fun i _ => ls.length - (iv i).toNat)
    case atStart => exact ⟨0, Nat.zero_le _, rfl, Below.refl _ _, fun j _ h => by omega⟩
    case round =>
      obtain ⟨k, hk, rfl, hbw, hno⟩ := hrel
      have HNO := hide hno
      have HBW := hide hbw
      have d2 := (hbw.cell (p := ⟨w.heap.size, 2, none⟩) HSZ.out).trans hV
      have HBF := hide (HB.out.trans (hbw.mono HB.out.size))
      clear hno hbw
      by_cases hlt : k < ls.length
      · obtain ⟨b, o, rfl, c0, c1', c2⟩ := Ll.at (HL1.out.below HBW.out) hlt
        have HKK : Hid ((decide ((ls[k]).1.at_ = a) && !(ls[k]).1.fr) = false → ∀ j (h : j < ls.length), j < k + 1 → (decide ((ls[j]).1.at_ = a) && !(ls[j]).1.fr) = false) := hide (fun hne j h h1 => by
          by_cases e : j = k
          · subst e; exact hne
          · exact HNO.out j h (by omega))
        have HYE : Hid ((decide ((ls[k]).1.at_ = a) && !(ls[k]).1.fr) = true → tkn (csOf qs) (loOf ls) a = true) := hide (fun h => by
          unfold tkn loOf
          rw [List.any_map, Bool.or_eq_true]
          exact .inr (List.any_eq_true.2 ⟨ls[k], List.getElem_mem hlt, h⟩))
        generalize ls[k] = q at c0 c1' c2 HKK HYE
        obtain ⟨⟨qa, qf, qb⟩, qg⟩ := q
        simp only at c0 c1' HKK HYE
        clear c2
        by_cases he : qa = a
        · subst he
          cases qf
          · go_wp2
            go_ret
            exact ⟨by rw [HYE.out (by simp)]; rfl, HBF.out⟩
          · go_wp2
            exact ⟨⟨k + 1, by omega, by go_num, HBW.out, HKK.out (by simp)⟩, by simp [iv]; omega⟩
        · have hz : (qa == a) = false := beq_eq_false_iff_ne.2 he
          go_wp2
          exact ⟨⟨k + 1, by omega, by go_num, HBW.out, HKK.out (by simp [he])⟩, by simp [iv]; omega⟩
      · have HE : Hid (tkn (csOf qs) (loOf ls) a = false) := hide (by
          unfold tkn loOf
          rw [HK.out, List.any_map, Option.isSome_none, Bool.false_or, List.any_eq_false]
          intro q hq
          obtain ⟨j, hj, rfl⟩ := List.mem_iff_getElem.1 hq
          have := HNO.out j hj (by omega)
          simpa using this)
        go_wp2
        go_ret
        exact ⟨by rw [HE.out]; rfl, HBF.out⟩
end
end Go.Proofs.YtoamghncncalgaaGreatDoor
namespace Go.Proofs.YtoamghncncalgaaGreatDoor
open Go.RowKit

/-- What is put, from there on. -/
def putQ (a : Int) (x : Ce) : Bool → List Ce → List Ce
  | dn, [] => if dn then [] else [x]
  | dn, q :: r => (if dn = false ∧ a ≤ q.1 then [x] else []) ++ ((if q.1 = a then [] else [q]) ++ putQ a x (dn || decide (a ≤ q.1)) r)
theorem putQ_mem {a : Int} {x q : Ce} : ∀ {l : List Ce} {dn : Bool}, q ∈ putQ a x dn l → (q = x ∧ dn = false) ∨ q ∈ l
  | [], dn, h => by
    unfold putQ at h
    cases dn
    · simp at h; exact .inl ⟨h, rfl⟩
    · simp at h
  | p :: r, dn, h => by
    unfold putQ at h
    rcases List.mem_append.1 h with h | h
    · split at h
      · rename_i hc
        simp at h; exact .inl ⟨h, hc.1⟩
      · simp at h
    · rcases List.mem_append.1 h with h | h
      · split at h
        · simp at h
        · simp at h; right; rw [h]; exact List.mem_cons_self
      · rcases putQ_mem h with ⟨e, hd⟩ | e
        · exact .inl ⟨e, by cases dn; rfl; simp at hd⟩
        · exact .inr (List.mem_cons_of_mem _ e)
theorem putQ_done (a : Int) (x : Ce) : ∀ l : List Ce, csOf (putQ a x true l) = delM a (csOf l)
  | [] => by simp [putQ, csOf, delM]
  | q :: r => by
    have ih := putQ_done a x r
    unfold putQ
    simp only [Bool.true_or]
    rw [if_neg (by simp), List.nil_append, csOf_app, ih]
    by_cases e : q.1 = a
    · rw [if_pos e]; simp [csOf, delM, e]
    · rw [if_neg e]; simp [csOf, delM, e]
theorem putQ_ins (a : Int) (g : Nat) (b : List Int) : ∀ l : List Ce, Asc (csOf l) → csOf (putQ a (a, g, b) false l) = insM a b (csOf l)
  | [], _ => by simp [putQ, csOf, insM]
  | q :: r, h => by
    have h' : Asc (csOf r) := (List.pairwise_cons.1 h).2
    have hlt : ∀ p ∈ csOf r, q.1 < p.1 := (List.pairwise_cons.1 h).1
    have ih := putQ_ins a g b r h'
    have hd : a ≤ q.1 → delM a (csOf r) = csOf r := fun hle => del_none h' (look_low (fun p hp => by have := hlt p hp; omega))
    unfold putQ
    simp only [Bool.false_or]
    rw [csOf_app, csOf_app]
    show _ = insM a b ((q.1, q.2.2) :: csOf r)
    unfold insM
    by_cases h1 : a < q.1
    · rw [if_pos ⟨trivial, by omega⟩, if_neg (by omega), if_pos h1, decide_eq_true (show a ≤ q.1 by omega), putQ_done, hd (by omega)]
      rfl
    · by_cases h2 : a = q.1
      · rw [if_pos ⟨trivial, by omega⟩, if_pos h2.symm, if_neg h1, if_pos h2, decide_eq_true (show a ≤ q.1 by omega), putQ_done, hd (by omega)]
        rfl
      · rw [if_neg (by omega), if_neg (by omega), if_neg h1, if_neg h2, decide_eq_false (show ¬ a ≤ q.1 by omega), ih]
        rfl
theorem putQ_stS (w : Wr) (g : Nat) (l : List Ce) (h : Asc (csOf l)) : csOf (putQ w.at_ (w.at_, g, w.by_) w.fr l) = stS (csOf l) w := by
  unfold stS
  cases hf : w.fr
  · rw [if_neg (by simp)]; exact putQ_ins _ _ _ l h
  · rw [if_pos rfl]; exact putQ_done _ _ l
theorem putQ_len (a : Int) (x : Ce) : ∀ (l : List Ce) (dn : Bool), (putQ a x dn l).length ≤ l.length + (if dn then 0 else 1)
  | [], dn => by cases dn <;> simp [putQ]
  | q :: r, dn => by
    have ih := putQ_len a x r (dn || decide (a ≤ q.1))
    unfold putQ
    rw [List.length_append, List.length_append, List.length_cons]
    cases dn <;> by_cases h : a ≤ q.1 <;> by_cases e : q.1 = a <;> simp [h, e] at ih ⊢ <;> omega
theorem run_append_cq (w : World) (ty : TypeId) (B : Nat) (v : Value) (os : List Ce) (hown : w.ownsRow B 88 2 v os.length (ces os)) (hB : B ≤ w.heap.size) (ad : Addr) (c : Nat) (q : Ce) (hnews : ∀ j u, (cec q)[j]? = some u → w.cell? (ad.add j) = some u) (hn : os.length + 1 ≤ 100000) :
    ∃ v' w', (Builtin.append_ #[34, 34] ty #[v, .slice (some ad) 1 c]).run Tryz.prog w = .ok v' w' ∧ w'.ownsRow B 88 2 v' (os ++ [q]).length (ces (os ++ [q])) ∧ w.grownBy w' v.ownBlock := by
  obtain ⟨i0, hi, hz0, hz1, hz2⟩ := info_parts infoCe
  obtain ⟨v', w', e, ho, hg, _, hb⟩ := run_append_own_at (P := Tryz.prog) w B 34 ty 88 i0 (.agg #[.int .i64 0, .slice none 0 0]) 2 32 Tryz.underlying34 hi hz0 hz1 hz2 rfl (by decide) v os.length (ces os) hown ad 1 c (cec q) rfl hnews (cec_one q) (by unfold maxLen; omega) (by omega) hB
  exact ⟨v', w', e, by rw [ces_app, ces_one, List.length_append]; exact ho, hg⟩
theorem wpList_appQ {ops : Array Oper} {rest : List Oper} {o : Oper} {a : Act} {Q : Exit → Act → World → Prop} (w : World) (hg : o.guard = none) (y z : Operand) (ho : o.op = .call { callee := .builtin .append, args := #[y, z], argTypes := #[34, 34] }) (B : Nat) (v : Value) (os : List Ce) (hy : a.eval y = v) (hown : w.ownsRow B 88 2 v os.length (ces os)) (hB : B ≤ w.heap.size) (ad : Addr) (c : Nat) (q : Ce) (hz : a.eval z = .slice (some ad) 1 c) (hnews : ∀ j u, (cec q)[j]? = some u → w.cell? (ad.add j) = some u) (hn : os.length + 1 ≤ 100000)
    (h : ∀ v' w', w'.ownsRow B 88 2 v' (os ++ [q]).length (ces (os ++ [q])) → w.grownBy w' v.ownBlock → wpList Tryz.prog ops Q rest (a.put o.dst v') w') : wpList Tryz.prog ops Q (o :: rest) a w := by
  refine wpList_plain hg fun K hK => ?_
  obtain ⟨v', w', hrun, q1, q2⟩ := run_append_cq w o.type B v os hown hB ad c q hnews hn
  unfold Oper.wp
  simp [execOp, ho, resolve, invoke, builtin, hy, hz, hrun, Result.andThen]
  exact hK _ _ (h v' w' q1 q2)
theorem Cl.of_own {W : World} {P : Nat → Prop} {B : Nat} {v : Value} {os : List Ce} (h : W.ownsRow B 88 2 v os.length (ces os)) (ha : ∀ q ∈ os, P q.2.1 ∧ Au W q.2.1 q.2.2) : Cl W (fun k => P k ∨ B ≤ k) v os := by
  refine ⟨?_, fun h0 => ?_, fun q hq => ⟨.inl (ha q hq).1, (ha q hq).2⟩⟩
  · rcases h.2 with ⟨e, h0⟩ | ⟨g, cap, cur, e, _⟩
    · exact ⟨none, 0, by rw [e, h0]⟩
    · exact ⟨_, _, e⟩
  · rcases h.2 with ⟨_, h1⟩ | ⟨g, cap, cur, e, a2, a3, a4, a5, a6, a7⟩
    · omega
    · refine ⟨g, 0, cap, e, .inr a2, fun j u hu => ?_⟩
      have hj : j < (ces os).length := (List.getElem?_eq_some_iff.1 hu).1
      rw [← a7] at hu
      rw [ces_len] at hj
      rw [List.getElem?_take_of_lt (by omega)] at hu
      simp only [World.cell?, a3, Nat.zero_add]
      simpa using hu
theorem putQ_step {a : Int} {x q : Ce} {d : Bool} {os r T : List Ce} (h : os ++ putQ a x d (q :: r) = T) : (os ++ (if d = false ∧ a ≤ q.1 then [x] else []) ++ (if q.1 = a then [] else [q])) ++ putQ a x (d || decide (a ≤ q.1)) r = T := by
  rw [← h, putQ]
  simp only [List.append_assoc]
theorem row_form {W : World} {B n : Nat} {e : TypeId} {v : Value} {xs : List Value} {m : Nat} (h : W.ownsRow B e m v n xs) : ∃ a c, v = .slice a n c := by
  rcases h.2 with ⟨q, h0⟩ | ⟨g, cap, cur, q, _⟩
  · exact ⟨none, 0, by rw [q, h0]⟩
  · exact ⟨_, _, q⟩
theorem dw_false {a : Int} {fr : Bool} {b : List Int} {g vn vc : Nat} {va : Option Addr} (h : dwv (⟨a, fr, b⟩, g) = .slice va vn vc) (hf : fr = false) : va = some ⟨g, 0, none⟩ ∧ vn = 64 ∧ vc = 64 := by
  subst hf
  simp only [dwv, Bool.false_eq_true, if_false] at h
  cases h
  exact ⟨rfl, rfl, rfl⟩
set_option maxRecDepth 100000 in
set_option maxHeartbeats 8000000 in
theorem rput_any {P : Nat → Prop} (v : Value) (qs : List Ce) (q : Dw) (w : World) (h : Cl w P v qs) (hq : q.1.fr = false → P q.2 ∧ Au w q.2 q.1.by_) (hn : qs.length < 90000) : Calls Tryz.prog 55 #[v, .agg (dwc q).toArray] w fun e w' => ∃ v', e = .returned v' ∧ Cl w' (fun k => P k ∨ w.heap.size ≤ k) v' (putQ q.1.at_ (q.1.at_, q.2, q.1.by_) q.1.fr qs) ∧ Below w.heap.size w w' := by
  obtain ⟨a0, c, rfl⟩ := h.fm
  obtain ⟨⟨a, fr, b⟩, g⟩ := q
  have HC := hide h
  have HQ := hide hq
  simp only [dwc] at *
  obtain ⟨va, vn, vc, hv⟩ := dwv_form (⟨a, fr, b⟩, g)
  rw [hv]
  have HV := hide hv
  clear h hq hv
  go_enter Tryz.func55, Tryz.ntmps55
  go_wp2
  have hal : Below w.heap.size w (w.alloc (.cells #[.int .i64 a, .bool fr, .slice va vn vc] 107)) := (Below.refl _ _).alloc (Nat.le_refl _) _
  have hb0 : (w.alloc (.cells #[.int .i64 a, .bool fr, .slice va vn vc] 107)).cell? ⟨w.heap.size, 0, none⟩ = some (.int .i64 a) := by simp
  have hb2 : (w.alloc (.cells #[.int .i64 a, .bool fr, .slice va vn vc] 107)).cell? ⟨w.heap.size, 2, none⟩ = some (.slice va vn vc) := by simp
  have HAL := hide hal
  have HB0 := hide hb0
  have HB2 := hide hb2
  have HCV := hide (HC.out.below hal)
  generalize w.alloc (.cells #[.int .i64 a, .bool fr, .slice va vn vc] 107) = V at HAL HB0 HB2 HCV ⊢
  clear hal hb0 hb2
  go_loopw [5, 6, 7] (fun v dn i W => ∃ (k : Nat) (os : List Ce) (d : Bool), k ≤ qs.length ∧ i = .int .i64 k ∧ dn = .bool d ∧ W.ownsRow V.heap.size 88 2 v os.length (ces os) ∧ os ++ putQ a (a, g, b) d (qs.drop k) = putQ a (a, g, b) fr qs ∧ (fr = true → d = true) ∧ Below V.heap.size V W) (fun _ _ i _ => qs.length - (iv i).toNat)
  case atStart => exact ⟨0, [], fr, Nat.zero_le _, rfl, rfl, World.ownsRow_nil _ _ _ _, rfl, fun e => e, Below.refl _ _⟩
  case round =>
    obtain ⟨k, os, d, hk, rfl, rfl, ho, hp, hd, hb⟩ := hrel
    have HOL : Hid (os.length + 2 ≤ 100000) := hide (by
      have h1 := congrArg List.length hp
      have h2 := putQ_len a (a, g, b) qs fr
      rw [List.length_append] at h1
      split at h2 <;> omega)
    obtain ⟨oa, oc, rfl⟩ := row_form ho
    have HO := hide ho
    have HP := hide hp
    have HD := hide hd
    have HB := hide hb
    clear ho hp hd hb
    by_cases hlt : k < qs.length
    · obtain ⟨lb, lo, rfl, c0, c1⟩ := Cl.at HCV.out hlt
      have HT := hide (putQ_step (T := putQ a (a, g, b) fr qs) (by rw [← List.drop_eq_getElem_cons hlt]; exact HP.out))
      have HF : Hid (∀ W, Below V.heap.size V W → W.cell? ⟨lb, lo + k * 2, none⟩ = some (.int .i64 (qs[k]).1) ∧ W.cell? ⟨lb, lo + k * 2 + 1, none⟩ = some (.slice (some ⟨(qs[k]).2.1, 0, none⟩) 64 64) ∧ W.cell? ⟨w.heap.size, 0, none⟩ = some (.int .i64 a) ∧ W.cell? ⟨w.heap.size, 2, none⟩ = some (.slice va vn vc)) := hide (fun W hW => ⟨(hW.cell (p := ⟨lb, lo + k * 2, none⟩) (cell_block c0)).trans c0, (hW.cell (p := ⟨lb, lo + k * 2 + 1, none⟩) (cell_block c1)).trans c1, (hW.cell (p := ⟨w.heap.size, 0, none⟩) (cell_block HB0.out)).trans HB0.out, (hW.cell (p := ⟨w.heap.size, 2, none⟩) (cell_block HB2.out)).trans HB2.out⟩)
      clear c0 c1
      generalize qs[k] = q at HF HT
      obtain ⟨qa, qg, qb⟩ := q
      simp only at HF HT
      cases d
      · obtain ⟨rfl, rfl, rfl⟩ := dw_false HV.out (by cases fr <;> first | rfl | exact absurd (HD.out rfl) (by decide))
        rcases Int.lt_trichotomy a qa with h1 | h1 | h1
        · have hge : decide (a ≤ qa) = true := decide_eq_true (by omega)
          have hqz : (qa == a) = false := beq_eq_false_iff_ne.2 (by omega)
          obtain ⟨x0, x1, x2, x3⟩ := HF.out _ HB.out
          go_wp2_with fail
          go_quiet (fail)
          clear x0 x1 x2 x3
          have hbq := below_drewN HB.out nq
          have hoq := owns_below HO.out (below_drewN (Below.refl _ _) nq)
          generalize wr.drewN nq = X at hbq hoq ⊢
          clear HO HB
          have HB1 := hide hbq
          have HO1 := hide hoq
          clear hbq hoq
          have HL1 : Hid (os.length + 1 ≤ 100000) := hide (by have := HOL.out; omega)
          obtain ⟨x0, x1, x2, x3⟩ := HF.out _ HB1.out
          have hal : ∀ o, Below X.heap.size X (X.alloc o) := fun o => (Below.refl _ _).alloc (Nat.le_refl _) o
          go_wp2_with (first | (at_builtin; refine wpList_appQ _ rfl _ _ rfl V.heap.size _ os rfl (owns_below HO1.out (hal _)) (Nat.le_trans HB1.out.size (hal _).size) ⟨X.heap.size, 0, none⟩ 1 (a, g, b) rfl (range_newsW (range_newW X (cec (a, g, b)) _)) HL1.out ?_; intro v' W7 hww hgr; have HO2 := hide hww; have HB2' := hide (((HB1.out.trans ((hal _).mono HB1.out.size)).grown hgr (HB1.out.trans ((hal (.cells (cec (a, g, b)).toArray 88)).mono HB1.out.size)).size (fun j e => (HO1.out.lt j e).1))); clear hww hgr))
          clear x0 x1 x2 x3 hal HO1 HB1 HL1
          obtain ⟨oa', oc', rfl⟩ := row_form HO2.out
          obtain ⟨x0, x1, x2, x3⟩ := HF.out _ HB2'.out
          go_wp2_with fail
          go_quiet (fail)
          clear x0 x1 x2 x3
          have hbq := below_drewN HB2'.out nq
          have hoq := owns_below HO2.out (below_drewN (Below.refl _ _) nq)
          generalize W7.drewN nq = X at hbq hoq ⊢
          clear HO2 HB2'
          have HB1 := hide hbq
          have HO1 := hide hoq
          clear hbq hoq
          have HL1 : Hid ((os ++ [(a, g, b)]).length + 1 ≤ 100000) := hide (by rw [List.length_append]; have := HOL.out; simp only [List.length_cons, List.length_nil]; omega)
          obtain ⟨x0, x1, x2, x3⟩ := HF.out _ HB1.out
          have hal : ∀ o, Below X.heap.size X (X.alloc o) := fun o => (Below.refl _ _).alloc (Nat.le_refl _) o
          go_wp2_with (first | (at_builtin; refine wpList_appQ _ rfl _ _ rfl V.heap.size _ (os ++ [(a, g, b)]) rfl (owns_below HO1.out (hal _)) (Nat.le_trans HB1.out.size (hal _).size) ⟨X.heap.size, 0, none⟩ 1 (qa, qg, qb) rfl (range_newsW (range_newW X (cec (qa, qg, qb)) _)) HL1.out ?_; intro v' W7 hww hgr; have HO2 := hide hww; have HB2' := hide (((HB1.out.trans ((hal _).mono HB1.out.size)).grown hgr (HB1.out.trans ((hal (.cells (cec (qa, qg, qb)).toArray 88)).mono HB1.out.size)).size (fun j e => (HO1.out.lt j e).1))); clear hww hgr))
          exact ⟨⟨k + 1, (os ++ [(a, g, b)]) ++ [(qa, qg, qb)], _, by omega, by go_num, rfl, HO2.out, by rw [← HT.out]; simp [show a ≤ qa by omega, show ¬ qa = a by omega], fun _ => rfl, HB2'.out⟩, by simp [iv]; omega⟩
        · subst h1
          have hge : decide (a ≤ a) = true := decide_eq_true (by omega)
          obtain ⟨x0, x1, x2, x3⟩ := HF.out _ HB.out
          go_wp2_with fail
          go_quiet (fail)
          clear x0 x1 x2 x3
          have hbq := below_drewN HB.out nq
          have hoq := owns_below HO.out (below_drewN (Below.refl _ _) nq)
          generalize wr.drewN nq = X at hbq hoq ⊢
          clear HO HB
          have HB1 := hide hbq
          have HO1 := hide hoq
          clear hbq hoq
          have HL1 : Hid (os.length + 1 ≤ 100000) := hide (by have := HOL.out; omega)
          obtain ⟨x0, x1, x2, x3⟩ := HF.out _ HB1.out
          have hal : ∀ o, Below X.heap.size X (X.alloc o) := fun o => (Below.refl _ _).alloc (Nat.le_refl _) o
          go_wp2_with (first | (at_builtin; refine wpList_appQ _ rfl _ _ rfl V.heap.size _ os rfl (owns_below HO1.out (hal _)) (Nat.le_trans HB1.out.size (hal _).size) ⟨X.heap.size, 0, none⟩ 1 (a, g, b) rfl (range_newsW (range_newW X (cec (a, g, b)) _)) HL1.out ?_; intro v' W7 hww hgr; have HO2 := hide hww; have HB2' := hide (((HB1.out.trans ((hal _).mono HB1.out.size)).grown hgr (HB1.out.trans ((hal (.cells (cec (a, g, b)).toArray 88)).mono HB1.out.size)).size (fun j e => (HO1.out.lt j e).1))); clear hww hgr))
          clear x0 x1 x2 x3 hal HO1 HB1 HL1
          obtain ⟨oa', oc', rfl⟩ := row_form HO2.out
          obtain ⟨x0, x1, x2, x3⟩ := HF.out _ HB2'.out
          go_wp2_with fail
          go_quiet (fail)
          clear x0 x1 x2 x3
          have hbq := below_drewN HB2'.out nq
          have hoq := owns_below HO2.out (below_drewN (Below.refl _ _) nq)
          generalize W7.drewN nq = X at hbq hoq ⊢
          clear HO2 HB2'
          have HB1 := hide hbq
          have HO1 := hide hoq
          clear hbq hoq
          have HL1 : Hid ((os ++ [(a, g, b)]).length + 1 ≤ 100000) := hide (by rw [List.length_append]; have := HOL.out; simp only [List.length_cons, List.length_nil]; omega)
          go_wp2
          exact ⟨⟨k + 1, (os ++ [(a, g, b)]), _, by omega, by go_num, rfl, HO1.out, by rw [← HT.out]; simp, fun _ => rfl, HB1.out⟩, by simp [iv]; omega⟩
        · have hge : decide (a ≤ qa) = false := decide_eq_false (by omega)
          have hqz : (qa == a) = false := beq_eq_false_iff_ne.2 (by omega)
          obtain ⟨x0, x1, x2, x3⟩ := HF.out _ HB.out
          go_wp2_with fail
          go_quiet (fail)
          clear x0 x1 x2 x3
          have hbq := below_drewN HB.out nq
          have hoq := owns_below HO.out (below_drewN (Below.refl _ _) nq)
          generalize wr.drewN nq = X at hbq hoq ⊢
          clear HO HB
          have HB1 := hide hbq
          have HO1 := hide hoq
          clear hbq hoq
          have HL1 : Hid (os.length + 1 ≤ 100000) := hide (by have := HOL.out; omega)
          obtain ⟨x0, x1, x2, x3⟩ := HF.out _ HB1.out
          go_wp2_with fail
          go_quiet (fail)
          clear x0 x1 x2 x3
          have hbq := below_drewN HB1.out nq
          have hoq := owns_below HO1.out (below_drewN (Below.refl _ _) nq)
          generalize X.drewN nq = X2 at hbq hoq ⊢
          clear HO1 HB1
          have HB3 := hide hbq
          have HO3 := hide hoq
          clear hbq hoq
          have HB1 := HB3
          have HO1 := HO3
          clear HB3 HO3
          skip
          obtain ⟨x0, x1, x2, x3⟩ := HF.out _ HB1.out
          have hal : ∀ o, Below X2.heap.size X2 (X2.alloc o) := fun o => (Below.refl _ _).alloc (Nat.le_refl _) o
          go_wp2_with (first | (at_builtin; refine wpList_appQ _ rfl _ _ rfl V.heap.size _ os rfl (owns_below HO1.out (hal _)) (Nat.le_trans HB1.out.size (hal _).size) ⟨X2.heap.size, 0, none⟩ 1 (qa, qg, qb) rfl (range_newsW (range_newW X2 (cec (qa, qg, qb)) _)) HL1.out ?_; intro v' W7 hww hgr; have HO2 := hide hww; have HB2' := hide (((HB1.out.trans ((hal _).mono HB1.out.size)).grown hgr (HB1.out.trans ((hal (.cells (cec (qa, qg, qb)).toArray 88)).mono HB1.out.size)).size (fun j e => (HO1.out.lt j e).1))); clear hww hgr))
          exact ⟨⟨k + 1, os ++ [(qa, qg, qb)], _, by omega, by go_num, rfl, HO2.out, by rw [← HT.out]; simp [show ¬ a ≤ qa by omega, show ¬ qa = a by omega], HD.out, HB2'.out⟩, by simp [iv]; omega⟩
      · rcases Int.lt_trichotomy a qa with h1 | h1 | h1
        · have hge : decide (a ≤ qa) = true := decide_eq_true (by omega)
          have hqz : (qa == a) = false := beq_eq_false_iff_ne.2 (by omega)
          obtain ⟨x0, x1, x2, x3⟩ := HF.out _ HB.out
          go_wp2_with fail
          go_quiet (fail)
          clear x0 x1 x2 x3
          have hbq := below_drewN HB.out nq
          have hoq := owns_below HO.out (below_drewN (Below.refl _ _) nq)
          generalize wr.drewN nq = X at hbq hoq ⊢
          clear HO HB
          have HB1 := hide hbq
          have HO1 := hide hoq
          clear hbq hoq
          have HL1 : Hid (os.length + 1 ≤ 100000) := hide (by have := HOL.out; omega)
          obtain ⟨x0, x1, x2, x3⟩ := HF.out _ HB1.out
          go_wp2_with fail
          go_quiet (fail)
          clear x0 x1 x2 x3
          have hbq := below_drewN HB1.out nq
          have hoq := owns_below HO1.out (below_drewN (Below.refl _ _) nq)
          generalize X.drewN nq = X2 at hbq hoq ⊢
          clear HO1 HB1
          have HB3 := hide hbq
          have HO3 := hide hoq
          clear hbq hoq
          have HB1 := HB3
          have HO1 := HO3
          clear HB3 HO3
          skip
          obtain ⟨x0, x1, x2, x3⟩ := HF.out _ HB1.out
          have hal : ∀ o, Below X2.heap.size X2 (X2.alloc o) := fun o => (Below.refl _ _).alloc (Nat.le_refl _) o
          go_wp2_with (first | (at_builtin; refine wpList_appQ _ rfl _ _ rfl V.heap.size _ os rfl (owns_below HO1.out (hal _)) (Nat.le_trans HB1.out.size (hal _).size) ⟨X2.heap.size, 0, none⟩ 1 (qa, qg, qb) rfl (range_newsW (range_newW X2 (cec (qa, qg, qb)) _)) HL1.out ?_; intro v' W7 hww hgr; have HO2 := hide hww; have HB2' := hide (((HB1.out.trans ((hal _).mono HB1.out.size)).grown hgr (HB1.out.trans ((hal (.cells (cec (qa, qg, qb)).toArray 88)).mono HB1.out.size)).size (fun j e => (HO1.out.lt j e).1))); clear hww hgr))
          exact ⟨⟨k + 1, os ++ [(qa, qg, qb)], _, by omega, by go_num, rfl, HO2.out, by rw [← HT.out]; simp [show a ≤ qa by omega, show ¬ qa = a by omega], fun _ => rfl, HB2'.out⟩, by simp [iv]; omega⟩
        · subst h1
          have hge : decide (a ≤ a) = true := decide_eq_true (by omega)
          obtain ⟨x0, x1, x2, x3⟩ := HF.out _ HB.out
          go_wp2_with fail
          go_quiet (fail)
          clear x0 x1 x2 x3
          have hbq := below_drewN HB.out nq
          have hoq := owns_below HO.out (below_drewN (Below.refl _ _) nq)
          generalize wr.drewN nq = X at hbq hoq ⊢
          clear HO HB
          have HB1 := hide hbq
          have HO1 := hide hoq
          clear hbq hoq
          have HL1 : Hid (os.length + 1 ≤ 100000) := hide (by have := HOL.out; omega)
          obtain ⟨x0, x1, x2, x3⟩ := HF.out _ HB1.out
          go_wp2_with fail
          go_quiet (fail)
          clear x0 x1 x2 x3
          have hbq := below_drewN HB1.out nq
          have hoq := owns_below HO1.out (below_drewN (Below.refl _ _) nq)
          generalize X.drewN nq = X2 at hbq hoq ⊢
          clear HO1 HB1
          have HB3 := hide hbq
          have HO3 := hide hoq
          clear hbq hoq
          have HB1 := HB3
          have HO1 := HO3
          clear HB3 HO3
          skip
          go_wp2
          exact ⟨⟨k + 1, os, _, by omega, by go_num, rfl, HO1.out, by rw [← HT.out]; simp, fun _ => rfl, HB1.out⟩, by simp [iv]; omega⟩
        · have hge : decide (a ≤ qa) = false := decide_eq_false (by omega)
          have hqz : (qa == a) = false := beq_eq_false_iff_ne.2 (by omega)
          obtain ⟨x0, x1, x2, x3⟩ := HF.out _ HB.out
          go_wp2_with fail
          go_quiet (fail)
          clear x0 x1 x2 x3
          have hbq := below_drewN HB.out nq
          have hoq := owns_below HO.out (below_drewN (Below.refl _ _) nq)
          generalize wr.drewN nq = X at hbq hoq ⊢
          clear HO HB
          have HB1 := hide hbq
          have HO1 := hide hoq
          clear hbq hoq
          have HL1 : Hid (os.length + 1 ≤ 100000) := hide (by have := HOL.out; omega)
          obtain ⟨x0, x1, x2, x3⟩ := HF.out _ HB1.out
          go_wp2_with fail
          go_quiet (fail)
          clear x0 x1 x2 x3
          have hbq := below_drewN HB1.out nq
          have hoq := owns_below HO1.out (below_drewN (Below.refl _ _) nq)
          generalize X.drewN nq = X2 at hbq hoq ⊢
          clear HO1 HB1
          have HB3 := hide hbq
          have HO3 := hide hoq
          clear hbq hoq
          have HB1 := HB3
          have HO1 := HO3
          clear HB3 HO3
          skip
          obtain ⟨x0, x1, x2, x3⟩ := HF.out _ HB1.out
          have hal : ∀ o, Below X2.heap.size X2 (X2.alloc o) := fun o => (Below.refl _ _).alloc (Nat.le_refl _) o
          go_wp2_with (first | (at_builtin; refine wpList_appQ _ rfl _ _ rfl V.heap.size _ os rfl (owns_below HO1.out (hal _)) (Nat.le_trans HB1.out.size (hal _).size) ⟨X2.heap.size, 0, none⟩ 1 (qa, qg, qb) rfl (range_newsW (range_newW X2 (cec (qa, qg, qb)) _)) HL1.out ?_; intro v' W7 hww hgr; have HO2 := hide hww; have HB2' := hide (((HB1.out.trans ((hal _).mono HB1.out.size)).grown hgr (HB1.out.trans ((hal (.cells (cec (qa, qg, qb)).toArray 88)).mono HB1.out.size)).size (fun j e => (HO1.out.lt j e).1))); clear hww hgr))
          exact ⟨⟨k + 1, os ++ [(qa, qg, qb)], _, by omega, by go_num, rfl, HO2.out, by rw [← HT.out]; simp [show ¬ a ≤ qa by omega, show ¬ qa = a by omega], fun _ => rfl, HB2'.out⟩, by simp [iv]; omega⟩
    · obtain rfl : k = qs.length := by omega
      have HE : Hid (os ++ (if d then [] else [(a, g, b)]) = putQ a (a, g, b) fr qs) := hide (by rw [← HP.out, List.drop_of_length_le (Nat.le_refl _), putQ])
      have HQV : Hid (∀ W, Below V.heap.size V W → ∀ q ∈ putQ a (a, g, b) fr qs, P q.2.1 ∧ Au W q.2.1 q.2.2) := hide (fun W hW q hq => by
        rcases putQ_mem hq with ⟨rfl, hf⟩ | hq
        · exact ⟨(HQ.out hf).1, ((HQ.out hf).2.keep (HAL.out.block _ (HQ.out hf).2.lt)).keep (hW.block _ (Nat.lt_of_lt_of_le (HQ.out hf).2.lt HAL.out.size))⟩
        · exact ⟨(HCV.out.au q hq).1, (HCV.out.au q hq).2.keep (hW.block _ (HCV.out.au q hq).2.lt)⟩)
      have HPM : Hid (∀ (W : World) (v : Value), Cl W (fun k => P k ∨ V.heap.size ≤ k) v (putQ a (a, g, b) fr qs) → Cl W (fun k => P k ∨ w.heap.size ≤ k) v (putQ a (a, g, b) fr qs)) := hide (fun W v h => h.keep (fun k q _ => q.imp id (Nat.le_trans HAL.out.size)) (fun _ _ _ => rfl))
      cases d
      · obtain ⟨rfl, rfl, rfl⟩ := dw_false HV.out (by cases fr <;> first | rfl | exact absurd (HD.out rfl) (by decide))
        have x2 := (HB.out.cell (p := ⟨w.heap.size, 0, none⟩) (cell_block HB0.out)).trans HB0.out
        have x3 := (HB.out.cell (p := ⟨w.heap.size, 2, none⟩) (cell_block HB2.out)).trans HB2.out
        have HL1 : Hid (os.length + 1 ≤ 100000) := hide (by have := HOL.out; omega)
        have HB1 := HB
        have HO1 := HO
        clear HB HO
        have hal : ∀ o, Below wr.heap.size wr (wr.alloc o) := fun o => (Below.refl _ _).alloc (Nat.le_refl _) o
        go_wp2_with (first | (at_builtin; refine wpList_appQ _ rfl _ _ rfl V.heap.size _ os rfl (owns_below HO1.out (hal _)) (Nat.le_trans HB1.out.size (hal _).size) ⟨wr.heap.size, 0, none⟩ 1 (a, g, b) rfl (range_newsW (range_newW wr (cec (a, g, b)) _)) HL1.out ?_; intro v' W7 hww hgr; have HO2 := hide hww; have HB2' := hide (((HB1.out.trans ((hal _).mono HB1.out.size)).grown hgr (HB1.out.trans ((hal (.cells (cec (a, g, b)).toArray 88)).mono HB1.out.size)).size (fun j e => (HO1.out.lt j e).1))); clear hww hgr))
        go_ret
        refine ⟨_, rfl, HPM.out _ _ ?_, HAL.out.trans (HB2'.out.mono HAL.out.size)⟩
        have he : os ++ [(a, g, b)] = putQ a (a, g, b) fr qs := by rw [← HE.out]; rfl
        have ho := HO2.out
        rw [he] at ho
        exact Cl.of_own ho (HQV.out _ HB2'.out)
      · go_wp2
        go_ret
        have he : os = putQ a (a, g, b) fr qs := by rw [← HE.out]; simp
        have hcl : Cl wr (fun k => P k ∨ V.heap.size ≤ k) (.slice oa os.length oc) (putQ a (a, g, b) fr qs) := by
          have := Cl.of_own HO.out (P := P) (fun q hq => HQV.out _ HB.out q (by rw [← he]; exact hq))
          rwa [he] at this ⊢
        exact ⟨_, rfl, HPM.out _ _ hcl, HAL.out.trans (HB.out.mono HAL.out.size)⟩
end Go.Proofs.YtoamghncncalgaaGreatDoor
