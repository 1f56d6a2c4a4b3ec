/-
  A NUMBER, AN INT AND A FLAG WRITTEN BEHIND BYTES, at every number (wire.Num, Int, Flag). Conditions: the bytes are nil or a row of their own, and fewer than a million.
  AN APPEND OF ANY BYTES, NONE AMONG THEM, TO A ROW OF ITS OWN; the document's writers as slices. Condition: fewer than a million bytes.
  RECORDS AS BYTES, on lists alone (no program in sight): how a record is written, what is read of bytes, that what is written is read as what it was, that bytes that are read are those that are written, and that bytes cut short are none. Conditions: bytes are bytes.
  WHAT A KIND IS ABOUT, BIT BY BIT, NAMES AND BROKERS (record.subjects, has, within, Name, Brokers, named, listed, leastTopic, mostValue): as functions of numbers, letters and lists. Conditions: no more than a thousand letters; the brokers' cells hold them.
  BROKERS (slices.Index, slices.Contains, record.Brokers, named, listed): as functions of lists. Conditions: no more than a thousand letters; the brokers' cells hold them.
  A RECORD AS A VALUE, AND IN ITS CELLS; what is wrong with it first, as a function of what each field comes to. No condition.
-/
import Derived.Test.YtoioddnlkbjljaaGreatDoorJKWput
import Derived.Test.YtoioddnlkbjljaaGreatDoorJKWrowa6
import Derived.Test.YtoioddnlkbjljaaGreatDoorJKRecWrg
import Derived.Test.YtoioddnlkbjljaaGreatDoorJKRecHasa2
import Derived.Test.YtoioddnlkbjljaaGreatDoorJKRecChka2
import Derived.Laws.IdiomStrings
import Derived.Test.YtoioddnlkbjljaaGreatDoorJKMidca6
namespace Go.Proofs.YtoioddnlkbjljaaGreatDoor
open Go.RowKit

set_option maxRecDepth 100000 in
set_option maxHeartbeats 8000000 in
theorem wnum_cap (B : Nat) (v : Value) (m : Nat) (cur : List Value) (k : Int) (w : World) (hr : Rw B w v m cur) (hB : B ≤ w.heap.size) (hm : m ≤ 900000) (h0 : 4611686018427387903 < k) :
    Calls Tryz.prog 91 #[v, .int .u64 k] w fun e w' => ∃ v' cur', e = .returned v' ∧ Put B w v m cur w' v' 8 cur' (bv [255, 255, 255, 255, 255, 255, 255, 255]) := by
  obtain ⟨ao, cap, hV⟩ : ∃ ao cap, v = .slice ao m cap := by
    rcases hr.2.2 with ⟨rfl, rfl⟩ | ⟨g, rfl, _⟩
    · have := hr.1; simp at this; subst this; exact ⟨_, _, rfl⟩
    · exact ⟨_, _, rfl⟩
  have HS := hide (wsize_any 4611686018427387903)
  have hz : szL 4611686018427387903 = 8 := by decide
  rw [hz] at HS
  subst hV
  have HR := hide hr
  clear hr hz
  go_enter Tryz.func91, Tryz.ntmps91
  go_wp2_with (first
    | (go_at_call 93; refine (HS.out _).mono ?_; rintro e w' ⟨rfl, rfl⟩)
    | (at_builtin; refine wpList_append_rw _ rfl _ _ rfl B _ m cur rfl (HR.out.below ((Below.refl _ _).alloc (Nat.le_refl _) _)) (by simp; omega) _ 4 4 (bv [63, 255, 255, 255]) rfl rfl (by omega) (cells_at _ _ _) (one_bytes _) (by omega) ?_))
  intro w1 v1 cur1 hp1
  have HQ1 := hide (hp1.pre (w := w') hB ((Below.refl _ _).alloc (Nat.le_refl _) _))
  clear hp1 HR HS
  go_wp2_with (first
    | (at_builtin; refine wpList_append_rw _ rfl _ _ rfl B _ (m + 4) cur1 rfl (HQ1.out.rw.below ((Below.refl _ _).alloc (Nat.le_refl _) _)) (by have := HQ1.out.below.size; simp; omega) _ 2 2 (bv [255, 255]) rfl rfl (by omega) (cells_at _ _ _) (one_bytes _) (by omega) ?_))
  intro w2 v2 cur2 hp2
  have HQ2 := hide (HQ1.out.trans (hp2.pre (w := w1) (by have := HQ1.out.below.size; omega) ((Below.refl _ _).alloc (Nat.le_refl _) _)))
  clear hp2
  go_wp2_with (first
    | (at_builtin; refine wpList_append_rw _ rfl _ _ rfl B _ (m + 6) cur2 rfl (HQ2.out.rw.below ((Below.refl _ _).alloc (Nat.le_refl _) _)) (by have := HQ2.out.below.size; simp; omega) _ 1 1 (bv [255]) rfl rfl (by omega) (cells_at _ _ _) (one_bytes _) (by omega) ?_))
  intro w3 v3 cur3 hp3
  have HQ3 := hide (HQ2.out.trans (hp3.pre (w := w2) (by have := HQ2.out.below.size; omega) ((Below.refl _ _).alloc (Nat.le_refl _) _)))
  clear hp3
  go_wp2_with (first
    | (at_builtin; refine wpList_append_rw _ rfl _ _ rfl B _ (m + 7) cur3 rfl (HQ3.out.rw.below ((Below.refl _ _).alloc (Nat.le_refl _) _)) (by have := HQ3.out.below.size; simp; omega) _ 1 1 (bv [255]) rfl rfl (by omega) (cells_at _ _ _) (one_bytes _) (by omega) ?_))
  intro w4 v4 cur4 hp4
  have HQ4 := hide (HQ3.out.trans (hp4.pre (w := w3) (by have := HQ3.out.below.size; omega) ((Below.refl _ _).alloc (Nat.le_refl _) _)))
  clear hp4
  go_wp2_with fail
  have hq : Put B w' (.slice ao m cap) m cur w4 v4 8 cur4 (bv [63, 255, 255, 255, 255, 255, 255, 255]) := HQ4.out
  obtain ⟨g, rfl, hBg, hh, hcell, hfz, hlt, hle⟩ := hq.opened
  have HP := hide hq
  have HH := hide hh
  have hsz := hq.below.size
  clear hq hh HQ1 HQ2 HQ3 HQ4
  have eor2 : bits .or .u8 63 192 = 255 := by decide
  have eor : bits .or .u8 63 (IntKind.u8.wrap (IntKind.u8.wrap (IntKind.i64.wrap 3) * 64)) = 255 := by decide
  go_region_with (first | (go_at_call 125; refine (len_8 _).mono ?_; rintro e w' ⟨rfl, rfl⟩))
  all_goals go_wp2_with fail
  all_goals go_ret
  all_goals exact ⟨_, _, rfl, (HP.out.store hBg HH.out _).post (by simp; omega) ((Below.refl _ _).drew)⟩

theorem wnum_any (B : Nat) (v : Value) (m : Nat) (cur : List Value) (k : Int) (w : World) (hr : Rw B w v m cur) (hB : B ≤ w.heap.size) (hm : m ≤ 900000) (h0 : 0 ≤ k) :
    Calls Tryz.prog 91 #[v, .int .u64 k] w fun e w' => ∃ v' cur', e = .returned v' ∧ Put B w v m cur w' v' (numL (capN k)).length cur' (bv (numL (capN k))) := by
  by_cases hc : 4611686018427387903 < k
  · rw [show capN k = 4611686018427387903 from if_pos hc, show numL 4611686018427387903 = [255, 255, 255, 255, 255, 255, 255, 255] by decide]
    exact wnum_cap B v m cur k w hr hB hm hc
  · rw [show capN k = k from if_neg hc]
    unfold numL
    by_cases h1 : k < 64
    · rw [if_pos h1]
      exact wnum_1 B v m cur k w hr hB hm h0 h1
    · rw [if_neg h1]
      by_cases h2 : k < 16384
      · rw [if_pos h2]
        exact wnum_2 B v m cur k w hr hB hm (by omega) h2
      · rw [if_neg h2]
        by_cases h3 : k < 1073741824
        · rw [if_pos h3]
          exact wnum_4 B v m cur k w hr hB hm (by omega) h3
        · rw [if_neg h3]
          exact wnum_8 B v m cur k w hr hB hm (by omega) (by omega)
theorem intL_abv (k : Int) : numL (capN (abv' k)) = intL k := by
  unfold intL abv'
  split
  · rfl
  · rfl
theorem wint_any (B : Nat) (v : Value) (m : Nat) (cur : List Value) (k : Int) (w : World) (hr : Rw B w v m cur) (hB : B ≤ w.heap.size) (hm : m ≤ 900000) (hk : k ≤ 9223372036854775807) :
    Calls Tryz.prog 57 #[v, .int .i64 k] w fun e w' => ∃ v' cur', e = .returned v' ∧ Put B w v m cur w' v' (intL k).length cur' (bv (intL k)) := by
  have HC := hide (wnum_any B v m cur (abv' k) w hr hB hm (by unfold abv'; split <;> omega))
  rw [intL_abv] at HC
  clear hr
  go_enter Tryz.func57, Tryz.ntmps57
  go_wp2_with (first
    | (go_at_call 92; refine (natural_any k _ hk).mono ?_; rintro e w' ⟨rfl, rfl⟩)
    | (go_at_call 91; refine (HC.out).mono ?_; rintro e w' ⟨v', cur', rfl, hp⟩))
  go_ret
  exact ⟨_, _, rfl, hp⟩
set_option maxRecDepth 100000 in
set_option maxHeartbeats 8000000 in
theorem wflag_any (B : Nat) (v : Value) (m : Nat) (cur : List Value) (is : Bool) (w : World) (hr : Rw B w v m cur) (hB : B ≤ w.heap.size) (hm : m ≤ 900000) :
    Calls Tryz.prog 58 #[v, .bool is] w fun e w' => ∃ v' cur', e = .returned v' ∧ Put B w v m cur w' v' 1 cur' (bv [if is then 1 else 0]) := by
  have HR := hide hr
  clear hr
  cases is with
  | true =>
    go_enter Tryz.func58, Tryz.ntmps58
    go_wp2_with (first
      | (at_builtin; refine wpList_append_rw _ rfl _ _ rfl B _ m cur rfl (HR.out.below ((Below.refl _ _).alloc (Nat.le_refl _) _)) (by simp; omega) _ 1 1 (bv [1]) rfl rfl (by omega) (cells_at _ _ _) (one_bytes _) (by omega) ?_))
    intro w1 v1 cur1 hp1
    have HQ1 := hide (hp1.pre (w := w) hB ((Below.refl _ _).alloc (Nat.le_refl _) _))
    clear hp1
    go_wp2_with fail
    go_ret
    exact ⟨_, rfl, _, HQ1.out⟩
  | false =>
    go_enter Tryz.func58, Tryz.ntmps58
    go_wp2_with (first
      | (at_builtin; refine wpList_append_rw _ rfl _ _ rfl B _ m cur rfl (HR.out.below ((Below.refl _ _).alloc (Nat.le_refl _) _)) (by simp; omega) _ 1 1 (bv [0]) rfl rfl (by omega) (cells_at _ _ _) (one_bytes _) (by omega) ?_))
    intro w1 v1 cur1 hp1
    have HQ1 := hide (hp1.pre (w := w) hB ((Below.refl _ _).alloc (Nat.le_refl _) _))
    clear hp1
    go_wp2_with fail
    go_ret
    exact ⟨_, rfl, _, HQ1.out⟩
end Go.Proofs.YtoioddnlkbjljaaGreatDoor
namespace Go.Proofs.YtoioddnlkbjljaaGreatDoor
open Go.RowKit

theorem intL_max (n : Int) : (intL n).length ≤ maxLen := by have := intL_le n; unfold maxLen; omega
theorem refInt_sl (n : Int) (w : World) (hn : n ≤ 9223372036854775807) : Calls Tryz.prog 66 #[.int .i64 n] w fun e w' => ∃ v, e = .returned v ∧ Sl bc w' v (intL n) ∧ Below w.heap.size w w' := by
  refine (refInt_any n w hn).mono ?_
  rintro e w' ⟨rfl, rfl⟩
  exact ⟨_, rfl, sl_new w _ (intL_max _), (Below.refl _ _).alloc (Nat.le_refl _) _⟩
/-- A flag as a byte. -/
def flB (is : Bool) : Int := if is then 1 else 0
theorem refFlag_sl (is : Bool) (w : World) : Calls Tryz.prog 99 #[.bool is] w fun e w' => ∃ v, e = .returned v ∧ Sl bc w' v [flB is] ∧ Below w.heap.size w w' := by
  refine (refFlag_any is w).mono ?_
  rintro e w' ⟨rfl, rfl⟩
  exact ⟨_, rfl, sl_new w _ (by simp [maxLen]), (Below.refl _ _).alloc (Nat.le_refl _) _⟩
theorem refText_sl (v : Value) (l : List Int) (w : World) (hv : Sl bc w v l) (hl : l.length ≤ 4000) : Calls Tryz.prog 69 #[v] w fun e w' => ∃ v, e = .returned v ∧ Sl bc w' v (intL l.length ++ l) ∧ Below w.heap.size w w' := by
  refine (refText_any v l w hv hl).mono ?_
  rintro e w' ⟨u, rfl, hown, hb⟩
  exact ⟨u, rfl, sl_of_owns (base := w.heap.size) (e := 5) (by simpa [bv_eq] using hown), hb⟩
theorem refRow_sl (v : Value) (l : List Int) (w : World) (hv : Sl ic w v l) (hl : l.length ≤ 4000) (hi64 : ∀ i (h : i < l.length), l[i] ≤ 9223372036854775807) : Calls Tryz.prog 160 #[v] w fun e w' => ∃ v, e = .returned v ∧ Sl bc w' v (intL l.length ++ rowL l) ∧ Below w.heap.size w w' := by
  refine (refRow_any v l w hv hl hi64).mono ?_
  rintro e w' ⟨u, rfl, hown, hb⟩
  exact ⟨u, rfl, sl_of_owns (base := w.heap.size) (e := 5) (by simpa [bv_eq] using hown), hb⟩
end Go.Proofs.YtoioddnlkbjljaaGreatDoor
namespace Go.Proofs.YtoioddnlkbjljaaGreatDoor
open Go.RowKit

/-- Where a reader is: a code (0: nothing is wrong), what was being done, the place. -/
structure Gs where
  c : Int
  op : ByteArray
  pt : Nat
def okS (a : Nat) : Gs := ⟨0, ⟨#[]⟩, a⟩
def mkS (c : Int) (op : ByteArray) (n a : Nat) : Gs := if c = 0 then okS n else ⟨c, op, a⟩
theorem mkS_zero (op : ByteArray) (n a : Nat) : mkS 0 op n a = okS n := if_pos rfl
theorem mkS_c (c : Int) (op : ByteArray) (n a : Nat) : (mkS c op n a).c = c := by
  unfold mkS; split
  · rename_i h; rw [h]; rfl
  · rfl
theorem mkS_can {c : Int} {op : ByteArray} {n a : Nat} (h : (mkS c op n a).c = 0) : mkS c op n a = okS (mkS c op n a).pt ∧ c = 0 := by
  rw [mkS_c] at h
  subst h
  exact ⟨by rw [mkS_zero]; rfl, rfl⟩
/-- A string's bytes as numbers, and back. -/
def sb (S : List UInt8) : List Int := S.map fun x => (x.toNat : Int)
def bs (l : List Int) : List UInt8 := l.map fun x => UInt8.ofNat x.toNat
theorem sb_len (S : List UInt8) : (sb S).length = S.length := by simp [sb]
theorem bs_len (l : List Int) : (bs l).length = l.length := by simp [bs]
theorem bs_sb (S : List UInt8) : bs (sb S) = S := by
  unfold bs sb
  rw [List.map_map]
  refine (List.map_congr_left (g := id) fun x _ => ?_).trans (List.map_id S)
  simp
theorem sb_bs {l : List Int} (h : Byt l) : sb (bs l) = l := by
  unfold bs sb
  rw [List.map_map]
  refine (List.map_congr_left (g := id) fun x hx => ?_).trans (List.map_id l)
  have := h x hx
  show ((UInt8.ofNat x.toNat).toNat : Int) = x
  rw [UInt8.toNat_ofNat']
  omega
theorem sb_byt (S : List UInt8) : Byt (sb S) := by
  intro x hx
  obtain ⟨y, _, rfl⟩ := List.mem_map.1 hx
  have := y.toNat_lt
  omega
/-- What is read next: a number up to m, a flag, a text, a row. -/
def gN (m : Int) (l : List Int) (s : Gs) : Gs × Int :=
  if s.c = 0 then (mkS (numS (l.drop s.pt) m).1 ⟨#[110, 117, 109]⟩ (s.pt + (numS (l.drop s.pt) m).2.1) s.pt, (numS (l.drop s.pt) m).2.2) else (s, 0)
def gF (l : List Int) (s : Gs) : Gs × Bool :=
  if s.c = 0 then (mkS (flagS (l.drop s.pt)).1 ⟨#[102, 108, 97, 103]⟩ (s.pt + (flagS (l.drop s.pt)).2.1) s.pt, (flagS (l.drop s.pt)).2.2) else (s, false)
def gT (l : List Int) (s : Gs) : Gs × List UInt8 :=
  if s.c = 0 then (mkS (textS l s.pt 256).1 (textS l s.pt 256).2.1 (textS l s.pt 256).2.2.1 s.pt, bs (textS l s.pt 256).2.2.2) else (s, [])
def gR (l : List Int) (s : Gs) : Gs × List Int :=
  if s.c = 0 then (mkS (rowS l s.pt 7 64).1 ⟨#[110, 117, 109]⟩ (rowS l s.pt 7 64).2.1 (rowS l s.pt 7 64).2.1, rowR (rowS l s.pt 7 64)) else (s, [])
/-- What a thing that is read next keeps. -/
structure Fld {α : Type} (z : α) (g : List Int → Gs → Gs × α) (en : α → List Int) (ok : α → Prop) : Prop where
  stay : ∀ l s, s.c ≠ 0 → g l s = (s, z)
  can : ∀ l a, (g l (okS a)).1.c = 0 → (g l (okS a)).1 = okS (g l (okS a)).1.pt
  back : ∀ P x Q, ok x → g (P ++ (en x ++ Q)) (okS P.length) = (okS (P.length + (en x).length), x)
  once : ∀ l a b x, Byt l → a ≤ l.length → g l (okS a) = (okS b, x) → ok x ∧ a ≤ b ∧ b ≤ l.length ∧ l.drop a = en x ++ l.drop b
  cut : ∀ l a n b x, g l (okS a) = (okS b, x) → a ≤ n → (b ≤ n ∧ g (l.take n) (okS a) = (okS b, x)) ∨ (n < b ∧ (g (l.take n) (okS a)).1.c = 3)
theorem okS_inj {a b : Nat} (h : okS a = okS b) : a = b := congrArg Gs.pt h
theorem numS_take {r : List Int} {most : Int} {k : Nat} {n : Int} (h : numS r most = (0, k, n)) (m : Nat) : numS (r.take m) most = if k ≤ m then (0, k, n) else (3, 0, 0) := by
  rcases r with _ | ⟨x0, r⟩
  · simp [numS] at h
  rcases m with _ | m
  · have hk : ¬ k ≤ 0 := by
      unfold numS at h
      simp only at h
      split at h
      · obtain ⟨rfl, _⟩ := fin_inv h; omega
      · split at h
        · split at h
          · obtain ⟨rfl, _⟩ := fin_inv h; omega
          · simp at h
        · split at h
          · split at h
            · obtain ⟨rfl, _⟩ := fin_inv h; omega
            · simp at h
          · split at h
            · obtain ⟨rfl, _⟩ := fin_inv h; omega
            · simp at h
    rw [if_neg hk]
    rfl
  unfold numS at h
  simp only at h
  rw [List.take_succ_cons]
  unfold numS
  simp only
  split at h
  · rename_i h0
    rw [if_pos h0, h]
    obtain ⟨rfl, _⟩ := fin_inv h
    rw [if_pos (by omega)]
  · rename_i h0
    rw [if_neg h0]
    split at h
    · rename_i h1
      rw [if_pos h1]
      split at h
      · obtain ⟨rfl, _⟩ := fin_inv h
        rcases m with _ | m
        · rfl
        · rw [List.take_succ_cons, if_pos (by omega)]; exact h
      · simp at h
    · rename_i h1
      rw [if_neg h1]
      split at h
      · rename_i h2
        rw [if_pos h2]
        split at h
        · obtain ⟨rfl, _⟩ := fin_inv h
          rcases m with _ | _ | _ | m
          · rfl
          · rfl
          · rfl
          · simp only [List.take_succ_cons]
            rw [if_pos (by omega)]; exact h
        · simp at h
      · rename_i h2
        rw [if_neg h2]
        split at h
        · obtain ⟨rfl, _⟩ := fin_inv h
          rcases m with _ | _ | _ | _ | _ | _ | _ | m
          · rfl
          · rfl
          · rfl
          · rfl
          · rfl
          · rfl
          · rfl
          · simp only [List.take_succ_cons]
            rw [if_pos (by omega)]; exact h
        · simp at h
theorem numS_cut {l : List Int} {most : Int} {a k : Nat} {x : Int} (h : numS (l.drop a) most = (0, k, x)) (n : Nat) (ha : a ≤ n) : numS ((l.take n).drop a) most = if a + k ≤ n then (0, k, x) else (3, 0, 0) := by
  rw [List.drop_take, numS_take h]
  by_cases hk : k ≤ n - a
  · rw [if_pos hk, if_pos (by omega)]
  · rw [if_neg hk, if_neg (by omega)]
theorem drop_once {l : List Int} {a k : Nat} {e : List Int} (h : (l.drop a).take k = e) : l.drop a = e ++ l.drop (a + k) := by
  have := (List.take_append_drop k (l.drop a)).symm
  rw [h, List.drop_drop] at this
  exact this
theorem fldN (m : Int) (hm : m ≤ 1073741824) : Fld (0 : Int) (gN m) intL (fun x => 0 ≤ x ∧ x ≤ m) where
  stay l s h := if_neg h
  can l a h := by
    simp only [gN, okS, if_true] at h ⊢
    exact (mkS_can h).1
  back P x Q h := by
    simp only [gN, okS, if_true]
    rw [numS_back P Q h.1 (by omega) h.2]
    simp only [mkS_zero, okS]
  once l a b x hb ha h := by
    simp only [gN, okS, if_true] at h
    obtain ⟨h1, h2⟩ := Prod.mk.inj h
    have hc : (mkS (numS (l.drop a) m).1 ⟨#[110, 117, 109]⟩ (a + (numS (l.drop a) m).2.1) a).c = 0 := by rw [h1]
    rcases hq : numS (l.drop a) m with ⟨c, k, n⟩
    rw [hq] at h1 h2 hc
    obtain rfl : c = 0 := (mkS_can hc).2
    obtain ⟨e1, e2, e3, e4, e5, e6⟩ := numS_once (fun x hx => hb x (List.mem_of_mem_drop hx)) hq
    simp only at h2
    subst h2
    simp only [mkS_zero] at h1
    obtain rfl : a + k = b := okS_inj h1
    rw [List.length_drop] at e6
    refine ⟨⟨e3, e5⟩, by omega, by omega, ?_⟩
    rw [intL_num e3 e4]
    exact drop_once e1
  cut l a n b x h ha := by
    simp only [gN, okS, if_true] at h ⊢
    obtain ⟨h1, h2⟩ := Prod.mk.inj h
    have hc : (mkS (numS (l.drop a) m).1 ⟨#[110, 117, 109]⟩ (a + (numS (l.drop a) m).2.1) a).c = 0 := by rw [h1]
    rcases hq : numS (l.drop a) m with ⟨c, k, n'⟩
    rw [hq] at h1 h2 hc
    obtain rfl : c = 0 := (mkS_can hc).2
    simp only [mkS_zero] at h1
    obtain rfl : a + k = b := okS_inj h1
    simp only at h2
    subst h2
    rw [numS_cut hq n ha]
    by_cases hk : a + k ≤ n
    · rw [if_pos hk]
      exact .inl ⟨hk, by simp only [mkS_zero, okS]⟩
    · rw [if_neg hk]
      exact .inr ⟨by omega, mkS_c _ _ _ _⟩
theorem fldF : Fld false gF (fun f => [flB f]) (fun _ => True) where
  stay l s h := if_neg h
  can l a h := by
    simp only [gF, okS, if_true] at h ⊢
    exact (mkS_can h).1
  back P x Q h := by
    simp only [gF, okS, if_true]
    rw [List.drop_left]
    cases x <;> simp [flagS, flB, mkS, okS]
  once l a b x hb ha h := by
    simp only [gF, okS, if_true] at h
    obtain ⟨h1, h2⟩ := Prod.mk.inj h
    have hc : (mkS (flagS (l.drop a)).1 ⟨#[102, 108, 97, 103]⟩ (a + (flagS (l.drop a)).2.1) a).c = 0 := by rw [h1]
    have hbd : Byt (l.drop a) := fun x hx => hb x (List.mem_of_mem_drop hx)
    have hlen : (l.drop a).length = l.length - a := List.length_drop
    have hd1 : l.drop (a + 1) = (l.drop a).drop 1 := by rw [List.drop_drop]
    rcases hq : l.drop a with _ | ⟨y, r⟩
    · rw [hq] at hc; simp [flagS, mkS] at hc
    · rw [hq] at h1 h2 hc hbd hlen hd1
      simp only [flagS] at h1 h2 hc
      by_cases h3 : 1 < y
      · simp only [if_pos h3, mkS_c] at hc; omega
      · simp only [if_neg h3, mkS_zero] at h1 h2
        obtain rfl : a + 1 = b := okS_inj h1
        have := hbd y (by simp)
        refine ⟨trivial, by omega, by simp at hlen; omega, ?_⟩
        rw [hd1]
        simp only [List.drop_succ_cons, List.drop_zero, List.cons_append, List.nil_append]
        congr 1
        rw [← h2]
        by_cases h4 : y = 1
        · simp [h4, flB]
        · simp [h4, flB]; omega
  cut l a n b x h ha := by
    simp only [gF, okS, if_true] at h ⊢
    obtain ⟨h1, h2⟩ := Prod.mk.inj h
    have hc : (mkS (flagS (l.drop a)).1 ⟨#[102, 108, 97, 103]⟩ (a + (flagS (l.drop a)).2.1) a).c = 0 := by rw [h1]
    rw [List.drop_take]
    rcases hq : l.drop a with _ | ⟨y, r⟩
    · rw [hq] at hc; simp [flagS, mkS] at hc
    · rw [hq] at h1 h2 hc
      simp only [flagS] at h1 h2 hc
      by_cases h3 : 1 < y
      · simp only [if_pos h3, mkS_c] at hc; omega
      · simp only [if_neg h3, mkS_zero] at h1 h2
        obtain rfl : a + 1 = b := okS_inj h1
        by_cases hk : a + 1 ≤ n
        · obtain ⟨d, hd⟩ : ∃ d, n - a = d + 1 := ⟨n - a - 1, by omega⟩
          rw [hd, List.take_succ_cons]
          simp only [flagS, if_neg h3, mkS_zero]
          exact .inl ⟨hk, by rw [h2]; rfl⟩
        · obtain hd : n - a = 0 := by omega
          rw [hd]
          exact .inr ⟨by omega, mkS_c _ _ _ _⟩
def enT (S : List UInt8) : List Int := intL S.length ++ sb S
def enR (r : List Int) : List Int := intL r.length ++ rowL r
theorem textS_can {l : List Int} {a : Nat} (h : (textS l a 256).1 = 0) : ∃ k N, numS (l.drop a) 256 = (0, k, N) ∧ ¬ ((l.length - (a + k) : Nat) : Int) < N ∧ textS l a 256 = (0, ⟨#[110, 117, 109]⟩, a + k + N.toNat, (l.drop (a + k)).take N.toNat) := by
  unfold textS at h ⊢
  rw [show abv' 256 = 256 from rfl] at h ⊢
  rcases hq : numS (l.drop a) 256 with ⟨c, k, N⟩
  rw [hq] at h
  simp only at h ⊢
  by_cases hc : c = 0
  · subst hc
    simp only [if_true] at h ⊢
    by_cases hs : ((l.length - (a + k) : Nat) : Int) < N
    · rw [if_pos hs] at h; simp at h
    · exact ⟨k, N, rfl, hs, by rw [if_neg hs]⟩
  · rw [if_neg hc] at h; exact absurd h hc
theorem fldT : Fld ([] : List UInt8) gT enT (fun S => S.length ≤ 256) where
  stay l s h := if_neg h
  can l a h := by
    simp only [gT, okS, if_true] at h ⊢
    exact (mkS_can h).1
  back P S Q h := by
    simp only [gT, okS, if_true]
    unfold enT
    rw [← sb_len]
    rw [textS_back P (sb S) Q (by rw [sb_len]; omega) (by rw [sb_len]; omega)]
    simp only [mkS_zero, okS, bs_sb, List.length_append]
  once l a b x hb ha h := by
    simp only [gT, okS, if_true] at h
    obtain ⟨h1, h2⟩ := Prod.mk.inj h
    have hc : (mkS (textS l a 256).1 (textS l a 256).2.1 (textS l a 256).2.2.1 a).c = 0 := by rw [h1]
    obtain ⟨k, N, hq, hs, ht⟩ := textS_can (mkS_can hc).2
    rw [ht] at h1 h2
    simp only [mkS_zero] at h1 h2
    have hbd : Byt (l.drop a) := fun x hx => hb x (List.mem_of_mem_drop hx)
    obtain ⟨e1, e2, e3, e4, e5, e6⟩ := numS_once hbd hq
    rw [List.length_drop] at e6
    obtain rfl : a + k + N.toNat = b := okS_inj h1
    have hby2 : Byt ((l.drop (a + k)).take N.toNat) := fun x hx => hb x (List.mem_of_mem_drop (List.mem_of_mem_take hx))
    have hlen : x.length = N.toNat := by rw [← h2, bs_len, List.length_take, List.length_drop]; omega
    refine ⟨by rw [hlen]; omega, by omega, by omega, ?_⟩
    unfold enT
    rw [hlen, show ((N.toNat : Nat) : Int) = N by omega, intL_num e3 e4, ← h2, sb_bs hby2, List.append_assoc, drop_once e1]
    congr 1
    exact drop_once rfl
  cut l a n b x h ha := by
    simp only [gT, okS, if_true] at h ⊢
    obtain ⟨h1, h2⟩ := Prod.mk.inj h
    have hc : (mkS (textS l a 256).1 (textS l a 256).2.1 (textS l a 256).2.2.1 a).c = 0 := by rw [h1]
    obtain ⟨k, N, hq, hs, ht⟩ := textS_can (mkS_can hc).2
    rw [ht] at h1 h2
    simp only [mkS_zero] at h1 h2
    obtain rfl : a + k + N.toNat = b := okS_inj h1
    have hq2 := numS_cut hq n ha
    unfold textS
    rw [show abv' 256 = 256 from rfl, hq2]
    by_cases hk : a + k ≤ n
    · rw [if_pos hk]
      simp only [if_true]
      by_cases hn : a + k + N.toNat ≤ n
      · rw [if_neg (by rw [List.length_take]; omega)]
        refine .inl ⟨hn, ?_⟩
        simp only [mkS_zero]
        rw [List.drop_take, List.take_take, show min N.toNat (n - (a + k)) = N.toNat by omega, h2]
        rfl
      · rw [if_pos (by rw [List.length_take]; omega)]
        exact .inr ⟨by omega, mkS_c _ _ _ _⟩
    · rw [if_neg hk]
      exact .inr ⟨by omega, mkS_c _ _ _ _⟩
theorem rowI_zero {l : List Int} {m : Int} {a : Nat} {j i : Nat} (h : (rowI l m a j).1 = 0) (hi : i ≤ j) : (rowI l m a i).1 = 0 := by
  by_cases q : (rowI l m a i).1 = 0
  · exact q
  · have := rowI_stays q (j - i)
    rw [show i + (j - i) = j by omega] at this
    rw [this] at h
    exact h
theorem rowI_step {l : List Int} {m : Int} {a : Nat} {j : Nat} (h : (rowI l m a (j + 1)).1 = 0) : ∃ k x, numS (l.drop (rowI l m a j).2.1) m = (0, k, x) ∧ rowI l m a (j + 1) = (0, (rowI l m a j).2.1 + k, (rowI l m a j).2.2 ++ [x]) := by
  have h0 := rowI_zero h (Nat.le_succ j)
  rcases hq : numS (l.drop (rowI l m a j).2.1) m with ⟨c, k, x⟩
  by_cases hc : c = 0
  · subst hc
    exact ⟨k, x, rfl, rowI_ok h0 hq⟩
  · rw [rowI_bad h0 hq hc] at h
    exact absurd h hc
theorem rowI_once {l : List Int} {m : Int} {a : Nat} (hb : Byt l) (ha : a ≤ l.length) : ∀ j, (rowI l m a j).1 = 0 → (rowI l m a j).2.2.length = j ∧ (∀ x ∈ (rowI l m a j).2.2, 0 ≤ x ∧ x ≤ m) ∧ a ≤ (rowI l m a j).2.1 ∧ (rowI l m a j).2.1 ≤ l.length ∧ l.drop a = rowL (rowI l m a j).2.2 ++ l.drop (rowI l m a j).2.1
  | 0, _ => ⟨rfl, fun x hx => by simp [rowI] at hx, Nat.le_refl _, ha, by simp [rowI, rowL]⟩
  | j + 1, h => by
    obtain ⟨k, x, hq, he⟩ := rowI_step h
    obtain ⟨i1, i2, i3, i4, i5⟩ := rowI_once hb ha j (rowI_zero h (Nat.le_succ j))
    obtain ⟨e1, e2, e3, e4, e5, e6⟩ := numS_once (fun x hx => hb x (List.mem_of_mem_drop hx)) hq
    rw [List.length_drop] at e6
    rw [he]
    refine ⟨by simp [i1], fun y hy => ?_, by show a ≤ _ + k; omega, by show _ + k ≤ _; omega, ?_⟩
    · rcases List.mem_append.1 hy with q | q
      · exact i2 y q
      · simp at q; subst q; exact ⟨e3, e5⟩
    · rw [i5, drop_once e1]
      simp only [rowL, List.flatMap_append, List.flatMap_cons, List.flatMap_nil, List.append_nil, List.append_assoc]
      rw [intL_num e3 e4]
theorem rowI_cut {l : List Int} {m : Int} {a n : Nat} (ha : a ≤ n) : ∀ j, (rowI l m a j).1 = 0 → ((rowI l m a j).2.1 ≤ n ∧ rowI (l.take n) m a j = rowI l m a j) ∨ (n < (rowI l m a j).2.1 ∧ (rowI (l.take n) m a j).1 = 3)
  | 0, _ => .inl ⟨ha, rfl⟩
  | j + 1, h => by
    obtain ⟨k, x, hq, he⟩ := rowI_step h
    rcases rowI_cut ha j (rowI_zero h (Nat.le_succ j)) with ⟨h1, h2⟩ | ⟨h1, h2⟩
    · have hc := numS_cut hq n h1
      by_cases hk : (rowI l m a j).2.1 + k ≤ n
      · rw [if_pos hk] at hc
        refine .inl ⟨by rw [he]; exact hk, ?_⟩
        rw [he, rowI_ok (k := k) (x := x) (by rw [h2]; exact rowI_zero h (Nat.le_succ j)) (by rw [h2]; exact hc), h2]
      · rw [if_neg hk] at hc
        refine .inr ⟨by rw [he]; show n < _ + k; omega, ?_⟩
        rw [rowI_bad (c := 3) (k := 0) (x := 0) (by rw [h2]; exact rowI_zero h (Nat.le_succ j)) (by rw [h2]; exact hc) (by decide)]
    · refine .inr ⟨by rw [he]; show n < _ + k; omega, ?_⟩
      have := rowI_stays (l := l.take n) (most := m) (a := a) (j := j) (by rw [h2]; decide) 1
      rw [this]
      exact h2
theorem rowS_can {l : List Int} {a : Nat} (h : (rowS l a 7 64).1 = 0) : ∃ k N, numS (l.drop a) 7 = (0, k, N) ∧ rowS l a 7 64 = rowI l 64 (a + k) N.toNat := by
  unfold rowS at h ⊢
  rw [show abv' 7 = 7 from rfl, show abv' 64 = 64 from rfl] at h ⊢
  rcases hq : numS (l.drop a) 7 with ⟨c, k, N⟩
  rw [hq] at h
  simp only at h ⊢
  by_cases hc : c = 0
  · subst hc
    exact ⟨k, N, rfl, rfl⟩
  · rw [if_neg hc] at h; exact absurd h hc
theorem rowS_mid (P l Q : List Int) {m m2 : Int} (hl : l.length ≤ 4000) (hm : (l.length : Int) ≤ m) (hm2 : 0 ≤ m2) (h : ∀ i (hi : i < l.length), 0 ≤ l[i] ∧ l[i] ≤ 4611686018427387903 ∧ l[i] ≤ m2) :
    rowS (P ++ ((intL l.length ++ rowL l) ++ Q)) P.length m m2 = (0, (P ++ (intL l.length ++ rowL l)).length, l) := by
  unfold rowS
  rw [abv_pos (by omega), abv_pos hm2, List.append_assoc (intL _), numS_back P (rowL l ++ Q) (by omega) (by omega) hm]
  simp only [if_true, Int.toNat_natCast]
  have := rowI_back (P ++ intL l.length) l Q h l.length (Nat.le_refl _)
  rw [List.take_length, List.append_assoc, List.length_append] at this
  rw [this, List.append_assoc]
theorem fldR : Fld ([] : List Int) gR enR (fun r => r.length ≤ 7 ∧ ∀ x ∈ r, 0 ≤ x ∧ x ≤ 64) where
  stay l s h := if_neg h
  can l a h := by
    simp only [gR, okS, if_true] at h ⊢
    exact (mkS_can h).1
  back P r Q h := by
    simp only [gR, okS, if_true]
    unfold enR
    rw [rowS_mid P r Q (by omega) (by omega) (by omega) (fun i hi => by have := h.2 r[i] (List.getElem_mem hi); omega)]
    simp only [mkS_zero, okS, rowR, if_true, List.length_append]
  once l a b x hb ha h := by
    simp only [gR, okS, if_true] at h
    obtain ⟨h1, h2⟩ := Prod.mk.inj h
    have hc : (mkS (rowS l a 7 64).1 ⟨#[110, 117, 109]⟩ (rowS l a 7 64).2.1 (rowS l a 7 64).2.1).c = 0 := by rw [h1]
    have hz := (mkS_can hc).2
    obtain ⟨k, N, hq, ht⟩ := rowS_can hz
    obtain ⟨e1, e2, e3, e4, e5, e6⟩ := numS_once (fun x hx => hb x (List.mem_of_mem_drop hx)) hq
    rw [List.length_drop] at e6
    rw [rowR, if_pos hz] at h2
    rw [hz, mkS_zero] at h1
    rw [ht] at h1 h2 hz
    obtain ⟨i1, i2, i3, i4, i5⟩ := rowI_once (m := 64) hb (show a + k ≤ l.length by omega) N.toNat hz
    rw [h2] at i1 i2 i5
    obtain rfl := okS_inj h1
    refine ⟨⟨by omega, i2⟩, by omega, by omega, ?_⟩
    unfold enR
    rw [i1, show ((N.toNat : Nat) : Int) = N by omega, intL_num e3 e4, drop_once e1, List.append_assoc, ← i5]
  cut l a n b x h ha := by
    simp only [gR, okS, if_true] at h ⊢
    obtain ⟨h1, h2⟩ := Prod.mk.inj h
    have hc : (mkS (rowS l a 7 64).1 ⟨#[110, 117, 109]⟩ (rowS l a 7 64).2.1 (rowS l a 7 64).2.1).c = 0 := by rw [h1]
    have hz := (mkS_can hc).2
    obtain ⟨k, N, hq, ht⟩ := rowS_can hz
    rw [rowR, if_pos hz] at h2
    rw [hz, mkS_zero] at h1
    rw [ht] at h1 h2 hz
    obtain rfl := okS_inj h1
    have hq2 := numS_cut hq n ha
    have hu : rowS (l.take n) a 7 64 = if a + k ≤ n then rowI (l.take n) 64 (a + k) N.toNat else (3, a, []) := by
      unfold rowS
      rw [show abv' 7 = 7 from rfl, show abv' 64 = 64 from rfl, hq2]
      by_cases hk : a + k ≤ n
      · simp only [if_pos hk, if_true]
      · simp only [if_neg hk]; rfl
    have hge : ∀ j, a + k ≤ (rowI l 64 (a + k) j).2.1 := by
      intro j
      induction j with
      | zero => exact Nat.le_refl _
      | succ j ih =>
        by_cases q : (rowI l 64 (a + k) j).1 = 0
        · rcases hq : numS (l.drop (rowI l 64 (a + k) j).2.1) 64 with ⟨c, k', x'⟩
          by_cases hc : c = 0
          · subst hc
            rw [rowI_ok q hq]
            show a + k ≤ _ + k'
            omega
          · rw [rowI_bad q hq hc]
            exact ih
        · rw [rowI_stays q 1]
          exact ih
    rw [hu]
    by_cases hk : a + k ≤ n
    · rw [if_pos hk]
      rcases rowI_cut (l := l) (m := 64) hk N.toNat hz with ⟨g1, g2⟩ | ⟨g1, g2⟩
      · rw [g2, hz, mkS_zero]
        refine .inl ⟨g1, ?_⟩
        rw [rowR, if_pos hz, h2]
        rfl
      · refine .inr ⟨g1, ?_⟩
        rw [g2]
        exact mkS_c _ _ _ _
    · rw [if_neg hk]
      refine .inr ⟨by have := hge N.toNat; omega, mkS_c _ _ _ _⟩
/-- Things that are read one behind the other, those that are asked for. -/
def fL {α : Type} (z : α) (g : Gs → Gs × α) : List Bool → Gs → Gs × List α
  | [], s => (s, [])
  | h :: hs, s => let q := if h then g s else (s, z); let r := fL z g hs q.1; (r.1, q.2 :: r.2)
def encs {α : Type} (en : α → List Int) : List Bool → List α → List Int
  | h :: hs, x :: xs => (if h then en x else []) ++ encs en hs xs
  | _, _ => []
def Ok2 {α : Type} (z : α) (ok : α → Prop) : List Bool → List α → Prop
  | [], [] => True
  | h :: hs, x :: xs => (if h then ok x else x = z) ∧ Ok2 z ok hs xs
  | _, _ => False
theorem fL_snoc {α : Type} (z : α) (g : Gs → Gs × α) (h : Bool) : ∀ (hs : List Bool) (s : Gs), fL z g (hs ++ [h]) s = ((if h then g (fL z g hs s).1 else ((fL z g hs s).1, z)).1, (fL z g hs s).2 ++ [(if h then g (fL z g hs s).1 else ((fL z g hs s).1, z)).2])
  | [], s => rfl
  | k :: hs, s => by
    have e := fL_snoc z g h hs (if k then g s else (s, z)).1
    simp only [List.cons_append, fL]
    rw [e]
theorem fL_len {α : Type} (z : α) (g : Gs → Gs × α) : ∀ (hs : List Bool) (s : Gs), (fL z g hs s).2.length = hs.length
  | [], _ => rfl
  | k :: hs, s => by
    show (_ :: _).length = _
    rw [List.length_cons, fL_len z g hs]
    rfl
theorem encs_snoc {α : Type} (en : α → List Int) (h : Bool) (x : α) : ∀ (hs : List Bool) (xs : List α), hs.length = xs.length → encs en (hs ++ [h]) (xs ++ [x]) = encs en hs xs ++ (if h then en x else [])
  | [], [], _ => by simp [encs]
  | [], y :: xs, e => by simp at e
  | k :: hs, [], e => by simp at e
  | k :: hs, y :: xs, e => by
    show _ ++ encs en (hs ++ [h]) (xs ++ [x]) = (_ ++ encs en hs xs) ++ _
    rw [encs_snoc en h x hs xs (by simpa using e), List.append_assoc]
section
variable {α : Type} {z : α} {g : List Int → Gs → Gs × α} {en : α → List Int} {ok : α → Prop}
theorem fL_stay (F : Fld z g en ok) (l : List Int) : ∀ (hs : List Bool) (s : Gs), s.c ≠ 0 → (fL z (g l) hs s).1 = s
  | [], s, _ => rfl
  | h :: hs, s, hc => by
    show (fL z (g l) hs (if h then g l s else (s, z)).1).1 = s
    rw [show (if h then g l s else (s, z)) = (s, z) by cases h <;> simp [F.stay l s hc]]
    exact fL_stay F l hs s hc
theorem fL_can (F : Fld z g en ok) (l : List Int) : ∀ (hs : List Bool) (a : Nat), (fL z (g l) hs (okS a)).1.c = 0 → (fL z (g l) hs (okS a)).1 = okS (fL z (g l) hs (okS a)).1.pt
  | [], a, _ => rfl
  | h :: hs, a, hc => by
    have e : (fL z (g l) (h :: hs) (okS a)).1 = (fL z (g l) hs (if h then g l (okS a) else (okS a, z)).1).1 := rfl
    rw [e] at hc ⊢
    by_cases hz : (if h then g l (okS a) else (okS a, z)).1.c = 0
    · have hk : (if h then g l (okS a) else (okS a, z)).1 = okS (if h then g l (okS a) else (okS a, z)).1.pt := by
        cases h
        · rfl
        · exact F.can l a hz
      rw [hk] at hc ⊢
      exact fL_can F l hs _ hc
    · rw [fL_stay F l hs _ hz] at hc
      exact absurd hc hz
theorem fL_back {α : Type} {z : α} {g : List Int → Gs → Gs × α} {en : α → List Int} {ok : α → Prop} (F : Fld z g en ok) : ∀ (hs : List Bool) (xs : List α) (P Q : List Int), Ok2 z ok hs xs → fL z (g (P ++ (encs en hs xs ++ Q))) hs (okS P.length) = (okS (P.length + (encs en hs xs).length), xs)
  | [], [], P, Q, _ => by simp [fL, encs]
  | [], y :: xs, P, Q, e => by simp [Ok2] at e
  | h :: hs, [], P, Q, e => by simp [Ok2] at e
  | h :: hs, x :: xs, P, Q, e => by
    obtain ⟨e1, e2⟩ := e
    cases h with
    | false =>
      simp only [Bool.false_eq_true, if_false] at e1
      subst e1
      have := fL_back F hs xs P Q e2
      simp only [fL, encs, Bool.false_eq_true, if_false, List.nil_append]
      rw [this]
    | true =>
      simp only [if_true] at e1
      have h1 := F.back P x (encs en hs xs ++ Q) e1
      have h2 := fL_back F hs xs (P ++ en x) Q e2
      rw [List.length_append, List.append_assoc] at h2
      simp only [fL, encs, if_true, List.append_assoc]
      rw [h1]
      simp only
      rw [h2]
      simp only [List.length_append, Nat.add_assoc]
theorem fL_once (F : Fld z g en ok) (l : List Int) (hb : Byt l) : ∀ (hs : List Bool) (a b : Nat) (xs : List α), a ≤ l.length → fL z (g l) hs (okS a) = (okS b, xs) → Ok2 z ok hs xs ∧ a ≤ b ∧ b ≤ l.length ∧ l.drop a = encs en hs xs ++ l.drop b
  | [], a, b, xs, ha, h => by
    obtain ⟨h1, h2⟩ := Prod.mk.inj h
    obtain rfl := okS_inj h1
    subst h2
    exact ⟨trivial, Nat.le_refl _, ha, by simp [encs]⟩
  | false :: hs, a, b, xs, ha, h => by
    obtain ⟨h1, h2⟩ := Prod.mk.inj h
    simp only [Bool.false_eq_true, if_false] at h1 h2
    subst h2
    obtain ⟨i1, i2, i3, i4⟩ := fL_once F l hb hs a b _ ha (Prod.ext h1 rfl)
    exact ⟨⟨rfl, i1⟩, i2, i3, by simpa [encs] using i4⟩
  | true :: hs, a, b, xs, ha, h => by
    obtain ⟨h1, h2⟩ := Prod.mk.inj h
    simp only [if_true] at h1 h2
    subst h2
    by_cases hz : (g l (okS a)).1.c = 0
    · have hk := F.can l a hz
      obtain ⟨e1, e2, e3, e4⟩ := F.once l a (g l (okS a)).1.pt (g l (okS a)).2 hb ha (Prod.ext hk rfl)
      rw [hk] at h1
      obtain ⟨i1, i2, i3, i4⟩ := fL_once F l hb hs _ b _ e3 (Prod.ext h1 rfl)
      rw [hk]
      refine ⟨⟨e1, i1⟩, by omega, i3, ?_⟩
      rw [e4, i4]
      simp [encs]
    · rw [fL_stay F l hs _ hz] at h1
      rw [h1] at hz
      exact absurd rfl hz
end
/-- A record. -/
structure Rc where
  k : Int
  br : Int
  ep : Int
  tp : Int
  pa : Int
  le : Int
  cl : Int
  se : Int
  co : Int
  fl : Bool
  nm : List UInt8
  ky : List UInt8
  va : List UInt8
  rk : List UInt8
  ids : List Int
  isr : List Int
  ad : List Int
  dr : List Int
def Rc.zero : Rc := ⟨0, 0, 0, 0, 0, 0, 0, 0, 0, false, [], [], [], [], [], [], [], []⟩
def Rc.ns (r : Rc) : List Int := [r.br, r.ep, r.tp, r.pa, r.le, r.cl, r.se, r.co]
def Rc.ts (r : Rc) : List (List UInt8) := [r.nm, r.ky, r.va, r.rk]
def Rc.rs (r : Rc) : List (List Int) := [r.ids, r.isr, r.ad, r.dr]
def mkR (k : Int) (n : List Int) (f : List Bool) (t : List (List UInt8)) (r : List (List Int)) : Rc :=
  ⟨k, n.getD 0 0, n.getD 1 0, n.getD 2 0, n.getD 3 0, n.getD 4 0, n.getD 5 0, n.getD 6 0, n.getD 7 0, f.getD 0 false, t.getD 0 [], t.getD 1 [], t.getD 2 [], t.getD 3 [], r.getD 0 [], r.getD 1 [], r.getD 2 [], r.getD 3 []⟩
def hN (k : Int) : List Bool := [hasL k 98, hasL k 101, hasL k 116, hasL k 112, hasL k 108, hasL k 97, hasL k 97, hasL k 97]
def hF (k : Int) : List Bool := [hasL k 102]
def hT (k : Int) : List Bool := [hasL k 110, hasL k 107, hasL k 118, hasL k 114]
def hR (k : Int) : List Bool := [hasL k 105, hasL k 109, hasL k 120, hasL k 120]
def chk (r : Rc) : ByteArray × Int × Int := checkR r.k r.br r.ep r.tp r.pa r.le r.cl r.se r.co r.fl r.nm r.ky r.va r.rk r.ids r.isr r.ad r.dr
/-- A record's bytes behind its kind, and all of them. -/
def tailL (r : Rc) : List Int := encs intL (hN r.k) r.ns ++ (encs (fun f => [flB f]) (hF r.k) [r.fl] ++ (encs enT (hT r.k) r.ts ++ encs enR (hR r.k) r.rs))
def putL (r : Rc) : List Int := r.k :: tailL r
/-- What is read of a record behind its kind. -/
def bodyG (l : List Int) (k : Int) (s : Gs) : Gs × Rc :=
  let n := fL 0 (gN 1073741824 l) (hN k) s
  let f := fL false (gF l) (hF k) n.1
  let t := fL [] (gT l) (hT k) f.1
  let r := fL [] (gR l) (hR k) t.1
  (r.1, mkR k n.2 f.2 t.2 r.2)
def readG (l : List Int) (s : Gs) : Gs × Rc :=
  let q := gN 63 l s
  if 1 ≤ q.2 ∧ q.2 ≤ 12 then
    let b := bodyG l q.2 q.1
    if b.1.c = 0 then (if (chk b.2).2.2 = 0 then b else (⟨(chk b.2).2.2, ⟨#[114, 101, 99, 111, 114, 100]⟩, b.1.pt⟩, Rc.zero)) else (b.1, Rc.zero)
  else (if q.1.c = 0 then ⟨5, ⟨#[107, 105, 110, 100]⟩, q.1.pt⟩ else q.1, Rc.zero)
def RcOk (r : Rc) : Prop := Ok2 0 (fun x => 0 ≤ x ∧ x ≤ 1073741824) (hN r.k) r.ns ∧ Ok2 false (fun _ => True) (hF r.k) [r.fl] ∧ Ok2 [] (fun S => S.length ≤ 256) (hT r.k) r.ts ∧ Ok2 [] (fun r => r.length ≤ 7 ∧ ∀ x ∈ r, 0 ≤ x ∧ x ≤ 64) (hR r.k) r.rs
theorem F30 : Fld (0 : Int) (gN 1073741824) intL (fun x => 0 ≤ x ∧ x ≤ 1073741824) := fldN _ (by decide)
theorem body_back (r : Rc) (h : RcOk r) (P Q : List Int) : bodyG (P ++ (tailL r ++ Q)) r.k (okS P.length) = (okS (P.length + (tailL r).length), r) := by
  obtain ⟨h1, h2, h3, h4⟩ := h
  unfold bodyG tailL
  simp only
  generalize hA : encs intL (hN r.k) r.ns = A
  generalize hB : encs (fun f => [flB f]) (hF r.k) [r.fl] = B
  generalize hC : encs enT (hT r.k) r.ts = C
  generalize hD : encs enR (hR r.k) r.rs = D
  have e1 := fL_back F30 (hN r.k) r.ns P (B ++ (C ++ (D ++ Q))) h1
  have e2 := fL_back fldF (hF r.k) [r.fl] (P ++ A) (C ++ (D ++ Q)) h2
  have e3 := fL_back fldT (hT r.k) r.ts (P ++ (A ++ B)) (D ++ Q) h3
  have e4 := fL_back fldR (hR r.k) r.rs (P ++ (A ++ (B ++ C))) Q h4
  rw [hA] at e1
  rw [hB] at e2
  rw [hC] at e3
  rw [hD] at e4
  simp only [List.append_assoc, List.length_append, Nat.add_assoc] at e1 e2 e3 e4 ⊢
  rw [e1]
  simp only
  rw [e2]
  simp only
  rw [e3]
  simp only
  rw [e4]
  rfl
theorem body_once (l : List Int) (hb : Byt l) (k : Int) (a b : Nat) (x : Rc) (ha : a ≤ l.length) (h : bodyG l k (okS a) = (okS b, x)) : x.k = k ∧ a ≤ b ∧ b ≤ l.length ∧ l.drop a = tailL x ++ l.drop b := by
  unfold bodyG at h
  simp only at h
  obtain ⟨h1, h2⟩ := Prod.mk.inj h
  have z3 : (fL [] (gT l) (hT k) (fL false (gF l) (hF k) (fL 0 (gN 1073741824 l) (hN k) (okS a)).1).1).1.c = 0 := by
    by_cases q : (fL [] (gT l) (hT k) (fL false (gF l) (hF k) (fL 0 (gN 1073741824 l) (hN k) (okS a)).1).1).1.c = 0
    · exact q
    · rw [fL_stay fldR l _ _ q] at h1; rw [h1] at q; exact absurd rfl q
  have z2 : (fL false (gF l) (hF k) (fL 0 (gN 1073741824 l) (hN k) (okS a)).1).1.c = 0 := by
    by_cases q : (fL false (gF l) (hF k) (fL 0 (gN 1073741824 l) (hN k) (okS a)).1).1.c = 0
    · exact q
    · rw [fL_stay fldT l _ _ q] at z3; exact absurd z3 q
  have z1 : (fL 0 (gN 1073741824 l) (hN k) (okS a)).1.c = 0 := by
    by_cases q : (fL 0 (gN 1073741824 l) (hN k) (okS a)).1.c = 0
    · exact q
    · rw [fL_stay fldF l _ _ q] at z2; exact absurd z2 q
  have c1 := fL_can F30 l _ _ z1
  obtain ⟨o1, a1, b1, d1⟩ := fL_once F30 l hb (hN k) a _ _ ha (Prod.ext c1 rfl)
  have l1 := fL_len (0 : Int) (gN 1073741824 l) (hN k) (okS a)
  generalize hq1 : fL 0 (gN 1073741824 l) (hN k) (okS a) = q1 at *
  rw [c1] at z2
  have c2 := fL_can fldF l _ _ z2
  obtain ⟨o2, a2, b2, d2⟩ := fL_once fldF l hb (hF k) q1.1.pt _ _ b1 (Prod.ext c2 rfl)
  have l2 := fL_len false (gF l) (hF k) (okS q1.1.pt)
  rw [← c1] at c2 o2 d2 a2 b2 l2
  generalize hq2 : fL false (gF l) (hF k) q1.1 = q2 at *
  rw [c2] at z3
  have c3 := fL_can fldT l _ _ z3
  obtain ⟨o3, a3, b3, d3⟩ := fL_once fldT l hb (hT k) q2.1.pt _ _ b2 (Prod.ext c3 rfl)
  have l3 := fL_len [] (gT l) (hT k) (okS q2.1.pt)
  rw [← c2] at c3 o3 d3 a3 b3 l3
  generalize hq3 : fL [] (gT l) (hT k) q2.1 = q3 at *
  rw [c3] at h1
  obtain ⟨o4, a4, b4, d4⟩ := fL_once fldR l hb (hR k) q3.1.pt _ _ b3 (Prod.ext h1 rfl)
  have l4 := fL_len [] (gR l) (hR k) (okS q3.1.pt)
  rw [← c3] at o4 d4 l4
  generalize hq4 : fL [] (gR l) (hR k) q3.1 = q4 at *
  subst h2
  refine ⟨rfl, by omega, b4, ?_⟩
  have n1 : (mkR k q1.2 q2.2 q3.2 q4.2).ns = q1.2 := by
    obtain ⟨s, _ | ⟨x0, _ | ⟨x1, _ | ⟨x2, _ | ⟨x3, _ | ⟨x4, _ | ⟨x5, _ | ⟨x6, _ | ⟨x7, _ | ⟨x8, r⟩⟩⟩⟩⟩⟩⟩⟩⟩⟩ := q1 <;> simp [hN] at l1 <;> first | rfl | omega
  have n2 : [(mkR k q1.2 q2.2 q3.2 q4.2).fl] = q2.2 := by
    obtain ⟨s, _ | ⟨x0, _ | ⟨x1, r⟩⟩⟩ := q2 <;> simp [hF] at l2 <;> first | rfl | omega
  have n3 : (mkR k q1.2 q2.2 q3.2 q4.2).ts = q3.2 := by
    obtain ⟨s, _ | ⟨x0, _ | ⟨x1, _ | ⟨x2, _ | ⟨x3, _ | ⟨x4, r⟩⟩⟩⟩⟩⟩ := q3 <;> simp [hT] at l3 <;> first | rfl | omega
  have n4 : (mkR k q1.2 q2.2 q3.2 q4.2).rs = q4.2 := by
    obtain ⟨s, _ | ⟨x0, _ | ⟨x1, _ | ⟨x2, _ | ⟨x3, _ | ⟨x4, r⟩⟩⟩⟩⟩⟩ := q4 <;> simp [hR] at l4 <;> first | rfl | omega
  unfold tailL
  rw [n1, n2, n3, n4, show (mkR k q1.2 q2.2 q3.2 q4.2).k = k from rfl, d1, d2, d3, d4]
  simp only [List.append_assoc]
theorem body_stay (l : List Int) (k : Int) (s : Gs) (h : s.c ≠ 0) : (bodyG l k s).1 = s := by
  unfold bodyG
  simp only
  rw [fL_stay F30 l _ _ h, fL_stay fldF l _ _ h, fL_stay fldT l _ _ h, fL_stay fldR l _ _ h]
theorem body_can (l : List Int) (k : Int) (a : Nat) (h : (bodyG l k (okS a)).1.c = 0) : (bodyG l k (okS a)).1 = okS (bodyG l k (okS a)).1.pt := by
  unfold bodyG at h ⊢
  simp only at h ⊢
  have z3 : (fL [] (gT l) (hT k) (fL false (gF l) (hF k) (fL 0 (gN 1073741824 l) (hN k) (okS a)).1).1).1.c = 0 := by
    by_cases q : (fL [] (gT l) (hT k) (fL false (gF l) (hF k) (fL 0 (gN 1073741824 l) (hN k) (okS a)).1).1).1.c = 0
    · exact q
    · rw [fL_stay fldR l _ _ q] at h; exact absurd h q
  have z2 : (fL false (gF l) (hF k) (fL 0 (gN 1073741824 l) (hN k) (okS a)).1).1.c = 0 := by
    by_cases q : (fL false (gF l) (hF k) (fL 0 (gN 1073741824 l) (hN k) (okS a)).1).1.c = 0
    · exact q
    · rw [fL_stay fldT l _ _ q] at z3; exact absurd z3 q
  have z1 : (fL 0 (gN 1073741824 l) (hN k) (okS a)).1.c = 0 := by
    by_cases q : (fL 0 (gN 1073741824 l) (hN k) (okS a)).1.c = 0
    · exact q
    · rw [fL_stay fldF l _ _ q] at z2; exact absurd z2 q
  have c1 := fL_can F30 l _ _ z1
  rw [c1] at z2 z3 h ⊢
  have c2 := fL_can fldF l _ _ z2
  rw [c2] at z3 h ⊢
  have c3 := fL_can fldT l _ _ z3
  rw [c3] at h ⊢
  exact fL_can fldR l _ _ h
/-- A number that may be, where it is asked for. -/
theorem numB_asks {n lo hi : Int} {h : Bool} (e : numB n h lo hi = true) : if h then lo ≤ n ∧ n ≤ hi else n = 0 := by
  cases h with
  | true => simpa [numB] using e
  | false => simpa [numB] using e
theorem nameB_len {S : List UInt8} (h : nameB S = true) : S.length ≤ 40 := by
  unfold nameB at h
  simp only [Bool.and_eq_true, decide_eq_true_eq] at h
  omega
theorem nameA_asks {S : List UInt8} {h : Bool} (e : nameA S h = true) : if h then S.length ≤ 256 else S = [] := by
  cases h with
  | true => have := nameB_len (show nameB S = true from e); simp only [if_true]; omega
  | false => simpa [nameA] using e
theorem brokB_all {l : List Int} (h : brokB l = true) : l.length ≤ 7 ∧ ∀ x ∈ l, 1 ≤ x ∧ x ≤ 64 := by
  unfold brokB at h
  simp only [Bool.and_eq_true, decide_eq_true_eq, List.all_eq_true, List.mem_range] at h
  refine ⟨h.1, fun x hx => ?_⟩
  obtain ⟨i, hi, rfl⟩ := List.getElem_of_mem hx
  have := h.2 i hi
  unfold okJ at this
  simp only [Bool.and_eq_true, decide_eq_true_eq] at this
  have e : l.getD i 0 = l[i] := by simp [List.getD, hi]
  rw [e] at this
  exact this.1
theorem rowB_asks {l : List Int} {h : Bool} (e : rowB l h = true) : if h then l.length ≤ 7 ∧ ∀ x ∈ l, 0 ≤ x ∧ x ≤ 64 else l = [] := by
  cases h with
  | true =>
    have := brokB_all (show brokB l = true from e)
    exact ⟨this.1, fun x hx => by have := this.2 x hx; omega⟩
  | false =>
    have e' : ((l.length : Int) == 0) = true := e
    simp only [beq_iff_eq] at e'
    exact List.length_eq_zero_iff.1 (by omega)
/-- What a record that may be keeps to. -/
structure RcIs (r : Rc) : Prop where
  k1 : 1 ≤ r.k
  k2 : r.k ≤ 12
  br : numB r.br (hasL r.k 98) 1 64 = true
  ep : numB r.ep (hasL r.k 101) 0 1073741824 = true
  tp : numB r.tp (hasL r.k 116) (if r.k = 10 then 0 else 1) 1073741824 = true
  pa : numB r.pa (hasL r.k 112) 0 255 = true
  le : numB r.le (hasL r.k 108) 0 64 = true
  cl : numB r.cl (hasL r.k 97) 1 1073741824 = true
  se : numB r.se (hasL r.k 97) 1 1073741824 = true
  co : numB r.co (hasL r.k 97) 0 21 = true
  fl : r.fl = true → hasL r.k 102 = true
  nm : nameA r.nm (hasL r.k 110) = true
  ky : nameA r.ky (hasL r.k 107) = true
  rk : nameA r.rk (hasL r.k 114) = true
  va : r.va.length ≤ 256
  vb : r.va.isEmpty = false → r.fl = false ∧ hasL r.k 118 = true
  ids : rowB r.ids (hasL r.k 105) = true
  isr : rowB r.isr (hasL r.k 109) = true
  ad : rowB r.ad (hasL r.k 120) = true
  dr : rowB r.dr (hasL r.k 120) = true
theorem nums_ok {k br ep tp pa le cl se co : Int} (h : (numsR k br ep tp pa le cl se co).2.2 = 0) : numB br (hasL k 98) 1 64 = true ∧ numB ep (hasL k 101) 0 1073741824 = true ∧ numB tp (hasL k 116) (if k = 10 then 0 else 1) 1073741824 = true ∧ numB pa (hasL k 112) 0 255 = true ∧ numB le (hasL k 108) 0 64 = true ∧ numB cl (hasL k 97) 1 1073741824 = true ∧ numB se (hasL k 97) 1 1073741824 = true ∧ numB co (hasL k 97) 0 21 = true := by
  unfold numsR at h
  generalize (if k = 10 then (0 : Int) else 1) = lo at *
  split at h
  · simp at h
  split at h
  · simp at h
  split at h
  · simp at h
  split at h
  · simp at h
  split at h
  · simp at h
  split at h
  · simp at h
  rename_i h1 h2 h3 h4 h5 h6
  simp only [Bool.not_eq_false, not_or] at h1 h2 h3 h4 h5 h6
  exact ⟨h1, h2, h3, h4, h5, h6⟩
theorem chk_is {r : Rc} (h : (chk r).2.2 = 0) : RcIs r := by
  unfold chk checkR at h
  split at h
  · simp at h
  split at h
  · rename_i q; exact absurd h q
  split at h
  · simp at h
  split at h
  · simp at h
  split at h
  · simp at h
  split at h
  · simp at h
  rename_i h1 h2 h3 h4 h5 h6
  obtain ⟨n1, n2, n3, n4, n5, n6, n7, n8⟩ := nums_ok (Decidable.not_not.1 h2)
  simp only [Bool.not_eq_false, not_or, not_and] at h3 h4 h5 h6
  exact ⟨by omega, by omega, n1, n2, n3, n4, n5, n6, n7, n8, h3, h4.1, h4.2.1, h4.2.2, by omega, fun q => by
    have := h5.2 q
    exact ⟨by simpa using this.1, by simpa using this.2⟩, h6.1, h6.2.1, h6.2.2.1, h6.2.2.2⟩
theorem ok2_num {x lo hi : Int} {h : Bool} (e : numB x h lo hi = true) (h0 : 0 ≤ lo) (h1 : hi ≤ 1073741824) : if h then 0 ≤ x ∧ x ≤ 1073741824 else x = 0 := by
  have := numB_asks e
  cases h with
  | true => simp only [if_true] at this ⊢; omega
  | false => exact this
theorem RcIs.ok {r : Rc} (h : RcIs r) : RcOk r := by
  refine ⟨⟨ok2_num h.br (by decide) (by decide), ok2_num h.ep (by decide) (by decide), ok2_num h.tp (by split <;> decide) (by decide), ok2_num h.pa (by decide) (by decide), ok2_num h.le (by decide) (by decide), ok2_num h.cl (by decide) (by decide), ok2_num h.se (by decide) (by decide), ok2_num h.co (by decide) (by decide), trivial⟩, ⟨?_, trivial⟩, ⟨nameA_asks h.nm, nameA_asks h.ky, ?_, nameA_asks h.rk, trivial⟩, ⟨rowB_asks h.ids, rowB_asks h.isr, rowB_asks h.ad, rowB_asks h.dr, trivial⟩⟩
  · by_cases q : hasL r.k 102 = true
    · rw [q]; trivial
    · have : hasL r.k 102 = false := by simpa using q
      rw [this]
      simp only [Bool.false_eq_true, if_false]
      by_cases f : r.fl = true
      · exact absurd (h.fl f) q
      · simpa using f
  · by_cases q : hasL r.k 118 = true
    · rw [q]; exact h.va
    · have : hasL r.k 118 = false := by simpa using q
      rw [this]
      simp only [Bool.false_eq_true, if_false]
      by_cases f : r.va.isEmpty = true
      · simpa using f
      · exact absurd (h.vb (by simpa using f)).2 q
theorem intL_kind {k : Int} (h1 : 1 ≤ k) (h2 : k ≤ 12) : intL k = [k] := by
  rw [intL_num (by omega) (by omega), numL, if_pos (by omega)]
/-- A record that is written is read as what it was. -/
theorem read_back (r : Rc) (h : (chk r).2.2 = 0) (P Q : List Int) : readG (P ++ (putL r ++ Q)) (okS P.length) = (okS (P.length + (putL r).length), r) := by
  have hi := chk_is h
  have e1 := (fldN 63 (by decide)).back P r.k (tailL r ++ Q) ⟨by have := hi.k1; omega, by have := hi.k2; omega⟩
  rw [intL_kind hi.k1 hi.k2] at e1
  have e2 := body_back r hi.ok (P ++ [r.k]) Q
  rw [List.append_assoc, List.length_append, List.length_singleton] at e2
  have hl : P ++ (putL r ++ Q) = P ++ ([r.k] ++ (tailL r ++ Q)) := rfl
  unfold readG
  rw [hl, e1]
  simp only [List.length_singleton]
  rw [if_pos ⟨hi.k1, hi.k2⟩, e2]
  simp only [h, if_true]
  rw [if_pos (show (okS _).c = 0 from rfl)]
  unfold putL
  rw [List.length_cons, Nat.add_assoc, Nat.add_comm 1]
/-- Bytes that are read as a record are those that it is written as. -/
theorem read_once (l : List Int) (hb : Byt l) (a : Nat) (ha : a ≤ l.length) (h : (readG l (okS a)).1.c = 0) : (chk (readG l (okS a)).2).2.2 = 0 ∧ ∃ b, readG l (okS a) = (okS b, (readG l (okS a)).2) ∧ a ≤ b ∧ b ≤ l.length ∧ l.drop a = putL (readG l (okS a)).2 ++ l.drop b := by
  unfold readG at h ⊢
  simp only at h ⊢
  by_cases hk : 1 ≤ (gN 63 l (okS a)).2 ∧ (gN 63 l (okS a)).2 ≤ 12
  · rw [if_pos hk] at h ⊢
    by_cases hz : (bodyG l (gN 63 l (okS a)).2 (gN 63 l (okS a)).1).1.c = 0
    · rw [if_pos hz] at h ⊢
      by_cases hc : (chk (bodyG l (gN 63 l (okS a)).2 (gN 63 l (okS a)).1).2).2.2 = 0
      · rw [if_pos hc] at h ⊢
        refine ⟨hc, ?_⟩
        have z1 : (gN 63 l (okS a)).1.c = 0 := by
          by_cases q : (gN 63 l (okS a)).1.c = 0
          · exact q
          · rw [body_stay l _ _ q] at hz; exact absurd hz q
        have c1 := (fldN 63 (by decide)).can l a z1
        obtain ⟨o1, a1, b1, d1⟩ := (fldN 63 (by decide)).once l a _ _ hb ha (Prod.ext c1 rfl)
        generalize hq : gN 63 l (okS a) = q at *
        rw [c1] at hz ⊢
        have c2 := body_can l q.2 _ hz
        obtain ⟨k2, a2, b2, d2⟩ := body_once l hb q.2 q.1.pt _ _ b1 (Prod.ext c2 rfl)
        generalize hv : bodyG l q.2 (okS q.1.pt) = v at *
        refine ⟨v.1.pt, Prod.ext c2 rfl, by omega, b2, ?_⟩
        rw [d1, d2, intL_kind hk.1 hk.2]
        unfold putL
        rw [k2]
        rfl
      · rw [if_neg hc] at h
        exact absurd h hc
    · rw [if_neg hz] at h
      exact absurd h hz
  · rw [if_neg hk] at h
    split at h
    · simp at h
    · rename_i q; exact absurd h q
end Go.Proofs.YtoioddnlkbjljaaGreatDoor
namespace Go.Proofs.YtoioddnlkbjljaaGreatDoor
open Go.RowKit

/-- What a kind is about, bit by bit. -/
def sbj (k : Int) : Int :=
  if k = 2 then 4099 else if k = 3 ∨ k = 4 ∨ k = 5 ∨ k = 6 then 3 else if k = 7 then 516 else if k = 8 then 24604 else if k = 9 then 122910 else if k = 10 then 3332 else if k = 11 then 4 else if k = 12 then 224 else 0
def knd (k : Int) : Bool := decide (1 ≤ k ∧ k ≤ 12)
def bitB (a o : Int) : Bool := (bits .and .u32 a o != 0)
theorem sbj_none {k : Int} (h : ¬ (1 ≤ k ∧ k ≤ 12)) : sbj k = 0 := by
  unfold sbj
  rw [if_neg (by omega), if_neg (by omega), if_neg (by omega), if_neg (by omega), if_neg (by omega), if_neg (by omega), if_neg (by omega), if_neg (by omega)]
theorem kinds {k : Int} (h : 1 ≤ k ∧ k ≤ 12) : k = 1 ∨ k = 2 ∨ k = 3 ∨ k = 4 ∨ k = 5 ∨ k = 6 ∨ k = 7 ∨ k = 8 ∨ k = 9 ∨ k = 10 ∨ k = 11 ∨ k = 12 := by omega
theorem bit_has {k : Int} (h : 1 ≤ k ∧ k ≤ 12) : bitB (sbj k) 1 = hasL k 98 ∧ bitB (sbj k) 2 = hasL k 101 ∧ bitB (sbj k) 4 = hasL k 116 ∧ bitB (sbj k) 8 = hasL k 112 ∧ bitB (sbj k) 16 = hasL k 108 ∧ bitB (sbj k) 32 = hasL k 97 ∧ bitB (sbj k) 64 = hasL k 97 ∧ bitB (sbj k) 128 = hasL k 97 ∧ bitB (sbj k) 256 = hasL k 102 ∧ bitB (sbj k) 512 = hasL k 110 ∧ bitB (sbj k) 1024 = hasL k 107 ∧ bitB (sbj k) 2048 = hasL k 118 ∧ bitB (sbj k) 4096 = hasL k 114 ∧ bitB (sbj k) 8192 = hasL k 105 ∧ bitB (sbj k) 16384 = hasL k 109 ∧ bitB (sbj k) 32768 = hasL k 120 ∧ bitB (sbj k) 65536 = hasL k 120 := by
  rcases kinds h with rfl | rfl | rfl | rfl | rfl | rfl | rfl | rfl | rfl | rfl | rfl | rfl <;> exact ⟨by decide, by decide, by decide, by decide, by decide, by decide, by decide, by decide, by decide, by decide, by decide, by decide, by decide, by decide, by decide, by decide, by decide⟩
set_option maxHeartbeats 4000000 in
theorem subj_any (k : Int) (w : World) : Calls Tryz.prog 126 #[.int .i64 k] w fun e w' => e = .returned (.tuple #[.int .u32 (sbj k), .bool (knd k)]) ∧ w' = w := by
  by_cases hk : 1 ≤ k ∧ k ≤ 12
  · rcases kinds hk with rfl | rfl | rfl | rfl | rfl | rfl | rfl | rfl | rfl | rfl | rfl | rfl
    all_goals
      go_enter Tryz.func126, Tryz.ntmps126
      go_wp2_with fail
      go_ret2
      exact ⟨rfl, rfl⟩
  · rw [sbj_none hk, show knd k = false from decide_eq_false hk]
    have n1 : ¬ k = 1 := by omega
    have n2 : ¬ k = 2 := by omega
    have n3 : ¬ k = 3 := by omega
    have n4 : ¬ k = 4 := by omega
    have n5 : ¬ k = 5 := by omega
    have n6 : ¬ k = 6 := by omega
    have n7 : ¬ k = 7 := by omega
    have n8 : ¬ k = 8 := by omega
    have n9 : ¬ k = 9 := by omega
    have n10 : ¬ k = 10 := by omega
    have n11 : ¬ k = 11 := by omega
    have n12 : ¬ k = 12 := by omega
    clear hk
    go_enter Tryz.func126, Tryz.ntmps126
    go_wp2_with fail
    go_ret2
    exact ⟨rfl, rfl⟩
theorem bhas_any (a o : Int) (w : World) : Calls Tryz.prog 128 #[.int .u32 a, .int .u32 o] w fun e w' => e = .returned (.bool (bitB a o)) ∧ w' = w := by
  go_enter Tryz.func128, Tryz.ntmps128
  go_wp2_with fail
  go_ret
  exact ⟨rfl, rfl⟩
set_option maxHeartbeats 4000000 in
theorem within_any (a o n lo hi : Int) (w : World) : Calls Tryz.prog 148 #[.int .u32 a, .int .u32 o, .int .i64 n, .int .i64 lo, .int .i64 hi] w fun e w' => e = .returned (.bool (numB n (bitB a o) lo hi)) ∧ w' = w := by
  have HC := hide (bhas_any a o w)
  obtain ⟨R, hR⟩ : ∃ R, R = numB n (bitB a o) lo hi := ⟨_, rfl⟩
  rw [← hR]
  have HR := hide hR
  clear hR
  cases hb : bitB a o with
  | true =>
    rw [hb] at HC HR
    by_cases h1 : lo ≤ n
    · by_cases h2 : n ≤ hi
      · have HE : Hid (R = true) := hide (by rw [HR.out]; simp [numB, h1, h2])
        go_enter Tryz.func148, Tryz.ntmps148
        go_wp2_with (first | (go_at_call 128; refine HC.out.mono ?_; rintro e w' ⟨rfl, rfl⟩))
        go_ret
        exact ⟨by rw [HE.out]; rfl, rfl⟩
      · have HE : Hid (R = decide (n ≤ hi)) := hide (by rw [HR.out]; simp [numB, h1])
        go_enter Tryz.func148, Tryz.ntmps148
        go_wp2_with (first | (go_at_call 128; refine HC.out.mono ?_; rintro e w' ⟨rfl, rfl⟩))
        go_ret
        exact ⟨by rw [HE.out]; rfl, rfl⟩
    · have HE : Hid (R = false) := hide (by rw [HR.out]; simp [numB]; omega)
      go_enter Tryz.func148, Tryz.ntmps148
      go_wp2_with (first | (go_at_call 128; refine HC.out.mono ?_; rintro e w' ⟨rfl, rfl⟩))
      go_ret
      exact ⟨by rw [HE.out]; rfl, rfl⟩
  | false =>
    rw [hb] at HC HR
    have HE : Hid (R = (n == 0)) := hide (by rw [HR.out]; simp only [numB]; rfl)
    go_enter Tryz.func148, Tryz.ntmps148
    go_wp2_with (first | (go_at_call 128; refine HC.out.mono ?_; rintro e w' ⟨rfl, rfl⟩))
    go_ret
    exact ⟨by rw [HE.out]; rfl, rfl⟩
theorem least_any (k : Int) (w : World) : Calls Tryz.prog 149 #[.int .i64 k] w fun e w' => e = .returned (.int .i64 (if k = 10 then 0 else 1)) ∧ w' = w := by
  by_cases h : k = 10
  · rw [if_pos h]
    go_enter Tryz.func149, Tryz.ntmps149
    go_wp2_with fail
    go_ret
    exact ⟨rfl, rfl⟩
  · rw [if_neg h]
    go_enter Tryz.func149, Tryz.ntmps149
    go_wp2_with fail
    go_ret
    exact ⟨rfl, rfl⟩
def mostV (h fl : Bool) : Int := if fl = true ∨ h = false then 0 else 256
theorem most_any (a : Int) (fl : Bool) (w : World) : Calls Tryz.prog 152 #[.int .u32 a, .bool fl] w fun e w' => e = .returned (.int .i64 (mostV (bitB a 2048) fl)) ∧ w' = w := by
  have HC := hide (bhas_any a 2048 w)
  cases hb : bitB a 2048 <;> cases fl <;> rw [hb] at HC
  all_goals
    go_enter Tryz.func152, Tryz.ntmps152
    go_wp2_with (first | (go_at_call 128; refine HC.out.mono ?_; rintro e w' ⟨rfl, rfl⟩))
    go_ret
    exact ⟨rfl, rfl⟩
set_option maxHeartbeats 4000000 in
theorem foreign_any (x : UInt8) (w : World) : Calls Tryz.prog 167 #[.int .u8 (x.toNat : Int)] w fun e w' => e = .returned (.bool (!okc x)) ∧ w' = w := by
  obtain ⟨R, hR⟩ : ∃ R, R = okc x := ⟨_, rfl⟩
  rw [← hR]
  rcases okc_cases (x.toNat : Int) with ⟨a, b⟩ | ⟨a, b, c, d, e, f⟩ | ⟨a, b, c⟩ | ⟨a, b, c, e, f⟩ | ⟨a, b, e⟩ | ⟨a, b, e, f⟩ | ⟨a, b, e, f⟩
  · have HE : Hid (R = true) := hide (by rw [hR]; simp [okc]; omega)
    clear hR
    generalize (x.toNat : Int) = n at *
    go_enter Tryz.func167, Tryz.ntmps167
    go_wp2_with fail
    go_ret
    exact ⟨by rw [HE.out]; rfl, rfl⟩
  · have HE : Hid (R = false) := hide (by rw [hR]; simp [okc]; omega)
    clear hR
    generalize (x.toNat : Int) = n at *
    go_enter Tryz.func167, Tryz.ntmps167
    go_wp2_with fail
    go_ret
    exact ⟨by rw [HE.out]; rfl, rfl⟩
  · have HE : Hid (R = true) := hide (by rw [hR]; simp [okc]; omega)
    clear hR
    generalize (x.toNat : Int) = n at *
    go_enter Tryz.func167, Tryz.ntmps167
    go_wp2_with fail
    go_ret
    exact ⟨by rw [HE.out]; rfl, rfl⟩
  · have HE : Hid (R = false) := hide (by rw [hR]; simp [okc]; omega)
    clear hR
    generalize (x.toNat : Int) = n at *
    go_enter Tryz.func167, Tryz.ntmps167
    go_wp2_with fail
    go_ret
    exact ⟨by rw [HE.out]; rfl, rfl⟩
  · have HE : Hid (R = true) := hide (by rw [hR]; simp [okc]; omega)
    clear hR
    generalize (x.toNat : Int) = n at *
    go_enter Tryz.func167, Tryz.ntmps167
    go_wp2_with fail
    go_ret
    exact ⟨by rw [HE.out]; rfl, rfl⟩
  · have HE : Hid (R = true) := hide (by rw [hR]; simp [okc]; omega)
    clear hR
    generalize (x.toNat : Int) = n at *
    go_enter Tryz.func167, Tryz.ntmps167
    go_wp2_with fail
    go_ret
    exact ⟨by rw [HE.out]; rfl, rfl⟩
  · have HE : Hid (R = false) := hide (by rw [hR]; simp [okc]; omega)
    clear hR
    generalize (x.toNat : Int) = n at *
    go_enter Tryz.func167, Tryz.ntmps167
    go_wp2_with fail
    go_ret
    exact ⟨by rw [HE.out]; rfl, rfl⟩
/-- The bytes of a string, as the slice that they are made. -/
def uc (x : UInt8) : Value := .int .u8 (x.toNat : Int)
theorem bytes_of (S : List UInt8) (w : World) : ∃ cap w1, (convert 9 23 (.string ⟨S.toArray⟩)).run Tryz.prog w = .ok (.slice (some ⟨w.heap.size, 0, none⟩) S.length cap) w1 ∧ (∀ i (h : i < S.length), w1.cell? ⟨w.heap.size, 0 + i, none⟩ = some (uc S[i])) ∧ Below w.heap.size w w1 ∧ w1.heap.size = w.heap.size + 1 ∧ S.length ≤ cap := by
  have h := run_bytes_of_string (P := Tryz.prog) w 9 23 5 ⟨S.toArray⟩ Tryz.underlying9 Tryz.underlying23 Tryz.underlying5
  have hz : (⟨S.toArray⟩ : ByteArray).size = S.length := by simp [ByteArray.size]
  rw [hz] at h
  refine ⟨_, _, h, fun i hi => ?_, ?_, ?_, ?_⟩
  · have hi' : i < (⟨S.toArray⟩ : ByteArray).data.size := by simpa using hi
    have := bytesRow_at ⟨S.toArray⟩ (grownCap w S.length 0 5) i hi'
    rw [Nat.zero_add]
    have h2 := World.cell?_alloc_mark w.drew (bytesRow ⟨S.toArray⟩ (grownCap w S.length 0 5)) 5 ((bytesRow ⟨S.toArray⟩ (grownCap w S.length 0 5)).size, (bytesRow ⟨S.toArray⟩ (grownCap w S.length 0 5)).size + 1) i
    refine (h2.trans this).trans ?_
    simp [uc]
  · exact (Below.refl _ _).drew.alloc (Nat.le_refl _) _
  · simp
  · exact Nat.le_trans (Nat.le_refl _) (grownCap_ge w S.length 0 5)
def alc (S : List UInt8) : Bool := S.all okc
set_option maxRecDepth 100000 in
set_option maxHeartbeats 4000000 in
theorem idxf_some (b o cap : Nat) (S : List UInt8) (w : World) (hl : S.length ≤ 1000) (h3 : ∀ i (h : i < S.length), w.cell? ⟨b, o + i, none⟩ = some (uc S[i])) :
    Calls Tryz.prog 169 #[.slice (some ⟨b, o, none⟩) S.length cap, .func (.func 167) #[] #[]] w fun e w' => (∃ n : Int, e = .returned (.int .i64 n) ∧ ((alc S = false ∧ 0 ≤ n) ∨ (alc S = true ∧ n = -1))) ∧ w' = w := by
  have H3 := hide h3
  clear h3
  go_enter Tryz.func169, Tryz.ntmps169
  go_wp2
  go_loop [8] (fun i => ∃ k : Nat, k ≤ S.length ∧ i = .int .i64 (k : Int) ∧ Hid ((S.take k).all okc = true)) (fun i => S.length - (intOf i).toNat)
  case atStart => exact ⟨0, Nat.zero_le _, rfl, hide rfl⟩
  case round =>
    obtain ⟨k, hk, rfl, HN⟩ := hrel
    by_cases hlt : k < S.length
    · have hltI : (k : Int) < (S.length : Int) := by omega
      have hc := H3.out k hlt
      unfold uc at hc
      have HF := hide (foreign_any S[k] w)
      have HSN := hide (fun hn => all_snoc hlt HN.out hn)
      have HNO := hide (fun hn => (all_no hlt hn : alc S = false))
      generalize S[k] = x at *
      cases hx : okc x with
      | true =>
        rw [hx] at HF
        have HX := hide hx
        clear hx
        go_wp2_with (first | (go_at_call 167; refine HF.out.mono ?_; rintro e w' ⟨rfl, rfl⟩))
        go_round
        case rel => exact ⟨k + 1, by omega, by go_num, hide (HSN.out HX.out)⟩
        case measure => simp [intOf]; omega
      | false =>
        rw [hx] at HF
        have HX := hide hx
        clear hx
        go_wp2_with (first | (go_at_call 167; refine HF.out.mono ?_; rintro e w' ⟨rfl, rfl⟩))
        go_ret
        exact ⟨⟨_, rfl, .inl ⟨HNO.out HX.out, by omega⟩⟩, rfl⟩
    · obtain rfl : k = S.length := by omega
      have HA : Hid (alc S = true) := hide (by have := HN.out; rw [List.take_length] at this; exact this)
      clear hlt
      go_wp2_with fail
      go_ret
      exact ⟨⟨_, rfl, .inr ⟨HA.out, rfl⟩⟩, rfl⟩
set_option maxHeartbeats 4000000 in
theorem ctnf_some (b o cap : Nat) (S : List UInt8) (w : World) (hl : S.length ≤ 1000) (h3 : ∀ i (h : i < S.length), w.cell? ⟨b, o + i, none⟩ = some (uc S[i])) :
    Calls Tryz.prog 166 #[.slice (some ⟨b, o, none⟩) S.length cap, .func (.func 167) #[] #[]] w fun e w' => e = .returned (.bool (!alc S)) ∧ w' = w := by
  have HC := hide (idxf_some b o cap S w hl h3)
  clear h3
  go_enter Tryz.func166, Tryz.ntmps166
  go_wp2_with fail
  refine (HC.out).mono ?_
  rintro e w' ⟨⟨n, rfl, ⟨hy, hn⟩ | ⟨hy, rfl⟩⟩, rfl⟩
  · have HY := hide hy
    clear hy
    go_wp2
    go_ret
    exact ⟨by rw [HY.out]; rfl, rfl⟩
  · have HY := hide hy
    clear hy
    go_wp2
    go_ret
    exact ⟨by rw [HY.out]; rfl, rfl⟩
set_option maxRecDepth 100000 in
set_option maxHeartbeats 4000000 in
theorem cname_any (S : List UInt8) (w : World) (hS : S.length ≤ 1000) : Calls Tryz.prog 164 #[.string ⟨S.toArray⟩] w fun e w' => e = .returned (.bool (nameB S)) ∧ Below w.heap.size w w' := by
  have hdot : (⟨S.toArray⟩ : ByteArray).toList = S := by simp
  obtain ⟨R, hR⟩ : ∃ R, R = nameB S := ⟨_, rfl⟩
  rw [← hR]
  have HR := hide hR
  clear hR
  by_cases h1 : S.length < 1
  · have HE : Hid (R = false) := hide (by rw [HR.out]; simp [nameB]; omega)
    have h1' : (S.length : Int) < 1 := by omega
    go_enter Tryz.func164, Tryz.ntmps164
    go_wp2_with fail
    go_ret
    exact ⟨by rw [HE.out]; rfl, Below.refl _ _⟩
  have h1' : ¬ (S.length : Int) < 1 := by omega
  by_cases h2 : 40 < S.length
  · have HE : Hid (R = false) := hide (by rw [HR.out]; simp [nameB]; omega)
    have h2' : (40 : Int) < (S.length : Int) := by omega
    go_enter Tryz.func164, Tryz.ntmps164
    go_wp2_with fail
    go_ret
    exact ⟨by rw [HE.out]; rfl, Below.refl _ _⟩
  have h2' : ¬ (40 : Int) < (S.length : Int) := by omega
  by_cases h3 : S = [46]
  · have HE : Hid (R = false) := hide (by rw [HR.out]; simp [nameB, h3])
    subst h3
    go_enter Tryz.func164, Tryz.ntmps164
    go_wp2_with fail
    go_ret
    exact ⟨by rw [HE.out]; rfl, Below.refl _ _⟩
  by_cases h4 : S = [46, 46]
  · have HE : Hid (R = false) := hide (by rw [HR.out]; simp [nameB, h4])
    subst h4
    go_enter Tryz.func164, Tryz.ntmps164
    go_wp2_with fail
    go_ret
    exact ⟨by rw [HE.out]; rfl, Below.refl _ _⟩
  have h3' : (S == [46]) = false := by simpa using h3
  have h4' : (S == [46, 46]) = false := by simpa using h4
  have HE : Hid (R = alc S) := hide (by rw [HR.out]; unfold nameB alc; simp [h3, h4]; omega)
  obtain ⟨cap, w1, hcv, hcell, hbl, _⟩ := bytes_of S w
  have HC := hide hcell
  have HB := hide hbl
  clear hcell hbl
  go_enter Tryz.func164, Tryz.ntmps164
  go_wp2_with fail
  refine (ctnf_some _ _ _ S _ hS HC.out).mono ?_
  rintro e w2 ⟨rfl, rfl⟩
  go_wp2_with fail
  go_ret
  exact ⟨by rw [HE.out]; simp, HB.out⟩
end Go.Proofs.YtoioddnlkbjljaaGreatDoor
namespace Go.Proofs.YtoioddnlkbjljaaGreatDoor
open Go.RowKit

/-- Is a number among the first j? -/
def inB (l : List Int) (j : Nat) (x : Int) : Bool := (List.range j).any fun k => decide (l.getD k 0 = x)
theorem in_yes {l : List Int} {j k : Nat} {x : Int} (hk : k < j) (h : x = l.getD k 0) : inB l j x = true := by
  unfold inB
  rw [List.any_eq_true]
  exact ⟨k, List.mem_range.2 hk, decide_eq_true h.symm⟩
theorem in_no {l : List Int} {j : Nat} {x : Int} (h : ∀ k, k < j → ¬ l.getD k 0 = x) : inB l j x = false := by
  unfold inB
  rw [List.any_eq_false]
  intro k hk
  simpa using h k (List.mem_range.1 hk)
theorem in_okJ {l : List Int} {j : Nat} (h : 1 ≤ l.getD j 0 ∧ l.getD j 0 ≤ 64) : okJ l j = !inB l j (l.getD j 0) := by
  cases hi : inB l j (l.getD j 0) with
  | true =>
    unfold inB at hi
    rw [List.any_eq_true] at hi
    obtain ⟨k, hk, e⟩ := hi
    exact okJ_twice (List.mem_range.1 hk) (of_decide_eq_true e)
  | false =>
    unfold inB at hi
    rw [List.any_eq_false] at hi
    exact okJ_yes h (fun k hk e => hi k (List.mem_range.2 hk) (decide_eq_true e))
set_option maxRecDepth 100000 in
set_option maxHeartbeats 4000000 in
theorem idxi_some (b o cap : Nat) (l : List Int) (j : Nat) (x : Int) (w : World) (hj : j ≤ l.length) (hl : l.length ≤ 7) (h3 : ∀ i, i < l.length → w.cell? ⟨b, o + i, none⟩ = some (.int .i64 (l.getD i 0))) :
    Calls Tryz.prog 170 #[.slice (some ⟨b, o, none⟩) j cap, .int .i64 x] w fun e w' => (∃ n : Int, e = .returned (.int .i64 n) ∧ ((inB l j x = true ∧ 0 ≤ n) ∨ (inB l j x = false ∧ n = -1))) ∧ w' = w := by
  have H3 := hide h3
  clear h3
  go_enter Tryz.func170, Tryz.ntmps170
  go_wp2
  go_loop [8] (fun i => ∃ k : Nat, k ≤ j ∧ i = .int .i64 (k : Int) ∧ Hid (∀ m, m < k → ¬ l.getD m 0 = x)) (fun i => j - (intOf i).toNat)
  case atStart => exact ⟨0, Nat.zero_le _, rfl, hide (fun m hm => absurd hm (Nat.not_lt_zero _))⟩
  case round =>
    obtain ⟨k, hk, rfl, HN⟩ := hrel
    by_cases hlt : k < j
    · have hltI : (k : Int) < (j : Int) := by omega
      have hc := H3.out k (by omega)
      obtain ⟨y, hy⟩ : ∃ y, y = l.getD k 0 := ⟨_, rfl⟩
      rw [← hy] at hc
      have HY := hide hy
      clear hy
      by_cases he : x = y
      · have HI := hide (in_yes (x := x) hlt (he.trans HY.out))
        go_wp2_with fail
        go_ret
        exact ⟨⟨_, rfl, .inl ⟨he ▸ HI.out, by omega⟩⟩, rfl⟩
      · go_wp2_with fail
        go_round
        case rel => exact ⟨k + 1, by omega, by go_num, hide (fun m hm => by by_cases e : m = k; (subst e; rw [← HY.out]; exact fun q => he q.symm); exact HN.out m (by omega))⟩
        case measure => simp [intOf]; omega
    · obtain rfl : k = j := by omega
      clear hlt
      go_wp2_with fail
      go_ret
      exact ⟨⟨_, rfl, .inr ⟨in_no HN.out, rfl⟩⟩, rfl⟩
set_option maxHeartbeats 4000000 in
theorem ctni_some (b o cap : Nat) (l : List Int) (j : Nat) (x : Int) (w : World) (hj : j ≤ l.length) (hl : l.length ≤ 7) (h3 : ∀ i, i < l.length → w.cell? ⟨b, o + i, none⟩ = some (.int .i64 (l.getD i 0))) :
    Calls Tryz.prog 168 #[.slice (some ⟨b, o, none⟩) j cap, .int .i64 x] w fun e w' => e = .returned (.bool (inB l j x)) ∧ w' = w := by
  have HC := hide (idxi_some b o cap l j x w hj hl h3)
  clear h3
  go_enter Tryz.func168, Tryz.ntmps168
  go_wp2_with fail
  refine (HC.out).mono ?_
  rintro e w' ⟨⟨n, rfl, ⟨hy, hn⟩ | ⟨hy, rfl⟩⟩, rfl⟩
  · have HY := hide hy
    clear hy
    go_wp2
    go_ret
    exact ⟨by rw [HY.out]; rfl, rfl⟩
  · have HY := hide hy
    clear hy
    go_wp2
    go_ret
    exact ⟨by rw [HY.out]; rfl, rfl⟩
set_option maxRecDepth 100000 in
set_option maxHeartbeats 4000000 in
theorem cbrok_some (b o cap : Nat) (l : List Int) (w : World) (hcap : l.length ≤ cap) (h3 : ∀ i (h : i < l.length), w.cell? ⟨b, o + i, none⟩ = some (ic l[i])) :
    Calls Tryz.prog 165 #[.slice (some ⟨b, o, none⟩) l.length cap] w fun e w' => e = .returned (.bool (brokB l)) ∧ w' = w := by
  obtain ⟨R, hR⟩ : ∃ R, R = brokB l := ⟨_, rfl⟩
  rw [← hR]
  have HR := hide hR
  clear hR
  by_cases h7 : 7 < l.length
  · have HE : Hid (R = false) := hide (by rw [HR.out]; unfold brokB; rw [decide_eq_false (by omega), Bool.false_and])
    have h7' : (7 : Int) < (l.length : Int) := by omega
    clear h3
    go_enter Tryz.func165, Tryz.ntmps165
    go_wp2_with fail
    go_ret
    exact ⟨by rw [HE.out]; rfl, rfl⟩
  have h7' : ¬ (7 : Int) < (l.length : Int) := by omega
  have H3 : Hid (∀ i, i < l.length → w.cell? ⟨b, o + i, none⟩ = some (.int .i64 (l.getD i 0))) := hide (fun i hi => by
    rw [h3 i hi]
    simp [List.getD, hi, ic])
  clear h3
  go_enter Tryz.func165, Tryz.ntmps165
  go_wp2_with fail
  go_loop [10] (fun i => ∃ j : Nat, j ≤ l.length ∧ i = .int .i64 (j : Int) ∧ Hid (∀ m, m < j → okJ l m = true)) (fun i => l.length - (intOf i).toNat)
  case atStart => exact ⟨0, Nat.zero_le _, rfl, hide (fun m hm => absurd hm (Nat.not_lt_zero _))⟩
  case round =>
    obtain ⟨j, hj, rfl, HN⟩ := hrel
    by_cases hlt : j < l.length
    · have hltI : (j : Int) < (l.length : Int) := by omega
      have cj := H3.out j hlt
      have hjc : j ≤ cap := by omega
      by_cases hlo : l.getD j 0 < 1 ∨ (¬ l.getD j 0 < 1 ∧ 64 < l.getD j 0)
      · have HE : Hid (R = false) := hide (by rw [HR.out]; exact brokB_no hlt (okJ_no (by omega)))
        generalize l.getD j 0 = x at *
        rcases hlo with h1 | ⟨h1, h2⟩
        all_goals
          go_wp2_with fail
          go_ret
          exact ⟨by rw [HE.out]; rfl, rfl⟩
      · have h1 : ¬ l.getD j 0 < 1 := by omega
        have h2 : ¬ 64 < l.getD j 0 := by omega
        clear hlo
        have HCT := hide (ctni_some b o cap l j (l.getD j 0) w hj (by omega) H3.out)
        have HJ := hide (in_okJ (l := l) (j := j) ⟨by omega, by omega⟩)
        generalize hx : l.getD j 0 = x at *
        generalize inB l j x = t at *
        have HX := hide hx
        clear hx
        cases t with
        | true =>
          have HE : Hid (R = false) := hide (by rw [HR.out]; exact brokB_no hlt HJ.out)
          go_wp2_with (first | (go_at_call 168; refine HCT.out.mono ?_; rintro e w' ⟨rfl, rfl⟩))
          go_ret
          exact ⟨by rw [HE.out]; rfl, rfl⟩
        | false =>
          go_wp2_with (first | (go_at_call 168; refine HCT.out.mono ?_; rintro e w' ⟨rfl, rfl⟩))
          go_round
          case rel => exact ⟨j + 1, by omega, by go_num, hide (fun m hm => by by_cases e : m = j; (subst e; exact HJ.out); exact HN.out m (by omega))⟩
          case measure => simp [intOf]; omega
    · obtain rfl : j = l.length := by omega
      have HE : Hid (R = true) := hide (by rw [HR.out]; exact brokB_yes (by omega) HN.out)
      clear hlt
      go_wp2_with fail
      go_ret
      exact ⟨by rw [HE.out]; rfl, rfl⟩
set_option maxHeartbeats 4000000 in
theorem cbrok_none (ao : Option Addr) (cap : Nat) (w : World) : Calls Tryz.prog 165 #[.slice ao 0 cap] w fun e w' => e = .returned (.bool (brokB [])) ∧ w' = w := by
  go_enter Tryz.func165, Tryz.ntmps165
  go_wp2_with fail
  refine wp_loop_rounds 1 ?_
  rw [rounds_succ]
  go_wp2_with fail
  go_ret
  exact ⟨rfl, rfl⟩
theorem cbrok_any (v : Value) (l : List Int) (w : World) (hv : Sl ic w v l) : Calls Tryz.prog 165 #[v] w fun e w' => e = .returned (.bool (brokB l)) ∧ w' = w := by
  rcases hv with ⟨ao, cap, rfl, rfl⟩ | ⟨b, o, cap, rfl, hc, h3⟩
  · exact cbrok_none ao cap w
  · exact cbrok_some b o cap l w hc h3
theorem listed_any (a o : Int) (v : Value) (l : List Int) (w : World) (hv : Sl ic w v l) : Calls Tryz.prog 153 #[.int .u32 a, .int .u32 o, v] w fun e w' => e = .returned (.bool (rowB l (bitB a o))) ∧ w' = w := by
  have HC := hide (bhas_any a o w)
  have HB := hide (cbrok_any v l w hv)
  obtain ⟨R, hR⟩ : ∃ R, R = rowB l (bitB a o) := ⟨_, rfl⟩
  rw [← hR]
  have HR := hide hR
  obtain ⟨ao, cap, rfl⟩ := hv.form
  clear hR hv
  cases hb : bitB a o with
  | true =>
    rw [hb] at HC HR
    have HE : Hid (R = brokB l) := hide HR.out
    go_enter Tryz.func153, Tryz.ntmps153
    go_wp2_with (first | (go_at_call 128; refine HC.out.mono ?_; rintro e w' ⟨rfl, rfl⟩) | (go_at_call 165; refine HB.out.mono ?_; rintro e w' ⟨rfl, rfl⟩))
    go_ret
    exact ⟨by rw [HE.out]; rfl, rfl⟩
  | false =>
    rw [hb] at HC HR
    have HE : Hid (R = ((l.length : Int) == 0)) := hide HR.out
    go_enter Tryz.func153, Tryz.ntmps153
    go_wp2_with (first | (go_at_call 128; refine HC.out.mono ?_; rintro e w' ⟨rfl, rfl⟩))
    go_ret
    exact ⟨by rw [HE.out]; rfl, rfl⟩
theorem named_any (a o : Int) (S : List UInt8) (w : World) (hS : S.length ≤ 1000) : Calls Tryz.prog 151 #[.int .u32 a, .int .u32 o, .string ⟨S.toArray⟩] w fun e w' => e = .returned (.bool (nameA S (bitB a o))) ∧ Below w.heap.size w w' := by
  have HC := hide (bhas_any a o w)
  have HB := hide (cname_any S w hS)
  have hdot : (⟨S.toArray⟩ : ByteArray).toList = S := by simp
  obtain ⟨R, hR⟩ : ∃ R, R = nameA S (bitB a o) := ⟨_, rfl⟩
  rw [← hR]
  have HR := hide hR
  clear hR
  cases hb : bitB a o with
  | true =>
    rw [hb] at HC HR
    have HE : Hid (R = nameB S) := hide HR.out
    go_enter Tryz.func151, Tryz.ntmps151
    go_wp2_with (first | (go_at_call 128; refine HC.out.mono ?_; rintro e w' ⟨rfl, rfl⟩) | (go_at_call 164; refine HB.out.mono ?_; rintro e w' ⟨rfl, hbl⟩))
    go_ret
    exact ⟨by rw [HE.out]; rfl, hbl⟩
  | false =>
    rw [hb] at HC HR
    have HE : Hid (R = S.isEmpty) := hide HR.out
    go_enter Tryz.func151, Tryz.ntmps151
    go_wp2_with (first | (go_at_call 128; refine HC.out.mono ?_; rintro e w' ⟨rfl, rfl⟩))
    go_ret
    exact ⟨by rw [HE.out]; rfl, Below.refl _ _⟩
end Go.Proofs.YtoioddnlkbjljaaGreatDoor
namespace Go.Proofs.YtoioddnlkbjljaaGreatDoor
open Go.RowKit

/-- The slice v holds the list l, in a block that may be. -/
def Sli (ok : Nat → Prop) (W : World) (v : Value) (l : List Int) : Prop :=
  (∃ ao cap, l = [] ∧ v = .slice ao 0 cap) ∨
  (∃ b o cap, v = .slice (some ⟨b, o, none⟩) l.length cap ∧ l.length ≤ cap ∧ ok b ∧ ∀ i (h : i < l.length), W.cell? ⟨b, o + i, none⟩ = some (ic l[i]))
theorem Sli.sl {ok : Nat → Prop} {W : World} {v : Value} {l : List Int} (h : Sli ok W v l) : Sl ic W v l := by
  rcases h with h | ⟨b, o, cap, h1, h2, _, h3⟩
  · exact .inl h
  · exact .inr ⟨b, o, cap, h1, h2, h3⟩
theorem Sli.nil (ok : Nat → Prop) (w : World) (ao : Option Addr) (cap : Nat) : Sli ok w (.slice ao 0 cap) [] := .inl ⟨_, _, rfl, rfl⟩
theorem Sli.imp {ok ok' : Nat → Prop} {W W' : World} {v : Value} {l : List Int} (h : Sli ok W v l) (hk : ∀ b, b < W.heap.size → ok b → ok' b) (hc : ∀ b i, b < W.heap.size → ok b → W'.cell? ⟨b, i, none⟩ = W.cell? ⟨b, i, none⟩) : Sli ok' W' v l := by
  rcases h with h | ⟨b, o, cap, h1, h2, h0, h3⟩
  · exact .inl h
  · rcases l with _ | ⟨x, l⟩
    · exact .inl ⟨_, _, rfl, h1⟩
    · have hb := cell_block (h3 0 (by simp))
      exact .inr ⟨b, o, cap, h1, h2, hk b hb h0, fun i hi => (hc b _ hb h0).trans (h3 i hi)⟩
theorem Sli.below {ok : Nat → Prop} {W W' : World} {v : Value} {l : List Int} (h : Sli ok W v l) (hb : Below W.heap.size W W') : Sli ok W' v l :=
  h.imp (fun _ _ q => q) (fun b i hl _ => hb.cell (p := ⟨b, i, none⟩) hl)
theorem Sl.li {W : World} {v : Value} {l : List Int} (h : Sl ic W v l) : Sli (fun b => b < W.heap.size) W v l := by
  rcases h with h | ⟨b, o, cap, h1, h2, h3⟩
  · exact .inl h
  · rcases l with _ | ⟨x, l⟩
    · exact .inl ⟨_, _, rfl, h1⟩
    · exact .inr ⟨b, o, cap, h1, h2, cell_block (h3 0 (by simp)), h3⟩
def cellsR (r : Rc) (a14 a15 a16 a17 : Option Addr) (c14 c15 c16 c17 : Nat) : List Value :=
  [.int .i64 r.k, .int .i64 r.br, .int .i64 r.ep, .int .i64 r.tp, .int .i64 r.pa, .int .i64 r.le, .int .i64 r.cl, .int .i64 r.se, .int .i64 r.co, .bool r.fl, .string ⟨r.nm.toArray⟩, .string ⟨r.ky.toArray⟩, .string ⟨r.va.toArray⟩, .string ⟨r.rk.toArray⟩, .slice a14 r.ids.length c14, .slice a15 r.isr.length c15, .slice a16 r.ad.length c16, .slice a17 r.dr.length c17]
/-- The rows of a record lie where they may. -/
structure RwsR (ok : Nat → Prop) (W : World) (r : Rc) (a14 a15 a16 a17 : Option Addr) (c14 c15 c16 c17 : Nat) : Prop where
  h14 : Sli ok W (.slice a14 r.ids.length c14) r.ids
  h15 : Sli ok W (.slice a15 r.isr.length c15) r.isr
  h16 : Sli ok W (.slice a16 r.ad.length c16) r.ad
  h17 : Sli ok W (.slice a17 r.dr.length c17) r.dr
theorem RwsR.below {ok : Nat → Prop} {W W' : World} {r : Rc} {a14 a15 a16 a17 : Option Addr} {c14 c15 c16 c17 : Nat} (h : RwsR ok W r a14 a15 a16 a17 c14 c15 c16 c17) (hb : Below W.heap.size W W') : RwsR ok W' r a14 a15 a16 a17 c14 c15 c16 c17 :=
  ⟨h.h14.below hb, h.h15.below hb, h.h16.below hb, h.h17.below hb⟩
/-- The value v is the record r. -/
def IsR (ok : Nat → Prop) (W : World) (v : Value) (r : Rc) : Prop :=
  ∃ a14 a15 a16 a17 c14 c15 c16 c17, v = .agg (cellsR r a14 a15 a16 a17 c14 c15 c16 c17).toArray ∧ RwsR ok W r a14 a15 a16 a17 c14 c15 c16 c17
theorem IsR.below {ok : Nat → Prop} {W W' : World} {v : Value} {r : Rc} (h : IsR ok W v r) (hb : Below W.heap.size W W') : IsR ok W' v r := by
  obtain ⟨a14, a15, a16, a17, c14, c15, c16, c17, h1, h2⟩ := h
  exact ⟨a14, a15, a16, a17, c14, c15, c16, c17, h1, h2.below hb⟩
theorem isR_zero (ok : Nat → Prop) (W : World) : IsR ok W (.agg (cellsR Rc.zero none none none none 0 0 0 0).toArray) Rc.zero :=
  ⟨_, _, _, _, _, _, _, _, rfl, Sli.nil _ _ _ _, Sli.nil _ _ _ _, Sli.nil _ _ _ _, Sli.nil _ _ _ _⟩
/-- Its texts are not too long. -/
structure TxR (r : Rc) : Prop where
  nm : r.nm.length ≤ 1000
  ky : r.ky.length ≤ 1000
  va : r.va.length ≤ 1000
  rk : r.rk.length ≤ 1000
/-- Eighteen cells. -/
structure C18 (W : World) (p : Nat) (x0 x1 x2 x3 x4 x5 x6 x7 x8 x9 x10 x11 x12 x13 x14 x15 x16 x17 : Value) : Prop where
  c0 : W.cell? ⟨p, 0, none⟩ = some x0
  c1 : W.cell? ⟨p, 1, none⟩ = some x1
  c2 : W.cell? ⟨p, 2, none⟩ = some x2
  c3 : W.cell? ⟨p, 3, none⟩ = some x3
  c4 : W.cell? ⟨p, 4, none⟩ = some x4
  c5 : W.cell? ⟨p, 5, none⟩ = some x5
  c6 : W.cell? ⟨p, 6, none⟩ = some x6
  c7 : W.cell? ⟨p, 7, none⟩ = some x7
  c8 : W.cell? ⟨p, 8, none⟩ = some x8
  c9 : W.cell? ⟨p, 9, none⟩ = some x9
  c10 : W.cell? ⟨p, 10, none⟩ = some x10
  c11 : W.cell? ⟨p, 11, none⟩ = some x11
  c12 : W.cell? ⟨p, 12, none⟩ = some x12
  c13 : W.cell? ⟨p, 13, none⟩ = some x13
  c14 : W.cell? ⟨p, 14, none⟩ = some x14
  c15 : W.cell? ⟨p, 15, none⟩ = some x15
  c16 : W.cell? ⟨p, 16, none⟩ = some x16
  c17 : W.cell? ⟨p, 17, none⟩ = some x17
theorem C18.of {W : World} {p : Nat} {x0 x1 x2 x3 x4 x5 x6 x7 x8 x9 x10 x11 x12 x13 x14 x15 x16 x17 : Value} (h : W.rangeAt p 0 [x0, x1, x2, x3, x4, x5, x6, x7, x8, x9, x10, x11, x12, x13, x14, x15, x16, x17]) : C18 W p x0 x1 x2 x3 x4 x5 x6 x7 x8 x9 x10 x11 x12 x13 x14 x15 x16 x17 :=
  ⟨h 0 _ rfl, h 1 _ rfl, h 2 _ rfl, h 3 _ rfl, h 4 _ rfl, h 5 _ rfl, h 6 _ rfl, h 7 _ rfl, h 8 _ rfl, h 9 _ rfl, h 10 _ rfl, h 11 _ rfl, h 12 _ rfl, h 13 _ rfl, h 14 _ rfl, h 15 _ rfl, h 16 _ rfl, h 17 _ rfl⟩
theorem range_below {W W' : World} {p : Nat} {x : Value} {xs : List Value} (h : W.rangeAt p 0 (x :: xs)) (hb : Below W.heap.size W W') : W'.rangeAt p 0 (x :: xs) := fun j v hv =>
  (hb.cell (p := ⟨p, 0 + j, none⟩) (cell_block (h 0 _ rfl) : p < W.heap.size)).trans (h j v hv)
theorem range_new (w : World) (xs : List Value) (t : TypeId) : (w.alloc (.cells xs.toArray t)).rangeAt w.heap.size 0 xs := fun j v hv => by
  have := cells_at w xs t j v hv
  rw [Addr.add_lit] at this
  exact this
/-- What is wrong first, by what each field comes to. -/
def checkB (br ep tp pa le cl nl vl il : Int) (b0 b1 b2 b3 b4 b5 b6 b7 ff n0 n1 n2 vv r0 r1 r2 r3 : Bool) : ByteArray × Int × Int :=
  if b0 = false then (⟨#[98, 114, 111, 107, 101, 114]⟩, br, 2)
  else if b1 = false then (⟨#[101, 112, 111, 99, 104]⟩, ep, 2)
  else if b2 = false then (⟨#[116, 111, 112, 105, 99]⟩, tp, 2)
  else if b3 = false then (⟨#[112, 97, 114, 116]⟩, pa, 2)
  else if b4 = false then (⟨#[108, 101, 97, 100, 101, 114]⟩, le, 2)
  else if b5 = false ∨ b6 = false ∨ b7 = false then (⟨#[97, 115, 107, 101, 114]⟩, cl, 2)
  else if ff = true then (⟨#[102, 108, 97, 103]⟩, 1, 1)
  else if n0 = false ∨ n1 = false ∨ n2 = false then (⟨#[110, 97, 109, 101]⟩, nl, 1)
  else if vv = true then (⟨#[118, 97, 108, 117, 101]⟩, vl, 6)
  else if r0 = false ∨ r1 = false ∨ r2 = false ∨ r3 = false then (⟨#[114, 111, 119]⟩, il, 18)
  else (⟨#[]⟩, 0, 0)
theorem chk_kind {r : Rc} (h : ¬ (1 ≤ r.k ∧ r.k ≤ 12)) : chk r = (⟨#[107, 105, 110, 100]⟩, r.k, 5) := by
  unfold chk checkR
  rw [if_pos (by omega)]
theorem chk_eq {r : Rc} (h : 1 ≤ r.k ∧ r.k ≤ 12) : chk r = checkB r.br r.ep r.tp r.pa r.le r.cl r.nm.length r.va.length r.ids.length
    (numB r.br (hasL r.k 98) 1 64) (numB r.ep (hasL r.k 101) 0 1073741824) (numB r.tp (hasL r.k 116) (if r.k = 10 then 0 else 1) 1073741824) (numB r.pa (hasL r.k 112) 0 255) (numB r.le (hasL r.k 108) 0 64)
    (numB r.cl (hasL r.k 97) 1 1073741824) (numB r.se (hasL r.k 97) 1 1073741824) (numB r.co (hasL r.k 97) 0 21) (r.fl && !hasL r.k 102)
    (nameA r.nm (hasL r.k 110)) (nameA r.ky (hasL r.k 107)) (nameA r.rk (hasL r.k 114)) (decide (mostV (hasL r.k 118) r.fl < (r.va.length : Int)))
    (rowB r.ids (hasL r.k 105)) (rowB r.isr (hasL r.k 109)) (rowB r.ad (hasL r.k 120)) (rowB r.dr (hasL r.k 120)) := by
  unfold chk checkR
  rw [if_neg (by omega)]
  unfold numsR
  have hv : (256 < r.va.length ∨ (r.va.isEmpty = false ∧ (r.fl = true ∨ hasL r.k 118 = false))) ↔ decide (mostV (hasL r.k 118) r.fl < (r.va.length : Int)) = true := by
    rw [decide_eq_true_iff]
    unfold mostV
    have he : r.va.isEmpty = false ↔ 0 < r.va.length := by
      cases r.va <;> simp
    rw [he]
    by_cases q : r.fl = true ∨ hasL r.k 118 = false
    · rw [if_pos q]
      constructor
      · intro h; omega
      · intro h; exact .inr ⟨by omega, q⟩
    · rw [if_neg q]
      constructor
      · rintro (h | h)
        · omega
        · exact absurd h.2 q
      · intro h; exact .inl (by omega)
  have hf : (r.fl = true ∧ hasL r.k 102 = false) ↔ (r.fl && !hasL r.k 102) = true := by
    cases r.fl <;> cases hasL r.k 102 <;> simp
  simp only [hv, hf]
  generalize (r.fl && !hasL r.k 102) = ff
  generalize decide (mostV (hasL r.k 118) r.fl < (r.va.length : Int)) = vv
  generalize numB r.br (hasL r.k 98) 1 64 = b0
  generalize numB r.ep (hasL r.k 101) 0 1073741824 = b1
  generalize numB r.tp (hasL r.k 116) (if r.k = 10 then 0 else 1) 1073741824 = b2
  generalize numB r.pa (hasL r.k 112) 0 255 = b3
  generalize numB r.le (hasL r.k 108) 0 64 = b4
  generalize numB r.cl (hasL r.k 97) 1 1073741824 = b5
  generalize numB r.se (hasL r.k 97) 1 1073741824 = b6
  generalize numB r.co (hasL r.k 97) 0 21 = b7
  unfold checkB
  cases b0
  · simp
  cases b1
  · simp
  cases b2
  · simp
  cases b3
  · simp
  cases b4
  · simp
  cases b5
  · simp
  cases b6
  · simp
  cases b7
  · simp
  simp
end Go.Proofs.YtoioddnlkbjljaaGreatDoor
