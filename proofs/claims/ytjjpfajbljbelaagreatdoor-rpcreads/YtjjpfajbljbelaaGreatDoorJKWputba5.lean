/-
  A NUMBER, AN INT AND A FLAG WRITTEN BEHIND BYTES, at every number (wire.Num, Int, Flag). Conditions: the bytes are nil or a row of their own, and fewer than a million.
  AN APPEND OF ANY BYTES, NONE AMONG THEM, TO A ROW OF ITS OWN; the document's writers as slices. Condition: fewer than a million bytes.
  RECORDS AS BYTES, on lists alone (no program in sight): how a record is written, what is read of bytes, that what is written is read as what it was, that bytes that are read are those that are written, and that bytes cut short are none. Conditions: bytes are bytes.
  A RECORD AS A VALUE, AND IN ITS CELLS; what is wrong with it first, as a function of what each field comes to. No condition.
  WHAT A READER READS NEXT, whatever was wrong before (wire.Reader's Int, Flag, Text, Row, Refuse, Err): one state in, one state out. Conditions: the bytes' cells hold them, each is a byte, no more than a hundred thousand, they don't lie in the reader, and the reader is within them.
-/
import Derived.Test.YtjjpfajbljbelaaGreatDoorJKWput
import Derived.Test.YtjjpfajbljbelaaGreatDoorJKRecWrg
import Derived.Test.YtjjpfajbljbelaaGreatDoorJKRecSuba5
namespace Go.Proofs.YtjjpfajbljbelaaGreatDoor
open Go.RowKit
set_option maxRecDepth 100000
set_option maxHeartbeats 8000000
theorem wnum_cap (B : Nat) (v : Value) (m : Nat) (cur : List Value) (k : Int) (w : World) (hr : Rw B w v m cur) (hB : B ≤ w.heap.size) (hm : m ≤ 900000) (h0 : 4611686018427387903 < k) :
  Calls Tryz.prog 100 #[v, .int .u64 k] w fun e w' => ∃ v' cur', e = .returned v' ∧ Put B w v m cur w' v' 8 cur' (bv [255, 255, 255, 255, 255, 255, 255, 255]) := by
 obtain ⟨ao, cap, hV⟩ : ∃ ao cap, v = .slice ao m cap := by
  rcases hr.2.2 with ⟨rfl, rfl⟩ | ⟨g, rfl, _⟩
  ·have := hr.1; simp at this; subst this; exact ⟨_, _, rfl⟩
  ·exact ⟨_, _, rfl⟩
 have HS := hide (wsize_any 4611686018427387903)
 have hz : szL 4611686018427387903 = 8 := by decide
 rw [hz] at HS
 subst hV
 have HR := hide hr
 clear hr hz
 go_enter Tryz.func100, Tryz.ntmps100
 go_wp2_with (first
  | (go_at_call 101; refine (HS.out _).mono ?_; rintro e w' ⟨rfl, rfl⟩)
  | (at_builtin; refine wpList_append_rw _ rfl _ _ rfl B _ m cur rfl (HR.out.below ((Below.refl _ _).alloc (Nat.le_refl _) _)) (by simp; omega) _ 4 4 (bv [63, 255, 255, 255]) rfl rfl (by omega) (cells_at _ _ _) (one_bytes _) (by omega) ?_))
 intro w1 v1 cur1 hp1
 have HQ1 := hide (hp1.pre (w := w') hB ((Below.refl _ _).alloc (Nat.le_refl _) _))
 clear hp1 HR HS
 go_wp2_with (first
  | (at_builtin; refine wpList_append_rw _ rfl _ _ rfl B _ (m + 4) cur1 rfl (HQ1.out.rw.below ((Below.refl _ _).alloc (Nat.le_refl _) _)) (by have := HQ1.out.below.size; simp; omega) _ 2 2 (bv [255, 255]) rfl rfl (by omega) (cells_at _ _ _) (one_bytes _) (by omega) ?_))
 intro w2 v2 cur2 hp2
 have HQ2 := hide (HQ1.out.trans (hp2.pre (w := w1) (by have := HQ1.out.below.size; omega) ((Below.refl _ _).alloc (Nat.le_refl _) _)))
 clear hp2
 go_wp2_with (first
  | (at_builtin; refine wpList_append_rw _ rfl _ _ rfl B _ (m + 6) cur2 rfl (HQ2.out.rw.below ((Below.refl _ _).alloc (Nat.le_refl _) _)) (by have := HQ2.out.below.size; simp; omega) _ 1 1 (bv [255]) rfl rfl (by omega) (cells_at _ _ _) (one_bytes _) (by omega) ?_))
 intro w3 v3 cur3 hp3
 have HQ3 := hide (HQ2.out.trans (hp3.pre (w := w2) (by have := HQ2.out.below.size; omega) ((Below.refl _ _).alloc (Nat.le_refl _) _)))
 clear hp3
 go_wp2_with (first
  | (at_builtin; refine wpList_append_rw _ rfl _ _ rfl B _ (m + 7) cur3 rfl (HQ3.out.rw.below ((Below.refl _ _).alloc (Nat.le_refl _) _)) (by have := HQ3.out.below.size; simp; omega) _ 1 1 (bv [255]) rfl rfl (by omega) (cells_at _ _ _) (one_bytes _) (by omega) ?_))
 intro w4 v4 cur4 hp4
 have HQ4 := hide (HQ3.out.trans (hp4.pre (w := w3) (by have := HQ3.out.below.size; omega) ((Below.refl _ _).alloc (Nat.le_refl _) _)))
 clear hp4
 go_wp2_with fail
 have hq : Put B w' (.slice ao m cap) m cur w4 v4 8 cur4 (bv [63, 255, 255, 255, 255, 255, 255, 255]) := HQ4.out
 obtain ⟨g, rfl, hBg, hh, hcell, hfz, hlt, hle⟩ := hq.opened
 have HP := hide hq
 have HH := hide hh
 have hsz := hq.below.size
 clear hq hh HQ1 HQ2 HQ3 HQ4
 have eor2 : bits .or .u8 63 192 = 255 := by decide
 have eor : bits .or .u8 63 (IntKind.u8.wrap (IntKind.u8.wrap (IntKind.i64.wrap 3) * 64)) = 255 := by decide
 go_region_with (first | (go_at_call 124; refine (len_8 _).mono ?_; rintro e w' ⟨rfl, rfl⟩))
 all_goals go_wp2_with fail
 all_goals go_ret
 all_goals exact ⟨_, _, rfl, (HP.out.store hBg HH.out _).post (by simp; omega) ((Below.refl _ _).drew)⟩
theorem wnum_any (B : Nat) (v : Value) (m : Nat) (cur : List Value) (k : Int) (w : World) (hr : Rw B w v m cur) (hB : B ≤ w.heap.size) (hm : m ≤ 900000) (h0 : 0 ≤ k) :
  Calls Tryz.prog 100 #[v, .int .u64 k] w fun e w' => ∃ v' cur', e = .returned v' ∧ Put B w v m cur w' v' (numL (capN k)).length cur' (bv (numL (capN k))) := by
 by_cases hc : 4611686018427387903 < k
 ·rw [show capN k = 4611686018427387903 from if_pos hc, show numL 4611686018427387903 = [255, 255, 255, 255, 255, 255, 255, 255] by decide]
  exact wnum_cap B v m cur k w hr hB hm hc
 ·rw [show capN k = k from if_neg hc]
  unfold numL
  by_cases h1 : k < 64
  ·rw [if_pos h1]
   exact wnum_1 B v m cur k w hr hB hm h0 h1
  ·rw [if_neg h1]
   by_cases h2 : k < 16384
   ·rw [if_pos h2]
    exact wnum_2 B v m cur k w hr hB hm (by omega) h2
   ·rw [if_neg h2]
    by_cases h3 : k < 1073741824
    ·rw [if_pos h3]
     exact wnum_4 B v m cur k w hr hB hm (by omega) h3
    ·rw [if_neg h3]
     exact wnum_8 B v m cur k w hr hB hm (by omega) (by omega)
theorem intL_abv (k : Int) : numL (capN (abv' k)) = intL k := by
 unfold intL abv'
 split
 ·rfl
 ·rfl
theorem wint_any (B : Nat) (v : Value) (m : Nat) (cur : List Value) (k : Int) (w : World) (hr : Rw B w v m cur) (hB : B ≤ w.heap.size) (hm : m ≤ 900000) (hk : k ≤ 9223372036854775807) :
  Calls Tryz.prog 68 #[v, .int .i64 k] w fun e w' => ∃ v' cur', e = .returned v' ∧ Put B w v m cur w' v' (intL k).length cur' (bv (intL k)) := by
 have HC := hide (wnum_any B v m cur (abv' k) w hr hB hm (by unfold abv'; split <;> omega))
 rw [intL_abv] at HC
 clear hr
 go_enter Tryz.func68, Tryz.ntmps68
 go_wp2_with (first
  | (go_at_call 80; refine (natural_any k _ hk).mono ?_; rintro e w' ⟨rfl, rfl⟩)
  | (go_at_call 100; refine (HC.out).mono ?_; rintro e w' ⟨v', cur', rfl, hp⟩))
 go_ret
 exact ⟨_, _, rfl, hp⟩
theorem wflag_any (B : Nat) (v : Value) (m : Nat) (cur : List Value) (is : Bool) (w : World) (hr : Rw B w v m cur) (hB : B ≤ w.heap.size) (hm : m ≤ 900000) :
  Calls Tryz.prog 69 #[v, .bool is] w fun e w' => ∃ v' cur', e = .returned v' ∧ Put B w v m cur w' v' 1 cur' (bv [if is then 1 else 0]) := by
 have HR := hide hr
 clear hr
 cases is with
 | true =>
  go_enter Tryz.func69, Tryz.ntmps69
  go_wp2_with (first
   | (at_builtin; refine wpList_append_rw _ rfl _ _ rfl B _ m cur rfl (HR.out.below ((Below.refl _ _).alloc (Nat.le_refl _) _)) (by simp; omega) _ 1 1 (bv [1]) rfl rfl (by omega) (cells_at _ _ _) (one_bytes _) (by omega) ?_))
  intro w1 v1 cur1 hp1
  have HQ1 := hide (hp1.pre (w := w) hB ((Below.refl _ _).alloc (Nat.le_refl _) _))
  clear hp1
  go_wp2_with fail
  go_ret
  exact ⟨_, rfl, _, HQ1.out⟩
 | false =>
  go_enter Tryz.func69, Tryz.ntmps69
  go_wp2_with (first
   | (at_builtin; refine wpList_append_rw _ rfl _ _ rfl B _ m cur rfl (HR.out.below ((Below.refl _ _).alloc (Nat.le_refl _) _)) (by simp; omega) _ 1 1 (bv [0]) rfl rfl (by omega) (cells_at _ _ _) (one_bytes _) (by omega) ?_))
  intro w1 v1 cur1 hp1
  have HQ1 := hide (hp1.pre (w := w) hB ((Below.refl _ _).alloc (Nat.le_refl _) _))
  clear hp1
  go_wp2_with fail
  go_ret
  exact ⟨_, rfl, _, HQ1.out⟩
def flB (is : Bool) : Int := if is then 1 else 0
structure Gs where
 c : Int
 op : ByteArray
 pt : Nat
def okS (a : Nat) : Gs := ⟨0, ⟨#[]⟩, a⟩
def mkS (c : Int) (op : ByteArray) (n a : Nat) : Gs := if c = 0 then okS n else ⟨c, op, a⟩
theorem mkS_zero (op : ByteArray) (n a : Nat) : mkS 0 op n a = okS n := if_pos rfl
theorem mkS_c (c : Int) (op : ByteArray) (n a : Nat) : (mkS c op n a).c = c := by
 unfold mkS; split
 ·rename_i h; rw [h]; rfl
 ·rfl
theorem mkS_can {c : Int} {op : ByteArray} {n a : Nat} (h : (mkS c op n a).c = 0) : mkS c op n a = okS (mkS c op n a).pt ∧ c = 0 := by
 rw [mkS_c] at h
 subst h
 exact ⟨by rw [mkS_zero]; rfl, rfl⟩
def sb (S : List UInt8) : List Int := S.map fun x => (x.toNat : Int)
def bs (l : List Int) : List UInt8 := l.map fun x => UInt8.ofNat x.toNat
theorem sb_len (S : List UInt8) : (sb S).length = S.length := by simp [sb]
theorem bs_len (l : List Int) : (bs l).length = l.length := by simp [bs]
theorem bs_sb (S : List UInt8) : bs (sb S) = S := by
 unfold bs sb
 rw [List.map_map]
 refine (List.map_congr_left (g := id) fun x _ => ?_).trans (List.map_id S)
 simp
theorem sb_bs {l : List Int} (h : Byt l) : sb (bs l) = l := by
 unfold bs sb
 rw [List.map_map]
 refine (List.map_congr_left (g := id) fun x hx => ?_).trans (List.map_id l)
 have := h x hx
 show ((UInt8.ofNat x.toNat).toNat : Int) = x
 rw [UInt8.toNat_ofNat']
 omega
theorem sb_byt (S : List UInt8) : Byt (sb S) := by
 intro x hx
 obtain ⟨y, _, rfl⟩ := List.mem_map.1 hx
 have := y.toNat_lt
 omega
def gN (m : Int) (l : List Int) (s : Gs) : Gs × Int :=
 if s.c = 0 then (mkS (numS (l.drop s.pt) m).1 ⟨#[110, 117, 109]⟩ (s.pt + (numS (l.drop s.pt) m).2.1) s.pt, (numS (l.drop s.pt) m).2.2) else (s, 0)
def gF (l : List Int) (s : Gs) : Gs × Bool :=
 if s.c = 0 then (mkS (flagS (l.drop s.pt)).1 ⟨#[102, 108, 97, 103]⟩ (s.pt + (flagS (l.drop s.pt)).2.1) s.pt, (flagS (l.drop s.pt)).2.2) else (s, false)
def gT (l : List Int) (s : Gs) : Gs × List UInt8 :=
 if s.c = 0 then (mkS (textS l s.pt 256).1 (textS l s.pt 256).2.1 (textS l s.pt 256).2.2.1 s.pt, bs (textS l s.pt 256).2.2.2) else (s, [])
def gR (l : List Int) (s : Gs) : Gs × List Int :=
 if s.c = 0 then (mkS (rowS l s.pt 7 64).1 ⟨#[110, 117, 109]⟩ (rowS l s.pt 7 64).2.1 (rowS l s.pt 7 64).2.1, rowR (rowS l s.pt 7 64)) else (s, [])
structure Fld {α : Type} (z : α) (g : List Int → Gs → Gs × α) (en : α → List Int) (ok : α → Prop) : Prop where
 stay : ∀ l s, s.c ≠ 0 → g l s = (s, z)
 can : ∀ l a, (g l (okS a)).1.c = 0 → (g l (okS a)).1 = okS (g l (okS a)).1.pt
 back : ∀ P x Q, ok x → g (P ++ (en x ++ Q)) (okS P.length) = (okS (P.length + (en x).length), x)
 once : ∀ l a b x, Byt l → a ≤ l.length → g l (okS a) = (okS b, x) → ok x ∧ a ≤ b ∧ b ≤ l.length ∧ l.drop a = en x ++ l.drop b
 cut : ∀ l a n b x, g l (okS a) = (okS b, x) → a ≤ n → (b ≤ n ∧ g (l.take n) (okS a) = (okS b, x)) ∨ (n < b ∧ (g (l.take n) (okS a)).1.c = 3)
theorem okS_inj {a b : Nat} (h : okS a = okS b) : a = b := congrArg Gs.pt h
theorem numS_take {r : List Int} {most : Int} {k : Nat} {n : Int} (h : numS r most = (0, k, n)) (m : Nat) : numS (r.take m) most = if k ≤ m then (0, k, n) else (3, 0, 0) := by
 rcases r with _ | ⟨x0, r⟩
 ·simp [numS] at h
 rcases m with _ | m
 ·have hk : ¬ k ≤ 0 := by
   unfold numS at h
   simp only at h
   split at h
   ·obtain ⟨rfl, _⟩ := fin_inv h; omega
   ·split at h
    ·split at h
     ·obtain ⟨rfl, _⟩ := fin_inv h; omega
     ·simp at h
    ·split at h
     ·split at h
      ·obtain ⟨rfl, _⟩ := fin_inv h; omega
      ·simp at h
     ·split at h
      ·obtain ⟨rfl, _⟩ := fin_inv h; omega
      ·simp at h
  rw [if_neg hk]
  rfl
 unfold numS at h
 simp only at h
 rw [List.take_succ_cons]
 unfold numS
 simp only
 split at h
 ·rename_i h0
  rw [if_pos h0, h]
  obtain ⟨rfl, _⟩ := fin_inv h
  rw [if_pos (by omega)]
 ·rename_i h0
  rw [if_neg h0]
  split at h
  ·rename_i h1
   rw [if_pos h1]
   split at h
   ·obtain ⟨rfl, _⟩ := fin_inv h
    rcases m with _ | m
    ·rfl
    ·rw [List.take_succ_cons, if_pos (by omega)]; exact h
   ·simp at h
  ·rename_i h1
   rw [if_neg h1]
   split at h
   ·rename_i h2
    rw [if_pos h2]
    split at h
    ·obtain ⟨rfl, _⟩ := fin_inv h
     rcases m with _ | _ | _ | m
     ·rfl
     ·rfl
     ·rfl
     ·simp only [List.take_succ_cons]
      rw [if_pos (by omega)]; exact h
    ·simp at h
   ·rename_i h2
    rw [if_neg h2]
    split at h
    ·obtain ⟨rfl, _⟩ := fin_inv h
     rcases m with _ | _ | _ | _ | _ | _ | _ | m
     ·rfl
     ·rfl
     ·rfl
     ·rfl
     ·rfl
     ·rfl
     ·rfl
     ·simp only [List.take_succ_cons]
      rw [if_pos (by omega)]; exact h
    ·simp at h
theorem numS_cut {l : List Int} {most : Int} {a k : Nat} {x : Int} (h : numS (l.drop a) most = (0, k, x)) (n : Nat) (ha : a ≤ n) : numS ((l.take n).drop a) most = if a + k ≤ n then (0, k, x) else (3, 0, 0) := by
 rw [List.drop_take, numS_take h]
 by_cases hk : k ≤ n - a
 ·rw [if_pos hk, if_pos (by omega)]
 ·rw [if_neg hk, if_neg (by omega)]
theorem drop_once {l : List Int} {a k : Nat} {e : List Int} (h : (l.drop a).take k = e) : l.drop a = e ++ l.drop (a + k) := by
 have := (List.take_append_drop k (l.drop a)).symm
 rw [h, List.drop_drop] at this
 exact this
theorem fldN (m : Int) (hm : m ≤ 1073741824) : Fld (0 : Int) (gN m) intL (fun x => 0 ≤ x ∧ x ≤ m) where
 stay l s h := if_neg h
 can l a h := by
  simp only [gN, okS, if_true] at h ⊢
  exact (mkS_can h).1
 back P x Q h := by
  simp only [gN, okS, if_true]
  rw [numS_back P Q h.1 (by omega) h.2]
  simp only [mkS_zero, okS]
 once l a b x hb ha h := by
  simp only [gN, okS, if_true] at h
  obtain ⟨h1, h2⟩ := Prod.mk.inj h
  have hc : (mkS (numS (l.drop a) m).1 ⟨#[110, 117, 109]⟩ (a + (numS (l.drop a) m).2.1) a).c = 0 := by rw [h1]
  rcases hq : numS (l.drop a) m with ⟨c, k, n⟩
  rw [hq] at h1 h2 hc
  obtain rfl : c = 0 := (mkS_can hc).2
  obtain ⟨e1, e2, e3, e4, e5, e6⟩ := numS_once (fun x hx => hb x (List.mem_of_mem_drop hx)) hq
  simp only at h2
  subst h2
  simp only [mkS_zero] at h1
  obtain rfl : a + k = b := okS_inj h1
  rw [List.length_drop] at e6
  refine ⟨⟨e3, e5⟩, by omega, by omega, ?_⟩
  rw [intL_num e3 e4]
  exact drop_once e1
 cut l a n b x h ha := by
  simp only [gN, okS, if_true] at h ⊢
  obtain ⟨h1, h2⟩ := Prod.mk.inj h
  have hc : (mkS (numS (l.drop a) m).1 ⟨#[110, 117, 109]⟩ (a + (numS (l.drop a) m).2.1) a).c = 0 := by rw [h1]
  rcases hq : numS (l.drop a) m with ⟨c, k, n'⟩
  rw [hq] at h1 h2 hc
  obtain rfl : c = 0 := (mkS_can hc).2
  simp only [mkS_zero] at h1
  obtain rfl : a + k = b := okS_inj h1
  simp only at h2
  subst h2
  rw [numS_cut hq n ha]
  by_cases hk : a + k ≤ n
  ·rw [if_pos hk]
   exact .inl ⟨hk, by simp only [mkS_zero, okS]⟩
  ·rw [if_neg hk]
   exact .inr ⟨by omega, mkS_c _ _ _ _⟩
theorem fldF : Fld false gF (fun f => [flB f]) (fun _ => True) where
 stay l s h := if_neg h
 can l a h := by
  simp only [gF, okS, if_true] at h ⊢
  exact (mkS_can h).1
 back P x Q h := by
  simp only [gF, okS, if_true]
  rw [List.drop_left]
  cases x <;> simp [flagS, flB, mkS, okS]
 once l a b x hb ha h := by
  simp only [gF, okS, if_true] at h
  obtain ⟨h1, h2⟩ := Prod.mk.inj h
  have hc : (mkS (flagS (l.drop a)).1 ⟨#[102, 108, 97, 103]⟩ (a + (flagS (l.drop a)).2.1) a).c = 0 := by rw [h1]
  have hbd : Byt (l.drop a) := fun x hx => hb x (List.mem_of_mem_drop hx)
  have hlen : (l.drop a).length = l.length - a := List.length_drop
  have hd1 : l.drop (a + 1) = (l.drop a).drop 1 := by rw [List.drop_drop]
  rcases hq : l.drop a with _ | ⟨y, r⟩
  ·rw [hq] at hc; simp [flagS, mkS] at hc
  ·rw [hq] at h1 h2 hc hbd hlen hd1
   simp only [flagS] at h1 h2 hc
   by_cases h3 : 1 < y
   ·simp only [if_pos h3, mkS_c] at hc; omega
   ·simp only [if_neg h3, mkS_zero] at h1 h2
    obtain rfl : a + 1 = b := okS_inj h1
    have := hbd y (by simp)
    refine ⟨trivial, by omega, by simp at hlen; omega, ?_⟩
    rw [hd1]
    simp only [List.drop_succ_cons, List.drop_zero, List.cons_append, List.nil_append]
    congr 1
    rw [← h2]
    by_cases h4 : y = 1
    ·simp [h4, flB]
    ·simp [h4, flB]; omega
 cut l a n b x h ha := by
  simp only [gF, okS, if_true] at h ⊢
  obtain ⟨h1, h2⟩ := Prod.mk.inj h
  have hc : (mkS (flagS (l.drop a)).1 ⟨#[102, 108, 97, 103]⟩ (a + (flagS (l.drop a)).2.1) a).c = 0 := by rw [h1]
  rw [List.drop_take]
  rcases hq : l.drop a with _ | ⟨y, r⟩
  ·rw [hq] at hc; simp [flagS, mkS] at hc
  ·rw [hq] at h1 h2 hc
   simp only [flagS] at h1 h2 hc
   by_cases h3 : 1 < y
   ·simp only [if_pos h3, mkS_c] at hc; omega
   ·simp only [if_neg h3, mkS_zero] at h1 h2
    obtain rfl : a + 1 = b := okS_inj h1
    by_cases hk : a + 1 ≤ n
    ·obtain ⟨d, hd⟩ : ∃ d, n - a = d + 1 := ⟨n - a - 1, by omega⟩
     rw [hd, List.take_succ_cons]
     simp only [flagS, if_neg h3, mkS_zero]
     exact .inl ⟨hk, by rw [h2]; rfl⟩
    ·obtain hd : n - a = 0 := by omega
     rw [hd]
     exact .inr ⟨by omega, mkS_c _ _ _ _⟩
def enT (S : List UInt8) : List Int := intL S.length ++ sb S
def enR (r : List Int) : List Int := intL r.length ++ rowL r
theorem textS_can {l : List Int} {a : Nat} (h : (textS l a 256).1 = 0) : ∃ k N, numS (l.drop a) 256 = (0, k, N) ∧ ¬ ((l.length - (a + k) : Nat) : Int) < N ∧ textS l a 256 = (0, ⟨#[110, 117, 109]⟩, a + k + N.toNat, (l.drop (a + k)).take N.toNat) := by
 unfold textS at h ⊢
 rw [show abv' 256 = 256 from rfl] at h ⊢
 rcases hq : numS (l.drop a) 256 with ⟨c, k, N⟩
 rw [hq] at h
 simp only at h ⊢
 by_cases hc : c = 0
 ·subst hc
  simp only [if_true] at h ⊢
  by_cases hs : ((l.length - (a + k) : Nat) : Int) < N
  ·rw [if_pos hs] at h; simp at h
  ·exact ⟨k, N, rfl, hs, by rw [if_neg hs]⟩
 ·rw [if_neg hc] at h; exact absurd h hc
theorem fldT : Fld ([] : List UInt8) gT enT (fun S => S.length ≤ 256) where
 stay l s h := if_neg h
 can l a h := by
  simp only [gT, okS, if_true] at h ⊢
  exact (mkS_can h).1
 back P S Q h := by
  simp only [gT, okS, if_true]
  unfold enT
  rw [← sb_len]
  rw [textS_back P (sb S) Q (by rw [sb_len]; omega) (by rw [sb_len]; omega)]
  simp only [mkS_zero, okS, bs_sb, List.length_append]
 once l a b x hb ha h := by
  simp only [gT, okS, if_true] at h
  obtain ⟨h1, h2⟩ := Prod.mk.inj h
  have hc : (mkS (textS l a 256).1 (textS l a 256).2.1 (textS l a 256).2.2.1 a).c = 0 := by rw [h1]
  obtain ⟨k, N, hq, hs, ht⟩ := textS_can (mkS_can hc).2
  rw [ht] at h1 h2
  simp only [mkS_zero] at h1 h2
  have hbd : Byt (l.drop a) := fun x hx => hb x (List.mem_of_mem_drop hx)
  obtain ⟨e1, e2, e3, e4, e5, e6⟩ := numS_once hbd hq
  rw [List.length_drop] at e6
  obtain rfl : a + k + N.toNat = b := okS_inj h1
  have hby2 : Byt ((l.drop (a + k)).take N.toNat) := fun x hx => hb x (List.mem_of_mem_drop (List.mem_of_mem_take hx))
  have hlen : x.length = N.toNat := by rw [← h2, bs_len, List.length_take, List.length_drop]; omega
  refine ⟨by rw [hlen]; omega, by omega, by omega, ?_⟩
  unfold enT
  rw [hlen, show ((N.toNat : Nat) : Int) = N by omega, intL_num e3 e4, ← h2, sb_bs hby2, List.append_assoc, drop_once e1]
  congr 1
  exact drop_once rfl
 cut l a n b x h ha := by
  simp only [gT, okS, if_true] at h ⊢
  obtain ⟨h1, h2⟩ := Prod.mk.inj h
  have hc : (mkS (textS l a 256).1 (textS l a 256).2.1 (textS l a 256).2.2.1 a).c = 0 := by rw [h1]
  obtain ⟨k, N, hq, hs, ht⟩ := textS_can (mkS_can hc).2
  rw [ht] at h1 h2
  simp only [mkS_zero] at h1 h2
  obtain rfl : a + k + N.toNat = b := okS_inj h1
  have hq2 := numS_cut hq n ha
  unfold textS
  rw [show abv' 256 = 256 from rfl, hq2]
  by_cases hk : a + k ≤ n
  ·rw [if_pos hk]
   simp only [if_true]
   by_cases hn : a + k + N.toNat ≤ n
   ·rw [if_neg (by rw [List.length_take]; omega)]
    refine .inl ⟨hn, ?_⟩
    simp only [mkS_zero]
    rw [List.drop_take, List.take_take, show min N.toNat (n - (a + k)) = N.toNat by omega, h2]
    rfl
   ·rw [if_pos (by rw [List.length_take]; omega)]
    exact .inr ⟨by omega, mkS_c _ _ _ _⟩
  ·rw [if_neg hk]
   exact .inr ⟨by omega, mkS_c _ _ _ _⟩
theorem rowI_zero {l : List Int} {m : Int} {a : Nat} {j i : Nat} (h : (rowI l m a j).1 = 0) (hi : i ≤ j) : (rowI l m a i).1 = 0 := by
 by_cases q : (rowI l m a i).1 = 0
 ·exact q
 ·have := rowI_stays q (j - i)
  rw [show i + (j - i) = j by omega] at this
  rw [this] at h
  exact h
theorem rowI_step {l : List Int} {m : Int} {a : Nat} {j : Nat} (h : (rowI l m a (j + 1)).1 = 0) : ∃ k x, numS (l.drop (rowI l m a j).2.1) m = (0, k, x) ∧ rowI l m a (j + 1) = (0, (rowI l m a j).2.1 + k, (rowI l m a j).2.2 ++ [x]) := by
 have h0 := rowI_zero h (Nat.le_succ j)
 rcases hq : numS (l.drop (rowI l m a j).2.1) m with ⟨c, k, x⟩
 by_cases hc : c = 0
 ·subst hc
  exact ⟨k, x, rfl, rowI_ok h0 hq⟩
 ·rw [rowI_bad h0 hq hc] at h
  exact absurd h hc
theorem rowI_once {l : List Int} {m : Int} {a : Nat} (hb : Byt l) (ha : a ≤ l.length) : ∀ j, (rowI l m a j).1 = 0 → (rowI l m a j).2.2.length = j ∧ (∀ x ∈ (rowI l m a j).2.2, 0 ≤ x ∧ x ≤ m) ∧ a ≤ (rowI l m a j).2.1 ∧ (rowI l m a j).2.1 ≤ l.length ∧ l.drop a = rowL (rowI l m a j).2.2 ++ l.drop (rowI l m a j).2.1
 | 0, _ => ⟨rfl, fun x hx => by simp [rowI] at hx, Nat.le_refl _, ha, by simp [rowI, rowL]⟩
 | j + 1, h => by
  obtain ⟨k, x, hq, he⟩ := rowI_step h
  obtain ⟨i1, i2, i3, i4, i5⟩ := rowI_once hb ha j (rowI_zero h (Nat.le_succ j))
  obtain ⟨e1, e2, e3, e4, e5, e6⟩ := numS_once (fun x hx => hb x (List.mem_of_mem_drop hx)) hq
  rw [List.length_drop] at e6
  rw [he]
  refine ⟨by simp [i1], fun y hy => ?_, by show a ≤ _ + k; omega, by show _ + k ≤ _; omega, ?_⟩
  ·rcases List.mem_append.1 hy with q | q
   ·exact i2 y q
   ·simp at q; subst q; exact ⟨e3, e5⟩
  ·rw [i5, drop_once e1]
   simp only [rowL, List.flatMap_append, List.flatMap_cons, List.flatMap_nil, List.append_nil, List.append_assoc]
   rw [intL_num e3 e4]
theorem rowI_cut {l : List Int} {m : Int} {a n : Nat} (ha : a ≤ n) : ∀ j, (rowI l m a j).1 = 0 → ((rowI l m a j).2.1 ≤ n ∧ rowI (l.take n) m a j = rowI l m a j) ∨ (n < (rowI l m a j).2.1 ∧ (rowI (l.take n) m a j).1 = 3)
 | 0, _ => .inl ⟨ha, rfl⟩
 | j + 1, h => by
  obtain ⟨k, x, hq, he⟩ := rowI_step h
  rcases rowI_cut ha j (rowI_zero h (Nat.le_succ j)) with ⟨h1, h2⟩ | ⟨h1, h2⟩
  ·have hc := numS_cut hq n h1
   by_cases hk : (rowI l m a j).2.1 + k ≤ n
   ·rw [if_pos hk] at hc
    refine .inl ⟨by rw [he]; exact hk, ?_⟩
    rw [he, rowI_ok (k := k) (x := x) (by rw [h2]; exact rowI_zero h (Nat.le_succ j)) (by rw [h2]; exact hc), h2]
   ·rw [if_neg hk] at hc
    refine .inr ⟨by rw [he]; show n < _ + k; omega, ?_⟩
    rw [rowI_bad (c := 3) (k := 0) (x := 0) (by rw [h2]; exact rowI_zero h (Nat.le_succ j)) (by rw [h2]; exact hc) (by decide)]
  ·refine .inr ⟨by rw [he]; show n < _ + k; omega, ?_⟩
   have := rowI_stays (l := l.take n) (most := m) (a := a) (j := j) (by rw [h2]; decide) 1
   rw [this]
   exact h2
theorem rowS_can {l : List Int} {a : Nat} (h : (rowS l a 7 64).1 = 0) : ∃ k N, numS (l.drop a) 7 = (0, k, N) ∧ rowS l a 7 64 = rowI l 64 (a + k) N.toNat := by
 unfold rowS at h ⊢
 rw [show abv' 7 = 7 from rfl, show abv' 64 = 64 from rfl] at h ⊢
 rcases hq : numS (l.drop a) 7 with ⟨c, k, N⟩
 rw [hq] at h
 simp only at h ⊢
 by_cases hc : c = 0
 ·subst hc
  exact ⟨k, N, rfl, rfl⟩
 ·rw [if_neg hc] at h; exact absurd h hc
theorem rowS_mid (P l Q : List Int) {m m2 : Int} (hl : l.length ≤ 4000) (hm : (l.length : Int) ≤ m) (hm2 : 0 ≤ m2) (h : ∀ i (hi : i < l.length), 0 ≤ l[i] ∧ l[i] ≤ 4611686018427387903 ∧ l[i] ≤ m2) :
  rowS (P ++ ((intL l.length ++ rowL l) ++ Q)) P.length m m2 = (0, (P ++ (intL l.length ++ rowL l)).length, l) := by
 unfold rowS
 rw [abv_pos (by omega), abv_pos hm2, List.append_assoc (intL _), numS_back P (rowL l ++ Q) (by omega) (by omega) hm]
 simp only [if_true, Int.toNat_natCast]
 have := rowI_back (P ++ intL l.length) l Q h l.length (Nat.le_refl _)
 rw [List.take_length, List.append_assoc, List.length_append] at this
 rw [this, List.append_assoc]
theorem fldR : Fld ([] : List Int) gR enR (fun r => r.length ≤ 7 ∧ ∀ x ∈ r, 0 ≤ x ∧ x ≤ 64) where
 stay l s h := if_neg h
 can l a h := by
  simp only [gR, okS, if_true] at h ⊢
  exact (mkS_can h).1
 back P r Q h := by
  simp only [gR, okS, if_true]
  unfold enR
  rw [rowS_mid P r Q (by omega) (by omega) (by omega) (fun i hi => by have := h.2 r[i] (List.getElem_mem hi); omega)]
  simp only [mkS_zero, okS, rowR, if_true, List.length_append]
 once l a b x hb ha h := by
  simp only [gR, okS, if_true] at h
  obtain ⟨h1, h2⟩ := Prod.mk.inj h
  have hc : (mkS (rowS l a 7 64).1 ⟨#[110, 117, 109]⟩ (rowS l a 7 64).2.1 (rowS l a 7 64).2.1).c = 0 := by rw [h1]
  have hz := (mkS_can hc).2
  obtain ⟨k, N, hq, ht⟩ := rowS_can hz
  obtain ⟨e1, e2, e3, e4, e5, e6⟩ := numS_once (fun x hx => hb x (List.mem_of_mem_drop hx)) hq
  rw [List.length_drop] at e6
  rw [rowR, if_pos hz] at h2
  rw [hz, mkS_zero] at h1
  rw [ht] at h1 h2 hz
  obtain ⟨i1, i2, i3, i4, i5⟩ := rowI_once (m := 64) hb (show a + k ≤ l.length by omega) N.toNat hz
  rw [h2] at i1 i2 i5
  obtain rfl := okS_inj h1
  refine ⟨⟨by omega, i2⟩, by omega, by omega, ?_⟩
  unfold enR
  rw [i1, show ((N.toNat : Nat) : Int) = N by omega, intL_num e3 e4, drop_once e1, List.append_assoc, ← i5]
 cut l a n b x h ha := by
  simp only [gR, okS, if_true] at h ⊢
  obtain ⟨h1, h2⟩ := Prod.mk.inj h
  have hc : (mkS (rowS l a 7 64).1 ⟨#[110, 117, 109]⟩ (rowS l a 7 64).2.1 (rowS l a 7 64).2.1).c = 0 := by rw [h1]
  have hz := (mkS_can hc).2
  obtain ⟨k, N, hq, ht⟩ := rowS_can hz
  rw [rowR, if_pos hz] at h2
  rw [hz, mkS_zero] at h1
  rw [ht] at h1 h2 hz
  obtain rfl := okS_inj h1
  have hq2 := numS_cut hq n ha
  have hu : rowS (l.take n) a 7 64 = if a + k ≤ n then rowI (l.take n) 64 (a + k) N.toNat else (3, a, []) := by
   unfold rowS
   rw [show abv' 7 = 7 from rfl, show abv' 64 = 64 from rfl, hq2]
   by_cases hk : a + k ≤ n
   ·simp only [if_pos hk, if_true]
   ·simp only [if_neg hk]; rfl
  have hge : ∀ j, a + k ≤ (rowI l 64 (a + k) j).2.1 := by
   intro j
   induction j with
   | zero => exact Nat.le_refl _
   | succ j ih =>
    by_cases q : (rowI l 64 (a + k) j).1 = 0
    ·rcases hq : numS (l.drop (rowI l 64 (a + k) j).2.1) 64 with ⟨c, k', x'⟩
     by_cases hc : c = 0
     ·subst hc
      rw [rowI_ok q hq]
      show a + k ≤ _ + k'
      omega
     ·rw [rowI_bad q hq hc]
      exact ih
    ·rw [rowI_stays q 1]
     exact ih
  rw [hu]
  by_cases hk : a + k ≤ n
  ·rw [if_pos hk]
   rcases rowI_cut (l := l) (m := 64) hk N.toNat hz with ⟨g1, g2⟩ | ⟨g1, g2⟩
   ·rw [g2, hz, mkS_zero]
    refine .inl ⟨g1, ?_⟩
    rw [rowR, if_pos hz, h2]
    rfl
   ·refine .inr ⟨g1, ?_⟩
    rw [g2]
    exact mkS_c _ _ _ _
  ·rw [if_neg hk]
   refine .inr ⟨by have := hge N.toNat; omega, mkS_c _ _ _ _⟩
def fL {α : Type} (z : α) (g : Gs → Gs × α) : List Bool → Gs → Gs × List α
 | [], s => (s, [])
 | h :: hs, s => let q := if h then g s else (s, z); let r := fL z g hs q.1; (r.1, q.2 :: r.2)
def encs {α : Type} (en : α → List Int) : List Bool → List α → List Int
 | h :: hs, x :: xs => (if h then en x else []) ++ encs en hs xs
 | _, _ => []
def Ok2 {α : Type} (z : α) (ok : α → Prop) : List Bool → List α → Prop
 | [], [] => True
 | h :: hs, x :: xs => (if h then ok x else x = z) ∧ Ok2 z ok hs xs
 | _, _ => False
theorem fL_snoc {α : Type} (z : α) (g : Gs → Gs × α) (h : Bool) : ∀ (hs : List Bool) (s : Gs), fL z g (hs ++ [h]) s = ((if h then g (fL z g hs s).1 else ((fL z g hs s).1, z)).1, (fL z g hs s).2 ++ [(if h then g (fL z g hs s).1 else ((fL z g hs s).1, z)).2])
 | [], s => rfl
 | k :: hs, s => by
  have e := fL_snoc z g h hs (if k then g s else (s, z)).1
  simp only [List.cons_append, fL]
  rw [e]
theorem fL_len {α : Type} (z : α) (g : Gs → Gs × α) : ∀ (hs : List Bool) (s : Gs), (fL z g hs s).2.length = hs.length
 | [], _ => rfl
 | k :: hs, s => by
  show (_ :: _).length = _
  rw [List.length_cons, fL_len z g hs]
  rfl
theorem encs_snoc {α : Type} (en : α → List Int) (h : Bool) (x : α) : ∀ (hs : List Bool) (xs : List α), hs.length = xs.length → encs en (hs ++ [h]) (xs ++ [x]) = encs en hs xs ++ (if h then en x else [])
 | [], [], _ => by simp [encs]
 | [], y :: xs, e => by simp at e
 | k :: hs, [], e => by simp at e
 | k :: hs, y :: xs, e => by
  show _ ++ encs en (hs ++ [h]) (xs ++ [x]) = (_ ++ encs en hs xs) ++ _
  rw [encs_snoc en h x hs xs (by simpa using e), List.append_assoc]
section
variable {α : Type} {z : α} {g : List Int → Gs → Gs × α} {en : α → List Int} {ok : α → Prop}
theorem fL_stay (F : Fld z g en ok) (l : List Int) : ∀ (hs : List Bool) (s : Gs), s.c ≠ 0 → (fL z (g l) hs s).1 = s
 | [], s, _ => rfl
 | h :: hs, s, hc => by
  show (fL z (g l) hs (if h then g l s else (s, z)).1).1 = s
  rw [show (if h then g l s else (s, z)) = (s, z) by cases h <;> simp [F.stay l s hc]]
  exact fL_stay F l hs s hc
theorem fL_can (F : Fld z g en ok) (l : List Int) : ∀ (hs : List Bool) (a : Nat), (fL z (g l) hs (okS a)).1.c = 0 → (fL z (g l) hs (okS a)).1 = okS (fL z (g l) hs (okS a)).1.pt
 | [], a, _ => rfl
 | h :: hs, a, hc => by
  have e : (fL z (g l) (h :: hs) (okS a)).1 = (fL z (g l) hs (if h then g l (okS a) else (okS a, z)).1).1 := rfl
  rw [e] at hc ⊢
  by_cases hz : (if h then g l (okS a) else (okS a, z)).1.c = 0
  ·have hk : (if h then g l (okS a) else (okS a, z)).1 = okS (if h then g l (okS a) else (okS a, z)).1.pt := by
    cases h
    ·rfl
    ·exact F.can l a hz
   rw [hk] at hc ⊢
   exact fL_can F l hs _ hc
  ·rw [fL_stay F l hs _ hz] at hc
   exact absurd hc hz
theorem fL_back {α : Type} {z : α} {g : List Int → Gs → Gs × α} {en : α → List Int} {ok : α → Prop} (F : Fld z g en ok) : ∀ (hs : List Bool) (xs : List α) (P Q : List Int), Ok2 z ok hs xs → fL z (g (P ++ (encs en hs xs ++ Q))) hs (okS P.length) = (okS (P.length + (encs en hs xs).length), xs)
 | [], [], P, Q, _ => by simp [fL, encs]
 | [], y :: xs, P, Q, e => by simp [Ok2] at e
 | h :: hs, [], P, Q, e => by simp [Ok2] at e
 | h :: hs, x :: xs, P, Q, e => by
  obtain ⟨e1, e2⟩ := e
  cases h with
  | false =>
   simp only [Bool.false_eq_true, if_false] at e1
   subst e1
   have := fL_back F hs xs P Q e2
   simp only [fL, encs, Bool.false_eq_true, if_false, List.nil_append]
   rw [this]
  | true =>
   simp only [if_true] at e1
   have h1 := F.back P x (encs en hs xs ++ Q) e1
   have h2 := fL_back F hs xs (P ++ en x) Q e2
   rw [List.length_append, List.append_assoc] at h2
   simp only [fL, encs, if_true, List.append_assoc]
   rw [h1]
   simp only
   rw [h2]
   simp only [List.length_append, Nat.add_assoc]
theorem fL_once (F : Fld z g en ok) (l : List Int) (hb : Byt l) : ∀ (hs : List Bool) (a b : Nat) (xs : List α), a ≤ l.length → fL z (g l) hs (okS a) = (okS b, xs) → Ok2 z ok hs xs ∧ a ≤ b ∧ b ≤ l.length ∧ l.drop a = encs en hs xs ++ l.drop b
 | [], a, b, xs, ha, h => by
  obtain ⟨h1, h2⟩ := Prod.mk.inj h
  obtain rfl := okS_inj h1
  subst h2
  exact ⟨trivial, Nat.le_refl _, ha, by simp [encs]⟩
 | false :: hs, a, b, xs, ha, h => by
  obtain ⟨h1, h2⟩ := Prod.mk.inj h
  simp only [Bool.false_eq_true, if_false] at h1 h2
  subst h2
  obtain ⟨i1, i2, i3, i4⟩ := fL_once F l hb hs a b _ ha (Prod.ext h1 rfl)
  exact ⟨⟨rfl, i1⟩, i2, i3, by simpa [encs] using i4⟩
 | true :: hs, a, b, xs, ha, h => by
  obtain ⟨h1, h2⟩ := Prod.mk.inj h
  simp only [if_true] at h1 h2
  subst h2
  by_cases hz : (g l (okS a)).1.c = 0
  ·have hk := F.can l a hz
   obtain ⟨e1, e2, e3, e4⟩ := F.once l a (g l (okS a)).1.pt (g l (okS a)).2 hb ha (Prod.ext hk rfl)
   rw [hk] at h1
   obtain ⟨i1, i2, i3, i4⟩ := fL_once F l hb hs _ b _ e3 (Prod.ext h1 rfl)
   rw [hk]
   refine ⟨⟨e1, i1⟩, by omega, i3, ?_⟩
   rw [e4, i4]
   simp [encs]
  ·rw [fL_stay F l hs _ hz] at h1
   rw [h1] at hz
   exact absurd rfl hz
end
structure Rc where
 k : Int
 br : Int
 ep : Int
 tp : Int
 pa : Int
 le : Int
 cl : Int
 se : Int
 co : Int
 fl : Bool
 nm : List UInt8
 ky : List UInt8
 va : List UInt8
 rk : List UInt8
 ids : List Int
 isr : List Int
 ad : List Int
 dr : List Int
def Rc.zero : Rc := ⟨0, 0, 0, 0, 0, 0, 0, 0, 0, false, [], [], [], [], [], [], [], []⟩
def Rc.ns (r : Rc) : List Int := [r.br, r.ep, r.tp, r.pa, r.le, r.cl, r.se, r.co]
def Rc.ts (r : Rc) : List (List UInt8) := [r.nm, r.ky, r.va, r.rk]
def Rc.rs (r : Rc) : List (List Int) := [r.ids, r.isr, r.ad, r.dr]
def mkR (k : Int) (n : List Int) (f : List Bool) (t : List (List UInt8)) (r : List (List Int)) : Rc :=
 ⟨k, n.getD 0 0, n.getD 1 0, n.getD 2 0, n.getD 3 0, n.getD 4 0, n.getD 5 0, n.getD 6 0, n.getD 7 0, f.getD 0 false, t.getD 0 [], t.getD 1 [], t.getD 2 [], t.getD 3 [], r.getD 0 [], r.getD 1 [], r.getD 2 [], r.getD 3 []⟩
def hN (k : Int) : List Bool := [hasL k 98, hasL k 101, hasL k 116, hasL k 112, hasL k 108, hasL k 97, hasL k 97, hasL k 97]
def hF (k : Int) : List Bool := [hasL k 102]
def hT (k : Int) : List Bool := [hasL k 110, hasL k 107, hasL k 118, hasL k 114]
def hR (k : Int) : List Bool := [hasL k 105, hasL k 109, hasL k 120, hasL k 120]
def chk (r : Rc) : ByteArray × Int × Int := checkR r.k r.br r.ep r.tp r.pa r.le r.cl r.se r.co r.fl r.nm r.ky r.va r.rk r.ids r.isr r.ad r.dr
def tailL (r : Rc) : List Int := encs intL (hN r.k) r.ns ++ (encs (fun f => [flB f]) (hF r.k) [r.fl] ++ (encs enT (hT r.k) r.ts ++ encs enR (hR r.k) r.rs))
def putL (r : Rc) : List Int := r.k :: tailL r
def bodyG (l : List Int) (k : Int) (s : Gs) : Gs × Rc :=
 let n := fL 0 (gN 1073741824 l) (hN k) s
 let f := fL false (gF l) (hF k) n.1
 let t := fL [] (gT l) (hT k) f.1
 let r := fL [] (gR l) (hR k) t.1
 (r.1, mkR k n.2 f.2 t.2 r.2)
def readG (l : List Int) (s : Gs) : Gs × Rc :=
 let q := gN 63 l s
 if 1 ≤ q.2 ∧ q.2 ≤ 12 then
  let b := bodyG l q.2 q.1
  if b.1.c = 0 then (if (chk b.2).2.2 = 0 then b else (⟨(chk b.2).2.2, ⟨#[114, 101, 99, 111, 114, 100]⟩, b.1.pt⟩, Rc.zero)) else (b.1, Rc.zero)
 else (if q.1.c = 0 then ⟨5, ⟨#[107, 105, 110, 100]⟩, q.1.pt⟩ else q.1, Rc.zero)
def RcOk (r : Rc) : Prop := Ok2 0 (fun x => 0 ≤ x ∧ x ≤ 1073741824) (hN r.k) r.ns ∧ Ok2 false (fun _ => True) (hF r.k) [r.fl] ∧ Ok2 [] (fun S => S.length ≤ 256) (hT r.k) r.ts ∧ Ok2 [] (fun r => r.length ≤ 7 ∧ ∀ x ∈ r, 0 ≤ x ∧ x ≤ 64) (hR r.k) r.rs
theorem F30 : Fld (0 : Int) (gN 1073741824) intL (fun x => 0 ≤ x ∧ x ≤ 1073741824) := fldN _ (by decide)
theorem body_back (r : Rc) (h : RcOk r) (P Q : List Int) : bodyG (P ++ (tailL r ++ Q)) r.k (okS P.length) = (okS (P.length + (tailL r).length), r) := by
 obtain ⟨h1, h2, h3, h4⟩ := h
 unfold bodyG tailL
 simp only
 generalize hA : encs intL (hN r.k) r.ns = A
 generalize hB : encs (fun f => [flB f]) (hF r.k) [r.fl] = B
 generalize hC : encs enT (hT r.k) r.ts = C
 generalize hD : encs enR (hR r.k) r.rs = D
 have e1 := fL_back F30 (hN r.k) r.ns P (B ++ (C ++ (D ++ Q))) h1
 have e2 := fL_back fldF (hF r.k) [r.fl] (P ++ A) (C ++ (D ++ Q)) h2
 have e3 := fL_back fldT (hT r.k) r.ts (P ++ (A ++ B)) (D ++ Q) h3
 have e4 := fL_back fldR (hR r.k) r.rs (P ++ (A ++ (B ++ C))) Q h4
 rw [hA] at e1
 rw [hB] at e2
 rw [hC] at e3
 rw [hD] at e4
 simp only [List.append_assoc, List.length_append, Nat.add_assoc] at e1 e2 e3 e4 ⊢
 rw [e1]
 simp only
 rw [e2]
 simp only
 rw [e3]
 simp only
 rw [e4]
 rfl
theorem body_once (l : List Int) (hb : Byt l) (k : Int) (a b : Nat) (x : Rc) (ha : a ≤ l.length) (h : bodyG l k (okS a) = (okS b, x)) : x.k = k ∧ a ≤ b ∧ b ≤ l.length ∧ l.drop a = tailL x ++ l.drop b := by
 unfold bodyG at h
 simp only at h
 obtain ⟨h1, h2⟩ := Prod.mk.inj h
 have z3 : (fL [] (gT l) (hT k) (fL false (gF l) (hF k) (fL 0 (gN 1073741824 l) (hN k) (okS a)).1).1).1.c = 0 := by
  by_cases q : (fL [] (gT l) (hT k) (fL false (gF l) (hF k) (fL 0 (gN 1073741824 l) (hN k) (okS a)).1).1).1.c = 0
  ·exact q
  ·rw [fL_stay fldR l _ _ q] at h1; rw [h1] at q; exact absurd rfl q
 have z2 : (fL false (gF l) (hF k) (fL 0 (gN 1073741824 l) (hN k) (okS a)).1).1.c = 0 := by
  by_cases q : (fL false (gF l) (hF k) (fL 0 (gN 1073741824 l) (hN k) (okS a)).1).1.c = 0
  ·exact q
  ·rw [fL_stay fldT l _ _ q] at z3; exact absurd z3 q
 have z1 : (fL 0 (gN 1073741824 l) (hN k) (okS a)).1.c = 0 := by
  by_cases q : (fL 0 (gN 1073741824 l) (hN k) (okS a)).1.c = 0
  ·exact q
  ·rw [fL_stay fldF l _ _ q] at z2; exact absurd z2 q
 have c1 := fL_can F30 l _ _ z1
 obtain ⟨o1, a1, b1, d1⟩ := fL_once F30 l hb (hN k) a _ _ ha (Prod.ext c1 rfl)
 have l1 := fL_len (0 : Int) (gN 1073741824 l) (hN k) (okS a)
 generalize hq1 : fL 0 (gN 1073741824 l) (hN k) (okS a) = q1 at *
 rw [c1] at z2
 have c2 := fL_can fldF l _ _ z2
 obtain ⟨o2, a2, b2, d2⟩ := fL_once fldF l hb (hF k) q1.1.pt _ _ b1 (Prod.ext c2 rfl)
 have l2 := fL_len false (gF l) (hF k) (okS q1.1.pt)
 rw [← c1] at c2 o2 d2 a2 b2 l2
 generalize hq2 : fL false (gF l) (hF k) q1.1 = q2 at *
 rw [c2] at z3
 have c3 := fL_can fldT l _ _ z3
 obtain ⟨o3, a3, b3, d3⟩ := fL_once fldT l hb (hT k) q2.1.pt _ _ b2 (Prod.ext c3 rfl)
 have l3 := fL_len [] (gT l) (hT k) (okS q2.1.pt)
 rw [← c2] at c3 o3 d3 a3 b3 l3
 generalize hq3 : fL [] (gT l) (hT k) q2.1 = q3 at *
 rw [c3] at h1
 obtain ⟨o4, a4, b4, d4⟩ := fL_once fldR l hb (hR k) q3.1.pt _ _ b3 (Prod.ext h1 rfl)
 have l4 := fL_len [] (gR l) (hR k) (okS q3.1.pt)
 rw [← c3] at o4 d4 l4
 generalize hq4 : fL [] (gR l) (hR k) q3.1 = q4 at *
 subst h2
 refine ⟨rfl, by omega, b4, ?_⟩
 have n1 : (mkR k q1.2 q2.2 q3.2 q4.2).ns = q1.2 := by
  obtain ⟨s, _ | ⟨x0, _ | ⟨x1, _ | ⟨x2, _ | ⟨x3, _ | ⟨x4, _ | ⟨x5, _ | ⟨x6, _ | ⟨x7, _ | ⟨x8, r⟩⟩⟩⟩⟩⟩⟩⟩⟩⟩ := q1 <;> simp [hN] at l1 <;> first | rfl | omega
 have n2 : [(mkR k q1.2 q2.2 q3.2 q4.2).fl] = q2.2 := by
  obtain ⟨s, _ | ⟨x0, _ | ⟨x1, r⟩⟩⟩ := q2 <;> simp [hF] at l2 <;> first | rfl | omega
 have n3 : (mkR k q1.2 q2.2 q3.2 q4.2).ts = q3.2 := by
  obtain ⟨s, _ | ⟨x0, _ | ⟨x1, _ | ⟨x2, _ | ⟨x3, _ | ⟨x4, r⟩⟩⟩⟩⟩⟩ := q3 <;> simp [hT] at l3 <;> first | rfl | omega
 have n4 : (mkR k q1.2 q2.2 q3.2 q4.2).rs = q4.2 := by
  obtain ⟨s, _ | ⟨x0, _ | ⟨x1, _ | ⟨x2, _ | ⟨x3, _ | ⟨x4, r⟩⟩⟩⟩⟩⟩ := q4 <;> simp [hR] at l4 <;> first | rfl | omega
 unfold tailL
 rw [n1, n2, n3, n4, show (mkR k q1.2 q2.2 q3.2 q4.2).k = k from rfl, d1, d2, d3, d4]
 simp only [List.append_assoc]
theorem body_stay (l : List Int) (k : Int) (s : Gs) (h : s.c ≠ 0) : (bodyG l k s).1 = s := by
 unfold bodyG
 simp only
 rw [fL_stay F30 l _ _ h, fL_stay fldF l _ _ h, fL_stay fldT l _ _ h, fL_stay fldR l _ _ h]
theorem body_can (l : List Int) (k : Int) (a : Nat) (h : (bodyG l k (okS a)).1.c = 0) : (bodyG l k (okS a)).1 = okS (bodyG l k (okS a)).1.pt := by
 unfold bodyG at h ⊢
 simp only at h ⊢
 have z3 : (fL [] (gT l) (hT k) (fL false (gF l) (hF k) (fL 0 (gN 1073741824 l) (hN k) (okS a)).1).1).1.c = 0 := by
  by_cases q : (fL [] (gT l) (hT k) (fL false (gF l) (hF k) (fL 0 (gN 1073741824 l) (hN k) (okS a)).1).1).1.c = 0
  ·exact q
  ·rw [fL_stay fldR l _ _ q] at h; exact absurd h q
 have z2 : (fL false (gF l) (hF k) (fL 0 (gN 1073741824 l) (hN k) (okS a)).1).1.c = 0 := by
  by_cases q : (fL false (gF l) (hF k) (fL 0 (gN 1073741824 l) (hN k) (okS a)).1).1.c = 0
  ·exact q
  ·rw [fL_stay fldT l _ _ q] at z3; exact absurd z3 q
 have z1 : (fL 0 (gN 1073741824 l) (hN k) (okS a)).1.c = 0 := by
  by_cases q : (fL 0 (gN 1073741824 l) (hN k) (okS a)).1.c = 0
  ·exact q
  ·rw [fL_stay fldF l _ _ q] at z2; exact absurd z2 q
 have c1 := fL_can F30 l _ _ z1
 rw [c1] at z2 z3 h ⊢
 have c2 := fL_can fldF l _ _ z2
 rw [c2] at z3 h ⊢
 have c3 := fL_can fldT l _ _ z3
 rw [c3] at h ⊢
 exact fL_can fldR l _ _ h
theorem numB_asks {n lo hi : Int} {h : Bool} (e : numB n h lo hi = true) : if h then lo ≤ n ∧ n ≤ hi else n = 0 := by
 cases h with
 | true => simpa [numB] using e
 | false => simpa [numB] using e
theorem nameB_len {S : List UInt8} (h : nameB S = true) : S.length ≤ 40 := by
 unfold nameB at h
 simp only [Bool.and_eq_true, decide_eq_true_eq] at h
 omega
theorem nameA_asks {S : List UInt8} {h : Bool} (e : nameA S h = true) : if h then S.length ≤ 256 else S = [] := by
 cases h with
 | true => have := nameB_len (show nameB S = true from e); simp only [if_true]; omega
 | false => simpa [nameA] using e
theorem brokB_all {l : List Int} (h : brokB l = true) : l.length ≤ 7 ∧ ∀ x ∈ l, 1 ≤ x ∧ x ≤ 64 := by
 unfold brokB at h
 simp only [Bool.and_eq_true, decide_eq_true_eq, List.all_eq_true, List.mem_range] at h
 refine ⟨h.1, fun x hx => ?_⟩
 obtain ⟨i, hi, rfl⟩ := List.getElem_of_mem hx
 have := h.2 i hi
 unfold okJ at this
 simp only [Bool.and_eq_true, decide_eq_true_eq] at this
 have e : l.getD i 0 = l[i] := by simp [List.getD, hi]
 rw [e] at this
 exact this.1
theorem rowB_asks {l : List Int} {h : Bool} (e : rowB l h = true) : if h then l.length ≤ 7 ∧ ∀ x ∈ l, 0 ≤ x ∧ x ≤ 64 else l = [] := by
 cases h with
 | true =>
  have := brokB_all (show brokB l = true from e)
  exact ⟨this.1, fun x hx => by have := this.2 x hx; omega⟩
 | false =>
  have e' : ((l.length : Int) == 0) = true := e
  simp only [beq_iff_eq] at e'
  exact List.length_eq_zero_iff.1 (by omega)
structure RcIs (r : Rc) : Prop where
 k1 : 1 ≤ r.k
 k2 : r.k ≤ 12
 br : numB r.br (hasL r.k 98) 1 64 = true
 ep : numB r.ep (hasL r.k 101) 0 1073741824 = true
 tp : numB r.tp (hasL r.k 116) (if r.k = 10 then 0 else 1) 1073741824 = true
 pa : numB r.pa (hasL r.k 112) 0 255 = true
 le : numB r.le (hasL r.k 108) 0 64 = true
 cl : numB r.cl (hasL r.k 97) 1 1073741824 = true
 se : numB r.se (hasL r.k 97) 1 1073741824 = true
 co : numB r.co (hasL r.k 97) 0 21 = true
 fl : r.fl = true → hasL r.k 102 = true
 nm : nameA r.nm (hasL r.k 110) = true
 ky : nameA r.ky (hasL r.k 107) = true
 rk : nameA r.rk (hasL r.k 114) = true
 va : r.va.length ≤ 256
 vb : r.va.isEmpty = false → r.fl = false ∧ hasL r.k 118 = true
 ids : rowB r.ids (hasL r.k 105) = true
 isr : rowB r.isr (hasL r.k 109) = true
 ad : rowB r.ad (hasL r.k 120) = true
 dr : rowB r.dr (hasL r.k 120) = true
theorem nums_ok {k br ep tp pa le cl se co : Int} (h : (numsR k br ep tp pa le cl se co).2.2 = 0) : numB br (hasL k 98) 1 64 = true ∧ numB ep (hasL k 101) 0 1073741824 = true ∧ numB tp (hasL k 116) (if k = 10 then 0 else 1) 1073741824 = true ∧ numB pa (hasL k 112) 0 255 = true ∧ numB le (hasL k 108) 0 64 = true ∧ numB cl (hasL k 97) 1 1073741824 = true ∧ numB se (hasL k 97) 1 1073741824 = true ∧ numB co (hasL k 97) 0 21 = true := by
 unfold numsR at h
 generalize (if k = 10 then (0 : Int) else 1) = lo at *
 split at h
 ·simp at h
 split at h
 ·simp at h
 split at h
 ·simp at h
 split at h
 ·simp at h
 split at h
 ·simp at h
 split at h
 ·simp at h
 rename_i h1 h2 h3 h4 h5 h6
 simp only [Bool.not_eq_false, not_or] at h1 h2 h3 h4 h5 h6
 exact ⟨h1, h2, h3, h4, h5, h6⟩
theorem chk_is {r : Rc} (h : (chk r).2.2 = 0) : RcIs r := by
 unfold chk checkR at h
 split at h
 ·simp at h
 split at h
 ·rename_i q; exact absurd h q
 split at h
 ·simp at h
 split at h
 ·simp at h
 split at h
 ·simp at h
 split at h
 ·simp at h
 rename_i h1 h2 h3 h4 h5 h6
 obtain ⟨n1, n2, n3, n4, n5, n6, n7, n8⟩ := nums_ok (Decidable.not_not.1 h2)
 simp only [Bool.not_eq_false, not_or, not_and] at h3 h4 h5 h6
 exact ⟨by omega, by omega, n1, n2, n3, n4, n5, n6, n7, n8, h3, h4.1, h4.2.1, h4.2.2, by omega, fun q => by
  have := h5.2 q
  exact ⟨by simpa using this.1, by simpa using this.2⟩, h6.1, h6.2.1, h6.2.2.1, h6.2.2.2⟩
theorem ok2_num {x lo hi : Int} {h : Bool} (e : numB x h lo hi = true) (h0 : 0 ≤ lo) (h1 : hi ≤ 1073741824) : if h then 0 ≤ x ∧ x ≤ 1073741824 else x = 0 := by
 have := numB_asks e
 cases h with
 | true => simp only [if_true] at this ⊢; omega
 | false => exact this
theorem RcIs.ok {r : Rc} (h : RcIs r) : RcOk r := by
 refine ⟨⟨ok2_num h.br (by decide) (by decide), ok2_num h.ep (by decide) (by decide), ok2_num h.tp (by split <;> decide) (by decide), ok2_num h.pa (by decide) (by decide), ok2_num h.le (by decide) (by decide), ok2_num h.cl (by decide) (by decide), ok2_num h.se (by decide) (by decide), ok2_num h.co (by decide) (by decide), trivial⟩, ⟨?_, trivial⟩, ⟨nameA_asks h.nm, nameA_asks h.ky, ?_, nameA_asks h.rk, trivial⟩, ⟨rowB_asks h.ids, rowB_asks h.isr, rowB_asks h.ad, rowB_asks h.dr, trivial⟩⟩
 ·by_cases q : hasL r.k 102 = true
  ·rw [q]; trivial
  ·have : hasL r.k 102 = false := by simpa using q
   rw [this]
   simp only [Bool.false_eq_true, if_false]
   by_cases f : r.fl = true
   ·exact absurd (h.fl f) q
   ·simpa using f
 ·by_cases q : hasL r.k 118 = true
  ·rw [q]; exact h.va
  ·have : hasL r.k 118 = false := by simpa using q
   rw [this]
   simp only [Bool.false_eq_true, if_false]
   by_cases f : r.va.isEmpty = true
   ·simpa using f
   ·exact absurd (h.vb (by simpa using f)).2 q
theorem intL_kind {k : Int} (h1 : 1 ≤ k) (h2 : k ≤ 12) : intL k = [k] := by
 rw [intL_num (by omega) (by omega), numL, if_pos (by omega)]
theorem read_back (r : Rc) (h : (chk r).2.2 = 0) (P Q : List Int) : readG (P ++ (putL r ++ Q)) (okS P.length) = (okS (P.length + (putL r).length), r) := by
 have hi := chk_is h
 have e1 := (fldN 63 (by decide)).back P r.k (tailL r ++ Q) ⟨by have := hi.k1; omega, by have := hi.k2; omega⟩
 rw [intL_kind hi.k1 hi.k2] at e1
 have e2 := body_back r hi.ok (P ++ [r.k]) Q
 rw [List.append_assoc, List.length_append, List.length_singleton] at e2
 have hl : P ++ (putL r ++ Q) = P ++ ([r.k] ++ (tailL r ++ Q)) := rfl
 unfold readG
 rw [hl, e1]
 simp only [List.length_singleton]
 rw [if_pos ⟨hi.k1, hi.k2⟩, e2]
 simp only [h, if_true]
 rw [if_pos (show (okS _).c = 0 from rfl)]
 unfold putL
 rw [List.length_cons, Nat.add_assoc, Nat.add_comm 1]
theorem read_once (l : List Int) (hb : Byt l) (a : Nat) (ha : a ≤ l.length) (h : (readG l (okS a)).1.c = 0) : (chk (readG l (okS a)).2).2.2 = 0 ∧ ∃ b, readG l (okS a) = (okS b, (readG l (okS a)).2) ∧ a ≤ b ∧ b ≤ l.length ∧ l.drop a = putL (readG l (okS a)).2 ++ l.drop b := by
 unfold readG at h ⊢
 simp only at h ⊢
 by_cases hk : 1 ≤ (gN 63 l (okS a)).2 ∧ (gN 63 l (okS a)).2 ≤ 12
 ·rw [if_pos hk] at h ⊢
  by_cases hz : (bodyG l (gN 63 l (okS a)).2 (gN 63 l (okS a)).1).1.c = 0
  ·rw [if_pos hz] at h ⊢
   by_cases hc : (chk (bodyG l (gN 63 l (okS a)).2 (gN 63 l (okS a)).1).2).2.2 = 0
   ·rw [if_pos hc] at h ⊢
    refine ⟨hc, ?_⟩
    have z1 : (gN 63 l (okS a)).1.c = 0 := by
     by_cases q : (gN 63 l (okS a)).1.c = 0
     ·exact q
     ·rw [body_stay l _ _ q] at hz; exact absurd hz q
    have c1 := (fldN 63 (by decide)).can l a z1
    obtain ⟨o1, a1, b1, d1⟩ := (fldN 63 (by decide)).once l a _ _ hb ha (Prod.ext c1 rfl)
    generalize hq : gN 63 l (okS a) = q at *
    rw [c1] at hz ⊢
    have c2 := body_can l q.2 _ hz
    obtain ⟨k2, a2, b2, d2⟩ := body_once l hb q.2 q.1.pt _ _ b1 (Prod.ext c2 rfl)
    generalize hv : bodyG l q.2 (okS q.1.pt) = v at *
    refine ⟨v.1.pt, Prod.ext c2 rfl, by omega, b2, ?_⟩
    rw [d1, d2, intL_kind hk.1 hk.2]
    unfold putL
    rw [k2]
    rfl
   ·rw [if_neg hc] at h
    exact absurd h hc
  ·rw [if_neg hz] at h
   exact absurd h hz
 ·rw [if_neg hk] at h
  split at h
  ·simp at h
  ·rename_i q; exact absurd h q
def Sli (ok : Nat → Prop) (W : World) (v : Value) (l : List Int) : Prop :=
 (∃ ao cap, l = [] ∧ v = .slice ao 0 cap) ∨
 (∃ b o cap, v = .slice (some ⟨b, o, none⟩) l.length cap ∧ l.length ≤ cap ∧ ok b ∧ ∀ i (h : i < l.length), W.cell? ⟨b, o + i, none⟩ = some (ic l[i]))
theorem Sli.sl {ok : Nat → Prop} {W : World} {v : Value} {l : List Int} (h : Sli ok W v l) : Sl ic W v l := by
 rcases h with h | ⟨b, o, cap, h1, h2, _, h3⟩
 ·exact .inl h
 ·exact .inr ⟨b, o, cap, h1, h2, h3⟩
theorem Sli.nil (ok : Nat → Prop) (w : World) (ao : Option Addr) (cap : Nat) : Sli ok w (.slice ao 0 cap) [] := .inl ⟨_, _, rfl, rfl⟩
theorem Sli.imp {ok ok' : Nat → Prop} {W W' : World} {v : Value} {l : List Int} (h : Sli ok W v l) (hk : ∀ b, b < W.heap.size → ok b → ok' b) (hc : ∀ b i, b < W.heap.size → ok b → W'.cell? ⟨b, i, none⟩ = W.cell? ⟨b, i, none⟩) : Sli ok' W' v l := by
 rcases h with h | ⟨b, o, cap, h1, h2, h0, h3⟩
 ·exact .inl h
 ·rcases l with _ | ⟨x, l⟩
  ·exact .inl ⟨_, _, rfl, h1⟩
  ·have hb := cell_block (h3 0 (by simp))
   exact .inr ⟨b, o, cap, h1, h2, hk b hb h0, fun i hi => (hc b _ hb h0).trans (h3 i hi)⟩
theorem Sli.below {ok : Nat → Prop} {W W' : World} {v : Value} {l : List Int} (h : Sli ok W v l) (hb : Below W.heap.size W W') : Sli ok W' v l :=
 h.imp (fun _ _ q => q) (fun b i hl _ => hb.cell (p := ⟨b, i, none⟩) hl)
def cellsR (r : Rc) (a14 a15 a16 a17 : Option Addr) (c14 c15 c16 c17 : Nat) : List Value :=
 [.int .i64 r.k, .int .i64 r.br, .int .i64 r.ep, .int .i64 r.tp, .int .i64 r.pa, .int .i64 r.le, .int .i64 r.cl, .int .i64 r.se, .int .i64 r.co, .bool r.fl, .string ⟨r.nm.toArray⟩, .string ⟨r.ky.toArray⟩, .string ⟨r.va.toArray⟩, .string ⟨r.rk.toArray⟩, .slice a14 r.ids.length c14, .slice a15 r.isr.length c15, .slice a16 r.ad.length c16, .slice a17 r.dr.length c17]
structure RwsR (ok : Nat → Prop) (W : World) (r : Rc) (a14 a15 a16 a17 : Option Addr) (c14 c15 c16 c17 : Nat) : Prop where
 h14 : Sli ok W (.slice a14 r.ids.length c14) r.ids
 h15 : Sli ok W (.slice a15 r.isr.length c15) r.isr
 h16 : Sli ok W (.slice a16 r.ad.length c16) r.ad
 h17 : Sli ok W (.slice a17 r.dr.length c17) r.dr
theorem RwsR.below {ok : Nat → Prop} {W W' : World} {r : Rc} {a14 a15 a16 a17 : Option Addr} {c14 c15 c16 c17 : Nat} (h : RwsR ok W r a14 a15 a16 a17 c14 c15 c16 c17) (hb : Below W.heap.size W W') : RwsR ok W' r a14 a15 a16 a17 c14 c15 c16 c17 :=
 ⟨h.h14.below hb, h.h15.below hb, h.h16.below hb, h.h17.below hb⟩
def IsR (ok : Nat → Prop) (W : World) (v : Value) (r : Rc) : Prop :=
 ∃ a14 a15 a16 a17 c14 c15 c16 c17, v = .agg (cellsR r a14 a15 a16 a17 c14 c15 c16 c17).toArray ∧ RwsR ok W r a14 a15 a16 a17 c14 c15 c16 c17
theorem IsR.below {ok : Nat → Prop} {W W' : World} {v : Value} {r : Rc} (h : IsR ok W v r) (hb : Below W.heap.size W W') : IsR ok W' v r := by
 obtain ⟨a14, a15, a16, a17, c14, c15, c16, c17, h1, h2⟩ := h
 exact ⟨a14, a15, a16, a17, c14, c15, c16, c17, h1, h2.below hb⟩
theorem isR_zero (ok : Nat → Prop) (W : World) : IsR ok W (.agg (cellsR Rc.zero none none none none 0 0 0 0).toArray) Rc.zero :=
 ⟨_, _, _, _, _, _, _, _, rfl, Sli.nil _ _ _ _, Sli.nil _ _ _ _, Sli.nil _ _ _ _, Sli.nil _ _ _ _⟩
structure TxR (r : Rc) : Prop where
 nm : r.nm.length ≤ 1000
 ky : r.ky.length ≤ 1000
 va : r.va.length ≤ 1000
 rk : r.rk.length ≤ 1000
structure C18 (W : World) (p : Nat) (x0 x1 x2 x3 x4 x5 x6 x7 x8 x9 x10 x11 x12 x13 x14 x15 x16 x17 : Value) : Prop where
 c0 : W.cell? ⟨p, 0, none⟩ = some x0
 c1 : W.cell? ⟨p, 1, none⟩ = some x1
 c2 : W.cell? ⟨p, 2, none⟩ = some x2
 c3 : W.cell? ⟨p, 3, none⟩ = some x3
 c4 : W.cell? ⟨p, 4, none⟩ = some x4
 c5 : W.cell? ⟨p, 5, none⟩ = some x5
 c6 : W.cell? ⟨p, 6, none⟩ = some x6
 c7 : W.cell? ⟨p, 7, none⟩ = some x7
 c8 : W.cell? ⟨p, 8, none⟩ = some x8
 c9 : W.cell? ⟨p, 9, none⟩ = some x9
 c10 : W.cell? ⟨p, 10, none⟩ = some x10
 c11 : W.cell? ⟨p, 11, none⟩ = some x11
 c12 : W.cell? ⟨p, 12, none⟩ = some x12
 c13 : W.cell? ⟨p, 13, none⟩ = some x13
 c14 : W.cell? ⟨p, 14, none⟩ = some x14
 c15 : W.cell? ⟨p, 15, none⟩ = some x15
 c16 : W.cell? ⟨p, 16, none⟩ = some x16
 c17 : W.cell? ⟨p, 17, none⟩ = some x17
theorem C18.of {W : World} {p : Nat} {x0 x1 x2 x3 x4 x5 x6 x7 x8 x9 x10 x11 x12 x13 x14 x15 x16 x17 : Value} (h : W.rangeAt p 0 [x0, x1, x2, x3, x4, x5, x6, x7, x8, x9, x10, x11, x12, x13, x14, x15, x16, x17]) : C18 W p x0 x1 x2 x3 x4 x5 x6 x7 x8 x9 x10 x11 x12 x13 x14 x15 x16 x17 :=
 ⟨h 0 _ rfl, h 1 _ rfl, h 2 _ rfl, h 3 _ rfl, h 4 _ rfl, h 5 _ rfl, h 6 _ rfl, h 7 _ rfl, h 8 _ rfl, h 9 _ rfl, h 10 _ rfl, h 11 _ rfl, h 12 _ rfl, h 13 _ rfl, h 14 _ rfl, h 15 _ rfl, h 16 _ rfl, h 17 _ rfl⟩
theorem range_below {W W' : World} {p : Nat} {x : Value} {xs : List Value} (h : W.rangeAt p 0 (x :: xs)) (hb : Below W.heap.size W W') : W'.rangeAt p 0 (x :: xs) := fun j v hv =>
 (hb.cell (p := ⟨p, 0 + j, none⟩) (cell_block (h 0 _ rfl) : p < W.heap.size)).trans (h j v hv)
theorem range_new (w : World) (xs : List Value) (t : TypeId) : (w.alloc (.cells xs.toArray t)).rangeAt w.heap.size 0 xs := fun j v hv => by
 have := cells_at w xs t j v hv
 rw [Addr.add_lit] at this
 exact this
def checkB (br ep tp pa le cl nl vl il : Int) (b0 b1 b2 b3 b4 b5 b6 b7 ff n0 n1 n2 vv r0 r1 r2 r3 : Bool) : ByteArray × Int × Int :=
 if b0 = false then (⟨#[98, 114, 111, 107, 101, 114]⟩, br, 2)
 else if b1 = false then (⟨#[101, 112, 111, 99, 104]⟩, ep, 2)
 else if b2 = false then (⟨#[116, 111, 112, 105, 99]⟩, tp, 2)
 else if b3 = false then (⟨#[112, 97, 114, 116]⟩, pa, 2)
 else if b4 = false then (⟨#[108, 101, 97, 100, 101, 114]⟩, le, 2)
 else if b5 = false ∨ b6 = false ∨ b7 = false then (⟨#[97, 115, 107, 101, 114]⟩, cl, 2)
 else if ff = true then (⟨#[102, 108, 97, 103]⟩, 1, 1)
 else if n0 = false ∨ n1 = false ∨ n2 = false then (⟨#[110, 97, 109, 101]⟩, nl, 1)
 else if vv = true then (⟨#[118, 97, 108, 117, 101]⟩, vl, 6)
 else if r0 = false ∨ r1 = false ∨ r2 = false ∨ r3 = false then (⟨#[114, 111, 119]⟩, il, 18)
 else (⟨#[]⟩, 0, 0)
theorem chk_kind {r : Rc} (h : ¬ (1 ≤ r.k ∧ r.k ≤ 12)) : chk r = (⟨#[107, 105, 110, 100]⟩, r.k, 5) := by
 unfold chk checkR
 rw [if_pos (by omega)]
theorem chk_eq {r : Rc} (h : 1 ≤ r.k ∧ r.k ≤ 12) : chk r = checkB r.br r.ep r.tp r.pa r.le r.cl r.nm.length r.va.length r.ids.length
  (numB r.br (hasL r.k 98) 1 64) (numB r.ep (hasL r.k 101) 0 1073741824) (numB r.tp (hasL r.k 116) (if r.k = 10 then 0 else 1) 1073741824) (numB r.pa (hasL r.k 112) 0 255) (numB r.le (hasL r.k 108) 0 64)
  (numB r.cl (hasL r.k 97) 1 1073741824) (numB r.se (hasL r.k 97) 1 1073741824) (numB r.co (hasL r.k 97) 0 21) (r.fl && !hasL r.k 102)
  (nameA r.nm (hasL r.k 110)) (nameA r.ky (hasL r.k 107)) (nameA r.rk (hasL r.k 114)) (decide (mostV (hasL r.k 118) r.fl < (r.va.length : Int)))
  (rowB r.ids (hasL r.k 105)) (rowB r.isr (hasL r.k 109)) (rowB r.ad (hasL r.k 120)) (rowB r.dr (hasL r.k 120)) := by
 unfold chk checkR
 rw [if_neg (by omega)]
 unfold numsR
 have hv : (256 < r.va.length ∨ (r.va.isEmpty = false ∧ (r.fl = true ∨ hasL r.k 118 = false))) ↔ decide (mostV (hasL r.k 118) r.fl < (r.va.length : Int)) = true := by
  rw [decide_eq_true_iff]
  unfold mostV
  have he : r.va.isEmpty = false ↔ 0 < r.va.length := by
   cases r.va <;> simp
  rw [he]
  by_cases q : r.fl = true ∨ hasL r.k 118 = false
  ·rw [if_pos q]
   constructor
   ·intro h; omega
   ·intro h; exact .inr ⟨by omega, q⟩
  ·rw [if_neg q]
   constructor
   ·rintro (h | h)
    ·omega
    ·exact absurd h.2 q
   ·intro h; exact .inl (by omega)
 have hf : (r.fl = true ∧ hasL r.k 102 = false) ↔ (r.fl && !hasL r.k 102) = true := by
  cases r.fl <;> cases hasL r.k 102 <;> simp
 simp only [hv, hf]
 generalize (r.fl && !hasL r.k 102) = ff
 generalize decide (mostV (hasL r.k 118) r.fl < (r.va.length : Int)) = vv
 generalize numB r.br (hasL r.k 98) 1 64 = b0
 generalize numB r.ep (hasL r.k 101) 0 1073741824 = b1
 generalize numB r.tp (hasL r.k 116) (if r.k = 10 then 0 else 1) 1073741824 = b2
 generalize numB r.pa (hasL r.k 112) 0 255 = b3
 generalize numB r.le (hasL r.k 108) 0 64 = b4
 generalize numB r.cl (hasL r.k 97) 1 1073741824 = b5
 generalize numB r.se (hasL r.k 97) 1 1073741824 = b6
 generalize numB r.co (hasL r.k 97) 0 21 = b7
 unfold checkB
 cases b0
 ·simp
 cases b1
 ·simp
 cases b2
 ·simp
 cases b3
 ·simp
 cases b4
 ·simp
 cases b5
 ·simp
 cases b6
 ·simp
 cases b7
 ·simp
 simp
def RdG (W : World) (p : Nat) (v : Value) (s : Gs) : Prop := Rd W p v (s.pt : Int) (erN s.op s.pt s.c)
theorem RdG.below {W W' : World} {p : Nat} {v : Value} {s : Gs} (h : RdG W p v s) (hb : Below W.heap.size W W') : RdG W' p v s := Rd.below h hb
theorem RdG.ok {W : World} {p : Nat} {v : Value} {a : Nat} (h : RdG W p v (okS a)) : Rd W p v a .nilIface := h
theorem RdG.bad {W : World} {p : Nat} {v : Value} {s : Gs} (h : RdG W p v s) (hc : s.c ≠ 0) : Rd W p v s.pt (ft s.op s.pt s.c) := by
 unfold RdG at h
 rwa [erN, if_neg hc] at h
theorem rdG_mk {W : World} {p : Nat} {v : Value} {c : Int} {op : ByteArray} {n a : Nat} (hn : c ≠ 0 → n = a) (h : Rd W p v (n : Int) (erN op a c)) : RdG W p v (mkS c op n a) := by
 unfold mkS
 by_cases hc : c = 0
 ·subst hc; rw [if_pos rfl]; exact h
 ·rw [if_neg hc]
  have := hn hc
  subst this
  exact h
theorem rint_gs (p : Nat) (v : Value) (l : List Int) (m : Int) (s : Gs) (w : World) (hr : RdG w p v s) (hv : Slx p bc w v l) (hl : l.length ≤ 100000) (hby : Byt l) (hs : s.pt ≤ l.length) (h0 : 0 ≤ m) (hm : m ≤ 1073741824) :
  Calls Tryz.prog 50 #[.pointer (some ⟨p, 0, none⟩), .int .i64 m] w fun x w' => x = .returned (.int .i64 (gN m l s).2) ∧ RdG w' p v (gN m l s).1 ∧ Bx p w w' := by
 unfold gN
 by_cases hc : s.c = 0
 ·rw [if_pos hc]
  have hr' : Rd w p v s.pt .nilIface := by unfold RdG at hr; rwa [erN, if_pos hc] at hr
  have h1 := rnum_any p v l s.pt m w hr' hv.sl hl hby hs
  have hrg := numS_range (l.drop s.pt) m (fun x hx => hby x (List.mem_of_mem_drop hx))
  refine (rint_of p m m _ w (by omega) (by rw [abv', if_neg (by omega)]) ⟨hrg.1, by omega⟩ (hide h1)).mono ?_
  rintro e w' ⟨rfl, h2, h3⟩
  refine ⟨rfl, rdG_mk (fun q => ?_) h2, h3⟩
  rcases hq : numS (l.drop s.pt) m with ⟨c, k, n⟩
  rw [hq] at q
  have := (numS_bad hq q).1
  simp [this]
 ·rw [if_neg hc]
  have hb := hr.bad hc
  refine (rint_keep p v s.pt m _ _ w (by omega) hb).mono ?_
  rintro e w' ⟨rfl, h2, h3⟩
  exact ⟨rfl, by unfold RdG; rw [erN, if_neg hc]; exact h2, h3⟩
theorem rflag_gs (p : Nat) (v : Value) (l : List Int) (s : Gs) (w : World) (hr : RdG w p v s) (hv : Slx p bc w v l) (hl : l.length ≤ 100000) (hs : s.pt ≤ l.length) :
  Calls Tryz.prog 51 #[.pointer (some ⟨p, 0, none⟩)] w fun x w' => x = .returned (.bool (gF l s).2) ∧ RdG w' p v (gF l s).1 ∧ Bx p w w' := by
 unfold gF
 by_cases hc : s.c = 0
 ·rw [if_pos hc]
  have hr' : Rd w p v s.pt .nilIface := by unfold RdG at hr; rwa [erN, if_pos hc] at hr
  refine (rflag_any p v l s.pt w hr' hv.sl hl hs).mono ?_
  rintro e w' ⟨rfl, h2, h3⟩
  refine ⟨rfl, rdG_mk (fun q => ?_) h2, h3⟩
  revert q
  unfold flagS
  split
  ·intro _; rfl
  ·split
   ·intro _; rfl
   ·intro q; exact absurd rfl q
 ·rw [if_neg hc]
  have hb := hr.bad hc
  refine (rflag_err p v s.pt _ _ w hb).mono ?_
  rintro e w' ⟨rfl, rfl⟩
  exact ⟨rfl, by unfold RdG; rw [erN, if_neg hc]; exact hb, Bx.refl _ _⟩
theorem str_of {W : World} {u : Value} {T : List Int} (h : Sl bc W u T) (hb : Byt T) : (convert 22 9 u).run Tryz.prog W = .ok (.string ⟨(bs T).toArray⟩) W := by
 rcases h with ⟨ao, cap, rfl, rfl⟩ | ⟨b, o, cap, rfl, _, h3⟩
 ·cases ao with
  | none =>
   rw [run_convert_bytes_string W 22 9 5 none 0 cap Tryz.underlying22 Tryz.underlying5 Tryz.underlying9]
   simp [Conv.bytesToString]
   rfl
  | some a => exact run_convert_bytes_back W 22 9 5 a cap [] Tryz.underlying22 Tryz.underlying5 Tryz.underlying9 (fun j hj => by simp at hj)
 ·have := run_convert_bytes_back W 22 9 5 ⟨b, o, none⟩ cap (bs T) Tryz.underlying22 Tryz.underlying5 Tryz.underlying9 (fun j hj => by
   have hj' : j < T.length := by rwa [bs_len] at hj
   have e := h3 j hj'
   rw [show ((⟨b, o, none⟩ : Addr).add j) = ⟨b, o + j, none⟩ from Addr.add_lit b o j, e]
   have hx := hb T[j] (List.getElem_mem hj')
   have e2 : (bs T)[j] = UInt8.ofNat T[j].toNat := by simp [bs]
   rw [e2, UInt8.toNat_ofNat']
   unfold bc
   congr 2
   omega)
  rwa [bs_len] at this
theorem textS_byt (l : List Int) (a : Nat) (m : Int) (hby : Byt l) : Byt (textS l a m).2.2.2 := by
 unfold textS
 simp only
 split
 ·split
  ·intro x hx; simp at hx
  ·intro x hx; exact hby x (List.mem_of_mem_drop (List.mem_of_mem_take hx))
 ·intro x hx; simp at hx
theorem rtext_gs (p : Nat) (v : Value) (l : List Int) (s : Gs) (w : World) (hr : RdG w p v s) (hv : Slx p bc w v l) (hl : l.length ≤ 100000) (hby : Byt l) (hs : s.pt ≤ l.length) :
  Calls Tryz.prog 53 #[.pointer (some ⟨p, 0, none⟩), .int .i64 256] w fun x w' => ∃ u, x = .returned u ∧ (convert 22 9 u).run Tryz.prog w' = .ok (.string ⟨((gT l s).2).toArray⟩) w' ∧ RdG w' p v (gT l s).1 ∧ Bx p w w' := by
 unfold gT
 by_cases hc : s.c = 0
 ·rw [if_pos hc]
  have hr' : Rd w p v s.pt .nilIface := by unfold RdG at hr; rwa [erN, if_pos hc] at hr
  refine (rtext_any p v l s.pt 256 w hr' hv hl hby hs (by decide)).mono ?_
  rintro e w' ⟨u, rfl, h1, h2, h3⟩
  refine ⟨u, rfl, str_of h1 (textS_byt l s.pt 256 hby), rdG_mk (fun q => ?_) h2, h3⟩
  revert q
  unfold textS
  simp only
  split
  ·split
   ·intro _; rfl
   ·intro q; exact absurd rfl q
  ·intro _; rfl
 ·rw [if_neg hc]
  have hb := hr.bad hc
  refine (rtext_bad p v s.pt s.pt 256 0 _ _ _ w hb (hide (rint_keep p v s.pt 256 _ _ w (by decide) hb))).mono ?_
  rintro e w' ⟨rfl, h2, h3⟩
  exact ⟨_, rfl, str_of (Sl.nil _ _ _ _) (fun x hx => by simp at hx), by unfold RdG; rw [erN, if_neg hc]; exact h2, h3⟩
theorem rrow_gs (p : Nat) (v : Value) (l : List Int) (s : Gs) (w : World) (hr : RdG w p v s) (hv : Slx p bc w v l) (hl : l.length ≤ 100000) (hby : Byt l) (hs : s.pt ≤ l.length) :
  Calls Tryz.prog 137 #[.pointer (some ⟨p, 0, none⟩), .int .i64 7, .int .i64 64] w fun x w' => ∃ u, x = .returned u ∧ Sli (fun b => w.heap.size ≤ b) w' u (gR l s).2 ∧ RdG w' p v (gR l s).1 ∧ Bx p w w' := by
 unfold gR
 by_cases hc : s.c = 0
 ·rw [if_pos hc]
  have hr' : Rd w p v s.pt .nilIface := by unfold RdG at hr; rwa [erN, if_pos hc] at hr
  refine (rrow_anyd p v l s.pt 7 64 w hr' hv hl hby hs (by decide) (by decide)).mono ?_
  rintro e w' ⟨u, rfl, h1, h2, h3⟩
  refine ⟨u, rfl, ?_, rdG_mk (fun _ => rfl) h2, h3⟩
  rcases h1 with h1 | ⟨b, o, cap, e1, e2, e3, e4⟩
  ·exact .inl h1
  ·exact .inr ⟨b, o, cap, e1, e2, by omega, e4⟩
 ·rw [if_neg hc]
  have hb := hr.bad hc
  obtain ⟨ao, cap, rfl⟩ := hv.sl.form
  refine (rrow_none p ao l.length cap s.pt 7 64 w _ hl hs (hide (rint_keep p _ s.pt 7 _ _ w (by decide) hb))).mono ?_
  rintro e w' ⟨u, rfl, h1, h2, h3⟩
  obtain ⟨ao', cap', rfl⟩ := h1.form
  exact ⟨_, rfl, Sli.nil _ _ _ _, by unfold RdG; rw [erN, if_neg hc]; exact h2, h3⟩
def refS (op : ByteArray) (c : Int) (s : Gs) : Gs := if s.c = 0 then ⟨c, op, s.pt⟩ else s
theorem refuse_gs (p : Nat) (v : Value) (s : Gs) (op : ByteArray) (c : Int) (w : World) (hc0 : c ≠ 0) (hr : RdG w p v s) :
  Calls Tryz.prog 55 #[.pointer (some ⟨p, 0, none⟩), .string op, .int .i64 c] w fun x w' => x = .returned (.tuple #[]) ∧ RdG w' p v (refS op c s) ∧ Bx p w w' := by
 unfold refS
 by_cases hc : s.c = 0
 ·rw [if_pos hc]
  have hr' : Rd w p v s.pt .nilIface := by unfold RdG at hr; rwa [erN, if_pos hc] at hr
  refine (refuse_none p v s.pt op c w hr').mono ?_
  rintro e w' ⟨rfl, rfl⟩
  exact ⟨rfl, by unfold RdG; rw [erN, if_neg hc0]; exact hr'.sete _, (Bx.refl _ _).set _ _⟩
 ·rw [if_neg hc]
  have hb := hr.bad hc
  refine (refuse_some p v s.pt _ _ op c w hb).mono ?_
  rintro e w' ⟨rfl, rfl⟩
  exact ⟨rfl, hr, Bx.refl _ _⟩
end Go.Proofs.YtjjpfajbljbelaaGreatDoor
