/-
  BATCHES AS BYTES, on lists alone (no program in sight): what is wrong with one first, how one is written, what is read of bytes, that what is written is read as what it was, and that bytes that are read are those that are written. Conditions: bytes are bytes.
  RECORDS IN A ROW, EIGHTEEN CELLS EACH, AND BATCHES: their cells; what stays where other memory is written. No condition.
  RECORDS IN A ROW, AND A BATCH, THAT CAME IN, OPENED: they lie in their cells. No condition of its own.
  MESSAGES AS BYTES (layer rpc), the mathematics of what lies behind their kind: bytes of messages, what is read of them, there and back.
-/
import Derived.Test.YtoioddnlkbjljaaGreatDoorJKRecRdaa5
import Derived.Test.YtoioddnlkbjljaaGreatDoorJKRecWkaa4
import Derived.Test.YtoioddnlkbjljaaGreatDoorJKRecSmb
import Derived.Test.YtoioddnlkbjljaaGreatDoorJKFrameReca6
import Derived.Deep.Strs
namespace Go.Proofs.YtoioddnlkbjljaaGreatDoor
open Go.RowKit

/-- A batch: its term, its base, its records. -/
structure Bt where
  t : Int
  b : Int
  rs : List Rc
def Bt.zero : Bt := ⟨0, 0, []⟩
/-- The first record that may not be, from the number i on. -/
def chkF : List Rc → Nat → Option (Nat × (ByteArray × Int × Int))
  | [], _ => none
  | r :: rs, i => if (chk r).2.2 = 0 then chkF rs (i + 1) else some (i, chk r)
theorem chkF_none : ∀ (rs : List Rc) (i : Nat), (∀ r ∈ rs, (chk r).2.2 = 0) → chkF rs i = none
  | [], _, _ => rfl
  | r :: rs, i, h => by
    unfold chkF
    rw [if_pos (h r (by simp))]
    exact chkF_none rs (i + 1) fun x hx => h x (by simp [hx])
theorem chkF_some : ∀ (rs : List Rc) (i j : Nat) (hj : j < rs.length), (∀ r ∈ rs.take j, (chk r).2.2 = 0) → (chk rs[j]).2.2 ≠ 0 → chkF rs i = some (i + j, chk rs[j])
  | [], _, j, hj, _, _ => by simp at hj
  | r :: rs, i, 0, _, _, h => by
    unfold chkF
    have h' : ¬ (chk r).2.2 = 0 := h
    rw [if_neg h']
    rfl
  | r :: rs, i, j + 1, hj, h, hn => by
    unfold chkF
    rw [if_pos (h r (by simp))]
    have := chkF_some rs (i + 1) j (by simpa using hj) (fun x hx => h x (by simp [hx])) hn
    rw [this]
    simp only [List.getElem_cons_succ]
    congr 2
    omega
theorem chkF_ok : ∀ (rs : List Rc) (i : Nat), chkF rs i = none → ∀ r ∈ rs, (chk r).2.2 = 0
  | [], _, _, r, hr => by simp at hr
  | x :: rs, i, h, r, hr => by
    unfold chkF at h
    split at h
    · rcases List.mem_cons.1 hr with rfl | hr
      · assumption
      · exact chkF_ok rs (i + 1) h r hr
    · simp at h
theorem chkF_code : ∀ (rs : List Rc) (i : Nat) (q : Nat × (ByteArray × Int × Int)), chkF rs i = some q → q.2.2.2 ≠ 0
  | [], _, q, h => by simp [chkF] at h
  | x :: rs, i, q, h => by
    unfold chkF at h
    split at h
    · exact chkF_code rs (i + 1) q h
    · cases h; assumption
/-- What is wrong with a batch first: of what, where, a code, within which record (below 0: none), where within it. -/
structure Bw where
  op : ByteArray
  pt : Int
  c : Int
  r : Int
  i : Int
def bw (x : Bt) : Bw :=
  if x.t < 1 ∨ 1073741824 < x.t then ⟨⟨#[116, 101, 114, 109]⟩, x.t, 2, -1, 0⟩
  else if x.b < 0 ∨ 1073741824 < x.b then ⟨⟨#[98, 97, 115, 101]⟩, x.b, 2, -1, 0⟩
  else if x.rs.length < 1 ∨ 64 < x.rs.length then ⟨⟨#[114, 101, 99, 111, 114, 100, 115]⟩, x.rs.length, 6, -1, 0⟩
  else match chkF x.rs 0 with
    | none => ⟨⟨#[]⟩, 0, 0, -1, 0⟩
    | some q => ⟨q.2.1, q.1, q.2.2.2, q.1, q.2.2.1⟩
theorem bw_ok {x : Bt} (h : (bw x).c = 0) : (1 ≤ x.t ∧ x.t ≤ 1073741824) ∧ (0 ≤ x.b ∧ x.b ≤ 1073741824) ∧ (1 ≤ x.rs.length ∧ x.rs.length ≤ 64) ∧ ∀ r ∈ x.rs, (chk r).2.2 = 0 := by
  unfold bw at h
  split at h
  · simp at h
  split at h
  · simp at h
  split at h
  · simp at h
  rename_i h1 h2 h3
  refine ⟨by omega, by omega, by omega, ?_⟩
  cases hq : chkF x.rs 0 with
  | none => exact chkF_ok _ _ hq
  | some q =>
    rw [hq] at h
    exact absurd h (chkF_code _ _ _ hq)
theorem bw_of {x : Bt} (h1 : 1 ≤ x.t ∧ x.t ≤ 1073741824) (h2 : 0 ≤ x.b ∧ x.b ≤ 1073741824) (h3 : 1 ≤ x.rs.length ∧ x.rs.length ≤ 64) (h4 : ∀ r ∈ x.rs, (chk r).2.2 = 0) : bw x = ⟨⟨#[]⟩, 0, 0, -1, 0⟩ := by
  unfold bw
  rw [if_neg (by omega), if_neg (by omega), if_neg (by omega), chkF_none _ _ h4]
/-- Records as bytes, one behind the other. -/
def putsL (rs : List Rc) : List Int := rs.flatMap putL
theorem putsL_app (a b : List Rc) : putsL (a ++ b) = putsL a ++ putsL b := by unfold putsL; exact List.flatMap_append
theorem putsL_snoc (rs : List Rc) (j : Nat) (h : j < rs.length) : putsL (rs.take (j + 1)) = putsL (rs.take j) ++ putL rs[j] := by
  rw [List.take_succ_eq_append_getElem h, putsL_app]
  simp [putsL]
theorem putsL_cons (r : Rc) (rs : List Rc) : putsL (r :: rs) = putL r ++ putsL rs := by simp [putsL]
theorem putsL_len (rs : List Rc) (h : ∀ r ∈ rs, (chk r).2.2 = 0) : (putsL rs).length ≤ 4000 * rs.length := by
  induction rs with
  | nil => simp [putsL]
  | cons r rs ih =>
    have h1 := put_len (h r (by simp))
    have h2 := ih fun x hx => h x (by simp [hx])
    rw [putsL_cons, List.length_append, List.length_cons]
    omega
theorem putsL_take_le (rs : List Rc) (j : Nat) : (putsL (rs.take j)).length ≤ (putsL rs).length := by
  have e : putsL rs = putsL (rs.take j) ++ putsL (rs.drop j) := by
    rw [← putsL_app, List.take_append_drop]
  rw [e, List.length_append]
  omega
theorem putsL_byt (rs : List Rc) (h : ∀ r ∈ rs, (chk r).2.2 = 0) : Byt (putsL rs) := by
  induction rs with
  | nil => intro x hx; simp [putsL] at hx
  | cons r rs ih =>
    rw [putsL_cons]
    intro x hx
    rcases List.mem_append.1 hx with q | q
    · exact put_byt (h r (by simp)) x q
    · exact ih (fun x hx => h x (by simp [hx])) x q
/-- A batch's bytes. -/
def headL (x : Bt) : List Int := intL x.t ++ (intL x.b ++ intL x.rs.length)
def bytL (x : Bt) : List Int := headL x ++ putsL x.rs
theorem headL_len (x : Bt) : (headL x).length ≤ 24 := by
  have h1 := intL_le x.t
  have h2 := intL_le x.b
  have h3 := intL_le x.rs.length
  unfold headL
  rw [List.length_append, List.length_append]
  omega
theorem read_stay {l : List Int} {s : Gs} (h : s.c ≠ 0) : readG l s = (s, Rc.zero) := by
  unfold readG
  rw [(fldN 63 (by decide)).stay l s h]
  simp only
  rw [if_neg (by omega), if_neg h]
/-- So many records that are read, one behind the other. -/
def recsG (l : List Int) : Nat → Gs → Gs × List Rc
  | 0, s => (s, [])
  | n + 1, s => let q := recsG l n s; let r := readG l q.1; (r.1, q.2 ++ [r.2])
theorem recsG_succ (l : List Int) (n : Nat) (s : Gs) : recsG l (n + 1) s = ((readG l (recsG l n s).1).1, (recsG l n s).2 ++ [(readG l (recsG l n s).1).2]) := rfl
theorem recs_len (l : List Int) (s : Gs) : ∀ n, (recsG l n s).2.length = n
  | 0 => rfl
  | n + 1 => by rw [recsG_succ]; simp [recs_len l s n]
theorem recs_stay {l : List Int} {s : Gs} (h : s.c ≠ 0) : ∀ n, (recsG l n s).1 = s
  | 0 => rfl
  | n + 1 => by rw [recsG_succ, recs_stay h n]; simp only [read_stay h]
theorem recs_stop {l : List Int} {s : Gs} {j : Nat} (h : (recsG l j s).1.c ≠ 0) : ∀ n, (recsG l (j + n) s).1 = (recsG l j s).1
  | 0 => rfl
  | n + 1 => by
    rw [← Nat.add_assoc, recsG_succ, recs_stop h n]
    simp only [read_stay h]
theorem recs_pt {l : List Int} {s : Gs} (hb : Byt l) (hs : s.pt ≤ l.length) : ∀ n, (recsG l n s).1.pt ≤ l.length
  | 0 => hs
  | n + 1 => read_pt hb (recs_pt hb hs n)
/-- The batch that is read next. -/
def nextG (l : List Int) (s : Gs) : Gs × Bt :=
  let q1 := gN 1073741824 l s
  let q2 := gN 1073741824 l q1.1
  let q3 := gN 64 l q2.1
  let s3 := if q1.2 = 0 ∨ q3.2 = 0 then refS ⟨#[98, 97, 116, 99, 104]⟩ 2 q3.1 else q3.1
  let q4 := recsG l q3.2.toNat s3
  let s5 := if (16384 : Int) < (q4.1.pt : Int) - (s.pt : Int) then refS ⟨#[98, 97, 116, 99, 104]⟩ 6 q4.1 else q4.1
  if s5.c = 0 then (s5, ⟨q1.2, q2.2, q4.2⟩) else (s5, Bt.zero)
theorem refS_pt (op : ByteArray) (c : Int) (s : Gs) : (refS op c s).pt = s.pt := by
  unfold refS; split <;> rfl
theorem refS_bad (op : ByteArray) {c : Int} (s : Gs) (h : c ≠ 0) : (refS op c s).c ≠ 0 := by
  unfold refS; split <;> assumption
theorem next_pt {l : List Int} {s : Gs} (hb : Byt l) (hs : s.pt ≤ l.length) : (nextG l s).1.pt ≤ l.length := by
  have h1 := gN_pt (m := 1073741824) hb hs
  have h2 := gN_pt (m := 1073741824) hb h1
  have h3 := gN_pt (m := 64) hb h2
  have h4 : (if (gN 1073741824 l s).2 = 0 ∨ (gN 64 l (gN 1073741824 l (gN 1073741824 l s).1).1).2 = 0 then refS ⟨#[98, 97, 116, 99, 104]⟩ 2 (gN 64 l (gN 1073741824 l (gN 1073741824 l s).1).1).1 else (gN 64 l (gN 1073741824 l (gN 1073741824 l s).1).1).1).pt ≤ l.length := by
    split
    · rw [refS_pt]; exact h3
    · exact h3
  have h5 := recs_pt hb h4 (gN 64 l (gN 1073741824 l (gN 1073741824 l s).1).1).2.toNat
  unfold nextG
  simp only
  generalize recsG l (gN 64 l (gN 1073741824 l (gN 1073741824 l s).1).1).2.toNat _ = q4 at *
  have h6 : (if (16384 : Int) < (q4.1.pt : Int) - (s.pt : Int) then refS ⟨#[98, 97, 116, 99, 104]⟩ 6 q4.1 else q4.1).pt ≤ l.length := by
    split
    · rw [refS_pt]; exact h5
    · exact h5
  generalize (if (16384 : Int) < (q4.1.pt : Int) - (s.pt : Int) then refS ⟨#[98, 97, 116, 99, 104]⟩ 6 q4.1 else q4.1) = s5 at *
  split
  · exact h6
  · exact h6
/-- Records that are written are read as what they were. -/
theorem recs_back : ∀ (rs : List Rc) (P Q : List Int), (∀ r ∈ rs, (chk r).2.2 = 0) → ∀ j, j ≤ rs.length → recsG (P ++ (putsL rs ++ Q)) j (okS P.length) = (okS (P.length + (putsL (rs.take j)).length), rs.take j) := by
  intro rs P Q h j
  induction j with
  | zero => intro _; simp [recsG, putsL]
  | succ j ih =>
    intro hj
    have hlt : j < rs.length := by omega
    rw [recsG_succ, ih (by omega)]
    simp only
    have hs : putsL rs = putsL (rs.take j) ++ (putL rs[j] ++ putsL (rs.drop (j + 1))) := by
      have : rs = rs.take j ++ (rs[j] :: rs.drop (j + 1)) := by rw [← List.drop_eq_getElem_cons hlt, List.take_append_drop]
      rw [← putsL_cons]
      conv => lhs; rw [this]
      rw [putsL_app]
    have hl : P ++ (putsL rs ++ Q) = (P ++ putsL (rs.take j)) ++ (putL rs[j] ++ (putsL (rs.drop (j + 1)) ++ Q)) := by rw [hs]; simp only [List.append_assoc]
    have hb := read_back rs[j] (h _ (List.getElem_mem hlt)) (P ++ putsL (rs.take j)) (putsL (rs.drop (j + 1)) ++ Q)
    rw [List.length_append] at hb
    rw [hl, hb, putsL_snoc rs j hlt, List.length_append, List.take_succ_eq_append_getElem hlt, Nat.add_assoc]
/-- A batch that is written is read as what it was. -/
theorem next_back (x : Bt) (h : (bw x).c = 0) (hm : (bytL x).length ≤ 16384) (P Q : List Int) : nextG (P ++ (bytL x ++ Q)) (okS P.length) = (okS (P.length + (bytL x).length), x) := by
  obtain ⟨h1, h2, h3, h4⟩ := bw_ok h
  have e1 := (fldN 1073741824 (by decide)).back P x.t (intL x.b ++ (intL x.rs.length ++ (putsL x.rs ++ Q))) ⟨by omega, by omega⟩
  have e2 := (fldN 1073741824 (by decide)).back (P ++ intL x.t) x.b (intL x.rs.length ++ (putsL x.rs ++ Q)) ⟨by omega, by omega⟩
  have e3 := (fldN 64 (by decide)).back (P ++ (intL x.t ++ intL x.b)) x.rs.length (putsL x.rs ++ Q) ⟨by omega, by omega⟩
  have e4 := recs_back x.rs (P ++ headL x) Q h4 x.rs.length (Nat.le_refl _)
  rw [List.take_length] at e4
  have l1 : P ++ (bytL x ++ Q) = P ++ (intL x.t ++ (intL x.b ++ (intL x.rs.length ++ (putsL x.rs ++ Q)))) := by simp only [bytL, headL, List.append_assoc]
  have l2 : P ++ (bytL x ++ Q) = P ++ intL x.t ++ (intL x.b ++ (intL x.rs.length ++ (putsL x.rs ++ Q))) := by simp only [bytL, headL, List.append_assoc]
  have l3 : P ++ (bytL x ++ Q) = P ++ (intL x.t ++ intL x.b) ++ (intL x.rs.length ++ (putsL x.rs ++ Q)) := by simp only [bytL, headL, List.append_assoc]
  have l4 : P ++ (bytL x ++ Q) = P ++ headL x ++ (putsL x.rs ++ Q) := by simp only [bytL, List.append_assoc]
  rw [← l1] at e1
  rw [← l2] at e2
  rw [← l3] at e3
  rw [← l4] at e4
  have k2 : (P ++ intL x.t).length = P.length + (intL x.t).length := by simp
  have k3 : (P ++ (intL x.t ++ intL x.b)).length = P.length + (intL x.t).length + (intL x.b).length := by simp only [List.length_append]; omega
  have k4 : (P ++ headL x).length = P.length + (intL x.t).length + (intL x.b).length + (intL x.rs.length).length := by simp only [headL, List.length_append]; omega
  have k5 : (bytL x).length = (intL x.t).length + (intL x.b).length + (intL x.rs.length).length + (putsL x.rs).length := by simp only [bytL, headL, List.length_append]; omega
  rw [k2] at e2
  rw [k3] at e3
  rw [k4] at e4
  unfold nextG
  simp only
  rw [e1]
  simp only
  rw [e2]
  simp only
  rw [e3]
  simp only
  rw [if_neg (show ¬ (x.t = 0 ∨ (x.rs.length : Int) = 0) by omega), Int.toNat_natCast, e4]
  simp only
  have hp : ∀ a, (okS a).pt = a := fun _ => rfl
  rw [hp, hp]
  have hno : ¬ (16384 : Int) < ((P.length + (intL x.t).length + (intL x.b).length + (intL x.rs.length).length + (putsL x.rs).length : Nat) : Int) - (P.length : Int) := by omega
  rw [if_neg hno, if_pos (show (okS _).c = 0 from rfl), k5]
  simp only [Nat.add_assoc]
/-- Bytes that are read as records are those that they are written as. -/
theorem recs_once (l : List Int) (hb : Byt l) (a : Nat) (ha : a ≤ l.length) : ∀ n, (recsG l n (okS a)).1.c = 0 → (∀ r ∈ (recsG l n (okS a)).2, (chk r).2.2 = 0) ∧ ∃ b, (recsG l n (okS a)).1 = okS b ∧ a ≤ b ∧ b ≤ l.length ∧ l.drop a = putsL (recsG l n (okS a)).2 ++ l.drop b
  | 0, _ => ⟨fun r hr => by simp [recsG] at hr, a, rfl, Nat.le_refl _, ha, by simp [recsG, putsL]⟩
  | n + 1, h => by
    have h0 : (recsG l n (okS a)).1.c = 0 := by
      by_cases q : (recsG l n (okS a)).1.c = 0
      · exact q
      · have := recs_stop q 1
        rw [this] at h
        exact h
    obtain ⟨i1, b, i2, i3, i4, i5⟩ := recs_once l hb a ha n h0
    rw [recsG_succ] at h ⊢
    simp only at h ⊢
    rw [i2] at h ⊢
    obtain ⟨c1, b', c2, c3, c4, c5⟩ := read_once l hb b i4 h
    refine ⟨fun r hr => ?_, b', by rw [c2], by omega, c4, ?_⟩
    · rcases List.mem_append.1 hr with q | q
      · exact i1 r q
      · simp at q; subst q; exact c1
    · rw [i5, c5, putsL_app, putsL_cons]
      simp only [show putsL [] = [] from rfl, List.append_nil, List.append_assoc]
/-- Bytes that are read as a batch are those that it is written as. -/
theorem next_once (l : List Int) (hb : Byt l) (a : Nat) (ha : a ≤ l.length) (h : (nextG l (okS a)).1.c = 0) : (bw (nextG l (okS a)).2).c = 0 ∧ ∃ b, nextG l (okS a) = (okS b, (nextG l (okS a)).2) ∧ a ≤ b ∧ b ≤ l.length ∧ b ≤ a + 16384 ∧ l.drop a = bytL (nextG l (okS a)).2 ++ l.drop b := by
  unfold nextG at h ⊢
  simp only at h ⊢
  rcases hq1 : gN 1073741824 l (okS a) with ⟨s1, x1⟩
  rw [hq1] at h
  simp only at h ⊢
  rcases hq2 : gN 1073741824 l s1 with ⟨s2, x2⟩
  rw [hq2] at h
  simp only at h ⊢
  rcases hq3 : gN 64 l s2 with ⟨s3, x3⟩
  rw [hq3] at h
  simp only at h ⊢
  generalize hS : (if x1 = 0 ∨ x3 = 0 then refS ⟨#[98, 97, 116, 99, 104]⟩ 2 s3 else s3) = S at h ⊢
  rcases hq4 : recsG l x3.toNat S with ⟨s4, rs⟩
  rw [hq4] at h
  simp only at h ⊢
  generalize hT : (if (16384 : Int) < (s4.pt : Int) - ((okS a).pt : Int) then refS ⟨#[98, 97, 116, 99, 104]⟩ 6 s4 else s4) = T at h ⊢
  have zT : T.c = 0 := by
    by_cases q : T.c = 0
    · exact q
    · rw [if_neg q] at h; exact absurd h q
  rw [if_pos zT]
  have hT' : ¬ (16384 : Int) < (s4.pt : Int) - (a : Int) ∧ T = s4 := by
    by_cases q : (16384 : Int) < (s4.pt : Int) - ((okS a).pt : Int)
    · rw [if_pos q] at hT; exact absurd zT (by rw [← hT]; exact refS_bad _ _ (by decide))
    · rw [if_neg q] at hT; exact ⟨q, hT.symm⟩
  obtain ⟨hlen, rfl⟩ := hT'
  have z4 : (recsG l x3.toNat S).1.c = 0 := by rw [hq4]; exact zT
  have zS : S.c = 0 := by
    by_cases q : S.c = 0
    · exact q
    · rw [recs_stay q] at z4; exact z4
  have hS' : ¬ (x1 = 0 ∨ x3 = 0) ∧ S = s3 := by
    by_cases q : x1 = 0 ∨ x3 = 0
    · rw [if_pos q] at hS; exact absurd zS (by rw [← hS]; exact refS_bad _ _ (by decide))
    · rw [if_neg q] at hS; exact ⟨q, hS.symm⟩
  obtain ⟨hnz, rfl⟩ := hS'
  have z2 : s2.c = 0 := by
    by_cases q : s2.c = 0
    · exact q
    · have := (fldN 64 (by decide)).stay l s2 q; rw [hq3] at this; obtain ⟨e, _⟩ := Prod.mk.inj this; rw [e] at zS; exact absurd zS q
  have z1 : s1.c = 0 := by
    by_cases q : s1.c = 0
    · exact q
    · have := (fldN 1073741824 (by decide)).stay l s1 q; rw [hq2] at this; obtain ⟨e, _⟩ := Prod.mk.inj this; rw [e] at z2; exact absurd z2 q
  have c1 := (fldN 1073741824 (by decide)).can l a (by rw [hq1]; exact z1)
  rw [hq1] at c1
  obtain ⟨p1, rfl⟩ : ∃ p, s1 = okS p := ⟨_, c1⟩
  obtain ⟨o1, a1, b1, d1⟩ := (fldN 1073741824 (by decide)).once l a p1 x1 hb ha hq1
  have c2 := (fldN 1073741824 (by decide)).can l p1 (by rw [hq2]; exact z2)
  rw [hq2] at c2
  obtain ⟨p2, rfl⟩ : ∃ p, s2 = okS p := ⟨_, c2⟩
  obtain ⟨o2, a2, b2, d2⟩ := (fldN 1073741824 (by decide)).once l p1 p2 x2 hb b1 hq2
  have c3 := (fldN 64 (by decide)).can l p2 (by rw [hq3]; exact zS)
  rw [hq3] at c3
  obtain ⟨p3, rfl⟩ : ∃ p, S = okS p := ⟨_, c3⟩
  obtain ⟨o3, a3, b3, d3⟩ := (fldN 64 (by decide)).once l p2 p3 x3 hb b2 hq3
  obtain ⟨g1, p4, g2, g3, g4, g5⟩ := recs_once l hb p3 b3 x3.toNat z4
  have hn := recs_len l (okS p3) x3.toNat
  rw [hq4] at g1 g2 g5 hn
  simp only at g1 g2 g5 hn
  subst g2
  have e3 : x3 = (rs.length : Int) := by omega
  have hb' := bw_of (x := ⟨x1, x2, rs⟩) ⟨by have := o1.1; show 1 ≤ x1; omega, o1.2⟩ o2 ⟨by show 1 ≤ rs.length; omega, by show rs.length ≤ 64; omega⟩ g1
  have hpp : ((okS p4).pt : Int) = (p4 : Int) := rfl
  rw [hpp] at hlen
  refine ⟨by rw [hb'], p4, rfl, by omega, g4, by omega, ?_⟩
  rw [d1, d2, d3, g5, e3]
  simp only [bytL, headL, List.append_assoc]
end Go.Proofs.YtoioddnlkbjljaaGreatDoor
namespace Go.Proofs.YtoioddnlkbjljaaGreatDoor
open Go.RowKit

/-- Where the four rows of a record lie. -/
structure Pl where
  a14 : Option Addr
  a15 : Option Addr
  a16 : Option Addr
  a17 : Option Addr
  c14 : Nat
  c15 : Nat
  c16 : Nat
  c17 : Nat
abbrev Rp := Rc × Pl
/-- A record's cells. -/
def cel (p : Rp) : List Value := cellsR p.1 p.2.a14 p.2.a15 p.2.a16 p.2.a17 p.2.c14 p.2.c15 p.2.c16 p.2.c17
def RwP (ok : Nat → Prop) (W : World) (p : Rp) : Prop := RwsR ok W p.1 p.2.a14 p.2.a15 p.2.a16 p.2.a17 p.2.c14 p.2.c15 p.2.c16 p.2.c17
theorem cel_len (p : Rp) : (cel p).length = 18 := rfl
theorem cel_one (p : Rp) : ∀ u ∈ cel p, u.oneCell' = true := fun v hv => by
  simp only [cel, cellsR, List.mem_cons, List.not_mem_nil, or_false] at hv
  rcases hv with rfl | rfl | rfl | rfl | rfl | rfl | rfl | rfl | rfl | rfl | rfl | rfl | rfl | rfl | rfl | rfl | rfl | rfl <;> rfl
theorem cel_all (p : Rp) : (cel p).toArray.all (·.oneCell') = true := all_oneCell_toArray (cel_one p)
theorem RwP.is {ok : Nat → Prop} {W : World} {p : Rp} (h : RwP ok W p) : IsR ok W (.agg (cel p).toArray) p.1 := ⟨_, _, _, _, _, _, _, _, rfl, h⟩
theorem RwP.imp {ok ok' : Nat → Prop} {W W' : World} {p : Rp} (h : RwP ok W p) (hk : ∀ b, b < W.heap.size → ok b → ok' b) (hc : ∀ b i, b < W.heap.size → ok b → W'.cell? ⟨b, i, none⟩ = W.cell? ⟨b, i, none⟩) : RwP ok' W' p :=
  ⟨h.h14.imp hk hc, h.h15.imp hk hc, h.h16.imp hk hc, h.h17.imp hk hc⟩
theorem RwP.below {ok : Nat → Prop} {W W' : World} {p : Rp} (h : RwP ok W p) (hb : Below W.heap.size W W') : RwP ok W' p := RwsR.below h hb
theorem isR_rp {ok : Nat → Prop} {W : World} {v : Value} {r : Rc} (h : IsR ok W v r) : ∃ p : Rp, p.1 = r ∧ v = .agg (cel p).toArray ∧ RwP ok W p := by
  obtain ⟨a14, a15, a16, a17, c14, c15, c16, c17, h1, h2⟩ := h
  exact ⟨(r, ⟨a14, a15, a16, a17, c14, c15, c16, c17⟩), rfl, h1, h2⟩
/-- The cells of records, one behind the other. -/
def rcs (ps : List Rp) : List Value := ps.flatMap cel
theorem rcs_cons (p : Rp) (ps : List Rp) : rcs (p :: ps) = cel p ++ rcs ps := by simp [rcs]
theorem rcs_app (ps qs : List Rp) : rcs (ps ++ qs) = rcs ps ++ rcs qs := by simp [rcs, List.flatMap_append]
theorem rcs_one (p : Rp) : rcs [p] = cel p := by simp [rcs]
theorem rcs_len (ps : List Rp) : (rcs ps).length = ps.length * 18 := by
  induction ps with
  | nil => rfl
  | cons p ps ih => rw [rcs_cons, List.length_append, ih, cel_len, List.length_cons]; omega
theorem rcs_all (ps : List Rp) : ∀ u ∈ rcs ps, u.oneCell' = true := fun u hu => by
  obtain ⟨p, _, h⟩ := List.mem_flatMap.1 hu
  exact cel_one p u h
theorem rcs_get : ∀ (ps : List Rp) (i : Nat) (h : i < ps.length) (j : Nat) (u : Value), (cel ps[i])[j]? = some u → (rcs ps)[i * 18 + j]? = some u
  | [], i, h, _, _, _ => by simp at h
  | p :: ps, 0, _, j, u, hj => by
    have hl : j < (cel p).length := (List.getElem?_eq_some_iff.1 hj).1
    rw [rcs_cons, Nat.zero_mul, Nat.zero_add, List.getElem?_append_left hl]
    exact hj
  | p :: ps, i + 1, h, j, u, hj => by
    rw [rcs_cons, List.getElem?_append_right (by rw [cel_len]; omega), cel_len, show (i + 1) * 18 + j - 18 = i * 18 + j by omega]
    exact rcs_get ps i (by simpa using h) j u hj
theorem range_at {W : World} {b o : Nat} {ps : List Rp} (h : W.rangeAt b o (rcs ps)) {i : Nat} (hi : i < ps.length) : W.rangeAt b (o + i * 18) (cel ps[i]) := fun j u hu => by
  rw [Nat.add_assoc]
  exact h _ u (rcs_get ps i hi j u hu)
theorem range_bel {W W' : World} {b o : Nat} {cs : List Value} (h : W.rangeAt b o cs) (hb : Below W.heap.size W W') : W'.rangeAt b o cs := fun j u hu =>
  (hb.cell (p := ⟨b, o + j, none⟩) (cell_block (h j u hu) : b < W.heap.size)).trans (h j u hu)
theorem range_imp {W W' : World} {b o : Nat} {cs : List Value} (h : W.rangeAt b o cs) (hc : ∀ i, b < W.heap.size → W'.cell? ⟨b, i, none⟩ = W.cell? ⟨b, i, none⟩) : W'.rangeAt b o cs := fun j u hu =>
  (hc _ (cell_block (h j u hu) : b < W.heap.size)).trans (h j u hu)
/-- The slice v holds the records ps: in a block of okb, their rows in blocks of ok. -/
def Rl (okb ok : Nat → Prop) (W : World) (v : Value) (ps : List Rp) : Prop :=
  ((∃ ao cap, ps = [] ∧ v = .slice ao 0 cap) ∨ (∃ b o cap, v = .slice (some ⟨b, o, none⟩) ps.length cap ∧ ps.length ≤ cap ∧ okb b ∧ 0 < ps.length ∧ W.rangeAt b o (rcs ps))) ∧ ∀ p ∈ ps, RwP ok W p
theorem Rl.nil (okb ok : Nat → Prop) (W : World) (ao : Option Addr) (cap : Nat) : Rl okb ok W (.slice ao 0 cap) [] := ⟨.inl ⟨_, _, rfl, rfl⟩, fun p hp => by simp at hp⟩
theorem Rl.form {okb ok : Nat → Prop} {W : World} {v : Value} {ps : List Rp} (h : Rl okb ok W v ps) : ∃ ao cap, v = .slice ao ps.length cap := by
  rcases h.1 with ⟨ao, cap, rfl, rfl⟩ | ⟨b, o, cap, rfl, _⟩ <;> exact ⟨_, _, rfl⟩
theorem Rl.imp {okb ok okb' ok' : Nat → Prop} {W W' : World} {v : Value} {ps : List Rp} (h : Rl okb ok W v ps) (hkb : ∀ b, b < W.heap.size → okb b → okb' b) (hk : ∀ b, b < W.heap.size → ok b → ok' b) (hc : ∀ b i, b < W.heap.size → okb b ∨ ok b → W'.cell? ⟨b, i, none⟩ = W.cell? ⟨b, i, none⟩) : Rl okb' ok' W' v ps := by
  refine ⟨?_, fun p hp => (h.2 p hp).imp hk (fun b i hl q => hc b i hl (.inr q))⟩
  rcases h.1 with h1 | ⟨b, o, cap, h1, h2, h3, h4, h5⟩
  · exact .inl h1
  · have hl : b < W.heap.size := cell_block (h5 0 _ (List.getElem?_eq_getElem (by rw [rcs_len]; omega)))
    exact .inr ⟨b, o, cap, h1, h2, hkb b hl h3, h4, range_imp h5 (fun i hl => hc b i hl (.inl h3))⟩
theorem Rl.below {okb ok : Nat → Prop} {W W' : World} {v : Value} {ps : List Rp} (h : Rl okb ok W v ps) (hb : Below W.heap.size W W') : Rl okb ok W' v ps :=
  h.imp (fun _ _ q => q) (fun _ _ q => q) (fun b i hl _ => hb.cell (p := ⟨b, i, none⟩) hl)
theorem Rl.any {okb ok : Nat → Prop} {W : World} {v : Value} {ps : List Rp} (h : Rl okb ok W v ps) : Rl (fun _ => True) (fun _ => True) W v ps :=
  h.imp (fun _ _ _ => trivial) (fun _ _ _ => trivial) (fun _ _ _ _ => rfl)
theorem Rl.rg {okb ok : Nat → Prop} {w : World} {ao : Option Addr} {n cap : Nat} {ps : List Rp} (h : Rl okb ok w (.slice ao n cap) ps) : 0 < ps.length → ∃ b o, ao = some ⟨b, o, none⟩ ∧ w.rangeAt b o (rcs ps) := fun hp => by
  rcases h.1 with ⟨_, _, rfl, _⟩ | ⟨b, o, cap', e, _, _, _, h3⟩
  · simp at hp
  · cases e; exact ⟨b, o, rfl, h3⟩
/-- The records, whatever they lie in. -/
def rcl (ps : List Rp) : List Rc := ps.map (·.1)
theorem rcl_len (ps : List Rp) : (rcl ps).length = ps.length := by simp [rcl]
/-- The value v is the batch x, with its records in ps. -/
def IsB (okb ok : Nat → Prop) (W : World) (v : Value) (x : Bt) : Prop := ∃ u ps, v = .agg #[.int .i64 x.t, .int .i64 x.b, u] ∧ Rl okb ok W u ps ∧ rcl ps = x.rs
theorem IsB.imp {okb ok okb' ok' : Nat → Prop} {W W' : World} {v : Value} {x : Bt} (h : IsB okb ok W v x) (hkb : ∀ b, b < W.heap.size → okb b → okb' b) (hk : ∀ b, b < W.heap.size → ok b → ok' b) (hc : ∀ b i, b < W.heap.size → okb b ∨ ok b → W'.cell? ⟨b, i, none⟩ = W.cell? ⟨b, i, none⟩) : IsB okb' ok' W' v x := by
  obtain ⟨u, ps, h1, h2, h3⟩ := h
  exact ⟨u, ps, h1, h2.imp hkb hk hc, h3⟩
theorem IsB.below {okb ok : Nat → Prop} {W W' : World} {v : Value} {x : Bt} (h : IsB okb ok W v x) (hb : Below W.heap.size W W') : IsB okb ok W' v x :=
  h.imp (fun _ _ q => q) (fun _ _ q => q) (fun b i hl _ => hb.cell (p := ⟨b, i, none⟩) hl)
theorem IsB.any {okb ok : Nat → Prop} {W : World} {v : Value} {x : Bt} (h : IsB okb ok W v x) : IsB (fun _ => True) (fun _ => True) W v x :=
  h.imp (fun _ _ _ => trivial) (fun _ _ _ => trivial) (fun _ _ _ _ => rfl)
theorem isB_zero (okb ok : Nat → Prop) (W : World) : IsB okb ok W (.agg #[.int .i64 0, .int .i64 0, .slice none 0 0]) Bt.zero := ⟨_, [], rfl, Rl.nil _ _ _ _ _, rfl⟩
theorem ret_b {a b : Bool} (h : a = b) : Ending.returned (.bool b) = .returned (.bool a) := by rw [h]
/-- Are records no more than is waited for? -/
def shL (rs : List Rc) : Bool := decide (rs.length ≤ 80) && rs.all shB
theorem shL_no {rs : List Rc} {j : Nat} (hj : j < rs.length) (h : shB rs[j] = false) : shL rs = false := by
  unfold shL
  have : rs.all shB = false := by
    rw [List.all_eq_false]
    exact ⟨rs[j], List.getElem_mem hj, by simp [h]⟩
  rw [this, Bool.and_false]
theorem shL_long {rs : List Rc} (h : 80 < rs.length) : shL rs = false := by
  unfold shL
  rw [decide_eq_false (by omega), Bool.false_and]
theorem shL_is {rs : List Rc} (h : shL rs = true) : rs.length ≤ 80 ∧ ∀ r ∈ rs, shB r = true := by
  unfold shL at h
  simp only [Bool.and_eq_true, decide_eq_true_eq, List.all_eq_true] at h
  exact h
theorem all_take {rs : List Rc} {j : Nat} (hj : j < rs.length) {f : Rc → Bool} (h : (rs.take j).all f = true) (hn : f rs[j] = true) : (rs.take (j + 1)).all f = true := by
  rw [List.take_succ_eq_append_getElem hj, List.all_append, h]
  simp [hn]
end Go.Proofs.YtoioddnlkbjljaaGreatDoor
namespace Go.Proofs.YtoioddnlkbjljaaGreatDoor
open Go.ChangeShapes Go.WideShapes Go.ChangeAt Go.RowKit Go.Joins
set_option maxRecDepth 100000

theorem cellsBat : Tryz.prog.cellsOf 52 = 3 := by kernel_rfl
theorem cellsRs : Tryz.prog.cellsOf 50 = 1 := by kernel_rfl
section
variable {H : Type} {enc : TypeId × Value → H}
/-- A record's eighteen cells. -/
theorem open_cells {W : World} {fuel : Nat} {c0 c1 c2 c3 c4 c5 c6 c7 c8 c9 c10 c11 c12 c13 c14 c15 c16 c17 : Value} {x : DataW H × List MemPlace} (hf : DataW.trod enc Tryz.prog W 0 (fun _ => true) true fuel 55 [c0, c1, c2, c3, c4, c5, c6, c7, c8, c9, c10, c11, c12, c13, c14, c15, c16, c17] = some x) : ∃ p : Rp, [c0, c1, c2, c3, c4, c5, c6, c7, c8, c9, c10, c11, c12, c13, c14, c15, c16, c17] = cel p ∧ RwP (fun b => b < W.heap.size) W p := by
  obtain ⟨xs, n, _, _, _, hlen, hfi⟩ := DataW.trod_struct Tryz.underlying55 hf
  have hlen' : xs.length = 18 := hlen
  have t0 : DataW.trod enc Tryz.prog W 0 (fun _ => true) true n 3 [c0] = some (xs[0]'(by omega)) := by
    have q := hfi 0 _ rfl
    rw [List.getElem?_eq_getElem (show 0 < xs.length by omega)] at q
    change DataW.trod enc Tryz.prog W 0 (fun _ => true) true n 3 (List.take (Tryz.prog.cellsOf 3) (List.drop 0 [c0, c1, c2, c3, c4, c5, c6, c7, c8, c9, c10, c11, c12, c13, c14, c15, c16, c17])) = _ at q
    rw [cellsI] at q
    exact q
  obtain ⟨k0, e0, _, _⟩ := DataW.trod_int (t := 3) Tryz.underlying3 t0
  simp only [List.cons.injEq, and_true] at e0
  subst e0
  have t1 : DataW.trod enc Tryz.prog W 0 (fun _ => true) true n 3 [c1] = some (xs[1]'(by omega)) := by
    have q := hfi 1 _ rfl
    rw [List.getElem?_eq_getElem (show 1 < xs.length by omega)] at q
    change DataW.trod enc Tryz.prog W 0 (fun _ => true) true n 3 (List.take (Tryz.prog.cellsOf 3) (List.drop 1 [.int .i64 k0, c1, c2, c3, c4, c5, c6, c7, c8, c9, c10, c11, c12, c13, c14, c15, c16, c17])) = _ at q
    rw [cellsI] at q
    exact q
  obtain ⟨k1, e1, _, _⟩ := DataW.trod_int (t := 3) Tryz.underlying3 t1
  simp only [List.cons.injEq, and_true] at e1
  subst e1
  have t2 : DataW.trod enc Tryz.prog W 0 (fun _ => true) true n 3 [c2] = some (xs[2]'(by omega)) := by
    have q := hfi 2 _ rfl
    rw [List.getElem?_eq_getElem (show 2 < xs.length by omega)] at q
    change DataW.trod enc Tryz.prog W 0 (fun _ => true) true n 3 (List.take (Tryz.prog.cellsOf 3) (List.drop 2 [.int .i64 k0, .int .i64 k1, c2, c3, c4, c5, c6, c7, c8, c9, c10, c11, c12, c13, c14, c15, c16, c17])) = _ at q
    rw [cellsI] at q
    exact q
  obtain ⟨k2, e2, _, _⟩ := DataW.trod_int (t := 3) Tryz.underlying3 t2
  simp only [List.cons.injEq, and_true] at e2
  subst e2
  have t3 : DataW.trod enc Tryz.prog W 0 (fun _ => true) true n 3 [c3] = some (xs[3]'(by omega)) := by
    have q := hfi 3 _ rfl
    rw [List.getElem?_eq_getElem (show 3 < xs.length by omega)] at q
    change DataW.trod enc Tryz.prog W 0 (fun _ => true) true n 3 (List.take (Tryz.prog.cellsOf 3) (List.drop 3 [.int .i64 k0, .int .i64 k1, .int .i64 k2, c3, c4, c5, c6, c7, c8, c9, c10, c11, c12, c13, c14, c15, c16, c17])) = _ at q
    rw [cellsI] at q
    exact q
  obtain ⟨k3, e3, _, _⟩ := DataW.trod_int (t := 3) Tryz.underlying3 t3
  simp only [List.cons.injEq, and_true] at e3
  subst e3
  have t4 : DataW.trod enc Tryz.prog W 0 (fun _ => true) true n 3 [c4] = some (xs[4]'(by omega)) := by
    have q := hfi 4 _ rfl
    rw [List.getElem?_eq_getElem (show 4 < xs.length by omega)] at q
    change DataW.trod enc Tryz.prog W 0 (fun _ => true) true n 3 (List.take (Tryz.prog.cellsOf 3) (List.drop 4 [.int .i64 k0, .int .i64 k1, .int .i64 k2, .int .i64 k3, c4, c5, c6, c7, c8, c9, c10, c11, c12, c13, c14, c15, c16, c17])) = _ at q
    rw [cellsI] at q
    exact q
  obtain ⟨k4, e4, _, _⟩ := DataW.trod_int (t := 3) Tryz.underlying3 t4
  simp only [List.cons.injEq, and_true] at e4
  subst e4
  have t5 : DataW.trod enc Tryz.prog W 0 (fun _ => true) true n 3 [c5] = some (xs[5]'(by omega)) := by
    have q := hfi 5 _ rfl
    rw [List.getElem?_eq_getElem (show 5 < xs.length by omega)] at q
    change DataW.trod enc Tryz.prog W 0 (fun _ => true) true n 3 (List.take (Tryz.prog.cellsOf 3) (List.drop 5 [.int .i64 k0, .int .i64 k1, .int .i64 k2, .int .i64 k3, .int .i64 k4, c5, c6, c7, c8, c9, c10, c11, c12, c13, c14, c15, c16, c17])) = _ at q
    rw [cellsI] at q
    exact q
  obtain ⟨k5, e5, _, _⟩ := DataW.trod_int (t := 3) Tryz.underlying3 t5
  simp only [List.cons.injEq, and_true] at e5
  subst e5
  have t6 : DataW.trod enc Tryz.prog W 0 (fun _ => true) true n 3 [c6] = some (xs[6]'(by omega)) := by
    have q := hfi 6 _ rfl
    rw [List.getElem?_eq_getElem (show 6 < xs.length by omega)] at q
    change DataW.trod enc Tryz.prog W 0 (fun _ => true) true n 3 (List.take (Tryz.prog.cellsOf 3) (List.drop 6 [.int .i64 k0, .int .i64 k1, .int .i64 k2, .int .i64 k3, .int .i64 k4, .int .i64 k5, c6, c7, c8, c9, c10, c11, c12, c13, c14, c15, c16, c17])) = _ at q
    rw [cellsI] at q
    exact q
  obtain ⟨k6, e6, _, _⟩ := DataW.trod_int (t := 3) Tryz.underlying3 t6
  simp only [List.cons.injEq, and_true] at e6
  subst e6
  have t7 : DataW.trod enc Tryz.prog W 0 (fun _ => true) true n 3 [c7] = some (xs[7]'(by omega)) := by
    have q := hfi 7 _ rfl
    rw [List.getElem?_eq_getElem (show 7 < xs.length by omega)] at q
    change DataW.trod enc Tryz.prog W 0 (fun _ => true) true n 3 (List.take (Tryz.prog.cellsOf 3) (List.drop 7 [.int .i64 k0, .int .i64 k1, .int .i64 k2, .int .i64 k3, .int .i64 k4, .int .i64 k5, .int .i64 k6, c7, c8, c9, c10, c11, c12, c13, c14, c15, c16, c17])) = _ at q
    rw [cellsI] at q
    exact q
  obtain ⟨k7, e7, _, _⟩ := DataW.trod_int (t := 3) Tryz.underlying3 t7
  simp only [List.cons.injEq, and_true] at e7
  subst e7
  have t8 : DataW.trod enc Tryz.prog W 0 (fun _ => true) true n 3 [c8] = some (xs[8]'(by omega)) := by
    have q := hfi 8 _ rfl
    rw [List.getElem?_eq_getElem (show 8 < xs.length by omega)] at q
    change DataW.trod enc Tryz.prog W 0 (fun _ => true) true n 3 (List.take (Tryz.prog.cellsOf 3) (List.drop 8 [.int .i64 k0, .int .i64 k1, .int .i64 k2, .int .i64 k3, .int .i64 k4, .int .i64 k5, .int .i64 k6, .int .i64 k7, c8, c9, c10, c11, c12, c13, c14, c15, c16, c17])) = _ at q
    rw [cellsI] at q
    exact q
  obtain ⟨k8, e8, _, _⟩ := DataW.trod_int (t := 3) Tryz.underlying3 t8
  simp only [List.cons.injEq, and_true] at e8
  subst e8
  have t9 : DataW.trod enc Tryz.prog W 0 (fun _ => true) true n 4 [c9] = some (xs[9]'(by omega)) := by
    have q := hfi 9 _ rfl
    rw [List.getElem?_eq_getElem (show 9 < xs.length by omega)] at q
    change DataW.trod enc Tryz.prog W 0 (fun _ => true) true n 4 (List.take (Tryz.prog.cellsOf 4) (List.drop 9 [.int .i64 k0, .int .i64 k1, .int .i64 k2, .int .i64 k3, .int .i64 k4, .int .i64 k5, .int .i64 k6, .int .i64 k7, .int .i64 k8, c9, c10, c11, c12, c13, c14, c15, c16, c17])) = _ at q
    rw [cellsBo] at q
    exact q
  obtain ⟨k9, e9, _⟩ := DataW.trod_bool (t := 4) Tryz.underlying4 t9
  simp only [List.cons.injEq, and_true] at e9
  subst e9
  have t10 : DataW.trod enc Tryz.prog W 0 (fun _ => true) true n 9 [c10] = some (xs[10]'(by omega)) := by
    have q := hfi 10 _ rfl
    rw [List.getElem?_eq_getElem (show 10 < xs.length by omega)] at q
    change DataW.trod enc Tryz.prog W 0 (fun _ => true) true n 9 (List.take (Tryz.prog.cellsOf 9) (List.drop 10 [.int .i64 k0, .int .i64 k1, .int .i64 k2, .int .i64 k3, .int .i64 k4, .int .i64 k5, .int .i64 k6, .int .i64 k7, .int .i64 k8, .bool k9, c10, c11, c12, c13, c14, c15, c16, c17])) = _ at q
    rw [cellsS] at q
    exact q
  obtain ⟨k10, e10, _, _⟩ := DataW.trod_string (t := 9) Tryz.underlying9 t10
  simp only [List.cons.injEq, and_true] at e10
  subst e10
  have t11 : DataW.trod enc Tryz.prog W 0 (fun _ => true) true n 9 [c11] = some (xs[11]'(by omega)) := by
    have q := hfi 11 _ rfl
    rw [List.getElem?_eq_getElem (show 11 < xs.length by omega)] at q
    change DataW.trod enc Tryz.prog W 0 (fun _ => true) true n 9 (List.take (Tryz.prog.cellsOf 9) (List.drop 11 [.int .i64 k0, .int .i64 k1, .int .i64 k2, .int .i64 k3, .int .i64 k4, .int .i64 k5, .int .i64 k6, .int .i64 k7, .int .i64 k8, .bool k9, .string k10, c11, c12, c13, c14, c15, c16, c17])) = _ at q
    rw [cellsS] at q
    exact q
  obtain ⟨k11, e11, _, _⟩ := DataW.trod_string (t := 9) Tryz.underlying9 t11
  simp only [List.cons.injEq, and_true] at e11
  subst e11
  have t12 : DataW.trod enc Tryz.prog W 0 (fun _ => true) true n 9 [c12] = some (xs[12]'(by omega)) := by
    have q := hfi 12 _ rfl
    rw [List.getElem?_eq_getElem (show 12 < xs.length by omega)] at q
    change DataW.trod enc Tryz.prog W 0 (fun _ => true) true n 9 (List.take (Tryz.prog.cellsOf 9) (List.drop 12 [.int .i64 k0, .int .i64 k1, .int .i64 k2, .int .i64 k3, .int .i64 k4, .int .i64 k5, .int .i64 k6, .int .i64 k7, .int .i64 k8, .bool k9, .string k10, .string k11, c12, c13, c14, c15, c16, c17])) = _ at q
    rw [cellsS] at q
    exact q
  obtain ⟨k12, e12, _, _⟩ := DataW.trod_string (t := 9) Tryz.underlying9 t12
  simp only [List.cons.injEq, and_true] at e12
  subst e12
  have t13 : DataW.trod enc Tryz.prog W 0 (fun _ => true) true n 9 [c13] = some (xs[13]'(by omega)) := by
    have q := hfi 13 _ rfl
    rw [List.getElem?_eq_getElem (show 13 < xs.length by omega)] at q
    change DataW.trod enc Tryz.prog W 0 (fun _ => true) true n 9 (List.take (Tryz.prog.cellsOf 9) (List.drop 13 [.int .i64 k0, .int .i64 k1, .int .i64 k2, .int .i64 k3, .int .i64 k4, .int .i64 k5, .int .i64 k6, .int .i64 k7, .int .i64 k8, .bool k9, .string k10, .string k11, .string k12, c13, c14, c15, c16, c17])) = _ at q
    rw [cellsS] at q
    exact q
  obtain ⟨k13, e13, _, _⟩ := DataW.trod_string (t := 9) Tryz.underlying9 t13
  simp only [List.cons.injEq, and_true] at e13
  subst e13
  have t14 : DataW.trod enc Tryz.prog W 0 (fun _ => true) true n 53 [c14] = some (xs[14]'(by omega)) := by
    have q := hfi 14 _ rfl
    rw [List.getElem?_eq_getElem (show 14 < xs.length by omega)] at q
    change DataW.trod enc Tryz.prog W 0 (fun _ => true) true n 53 (List.take (Tryz.prog.cellsOf 53) (List.drop 14 [.int .i64 k0, .int .i64 k1, .int .i64 k2, .int .i64 k3, .int .i64 k4, .int .i64 k5, .int .i64 k6, .int .i64 k7, .int .i64 k8, .bool k9, .string k10, .string k11, .string k12, .string k13, c14, c15, c16, c17])) = _ at q
    rw [cellsR'] at q
    exact q
  obtain ⟨k14, a14, d14, e14, s14⟩ := open_rowi t14
  subst e14
  have t15 : DataW.trod enc Tryz.prog W 0 (fun _ => true) true n 53 [c15] = some (xs[15]'(by omega)) := by
    have q := hfi 15 _ rfl
    rw [List.getElem?_eq_getElem (show 15 < xs.length by omega)] at q
    change DataW.trod enc Tryz.prog W 0 (fun _ => true) true n 53 (List.take (Tryz.prog.cellsOf 53) (List.drop 15 [.int .i64 k0, .int .i64 k1, .int .i64 k2, .int .i64 k3, .int .i64 k4, .int .i64 k5, .int .i64 k6, .int .i64 k7, .int .i64 k8, .bool k9, .string k10, .string k11, .string k12, .string k13, .slice a14 k14.length d14, c15, c16, c17])) = _ at q
    rw [cellsR'] at q
    exact q
  obtain ⟨k15, a15, d15, e15, s15⟩ := open_rowi t15
  subst e15
  have t16 : DataW.trod enc Tryz.prog W 0 (fun _ => true) true n 53 [c16] = some (xs[16]'(by omega)) := by
    have q := hfi 16 _ rfl
    rw [List.getElem?_eq_getElem (show 16 < xs.length by omega)] at q
    change DataW.trod enc Tryz.prog W 0 (fun _ => true) true n 53 (List.take (Tryz.prog.cellsOf 53) (List.drop 16 [.int .i64 k0, .int .i64 k1, .int .i64 k2, .int .i64 k3, .int .i64 k4, .int .i64 k5, .int .i64 k6, .int .i64 k7, .int .i64 k8, .bool k9, .string k10, .string k11, .string k12, .string k13, .slice a14 k14.length d14, .slice a15 k15.length d15, c16, c17])) = _ at q
    rw [cellsR'] at q
    exact q
  obtain ⟨k16, a16, d16, e16, s16⟩ := open_rowi t16
  subst e16
  have t17 : DataW.trod enc Tryz.prog W 0 (fun _ => true) true n 53 [c17] = some (xs[17]'(by omega)) := by
    have q := hfi 17 _ rfl
    rw [List.getElem?_eq_getElem (show 17 < xs.length by omega)] at q
    change DataW.trod enc Tryz.prog W 0 (fun _ => true) true n 53 (List.take (Tryz.prog.cellsOf 53) (List.drop 17 [.int .i64 k0, .int .i64 k1, .int .i64 k2, .int .i64 k3, .int .i64 k4, .int .i64 k5, .int .i64 k6, .int .i64 k7, .int .i64 k8, .bool k9, .string k10, .string k11, .string k12, .string k13, .slice a14 k14.length d14, .slice a15 k15.length d15, .slice a16 k16.length d16, c17])) = _ at q
    rw [cellsR'] at q
    exact q
  obtain ⟨k17, a17, d17, e17, s17⟩ := open_rowi t17
  subst e17
  refine ⟨(⟨k0, k1, k2, k3, k4, k5, k6, k7, k8, k9, k10.data.toList, k11.data.toList, k12.data.toList, k13.data.toList, k14, k15, k16, k17⟩, ⟨a14, a15, a16, a17, d14, d15, d16, d17⟩), ?_, ⟨s14, s15, s16, s17⟩⟩
  rw [str_form k10, str_form k11, str_form k12, str_form k13]
  rfl
theorem open_rp {W : World} {n : Nat} {a : Addr} {cs : List Value} {x : DataW H × List MemPlace} (hc : W.cells? 0 a (Tryz.prog.cellsOf 55) = some cs)
    (h : DataW.trod enc Tryz.prog W 0 (fun _ => true) true n 55 cs = some x) : ∃ p : Rp, (∀ j u, (cel p)[j]? = some u → W.cell? (a.add j) = some u) ∧ RwP (fun b => b < W.heap.size) W p := by
  rw [cellsRec] at hc
  obtain ⟨_, hl, hcell⟩ := World.cells?_some hc
  obtain ⟨c0, c1, c2, c3, c4, c5, c6, c7, c8, c9, c10, c11, c12, c13, c14, c15, c16, c17, e⟩ := array18 (cs := cs.toArray) (by simpa using hl)
  have e' : cs = [c0, c1, c2, c3, c4, c5, c6, c7, c8, c9, c10, c11, c12, c13, c14, c15, c16, c17] := by simpa using congrArg Array.toList e
  rw [e'] at h
  obtain ⟨p, h1, h2⟩ := open_cells h
  rw [h1] at e'
  refine ⟨p, fun j u hj => ?_, h2⟩
  rw [← e'] at hj
  have hjl := (List.getElem?_eq_some_iff.1 hj)
  obtain ⟨hlt, hv⟩ := hjl
  rw [hcell j (by omega)]
  exact hj
/-- Records that came in, opened. -/
theorem open_rps {W : World} {fuel : Nat} {u : Value} {x : DataW H × List MemPlace} (hu : ∃ a0 len cap, u = .slice a0 len cap) (hf : DataW.trod enc Tryz.prog W 0 (fun _ => true) true fuel 50 [u] = some x) : ∃ ps : List Rp, Rl (fun _ => True) (fun b => b < W.heap.size) W u ps ∧ ps.length ≤ maxLen := by
  obtain ⟨a0, len, cap, rfl⟩ := hu
  rcases Deep.open_slice (t := 50) Tryz.underlying50 hf with ⟨e0, _⟩ | ⟨a, len', cap', q, n, D, Pl, e0, _, hlen, hcap, hq, hx, hel⟩
  · simp at e0
    obtain ⟨rfl, rfl, rfl⟩ := e0
    exact ⟨[], Rl.nil _ _ _ _ _, Nat.zero_le _⟩
  · simp at e0
    obtain ⟨rfl, rfl, rfl⟩ := e0
    rw [if_pos rfl] at hq
    subst hq
    have hs : ∀ i, i < len → ∃ p : Rp, (∀ j u, (cel p)[j]? = some u → W.cell? ((a.add (i * 18)).add j) = some u) ∧ RwP (fun b => b < W.heap.size) W p := by
      intro i hi
      obtain ⟨cs', hc, ht⟩ := hel i (by omega)
      have := open_rp hc ht
      rwa [cellsRec] at this
    haveI : Inhabited Rp := ⟨(Rc.zero, ⟨none, none, none, none, 0, 0, 0, 0⟩)⟩
    obtain ⟨f, hf⟩ := Deep.choose_lt hs
    have hl : ((List.range len).map f).length = len := by simp
    refine ⟨(List.range len).map f, ⟨?_, fun p hp => ?_⟩, by rw [hl]; omega⟩
    · by_cases h0 : len = 0
      · subst h0
        exact .inl ⟨_, _, rfl, rfl⟩
      · obtain ⟨b, o, sp⟩ := a
        have hsp : sp = none := by simpa [Addr.add] using World.cell?_spot ((hf 0 (by omega)).1 0 _ rfl)
        subst hsp
        refine .inr ⟨b, o, _, by rw [hl], by rw [hl]; exact hlen, trivial, by omega, fun j u hj => ?_⟩
        have hjl : j < ((List.range len).map f).length * 18 := by have := (List.getElem?_eq_some_iff.1 hj).1; rwa [rcs_len] at this
        rw [hl] at hjl
        have hi : j / 18 < len := by omega
        have hget : ((List.range len).map f)[j / 18]'(by rw [hl]; exact hi) = f (j / 18) := by simp
        have hm : j % 18 < 18 := by omega
        obtain ⟨u', hu'⟩ : ∃ u', (cel (f (j / 18)))[j % 18]? = some u' := ⟨_, List.getElem?_eq_getElem (by rw [cel_len]; exact hm)⟩
        have h2 := rcs_get ((List.range len).map f) (j / 18) (by rw [hl]; exact hi) (j % 18) u' (by rw [hget]; exact hu')
        rw [show j / 18 * 18 + j % 18 = j by omega, hj] at h2
        cases h2
        have h3 := (hf (j / 18) hi).1 (j % 18) u hu'
        rw [Addr.add_lit, Addr.add_lit, Nat.add_assoc, show j / 18 * 18 + j % 18 = j by omega] at h3
        exact h3
    · obtain ⟨i, hi, rfl⟩ := List.mem_map.1 hp
      exact (hf i (List.mem_range.1 hi)).2
end
theorem u32_of {n : Int} (h : (Lit.int .u32 n).wf = true) : 0 ≤ n ∧ n ≤ 4294967295 := by
  simp only [Lit.wf, Bool.and_eq_true, decide_eq_true_eq, show IntKind.u32.min = 0 by decide, show IntKind.u32.max = 4294967295 by decide] at h
  exact h
theorem i64_of {n : Int} (h : (Lit.int .i64 n).wf = true) : -9223372036854775808 ≤ n ∧ n ≤ 9223372036854775807 := by
  simp only [Lit.wf, Bool.and_eq_true, decide_eq_true_eq, show IntKind.i64.min = -9223372036854775808 by decide, show IntKind.i64.max = 9223372036854775807 by decide] at h
  exact h
end Go.Proofs.YtoioddnlkbjljaaGreatDoor
namespace Go.Proofs.YtoioddnlkbjljaaGreatDoor

/-- What a kind is about. -/
def lettersM (k : Int) : List UInt8 :=
  if k = 1 then [97, 112] else if k = 2 then [97, 103, 108] else if k = 3 then [112] else if k = 4 then [108, 112, 104, 99, 98] else if k = 5 then [108] else if k = 6 then [108] else if k = 7 then [112, 111] else if k = 8 then [108, 112, 99, 115, 111, 100] else []
def hasM (k : Int) (c : Int) : Bool := (lettersM k).any fun y => decide ((y.toNat : Int) = c)
/-- Bytes of no more than 512, read next. -/
def gD (l : List Int) (s : Gs) : Gs × List Int :=
  if s.c = 0 then (mkS (textS l s.pt 512).1 (textS l s.pt 512).2.1 (textS l s.pt 512).2.2.1 s.pt, (textS l s.pt 512).2.2.2) else (s, [])
def enD (D : List Int) : List Int := intL D.length ++ D
theorem textD_can {l : List Int} {a : Nat} (h : (textS l a 512).1 = 0) : ∃ k N, numS (l.drop a) 512 = (0, k, N) ∧ ¬ ((l.length - (a + k) : Nat) : Int) < N ∧ textS l a 512 = (0, ⟨#[110, 117, 109]⟩, a + k + N.toNat, (l.drop (a + k)).take N.toNat) := by
  unfold textS at h ⊢
  rw [show abv' 512 = 512 from rfl] at h ⊢
  rcases hq : numS (l.drop a) 512 with ⟨c, k, N⟩
  rw [hq] at h
  simp only at h ⊢
  by_cases hc : c = 0
  · subst hc
    simp only [if_true] at h ⊢
    by_cases hs : ((l.length - (a + k) : Nat) : Int) < N
    · rw [if_pos hs] at h; simp at h
    · exact ⟨k, N, rfl, hs, by rw [if_neg hs]⟩
  · rw [if_neg hc] at h; exact absurd h hc
theorem fldD : Fld ([] : List Int) gD enD (fun D => D.length ≤ 512 ∧ Byt D) where
  stay l s h := if_neg h
  can l a h := by
    simp only [gD, okS, if_true] at h ⊢
    exact (mkS_can h).1
  back P S Q h := by
    simp only [gD, okS, if_true]
    unfold enD
    rw [textS_back P S Q (by omega) (by omega)]
    simp only [mkS_zero, okS, List.length_append]
  once l a b x hb ha h := by
    simp only [gD, okS, if_true] at h
    obtain ⟨h1, h2⟩ := Prod.mk.inj h
    have hc : (mkS (textS l a 512).1 (textS l a 512).2.1 (textS l a 512).2.2.1 a).c = 0 := by rw [h1]
    obtain ⟨k, N, hq, hs, ht⟩ := textD_can (mkS_can hc).2
    rw [ht] at h1 h2
    simp only [mkS_zero] at h1 h2
    have hbd : Byt (l.drop a) := fun x hx => hb x (List.mem_of_mem_drop hx)
    obtain ⟨e1, e2, e3, e4, e5, e6⟩ := numS_once hbd hq
    rw [List.length_drop] at e6
    obtain rfl : a + k + N.toNat = b := okS_inj h1
    have hby2 : Byt ((l.drop (a + k)).take N.toNat) := fun x hx => hb x (List.mem_of_mem_drop (List.mem_of_mem_take hx))
    have hlen : x.length = N.toNat := by rw [← h2, List.length_take, List.length_drop]; omega
    refine ⟨⟨by rw [hlen]; omega, by rw [← h2]; exact hby2⟩, by omega, by omega, ?_⟩
    unfold enD
    rw [hlen, show ((N.toNat : Nat) : Int) = N by omega, intL_num e3 e4, ← h2, List.append_assoc, drop_once e1]
    congr 1
    exact drop_once rfl
  cut l a n b x h ha := by
    simp only [gD, okS, if_true] at h ⊢
    obtain ⟨h1, h2⟩ := Prod.mk.inj h
    have hc : (mkS (textS l a 512).1 (textS l a 512).2.1 (textS l a 512).2.2.1 a).c = 0 := by rw [h1]
    obtain ⟨k, N, hq, hs, ht⟩ := textD_can (mkS_can hc).2
    rw [ht] at h1 h2
    simp only [mkS_zero] at h1 h2
    obtain rfl : a + k + N.toNat = b := okS_inj h1
    have hq2 := numS_cut hq n ha
    unfold textS
    rw [show abv' 512 = 512 from rfl, hq2]
    by_cases hk : a + k ≤ n
    · rw [if_pos hk]
      simp only [if_true]
      by_cases hn : a + k + N.toNat ≤ n
      · rw [if_neg (by rw [List.length_take]; omega)]
        refine .inl ⟨hn, ?_⟩
        simp only [mkS_zero]
        rw [List.drop_take, List.take_take, show min N.toNat (n - (a + k)) = N.toNat by omega, h2]
        rfl
      · rw [if_pos (by rw [List.length_take]; omega)]
        exact .inr ⟨by omega, mkS_c _ _ _ _⟩
    · rw [if_neg hk]
      exact .inr ⟨by omega, mkS_c _ _ _ _⟩
/-- A message. -/
structure Ms where
  k : Int
  fr : Int
  tn : Int
  t : Int
  pre : Bool
  ok : Bool
  ld : Int
  pa : Int
  pt : Int
  hi : Int
  co : Int
  sz : Int
  po : Int
  da : List Int
  bs : List Bt
def Ms.zero : Ms := ⟨0, 0, 0, 0, false, false, 0, 0, 0, 0, 0, 0, 0, [], []⟩
def Ms.n3 (m : Ms) : List Int := [m.fr, m.tn, m.t]
def Ms.n7 (m : Ms) : List Int := [m.ld, m.pa, m.pt, m.hi, m.co, m.sz, m.po]
def mkM (k : Int) (a : List Int) (f : List Bool) (n : List Int) (d : List (List Int)) (b : List Bt) : Ms :=
  ⟨k, a.getD 0 0, a.getD 1 0, a.getD 2 0, f.getD 0 false, f.getD 1 false, n.getD 0 0, n.getD 1 0, n.getD 2 0, n.getD 3 0, n.getD 4 0, n.getD 5 0, n.getD 6 0, d.getD 0 [], b⟩
def h3 : List Bool := [true, true, true]
def hF2 (k : Int) : List Bool := [hasM k 97, hasM k 103]
def hN7 (k : Int) : List Bool := [hasM k 108, hasM k 112, hasM k 112, hasM k 104, hasM k 99, hasM k 115, hasM k 111]
/-- Batches, one behind the other. -/
def batsL (bs : List Bt) : List Int := bs.flatMap bytL
theorem batsL_app (a b : List Bt) : batsL (a ++ b) = batsL a ++ batsL b := by unfold batsL; exact List.flatMap_append
theorem batsL_cons (x : Bt) (bs : List Bt) : batsL (x :: bs) = bytL x ++ batsL bs := by simp [batsL]
theorem batsL_snoc (bs : List Bt) (j : Nat) (h : j < bs.length) : batsL (bs.take (j + 1)) = batsL (bs.take j) ++ bytL bs[j] := by
  rw [List.take_succ_eq_append_getElem h, batsL_app, batsL_cons]
  simp only [show batsL [] = [] from rfl, List.append_nil]
theorem next_stay {l : List Int} {s : Gs} (h : s.c ≠ 0) : nextG l s = (s, Bt.zero) := by
  have hr : ∀ op c, refS op c s = s := fun op c => if_neg h
  have hs : ∀ m, gN m l s = (s, 0) := fun m => if_neg h
  unfold nextG
  simp only
  rw [hs]
  simp only
  rw [hs]
  simp only
  rw [hs]
  simp only [true_or, if_true, hr]
  rw [recs_stay h]
  simp only [hr, ite_self]
  rw [if_neg h]
def batsG (l : List Int) : Nat → Gs → Gs × List Bt
  | 0, s => (s, [])
  | n + 1, s => let q := batsG l n s; let r := nextG l q.1; (r.1, q.2 ++ [r.2])
theorem batsG_succ (l : List Int) (n : Nat) (s : Gs) : batsG l (n + 1) s = ((nextG l (batsG l n s).1).1, (batsG l n s).2 ++ [(nextG l (batsG l n s).1).2]) := rfl
theorem bats_len (l : List Int) (s : Gs) : ∀ n, (batsG l n s).2.length = n
  | 0 => rfl
  | n + 1 => by rw [batsG_succ]; simp [bats_len l s n]
theorem bats_stay {l : List Int} {s : Gs} (h : s.c ≠ 0) : ∀ n, (batsG l n s).1 = s
  | 0 => rfl
  | n + 1 => by rw [batsG_succ, bats_stay h n]; simp only [next_stay h]
theorem bats_stop {l : List Int} {s : Gs} {j : Nat} (h : (batsG l j s).1.c ≠ 0) : ∀ n, (batsG l (j + n) s).1 = (batsG l j s).1
  | 0 => rfl
  | n + 1 => by
    rw [← Nat.add_assoc, batsG_succ, bats_stop h n]
    simp only [next_stay h]
theorem bats_pt {l : List Int} {s : Gs} (hb : Byt l) (hs : s.pt ≤ l.length) : ∀ n, (batsG l n s).1.pt ≤ l.length
  | 0 => hs
  | n + 1 => next_pt hb (bats_pt hb hs n)
theorem bats_back : ∀ (bs : List Bt) (P Q : List Int), (∀ x ∈ bs, (bw x).c = 0 ∧ (bytL x).length ≤ 16384) → ∀ j, j ≤ bs.length → batsG (P ++ (batsL bs ++ Q)) j (okS P.length) = (okS (P.length + (batsL (bs.take j)).length), bs.take j) := by
  intro bs P Q h j
  induction j with
  | zero => intro _; simp [batsG, batsL]
  | succ j ih =>
    intro hj
    have hlt : j < bs.length := by omega
    rw [batsG_succ, ih (by omega)]
    simp only
    have hs : batsL bs = batsL (bs.take j) ++ (bytL bs[j] ++ batsL (bs.drop (j + 1))) := by
      have : bs = bs.take j ++ (bs[j] :: bs.drop (j + 1)) := by rw [← List.drop_eq_getElem_cons hlt, List.take_append_drop]
      rw [← batsL_cons]
      conv => lhs; rw [this]
      rw [batsL_app]
    have hl : P ++ (batsL bs ++ Q) = (P ++ batsL (bs.take j)) ++ (bytL bs[j] ++ (batsL (bs.drop (j + 1)) ++ Q)) := by rw [hs]; simp only [List.append_assoc]
    obtain ⟨g1, g2⟩ := h _ (List.getElem_mem hlt)
    have hb := next_back bs[j] g1 g2 (P ++ batsL (bs.take j)) (batsL (bs.drop (j + 1)) ++ Q)
    rw [List.length_append] at hb
    rw [hl, hb, batsL_snoc bs j hlt, List.length_append, List.take_succ_eq_append_getElem hlt, Nat.add_assoc]
theorem bats_once (l : List Int) (hb : Byt l) (a : Nat) (ha : a ≤ l.length) : ∀ n, (batsG l n (okS a)).1.c = 0 → (∀ x ∈ (batsG l n (okS a)).2, (bw x).c = 0 ∧ (bytL x).length ≤ 16384) ∧ ∃ b, (batsG l n (okS a)).1 = okS b ∧ a ≤ b ∧ b ≤ l.length ∧ l.drop a = batsL (batsG l n (okS a)).2 ++ l.drop b
  | 0, _ => ⟨fun r hr => by simp [batsG] at hr, a, rfl, Nat.le_refl _, ha, by simp [batsG, batsL]⟩
  | n + 1, h => by
    have h0 : (batsG l n (okS a)).1.c = 0 := by
      by_cases q : (batsG l n (okS a)).1.c = 0
      · exact q
      · have := bats_stop q 1
        rw [this] at h
        exact h
    obtain ⟨i1, b, i2, i3, i4, i5⟩ := bats_once l hb a ha n h0
    rw [batsG_succ] at h ⊢
    simp only at h ⊢
    rw [i2] at h ⊢
    obtain ⟨c1, b', c2, c3, c4, c6, c5⟩ := next_once l hb b i4 h
    have hlen : (bytL (nextG l (okS b)).2).length ≤ 16384 := by
      have := congrArg List.length c5
      rw [List.length_append, List.length_drop, List.length_drop] at this
      omega
    refine ⟨fun r hr => ?_, b', by rw [c2], by omega, c4, ?_⟩
    · rcases List.mem_append.1 hr with q | q
      · exact i1 r q
      · simp at q; subst q; exact ⟨c1, hlen⟩
    · rw [i5, c5, batsL_app, batsL_cons]
      simp only [show batsL [] = [] from rfl, List.append_nil, List.append_assoc]
/-- What lies behind a message's kind. -/
def tailM (m : Ms) : List Int := encs intL h3 m.n3 ++ (encs (fun f => [flB f]) (hF2 m.k) [m.pre, m.ok] ++ (encs intL (hN7 m.k) m.n7 ++ (encs enD [hasM m.k 100] [m.da] ++ (encs intL [hasM m.k 98] [(m.bs.length : Int)] ++ batsL m.bs))))
def bodyM (l : List Int) (k : Int) (s : Gs) : Gs × Ms :=
  let a := fL 0 (gN 1073741824 l) h3 s
  let f := fL false (gF l) (hF2 k) a.1
  let n := fL 0 (gN 1073741824 l) (hN7 k) f.1
  let d := fL [] (gD l) [hasM k 100] n.1
  let c := fL 0 (gN 8 l) [hasM k 98] d.1
  let b := batsG l (c.2.getD 0 0).toNat c.1
  (b.1, mkM k a.2 f.2 n.2 d.2 b.2)
structure MsOk (m : Ms) : Prop where
  n3 : Ok2 0 (fun x => 0 ≤ x ∧ x ≤ 1073741824) h3 m.n3
  fl : Ok2 false (fun _ => True) (hF2 m.k) [m.pre, m.ok]
  n7 : Ok2 0 (fun x => 0 ≤ x ∧ x ≤ 1073741824) (hN7 m.k) m.n7
  da : Ok2 [] (fun D => D.length ≤ 512 ∧ Byt D) [hasM m.k 100] [m.da]
  ct : Ok2 0 (fun x => 0 ≤ x ∧ x ≤ 8) [hasM m.k 98] [(m.bs.length : Int)]
  bs : ∀ x ∈ m.bs, (bw x).c = 0 ∧ (bytL x).length ≤ 16384
theorem F8 : Fld (0 : Int) (gN 8) intL (fun x => 0 ≤ x ∧ x ≤ 8) := fldN _ (by decide)
theorem bodyM_back (m : Ms) (h : MsOk m) (P Q : List Int) : bodyM (P ++ (tailM m ++ Q)) m.k (okS P.length) = (okS (P.length + (tailM m).length), m) := by
  obtain ⟨h1, h2, h3', h4, h5, h6⟩ := h
  unfold bodyM tailM
  simp only
  generalize hA : encs intL h3 m.n3 = A
  generalize hB : encs (fun f => [flB f]) (hF2 m.k) [m.pre, m.ok] = B
  generalize hC : encs intL (hN7 m.k) m.n7 = C
  generalize hD : encs enD [hasM m.k 100] [m.da] = D
  generalize hE : encs intL [hasM m.k 98] [(m.bs.length : Int)] = E
  have e1 := fL_back F30 h3 m.n3 P (B ++ (C ++ (D ++ (E ++ (batsL m.bs ++ Q))))) h1
  have e2 := fL_back fldF (hF2 m.k) [m.pre, m.ok] (P ++ A) (C ++ (D ++ (E ++ (batsL m.bs ++ Q)))) h2
  have e3 := fL_back F30 (hN7 m.k) m.n7 (P ++ (A ++ B)) (D ++ (E ++ (batsL m.bs ++ Q))) h3'
  have e4 := fL_back fldD [hasM m.k 100] [m.da] (P ++ (A ++ (B ++ C))) (E ++ (batsL m.bs ++ Q)) h4
  have e5 := fL_back F8 [hasM m.k 98] [(m.bs.length : Int)] (P ++ (A ++ (B ++ (C ++ D)))) (batsL m.bs ++ Q) h5
  have e6 := bats_back m.bs (P ++ (A ++ (B ++ (C ++ (D ++ E))))) Q h6 m.bs.length (Nat.le_refl _)
  rw [List.take_length] at e6
  rw [hA] at e1
  rw [hB] at e2
  rw [hC] at e3
  rw [hD] at e4
  rw [hE] at e5
  simp only [List.append_assoc, List.length_append, Nat.add_assoc] at e1 e2 e3 e4 e5 e6 ⊢
  rw [e1]
  simp only
  rw [e2]
  simp only
  rw [e3]
  simp only
  rw [e4]
  simp only
  rw [e5]
  simp only [List.getD_cons_zero, Int.toNat_natCast]
  rw [e6]
  rfl
theorem bodyM_run (l : List Int) (hb : Byt l) (k : Int) (a : Nat) (ha : a ≤ l.length) (h : (bodyM l k (okS a)).1.c = 0) : ∃ b, (bodyM l k (okS a)).1 = okS b ∧ (bodyM l k (okS a)).2.k = k ∧ a ≤ b ∧ b ≤ l.length ∧ l.drop a = tailM (bodyM l k (okS a)).2 ++ l.drop b ∧ MsOk (bodyM l k (okS a)).2 := by
  unfold bodyM at h ⊢
  simp only at h ⊢
  rcases hq1 : fL 0 (gN 1073741824 l) h3 (okS a) with ⟨s1, v1⟩
  rw [hq1] at h
  simp only at h ⊢
  rcases hq2 : fL false (gF l) (hF2 k) s1 with ⟨s2, v2⟩
  rw [hq2] at h
  simp only at h ⊢
  rcases hq3 : fL 0 (gN 1073741824 l) (hN7 k) s2 with ⟨s3, v3⟩
  rw [hq3] at h
  simp only at h ⊢
  rcases hq4 : fL [] (gD l) [hasM k 100] s3 with ⟨s4, v4⟩
  rw [hq4] at h
  simp only at h ⊢
  rcases hq5 : fL 0 (gN 8 l) [hasM k 98] s4 with ⟨s5, v5⟩
  rw [hq5] at h
  simp only at h ⊢
  have z5 : s5.c = 0 := by
    by_cases q : s5.c = 0
    · exact q
    · have := bats_stay (l := l) q (v5.getD 0 0).toNat
      rw [this] at h
      exact absurd h q
  have z4 : s4.c = 0 := by
    by_cases q : s4.c = 0
    · exact q
    · have := fL_stay F8 l [hasM k 98] s4 q
      rw [hq5] at this
      simp only at this
      rw [this] at z5
      exact absurd z5 q
  have z3 : s3.c = 0 := by
    by_cases q : s3.c = 0
    · exact q
    · have := fL_stay fldD l [hasM k 100] s3 q
      rw [hq4] at this
      simp only at this
      rw [this] at z4
      exact absurd z4 q
  have z2 : s2.c = 0 := by
    by_cases q : s2.c = 0
    · exact q
    · have := fL_stay F30 l (hN7 k) s2 q
      rw [hq3] at this
      simp only at this
      rw [this] at z3
      exact absurd z3 q
  have z1 : s1.c = 0 := by
    by_cases q : s1.c = 0
    · exact q
    · have := fL_stay fldF l (hF2 k) s1 q
      rw [hq2] at this
      simp only at this
      rw [this] at z2
      exact absurd z2 q
  obtain ⟨p1, rfl⟩ : ∃ p, s1 = okS p := ⟨_, by have := fL_can F30 l h3 a (by rw [hq1]; exact z1); rw [hq1] at this; exact this⟩
  obtain ⟨o1, a1, b1, d1⟩ := fL_once F30 l hb h3 a p1 v1 ha hq1
  obtain ⟨p2, rfl⟩ : ∃ p, s2 = okS p := ⟨_, by have := fL_can fldF l (hF2 k) p1 (by rw [hq2]; exact z2); rw [hq2] at this; exact this⟩
  obtain ⟨o2, a2, b2, d2⟩ := fL_once fldF l hb (hF2 k) p1 p2 v2 b1 hq2
  obtain ⟨p3, rfl⟩ : ∃ p, s3 = okS p := ⟨_, by have := fL_can F30 l (hN7 k) p2 (by rw [hq3]; exact z3); rw [hq3] at this; exact this⟩
  obtain ⟨o3, a3, b3, d3⟩ := fL_once F30 l hb (hN7 k) p2 p3 v3 b2 hq3
  obtain ⟨p4, rfl⟩ : ∃ p, s4 = okS p := ⟨_, by have := fL_can fldD l [hasM k 100] p3 (by rw [hq4]; exact z4); rw [hq4] at this; exact this⟩
  obtain ⟨o4, a4, b4, d4⟩ := fL_once fldD l hb [hasM k 100] p3 p4 v4 b3 hq4
  obtain ⟨p5, rfl⟩ : ∃ p, s5 = okS p := ⟨_, by have := fL_can F8 l [hasM k 98] p4 (by rw [hq5]; exact z5); rw [hq5] at this; exact this⟩
  obtain ⟨o5, a5, b5, d5⟩ := fL_once F8 l hb [hasM k 98] p4 p5 v5 b4 hq5
  obtain ⟨i1, b', i2, i3, i4, i5⟩ := bats_once l hb p5 b5 (v5.getD 0 0).toNat h
  have hlb := bats_len l (okS p5) (v5.getD 0 0).toNat
  have l1 := fL_len (0 : Int) (gN 1073741824 l) h3 (okS a)
  have l2 := fL_len false (gF l) (hF2 k) (okS p1)
  have l3 := fL_len (0 : Int) (gN 1073741824 l) (hN7 k) (okS p2)
  have l4 := fL_len ([] : List Int) (gD l) [hasM k 100] (okS p3)
  have l5 := fL_len (0 : Int) (gN 8 l) [hasM k 98] (okS p4)
  rw [hq1] at l1
  rw [hq2] at l2
  rw [hq3] at l3
  rw [hq4] at l4
  rw [hq5] at l5
  simp only at l1 l2 l3 l4 l5
  rw [i2]
  generalize (batsG l (v5.getD 0 0).toNat (okS p5)).2 = vb at *
  obtain ⟨x0, x1, x2, rfl⟩ : ∃ x0 x1 x2, v1 = [x0, x1, x2] := by
    rcases v1 with _ | ⟨x0, _ | ⟨x1, _ | ⟨x2, _ | ⟨x3, r⟩⟩⟩⟩ <;> simp [h3] at l1
    exact ⟨_, _, _, rfl⟩
  obtain ⟨f0, f1, rfl⟩ : ∃ f0 f1, v2 = [f0, f1] := by
    rcases v2 with _ | ⟨x0, _ | ⟨x1, _ | ⟨x2, r⟩⟩⟩ <;> simp [hF2] at l2
    exact ⟨_, _, rfl⟩
  obtain ⟨y0, y1, y2, y3, y4, y5, y6, rfl⟩ : ∃ y0 y1 y2 y3 y4 y5 y6, v3 = [y0, y1, y2, y3, y4, y5, y6] := by
    rcases v3 with _ | ⟨x0, _ | ⟨x1, _ | ⟨x2, _ | ⟨x3, _ | ⟨x4, _ | ⟨x5, _ | ⟨x6, _ | ⟨x7, r⟩⟩⟩⟩⟩⟩⟩⟩ <;> simp [hN7] at l3
    exact ⟨_, _, _, _, _, _, _, rfl⟩
  obtain ⟨w0, rfl⟩ : ∃ w0, v4 = [w0] := by
    rcases v4 with _ | ⟨x0, _ | ⟨x1, r⟩⟩ <;> simp at l4
    exact ⟨_, rfl⟩
  obtain ⟨c0, rfl⟩ : ∃ c0, v5 = [c0] := by
    rcases v5 with _ | ⟨x0, _ | ⟨x1, r⟩⟩ <;> simp at l5
    exact ⟨_, rfl⟩
  have hc : c0 = (vb.length : Int) := by
    rw [hlb]
    have hh := o5.1
    simp only [List.getD_cons_zero]
    split at hh
    · omega
    · rw [hh]; rfl
  rw [hc] at o5 d5
  refine ⟨b', rfl, rfl, by omega, i4, ?_, ⟨o1, o2, o3, o4, o5, i1⟩⟩
  show l.drop a = (encs intL h3 [x0, x1, x2] ++ (encs (fun f => [flB f]) (hF2 k) [f0, f1] ++ (encs intL (hN7 k) [y0, y1, y2, y3, y4, y5, y6] ++ (encs enD [hasM k 100] [w0] ++ (encs intL [hasM k 98] [(vb.length : Int)] ++ batsL vb))))) ++ l.drop b'
  rw [d1, d2, d3, d4, d5, i5]
  simp only [List.append_assoc]
end Go.Proofs.YtoioddnlkbjljaaGreatDoor
