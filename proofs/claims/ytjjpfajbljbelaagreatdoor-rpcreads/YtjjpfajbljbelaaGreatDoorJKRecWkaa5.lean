/-
  THE EXAMPLE (castellanlaw05.works): true. Condition: errors.errorType is laid.
  THE EXAMPLE (castellanlaw05.works): true. Condition: errors.errorType is laid.
  A RECORD NO LONGER THAN IS WAITED FOR (castellanref05.Short). No condition.
  A RECORD's BYTES ARE BYTES, AND NOT TOO MANY; bytes cut short, as slices. Condition: the record may be.
  BATCHES AS BYTES, on lists alone (no program in sight): what is wrong with one first, how one is written, what is read of bytes, that what is written is read as what it was, and that bytes that are read are those that are written. Conditions: bytes are bytes.
-/
import Derived.Test.YtjjpfajbljbelaaGreatDoorJKRecPutba5
import Derived.Test.YtjjpfajbljbelaaGreatDoorJKRecSmb
import Derived.WalkMore
namespace Go.Proofs.YtjjpfajbljbelaaGreatDoor
open Go.RowKit
theorem Bx.range {p b : Nat} {w w' : World} {x : Value} {xs : List Value} (h : Bx p w w') (hp : b ≠ p) (hr : w.rangeAt b 0 (x :: xs)) : w'.rangeAt b 0 (x :: xs) := fun j y hy =>
 (h.cell (cell_block (hr 0 _ rfl) : b < w.heap.size) hp).trans (hr j y hy)
theorem RwsR.bx {ok : Nat → Prop} {p : Nat} {W W' : World} {r : Rc} {a14 a15 a16 a17 : Option Addr} {c14 c15 c16 c17 : Nat} (h : RwsR ok W r a14 a15 a16 a17 c14 c15 c16 c17) (hb : Bx p W W') (hk : ∀ b, ok b → b ≠ p) : RwsR ok W' r a14 a15 a16 a17 c14 c15 c16 c17 :=
 ⟨h.h14.imp (fun _ _ q => q) (fun b _ hl q => hb.cell hl (hk b q)), h.h15.imp (fun _ _ q => q) (fun b _ hl q => hb.cell hl (hk b q)), h.h16.imp (fun _ _ q => q) (fun b _ hl q => hb.cell hl (hk b q)), h.h17.imp (fun _ _ q => q) (fun b _ hl q => hb.cell hl (hk b q))⟩
theorem IsR.bx {ok : Nat → Prop} {p : Nat} {W W' : World} {v : Value} {r : Rc} (h : IsR ok W v r) (hb : Bx p W W') (hk : ∀ b, ok b → b ≠ p) : IsR ok W' v r := by
 obtain ⟨a14, a15, a16, a17, c14, c15, c16, c17, h1, h2⟩ := h
 exact ⟨a14, a15, a16, a17, c14, c15, c16, c17, h1, h2.bx hb hk⟩
theorem below_bx {B p : Nat} {w w1 w2 : World} (h : Below B w w1) (hb : Bx p w1 w2) (hp : B ≤ p) (hB : B ≤ w1.heap.size) : Below B w w2 :=
 ⟨hb.os.trans h.os, hb.tape.trans h.tape, hb.output.trans h.output, Nat.le_trans h.size hb.size, fun k hk => (hb.block k (by omega) (by omega)).trans (h.block k hk)⟩
theorem encs_byt {α : Type} (en : α → List Int) (he : ∀ x, Byt (en x)) : ∀ (hs : List Bool) (xs : List α), Byt (encs en hs xs)
 | [], xs => fun x hx => by simp [encs] at hx
 | h :: hs, [] => fun x hx => by simp [encs] at hx
 | h :: hs, y :: ys => by
  show Byt ((if h then en y else []) ++ encs en hs ys)
  refine Byt.app ?_ (encs_byt en he hs ys)
  cases h
  ·exact fun x hx => by simp at hx
  ·exact he y
theorem put_byt {r : Rc} (h : (chk r).2.2 = 0) : Byt (putL r) := by
 have hi := chk_is h
 have h1 : Byt (tailL r) := (encs_byt intL intL_byt _ _).app ((encs_byt (fun f => [flB f]) (fun f x hx => by simp at hx; subst hx; cases f <;> simp [flB]) _ _).app ((encs_byt enT (fun S => (intL_byt _).app (sb_byt S)) _ _).app (encs_byt enR (fun l => (intL_byt _).app (rowL_byt l)) _ _)))
 intro x hx
 rcases List.mem_cons.1 hx with e | e
 ·subst e; have := hi.k1; have := hi.k2; omega
 ·exact h1 x e
theorem put_len {r : Rc} (h : (chk r).2.2 = 0) : (putL r).length ≤ 4000 := by
 have hi := chk_is h
 have n1 : r.nm.length ≤ 256 := by have := nameA_asks hi.nm; split at this; (exact this); (rw [this]; simp)
 have n2 : r.ky.length ≤ 256 := by have := nameA_asks hi.ky; split at this; (exact this); (rw [this]; simp)
 have n4 : r.rk.length ≤ 256 := by have := nameA_asks hi.rk; split at this; (exact this); (rw [this]; simp)
 have n3 := hi.va
 have hrow : ∀ (l : List Int) (h : Bool), rowB l h = true → l.length ≤ 7 := fun l h e => by
  have := rowB_asks e
  split at this
  ·exact this.1
  ·rw [this]; simp
 have a := encs_le intL 8 (hN r.k) r.ns (fun x _ => intL_le x)
 have b := encs_le (fun f => [flB f]) 1 (hF r.k) [r.fl] (fun x _ => by simp)
 have c := encs_le enT 264 (hT r.k) r.ts (fun x hx => by
  have : x.length ≤ 256 := by
   simp only [Rc.ts, List.mem_cons, List.not_mem_nil, or_false] at hx
   rcases hx with rfl | rfl | rfl | rfl <;> assumption
  unfold enT
  rw [List.length_append, sb_len]
  have := intL_le x.length
  omega)
 have d := encs_le enR 64 (hR r.k) r.rs (fun x hx => by
  have : x.length ≤ 7 := by
   simp only [Rc.rs, List.mem_cons, List.not_mem_nil, or_false] at hx
   rcases hx with rfl | rfl | rfl | rfl
   ·exact hrow _ _ hi.ids
   ·exact hrow _ _ hi.isr
   ·exact hrow _ _ hi.ad
   ·exact hrow _ _ hi.dr
  unfold enR
  rw [List.length_append]
  have h1 := intL_le x.length
  have h2 := rowL_le x
  omega)
 unfold putL tailL
 simp only [List.length_cons, List.length_append]
 have la : r.ns.length = 8 := rfl
 have lc : r.ts.length = 4 := rfl
 have ld : r.rs.length = 4 := rfl
 rw [la] at a
 rw [lc] at c
 rw [ld] at d
 simp only [List.length_cons, List.length_nil] at b
 omega
theorem Sl.take {α : Type} {f : α → Value} {W : World} {g c m : Nat} {l : List α} (h : Sl f W (.slice (some ⟨g, 0, none⟩) l.length c) l) (hm : m ≤ l.length) : Sl f W (.slice (some ⟨g, 0, none⟩) m c) (l.take m) := by
 rcases h with ⟨_, _, h1, h2⟩ | ⟨b, o, c', h1, h2, h3⟩
 ·subst h1
  have : m = 0 := by simpa using hm
  subst this
  exact .inl ⟨_, _, rfl, rfl⟩
 ·cases h1
  have hl : (l.take m).length = m := by rw [List.length_take]; omega
  refine .inr ⟨g, 0, c, by rw [hl], by omega, fun i hi => ?_⟩
  rw [List.getElem_take]
  exact h3 i (by omega)
theorem Ow.at {B : Nat} {W : World} {v : Value} {l : List Int} (h : Ow B W v l) (hp : 0 < l.length) : ∃ g c, v = .slice (some ⟨g, 0, none⟩) l.length c ∧ l.length ≤ c ∧ c ≤ 9223372036854775807 := by
 obtain ⟨cur, h1, _⟩ := h
 rcases h1.2.2 with ⟨_, hn⟩ | ⟨g, rfl, _, _⟩
 ·have := h1.1
  rw [hn] at this
  exact absurd this (by simp; exact List.length_pos_iff.1 hp)
 ·exact ⟨g, cur.length, rfl, h1.1, by have := h1.2.1; unfold maxLen at this; omega⟩
structure Bt where
 t : Int
 b : Int
 rs : List Rc
def Bt.zero : Bt := ⟨0, 0, []⟩
def chkF : List Rc → Nat → Option (Nat × (ByteArray × Int × Int))
 | [], _ => none
 | r :: rs, i => if (chk r).2.2 = 0 then chkF rs (i + 1) else some (i, chk r)
theorem chkF_none : ∀ (rs : List Rc) (i : Nat), (∀ r ∈ rs, (chk r).2.2 = 0) → chkF rs i = none
 | [], _, _ => rfl
 | r :: rs, i, h => by
  unfold chkF
  rw [if_pos (h r (by simp))]
  exact chkF_none rs (i + 1) fun x hx => h x (by simp [hx])
theorem chkF_some : ∀ (rs : List Rc) (i j : Nat) (hj : j < rs.length), (∀ r ∈ rs.take j, (chk r).2.2 = 0) → (chk rs[j]).2.2 ≠ 0 → chkF rs i = some (i + j, chk rs[j])
 | [], _, j, hj, _, _ => by simp at hj
 | r :: rs, i, 0, _, _, h => by
  unfold chkF
  have h' : ¬ (chk r).2.2 = 0 := h
  rw [if_neg h']
  rfl
 | r :: rs, i, j + 1, hj, h, hn => by
  unfold chkF
  rw [if_pos (h r (by simp))]
  have := chkF_some rs (i + 1) j (by simpa using hj) (fun x hx => h x (by simp [hx])) hn
  rw [this]
  simp only [List.getElem_cons_succ]
  congr 2
  omega
theorem chkF_ok : ∀ (rs : List Rc) (i : Nat), chkF rs i = none → ∀ r ∈ rs, (chk r).2.2 = 0
 | [], _, _, r, hr => by simp at hr
 | x :: rs, i, h, r, hr => by
  unfold chkF at h
  split at h
  ·rcases List.mem_cons.1 hr with rfl | hr
   ·assumption
   ·exact chkF_ok rs (i + 1) h r hr
  ·simp at h
theorem chkF_code : ∀ (rs : List Rc) (i : Nat) (q : Nat × (ByteArray × Int × Int)), chkF rs i = some q → q.2.2.2 ≠ 0
 | [], _, q, h => by simp [chkF] at h
 | x :: rs, i, q, h => by
  unfold chkF at h
  split at h
  ·exact chkF_code rs (i + 1) q h
  ·cases h; assumption
structure Bw where
 op : ByteArray
 pt : Int
 c : Int
 r : Int
 i : Int
def bw (x : Bt) : Bw :=
 if x.t < 1 ∨ 1073741824 < x.t then ⟨⟨#[116, 101, 114, 109]⟩, x.t, 2, -1, 0⟩
 else if x.b < 0 ∨ 1073741824 < x.b then ⟨⟨#[98, 97, 115, 101]⟩, x.b, 2, -1, 0⟩
 else if x.rs.length < 1 ∨ 64 < x.rs.length then ⟨⟨#[114, 101, 99, 111, 114, 100, 115]⟩, x.rs.length, 6, -1, 0⟩
 else match chkF x.rs 0 with
  | none => ⟨⟨#[]⟩, 0, 0, -1, 0⟩
  | some q => ⟨q.2.1, q.1, q.2.2.2, q.1, q.2.2.1⟩
theorem bw_ok {x : Bt} (h : (bw x).c = 0) : (1 ≤ x.t ∧ x.t ≤ 1073741824) ∧ (0 ≤ x.b ∧ x.b ≤ 1073741824) ∧ (1 ≤ x.rs.length ∧ x.rs.length ≤ 64) ∧ ∀ r ∈ x.rs, (chk r).2.2 = 0 := by
 unfold bw at h
 split at h
 ·simp at h
 split at h
 ·simp at h
 split at h
 ·simp at h
 rename_i h1 h2 h3
 refine ⟨by omega, by omega, by omega, ?_⟩
 cases hq : chkF x.rs 0 with
 | none => exact chkF_ok _ _ hq
 | some q =>
  rw [hq] at h
  exact absurd h (chkF_code _ _ _ hq)
theorem bw_of {x : Bt} (h1 : 1 ≤ x.t ∧ x.t ≤ 1073741824) (h2 : 0 ≤ x.b ∧ x.b ≤ 1073741824) (h3 : 1 ≤ x.rs.length ∧ x.rs.length ≤ 64) (h4 : ∀ r ∈ x.rs, (chk r).2.2 = 0) : bw x = ⟨⟨#[]⟩, 0, 0, -1, 0⟩ := by
 unfold bw
 rw [if_neg (by omega), if_neg (by omega), if_neg (by omega), chkF_none _ _ h4]
def putsL (rs : List Rc) : List Int := rs.flatMap putL
theorem putsL_app (a b : List Rc) : putsL (a ++ b) = putsL a ++ putsL b := by unfold putsL; exact List.flatMap_append
theorem putsL_snoc (rs : List Rc) (j : Nat) (h : j < rs.length) : putsL (rs.take (j + 1)) = putsL (rs.take j) ++ putL rs[j] := by
 rw [List.take_succ_eq_append_getElem h, putsL_app]
 simp [putsL]
theorem putsL_cons (r : Rc) (rs : List Rc) : putsL (r :: rs) = putL r ++ putsL rs := by simp [putsL]
theorem putsL_len (rs : List Rc) (h : ∀ r ∈ rs, (chk r).2.2 = 0) : (putsL rs).length ≤ 4000 * rs.length := by
 induction rs with
 | nil => simp [putsL]
 | cons r rs ih =>
  have h1 := put_len (h r (by simp))
  have h2 := ih fun x hx => h x (by simp [hx])
  rw [putsL_cons, List.length_append, List.length_cons]
  omega
theorem putsL_take_le (rs : List Rc) (j : Nat) : (putsL (rs.take j)).length ≤ (putsL rs).length := by
 have e : putsL rs = putsL (rs.take j) ++ putsL (rs.drop j) := by
  rw [← putsL_app, List.take_append_drop]
 rw [e, List.length_append]
 omega
theorem putsL_byt (rs : List Rc) (h : ∀ r ∈ rs, (chk r).2.2 = 0) : Byt (putsL rs) := by
 induction rs with
 | nil => intro x hx; simp [putsL] at hx
 | cons r rs ih =>
  rw [putsL_cons]
  intro x hx
  rcases List.mem_append.1 hx with q | q
  ·exact put_byt (h r (by simp)) x q
  ·exact ih (fun x hx => h x (by simp [hx])) x q
def headL (x : Bt) : List Int := intL x.t ++ (intL x.b ++ intL x.rs.length)
def bytL (x : Bt) : List Int := headL x ++ putsL x.rs
theorem headL_len (x : Bt) : (headL x).length ≤ 24 := by
 have h1 := intL_le x.t
 have h2 := intL_le x.b
 have h3 := intL_le x.rs.length
 unfold headL
 rw [List.length_append, List.length_append]
 omega
theorem read_stay {l : List Int} {s : Gs} (h : s.c ≠ 0) : readG l s = (s, Rc.zero) := by
 unfold readG
 rw [(fldN 63 (by decide)).stay l s h]
 simp only
 rw [if_neg (by omega), if_neg h]
def recsG (l : List Int) : Nat → Gs → Gs × List Rc
 | 0, s => (s, [])
 | n + 1, s => let q := recsG l n s; let r := readG l q.1; (r.1, q.2 ++ [r.2])
theorem recsG_succ (l : List Int) (n : Nat) (s : Gs) : recsG l (n + 1) s = ((readG l (recsG l n s).1).1, (recsG l n s).2 ++ [(readG l (recsG l n s).1).2]) := rfl
theorem recs_len (l : List Int) (s : Gs) : ∀ n, (recsG l n s).2.length = n
 | 0 => rfl
 | n + 1 => by rw [recsG_succ]; simp [recs_len l s n]
theorem recs_stay {l : List Int} {s : Gs} (h : s.c ≠ 0) : ∀ n, (recsG l n s).1 = s
 | 0 => rfl
 | n + 1 => by rw [recsG_succ, recs_stay h n]; simp only [read_stay h]
theorem recs_stop {l : List Int} {s : Gs} {j : Nat} (h : (recsG l j s).1.c ≠ 0) : ∀ n, (recsG l (j + n) s).1 = (recsG l j s).1
 | 0 => rfl
 | n + 1 => by
  rw [← Nat.add_assoc, recsG_succ, recs_stop h n]
  simp only [read_stay h]
theorem recs_pt {l : List Int} {s : Gs} (hb : Byt l) (hs : s.pt ≤ l.length) : ∀ n, (recsG l n s).1.pt ≤ l.length
 | 0 => hs
 | n + 1 => read_pt hb (recs_pt hb hs n)
def nextG (l : List Int) (s : Gs) : Gs × Bt :=
 let q1 := gN 1073741824 l s
 let q2 := gN 1073741824 l q1.1
 let q3 := gN 64 l q2.1
 let s3 := if q1.2 = 0 ∨ q3.2 = 0 then refS ⟨#[98, 97, 116, 99, 104]⟩ 2 q3.1 else q3.1
 let q4 := recsG l q3.2.toNat s3
 let s5 := if (16384 : Int) < (q4.1.pt : Int) - (s.pt : Int) then refS ⟨#[98, 97, 116, 99, 104]⟩ 6 q4.1 else q4.1
 if s5.c = 0 then (s5, ⟨q1.2, q2.2, q4.2⟩) else (s5, Bt.zero)
theorem refS_pt (op : ByteArray) (c : Int) (s : Gs) : (refS op c s).pt = s.pt := by
 unfold refS; split <;> rfl
theorem refS_bad (op : ByteArray) {c : Int} (s : Gs) (h : c ≠ 0) : (refS op c s).c ≠ 0 := by
 unfold refS; split <;> assumption
theorem next_pt {l : List Int} {s : Gs} (hb : Byt l) (hs : s.pt ≤ l.length) : (nextG l s).1.pt ≤ l.length := by
 have h1 := gN_pt (m := 1073741824) hb hs
 have h2 := gN_pt (m := 1073741824) hb h1
 have h3 := gN_pt (m := 64) hb h2
 have h4 : (if (gN 1073741824 l s).2 = 0 ∨ (gN 64 l (gN 1073741824 l (gN 1073741824 l s).1).1).2 = 0 then refS ⟨#[98, 97, 116, 99, 104]⟩ 2 (gN 64 l (gN 1073741824 l (gN 1073741824 l s).1).1).1 else (gN 64 l (gN 1073741824 l (gN 1073741824 l s).1).1).1).pt ≤ l.length := by
  split
  ·rw [refS_pt]; exact h3
  ·exact h3
 have h5 := recs_pt hb h4 (gN 64 l (gN 1073741824 l (gN 1073741824 l s).1).1).2.toNat
 unfold nextG
 simp only
 generalize recsG l (gN 64 l (gN 1073741824 l (gN 1073741824 l s).1).1).2.toNat _ = q4 at *
 have h6 : (if (16384 : Int) < (q4.1.pt : Int) - (s.pt : Int) then refS ⟨#[98, 97, 116, 99, 104]⟩ 6 q4.1 else q4.1).pt ≤ l.length := by
  split
  ·rw [refS_pt]; exact h5
  ·exact h5
 generalize (if (16384 : Int) < (q4.1.pt : Int) - (s.pt : Int) then refS ⟨#[98, 97, 116, 99, 104]⟩ 6 q4.1 else q4.1) = s5 at *
 split
 ·exact h6
 ·exact h6
theorem recs_back : ∀ (rs : List Rc) (P Q : List Int), (∀ r ∈ rs, (chk r).2.2 = 0) → ∀ j, j ≤ rs.length → recsG (P ++ (putsL rs ++ Q)) j (okS P.length) = (okS (P.length + (putsL (rs.take j)).length), rs.take j) := by
 intro rs P Q h j
 induction j with
 | zero => intro _; simp [recsG, putsL]
 | succ j ih =>
  intro hj
  have hlt : j < rs.length := by omega
  rw [recsG_succ, ih (by omega)]
  simp only
  have hs : putsL rs = putsL (rs.take j) ++ (putL rs[j] ++ putsL (rs.drop (j + 1))) := by
   have : rs = rs.take j ++ (rs[j] :: rs.drop (j + 1)) := by rw [← List.drop_eq_getElem_cons hlt, List.take_append_drop]
   rw [← putsL_cons]
   conv => lhs; rw [this]
   rw [putsL_app]
  have hl : P ++ (putsL rs ++ Q) = (P ++ putsL (rs.take j)) ++ (putL rs[j] ++ (putsL (rs.drop (j + 1)) ++ Q)) := by rw [hs]; simp only [List.append_assoc]
  have hb := read_back rs[j] (h _ (List.getElem_mem hlt)) (P ++ putsL (rs.take j)) (putsL (rs.drop (j + 1)) ++ Q)
  rw [List.length_append] at hb
  rw [hl, hb, putsL_snoc rs j hlt, List.length_append, List.take_succ_eq_append_getElem hlt, Nat.add_assoc]
theorem next_back (x : Bt) (h : (bw x).c = 0) (hm : (bytL x).length ≤ 16384) (P Q : List Int) : nextG (P ++ (bytL x ++ Q)) (okS P.length) = (okS (P.length + (bytL x).length), x) := by
 obtain ⟨h1, h2, h3, h4⟩ := bw_ok h
 have e1 := (fldN 1073741824 (by decide)).back P x.t (intL x.b ++ (intL x.rs.length ++ (putsL x.rs ++ Q))) ⟨by omega, by omega⟩
 have e2 := (fldN 1073741824 (by decide)).back (P ++ intL x.t) x.b (intL x.rs.length ++ (putsL x.rs ++ Q)) ⟨by omega, by omega⟩
 have e3 := (fldN 64 (by decide)).back (P ++ (intL x.t ++ intL x.b)) x.rs.length (putsL x.rs ++ Q) ⟨by omega, by omega⟩
 have e4 := recs_back x.rs (P ++ headL x) Q h4 x.rs.length (Nat.le_refl _)
 rw [List.take_length] at e4
 have l1 : P ++ (bytL x ++ Q) = P ++ (intL x.t ++ (intL x.b ++ (intL x.rs.length ++ (putsL x.rs ++ Q)))) := by simp only [bytL, headL, List.append_assoc]
 have l2 : P ++ (bytL x ++ Q) = P ++ intL x.t ++ (intL x.b ++ (intL x.rs.length ++ (putsL x.rs ++ Q))) := by simp only [bytL, headL, List.append_assoc]
 have l3 : P ++ (bytL x ++ Q) = P ++ (intL x.t ++ intL x.b) ++ (intL x.rs.length ++ (putsL x.rs ++ Q)) := by simp only [bytL, headL, List.append_assoc]
 have l4 : P ++ (bytL x ++ Q) = P ++ headL x ++ (putsL x.rs ++ Q) := by simp only [bytL, List.append_assoc]
 rw [← l1] at e1
 rw [← l2] at e2
 rw [← l3] at e3
 rw [← l4] at e4
 have k2 : (P ++ intL x.t).length = P.length + (intL x.t).length := by simp
 have k3 : (P ++ (intL x.t ++ intL x.b)).length = P.length + (intL x.t).length + (intL x.b).length := by simp only [List.length_append]; omega
 have k4 : (P ++ headL x).length = P.length + (intL x.t).length + (intL x.b).length + (intL x.rs.length).length := by simp only [headL, List.length_append]; omega
 have k5 : (bytL x).length = (intL x.t).length + (intL x.b).length + (intL x.rs.length).length + (putsL x.rs).length := by simp only [bytL, headL, List.length_append]; omega
 rw [k2] at e2
 rw [k3] at e3
 rw [k4] at e4
 unfold nextG
 simp only
 rw [e1]
 simp only
 rw [e2]
 simp only
 rw [e3]
 simp only
 rw [if_neg (show ¬ (x.t = 0 ∨ (x.rs.length : Int) = 0) by omega), Int.toNat_natCast, e4]
 simp only
 have hp : ∀ a, (okS a).pt = a := fun _ => rfl
 rw [hp, hp]
 have hno : ¬ (16384 : Int) < ((P.length + (intL x.t).length + (intL x.b).length + (intL x.rs.length).length + (putsL x.rs).length : Nat) : Int) - (P.length : Int) := by omega
 rw [if_neg hno, if_pos (show (okS _).c = 0 from rfl), k5]
 simp only [Nat.add_assoc]
theorem recs_once (l : List Int) (hb : Byt l) (a : Nat) (ha : a ≤ l.length) : ∀ n, (recsG l n (okS a)).1.c = 0 → (∀ r ∈ (recsG l n (okS a)).2, (chk r).2.2 = 0) ∧ ∃ b, (recsG l n (okS a)).1 = okS b ∧ a ≤ b ∧ b ≤ l.length ∧ l.drop a = putsL (recsG l n (okS a)).2 ++ l.drop b
 | 0, _ => ⟨fun r hr => by simp [recsG] at hr, a, rfl, Nat.le_refl _, ha, by simp [recsG, putsL]⟩
 | n + 1, h => by
  have h0 : (recsG l n (okS a)).1.c = 0 := by
   by_cases q : (recsG l n (okS a)).1.c = 0
   ·exact q
   ·have := recs_stop q 1
    rw [this] at h
    exact h
  obtain ⟨i1, b, i2, i3, i4, i5⟩ := recs_once l hb a ha n h0
  rw [recsG_succ] at h ⊢
  simp only at h ⊢
  rw [i2] at h ⊢
  obtain ⟨c1, b', c2, c3, c4, c5⟩ := read_once l hb b i4 h
  refine ⟨fun r hr => ?_, b', by rw [c2], by omega, c4, ?_⟩
  ·rcases List.mem_append.1 hr with q | q
   ·exact i1 r q
   ·simp at q; subst q; exact c1
  ·rw [i5, c5, putsL_app, putsL_cons]
   simp only [show putsL [] = [] from rfl, List.append_nil, List.append_assoc]
theorem next_once (l : List Int) (hb : Byt l) (a : Nat) (ha : a ≤ l.length) (h : (nextG l (okS a)).1.c = 0) : (bw (nextG l (okS a)).2).c = 0 ∧ ∃ b, nextG l (okS a) = (okS b, (nextG l (okS a)).2) ∧ a ≤ b ∧ b ≤ l.length ∧ b ≤ a + 16384 ∧ l.drop a = bytL (nextG l (okS a)).2 ++ l.drop b := by
 unfold nextG at h ⊢
 simp only at h ⊢
 rcases hq1 : gN 1073741824 l (okS a) with ⟨s1, x1⟩
 rw [hq1] at h
 simp only at h ⊢
 rcases hq2 : gN 1073741824 l s1 with ⟨s2, x2⟩
 rw [hq2] at h
 simp only at h ⊢
 rcases hq3 : gN 64 l s2 with ⟨s3, x3⟩
 rw [hq3] at h
 simp only at h ⊢
 generalize hS : (if x1 = 0 ∨ x3 = 0 then refS ⟨#[98, 97, 116, 99, 104]⟩ 2 s3 else s3) = S at h ⊢
 rcases hq4 : recsG l x3.toNat S with ⟨s4, rs⟩
 rw [hq4] at h
 simp only at h ⊢
 generalize hT : (if (16384 : Int) < (s4.pt : Int) - ((okS a).pt : Int) then refS ⟨#[98, 97, 116, 99, 104]⟩ 6 s4 else s4) = T at h ⊢
 have zT : T.c = 0 := by
  by_cases q : T.c = 0
  ·exact q
  ·rw [if_neg q] at h; exact absurd h q
 rw [if_pos zT]
 have hT' : ¬ (16384 : Int) < (s4.pt : Int) - (a : Int) ∧ T = s4 := by
  by_cases q : (16384 : Int) < (s4.pt : Int) - ((okS a).pt : Int)
  ·rw [if_pos q] at hT; exact absurd zT (by rw [← hT]; exact refS_bad _ _ (by decide))
  ·rw [if_neg q] at hT; exact ⟨q, hT.symm⟩
 obtain ⟨hlen, rfl⟩ := hT'
 have z4 : (recsG l x3.toNat S).1.c = 0 := by rw [hq4]; exact zT
 have zS : S.c = 0 := by
  by_cases q : S.c = 0
  ·exact q
  ·rw [recs_stay q] at z4; exact z4
 have hS' : ¬ (x1 = 0 ∨ x3 = 0) ∧ S = s3 := by
  by_cases q : x1 = 0 ∨ x3 = 0
  ·rw [if_pos q] at hS; exact absurd zS (by rw [← hS]; exact refS_bad _ _ (by decide))
  ·rw [if_neg q] at hS; exact ⟨q, hS.symm⟩
 obtain ⟨hnz, rfl⟩ := hS'
 have z2 : s2.c = 0 := by
  by_cases q : s2.c = 0
  ·exact q
  ·have := (fldN 64 (by decide)).stay l s2 q; rw [hq3] at this; obtain ⟨e, _⟩ := Prod.mk.inj this; rw [e] at zS; exact absurd zS q
 have z1 : s1.c = 0 := by
  by_cases q : s1.c = 0
  ·exact q
  ·have := (fldN 1073741824 (by decide)).stay l s1 q; rw [hq2] at this; obtain ⟨e, _⟩ := Prod.mk.inj this; rw [e] at z2; exact absurd z2 q
 have c1 := (fldN 1073741824 (by decide)).can l a (by rw [hq1]; exact z1)
 rw [hq1] at c1
 obtain ⟨p1, rfl⟩ : ∃ p, s1 = okS p := ⟨_, c1⟩
 obtain ⟨o1, a1, b1, d1⟩ := (fldN 1073741824 (by decide)).once l a p1 x1 hb ha hq1
 have c2 := (fldN 1073741824 (by decide)).can l p1 (by rw [hq2]; exact z2)
 rw [hq2] at c2
 obtain ⟨p2, rfl⟩ : ∃ p, s2 = okS p := ⟨_, c2⟩
 obtain ⟨o2, a2, b2, d2⟩ := (fldN 1073741824 (by decide)).once l p1 p2 x2 hb b1 hq2
 have c3 := (fldN 64 (by decide)).can l p2 (by rw [hq3]; exact zS)
 rw [hq3] at c3
 obtain ⟨p3, rfl⟩ : ∃ p, S = okS p := ⟨_, c3⟩
 obtain ⟨o3, a3, b3, d3⟩ := (fldN 64 (by decide)).once l p2 p3 x3 hb b2 hq3
 obtain ⟨g1, p4, g2, g3, g4, g5⟩ := recs_once l hb p3 b3 x3.toNat z4
 have hn := recs_len l (okS p3) x3.toNat
 rw [hq4] at g1 g2 g5 hn
 simp only at g1 g2 g5 hn
 subst g2
 have e3 : x3 = (rs.length : Int) := by omega
 have hb' := bw_of (x := ⟨x1, x2, rs⟩) ⟨by have := o1.1; show 1 ≤ x1; omega, o1.2⟩ o2 ⟨by show 1 ≤ rs.length; omega, by show rs.length ≤ 64; omega⟩ g1
 have hpp : ((okS p4).pt : Int) = (p4 : Int) := rfl
 rw [hpp] at hlen
 refine ⟨by rw [hb'], p4, rfl, by omega, g4, by omega, ?_⟩
 rw [d1, d2, d3, g5, e3]
 simp only [bytL, headL, List.append_assoc]
end Go.Proofs.YtjjpfajbljbelaaGreatDoor
