/-
  THE EXAMPLE (castellanlaw05.works): true. Condition: errors.errorType is laid.
  THE EXAMPLE (castellanlaw05.works): true. Condition: errors.errorType is laid.
  A RECORD NO LONGER THAN IS WAITED FOR (castellanref05.Short). No condition.
  A RECORD's BYTES ARE BYTES, AND NOT TOO MANY; bytes cut short, as slices. Condition: the record may be.
-/
import Derived.Test.YtoioddnlkbjljaaGreatDoorJKRecRdaa5
import Derived.Test.YtoioddnlkbjljaaGreatDoorJKRecSmb
import Derived.Test.YtoioddnlkbjljaaGreatDoorJKRecSma3
import Derived.WalkMore
import Derived.Test.YtoioddnlkbjljaaGreatDoorJKWputba6
import Derived.Deep.DeepCutAuto
namespace Go.Proofs.YtoioddnlkbjljaaGreatDoor
open Go.RowKit

theorem Bx.range {p b : Nat} {w w' : World} {x : Value} {xs : List Value} (h : Bx p w w') (hp : b ≠ p) (hr : w.rangeAt b 0 (x :: xs)) : w'.rangeAt b 0 (x :: xs) := fun j y hy =>
  (h.cell (cell_block (hr 0 _ rfl) : b < w.heap.size) hp).trans (hr j y hy)
theorem RwsR.bx {ok : Nat → Prop} {p : Nat} {W W' : World} {r : Rc} {a14 a15 a16 a17 : Option Addr} {c14 c15 c16 c17 : Nat} (h : RwsR ok W r a14 a15 a16 a17 c14 c15 c16 c17) (hb : Bx p W W') (hk : ∀ b, ok b → b ≠ p) : RwsR ok W' r a14 a15 a16 a17 c14 c15 c16 c17 :=
  ⟨h.h14.imp (fun _ _ q => q) (fun b _ hl q => hb.cell hl (hk b q)), h.h15.imp (fun _ _ q => q) (fun b _ hl q => hb.cell hl (hk b q)), h.h16.imp (fun _ _ q => q) (fun b _ hl q => hb.cell hl (hk b q)), h.h17.imp (fun _ _ q => q) (fun b _ hl q => hb.cell hl (hk b q))⟩
theorem IsR.bx {ok : Nat → Prop} {p : Nat} {W W' : World} {v : Value} {r : Rc} (h : IsR ok W v r) (hb : Bx p W W') (hk : ∀ b, ok b → b ≠ p) : IsR ok W' v r := by
  obtain ⟨a14, a15, a16, a17, c14, c15, c16, c17, h1, h2⟩ := h
  exact ⟨a14, a15, a16, a17, c14, c15, c16, c17, h1, h2.bx hb hk⟩
end Go.Proofs.YtoioddnlkbjljaaGreatDoor
namespace Go.Proofs.YtoioddnlkbjljaaGreatDoor
open Go.RowKit

theorem ow_new (W : World) (l : List Int) (hm : l.length ≤ maxLen) : Ow W.heap.size (W.alloc (.cells (bv l).toArray 5)) (.slice (some ⟨W.heap.size, 0, none⟩) l.length l.length) l := by
  refine ⟨bv l, ⟨by simp [bv], by simpa [bv] using hm, .inr ⟨W.heap.size, by simp [bv], Nat.le_refl _, ?_⟩⟩, ?_⟩
  · show (W.heap.push _)[W.heap.size]? = _
    simp
  · rw [List.take_of_length_le (by simp [bv])]
theorem below_bx {B p : Nat} {w w1 w2 : World} (h : Below B w w1) (hb : Bx p w1 w2) (hp : B ≤ p) (hB : B ≤ w1.heap.size) : Below B w w2 :=
  ⟨hb.os.trans h.os, hb.tape.trans h.tape, hb.output.trans h.output, Nat.le_trans h.size hb.size, fun k hk => (hb.block k (by omega) (by omega)).trans (h.block k hk)⟩
end Go.Proofs.YtoioddnlkbjljaaGreatDoor
namespace Go.Proofs.YtoioddnlkbjljaaGreatDoor
open Go.RowKit

set_option maxRecDepth 100000 in
set_option maxHeartbeats 8000000 in
theorem short_go (k br ep tp pa le cl se co : Int) (fl : Bool) (nm ky va rk : List UInt8) (a14 a15 a16 a17 : Option Addr) (c14 c15 c16 c17 : Nat) (ids isr ad dr : List Int) (w : World) :
    Calls Tryz.prog 42 #[.agg #[.int .i64 k, .int .i64 br, .int .i64 ep, .int .i64 tp, .int .i64 pa, .int .i64 le, .int .i64 cl, .int .i64 se, .int .i64 co, .bool fl, .string ⟨nm.toArray⟩, .string ⟨ky.toArray⟩, .string ⟨va.toArray⟩, .string ⟨rk.toArray⟩, .slice a14 ids.length c14, .slice a15 isr.length c15, .slice a16 ad.length c16, .slice a17 dr.length c17]] w fun e w' => e = .returned (.bool (decide (nm.length ≤ 400 ∧ ky.length ≤ 400 ∧ va.length ≤ 400 ∧ rk.length ≤ 400 ∧ ids.length ≤ 60 ∧ isr.length ≤ 60 ∧ ad.length ≤ 60 ∧ dr.length ≤ 60))) ∧ Below w.heap.size w w' := by
  obtain ⟨R, hR⟩ : ∃ R, R = decide (nm.length ≤ 400 ∧ ky.length ≤ 400 ∧ va.length ≤ 400 ∧ rk.length ≤ 400 ∧ ids.length ≤ 60 ∧ isr.length ≤ 60 ∧ ad.length ≤ 60 ∧ dr.length ≤ 60) := ⟨_, rfl⟩
  rw [← hR]
  have HR := hide hR
  clear hR
  have HQ : Hid ((w.alloc (.cells #[.int .i64 k, .int .i64 br, .int .i64 ep, .int .i64 tp, .int .i64 pa, .int .i64 le, .int .i64 cl, .int .i64 se, .int .i64 co, .bool fl, .string ⟨nm.toArray⟩, .string ⟨ky.toArray⟩, .string ⟨va.toArray⟩, .string ⟨rk.toArray⟩, .slice a14 ids.length c14, .slice a15 isr.length c15, .slice a16 ad.length c16, .slice a17 dr.length c17] 55)).rangeAt w.heap.size 0 [.int .i64 k, .int .i64 br, .int .i64 ep, .int .i64 tp, .int .i64 pa, .int .i64 le, .int .i64 cl, .int .i64 se, .int .i64 co, .bool fl, .string ⟨nm.toArray⟩, .string ⟨ky.toArray⟩, .string ⟨va.toArray⟩, .string ⟨rk.toArray⟩, .slice a14 ids.length c14, .slice a15 isr.length c15, .slice a16 ad.length c16, .slice a17 dr.length c17]) := hide (range_new w _ _)
  have HB : Hid (Below w.heap.size w (w.alloc (.cells #[.int .i64 k, .int .i64 br, .int .i64 ep, .int .i64 tp, .int .i64 pa, .int .i64 le, .int .i64 cl, .int .i64 se, .int .i64 co, .bool fl, .string ⟨nm.toArray⟩, .string ⟨ky.toArray⟩, .string ⟨va.toArray⟩, .string ⟨rk.toArray⟩, .slice a14 ids.length c14, .slice a15 isr.length c15, .slice a16 ad.length c16, .slice a17 dr.length c17] 55))) := hide ((Below.refl _ _).alloc (Nat.le_refl _) _)
  go_enter Tryz.func42, Tryz.ntmps42
  go_upto_region 1 with fail
  generalize w.alloc (.cells #[.int .i64 k, .int .i64 br, .int .i64 ep, .int .i64 tp, .int .i64 pa, .int .i64 le, .int .i64 cl, .int .i64 se, .int .i64 co, .bool fl, .string ⟨nm.toArray⟩, .string ⟨ky.toArray⟩, .string ⟨va.toArray⟩, .string ⟨rk.toArray⟩, .slice a14 ids.length c14, .slice a15 isr.length c15, .slice a16 ad.length c16, .slice a17 dr.length c17] 55) = X at HQ HB ⊢
  obtain ⟨g0, g1, g2, g3, g4, g5, g6, g7, g8, g9, g10, g11, g12, g13, g14, g15, g16, g17⟩ := C18.of HQ.out
  clear g0 g1 g2 g3 g4 g5 g6 g7 g8 g9
  by_cases qnm : nm.length ≤ 400
  case neg =>
    have HE : Hid (R = false) := hide (by rw [HR.out]; simp [qnm])
    have pnm : ¬ (nm.length : Int) ≤ 400 := by omega
    go_wp2_with fail
    go_ret
    exact ⟨by rw [HE.out]; first | rfl | simp [pnm], HB.out⟩
  have pnm : (nm.length : Int) ≤ 400 := by omega
  by_cases qky : ky.length ≤ 400
  case neg =>
    have HE : Hid (R = false) := hide (by rw [HR.out]; simp [qky])
    have pky : ¬ (ky.length : Int) ≤ 400 := by omega
    go_wp2_with fail
    go_ret
    exact ⟨by rw [HE.out]; first | rfl | simp [pky], HB.out⟩
  have pky : (ky.length : Int) ≤ 400 := by omega
  by_cases qva : va.length ≤ 400
  case neg =>
    have HE : Hid (R = false) := hide (by rw [HR.out]; simp [qva])
    have pva : ¬ (va.length : Int) ≤ 400 := by omega
    go_wp2_with fail
    go_ret
    exact ⟨by rw [HE.out]; first | rfl | simp [pva], HB.out⟩
  have pva : (va.length : Int) ≤ 400 := by omega
  by_cases qrk : rk.length ≤ 400
  case neg =>
    have HE : Hid (R = false) := hide (by rw [HR.out]; simp [qrk])
    have prk : ¬ (rk.length : Int) ≤ 400 := by omega
    go_wp2_with fail
    go_ret
    exact ⟨by rw [HE.out]; first | rfl | simp [prk], HB.out⟩
  have prk : (rk.length : Int) ≤ 400 := by omega
  by_cases qids : ids.length ≤ 60
  case neg =>
    have HE : Hid (R = false) := hide (by rw [HR.out]; simp [qids])
    have pids : ¬ (ids.length : Int) ≤ 60 := by omega
    go_wp2_with fail
    go_ret
    exact ⟨by rw [HE.out]; first | rfl | simp [pids], HB.out⟩
  have pids : (ids.length : Int) ≤ 60 := by omega
  by_cases qisr : isr.length ≤ 60
  case neg =>
    have HE : Hid (R = false) := hide (by rw [HR.out]; simp [qisr])
    have pisr : ¬ (isr.length : Int) ≤ 60 := by omega
    go_wp2_with fail
    go_ret
    exact ⟨by rw [HE.out]; first | rfl | simp [pisr], HB.out⟩
  have pisr : (isr.length : Int) ≤ 60 := by omega
  by_cases qad : ad.length ≤ 60
  case neg =>
    have HE : Hid (R = false) := hide (by rw [HR.out]; simp [qad])
    have pad : ¬ (ad.length : Int) ≤ 60 := by omega
    go_wp2_with fail
    go_ret
    exact ⟨by rw [HE.out]; first | rfl | simp [pad], HB.out⟩
  have pad : (ad.length : Int) ≤ 60 := by omega
  by_cases qdr : dr.length ≤ 60
  case neg =>
    have HE : Hid (R = false) := hide (by rw [HR.out]; simp [qdr])
    have pdr : ¬ (dr.length : Int) ≤ 60 := by omega
    go_wp2_with fail
    go_ret
    exact ⟨by rw [HE.out]; first | rfl | simp [pdr], HB.out⟩
  have pdr : (dr.length : Int) ≤ 60 := by omega
  have HE : Hid (R = true) := hide (by rw [HR.out]; exact decide_eq_true ⟨qnm, qky, qva, qrk, qids, qisr, qad, qdr⟩)
  go_wp2_with fail
  go_ret
  exact ⟨by rw [HE.out]; first | rfl | simp [pdr], HB.out⟩
def shB (r : Rc) : Bool := decide (r.nm.length ≤ 400 ∧ r.ky.length ≤ 400 ∧ r.va.length ≤ 400 ∧ r.rk.length ≤ 400 ∧ r.ids.length ≤ 60 ∧ r.isr.length ≤ 60 ∧ r.ad.length ≤ 60 ∧ r.dr.length ≤ 60)
theorem short_any {ok : Nat → Prop} (r : Rc) (v : Value) (w : World) (hv : IsR ok w v r) : Calls Tryz.prog 42 #[v] w fun e w' => e = .returned (.bool (shB r)) ∧ Below w.heap.size w w' := by
  obtain ⟨a14, a15, a16, a17, c14, c15, c16, c17, rfl, h⟩ := hv
  exact short_go r.k r.br r.ep r.tp r.pa r.le r.cl r.se r.co r.fl r.nm r.ky r.va r.rk a14 a15 a16 a17 c14 c15 c16 c17 r.ids r.isr r.ad r.dr w
theorem sh_tx {r : Rc} (h : shB r = true) : TxR r := by
  unfold shB at h
  have := of_decide_eq_true h
  exact ⟨by omega, by omega, by omega, by omega⟩
end Go.Proofs.YtoioddnlkbjljaaGreatDoor
namespace Go.Proofs.YtoioddnlkbjljaaGreatDoor
open Go.RowKit

theorem encs_byt {α : Type} (en : α → List Int) (he : ∀ x, Byt (en x)) : ∀ (hs : List Bool) (xs : List α), Byt (encs en hs xs)
  | [], xs => fun x hx => by simp [encs] at hx
  | h :: hs, [] => fun x hx => by simp [encs] at hx
  | h :: hs, y :: ys => by
    show Byt ((if h then en y else []) ++ encs en hs ys)
    refine Byt.app ?_ (encs_byt en he hs ys)
    cases h
    · exact fun x hx => by simp at hx
    · exact he y
theorem put_byt {r : Rc} (h : (chk r).2.2 = 0) : Byt (putL r) := by
  have hi := chk_is h
  have h1 : Byt (tailL r) := (encs_byt intL intL_byt _ _).app ((encs_byt (fun f => [flB f]) (fun f x hx => by simp at hx; subst hx; cases f <;> simp [flB]) _ _).app ((encs_byt enT (fun S => (intL_byt _).app (sb_byt S)) _ _).app (encs_byt enR (fun l => (intL_byt _).app (rowL_byt l)) _ _)))
  intro x hx
  rcases List.mem_cons.1 hx with e | e
  · subst e; have := hi.k1; have := hi.k2; omega
  · exact h1 x e
theorem put_len {r : Rc} (h : (chk r).2.2 = 0) : (putL r).length ≤ 4000 := by
  have hi := chk_is h
  have n1 : r.nm.length ≤ 256 := by have := nameA_asks hi.nm; split at this; (exact this); (rw [this]; simp)
  have n2 : r.ky.length ≤ 256 := by have := nameA_asks hi.ky; split at this; (exact this); (rw [this]; simp)
  have n4 : r.rk.length ≤ 256 := by have := nameA_asks hi.rk; split at this; (exact this); (rw [this]; simp)
  have n3 := hi.va
  have hrow : ∀ (l : List Int) (h : Bool), rowB l h = true → l.length ≤ 7 := fun l h e => by
    have := rowB_asks e
    split at this
    · exact this.1
    · rw [this]; simp
  have a := encs_le intL 8 (hN r.k) r.ns (fun x _ => intL_le x)
  have b := encs_le (fun f => [flB f]) 1 (hF r.k) [r.fl] (fun x _ => by simp)
  have c := encs_le enT 264 (hT r.k) r.ts (fun x hx => by
    have : x.length ≤ 256 := by
      simp only [Rc.ts, List.mem_cons, List.not_mem_nil, or_false] at hx
      rcases hx with rfl | rfl | rfl | rfl <;> assumption
    unfold enT
    rw [List.length_append, sb_len]
    have := intL_le x.length
    omega)
  have d := encs_le enR 64 (hR r.k) r.rs (fun x hx => by
    have : x.length ≤ 7 := by
      simp only [Rc.rs, List.mem_cons, List.not_mem_nil, or_false] at hx
      rcases hx with rfl | rfl | rfl | rfl
      · exact hrow _ _ hi.ids
      · exact hrow _ _ hi.isr
      · exact hrow _ _ hi.ad
      · exact hrow _ _ hi.dr
    unfold enR
    rw [List.length_append]
    have h1 := intL_le x.length
    have h2 := rowL_le x
    omega)
  unfold putL tailL
  simp only [List.length_cons, List.length_append]
  have la : r.ns.length = 8 := rfl
  have lc : r.ts.length = 4 := rfl
  have ld : r.rs.length = 4 := rfl
  rw [la] at a
  rw [lc] at c
  rw [ld] at d
  simp only [List.length_cons, List.length_nil] at b
  omega
theorem Sl.take {α : Type} {f : α → Value} {W : World} {g c m : Nat} {l : List α} (h : Sl f W (.slice (some ⟨g, 0, none⟩) l.length c) l) (hm : m ≤ l.length) : Sl f W (.slice (some ⟨g, 0, none⟩) m c) (l.take m) := by
  rcases h with ⟨_, _, h1, h2⟩ | ⟨b, o, c', h1, h2, h3⟩
  · subst h1
    have : m = 0 := by simpa using hm
    subst this
    exact .inl ⟨_, _, rfl, rfl⟩
  · cases h1
    have hl : (l.take m).length = m := by rw [List.length_take]; omega
    refine .inr ⟨g, 0, c, by rw [hl], by omega, fun i hi => ?_⟩
    rw [List.getElem_take]
    exact h3 i (by omega)
/-- Where it lies, of a row that is not empty. -/
theorem Ow.at {B : Nat} {W : World} {v : Value} {l : List Int} (h : Ow B W v l) (hp : 0 < l.length) : ∃ g c, v = .slice (some ⟨g, 0, none⟩) l.length c ∧ l.length ≤ c ∧ c ≤ 9223372036854775807 := by
  obtain ⟨cur, h1, _⟩ := h
  rcases h1.2.2 with ⟨_, hn⟩ | ⟨g, rfl, _, _⟩
  · have := h1.1
    rw [hn] at this
    exact absurd this (by simp; exact List.length_pos_iff.1 hp)
  · exact ⟨g, cur.length, rfl, h1.1, by have := h1.2.1; unfold maxLen at this; omega⟩
end Go.Proofs.YtoioddnlkbjljaaGreatDoor
