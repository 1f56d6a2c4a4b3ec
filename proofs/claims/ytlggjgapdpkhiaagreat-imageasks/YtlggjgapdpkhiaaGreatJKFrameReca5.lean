/-
  A RECORD THAT CAME IN, OPENED: its fields lie in its cells. No condition of its own.
  A RECORD NO LONGER THAN IS WAITED FOR (castellanref05.Short). No condition.
  RECORDS IN A ROW, EIGHTEEN CELLS EACH, AND BATCHES.
  RECORDS IN A ROW, AND A BATCH, THAT CAME IN, OPENED: they lie in their cells. No condition of its own.
  WHAT THE DOCUMENT ASKS OF METADATA (castellanref15.Has, Broker, Alive).
-/
import Derived.Test.YtlggjgapdpkhiaaGreatJKSlca5
import Derived.Test.YtlggjgapdpkhiaaGreatJKRecMa5
import Derived.Deep.DeepCutAuto
import Derived.Deep.Strs
import Derived.Test.YtlggjgapdpkhiaaGreatJKImMa5
import Derived.Deep.RegionHeldLaw
import Derived.Deep.RegionHeld3
namespace Go.Proofs.YtlggjgapdpkhiaaGreat
open Go.ChangeShapes Go.WideShapes Go.ChangeAt Go.RowKit Go.Joins
set_option maxRecDepth 100000
theorem array18 {α : Type} {cs : Array α} (h : cs.size = 18) : ∃ c0 c1 c2 c3 c4 c5 c6 c7 c8 c9 c10 c11 c12 c13 c14 c15 c16 c17, cs = #[c0, c1, c2, c3, c4, c5, c6, c7, c8, c9, c10, c11, c12, c13, c14, c15, c16, c17] := by
 obtain ⟨l⟩ := cs
 match l, h with
 | [c0, c1, c2, c3, c4, c5, c6, c7, c8, c9, c10, c11, c12, c13, c14, c15, c16, c17], _ => exact ⟨c0, c1, c2, c3, c4, c5, c6, c7, c8, c9, c10, c11, c12, c13, c14, c15, c16, c17, rfl⟩
theorem cellsRec : Tryz.prog.cellsOf 65 = 18 := by kernel_rfl
theorem cellsI : Tryz.prog.cellsOf 3 = 1 := by kernel_rfl
theorem cellsBo : Tryz.prog.cellsOf 4 = 1 := by kernel_rfl
theorem cellsS : Tryz.prog.cellsOf 9 = 1 := by kernel_rfl
theorem cellsR' : Tryz.prog.cellsOf 42 = 1 := by kernel_rfl
theorem str_form (s : ByteArray) : Value.string s = .string ⟨s.data.toList.toArray⟩ := by cases s; simp
section
variable {H : Type} {enc : TypeId × Value → H}
theorem open_rowi {W : World} {n : Nat} {u : Value} {x : DataW H × List MemPlace} (h : DataW.trod enc Tryz.prog W 0 (fun _ => true) true n 42 [u] = some x) : ∃ (l : List Int) (ao : Option Addr) (cap : Nat), u = .slice ao l.length cap ∧ Sli (fun b => b < W.heap.size) W (.slice ao l.length cap) l := by
 rcases open_ints Tryz.underlying42 Tryz.underlying3 (by kernel_rfl) h with ⟨hcs, rfl⟩ | ⟨a, len, cap, zs, hcs, _, hle, hmax, hall, rfl, hcell, hwf⟩
 ·simp at hcs
  subst hcs
  exact ⟨[], none, 0, rfl, Sli.nil _ _ _ _⟩
 ·simp at hcs
  subst hcs
  rw [if_pos rfl] at hall
  have hl : (zs.take len).length = len := by rw [List.length_take]; omega
  refine ⟨zs.take len, some a, cap, by rw [hl], ?_⟩
  by_cases h0 : len = 0
  ·subst h0
   exact .inl ⟨some a, cap, by simp, by simp⟩
  ·obtain ⟨b, off, rfl, hcc⟩ := ints_at hcell (by omega)
   have hsl : Sl ic W (.slice (some ⟨b, off, none⟩) (zs.take len).length cap) (zs.take len) := .inr ⟨b, off, cap, rfl, by omega, fun i hi => by
    rw [hl] at hi
    rw [hcc i (by omega), List.getElem_take]
    simp [List.getD, show i < zs.length by omega, ic]⟩
   exact hsl.li
end
end Go.Proofs.YtlggjgapdpkhiaaGreat
namespace Go.Proofs.YtlggjgapdpkhiaaGreat
open Go.RowKit
set_option maxRecDepth 100000 in
set_option maxHeartbeats 8000000 in
theorem short_go (k br ep tp pa le cl se co : Int) (fl : Bool) (nm ky va rk : List UInt8) (a14 a15 a16 a17 : Option Addr) (c14 c15 c16 c17 : Nat) (ids isr ad dr : List Int) (w : World) :
  Calls Tryz.prog 58 #[.agg #[.int .i64 k, .int .i64 br, .int .i64 ep, .int .i64 tp, .int .i64 pa, .int .i64 le, .int .i64 cl, .int .i64 se, .int .i64 co, .bool fl, .string ⟨nm.toArray⟩, .string ⟨ky.toArray⟩, .string ⟨va.toArray⟩, .string ⟨rk.toArray⟩, .slice a14 ids.length c14, .slice a15 isr.length c15, .slice a16 ad.length c16, .slice a17 dr.length c17]] w fun e w' => e = .returned (.bool (decide (nm.length ≤ 400 ∧ ky.length ≤ 400 ∧ va.length ≤ 400 ∧ rk.length ≤ 400 ∧ ids.length ≤ 60 ∧ isr.length ≤ 60 ∧ ad.length ≤ 60 ∧ dr.length ≤ 60))) ∧ Below w.heap.size w w' := by
 obtain ⟨R, hR⟩ : ∃ R, R = decide (nm.length ≤ 400 ∧ ky.length ≤ 400 ∧ va.length ≤ 400 ∧ rk.length ≤ 400 ∧ ids.length ≤ 60 ∧ isr.length ≤ 60 ∧ ad.length ≤ 60 ∧ dr.length ≤ 60) := ⟨_, rfl⟩
 rw [← hR]
 have HR := Hd hR
 clear hR
 have HQ : Hid ((w.alloc (.cells #[.int .i64 k, .int .i64 br, .int .i64 ep, .int .i64 tp, .int .i64 pa, .int .i64 le, .int .i64 cl, .int .i64 se, .int .i64 co, .bool fl, .string ⟨nm.toArray⟩, .string ⟨ky.toArray⟩, .string ⟨va.toArray⟩, .string ⟨rk.toArray⟩, .slice a14 ids.length c14, .slice a15 isr.length c15, .slice a16 ad.length c16, .slice a17 dr.length c17] 65)).rangeAt w.heap.size 0 [.int .i64 k, .int .i64 br, .int .i64 ep, .int .i64 tp, .int .i64 pa, .int .i64 le, .int .i64 cl, .int .i64 se, .int .i64 co, .bool fl, .string ⟨nm.toArray⟩, .string ⟨ky.toArray⟩, .string ⟨va.toArray⟩, .string ⟨rk.toArray⟩, .slice a14 ids.length c14, .slice a15 isr.length c15, .slice a16 ad.length c16, .slice a17 dr.length c17]) := Hd (range_new w _ _)
 have HB : Hid (Below w.heap.size w (w.alloc (.cells #[.int .i64 k, .int .i64 br, .int .i64 ep, .int .i64 tp, .int .i64 pa, .int .i64 le, .int .i64 cl, .int .i64 se, .int .i64 co, .bool fl, .string ⟨nm.toArray⟩, .string ⟨ky.toArray⟩, .string ⟨va.toArray⟩, .string ⟨rk.toArray⟩, .slice a14 ids.length c14, .slice a15 isr.length c15, .slice a16 ad.length c16, .slice a17 dr.length c17] 65))) := Hd ((Below.refl _ _).alloc (Nat.le_refl _) _)
 go_enter Tryz.func58, Tryz.ntmps58
 go_upto_region 1 with fail
 generalize w.alloc (.cells #[.int .i64 k, .int .i64 br, .int .i64 ep, .int .i64 tp, .int .i64 pa, .int .i64 le, .int .i64 cl, .int .i64 se, .int .i64 co, .bool fl, .string ⟨nm.toArray⟩, .string ⟨ky.toArray⟩, .string ⟨va.toArray⟩, .string ⟨rk.toArray⟩, .slice a14 ids.length c14, .slice a15 isr.length c15, .slice a16 ad.length c16, .slice a17 dr.length c17] 65) = X at HQ HB ⊢
 obtain ⟨g0, g1, g2, g3, g4, g5, g6, g7, g8, g9, g10, g11, g12, g13, g14, g15, g16, g17⟩ := C18.of HQ.out
 clear g0 g1 g2 g3 g4 g5 g6 g7 g8 g9
 by_cases qnm : nm.length ≤ 400
 case neg =>
  have HE : Hid (R = false) := Hd (by rw [HR.out]; simp [qnm])
  have pnm : ¬ (nm.length : Int) ≤ 400 := by omega
  go_wp2_with fail
  go_ret
  exact ⟨by rw [HE.out]; first | rfl | simp [pnm], HB.out⟩
 have pnm : (nm.length : Int) ≤ 400 := by omega
 by_cases qky : ky.length ≤ 400
 case neg =>
  have HE : Hid (R = false) := Hd (by rw [HR.out]; simp [qky])
  have pky : ¬ (ky.length : Int) ≤ 400 := by omega
  go_wp2_with fail
  go_ret
  exact ⟨by rw [HE.out]; first | rfl | simp [pky], HB.out⟩
 have pky : (ky.length : Int) ≤ 400 := by omega
 by_cases qva : va.length ≤ 400
 case neg =>
  have HE : Hid (R = false) := Hd (by rw [HR.out]; simp [qva])
  have pva : ¬ (va.length : Int) ≤ 400 := by omega
  go_wp2_with fail
  go_ret
  exact ⟨by rw [HE.out]; first | rfl | simp [pva], HB.out⟩
 have pva : (va.length : Int) ≤ 400 := by omega
 by_cases qrk : rk.length ≤ 400
 case neg =>
  have HE : Hid (R = false) := Hd (by rw [HR.out]; simp [qrk])
  have prk : ¬ (rk.length : Int) ≤ 400 := by omega
  go_wp2_with fail
  go_ret
  exact ⟨by rw [HE.out]; first | rfl | simp [prk], HB.out⟩
 have prk : (rk.length : Int) ≤ 400 := by omega
 by_cases qids : ids.length ≤ 60
 case neg =>
  have HE : Hid (R = false) := Hd (by rw [HR.out]; simp [qids])
  have pids : ¬ (ids.length : Int) ≤ 60 := by omega
  go_wp2_with fail
  go_ret
  exact ⟨by rw [HE.out]; first | rfl | simp [pids], HB.out⟩
 have pids : (ids.length : Int) ≤ 60 := by omega
 by_cases qisr : isr.length ≤ 60
 case neg =>
  have HE : Hid (R = false) := Hd (by rw [HR.out]; simp [qisr])
  have pisr : ¬ (isr.length : Int) ≤ 60 := by omega
  go_wp2_with fail
  go_ret
  exact ⟨by rw [HE.out]; first | rfl | simp [pisr], HB.out⟩
 have pisr : (isr.length : Int) ≤ 60 := by omega
 by_cases qad : ad.length ≤ 60
 case neg =>
  have HE : Hid (R = false) := Hd (by rw [HR.out]; simp [qad])
  have pad : ¬ (ad.length : Int) ≤ 60 := by omega
  go_wp2_with fail
  go_ret
  exact ⟨by rw [HE.out]; first | rfl | simp [pad], HB.out⟩
 have pad : (ad.length : Int) ≤ 60 := by omega
 by_cases qdr : dr.length ≤ 60
 case neg =>
  have HE : Hid (R = false) := Hd (by rw [HR.out]; simp [qdr])
  have pdr : ¬ (dr.length : Int) ≤ 60 := by omega
  go_wp2_with fail
  go_ret
  exact ⟨by rw [HE.out]; first | rfl | simp [pdr], HB.out⟩
 have pdr : (dr.length : Int) ≤ 60 := by omega
 have HE : Hid (R = true) := Hd (by rw [HR.out]; exact decide_eq_true ⟨qnm, qky, qva, qrk, qids, qisr, qad, qdr⟩)
 go_wp2_with fail
 go_ret
 exact ⟨by rw [HE.out]; first | rfl | simp [pdr], HB.out⟩
def shB (r : Rc) : Bool := decide (r.nm.length ≤ 400 ∧ r.ky.length ≤ 400 ∧ r.va.length ≤ 400 ∧ r.rk.length ≤ 400 ∧ r.ids.length ≤ 60 ∧ r.isr.length ≤ 60 ∧ r.ad.length ≤ 60 ∧ r.dr.length ≤ 60)
theorem short_any {ok : Nat → Prop} (r : Rc) (v : Value) (w : World) (hv : IsR ok w v r) : Calls Tryz.prog 58 #[v] w fun e w' => e = .returned (.bool (shB r)) ∧ Below w.heap.size w w' := by
 obtain ⟨a14, a15, a16, a17, c14, c15, c16, c17, rfl, h⟩ := hv
 exact short_go r.k r.br r.ep r.tp r.pa r.le r.cl r.se r.co r.fl r.nm r.ky r.va r.rk a14 a15 a16 a17 c14 c15 c16 c17 r.ids r.isr r.ad r.dr w
end Go.Proofs.YtlggjgapdpkhiaaGreat
namespace Go.Proofs.YtlggjgapdpkhiaaGreat
open Go.RowKit
structure Pl where
 a14 : Option Addr
 a15 : Option Addr
 a16 : Option Addr
 a17 : Option Addr
 c14 : Nat
 c15 : Nat
 c16 : Nat
 c17 : Nat
abbrev Rp := Rc × Pl
def cel (p : Rp) : List Value := cR p.1 p.2.a14 p.2.a15 p.2.a16 p.2.a17 p.2.c14 p.2.c15 p.2.c16 p.2.c17
def RwP (ok : Nat → Prop) (W : World) (p : Rp) : Prop := RwsR ok W p.1 p.2.a14 p.2.a15 p.2.a16 p.2.a17 p.2.c14 p.2.c15 p.2.c16 p.2.c17
theorem cel_len (p : Rp) : (cel p).length = 18 := rfl
theorem RwP.is {ok : Nat → Prop} {W : World} {p : Rp} (h : RwP ok W p) : IsR ok W (.agg (cel p).toArray) p.1 := ⟨_, _, _, _, _, _, _, _, rfl, h⟩
theorem RwP.imp {ok ok' : Nat → Prop} {W W' : World} {p : Rp} (h : RwP ok W p) (hk : ∀ b, b < W.heap.size → ok b → ok' b) (hc : ∀ b i, b < W.heap.size → ok b → W'.cell? ⟨b, i, none⟩ = W.cell? ⟨b, i, none⟩) : RwP ok' W' p :=
 ⟨h.h14.imp hk hc, h.h15.imp hk hc, h.h16.imp hk hc, h.h17.imp hk hc⟩
theorem RwP.below {ok : Nat → Prop} {W W' : World} {p : Rp} (h : RwP ok W p) (hb : Below W.heap.size W W') : RwP ok W' p := RwsR.below h hb
def rcs (ps : List Rp) : List Value := ps.flatMap cel
theorem rcs_cons (p : Rp) (ps : List Rp) : rcs (p :: ps) = cel p ++ rcs ps := by simp [rcs]
theorem rcs_app (ps qs : List Rp) : rcs (ps ++ qs) = rcs ps ++ rcs qs := by simp [rcs, List.flatMap_append]
theorem rcs_len (ps : List Rp) : (rcs ps).length = ps.length * 18 := by
 induction ps with
 | nil => rfl
 | cons p ps ih => rw [rcs_cons, List.length_append, ih, cel_len, List.length_cons]; omega
theorem rcs_get : ∀ (ps : List Rp) (i : Nat) (h : i < ps.length) (j : Nat) (u : Value), (cel ps[i])[j]? = some u → (rcs ps)[i * 18 + j]? = some u
 | [], i, h, _, _, _ => by simp at h
 | p :: ps, 0, _, j, u, hj => by
  have hl : j < (cel p).length := (List.getElem?_eq_some_iff.1 hj).1
  rw [rcs_cons, Nat.zero_mul, Nat.zero_add, List.getElem?_append_left hl]
  exact hj
 | p :: ps, i + 1, h, j, u, hj => by
  rw [rcs_cons, List.getElem?_append_right (by rw [cel_len]; omega), cel_len, show (i + 1) * 18 + j - 18 = i * 18 + j by omega]
  exact rcs_get ps i (by simpa using h) j u hj
theorem range_at {W : World} {b o : Nat} {ps : List Rp} (h : W.rangeAt b o (rcs ps)) {i : Nat} (hi : i < ps.length) : W.rangeAt b (o + i * 18) (cel ps[i]) := fun j u hu => by
 rw [Nat.add_assoc]
 exact h _ u (rcs_get ps i hi j u hu)
theorem range_bel {W W' : World} {b o : Nat} {cs : List Value} (h : W.rangeAt b o cs) (hb : Below W.heap.size W W') : W'.rangeAt b o cs := fun j u hu =>
 (hb.cell (p := ⟨b, o + j, none⟩) (cB (h j u hu) : b < W.heap.size)).trans (h j u hu)
theorem range_imp {W W' : World} {b o : Nat} {cs : List Value} (h : W.rangeAt b o cs) (hc : ∀ i, b < W.heap.size → W'.cell? ⟨b, i, none⟩ = W.cell? ⟨b, i, none⟩) : W'.rangeAt b o cs := fun j u hu =>
 (hc _ (cB (h j u hu) : b < W.heap.size)).trans (h j u hu)
def Rl (okb ok : Nat → Prop) (W : World) (v : Value) (ps : List Rp) : Prop :=
 ((∃ ao cap, ps = [] ∧ v = .slice ao 0 cap) ∨ (∃ b o cap, v = .slice (some ⟨b, o, none⟩) ps.length cap ∧ ps.length ≤ cap ∧ okb b ∧ 0 < ps.length ∧ W.rangeAt b o (rcs ps))) ∧ ∀ p ∈ ps, RwP ok W p
theorem Rl.nil (okb ok : Nat → Prop) (W : World) (ao : Option Addr) (cap : Nat) : Rl okb ok W (.slice ao 0 cap) [] := ⟨.inl ⟨_, _, rfl, rfl⟩, fun p hp => by simp at hp⟩
theorem Rl.form {okb ok : Nat → Prop} {W : World} {v : Value} {ps : List Rp} (h : Rl okb ok W v ps) : ∃ ao cap, v = .slice ao ps.length cap := by
 rcases h.1 with ⟨ao, cap, rfl, rfl⟩ | ⟨b, o, cap, rfl, _⟩ <;> exact ⟨_, _, rfl⟩
theorem Rl.imp {okb ok okb' ok' : Nat → Prop} {W W' : World} {v : Value} {ps : List Rp} (h : Rl okb ok W v ps) (hkb : ∀ b, b < W.heap.size → okb b → okb' b) (hk : ∀ b, b < W.heap.size → ok b → ok' b) (hc : ∀ b i, b < W.heap.size → okb b ∨ ok b → W'.cell? ⟨b, i, none⟩ = W.cell? ⟨b, i, none⟩) : Rl okb' ok' W' v ps := by
 refine ⟨?_, fun p hp => (h.2 p hp).imp hk (fun b i hl q => hc b i hl (.inr q))⟩
 rcases h.1 with h1 | ⟨b, o, cap, h1, h2, h3, h4, h5⟩
 ·exact .inl h1
 ·have hl : b < W.heap.size := cB (h5 0 _ (List.getElem?_eq_getElem (by rw [rcs_len]; omega)))
  exact .inr ⟨b, o, cap, h1, h2, hkb b hl h3, h4, range_imp h5 (fun i hl => hc b i hl (.inl h3))⟩
theorem Rl.below {okb ok : Nat → Prop} {W W' : World} {v : Value} {ps : List Rp} (h : Rl okb ok W v ps) (hb : Below W.heap.size W W') : Rl okb ok W' v ps :=
 h.imp (fun _ _ q => q) (fun _ _ q => q) (fun b i hl _ => hb.cell (p := ⟨b, i, none⟩) hl)
theorem Rl.any {okb ok : Nat → Prop} {W : World} {v : Value} {ps : List Rp} (h : Rl okb ok W v ps) : Rl (fun _ => True) (fun _ => True) W v ps :=
 h.imp (fun _ _ _ => trivial) (fun _ _ _ => trivial) (fun _ _ _ _ => rfl)
theorem Rl.rg {okb ok : Nat → Prop} {w : World} {ao : Option Addr} {n cap : Nat} {ps : List Rp} (h : Rl okb ok w (.slice ao n cap) ps) : 0 < ps.length → ∃ b o, ao = some ⟨b, o, none⟩ ∧ w.rangeAt b o (rcs ps) := fun hp => by
 rcases h.1 with ⟨_, _, rfl, _⟩ | ⟨b, o, cap', e, _, _, _, h3⟩
 ·simp at hp
 ·cases e; exact ⟨b, o, rfl, h3⟩
def rcl (ps : List Rp) : List Rc := ps.map (·.1)
theorem rcl_len (ps : List Rp) : (rcl ps).length = ps.length := by simp [rcl]
theorem ret_b {a b : Bool} (h : a = b) : Ending.returned (.bool b) = .returned (.bool a) := by rw [h]
def shL (rs : List Rc) : Bool := decide (rs.length ≤ 80) && rs.all shB
theorem shL_no {rs : List Rc} {j : Nat} (hj : j < rs.length) (h : shB rs[j] = false) : shL rs = false := by
 unfold shL
 have : rs.all shB = false := by
  rw [List.all_eq_false]
  exact ⟨rs[j], List.getElem_mem hj, by simp [h]⟩
 rw [this, Bool.and_false]
theorem shL_long {rs : List Rc} (h : 80 < rs.length) : shL rs = false := by
 unfold shL
 rw [decide_eq_false (by omega), Bool.false_and]
theorem shL_is {rs : List Rc} (h : shL rs = true) : rs.length ≤ 80 ∧ ∀ r ∈ rs, shB r = true := by
 unfold shL at h
 simp only [Bool.and_eq_true, decide_eq_true_eq, List.all_eq_true] at h
 exact h
theorem all_take {rs : List Rc} {j : Nat} (hj : j < rs.length) {f : Rc → Bool} (h : (rs.take j).all f = true) (hn : f rs[j] = true) : (rs.take (j + 1)).all f = true := by
 rw [List.take_succ_eq_append_getElem hj, List.all_append, h]
 simp [hn]
end Go.Proofs.YtlggjgapdpkhiaaGreat
namespace Go.Proofs.YtlggjgapdpkhiaaGreat
open Go.ChangeShapes Go.WideShapes Go.ChangeAt Go.RowKit Go.Joins
set_option maxRecDepth 100000
section
variable {H : Type} {enc : TypeId × Value → H}
theorem open_cells {W : World} {fuel : Nat} {c0 c1 c2 c3 c4 c5 c6 c7 c8 c9 c10 c11 c12 c13 c14 c15 c16 c17 : Value} {x : DataW H × List MemPlace} (hf : DataW.trod enc Tryz.prog W 0 (fun _ => true) true fuel 65 [c0, c1, c2, c3, c4, c5, c6, c7, c8, c9, c10, c11, c12, c13, c14, c15, c16, c17] = some x) : ∃ p : Rp, [c0, c1, c2, c3, c4, c5, c6, c7, c8, c9, c10, c11, c12, c13, c14, c15, c16, c17] = cel p ∧ RwP (fun b => b < W.heap.size) W p := by
 obtain ⟨xs, n, _, _, _, hlen, hfi⟩ := DataW.trod_struct Tryz.underlying65 hf
 have hlen' : xs.length = 18 := hlen
 have t0 : DataW.trod enc Tryz.prog W 0 (fun _ => true) true n 3 [c0] = some (xs[0]'(by omega)) := by
  have q := hfi 0 _ rfl
  rw [List.getElem?_eq_getElem (show 0 < xs.length by omega)] at q
  change DataW.trod enc Tryz.prog W 0 (fun _ => true) true n 3 (List.take (Tryz.prog.cellsOf 3) (List.drop 0 [c0, c1, c2, c3, c4, c5, c6, c7, c8, c9, c10, c11, c12, c13, c14, c15, c16, c17])) = _ at q
  rw [cellsI] at q
  exact q
 obtain ⟨k0, e0, _, _⟩ := DataW.trod_int (t := 3) Tryz.underlying3 t0
 simp only [List.cons.injEq, and_true] at e0
 subst e0
 have t1 : DataW.trod enc Tryz.prog W 0 (fun _ => true) true n 3 [c1] = some (xs[1]'(by omega)) := by
  have q := hfi 1 _ rfl
  rw [List.getElem?_eq_getElem (show 1 < xs.length by omega)] at q
  change DataW.trod enc Tryz.prog W 0 (fun _ => true) true n 3 (List.take (Tryz.prog.cellsOf 3) (List.drop 1 [.int .i64 k0, c1, c2, c3, c4, c5, c6, c7, c8, c9, c10, c11, c12, c13, c14, c15, c16, c17])) = _ at q
  rw [cellsI] at q
  exact q
 obtain ⟨k1, e1, _, _⟩ := DataW.trod_int (t := 3) Tryz.underlying3 t1
 simp only [List.cons.injEq, and_true] at e1
 subst e1
 have t2 : DataW.trod enc Tryz.prog W 0 (fun _ => true) true n 3 [c2] = some (xs[2]'(by omega)) := by
  have q := hfi 2 _ rfl
  rw [List.getElem?_eq_getElem (show 2 < xs.length by omega)] at q
  change DataW.trod enc Tryz.prog W 0 (fun _ => true) true n 3 (List.take (Tryz.prog.cellsOf 3) (List.drop 2 [.int .i64 k0, .int .i64 k1, c2, c3, c4, c5, c6, c7, c8, c9, c10, c11, c12, c13, c14, c15, c16, c17])) = _ at q
  rw [cellsI] at q
  exact q
 obtain ⟨k2, e2, _, _⟩ := DataW.trod_int (t := 3) Tryz.underlying3 t2
 simp only [List.cons.injEq, and_true] at e2
 subst e2
 have t3 : DataW.trod enc Tryz.prog W 0 (fun _ => true) true n 3 [c3] = some (xs[3]'(by omega)) := by
  have q := hfi 3 _ rfl
  rw [List.getElem?_eq_getElem (show 3 < xs.length by omega)] at q
  change DataW.trod enc Tryz.prog W 0 (fun _ => true) true n 3 (List.take (Tryz.prog.cellsOf 3) (List.drop 3 [.int .i64 k0, .int .i64 k1, .int .i64 k2, c3, c4, c5, c6, c7, c8, c9, c10, c11, c12, c13, c14, c15, c16, c17])) = _ at q
  rw [cellsI] at q
  exact q
 obtain ⟨k3, e3, _, _⟩ := DataW.trod_int (t := 3) Tryz.underlying3 t3
 simp only [List.cons.injEq, and_true] at e3
 subst e3
 have t4 : DataW.trod enc Tryz.prog W 0 (fun _ => true) true n 3 [c4] = some (xs[4]'(by omega)) := by
  have q := hfi 4 _ rfl
  rw [List.getElem?_eq_getElem (show 4 < xs.length by omega)] at q
  change DataW.trod enc Tryz.prog W 0 (fun _ => true) true n 3 (List.take (Tryz.prog.cellsOf 3) (List.drop 4 [.int .i64 k0, .int .i64 k1, .int .i64 k2, .int .i64 k3, c4, c5, c6, c7, c8, c9, c10, c11, c12, c13, c14, c15, c16, c17])) = _ at q
  rw [cellsI] at q
  exact q
 obtain ⟨k4, e4, _, _⟩ := DataW.trod_int (t := 3) Tryz.underlying3 t4
 simp only [List.cons.injEq, and_true] at e4
 subst e4
 have t5 : DataW.trod enc Tryz.prog W 0 (fun _ => true) true n 3 [c5] = some (xs[5]'(by omega)) := by
  have q := hfi 5 _ rfl
  rw [List.getElem?_eq_getElem (show 5 < xs.length by omega)] at q
  change DataW.trod enc Tryz.prog W 0 (fun _ => true) true n 3 (List.take (Tryz.prog.cellsOf 3) (List.drop 5 [.int .i64 k0, .int .i64 k1, .int .i64 k2, .int .i64 k3, .int .i64 k4, c5, c6, c7, c8, c9, c10, c11, c12, c13, c14, c15, c16, c17])) = _ at q
  rw [cellsI] at q
  exact q
 obtain ⟨k5, e5, _, _⟩ := DataW.trod_int (t := 3) Tryz.underlying3 t5
 simp only [List.cons.injEq, and_true] at e5
 subst e5
 have t6 : DataW.trod enc Tryz.prog W 0 (fun _ => true) true n 3 [c6] = some (xs[6]'(by omega)) := by
  have q := hfi 6 _ rfl
  rw [List.getElem?_eq_getElem (show 6 < xs.length by omega)] at q
  change DataW.trod enc Tryz.prog W 0 (fun _ => true) true n 3 (List.take (Tryz.prog.cellsOf 3) (List.drop 6 [.int .i64 k0, .int .i64 k1, .int .i64 k2, .int .i64 k3, .int .i64 k4, .int .i64 k5, c6, c7, c8, c9, c10, c11, c12, c13, c14, c15, c16, c17])) = _ at q
  rw [cellsI] at q
  exact q
 obtain ⟨k6, e6, _, _⟩ := DataW.trod_int (t := 3) Tryz.underlying3 t6
 simp only [List.cons.injEq, and_true] at e6
 subst e6
 have t7 : DataW.trod enc Tryz.prog W 0 (fun _ => true) true n 3 [c7] = some (xs[7]'(by omega)) := by
  have q := hfi 7 _ rfl
  rw [List.getElem?_eq_getElem (show 7 < xs.length by omega)] at q
  change DataW.trod enc Tryz.prog W 0 (fun _ => true) true n 3 (List.take (Tryz.prog.cellsOf 3) (List.drop 7 [.int .i64 k0, .int .i64 k1, .int .i64 k2, .int .i64 k3, .int .i64 k4, .int .i64 k5, .int .i64 k6, c7, c8, c9, c10, c11, c12, c13, c14, c15, c16, c17])) = _ at q
  rw [cellsI] at q
  exact q
 obtain ⟨k7, e7, _, _⟩ := DataW.trod_int (t := 3) Tryz.underlying3 t7
 simp only [List.cons.injEq, and_true] at e7
 subst e7
 have t8 : DataW.trod enc Tryz.prog W 0 (fun _ => true) true n 3 [c8] = some (xs[8]'(by omega)) := by
  have q := hfi 8 _ rfl
  rw [List.getElem?_eq_getElem (show 8 < xs.length by omega)] at q
  change DataW.trod enc Tryz.prog W 0 (fun _ => true) true n 3 (List.take (Tryz.prog.cellsOf 3) (List.drop 8 [.int .i64 k0, .int .i64 k1, .int .i64 k2, .int .i64 k3, .int .i64 k4, .int .i64 k5, .int .i64 k6, .int .i64 k7, c8, c9, c10, c11, c12, c13, c14, c15, c16, c17])) = _ at q
  rw [cellsI] at q
  exact q
 obtain ⟨k8, e8, _, _⟩ := DataW.trod_int (t := 3) Tryz.underlying3 t8
 simp only [List.cons.injEq, and_true] at e8
 subst e8
 have t9 : DataW.trod enc Tryz.prog W 0 (fun _ => true) true n 4 [c9] = some (xs[9]'(by omega)) := by
  have q := hfi 9 _ rfl
  rw [List.getElem?_eq_getElem (show 9 < xs.length by omega)] at q
  change DataW.trod enc Tryz.prog W 0 (fun _ => true) true n 4 (List.take (Tryz.prog.cellsOf 4) (List.drop 9 [.int .i64 k0, .int .i64 k1, .int .i64 k2, .int .i64 k3, .int .i64 k4, .int .i64 k5, .int .i64 k6, .int .i64 k7, .int .i64 k8, c9, c10, c11, c12, c13, c14, c15, c16, c17])) = _ at q
  rw [cellsBo] at q
  exact q
 obtain ⟨k9, e9, _⟩ := DataW.trod_bool (t := 4) Tryz.underlying4 t9
 simp only [List.cons.injEq, and_true] at e9
 subst e9
 have t10 : DataW.trod enc Tryz.prog W 0 (fun _ => true) true n 9 [c10] = some (xs[10]'(by omega)) := by
  have q := hfi 10 _ rfl
  rw [List.getElem?_eq_getElem (show 10 < xs.length by omega)] at q
  change DataW.trod enc Tryz.prog W 0 (fun _ => true) true n 9 (List.take (Tryz.prog.cellsOf 9) (List.drop 10 [.int .i64 k0, .int .i64 k1, .int .i64 k2, .int .i64 k3, .int .i64 k4, .int .i64 k5, .int .i64 k6, .int .i64 k7, .int .i64 k8, .bool k9, c10, c11, c12, c13, c14, c15, c16, c17])) = _ at q
  rw [cellsS] at q
  exact q
 obtain ⟨k10, e10, _, _⟩ := DataW.trod_string (t := 9) Tryz.underlying9 t10
 simp only [List.cons.injEq, and_true] at e10
 subst e10
 have t11 : DataW.trod enc Tryz.prog W 0 (fun _ => true) true n 9 [c11] = some (xs[11]'(by omega)) := by
  have q := hfi 11 _ rfl
  rw [List.getElem?_eq_getElem (show 11 < xs.length by omega)] at q
  change DataW.trod enc Tryz.prog W 0 (fun _ => true) true n 9 (List.take (Tryz.prog.cellsOf 9) (List.drop 11 [.int .i64 k0, .int .i64 k1, .int .i64 k2, .int .i64 k3, .int .i64 k4, .int .i64 k5, .int .i64 k6, .int .i64 k7, .int .i64 k8, .bool k9, .string k10, c11, c12, c13, c14, c15, c16, c17])) = _ at q
  rw [cellsS] at q
  exact q
 obtain ⟨k11, e11, _, _⟩ := DataW.trod_string (t := 9) Tryz.underlying9 t11
 simp only [List.cons.injEq, and_true] at e11
 subst e11
 have t12 : DataW.trod enc Tryz.prog W 0 (fun _ => true) true n 9 [c12] = some (xs[12]'(by omega)) := by
  have q := hfi 12 _ rfl
  rw [List.getElem?_eq_getElem (show 12 < xs.length by omega)] at q
  change DataW.trod enc Tryz.prog W 0 (fun _ => true) true n 9 (List.take (Tryz.prog.cellsOf 9) (List.drop 12 [.int .i64 k0, .int .i64 k1, .int .i64 k2, .int .i64 k3, .int .i64 k4, .int .i64 k5, .int .i64 k6, .int .i64 k7, .int .i64 k8, .bool k9, .string k10, .string k11, c12, c13, c14, c15, c16, c17])) = _ at q
  rw [cellsS] at q
  exact q
 obtain ⟨k12, e12, _, _⟩ := DataW.trod_string (t := 9) Tryz.underlying9 t12
 simp only [List.cons.injEq, and_true] at e12
 subst e12
 have t13 : DataW.trod enc Tryz.prog W 0 (fun _ => true) true n 9 [c13] = some (xs[13]'(by omega)) := by
  have q := hfi 13 _ rfl
  rw [List.getElem?_eq_getElem (show 13 < xs.length by omega)] at q
  change DataW.trod enc Tryz.prog W 0 (fun _ => true) true n 9 (List.take (Tryz.prog.cellsOf 9) (List.drop 13 [.int .i64 k0, .int .i64 k1, .int .i64 k2, .int .i64 k3, .int .i64 k4, .int .i64 k5, .int .i64 k6, .int .i64 k7, .int .i64 k8, .bool k9, .string k10, .string k11, .string k12, c13, c14, c15, c16, c17])) = _ at q
  rw [cellsS] at q
  exact q
 obtain ⟨k13, e13, _, _⟩ := DataW.trod_string (t := 9) Tryz.underlying9 t13
 simp only [List.cons.injEq, and_true] at e13
 subst e13
 have t14 : DataW.trod enc Tryz.prog W 0 (fun _ => true) true n 42 [c14] = some (xs[14]'(by omega)) := by
  have q := hfi 14 _ rfl
  rw [List.getElem?_eq_getElem (show 14 < xs.length by omega)] at q
  change DataW.trod enc Tryz.prog W 0 (fun _ => true) true n 42 (List.take (Tryz.prog.cellsOf 42) (List.drop 14 [.int .i64 k0, .int .i64 k1, .int .i64 k2, .int .i64 k3, .int .i64 k4, .int .i64 k5, .int .i64 k6, .int .i64 k7, .int .i64 k8, .bool k9, .string k10, .string k11, .string k12, .string k13, c14, c15, c16, c17])) = _ at q
  rw [cellsR'] at q
  exact q
 obtain ⟨k14, a14, d14, e14, s14⟩ := open_rowi t14
 subst e14
 have t15 : DataW.trod enc Tryz.prog W 0 (fun _ => true) true n 42 [c15] = some (xs[15]'(by omega)) := by
  have q := hfi 15 _ rfl
  rw [List.getElem?_eq_getElem (show 15 < xs.length by omega)] at q
  change DataW.trod enc Tryz.prog W 0 (fun _ => true) true n 42 (List.take (Tryz.prog.cellsOf 42) (List.drop 15 [.int .i64 k0, .int .i64 k1, .int .i64 k2, .int .i64 k3, .int .i64 k4, .int .i64 k5, .int .i64 k6, .int .i64 k7, .int .i64 k8, .bool k9, .string k10, .string k11, .string k12, .string k13, .slice a14 k14.length d14, c15, c16, c17])) = _ at q
  rw [cellsR'] at q
  exact q
 obtain ⟨k15, a15, d15, e15, s15⟩ := open_rowi t15
 subst e15
 have t16 : DataW.trod enc Tryz.prog W 0 (fun _ => true) true n 42 [c16] = some (xs[16]'(by omega)) := by
  have q := hfi 16 _ rfl
  rw [List.getElem?_eq_getElem (show 16 < xs.length by omega)] at q
  change DataW.trod enc Tryz.prog W 0 (fun _ => true) true n 42 (List.take (Tryz.prog.cellsOf 42) (List.drop 16 [.int .i64 k0, .int .i64 k1, .int .i64 k2, .int .i64 k3, .int .i64 k4, .int .i64 k5, .int .i64 k6, .int .i64 k7, .int .i64 k8, .bool k9, .string k10, .string k11, .string k12, .string k13, .slice a14 k14.length d14, .slice a15 k15.length d15, c16, c17])) = _ at q
  rw [cellsR'] at q
  exact q
 obtain ⟨k16, a16, d16, e16, s16⟩ := open_rowi t16
 subst e16
 have t17 : DataW.trod enc Tryz.prog W 0 (fun _ => true) true n 42 [c17] = some (xs[17]'(by omega)) := by
  have q := hfi 17 _ rfl
  rw [List.getElem?_eq_getElem (show 17 < xs.length by omega)] at q
  change DataW.trod enc Tryz.prog W 0 (fun _ => true) true n 42 (List.take (Tryz.prog.cellsOf 42) (List.drop 17 [.int .i64 k0, .int .i64 k1, .int .i64 k2, .int .i64 k3, .int .i64 k4, .int .i64 k5, .int .i64 k6, .int .i64 k7, .int .i64 k8, .bool k9, .string k10, .string k11, .string k12, .string k13, .slice a14 k14.length d14, .slice a15 k15.length d15, .slice a16 k16.length d16, c17])) = _ at q
  rw [cellsR'] at q
  exact q
 obtain ⟨k17, a17, d17, e17, s17⟩ := open_rowi t17
 subst e17
 refine ⟨(⟨k0, k1, k2, k3, k4, k5, k6, k7, k8, k9, k10.data.toList, k11.data.toList, k12.data.toList, k13.data.toList, k14, k15, k16, k17⟩, ⟨a14, a15, a16, a17, d14, d15, d16, d17⟩), ?_, ⟨s14, s15, s16, s17⟩⟩
 rw [str_form k10, str_form k11, str_form k12, str_form k13]
 rfl
theorem open_rp {W : World} {n : Nat} {a : Addr} {cs : List Value} {x : DataW H × List MemPlace} (hc : W.cells? 0 a (Tryz.prog.cellsOf 65) = some cs)
  (h : DataW.trod enc Tryz.prog W 0 (fun _ => true) true n 65 cs = some x) : ∃ p : Rp, (∀ j u, (cel p)[j]? = some u → W.cell? (a.add j) = some u) ∧ RwP (fun b => b < W.heap.size) W p := by
 rw [cellsRec] at hc
 obtain ⟨_, hl, hcell⟩ := World.cells?_some hc
 obtain ⟨c0, c1, c2, c3, c4, c5, c6, c7, c8, c9, c10, c11, c12, c13, c14, c15, c16, c17, e⟩ := array18 (cs := cs.toArray) (by simpa using hl)
 have e' : cs = [c0, c1, c2, c3, c4, c5, c6, c7, c8, c9, c10, c11, c12, c13, c14, c15, c16, c17] := by simpa using congrArg Array.toList e
 rw [e'] at h
 obtain ⟨p, h1, h2⟩ := open_cells h
 rw [h1] at e'
 refine ⟨p, fun j u hj => ?_, h2⟩
 rw [← e'] at hj
 have hjl := (List.getElem?_eq_some_iff.1 hj)
 obtain ⟨hlt, hv⟩ := hjl
 rw [hcell j (by omega)]
 exact hj
theorem open_rps {W : World} {fuel : Nat} {u : Value} {x : DataW H × List MemPlace} (hu : ∃ a0 len cap, u = .slice a0 len cap) (hf : DataW.trod enc Tryz.prog W 0 (fun _ => true) true fuel 22 [u] = some x) : ∃ ps : List Rp, Rl (fun _ => True) (fun b => b < W.heap.size) W u ps ∧ ps.length ≤ maxLen := by
 obtain ⟨a0, len, cap, rfl⟩ := hu
 rcases Deep.open_slice (t := 22) Tryz.underlying22 hf with ⟨e0, _⟩ | ⟨a, len', cap', q, n, D, Pl, e0, _, hlen, hcap, hq, hx, hel⟩
 ·simp at e0
  obtain ⟨rfl, rfl, rfl⟩ := e0
  exact ⟨[], Rl.nil _ _ _ _ _, Nat.zero_le _⟩
 ·simp at e0
  obtain ⟨rfl, rfl, rfl⟩ := e0
  rw [if_pos rfl] at hq
  subst hq
  have hs : ∀ i, i < len → ∃ p : Rp, (∀ j u, (cel p)[j]? = some u → W.cell? ((a.add (i * 18)).add j) = some u) ∧ RwP (fun b => b < W.heap.size) W p := by
   intro i hi
   obtain ⟨cs', hc, ht⟩ := hel i (by omega)
   have := open_rp hc ht
   rwa [cellsRec] at this
  haveI : Inhabited Rp := ⟨(Rc.zero, ⟨none, none, none, none, 0, 0, 0, 0⟩)⟩
  obtain ⟨f, hf⟩ := Deep.choose_lt hs
  have hl : ((List.range len).map f).length = len := by simp
  refine ⟨(List.range len).map f, ⟨?_, fun p hp => ?_⟩, by rw [hl]; omega⟩
  ·by_cases h0 : len = 0
   ·subst h0
    exact .inl ⟨_, _, rfl, rfl⟩
   ·obtain ⟨b, o, sp⟩ := a
    have hsp : sp = none := by simpa [Addr.add] using World.cell?_spot ((hf 0 (by omega)).1 0 _ rfl)
    subst hsp
    refine .inr ⟨b, o, _, by rw [hl], by rw [hl]; exact hlen, trivial, by omega, fun j u hj => ?_⟩
    have hjl : j < ((List.range len).map f).length * 18 := by have := (List.getElem?_eq_some_iff.1 hj).1; rwa [rcs_len] at this
    rw [hl] at hjl
    have hi : j / 18 < len := by omega
    have hget : ((List.range len).map f)[j / 18]'(by rw [hl]; exact hi) = f (j / 18) := by simp
    have hm : j % 18 < 18 := by omega
    obtain ⟨u', hu'⟩ : ∃ u', (cel (f (j / 18)))[j % 18]? = some u' := ⟨_, List.getElem?_eq_getElem (by rw [cel_len]; exact hm)⟩
    have h2 := rcs_get ((List.range len).map f) (j / 18) (by rw [hl]; exact hi) (j % 18) u' (by rw [hget]; exact hu')
    rw [show j / 18 * 18 + j % 18 = j by omega, hj] at h2
    cases h2
    have h3 := (hf (j / 18) hi).1 (j % 18) u hu'
    rw [Addr.add_lit, Addr.add_lit, Nat.add_assoc, show j / 18 * 18 + j % 18 = j by omega] at h3
    exact h3
  ·obtain ⟨i, hi, rfl⟩ := List.mem_map.1 hp
   exact (hf i (List.mem_range.1 hi)).2
theorem open_recs {W : World} {base : Nat} {v : Value} {d : DataW H} {p : List MemPlace} (hv : Value.okWide Tryz.prog W .any base 22 v) (h : DataW.Trod enc Tryz.prog W 0 (fun _ => true) true 22 v d p) : ∃ ps : List Rp, Rl (fun _ => True) (fun b => b < W.heap.size) W v ps ∧ ps.length ≤ maxLen := by
 obtain ⟨a0, len, cap, rfl⟩ := okWide_slice Tryz.underlying22 hv
 obtain ⟨fuel, hf⟩ := h
 exact open_rps ⟨_, _, _, rfl⟩ hf
end
theorem u32_of {n : Int} (h : (Lit.int .u32 n).wf = true) : 0 ≤ n ∧ n ≤ 4294967295 := by
 simp only [Lit.wf, Bool.and_eq_true, decide_eq_true_eq, show IntKind.u32.min = 0 by decide, show IntKind.u32.max = 4294967295 by decide] at h
 exact h
theorem i64_of {n : Int} (h : (Lit.int .i64 n).wf = true) : -9223372036854775808 ≤ n ∧ n ≤ 9223372036854775807 := by
 simp only [Lit.wf, Bool.and_eq_true, decide_eq_true_eq, show IntKind.i64.min = -9223372036854775808 by decide, show IntKind.i64.max = 9223372036854775807 by decide] at h
 exact h
end Go.Proofs.YtlggjgapdpkhiaaGreat
namespace Go.Proofs.YtlggjgapdpkhiaaGreat
open Go.RowKit
set_option maxRecDepth 100000
set_option maxHeartbeats 8000000
def ivQ : Value → Int
 | .int _ n => n
 | _ => 0
theorem any_yes {α : Type} {f : α → Bool} {l : List α} {k : Nat} (hk : k < l.length) (h : f l[k] = true) : l.any f = true := List.any_eq_true.2 ⟨_, List.getElem_mem hk, h⟩
theorem any_no {α : Type} {f : α → Bool} {l : List α} (h : ∀ j (hj : j < l.length), f l[j] = false) : l.any f = false := by
 rw [List.any_eq_false]
 intro x hx
 obtain ⟨j, hj, rfl⟩ := List.getElem_of_mem hx
 simp [h j hj]
theorem up_to {α : Type} {f : α → Bool} {l : List α} {k : Nat} (h : ∀ j (hj : j < l.length), j < k → f l[j] = false) (hk : k < l.length) (hn : f l[k] = false) : ∀ j (hj : j < l.length), j < k + 1 → f l[j] = false := fun j hj q => by
 by_cases e : j = k
 ·subst e; exact hn
 ·exact h j hj (by omega)
theorem rhas_any (v : Value) (l : List Int) (n : Int) (w : World) (hv : Sl ic w v l) (hl : l.length ≤ 100000) : Calls Tryz.prog 135 #[v, .int .i64 n] w fun e w' => e = .returned (.bool (l.contains n)) ∧ w' = w := by
 obtain ⟨ao, cap, rfl⟩ := hv.form
 have HV := Hd hv
 clear hv
 generalize hcc : l.contains n = cc
 have HCC := Hd hcc
 clear hcc
 go_enter Tryz.func135, Tryz.ntmps135
 go_wp2
 go_loopw [5] (fun i W => ∃ k : Nat, k ≤ l.length ∧ i = .int .i64 (k : Int) ∧ W = w ∧ ∀ j (hj : j < l.length), j < k → (fun x => x == n) l[j] = false) (fun i _ => l.length - (ivQ i).toNat)
 case atStart => exact ⟨0, Nat.zero_le _, rfl, rfl, fun j _ h => absurd h (Nat.not_lt_zero j)⟩
 case round =>
  obtain ⟨k, hk, rfl, rfl, hall⟩ := hrel
  have HA := Hd hall
  clear hall
  by_cases hlt : k < l.length
  ·have hltI : (k : Int) < (l.length : Int) := by omega
   obtain ⟨b, o, c, e, h2, h3⟩ : ∃ b o c, Value.slice ao l.length cap = .slice (some ⟨b, o, none⟩) l.length c ∧ l.length ≤ c ∧ ∀ i (h : i < l.length), wr.cell? ⟨b, o + i, none⟩ = some (ic l[i]) := by
    rcases HV.out with ⟨_, _, e, _⟩ | h
    ·subst e; simp at hlt
    ·exact h
   cases e
   have c0 := h3 k hlt
   unfold ic at c0
   clear h3
   have HUP := Hd (up_to (f := fun x => x == n) HA.out hlt)
   have HYE := Hd (any_yes (f := fun x => x == n) hlt)
   generalize l[k] = x at c0 HUP HYE
   (try simp only at HUP HYE)
   by_cases hx : x = n
   ·have n1 : (x == n) = true := by simp [hx]
    have HC : Hid (l.contains n = true) := Hd (by rw [List.contains_eq_any_beq]; have := HYE.out n1; rw [List.any_eq_true] at this ⊢; obtain ⟨y, h1, h2⟩ := this; exact ⟨y, h1, by simp at h2 ⊢; exact h2.symm⟩)
    clear hx
    go_wp2
    go_ret
    exact ⟨by rw [← HCC.out, HC.out]; rfl, rfl⟩
   ·have n1 : (x == n) = false := by simp [hx]
    clear hx
    go_wp2
    go_roundw
    case rel => exact ⟨k + 1, by omega, by go_num, (by first | rfl | trivial), HUP.out n1⟩
    case measure => simp [ivQ]; omega
  ·obtain rfl : k = l.length := by omega
   have HC : Hid (l.contains n = false) := Hd (by
    rw [List.contains_eq_any_beq]
    have := any_no (f := fun x => x == n) (fun j hj => HA.out j hj hj)
    rw [List.any_eq_false] at this ⊢
    intro y h1 h2
    exact this y h1 (by simp at h2 ⊢; exact h2.symm))
   go_wp2
   go_ret
   exact ⟨by rw [← HCC.out, HC.out]; rfl, rfl⟩
def brV : Option Bk → Value
 | some b => .tuple #[.agg (List.toArray [.int .i64 b.id, .int .i64 b.ep, .string ⟨b.rk.toArray⟩, .bool b.fe, .bool b.lv]), .bool true]
 | none => .tuple #[.agg (List.toArray [.int .i64 0, .int .i64 0, .string ⟨#[]⟩, .bool false, .bool false]), .bool false]
theorem fB_up {l : List Bk} {id : Int} {k : Nat} (hk : k < l.length) (h : ∀ j (hj : j < l.length), j < k → idB id l[j] = false) (hy : idB id l[k] = true) : fB l id = some l[k] := by
 unfold fB
 rw [List.find?_eq_some_iff_getElem]
 exact ⟨hy, k, hk, rfl, fun j hj => by rw [h j (by omega) hj]; rfl⟩
theorem fB_end {l : List Bk} {id : Int} (h : ∀ j (hj : j < l.length), idB id l[j] = false) : fB l id = none := by
 unfold fB
 rw [List.find?_eq_none]
 intro x hx
 obtain ⟨j, hj, rfl⟩ := List.getElem_of_mem hx
 simp [h j hj]
theorem rbroker_any (m : Im) (p : Ip) (id : Int) (w : World) (hv : ImR w m p) (hl : m.br.length ≤ 100000) : Calls Tryz.prog 8 #[imv m p, .int .i64 id] w fun e w' => e = .returned (brV (fB m.br id)) ∧ Below w.heap.size w w' := by
 have HS : Hid (Bx ((w.alloc (.cells (List.toArray [Value.slice p.ab m.br.length p.cb, .slice p.aq p.ts.length p.cq, .slice p.ac m.cf.length p.cc, .slice p.ad m.dn.length p.cd, .int .i64 m.la]) 30)).alloc (.cells (List.toArray [Value.int .i64 0, .int .i64 0, .string ⟨#[]⟩, .bool false, .bool false]) 33)) w.heap.size (iml m p) ∧ Bx ((w.alloc (.cells (List.toArray [Value.slice p.ab m.br.length p.cb, .slice p.aq p.ts.length p.cq, .slice p.ac m.cf.length p.cc, .slice p.ad m.dn.length p.cd, .int .i64 m.la]) 30)).alloc (.cells (List.toArray [Value.int .i64 0, .int .i64 0, .string ⟨#[]⟩, .bool false, .bool false]) 33)) (w.heap.size + 1) [.int .i64 0, .int .i64 0, .string ⟨#[]⟩, .bool false, .bool false] ∧ Below w.heap.size w ((w.alloc (.cells (List.toArray [Value.slice p.ab m.br.length p.cb, .slice p.aq p.ts.length p.cq, .slice p.ac m.cf.length p.cc, .slice p.ad m.dn.length p.cd, .int .i64 m.la]) 30)).alloc (.cells (List.toArray [Value.int .i64 0, .int .i64 0, .string ⟨#[]⟩, .bool false, .bool false]) 33))) := Hd (Bx.mk2 w (iml m p) [.int .i64 0, .int .i64 0, .string ⟨#[]⟩, .bool false, .bool false] 30 33 (Below.refl _ _))
 have HV := Hd (fun W (h : Below w.heap.size w W) => (hv.below h).b)
 clear hv
 obtain ⟨ab, aq, ac, ad, cb, cq, cc, cd, ts⟩ := p
 unfold imv
 unfold iml at HS
 go_enter Tryz.func8, Tryz.ntmps8
 go_upto_region 2 with fail
 (try dsimp only at HS)
 (try dsimp only at HV)
 generalize (w.alloc (.cells (List.toArray [Value.slice ab m.br.length cb, .slice aq ts.length cq, .slice ac m.cf.length cc, .slice ad m.dn.length cd, .int .i64 m.la]) 30)).alloc (.cells (List.toArray [Value.int .i64 0, .int .i64 0, .string ⟨#[]⟩, .bool false, .bool false]) 33) = X at HS ⊢
 go_loopw [6] (fun i W => ∃ k : Nat, k ≤ m.br.length ∧ i = .int .i64 (k : Int) ∧ W = X ∧ ∀ j (hj : j < m.br.length), j < k → idB id m.br[j] = false) (fun i _ => m.br.length - (ivQ i).toNat)
 case atStart => exact ⟨0, Nat.zero_le _, rfl, rfl, fun j _ h => absurd h (Nat.not_lt_zero j)⟩
 case round =>
  obtain ⟨k, hk, rfl, rfl, hall⟩ := hrel
  have HA := Hd hall
  clear hall
  have i0 := HS.out.1.at 0 _ rfl
  by_cases hlt : k < m.br.length
  ·have hltI : (k : Int) < (m.br.length : Int) := by omega
   obtain ⟨bb, ob, rfl, hrg⟩ := (HV.out wr HS.out.2.2).rg (show 0 < m.br.length by omega)
   have HC := Hd (fm_at encB hrg hlt)
   have HUP := Hd (up_to (f := idB id) HA.out hlt)
   have HYE := Hd (fB_up hlt HA.out)
   clear hrg
   generalize m.br[k] = b at HC HUP HYE
   unfold bkc at HC
   have c0 : wr.cell? ⟨bb, ob + k * 5, none⟩ = some (.int .i64 b.id) := HC.out 0 _ rfl
   by_cases hx : b.id = id
   ·have n1 : (b.id == id) = true := by simp [hx]
    have HF := Hd (HYE.out n1)
    clear hx
    go_wp2_with (first | (refine wpList_load_mid rfl _ _ rfl _ _ rfl _ _ HC.out Tryz.underlying33 rfl (by kernel_rfl) ?_) | (refine wS rfl _ _ _ rfl _ _ rfl HS.out.2.1 [.int .i64 b.id, .int .i64 b.ep, .string ⟨b.rk.toArray⟩, .bool b.fe, .bool b.lv] rfl rfl (by kernel_rfl) rfl ?_; intro W3 hR3 _ hK3 _; have HR3 := Hd hR3; have HB3 := Hd (hK3 _ _ (Nat.le_succ _) HS.out.2.2); clear hR3 hK3))
    obtain ⟨r0, r1, r2, r3, r4⟩ := HR3.out.c5
    exact bodyPost_ret (v := .tuple #[.agg (List.toArray [Value.int .i64 b.id, .int .i64 b.ep, .string ⟨b.rk.toArray⟩, .bool b.fe, .bool b.lv]), .bool true]) (by simp [results, Tryz.results8, go_sem, r0, r1, r2, r3, r4]) rfl ⟨by rw [HF.out]; rfl, HB3.out⟩
   ·have n1 : (b.id == id) = false := by simp [hx]
    clear hx
    go_wp2_with fail
    go_roundw
    case rel => exact ⟨k + 1, by omega, by go_num, (by first | rfl | trivial), HUP.out n1⟩
    case measure => simp [ivQ]; omega
  ·obtain rfl : k = m.br.length := by omega
   have HF : Hid (fB m.br id = none) := Hd (fB_end (fun j hj => HA.out j hj hj))
   go_wp2_with (first | (refine wS rfl _ _ _ rfl _ _ rfl HS.out.2.1 [.int .i64 0, .int .i64 0, .string ⟨#[]⟩, .bool false, .bool false] rfl rfl (by kernel_rfl) rfl ?_; intro W3 hR3 _ hK3 _; have HR3 := Hd hR3; have HB3 := Hd (hK3 _ _ (Nat.le_succ _) HS.out.2.2); clear hR3 hK3))
   obtain ⟨r0, r1, r2, r3, r4⟩ := HR3.out.c5
   exact bodyPost_ret (v := .tuple #[.agg (List.toArray [Value.int .i64 0, .int .i64 0, .string ⟨#[]⟩, .bool false, .bool false]), .bool false]) (by simp [results, Tryz.results8, go_sem, r0, r1, r2, r3, r4]) rfl ⟨by rw [HF.out]; rfl, HB3.out⟩
theorem ralive_any (m : Im) (p : Ip) (id : Int) (w : World) (hv : ImR w m p) (hl : m.br.length ≤ 100000) : Calls Tryz.prog 23 #[imv m p, .int .i64 id] w fun e w' => e = .returned (.bool (alive m.br id)) ∧ Below w.heap.size w w' := by
 have HB := Hd (fun W (h : Below w.heap.size w W) => rbroker_any m p id W (hv.below h) hl)
 have HI := Hd (Bx.new w (iml m p) 30)
 have HX := Hd (bA w (.cells (iml m p).toArray 30))
 clear hv
 unfold alive
 unfold imv at *
 unfold iml at HI HX
 cases hf : fB m.br id with
 | none =>
  rw [hf] at HB
  unfold brV at HB
  clear hf
  go_enter Tryz.func23, Tryz.ntmps23
  go_upto_region 1 with fail
  generalize w.alloc (.cells (List.toArray [Value.slice p.ab m.br.length p.cb, .slice p.aq p.ts.length p.cq, .slice p.ac m.cf.length p.cc, .slice p.ad m.dn.length p.cd, .int .i64 m.la]) 30) = X at HI HX ⊢
  go_wp2_with (first | (refine wpList_load_mid rfl _ _ rfl _ _ rfl _ _ HI.out.c Tryz.underlying30 rfl (by kernel_rfl) ?_) | (go_at_call 8; refine (HB.out X (HX.out)).mono ?_; rintro e w1 ⟨rfl, hb1⟩; have HB1 := Hd (bt HX.out hb1); clear hb1))
  go_ret
  exact ⟨rfl, bt HB1.out (bA _ _)⟩
 | some b =>
  rw [hf] at HB
  unfold brV at HB
  clear hf
  go_enter Tryz.func23, Tryz.ntmps23
  go_upto_region 1 with fail
  generalize w.alloc (.cells (List.toArray [Value.slice p.ab m.br.length p.cb, .slice p.aq p.ts.length p.cq, .slice p.ac m.cf.length p.cc, .slice p.ad m.dn.length p.cd, .int .i64 m.la]) 30) = X at HI HX ⊢
  go_wp2_with (first | (refine wpList_load_mid rfl _ _ rfl _ _ rfl _ _ HI.out.c Tryz.underlying30 rfl (by kernel_rfl) ?_) | (go_at_call 8; refine (HB.out X (HX.out)).mono ?_; rintro e w1 ⟨rfl, hb1⟩; have HB1 := Hd (bt HX.out hb1); clear hb1))
  go_ret
  exact ⟨rfl, bt HB1.out (bA _ _)⟩
end Go.Proofs.YtlggjgapdpkhiaaGreat
