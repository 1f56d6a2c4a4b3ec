/-
  A ROW OF SETTINGS OF A CALL's OWN, some taken out (slices.DeleteFunc).
  WHAT A SETTING IS (image.Config).
  BROKERS WITH ANOTHER ONE, AS THE DOCUMENT HAS IT (castellanref15.putBroker).
  WHAT THE DOCUMENT's STEPS ANSWER.
-/
import Derived.Test.YtlggjgapdpkhiaaGreatJKImCpa5
import Derived.Test.YtlggjgapdpkhiaaGreatJKImCda5
import Derived.Test.YtlggjgapdpkhiaaGreatJKImCba5
namespace Go.Proofs.YtlggjgapdpkhiaaGreat
open Go.RowKit
def Rg {α : Type} (f : α → List Value) (W : World) (B : Nat) (v : Value) (l : List α) : Prop := ∃ ao cap, v = .slice ao l.length cap ∧ l.length ≤ cap ∧ (0 < l.length → ∃ b o, ao = some ⟨b, o, none⟩ ∧ B ≤ b ∧ W.rangeAt b o (l.flatMap f))
theorem Rg.rs {α : Type} {f : α → List Value} {W : World} {B : Nat} {v : Value} {l : List α} (h : Rg f W B v l) : Rs f W v l := by
 obtain ⟨ao, cap, e, hc, hr⟩ := h
 exact ⟨ao, cap, e, hc, fun q => by obtain ⟨b, o, e1, _, e2⟩ := hr q; exact ⟨b, o, e1, e2⟩⟩
theorem Rg.keepG {α : Type} {f : α → List Value} {W W' : World} {B : Nat} {v : Value} {l : List α} (h : Rg f W B v l) (hk : ∀ g, B ≤ g → W'.heap[g]? = W.heap[g]?) : Rg f W' B v l := by
 obtain ⟨ao, cap, e, hc, hr⟩ := h
 refine ⟨ao, cap, e, hc, fun q => ?_⟩
 obtain ⟨b, o, e1, e3, e2⟩ := hr q
 exact ⟨b, o, e1, e3, fun j u hj => (World.cell?_of_block (w := W) (hk b e3)).trans (e2 j u hj)⟩
theorem Rg.mono {α : Type} {f : α → List Value} {W : World} {B C : Nat} {v : Value} {l : List α} (h : Rg f W B v l) (hc : C ≤ B) : Rg f W C v l := by
 obtain ⟨ao, cap, e, hc', hr⟩ := h
 exact ⟨ao, cap, e, hc', fun q => by obtain ⟨b, o, e1, e3, e2⟩ := hr q; exact ⟨b, o, e1, Nat.le_trans hc e3, e2⟩⟩
theorem Rg.form {α : Type} {f : α → List Value} {W : World} {B : Nat} {v : Value} {l : List α} (h : Rg f W B v l) : ∃ a c, v = .slice a l.length c := by
 obtain ⟨ao, cap, e, _⟩ := h
 exact ⟨_, _, e⟩
set_option maxRecDepth 100000 in
theorem delf_nil (cap C : Nat) (w : World) : Calls Tryz.prog 129 #[.slice none 0 cap, .func (.func 130) #[] #[.pointer (some ⟨C, 0, none⟩)]] w fun e w' => e = .returned (.slice none 0 cap) ∧ Below w.heap.size w w' := by
 have HIX : Hid (Calls Tryz.prog 149 #[.slice none 0 cap, .func (.func 130) #[] #[.pointer (some ⟨C, 0, none⟩)]] w fun e w' => e = .returned (.int .i64 (-1)) ∧ Below w.heap.size w w') := Hd ((ix_drp [] (fun _ => false) none 0 cap (.pointer (some ⟨C, 0, none⟩)) w rfl (rs_nil _ _ _ _) (by simp) (fun W x hx => by cases hx)).mono fun _ _ q => q.find_no rfl)
 go_enter Tryz.func129, Tryz.ntmps129
 go_wp2_with (go_at_call 149; refine HIX.out.mono ?_; rintro e w1 ⟨rfl, hb⟩; have HB1 := Hd hb; clear hb HIX)
 go_ret
 exact ⟨rfl, HB1.out⟩
theorem delf_own (l : List Cf) (v : Value) (B C : Nat) (t : Int) (w : World) (hr : Ro cfc 3 78 w B v l) (hC : w.cell? ⟨C, 3, none⟩ = some (.int .i64 t)) (hCB : C < B) (hB : B ≤ w.heap.size) (hl : l.length ≤ 100000) :
  Calls Tryz.prog 129 #[v, .func (.func 130) #[] #[.pointer (some ⟨C, 0, none⟩)]] w fun e w' => ∃ v', e = .returned v' ∧ Rg cfc w' B v' (l.filter fun x => !(x.tp == t)) ∧ Below B w w' := by
 have hrs := hr.rs
 rcases hr.2 with ⟨rfl, h0⟩ | ⟨g, cap, cur, rfl, a2, a3, a4, a5, a6, a7⟩
 ·obtain rfl := List.eq_nil_iff_length_eq_zero.2 h0
  refine (delf_nil 0 C w).mono ?_
  rintro e w' ⟨rfl, hb⟩
  exact ⟨_, rfl, ⟨none, 0, rfl, Nat.zero_le _, fun q => absurd q (Nat.lt_irrefl 0)⟩, hb.mono hB⟩
 ·have hgl : g < w.heap.size := (Array.getElem?_eq_some_iff.1 a3).1
  have hrg : w.rangeAt g 0 (l.flatMap cfc) := by
   intro j u hj
   have hlt : j < (l.flatMap cfc).length := (List.getElem?_eq_some_iff.1 hj).1
   have h1 : (l.flatMap cfc).length = l.length * 3 := hr.1
   rw [← a7, List.getElem?_take_of_lt (by omega)] at hj
   simp only [World.cell?, a3, Nat.zero_add]
   simpa using hj
  have hth : w.there g 0 (l.length * 3) := fun j hj => by
   have h3 : l.length * 3 ≤ cap * 3 := Nat.mul_le_mul_right 3 a4
   rw [Nat.zero_add]
   constructor
   ·simp only [World.cell?, a3]
    rw [Array.getElem?_eq_getElem (by omega)]
    rfl
   ·simp [World.frozen?, a3]
  refine (delf_any l g cap B C t w hrg hth a4 a2 hgl hB hC (by omega) hl).mono ?_
  rintro e w' ⟨n, rfl, ⟨ao, cap', e1, hc, hrr⟩, hb⟩
  refine ⟨_, rfl, ⟨ao, cap', e1, hc, fun q => ?_⟩, hb⟩
  obtain ⟨b, o, e2, e3⟩ := hrr q
  subst e2
  cases e1
  exact ⟨g, 0, rfl, a2, e3⟩
theorem findConfig_no (m : Im) (p : Ip) (t : Int) (k : List UInt8) (w : World) (hv : ImR w m p) (hw : Wf m 100000) (h : fC m.cf t k = none) : Calls Tryz.prog 42 #[imv m p, .int .i64 t, .string ⟨k.toArray⟩] w fun e w' => ∃ i : Nat, i ≤ m.cf.length ∧ (∀ b, insO (fun x : Cf => cmpC x t k) b m.cf = m.cf.take i ++ b :: m.cf.drop i) ∧ e = .returned (.tuple #[.int .i64 (i : Int), .bool false]) ∧ Below w.heap.size w w' :=
 (findConfig_any m p t k w hv hw.nc (stn_C hw.c t k)).mono fun _ _ q => q.no (stn_C hw.c t k) (fun x => keyC x) h
theorem findConfig_yes (m : Im) (p : Ip) (t : Int) (k : List UInt8) (w : World) (hv : ImR w m p) (hw : Wf m 100000) (b : Cf) (h : fC m.cf t k = some b) : Calls Tryz.prog 42 #[imv m p, .int .i64 t, .string ⟨k.toArray⟩] w fun e w' => ∃ (i : Nat) (hi : i < m.cf.length), m.cf[i] = b ∧ (∀ b, insO (fun x : Cf => cmpC x t k) b m.cf = m.cf.take i ++ b :: m.cf.drop (i + 1)) ∧ remO (fun x : Cf => cmpC x t k) m.cf = m.cf.take i ++ m.cf.drop (i + 1) ∧ (∀ x ∈ m.cf.take i, cmpC x t k < 0) ∧ (∀ x ∈ m.cf.drop (i + 1), 0 < cmpC x t k) ∧ e = .returned (.tuple #[.int .i64 (i : Int), .bool true]) ∧ Below w.heap.size w w' :=
 (findConfig_any m p t k w hv hw.nc (stn_C hw.c t k)).mono fun _ _ q => q.yes (stn_C hw.c t k) (fun x => keyC x) h
theorem putC_ins {l : List Cf} {c : Cf} : putC l c = insO (fun x : Cf => cmpC x c.tp c.ky) c l := rfl
theorem remC_rem {l : List Cf} {t : Int} {k : List UInt8} : (l.filter fun c => !idC t k c) = remO (fun x : Cf => cmpC x t k) l := by
 unfold remO
 congr 1
 funext x
 have := @cmpC_zero x t k
 cases h : idC t k x with
 | true => rw [decide_eq_true (this.2 h)]
 | false => rw [decide_eq_false (fun q => by rw [this.1 q] at h; cases h)]
theorem remQ_rem {l : List Tq} {id : Int} : (l.filter fun t => !idQ id t) = remO (fun x : Tq => cmpN x.id id) l := by
 unfold remO
 congr 1
 funext x
 by_cases h : x.id = id
 ·rw [decide_eq_true (cmpN_zero.2 h)]; simp [idQ, h]
 ·rw [decide_eq_false (fun q => h (cmpN_zero.1 q))]; simp [idQ, h]
end Go.Proofs.YtlggjgapdpkhiaaGreat
namespace Go.Proofs.YtlggjgapdpkhiaaGreat
open Go.RowKit
set_option maxRecDepth 100000
set_option maxHeartbeats 8000000
theorem Config_any (m : Im) (p : Ip) (t : Int) (K : List UInt8) (w : World) (hv : ImR w m p) (hw : Wf m 100000) : Calls Tryz.prog 15 #[imv m p, .int .i64 t, .string ⟨K.toArray⟩] w fun e w' => e = .returned (cfV (fC m.cf t K)) ∧ Below w.heap.size w w' := by
 cases hf : fC m.cf t K with
 | none =>
  have HC := Hd (fun W (h : Below w.heap.size w W) => findConfig_no m p t K W (hv.below h) hw hf)
  have HI0 : Hid (Bx (w.alloc (.cells (List.toArray [Value.slice p.ab m.br.length p.cb, .slice p.aq p.ts.length p.cq, .slice p.ac m.cf.length p.cc, .slice p.ad m.dn.length p.cd, .int .i64 m.la]) 30)) w.heap.size (iml m p) ∧ Below w.heap.size w (w.alloc (.cells (List.toArray [Value.slice p.ab m.br.length p.cb, .slice p.aq p.ts.length p.cq, .slice p.ac m.cf.length p.cc, .slice p.ad m.dn.length p.cd, .int .i64 m.la]) 30))) := Hd ⟨Bx.new w (iml m p) 30, bA w _⟩
  clear hv hw hf
  unfold imv cfV at *
  dsimp only
  go_enter Tryz.func15, Tryz.ntmps15
  go_upto_region 1 with fail
  generalize w.alloc (.cells (List.toArray [Value.slice p.ab m.br.length p.cb, .slice p.aq p.ts.length p.cq, .slice p.ac m.cf.length p.cc, .slice p.ad m.dn.length p.cd, .int .i64 m.la]) 30) = X at HI0 ⊢
  have HI := Hd HI0.out.1
  have HB := Hd HI0.out.2
  clear HI0
  obtain ⟨i0, i1, i2, i3, i4⟩ := HI.out.im
  go_wp2_with (first | (refine wpList_load_mid rfl _ _ rfl _ _ rfl _ _ HI.out.c Tryz.underlying30 rfl (by kernel_rfl) ?_) | (go_at_call 42; refine (HC.out _ HB.out).mono ?_; rintro e w1 ⟨i, _, _, rfl, hb1⟩; replace HB := Hd (bt HB.out hb1); replace HI := Hd (HI.out.below hb1); clear i0 i1 i2 i3 i4 hb1 HC; obtain ⟨i0, i1, i2, i3, i4⟩ := HI.out.im) | (go_at_call 43; refine (atC_no _ _ _).mono ?_; rintro e w2 ⟨rfl, hb2⟩; replace HB := Hd (bt HB.out hb2); clear hb2 i0 i1 i2 i3 i4))
  go_ret2
  exact ⟨rfl, HB.out.alloc HB.out.size _⟩
 | some c =>
  have HC := Hd (fun W (h : Below w.heap.size w W) => findConfig_yes m p t K W (hv.below h) hw c hf)
  have HA := Hd (fun W (h' : Below w.heap.size w W) i (hi : i < m.cf.length) => atC_yes m.cf p.ac _ p.cc i W rfl (hv.below h').c hi)
  have HI0 : Hid (Bx (w.alloc (.cells (List.toArray [Value.slice p.ab m.br.length p.cb, .slice p.aq p.ts.length p.cq, .slice p.ac m.cf.length p.cc, .slice p.ad m.dn.length p.cd, .int .i64 m.la]) 30)) w.heap.size (iml m p) ∧ Below w.heap.size w (w.alloc (.cells (List.toArray [Value.slice p.ab m.br.length p.cb, .slice p.aq p.ts.length p.cq, .slice p.ac m.cf.length p.cc, .slice p.ad m.dn.length p.cd, .int .i64 m.la]) 30))) := Hd ⟨Bx.new w (iml m p) 30, bA w _⟩
  clear hv hw hf
  unfold imv cfV cfc at *
  dsimp only
  go_enter Tryz.func15, Tryz.ntmps15
  go_upto_region 1 with fail
  generalize w.alloc (.cells (List.toArray [Value.slice p.ab m.br.length p.cb, .slice p.aq p.ts.length p.cq, .slice p.ac m.cf.length p.cc, .slice p.ad m.dn.length p.cd, .int .i64 m.la]) 30) = X at HI0 ⊢
  have HI := Hd HI0.out.1
  have HB := Hd HI0.out.2
  clear HI0
  obtain ⟨i0, i1, i2, i3, i4⟩ := HI.out.im
  go_wp2_with (first | (refine wpList_load_mid rfl _ _ rfl _ _ rfl _ _ HI.out.c Tryz.underlying30 rfl (by kernel_rfl) ?_) | (go_at_call 42; refine (HC.out _ HB.out).mono ?_; rintro e w1 ⟨i, hi, hib, _, _, _, _, rfl, hb1⟩; replace HB := Hd (bt HB.out hb1); replace HI := Hd (HI.out.below hb1); replace HA := Hd (HA.out w1 HB.out i hi); rw [hib] at HA; clear i0 i1 i2 i3 i4 hb1 HC hib hi; obtain ⟨i0, i1, i2, i3, i4⟩ := HI.out.im) | (go_at_call 43; refine HA.out.mono ?_; rintro e w2 ⟨rfl, hb2⟩; replace HB := Hd (bt HB.out hb2); clear hb2 HA i0 i1 i2 i3 i4))
  go_ret2
  exact ⟨rfl, HB.out.alloc HB.out.size _⟩
theorem rpartq_no (m : Im) (p : Ip) (id n : Int) (w : World) (hv : ImR w m p) (hl : p.ts.length ≤ 100000) (hn : ¬ (0 ≤ n ∧ n < ((tqOf p id).ps.length : Int))) : Calls Tryz.prog 14 #[imv m p, .int .i64 id, .int .i64 n] w fun e w' => e = .returned (.tuple #[.agg #[.slice none 0 0, .slice none 0 0, .int .i64 0, .int .i64 0, .slice none 0 0, .slice none 0 0], .bool false]) ∧ Below w.heap.size w w' := by
 have HTP := Hd (fun W (h : Below w.heap.size w W) => rtopic_any m p id W (hv.below h) hl)
 obtain ⟨b, hb⟩ : ∃ b, b = (p.ts.find? (idQ id)).isSome := ⟨_, rfl⟩
 rw [← hb] at HTP
 generalize tqOf p id = u at HTP hn
 clear hv hl hb
 unfold imv tpc at *
 cases b with
 | false =>
  clear hn
  have Hb : Hid (Bx ((w.alloc (.cells (List.toArray [Value.slice p.ab m.br.length p.cb, .slice p.aq p.ts.length p.cq, .slice p.ac m.cf.length p.cc, .slice p.ad m.dn.length p.cd, .int .i64 m.la]) 30)).alloc (.cells (List.toArray [Value.slice none 0 0, .slice none 0 0, .int .i64 0, .int .i64 0, .slice none 0 0, .slice none 0 0]) 44)) w.heap.size (iml m p) ∧ Bx ((w.alloc (.cells (List.toArray [Value.slice p.ab m.br.length p.cb, .slice p.aq p.ts.length p.cq, .slice p.ac m.cf.length p.cc, .slice p.ad m.dn.length p.cd, .int .i64 m.la]) 30)).alloc (.cells (List.toArray [Value.slice none 0 0, .slice none 0 0, .int .i64 0, .int .i64 0, .slice none 0 0, .slice none 0 0]) 44)) (w.heap.size + 1) [.slice none 0 0, .slice none 0 0, .int .i64 0, .int .i64 0, .slice none 0 0, .slice none 0 0] ∧ Below w.heap.size w ((w.alloc (.cells (List.toArray [Value.slice p.ab m.br.length p.cb, .slice p.aq p.ts.length p.cq, .slice p.ac m.cf.length p.cc, .slice p.ad m.dn.length p.cd, .int .i64 m.la]) 30)).alloc (.cells (List.toArray [Value.slice none 0 0, .slice none 0 0, .int .i64 0, .int .i64 0, .slice none 0 0, .slice none 0 0]) 44))) := Hd (Bx.mk2 w (iml m p) [.slice none 0 0, .slice none 0 0, .int .i64 0, .int .i64 0, .slice none 0 0, .slice none 0 0] 30 44 (Below.refl _ _))
  go_enter Tryz.func14, Tryz.ntmps14
  go_upto_region 1 with fail
  generalize (w.alloc (.cells (List.toArray [Value.slice p.ab m.br.length p.cb, .slice p.aq p.ts.length p.cq, .slice p.ac m.cf.length p.cc, .slice p.ad m.dn.length p.cd, .int .i64 m.la]) 30)).alloc (.cells (List.toArray [Value.slice none 0 0, .slice none 0 0, .int .i64 0, .int .i64 0, .slice none 0 0, .slice none 0 0]) 44) = X at Hb ⊢
  have HI := Hd Hb.out.1
  have HZ := Hd Hb.out.2.1
  have HB := Hd Hb.out.2.2
  clear Hb
  obtain ⟨i0, i1, i2, i3, i4⟩ := HI.out.im
  go_upto_region 2 with (first | (refine wpList_load_mid rfl _ _ rfl _ _ rfl _ _ HI.out.c Tryz.underlying30 rfl (by kernel_rfl) ?_) | (go_at_call 10; refine (HTP.out _ HB.out).mono ?_; rintro e w1 ⟨rfl, hb1⟩; replace HZ := Hd (HZ.out.below hb1); replace HB := Hd (bt HB.out hb1); clear hb1 HTP HI i0 i1 i2 i3 i4))
  have HX := Hd (Bx.new w1 [Value.int .i64 u.id, .string ⟨u.nm.toArray⟩, .slice u.a u.ps.length u.c] 38)
  replace HZ := Hd (HZ.out.below (bA w1 (.cells (List.toArray [Value.int .i64 u.id, .string ⟨u.nm.toArray⟩, .slice u.a u.ps.length u.c]) 38)))
  replace HB := Hd (bt HB.out (bA w1 (.cells (List.toArray [Value.int .i64 u.id, .string ⟨u.nm.toArray⟩, .slice u.a u.ps.length u.c]) 38)))
  generalize w1.alloc (.cells (List.toArray [Value.int .i64 u.id, .string ⟨u.nm.toArray⟩, .slice u.a u.ps.length u.c]) 38) = X2 at HX HZ HB ⊢
  generalize w1.heap.size = bT at HX ⊢
  obtain ⟨t0, t1, t2⟩ := HX.out.c3
  go_wp2_with (first | (refine wS rfl _ _ _ rfl _ _ rfl HZ.out [.slice none 0 0, .slice none 0 0, .int .i64 0, .int .i64 0, .slice none 0 0, .slice none 0 0] rfl rfl (by kernel_rfl) rfl ?_; intro W3 hz hk hb hp; have HR3 := Hd hz; have HB3 := Hd (hb _ _ (show w.heap.size ≤ w.heap.size + 1 by omega) HB.out); clear hz hk hb hp))
  obtain ⟨q0, q1, q2, q3, q4, q5⟩ := HR3.out.c6
  exact bodyPost_ret (v := .tuple #[.agg (List.toArray [.slice none 0 0, .slice none 0 0, .int .i64 0, .int .i64 0, .slice none 0 0, .slice none 0 0]), .bool false]) (by simp [results, Tryz.results14, go_sem, q0, q1, q2, q3, q4, q5]) rfl ⟨rfl, HB3.out⟩
 | true =>
  by_cases h0 : n < 0
  ·clear hn
   have Hb : Hid (Bx ((w.alloc (.cells (List.toArray [Value.slice p.ab m.br.length p.cb, .slice p.aq p.ts.length p.cq, .slice p.ac m.cf.length p.cc, .slice p.ad m.dn.length p.cd, .int .i64 m.la]) 30)).alloc (.cells (List.toArray [Value.slice none 0 0, .slice none 0 0, .int .i64 0, .int .i64 0, .slice none 0 0, .slice none 0 0]) 44)) w.heap.size (iml m p) ∧ Bx ((w.alloc (.cells (List.toArray [Value.slice p.ab m.br.length p.cb, .slice p.aq p.ts.length p.cq, .slice p.ac m.cf.length p.cc, .slice p.ad m.dn.length p.cd, .int .i64 m.la]) 30)).alloc (.cells (List.toArray [Value.slice none 0 0, .slice none 0 0, .int .i64 0, .int .i64 0, .slice none 0 0, .slice none 0 0]) 44)) (w.heap.size + 1) [.slice none 0 0, .slice none 0 0, .int .i64 0, .int .i64 0, .slice none 0 0, .slice none 0 0] ∧ Below w.heap.size w ((w.alloc (.cells (List.toArray [Value.slice p.ab m.br.length p.cb, .slice p.aq p.ts.length p.cq, .slice p.ac m.cf.length p.cc, .slice p.ad m.dn.length p.cd, .int .i64 m.la]) 30)).alloc (.cells (List.toArray [Value.slice none 0 0, .slice none 0 0, .int .i64 0, .int .i64 0, .slice none 0 0, .slice none 0 0]) 44))) := Hd (Bx.mk2 w (iml m p) [.slice none 0 0, .slice none 0 0, .int .i64 0, .int .i64 0, .slice none 0 0, .slice none 0 0] 30 44 (Below.refl _ _))
   go_enter Tryz.func14, Tryz.ntmps14
   go_upto_region 1 with fail
   generalize (w.alloc (.cells (List.toArray [Value.slice p.ab m.br.length p.cb, .slice p.aq p.ts.length p.cq, .slice p.ac m.cf.length p.cc, .slice p.ad m.dn.length p.cd, .int .i64 m.la]) 30)).alloc (.cells (List.toArray [Value.slice none 0 0, .slice none 0 0, .int .i64 0, .int .i64 0, .slice none 0 0, .slice none 0 0]) 44) = X at Hb ⊢
   have HI := Hd Hb.out.1
   have HZ := Hd Hb.out.2.1
   have HB := Hd Hb.out.2.2
   clear Hb
   obtain ⟨i0, i1, i2, i3, i4⟩ := HI.out.im
   go_upto_region 2 with (first | (refine wpList_load_mid rfl _ _ rfl _ _ rfl _ _ HI.out.c Tryz.underlying30 rfl (by kernel_rfl) ?_) | (go_at_call 10; refine (HTP.out _ HB.out).mono ?_; rintro e w1 ⟨rfl, hb1⟩; replace HZ := Hd (HZ.out.below hb1); replace HB := Hd (bt HB.out hb1); clear hb1 HTP HI i0 i1 i2 i3 i4))
   have HX := Hd (Bx.new w1 [Value.int .i64 u.id, .string ⟨u.nm.toArray⟩, .slice u.a u.ps.length u.c] 38)
   replace HZ := Hd (HZ.out.below (bA w1 (.cells (List.toArray [Value.int .i64 u.id, .string ⟨u.nm.toArray⟩, .slice u.a u.ps.length u.c]) 38)))
   replace HB := Hd (bt HB.out (bA w1 (.cells (List.toArray [Value.int .i64 u.id, .string ⟨u.nm.toArray⟩, .slice u.a u.ps.length u.c]) 38)))
   generalize w1.alloc (.cells (List.toArray [Value.int .i64 u.id, .string ⟨u.nm.toArray⟩, .slice u.a u.ps.length u.c]) 38) = X2 at HX HZ HB ⊢
   generalize w1.heap.size = bT at HX ⊢
   obtain ⟨t0, t1, t2⟩ := HX.out.c3
   go_wp2_with (first | (refine wS rfl _ _ _ rfl _ _ rfl HZ.out [.slice none 0 0, .slice none 0 0, .int .i64 0, .int .i64 0, .slice none 0 0, .slice none 0 0] rfl rfl (by kernel_rfl) rfl ?_; intro W3 hz hk hb hp; have HR3 := Hd hz; have HB3 := Hd (hb _ _ (show w.heap.size ≤ w.heap.size + 1 by omega) HB.out); clear hz hk hb hp))
   obtain ⟨q0, q1, q2, q3, q4, q5⟩ := HR3.out.c6
   exact bodyPost_ret (v := .tuple #[.agg (List.toArray [.slice none 0 0, .slice none 0 0, .int .i64 0, .int .i64 0, .slice none 0 0, .slice none 0 0]), .bool false]) (by simp [results, Tryz.results14, go_sem, q0, q1, q2, q3, q4, q5]) rfl ⟨rfl, HB3.out⟩
  ·have h1 : (u.ps.length : Int) ≤ n := by omega
   clear hn
   have Hb : Hid (Bx ((w.alloc (.cells (List.toArray [Value.slice p.ab m.br.length p.cb, .slice p.aq p.ts.length p.cq, .slice p.ac m.cf.length p.cc, .slice p.ad m.dn.length p.cd, .int .i64 m.la]) 30)).alloc (.cells (List.toArray [Value.slice none 0 0, .slice none 0 0, .int .i64 0, .int .i64 0, .slice none 0 0, .slice none 0 0]) 44)) w.heap.size (iml m p) ∧ Bx ((w.alloc (.cells (List.toArray [Value.slice p.ab m.br.length p.cb, .slice p.aq p.ts.length p.cq, .slice p.ac m.cf.length p.cc, .slice p.ad m.dn.length p.cd, .int .i64 m.la]) 30)).alloc (.cells (List.toArray [Value.slice none 0 0, .slice none 0 0, .int .i64 0, .int .i64 0, .slice none 0 0, .slice none 0 0]) 44)) (w.heap.size + 1) [.slice none 0 0, .slice none 0 0, .int .i64 0, .int .i64 0, .slice none 0 0, .slice none 0 0] ∧ Below w.heap.size w ((w.alloc (.cells (List.toArray [Value.slice p.ab m.br.length p.cb, .slice p.aq p.ts.length p.cq, .slice p.ac m.cf.length p.cc, .slice p.ad m.dn.length p.cd, .int .i64 m.la]) 30)).alloc (.cells (List.toArray [Value.slice none 0 0, .slice none 0 0, .int .i64 0, .int .i64 0, .slice none 0 0, .slice none 0 0]) 44))) := Hd (Bx.mk2 w (iml m p) [.slice none 0 0, .slice none 0 0, .int .i64 0, .int .i64 0, .slice none 0 0, .slice none 0 0] 30 44 (Below.refl _ _))
   go_enter Tryz.func14, Tryz.ntmps14
   go_upto_region 1 with fail
   generalize (w.alloc (.cells (List.toArray [Value.slice p.ab m.br.length p.cb, .slice p.aq p.ts.length p.cq, .slice p.ac m.cf.length p.cc, .slice p.ad m.dn.length p.cd, .int .i64 m.la]) 30)).alloc (.cells (List.toArray [Value.slice none 0 0, .slice none 0 0, .int .i64 0, .int .i64 0, .slice none 0 0, .slice none 0 0]) 44) = X at Hb ⊢
   have HI := Hd Hb.out.1
   have HZ := Hd Hb.out.2.1
   have HB := Hd Hb.out.2.2
   clear Hb
   obtain ⟨i0, i1, i2, i3, i4⟩ := HI.out.im
   go_upto_region 2 with (first | (refine wpList_load_mid rfl _ _ rfl _ _ rfl _ _ HI.out.c Tryz.underlying30 rfl (by kernel_rfl) ?_) | (go_at_call 10; refine (HTP.out _ HB.out).mono ?_; rintro e w1 ⟨rfl, hb1⟩; replace HZ := Hd (HZ.out.below hb1); replace HB := Hd (bt HB.out hb1); clear hb1 HTP HI i0 i1 i2 i3 i4))
   have HX := Hd (Bx.new w1 [Value.int .i64 u.id, .string ⟨u.nm.toArray⟩, .slice u.a u.ps.length u.c] 38)
   replace HZ := Hd (HZ.out.below (bA w1 (.cells (List.toArray [Value.int .i64 u.id, .string ⟨u.nm.toArray⟩, .slice u.a u.ps.length u.c]) 38)))
   replace HB := Hd (bt HB.out (bA w1 (.cells (List.toArray [Value.int .i64 u.id, .string ⟨u.nm.toArray⟩, .slice u.a u.ps.length u.c]) 38)))
   generalize w1.alloc (.cells (List.toArray [Value.int .i64 u.id, .string ⟨u.nm.toArray⟩, .slice u.a u.ps.length u.c]) 38) = X2 at HX HZ HB ⊢
   generalize w1.heap.size = bT at HX ⊢
   obtain ⟨t0, t1, t2⟩ := HX.out.c3
   go_wp2_with (first | (refine wS rfl _ _ _ rfl _ _ rfl HZ.out [.slice none 0 0, .slice none 0 0, .int .i64 0, .int .i64 0, .slice none 0 0, .slice none 0 0] rfl rfl (by kernel_rfl) rfl ?_; intro W3 hz hk hb hp; have HR3 := Hd hz; have HB3 := Hd (hb _ _ (show w.heap.size ≤ w.heap.size + 1 by omega) HB.out); clear hz hk hb hp))
   obtain ⟨q0, q1, q2, q3, q4, q5⟩ := HR3.out.c6
   exact bodyPost_ret (v := .tuple #[.agg (List.toArray [.slice none 0 0, .slice none 0 0, .int .i64 0, .int .i64 0, .slice none 0 0, .slice none 0 0]), .bool false]) (by simp [results, Tryz.results14, go_sem, q0, q1, q2, q3, q4, q5]) rfl ⟨rfl, HB3.out⟩
theorem rpartq_yes (m : Im) (p : Ip) (id n : Int) (w : World) (hv : ImR w m p) (hl : p.ts.length ≤ 100000) (i : Nat) (hi : i < (tqOf p id).ps.length) (hin : n = i) : Calls Tryz.prog 14 #[imv m p, .int .i64 id, .int .i64 n] w fun e w' => e = .returned (.tuple #[.agg (ptc (tqOf p id).ps[i]).toArray, .bool true]) ∧ Below w.heap.size w w' := by
 have HTP := Hd (fun W (h : Below w.heap.size w W) => rtopic_any m p id W (hv.below h) hl)
 have hb : (p.ts.find? (idQ id)).isSome = true := by
  unfold tqOf at hi
  cases hf : p.ts.find? (idQ id) with
  | none => rw [hf] at hi; simp at hi
  | some x => rfl
 have htm : tqOf p id ∈ p.ts := by
  unfold tqOf
  cases hf : p.ts.find? (idQ id) with
  | none => rw [hf] at hb; simp at hb
  | some x => exact List.mem_of_find?_eq_some hf
 rw [hb] at HTP
 have HTR := Hd (fun W (h : Below w.heap.size w W) => ((hv.below h).q _ htm).ps)
 generalize tqOf p id = u at HTP HTR hi
 clear hv hl hb htm
 subst hin
 obtain ⟨pb, po, hpa, _⟩ := (HTR.out w (Below.refl _ _)).rg (show 0 < u.ps.length by omega)
 have HEL : Hid (∀ W, Below w.heap.size w W → W.rangeAt pb (po + i * 6) (ptc u.ps[i])) := Hd (fun W h => by
  have hh := HTR.out W h
  rw [hpa] at hh
  exact hh.at encP hi)
 have HPA := Hd hpa
 have hlI : (i : Int) < (u.ps.length : Int) := by omega
 have hge : ¬ (u.ps.length : Int) ≤ (i : Int) := by omega
 have h0 : ¬ (i : Int) < 0 := by omega
 generalize u.ps[i] = x at HEL
 clear hpa HTR hi
 unfold imv tpc at *
 unfold ptc at *
 have Hb : Hid (Bx ((w.alloc (.cells (List.toArray [Value.slice p.ab m.br.length p.cb, .slice p.aq p.ts.length p.cq, .slice p.ac m.cf.length p.cc, .slice p.ad m.dn.length p.cd, .int .i64 m.la]) 30)).alloc (.cells (List.toArray [Value.slice none 0 0, .slice none 0 0, .int .i64 0, .int .i64 0, .slice none 0 0, .slice none 0 0]) 44)) w.heap.size (iml m p) ∧ Bx ((w.alloc (.cells (List.toArray [Value.slice p.ab m.br.length p.cb, .slice p.aq p.ts.length p.cq, .slice p.ac m.cf.length p.cc, .slice p.ad m.dn.length p.cd, .int .i64 m.la]) 30)).alloc (.cells (List.toArray [Value.slice none 0 0, .slice none 0 0, .int .i64 0, .int .i64 0, .slice none 0 0, .slice none 0 0]) 44)) (w.heap.size + 1) [.slice none 0 0, .slice none 0 0, .int .i64 0, .int .i64 0, .slice none 0 0, .slice none 0 0] ∧ Below w.heap.size w ((w.alloc (.cells (List.toArray [Value.slice p.ab m.br.length p.cb, .slice p.aq p.ts.length p.cq, .slice p.ac m.cf.length p.cc, .slice p.ad m.dn.length p.cd, .int .i64 m.la]) 30)).alloc (.cells (List.toArray [Value.slice none 0 0, .slice none 0 0, .int .i64 0, .int .i64 0, .slice none 0 0, .slice none 0 0]) 44))) := Hd (Bx.mk2 w (iml m p) [.slice none 0 0, .slice none 0 0, .int .i64 0, .int .i64 0, .slice none 0 0, .slice none 0 0] 30 44 (Below.refl _ _))
 go_enter Tryz.func14, Tryz.ntmps14
 go_upto_region 1 with fail
 generalize (w.alloc (.cells (List.toArray [Value.slice p.ab m.br.length p.cb, .slice p.aq p.ts.length p.cq, .slice p.ac m.cf.length p.cc, .slice p.ad m.dn.length p.cd, .int .i64 m.la]) 30)).alloc (.cells (List.toArray [Value.slice none 0 0, .slice none 0 0, .int .i64 0, .int .i64 0, .slice none 0 0, .slice none 0 0]) 44) = X at Hb ⊢
 have HI := Hd Hb.out.1
 have HZ := Hd Hb.out.2.1
 have HB := Hd Hb.out.2.2
 clear Hb
 obtain ⟨i0, i1, i2, i3, i4⟩ := HI.out.im
 go_upto_region 2 with (first | (refine wpList_load_mid rfl _ _ rfl _ _ rfl _ _ HI.out.c Tryz.underlying30 rfl (by kernel_rfl) ?_) | (go_at_call 10; refine (HTP.out _ HB.out).mono ?_; rintro e w1 ⟨rfl, hb1⟩; replace HZ := Hd (HZ.out.below hb1); replace HB := Hd (bt HB.out hb1); clear hb1 HTP HI i0 i1 i2 i3 i4))
 have HX := Hd (Bx.new w1 [Value.int .i64 u.id, .string ⟨u.nm.toArray⟩, .slice u.a u.ps.length u.c] 38)
 replace HZ := Hd (HZ.out.below (bA w1 (.cells (List.toArray [Value.int .i64 u.id, .string ⟨u.nm.toArray⟩, .slice u.a u.ps.length u.c]) 38)))
 replace HB := Hd (bt HB.out (bA w1 (.cells (List.toArray [Value.int .i64 u.id, .string ⟨u.nm.toArray⟩, .slice u.a u.ps.length u.c]) 38)))
 generalize w1.alloc (.cells (List.toArray [Value.int .i64 u.id, .string ⟨u.nm.toArray⟩, .slice u.a u.ps.length u.c]) 38) = X2 at HX HZ HB ⊢
 generalize w1.heap.size = bT at HX ⊢
 obtain ⟨t0, t1, t2⟩ := HX.out.c3
 rw [HPA.out] at t2
 have HEV := Hd (HEL.out X2 HB.out)
 go_wp2_with (first | (refine wpList_load_mid rfl _ _ rfl _ _ rfl _ _ HEV.out Tryz.underlying44 rfl (by kernel_rfl) ?_) | (refine wS rfl _ _ _ rfl _ _ rfl HZ.out [.slice x.2.a0 x.1.ids.length x.2.c0, .slice x.2.a1 x.1.isr.length x.2.c1, .int .i64 x.1.ld, .int .i64 x.1.ep, .slice x.2.a2 x.1.ad.length x.2.c2, .slice x.2.a3 x.1.dr.length x.2.c3] rfl rfl (by kernel_rfl) rfl ?_; intro W3 hz hk hb hp; have HR3 := Hd hz; have HB3 := Hd (hb _ _ (show w.heap.size ≤ w.heap.size + 1 by omega) HB.out); clear hz hk hb hp))
 obtain ⟨q0, q1, q2, q3, q4, q5⟩ := HR3.out.c6
 exact bodyPost_ret (v := .tuple #[.agg (List.toArray [.slice x.2.a0 x.1.ids.length x.2.c0, .slice x.2.a1 x.1.isr.length x.2.c1, .int .i64 x.1.ld, .int .i64 x.1.ep, .slice x.2.a2 x.1.ad.length x.2.c2, .slice x.2.a3 x.1.dr.length x.2.c3]), .bool true]) (by simp [results, Tryz.results14, go_sem, q0, q1, q2, q3, q4, q5]) rfl ⟨rfl, HB3.out⟩
end Go.Proofs.YtlggjgapdpkhiaaGreat
namespace Go.Proofs.YtlggjgapdpkhiaaGreat
open Go.RowKit
theorem wpList_app1 {α : Type} {f : α → List Value} {k : Nat} {P : Program} {S T : TypeId} (hi : Tyi P S T k) (hf : Enc f k) {ops : Array Oper} {rest : List Oper} {o : Oper} {a : Act} {Q : Exit → Act → World → Prop} (w : World) (hg : o.guard = none) (y z : Operand) (ho : o.op = .call { callee := .builtin .append, args := #[y, z], argTypes := #[S, S] }) (B : Nat) (v : Value) (l : List α) (hy : a.eval y = v) (hown : Ro f k T w B v l) (hB : B ≤ w.heap.size) (x : α) (g c : Nat) (hz : a.eval z = .slice (some ⟨g, 0, none⟩) 1 c) (hc : 1 ≤ c) (hq : w.rangeAt g 0 (f x)) (hn : l.length ≤ 1000000000)
  (h : ∀ v' w', Ro f k T w' B v' (l ++ [x]) → Below B w w' → wpList P ops Q rest (a.put o.dst v') w') : wpList P ops Q (o :: rest) a w :=
 wR hi hf w hg y z ho B v l hy hown hB _ [x] hz ⟨some ⟨g, 0, none⟩, c, rfl, hc, fun _ => ⟨g, 0, rfl, by simpa using hq⟩⟩ (by simp; omega) (fun v' w' h1 _ h3 => h v' w' h1 h3)
theorem Bx.blk0 {W W' : World} {n : Nat} {cs : List Value} (h : Bx W n cs) (hs : W.heap.size ≤ W'.heap.size) (e : W'.heap[n]? = W.heap[n]?) : Bx W' n cs :=
 ⟨Nat.lt_of_lt_of_le h.l hs, fun j u hu => by
  have := h.c j u hu
  rw [← this]
  exact World.cell?_of_block e, fun j hj => (World.frozen?_of_block e).trans (h.f j hj)⟩
theorem Bx.lowB {W W' : World} {n B : Nat} {cs : List Value} (h : Bx W n cs) (hb : Below B W W') (hn : n < B) : Bx W' n cs := h.blk0 hb.size (hb.block n hn)
theorem fold_get {α : Type} {l : List α} {k : Nat} (hk : k < l.length) (c : α → Int) (b : α) : (l.take (k + 1)).foldl (stepO c b) ([], false) = stepO c b ((l.take k).foldl (stepO c b) ([], false)) l[k] := by
 rw [List.take_succ_eq_append_getElem hk, List.foldl_append]
 rfl
structure Pb (w W : World) (b : Bk) (vo : Value) (s : List Bk) : Prop where
 x : Bx W w.heap.size (bkc b)
 o : Ro bkc 5 33 W (w.heap.size + 1) vo s
 b : Below w.heap.size w W
theorem Pb.below {w W W' : World} {b : Bk} {vo : Value} {s : List Bk} (h : Pb w W b vo s) (hb : Below W.heap.size W W') : Pb w W' b vo s := ⟨h.x.below hb, h.o.below hb, bt h.b hb⟩
theorem Pb.drewN {w W : World} {b : Bk} {vo : Value} {s : List Bk} (h : Pb w W b vo s) (n : Nat) : Pb w (W.drewN n) b vo s := ⟨h.x.drewN n, h.o, below_drewN h.b n⟩
theorem Pb.app {w W W' : World} {b : Bk} {vo v' : Value} {s s' : List Bk} (h : Pb w W b vo s) (ho : Ro bkc 5 33 W' (w.heap.size + 1) v' s') (hb : Below (w.heap.size + 1) W W') : Pb w W' b v' s' := ⟨h.x.lowB hb (Nat.lt_succ_self _), ho, h.b.trans (hb.mono (Nat.le_succ _))⟩
theorem stepO_len {α : Type} (c : α → Int) (b : α) : ∀ (l : List α), (l.foldl (stepO c b) ([], false)).1.length ≤ 2 * l.length := by
 intro l
 suffices h : ∀ (l : List α) (s : List α × Bool), (l.foldl (stepO c b) s).1.length ≤ s.1.length + 2 * l.length by simpa using h l ([], false)
 intro l
 induction l with
 | nil => intro s; simp
 | cons x l ih =>
  intro s
  rw [List.foldl_cons]
  refine Nat.le_trans (ih _) ?_
  unfold stepO
  simp only [List.length_append, List.length_cons]
  split <;> split <;> simp <;> omega
set_option maxRecDepth 100000 in
set_option maxHeartbeats 16000000 in
theorem rputb_any (l : List Bk) (v : Value) (b : Bk) (w : World) (hv : Rs bkc w v l) (hl : l.length ≤ 100000) (hs : l.Pairwise fun x y => x.id < y.id) : Calls Tryz.prog 106 #[v, .agg (bkc b).toArray] w fun e w' => ∃ v', e = .returned v' ∧ Ro bkc 5 33 w' w.heap.size v' (putB l b) ∧ Below w.heap.size w w' := by
 have HV := Hd (fun W (h : Below w.heap.size w W) => hv.below h)
 have HP0 : Hid (Pb w (w.alloc (.cells (bkc b).toArray 33)) b (.slice none 0 0) []) := Hd ⟨Bx.new w _ _, ro_nil _ _ _ _ _, bA w _⟩
 have Ho : Hid (putB l b = if (l.foldl (stepO (fun x : Bk => cmpN x.id b.id) b) ([], false)).2 then (l.foldl (stepO (fun x : Bk => cmpN x.id b.id) b) ([], false)).1 else (l.foldl (stepO (fun x : Bk => cmpN x.id b.id) b) ([], false)).1 ++ [b]) := Hd (by
  rw [fold_O _ b l (stn_B hs b.id)]
  exact putB_ins rfl)
 obtain ⟨R, hR⟩ : ∃ R, R = putB l b := ⟨_, rfl⟩
 rw [← hR]
 rw [← hR] at Ho
 clear hR hs
 obtain ⟨ao, cap, rfl⟩ := hv.form
 clear hv
 unfold bkc at HP0 ⊢
 go_enter Tryz.func106, Tryz.ntmps106
 go_upto_region 4 with fail
 generalize w.alloc (.cells (List.toArray [Value.int .i64 b.id, .int .i64 b.ep, .string ⟨b.rk.toArray⟩, .bool b.fe, .bool b.lv]) 33) = X at HP0 ⊢
 go_loopw [5, 6, 7] (fun o d i W => ∃ (k : Nat) (s : List Bk × Bool) (vo : Value), k ≤ l.length ∧ i = .int .i64 (k : Int) ∧ d = .bool s.2 ∧ vo = o ∧ Hid (s = (l.take k).foldl (stepO (fun x : Bk => cmpN x.id b.id) b) ([], false)) ∧ Pb w W b vo s.1) (fun _ _ i _ => l.length - (ivQ i).toNat)
 case atStart => exact ⟨0, ([], false), _, Nat.zero_le _, rfl, rfl, rfl, Hd rfl, HP0.out⟩
 case round =>
  clear HP0
  obtain ⟨k, s, vo, hk, rfl, rfl, rfl, HS, hp⟩ := hrel
  have HP := Hd hp
  clear hp
  have HLN : Hid (s.1.length ≤ 200000) := Hd (by
   have := stepO_len (fun x : Bk => cmpN x.id b.id) b (l.take k)
   rw [← HS.out] at this
   have h2 : (l.take k).length ≤ k := by rw [List.length_take]; omega
   omega)
  by_cases hlt : k < l.length
  ·have hltI : (k : Int) < (l.length : Int) := by omega
   obtain ⟨bb, ob, rfl, hrg⟩ := (HV.out wr HP.out.b).rg (show 0 < l.length by omega)
   have HRG := Hd hrg
   have HST := Hd (fold_get hlt (fun x : Bk => cmpN x.id b.id) b)
   rw [← HS.out] at HST
   have HXA := Hd (fun W (h : Below w.heap.size w W) => (HV.out W h).at encB hlt)
   have HC := Hd (fm_at encB HRG.out hlt)
   clear hrg HRG HS
   generalize l[k] = x at HST HXA HC
   obtain ⟨sl, sb⟩ := s
   dsimp only at *
   unfold bkc at HC HXA
   have c0 : wr.cell? ⟨bb, ob + k * 5, none⟩ = some (.int .i64 x.id) := HC.out 0 _ rfl
   have b0 := HP.out.x.at 0 _ rfl
   have HL1 : Hid (sl.length ≤ 1000000000) := Hd (by have := HLN.out; omega)
   have HL2 : Hid ((sl ++ [b]).length ≤ 1000000000) := Hd (by have := HLN.out; rw [List.length_append]; simp only [List.length_cons, List.length_nil]; omega)
   cases sb with
   | true =>
    have HST2 : Hid ((l.take (k + 1)).foldl (stepO (fun x : Bk => cmpN x.id b.id) b) ([], false) = (sl ++ (if x.id = b.id then [] else [x]), true)) := Hd (by
     rw [HST.out]
     unfold stepO
     by_cases hx : x.id = b.id
     ·rw [if_pos hx, if_pos (cmpN_zero.2 hx)]; rfl
     ·rw [if_neg hx, if_neg (fun q => hx (cmpN_zero.1 q))]; rfl)
    go_wp2_with fail
    go_quiet (fail)
    have HPQ := Hd (HP.out.drewN nq)
    have c0 : (wr.drewN nq).cell? ⟨bb, ob + k * 5, none⟩ = some (.int .i64 x.id) := HC.out 0 _ rfl
    have b0 := HPQ.out.x.at 0 _ rfl
    generalize wr.drewN nq = V at HPQ c0 b0 ⊢
    by_cases hx : x.id = b.id
    ·have n2 : (x.id != b.id) = false := by simp [hx]
     have HSF : Hid ((sl, true) = (l.take (k + 1)).foldl (stepO (fun x : Bk => cmpN x.id b.id) b) ([], false)) := Hd (by rw [HST2.out, if_pos hx, List.append_nil])
     clear hx
     (try go_wp2_with fail)
     go_quiet (fail)
     have HPR := Hd (HPQ.out.drewN nq)
     clear c0 b0
     go_wp2_with fail
     go_roundw
     case rel => exact ⟨k + 1, (sl, true), _, by omega, by go_num, rfl, rfl, HSF, HPR.out⟩
     case measure => simp [ivQ]; omega
    ·have n2 : (x.id != b.id) = true := by simpa using hx
     have HSF : Hid ((sl ++ [x], true) = (l.take (k + 1)).foldl (stepO (fun x : Bk => cmpN x.id b.id) b) ([], false)) := Hd (by rw [HST2.out, if_neg hx])
     clear hx
     (try go_wp2_with fail)
     go_quiet (fail)
     have HPR := Hd (HPQ.out.drewN nq)
     clear c0 b0
     generalize V.drewN nq = V3 at HPR ⊢
     have HCX := Hd (HXA.out V3 HPR.out.b)
     have HB3 := Hd (HPR.out.below (bA V3 (.cells (List.toArray [Value.int .i64 x.id, .int .i64 x.ep, .string ⟨x.rk.toArray⟩, .bool x.fe, .bool x.lv]) 33)))
     have HC3 := Hd (Bx.new V3 [.int .i64 x.id, .int .i64 x.ep, .string ⟨x.rk.toArray⟩, .bool x.fe, .bool x.lv] 33).c
     go_wp2_with (first | (refine wpList_load_mid rfl _ _ rfl _ _ rfl _ _ HCX.out Tryz.underlying33 rfl (by kernel_rfl) ?_) | (refine wpList_app1 tyiB encB _ rfl _ _ rfl (w.heap.size + 1) _ _ rfl HB3.out.o (by have := HB3.out.x.l; omega) x _ 1 rfl (Nat.le_refl _) (HC3.out) HL1.out ?_; intro v' w' hov hbe; have HPX := Hd (HB3.out.app hov hbe); clear hov hbe))
     go_roundw
     case rel => exact ⟨k + 1, (sl ++ [x], true), _, by omega, by go_num, rfl, rfl, HSF, HPX.out⟩
     case measure => simp [ivQ]; omega
   | false =>
    by_cases hlt2 : x.id < b.id
    ·have HST2 : Hid ((l.take (k + 1)).foldl (stepO (fun x : Bk => cmpN x.id b.id) b) ([], false) = (sl ++ (if x.id = b.id then [] else [x]), false)) := Hd (by
      rw [HST.out]
      unfold stepO
      have h1 : cmpN x.id b.id < 0 := cmpN_lt.2 hlt2
      have h2 : decide (0 ≤ cmpN x.id b.id) = false := decide_eq_false (by omega)
      have h3 : ¬ cmpN x.id b.id = 0 := by omega
      have h4 : ¬ x.id = b.id := by omega
      simp [h2, h3, h4])
     have n1 : ¬ b.id ≤ x.id := by omega
     have hne : ¬ x.id = b.id := by omega
     clear hlt2
     go_wp2_with fail
     go_quiet (fail)
     have HPQ := Hd (HP.out.drewN nq)
     have c0 : (wr.drewN nq).cell? ⟨bb, ob + k * 5, none⟩ = some (.int .i64 x.id) := HC.out 0 _ rfl
     have b0 := HPQ.out.x.at 0 _ rfl
     generalize wr.drewN nq = V at HPQ c0 b0 ⊢
     have n2 : (x.id != b.id) = true := by simpa using hne
     have HSF : Hid ((sl ++ [x], false) = (l.take (k + 1)).foldl (stepO (fun x : Bk => cmpN x.id b.id) b) ([], false)) := Hd (by rw [HST2.out, if_neg hne])
     clear hne
     (try go_wp2_with fail)
     go_quiet (fail)
     have HPR := Hd (HPQ.out.drewN nq)
     clear c0 b0
     generalize V.drewN nq = V3 at HPR ⊢
     have HCX := Hd (HXA.out V3 HPR.out.b)
     have HB3 := Hd (HPR.out.below (bA V3 (.cells (List.toArray [Value.int .i64 x.id, .int .i64 x.ep, .string ⟨x.rk.toArray⟩, .bool x.fe, .bool x.lv]) 33)))
     have HC3 := Hd (Bx.new V3 [.int .i64 x.id, .int .i64 x.ep, .string ⟨x.rk.toArray⟩, .bool x.fe, .bool x.lv] 33).c
     go_wp2_with (first | (refine wpList_load_mid rfl _ _ rfl _ _ rfl _ _ HCX.out Tryz.underlying33 rfl (by kernel_rfl) ?_) | (refine wpList_app1 tyiB encB _ rfl _ _ rfl (w.heap.size + 1) _ _ rfl HB3.out.o (by have := HB3.out.x.l; omega) x _ 1 rfl (Nat.le_refl _) (HC3.out) HL1.out ?_; intro v' w' hov hbe; have HPX := Hd (HB3.out.app hov hbe); clear hov hbe))
     go_roundw
     case rel => exact ⟨k + 1, (sl ++ [x], false), _, by omega, by go_num, rfl, rfl, HSF, HPX.out⟩
     case measure => simp [ivQ]; omega
    ·have HST2 : Hid ((l.take (k + 1)).foldl (stepO (fun x : Bk => cmpN x.id b.id) b) ([], false) = (sl ++ [b] ++ (if x.id = b.id then [] else [x]), true)) := Hd (by
      rw [HST.out]
      unfold stepO
      have h1 : ¬ cmpN x.id b.id < 0 := fun q => hlt2 (cmpN_lt.1 q)
      have h2 : decide (0 ≤ cmpN x.id b.id) = true := decide_eq_true (by omega)
      by_cases hx : x.id = b.id
      ·rw [if_pos hx, if_pos (cmpN_zero.2 hx)]
       simp [h2]
      ·rw [if_neg hx, if_neg (fun q => hx (cmpN_zero.1 q))]
       simp [h2])
     have n1 : b.id ≤ x.id := by omega
     clear hlt2
     go_wp2_with fail
     go_quiet (fail)
     have HPQ := Hd (HP.out.drewN nq)
     generalize wr.drewN nq = V at HPQ ⊢
     have HXC : Hid (V.rangeAt w.heap.size 0 [.int .i64 b.id, .int .i64 b.ep, .string ⟨b.rk.toArray⟩, .bool b.fe, .bool b.lv]) := Hd HPQ.out.x.c
     have HB2 := Hd (HPQ.out.below (bA V (.cells (List.toArray [Value.int .i64 b.id, .int .i64 b.ep, .string ⟨b.rk.toArray⟩, .bool b.fe, .bool b.lv]) 33)))
     have HC2 := Hd (Bx.new V [.int .i64 b.id, .int .i64 b.ep, .string ⟨b.rk.toArray⟩, .bool b.fe, .bool b.lv] 33).c
     go_upto_region 9 with (first | (refine wpList_load_mid rfl _ _ rfl _ _ rfl _ _ HXC.out Tryz.underlying33 rfl (by kernel_rfl) ?_) | (refine wpList_app1 tyiB encB _ rfl _ _ rfl (w.heap.size + 1) _ _ rfl HB2.out.o (by have := HB2.out.x.l; omega) b _ 1 rfl (Nat.le_refl _) (HC2.out) HL1.out ?_; intro v' w' hov hbe; have HPA := Hd (HB2.out.app hov hbe); clear hov hbe))
     clear HB2 HC2 HXC n1 HPQ
     have HPQ := Hd HPA.out
     clear HPA
     generalize w' = V2 at HPQ ⊢
     have c0 : V2.cell? ⟨bb, ob + k * 5, none⟩ = some (.int .i64 x.id) := by
      obtain ⟨bb', ob', e, hr⟩ : ∃ bb' ob', (some (⟨bb, ob, none⟩ : Addr)) = some ⟨bb', ob', none⟩ ∧ V2.rangeAt bb' (ob' + k * 5) [.int .i64 x.id, .int .i64 x.ep, .string ⟨x.rk.toArray⟩, .bool x.fe, .bool x.lv] := ⟨_, _, rfl, HXA.out V2 HPQ.out.b⟩
      cases e
      exact hr 0 _ rfl
     have b0 := HPQ.out.x.at 0 _ rfl
     by_cases hx : x.id = b.id
     ·have n2 : (x.id != b.id) = false := by simp [hx]
      have HSF : Hid ((sl ++ [b], true) = (l.take (k + 1)).foldl (stepO (fun x : Bk => cmpN x.id b.id) b) ([], false)) := Hd (by rw [HST2.out, if_pos hx, List.append_nil])
      clear hx
      (try go_wp2_with fail)
      go_quiet (fail)
      have HPR := Hd (HPQ.out.drewN nq)
      clear c0 b0
      go_wp2_with fail
      go_roundw
      case rel => exact ⟨k + 1, (sl ++ [b], true), _, by omega, by go_num, rfl, rfl, HSF, HPR.out⟩
      case measure => simp [ivQ]; omega
     ·have n2 : (x.id != b.id) = true := by simpa using hx
      have HSF : Hid ((sl ++ [b] ++ [x], true) = (l.take (k + 1)).foldl (stepO (fun x : Bk => cmpN x.id b.id) b) ([], false)) := Hd (by rw [HST2.out, if_neg hx])
      clear hx
      (try go_wp2_with fail)
      go_quiet (fail)
      have HPR := Hd (HPQ.out.drewN nq)
      clear c0 b0
      generalize V2.drewN nq = V3 at HPR ⊢
      have HCX := Hd (HXA.out V3 HPR.out.b)
      have HB3 := Hd (HPR.out.below (bA V3 (.cells (List.toArray [Value.int .i64 x.id, .int .i64 x.ep, .string ⟨x.rk.toArray⟩, .bool x.fe, .bool x.lv]) 33)))
      have HC3 := Hd (Bx.new V3 [.int .i64 x.id, .int .i64 x.ep, .string ⟨x.rk.toArray⟩, .bool x.fe, .bool x.lv] 33).c
      go_wp2_with (first | (refine wpList_load_mid rfl _ _ rfl _ _ rfl _ _ HCX.out Tryz.underlying33 rfl (by kernel_rfl) ?_) | (refine wpList_app1 tyiB encB _ rfl _ _ rfl (w.heap.size + 1) _ _ rfl HB3.out.o (by have := HB3.out.x.l; omega) x _ 1 rfl (Nat.le_refl _) (HC3.out) HL2.out ?_; intro v' w' hov hbe; have HPX := Hd (HB3.out.app hov hbe); clear hov hbe))
      go_roundw
      case rel => exact ⟨k + 1, (sl ++ [b] ++ [x], true), _, by omega, by go_num, rfl, rfl, HSF, HPX.out⟩
      case measure => simp [ivQ]; omega
  ·obtain rfl : k = l.length := by omega
   have HSE : Hid (s = l.foldl (stepO (fun x : Bk => cmpN x.id b.id) b) ([], false)) := Hd (by have := HS.out; rwa [List.take_length] at this)
   rw [← HSE.out] at Ho
   obtain ⟨sl, sb⟩ := s
   dsimp only at *
   cases sb with
   | true =>
    go_wp2_with fail
    go_ret
    exact ⟨_, rfl, by rw [Ho.out]; exact HP.out.o.mono (Nat.le_succ _), HP.out.b⟩
   | false =>
    have HB2 := Hd (HP.out.below (bA wr (.cells (List.toArray [Value.int .i64 b.id, .int .i64 b.ep, .string ⟨b.rk.toArray⟩, .bool b.fe, .bool b.lv]) 33)))
    have HC2 := Hd (Bx.new wr [.int .i64 b.id, .int .i64 b.ep, .string ⟨b.rk.toArray⟩, .bool b.fe, .bool b.lv] 33).c
    have HL1 : Hid (sl.length ≤ 1000000000) := Hd (by have := HLN.out; omega)
    have HXC : Hid (wr.rangeAt w.heap.size 0 [.int .i64 b.id, .int .i64 b.ep, .string ⟨b.rk.toArray⟩, .bool b.fe, .bool b.lv]) := Hd HP.out.x.c
    clear HSE HS
    go_wp2_with (first | (refine wpList_load_mid rfl _ _ rfl _ _ rfl _ _ HXC.out Tryz.underlying33 rfl (by kernel_rfl) ?_) | (refine wpList_app1 tyiB encB _ rfl _ _ rfl (w.heap.size + 1) _ _ rfl HB2.out.o (by have := HB2.out.x.l; omega) b _ 1 rfl (Nat.le_refl _) (HC2.out) HL1.out ?_; intro v' w' hov hbe; have HPN := Hd (HB2.out.app hov hbe); clear hov hbe))
    go_ret
    exact ⟨_, rfl, by rw [Ho.out]; exact HPN.out.o.mono (Nat.le_succ _), HPN.out.b⟩
end Go.Proofs.YtlggjgapdpkhiaaGreat
namespace Go.Proofs.YtlggjgapdpkhiaaGreat
open Go.RowKit
def StD (n0 : Nat → Prop) (w w' : World) (m : Im) (c : Int) (e : Ending) : Prop := ∃ p, e = .returned (.tuple #[imv m p, .int .i64 c]) ∧ (∀ W, Agr n0 w.heap.size w' W → ImR W m p) ∧ Below w.heap.size w w'
theorem std_ret {n0 : Nat → Prop} {w W : World} {m : Im} {p : Ip} {cs : List Value} {c : Int} (h : Fr w m p cs (iml m p) W) (hv : ∀ W', Agr n0 w.heap.size W W' → ImR W' m p) : StD n0 w W m c (.returned (.tuple #[.agg (iml m p).toArray, .int .i64 c])) := ⟨_, rfl, hv, h.b⟩
structure Fo (w W : World) (m : Im) (p : Ip) (cs : List Value) (bo : Nat) (os : List Value) : Prop where
 f : Fr w m p cs imz W
 o : Bx W bo os
 ge : w.heap.size + 1 + 1 + 1 ≤ bo
section
variable {w W W' : World} {m : Im} {p : Ip} {cs os : List Value} {bo : Nat}
theorem Fo.below (h : Fo w W m p cs bo os) (hb : Below W.heap.size W W') : Fo w W' m p cs bo os := ⟨h.f.below hb, h.o.below hb, h.ge⟩
theorem Fo.drewN (h : Fo w W m p cs bo os) (n : Nat) : Fo w (W.drewN n) m p cs bo os := ⟨h.f.drewN n, h.o.drewN n, h.ge⟩
theorem Fo.set (h : Fo w W m p cs bo os) (j : Nat) (hj : j < os.length) (v : Value) : Fo w (W.setCell ⟨bo, j, none⟩ v) m p cs bo (os.set j v) :=
 have hg := h.ge
 ⟨⟨h.f.i.setOther (by omega) j v, h.f.r.setOther (by omega) j v, h.f.z.setOther (by omega) j v, h.f.b.setCell (p := ⟨bo, j, none⟩) (show w.heap.size ≤ bo by omega) v⟩, h.o.setCell j hj v, hg⟩
theorem Fo.new (h : Fr w m p cs imz W) (os : List Value) (t : TypeId) : Fo w (W.alloc (.cells os.toArray t)) m p cs W.heap.size os := ⟨h.below (bA W _), Bx.new W os t, h.sz⟩
end
set_option maxRecDepth 100000 in
set_option maxHeartbeats 16000000 in
theorem rregister_any {ok : Nat → Prop} (m : Im) (p : Ip) (r : Rc) (v : Value) (w : World) (n0 : Nat → Prop) (hn0 : ∀ g, n0 g → g < w.heap.size) (hv : ∀ W, (∀ g, n0 g → W.heap[g]? = w.heap[g]?) → ImR W m p) (hw : Wf m 100000) (hr : IsR ok w v r) : Calls Tryz.prog 65 #[imv m p, v] w fun e w' => StD n0 w w' (regB m r).1 (regB m r).2 e := by
 obtain ⟨a14, a15, a16, a17, c14, c15, c16, c17, rfl, hrw⟩ := hr
 have Hv := Hd (fun (W W3 : World) (hb : Below w.heap.size w W3) (hW : Agr n0 w.heap.size W3 W) => hv W (fun g hg => (hW g (.inl hg)).trans (hb.block g (hn0 g hg))))
 replace hv : ImR w m p := hv w (fun _ _ => rfl)
 have HV := Hd (fun W (h : Below w.heap.size w W) => hv.below h)
 have HB := Hd (fun W (h : Below w.heap.size w W) => rbroker_any m p r.br W (hv.below h) hw.nb)
 have HPU := Hd (fun W (h : Below w.heap.size w W) => rputb_any m.br _ (⟨r.br, r.ep, r.rk, true, false⟩ : Bk) W (hv.below h).b hw.nb hw.b)
 have HLD := Hd (fun W (h : Below w.heap.size w W) => rleads_any m p r.br W (hv.below h) hw)
 obtain ⟨L, hL⟩ : ∃ L, L = putB m.br (⟨r.br, r.ep, r.rk, true, false⟩ : Bk) := ⟨_, rfl⟩
 have HBR : Hid (putB m.br (⟨r.br, r.ep, r.rk, true, false⟩ : Bk) = L) := Hd hL.symm
 cases hf : fB m.br r.br with
 | none =>
  have Hr : Hid (regB m r = ({ m with br := L }, 0)) := Hd (by unfold regB; rw [hf, hL])
  rw [Hr.out]
  rw [hf] at HB
  unfold brV at HB
  clear hf hL HLD
  unfold imv at HB
  unfold bkc at HPU
  have HFR0 := fF w m p r a14 a15 a16 a17 c14 c15 c16 c17
  clear hv hw hrw hn0
  unfold imv
  unfold cR
  go_enter Tryz.func65, Tryz.ntmps65
  go_upto_region 1 with fail
  rw [fE]
  generalize frW w m p r a14 a15 a16 a17 c14 c15 c16 c17 = X at HFR0 ⊢
  have Hf := Hd HFR0
  clear HFR0
  obtain ⟨i0, i1, i2, i3, i4⟩ := Hf.out.i.im; have r1 := Hf.out.r.at 1 _ rfl; have r2 := Hf.out.r.at 2 _ rfl; have r13 := Hf.out.r.at 13 _ rfl
  go_upto_region 2 with (first | (refine wpList_load_mid rfl _ _ rfl _ _ rfl _ _ Hf.out.i.c Tryz.underlying30 rfl (by kernel_rfl) ?_) | (go_at_call 8; refine (HB.out _ Hf.out.b).mono ?_; rintro e wx ⟨rfl, hbx⟩; replace Hf := Hd (Hf.out.below hbx); clear i0 i1 i2 i3 i4 r1 r2 r13; clear hbx HB))
  have HBK := Hd (Bx.new wx [.int .i64 0, .int .i64 0, .string ⟨#[]⟩, .bool false, .bool false] 33)
  replace Hf := Hd (Hf.out.below (bA wx (.cells (List.toArray [Value.int .i64 0, .int .i64 0, .string ⟨#[]⟩, .bool false, .bool false]) 33)))
  generalize wx.alloc (.cells (List.toArray [Value.int .i64 0, .int .i64 0, .string ⟨#[]⟩, .bool false, .bool false]) 33) = X2 at Hf HBK ⊢
  generalize wx.heap.size = bk at HBK ⊢
  obtain ⟨i0, i1, i2, i3, i4⟩ := Hf.out.i.im; have r1 := Hf.out.r.at 1 _ rfl; have r2 := Hf.out.r.at 2 _ rfl; have r13 := Hf.out.r.at 13 _ rfl
  have HIU : Hid (X2.rangeAt w.heap.size 0 [Value.slice p.ab m.br.length p.cb, .slice p.aq p.ts.length p.cq, .slice p.ac m.cf.length p.cc, .slice p.ad m.dn.length p.cd, .int .i64 m.la]) := Hd Hf.out.i.c
  go_upto_region 7 with (first | (refine wpList_load_mid rfl _ _ rfl _ _ rfl _ _ HIU.out Tryz.underlying30 rfl (by kernel_rfl) ?_))
  clear HIU
  have Hz := Hd (Fo.new Hf.out [Value.slice p.ab m.br.length p.cb, .slice p.aq p.ts.length p.cq, .slice p.ac m.cf.length p.cc, .slice p.ad m.dn.length p.cd, .int .i64 m.la] 30)
  generalize X2.alloc (.cells (List.toArray [Value.slice p.ab m.br.length p.cb, .slice p.aq p.ts.length p.cq, .slice p.ac m.cf.length p.cc, .slice p.ad m.dn.length p.cd, .int .i64 m.la]) 30) = Y at Hz ⊢
  clear i0 i1 i2 i3 i4 r1 r2 r13
  obtain ⟨bo, hbo⟩ : ∃ bo, bo = X2.heap.size := ⟨_, rfl⟩
  rw [← hbo] at Hz ⊢
  clear hbo
  have i0 := Hz.out.f.i.at 0 _ rfl
  have r1 := Hz.out.f.r.at 1 _ rfl
  have r2 := Hz.out.f.r.at 2 _ rfl
  have r13 := Hz.out.f.r.at 13 _ rfl
  have HYB : Hid (bo < Y.heap.size) := Hd Hz.out.o.l
  go_upto_region 8 with (first | (go_at_call 106; refine (HPU.out _ Hz.out.f.b).mono ?_; rintro e w7 ⟨v', rfl, hro, hb7⟩; rw [HBR.out] at hro; obtain ⟨av, cv, rfl⟩ := hro.form; have HRO := Hd hro; have HFY := Hd (Hz.out.below hb7); have HSZ := Hd hb7.size; clear hro hb7 HPU; (try (clear i0 r1 r2 r13)); have o0 := HFY.out.o.at 0 _ rfl; have f0 := HFY.out.o.f 0 (by simp)))
  have HFW := Hd (HFY.out.set 0 (by simp) (.slice av L.length cv))
  have HG : Hid (∀ g, Y.heap.size ≤ g → (w7.setCell ⟨bo, 0, none⟩ (.slice av L.length cv)).heap[g]? = w7.heap[g]?) := Hd (fun g hg => Below.heap_setCell _ _ _ _ (show ¬ g = bo by have := HYB.out; omega))
  clear o0 f0 HFY Hz
  simp only [List.set] at HFW
  generalize w7.setCell ⟨bo, 0, none⟩ (.slice av L.length cv) = Z at HFW HG ⊢
  go_wp2_with (first | (refine wpList_load_mid rfl _ _ rfl _ _ rfl _ _ HFW.out.o.c Tryz.underlying30 rfl (by kernel_rfl) ?_) | (refine wS rfl _ _ _ rfl _ _ rfl HFW.out.f.z (iml { m with br := L } { p with ab := av, cb := cv }) rfl rfl (by kernel_rfl) rfl ?_; intro W3 hz hk hb hp; have HZ := Hd hz; have Hb := Hd (hb _ _ (show w.heap.size ≤ w.heap.size + 1 + 1 by omega) HFW.out.f.b); have HRS := Hd (fun W (hW : Agr n0 w.heap.size W3 W) => (HRO.out.keepG (fun g hg => (hW g (.inr (by have := HYB.out; have := HFW.out.ge; omega))).trans ((hp g (by have := HYB.out; have := HFW.out.ge; omega)).trans (HG.out g hg)))).rs); clear hz hk hb hp))
  obtain ⟨q0, q1, q2, q3, q4⟩ := HZ.out.im
  exact bodyPost_ret (v := .tuple #[.agg (iml { m with br := L } { p with ab := av, cb := cv }).toArray, .int .i64 0]) (by simp [results, Tryz.results65, go_sem, q0, q1, q2, q3, q4, iml]) rfl ⟨_, rfl, (fun W hW => ⟨HRS.out W hW, (Hv.out W _ Hb.out hW).t, (Hv.out W _ Hb.out hW).q, (Hv.out W _ Hb.out hW).e, (Hv.out W _ Hb.out hW).c, (Hv.out W _ Hb.out hW).d⟩), Hb.out⟩
 | some b =>
  rw [hf] at HB
  unfold brV at HB
  by_cases h1 : r.ep ≤ b.ep
  ·have Hr : Hid (regB m r = (m, 11)) := Hd (by unfold regB; rw [hf]; simp only; rw [if_pos h1])
   rw [Hr.out]
   clear hf hL HLD HPU HBR
   unfold imv at HB
   have HFR0 := fF w m p r a14 a15 a16 a17 c14 c15 c16 c17
   clear hv hw hrw hn0
   unfold imv
   unfold cR
   go_enter Tryz.func65, Tryz.ntmps65
   go_upto_region 1 with fail
   rw [fE]
   generalize frW w m p r a14 a15 a16 a17 c14 c15 c16 c17 = X at HFR0 ⊢
   have Hf := Hd HFR0
   clear HFR0
   obtain ⟨i0, i1, i2, i3, i4⟩ := Hf.out.i.im; have r1 := Hf.out.r.at 1 _ rfl; have r2 := Hf.out.r.at 2 _ rfl; have r13 := Hf.out.r.at 13 _ rfl
   go_upto_region 2 with (first | (refine wpList_load_mid rfl _ _ rfl _ _ rfl _ _ Hf.out.i.c Tryz.underlying30 rfl (by kernel_rfl) ?_) | (go_at_call 8; refine (HB.out _ Hf.out.b).mono ?_; rintro e wx ⟨rfl, hbx⟩; replace Hf := Hd (Hf.out.below hbx); clear i0 i1 i2 i3 i4 r1 r2 r13; clear hbx HB))
   have HBK := Hd (Bx.new wx [.int .i64 b.id, .int .i64 b.ep, .string ⟨b.rk.toArray⟩, .bool b.fe, .bool b.lv] 33)
   replace Hf := Hd (Hf.out.below (bA wx (.cells (List.toArray [Value.int .i64 b.id, .int .i64 b.ep, .string ⟨b.rk.toArray⟩, .bool b.fe, .bool b.lv]) 33)))
   generalize wx.alloc (.cells (List.toArray [Value.int .i64 b.id, .int .i64 b.ep, .string ⟨b.rk.toArray⟩, .bool b.fe, .bool b.lv]) 33) = X2 at Hf HBK ⊢
   generalize wx.heap.size = bk at HBK ⊢
   obtain ⟨i0, i1, i2, i3, i4⟩ := Hf.out.i.im; have r1 := Hf.out.r.at 1 _ rfl; have r2 := Hf.out.r.at 2 _ rfl; have r13 := Hf.out.r.at 13 _ rfl
   have k1 := HBK.out.at 1 _ rfl
   go_wp2_with (first | (refine wpList_load_mid rfl _ _ rfl _ _ rfl _ _ Hf.out.i.c Tryz.underlying30 rfl (by kernel_rfl) ?_) | (refine wS rfl _ _ _ rfl _ _ rfl Hf.out.z (iml m p) rfl rfl (by kernel_rfl) rfl ?_; intro W3 hz hk hb hp; have Ho := Hd (Hf.out.out hz hk hb); clear hz hk hb hp))
   obtain ⟨q0, q1, q2, q3, q4⟩ := Ho.out.z.im
   exact bodyPost_ret (v := .tuple #[.agg (iml m p).toArray, .int .i64 11]) (by simp [results, Tryz.results65, go_sem, q0, q1, q2, q3, q4, iml]) rfl (std_ret Ho.out (fun W hW => Hv.out W _ Ho.out.b hW))
  ·cases hld : leads m.ts r.br with
   | true =>
    have Hr : Hid (regB m r = (m, 10)) := Hd (by unfold regB; rw [hf]; simp only; rw [if_neg h1, if_pos hld])
    rw [Hr.out]
    rw [hld] at HLD
    clear hf hL HPU HBR hld
    unfold imv at HB HLD
    have HFR0 := fF w m p r a14 a15 a16 a17 c14 c15 c16 c17
    clear hv hw hrw hn0
    unfold imv
    unfold cR
    go_enter Tryz.func65, Tryz.ntmps65
    go_upto_region 1 with fail
    rw [fE]
    generalize frW w m p r a14 a15 a16 a17 c14 c15 c16 c17 = X at HFR0 ⊢
    have Hf := Hd HFR0
    clear HFR0
    obtain ⟨i0, i1, i2, i3, i4⟩ := Hf.out.i.im; have r1 := Hf.out.r.at 1 _ rfl; have r2 := Hf.out.r.at 2 _ rfl; have r13 := Hf.out.r.at 13 _ rfl
    go_upto_region 2 with (first | (refine wpList_load_mid rfl _ _ rfl _ _ rfl _ _ Hf.out.i.c Tryz.underlying30 rfl (by kernel_rfl) ?_) | (go_at_call 8; refine (HB.out _ Hf.out.b).mono ?_; rintro e wx ⟨rfl, hbx⟩; replace Hf := Hd (Hf.out.below hbx); clear i0 i1 i2 i3 i4 r1 r2 r13; clear hbx HB))
    have HBK := Hd (Bx.new wx [.int .i64 b.id, .int .i64 b.ep, .string ⟨b.rk.toArray⟩, .bool b.fe, .bool b.lv] 33)
    replace Hf := Hd (Hf.out.below (bA wx (.cells (List.toArray [Value.int .i64 b.id, .int .i64 b.ep, .string ⟨b.rk.toArray⟩, .bool b.fe, .bool b.lv]) 33)))
    generalize wx.alloc (.cells (List.toArray [Value.int .i64 b.id, .int .i64 b.ep, .string ⟨b.rk.toArray⟩, .bool b.fe, .bool b.lv]) 33) = X2 at Hf HBK ⊢
    generalize wx.heap.size = bk at HBK ⊢
    obtain ⟨i0, i1, i2, i3, i4⟩ := Hf.out.i.im; have r1 := Hf.out.r.at 1 _ rfl; have r2 := Hf.out.r.at 2 _ rfl; have r13 := Hf.out.r.at 13 _ rfl
    have k1 := HBK.out.at 1 _ rfl
    go_upto_region 5 with (first | (go_at_call 25; refine (HLD.out _ Hf.out.b).mono ?_; rintro e wl ⟨rfl, hbl⟩; replace Hf := Hd (Hf.out.below hbl); clear i0 i1 i2 i3 i4 r1 r2 r13; clear hbl HLD; obtain ⟨i0, i1, i2, i3, i4⟩ := Hf.out.i.im; have r1 := Hf.out.r.at 1 _ rfl; have r2 := Hf.out.r.at 2 _ rfl; have r13 := Hf.out.r.at 13 _ rfl))
    go_wp2_with (first | (refine wpList_load_mid rfl _ _ rfl _ _ rfl _ _ Hf.out.i.c Tryz.underlying30 rfl (by kernel_rfl) ?_) | (refine wS rfl _ _ _ rfl _ _ rfl Hf.out.z (iml m p) rfl rfl (by kernel_rfl) rfl ?_; intro W3 hz hk hb hp; have Ho := Hd (Hf.out.out hz hk hb); clear hz hk hb hp))
    obtain ⟨q0, q1, q2, q3, q4⟩ := Ho.out.z.im
    exact bodyPost_ret (v := .tuple #[.agg (iml m p).toArray, .int .i64 10]) (by simp [results, Tryz.results65, go_sem, q0, q1, q2, q3, q4, iml]) rfl (std_ret Ho.out (fun W hW => Hv.out W _ Ho.out.b hW))
   | false =>
    have Hr : Hid (regB m r = ({ m with br := L }, 0)) := Hd (by unfold regB; rw [hf]; simp only; rw [if_neg h1, if_neg (by simp [hld]), hL])
    rw [Hr.out]
    rw [hld] at HLD
    clear hf hL hld
    unfold imv at HB HLD
    unfold bkc at HPU
    have HFR0 := fF w m p r a14 a15 a16 a17 c14 c15 c16 c17
    clear hv hw hrw hn0
    unfold imv
    unfold cR
    go_enter Tryz.func65, Tryz.ntmps65
    go_upto_region 1 with fail
    rw [fE]
    generalize frW w m p r a14 a15 a16 a17 c14 c15 c16 c17 = X at HFR0 ⊢
    have Hf := Hd HFR0
    clear HFR0
    obtain ⟨i0, i1, i2, i3, i4⟩ := Hf.out.i.im; have r1 := Hf.out.r.at 1 _ rfl; have r2 := Hf.out.r.at 2 _ rfl; have r13 := Hf.out.r.at 13 _ rfl
    go_upto_region 2 with (first | (refine wpList_load_mid rfl _ _ rfl _ _ rfl _ _ Hf.out.i.c Tryz.underlying30 rfl (by kernel_rfl) ?_) | (go_at_call 8; refine (HB.out _ Hf.out.b).mono ?_; rintro e wx ⟨rfl, hbx⟩; replace Hf := Hd (Hf.out.below hbx); clear i0 i1 i2 i3 i4 r1 r2 r13; clear hbx HB))
    have HBK := Hd (Bx.new wx [.int .i64 b.id, .int .i64 b.ep, .string ⟨b.rk.toArray⟩, .bool b.fe, .bool b.lv] 33)
    replace Hf := Hd (Hf.out.below (bA wx (.cells (List.toArray [Value.int .i64 b.id, .int .i64 b.ep, .string ⟨b.rk.toArray⟩, .bool b.fe, .bool b.lv]) 33)))
    generalize wx.alloc (.cells (List.toArray [Value.int .i64 b.id, .int .i64 b.ep, .string ⟨b.rk.toArray⟩, .bool b.fe, .bool b.lv]) 33) = X2 at Hf HBK ⊢
    generalize wx.heap.size = bk at HBK ⊢
    obtain ⟨i0, i1, i2, i3, i4⟩ := Hf.out.i.im; have r1 := Hf.out.r.at 1 _ rfl; have r2 := Hf.out.r.at 2 _ rfl; have r13 := Hf.out.r.at 13 _ rfl
    have k1 := HBK.out.at 1 _ rfl
    go_upto_region 6 with (first | (go_at_call 25; refine (HLD.out _ Hf.out.b).mono ?_; rintro e wl ⟨rfl, hbl⟩; replace Hf := Hd (Hf.out.below hbl); clear i0 i1 i2 i3 i4 r1 r2 r13; clear hbl HLD; obtain ⟨i0, i1, i2, i3, i4⟩ := Hf.out.i.im; have r1 := Hf.out.r.at 1 _ rfl; have r2 := Hf.out.r.at 2 _ rfl; have r13 := Hf.out.r.at 13 _ rfl))
    clear k1
    have HIU : Hid (wl.rangeAt w.heap.size 0 [Value.slice p.ab m.br.length p.cb, .slice p.aq p.ts.length p.cq, .slice p.ac m.cf.length p.cc, .slice p.ad m.dn.length p.cd, .int .i64 m.la]) := Hd Hf.out.i.c
    go_upto_region 7 with (first | (refine wpList_load_mid rfl _ _ rfl _ _ rfl _ _ HIU.out Tryz.underlying30 rfl (by kernel_rfl) ?_))
    clear HIU
    have Hz := Hd (Fo.new Hf.out [Value.slice p.ab m.br.length p.cb, .slice p.aq p.ts.length p.cq, .slice p.ac m.cf.length p.cc, .slice p.ad m.dn.length p.cd, .int .i64 m.la] 30)
    generalize wl.alloc (.cells (List.toArray [Value.slice p.ab m.br.length p.cb, .slice p.aq p.ts.length p.cq, .slice p.ac m.cf.length p.cc, .slice p.ad m.dn.length p.cd, .int .i64 m.la]) 30) = Y at Hz ⊢
    clear i0 i1 i2 i3 i4 r1 r2 r13
    obtain ⟨bo, hbo⟩ : ∃ bo, bo = wl.heap.size := ⟨_, rfl⟩
    rw [← hbo] at Hz ⊢
    clear hbo
    have i0 := Hz.out.f.i.at 0 _ rfl
    have r1 := Hz.out.f.r.at 1 _ rfl
    have r2 := Hz.out.f.r.at 2 _ rfl
    have r13 := Hz.out.f.r.at 13 _ rfl
    have HYB : Hid (bo < Y.heap.size) := Hd Hz.out.o.l
    go_upto_region 8 with (first | (go_at_call 106; refine (HPU.out _ Hz.out.f.b).mono ?_; rintro e w7 ⟨v', rfl, hro, hb7⟩; rw [HBR.out] at hro; obtain ⟨av, cv, rfl⟩ := hro.form; have HRO := Hd hro; have HFY := Hd (Hz.out.below hb7); have HSZ := Hd hb7.size; clear hro hb7 HPU; (try (clear i0 r1 r2 r13)); have o0 := HFY.out.o.at 0 _ rfl; have f0 := HFY.out.o.f 0 (by simp)))
    have HFW := Hd (HFY.out.set 0 (by simp) (.slice av L.length cv))
    have HG : Hid (∀ g, Y.heap.size ≤ g → (w7.setCell ⟨bo, 0, none⟩ (.slice av L.length cv)).heap[g]? = w7.heap[g]?) := Hd (fun g hg => Below.heap_setCell _ _ _ _ (show ¬ g = bo by have := HYB.out; omega))
    clear o0 f0 HFY Hz
    simp only [List.set] at HFW
    generalize w7.setCell ⟨bo, 0, none⟩ (.slice av L.length cv) = Z at HFW HG ⊢
    go_wp2_with (first | (refine wpList_load_mid rfl _ _ rfl _ _ rfl _ _ HFW.out.o.c Tryz.underlying30 rfl (by kernel_rfl) ?_) | (refine wS rfl _ _ _ rfl _ _ rfl HFW.out.f.z (iml { m with br := L } { p with ab := av, cb := cv }) rfl rfl (by kernel_rfl) rfl ?_; intro W3 hz hk hb hp; have HZ := Hd hz; have Hb := Hd (hb _ _ (show w.heap.size ≤ w.heap.size + 1 + 1 by omega) HFW.out.f.b); have HRS := Hd (fun W (hW : Agr n0 w.heap.size W3 W) => (HRO.out.keepG (fun g hg => (hW g (.inr (by have := HYB.out; have := HFW.out.ge; omega))).trans ((hp g (by have := HYB.out; have := HFW.out.ge; omega)).trans (HG.out g hg)))).rs); clear hz hk hb hp))
    obtain ⟨q0, q1, q2, q3, q4⟩ := HZ.out.im
    exact bodyPost_ret (v := .tuple #[.agg (iml { m with br := L } { p with ab := av, cb := cv }).toArray, .int .i64 0]) (by simp [results, Tryz.results65, go_sem, q0, q1, q2, q3, q4, iml]) rfl ⟨_, rfl, (fun W hW => ⟨HRS.out W hW, (Hv.out W _ Hb.out hW).t, (Hv.out W _ Hb.out hW).q, (Hv.out W _ Hb.out hW).e, (Hv.out W _ Hb.out hW).c, (Hv.out W _ Hb.out hW).d⟩), Hb.out⟩
end Go.Proofs.YtlggjgapdpkhiaaGreat
