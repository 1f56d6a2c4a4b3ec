/-
  A RECORD NO LONGER THAN IS WAITED FOR (castellanref05.Short). No condition.
  THE DOCUMENT's NEXT NUMBER, as one function of the bytes, the place and the limit (castellanref02.num). Conditions: the bytes' cells hold them, each is a byte, and no more than four thousand.
  THE DOCUMENT's End (castellanref02.End), and its bad where something is wrong already. Condition: no more than four thousand bytes.
  THE DOCUMENT's NEXT TEXT (castellanref02.text), out of what its num tells: something is wrong; bytes lack; they are there. Conditions: the bytes' cells hold them, no more than four thousand, and the numbers are in their bounds.
-/
import Derived.Test.YtkpknkhacmggnaaGreatDoorJKWputba5
import Derived.Deep.DeepCutAuto
import Derived.Test.YtkpknkhacmggnaaGreatDoorJKRefRead
import Derived.Deep.RegionHeld3
namespace Go.Proofs.YtkpknkhacmggnaaGreatDoor
open Go.RowKit

set_option maxRecDepth 100000 in
set_option maxHeartbeats 8000000 in
theorem short_go (k br ep tp pa le cl se co : Int) (fl : Bool) (nm ky va rk : List UInt8) (a14 a15 a16 a17 : Option Addr) (c14 c15 c16 c17 : Nat) (ids isr ad dr : List Int) (w : World) :
    Calls Tryz.prog 58 #[.agg #[.int .i64 k, .int .i64 br, .int .i64 ep, .int .i64 tp, .int .i64 pa, .int .i64 le, .int .i64 cl, .int .i64 se, .int .i64 co, .bool fl, .string ⟨nm.toArray⟩, .string ⟨ky.toArray⟩, .string ⟨va.toArray⟩, .string ⟨rk.toArray⟩, .slice a14 ids.length c14, .slice a15 isr.length c15, .slice a16 ad.length c16, .slice a17 dr.length c17]] w fun e w' => e = .returned (.bool (decide (nm.length ≤ 400 ∧ ky.length ≤ 400 ∧ va.length ≤ 400 ∧ rk.length ≤ 400 ∧ ids.length ≤ 60 ∧ isr.length ≤ 60 ∧ ad.length ≤ 60 ∧ dr.length ≤ 60))) ∧ Below w.heap.size w w' := by
  obtain ⟨R, hR⟩ : ∃ R, R = decide (nm.length ≤ 400 ∧ ky.length ≤ 400 ∧ va.length ≤ 400 ∧ rk.length ≤ 400 ∧ ids.length ≤ 60 ∧ isr.length ≤ 60 ∧ ad.length ≤ 60 ∧ dr.length ≤ 60) := ⟨_, rfl⟩
  rw [← hR]
  have HR := hide hR
  clear hR
  have HQ : Hid ((w.alloc (.cells #[.int .i64 k, .int .i64 br, .int .i64 ep, .int .i64 tp, .int .i64 pa, .int .i64 le, .int .i64 cl, .int .i64 se, .int .i64 co, .bool fl, .string ⟨nm.toArray⟩, .string ⟨ky.toArray⟩, .string ⟨va.toArray⟩, .string ⟨rk.toArray⟩, .slice a14 ids.length c14, .slice a15 isr.length c15, .slice a16 ad.length c16, .slice a17 dr.length c17] 58)).rangeAt w.heap.size 0 [.int .i64 k, .int .i64 br, .int .i64 ep, .int .i64 tp, .int .i64 pa, .int .i64 le, .int .i64 cl, .int .i64 se, .int .i64 co, .bool fl, .string ⟨nm.toArray⟩, .string ⟨ky.toArray⟩, .string ⟨va.toArray⟩, .string ⟨rk.toArray⟩, .slice a14 ids.length c14, .slice a15 isr.length c15, .slice a16 ad.length c16, .slice a17 dr.length c17]) := hide (range_new w _ _)
  have HB : Hid (Below w.heap.size w (w.alloc (.cells #[.int .i64 k, .int .i64 br, .int .i64 ep, .int .i64 tp, .int .i64 pa, .int .i64 le, .int .i64 cl, .int .i64 se, .int .i64 co, .bool fl, .string ⟨nm.toArray⟩, .string ⟨ky.toArray⟩, .string ⟨va.toArray⟩, .string ⟨rk.toArray⟩, .slice a14 ids.length c14, .slice a15 isr.length c15, .slice a16 ad.length c16, .slice a17 dr.length c17] 58))) := hide ((Below.refl _ _).alloc (Nat.le_refl _) _)
  go_enter Tryz.func58, Tryz.ntmps58
  go_upto_region 1 with fail
  generalize w.alloc (.cells #[.int .i64 k, .int .i64 br, .int .i64 ep, .int .i64 tp, .int .i64 pa, .int .i64 le, .int .i64 cl, .int .i64 se, .int .i64 co, .bool fl, .string ⟨nm.toArray⟩, .string ⟨ky.toArray⟩, .string ⟨va.toArray⟩, .string ⟨rk.toArray⟩, .slice a14 ids.length c14, .slice a15 isr.length c15, .slice a16 ad.length c16, .slice a17 dr.length c17] 58) = X at HQ HB ⊢
  obtain ⟨g0, g1, g2, g3, g4, g5, g6, g7, g8, g9, g10, g11, g12, g13, g14, g15, g16, g17⟩ := C18.of HQ.out
  clear g0 g1 g2 g3 g4 g5 g6 g7 g8 g9
  by_cases qnm : nm.length ≤ 400
  case neg =>
    have HE : Hid (R = false) := hide (by rw [HR.out]; simp [qnm])
    have pnm : ¬ (nm.length : Int) ≤ 400 := by omega
    go_wp2_with fail
    go_ret
    exact ⟨by rw [HE.out]; first | rfl | simp [pnm], HB.out⟩
  have pnm : (nm.length : Int) ≤ 400 := by omega
  by_cases qky : ky.length ≤ 400
  case neg =>
    have HE : Hid (R = false) := hide (by rw [HR.out]; simp [qky])
    have pky : ¬ (ky.length : Int) ≤ 400 := by omega
    go_wp2_with fail
    go_ret
    exact ⟨by rw [HE.out]; first | rfl | simp [pky], HB.out⟩
  have pky : (ky.length : Int) ≤ 400 := by omega
  by_cases qva : va.length ≤ 400
  case neg =>
    have HE : Hid (R = false) := hide (by rw [HR.out]; simp [qva])
    have pva : ¬ (va.length : Int) ≤ 400 := by omega
    go_wp2_with fail
    go_ret
    exact ⟨by rw [HE.out]; first | rfl | simp [pva], HB.out⟩
  have pva : (va.length : Int) ≤ 400 := by omega
  by_cases qrk : rk.length ≤ 400
  case neg =>
    have HE : Hid (R = false) := hide (by rw [HR.out]; simp [qrk])
    have prk : ¬ (rk.length : Int) ≤ 400 := by omega
    go_wp2_with fail
    go_ret
    exact ⟨by rw [HE.out]; first | rfl | simp [prk], HB.out⟩
  have prk : (rk.length : Int) ≤ 400 := by omega
  by_cases qids : ids.length ≤ 60
  case neg =>
    have HE : Hid (R = false) := hide (by rw [HR.out]; simp [qids])
    have pids : ¬ (ids.length : Int) ≤ 60 := by omega
    go_wp2_with fail
    go_ret
    exact ⟨by rw [HE.out]; first | rfl | simp [pids], HB.out⟩
  have pids : (ids.length : Int) ≤ 60 := by omega
  by_cases qisr : isr.length ≤ 60
  case neg =>
    have HE : Hid (R = false) := hide (by rw [HR.out]; simp [qisr])
    have pisr : ¬ (isr.length : Int) ≤ 60 := by omega
    go_wp2_with fail
    go_ret
    exact ⟨by rw [HE.out]; first | rfl | simp [pisr], HB.out⟩
  have pisr : (isr.length : Int) ≤ 60 := by omega
  by_cases qad : ad.length ≤ 60
  case neg =>
    have HE : Hid (R = false) := hide (by rw [HR.out]; simp [qad])
    have pad : ¬ (ad.length : Int) ≤ 60 := by omega
    go_wp2_with fail
    go_ret
    exact ⟨by rw [HE.out]; first | rfl | simp [pad], HB.out⟩
  have pad : (ad.length : Int) ≤ 60 := by omega
  by_cases qdr : dr.length ≤ 60
  case neg =>
    have HE : Hid (R = false) := hide (by rw [HR.out]; simp [qdr])
    have pdr : ¬ (dr.length : Int) ≤ 60 := by omega
    go_wp2_with fail
    go_ret
    exact ⟨by rw [HE.out]; first | rfl | simp [pdr], HB.out⟩
  have pdr : (dr.length : Int) ≤ 60 := by omega
  have HE : Hid (R = true) := hide (by rw [HR.out]; exact decide_eq_true ⟨qnm, qky, qva, qrk, qids, qisr, qad, qdr⟩)
  go_wp2_with fail
  go_ret
  exact ⟨by rw [HE.out]; first | rfl | simp [pdr], HB.out⟩
def shB (r : Rc) : Bool := decide (r.nm.length ≤ 400 ∧ r.ky.length ≤ 400 ∧ r.va.length ≤ 400 ∧ r.rk.length ≤ 400 ∧ r.ids.length ≤ 60 ∧ r.isr.length ≤ 60 ∧ r.ad.length ≤ 60 ∧ r.dr.length ≤ 60)
theorem short_any {ok : Nat → Prop} (r : Rc) (v : Value) (w : World) (hv : IsR ok w v r) : Calls Tryz.prog 58 #[v] w fun e w' => e = .returned (.bool (shB r)) ∧ Below w.heap.size w w' := by
  obtain ⟨a14, a15, a16, a17, c14, c15, c16, c17, rfl, h⟩ := hv
  exact short_go r.k r.br r.ep r.tp r.pa r.le r.cl r.se r.co r.fl r.nm r.ky r.va r.rk a14 a15 a16 a17 c14 c15 c16 c17 r.ids r.isr r.ad r.dr w
theorem sh_tx {r : Rc} (h : shB r = true) : TxR r := by
  unfold shB at h
  have := of_decide_eq_true h
  exact ⟨by omega, by omega, by omega, by omega⟩
end Go.Proofs.YtkpknkhacmggnaaGreatDoor
namespace Go.Proofs.YtkpknkhacmggnaaGreatDoor
open Go.RowKit

end Go.Proofs.YtkpknkhacmggnaaGreatDoor
namespace Go.Proofs.YtkpknkhacmggnaaGreatDoor
open Go.RowKit

end Go.Proofs.YtkpknkhacmggnaaGreatDoor
namespace Go.Proofs.YtkpknkhacmggnaaGreatDoor
open Go.RowKit

/-- What a reader's call keeps: the box of the state, the result's cells, all old memory. -/
def Kp (n : Nat) (a wh : Int) (op : ByteArray) (w W : World) : Prop :=
  W.cell? ⟨n, 0, none⟩ = some (.int .i64 a) ∧ W.cell? ⟨n, 1, none⟩ = some (.int .i64 0) ∧ W.cell? ⟨n, 2, none⟩ = some (.string op) ∧ W.cell? ⟨n, 3, none⟩ = some (.int .i64 wh) ∧
  (W.cell? ⟨n + 1, 0, none⟩ = some (.int .i64 0) ∧ W.cell? ⟨n + 1, 1, none⟩ = some (.int .i64 0) ∧ W.cell? ⟨n + 1, 2, none⟩ = some (.string ⟨#[]⟩) ∧ W.cell? ⟨n + 1, 3, none⟩ = some (.int .i64 0)) ∧
  (∀ i, W.frozen? ⟨n + 1, i, none⟩ = false) ∧ Below n w W ∧ n + 2 ≤ W.heap.size
theorem Kp.later {n : Nat} {a wh : Int} {op : ByteArray} {w W : World} {W' : World} (h : Kp n a wh op w W) (hb : Below (n + 2) W W') : Kp n a wh op w W' := by
  obtain ⟨h1, h2, h3, h4, ⟨r0, r1, r2, r3⟩, hf, hB, hz⟩ := h
  have c : ∀ k i x, k < n + 2 → W.cell? ⟨k, i, none⟩ = some x → W'.cell? ⟨k, i, none⟩ = some x := fun k i x hk hx => (hb.cell (p := ⟨k, i, none⟩) hk).trans hx
  exact ⟨c _ _ _ (by omega) h1, c _ _ _ (by omega) h2, c _ _ _ (by omega) h3, c _ _ _ (by omega) h4, ⟨c _ _ _ (by omega) r0, c _ _ _ (by omega) r1, c _ _ _ (by omega) r2, c _ _ _ (by omega) r3⟩,
    fun i => (hb.frozen (p := ⟨n + 1, i, none⟩) (by show n + 1 < n + 2; omega)).trans (hf i), hB.trans (hb.mono (by omega)), Nat.le_trans hz hb.size⟩
theorem Kp.size {n : Nat} {a wh : Int} {op : ByteArray} {w W : World} (h : Kp n a wh op w W) : n + 2 ≤ W.heap.size := h.2.2.2.2.2.2.2
theorem Kp.old {n : Nat} {a wh : Int} {op : ByteArray} {w W : World} (h : Kp n a wh op w W) : Below n w W := h.2.2.2.2.2.2.1
theorem Kp.call {n : Nat} {a wh : Int} {op : ByteArray} {w W : World} {W' : World} (h : Kp n a wh op w W) (hb : Below W.heap.size W W') : Kp n a wh op w W' := h.later (hb.mono h.size)
theorem Kp.alloc {n : Nat} {a wh : Int} {op : ByteArray} {w W : World} (h : Kp n a wh op w W) (o : Obj) : Kp n a wh op w (W.alloc o) := h.call ((Below.refl _ _).alloc (Nat.le_refl _) o)
theorem Kp.set {n : Nat} {a wh : Int} {op : ByteArray} {w W : World} {g : Nat} {x y z t : Value} (h : Kp n a wh op w W) (hg : n + 2 ≤ g) : Kp n a wh op w ((((W.setCell ⟨g, 0, none⟩ x).setCell ⟨g, 1, none⟩ y).setCell ⟨g, 2, none⟩ z).setCell ⟨g, 3, none⟩ t) :=
  h.later (((((Below.refl _ _).setCell (by exact hg) _).setCell (by exact hg) _).setCell (by exact hg) _).setCell (by exact hg) _)
theorem Kp.S {n : Nat} {a wh : Int} {op : ByteArray} {w W : World} (h : Kp n a wh op w W) : W.cell? ⟨n, 0, none⟩ = some (.int .i64 a) ∧ W.cell? ⟨n, 1, none⟩ = some (.int .i64 0) ∧ W.cell? ⟨n, 2, none⟩ = some (.string op) ∧ W.cell? ⟨n, 3, none⟩ = some (.int .i64 wh) ∧ Kp n a wh op w W := ⟨h.1, h.2.1, h.2.2.1, h.2.2.2.1, h⟩
end Go.Proofs.YtkpknkhacmggnaaGreatDoor
