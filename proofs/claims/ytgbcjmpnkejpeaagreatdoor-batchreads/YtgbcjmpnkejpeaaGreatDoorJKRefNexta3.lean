/-
  THE DOCUMENT's NEXT NUMBER, as one function of the bytes, the place and the limit (castellanref02.num). Conditions: the bytes' cells hold them, each is a byte, and no more than four thousand.
  THE DOCUMENT's End (castellanref02.End), and its bad where something is wrong already. Condition: no more than four thousand bytes.
  THE DOCUMENT's NEXT TEXT (castellanref02.text), out of what its num tells: something is wrong; bytes lack; they are there. Conditions: the bytes' cells hold them, no more than four thousand, and the numbers are in their bounds.
-/
import Derived.Test.YtgbcjmpnkejpeaaGreatDoorJKRefRead
import Derived.Deep.RegionHeld3
import Derived.Deep.DeepCutAuto
namespace Go.Proofs.YtgbcjmpnkejpeaaGreatDoor
open Go.RowKit

/-- The state and the number behind it. -/
def stN (a : Nat) (r : Int × Nat × Int) : Value := .tuple #[if r.1 = 0 then stv (a + r.2.1 : Nat) 0 ⟨#[]⟩ 0 else stv a r.1 ⟨#[110, 117, 109]⟩ a, .int .u64 r.2.2]

theorem drop_at {l r : List Int} {a i : Nat} {x : Int} (h : l.drop a = r) (hi : r[i]? = some x) : ∃ hlt : a + i < l.length, l[a + i] = x := by
  rw [← h, List.getElem?_drop] at hi
  obtain ⟨h1, h2⟩ := List.getElem?_eq_some_iff.1 hi
  exact ⟨h1, h2⟩
theorem drop_len {l r : List Int} {a : Nat} (h : l.drop a = r) : r.length = l.length - a := by rw [← h, List.length_drop]

theorem num_next (v : Value) (l : List Int) (a : Nat) (wh most : Int) (op : ByteArray) (w : World) (hv : Sl bc w v l) (hl : l.length ≤ 4000) (hby : ∀ x ∈ l, 0 ≤ x ∧ x ≤ 255) :
    Calls Tryz.prog 121 #[v, stv a 0 op wh, .int .u64 most] w fun e w' => e = .returned (stN a (numS (l.drop a) most)) ∧ Below w.heap.size w w' := by
  generalize hr : l.drop a = r
  have hlen := drop_len hr
  rcases r with _ | ⟨x0, r⟩
  · obtain ⟨ao, cap, rfl⟩ := hv.form
    exact num_none ao l.length cap a wh most op w (by simp at hlen; omega)
  · rcases hv with ⟨ao, cap, rfl, rfl⟩ | ⟨b, o, cap, rfl, _, h3⟩
    · simp at hr
    · have get : ∀ i x, (x0 :: r)[i]? = some x → w.cell? ⟨b, o + (a + i), none⟩ = some (.int .u8 x) ∧ 0 ≤ x ∧ x ≤ 255 := by
        intro i x hx
        obtain ⟨h1, h2⟩ := drop_at hr hx
        have h4 := h3 (a + i) h1
        rw [h2] at h4
        exact ⟨h4, hby x (by rw [← h2]; exact List.getElem_mem h1)⟩
      obtain ⟨c0, l0, u0⟩ := get 0 x0 rfl
      have ha : a < l.length := by simp at hlen; omega
      simp only [Nat.add_zero] at c0
      by_cases k0 : x0 / 64 = 0
      · simp only [numS, if_pos k0, finN, if_neg (show ¬ x0 % 64 < 0 by omega)]
        by_cases hlim : most < x0 % 64
        · rw [if_pos hlim]
          exact num1_limit b o l.length cap a wh most x0 op w hl (by omega) l0 u0 k0 hlim c0
        · rw [if_neg hlim]
          exact num1_ok b o l.length cap a wh most x0 op w hl (by omega) l0 u0 k0 hlim c0
      · by_cases k1 : x0 / 64 = 1
        · simp only [numS, if_neg k0, if_pos k1]
          rcases r with _ | ⟨x1, r⟩
          · exact num2_short b o l.length cap a wh most x0 op w hl ha (by simp at hlen; omega) l0 u0 k1 c0
          · obtain ⟨c1, l1, u1⟩ := get 1 x1 rfl
            simp only [finN]
            by_cases hk : x0 % 64 * 256 + x1 < 64
            · rw [if_pos hk]
              exact num2_kind b o l.length cap a wh most x0 x1 op w hl (by simp at hlen; omega) l0 u0 l1 u1 k1 hk c0 c1
            · rw [if_neg hk]
              by_cases hlim : most < x0 % 64 * 256 + x1
              · rw [if_pos hlim]
                exact num2_limit b o l.length cap a wh most x0 x1 op w hl (by simp at hlen; omega) l0 u0 l1 u1 k1 (by omega) hlim c0 c1
              · rw [if_neg hlim]
                exact num2_ok b o l.length cap a wh most x0 x1 op w hl (by simp at hlen; omega) l0 u0 l1 u1 k1 (by omega) hlim c0 c1
        · by_cases k2 : x0 / 64 = 2
          · simp only [numS, if_neg k0, if_neg k1, if_pos k2]
            rcases r with _ | ⟨x1, _ | ⟨x2, _ | ⟨x3, r⟩⟩⟩
            · exact num4_short b o l.length cap a wh most x0 op w hl ha (by simp at hlen; omega) l0 u0 k2 c0
            · exact num4_short b o l.length cap a wh most x0 op w hl ha (by simp at hlen; omega) l0 u0 k2 c0
            · exact num4_short b o l.length cap a wh most x0 op w hl ha (by simp at hlen; omega) l0 u0 k2 c0
            · obtain ⟨c1, l1, u1⟩ := get 1 x1 rfl
              obtain ⟨c2, l2, u2⟩ := get 2 x2 rfl
              obtain ⟨c3, l3, u3⟩ := get 3 x3 rfl
              simp only [finN]
              by_cases hk : ((x0 % 64 * 256 + x1) * 256 + x2) * 256 + x3 < 16384
              · rw [if_pos hk]
                exact num4_kind b o l.length cap a wh most x0 x1 x2 x3 op w hl (by simp at hlen; omega) l0 u0 l1 u1 l2 u2 l3 u3 k2 hk c0 c1 c2 c3
              · rw [if_neg hk]
                by_cases hlim : most < ((x0 % 64 * 256 + x1) * 256 + x2) * 256 + x3
                · rw [if_pos hlim]
                  exact num4_limit b o l.length cap a wh most x0 x1 x2 x3 op w hl (by simp at hlen; omega) l0 u0 l1 u1 l2 u2 l3 u3 k2 (by omega) hlim c0 c1 c2 c3
                · rw [if_neg hlim]
                  exact num4_ok b o l.length cap a wh most x0 x1 x2 x3 op w hl (by simp at hlen; omega) l0 u0 l1 u1 l2 u2 l3 u3 k2 (by omega) hlim c0 c1 c2 c3
          · have k3 : x0 / 64 = 3 := by omega
            simp only [numS, if_neg k0, if_neg k1, if_neg k2]
            rcases r with _ | ⟨x1, _ | ⟨x2, _ | ⟨x3, _ | ⟨x4, _ | ⟨x5, _ | ⟨x6, _ | ⟨x7, r⟩⟩⟩⟩⟩⟩⟩
            · exact num8_short b o l.length cap a wh most x0 op w hl ha (by simp at hlen; omega) l0 u0 k3 c0
            · exact num8_short b o l.length cap a wh most x0 op w hl ha (by simp at hlen; omega) l0 u0 k3 c0
            · exact num8_short b o l.length cap a wh most x0 op w hl ha (by simp at hlen; omega) l0 u0 k3 c0
            · exact num8_short b o l.length cap a wh most x0 op w hl ha (by simp at hlen; omega) l0 u0 k3 c0
            · exact num8_short b o l.length cap a wh most x0 op w hl ha (by simp at hlen; omega) l0 u0 k3 c0
            · exact num8_short b o l.length cap a wh most x0 op w hl ha (by simp at hlen; omega) l0 u0 k3 c0
            · exact num8_short b o l.length cap a wh most x0 op w hl ha (by simp at hlen; omega) l0 u0 k3 c0
            · obtain ⟨c1, l1, u1⟩ := get 1 x1 rfl
              obtain ⟨c2, l2, u2⟩ := get 2 x2 rfl
              obtain ⟨c3, l3, u3⟩ := get 3 x3 rfl
              obtain ⟨c4, l4, u4⟩ := get 4 x4 rfl
              obtain ⟨c5, l5, u5⟩ := get 5 x5 rfl
              obtain ⟨c6, l6, u6⟩ := get 6 x6 rfl
              obtain ⟨c7, l7, u7⟩ := get 7 x7 rfl
              simp only [finN]
              generalize hN : ((((((x0 % 64 * 256 + x1) * 256 + x2) * 256 + x3) * 256 + x4) * 256 + x5) * 256 + x6) * 256 + x7 = nn
              by_cases hk : nn < 1073741824
              · rw [if_pos hk]
                exact num8_kind b o l.length cap a wh most x0 x1 x2 x3 x4 x5 x6 x7 op w hl (by simp at hlen; omega) l0 u0 l1 u1 l2 u2 l3 u3 l4 u4 l5 u5 l6 u6 l7 u7 k3 (by rw [hN]; exact hk) c0 c1 c2 c3 c4 c5 c6 c7
              · rw [if_neg hk]
                by_cases hlim : most < nn
                · rw [if_pos hlim]
                  exact num8_limit b o l.length cap a wh most x0 x1 x2 x3 x4 x5 x6 x7 op w hl (by simp at hlen; omega) l0 u0 l1 u1 l2 u2 l3 u3 l4 u4 l5 u5 l6 u6 l7 u7 k3 (by rw [hN]; omega) (by rw [hN]; exact hlim) c0 c1 c2 c3 c4 c5 c6 c7
                · rw [if_neg hlim, ← hN]
                  exact num8_ok b o l.length cap a wh most x0 x1 x2 x3 x4 x5 x6 x7 op w hl (by simp at hlen; omega) l0 u0 l1 u1 l2 u2 l3 u3 l4 u4 l5 u5 l6 u6 l7 u7 k3 (by rw [hN]; omega) (by rw [hN]; exact hlim) c0 c1 c2 c3 c4 c5 c6 c7
end Go.Proofs.YtgbcjmpnkejpeaaGreatDoor
namespace Go.Proofs.YtgbcjmpnkejpeaaGreatDoor
open Go.RowKit

theorem bad_keep (a c wh at' c' : Int) (op s : ByteArray) (w : World) (hc : (c != 0) = true) :
    Calls Tryz.prog 102 #[stv a c op wh, .string s, .int .i64 at', .int .i64 c'] w fun e w' => e = .returned (stv a c op wh) ∧ Below w.heap.size w w' := by
  unfold stv
  go_enter Tryz.func102, Tryz.ntmps102
  go_wp2
  exact bodyPost_ret (v := .agg #[.int .i64 a, .int .i64 c, .string op, .int .i64 wh]) (by simp [results, Tryz.results102, go_sem]) rfl ⟨rfl, ((Below.refl _ _).alloc (Nat.le_refl _) _).alloc (by simp) _⟩

set_option maxHeartbeats 4000000 in
theorem end_all (ao : Option Addr) (L cap a : Nat) (c wh : Int) (op : ByteArray) (w : World) (ha : L ≤ a) :
    Calls Tryz.prog 58 #[.slice ao L cap, stv a c op wh] w fun e w' => e = .returned (stv a c op wh) ∧ Below w.heap.size w w' := by
  have ha' : ¬ (a : Int) < (L : Int) := by omega
  unfold stv
  go_enter Tryz.func58, Tryz.ntmps58
  go_wp2
  exact bodyPost_ret (v := .agg #[.int .i64 a, .int .i64 c, .string op, .int .i64 wh]) (by simp [results, Tryz.results58, go_sem]) rfl ⟨rfl, ((Below.refl _ _).alloc (Nat.le_refl _) _).alloc (by simp) _⟩

set_option maxHeartbeats 4000000 in
/-- Bytes are left; r: what bad tells. -/
theorem end_left (ao : Option Addr) (L cap a : Nat) (c wh c2 wh2 : Int) (op op2 : ByteArray) (w : World) (ha : a < L)
    (HB : Hid (∀ W, Calls Tryz.prog 102 #[stv a c op wh, .string ⟨#[101, 110, 100]⟩, .int .i64 a, .int .i64 5] W fun e w' => e = .returned (stv a c2 op2 wh2) ∧ Below W.heap.size W w')) :
    Calls Tryz.prog 58 #[.slice ao L cap, stv a c op wh] w fun e w' => e = .returned (stv a c2 op2 wh2) ∧ Below w.heap.size w w' := by
  have ha' : (a : Int) < (L : Int) := by omega
  unfold stv at HB ⊢
  go_enter Tryz.func58, Tryz.ntmps58
  go_wp2_with (first | (go_at_call 102; refine (HB.out _).mono ?_; rintro e w' ⟨rfl, hb⟩; obtain ⟨hcc, hf⟩ := bcell hb))
  have q0 : w'.cell? ⟨w.heap.size + 1, 0, none⟩ = some (.int .i64 0) := by rw [hcc _ _ (by simp)]; simp
  have q1 : w'.cell? ⟨w.heap.size + 1, 1, none⟩ = some (.int .i64 0) := by rw [hcc _ _ (by simp)]; simp
  have q2 : w'.cell? ⟨w.heap.size + 1, 2, none⟩ = some (.string ⟨#[]⟩) := by rw [hcc _ _ (by simp)]; simp
  have q3 : w'.cell? ⟨w.heap.size + 1, 3, none⟩ = some (.int .i64 0) := by rw [hcc _ _ (by simp)]; simp
  have T := four_cells (x := .int .i64 a) (y := .int .i64 c2) (z := .string op2) (t := .int .i64 wh2) q0 q1 q2 q3
  have hB : Below w.heap.size w w' := (((Below.refl _ _).alloc (Nat.le_refl _) _).alloc (by simp) _).trans (hb.mono (by simp; omega))
  exact bodyPost_ret (v := .agg #[.int .i64 a, .int .i64 c2, .string op2, .int .i64 wh2]) (by simp [results, Tryz.results58, go_sem, T.1, T.2.1, T.2.2.1, T.2.2.2]) rfl ⟨rfl, (((hB.setCell (by simp) _).setCell (by simp) _).setCell (by simp) _).setCell (by simp) _⟩
end Go.Proofs.YtgbcjmpnkejpeaaGreatDoor
namespace Go.Proofs.YtgbcjmpnkejpeaaGreatDoor
open Go.RowKit

/-- What a reader's call keeps: the box of the state, the result's cells, all old memory. -/
def Kp (n : Nat) (a wh : Int) (op : ByteArray) (w W : World) : Prop :=
  W.cell? ⟨n, 0, none⟩ = some (.int .i64 a) ∧ W.cell? ⟨n, 1, none⟩ = some (.int .i64 0) ∧ W.cell? ⟨n, 2, none⟩ = some (.string op) ∧ W.cell? ⟨n, 3, none⟩ = some (.int .i64 wh) ∧
  (W.cell? ⟨n + 1, 0, none⟩ = some (.int .i64 0) ∧ W.cell? ⟨n + 1, 1, none⟩ = some (.int .i64 0) ∧ W.cell? ⟨n + 1, 2, none⟩ = some (.string ⟨#[]⟩) ∧ W.cell? ⟨n + 1, 3, none⟩ = some (.int .i64 0)) ∧
  (∀ i, W.frozen? ⟨n + 1, i, none⟩ = false) ∧ Below n w W ∧ n + 2 ≤ W.heap.size
theorem Kp.later {n : Nat} {a wh : Int} {op : ByteArray} {w W : World} {W' : World} (h : Kp n a wh op w W) (hb : Below (n + 2) W W') : Kp n a wh op w W' := by
  obtain ⟨h1, h2, h3, h4, ⟨r0, r1, r2, r3⟩, hf, hB, hz⟩ := h
  have c : ∀ k i x, k < n + 2 → W.cell? ⟨k, i, none⟩ = some x → W'.cell? ⟨k, i, none⟩ = some x := fun k i x hk hx => (hb.cell (p := ⟨k, i, none⟩) hk).trans hx
  exact ⟨c _ _ _ (by omega) h1, c _ _ _ (by omega) h2, c _ _ _ (by omega) h3, c _ _ _ (by omega) h4, ⟨c _ _ _ (by omega) r0, c _ _ _ (by omega) r1, c _ _ _ (by omega) r2, c _ _ _ (by omega) r3⟩,
    fun i => (hb.frozen (p := ⟨n + 1, i, none⟩) (by show n + 1 < n + 2; omega)).trans (hf i), hB.trans (hb.mono (by omega)), Nat.le_trans hz hb.size⟩
theorem Kp.size {n : Nat} {a wh : Int} {op : ByteArray} {w W : World} (h : Kp n a wh op w W) : n + 2 ≤ W.heap.size := h.2.2.2.2.2.2.2
theorem Kp.old {n : Nat} {a wh : Int} {op : ByteArray} {w W : World} (h : Kp n a wh op w W) : Below n w W := h.2.2.2.2.2.2.1
theorem Kp.call {n : Nat} {a wh : Int} {op : ByteArray} {w W : World} {W' : World} (h : Kp n a wh op w W) (hb : Below W.heap.size W W') : Kp n a wh op w W' := h.later (hb.mono h.size)
theorem Kp.alloc {n : Nat} {a wh : Int} {op : ByteArray} {w W : World} (h : Kp n a wh op w W) (o : Obj) : Kp n a wh op w (W.alloc o) := h.call ((Below.refl _ _).alloc (Nat.le_refl _) o)
theorem Kp.set {n : Nat} {a wh : Int} {op : ByteArray} {w W : World} {g : Nat} {x y z t : Value} (h : Kp n a wh op w W) (hg : n + 2 ≤ g) : Kp n a wh op w ((((W.setCell ⟨g, 0, none⟩ x).setCell ⟨g, 1, none⟩ y).setCell ⟨g, 2, none⟩ z).setCell ⟨g, 3, none⟩ t) :=
  h.later (((((Below.refl _ _).setCell (by exact hg) _).setCell (by exact hg) _).setCell (by exact hg) _).setCell (by exact hg) _)
theorem Kp.S {n : Nat} {a wh : Int} {op : ByteArray} {w W : World} (h : Kp n a wh op w W) : W.cell? ⟨n, 0, none⟩ = some (.int .i64 a) ∧ W.cell? ⟨n, 1, none⟩ = some (.int .i64 0) ∧ W.cell? ⟨n, 2, none⟩ = some (.string op) ∧ W.cell? ⟨n, 3, none⟩ = some (.int .i64 wh) ∧ Kp n a wh op w W := ⟨h.1, h.2.1, h.2.2.1, h.2.2.2.1, h⟩
theorem kpOf {n : Nat} {a wh : Int} {op : ByteArray} {w W : World} (h : W.cell? ⟨n, 0, none⟩ = some (.int .i64 a) ∧ W.cell? ⟨n, 1, none⟩ = some (.int .i64 0) ∧ W.cell? ⟨n, 2, none⟩ = some (.string op) ∧ W.cell? ⟨n, 3, none⟩ = some (.int .i64 wh) ∧ Kp n a wh op w W) : Kp n a wh op w W := h.2.2.2.2
theorem kS_call {n : Nat} {a wh : Int} {op : ByteArray} {w W : World} {W' : World} (hb : Below W.heap.size W W') (h : W.cell? ⟨n, 0, none⟩ = some (.int .i64 a) ∧ W.cell? ⟨n, 1, none⟩ = some (.int .i64 0) ∧ W.cell? ⟨n, 2, none⟩ = some (.string op) ∧ W.cell? ⟨n, 3, none⟩ = some (.int .i64 wh) ∧ Kp n a wh op w W) : W'.cell? ⟨n, 0, none⟩ = some (.int .i64 a) ∧ W'.cell? ⟨n, 1, none⟩ = some (.int .i64 0) ∧ W'.cell? ⟨n, 2, none⟩ = some (.string op) ∧ W'.cell? ⟨n, 3, none⟩ = some (.int .i64 wh) ∧ Kp n a wh op w W' := ((kpOf h).call hb).S
theorem kS_alloc {n : Nat} {a wh : Int} {op : ByteArray} {w W : World} {o : Obj} (h : W.cell? ⟨n, 0, none⟩ = some (.int .i64 a) ∧ W.cell? ⟨n, 1, none⟩ = some (.int .i64 0) ∧ W.cell? ⟨n, 2, none⟩ = some (.string op) ∧ W.cell? ⟨n, 3, none⟩ = some (.int .i64 wh) ∧ Kp n a wh op w W) : (W.alloc o).cell? ⟨n, 0, none⟩ = some (.int .i64 a) ∧ (W.alloc o).cell? ⟨n, 1, none⟩ = some (.int .i64 0) ∧ (W.alloc o).cell? ⟨n, 2, none⟩ = some (.string op) ∧ (W.alloc o).cell? ⟨n, 3, none⟩ = some (.int .i64 wh) ∧ Kp n a wh op w (W.alloc o) := ((kpOf h).alloc o).S
theorem kS_set {n : Nat} {a wh : Int} {op : ByteArray} {w W : World} {g : Nat} {x y z t : Value} (hg : n + 2 ≤ g) (h : W.cell? ⟨n, 0, none⟩ = some (.int .i64 a) ∧ W.cell? ⟨n, 1, none⟩ = some (.int .i64 0) ∧ W.cell? ⟨n, 2, none⟩ = some (.string op) ∧ W.cell? ⟨n, 3, none⟩ = some (.int .i64 wh) ∧ Kp n a wh op w W) : ((((W.setCell ⟨g, 0, none⟩ x).setCell ⟨g, 1, none⟩ y).setCell ⟨g, 2, none⟩ z).setCell ⟨g, 3, none⟩ t).cell? ⟨n, 0, none⟩ = some (.int .i64 a) ∧ ((((W.setCell ⟨g, 0, none⟩ x).setCell ⟨g, 1, none⟩ y).setCell ⟨g, 2, none⟩ z).setCell ⟨g, 3, none⟩ t).cell? ⟨n, 1, none⟩ = some (.int .i64 0) ∧ ((((W.setCell ⟨g, 0, none⟩ x).setCell ⟨g, 1, none⟩ y).setCell ⟨g, 2, none⟩ z).setCell ⟨g, 3, none⟩ t).cell? ⟨n, 2, none⟩ = some (.string op) ∧ ((((W.setCell ⟨g, 0, none⟩ x).setCell ⟨g, 1, none⟩ y).setCell ⟨g, 2, none⟩ z).setCell ⟨g, 3, none⟩ t).cell? ⟨n, 3, none⟩ = some (.int .i64 wh) ∧ Kp n a wh op w ((((W.setCell ⟨g, 0, none⟩ x).setCell ⟨g, 1, none⟩ y).setCell ⟨g, 2, none⟩ z).setCell ⟨g, 3, none⟩ t) := ((kpOf h).set hg).S

set_option maxRecDepth 100000 in
set_option maxHeartbeats 8000000 in
theorem text_bad (v : Value) (l : List Int) (a wh m M A C WH nn : Int) (op OP : ByteArray) (w : World) (hv : Sl bc w (v) l) (hC : (C != 0) = true)
    (H15 : Hid (∀ W, Calls Tryz.prog 122 #[.int .i64 m] W fun e w' => e = .returned (.int .u64 M) ∧ w' = W))
    (H14 : Hid (∀ W, Sl bc W (v) l → Calls Tryz.prog 121 #[v, .agg #[.int .i64 a, .int .i64 0, .string op, .int .i64 wh], .int .u64 M] W fun e w' => e = .returned (.tuple #[.agg #[.int .i64 A, .int .i64 C, .string OP, .int .i64 WH], .int .u64 nn]) ∧ Below W.heap.size W w')) :
    Calls Tryz.prog 123 #[v, .agg #[.int .i64 a, .int .i64 0, .string op, .int .i64 wh], .int .i64 m] w fun e w' => e = .returned (.tuple #[.agg #[.int .i64 A, .int .i64 C, .string OP, .int .i64 WH], .slice none 0 0]) ∧ Below w.heap.size w w' := by
  have HV := hide hv
  clear hv
  go_enter Tryz.func123, Tryz.ntmps123
  go_upto_region 1 with fail
  go_cut [8, 9] (fun p k W => ∃ g, p = .pointer (some ⟨g, 0, none⟩) ∧ k = .int .u64 nn ∧ (W.cell? ⟨g, 0, none⟩ = some (.int .i64 A) ∧ W.cell? ⟨g, 1, none⟩ = some (.int .i64 C) ∧ W.cell? ⟨g, 2, none⟩ = some (.string OP) ∧ W.cell? ⟨g, 3, none⟩ = some (.int .i64 WH)) ∧ w.heap.size + 2 ≤ g ∧ Kp w.heap.size a wh op w W)
  case first =>
    have k0 : Kp w.heap.size a wh op w ((w.alloc (.cells #[.int .i64 a, .int .i64 0, .string op, .int .i64 wh] 29)).alloc (.cells #[.int .i64 0, .int .i64 0, .string ⟨#[]⟩, .int .i64 0] 29)) :=
      ⟨by simp, by simp, by simp, by simp, ⟨by simp, by simp, by simp, by simp⟩, fun i => World.frozen?_alloc_at _ _ _ _ (by simp), ((Below.refl _ _).alloc (Nat.le_refl _) _).alloc (by simp) _, by simp⟩
    have K0 := hide k0
    clear k0
    go_region_held3 (fun W => W.cell? ⟨w.heap.size, 0, none⟩ = some (.int .i64 a) ∧ W.cell? ⟨w.heap.size, 1, none⟩ = some (.int .i64 0) ∧ W.cell? ⟨w.heap.size, 2, none⟩ = some (.string op) ∧ W.cell? ⟨w.heap.size, 3, none⟩ = some (.int .i64 wh) ∧ Kp w.heap.size a wh op w W)
      (first | with_reducible assumption | with_reducible exact kS_call (by assumption) (by assumption) | with_reducible exact kS_alloc (by assumption) | with_reducible exact (KW.out.alloc _).S | with_reducible exact kS_set (by simp) (by assumption) | with_reducible exact kS_call (Below.refl _ _).drew (K0.out.alloc _).S | with_reducible exact kS_call (Below.refl _ _).drew K0.out.S)
      (first
        | (go_at_call 122; refine (H15.out _).mono ?_; rintro e w' ⟨rfl, rfl⟩)
        | (go_at_call 121; refine (H14.out _ ?_).mono ?_; exact HV.out.below (kpOf (n := w.heap.size) (a := a) (wh := wh) (op := op) (w := w) (by assumption)).old; rintro e w' ⟨rfl, hb⟩; obtain ⟨hcc, hf⟩ := bcell hb; have KW := hide (kpOf (n := w.heap.size) (a := a) (wh := wh) (op := op) (w := w) (kS_call hb (by assumption)))))
    all_goals go_wp2_with fail
    all_goals go_meet
    · exact ⟨_, rfl, rfl, ⟨by simp, by simp, by simp, by simp⟩, KW.out.size, KW.out.alloc _⟩
    all_goals
      have q0 : w'.cell? ⟨w.heap.size + 1 + 1, 0, none⟩ = some (.int .i64 0) := by rw [hcc _ _ (by simp)]; simp [go_sem]
      have q1 : w'.cell? ⟨w.heap.size + 1 + 1, 1, none⟩ = some (.int .i64 0) := by rw [hcc _ _ (by simp)]; simp [go_sem]
      have q2 : w'.cell? ⟨w.heap.size + 1 + 1, 2, none⟩ = some (.string ⟨#[]⟩) := by rw [hcc _ _ (by simp)]; simp [go_sem]
      have q3 : w'.cell? ⟨w.heap.size + 1 + 1, 3, none⟩ = some (.int .i64 0) := by rw [hcc _ _ (by simp)]; simp [go_sem]
      have T := four_cells (x := .int .i64 A) (y := .int .i64 C) (z := .string OP) (t := .int .i64 WH) q0 q1 q2 q3
      exact ⟨_, rfl, rfl, ⟨T.1, T.2.1, T.2.2.1, T.2.2.2⟩, by simp, KW.out.set (by simp)⟩
  case rest =>
    obtain ⟨g, rfl, rfl, ⟨c0, c1, c2, c3⟩, hg, kp⟩ := hcut
    have hne : ¬ w.heap.size + 1 = g := by omega
    have hne2 : ¬ g = w.heap.size + 1 := by omega
    obtain ⟨b0, b1, b2, b3, ⟨r0, r1, r2, r3⟩, hfz, hB, hz⟩ := kp
    have f0 := hfz 0
    have f1 := hfz 1
    have f2 := hfz 2
    have f3 := hfz 3
    clear hfz H14 H15
    go_wp2
    have T := four_cells (x := .int .i64 A) (y := .int .i64 C) (z := .string OP) (t := .int .i64 WH) r0 r1 r2 r3
    exact bodyPost_ret (v := .tuple #[.agg #[.int .i64 A, .int .i64 C, .string OP, .int .i64 WH], .slice none 0 0]) (by simp [results, Tryz.results123, go_sem, T.1, T.2.1, T.2.2.1, T.2.2.2]) rfl ⟨rfl, (((hB.setCell (by simp) _).setCell (by simp) _).setCell (by simp) _).setCell (by simp) _⟩

set_option maxRecDepth 100000 in
set_option maxHeartbeats 8000000 in
theorem text_ok (b o L cap : Nat) (l : List Int) (a wh m M A WH nn : Int) (op OP : ByteArray) (w : World) (hv : Sl bc w (.slice (some ⟨b, o, none⟩) L cap) l) (hL : L ≤ 4000) (hc : L ≤ cap) (hA : 0 ≤ A) (hn : 0 ≤ nn) (hfit : A + nn ≤ L) (hcap : ¬ cap = A.toNat)
    (H15 : Hid (∀ W, Calls Tryz.prog 122 #[.int .i64 m] W fun e w' => e = .returned (.int .u64 M) ∧ w' = W))
    (H14 : Hid (∀ W, Sl bc W (.slice (some ⟨b, o, none⟩) L cap) l → Calls Tryz.prog 121 #[.slice (some ⟨b, o, none⟩) L cap, .agg #[.int .i64 a, .int .i64 0, .string op, .int .i64 wh], .int .u64 M] W fun e w' => e = .returned (.tuple #[.agg #[.int .i64 A, .int .i64 0, .string OP, .int .i64 WH], .int .u64 nn]) ∧ Below W.heap.size W w')) :
    Calls Tryz.prog 123 #[.slice (some ⟨b, o, none⟩) L cap, .agg #[.int .i64 a, .int .i64 0, .string op, .int .i64 wh], .int .i64 m] w fun e w' => e = .returned (.tuple #[.agg #[.int .i64 (A + nn), .int .i64 0, .string ⟨#[]⟩, .int .i64 0], .slice (some ⟨b, o + A.toNat, none⟩) ((A + nn).toNat - A.toNat) (cap - A.toNat)]) ∧ Below w.heap.size w w' := by
  have HV := hide hv
  clear hv
  go_enter Tryz.func123, Tryz.ntmps123
  go_upto_region 1 with fail
  go_cut [8, 9] (fun p k W => ∃ g, p = .pointer (some ⟨g, 0, none⟩) ∧ k = .int .u64 nn ∧ (W.cell? ⟨g, 0, none⟩ = some (.int .i64 A) ∧ W.cell? ⟨g, 1, none⟩ = some (.int .i64 0) ∧ W.cell? ⟨g, 2, none⟩ = some (.string OP) ∧ W.cell? ⟨g, 3, none⟩ = some (.int .i64 WH)) ∧ w.heap.size + 2 ≤ g ∧ Kp w.heap.size a wh op w W)
  case first =>
    have k0 : Kp w.heap.size a wh op w ((w.alloc (.cells #[.int .i64 a, .int .i64 0, .string op, .int .i64 wh] 29)).alloc (.cells #[.int .i64 0, .int .i64 0, .string ⟨#[]⟩, .int .i64 0] 29)) :=
      ⟨by simp, by simp, by simp, by simp, ⟨by simp, by simp, by simp, by simp⟩, fun i => World.frozen?_alloc_at _ _ _ _ (by simp), ((Below.refl _ _).alloc (Nat.le_refl _) _).alloc (by simp) _, by simp⟩
    have K0 := hide k0
    clear k0
    go_region_held3 (fun W => W.cell? ⟨w.heap.size, 0, none⟩ = some (.int .i64 a) ∧ W.cell? ⟨w.heap.size, 1, none⟩ = some (.int .i64 0) ∧ W.cell? ⟨w.heap.size, 2, none⟩ = some (.string op) ∧ W.cell? ⟨w.heap.size, 3, none⟩ = some (.int .i64 wh) ∧ Kp w.heap.size a wh op w W)
      (first | with_reducible assumption | with_reducible exact kS_call (by assumption) (by assumption) | with_reducible exact kS_alloc (by assumption) | with_reducible exact (KW.out.alloc _).S | with_reducible exact kS_set (by simp) (by assumption) | with_reducible exact kS_call (Below.refl _ _).drew (K0.out.alloc _).S | with_reducible exact kS_call (Below.refl _ _).drew K0.out.S)
      (first
        | (go_at_call 122; refine (H15.out _).mono ?_; rintro e w' ⟨rfl, rfl⟩)
        | (go_at_call 121; refine (H14.out _ ?_).mono ?_; exact HV.out.below (kpOf (n := w.heap.size) (a := a) (wh := wh) (op := op) (w := w) (by assumption)).old; rintro e w' ⟨rfl, hb⟩; obtain ⟨hcc, hf⟩ := bcell hb; have KW := hide (kpOf (n := w.heap.size) (a := a) (wh := wh) (op := op) (w := w) (kS_call hb (by assumption)))))
    all_goals go_wp2_with fail
    all_goals go_meet
    · exact ⟨_, rfl, rfl, ⟨by simp, by simp, by simp, by simp⟩, KW.out.size, KW.out.alloc _⟩
    all_goals
      have q0 : w'.cell? ⟨w.heap.size + 1 + 1, 0, none⟩ = some (.int .i64 0) := by rw [hcc _ _ (by simp)]; simp [go_sem]
      have q1 : w'.cell? ⟨w.heap.size + 1 + 1, 1, none⟩ = some (.int .i64 0) := by rw [hcc _ _ (by simp)]; simp [go_sem]
      have q2 : w'.cell? ⟨w.heap.size + 1 + 1, 2, none⟩ = some (.string ⟨#[]⟩) := by rw [hcc _ _ (by simp)]; simp [go_sem]
      have q3 : w'.cell? ⟨w.heap.size + 1 + 1, 3, none⟩ = some (.int .i64 0) := by rw [hcc _ _ (by simp)]; simp [go_sem]
      have T := four_cells (x := .int .i64 A) (y := .int .i64 0) (z := .string OP) (t := .int .i64 WH) q0 q1 q2 q3
      exact ⟨_, rfl, rfl, ⟨T.1, T.2.1, T.2.2.1, T.2.2.2⟩, by simp, KW.out.set (by simp)⟩
  case rest =>
    obtain ⟨g, rfl, rfl, ⟨c0, c1, c2, c3⟩, hg, kp⟩ := hcut
    have hne : ¬ w.heap.size + 1 = g := by omega
    have hne2 : ¬ g = w.heap.size + 1 := by omega
    obtain ⟨b0, b1, b2, b3, ⟨r0, r1, r2, r3⟩, hfz, hB, hz⟩ := kp
    have f0 := hfz 0
    have f1 := hfz 1
    have f2 := hfz 2
    have f3 := hfz 3
    clear hfz H14 H15
    go_wp2
    go_region
    go_wp2
    have T := four_cells (x := .int .i64 (A + nn)) (y := .int .i64 0) (z := .string ⟨#[]⟩) (t := .int .i64 0) r0 r1 r2 r3
    exact bodyPost_ret (v := .tuple #[.agg #[.int .i64 (A + nn), .int .i64 0, .string ⟨#[]⟩, .int .i64 0], .slice (some ⟨b, o + A.toNat, none⟩) ((A + nn).toNat - A.toNat) (cap - A.toNat)]) (by simp [results, Tryz.results123, go_sem, T.1, T.2.1, T.2.2.1, T.2.2.2]) rfl ⟨rfl, ((((hB.setCell (by simp) _).setCell (by simp) _).setCell (by simp) _).setCell (by simp) _).drew⟩

set_option maxRecDepth 100000 in
set_option maxHeartbeats 8000000 in
theorem text_short (b o L cap : Nat) (l : List Int) (a wh m M A WH nn : Int) (op OP : ByteArray) (w : World) (hv : Sl bc w (.slice (some ⟨b, o, none⟩) L cap) l) (hL : L ≤ 4000) (hA : 0 ≤ A) (_hn : 0 ≤ nn) (hAL : A ≤ L) (hfit : L - A < nn)
    (H15 : Hid (∀ W, Calls Tryz.prog 122 #[.int .i64 m] W fun e w' => e = .returned (.int .u64 M) ∧ w' = W))
    (H14 : Hid (∀ W, Sl bc W (.slice (some ⟨b, o, none⟩) L cap) l → Calls Tryz.prog 121 #[.slice (some ⟨b, o, none⟩) L cap, .agg #[.int .i64 a, .int .i64 0, .string op, .int .i64 wh], .int .u64 M] W fun e w' => e = .returned (.tuple #[.agg #[.int .i64 A, .int .i64 0, .string OP, .int .i64 WH], .int .u64 nn]) ∧ Below W.heap.size W w')) :
    Calls Tryz.prog 123 #[.slice (some ⟨b, o, none⟩) L cap, .agg #[.int .i64 a, .int .i64 0, .string op, .int .i64 wh], .int .i64 m] w fun e w' => e = .returned (.tuple #[.agg #[.int .i64 a, .int .i64 3, .string ⟨#[116, 101, 120, 116]⟩, .int .i64 a], .slice none 0 0]) ∧ Below w.heap.size w w' := by
  have HB := hide (fun W => bad_any a 0 0 a 3 ⟨#[]⟩ ⟨#[116, 101, 120, 116]⟩ W rfl)
  unfold stv at HB
  have HV := hide hv
  clear hv
  go_enter Tryz.func123, Tryz.ntmps123
  go_upto_region 1 with fail
  go_cut [8, 9] (fun p k W => ∃ g, p = .pointer (some ⟨g, 0, none⟩) ∧ k = .int .u64 nn ∧ (W.cell? ⟨g, 0, none⟩ = some (.int .i64 A) ∧ W.cell? ⟨g, 1, none⟩ = some (.int .i64 0) ∧ W.cell? ⟨g, 2, none⟩ = some (.string OP) ∧ W.cell? ⟨g, 3, none⟩ = some (.int .i64 WH)) ∧ w.heap.size + 2 ≤ g ∧ Kp w.heap.size a wh op w W)
  case first =>
    have k0 : Kp w.heap.size a wh op w ((w.alloc (.cells #[.int .i64 a, .int .i64 0, .string op, .int .i64 wh] 29)).alloc (.cells #[.int .i64 0, .int .i64 0, .string ⟨#[]⟩, .int .i64 0] 29)) :=
      ⟨by simp, by simp, by simp, by simp, ⟨by simp, by simp, by simp, by simp⟩, fun i => World.frozen?_alloc_at _ _ _ _ (by simp), ((Below.refl _ _).alloc (Nat.le_refl _) _).alloc (by simp) _, by simp⟩
    have K0 := hide k0
    clear k0
    go_region_held3 (fun W => W.cell? ⟨w.heap.size, 0, none⟩ = some (.int .i64 a) ∧ W.cell? ⟨w.heap.size, 1, none⟩ = some (.int .i64 0) ∧ W.cell? ⟨w.heap.size, 2, none⟩ = some (.string op) ∧ W.cell? ⟨w.heap.size, 3, none⟩ = some (.int .i64 wh) ∧ Kp w.heap.size a wh op w W)
      (first | with_reducible assumption | with_reducible exact kS_call (by assumption) (by assumption) | with_reducible exact kS_alloc (by assumption) | with_reducible exact (KW.out.alloc _).S | with_reducible exact kS_set (by simp) (by assumption) | with_reducible exact kS_call (Below.refl _ _).drew (K0.out.alloc _).S | with_reducible exact kS_call (Below.refl _ _).drew K0.out.S)
      (first
        | (go_at_call 122; refine (H15.out _).mono ?_; rintro e w' ⟨rfl, rfl⟩)
        | (go_at_call 121; refine (H14.out _ ?_).mono ?_; exact HV.out.below (kpOf (n := w.heap.size) (a := a) (wh := wh) (op := op) (w := w) (by assumption)).old; rintro e w' ⟨rfl, hb⟩; obtain ⟨hcc, hf⟩ := bcell hb; have KW := hide (kpOf (n := w.heap.size) (a := a) (wh := wh) (op := op) (w := w) (kS_call hb (by assumption)))))
    all_goals go_wp2_with fail
    all_goals go_meet
    · exact ⟨_, rfl, rfl, ⟨by simp, by simp, by simp, by simp⟩, KW.out.size, KW.out.alloc _⟩
    all_goals
      have q0 : w'.cell? ⟨w.heap.size + 1 + 1, 0, none⟩ = some (.int .i64 0) := by rw [hcc _ _ (by simp)]; simp [go_sem]
      have q1 : w'.cell? ⟨w.heap.size + 1 + 1, 1, none⟩ = some (.int .i64 0) := by rw [hcc _ _ (by simp)]; simp [go_sem]
      have q2 : w'.cell? ⟨w.heap.size + 1 + 1, 2, none⟩ = some (.string ⟨#[]⟩) := by rw [hcc _ _ (by simp)]; simp [go_sem]
      have q3 : w'.cell? ⟨w.heap.size + 1 + 1, 3, none⟩ = some (.int .i64 0) := by rw [hcc _ _ (by simp)]; simp [go_sem]
      have T := four_cells (x := .int .i64 A) (y := .int .i64 0) (z := .string OP) (t := .int .i64 WH) q0 q1 q2 q3
      exact ⟨_, rfl, rfl, ⟨T.1, T.2.1, T.2.2.1, T.2.2.2⟩, by simp, KW.out.set (by simp)⟩
  case rest =>
    obtain ⟨g, rfl, rfl, ⟨c0, c1, c2, c3⟩, hg, kp⟩ := hcut
    have hne : ¬ w.heap.size + 1 = g := by omega
    have hne2 : ¬ g = w.heap.size + 1 := by omega
    obtain ⟨b0, b1, b2, b3, ⟨r0, r1, r2, r3⟩, hfz, hB, hz⟩ := kp
    have f0 := hfz 0
    have f1 := hfz 1
    have f2 := hfz 2
    have f3 := hfz 3
    clear hfz H14 H15
    have hz1 : w.heap.size + 1 < wc.heap.size := by omega
    go_wp2_with (first | (go_at_call 102; refine (HB.out _).mono ?_; rintro e w' ⟨rfl, hb⟩; obtain ⟨hcc, hf⟩ := bcell hb))
    have q : ∀ i x, wc.cell? ⟨w.heap.size + 1, i, none⟩ = some x → w'.cell? ⟨w.heap.size + 1, i, none⟩ = some x := fun i x hx => (hcc _ _ hz1).trans hx
    have T := four_cells (x := .int .i64 a) (y := .int .i64 3) (z := .string ⟨#[116, 101, 120, 116]⟩) (t := .int .i64 a) (q _ _ r0) (q _ _ r1) (q _ _ r2) (q _ _ r3)
    have hB2 : Below w.heap.size w w' := hB.trans (hb.mono (by omega))
    exact bodyPost_ret (v := .tuple #[.agg #[.int .i64 a, .int .i64 3, .string ⟨#[116, 101, 120, 116]⟩, .int .i64 a], .slice none 0 0]) (by simp [results, Tryz.results123, go_sem, T.1, T.2.1, T.2.2.1, T.2.2.2]) rfl ⟨rfl, (((hB2.setCell (by simp) _).setCell (by simp) _).setCell (by simp) _).setCell (by simp) _⟩
end Go.Proofs.YtgbcjmpnkejpeaaGreatDoor
