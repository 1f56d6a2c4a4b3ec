/-
  THE DOCUMENT's NEXT NUMBER, as one function of the bytes, the place and the limit (castellanref02.num). Conditions: the bytes' cells hold them, each is a byte, and no more than four thousand.
  THE DOCUMENT's End (castellanref02.End), and its bad where something is wrong already. Condition: no more than four thousand bytes.
-/
import Derived.Test.YtgbcjmpnkejpeaaGreatDoorJRefRead
namespace Go.Proofs.YtgbcjmpnkejpeaaGreatDoor
open Go.RowKit

/-- The state and the number behind it. -/
def stN (a : Nat) (r : Int × Nat × Int) : Value := .tuple #[if r.1 = 0 then stv (a + r.2.1 : Nat) 0 ⟨#[]⟩ 0 else stv a r.1 ⟨#[110, 117, 109]⟩ a, .int .u64 r.2.2]

theorem drop_at {l r : List Int} {a i : Nat} {x : Int} (h : l.drop a = r) (hi : r[i]? = some x) : ∃ hlt : a + i < l.length, l[a + i] = x := by
  rw [← h, List.getElem?_drop] at hi
  obtain ⟨h1, h2⟩ := List.getElem?_eq_some_iff.1 hi
  exact ⟨h1, h2⟩
theorem drop_len {l r : List Int} {a : Nat} (h : l.drop a = r) : r.length = l.length - a := by rw [← h, List.length_drop]

theorem num_next (v : Value) (l : List Int) (a : Nat) (wh most : Int) (op : ByteArray) (w : World) (hv : Sl bc w v l) (hl : l.length ≤ 4000) (hby : ∀ x ∈ l, 0 ≤ x ∧ x ≤ 255) :
    Calls Tryz.prog 121 #[v, stv a 0 op wh, .int .u64 most] w fun e w' => e = .returned (stN a (numS (l.drop a) most)) ∧ Below w.heap.size w w' := by
  generalize hr : l.drop a = r
  have hlen := drop_len hr
  rcases r with _ | ⟨x0, r⟩
  · obtain ⟨ao, cap, rfl⟩ := hv.form
    exact num_none ao l.length cap a wh most op w (by simp at hlen; omega)
  · rcases hv with ⟨ao, cap, rfl, rfl⟩ | ⟨b, o, cap, rfl, _, h3⟩
    · simp at hr
    · have get : ∀ i x, (x0 :: r)[i]? = some x → w.cell? ⟨b, o + (a + i), none⟩ = some (.int .u8 x) ∧ 0 ≤ x ∧ x ≤ 255 := by
        intro i x hx
        obtain ⟨h1, h2⟩ := drop_at hr hx
        have h4 := h3 (a + i) h1
        rw [h2] at h4
        exact ⟨h4, hby x (by rw [← h2]; exact List.getElem_mem h1)⟩
      obtain ⟨c0, l0, u0⟩ := get 0 x0 rfl
      have ha : a < l.length := by simp at hlen; omega
      simp only [Nat.add_zero] at c0
      by_cases k0 : x0 / 64 = 0
      · simp only [numS, if_pos k0, finN, if_neg (show ¬ x0 % 64 < 0 by omega)]
        by_cases hlim : most < x0 % 64
        · rw [if_pos hlim]
          exact num1_limit b o l.length cap a wh most x0 op w hl (by omega) l0 u0 k0 hlim c0
        · rw [if_neg hlim]
          exact num1_ok b o l.length cap a wh most x0 op w hl (by omega) l0 u0 k0 hlim c0
      · by_cases k1 : x0 / 64 = 1
        · simp only [numS, if_neg k0, if_pos k1]
          rcases r with _ | ⟨x1, r⟩
          · exact num2_short b o l.length cap a wh most x0 op w hl ha (by simp at hlen; omega) l0 u0 k1 c0
          · obtain ⟨c1, l1, u1⟩ := get 1 x1 rfl
            simp only [finN]
            by_cases hk : x0 % 64 * 256 + x1 < 64
            · rw [if_pos hk]
              exact num2_kind b o l.length cap a wh most x0 x1 op w hl (by simp at hlen; omega) l0 u0 l1 u1 k1 hk c0 c1
            · rw [if_neg hk]
              by_cases hlim : most < x0 % 64 * 256 + x1
              · rw [if_pos hlim]
                exact num2_limit b o l.length cap a wh most x0 x1 op w hl (by simp at hlen; omega) l0 u0 l1 u1 k1 (by omega) hlim c0 c1
              · rw [if_neg hlim]
                exact num2_ok b o l.length cap a wh most x0 x1 op w hl (by simp at hlen; omega) l0 u0 l1 u1 k1 (by omega) hlim c0 c1
        · by_cases k2 : x0 / 64 = 2
          · simp only [numS, if_neg k0, if_neg k1, if_pos k2]
            rcases r with _ | ⟨x1, _ | ⟨x2, _ | ⟨x3, r⟩⟩⟩
            · exact num4_short b o l.length cap a wh most x0 op w hl ha (by simp at hlen; omega) l0 u0 k2 c0
            · exact num4_short b o l.length cap a wh most x0 op w hl ha (by simp at hlen; omega) l0 u0 k2 c0
            · exact num4_short b o l.length cap a wh most x0 op w hl ha (by simp at hlen; omega) l0 u0 k2 c0
            · obtain ⟨c1, l1, u1⟩ := get 1 x1 rfl
              obtain ⟨c2, l2, u2⟩ := get 2 x2 rfl
              obtain ⟨c3, l3, u3⟩ := get 3 x3 rfl
              simp only [finN]
              by_cases hk : ((x0 % 64 * 256 + x1) * 256 + x2) * 256 + x3 < 16384
              · rw [if_pos hk]
                exact num4_kind b o l.length cap a wh most x0 x1 x2 x3 op w hl (by simp at hlen; omega) l0 u0 l1 u1 l2 u2 l3 u3 k2 hk c0 c1 c2 c3
              · rw [if_neg hk]
                by_cases hlim : most < ((x0 % 64 * 256 + x1) * 256 + x2) * 256 + x3
                · rw [if_pos hlim]
                  exact num4_limit b o l.length cap a wh most x0 x1 x2 x3 op w hl (by simp at hlen; omega) l0 u0 l1 u1 l2 u2 l3 u3 k2 (by omega) hlim c0 c1 c2 c3
                · rw [if_neg hlim]
                  exact num4_ok b o l.length cap a wh most x0 x1 x2 x3 op w hl (by simp at hlen; omega) l0 u0 l1 u1 l2 u2 l3 u3 k2 (by omega) hlim c0 c1 c2 c3
          · have k3 : x0 / 64 = 3 := by omega
            simp only [numS, if_neg k0, if_neg k1, if_neg k2]
            rcases r with _ | ⟨x1, _ | ⟨x2, _ | ⟨x3, _ | ⟨x4, _ | ⟨x5, _ | ⟨x6, _ | ⟨x7, r⟩⟩⟩⟩⟩⟩⟩
            · exact num8_short b o l.length cap a wh most x0 op w hl ha (by simp at hlen; omega) l0 u0 k3 c0
            · exact num8_short b o l.length cap a wh most x0 op w hl ha (by simp at hlen; omega) l0 u0 k3 c0
            · exact num8_short b o l.length cap a wh most x0 op w hl ha (by simp at hlen; omega) l0 u0 k3 c0
            · exact num8_short b o l.length cap a wh most x0 op w hl ha (by simp at hlen; omega) l0 u0 k3 c0
            · exact num8_short b o l.length cap a wh most x0 op w hl ha (by simp at hlen; omega) l0 u0 k3 c0
            · exact num8_short b o l.length cap a wh most x0 op w hl ha (by simp at hlen; omega) l0 u0 k3 c0
            · exact num8_short b o l.length cap a wh most x0 op w hl ha (by simp at hlen; omega) l0 u0 k3 c0
            · obtain ⟨c1, l1, u1⟩ := get 1 x1 rfl
              obtain ⟨c2, l2, u2⟩ := get 2 x2 rfl
              obtain ⟨c3, l3, u3⟩ := get 3 x3 rfl
              obtain ⟨c4, l4, u4⟩ := get 4 x4 rfl
              obtain ⟨c5, l5, u5⟩ := get 5 x5 rfl
              obtain ⟨c6, l6, u6⟩ := get 6 x6 rfl
              obtain ⟨c7, l7, u7⟩ := get 7 x7 rfl
              simp only [finN]
              generalize hN : ((((((x0 % 64 * 256 + x1) * 256 + x2) * 256 + x3) * 256 + x4) * 256 + x5) * 256 + x6) * 256 + x7 = nn
              by_cases hk : nn < 1073741824
              · rw [if_pos hk]
                exact num8_kind b o l.length cap a wh most x0 x1 x2 x3 x4 x5 x6 x7 op w hl (by simp at hlen; omega) l0 u0 l1 u1 l2 u2 l3 u3 l4 u4 l5 u5 l6 u6 l7 u7 k3 (by rw [hN]; exact hk) c0 c1 c2 c3 c4 c5 c6 c7
              · rw [if_neg hk]
                by_cases hlim : most < nn
                · rw [if_pos hlim]
                  exact num8_limit b o l.length cap a wh most x0 x1 x2 x3 x4 x5 x6 x7 op w hl (by simp at hlen; omega) l0 u0 l1 u1 l2 u2 l3 u3 l4 u4 l5 u5 l6 u6 l7 u7 k3 (by rw [hN]; omega) (by rw [hN]; exact hlim) c0 c1 c2 c3 c4 c5 c6 c7
                · rw [if_neg hlim, ← hN]
                  exact num8_ok b o l.length cap a wh most x0 x1 x2 x3 x4 x5 x6 x7 op w hl (by simp at hlen; omega) l0 u0 l1 u1 l2 u2 l3 u3 l4 u4 l5 u5 l6 u6 l7 u7 k3 (by rw [hN]; omega) (by rw [hN]; exact hlim) c0 c1 c2 c3 c4 c5 c6 c7
end Go.Proofs.YtgbcjmpnkejpeaaGreatDoor
namespace Go.Proofs.YtgbcjmpnkejpeaaGreatDoor
open Go.RowKit

theorem bad_keep (a c wh at' c' : Int) (op s : ByteArray) (w : World) (hc : (c != 0) = true) :
    Calls Tryz.prog 102 #[stv a c op wh, .string s, .int .i64 at', .int .i64 c'] w fun e w' => e = .returned (stv a c op wh) ∧ Below w.heap.size w w' := by
  unfold stv
  go_enter Tryz.func102, Tryz.ntmps102
  go_wp2
  exact bodyPost_ret (v := .agg #[.int .i64 a, .int .i64 c, .string op, .int .i64 wh]) (by simp [results, Tryz.results102, go_sem]) rfl ⟨rfl, ((Below.refl _ _).alloc (Nat.le_refl _) _).alloc (by simp) _⟩

set_option maxHeartbeats 4000000 in
theorem end_all (ao : Option Addr) (L cap a : Nat) (c wh : Int) (op : ByteArray) (w : World) (ha : L ≤ a) :
    Calls Tryz.prog 58 #[.slice ao L cap, stv a c op wh] w fun e w' => e = .returned (stv a c op wh) ∧ Below w.heap.size w w' := by
  have ha' : ¬ (a : Int) < (L : Int) := by omega
  unfold stv
  go_enter Tryz.func58, Tryz.ntmps58
  go_wp2
  exact bodyPost_ret (v := .agg #[.int .i64 a, .int .i64 c, .string op, .int .i64 wh]) (by simp [results, Tryz.results58, go_sem]) rfl ⟨rfl, ((Below.refl _ _).alloc (Nat.le_refl _) _).alloc (by simp) _⟩

set_option maxHeartbeats 4000000 in
/-- Bytes are left; r: what bad tells. -/
theorem end_left (ao : Option Addr) (L cap a : Nat) (c wh c2 wh2 : Int) (op op2 : ByteArray) (w : World) (ha : a < L)
    (HB : Hid (∀ W, Calls Tryz.prog 102 #[stv a c op wh, .string ⟨#[101, 110, 100]⟩, .int .i64 a, .int .i64 5] W fun e w' => e = .returned (stv a c2 op2 wh2) ∧ Below W.heap.size W w')) :
    Calls Tryz.prog 58 #[.slice ao L cap, stv a c op wh] w fun e w' => e = .returned (stv a c2 op2 wh2) ∧ Below w.heap.size w w' := by
  have ha' : (a : Int) < (L : Int) := by omega
  unfold stv at HB ⊢
  go_enter Tryz.func58, Tryz.ntmps58
  go_wp2_with (first | (go_at_call 102; refine (HB.out _).mono ?_; rintro e w' ⟨rfl, hb⟩; obtain ⟨hcc, hf⟩ := bcell hb))
  have q0 : w'.cell? ⟨w.heap.size + 1, 0, none⟩ = some (.int .i64 0) := by rw [hcc _ _ (by simp)]; simp
  have q1 : w'.cell? ⟨w.heap.size + 1, 1, none⟩ = some (.int .i64 0) := by rw [hcc _ _ (by simp)]; simp
  have q2 : w'.cell? ⟨w.heap.size + 1, 2, none⟩ = some (.string ⟨#[]⟩) := by rw [hcc _ _ (by simp)]; simp
  have q3 : w'.cell? ⟨w.heap.size + 1, 3, none⟩ = some (.int .i64 0) := by rw [hcc _ _ (by simp)]; simp
  have T := four_cells (x := .int .i64 a) (y := .int .i64 c2) (z := .string op2) (t := .int .i64 wh2) q0 q1 q2 q3
  have hB : Below w.heap.size w w' := (((Below.refl _ _).alloc (Nat.le_refl _) _).alloc (by simp) _).trans (hb.mono (by simp; omega))
  exact bodyPost_ret (v := .agg #[.int .i64 a, .int .i64 c2, .string op2, .int .i64 wh2]) (by simp [results, Tryz.results58, go_sem, T.1, T.2.1, T.2.2.1, T.2.2.2]) rfl ⟨rfl, (((hB.setCell (by simp) _).setCell (by simp) _).setCell (by simp) _).setCell (by simp) _⟩
end Go.Proofs.YtgbcjmpnkejpeaaGreatDoor
