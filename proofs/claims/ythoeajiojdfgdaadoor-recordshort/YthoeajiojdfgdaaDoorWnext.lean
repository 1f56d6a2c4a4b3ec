/-
  A READER's NEXT NUMBER, as one function of the bytes, the place and the limit (wire.Reader.Num, Int). Conditions: the bytes' cells hold them, each is a byte, no more than ten thousand, and the reader is within them.
-/
import Derived.Test.YthoeajiojdfgdaaDoorWread
namespace Go.Proofs.YthoeajiojdfgdaaDoor
open Go.RowKit

theorem drop_get {l r : List Int} {a i : Nat} {x : Int} (h : l.drop a = r) (hi : r[i]? = some x) : ∃ hlt : a + i < l.length, l[a + i] = x := by
  rw [← h, List.getElem?_drop] at hi
  obtain ⟨h1, h2⟩ := List.getElem?_eq_some_iff.1 hi
  exact ⟨h1, h2⟩
theorem drop_size {l r : List Int} {a : Nat} (h : l.drop a = r) : r.length = l.length - a := by rw [← h, List.length_drop]
/-- What is wrong behind a call that told the code c: nothing, or that. -/
def erN (op : ByteArray) (a : Int) (c : Int) : Value := if c = 0 then .nilIface else ft op a c
/-- What a number of k bytes comes to. -/
theorem rnum_fin (p b o L cap a k : Nat) (most N lo : Int) (w : World) (hr : Rd w p (.slice (some ⟨b, o, none⟩) L cap) a .nilIface) (hL : L ≤ 10000) (hc : L ≤ cap) (hk0 : 0 < k) (hk : a + k ≤ L) (hlo : N < lo ↔ szL N < k)
    (HA : ∀ n, Calls Tryd.prog 63 #[.slice (some ⟨b, o + a, none⟩) (L - a) (cap - a)] (w.drewN n) fun e w' => e = .returned (.int .i64 (k : Int)) ∧ w' = w.drewN n)
    (HN : ∀ n, Calls Tryd.prog 64 #[.slice (some ⟨b, o + a, none⟩) k (cap - a)] (w.drewN n) fun e w' => e = .returned (.int .u64 N) ∧ Below w.heap.size (w.drewN n) w') :
    Calls Tryd.prog 53 #[.pointer (some ⟨p, 0, none⟩), .int .u64 most] w fun x w' => x = .returned (.int .u64 (finN k lo N most).2.2) ∧ Rd w' p (.slice (some ⟨b, o, none⟩) L cap) (a + (finN k lo N most).2.1 : Nat) (erN ⟨#[110, 117, 109]⟩ a (finN k lo N most).1) ∧ Bx p w w' := by
  by_cases h1 : N < lo
  · rw [finN, if_pos h1]
    exact rnum_kind p b o L cap a most k N (szL N) w hr hL hc (by omega) (by omega) (by omega) (hlo.1 h1) (hide HA) (hide HN) (hide (wsize_any N))
  · rw [finN, if_neg h1]
    by_cases h2 : most < N
    · rw [if_pos h2]
      exact rnum_limit p b o L cap a most k N (szL N) w hr hL hc (by omega) (by omega) (by omega) (fun h => h1 (hlo.2 h)) h2 (hide HA) (hide HN) (hide (wsize_any N))
    · rw [if_neg h2]
      exact rnum_ok p b o L cap a most k N (szL N) w hr hL hc (by omega) (by omega) (by omega) (fun h => h1 (hlo.2 h)) h2 (hide HA) (hide HN) (hide (wsize_any N))
theorem sz_lt_2 (n : Int) : n < 64 ↔ szL n < (2 : Nat) := by
  unfold szL numL
  split
  · simp; omega
  · split
    · simp; omega
    · split <;> simp <;> omega
theorem sz_lt_4 (n : Int) : n < 16384 ↔ szL n < (4 : Nat) := by
  unfold szL numL
  split
  · simp; omega
  · split
    · simp; omega
    · split <;> simp <;> omega
theorem sz_lt_8 (n : Int) : n < 1073741824 ↔ szL n < (8 : Nat) := by
  unfold szL numL
  split
  · simp; omega
  · split
    · simp; omega
    · split <;> simp <;> omega
theorem sz_lt_1 (n : Int) (h : 0 ≤ n) : n < 0 ↔ szL n < (1 : Nat) := by
  unfold szL numL
  split
  · simp; omega
  · split
    · simp; omega
    · split <;> simp <;> omega

theorem rnum_any (p : Nat) (v : Value) (l : List Int) (a : Nat) (most : Int) (w : World) (hr : Rd w p v a .nilIface) (hv : Sl bc w v l) (hl : l.length ≤ 10000) (hby : Byt l) (ha : a ≤ l.length) :
    Calls Tryd.prog 53 #[.pointer (some ⟨p, 0, none⟩), .int .u64 most] w fun x w' => x = .returned (.int .u64 (numS (l.drop a) most).2.2) ∧ Rd w' p v (a + (numS (l.drop a) most).2.1 : Nat) (erN ⟨#[110, 117, 109]⟩ a (numS (l.drop a) most).1) ∧ Bx p w w' := by
  generalize hd : l.drop a = r
  have hlen := drop_size hd
  rcases r with _ | ⟨x0, r⟩
  · obtain rfl : a = l.length := by simp at hlen; omega
    rcases hv with ⟨ao, cap, rfl, rfl⟩ | ⟨b, o, cap, rfl, hc, _⟩
    · exact rnum_none p ao 0 cap most w hr (by omega) (by omega)
    · exact rnum_none p (some ⟨b, o, none⟩) l.length cap most w hr hl hc
  · rcases hv with ⟨ao, cap, rfl, rfl⟩ | ⟨b, o, cap, rfl, hc, h3⟩
    · simp at hd
    · have get : ∀ i x, (x0 :: r)[i]? = some x → (∀ n, (w.drewN n).cell? ⟨b, o + a + i, none⟩ = some (.int .u8 x)) ∧ 0 ≤ x ∧ x ≤ 255 := by
        intro i x hx
        obtain ⟨h1, h2⟩ := drop_get hd hx
        have h4 := h3 (a + i) h1
        rw [h2, ← Nat.add_assoc] at h4
        exact ⟨fun n => h4, hby x (by rw [← h2]; exact List.getElem_mem h1)⟩
      obtain ⟨c0, l0, u0⟩ := get 0 x0 rfl
      have hal : a < l.length := by simp at hlen; omega
      have HA : ∀ n, Calls Tryd.prog 63 #[.slice (some ⟨b, o + a, none⟩) (l.length - a) (cap - a)] (w.drewN n) fun e w' => e = .returned (.int .i64 (annL x0)) ∧ w' = w.drewN n := fun n => announced_some b (o + a) (l.length - a) (cap - a) x0 (w.drewN n) (by omega) l0 u0 (c0 n)
      by_cases k0 : x0 / 64 = 0
      · have e1 : annL x0 = ((1 : Nat) : Int) := if_pos k0
        rw [e1] at HA
        simp only [numS, if_pos k0]
        exact rnum_fin p b o l.length cap a 1 most (x0 % 64) 0 w hr hl hc (by omega) (by omega) (sz_lt_1 _ (by omega)) HA (fun n => number_1 b (o + a) (cap - a) x0 (w.drewN n) l0 u0 (c0 n))
      · by_cases k1 : x0 / 64 = 1
        · have e1 : annL x0 = ((2 : Nat) : Int) := by rw [annL, if_neg k0, if_pos k1]; rfl
          rw [e1] at HA
          simp only [numS, if_neg k0, if_pos k1]
          rcases r with _ | ⟨x1, r⟩
          · exact rnum_short p b o l.length cap a most 2 w hr hl hc hal (by simp at hlen; omega) (hide HA)
          · obtain ⟨c1, l1, u1⟩ := get 1 x1 rfl
            exact rnum_fin p b o l.length cap a 2 most _ 64 w hr hl hc (by omega) (by simp at hlen; omega) (sz_lt_2 _) HA (fun n => number_2 b (o + a) (cap - a) x0 x1 (w.drewN n) l0 u0 l1 u1 (by simp at hlen; omega) (c0 n) (c1 n))
        · by_cases k2 : x0 / 64 = 2
          · have e1 : annL x0 = ((4 : Nat) : Int) := by rw [annL, if_neg k0, if_neg k1, if_pos k2]; rfl
            rw [e1] at HA
            simp only [numS, if_neg k0, if_neg k1, if_pos k2]
            rcases r with _ | ⟨x1, _ | ⟨x2, _ | ⟨x3, r⟩⟩⟩
            · exact rnum_short p b o l.length cap a most 4 w hr hl hc hal (by simp at hlen; omega) (hide HA)
            · exact rnum_short p b o l.length cap a most 4 w hr hl hc hal (by simp at hlen; omega) (hide HA)
            · exact rnum_short p b o l.length cap a most 4 w hr hl hc hal (by simp at hlen; omega) (hide HA)
            · obtain ⟨c1, l1, u1⟩ := get 1 x1 rfl
              obtain ⟨c2, l2, u2⟩ := get 2 x2 rfl
              obtain ⟨c3, l3, u3⟩ := get 3 x3 rfl
              exact rnum_fin p b o l.length cap a 4 most _ 16384 w hr hl hc (by omega) (by simp at hlen; omega) (sz_lt_4 _) HA (fun n => number_4 b (o + a) (cap - a) x0 x1 x2 x3 (w.drewN n) l0 u0 l1 u1 l2 u2 l3 u3 (by simp at hlen; omega) (c0 n) (c1 n) (c2 n) (c3 n))
          · have e1 : annL x0 = ((8 : Nat) : Int) := by rw [annL, if_neg k0, if_neg k1, if_neg k2]; rfl
            rw [e1] at HA
            simp only [numS, if_neg k0, if_neg k1, if_neg k2]
            rcases r with _ | ⟨x1, _ | ⟨x2, _ | ⟨x3, _ | ⟨x4, _ | ⟨x5, _ | ⟨x6, _ | ⟨x7, r⟩⟩⟩⟩⟩⟩⟩
            · exact rnum_short p b o l.length cap a most 8 w hr hl hc hal (by simp at hlen; omega) (hide HA)
            · exact rnum_short p b o l.length cap a most 8 w hr hl hc hal (by simp at hlen; omega) (hide HA)
            · exact rnum_short p b o l.length cap a most 8 w hr hl hc hal (by simp at hlen; omega) (hide HA)
            · exact rnum_short p b o l.length cap a most 8 w hr hl hc hal (by simp at hlen; omega) (hide HA)
            · exact rnum_short p b o l.length cap a most 8 w hr hl hc hal (by simp at hlen; omega) (hide HA)
            · exact rnum_short p b o l.length cap a most 8 w hr hl hc hal (by simp at hlen; omega) (hide HA)
            · exact rnum_short p b o l.length cap a most 8 w hr hl hc hal (by simp at hlen; omega) (hide HA)
            · obtain ⟨c1, l1, u1⟩ := get 1 x1 rfl
              obtain ⟨c2, l2, u2⟩ := get 2 x2 rfl
              obtain ⟨c3, l3, u3⟩ := get 3 x3 rfl
              obtain ⟨c4, l4, u4⟩ := get 4 x4 rfl
              obtain ⟨c5, l5, u5⟩ := get 5 x5 rfl
              obtain ⟨c6, l6, u6⟩ := get 6 x6 rfl
              obtain ⟨c7, l7, u7⟩ := get 7 x7 rfl
              exact rnum_fin p b o l.length cap a 8 most _ 1073741824 w hr hl hc (by omega) (by simp at hlen; omega) (sz_lt_8 _) HA (fun n => number_8 b (o + a) (cap - a) x0 x1 x2 x3 x4 x5 x6 x7 (w.drewN n) l0 u0 l1 u1 l2 u2 l3 u3 l4 u4 l5 u5 l6 u6 l7 u7 (by simp at hlen; omega) (c0 n) (c1 n) (c2 n) (c3 n) (c4 n) (c5 n) (c6 n) (c7 n))

set_option maxHeartbeats 4000000 in
theorem rint_of (p : Nat) (m M N : Int) (w : World) (hm : m ≤ 9223372036854775807) (hM : M = abv' m) (hN : 0 ≤ N ∧ N ≤ 9223372036854775807) {R : World → Prop} (HC : Hid (Calls Tryd.prog 53 #[.pointer (some ⟨p, 0, none⟩), .int .u64 M] w fun x w' => x = .returned (.int .u64 N) ∧ R w')) :
    Calls Tryd.prog 30 #[.pointer (some ⟨p, 0, none⟩), .int .i64 m] w fun x w' => x = .returned (.int .i64 N) ∧ R w' := by
  subst hM
  obtain ⟨n0, n1⟩ := hN
  go_enter Tryd.func30, Tryd.ntmps30
  go_wp2_with (first | (go_at_call 50; refine (natural_any m _ hm).mono ?_; rintro e w' ⟨rfl, rfl⟩) | (go_at_call 53; refine (HC.out).mono ?_; rintro e w' ⟨rfl, hR⟩))
  go_ret
  exact ⟨rfl, hR⟩
theorem fin_bad {k : Nat} {lo n most : Int} {c : Int} {j : Nat} {m : Int} (h : finN k lo n most = (c, j, m)) (hc : c ≠ 0) : j = 0 ∧ m = 0 := by
  unfold finN at h
  split at h
  · simp at h; omega
  · split at h
    · simp at h; omega
    · simp at h; omega
theorem numS_bad {r : List Int} {most : Int} {c : Int} {k : Nat} {n : Int} (h : numS r most = (c, k, n)) (hc : c ≠ 0) : k = 0 ∧ n = 0 := by
  unfold numS at h
  split at h
  · simp at h; omega
  · split at h
    · exact fin_bad h hc
    · split at h
      · split at h
        · exact fin_bad h hc
        · simp at h; omega
      · split at h
        · split at h
          · exact fin_bad h hc
          · simp at h; omega
        · split at h
          · exact fin_bad h hc
          · simp at h; omega
theorem numS_range (r : List Int) (most : Int) (h : Byt r) : 0 ≤ (numS r most).2.2 ∧ (numS r most).2.2 ≤ 4611686018427387903 := by
  rcases hq : numS r most with ⟨c, k, n⟩
  by_cases h0 : c = 0
  · subst h0
    obtain ⟨_, _, h1, h2, _⟩ := numS_once h hq
    exact ⟨h1, h2⟩
  · have h1 := numS_bad hq h0
    simp only [h1.2]
    decide
end Go.Proofs.YthoeajiojdfgdaaDoor
