/-
  WHAT THE DOCUMENT ASKS OF METADATA (castellanref15.Has, Broker, Alive). Conditions: no more than a hundred thousand brokers.
-/
import Derived.Test.YtfnemlbkmhcodaaGreatJImXa3
import Derived.Deep.RegionHeldLaw
import Derived.Deep.RegionHeld3
import Derived.Deep.DeepCutAuto
namespace Go.Proofs.YtfnemlbkmhcodaaGreat
open Go.RowKit

def ivQ : Value → Int
  | .int _ n => n
  | _ => 0
theorem any_yes {α : Type} {f : α → Bool} {l : List α} {k : Nat} (hk : k < l.length) (h : f l[k] = true) : l.any f = true := List.any_eq_true.2 ⟨_, List.getElem_mem hk, h⟩
theorem any_no {α : Type} {f : α → Bool} {l : List α} (h : ∀ j (hj : j < l.length), f l[j] = false) : l.any f = false := by
  rw [List.any_eq_false]
  intro x hx
  obtain ⟨j, hj, rfl⟩ := List.getElem_of_mem hx
  simp [h j hj]
theorem up_to {α : Type} {f : α → Bool} {l : List α} {k : Nat} (h : ∀ j (hj : j < l.length), j < k → f l[j] = false) (hk : k < l.length) (hn : f l[k] = false) : ∀ j (hj : j < l.length), j < k + 1 → f l[j] = false := fun j hj q => by
  by_cases e : j = k
  · subst e; exact hn
  · exact h j hj (by omega)
set_option maxRecDepth 100000 in
set_option maxHeartbeats 8000000 in
theorem rhas_any (v : Value) (l : List Int) (n : Int) (w : World) (hv : Sl ic w v l) (hl : l.length ≤ 100000) : Calls Tryz.prog 106 #[v, .int .i64 n] w fun e w' => e = .returned (.bool (l.contains n)) ∧ w' = w := by
  obtain ⟨ao, cap, rfl⟩ := hv.form
  have HV := hide hv
  clear hv
  generalize hcc : l.contains n = cc
  have HCC := hide hcc
  clear hcc
  go_enter Tryz.func106, Tryz.ntmps106
  go_wp2
  go_loopw [5] (fun i W => ∃ k : Nat, k ≤ l.length ∧ i = .int .i64 (k : Int) ∧ W = w ∧ ∀ j (hj : j < l.length), j < k → (fun x => x == n) l[j] = false) (fun i _ => l.length - (ivQ i).toNat)
  case atStart => exact ⟨0, Nat.zero_le _, rfl, rfl, fun j _ h => absurd h (Nat.not_lt_zero j)⟩
  case round =>
    obtain ⟨k, hk, rfl, rfl, hall⟩ := hrel
    have HA := hide hall
    clear hall
    by_cases hlt : k < l.length
    · have hltI : (k : Int) < (l.length : Int) := by omega
      obtain ⟨b, o, c, e, h2, h3⟩ : ∃ b o c, Value.slice ao l.length cap = .slice (some ⟨b, o, none⟩) l.length c ∧ l.length ≤ c ∧ ∀ i (h : i < l.length), wr.cell? ⟨b, o + i, none⟩ = some (ic l[i]) := by
        rcases HV.out with ⟨_, _, e, _⟩ | h
        · subst e; simp at hlt
        · exact h
      cases e
      have c0 := h3 k hlt
      unfold ic at c0
      clear h3
      have HUP := hide (up_to (f := fun x => x == n) HA.out hlt)
      have HYE := hide (any_yes (f := fun x => x == n) hlt)
      generalize l[k] = x at c0 HUP HYE
      (try simp only at HUP HYE)
      by_cases hx : x = n
      · have n1 : (x == n) = true := by simp [hx]
        have HC : Hid (l.contains n = true) := hide (by rw [List.contains_eq_any_beq]; have := HYE.out n1; rw [List.any_eq_true] at this ⊢; obtain ⟨y, h1, h2⟩ := this; exact ⟨y, h1, by simp at h2 ⊢; exact h2.symm⟩)
        clear hx
        go_wp2
        go_ret
        exact ⟨by rw [← HCC.out, HC.out]; rfl, rfl⟩
      · have n1 : (x == n) = false := by simp [hx]
        clear hx
        go_wp2
        go_roundw
        case rel => exact ⟨k + 1, by omega, by go_num, (by first | rfl | trivial), HUP.out n1⟩
        case measure => simp [ivQ]; omega
    · obtain rfl : k = l.length := by omega
      have HC : Hid (l.contains n = false) := hide (by
        rw [List.contains_eq_any_beq]
        have := any_no (f := fun x => x == n) (fun j hj => HA.out j hj hj)
        rw [List.any_eq_false] at this ⊢
        intro y h1 h2
        exact this y h1 (by simp at h2 ⊢; exact h2.symm))
      go_wp2
      go_ret
      exact ⟨by rw [← HCC.out, HC.out]; rfl, rfl⟩
/-- What Broker answers. -/
def brV : Option Bk → Value
  | some b => .tuple #[.agg (List.toArray [.int .i64 b.id, .int .i64 b.ep, .string ⟨b.rk.toArray⟩, .bool b.fe, .bool b.lv]), .bool true]
  | none => .tuple #[.agg (List.toArray [.int .i64 0, .int .i64 0, .string ⟨#[]⟩, .bool false, .bool false]), .bool false]
theorem fB_up {l : List Bk} {id : Int} {k : Nat} (hk : k < l.length) (h : ∀ j (hj : j < l.length), j < k → idB id l[j] = false) (hy : idB id l[k] = true) : fB l id = some l[k] := by
  unfold fB
  rw [List.find?_eq_some_iff_getElem]
  exact ⟨hy, k, hk, rfl, fun j hj => by rw [h j (by omega) hj]; rfl⟩
theorem fB_end {l : List Bk} {id : Int} (h : ∀ j (hj : j < l.length), idB id l[j] = false) : fB l id = none := by
  unfold fB
  rw [List.find?_eq_none]
  intro x hx
  obtain ⟨j, hj, rfl⟩ := List.getElem_of_mem hx
  simp [h j hj]
set_option maxRecDepth 100000 in
set_option maxHeartbeats 8000000 in
theorem rbroker_any (m : Im) (p : Ip) (id : Int) (w : World) (hv : ImR w m p) (hl : m.br.length ≤ 100000) : Calls Tryz.prog 10 #[imv m p, .int .i64 id] w fun e w' => e = .returned (brV (fB m.br id)) ∧ Below w.heap.size w w' := by
  have HS : Hid (Bx ((w.alloc (.cells (List.toArray [Value.slice p.ab m.br.length p.cb, .slice p.aq p.ts.length p.cq, .slice p.ac m.cf.length p.cc, .slice p.ad m.dn.length p.cd, .int .i64 m.la]) 30)).alloc (.cells (List.toArray [Value.int .i64 0, .int .i64 0, .string ⟨#[]⟩, .bool false, .bool false]) 33)) w.heap.size (iml m p) ∧ Bx ((w.alloc (.cells (List.toArray [Value.slice p.ab m.br.length p.cb, .slice p.aq p.ts.length p.cq, .slice p.ac m.cf.length p.cc, .slice p.ad m.dn.length p.cd, .int .i64 m.la]) 30)).alloc (.cells (List.toArray [Value.int .i64 0, .int .i64 0, .string ⟨#[]⟩, .bool false, .bool false]) 33)) (w.heap.size + 1) [.int .i64 0, .int .i64 0, .string ⟨#[]⟩, .bool false, .bool false] ∧ Below w.heap.size w ((w.alloc (.cells (List.toArray [Value.slice p.ab m.br.length p.cb, .slice p.aq p.ts.length p.cq, .slice p.ac m.cf.length p.cc, .slice p.ad m.dn.length p.cd, .int .i64 m.la]) 30)).alloc (.cells (List.toArray [Value.int .i64 0, .int .i64 0, .string ⟨#[]⟩, .bool false, .bool false]) 33))) := hide (Bx.mk2 w (iml m p) [.int .i64 0, .int .i64 0, .string ⟨#[]⟩, .bool false, .bool false] 30 33 (Below.refl _ _))
  have HV := hide (fun W (h : Below w.heap.size w W) => (hv.below h).b)
  clear hv
  obtain ⟨ab, aq, ac, ad, cb, cq, cc, cd, ts⟩ := p
  unfold imv
  unfold iml at HS
  go_enter Tryz.func10, Tryz.ntmps10
  go_upto_region 2 with fail
  (try dsimp only at HS)
  (try dsimp only at HV)
  generalize (w.alloc (.cells (List.toArray [Value.slice ab m.br.length cb, .slice aq ts.length cq, .slice ac m.cf.length cc, .slice ad m.dn.length cd, .int .i64 m.la]) 30)).alloc (.cells (List.toArray [Value.int .i64 0, .int .i64 0, .string ⟨#[]⟩, .bool false, .bool false]) 33) = X at HS ⊢
  go_loopw [6] (fun i W => ∃ k : Nat, k ≤ m.br.length ∧ i = .int .i64 (k : Int) ∧ W = X ∧ ∀ j (hj : j < m.br.length), j < k → idB id m.br[j] = false) (fun i _ => m.br.length - (ivQ i).toNat)
  case atStart => exact ⟨0, Nat.zero_le _, rfl, rfl, fun j _ h => absurd h (Nat.not_lt_zero j)⟩
  case round =>
    obtain ⟨k, hk, rfl, rfl, hall⟩ := hrel
    have HA := hide hall
    clear hall
    have i0 := HS.out.1.at 0 _ rfl
    by_cases hlt : k < m.br.length
    · have hltI : (k : Int) < (m.br.length : Int) := by omega
      obtain ⟨bb, ob, rfl, hrg⟩ := (HV.out wr HS.out.2.2).rg (show 0 < m.br.length by omega)
      have HC := hide (fm_at encB hrg hlt)
      have HUP := hide (up_to (f := idB id) HA.out hlt)
      have HYE := hide (fB_up hlt HA.out)
      clear hrg
      generalize m.br[k] = b at HC HUP HYE
      unfold bkc at HC
      have c0 : wr.cell? ⟨bb, ob + k * 5, none⟩ = some (.int .i64 b.id) := HC.out 0 _ rfl
      by_cases hx : b.id = id
      · have n1 : (b.id == id) = true := by simp [hx]
        have HF := hide (HYE.out n1)
        clear hx
        go_wp2_with (first | (refine wpList_load_mid rfl _ _ rfl _ _ rfl _ _ HC.out Tryz.underlying33 rfl (by kernel_rfl) ?_) | (refine wpList_set rfl _ _ _ rfl _ _ rfl HS.out.2.1 [.int .i64 b.id, .int .i64 b.ep, .string ⟨b.rk.toArray⟩, .bool b.fe, .bool b.lv] rfl rfl (by kernel_rfl) rfl ?_; intro W3 hR3 _ hK3 _; have HR3 := hide hR3; have HB3 := hide (hK3 _ _ (Nat.le_succ _) HS.out.2.2); clear hR3 hK3))
        obtain ⟨r0, r1, r2, r3, r4⟩ := HR3.out.c5
        exact bodyPost_ret (v := .tuple #[.agg (List.toArray [Value.int .i64 b.id, .int .i64 b.ep, .string ⟨b.rk.toArray⟩, .bool b.fe, .bool b.lv]), .bool true]) (by simp [results, Tryz.results10, go_sem, r0, r1, r2, r3, r4]) rfl ⟨by rw [HF.out]; rfl, HB3.out⟩
      · have n1 : (b.id == id) = false := by simp [hx]
        clear hx
        go_wp2_with fail
        go_roundw
        case rel => exact ⟨k + 1, by omega, by go_num, (by first | rfl | trivial), HUP.out n1⟩
        case measure => simp [ivQ]; omega
    · obtain rfl : k = m.br.length := by omega
      have HF : Hid (fB m.br id = none) := hide (fB_end (fun j hj => HA.out j hj hj))
      go_wp2_with (first | (refine wpList_set rfl _ _ _ rfl _ _ rfl HS.out.2.1 [.int .i64 0, .int .i64 0, .string ⟨#[]⟩, .bool false, .bool false] rfl rfl (by kernel_rfl) rfl ?_; intro W3 hR3 _ hK3 _; have HR3 := hide hR3; have HB3 := hide (hK3 _ _ (Nat.le_succ _) HS.out.2.2); clear hR3 hK3))
      obtain ⟨r0, r1, r2, r3, r4⟩ := HR3.out.c5
      exact bodyPost_ret (v := .tuple #[.agg (List.toArray [Value.int .i64 0, .int .i64 0, .string ⟨#[]⟩, .bool false, .bool false]), .bool false]) (by simp [results, Tryz.results10, go_sem, r0, r1, r2, r3, r4]) rfl ⟨by rw [HF.out]; rfl, HB3.out⟩
set_option maxRecDepth 100000 in
set_option maxHeartbeats 8000000 in
theorem ralive_any (m : Im) (p : Ip) (id : Int) (w : World) (hv : ImR w m p) (hl : m.br.length ≤ 100000) : Calls Tryz.prog 25 #[imv m p, .int .i64 id] w fun e w' => e = .returned (.bool (alive m.br id)) ∧ Below w.heap.size w w' := by
  have HB := hide (fun W (h : Below w.heap.size w W) => rbroker_any m p id W (hv.below h) hl)
  have HI := hide (Bx.new w (iml m p) 30)
  have HX := hide (below_al1 w (.cells (iml m p).toArray 30))
  clear hv
  unfold alive
  unfold imv at *
  unfold iml at HI HX
  cases hf : fB m.br id with
  | none =>
    rw [hf] at HB
    unfold brV at HB
    clear hf
    go_enter Tryz.func25, Tryz.ntmps25
    go_upto_region 1 with fail
    generalize w.alloc (.cells (List.toArray [Value.slice p.ab m.br.length p.cb, .slice p.aq p.ts.length p.cq, .slice p.ac m.cf.length p.cc, .slice p.ad m.dn.length p.cd, .int .i64 m.la]) 30) = X at HI HX ⊢
    go_wp2_with (first | (refine wpList_load_mid rfl _ _ rfl _ _ rfl _ _ HI.out.c Tryz.underlying30 rfl (by kernel_rfl) ?_) | (go_at_call 10; refine (HB.out X (HX.out)).mono ?_; rintro e w1 ⟨rfl, hb1⟩; have HB1 := hide (bt HX.out hb1); clear hb1))
    go_ret
    exact ⟨rfl, bt HB1.out (below_al1 _ _)⟩
  | some b =>
    rw [hf] at HB
    unfold brV at HB
    clear hf
    go_enter Tryz.func25, Tryz.ntmps25
    go_upto_region 1 with fail
    generalize w.alloc (.cells (List.toArray [Value.slice p.ab m.br.length p.cb, .slice p.aq p.ts.length p.cq, .slice p.ac m.cf.length p.cc, .slice p.ad m.dn.length p.cd, .int .i64 m.la]) 30) = X at HI HX ⊢
    go_wp2_with (first | (refine wpList_load_mid rfl _ _ rfl _ _ rfl _ _ HI.out.c Tryz.underlying30 rfl (by kernel_rfl) ?_) | (go_at_call 10; refine (HB.out X (HX.out)).mono ?_; rintro e w1 ⟨rfl, hb1⟩; have HB1 := hide (bt HX.out hb1); clear hb1))
    go_ret
    exact ⟨rfl, bt HB1.out (below_al1 _ _)⟩
end Go.Proofs.YtfnemlbkmhcodaaGreat
