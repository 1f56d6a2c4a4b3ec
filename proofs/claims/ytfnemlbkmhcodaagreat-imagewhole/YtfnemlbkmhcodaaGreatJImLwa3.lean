/-
  AN IMAGE IN ITS BOX, A RECORD BEHIND THE OTHER (what the laws of layer 15 have in their loops): the box, a row of the law's own besides, and that what the image is made of lies in neither. No condition.
  ARE RECORDS NO MORE THAN IS WAITED FOR (castellanref06.Short)? Conditions: the records' cells hold them.
  NO MORE RECORDS THAN ARE WAITED FOR (castellanlaw15.light, half). Conditions: the records' cells hold them.
-/
import Derived.Test.YtfnemlbkmhcodaaGreatJImAl
import Derived.Test.YtfnemlbkmhcodaaGreatJImRg
import Derived.Deep.RegionHeldLaw
import Derived.Deep.RegionHeld3
import Derived.Deep.DeepCutAuto
import Derived.Test.YtfnemlbkmhcodaaGreatJBatVa3
namespace Go.Proofs.YtfnemlbkmhcodaaGreat
open Go.RowKit

/-- The image's box, the row of those that reigned, and where what the image is made of does not lie. -/
structure Lw (w W : World) (B : Nat) (m : Im) (p : Ip) (vo : Value) (lo : List Rgn) : Prop where
  x : Bx W B (iml m p)
  r : ∀ W', (∀ g, g < W.heap.size → g ≠ B → vo.ownBlock ≠ some g → W'.heap[g]? = W.heap[g]?) → ImR W' m p
  o : Ro rgc 4 106 W (B + 1) vo lo
  b : Below B w W
/-- Behind a record: the next image's box besides. -/
structure Lx (w W : World) (B g : Nat) (m m' : Im) (p p' : Ip) (vo : Value) (lo : List Rgn) : Prop where
  x : Bx W B (iml m p)
  y : Bx W g (iml m' p')
  ne : g ≠ B
  no : vo.ownBlock ≠ some g
  r : ∀ W', (∀ h, h < W.heap.size → h ≠ B → h ≠ g → vo.ownBlock ≠ some h → W'.heap[h]? = W.heap[h]?) → ImR W' m' p'
  q : ∀ W', (∀ h, h < W.heap.size → h ≠ B → h ≠ g → vo.ownBlock ≠ some h → W'.heap[h]? = W.heap[h]?) → ImR W' m p
  o : Ro rgc 4 106 W (B + 1) vo lo
  b : Below B w W
section
variable {w W W' : World} {B g : Nat} {m m' : Im} {p p' : Ip} {vo v' : Value} {lo lo' : List Rgn}
theorem Lw.below (h : Lw w W B m p vo lo) (hb : Below W.heap.size W W') : Lw w W' B m p vo lo :=
  ⟨h.x.below hb, fun V hV => h.r V (fun g hg h1 h2 => (hV g (Nat.lt_of_lt_of_le hg hb.size) h1 h2).trans (hb.block g hg)), h.o.below hb, h.b.trans (hb.mono (Nat.le_of_lt h.x.l))⟩
/-- Which blocks the image may be made of. -/
def Nok (W : World) (B : Nat) (vo : Value) (g : Nat) : Prop := g < W.heap.size ∧ g ≠ B ∧ vo.ownBlock ≠ some g
/-- The call, then the box. -/
theorem Lw.one {V X : World} (h : Lw w V B m p vo lo) (hb : Below V.heap.size V X) (hi : ∀ W, Agr (Nok V B vo) V.heap.size X W → ImR W m' p') (hy : Bx W X.heap.size (iml m' p')) (hbx : Below X.heap.size X W) : Lx w W B X.heap.size m m' p p' vo lo := by
  have hl := h.x.l
  have hs := hb.size
  have hs2 := hbx.size
  refine ⟨(h.x.below hb).below hbx, hy, by omega, fun e => by have := (h.o.lt _ e).2; omega, fun W' hW => ?_, fun W' hW => h.r W' (fun k k1 k2 k3 => (hW k (by omega) k2 (by omega) k3).trans ((hbx.block k (by omega)).trans (hb.block k k1))), (h.o.below hb).below hbx, (h.below hb).below hbx |>.b⟩
  refine ImR.lift (A := X) hi (fun k hk hlt => ?_)
  rcases hk with ⟨k1, k2, k3⟩ | hk
  · exact (hW k (by omega) k2 (by omega) k3).trans (hbx.block k hlt)
  · exact (hW k (by omega) (by omega) (by omega) (fun e => by have := (h.o.lt _ e).2; omega)).trans (hbx.block k hlt)
/-- The box, then the call. -/
theorem Lw.two {V Y X : World} (h : Lw w V B m p vo lo) (hb : Below V.heap.size V Y) (hY : V.heap.size < Y.heap.size) (hbx : Below Y.heap.size Y X) (hi : ∀ W, Agr (Nok V B vo) Y.heap.size X W → ImR W m' p') (hy : Bx W V.heap.size (iml m' p')) (hk : ∀ q xs, ¬ q = V.heap.size → Bx X q xs → Bx W q xs) (hbw : ∀ A u, A ≤ V.heap.size → Below A u X → Below A u W) (hp : ∀ g, ¬ g = V.heap.size → W.heap[g]? = X.heap[g]?) (hs : X.heap.size ≤ W.heap.size) : Lx w W B V.heap.size m m' p p' vo lo := by
  have hl := h.x.l
  have hX := (h.below hb).below hbx
  have hbv := hbw V.heap.size X (Nat.le_refl _) (Below.refl _ _)
  refine ⟨hk B _ (by omega) hX.x, hy, by omega, fun e => by have := (h.o.lt _ e).2; omega, fun W' hW => ?_, fun W' hW => h.r W' (fun k k1 k2 k3 => (hW k (by have := hb.size; have := hbx.size; omega) k2 (by omega) k3).trans ((hp k (by omega)).trans ((hbx.block k (by omega)).trans (hb.block k k1)))), h.o.below (hbw V.heap.size V (Nat.le_refl _) (hb.trans (hbx.mono (Nat.le_of_lt hY)))), hbw B w (Nat.le_of_lt hl) hX.b⟩
  refine ImR.lift (A := X) hi (fun k hk hlt => ?_)
  rcases hk with ⟨k1, k2, k3⟩ | hk
  · exact (hW k (by omega) k2 (by omega) k3).trans (hp k (by omega))
  · exact (hW k (by omega) (by omega) (by omega) (fun e => by have := (h.o.lt _ e).2; omega)).trans (hp k (by omega))
/-- Behind what is told of those that reigned. -/
theorem Lx.told (h : Lx w W B g m m' p p' vo lo) (ho : Ro rgc 4 106 W' (B + 1) v' lo') (hk : ∀ h, h < W.heap.size → vo.ownBlock ≠ some h → W'.heap[h]? = W.heap[h]?) (hs : W.heap.size ≤ W'.heap.size) (hob : ∀ h, v'.ownBlock = some h → vo.ownBlock = some h ∨ W.heap.size ≤ h) (hbe : Below (B + 1) W W') : Lx w W' B g m m' p p' v' lo' := by
  have h1 := h.x.l
  have h2 := h.y.l
  refine ⟨h.x.blk hs (hk _ h1 (fun e => by have := (h.o.lt _ e).1; omega)), h.y.blk hs (hk _ h2 h.no), h.ne, fun e => ?_, fun V hV => ?_, fun V hV => ?_, ho, h.b.trans (hbe.mono (Nat.le_succ _))⟩
  · rcases hob _ e with q | q
    · exact h.no q
    · omega
  · refine h.r V (fun k k1 k2 k3 k4 => ?_)
    refine (hV k (by omega) k2 k3 (fun e => ?_)).trans (hk k k1 k4)
    rcases hob _ e with q | q
    · exact k4 q
    · omega
  · refine h.q V (fun k k1 k2 k3 k4 => ?_)
    refine (hV k (by omega) k2 k3 (fun e => ?_)).trans (hk k k1 k4)
    rcases hob _ e with q | q
    · exact k4 q
    · omega
theorem Lx.below (h : Lx w W B g m m' p p' vo lo) (hb : Below W.heap.size W W') : Lx w W' B g m m' p p' vo lo :=
  have hl := h.x.l
  have key : ∀ {V : World}, (∀ k, k < W'.heap.size → k ≠ B → k ≠ g → vo.ownBlock ≠ some k → V.heap[k]? = W'.heap[k]?) → ∀ k, k < W.heap.size → k ≠ B → k ≠ g → vo.ownBlock ≠ some k → V.heap[k]? = W.heap[k]? := fun hV k k1 k2 k3 k4 => (hV k (Nat.lt_of_lt_of_le k1 hb.size) k2 k3 k4).trans (hb.block k k1)
  ⟨h.x.below hb, h.y.below hb, h.ne, h.no, fun V hV => h.r V (key hV), fun V hV => h.q V (key hV), h.o.below hb, h.b.trans (hb.mono (Nat.le_of_lt hl))⟩
/-- The next image takes the place of the one before. -/
theorem Lx.next (h : Lx w W B g m m' p p' vo lo) (hz : Bx W' B (iml m' p')) (hb : ∀ A u, A ≤ B → Below A u W → Below A u W') (hp : ∀ k, ¬ k = B → W'.heap[k]? = W.heap[k]?) (hs : W.heap.size ≤ W'.heap.size) : Lw w W' B m' p' vo lo := by
  refine ⟨hz, fun V hV => h.r V (fun k k1 k2 _ k4 => (hV k (by omega) k2 k4).trans (hp k k2)), ?_, hb B w (Nat.le_refl _) h.b⟩
  exact h.o.keepG (fun k hk => hp k (by omega))
end
theorem rg_sets0 {g o k : Nat} {cs : List Value} (hk : ¬ g = k) : ∀ (ds : List Value) (i : Nat) {W : World}, W.rangeAt g o cs → (W.setCells k i ds).rangeAt g o cs
  | [], _, _, h => h
  | d :: ds, i, W, h => by
    rw [World.setCells]
    exact rg_sets0 hk ds (i + 1) (fun j x hx => (World.cell?_setCell_other _ _ _ _ (fun e => hk (congrArg Addr.block e).symm)).trans (h j x hx))
theorem rg_sets {g o k : Nat} {cs : List Value} {W : World} (h : W.rangeAt g o cs) (hk : ¬ g = k) (ds : List Value) (i : Nat) : (W.setCells k i ds).rangeAt g o cs := rg_sets0 hk ds i h
end Go.Proofs.YtfnemlbkmhcodaaGreat
namespace Go.Proofs.YtfnemlbkmhcodaaGreat
open Go.RowKit

set_option maxRecDepth 100000 in
set_option maxHeartbeats 4000000 in
theorem bshort_none (ao : Option Addr) (cap : Nat) (w : World) : Calls Tryz.prog 33 #[.slice ao 0 cap] w fun e w' => e = .returned (.bool true) ∧ Below w.heap.size w w' := by
  go_enter Tryz.func33, Tryz.ntmps33
  go_wp2_with fail
  refine wp_loop_rounds 1 ?_
  rw [rounds_succ]
  go_wp2_with fail
  go_ret
  exact ⟨rfl, Below.refl _ _⟩
set_option maxRecDepth 100000 in
set_option maxHeartbeats 4000000 in
theorem bshort_some {ok : Nat → Prop} (b o cap : Nat) (ps : List Rp) (w : World) (hrg : w.rangeAt b o (rcs ps)) (hrw : ∀ p ∈ ps, RwP ok w p) :
    Calls Tryz.prog 33 #[.slice (some ⟨b, o, none⟩) ps.length cap] w fun e w' => e = .returned (.bool (shL (rcl ps))) ∧ Below w.heap.size w w' := by
  have HR := hide hrg
  have HW := hide hrw
  clear hrg hrw
  by_cases h80 : 80 < ps.length
  · have h80' : (80 : Int) < (ps.length : Int) := by omega
    rw [shL_long (by rw [rcl_len]; exact h80)]
    go_enter Tryz.func33, Tryz.ntmps33
    go_wp2_with fail
    go_ret
    exact ⟨rfl, Below.refl _ _⟩
  · have h80' : ¬ (80 : Int) < (ps.length : Int) := by omega
    go_enter Tryz.func33, Tryz.ntmps33
    go_wp2_with fail
    go_loopw [3] (fun i wr => ∃ j : Nat, j ≤ ps.length ∧ i = .int .i64 (j : Int) ∧ ((rcl ps).take j).all shB = true ∧ Below w.heap.size w wr) (fun i _ => ps.length - (intOf i).toNat)
    case atStart => exact ⟨0, Nat.zero_le _, rfl, rfl, Below.refl _ _⟩
    case round =>
      obtain ⟨j, hj, rfl, hall, hb⟩ := hrel
      have HA := hide hall
      have HB := hide hb
      clear hall hb
      by_cases hlt : j < ps.length
      · have hltI : (j : Int) < (ps.length : Int) := by omega
        have HE := hide (range_bel (range_at HR.out hlt) HB.out)
        have HP := hide ((HW.out _ (List.getElem_mem hlt)).below HB.out)
        have hlr : j < (rcl ps).length := by rw [rcl_len]; exact hlt
        have hpj : (rcl ps)[j] = ps[j].1 := by simp [rcl]
        have HN := hide (fun h => shL_no hlr (by rw [hpj]; exact h))
        have HT := hide (fun h => all_take hlr HA.out (by rw [hpj]; exact h))
        have HS := hide (short_any _ _ wr HP.out.is)
        clear hpj
        generalize ps[j] = p at *
        cases hs : shB p.1 with
        | true =>
          rw [hs] at HS
          go_wp2_with (first | (refine wpList_load_mid rfl _ _ rfl _ _ rfl _ _ HE.out Tryz.underlying62 rfl (by kernel_rfl) ?_) | (go_at_call 67; refine HS.out.mono ?_; rintro e w1 ⟨rfl, hb1⟩; have HB1 := hide (HB.out.trans (hb1.mono HB.out.size)); clear hb1))
          go_roundw
          case rel => exact ⟨j + 1, by omega, by go_num, HT.out hs, HB1.out⟩
          case measure => simp [intOf]; omega
        | false =>
          rw [hs] at HS
          go_wp2_with (first | (refine wpList_load_mid rfl _ _ rfl _ _ rfl _ _ HE.out Tryz.underlying62 rfl (by kernel_rfl) ?_) | (go_at_call 67; refine HS.out.mono ?_; rintro e w1 ⟨rfl, hb1⟩; have HB1 := hide (HB.out.trans (hb1.mono HB.out.size)); clear hb1))
          go_ret
          exact ⟨ret_b (HN.out hs), HB1.out⟩
      · obtain rfl : j = ps.length := by omega
        have hsh : shL (rcl ps) = true := by
          have := HA.out
          rw [← rcl_len, List.take_length] at this
          unfold shL
          rw [this, rcl_len, decide_eq_true (by omega)]
          rfl
        clear hlt
        go_wp2_with fail
        go_ret
        exact ⟨ret_b hsh, HB.out⟩
theorem bshort_any {okb ok : Nat → Prop} (v : Value) (ps : List Rp) (w : World) (hv : Rl okb ok w v ps) : Calls Tryz.prog 33 #[v] w fun e w' => e = .returned (.bool (shL (rcl ps))) ∧ Below w.heap.size w w' := by
  obtain ⟨h1, h2⟩ := hv
  rcases h1 with ⟨ao, cap, rfl, rfl⟩ | ⟨b, o, cap, rfl, _, _, _, h3⟩
  · exact bshort_none ao cap w
  · exact bshort_some b o cap ps w h3 h2
end Go.Proofs.YtfnemlbkmhcodaaGreat
namespace Go.Proofs.YtfnemlbkmhcodaaGreat
open Go.RowKit

theorem recs_to {okb ok : Nat → Prop} (v : Value) (ps : List Rp) (n : Nat) (w : World) (hv : Rl okb ok w v ps) (hn : n ≤ ps.length) : ∃ u, (∀ W, (Instr.slice 22 v none (some (.int .i64 (n : Int))) none).run Tryz.prog W = .ok u W) ∧ ∀ W, Rl okb ok W v ps → Rl okb ok W u (ps.take n) := by
  rcases hv.1 with ⟨ao, cap, rfl, rfl⟩ | ⟨b, o, cap, rfl, hc, hok, h0, hrg⟩
  · obtain rfl : n = 0 := by simpa using hn
    refine ⟨.slice ao 0 cap, fun W => ?_, fun W _ => Rl.nil _ _ _ _ _⟩
    simp [Instr.slice, go_sem]
  · have g1 : (n : Int) ≤ (cap : Int) := by omega
    refine ⟨.slice (some ⟨b, o, none⟩) n cap, fun W => by simp [Instr.slice, go_sem, g1], fun W hW => ?_⟩
    by_cases hz : n = 0
    · subst hz; exact Rl.nil _ _ _ _ _
    · obtain ⟨b', o', e, hr⟩ := hW.rg h0
      cases e
      have hl : (ps.take n).length = n := by rw [List.length_take]; omega
      refine ⟨.inr ⟨b, o, cap, by rw [hl], by omega, hok, by omega, ?_⟩, fun p hp => hW.2 p (List.mem_of_mem_take hp)⟩
      rw [← List.take_append_drop n ps, rcs_app] at hr
      exact (rg_app hr).1
theorem recs_from {okb ok : Nat → Prop} (v : Value) (ps : List Rp) (n : Nat) (w : World) (hv : Rl okb ok w v ps) (hn : n < ps.length ∨ ps.length = 0 ∧ n = 0) : ∃ u, (∀ W, (Instr.slice 22 v (some (.int .i64 (n : Int))) none none).run Tryz.prog W = .ok u W) ∧ ∀ W, Rl okb ok W v ps → Rl okb ok W u (ps.drop n) := by
  rcases hv.1 with ⟨ao, cap, rfl, rfl⟩ | ⟨b, o, cap, rfl, hc, hok, h0, hrg⟩
  · obtain rfl : n = 0 := by simpa using hn
    cases ao with
    | none =>
      refine ⟨.slice none 0 cap, fun W => ?_, fun W _ => Rl.nil _ _ _ _ _⟩
      simp [Instr.slice, go_sem]
    | some a =>
      refine ⟨.slice (if cap = 0 then some a else some (a.add 0)) 0 cap, fun W => ?_, fun W _ => Rl.nil _ _ _ _ _⟩
      have g1 : ((0 : Nat) : Int) ≤ (cap : Int) := by omega
      simp [Instr.slice, go_sem]
  · have g1 : (n : Int) ≤ (ps.length : Int) := by omega
    have hlt : n < ps.length := by omega
    have g2 : ¬ cap = n := by omega
    refine ⟨.slice (some ⟨b, o + n * 18, none⟩) (ps.length - n) (cap - n), fun W => by simp [Instr.slice, go_sem, g1, g2, Addr.add], fun W hW => ?_⟩
    obtain ⟨b', o', e, hr⟩ := hW.rg h0
    cases e
    have hl : (ps.drop n).length = ps.length - n := by rw [List.length_drop]
    refine ⟨.inr ⟨b, o + n * 18, cap - n, by rw [hl], by omega, hok, by omega, ?_⟩, fun p hp => hW.2 p (List.mem_of_mem_drop hp)⟩
    rw [← List.take_append_drop n ps, rcs_app] at hr
    have := (rg_app hr).2
    rwa [rcs_len, List.length_take, Nat.min_eq_left (by omega)] at this
/-- Are records no more than is waited for? -/
def liR (rs : List Rc) : Bool := decide (rs.length ≤ 120) && (shL (rs.take (rs.length / 2)) && shL (rs.drop (rs.length / 2)))
theorem liR_len {rs : List Rc} (h : liR rs = true) : rs.length ≤ 120 := by
  unfold liR at h
  rw [Bool.and_eq_true] at h
  exact of_decide_eq_true h.1
theorem shB_tx {r : Rc} (h : shB r = true) : TxR r := by
  unfold shB at h
  simp only [decide_eq_true_eq] at h
  exact ⟨by omega, by omega, by omega, by omega⟩
theorem liR_tx {rs : List Rc} (h : liR rs = true) : ∀ r ∈ rs, TxR r := fun r hr => by
  unfold liR at h
  rw [Bool.and_eq_true, Bool.and_eq_true] at h
  rw [← List.take_append_drop (rs.length / 2) rs, List.mem_append] at hr
  rcases hr with q | q
  · exact shB_tx ((shL_is h.2.1).2 r q)
  · exact shB_tx ((shL_is h.2.2).2 r q)
set_option maxRecDepth 100000 in
set_option maxHeartbeats 4000000 in
theorem half_any (ao : Option Addr) (n cap : Nat) (w : World) (hn : n ≤ 120) : Calls Tryz.prog 34 #[.slice ao n cap] w fun e w' => e = .returned (.int .i64 ((n / 2 : Nat) : Int)) ∧ w' = w := by
  go_enter Tryz.func34, Tryz.ntmps34
  go_wp2_with fail
  go_ret
  exact ⟨by rw [show ((n / 2 : Nat) : Int) = (n : Int) / 2 by omega]; rfl, rfl⟩
set_option maxRecDepth 100000 in
set_option maxHeartbeats 4000000 in
theorem light_any {okb ok : Nat → Prop} (v : Value) (ps : List Rp) (w : World) (hv : Rl okb ok w v ps) : Calls Tryz.prog 6 #[v] w fun e w' => e = .returned (.bool (liR (rcl ps))) ∧ Below w.heap.size w w' := by
  have HV := hide hv
  have HVB := hide (fun W (h : Below w.heap.size w W) => hv.below h)
  by_cases h : ps.length ≤ 120
  · have hI : (ps.length : Int) ≤ 120 := by omega
    have HLI : Hid (liR (rcl ps) = (shL (rcl (ps.take (ps.length / 2))) && shL (rcl (ps.drop (ps.length / 2))))) := hide (by
      unfold liR
      rw [rcl_len, decide_eq_true h, Bool.true_and]
      unfold rcl
      rw [List.map_take, List.map_drop])
    rw [HLI.out]
    obtain ⟨u1, e1, hu1⟩ := recs_to v ps (ps.length / 2) w hv (by omega)
    obtain ⟨u2, e2, hu2⟩ := recs_from v ps (ps.length / 2) w hv (by omega)
    have HU2 := hide (fun W (h : Below w.heap.size w W) => bshort_any u2 _ W (hu2 W (hv.below h)))
    have HU1 := hide (bshort_any u1 _ w (hu1 w hv))
    have HB0 : Hid (Below w.heap.size w w) := hide (Below.refl _ _)
    clear hu1 hu2 HLI
    obtain ⟨ao, cap, rfl⟩ := hv.form
    clear hv
    have HH := hide (fun W => half_any ao ps.length cap W h)
    generalize ps.length / 2 = k at *
    cases hs : shL (rcl (ps.take k)) with
    | true =>
      rw [hs] at HU1
      rw [Bool.true_and]
      go_enter Tryz.func6, Tryz.ntmps6
      go_wp2_with (first | (go_at_call 34; refine (HH.out _).mono ?_; rintro e W ⟨rfl, hW⟩; rw [hW]; clear hW W) | (go_at_call 33; with_reducible refine HU1.out.mono ?_; rintro e W1 ⟨rfl, hb⟩; have HB1 := hide hb; clear hb) | (go_at_call 33; with_reducible refine (HU2.out W1 HB1.out).mono ?_; rintro e W2 ⟨rfl, hb⟩; have HB2 := hide (HB1.out.trans (hb.mono HB1.out.size)); clear hb))
      go_ret
      exact ⟨rfl, HB2.out⟩
    | false =>
      rw [hs] at HU1
      rw [Bool.false_and]
      go_enter Tryz.func6, Tryz.ntmps6
      go_wp2_with (first | (go_at_call 34; refine (HH.out _).mono ?_; rintro e W ⟨rfl, hW⟩; rw [hW]; clear hW W) | (go_at_call 33; with_reducible refine HU1.out.mono ?_; rintro e W1 ⟨rfl, hb⟩; have HB1 := hide hb; clear hb))
      go_ret
      exact ⟨rfl, HB1.out⟩
  · have hI : ¬ (ps.length : Int) ≤ 120 := by omega
    have HLI : Hid (liR (rcl ps) = false) := hide (by
      unfold liR
      rw [rcl_len, decide_eq_false h, Bool.false_and])
    rw [HLI.out]
    obtain ⟨ao, cap, rfl⟩ := hv.form
    clear hv HVB
    go_enter Tryz.func6, Tryz.ntmps6
    go_wp2_with fail
    go_ret
    exact ⟨rfl, Below.refl _ _⟩
end Go.Proofs.YtfnemlbkmhcodaaGreat
