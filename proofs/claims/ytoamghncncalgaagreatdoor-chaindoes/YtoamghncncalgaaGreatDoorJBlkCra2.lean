/-
  A CRASH (block.Crash): what the mathematics says. Conditions: fewer than a hundred thousand blocks and writes.
  THE LIBRARY CALLS slices.Sorted AND maps.Keys, at this program: which of its functions and types they are. No condition.
-/
import Derived.Test.YtoamghncncalgaaGreatDoorJBlkKpa2
import Derived.Shelf.SlIterI.Nil
import Derived.Shelf.SortM.Plain
import Derived.Shelf.SortM.SortNone
import Derived.Shelf.SlGeneric
import Derived.Ground.GgzProg
import Derived.Ground.SlgmProg
import Derived.Test.YtoamghncncalgaaGreatDoorProg
namespace Go.Proofs.YtoamghncncalgaaGreatDoor
open Go.RowKit

theorem crs_nil (cs : Cs) (cut : Int) : crs cs [] cut = cs := rfl
theorem crs_snoc (cs : Cs) (K : List Wr) (x : Wr) (cut : Int) : crs cs (K ++ [x]) cut = stS (syn cs K) (torn x ((look (syn cs K) x.at_).getD zer) cut) := by
  unfold crs
  simp
theorem nil_or_snoc {α : Type} (l : List α) : l = [] ∨ ∃ k x, l = k ++ [x] := by
  rcases List.eq_nil_or_concat l with h | ⟨k, x, h⟩
  · exact .inl h
  · exact .inr ⟨k, x, by simpa using h⟩
theorem btear_any (g o : Nat) (x : Wr) (old : List Int) (cut : Int) (cur : Array Value) (t : TypeId) (w : World) (hr : w.rangeAt g o (wcl x)) (hx : Blk x.by_) (ho : old.length = 64) (hg : w.heap[g]? = some (.cells cur t (0, 0))) :
    Calls Tryz.prog 50 #[.pointer (some ⟨g, o, none⟩), .agg (bv old).toArray, .int .i64 cut] w fun e w' => e = .returned (.tuple #[]) ∧ w'.rangeAt g o (wcl (torn x old cut)) ∧ Ba (fun k => k = g) w w' := by
  by_cases hc : x.fr = false ∧ 0 ≤ cut ∧ cut < 64
  · obtain ⟨h1, h2, h3⟩ := hc
    obtain ⟨n, rfl⟩ := Int.eq_ofNat_of_zero_le h2
    obtain ⟨xa, xf, xb⟩ := x
    simp only at h1
    subst h1
    rw [torn_yes (by omega)]
    exact btear_yes g o n xa xb old cur t w hr hx ho (by omega) hg
  · exact btear_no g o x old cut w hr hx hc
theorem sliceW_from (g o L cap E : Nat) (hE : E < L) (hL : L ≤ cap) (W : World) : (Instr.slice 79 (.slice (some ⟨g, o, none⟩) L cap) (some (.int .i64 (E : Int))) none none).run Tryz.prog W = .ok (.slice (some ⟨g, o + E * 66, none⟩) (L - E) (cap - E)) W := by
  have h1 : (E : Int) ≤ (L : Int) := by omega
  simp [Instr.slice, go_sem, h1]
  omega
theorem wcs_split {W : World} {g o : Nat} {K : List Wr} {x : Wr} (hb : ∀ y ∈ K, Blk y.by_) (h : W.rangeAt g o (wcs (K ++ [x]))) : W.rangeAt g o (wcs K) ∧ W.rangeAt g (o + K.length * 66) (wcl x) := by
  rw [wcs_app, wcs_one] at h
  refine ⟨fun j v hv => h j v (by rw [List.getElem?_append_left (List.getElem?_eq_some_iff.1 hv).1]; exact hv), fun j v hv => ?_⟩
  rw [Nat.add_assoc]
  exact h _ v (by rw [List.getElem?_append_right (by rw [wcs_len hb]; omega), wcs_len hb, show K.length * 66 + j - K.length * 66 = j by omega]; exact hv)
section
variable {d bS bT : Nat} {u : Value} {s : Dst}
set_option maxRecDepth 100000 in
set_option maxHeartbeats 8000000 in
theorem bcrash_go (kv : Value) (ks : List Int) (cut : Int) (w : World) (h : Dk w d bS bT u s s.tk s.lo) (hO : s.Ok) (hk : Sl ic w kv ks) (hn : s.cs.length + s.lo.length + s.lo.length < 100000) :
    Calls Tryz.prog 21 #[.pointer (some ⟨d, 0, none⟩), kv, .int .i64 cut] w fun e w' => e = .returned (.tuple #[]) ∧ Dk w' d bS bT (.slice none 0 0) ⟨s.room, crs s.cs (kpt ks s.lo) cut, []⟩ (s.lo.foldl (stF (crs s.cs (kpt ks s.lo) cut)) s.tk) [] ∧ Dx d bS bT u w w' (.slice none 0 0) := by
  have hlw : ∀ x ∈ s.lo, Num x.at_ ∧ Blk x.by_ := fun x hx => ⟨(hO.lb x hx).1, (hO.lb x hx).2.1⟩
  have HLW := hide hlw
  have HKW : Hid (∀ x ∈ kpt ks s.lo, Num x.at_ ∧ Blk x.by_) := hide (fun x hx => hlw x (kpt_sub hx))
  have HKN : Hid ((kpt ks s.lo).length ≤ s.lo.length) := hide (kpt_len _ _)
  have HTK : Hid (Asc s.tk ∧ s.tk.length + s.lo.length < 100000) := hide ⟨asc_tkO hO.asc _, by have := tkO_len hO.asc (l := s.lo); show (tkO s.cs s.lo).length + _ < _; omega⟩
  have HK := hide hk
  have HH := hide h
  have HO := hide hO
  clear h hO hlw hk
  go_enter Tryz.func21, Tryz.ntmps21
  go_upto_region 1 with (first | (go_at_call 48; refine (bkept_any _ ks _ HH.out HLW.out HK.out (by omega)).mono ?_; rintro e w1 ⟨v6, rfl, hlo, hob, hbw⟩; have HL1 := hide hlo; have HOB := hide hob; have HBW := hide hbw; clear hlo hob hbw))
  have HD1 := hide (HH.out.below HBW.out)
  obtain ⟨a6, c6, hv6⟩ := HL1.out.form
  subst hv6
  obtain ⟨K, HKE⟩ : ∃ K, Hid (kpt ks s.lo = K) := ⟨_, rfl⟩
  rw [HKE.out] at HL1 HKW HKN HOB ⊢
  rcases nil_or_snoc K with rfl | ⟨K0, x, rfl⟩
  · go_wp2_with (first | (go_at_call 51; refine (bforget_any _ HD1.out HTK.out.1 HO.out.cb HLW.out HTK.out.2).mono ?_; rintro e w2 ⟨rfl, hd2, hx2⟩; have HD2 := hide hd2; have HX2 := hide hx2; clear hd2 hx2))
    refine bodyPost_end (v := .tuple #[]) (by simp [results, Tryz.results21]) rfl ⟨rfl, ?_, (Dx.of HBW.out).trans HX2.out⟩
    have := HD2.out
    rw [HKE.out, crs_nil]
    exact ⟨this.c0, this.c1, this.c2, this.c3, this.fz, this.ms, this.mt, this.ro, this.ne, this.du⟩
  · obtain ⟨m, hm⟩ : ∃ m, m = K0.length := ⟨_, rfl⟩
    have hlen : (K0 ++ [x]).length = m + 1 := by rw [List.length_append, hm]; rfl
    obtain ⟨g, rfl, _, hcap, hrg⟩ := HL1.out.rg (by rw [hlen]; omega)
    have HB0 : Hid (∀ y ∈ K0, Num y.at_ ∧ Blk y.by_) := hide (fun y hy => HKW.out y (List.mem_append_left _ hy))
    have HBx : Hid (Num x.at_ ∧ Blk x.by_) := hide (HKW.out x (by simp))
    obtain ⟨cur, hcur⟩ := HL1.out.cells (k := g) rfl
    obtain ⟨hr0, hrx⟩ := wcs_split (fun y hy => (HB0.out y hy).2) hrg
    rw [← hm] at hrx
    have hgw : w.heap.size ≤ g := HOB.out g rfl
    rw [hlen] at hcap
    rw [hlen]
    have hs1 : ∀ W, (Instr.slice 79 (.slice (some ⟨g, 0, none⟩) (m + 1) c6) none (some (.int .i64 (m : Int))) none).run Tryz.prog W = .ok (.slice (some ⟨g, 0, none⟩) m c6) W := fun W => by
      rw [sliceW_to _ _ _ _ (by omega) hcap, if_neg (by omega)]
      simp [Addr.add_lit]
    have hs2 : ∀ W, (Instr.slice 79 (.slice (some ⟨g, 0, none⟩) (m + 1) c6) (some (.int .i64 (m : Int))) none none).run Tryz.prog W = .ok (.slice (some ⟨g, m * 66, none⟩) 1 (c6 - m)) W := fun W => by
      rw [sliceW_from g 0 (m + 1) c6 m (by omega) hcap, Nat.zero_add, Nat.add_sub_cancel_left]
    have HSW : Hid (Sw w1 (.slice (some ⟨g, 0, none⟩) m c6) K0) := hide ⟨_, _, by rw [hm], fun _ => ⟨g, 0, rfl, hr0⟩⟩
    rw [Nat.zero_add] at hrx
    have HRX := hide hrx
    have HCUR := hide hcur
    clear hr0 hrx hrg hcur HL1 HKW HOB
    have HK0 : Hid (K0.length ≤ s.lo.length) := hide (by have := HKN.out; rw [hlen] at this; omega)
    have HK1 : Hid (K0.length + 1 ≤ s.lo.length) := hide (by have := HKN.out; rw [hlen, hm] at this; exact this)
    have hmb : m < 100000 := by have := HK0.out; omega
    have HMM := hide hm
    have HN := hide hn
    clear hm hlen hn
    go_upto_region 4 with (first | (go_at_call 49; refine (bdo_any _ K0 _ HD1.out HO.out.asc HSW.out HB0.out (by have := HN.out; have := HK0.out; omega)).mono ?_; rintro e w2 ⟨rfl, hd2, hb2⟩; have HD2 := hide hd2; have HB2 := hide hb2; clear hd2 hb2))
    have HCS : Hid (Asc (syn s.cs K0) ∧ (∀ p ∈ syn s.cs K0, Num p.1 ∧ Blk p.2) ∧ (syn s.cs K0).length ≤ s.cs.length + K0.length) := hide ⟨asc_syn HO.out.asc _, syn_all HO.out.cb HB0.out, syn_len HO.out.asc⟩
    have hgb : ¬ g = bS := range_map HRX.out HD1.out.ms (by rw [wcl_len HBx.out.2]; decide)
    have hgl : g < w1.heap.size := (Array.getElem?_eq_some_iff.1 HCUR.out).1
    have HRX2 := hide (range_ba HRX.out HB2.out hgb)
    have HCUR2 := hide ((HB2.out.block g hgl hgb).trans HCUR.out)
    have HCN : Hid ((syn s.cs K0).length + 1 < 100000) := hide (by have h1 := HCS.out.2.2; have h2 := HN.out; have h3 := HK0.out; have h4 : K0.length + 1 ≤ s.lo.length := HK1.out; omega)
    obtain ⟨c1, HC1⟩ : ∃ c1, Hid (syn s.cs K0 = c1) := ⟨_, rfl⟩
    rw [HC1.out] at HCN
    rw [HC1.out] at HCS HD2
    clear HRX HCUR HSW HB0 HD1
    obtain ⟨old, HOLD⟩ : ∃ old, Hid ((look c1 x.at_).getD zer = old) := ⟨_, rfl⟩
    have HOL : Hid (old.length = 64) := hide (by rw [← HOLD.out]; exact at_len HCS.out.2.1 _)
    have hpost : ∀ Z, Dk Z d bS bT u { s with cs := c1 } s.tk s.lo → Z.rangeAt g (m * 66) (wcl x) → Z.heap[g]? = some (.cells cur 103 (0, 0)) → Calls Tryz.prog 50 #[.pointer (some ⟨g, m * 66, none⟩), .agg (bv old).toArray, .int .i64 cut] Z fun e w' => e = .returned (.tuple #[]) ∧ w'.rangeAt g (m * 66) (wcl (torn x old cut)) ∧ Ba (fun k => k = g) Z w' := fun Z _ h2 h3 => btear_any g (m * 66) x old cut cur _ Z h2 HBx.out.2 HOL.out h3
    have HP := hide hpost
    clear hpost
    refine wp_region_held_drew (S := fun W => W.cell? ⟨d, 1, none⟩ = some (.map (some bS)) ∧ W.cell? ⟨g, m * 66, none⟩ = some (.int .i64 x.at_) ∧ Mp W bS c1) (by kernel_rfl) ⟨HD2.out.drew.c1, HRX2.out 0 _ rfl, HD2.out.drew.ms⟩ (fun hHeld => ?_)
    have HD3 := hide HD2.out.drew
    have HB3 := hide (HB2.out.call (Below.refl _ _).drew)
    have HRX3 : Hid (w2.drew.rangeAt g (m * 66) (wcl x)) := hide HRX2.out
    have HCUR3 : Hid (w2.drew.heap[g]? = some (.cells cur 103 (0, 0))) := hide HCUR2.out
    generalize w2.drew = Z at HD3 HB3 HRX3 HCUR3 hHeld ⊢
    clear HD2 HB2 HRX2 HCUR2
    refine wpAnyH_take (i := 0) (oi := _) (v := .slice (some ⟨g, 0, none⟩) (m + 1) c6) rfl (by kernel_rfl) (by kernel_rfl) (by kernel_rfl) (fun _ _ _ h => h) (Or.inl ⟨by rfl, by intro w hSw; go_simp⟩) hHeld ?_
    change wpAnyH _ _ _ _ _ _ _ (Act.put _ (some 21) _) _
    simp only [Act.put, List.setIfInBounds_toArray, List.set_cons_zero, List.set_cons_succ]
    refine wpAnyH_take (i := 1) (oi := _) (v := .int .i64 (m : Int)) rfl (by kernel_rfl) (by kernel_rfl) (by kernel_rfl) (fun _ _ _ h => h) (Or.inl ⟨by rfl, by intro w hSw; go_simp⟩) hHeld ?_
    change wpAnyH _ _ _ _ _ _ _ (Act.put _ (some 22) _) _
    simp only [Act.put, List.setIfInBounds_toArray, List.set_cons_zero, List.set_cons_succ]
    refine wpAnyH_take (i := 2) (oi := _) (v := .pointer (some ⟨g, m * 66, none⟩)) rfl (by kernel_rfl) (by kernel_rfl) (by kernel_rfl) (fun _ _ _ h => h) (Or.inl ⟨by rfl, by intro w hSw; go_simp; intro hq; omega⟩) hHeld ?_
    change wpAnyH _ _ _ _ _ _ _ (Act.put _ (some 23) _) _
    simp only [Act.put, List.setIfInBounds_toArray, List.set_cons_zero, List.set_cons_succ]
    refine wpAnyH_take (i := 3) (oi := _) (v := .pointer (some ⟨d, 0, none⟩)) rfl (by kernel_rfl) (by kernel_rfl) (by kernel_rfl) (fun _ _ _ h => h) (Or.inl ⟨by rfl, by intro w hSw; go_simp⟩) hHeld ?_
    change wpAnyH _ _ _ _ _ _ _ (Act.put _ (some 24) _) _
    simp only [Act.put, List.setIfInBounds_toArray, List.set_cons_zero, List.set_cons_succ]
    refine wpAnyH_take (i := 4) (oi := _) (v := .pointer (some ⟨d, 0, none⟩)) rfl (by kernel_rfl) (by kernel_rfl) (by kernel_rfl) (fun _ _ _ h => h) (Or.inl ⟨by rfl, by intro w hSw; go_simp⟩) hHeld ?_
    change wpAnyH _ _ _ _ _ _ _ (Act.put _ (some 25) _) _
    simp only [Act.put, List.setIfInBounds_toArray, List.set_cons_zero, List.set_cons_succ]
    refine wpAnyH_take (i := 5) (oi := _) (v := .pointer (some ⟨d, 1, none⟩)) rfl (by kernel_rfl) (by kernel_rfl) (by kernel_rfl) (fun _ _ _ h => h) (Or.inl ⟨by rfl, by intro w hSw; go_simp⟩) hHeld ?_
    change wpAnyH _ _ _ _ _ _ _ (Act.put _ (some 26) _) _
    simp only [Act.put, List.setIfInBounds_toArray, List.set_cons_zero, List.set_cons_succ]
    refine wpAnyH_take (i := 6) (oi := _) (v := .map (some bS)) rfl (by kernel_rfl) (by kernel_rfl) (by kernel_rfl) (fun _ _ _ h => h) (Or.inl ⟨by rfl, by intro w hSw; have h1 := hSw.1; go_simp⟩) hHeld ?_
    change wpAnyH _ _ _ _ _ _ _ (Act.put _ (some 27) _) _
    simp only [Act.put, List.setIfInBounds_toArray, List.set_cons_zero, List.set_cons_succ]
    refine wpAnyH_take (i := 7) (oi := _) (v := .slice (some ⟨g, 0, none⟩) (m + 1) c6) rfl (by kernel_rfl) (by kernel_rfl) (by kernel_rfl) (fun _ _ _ h => h) (Or.inl ⟨by rfl, by intro w hSw; go_simp⟩) hHeld ?_
    change wpAnyH _ _ _ _ _ _ _ (Act.put _ (some 28) _) _
    simp only [Act.put, List.setIfInBounds_toArray, List.set_cons_zero, List.set_cons_succ]
    refine wpAnyH_take (i := 8) (oi := _) (v := .int .i64 (m : Int)) rfl (by kernel_rfl) (by kernel_rfl) (by kernel_rfl) (fun _ _ _ h => h) (Or.inl ⟨by rfl, by intro w hSw; go_simp⟩) hHeld ?_
    change wpAnyH _ _ _ _ _ _ _ (Act.put _ (some 29) _) _
    simp only [Act.put, List.setIfInBounds_toArray, List.set_cons_zero, List.set_cons_succ]
    refine wpAnyH_take (i := 9) (oi := _) (v := .pointer (some ⟨g, m * 66, none⟩)) rfl (by kernel_rfl) (by kernel_rfl) (by kernel_rfl) (fun _ _ _ h => h) (Or.inl ⟨by rfl, by intro w hSw; go_simp; intro hq; omega⟩) hHeld ?_
    change wpAnyH _ _ _ _ _ _ _ (Act.put _ (some 30) _) _
    simp only [Act.put, List.setIfInBounds_toArray, List.set_cons_zero, List.set_cons_succ]
    refine wpAnyH_take (i := 10) (oi := _) (v := .pointer (some ⟨g, m * 66, none⟩)) rfl (by kernel_rfl) (by kernel_rfl) (by kernel_rfl) (fun _ _ _ h => h) (Or.inl ⟨by rfl, by intro w hSw; go_simp⟩) hHeld ?_
    change wpAnyH _ _ _ _ _ _ _ (Act.put _ (some 31) _) _
    simp only [Act.put, List.setIfInBounds_toArray, List.set_cons_zero, List.set_cons_succ]
    refine wpAnyH_take (i := 11) (oi := _) (v := .int .i64 x.at_) rfl (by kernel_rfl) (by kernel_rfl) (by kernel_rfl) (fun _ _ _ h => h) (Or.inl ⟨by rfl, by intro w hSw; have h1 := hSw.2.1; go_simp⟩) hHeld ?_
    change wpAnyH _ _ _ _ _ _ _ (Act.put _ (some 32) _) _
    simp only [Act.put, List.setIfInBounds_toArray, List.set_cons_zero, List.set_cons_succ]
    refine wpAnyH_take (i := 12) (oi := _) (v := .agg (bv old).toArray) rfl (by kernel_rfl) (by kernel_rfl) (by kernel_rfl) (fun _ _ _ h => h) (by rw [← HOLD.out]; exact yields_look (by rfl) _ _ rfl _ _ _ rfl rfl (fun W hW => hW.2.2) HBx.out.1) hHeld ?_
    change wpAnyH _ _ _ _ _ _ _ (Act.put _ (some 33) _) _
    simp only [Act.put, List.setIfInBounds_toArray, List.set_cons_zero, List.set_cons_succ]
    refine wpAnyH_take (i := 13) (oi := _) (v := .int .i64 cut) rfl (by kernel_rfl) (by kernel_rfl) (by kernel_rfl) (fun _ _ _ h => h) (Or.inl ⟨by rfl, by intro w hSw; go_simp⟩) hHeld ?_
    change wpAnyH _ _ _ _ _ _ _ (Act.put _ (some 34) _) _
    simp only [Act.put, List.setIfInBounds_toArray, List.set_cons_zero, List.set_cons_succ]
    refine wpAnyH_ready (rs := [14]) (by kernel_rfl) (by simp) ?_
    refine AllReadyH.cons (o := _) rfl (fun K hK => ?_) AllReadyH.nil
    go_simp
    go_at_call 50
    refine (HP.out _ HD3.out HRX3.out HCUR3.out).mono ?_
    rintro e w3 ⟨rfl, hr3, hb3⟩
    have hd3 : Dk w3 d bS bT u { s with cs := c1 } s.tk s.lo := HD3.out.keep (fun k hk => hb3.block k (HD3.out.lt hk) (fun e => by have := HH.out.lt hk; omega))
    have hx3 : w3.cell? ⟨g, m * 66, none⟩ = some (.int .i64 x.at_) := by have := hr3 0 (.int .i64 x.at_) (by rw [← torn_at x old cut]; rfl); exact this
    go_wp2_with fail
    refine hK.out _ _ ⟨hd3.c1, hx3, hd3.ms⟩ (fun hHeld1 => ?_)
    clear hK K hHeld
    have hHeld := hHeld1
    clear hHeld1
    have HD4 := hide hd3
    have HR4 := hide hr3
    have HB4 := hide hb3
    clear hd3 hr3 hb3 hx3 HD3 HRX3 HCUR3 hHeld
    refine wpAnyH_done (by kernel_rfl) ?_ _
    have HTB : Hid (Num (torn x old cut).at_ ∧ Blk (torn x old cut).by_) := hide (torn_ok HBx.out (by rw [← HOLD.out]; exact look_blk HCS.out.2.1 _))
    have HSW : Hid (Sw w3 (.slice (some ⟨g, m * 66, none⟩) 1 (c6 - m)) [torn x old cut]) := hide ⟨_, _, rfl, fun _ => ⟨g, m * 66, rfl, by rw [wcs_one]; exact HR4.out⟩⟩
    have HFN : Hid (syn c1 [torn x old cut] = stS c1 (torn x ((look c1 x.at_).getD zer) cut)) := hide (by rw [HOLD.out]; rfl)
    have HF1 : Hid (∀ p ∈ syn c1 [torn x old cut], Num p.1 ∧ Blk p.2) := hide (syn_all HCS.out.2.1 (fun y hy => by simp at hy; rw [hy]; exact HTB.out))
    go_wp2_with (first
      | (go_at_call 49; refine (bdo_any _ [torn x old cut] _ HD4.out HCS.out.1 HSW.out (fun y hy => by simp at hy; rw [hy]; exact HTB.out) HCN.out).mono ?_; rintro e w4 ⟨rfl, hd5, hb5⟩; have HD5 := hide hd5; have HB5 := hide hb5; clear hd5 hb5)
      | (go_at_call 51; refine (bforget_any _ HD5.out HTK.out.1 HF1.out HLW.out HTK.out.2).mono ?_; rintro e w5 ⟨rfl, hd6, hx6⟩; have HD6 := hide hd6; have HX6 := hide hx6; clear hd6 hx6))
    refine bodyPost_end (v := .tuple #[]) (by simp [results, Tryz.results21]) rfl ⟨rfl, ?_, ?_⟩
    · have := HD6.out
      rw [HKE.out, crs_snoc, HC1.out, ← HFN.out]
      exact ⟨this.c0, this.c1, this.c2, this.c3, this.fz, this.ms, this.mt, this.ro, this.ne, this.du⟩
    · have e1 : Ba (Own d bS bT u) w Z := (Ba.of HBW.out).trans HB3.out (fun i _ e => by rw [e]; exact .inr (.inl rfl))
      have e2 : Ba (Own d bS bT u) w w3 := e1.trans HB4.out (fun i hi e => by rw [e] at hi; omega)
      have e3 : Ba (Own d bS bT u) w w4 := e2.trans HB5.out (fun i _ e => by rw [e]; exact .inr (.inl rfl))
      exact (⟨e3, fun _ e => .inl e⟩ : Dx d bS bT u w w4 u).trans HX6.out
theorem bcrash_any (kv : Value) (ks : List Int) (cut : Int) (w : World) (h : Dk w d bS bT u s s.tk s.lo) (hO : s.Ok) (hk : Sl ic w kv ks) (hn : s.cs.length + s.lo.length + s.lo.length < 100000) :
    Calls Tryz.prog 21 #[.pointer (some ⟨d, 0, none⟩), kv, .int .i64 cut] w fun e w' => e = .returned (.tuple #[]) ∧ Dk w' d bS bT (.slice none 0 0) ⟨s.room, crs s.cs (kpt ks s.lo) cut, []⟩ (crs s.cs (kpt ks s.lo) cut) [] ∧ Dx d bS bT u w w' (.slice none 0 0) := by
  have := bcrash_go kv ks cut w h hO hk hn
  rw [show s.lo.foldl (stF (crs s.cs (kpt ks s.lo) cut)) s.tk = crs s.cs (kpt ks s.lo) cut from crash_fgt hO.asc ks cut] at this
  exact this
end
end Go.Proofs.YtoamghncncalgaaGreatDoor
namespace Go.Proofs
open Go.Shelf
def YtoamghncncalgaaGreatDoor.keysA_ren : Go.Shelf.Ren := ⟨fun | 7 => 78 | 10 => 90 | n => n, fun | 23 => 78 | 26 => 3 | 3 => 101 | 28 => 141 | 0 => 0 | 27 => 140 | 33 => 115 | 4 => 4 | n => n, fun | n => n⟩
theorem YtoamghncncalgaaGreatDoor.keysA : Go.Proofs.SlLaysZI.n7 Tryz.prog YtoamghncncalgaaGreatDoor.keysA_ren := {
  mixed := by kernel_rfl
  f7 := ⟨Tryz.f78.name, by decide, Tryz.func78.trans (congrArg some (by kernel_rfl))⟩
  f10 := ⟨Tryz.f90.name, by decide, Tryz.func90.trans (congrArg some (by kernel_rfl))⟩
  t0 := Tryz.underlying0
  a0 := Tryz.isAgg0
  z0 := Tryz.sizeOf0
  v0 := Tryz.zeroValue0
  t4 := Tryz.underlying4
  a4 := Tryz.isAgg4
  z4 := Tryz.sizeOf4
  v4 := Tryz.zeroValue4
  t23 := Tryz.underlying78
  a23 := Tryz.isAgg78
  z23 := Tryz.sizeOf78
  v23 := Tryz.zeroValue78
  t26 := Tryz.underlying3
  a26 := Tryz.isAgg3
  z26 := Tryz.sizeOf3
  v26 := Tryz.zeroValue3
  t27 := Tryz.underlying140
  a27 := Tryz.isAgg140
  z27 := Tryz.sizeOf140
  v27 := Tryz.zeroValue140
  t28 := Tryz.underlying141
  a28 := Tryz.isAgg141
  z28 := Tryz.sizeOf141
  v28 := Tryz.zeroValue141
  t33 := Tryz.underlying115
  a33 := Tryz.isAgg115
  z33 := Tryz.sizeOf115
  v33 := Tryz.zeroValue115 }
def YtoamghncncalgaaGreatDoor.sortedA_ren : Go.Shelf.Ren := ⟨fun | 6 => 77 | 8 => 88 | 9 => 89 | 11 => 93 | 13 => 95 | 12 => 94 | 23 => 105 | 24 => 106 | 14 => 96 | 15 => 97 | 16 => 98 | 17 => 99 | 18 => 100 | 19 => 101 | 20 => 102 | 21 => 103 | 22 => 104 | 25 => 107 | 26 => 108 | 27 => 109 | 28 => 110 | 29 => 111 | 30 => 112 | 31 => 113 | n => n, fun | 26 => 3 | 28 => 141 | 24 => 44 | 0 => 0 | 3 => 3 | 37 => 150 | 48 => 192 | 50 => 95 | 4 => 4 | 40 => 184 | 39 => 183 | 45 => 189 | 5 => 5 | 9 => 9 | 51 => 194 | 55 => 198 | 57 => 200 | 58 => 201 | 33 => 115 | n => n, fun | n => n⟩
theorem YtoamghncncalgaaGreatDoor.sortedA : Go.Proofs.SlLaysZI.n6 Tryz.prog YtoamghncncalgaaGreatDoor.sortedA_ren := {
  mixed := by kernel_rfl
  f6 := ⟨Tryz.f77.name, by decide, Tryz.func77.trans (congrArg some (by kernel_rfl))⟩
  f8 := ⟨Tryz.f88.name, by decide, Tryz.func88.trans (congrArg some (by kernel_rfl))⟩
  f11 := ⟨Tryz.f93.name, by decide, Tryz.func93.trans (congrArg some (by kernel_rfl))⟩
  t0 := Tryz.underlying0
  a0 := Tryz.isAgg0
  z0 := Tryz.sizeOf0
  v0 := Tryz.zeroValue0
  t24 := Tryz.underlying44
  a24 := Tryz.isAgg44
  z24 := Tryz.sizeOf44
  v24 := Tryz.zeroValue44
  t26 := Tryz.underlying3
  a26 := Tryz.isAgg3
  z26 := Tryz.sizeOf3
  v26 := Tryz.zeroValue3
  t28 := Tryz.underlying141
  a28 := Tryz.isAgg141
  z28 := Tryz.sizeOf141
  v28 := Tryz.zeroValue141
  i26 := by kernel_rfl }
def YtoamghncncalgaaGreatDoor.sortA_ren : Go.Shelf.Ren := ⟨fun | 5 => 89 | 8 => 95 | 7 => 94 | 19 => 105 | 20 => 106 | 10 => 96 | 11 => 97 | 12 => 98 | 13 => 99 | 14 => 100 | 15 => 101 | 16 => 102 | 17 => 103 | 18 => 104 | 30 => 107 | 31 => 108 | 32 => 109 | 33 => 110 | 34 => 111 | 35 => 112 | 40 => 113 | n => n, fun | 23 => 44 | 25 => 3 | 3 => 3 | 32 => 150 | 22 => 44 | 0 => 0 | 44 => 192 | 46 => 95 | 4 => 4 | 36 => 184 | 35 => 183 | 41 => 189 | 5 => 5 | 9 => 9 | 53 => 194 | 57 => 198 | 63 => 200 | 64 => 201 | n => n, fun | n => n⟩
theorem YtoamghncncalgaaGreatDoor.sortA : Go.Proofs.SlLaysM.n5 Tryz.prog YtoamghncncalgaaGreatDoor.sortA_ren := {
  mixed := by kernel_rfl
  f5 := ⟨Tryz.f89.name, by decide, Tryz.func89.trans (congrArg some (by kernel_rfl))⟩
  f7 := ⟨Tryz.f94.name, by decide, Tryz.func94.trans (congrArg some (by kernel_rfl))⟩
  f8 := Tryz.func95.trans (congrArg some (by kernel_rfl))
  f10 := ⟨Tryz.f96.name, by decide, Tryz.func96.trans (congrArg some (by kernel_rfl))⟩
  f11 := ⟨Tryz.f97.name, by decide, Tryz.func97.trans (congrArg some (by kernel_rfl))⟩
  f12 := ⟨Tryz.f98.name, by decide, Tryz.func98.trans (congrArg some (by kernel_rfl))⟩
  f13 := ⟨Tryz.f99.name, by decide, Tryz.func99.trans (congrArg some (by kernel_rfl))⟩
  f14 := ⟨Tryz.f100.name, by decide, Tryz.func100.trans (congrArg some (by kernel_rfl))⟩
  f15 := ⟨Tryz.f101.name, by decide, Tryz.func101.trans (congrArg some (by kernel_rfl))⟩
  f16 := ⟨Tryz.f102.name, by decide, Tryz.func102.trans (congrArg some (by kernel_rfl))⟩
  f17 := ⟨Tryz.f103.name, by decide, Tryz.func103.trans (congrArg some (by kernel_rfl))⟩
  f18 := ⟨Tryz.f104.name, by decide, Tryz.func104.trans (congrArg some (by kernel_rfl))⟩
  f19 := Tryz.func105.trans (congrArg some (by kernel_rfl))
  f20 := Tryz.func106.trans (congrArg some (by kernel_rfl))
  f30 := ⟨Tryz.f107.name, by decide, Tryz.func107.trans (congrArg some (by kernel_rfl))⟩
  f31 := Tryz.func108.trans (congrArg some (by kernel_rfl))
  f32 := Tryz.func109.trans (congrArg some (by kernel_rfl))
  f33 := ⟨Tryz.f110.name, by decide, Tryz.func110.trans (congrArg some (by kernel_rfl))⟩
  f34 := ⟨Tryz.f111.name, by decide, Tryz.func111.trans (congrArg some (by kernel_rfl))⟩
  f35 := ⟨Tryz.f112.name, by decide, Tryz.func112.trans (congrArg some (by kernel_rfl))⟩
  f40 := ⟨Tryz.f113.name, by decide, Tryz.func113.trans (congrArg some (by kernel_rfl))⟩
  t0 := Tryz.underlying0
  a0 := Tryz.isAgg0
  z0 := Tryz.sizeOf0
  v0 := Tryz.zeroValue0
  t3 := Tryz.underlying3
  a3 := Tryz.isAgg3
  z3 := Tryz.sizeOf3
  v3 := Tryz.zeroValue3
  t4 := Tryz.underlying4
  a4 := Tryz.isAgg4
  z4 := Tryz.sizeOf4
  v4 := Tryz.zeroValue4
  t5 := Tryz.underlying5
  a5 := Tryz.isAgg5
  z5 := Tryz.sizeOf5
  v5 := Tryz.zeroValue5
  t9 := Tryz.underlying9
  a9 := Tryz.isAgg9
  z9 := Tryz.sizeOf9
  v9 := Tryz.zeroValue9
  t22 := Tryz.underlying44
  a22 := Tryz.isAgg44
  z22 := Tryz.sizeOf44
  v22 := Tryz.zeroValue44
  t23 := Tryz.underlying44
  a23 := Tryz.isAgg44
  z23 := Tryz.sizeOf44
  v23 := Tryz.zeroValue44
  t25 := Tryz.underlying3
  a25 := Tryz.isAgg3
  z25 := Tryz.sizeOf3
  v25 := Tryz.zeroValue3
  t32 := Tryz.underlying150
  a32 := Tryz.isAgg150
  z32 := Tryz.sizeOf150
  v32 := Tryz.zeroValue150
  t35 := Tryz.underlying183
  a35 := Tryz.isAgg183
  z35 := Tryz.sizeOf183
  v35 := Tryz.zeroValue183
  t36 := Tryz.underlying184
  a36 := Tryz.isAgg184
  z36 := Tryz.sizeOf184
  v36 := Tryz.zeroValue184
  t41 := Tryz.underlying189
  a41 := Tryz.isAgg189
  z41 := Tryz.sizeOf189
  v41 := Tryz.zeroValue189
  t44 := Tryz.underlying192
  a44 := Tryz.isAgg192
  z44 := Tryz.sizeOf192
  v44 := Tryz.zeroValue192
  t46 := Tryz.underlying95
  a46 := Tryz.isAgg95
  z46 := Tryz.sizeOf95
  v46 := Tryz.zeroValue95
  t53 := Tryz.underlying194
  a53 := Tryz.isAgg194
  z53 := Tryz.sizeOf194
  v53 := Tryz.zeroValue194
  t57 := Tryz.underlying198
  a57 := Tryz.isAgg198
  z57 := Tryz.sizeOf198
  v57 := Tryz.zeroValue198
  t63 := Tryz.underlying200
  a63 := Tryz.isAgg200
  z63 := Tryz.sizeOf200
  v63 := Tryz.zeroValue200
  t64 := Tryz.underlying201
  a64 := Tryz.isAgg201
  z64 := Tryz.sizeOf201
  v64 := Tryz.zeroValue201 }
end Go.Proofs
