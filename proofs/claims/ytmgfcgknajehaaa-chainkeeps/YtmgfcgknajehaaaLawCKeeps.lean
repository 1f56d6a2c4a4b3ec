/-
  TORN ANYWHERE (ChainKeeps): whatever was appended, cut where a record begins, lost and opened before, of records that are appended then, behind a crash of which any writes are kept, and the last one torn, all are found again that were synced, and a beginning of the others; nothing else. True for any acts, records and crash. Condition: the rows lie in memory, no slice longer than memory can be.
-/
import Derived.Test.YtmgfcgknajehaaaChHd
namespace Go.Proofs.Ytmgfcgknajehaaa
open Go.RowKit

def sumM (ms : List Rb) : Nat := (ms.map fun m => m.2.length).sum
theorem sumM_step {ms : List Rb} {k : Nat} (h : k < ms.length) : sumM (ms.take (k + 1)) = sumM (ms.take k) + (ms[k]).2.length := by
  unfold sumM
  rw [List.take_succ_eq_append_getElem h, List.map_append, List.sum_append]
  simp
theorem sumM_le (ms : List Rb) (k : Nat) : sumM (ms.take k) ≤ sumM ms := by
  unfold sumM
  conv => rhs; rw [← List.take_append_drop k ms, List.map_append, List.sum_append]
  omega
theorem Mr.at {W : World} {b o : Nat} {ms : List Rb} (h : W.rangeAt b o (ms.map (·.1))) {k : Nat} (hk : k < ms.length) : W.cell? ⟨b, o + k, none⟩ = some (ms[k]).1 := h k _ (by simp [hk])
/-- How high it gets behind so many more. -/
def mM (ms : List Rb) (k : Nat) : Int := 105 + (k : Int) + (sumM (ms.take k) : Int) / 46
theorem mM_le {ms : List Rb} (h : sumM ms ≤ 2000) (h2 : ms.length ≤ 20) {k : Nat} (hk : k ≤ ms.length) : mM ms k ≤ 168 := by
  have h3 := sumM_le ms k
  unfold mM
  omega
theorem mM_step {ms : List Rb} {k : Nat} (hk : k < ms.length) : mM ms k + blks ((ms[k]).2.length : Int) ≤ mM ms (k + 1) := by
  unfold mM
  rw [sumM_step hk]
  have := blks_div (n := ((ms[k]).2.length : Int)) (by omega)
  push_cast
  omega
/-- Where the loop of the law stands. -/
structure Kp (w W : World) (c d bS bT : Nat) (u hv : Value) (s : Dst) (nx sp : Int) (L : List Lk) (fm : Nat) (M : Int) (qs : List Lc) : Prop where
  ch : Chn W c d bS bT u s 3 nx sp
  nc : Nc w W c d bS bT u
  ps : Ps M s nx sp L fm
  hd : Hd w W c d bS bT u hv qs
  eq : lkO qs = L
  fl : fm ≤ L.length
section
variable {w W W' : World} {c d bS bT : Nat} {u u' hv : Value} {s s' : Dst} {nx sp nx' sp' M M' : Int} {L : List Lk} {fm fm' : Nat} {qs : List Lc}
theorem Kp.bnd (h : Kp w W c d bS bT u hv s nx sp L fm M qs) : (s.wt : Int) ≤ 400 ∧ (3 ≤ nx ∧ nx ≤ 203) ∧ (1 ≤ sp ∧ sp ≤ 201) ∧ (s.tk.length : Int) ≤ M ∧ s.room = 4000 ∧ 0 ≤ M := by
  have i1 := h.ps.wt
  have i2 := h.ps.pos
  have i3 := h.ps.n1
  have i4 := h.ps.s1
  have i5 := h.ps.tk
  have i6 := h.ps.rm
  have i7 := h.ps.m
  exact ⟨by omega, by omega, by omega, i5, i6, by omega⟩
theorem Kp.sync (h : Kp w W c d bS bT u hv s nx sp L fm M qs) (hc : Chn W' c d bS bT u' (syS s) 3 nx sp) (hx : Dx d bS bT u W W' u') : Kp w W' c d bS bT u' hv (syS s) nx sp L L.length M qs := ⟨hc, h.nc.dx hx, ps_sync h.ps, h.hd.cx (Cx.of hx), h.eq, Nat.le_refl _⟩
end
theorem Hd.grown {w W W' : World} {c d bS bT : Nat} {u v : Value} {qs : List Lc} {row : Option Nat} (h : Hd w W c d bS bT u v qs) (hg : W.grownBy W' row) (hr : ∀ k, row = some k → k = c) : Hd w W' c d bS bT u v qs := h.keep (fun k hk hn => hg.block k hk (fun e => hn (.inr (hr k e.symm)))) (fun _ _ e => e)
/-- A slice of the acts' memory is none of the chain's. -/
theorem slp_arg {w W : World} {c d bS bT : Nat} {u v hv : Value} {b : List Int} (h : Sl bc w v b) (hn : Nc w W c d bS bT u) (hh : ∀ k, hv.ownBlock = some k → w.heap.size ≤ k) : Slp (fun k => hv.ownBlock ≠ some k ∧ ¬ (Own d bS bT u k ∨ k = c)) W v b := by
  rcases h with ⟨ad, k, rfl, e⟩ | ⟨g, o, k, e, h1, h3⟩
  · exact .inl ⟨ad, k, e, rfl⟩
  · by_cases h0 : 0 < b.length
    · have hg : g < w.heap.size := cell_block (h3 0 h0)
      exact .inr ⟨g, o, k, e, h1, h0, ⟨fun e => by have := hh g e; omega, fun e => by have := hn.ow g e; omega⟩, fun i hi => (hn.be.cell (p := ⟨g, o + i, none⟩) hg).trans (h3 i hi)⟩
    · obtain rfl : b = [] := List.length_eq_zero_iff.1 (by omega)
      exact .inl ⟨_, _, e, rfl⟩
theorem al_size (W : World) (o : Obj) : (W.alloc o).heap.size = W.heap.size + 1 := Array.size_push _
theorem news_lk (W : World) (nx : Int) (v : Value) (b : List Int) (t : TypeId) : ∀ j x, (lkc (nx, v, b))[j]? = some x → (W.alloc (.cells #[.int .i64 nx, v] t)).cell? ((⟨W.heap.size, 0, none⟩ : Addr).add j) = some x := fun j x hj => by
  match j, hj with
  | 0, hj => simp [lkc] at hj; subst hj; simp [Addr.add, World.cell?_alloc_at _ _ _ _ rfl]
  | 1, hj => simp [lkc] at hj; subst hj; simp [Addr.add, World.cell?_alloc_at _ _ _ _ rfl]
  | n + 2, hj => simp [lkc] at hj
set_option maxRecDepth 100000 in
set_option maxHeartbeats 16000000 in
theorem ckeeps_law (v0 v1 v3 : Value) (ps : List Ap) (ms : List Rb) (ks : List Int) (sy cut : Int) (w : World) (hv : Al w v0 ps) (hz : ∀ p ∈ ps, p.1.by_.length ≤ 1152921504606846976) (hm : Mr w v1 ms) (hmz : ∀ m ∈ ms, m.2.length ≤ 1152921504606846976) (hk : Sl ic w v3 ks) (hs : 0 ≤ sy ∧ sy ≤ 255) : Calls Try.prog 3 #[v0, v1, .int .u8 sy, v3, .int .i64 cut] w fun e w' => e = .returned (.bool true) ∧ Below w.heap.size w w' := by
  have HV := hide hv
  have HZ := hide hz
  have HK := hide hk
  have HMZ := hide hmz
  obtain ⟨⟨ao, cap, rfl, _⟩, _⟩ := hv
  obtain ⟨⟨bo, bcap, rfl, hrow⟩, hms⟩ := hm
  have HROW := hide hrow
  have HMS := hide hms
  obtain ⟨ko, kc, rfl⟩ := hk.form
  obtain ⟨hs0, hs1⟩ := hs
  clear hz hrow hms hk hmz
  go_enter Try.func3, Try.ntmps3
  by_cases hli : liC ps = true
  · have HLI := hide hli
    clear hli
    by_cases h20 : ms.length ≤ 20
    · have h20I : ¬ (20 : Int) < (ms.length : Int) := by omega
      by_cases h60 : ks.length ≤ 60
      · have h60I : ¬ (60 : Int) < (ks.length : Int) := by omega
        go_upto_region 5 with (first | (go_at_call 7; refine (lightC_any _ ps _ HV.out HZ.out).mono ?_; rintro e w9 ⟨rfl, hw9⟩; rw [hw9, HLI.out]; clear hw9 w9))
        go_loopw [11, 12] (fun n i W => ∃ k : Nat, k ≤ ms.length ∧ i = .int .i64 k ∧ n = .int .i64 (sumM (ms.take k) : Int) ∧ W = w ∧ sumM (ms.take k) ≤ 2000 ∧ ∀ m ∈ ms.take k, 0 < m.2.length) (fun _ i _ => ms.length - (iv i).toNat)
        case atStart => exact ⟨0, Nat.zero_le _, rfl, rfl, rfl, Nat.zero_le _, fun m hm => by simp at hm⟩
        case round =>
          obtain ⟨k, hk, rfl, rfl, hWw, hsu, hall⟩ := hrel
          have hWw2 := hWw.symm
          clear hWw
          subst hWw2
          by_cases hlt : k < ms.length
          · obtain ⟨rb, ro, rfl, hrg⟩ := HROW.out (by omega)
            have he := Mr.at hrg hlt
            obtain ⟨a2, k2, e2⟩ := (HMS.out _ (List.getElem_mem hlt)).1.form
            rw [e2] at he
            have hmx := HMZ.out _ (List.getElem_mem hlt)
            have HS : Hid (sumM (ms.take (k + 1)) = sumM (ms.take k) + (ms[k]).2.length) := hide (sumM_step hlt)
            have HAL : Hid (0 < (ms[k]).2.length → ∀ m ∈ ms.take (k + 1), 0 < m.2.length) := hide (fun h0 m hm => by rw [List.take_succ_eq_append_getElem hlt] at hm; rcases List.mem_append.1 hm with e | e; exact hall m e; simp at e; rw [e]; exact h0)
            clear hall hrg e2
            generalize (ms[k]).2.length = n2 at he HS HAL hmx
            generalize sumM (ms.take k) = n1 at HS hsu ⊢
            have hmx3 : (n1 : Int) + n2 < 9223372036854775808 := by omega
            have hltI : (k : Int) < (ms.length : Int) := by omega
            by_cases h2 : n1 + n2 ≤ 2000
            · have h2I : ¬ (2000 : Int) < (n1 : Int) + (n2 : Int) := by omega
              by_cases h0 : n2 = 0
              · subst h0
                clear h2I hmx3 hmx
                have h2J : ¬ (2000 : Int) < (n1 : Int) := by omega
                have h2K : (n1 : Int) < 9223372036854775808 := by omega
                go_wp2_with (first | (go_at_call 8; refine (cworks_any _).mono ?_; rintro e w12 ⟨rfl, hb12⟩; have HB12 := hide hb12; clear hb12))
                go_ret
                exact ⟨rfl, HB12.out⟩
              · have h0I : ((n2 : Int) == 0) = false := by simp; omega
                go_wp2_with fail
                exact ⟨⟨k + 1, by omega, by go_num, by rw [HS.out]; go_num, by trivial, by rw [HS.out]; exact h2, HAL.out (by omega)⟩, by simp [iv]; omega⟩
            · have h2I : (2000 : Int) < (n1 : Int) + (n2 : Int) := by omega
              go_wp2_with (first | (go_at_call 8; refine (cworks_any _).mono ?_; rintro e w12 ⟨rfl, hb12⟩; have HB12 := hide hb12; clear hb12))
              go_ret
              exact ⟨rfl, HB12.out⟩
          · obtain rfl : k = ms.length := by omega
            rw [List.take_length] at hsu hall
            have HSU := hide hsu
            have HALL := hide hall
            have hnl : ¬ ((ms.length : Nat) : Int) < (ms.length : Int) := by omega
            clear hsu hall HMZ HZ
            go_upto_region 11 with (first | (go_at_call 9; refine (played_any _ ps _ HV.out HLI.out).mono ?_; rintro e w1 ⟨c, d, bS, bT, u0, s0, nx0, sp0, L0, fm0, rfl, hc, hp, hn, hl⟩; have HC1 := hide hc; have HP1 := hide hp; have HN1 := hide hn; have HL40 := hide hl; clear hc hp hn hl))
            go_upto_region 14 with (first | (go_at_call 10; refine (syncC_any _ HC1.out (by have := HP1.out.wt; omega)).mono ?_; rintro e w2 ⟨rfl, hc, hx⟩; have HC2 := hide hc; have HN2 := hide (HN1.out.dx hx); have HP2 := hide (ps_sync HP1.out); clear hc hx))
            clear HC1 HN1 HP1
            obtain ⟨y0, hO⟩ := ps_found HP2.out rfl
            have HO2 := hide hO
            have HW2 : Hid ((syS s0).wt < 30000) := hide (by have := HP2.out.wt; omega)
            clear hO
            generalize syS s0 = s1 at HC2 HP2 HO2 HW2
            go_upto_region 15 with (first | (go_at_call 11; (refine (open_hd (c0 := c) w w2 HC2.out.q HO2.out HW2.out HC2.out.x.lt HN2.out.be.size).mono ?_; (rintro e w3 ⟨cx, hv0, qs0, rfl, _, hh, _, hq, hcw, hb⟩; have HK3 : Hid (Kp w w3 c d bS bT (.slice none 0 0) hv0 s1 nx0 sp0 L0 L0.length (mM ms 0) qs0) := hide ⟨HC2.out.below hb, HN2.out.call hb, HP2.out.mono (by simp [mM, sumM]) (by simp [mM, sumM]), hh, hq, Nat.le_refl _⟩; have HQ3 := hide hq; clear hh hq hcw hb))))
            clear HC2 HN2 HP2 HO2 HW2
            obtain ⟨ha0, hk0, rfl⟩ := HK3.out.hd.lw.form
            have hl0 : qs0.length = L0.length := by rw [← HQ3.out, lkO_len]
            go_upto_region 19 with fail
            go_loopw [16, 18, 19] (fun hv fv i W => ∃ (k : Nat) (u : Value) (s : Dst) (nx sp : Int) (L : List Lk) (fm : Nat) (qs : List Lc), k ≤ ms.length ∧ i = .int .i64 k ∧ fv = .int .i64 (fm : Int) ∧ Kp w W c d bS bT u hv s nx sp L fm (mM ms k) qs ∧ qs.length ≤ 40 + k) (fun _ _ i _ => ms.length - (iv i).toNat)
            case atStart => exact ⟨0, _, _, _, _, _, L0.length, _, Nat.zero_le _, rfl, by first | rfl | rw [hl0], HK3.out, by rw [hl0]; have := HL40.out; omega⟩
            case round =>
              clear HK3 HQ3 hl0 HL40
              obtain ⟨k, u, s, nx, sp, L, fm, qs, hk, rfl, rfl, hkp, hql⟩ := hrel
              have HKP := hide hkp
              have HQL := hide hql
              clear hkp hql
              obtain ⟨ha, hc, rfl⟩ := HKP.out.hd.lw.form
              by_cases hlt : k < ms.length
              · obtain ⟨rb, ro, rfl, hrg⟩ := HROW.out (by omega)
                have he := Mr.at hrg hlt
                have HSL := hide (HMS.out _ (List.getElem_mem hlt)).1
                have HBY := hide (HMS.out _ (List.getElem_mem hlt)).2
                have hb0 := HALL.out _ (List.getElem_mem hlt)
                have HBL : Hid ((ms[k]).2.length ≤ 2000) := hide (by have h1 := sumM_step hlt; have h2 := sumM_le ms (k + 1); have h3 := HSU.out; omega)
                obtain ⟨n, hn⟩ : ∃ n : Nat, blks ((ms[k]).2.length : Int) = (n : Int) := ⟨(blks ((ms[k]).2.length : Int)).toNat, by have := blks_pos ((ms[k]).2.length : Int); omega⟩
                have HN := hide hn
                have HNB0 : Hid (mM ms k + (n : Int) ≤ mM ms (k + 1) ∧ mM ms (k + 1) ≤ 168) := hide ⟨by rw [← hn]; exact mM_step hlt, mM_le HSU.out h20 hlt⟩
                clear hn
                generalize hM1 : mM ms (k + 1) = N at HNB0
                generalize mM ms k = M at HKP HNB0
                have HM1 := hide hM1
                have HNB := HNB0
                clear hM1 HNB0
                have HVB : Hid (Sl bc w (ms[k]).1 (ms[k]).2) := HSL
                generalize (ms[k]).2 = b at HSL HBY hb0 HBL HN HVB
                generalize (ms[k]).1 = vb at he HSL HVB
                obtain ⟨ab, cb, rfl⟩ := HSL.out.form
                have hrl : rb < w.heap.size := cell_block he
                have d1 := (HKP.out.nc.be.cell (p := ⟨rb, ro + k, none⟩) hrl).trans he
                have hltI : (k : Int) < (ms.length : Int) := by omega
                go_upto_region 22 with (first | (go_at_call 12; refine (append_ok _ _ b n _ HKP.out.ch ⟨hb0, by have := HBL.out; omega⟩ HN.out (by have := HKP.out.bnd; omega) (by have := HKP.out.bnd; omega) (fun W' u' hx => HSL.out.below (HKP.out.nc.dx hx).be) HBY.out (by have := HKP.out.bnd; omega) (by have i1 := HKP.out.bnd; rw [i1.2.2.2.2.1]; have i2 := HNB.out; omega) (by have i1 := HKP.out.bnd; have i2 := HNB.out; omega)).mono ?_; rintro e w4 ⟨u4, rfl, hc4, hx⟩; have HK4 : Hid (Kp w w4 c d bS bT u4 (.slice ha qs.length hc) (pS s nx sp b n) (nx + n) (sp + n) (L ++ [(nx, b)]) fm (mM ms (k + 1)) qs ∨ True) := hide (.inr trivial); have HP4 := hide ((ps_app HKP.out.ps HBY.out hb0 (by have := HBL.out; omega) HN.out (by have := HNB.out; omega) hc4.q.ok).mono (N := N) HNB.out.1 (by have := HNB.out; omega)); have HC4 := hide hc4; have HN4 := hide (HKP.out.nc.step hx); have HD4 := hide (HKP.out.hd.cx hx); clear hc4 hx HK4))
                have d2 := (HN4.out.be.cell (p := ⟨rb, ro + k, none⟩) hrl).trans he
                have hal : Below w4.heap.size w4 (w4.alloc (.cells #[.int .i64 nx, .slice ab b.length cb] 40)) := al_c w4 _
                go_upto_region 25 with (first | (at_builtin; refine wpList_appLz _ rfl _ _ rfl w.heap.size _ qs rfl (HD4.out.lw.below hal) (Nat.le_trans HN4.out.be.size hal.size) ⟨w4.heap.size, 0, none⟩ 1 (nx, .slice ab b.length cb, b) rfl (news_lk w4 nx (.slice ab b.length cb) b 40) ⟨_, _, _, rfl⟩ (((slp_arg HVB.out HN4.out (fun k e => (HD4.out.lw.own.lt k e).1)).below hal).keep (fun _ p _ => p.1) (fun _ _ _ => rfl)) (by have := HQL.out; omega) ?_; intro v5 W5 hl5 hg5 ho5; have HK5 : Hid (Kp w W5 c d bS bT u4 v5 (pS s nx sp b n) (nx + n) (sp + n) (L ++ [(nx, b)]) fm N (qs ++ [(nx, .slice ab b.length cb, b)])) := hide ⟨(HC4.out.below hal).grow hg5 HD4.out.ap, (HN4.out.call hal).grow hg5 (fun k e => (HD4.out.lw.own.lt k e).1), HP4.out, (HD4.out.below hal).grow (fun k e => (HC4.out.below hal).lt e) hl5 hg5 ho5 ((slp_arg HVB.out HN4.out (fun k e => (HD4.out.lw.own.lt k e).1)).below hal) HBY.out, by rw [lkO_snoc, HKP.out.eq], by rw [List.length_append]; have := HKP.out.fl; omega⟩; clear hl5 hg5 ho5))
                clear HC4 HN4 HP4 HD4 hal d1 d2
                obtain ⟨va5, vk5, hv5⟩ := HK5.out.hd.lw.form
                subst hv5
                have HL5 : Hid ((qs ++ [(nx, Value.slice ab b.length cb, b)]).length ≤ 40 + (k + 1)) := hide (by rw [List.length_append]; have := HQL.out; simp; omega)
                have hle5 : (L ++ [(nx, b)]).length = (qs ++ [(nx, Value.slice ab b.length cb, b)]).length := by rw [List.length_append, List.length_append, ← HKP.out.eq, lkO_len]; rfl
                generalize qs ++ [(nx, Value.slice ab b.length cb, b)] = q5 at HK5 HL5 hle5 ⊢
                generalize L ++ [(nx, b)] = L5 at HK5 hle5
                generalize pS s nx sp b n = s5 at HK5
                generalize nx + (n : Int) = nx5 at HK5
                generalize sp + (n : Int) = sp5 at HK5
                clear HKP HQL
                by_cases hsy : (k : Int) + 1 = sy
                · have hsb : ((k : Int) + 1 == sy) = true := by simp [hsy]
                  go_wp2_with (first | (go_at_call 10; refine (syncC_any _ HK5.out.ch (by have := HK5.out.bnd; omega)).mono ?_; rintro e w6 ⟨rfl, hc, hx⟩; have HK6 := hide (HK5.out.sync hc hx); clear hc hx))
                  exact ⟨⟨k + 1, _, _, _, _, _, L5.length, _, by omega, by go_num, by rw [hle5], by rw [HM1.out]; exact HK6.out, HL5.out⟩, by simp [iv]; omega⟩
                · have hsb : ((k : Int) + 1 == sy) = false := by simp [hsy]
                  go_wp2_with fail
                  exact ⟨⟨k + 1, _, _, _, _, _, fm, _, by omega, by go_num, rfl, by rw [HM1.out]; exact HK5.out, HL5.out⟩, by simp [iv]; omega⟩
              · obtain rfl : k = ms.length := by omega
                have hnl2 : ¬ ((ms.length : Nat) : Int) < (ms.length : Int) := by omega
                have HM168 := hide (mM_le HSU.out h20 (Nat.le_refl _))
                generalize mM ms ms.length = M at HKP HM168
                obtain ⟨kk, x, y, hO, hf1, hf2, hps⟩ := ps_crash HKP.out.ps ks cut
                have HO := hide hO
                have HP6 := hide hps
                have HWT : Hid ((crS s ks cut).wt < 30000) := hide (by have i1 := crS_wt HKP.out.ch.q.ok ks cut; have i2 := HKP.out.bnd; omega)
                clear hO hps
                have hlq : qs.length = L.length := by rw [← HKP.out.eq, lkO_len]
                go_upto_region 29 with (first | (go_at_call 13; refine (q_crash _ ks cut _ HKP.out.ch.q (HK.out.below HKP.out.nc.be) (by have := HKP.out.bnd; omega)).mono ?_; rintro e w6 ⟨rfl, hq, hx⟩; have HQ6 := hide hq; have HN6 := hide (HKP.out.nc.dx hx); have HD6 := hide (HKP.out.hd.cx (Cx.of hx)); have HC6 : Hid (c < w6.heap.size) := hide (Nat.lt_of_lt_of_le HKP.out.ch.x.lt hx.ba.size); have HEQ := hide HKP.out.eq; clear hq hx))
                clear HKP
                generalize crS s ks cut = s6 at HO HP6 HWT HQ6
                go_upto_region 30 with (first | (go_at_call 11; refine (open_hd (c0 := c) w w6 HQ6.out HO.out HWT.out HC6.out HN6.out.be.size).mono ?_; rintro e w7 ⟨c2, gv, gs, rfl, hc, _, hh, hq, hcw, hb⟩; have HC7 := hide hc; have HG7 := hide hh; have HD7 := hide (HD6.out.other hb hcw); have HGQ := hide hq; have HN7 := hide (HN6.out.opened hb hcw); clear hc hh hq hcw hb))
                clear HQ6 HN6 HD6 HO HWT HC6
                have hgl : gs.length = kk := by rw [← lkO_len, HGQ.out, List.length_take]; omega
                obtain ⟨ga, gk, rfl⟩ := HG7.out.lw.form
                rw [hgl] at HG7 ⊢
                have hk1 : ¬ ((kk : Nat) : Int) < (fm : Int) := by omega
                have hk2 : ¬ ((qs.length : Nat) : Int) < (kk : Int) := by omega
                have HSM : Hid (∀ W, Below w7.heap.size w7 W → Calls Try.prog 14 #[.slice ga kk gk, .slice ha kk hc] W fun e w' => e = .returned (.bool true) ∧ Below W.heap.size W w') := hide (fun W hW => lsame_any _ _ gs (qs.take kk) W (HG7.out.lrd.below hW) ((HD7.out.lrd.take (by omega)).below hW) (by rw [lkO_take, HEQ.out, HGQ.out]) (by have := HQL.out; omega))
                have HPL : Hid (x + 1 ≤ 204 ∧ 3 ≤ x ∧ (s6.tk.length : Int) + 1 ≤ 4000 ∧ s6.room = 4000 ∧ (s6.wt : Int) ≤ 400 ∧ 1 ≤ max y (hiS 3 s6.cs) + 1 ∧ max y (hiS 3 s6.cs) + 1 ≤ 200) := hide (by have i1 := HP6.out.wt; have i2 := HP6.out.pos; have i3 := HP6.out.n1; have i4 := HP6.out.s1; have i5 := HP6.out.tk; have i6 := HP6.out.rm; have i7 := HM168.out; exact ⟨by omega, by omega, by omega, i6, by omega, by omega, by omega⟩)
                generalize hsp : max y (hiS 3 s6.cs) + 1 = sp6 at HC7 HP6 HPL
                clear hsp
                rcases HD7.out.lw.two with ⟨e1, e2⟩ | ⟨hg, hcap, e1, hle1, hmx1⟩
                · subst e2
                  obtain ⟨rfl, rfl⟩ : ha = none ∧ hc = 0 := by cases e1; exact ⟨rfl, rfl⟩
                  obtain rfl : kk = 0 := by simp at hlq; omega
                  clear hlq
                  go_upto_region 32 with (first | (go_at_call 14; refine (HSM.out _ (Below.refl _ _)).mono ?_; rintro e w8 ⟨rfl, hb8⟩; have HC8 := hide (HC7.out.below hb8); have HG8 := hide (HG7.out.below hb8); have HN8 := hide (HN7.out.call hb8); clear hb8))
                  clear HC7 HG7 HN7 HSM HD7
                  have hal5 : Below w8.heap.size w8 (w8.alloc (.cells #[.int .u8 5] 5)) := al_c w8 _
                  go_upto_region 33 with (first | (go_at_call 12; refine (append_ok _ _ [5] 1 _ (HC8.out.below hal5) (by decide) (by decide) (by have := HPL.out; omega) (by have := HPL.out; omega) (sl_dx (sl1 w8 5 _) (fun e => by have := HC8.out.q.dk.lt e; omega)) (fun x hx => by simp at hx; omega) (by have := HPL.out; omega) (by have i1 := HPL.out; rw [i1.2.2.2.1]; omega) (by have := HPL.out; omega)).mono ?_; rintro e w9 ⟨u9, rfl, hc, hx⟩; have HC9 := hide hc; have HG9 := hide ((HG8.out.below hal5).cx hx); have HN9 := hide ((HN8.out.call hal5).step hx); have HP9 := hide (ps_app HP6.out (fun x hx => by simp at hx; omega) (by decide) (by decide) (by decide) (by have := HM168.out; omega) hc.q.ok); clear hc hx))
                  clear HC8 HG8 HN8 hal5 HP6
                  go_upto_region 36 with (first | (go_at_call 10; refine (syncC_any _ HC9.out (by have := HP9.out.wt; have := HM168.out; omega)).mono ?_; rintro e w10 ⟨rfl, hc, hx⟩; have HC10 := hide hc; have HN10 := hide (HN9.out.dx hx); have HG10 := hide (HG9.out.cx (Cx.of hx)); have HP10 := hide (ps_sync HP9.out); clear hc hx))
                  clear HC9 HN9 HG9 HP9
                  obtain ⟨y1, hO1⟩ := ps_found HP10.out rfl
                  have HO10 := hide hO1
                  have HW10 : Hid ((syS (pS s6 x sp6 [5] 1)).wt < 30000) := hide (by have := HP10.out.wt; have := HM168.out; omega)
                  clear hO1
                  generalize syS (pS s6 x sp6 [5] 1) = s10 at HC10 HP10 HO10 HW10
                  have hgb0 : ∃ gB, gB < w10.heap.size ∧ ∀ k, (Value.slice ga 0 gk).ownBlock = some k → k = gB := by
                    cases hob : (Value.slice ga 0 gk).ownBlock with
                    | none => exact ⟨c2, HC10.out.x.lt, fun k e => by cases e⟩
                    | some k => exact ⟨k, (HG10.out.lw.own.lt k hob).2, fun j e => by cases e; rfl⟩
                  obtain ⟨gB, hgb⟩ := hgb0
                  have HGB := hide hgb
                  clear hgb
                  go_upto_region 37 with (first | (go_at_call 11; refine (open_hd (c0 := gB) w w10 HC10.out.q HO10.out HW10.out HGB.out.1 HN10.out.be.size).mono ?_; rintro e w11 ⟨c3, lv, ls, rfl, _, hh, _, hq, hcw, hb⟩; have HC11 := hide (HC10.out.below hb); have HL11 := hide hh; have HG11 := hide (HG10.out.below hb); have HLQ := hide hq; have HN11 := hide (HN10.out.call hb); clear hh hq hcw hb))
                  clear HC10 HG10 HN10 HO10 HW10 HP10
                  obtain ⟨la, lk, rfl⟩ := HL11.out.lw.form
                  have hal6 : Below w11.heap.size w11 (w11.alloc (.cells #[.int .u8 5] 5)) := al_c w11 _
                  have hal7 : Below (w11.alloc (.cells #[.int .u8 5] 5)).heap.size (w11.alloc (.cells #[.int .u8 5] 5)) ((w11.alloc (.cells #[.int .u8 5] 5)).alloc (.cells #[.int .i64 x, .slice (some ⟨w11.heap.size, 0, none⟩) 1 1] 40)) := al_c _ _
                  have HSL5 : Hid (Slp (fun b => (Value.slice ga 0 gk).ownBlock ≠ some b ∧ ¬ (Own d bS bT (.slice none 0 0) b ∨ b = c2)) (w11.alloc (.cells #[.int .u8 5] 5)) (.slice (some ⟨w11.heap.size, 0, none⟩) 1 1) [5]) := hide (.inr ⟨w11.heap.size, 0, 1, rfl, by decide, by decide, ⟨fun e => by have := (HG11.out.lw.own.lt _ e).2; omega, fun e => by have := HC11.out.lt e; omega⟩, fun i hi => by rw [Nat.zero_add, World.cell?_alloc_at _ _ _ _ rfl]; match i, hi with | 0, _ => rfl⟩)
                  go_wp2_with (first | (at_builtin; (refine wpList_appLw _ (by rfl) _ _ rfl w.heap.size _ gs rfl ((HG11.out.lw.below hal6).below hal7) (by have i1 := HN11.out.be.size; have i2 := hal6.size; have i3 := hal7.size; omega) ⟨w11.heap.size + 1, 0, none⟩ 1 (x, .slice (some ⟨w11.heap.size, 0, none⟩) 1 1, [5]) rfl (by have i := news_lk (w11.alloc (.cells #[.int .u8 5] 5)) x (.slice (some ⟨w11.heap.size, 0, none⟩) 1 1) [5] 40; rw [al_size] at i; exact i) ⟨_, _, _, rfl⟩ ((HSL5.out.below hal7).keep (fun _ p _ => p.1) (fun _ _ _ => rfl)) (by have := HQL.out; omega) ?_; intro v12 W12 hl12 hg12 ho12; have HG12 := hide (((HG11.out.below hal6).below hal7).grow (fun k e => ((HC11.out.below hal6).below hal7).lt e) hl12 hg12 ho12 (HSL5.out.below hal7) (fun x hx => by simp at hx; omega)); have HL12 : Hid (Lrd W12 (.slice la ls.length lk) ls) := hide ((((HL11.out.below hal6).below hal7).grown hg12 HGB.out.2).lrd); have HN12 := hide (((HN11.out.call hal6).call hal7).grow hg12 (fun k e => (HG11.out.lw.own.lt k e).1)); clear hl12 hg12 ho12)) | (go_at_call 14; (refine (lsame_any _ _ ls (gs ++ [(x, .slice (some ⟨w11.heap.size, 0, none⟩) 1 1, [5])]) _ HL12.out HG12.out.lrd (by rw [lkO_snoc, HGQ.out, HLQ.out]) (by have h1 := lkO_len ls; have h2 := HQL.out; rw [HLQ.out, List.length_append, ← HGQ.out, lkO_len] at h1; simp at h1; omega)).mono ?_; rintro e w13 ⟨rfl, hb13⟩; have HN13 := hide (HN12.out.call hb13); clear hb13)) | (go_at_call 8; refine (cworks_any _).mono ?_; rintro e w12 ⟨rfl, hb12⟩; have HB12 := hide (bt HN13.out.be hb12); clear hb12))
                  go_ret
                  exact ⟨rfl, HB12.out⟩
                · obtain ⟨rfl, rfl⟩ : ha = some ⟨hg, 0, none⟩ ∧ hc = hcap := by cases e1; exact ⟨rfl, rfl⟩
                  clear e1
                  have hkc : kk ≤ hc := by omega
                  have hkcI : (kk : Int) ≤ (hc : Int) := by omega
                  go_upto_region 32 with (first | (go_at_call 14; refine (HSM.out _ (Below.refl _ _)).mono ?_; rintro e w8 ⟨rfl, hb8⟩; have HC8 := hide (HC7.out.below hb8); have HG8 := hide (HG7.out.below hb8); have HN8 := hide (HN7.out.call hb8); clear hb8))
                  clear HC7 HG7 HN7 HSM HD7
                  have hal5 : Below w8.heap.size w8 (w8.alloc (.cells #[.int .u8 5] 5)) := al_c w8 _
                  go_upto_region 33 with (first | (go_at_call 12; refine (append_ok _ _ [5] 1 _ (HC8.out.below hal5) (by decide) (by decide) (by have := HPL.out; omega) (by have := HPL.out; omega) (sl_dx (sl1 w8 5 _) (fun e => by have := HC8.out.q.dk.lt e; omega)) (fun x hx => by simp at hx; omega) (by have := HPL.out; omega) (by have i1 := HPL.out; rw [i1.2.2.2.1]; omega) (by have := HPL.out; omega)).mono ?_; rintro e w9 ⟨u9, rfl, hc, hx⟩; have HC9 := hide hc; have HG9 := hide ((HG8.out.below hal5).cx hx); have HN9 := hide ((HN8.out.call hal5).step hx); have HP9 := hide (ps_app HP6.out (fun x hx => by simp at hx; omega) (by decide) (by decide) (by decide) (by have := HM168.out; omega) hc.q.ok); clear hc hx))
                  clear HC8 HG8 HN8 hal5 HP6
                  go_upto_region 36 with (first | (go_at_call 10; refine (syncC_any _ HC9.out (by have := HP9.out.wt; have := HM168.out; omega)).mono ?_; rintro e w10 ⟨rfl, hc, hx⟩; have HC10 := hide hc; have HN10 := hide (HN9.out.dx hx); have HG10 := hide (HG9.out.cx (Cx.of hx)); have HP10 := hide (ps_sync HP9.out); clear hc hx))
                  clear HC9 HN9 HG9 HP9
                  obtain ⟨y1, hO1⟩ := ps_found HP10.out rfl
                  have HO10 := hide hO1
                  have HW10 : Hid ((syS (pS s6 x sp6 [5] 1)).wt < 30000) := hide (by have := HP10.out.wt; have := HM168.out; omega)
                  clear hO1
                  generalize syS (pS s6 x sp6 [5] 1) = s10 at HC10 HP10 HO10 HW10
                  have hgb0 : ∃ gB, gB < w10.heap.size ∧ ∀ k, (Value.slice ga kk gk).ownBlock = some k → k = gB := by
                    cases hob : (Value.slice ga kk gk).ownBlock with
                    | none => exact ⟨c2, HC10.out.x.lt, fun k e => by cases e⟩
                    | some k => exact ⟨k, (HG10.out.lw.own.lt k hob).2, fun j e => by cases e; rfl⟩
                  obtain ⟨gB, hgb⟩ := hgb0
                  have HGB := hide hgb
                  clear hgb
                  go_upto_region 37 with (first | (go_at_call 11; refine (open_hd (c0 := gB) w w10 HC10.out.q HO10.out HW10.out HGB.out.1 HN10.out.be.size).mono ?_; rintro e w11 ⟨c3, lv, ls, rfl, _, hh, _, hq, hcw, hb⟩; have HC11 := hide (HC10.out.below hb); have HL11 := hide hh; have HG11 := hide (HG10.out.below hb); have HLQ := hide hq; have HN11 := hide (HN10.out.call hb); clear hh hq hcw hb))
                  clear HC10 HG10 HN10 HO10 HW10 HP10
                  obtain ⟨la, lk, rfl⟩ := HL11.out.lw.form
                  have hal6 : Below w11.heap.size w11 (w11.alloc (.cells #[.int .u8 5] 5)) := al_c w11 _
                  have hal7 : Below (w11.alloc (.cells #[.int .u8 5] 5)).heap.size (w11.alloc (.cells #[.int .u8 5] 5)) ((w11.alloc (.cells #[.int .u8 5] 5)).alloc (.cells #[.int .i64 x, .slice (some ⟨w11.heap.size, 0, none⟩) 1 1] 40)) := al_c _ _
                  have HSL5 : Hid (Slp (fun b => (Value.slice ga kk gk).ownBlock ≠ some b ∧ ¬ (Own d bS bT (.slice none 0 0) b ∨ b = c2)) (w11.alloc (.cells #[.int .u8 5] 5)) (.slice (some ⟨w11.heap.size, 0, none⟩) 1 1) [5]) := hide (.inr ⟨w11.heap.size, 0, 1, rfl, by decide, by decide, ⟨fun e => by have := (HG11.out.lw.own.lt _ e).2; omega, fun e => by have := HC11.out.lt e; omega⟩, fun i hi => by rw [Nat.zero_add, World.cell?_alloc_at _ _ _ _ rfl]; match i, hi with | 0, _ => rfl⟩)
                  go_wp2_with (first | (at_builtin; (refine wpList_appLw _ (by rfl) _ _ rfl w.heap.size _ gs rfl ((HG11.out.lw.below hal6).below hal7) (by have i1 := HN11.out.be.size; have i2 := hal6.size; have i3 := hal7.size; omega) ⟨w11.heap.size + 1, 0, none⟩ 1 (x, .slice (some ⟨w11.heap.size, 0, none⟩) 1 1, [5]) rfl (by have i := news_lk (w11.alloc (.cells #[.int .u8 5] 5)) x (.slice (some ⟨w11.heap.size, 0, none⟩) 1 1) [5] 40; rw [al_size] at i; exact i) ⟨_, _, _, rfl⟩ ((HSL5.out.below hal7).keep (fun _ p _ => p.1) (fun _ _ _ => rfl)) (by have := HQL.out; omega) ?_; intro v12 W12 hl12 hg12 ho12; have HG12 := hide (((HG11.out.below hal6).below hal7).grow (fun k e => ((HC11.out.below hal6).below hal7).lt e) hl12 hg12 ho12 (HSL5.out.below hal7) (fun x hx => by simp at hx; omega)); have HL12 : Hid (Lrd W12 (.slice la ls.length lk) ls) := hide ((((HL11.out.below hal6).below hal7).grown hg12 HGB.out.2).lrd); have HN12 := hide (((HN11.out.call hal6).call hal7).grow hg12 (fun k e => (HG11.out.lw.own.lt k e).1)); clear hl12 hg12 ho12)) | (go_at_call 14; (refine (lsame_any _ _ ls (gs ++ [(x, .slice (some ⟨w11.heap.size, 0, none⟩) 1 1, [5])]) _ HL12.out HG12.out.lrd (by rw [lkO_snoc, HGQ.out, HLQ.out]) (by have h1 := lkO_len ls; have h2 := HQL.out; rw [HLQ.out, List.length_append, ← HGQ.out, lkO_len] at h1; simp at h1; omega)).mono ?_; rintro e w13 ⟨rfl, hb13⟩; have HN13 := hide (HN12.out.call hb13); clear hb13)) | (go_at_call 8; refine (cworks_any _).mono ?_; rintro e w12 ⟨rfl, hb12⟩; have HB12 := hide (bt HN13.out.be hb12); clear hb12))
                  go_ret
                  exact ⟨rfl, HB12.out⟩
      · have h60I : (60 : Int) < (ks.length : Int) := by omega
        go_wp2_with (first | (go_at_call 7; refine (lightC_any _ ps _ HV.out HZ.out).mono ?_; rintro e w9 ⟨rfl, hw9⟩; rw [hw9, HLI.out]; clear hw9 w9) | (go_at_call 8; refine (cworks_any _).mono ?_; rintro e w12 ⟨rfl, hb12⟩; have HB12 := hide hb12; clear hb12))
        go_ret
        exact ⟨rfl, HB12.out⟩
    · have h20I : (20 : Int) < (ms.length : Int) := by omega
      go_wp2_with (first | (go_at_call 7; refine (lightC_any _ ps _ HV.out HZ.out).mono ?_; rintro e w9 ⟨rfl, hw9⟩; rw [hw9, HLI.out]; clear hw9 w9) | (go_at_call 8; refine (cworks_any _).mono ?_; rintro e w12 ⟨rfl, hb12⟩; have HB12 := hide hb12; clear hb12))
      go_ret
      exact ⟨rfl, HB12.out⟩
  · have HLI : Hid (liC ps = false) := hide (by simpa using hli)
    clear hli
    go_wp2_with (first | (go_at_call 7; refine (lightC_any _ ps _ HV.out HZ.out).mono ?_; rintro e w9 ⟨rfl, hw9⟩; rw [hw9, HLI.out]; clear hw9 w9) | (go_at_call 8; refine (cworks_any _).mono ?_; rintro e w12 ⟨rfl, hb12⟩; have HB12 := hide hb12; clear hb12))
    go_ret
    exact ⟨rfl, HB12.out⟩
end Go.Proofs.Ytmgfcgknajehaaa
