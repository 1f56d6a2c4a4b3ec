/-
  AN IMAGE BEHIND A RECORD (image.Apply). Conditions: an image in order, its lists no longer than a hundred thousand; a record, its texts no longer than a store.
  A PARTITION BY ITS TOPIC AND PLACE (image.Part). Conditions: an image in order, its lists no longer than a hundred thousand.
-/
import Derived.Test.YtfnemlbkmhcodaaGreatJImKrsa3
import Derived.Test.YtfnemlbkmhcodaaGreatJRecChc
import Derived.Test.YtfnemlbkmhcodaaGreatJImCea3
import Derived.BigFrame
namespace Go.Proofs.YtfnemlbkmhcodaaGreat
open Go.RowKit

theorem erc_wrap {c : Int} {E : Value} (h : Erc c E) (hc : c ≠ 0) : ∃ t v, E = .iface t v ∧ ∀ (op : ByteArray) (a : Int), Erc c (.iface 136 (.agg #[.string op, .int .i64 a, .iface t v])) := by
  rcases h with ⟨h, _⟩ | ⟨_, l, rfl⟩
  · exact absurd h hc
  · obtain ⟨t, v, e⟩ := chn_form l c
    exact ⟨t, v, e, fun op a => .inr ⟨hc, (op, a) :: l, by rw [← e]; rfl⟩⟩
theorem ern_wrap {op' : ByteArray} {a' c : Int} (hc : c ≠ 0) : ∃ t v, erN op' a' c = .iface t v ∧ ∀ (op : ByteArray) (a : Int), Erc c (.iface 136 (.agg #[.string op, .int .i64 a, .iface t v])) := by
  unfold erN
  rw [if_neg hc]
  exact ⟨_, _, rfl, fun op a => .inr ⟨hc, [(op, a), (op', a')], rfl⟩⟩
theorem erc_zero {E : Value} (h : Erc 0 E) : E = .nilIface := by
  rcases h with ⟨_, h⟩ | ⟨h, _⟩
  · exact h
  · exact absurd rfl h
/-- What lies apart stays. -/
theorem ImR.lift {n0 : Nat → Prop} {n1 : Nat} {A W : World} {m : Im} {p : Ip} (h : ∀ W, Agr n0 n1 A W → ImR W m p) (hk : ∀ g, (n0 g ∨ n1 ≤ g) → g < A.heap.size → W.heap[g]? = A.heap[g]?) : ImR W m p := by
  have key : ∀ g, g < A.heap.size → (W.heap.extract 0 A.heap.size)[g]? = W.heap[g]? := fun g hl => by
    rw [Array.getElem?_extract]
    by_cases hw : g < W.heap.size
    · rw [if_pos (by omega), Nat.zero_add]
    · rw [if_neg (by omega), Array.getElem?_eq_none (by omega)]
  have h0 : ImR { W with heap := W.heap.extract 0 A.heap.size } m p := h _ (fun g hg => by
    by_cases hl : g < A.heap.size
    · exact (key g hl).trans (hk g hg hl)
    · have e2 : A.heap[g]? = none := Array.getElem?_eq_none (by omega)
      rw [e2]
      exact Array.getElem?_eq_none (by
        show (W.heap.extract 0 A.heap.size).size ≤ g
        rw [Array.size_extract]; omega))
  refine h0.below ⟨rfl, rfl, rfl, ?_, fun k hk' => ?_⟩
  · show (W.heap.extract 0 A.heap.size).size ≤ _
    rw [Array.size_extract]; omega
  · have hk2 : k < (W.heap.extract 0 A.heap.size).size := hk'
    rw [Array.size_extract] at hk2
    exact (key k (by omega)).symm
theorem agr_size {n0 : Nat → Prop} {n1 : Nat} {A W : World} (h : Agr n0 n1 A W) {k : Nat} (hk : n1 ≤ k) (hA : k < A.heap.size) : k < W.heap.size := by
  have := h k (.inr hk)
  rw [Array.getElem?_eq_getElem hA] at this
  exact (Array.getElem?_eq_some_iff.1 this).1
/-- The image itself is what is answered. -/
theorem Fr.ret {w W : World} {m : Im} {p : Ip} {cs zs : List Value} (h : Fr w m p cs zs W) (hl : zs.length = 5) : Fr w m p cs (iml m p) ((W.setCells (w.heap.size + 1 + 1) 0 (iml m p)).drewN 1) :=
  Fr.drewN (zs := iml m p) (⟨h.i.apart (by omega) (iml m p) 0, h.r.apart (by omega) (iml m p) 0, h.z.set (iml m p) (by rw [hl]; rfl), below_sets (by omega) (iml m p) 0 _ h.b⟩ : Fr w m p cs (iml m p) (W.setCells (w.heap.size + 1 + 1) 0 (iml m p))) 1
set_option maxRecDepth 100000 in
set_option maxHeartbeats 16000000 in
theorem Apply_any {ok : Nat → Prop} (m : Im) (p : Ip) (r : Rc) (v : Value) (w : World) (n0 : Nat → Prop) (hn0 : ∀ g, n0 g → g < w.heap.size) (hv : ∀ W, (∀ g, n0 g → W.heap[g]? = w.heap[g]?) → ImR W m p) (hw : Wf m 100000) (hr : IsR ok w v r) (ht : TxR r) : Calls Tryz.prog 30 #[imv m p, v] w fun e w' => StP n0 w w' (app m r).1 (app m r).2 e := by
  obtain ⟨a14, a15, a16, a17, c14, c15, c16, c17, rfl, hrw⟩ := hr
  have HVV := hide (fun (W W3 : World) (hb : Below w.heap.size w W3) (hW : Agr n0 w.heap.size W3 W) => hv W (fun g hg => (hW g (.inl hg)).trans (hb.block g (hn0 g hg))))
  have hv0 := hv
  replace hv : ImR w m p := hv w (fun _ _ => rfl)
  have HV := hide (fun W (h : Below w.heap.size w W) => hv.below h)
  have HVL := hide (fun W (h : Below w.heap.size w W) => (fun W' (hg : ∀ g, n0 g → W'.heap[g]? = W.heap[g]?) => hv0 W' (fun g hlt => (hg g hlt).trans (h.block g (hn0 g hlt)))))
  have HR := hide (fun W (h : Below w.heap.size w W) => (⟨a14, a15, a16, a17, c14, c15, c16, c17, rfl, hrw.below h⟩ : IsR ok W (.agg (cellsR r a14 a15 a16 a17 c14 c15 c16 c17).toArray) r))
  have HN0 := hide hn0
  by_cases hc : (chk r).2.2 = 0
  · have HS := hide (fun W (h : Below w.heap.size w W) => step_any m p r _ W n0 (fun g hg => Nat.lt_of_lt_of_le (hn0 g hg) h.size) (HVL.out W h) hw (HR.out W h) (chk_is hc))
    have HC : Hid (∀ W, Below w.heap.size w W → Calls Tryz.prog 62 #[.agg (cellsR r a14 a15 a16 a17 c14 c15 c16 c17).toArray] W fun e w' => e = .returned .nilIface ∧ Below W.heap.size W w') := hide (fun W h => by
      have := ccheck_any r _ W (HR.out W h) ht
      unfold erN at this
      rw [if_pos hc] at this
      exact this)
    have HEI : Hid ((stepI m r).2 ≠ 0 → (stepI m r).1 = m) := hide stepI_err
    have HRE : Hid (app m r = stepI m r) := hide (by unfold app; rw [if_pos hc])
    rw [HRE.out]
    clear HRE hc HVL
    generalize stepI m r = sr at HS HEI ⊢
    obtain ⟨m', c'⟩ := sr
    by_cases hs : c' = 0
    · subst hs
      clear HEI
      have HFR0 : Fr w m p (cellsR r a14 a15 a16 a17 c14 c15 c16 c17) imz (((w.alloc (.cells (List.toArray [Value.slice p.ab m.br.length p.cb, .slice p.aq p.ts.length p.cq, .slice p.ac m.cf.length p.cc, .slice p.ad m.dn.length p.cd, .int .i64 m.la]) 30)).alloc (.cells (List.toArray [Value.int .i64 r.k, .int .i64 r.br, .int .i64 r.ep, .int .i64 r.tp, .int .i64 r.pa, .int .i64 r.le, .int .i64 r.cl, .int .i64 r.se, .int .i64 r.co, .bool r.fl, .string ⟨r.nm.toArray⟩, .string ⟨r.ky.toArray⟩, .string ⟨r.va.toArray⟩, .string ⟨r.rk.toArray⟩, .slice a14 r.ids.length c14, .slice a15 r.isr.length c15, .slice a16 r.ad.length c16, .slice a17 r.dr.length c17]) 62)).alloc (.cells (List.toArray [Value.slice none 0 0, .slice none 0 0, .slice none 0 0, .slice none 0 0, .int .i64 0]) 30)) := Fr.mk0 w m p _ _ _ _ (Below.refl _ _)
      clear hv hv0 hw hrw HR hn0 ht
      unfold imv
      show Calls _ _ #[_, .agg (List.toArray [.int .i64 r.k, .int .i64 r.br, .int .i64 r.ep, .int .i64 r.tp, .int .i64 r.pa, .int .i64 r.le, .int .i64 r.cl, .int .i64 r.se, .int .i64 r.co, .bool r.fl, .string ⟨r.nm.toArray⟩, .string ⟨r.ky.toArray⟩, .string ⟨r.va.toArray⟩, .string ⟨r.rk.toArray⟩, .slice a14 r.ids.length c14, .slice a15 r.isr.length c15, .slice a16 r.ad.length c16, .slice a17 r.dr.length c17])] _ _
      go_enter Tryz.func30, Tryz.ntmps30
      go_upto_region 1 with fail
      generalize ((w.alloc (.cells (List.toArray [Value.slice p.ab m.br.length p.cb, .slice p.aq p.ts.length p.cq, .slice p.ac m.cf.length p.cc, .slice p.ad m.dn.length p.cd, .int .i64 m.la]) 30)).alloc (.cells (List.toArray [Value.int .i64 r.k, .int .i64 r.br, .int .i64 r.ep, .int .i64 r.tp, .int .i64 r.pa, .int .i64 r.le, .int .i64 r.cl, .int .i64 r.se, .int .i64 r.co, .bool r.fl, .string ⟨r.nm.toArray⟩, .string ⟨r.ky.toArray⟩, .string ⟨r.va.toArray⟩, .string ⟨r.rk.toArray⟩, .slice a14 r.ids.length c14, .slice a15 r.isr.length c15, .slice a16 r.ad.length c16, .slice a17 r.dr.length c17]) 62)).alloc (.cells (List.toArray [Value.slice none 0 0, .slice none 0 0, .slice none 0 0, .slice none 0 0, .int .i64 0]) 30) = X at HFR0 ⊢
      have HFR := hide HFR0
      clear HFR0
      obtain ⟨i0, i1, i2, i3, i4⟩ := HFR.out.i.im; have r0 := HFR.out.r.at 0 _ rfl
      go_upto_region 7 with (first | (refine wpList_load_mid rfl _ _ rfl _ _ rfl _ _ HFR.out.i.c Tryz.underlying30 rfl (by kernel_rfl) ?_) | (refine wpList_load_mid rfl _ _ rfl _ _ rfl _ _ HFR.out.r.c Tryz.underlying62 rfl (by kernel_rfl) ?_) | (go_at_call 62; refine (HC.out _ HFR.out.b).mono ?_; rintro e wx ⟨rfl, hbx⟩; replace HFR := hide (HFR.out.below hbx); clear i0 i1 i2 i3 i4 r0; clear hbx HC; obtain ⟨i0, i1, i2, i3, i4⟩ := HFR.out.i.im; have r0 := HFR.out.r.at 0 _ rfl) | (go_at_call 64; refine (HS.out _ HFR.out.b).mono ?_; rintro e wx ⟨p', E, rfl, him, hE, hbx⟩; obtain rfl := erc_zero hE; clear hE; have HXS := hide hbx.size; have HIM := hide him; have HSX := hide HFR.out.sz; replace HFR := hide (HFR.out.below hbx); clear i0 i1 i2 i3 i4 r0; clear hbx him HS; unfold imv; dsimp only))
      have HNX := hide (Bx.new wx [Value.slice p'.ab m'.br.length p'.cb, .slice p'.aq p'.ts.length p'.cq, .slice p'.ac m'.cf.length p'.cc, .slice p'.ad m'.dn.length p'.cd, .int .i64 m'.la] 30)
      have HAL : Hid (∀ g, g < wx.heap.size → (wx.alloc (.cells (List.toArray [Value.slice p'.ab m'.br.length p'.cb, .slice p'.aq p'.ts.length p'.cq, .slice p'.ac m'.cf.length p'.cc, .slice p'.ad m'.dn.length p'.cd, .int .i64 m'.la]) 30)).heap[g]? = wx.heap[g]?) := hide (fun g hg => (below_al1 wx _).block g hg)
      have HSA : Hid (wx.heap.size < (wx.alloc (.cells (List.toArray [Value.slice p'.ab m'.br.length p'.cb, .slice p'.aq p'.ts.length p'.cq, .slice p'.ac m'.cf.length p'.cc, .slice p'.ad m'.dn.length p'.cd, .int .i64 m'.la]) 30)).heap.size) := hide (by simp)
      replace HFR := hide (HFR.out.below (below_al1 wx (.cells (List.toArray [Value.slice p'.ab m'.br.length p'.cb, .slice p'.aq p'.ts.length p'.cq, .slice p'.ac m'.cf.length p'.cc, .slice p'.ad m'.dn.length p'.cd, .int .i64 m'.la]) 30)))
      generalize wx.alloc (.cells (List.toArray [Value.slice p'.ab m'.br.length p'.cb, .slice p'.aq p'.ts.length p'.cq, .slice p'.ac m'.cf.length p'.cc, .slice p'.ad m'.dn.length p'.cd, .int .i64 m'.la]) 30) = X3 at HFR HNX HAL HSA ⊢
      go_wp2_with (first | (refine wpList_load_mid rfl _ _ rfl _ _ rfl _ _ HNX.out.c Tryz.underlying30 rfl (by kernel_rfl) ?_) | (refine wpList_set rfl _ _ _ rfl _ _ rfl HFR.out.z (iml m' p') rfl rfl (by kernel_rfl) rfl ?_; intro W3 hz hk hb hp; have HBB := hide (hb _ _ (show w.heap.size ≤ w.heap.size + 1 + 1 by omega) HFR.out.b); have HZ := hide hz; have HPP := hide hp; have HZS := hide (hb 0 X3 (by omega) (Below.refl _ _)).size; clear hz hk hb hp))
      obtain ⟨q0, q1, q2, q3, q4⟩ := HZ.out.im
      have HIF : Hid (∀ W, Agr n0 w.heap.size W3 W → ImR W m' p') := hide (fun W hW => by
        have h1 := HSX.out; have h2 := HXS.out; have h3 := HSA.out; have h4 := HZS.out
        refine ImR.lift HIM.out (fun g hg hl => ?_)
        rcases hg with hg | hg
        · have := HN0.out g hg
          exact (hW g (.inl hg)).trans ((HPP.out g (by omega)).trans (HAL.out g hl))
        · exact (hW g (.inr (by omega))).trans ((HPP.out g (by omega)).trans (HAL.out g hl)))
      exact bodyPost_ret (v := .tuple #[.agg (iml m' p').toArray, .nilIface]) (by simp [results, Tryz.results30, go_sem, q0, q1, q2, q3, q4, iml]) rfl ⟨p', .nilIface, rfl, HIF.out, erc_nil, HBB.out⟩
    · have HSE := hide hs
      rw [HEI.out hs] at HS ⊢
      clear HEI hs
      have HFR0 : Fr w m p (cellsR r a14 a15 a16 a17 c14 c15 c16 c17) imz (((w.alloc (.cells (List.toArray [Value.slice p.ab m.br.length p.cb, .slice p.aq p.ts.length p.cq, .slice p.ac m.cf.length p.cc, .slice p.ad m.dn.length p.cd, .int .i64 m.la]) 30)).alloc (.cells (List.toArray [Value.int .i64 r.k, .int .i64 r.br, .int .i64 r.ep, .int .i64 r.tp, .int .i64 r.pa, .int .i64 r.le, .int .i64 r.cl, .int .i64 r.se, .int .i64 r.co, .bool r.fl, .string ⟨r.nm.toArray⟩, .string ⟨r.ky.toArray⟩, .string ⟨r.va.toArray⟩, .string ⟨r.rk.toArray⟩, .slice a14 r.ids.length c14, .slice a15 r.isr.length c15, .slice a16 r.ad.length c16, .slice a17 r.dr.length c17]) 62)).alloc (.cells (List.toArray [Value.slice none 0 0, .slice none 0 0, .slice none 0 0, .slice none 0 0, .int .i64 0]) 30)) := Fr.mk0 w m p _ _ _ _ (Below.refl _ _)
      clear hv hv0 hw hrw HR hn0 ht
      unfold imv
      show Calls _ _ #[_, .agg (List.toArray [.int .i64 r.k, .int .i64 r.br, .int .i64 r.ep, .int .i64 r.tp, .int .i64 r.pa, .int .i64 r.le, .int .i64 r.cl, .int .i64 r.se, .int .i64 r.co, .bool r.fl, .string ⟨r.nm.toArray⟩, .string ⟨r.ky.toArray⟩, .string ⟨r.va.toArray⟩, .string ⟨r.rk.toArray⟩, .slice a14 r.ids.length c14, .slice a15 r.isr.length c15, .slice a16 r.ad.length c16, .slice a17 r.dr.length c17])] _ _
      go_enter Tryz.func30, Tryz.ntmps30
      go_upto_region 1 with fail
      generalize ((w.alloc (.cells (List.toArray [Value.slice p.ab m.br.length p.cb, .slice p.aq p.ts.length p.cq, .slice p.ac m.cf.length p.cc, .slice p.ad m.dn.length p.cd, .int .i64 m.la]) 30)).alloc (.cells (List.toArray [Value.int .i64 r.k, .int .i64 r.br, .int .i64 r.ep, .int .i64 r.tp, .int .i64 r.pa, .int .i64 r.le, .int .i64 r.cl, .int .i64 r.se, .int .i64 r.co, .bool r.fl, .string ⟨r.nm.toArray⟩, .string ⟨r.ky.toArray⟩, .string ⟨r.va.toArray⟩, .string ⟨r.rk.toArray⟩, .slice a14 r.ids.length c14, .slice a15 r.isr.length c15, .slice a16 r.ad.length c16, .slice a17 r.dr.length c17]) 62)).alloc (.cells (List.toArray [Value.slice none 0 0, .slice none 0 0, .slice none 0 0, .slice none 0 0, .int .i64 0]) 30) = X at HFR0 ⊢
      have HFR := hide HFR0
      clear HFR0
      obtain ⟨i0, i1, i2, i3, i4⟩ := HFR.out.i.im; have r0 := HFR.out.r.at 0 _ rfl
      go_upto_region 6 with (first | (refine wpList_load_mid rfl _ _ rfl _ _ rfl _ _ HFR.out.i.c Tryz.underlying30 rfl (by kernel_rfl) ?_) | (refine wpList_load_mid rfl _ _ rfl _ _ rfl _ _ HFR.out.r.c Tryz.underlying62 rfl (by kernel_rfl) ?_) | (go_at_call 62; refine (HC.out _ HFR.out.b).mono ?_; rintro e wx ⟨rfl, hbx⟩; replace HFR := hide (HFR.out.below hbx); clear i0 i1 i2 i3 i4 r0; clear hbx HC; obtain ⟨i0, i1, i2, i3, i4⟩ := HFR.out.i.im; have r0 := HFR.out.r.at 0 _ rfl) | (go_at_call 64; refine (HS.out _ HFR.out.b).mono ?_; rintro e wx ⟨p', E, rfl, him, hE, hbx⟩; obtain ⟨tE, vE, rfl, hew⟩ := erc_wrap hE HSE.out; clear hE; have HEW := hide hew; clear hew; have HIM := hide him; have HSX := hide HFR.out.sz; replace HFR := hide (HFR.out.below hbx); clear i0 i1 i2 i3 i4 r0; clear hbx him HS; unfold imv; dsimp only))
      have HNX := hide (Bx.new wx [Value.slice p'.ab m.br.length p'.cb, .slice p'.aq p'.ts.length p'.cq, .slice p'.ac m.cf.length p'.cc, .slice p'.ad m.dn.length p'.cd, .int .i64 m.la] 30)
      have HAL : Hid (∀ g, g < wx.heap.size → (wx.alloc (.cells (List.toArray [Value.slice p'.ab m.br.length p'.cb, .slice p'.aq p'.ts.length p'.cq, .slice p'.ac m.cf.length p'.cc, .slice p'.ad m.dn.length p'.cd, .int .i64 m.la]) 30)).heap[g]? = wx.heap[g]?) := hide (fun g hg => (below_al1 wx _).block g hg)
      have HSA : Hid (wx.heap.size < (wx.alloc (.cells (List.toArray [Value.slice p'.ab m.br.length p'.cb, .slice p'.aq p'.ts.length p'.cq, .slice p'.ac m.cf.length p'.cc, .slice p'.ad m.dn.length p'.cd, .int .i64 m.la]) 30)).heap.size) := hide (by simp)
      replace HFR := hide (HFR.out.below (below_al1 wx (.cells (List.toArray [Value.slice p'.ab m.br.length p'.cb, .slice p'.aq p'.ts.length p'.cq, .slice p'.ac m.cf.length p'.cc, .slice p'.ad m.dn.length p'.cd, .int .i64 m.la]) 30)))
      generalize wx.alloc (.cells (List.toArray [Value.slice p'.ab m.br.length p'.cb, .slice p'.aq p'.ts.length p'.cq, .slice p'.ac m.cf.length p'.cc, .slice p'.ad m.dn.length p'.cd, .int .i64 m.la]) 30) = X3 at HFR HNX HAL HSA ⊢
      clear HNX HAL HSA
      obtain ⟨i0, i1, i2, i3, i4⟩ := HFR.out.i.im; have r0 := HFR.out.r.at 0 _ rfl
      obtain ⟨z0, z1, z2, z3, z4⟩ := HFR.out.z.c5
      have f0 := HFR.out.z.f 0 (by decide)
      have f1 := HFR.out.z.f 1 (by decide)
      have f2 := HFR.out.z.f 2 (by decide)
      have f3 := HFR.out.z.f 3 (by decide)
      have f4 := HFR.out.z.f 4 (by decide)
      have hz := HFR.out.z.there (m := 5) rfl
      have HFO : Hid (Fr w m p (cellsR r a14 a15 a16 a17 c14 c15 c16 c17) (iml m p) ((((((X3.setCell ⟨w.heap.size + 1 + 1, 0, none⟩ (.slice p.ab m.br.length p.cb)).setCell ⟨w.heap.size + 1 + 1, 1, none⟩ (.slice p.aq p.ts.length p.cq)).setCell ⟨w.heap.size + 1 + 1, 2, none⟩ (.slice p.ac m.cf.length p.cc)).setCell ⟨w.heap.size + 1 + 1, 3, none⟩ (.slice p.ad m.dn.length p.cd)).setCell ⟨w.heap.size + 1 + 1, 4, none⟩ (.int .i64 m.la)).drew)) := hide (HFR.out.ret rfl)
      go_region_with (first | (go_at_call 63; refine (wrap_some _ _ _ _ _).mono ?_; rintro e wy ⟨rfl, hwy⟩; rw [hwy]; clear hwy wy))
      all_goals
        generalize (((((X3.setCell ⟨w.heap.size + 1 + 1, 0, none⟩ (.slice p.ab m.br.length p.cb)).setCell ⟨w.heap.size + 1 + 1, 1, none⟩ (.slice p.aq p.ts.length p.cq)).setCell ⟨w.heap.size + 1 + 1, 2, none⟩ (.slice p.ac m.cf.length p.cc)).setCell ⟨w.heap.size + 1 + 1, 3, none⟩ (.slice p.ad m.dn.length p.cd)).setCell ⟨w.heap.size + 1 + 1, 4, none⟩ (.int .i64 m.la)).drew = W3 at HFO ⊢
        clear z0 z1 z2 z3 z4 f0 f1 f2 f3 f4 hz
        obtain ⟨q0, q1, q2, q3, q4⟩ := HFO.out.z.im
        go_wp2_with fail
        exact bodyPost_ret (v := .tuple #[.agg (iml m p).toArray, .iface 136 (.agg #[.string ⟨#[97, 112, 112, 108, 121]⟩, .int .i64 r.k, .iface tE vE])]) (by simp [results, Tryz.results30, go_sem, q0, q1, q2, q3, q4, iml]) rfl (st_ret HFO.out (fun W hW => HVV.out W _ HFO.out.b hW) (HEW.out ⟨#[97, 112, 112, 108, 121]⟩ r.k))
  · have HRE : Hid (app m r = (m, (chk r).2.2)) := hide (by unfold app; rw [if_neg hc])
    rw [HRE.out]
    obtain ⟨tE, vE, hE, hEW⟩ := ern_wrap (op' := (chk r).1) (a' := (chk r).2.1) hc
    have HEW := hide hEW
    have HC : Hid (∀ W, Below w.heap.size w W → Calls Tryz.prog 62 #[.agg (cellsR r a14 a15 a16 a17 c14 c15 c16 c17).toArray] W fun e w' => e = .returned (.iface tE vE) ∧ Below W.heap.size W w') := hide (fun W h => by
      have := ccheck_any r _ W (HR.out W h) ht
      rw [hE] at this
      exact this)
    clear hE hEW hc HVL
    have HFR0 : Fr w m p (cellsR r a14 a15 a16 a17 c14 c15 c16 c17) imz (((w.alloc (.cells (List.toArray [Value.slice p.ab m.br.length p.cb, .slice p.aq p.ts.length p.cq, .slice p.ac m.cf.length p.cc, .slice p.ad m.dn.length p.cd, .int .i64 m.la]) 30)).alloc (.cells (List.toArray [Value.int .i64 r.k, .int .i64 r.br, .int .i64 r.ep, .int .i64 r.tp, .int .i64 r.pa, .int .i64 r.le, .int .i64 r.cl, .int .i64 r.se, .int .i64 r.co, .bool r.fl, .string ⟨r.nm.toArray⟩, .string ⟨r.ky.toArray⟩, .string ⟨r.va.toArray⟩, .string ⟨r.rk.toArray⟩, .slice a14 r.ids.length c14, .slice a15 r.isr.length c15, .slice a16 r.ad.length c16, .slice a17 r.dr.length c17]) 62)).alloc (.cells (List.toArray [Value.slice none 0 0, .slice none 0 0, .slice none 0 0, .slice none 0 0, .int .i64 0]) 30)) := Fr.mk0 w m p _ _ _ _ (Below.refl _ _)
    clear hv hv0 hw hrw HR hn0 ht
    unfold imv
    show Calls _ _ #[_, .agg (List.toArray [.int .i64 r.k, .int .i64 r.br, .int .i64 r.ep, .int .i64 r.tp, .int .i64 r.pa, .int .i64 r.le, .int .i64 r.cl, .int .i64 r.se, .int .i64 r.co, .bool r.fl, .string ⟨r.nm.toArray⟩, .string ⟨r.ky.toArray⟩, .string ⟨r.va.toArray⟩, .string ⟨r.rk.toArray⟩, .slice a14 r.ids.length c14, .slice a15 r.isr.length c15, .slice a16 r.ad.length c16, .slice a17 r.dr.length c17])] _ _
    go_enter Tryz.func30, Tryz.ntmps30
    go_upto_region 1 with fail
    generalize ((w.alloc (.cells (List.toArray [Value.slice p.ab m.br.length p.cb, .slice p.aq p.ts.length p.cq, .slice p.ac m.cf.length p.cc, .slice p.ad m.dn.length p.cd, .int .i64 m.la]) 30)).alloc (.cells (List.toArray [Value.int .i64 r.k, .int .i64 r.br, .int .i64 r.ep, .int .i64 r.tp, .int .i64 r.pa, .int .i64 r.le, .int .i64 r.cl, .int .i64 r.se, .int .i64 r.co, .bool r.fl, .string ⟨r.nm.toArray⟩, .string ⟨r.ky.toArray⟩, .string ⟨r.va.toArray⟩, .string ⟨r.rk.toArray⟩, .slice a14 r.ids.length c14, .slice a15 r.isr.length c15, .slice a16 r.ad.length c16, .slice a17 r.dr.length c17]) 62)).alloc (.cells (List.toArray [Value.slice none 0 0, .slice none 0 0, .slice none 0 0, .slice none 0 0, .int .i64 0]) 30) = X at HFR0 ⊢
    have HFR := hide HFR0
    clear HFR0
    obtain ⟨i0, i1, i2, i3, i4⟩ := HFR.out.i.im; have r0 := HFR.out.r.at 0 _ rfl
    go_upto_region 3 with (first | (refine wpList_load_mid rfl _ _ rfl _ _ rfl _ _ HFR.out.r.c Tryz.underlying62 rfl (by kernel_rfl) ?_) | (go_at_call 62; refine (HC.out _ HFR.out.b).mono ?_; rintro e wx ⟨rfl, hbx⟩; replace HFR := hide (HFR.out.below hbx); clear i0 i1 i2 i3 i4 r0; clear hbx HC; obtain ⟨i0, i1, i2, i3, i4⟩ := HFR.out.i.im; have r0 := HFR.out.r.at 0 _ rfl))
    obtain ⟨z0, z1, z2, z3, z4⟩ := HFR.out.z.c5
    have f0 := HFR.out.z.f 0 (by decide)
    have f1 := HFR.out.z.f 1 (by decide)
    have f2 := HFR.out.z.f 2 (by decide)
    have f3 := HFR.out.z.f 3 (by decide)
    have f4 := HFR.out.z.f 4 (by decide)
    have hz := HFR.out.z.there (m := 5) rfl
    have HFO : Hid (Fr w m p (cellsR r a14 a15 a16 a17 c14 c15 c16 c17) (iml m p) ((((((wx.setCell ⟨w.heap.size + 1 + 1, 0, none⟩ (.slice p.ab m.br.length p.cb)).setCell ⟨w.heap.size + 1 + 1, 1, none⟩ (.slice p.aq p.ts.length p.cq)).setCell ⟨w.heap.size + 1 + 1, 2, none⟩ (.slice p.ac m.cf.length p.cc)).setCell ⟨w.heap.size + 1 + 1, 3, none⟩ (.slice p.ad m.dn.length p.cd)).setCell ⟨w.heap.size + 1 + 1, 4, none⟩ (.int .i64 m.la)).drew)) := hide (HFR.out.ret rfl)
    go_region_with (first | (go_at_call 63; refine (wrap_some _ _ _ _ _).mono ?_; rintro e wy ⟨rfl, hwy⟩; rw [hwy]; clear hwy wy))
    all_goals
      generalize (((((wx.setCell ⟨w.heap.size + 1 + 1, 0, none⟩ (.slice p.ab m.br.length p.cb)).setCell ⟨w.heap.size + 1 + 1, 1, none⟩ (.slice p.aq p.ts.length p.cq)).setCell ⟨w.heap.size + 1 + 1, 2, none⟩ (.slice p.ac m.cf.length p.cc)).setCell ⟨w.heap.size + 1 + 1, 3, none⟩ (.slice p.ad m.dn.length p.cd)).setCell ⟨w.heap.size + 1 + 1, 4, none⟩ (.int .i64 m.la)).drew = W3 at HFO ⊢
      clear z0 z1 z2 z3 z4 f0 f1 f2 f3 f4 hz
      obtain ⟨q0, q1, q2, q3, q4⟩ := HFO.out.z.im
      go_wp2_with fail
      exact bodyPost_ret (v := .tuple #[.agg (iml m p).toArray, .iface 136 (.agg #[.string ⟨#[114, 101, 99, 111, 114, 100]⟩, .int .i64 r.k, .iface tE vE])]) (by simp [results, Tryz.results30, go_sem, q0, q1, q2, q3, q4, iml]) rfl (st_ret HFO.out (fun W hW => HVV.out W _ HFO.out.b hW) (HEW.out ⟨#[114, 101, 99, 111, 114, 100]⟩ r.k))
end Go.Proofs.YtfnemlbkmhcodaaGreat
namespace Go.Proofs.YtfnemlbkmhcodaaGreat
open Go.RowKit

/-- A load of many cells whose guard says yes. -/
theorem wpList_load_want {P : Program} {ops : Array Oper} {rest : List Oper} {op : Oper} {a : Act} {w : World} {Q : Exit → Act → World → Prop} (hw : Region.wanted op (yielded ops a.tmps) = true) (ty : TypeId) (x : Operand) (ho : op.op = .load ty x)
    (b o : Nat) (hx : a.eval x = .pointer (some ⟨b, o, none⟩)) (cs : List Value) (d : TypeDesc) (hc : w.rangeAt b o cs) (hu : P.underlying ty = some d) (hd : d.isRow = true) (hi : (P.info? ty).map (·.size) = some cs.length)
    (h : wpList P ops Q rest (a.put op.dst (.agg cs.toArray)) w) : wpList P ops Q (op :: rest) a w :=
  BigFrame.wpList_want hw fun _ hK => wp_load_mid ty x ho b o hx cs d hc hu hd hi (hK _ _ h)
set_option maxRecDepth 100000 in
set_option maxHeartbeats 8000000 in
theorem part_no (m : Im) (p : Ip) (id n : Int) (t : Tq) (is : Bool) (w : World) (hT : ∀ W, Below w.heap.size w W → Calls Tryz.prog 11 #[imv m p, .int .i64 id] W fun e w' => e = .returned (.tuple #[.agg (tpc t).toArray, .bool is]) ∧ Below W.heap.size W w') (hn : ¬ (0 ≤ n ∧ n < (t.ps.length : Int))) : Calls Tryz.prog 15 #[imv m p, .int .i64 id, .int .i64 n] w fun e w' => e = .returned (.tuple #[.agg #[.slice none 0 0, .slice none 0 0, .int .i64 0, .int .i64 0, .slice none 0 0, .slice none 0 0], .bool false]) ∧ Below w.heap.size w w' := by
  have HT := hide hT
  clear hT
  by_cases h0 : 0 ≤ n
  · have h1 : ¬ n < (t.ps.length : Int) := fun q => hn ⟨h0, q⟩
    clear hn
    have HBB : Hid (Bx ((w.alloc (.cells (List.toArray [Value.slice p.ab m.br.length p.cb, .slice p.aq p.ts.length p.cq, .slice p.ac m.cf.length p.cc, .slice p.ad m.dn.length p.cd, .int .i64 m.la]) 30)).alloc (.cells (List.toArray [Value.slice none 0 0, .slice none 0 0, .int .i64 0, .int .i64 0, .slice none 0 0, .slice none 0 0]) 44)) w.heap.size (iml m p) ∧ Bx ((w.alloc (.cells (List.toArray [Value.slice p.ab m.br.length p.cb, .slice p.aq p.ts.length p.cq, .slice p.ac m.cf.length p.cc, .slice p.ad m.dn.length p.cd, .int .i64 m.la]) 30)).alloc (.cells (List.toArray [Value.slice none 0 0, .slice none 0 0, .int .i64 0, .int .i64 0, .slice none 0 0, .slice none 0 0]) 44)) (w.heap.size + 1) [.slice none 0 0, .slice none 0 0, .int .i64 0, .int .i64 0, .slice none 0 0, .slice none 0 0] ∧ Below w.heap.size w ((w.alloc (.cells (List.toArray [Value.slice p.ab m.br.length p.cb, .slice p.aq p.ts.length p.cq, .slice p.ac m.cf.length p.cc, .slice p.ad m.dn.length p.cd, .int .i64 m.la]) 30)).alloc (.cells (List.toArray [Value.slice none 0 0, .slice none 0 0, .int .i64 0, .int .i64 0, .slice none 0 0, .slice none 0 0]) 44))) := hide (Bx.mk2 w (iml m p) [.slice none 0 0, .slice none 0 0, .int .i64 0, .int .i64 0, .slice none 0 0, .slice none 0 0] _ _ (Below.refl _ _))
    unfold imv at *
    go_enter Tryz.func15, Tryz.ntmps15
    go_upto_region 1 with fail
    generalize (w.alloc (.cells (List.toArray [Value.slice p.ab m.br.length p.cb, .slice p.aq p.ts.length p.cq, .slice p.ac m.cf.length p.cc, .slice p.ad m.dn.length p.cd, .int .i64 m.la]) 30)).alloc (.cells (List.toArray [Value.slice none 0 0, .slice none 0 0, .int .i64 0, .int .i64 0, .slice none 0 0, .slice none 0 0]) 44) = X at HBB ⊢
    have HI := hide HBB.out.1
    have HR := hide HBB.out.2.1
    have HB := hide HBB.out.2.2
    clear HBB
    go_upto_region 2 with (first | (refine wpList_load_mid rfl _ _ rfl _ _ rfl _ _ HI.out.c Tryz.underlying30 rfl (by kernel_rfl) ?_) | (go_at_call 11; refine (HT.out _ HB.out).mono ?_; rintro e w1 ⟨rfl, hb1⟩; unfold tpc; dsimp only; replace HI := hide (HI.out.below hb1); replace HR := hide (HR.out.below hb1); replace HB := hide (bt HB.out hb1); clear hb1 HT))
    have HX := hide (Bx.new w1 [Value.int .i64 t.id, .string ⟨t.nm.toArray⟩, .slice t.a t.ps.length t.c] 38)
    replace HR := hide (HR.out.below (below_al1 w1 (.cells (List.toArray [Value.int .i64 t.id, .string ⟨t.nm.toArray⟩, .slice t.a t.ps.length t.c]) 38)))
    replace HB := hide (bt HB.out (below_al1 w1 (.cells (List.toArray [Value.int .i64 t.id, .string ⟨t.nm.toArray⟩, .slice t.a t.ps.length t.c]) 38)))
    clear HI
    generalize w1.alloc (.cells (List.toArray [Value.int .i64 t.id, .string ⟨t.nm.toArray⟩, .slice t.a t.ps.length t.c]) 38) = X2 at HX HR HB ⊢
    generalize w1.heap.size = bT at HX ⊢
    obtain ⟨t0, t1, t2⟩ := HX.out.c3
    go_wp2_with (first | (go_at_call 45; refine (atP_no _ _ _).mono ?_; rintro e w2 ⟨rfl, hb2⟩; replace HR := hide (HR.out.below hb2); replace HB := hide (bt HB.out hb2); clear hb2 HX t0 t1 t2) | (refine wpList_set rfl _ _ _ rfl _ _ rfl HR.out [.slice none 0 0, .slice none 0 0, .int .i64 0, .int .i64 0, .slice none 0 0, .slice none 0 0] rfl rfl (by kernel_rfl) rfl ?_; intro W3 hR3 _ hK3 _; have HR3 := hide hR3; have HB3 := hide (hK3 _ _ (Nat.le_succ _) HB.out); clear hR3 hK3 HR HB))
    obtain ⟨r0, r1, r2, r3, r4, r5⟩ := HR3.out.c6
    exact bodyPost_ret (v := .tuple #[.agg (List.toArray [.slice none 0 0, .slice none 0 0, .int .i64 0, .int .i64 0, .slice none 0 0, .slice none 0 0]), .bool false]) (by simp [results, Tryz.results15, go_sem, r0, r1, r2, r3, r4, r5]) rfl ⟨rfl, HB3.out⟩
  · clear hn
    have HBB : Hid (Bx ((w.alloc (.cells (List.toArray [Value.slice p.ab m.br.length p.cb, .slice p.aq p.ts.length p.cq, .slice p.ac m.cf.length p.cc, .slice p.ad m.dn.length p.cd, .int .i64 m.la]) 30)).alloc (.cells (List.toArray [Value.slice none 0 0, .slice none 0 0, .int .i64 0, .int .i64 0, .slice none 0 0, .slice none 0 0]) 44)) w.heap.size (iml m p) ∧ Bx ((w.alloc (.cells (List.toArray [Value.slice p.ab m.br.length p.cb, .slice p.aq p.ts.length p.cq, .slice p.ac m.cf.length p.cc, .slice p.ad m.dn.length p.cd, .int .i64 m.la]) 30)).alloc (.cells (List.toArray [Value.slice none 0 0, .slice none 0 0, .int .i64 0, .int .i64 0, .slice none 0 0, .slice none 0 0]) 44)) (w.heap.size + 1) [.slice none 0 0, .slice none 0 0, .int .i64 0, .int .i64 0, .slice none 0 0, .slice none 0 0] ∧ Below w.heap.size w ((w.alloc (.cells (List.toArray [Value.slice p.ab m.br.length p.cb, .slice p.aq p.ts.length p.cq, .slice p.ac m.cf.length p.cc, .slice p.ad m.dn.length p.cd, .int .i64 m.la]) 30)).alloc (.cells (List.toArray [Value.slice none 0 0, .slice none 0 0, .int .i64 0, .int .i64 0, .slice none 0 0, .slice none 0 0]) 44))) := hide (Bx.mk2 w (iml m p) [.slice none 0 0, .slice none 0 0, .int .i64 0, .int .i64 0, .slice none 0 0, .slice none 0 0] _ _ (Below.refl _ _))
    unfold imv at *
    go_enter Tryz.func15, Tryz.ntmps15
    go_upto_region 1 with fail
    generalize (w.alloc (.cells (List.toArray [Value.slice p.ab m.br.length p.cb, .slice p.aq p.ts.length p.cq, .slice p.ac m.cf.length p.cc, .slice p.ad m.dn.length p.cd, .int .i64 m.la]) 30)).alloc (.cells (List.toArray [Value.slice none 0 0, .slice none 0 0, .int .i64 0, .int .i64 0, .slice none 0 0, .slice none 0 0]) 44) = X at HBB ⊢
    have HI := hide HBB.out.1
    have HR := hide HBB.out.2.1
    have HB := hide HBB.out.2.2
    clear HBB
    go_upto_region 2 with (first | (refine wpList_load_mid rfl _ _ rfl _ _ rfl _ _ HI.out.c Tryz.underlying30 rfl (by kernel_rfl) ?_) | (go_at_call 11; refine (HT.out _ HB.out).mono ?_; rintro e w1 ⟨rfl, hb1⟩; unfold tpc; dsimp only; replace HI := hide (HI.out.below hb1); replace HR := hide (HR.out.below hb1); replace HB := hide (bt HB.out hb1); clear hb1 HT))
    have HX := hide (Bx.new w1 [Value.int .i64 t.id, .string ⟨t.nm.toArray⟩, .slice t.a t.ps.length t.c] 38)
    replace HR := hide (HR.out.below (below_al1 w1 (.cells (List.toArray [Value.int .i64 t.id, .string ⟨t.nm.toArray⟩, .slice t.a t.ps.length t.c]) 38)))
    replace HB := hide (bt HB.out (below_al1 w1 (.cells (List.toArray [Value.int .i64 t.id, .string ⟨t.nm.toArray⟩, .slice t.a t.ps.length t.c]) 38)))
    clear HI
    generalize w1.alloc (.cells (List.toArray [Value.int .i64 t.id, .string ⟨t.nm.toArray⟩, .slice t.a t.ps.length t.c]) 38) = X2 at HX HR HB ⊢
    generalize w1.heap.size = bT at HX ⊢
    obtain ⟨t0, t1, t2⟩ := HX.out.c3
    go_wp2_with (first | (go_at_call 45; refine (atP_no _ _ _).mono ?_; rintro e w2 ⟨rfl, hb2⟩; replace HR := hide (HR.out.below hb2); replace HB := hide (bt HB.out hb2); clear hb2 HX t0 t1 t2) | (refine wpList_set rfl _ _ _ rfl _ _ rfl HR.out [.slice none 0 0, .slice none 0 0, .int .i64 0, .int .i64 0, .slice none 0 0, .slice none 0 0] rfl rfl (by kernel_rfl) rfl ?_; intro W3 hR3 _ hK3 _; have HR3 := hide hR3; have HB3 := hide (hK3 _ _ (Nat.le_succ _) HB.out); clear hR3 hK3 HR HB))
    obtain ⟨r0, r1, r2, r3, r4, r5⟩ := HR3.out.c6
    exact bodyPost_ret (v := .tuple #[.agg (List.toArray [.slice none 0 0, .slice none 0 0, .int .i64 0, .int .i64 0, .slice none 0 0, .slice none 0 0]), .bool false]) (by simp [results, Tryz.results15, go_sem, r0, r1, r2, r3, r4, r5]) rfl ⟨rfl, HB3.out⟩
set_option maxRecDepth 100000 in
set_option maxHeartbeats 8000000 in
theorem part_yes (m : Im) (p : Ip) (id n : Int) (t : Tq) (is : Bool) (w : World) (hT : ∀ W, Below w.heap.size w W → Calls Tryz.prog 11 #[imv m p, .int .i64 id] W fun e w' => e = .returned (.tuple #[.agg (tpc t).toArray, .bool is]) ∧ Below W.heap.size W w') (ht : TqR w t) (i : Nat) (hi : i < t.ps.length) (hin : n = i) : Calls Tryz.prog 15 #[imv m p, .int .i64 id, .int .i64 n] w fun e w' => e = .returned (.tuple #[.agg (ptc t.ps[i]).toArray, .bool true]) ∧ Below w.heap.size w w' := by
  have HT := hide hT
  subst hin
  have HA := hide (fun W (h : Below w.heap.size w W) => atP_yes t.ps t.a _ t.c i W rfl (ht.ps.below h) hi)
  clear hT ht
  have h1 : (i : Int) < (t.ps.length : Int) := by omega
  generalize t.ps[i] = q at *
  unfold ptc at *
  have HBB : Hid (Bx ((w.alloc (.cells (List.toArray [Value.slice p.ab m.br.length p.cb, .slice p.aq p.ts.length p.cq, .slice p.ac m.cf.length p.cc, .slice p.ad m.dn.length p.cd, .int .i64 m.la]) 30)).alloc (.cells (List.toArray [Value.slice none 0 0, .slice none 0 0, .int .i64 0, .int .i64 0, .slice none 0 0, .slice none 0 0]) 44)) w.heap.size (iml m p) ∧ Bx ((w.alloc (.cells (List.toArray [Value.slice p.ab m.br.length p.cb, .slice p.aq p.ts.length p.cq, .slice p.ac m.cf.length p.cc, .slice p.ad m.dn.length p.cd, .int .i64 m.la]) 30)).alloc (.cells (List.toArray [Value.slice none 0 0, .slice none 0 0, .int .i64 0, .int .i64 0, .slice none 0 0, .slice none 0 0]) 44)) (w.heap.size + 1) [.slice none 0 0, .slice none 0 0, .int .i64 0, .int .i64 0, .slice none 0 0, .slice none 0 0] ∧ Below w.heap.size w ((w.alloc (.cells (List.toArray [Value.slice p.ab m.br.length p.cb, .slice p.aq p.ts.length p.cq, .slice p.ac m.cf.length p.cc, .slice p.ad m.dn.length p.cd, .int .i64 m.la]) 30)).alloc (.cells (List.toArray [Value.slice none 0 0, .slice none 0 0, .int .i64 0, .int .i64 0, .slice none 0 0, .slice none 0 0]) 44))) := hide (Bx.mk2 w (iml m p) [.slice none 0 0, .slice none 0 0, .int .i64 0, .int .i64 0, .slice none 0 0, .slice none 0 0] _ _ (Below.refl _ _))
  unfold imv at *
  go_enter Tryz.func15, Tryz.ntmps15
  go_upto_region 1 with fail
  generalize (w.alloc (.cells (List.toArray [Value.slice p.ab m.br.length p.cb, .slice p.aq p.ts.length p.cq, .slice p.ac m.cf.length p.cc, .slice p.ad m.dn.length p.cd, .int .i64 m.la]) 30)).alloc (.cells (List.toArray [Value.slice none 0 0, .slice none 0 0, .int .i64 0, .int .i64 0, .slice none 0 0, .slice none 0 0]) 44) = X at HBB ⊢
  have HI := hide HBB.out.1
  have HR := hide HBB.out.2.1
  have HB := hide HBB.out.2.2
  clear HBB
  go_upto_region 2 with (first | (refine wpList_load_mid rfl _ _ rfl _ _ rfl _ _ HI.out.c Tryz.underlying30 rfl (by kernel_rfl) ?_) | (go_at_call 11; refine (HT.out _ HB.out).mono ?_; rintro e w1 ⟨rfl, hb1⟩; unfold tpc; dsimp only; replace HI := hide (HI.out.below hb1); replace HR := hide (HR.out.below hb1); replace HB := hide (bt HB.out hb1); clear hb1 HT))
  have HX := hide (Bx.new w1 [Value.int .i64 t.id, .string ⟨t.nm.toArray⟩, .slice t.a t.ps.length t.c] 38)
  replace HR := hide (HR.out.below (below_al1 w1 (.cells (List.toArray [Value.int .i64 t.id, .string ⟨t.nm.toArray⟩, .slice t.a t.ps.length t.c]) 38)))
  replace HB := hide (bt HB.out (below_al1 w1 (.cells (List.toArray [Value.int .i64 t.id, .string ⟨t.nm.toArray⟩, .slice t.a t.ps.length t.c]) 38)))
  clear HI
  generalize w1.alloc (.cells (List.toArray [Value.int .i64 t.id, .string ⟨t.nm.toArray⟩, .slice t.a t.ps.length t.c]) 38) = X2 at HX HR HB ⊢
  generalize w1.heap.size = bT at HX ⊢
  obtain ⟨t0, t1, t2⟩ := HX.out.c3
  go_wp2_with (first | (go_at_call 45; refine (HA.out _ HB.out).mono ?_; rintro e w2 ⟨rfl, hb2⟩; replace HR := hide (HR.out.below hb2); replace HB := hide (bt HB.out hb2); clear hb2 HX t0 t1 t2) | (refine wpList_set rfl _ _ _ rfl _ _ rfl HR.out ([.slice q.2.a0 q.1.ids.length q.2.c0, .slice q.2.a1 q.1.isr.length q.2.c1, .int .i64 q.1.ld, .int .i64 q.1.ep, .slice q.2.a2 q.1.ad.length q.2.c2, .slice q.2.a3 q.1.dr.length q.2.c3] : List Value) rfl rfl (by kernel_rfl) rfl ?_; intro W3 hR3 _ hK3 _; have HR3 := hide hR3; have HB3 := hide (hK3 _ _ (Nat.le_succ _) HB.out); clear hR3 hK3 HR HB))
  obtain ⟨r0, r1, r2, r3, r4, r5⟩ := HR3.out.c6
  exact bodyPost_ret (v := .tuple #[.agg (List.toArray [.slice q.2.a0 q.1.ids.length q.2.c0, .slice q.2.a1 q.1.isr.length q.2.c1, .int .i64 q.1.ld, .int .i64 q.1.ep, .slice q.2.a2 q.1.ad.length q.2.c2, .slice q.2.a3 q.1.dr.length q.2.c3]), .bool true]) (by simp [results, Tryz.results15, go_sem, r0, r1, r2, r3, r4, r5]) rfl ⟨rfl, HB3.out⟩
/-- A topic, or none. -/
def tqOf (p : Ip) (id : Int) : Tq := (p.ts.find? (idQ id)).getD ⟨0, [], [], none, 0⟩
theorem topic_of (m : Im) (p : Ip) (id : Int) (w : World) (hv : ImR w m p) (hw : Wf m 100000) : Calls Tryz.prog 11 #[imv m p, .int .i64 id] w fun e w' => e = .returned (.tuple #[.agg (tpc (tqOf p id)).toArray, .bool (p.ts.find? (idQ id)).isSome]) ∧ Below w.heap.size w w' := by
  unfold tqOf
  cases h : p.ts.find? (idQ id) with
  | none => exact Topic_no m p id w hv hw h
  | some t => exact Topic_yes m p id w hv hw t h
end Go.Proofs.YtfnemlbkmhcodaaGreat
