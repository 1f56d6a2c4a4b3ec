/-
  BlockKeeps, WALKED: it answers true. Conditions: a number of eight bits; the handle of errors is laid.
-/
import Derived.Test.YtcgfgmnelaiojaaDoorBlkWo
namespace Go.Proofs.YtcgfgmnelaiojaaDoor
open Go.RowKit

section
variable {d bS bT : Nat} {u : Value} {s : Dst}
theorem Nb.zeroK {w W : World} (h : Nb w W d bS bT u) (hh : Hnd w) : ¬ Own d bS bT u 0 := fun q => by
  have h1 : 0 < w.heap.size := cell_block hh
  have h2 := h.ow _ q
  omega
theorem wr_two (s : Dst) (a : Int) (b : List Int) : (wrE s a b = none ∧ wrS s a b = ⟨s.room, s.cs, s.lo ++ [⟨a, false, padL b⟩]⟩ ∧ b.length ≤ 64) ∨ (∃ p, wrE s a b = some p) ∧ wrS s a b = s := by
  unfold wrE wrS
  split
  · split
    · rename_i hb
      split
      · exact .inl ⟨rfl, rfl, hb⟩
      · exact .inr ⟨⟨_, rfl⟩, rfl⟩
    · exact .inr ⟨⟨_, rfl⟩, rfl⟩
  · exact .inr ⟨⟨_, rfl⟩, rfl⟩
theorem look_padL (s : Dst) (a : Int) (b : List Int) : (look (Dst.tk ⟨s.room, s.cs, s.lo ++ [⟨a, false, padL b⟩]⟩) a).getD zer = padL b := by
  simp only [Dst.tk, tkO_snoc, stT, Bool.false_eq_true, if_false]
  rw [look_ins, if_pos rfl]
  rfl
/-- In the midst of the writes behind the sync. -/
structure Kp (w W : World) (d bS bT : Nat) (u v : Value) (s : Dst) (ps : List Wo) (g : Nat) (cs0 : Cs) (a : Int) (k : Nat) : Prop where
  q : Dq W d bS bT u s
  b : Nb w W d bS bT u
  x : Wx W w.heap.size d bS bT u v ps g ((look cs0 a).getD zer)
  c : s.cs = cs0
  l : s.lo.length ≤ k
  f : ∀ w ∈ s.lo, w.fr = false
  r : wrA a s.lo = ps.map (·.2)
theorem Kp.wt {w W : World} {v : Value} {ps : List Wo} {g : Nat} {cs0 : Cs} {a : Int} {k : Nat} (h : Kp w W d bS bT u v s ps g cs0 a k) : s.wt ≤ cs0.length + k := by
  have := h.l
  unfold Dst.wt
  rw [h.c]
  omega
theorem Kp.pl {w W : World} {v : Value} {ps : List Wo} {g : Nat} {cs0 : Cs} {a : Int} {k : Nat} (h : Kp w W d bS bT u v s ps g cs0 a k) : ps.length ≤ k := by
  have h1 := congrArg List.length h.r
  rw [List.length_map] at h1
  have h2 : (wrA a s.lo).length ≤ s.lo.length := by unfold wrA; rw [List.length_map]; exact List.length_filter_le _ _
  have := h.l
  omega
theorem Kp.mono {w W : World} {v : Value} {ps : List Wo} {g : Nat} {cs0 : Cs} {a : Int} {k k' : Nat} (h : Kp w W d bS bT u v s ps g cs0 a k) (hk : k ≤ k') : Kp w W d bS bT u v s ps g cs0 a k' := ⟨h.q, h.b, h.x, h.c, Nat.le_trans h.l hk, h.f, h.r⟩
/-- A write that is refused. -/
theorem Kp.bad {w W W' : World} {u' v : Value} {ps : List Wo} {g : Nat} {cs0 : Cs} {a : Int} {k : Nat} (h : Kp w W d bS bT u v s ps g cs0 a k) (hx : Dx d bS bT u W W' u') (hq : Dq W' d bS bT u' s) : Kp w W' d bS bT u' v s ps g cs0 a k := ⟨hq, h.b.step hx, h.x.step hx, h.c, h.l, h.f, h.r⟩
/-- A write of another block. -/
theorem Kp.other {w W W' : World} {u' v : Value} {ps : List Wo} {g : Nat} {cs0 : Cs} {a e : Int} {k : Nat} {b : List Int} (h : Kp w W d bS bT u v s ps g cs0 a k) (hx : Dx d bS bT u W W' u') (hq : Dq W' d bS bT u' ⟨s.room, s.cs, s.lo ++ [⟨e, false, b⟩]⟩) (he : e ≠ a) : Kp w W' d bS bT u' v ⟨s.room, s.cs, s.lo ++ [⟨e, false, b⟩]⟩ ps g cs0 a (k + 1) :=
  ⟨hq, h.b.step hx, h.x.step hx, h.c, by have := h.l; simp; omega, fun y hy => by
    rcases List.mem_append.1 hy with q | q
    · exact h.f y q
    · simp at q; rw [q], by
    show wrA a (s.lo ++ [⟨e, false, b⟩]) = _
    rw [wrA_app, wrA_one_ne (w := ⟨e, false, b⟩) he, List.append_nil]; exact h.r⟩
/-- The block itself was written, read, and laid to the others. -/
theorem Kp.own {w W W1 W' : World} {u' v v' : Value} {ps : List Wo} {g : Nat} {cs0 : Cs} {a : Int} {k : Nat} {q : Wo} (h : Kp w W d bS bT u v s ps g cs0 a k) (hx : Dx d bS bT u W W1 u') (hq : Dq W1 d bS bT u' ⟨s.room, s.cs, s.lo ++ [⟨a, false, q.2⟩]⟩)
    {V : World} (hV : Below W1.heap.size W1 V) (hb : W1.heap.size ≤ q.1) (hw : Ww W' w.heap.size v' (ps ++ [q])) (hg : V.grownBy W' v.ownBlock) (hu : v'.ownBlock = v.ownBlock ∨ v'.ownBlock = some V.heap.size) : Kp w W' d bS bT u' v' ⟨s.room, s.cs, s.lo ++ [⟨a, false, q.2⟩]⟩ (ps ++ [q]) g cs0 a (k + 1) := by
  have hxV := (h.x.step hx).call hV
  have hqV := hq.below hV
  obtain ⟨h1, h2⟩ := hxV.more hqV hw hg hu (fun e => by have := hq.dk.lt e; omega)
  have hnb := (h.b.step hx).call hV
  refine ⟨h2, ⟨hnb.be.grown hg hnb.be.size (fun j e => (hxV.ww.own.lt j e).1), hnb.ow⟩, h1, h.c, by have := h.l; simp; omega, fun y hy => ?_, ?_⟩
  · rcases List.mem_append.1 hy with q | q
    · exact h.f y q
    · simp at q; rw [q]
  · show wrA a (s.lo ++ [⟨a, false, q.2⟩]) = _
    rw [wrA_app, wrA_one_eq (w := ⟨a, false, q.2⟩) rfl, h.r, List.map_append]; rfl
end
/-- Three cells of an act that writes. -/
def C3 (W : World) (rb q : Nat) (bl : Int) (vb : Value) : Prop := W.cell? ⟨rb, q, none⟩ = some (.int .i64 0) ∧ W.cell? ⟨rb, q + 1, none⟩ = some (.int .i64 bl) ∧ W.cell? ⟨rb, q + 2, none⟩ = some vb
theorem C3.bel {w W : World} {rb q : Nat} {bl : Int} {vb : Value} (h : C3 w rb q bl vb) (hb : Below w.heap.size w W) : C3 W rb q bl vb :=
  ⟨(hb.cell (p := ⟨rb, q, none⟩) (cell_block h.1)).trans h.1, (hb.cell (p := ⟨rb, q + 1, none⟩) (cell_block h.2.1)).trans h.2.1, (hb.cell (p := ⟨rb, q + 2, none⟩) (cell_block h.2.2)).trans h.2.2⟩
section
variable {d bS bT : Nat} {u : Value} {s : Dst}
theorem Kp.calls {w W W' : World} {v : Value} {ps : List Wo} {g : Nat} {cs0 : Cs} {a : Int} {k : Nat} (h : Kp w W d bS bT u v s ps g cs0 a k) (hb : Below W.heap.size W W') : Kp w W' d bS bT u v s ps g cs0 a k := h.bad (Dx.of hb) (h.q.below hb)
theorem q_writeB (a : Int) (v : Value) (b : List Int) (w : World) (h : Dq w d bS bT u s) (hv : Sl bc w v b) (hby : Byt b) (hn : s.wt < 30000) {p : List (ByteArray × Int) × Int} (hE : wrE s a b = some p) (hS : wrS s a b = s) :
    Calls Tryd.prog 19 #[.pointer (some ⟨d, 0, none⟩), .int .i64 a, v] w fun e w' => ∃ u' ty y, e = .returned (.iface ty y) ∧ Dq w' d bS bT u' s ∧ Dx d bS bT u w w' u' := by
  refine (q_write a v b w h hv hby hn).mono ?_
  rintro e w' ⟨u', rfl, h1, h2⟩
  rw [hE]
  rw [hS] at h1
  obtain ⟨ty, y, e⟩ := chn_form p.1 p.2
  exact ⟨u', ty, y, congrArg Ending.returned e, h1, h2⟩
theorem kp_init {w w2 w3 : World} {a : Int} (hq : Dq w2 d bS bT u (syS s)) (hb : Nb w w2 d bS bT u) (h3 : Below w2.heap.size w2 w3) (ha : Ar w3 w2.heap.size ((look (syn s.cs s.lo) a).getD zer)) : Kp w w3 d bS bT u (.slice none 0 0) (syS s) [] w2.heap.size (syn s.cs s.lo) a 0 :=
  ⟨hq.below h3, hb.call h3, ⟨ww_nil _ _, (fun k e => by cases e), (fun q hq => by simp at hq), ha, fun e => by have := hq.dk.lt e; omega⟩, rfl, Nat.le_refl _, fun y hy => by simp [syS] at hy, rfl⟩
/-- One of those that were written is begun, and the rest is what was there or was written ahead. -/
def Mx (bb wb : List Int) (qs : List Wo) (j : Nat) (h : j < qs.length) : Prop := Bg bb (qs[j]).2 wb ∨ ∃ q ∈ qs.take j, Bg bb (qs[j]).2 q.2
theorem keeps_ex {w W : World} {v : Value} {qs : List Wo} {g : Nat} {cs0 : Cs} {a : Int} {k : Nat} {ks : List Int} {cut : Int} (h : Kp w W d bS bT u v s qs g cs0 a k) (hne : (look (crs s.cs (kpt ks s.lo) cut) a).getD zer ≠ (look cs0 a).getD zer) : ∃ j, ∃ hj : j < qs.length, Mx ((look (crs s.cs (kpt ks s.lo) cut) a).getD zer) ((look cs0 a).getD zer) qs j hj := by
  rw [← h.c] at hne ⊢
  rcases crash_block ks cut a h.f (fun y hy => (h.q.ok.lb y hy).2.1.1) (look_blk h.q.ok.cb a).1 with e | ⟨p, b, q, e, hm⟩
  · exact absurd e hne
  · rw [h.r] at e
    have hl := congrArg List.length e
    simp only [List.length_map, List.length_append, List.length_cons] at hl
    have hj : p.length < qs.length := by omega
    have h1 : (qs[p.length]).2 = b := by
      have := congrArg (fun L => L[p.length]?) e
      simp only [List.getElem?_map, List.getElem?_eq_getElem hj, Option.map_some] at this
      rw [List.getElem?_append_right (Nat.le_refl _), Nat.sub_self] at this
      exact Option.some.inj this
    have h2 : (qs.take p.length).map (·.2) = p := by
      rw [List.map_take, e, List.take_left']
      rfl
    refine ⟨p.length, hj, ?_⟩
    unfold Mx
    rw [h1]
    rcases hm with hm | ⟨y, hy, hm⟩
    · exact .inl hm
    · rw [← h2] at hy
      obtain ⟨r, hr, rfl⟩ := List.mem_map.1 hy
      exact .inr ⟨r, hr, hm⟩
theorem mixed_at {W : World} {B gB gw cb n c : Nat} {bb wb : List Int} {qs : List Wo} {k : Nat} (hk : k < qs.length) (hb : Ar W gB bb) (hw : Ar W gw wb) (hq : Ww W B (.slice (some ⟨cb, 0, none⟩) n c) qs) (hl : k < 100000) :
    Calls Tryd.prog 22 #[.slice (some ⟨gB, 0, none⟩) 64 64, .slice (some ⟨(qs[k]).1, 0, none⟩) 64 64, .slice (some ⟨gw, 0, none⟩) 64 64, .slice (some ⟨cb, 0, none⟩) k c] W fun e w' => ∃ r, e = .returned (.bool r) ∧ (r = false → ¬ Mx bb wb qs k hk) ∧ Below W.heap.size W w' := by
  have hlt : (qs.take k).length = k := by rw [List.length_take]; omega
  refine (mixed_any gB (qs[k]).1 gw cb k c bb (qs[k]).2 wb (qs.take k) W hlt hl hb (hq.mem _ (List.getElem_mem hk)).2.2 hw (fun j hj => ?_) _ (.inl rfl)).mono ?_
  · have hj' : j < qs.length := by rw [hlt] at hj; omega
    obtain ⟨cb', e, _, _, h⟩ := Ww.at hq hj'
    cases e
    rw [List.getElem_take]
    exact ⟨h, (hq.mem _ (List.getElem_mem hj')).2.2⟩
  · rintro e w' ⟨r, rfl, h1, h2⟩
    exact ⟨r, rfl, fun q hm => by
      obtain ⟨m1, m2⟩ := h1 q
      rcases hm with hm | ⟨y, hy, hm⟩
      · exact m1 hm
      · exact m2 y hy hm, h2⟩
end
theorem Ar.all {W : World} {g : Nat} {b : List Int} (h : Ar W g b) : Sl bc W (.slice (some ⟨g, 0, none⟩) 64 64) b := by
  have := h.from (k := 0) (by decide)
  simpa using this
theorem sliceWo_to (g k n c : Nat) (hk : k ≤ n) (hn : n ≤ c) (W : World) : (Instr.slice 49 (.slice (some ⟨g, 0, none⟩) n c) none (some (.int .i64 (k : Int))) none).run Tryd.prog W = .ok (.slice (some ⟨g, 0, none⟩) k c) W := by
  have h1 : (k : Int) ≤ c := by omega
  simp [Instr.slice, go_sem, h1]
theorem u8_ofK {n : Int} (h : (Lit.int .u8 n).wf = true) : 0 ≤ n ∧ n ≤ 255 := by
  simp only [Lit.wf, Bool.and_eq_true, decide_eq_true_eq, show IntKind.u8.min = 0 by decide, show IntKind.u8.max = 255 by decide] at h
  exact h
/-! ### generated -/
set_option maxRecDepth 100000 in
set_option maxHeartbeats 16000000 in
theorem bkeeps_light (r a cut : Int) (v vk : Value) (ps : List Ap) (ks : List Int) (w : World) (hr : 0 ≤ r ∧ r ≤ 255) (ha : 0 ≤ a ∧ a ≤ 1000) (hv : Al w v ps) (hk : Sl ic w vk ks) (hkl : ks.length ≤ 100) (hli : liB ps = true) (hh : Hnd w) :
    Calls Tryd.prog 4 #[.int .u8 r, v, vk, .int .i64 cut, .int .i64 a] w fun e w' => e = .returned (.bool true) ∧ Below w.heap.size w w' := by
  have HV := hide hv
  have HH := hide hh
  obtain ⟨⟨ao, cap, rfl, hrow⟩, hps⟩ := hv
  obtain ⟨ako, kcap, rfl⟩ := hk.form
  have HK := hide hk
  have HROW := hide hrow
  have HPS := hide hps
  have HLI := hide hli
  have hlen : ps.length ≤ 60 := (liB_is hli).1
  have HNR : Hid (Num r) := hide ⟨hr.1, by omega⟩
  have HNA : Hid (Num a) := hide ⟨ha.1, by omega⟩
  obtain ⟨r0, r1⟩ := hr
  obtain ⟨a0, a1⟩ := ha
  have z1 : decide ((100 : Int) < (ks.length : Int)) = false := decide_eq_false (by omega)
  have z2 : decide (a < 0) = false := decide_eq_false (by omega)
  have z3 : decide (1000 < a) = false := decide_eq_false (by omega)
  clear hrow hps hli hh hk
  go_enter Tryd.func4, Tryd.ntmps4
  go_wp2_with (first | (go_at_call 6; refine (light_any _ ps _ HV.out).mono ?_; rintro e w9 ⟨rfl, hw9⟩; rw [hw9, HLI.out]; clear hw9 w9) | (go_at_call 8; refine (q_new2 r w _ HNR.out (Below.refl _ _)).mono ?_; rintro e w1 ⟨d, bS, bT, rfl, hq1, hn1, hm1⟩; have HQ1 := hide hq1; have HB1 := hide hn1; clear hq1 hn1 hm1))
  go_loopw [13] (fun i W => ∃ (k : Nat) (u : Value) (s : Dst), k ≤ ps.length ∧ i = .int .i64 k ∧ Dq W d bS bT u s ∧ Nb w W d bS bT u ∧ s.wt ≤ k) (fun i _ => ps.length - (iv i).toNat)
  case atStart => exact ⟨0, _, _, Nat.zero_le _, rfl, HQ1.out, HB1.out, Nat.le_refl _⟩
  case round =>
    obtain ⟨k, u, s, hk, rfl, hq, hb, hwt⟩ := hrel
    by_cases hlt : k < ps.length
    · obtain ⟨rb, ro, rfl, hrg⟩ := HROW.out (by omega)
      have he := range_belW (Al.at hrg hlt) hb.be
      have HAP := hide ((HPS.out _ (List.getElem_mem hlt)).below hb.be)
      have HQ := hide hq
      have HB := hide hb
      have HS := hide hwt
      generalize ps[k] = p at he HAP
      obtain ⟨⟨kd, bl, by_, ks2, cut2⟩, vb, vk2⟩ := p
      obtain ⟨ab, cb, eb⟩ := HAP.out.1.form
      obtain ⟨ak, ck, ek⟩ := HAP.out.2.2.form
      simp only at eb ek
      subst eb
      subst ek
      have c0 := he 0 _ rfl
      have c1 := he 1 _ rfl
      have c2 := he 2 _ rfl
      have c3 := he 3 _ rfl
      have c4 := he 4 _ rfl
      simp only [Nat.add_zero] at c0 c1 c2 c3 c4
      clear he hrg hq hb hwt
      by_cases hkd : kd = 5
      · subst hkd
        go_wp2
        exact ⟨⟨k + 1, u, s, by omega, by go_num, HQ.out, HB.out, Nat.le_succ_of_le HS.out⟩, by simp [iv]; omega⟩
      · have hkz : (kd == 5) = false := beq_eq_false_iff_ne.2 hkd
        clear hkd
        go_wp2_with (first | (go_at_call 10; refine (do0 r (⟨kd, bl, by_, ks2, cut2⟩, .slice ab by_.length cb, .slice ak ks2.length ck) _ HQ.out (by have := HS.out; omega) (HH.out.below HB.out.be) (HB.out.zeroK HH.out) HAP.out).mono ?_; rintro e w2 ⟨v2, u2, rfl, hq2, hx2⟩; have hs2 := doS_wt HQ.out.ok ⟨kd, bl, by_, ks2, cut2⟩; simp only at hq2; generalize doS s ⟨kd, bl, by_, ks2, cut2⟩ = s2 at hq2 hs2; have HQ2 := hide hq2; have HB2 := hide (HB.out.step hx2); have HS2 : Hid (s2.wt ≤ k + 1) := hide (by have := HS.out; omega); clear hq2 hx2 hs2))
        exact ⟨⟨k + 1, u2, s2, by omega, by go_num, HQ2.out, HB2.out, HS2.out⟩, by simp [iv]; omega⟩
    · have HQ := hide hq
      have HB := hide hb
      have HWT : Hid (s.wt ≤ 60) := hide (by omega)
      clear hq hb hwt
      go_upto_region 13 with (first | (go_at_call 17; refine (q_sync _ HQ.out (by have := HWT.out; omega)).mono ?_; rintro e w2 ⟨rfl, hq2, hx2⟩; have hs2 := syS_wt HQ.out.ok; have HQ2 := hide hq2; have HB2 := hide (HB.out.step hx2); have HW2 : Hid ((syS s).wt ≤ 60) := hide (by have := HWT.out; omega); clear hq2 hx2 hs2) | (go_at_call 18; refine (q_read a _ HQ2.out HNA.out).mono ?_; rintro e w3 ⟨rfl, hw3⟩; have hb3 : Below w2.heap.size w2 w3 := (by rw [hw3]; exact (Below.refl _ _).alloc (Nat.le_refl _) _); have har : Ar w3 w2.heap.size ((look (syn s.cs s.lo) a).getD zer) := ⟨look_blk HQ2.out.ok.cb a, by rw [hw3]; exact Array.getElem?_push_size⟩; have HAR := hide har; have HB3 := hide hb3; clear hw3 hb3 har))
      have HKI := hide (kp_init HQ2.out HB2.out HB3.out HAR.out)
      have HCL : Hid ((syn s.cs s.lo).length ≤ 60) := hide (by have := HW2.out; exact Nat.le_trans (Nat.le_add_right _ _) this)
      generalize syn s.cs s.lo = cs0 at HKI HCL
      generalize w2.heap.size = gw at HKI ⊢
      clear HAR HQ2 HB2 HB3 HW2
      go_wp2_with fail
      go_loopw [16, 17] (fun v i W => ∃ (k : Nat) (u : Value) (s : Dst) (qs : List Wo), k ≤ ps.length ∧ i = .int .i64 k ∧ Kp w W d bS bT u v s qs gw cs0 a k) (fun _ i _ => ps.length - (iv i).toNat)
      case atStart => exact ⟨0, _, _, [], Nat.zero_le _, rfl, HKI.out⟩
      case round =>
        obtain ⟨k, u, s, qs, hk, rfl, hkp⟩ := hrel
        by_cases hlt : k < ps.length
        · obtain ⟨rb, ro, rfl, hrg⟩ := HROW.out (by omega)
          have he := Al.at hrg hlt
          have HAP := hide ((HPS.out _ (List.getElem_mem hlt)).below hkp.b.be)
          have HKP := hide hkp
          generalize ps[k] = p at he HAP
          obtain ⟨⟨kd, bl, by_, ks2, cut2⟩, vb, vk2⟩ := p
          obtain ⟨ab, cb, eb⟩ := HAP.out.1.form
          obtain ⟨ak, ck, ek⟩ := HAP.out.2.2.form
          simp only at eb ek
          subst eb
          subst ek
          have HWT : Hid (s.wt < 30000) := hide (by have := hkp.wt; have := HCL.out; omega)
          clear hkp
          by_cases hkd : kd = 0
          · subst hkd
            have HC0 : Hid (C3 w rb (ro + k * 5) bl (.slice ab by_.length cb)) := hide ⟨he 0 _ rfl, he 1 _ rfl, he 2 _ rfl⟩
            clear he hrg
            go_wp2_with fail
            refine wp_region_held_drew (S := fun W => C3 W rb (ro + k * 5) bl (.slice ab by_.length cb)) (by kernel_rfl) (C3.bel HC0.out HKP.out.b.be.drew) (fun hHeld => ?_)
            have hdw : Below wr.heap.size wr wr.drew := (Below.refl _ _).drew
            have HKP0 := HKP
            clear HKP
            have HKP := hide (HKP0.out.calls hdw)
            have HAP0 := HAP
            clear HAP
            have HAP := hide (HAP0.out.below hdw)
            generalize wr.drew = V4 at HKP HAP hHeld ⊢
            clear hdw HKP0 HAP0
            refine wpAnyH_take (i := 0) (oi := _) (v := .slice (some ⟨rb, ro, none⟩) ps.length cap) rfl (by kernel_rfl) (by kernel_rfl) (by kernel_rfl) (fun _ _ _ h => h) (Or.inl ⟨by rfl, by intro w hSw; go_simp⟩) hHeld ?_
            change wpAnyH _ _ _ _ _ _ _ (Act.put _ (some 87) _) _
            simp only [Act.put, List.setIfInBounds_toArray, List.set_cons_zero, List.set_cons_succ]
            refine wpAnyH_take (i := 1) (oi := _) (v := .int .i64 (k : Int)) rfl (by kernel_rfl) (by kernel_rfl) (by kernel_rfl) (fun _ _ _ h => h) (Or.inl ⟨by rfl, by intro w hSw; go_simp⟩) hHeld ?_
            change wpAnyH _ _ _ _ _ _ _ (Act.put _ (some 88) _) _
            simp only [Act.put, List.setIfInBounds_toArray, List.set_cons_zero, List.set_cons_succ]
            refine wpAnyH_take (i := 2) (oi := _) (v := .pointer (some ⟨rb, ro + k * 5, none⟩)) rfl (by kernel_rfl) (by kernel_rfl) (by kernel_rfl) (fun _ _ _ h => h) (Or.inl ⟨by rfl, by intro w hSw; go_simp⟩) hHeld ?_
            change wpAnyH _ _ _ _ _ _ _ (Act.put _ (some 89) _) _
            simp only [Act.put, List.setIfInBounds_toArray, List.set_cons_zero, List.set_cons_succ]
            refine wpAnyH_take (i := 3) (oi := _) (v := .pointer (some ⟨rb, ro + k * 5, none⟩)) rfl (by kernel_rfl) (by kernel_rfl) (by kernel_rfl) (fun _ _ _ h => h) (Or.inl ⟨by rfl, by intro w hSw; go_simp⟩) hHeld ?_
            change wpAnyH _ _ _ _ _ _ _ (Act.put _ (some 90) _) _
            simp only [Act.put, List.setIfInBounds_toArray, List.set_cons_zero, List.set_cons_succ]
            refine wpAnyH_take (i := 4) (oi := _) (v := .int .i64 0) rfl (by kernel_rfl) (by kernel_rfl) (by kernel_rfl) (fun _ _ _ h => h) (Or.inl ⟨by rfl, by intro w hSw; obtain ⟨k0, k1, k2⟩ := hSw; go_simp⟩) hHeld ?_
            change wpAnyH _ _ _ _ _ _ _ (Act.put _ (some 91) _) _
            simp only [Act.put, List.setIfInBounds_toArray, List.set_cons_zero, List.set_cons_succ]
            refine wpAnyH_take (i := 5) (oi := _) (v := .bool true) rfl (by kernel_rfl) (by kernel_rfl) (by kernel_rfl) (fun _ _ _ h => h) (Or.inl ⟨by rfl, by intro w hSw; go_simp⟩) hHeld ?_
            change wpAnyH _ _ _ _ _ _ _ (Act.put _ (some 92) _) _
            simp only [Act.put, List.setIfInBounds_toArray, List.set_cons_zero, List.set_cons_succ]
            refine wpAnyH_take (i := 6) (oi := _) (v := .bool true) rfl (by kernel_rfl) (by kernel_rfl) (by kernel_rfl) (fun _ _ _ h => h) (Or.inl ⟨by rfl, by intro w hSw; go_simp⟩) hHeld ?_
            change wpAnyH _ _ _ _ _ _ _ (Act.put _ (some 93) _) _
            simp only [Act.put, List.setIfInBounds_toArray, List.set_cons_zero, List.set_cons_succ]
            refine wpAnyH_take (i := 7) (oi := _) (v := .pointer (some ⟨d, 0, none⟩)) rfl (by kernel_rfl) (by kernel_rfl) (by kernel_rfl) (fun _ _ _ h => h) (Or.inl ⟨by rfl, by intro w hSw; go_simp⟩) hHeld ?_
            change wpAnyH _ _ _ _ _ _ _ (Act.put _ (some 94) _) _
            simp only [Act.put, List.setIfInBounds_toArray, List.set_cons_zero, List.set_cons_succ]
            refine wpAnyH_take (i := 8) (oi := _) (v := .slice (some ⟨rb, ro, none⟩) ps.length cap) rfl (by kernel_rfl) (by kernel_rfl) (by kernel_rfl) (fun _ _ _ h => h) (Or.inl ⟨by rfl, by intro w hSw; go_simp⟩) hHeld ?_
            change wpAnyH _ _ _ _ _ _ _ (Act.put _ (some 95) _) _
            simp only [Act.put, List.setIfInBounds_toArray, List.set_cons_zero, List.set_cons_succ]
            refine wpAnyH_take (i := 9) (oi := _) (v := .int .i64 (k : Int)) rfl (by kernel_rfl) (by kernel_rfl) (by kernel_rfl) (fun _ _ _ h => h) (Or.inl ⟨by rfl, by intro w hSw; go_simp⟩) hHeld ?_
            change wpAnyH _ _ _ _ _ _ _ (Act.put _ (some 96) _) _
            simp only [Act.put, List.setIfInBounds_toArray, List.set_cons_zero, List.set_cons_succ]
            refine wpAnyH_take (i := 10) (oi := _) (v := .pointer (some ⟨rb, ro + k * 5, none⟩)) rfl (by kernel_rfl) (by kernel_rfl) (by kernel_rfl) (fun _ _ _ h => h) (Or.inl ⟨by rfl, by intro w hSw; go_simp⟩) hHeld ?_
            change wpAnyH _ _ _ _ _ _ _ (Act.put _ (some 97) _) _
            simp only [Act.put, List.setIfInBounds_toArray, List.set_cons_zero, List.set_cons_succ]
            refine wpAnyH_take (i := 11) (oi := _) (v := .pointer (some ⟨rb, ro + k * 5 + 1, none⟩)) rfl (by kernel_rfl) (by kernel_rfl) (by kernel_rfl) (fun _ _ _ h => h) (Or.inl ⟨by rfl, by intro w hSw; go_simp⟩) hHeld ?_
            change wpAnyH _ _ _ _ _ _ _ (Act.put _ (some 98) _) _
            simp only [Act.put, List.setIfInBounds_toArray, List.set_cons_zero, List.set_cons_succ]
            refine wpAnyH_take (i := 12) (oi := _) (v := .int .i64 bl) rfl (by kernel_rfl) (by kernel_rfl) (by kernel_rfl) (fun _ _ _ h => h) (Or.inl ⟨by rfl, by intro w hSw; obtain ⟨k0, k1, k2⟩ := hSw; go_simp⟩) hHeld ?_
            change wpAnyH _ _ _ _ _ _ _ (Act.put _ (some 99) _) _
            simp only [Act.put, List.setIfInBounds_toArray, List.set_cons_zero, List.set_cons_succ]
            refine wpAnyH_take (i := 13) (oi := _) (v := .slice (some ⟨rb, ro, none⟩) ps.length cap) rfl (by kernel_rfl) (by kernel_rfl) (by kernel_rfl) (fun _ _ _ h => h) (Or.inl ⟨by rfl, by intro w hSw; go_simp⟩) hHeld ?_
            change wpAnyH _ _ _ _ _ _ _ (Act.put _ (some 100) _) _
            simp only [Act.put, List.setIfInBounds_toArray, List.set_cons_zero, List.set_cons_succ]
            refine wpAnyH_take (i := 14) (oi := _) (v := .int .i64 (k : Int)) rfl (by kernel_rfl) (by kernel_rfl) (by kernel_rfl) (fun _ _ _ h => h) (Or.inl ⟨by rfl, by intro w hSw; go_simp⟩) hHeld ?_
            change wpAnyH _ _ _ _ _ _ _ (Act.put _ (some 101) _) _
            simp only [Act.put, List.setIfInBounds_toArray, List.set_cons_zero, List.set_cons_succ]
            refine wpAnyH_take (i := 15) (oi := _) (v := .pointer (some ⟨rb, ro + k * 5, none⟩)) rfl (by kernel_rfl) (by kernel_rfl) (by kernel_rfl) (fun _ _ _ h => h) (Or.inl ⟨by rfl, by intro w hSw; go_simp⟩) hHeld ?_
            change wpAnyH _ _ _ _ _ _ _ (Act.put _ (some 102) _) _
            simp only [Act.put, List.setIfInBounds_toArray, List.set_cons_zero, List.set_cons_succ]
            refine wpAnyH_take (i := 16) (oi := _) (v := .pointer (some ⟨rb, ro + k * 5 + 2, none⟩)) rfl (by kernel_rfl) (by kernel_rfl) (by kernel_rfl) (fun _ _ _ h => h) (Or.inl ⟨by rfl, by intro w hSw; go_simp⟩) hHeld ?_
            change wpAnyH _ _ _ _ _ _ _ (Act.put _ (some 103) _) _
            simp only [Act.put, List.setIfInBounds_toArray, List.set_cons_zero, List.set_cons_succ]
            refine wpAnyH_take (i := 17) (oi := _) (v := .slice ab by_.length cb) rfl (by kernel_rfl) (by kernel_rfl) (by kernel_rfl) (fun _ _ _ h => h) (Or.inl ⟨by rfl, by intro w hSw; obtain ⟨k0, k1, k2⟩ := hSw; go_simp⟩) hHeld ?_
            change wpAnyH _ _ _ _ _ _ _ (Act.put _ (some 104) _) _
            simp only [Act.put, List.setIfInBounds_toArray, List.set_cons_zero, List.set_cons_succ]
            refine wpAnyH_ready (rs := [18]) (by kernel_rfl) (by simp) ?_
            refine AllReadyH.cons (o := _) rfl (fun K hK => ?_) AllReadyH.nil
            rcases wr_two s bl by_ with hE | hE
            · obtain ⟨hE1, hE2, hE3⟩ := hE
              have hE4 : Blk (padL by_) := padL_blk hE3 HAP.out.2.1
              by_cases hba : bl = a
              · subst hba
                have HE : Hid (wrE s bl by_ = none ∧ wrS s bl by_ = ⟨s.room, s.cs, s.lo ++ [⟨bl, false, padL by_⟩]⟩ ∧ by_.length ≤ 64 ∧ Blk (padL by_)) := hide ⟨hE1, hE2, hE3, hE4⟩
                clear hE1 hE2 hE3 hE4
                go_simp
                go_at_call 19
                refine (q_writeN bl _ by_ _ HKP.out.q HAP.out.1 HAP.out.2.1 HWT.out HE.out.1).mono ?_
                rintro e V6 ⟨u6, rfl, hq6, hx6⟩
                rw [HE.out.2.1] at hq6
                go_wp2_with fail
                refine hK.out _ _ ?_ (fun hHeld1 => ?_)
                · exact C3.bel HC0.out (HKP.out.b.step hx6).be
                clear hK K hHeld
                have hHeld := hHeld1
                clear hHeld1
                have HX6 := hide hx6
                have HQ6 := hide hq6
                have HB6 := hide (HKP.out.b.step hx6)
                clear hq6 hx6 HC0
                refine wpAnyH_take (i := 19) (oi := _) (v := .bool true) rfl (by kernel_rfl) (by kernel_rfl) (by kernel_rfl) (fun _ _ _ h => h) (Or.inl ⟨by rfl, by intro w hSw; go_simp⟩) hHeld ?_
                change wpAnyH _ _ _ _ _ _ _ (Act.put _ (some 106) _) _
                simp only [Act.put, List.setIfInBounds_toArray, List.set_cons_zero, List.set_cons_succ]
                refine wpAnyH_take (i := 20) (oi := _) (v := .bool true) rfl (by kernel_rfl) (by kernel_rfl) (by kernel_rfl) (fun _ _ _ h => h) (Or.inl ⟨by rfl, by intro w hSw; go_simp⟩) hHeld ?_
                change wpAnyH _ _ _ _ _ _ _ (Act.put _ (some 107) _) _
                simp only [Act.put, List.setIfInBounds_toArray, List.set_cons_zero, List.set_cons_succ]
                refine wpAnyH_take (i := 21) (oi := _) (v := .bool true) rfl (by kernel_rfl) (by kernel_rfl) (by kernel_rfl) (fun _ _ _ h => h) (Or.inl ⟨by rfl, by intro w hSw; go_simp⟩) hHeld ?_
                change wpAnyH _ _ _ _ _ _ _ (Act.put _ (some 108) _) _
                simp only [Act.put, List.setIfInBounds_toArray, List.set_cons_zero, List.set_cons_succ]
                refine wpAnyH_take (i := 22) (oi := _) (v := .slice (some ⟨rb, ro, none⟩) ps.length cap) rfl (by kernel_rfl) (by kernel_rfl) (by kernel_rfl) (fun _ _ _ h => h) (Or.inl ⟨by rfl, by intro w hSw; go_simp⟩) hHeld ?_
                change wpAnyH _ _ _ _ _ _ _ (Act.put _ (some 109) _) _
                simp only [Act.put, List.setIfInBounds_toArray, List.set_cons_zero, List.set_cons_succ]
                refine wpAnyH_take (i := 23) (oi := _) (v := .int .i64 (k : Int)) rfl (by kernel_rfl) (by kernel_rfl) (by kernel_rfl) (fun _ _ _ h => h) (Or.inl ⟨by rfl, by intro w hSw; go_simp⟩) hHeld ?_
                change wpAnyH _ _ _ _ _ _ _ (Act.put _ (some 110) _) _
                simp only [Act.put, List.setIfInBounds_toArray, List.set_cons_zero, List.set_cons_succ]
                refine wpAnyH_take (i := 24) (oi := _) (v := .pointer (some ⟨rb, ro + k * 5, none⟩)) rfl (by kernel_rfl) (by kernel_rfl) (by kernel_rfl) (fun _ _ _ h => h) (Or.inl ⟨by rfl, by intro w hSw; go_simp⟩) hHeld ?_
                change wpAnyH _ _ _ _ _ _ _ (Act.put _ (some 111) _) _
                simp only [Act.put, List.setIfInBounds_toArray, List.set_cons_zero, List.set_cons_succ]
                refine wpAnyH_take (i := 25) (oi := _) (v := .pointer (some ⟨rb, ro + k * 5 + 1, none⟩)) rfl (by kernel_rfl) (by kernel_rfl) (by kernel_rfl) (fun _ _ _ h => h) (Or.inl ⟨by rfl, by intro w hSw; go_simp⟩) hHeld ?_
                change wpAnyH _ _ _ _ _ _ _ (Act.put _ (some 112) _) _
                simp only [Act.put, List.setIfInBounds_toArray, List.set_cons_zero, List.set_cons_succ]
                refine wpAnyH_take (i := 26) (oi := _) (v := .int .i64 bl) rfl (by kernel_rfl) (by kernel_rfl) (by kernel_rfl) (fun _ _ _ h => h) (Or.inl ⟨by rfl, by intro w hSw; obtain ⟨k0, k1, k2⟩ := hSw; go_simp⟩) hHeld ?_
                change wpAnyH _ _ _ _ _ _ _ (Act.put _ (some 113) _) _
                simp only [Act.put, List.setIfInBounds_toArray, List.set_cons_zero, List.set_cons_succ]
                refine wpAnyH_take (i := 27) (oi := _) (v := .int .i64 bl) rfl (by kernel_rfl) (by kernel_rfl) (by kernel_rfl) (fun _ _ _ h => h) (Or.inl ⟨by rfl, by intro w hSw; go_simp⟩) hHeld ?_
                change wpAnyH _ _ _ _ _ _ _ (Act.put _ (some 114) _) _
                simp only [Act.put, List.setIfInBounds_toArray, List.set_cons_zero, List.set_cons_succ]
                refine wpAnyH_take (i := 28) (oi := _) (v := .bool true) rfl (by kernel_rfl) (by kernel_rfl) (by kernel_rfl) (fun _ _ _ h => h) (Or.inl ⟨by rfl, by intro w hSw; go_simp⟩) hHeld ?_
                change wpAnyH _ _ _ _ _ _ _ (Act.put _ (some 115) _) _
                simp only [Act.put, List.setIfInBounds_toArray, List.set_cons_zero, List.set_cons_succ]
                refine wpAnyH_take (i := 29) (oi := _) (v := .bool true) rfl (by kernel_rfl) (by kernel_rfl) (by kernel_rfl) (fun _ _ _ h => h) (Or.inl ⟨by rfl, by intro w hSw; go_simp⟩) hHeld ?_
                change wpAnyH _ _ _ _ _ _ _ (Act.put _ (some 116) _) _
                simp only [Act.put, List.setIfInBounds_toArray, List.set_cons_zero, List.set_cons_succ]
                refine wpAnyH_done (by kernel_rfl) ?_ _
                clear hHeld
                have HPL : Hid (qs.length + 1 ≤ 100000) := hide (by have := HKP.out.pl; omega)
                have HXW := hide (HKP.out.x.step HX6.out)
                obtain ⟨qa, qc, rfl⟩ := ww_form HXW.out.ww
                go_upto_region 19 with (first | (go_at_call 18; refine (q_read bl _ HQ6.out HNA.out).mono ?_; rintro e V7 ⟨rfl, hw7⟩; rw [look_padL] at hw7; have hb7 : Below V6.heap.size V6 V7 := (by rw [hw7]; exact (Below.refl _ _).alloc (Nat.le_refl _) _); have har : Ar V7 V6.heap.size (padL by_) := ⟨HE.out.2.2.2, by rw [hw7]; exact Array.getElem?_push_size⟩; have HAR := hide har; have HB7 := hide hb7; clear hw7 hb7 har))
                have HGB : Hid (V6.heap.size ≤ V6.heap.size) := hide (Nat.le_refl _)
                have HGW : Hid (w.heap.size ≤ V6.heap.size) := hide HB6.out.be.size
                obtain ⟨G, hG⟩ : ∃ G, G = V6.heap.size := ⟨_, rfl⟩
                have HGE : Hid (V6.heap.size ≤ G) := hide (by omega)
                have HGL : Hid (w.heap.size ≤ G) := hide (by rw [hG]; exact HGW.out)
                rw [← hG] at HAR ⊢
                clear HGB HGW hG
                have HWW := hide (HXW.out.call HB7.out).ww
                have HV7 : Hid (w.heap.size ≤ V7.heap.size) := hide (Nat.le_trans HB6.out.be.size HB7.out.size)
                have hal : ∀ o, Below V7.heap.size V7 (V7.alloc o) := fun o => (Below.refl _ _).alloc (Nat.le_refl _) o
                go_wp2_with (first | (at_builtin; refine wpList_appWo _ rfl _ _ rfl w.heap.size _ qs rfl (HWW.out.below (hal _)) (Nat.le_trans HV7.out (hal _).size) ⟨V7.heap.size, 0, none⟩ 1 (G, padL by_) rfl (range_newsW (range_newW V7 [woc (G, padL by_)] _)) ⟨HGL.out, HAR.out.below (hal _)⟩ HPL.out ?_; intro v' W9 hww hgr hub; have HWW2 := hide hww; have HGR := hide hgr; have HUB := hide hub; clear hww hgr hub))
                exact ⟨⟨k + 1, u6, _, qs ++ [(G, padL by_)], by omega, by go_num, HKP.out.own (q := (G, padL by_)) HX6.out HQ6.out (bt HB7.out (hal _)) HGE.out HWW2.out HGR.out HUB.out⟩, by simp [iv]; omega⟩
              · have HE : Hid (wrE s bl by_ = none ∧ wrS s bl by_ = ⟨s.room, s.cs, s.lo ++ [⟨bl, false, padL by_⟩]⟩ ∧ by_.length ≤ 64 ∧ Blk (padL by_)) := hide ⟨hE1, hE2, hE3, hE4⟩
                have HNE := hide hba
                have hbz : (bl == a) = false := beq_eq_false_iff_ne.2 hba
                clear hE1 hE2 hE3 hE4 hba
                go_simp
                go_at_call 19
                refine (q_writeN bl _ by_ _ HKP.out.q HAP.out.1 HAP.out.2.1 HWT.out HE.out.1).mono ?_
                rintro e V6 ⟨u6, rfl, hq6, hx6⟩
                rw [HE.out.2.1] at hq6
                go_wp2_with fail
                refine hK.out _ _ ?_ (fun hHeld1 => ?_)
                · exact C3.bel HC0.out (HKP.out.b.step hx6).be
                clear hK K hHeld
                have hHeld := hHeld1
                clear hHeld1
                have HX6 := hide hx6
                have HQ6 := hide hq6
                have HB6 := hide (HKP.out.b.step hx6)
                clear hq6 hx6 HC0
                refine wpAnyH_take (i := 19) (oi := _) (v := .bool true) rfl (by kernel_rfl) (by kernel_rfl) (by kernel_rfl) (fun _ _ _ h => h) (Or.inl ⟨by rfl, by intro w hSw; go_simp⟩) hHeld ?_
                change wpAnyH _ _ _ _ _ _ _ (Act.put _ (some 106) _) _
                simp only [Act.put, List.setIfInBounds_toArray, List.set_cons_zero, List.set_cons_succ]
                refine wpAnyH_take (i := 20) (oi := _) (v := .bool true) rfl (by kernel_rfl) (by kernel_rfl) (by kernel_rfl) (fun _ _ _ h => h) (Or.inl ⟨by rfl, by intro w hSw; go_simp⟩) hHeld ?_
                change wpAnyH _ _ _ _ _ _ _ (Act.put _ (some 107) _) _
                simp only [Act.put, List.setIfInBounds_toArray, List.set_cons_zero, List.set_cons_succ]
                refine wpAnyH_take (i := 21) (oi := _) (v := .bool true) rfl (by kernel_rfl) (by kernel_rfl) (by kernel_rfl) (fun _ _ _ h => h) (Or.inl ⟨by rfl, by intro w hSw; go_simp⟩) hHeld ?_
                change wpAnyH _ _ _ _ _ _ _ (Act.put _ (some 108) _) _
                simp only [Act.put, List.setIfInBounds_toArray, List.set_cons_zero, List.set_cons_succ]
                refine wpAnyH_take (i := 22) (oi := _) (v := .slice (some ⟨rb, ro, none⟩) ps.length cap) rfl (by kernel_rfl) (by kernel_rfl) (by kernel_rfl) (fun _ _ _ h => h) (Or.inl ⟨by rfl, by intro w hSw; go_simp⟩) hHeld ?_
                change wpAnyH _ _ _ _ _ _ _ (Act.put _ (some 109) _) _
                simp only [Act.put, List.setIfInBounds_toArray, List.set_cons_zero, List.set_cons_succ]
                refine wpAnyH_take (i := 23) (oi := _) (v := .int .i64 (k : Int)) rfl (by kernel_rfl) (by kernel_rfl) (by kernel_rfl) (fun _ _ _ h => h) (Or.inl ⟨by rfl, by intro w hSw; go_simp⟩) hHeld ?_
                change wpAnyH _ _ _ _ _ _ _ (Act.put _ (some 110) _) _
                simp only [Act.put, List.setIfInBounds_toArray, List.set_cons_zero, List.set_cons_succ]
                refine wpAnyH_take (i := 24) (oi := _) (v := .pointer (some ⟨rb, ro + k * 5, none⟩)) rfl (by kernel_rfl) (by kernel_rfl) (by kernel_rfl) (fun _ _ _ h => h) (Or.inl ⟨by rfl, by intro w hSw; go_simp⟩) hHeld ?_
                change wpAnyH _ _ _ _ _ _ _ (Act.put _ (some 111) _) _
                simp only [Act.put, List.setIfInBounds_toArray, List.set_cons_zero, List.set_cons_succ]
                refine wpAnyH_take (i := 25) (oi := _) (v := .pointer (some ⟨rb, ro + k * 5 + 1, none⟩)) rfl (by kernel_rfl) (by kernel_rfl) (by kernel_rfl) (fun _ _ _ h => h) (Or.inl ⟨by rfl, by intro w hSw; go_simp⟩) hHeld ?_
                change wpAnyH _ _ _ _ _ _ _ (Act.put _ (some 112) _) _
                simp only [Act.put, List.setIfInBounds_toArray, List.set_cons_zero, List.set_cons_succ]
                refine wpAnyH_take (i := 26) (oi := _) (v := .int .i64 bl) rfl (by kernel_rfl) (by kernel_rfl) (by kernel_rfl) (fun _ _ _ h => h) (Or.inl ⟨by rfl, by intro w hSw; obtain ⟨k0, k1, k2⟩ := hSw; go_simp⟩) hHeld ?_
                change wpAnyH _ _ _ _ _ _ _ (Act.put _ (some 113) _) _
                simp only [Act.put, List.setIfInBounds_toArray, List.set_cons_zero, List.set_cons_succ]
                refine wpAnyH_take (i := 27) (oi := _) (v := .int .i64 a) rfl (by kernel_rfl) (by kernel_rfl) (by kernel_rfl) (fun _ _ _ h => h) (Or.inl ⟨by rfl, by intro w hSw; go_simp⟩) hHeld ?_
                change wpAnyH _ _ _ _ _ _ _ (Act.put _ (some 114) _) _
                simp only [Act.put, List.setIfInBounds_toArray, List.set_cons_zero, List.set_cons_succ]
                refine wpAnyH_take (i := 28) (oi := _) (v := .bool false) rfl (by kernel_rfl) (by kernel_rfl) (by kernel_rfl) (fun _ _ _ h => h) (Or.inl ⟨by rfl, by intro w hSw; go_simp⟩) hHeld ?_
                change wpAnyH _ _ _ _ _ _ _ (Act.put _ (some 115) _) _
                simp only [Act.put, List.setIfInBounds_toArray, List.set_cons_zero, List.set_cons_succ]
                refine wpAnyH_take (i := 29) (oi := _) (v := .bool false) rfl (by kernel_rfl) (by kernel_rfl) (by kernel_rfl) (fun _ _ _ h => h) (Or.inl ⟨by rfl, by intro w hSw; go_simp⟩) hHeld ?_
                change wpAnyH _ _ _ _ _ _ _ (Act.put _ (some 116) _) _
                simp only [Act.put, List.setIfInBounds_toArray, List.set_cons_zero, List.set_cons_succ]
                refine wpAnyH_done (by kernel_rfl) ?_ _
                clear hHeld
                go_wp2
                exact ⟨⟨k + 1, u6, _, qs, by omega, by go_num, HKP.out.other HX6.out HQ6.out HNE.out⟩, by simp [iv]; omega⟩
            · obtain ⟨⟨py, hE1⟩, hE2⟩ := hE
              have HE := hide (And.intro hE1 hE2)
              clear hE1 hE2
              go_simp
              go_at_call 19
              refine (q_writeB bl _ by_ _ HKP.out.q HAP.out.1 HAP.out.2.1 HWT.out HE.out.1 HE.out.2).mono ?_
              rintro e V6 ⟨u6, ty, ye, rfl, hq6, hx6⟩
              go_wp2_with fail
              refine hK.out _ _ ?_ (fun hHeld1 => ?_)
              · exact C3.bel HC0.out (HKP.out.b.step hx6).be
              clear hK K hHeld
              have hHeld := hHeld1
              clear hHeld1
              have HKP6 := hide (HKP.out.bad hx6 hq6)
              clear hq6 hx6 HKP HC0
              refine wpAnyH_take (i := 19) (oi := _) (v := .bool false) rfl (by kernel_rfl) (by kernel_rfl) (by kernel_rfl) (fun _ _ _ h => h) (Or.inl ⟨by rfl, by intro w hSw; go_simp⟩) hHeld ?_
              change wpAnyH _ _ _ _ _ _ _ (Act.put _ (some 106) _) _
              simp only [Act.put, List.setIfInBounds_toArray, List.set_cons_zero, List.set_cons_succ]
              refine wpAnyH_take (i := 20) (oi := _) (v := .bool false) rfl (by kernel_rfl) (by kernel_rfl) (by kernel_rfl) (fun _ _ _ h => h) (Or.inl ⟨by rfl, by intro w hSw; go_simp⟩) hHeld ?_
              change wpAnyH _ _ _ _ _ _ _ (Act.put _ (some 107) _) _
              simp only [Act.put, List.setIfInBounds_toArray, List.set_cons_zero, List.set_cons_succ]
              refine wpAnyH_take (i := 21) (oi := _) (v := .bool false) rfl (by kernel_rfl) (by kernel_rfl) (by kernel_rfl) (fun _ _ _ h => h) (Or.inl ⟨by rfl, by intro w hSw; go_simp⟩) hHeld ?_
              change wpAnyH _ _ _ _ _ _ _ (Act.put _ (some 108) _) _
              simp only [Act.put, List.setIfInBounds_toArray, List.set_cons_zero, List.set_cons_succ]
              refine wpAnyH_take (i := 22) (oi := _) (v := undef) rfl (by kernel_rfl) (by kernel_rfl) (by kernel_rfl) (fun _ _ _ h => h) (Or.inr ⟨by rfl, rfl⟩) hHeld ?_
              change wpAnyH _ _ _ _ _ _ _ (Act.put _ (some 109) _) _
              simp only [Act.put, List.setIfInBounds_toArray, List.set_cons_zero, List.set_cons_succ]
              refine wpAnyH_take (i := 23) (oi := _) (v := undef) rfl (by kernel_rfl) (by kernel_rfl) (by kernel_rfl) (fun _ _ _ h => h) (Or.inr ⟨by rfl, rfl⟩) hHeld ?_
              change wpAnyH _ _ _ _ _ _ _ (Act.put _ (some 110) _) _
              simp only [Act.put, List.setIfInBounds_toArray, List.set_cons_zero, List.set_cons_succ]
              refine wpAnyH_take (i := 24) (oi := _) (v := undef) rfl (by kernel_rfl) (by kernel_rfl) (by kernel_rfl) (fun _ _ _ h => h) (Or.inr ⟨by rfl, rfl⟩) hHeld ?_
              change wpAnyH _ _ _ _ _ _ _ (Act.put _ (some 111) _) _
              simp only [Act.put, List.setIfInBounds_toArray, List.set_cons_zero, List.set_cons_succ]
              refine wpAnyH_take (i := 25) (oi := _) (v := undef) rfl (by kernel_rfl) (by kernel_rfl) (by kernel_rfl) (fun _ _ _ h => h) (Or.inr ⟨by rfl, rfl⟩) hHeld ?_
              change wpAnyH _ _ _ _ _ _ _ (Act.put _ (some 112) _) _
              simp only [Act.put, List.setIfInBounds_toArray, List.set_cons_zero, List.set_cons_succ]
              refine wpAnyH_take (i := 26) (oi := _) (v := undef) rfl (by kernel_rfl) (by kernel_rfl) (by kernel_rfl) (fun _ _ _ h => h) (Or.inr ⟨by rfl, rfl⟩) hHeld ?_
              change wpAnyH _ _ _ _ _ _ _ (Act.put _ (some 113) _) _
              simp only [Act.put, List.setIfInBounds_toArray, List.set_cons_zero, List.set_cons_succ]
              refine wpAnyH_take (i := 27) (oi := _) (v := undef) rfl (by kernel_rfl) (by kernel_rfl) (by kernel_rfl) (fun _ _ _ h => h) (Or.inr ⟨by rfl, rfl⟩) hHeld ?_
              change wpAnyH _ _ _ _ _ _ _ (Act.put _ (some 114) _) _
              simp only [Act.put, List.setIfInBounds_toArray, List.set_cons_zero, List.set_cons_succ]
              refine wpAnyH_take (i := 28) (oi := _) (v := undef) rfl (by kernel_rfl) (by kernel_rfl) (by kernel_rfl) (fun _ _ _ h => h) (Or.inr ⟨by rfl, rfl⟩) hHeld ?_
              change wpAnyH _ _ _ _ _ _ _ (Act.put _ (some 115) _) _
              simp only [Act.put, List.setIfInBounds_toArray, List.set_cons_zero, List.set_cons_succ]
              refine wpAnyH_take (i := 29) (oi := _) (v := .bool false) rfl (by kernel_rfl) (by kernel_rfl) (by kernel_rfl) (fun _ _ _ h => h) (Or.inl ⟨by rfl, by intro w hSw; go_simp⟩) hHeld ?_
              change wpAnyH _ _ _ _ _ _ _ (Act.put _ (some 116) _) _
              simp only [Act.put, List.setIfInBounds_toArray, List.set_cons_zero, List.set_cons_succ]
              refine wpAnyH_done (by kernel_rfl) ?_ _
              clear hHeld
              go_wp2
              exact ⟨⟨k + 1, u6, s, qs, by omega, by go_num, HKP6.out.mono (Nat.le_succ _)⟩, by simp [iv]; omega⟩
          · have hkz : (kd == 0) = false := beq_eq_false_iff_ne.2 hkd
            have c0 := (HKP.out.b.be.cell (p := ⟨rb, ro + k * 5, none⟩) (cell_block (he 0 _ rfl))).trans (he 0 _ rfl)
            clear he hrg hkd
            go_wp2_with fail
            go_quiet (fail)
            go_wp2
            exact ⟨⟨k + 1, u, s, qs, by omega, by go_num, (HKP.out.calls (below_drewN (Below.refl _ _) _)).mono (Nat.le_succ _)⟩, by simp [iv]; omega⟩
        · have HKP := hide hkp
          have HWT : Hid (s.wt < 30000) := hide (by have := hkp.wt; have := HCL.out; omega)
          obtain ⟨qa, qc, rfl⟩ := ww_form hkp.x.ww
          have hql : qs.length ≤ 60 := Nat.le_trans (Nat.le_trans hkp.pl hk) hlen
          clear hkp
          go_upto_region 22 with (first | (go_at_call 20; refine (q_crash _ ks cut _ HKP.out.q (HK.out.below HKP.out.b.be) HWT.out).mono ?_; rintro e w5 ⟨rfl, hq5, hx5⟩; have HQ5 := hide hq5; have HB5 := hide (HKP.out.b.step hx5); have HX5 := hide (HKP.out.x.step hx5); clear hq5 hx5) | (go_at_call 18; refine (q_read a _ HQ5.out HNA.out).mono ?_; rintro e w6 ⟨rfl, hw6⟩; have hb6 : Below w5.heap.size w5 w6 := (by rw [hw6]; exact (Below.refl _ _).alloc (Nat.le_refl _) _); have har : Ar w6 w5.heap.size ((look (crs s.cs (kpt ks s.lo) cut) a).getD zer) := ⟨look_blk HQ5.out.ok.cb a, by rw [hw6]; exact Array.getElem?_push_size⟩; have HAR := hide har; have HX6 := hide (HX5.out.call hb6); have HB6 := hide (HB5.out.call hb6); clear hw6 hb6 har))
          have HEX : Hid ((look (crs s.cs (kpt ks s.lo) cut) a).getD zer ≠ (look cs0 a).getD zer → ∃ j, ∃ h : j < qs.length, Mx ((look (crs s.cs (kpt ks s.lo) cut) a).getD zer) ((look cs0 a).getD zer) qs j h) := hide (keeps_ex HKP.out)
          generalize (look (crs s.cs (kpt ks s.lo) cut) a).getD zer = bb at HAR HEX
          generalize (look cs0 a).getD zer = wb at HX6 HEX
          generalize w5.heap.size = gB at HAR ⊢
          clear HKP HQ5 HB5 HX5
          by_cases hbw : bb = wb
          · have HD : Hid (decide (bb = wb) = true) := hide (decide_eq_true hbw)
            go_wp2_with (first | (go_at_call 21; refine (same_any _ _ bb wb _ (HAR.out.all) (HX6.out.ar.all) (by rw [HAR.out.1.1]; decide)).mono ?_; rintro e w7 ⟨rfl, hb7⟩; rw [HD.out]; have HAR7 := hide (HAR.out.below hb7); have HX7 := hide (HX6.out.call hb7); have HB7 := hide (HB6.out.be.trans (hb7.mono HB6.out.be.size)); clear hb7) | (go_at_call 7; refine (bworks_any _).mono ?_; rintro e w12 ⟨rfl, hb12⟩; have HB12 := hide (HB7.out.trans (hb12.mono HB7.out.size)); clear hb12))
            go_ret
            exact ⟨rfl, HB12.out⟩
          · have HD : Hid (decide (bb = wb) = false) := hide (decide_eq_false hbw)
            have HEX0 := HEX
            clear HEX
            have HEX := hide (HEX0.out hbw)
            clear HEX0
            go_wp2_with (first | (go_at_call 21; refine (same_any _ _ bb wb _ (HAR.out.all) (HX6.out.ar.all) (by rw [HAR.out.1.1]; decide)).mono ?_; rintro e w7 ⟨rfl, hb7⟩; rw [HD.out]; have HAR7 := hide (HAR.out.below hb7); have HX7 := hide (HX6.out.call hb7); have HB7 := hide (HB6.out.be.trans (hb7.mono HB6.out.be.size)); clear hb7))
            go_loopw [22] (fun i W => ∃ (k : Nat), k ≤ qs.length ∧ i = .int .i64 k ∧ Below w7.heap.size w7 W ∧ ∀ j (h : j < qs.length), j < k → ¬ Mx bb wb qs j h) (fun i _ => qs.length - (iv i).toNat)
            case atStart => exact ⟨0, Nat.zero_le _, rfl, Below.refl _ _, fun j _ h => by omega⟩
            case round =>
              obtain ⟨k, hk, rfl, hb, hno⟩ := hrel
              have HNO := hide hno
              have HW := hide hb
              clear hno hb
              by_cases hlt : k < qs.length
              · obtain ⟨cb, rfl, _, hcap, _⟩ := Ww.at HX7.out.ww hlt
                have hc : wr.cell? ⟨cb, k, none⟩ = some (.slice (some ⟨(qs[k]).1, 0, none⟩) 64 64) := by obtain ⟨cb', e, _, _, q⟩ := Ww.at (HX7.out.ww.below HW.out) hlt; cases e; exact q
                have hsl := sliceWo_to cb k qs.length qc hk hcap
                have HM : Hid (∀ W, Below w7.heap.size w7 W → Calls Tryd.prog 22 #[.slice (some ⟨gB, 0, none⟩) 64 64, .slice (some ⟨(qs[k]).1, 0, none⟩) 64 64, .slice (some ⟨gw, 0, none⟩) 64 64, .slice (some ⟨cb, 0, none⟩) k qc] W fun e w' => ∃ r, e = .returned (.bool r) ∧ (r = false → ¬ Mx bb wb qs k hlt) ∧ Below W.heap.size W w') := hide (fun W hW => mixed_at hlt (HAR7.out.below hW) (HX7.out.ar.below hW) (HX7.out.ww.below hW) (by omega))
                have HM2 : Hid (∀ W, Below wr.heap.size wr W → Calls Tryd.prog 22 #[.slice (some ⟨gB, 0, none⟩) 64 64, .slice (some ⟨(qs[k]).1, 0, none⟩) 64 64, .slice (some ⟨gw, 0, none⟩) 64 64, .slice (some ⟨cb, 0, none⟩) k qc] W fun e w' => ∃ r, e = .returned (.bool r) ∧ (r = false → ¬ Mx bb wb qs k hlt) ∧ Below W.heap.size W w') := hide (fun W hW => HM.out W (HW.out.trans (hW.mono HW.out.size)))
                generalize (qs[k]).1 = gq at hc HM2
                have HF : Hid (∀ W, Below wr.heap.size wr W → W.cell? ⟨cb, k, none⟩ = some (.slice (some ⟨gq, 0, none⟩) 64 64)) := hide (fun W h => (h.cell (p := ⟨cb, k, none⟩) (cell_block hc)).trans hc)
                have HS0 := hide (hs_drew HF.out (Nat.le_refl _))
                clear HM hc
                go_wp2_with fail
                go_region_held3 (fun W => W.cell? ⟨cb, k, none⟩ = some (.slice (some ⟨gq, 0, none⟩) 64 64) ∧ Below wr.heap.size wr W ∧ wr.heap.size ≤ W.heap.size)
                  (first | with_reducible assumption | with_reducible exact hs_call HF.out (by assumption) (by assumption) | with_reducible exact HS0.out)
                  (first
                    | (go_at_call 22; refine (HM2.out _ ?_).mono ?_; exact And.left (And.right (by assumption)); rintro e w' ⟨rr, rfl, hr9, hb⟩))
                have hfin : Below wr.heap.size wr w' := And.left (And.right (by assumption))
                have HB9 := hide (HW.out.trans (hfin.mono HW.out.size))
                have HR9 := hide hr9
                clear hfin hr9
                cases rr
                · go_wp2
                  exact ⟨⟨k + 1, by omega, by go_num, HB9.out, fun j h hj => by
                    by_cases e : j = k
                    · subst e; exact HR9.out (by trivial)
                    · exact HNO.out j h (by omega)⟩, by simp [iv]; omega⟩
                · have HBZ := hide (HB7.out.trans (HB9.out.mono HB7.out.size))
                  go_wp2_with (first | (go_at_call 7; refine (bworks_any _).mono ?_; rintro e w12 ⟨rfl, hb12⟩; have HB12 := hide (HBZ.out.trans (hb12.mono HBZ.out.size)); clear hb12))
                  go_ret
                  exact ⟨rfl, HB12.out⟩
              · obtain ⟨j, hj, hm⟩ := HEX.out
                exact absurd hm (HNO.out j hj (by omega))
set_option maxRecDepth 100000 in
theorem bkeeps_dark (r a cut : Int) (v vk : Value) (ps : List Ap) (ks : List Int) (w : World) (hv : Al w v ps) (hk : Sl ic w vk ks) (hx : liB ps = false) :
    Calls Tryd.prog 4 #[.int .u8 r, v, vk, .int .i64 cut, .int .i64 a] w fun e w' => e = .returned (.bool true) ∧ Below w.heap.size w w' := by
  have HV := hide hv
  obtain ⟨ako, kcap, rfl⟩ := hk.form
  have HX := hide hx
  clear hx
  clear hv hk
  go_enter Tryd.func4, Tryd.ntmps4
  go_wp2_with (first | (go_at_call 6; refine (light_any _ ps _ HV.out).mono ?_; rintro e w9 ⟨rfl, hw9⟩; rw [hw9, HX.out]; clear hw9 w9) | (go_at_call 7; refine (bworks_any _).mono ?_; rintro e w12 ⟨rfl, hb12⟩; have HB12 := hide hb12; clear hb12))
  go_ret
  exact ⟨rfl, HB12.out⟩
set_option maxRecDepth 100000 in
theorem bkeeps_far1 (r a cut : Int) (v vk : Value) (ps : List Ap) (ks : List Int) (w : World) (hv : Al w v ps) (hk : Sl ic w vk ks) (hx : liB ps = true ∧ 100 < ks.length) :
    Calls Tryd.prog 4 #[.int .u8 r, v, vk, .int .i64 cut, .int .i64 a] w fun e w' => e = .returned (.bool true) ∧ Below w.heap.size w w' := by
  have HV := hide hv
  obtain ⟨ako, kcap, rfl⟩ := hk.form
  have HX := hide hx.1
  have h1 := hx.2
  have z1 : decide ((100 : Int) < (ks.length : Int)) = true := decide_eq_true (by omega)
  clear hx
  clear hv hk
  go_enter Tryd.func4, Tryd.ntmps4
  go_wp2_with (first | (go_at_call 6; refine (light_any _ ps _ HV.out).mono ?_; rintro e w9 ⟨rfl, hw9⟩; rw [hw9, HX.out]; clear hw9 w9) | (go_at_call 7; refine (bworks_any _).mono ?_; rintro e w12 ⟨rfl, hb12⟩; have HB12 := hide hb12; clear hb12))
  go_ret
  exact ⟨rfl, HB12.out⟩
set_option maxRecDepth 100000 in
theorem bkeeps_far2 (r a cut : Int) (v vk : Value) (ps : List Ap) (ks : List Int) (w : World) (hv : Al w v ps) (hk : Sl ic w vk ks) (hx : liB ps = true ∧ ks.length ≤ 100 ∧ a < 0) :
    Calls Tryd.prog 4 #[.int .u8 r, v, vk, .int .i64 cut, .int .i64 a] w fun e w' => e = .returned (.bool true) ∧ Below w.heap.size w w' := by
  have HV := hide hv
  obtain ⟨ako, kcap, rfl⟩ := hk.form
  have HX := hide hx.1
  have h1 := hx.2.1
  have h2 := hx.2.2
  have z1 : decide ((100 : Int) < (ks.length : Int)) = false := decide_eq_false (by omega)
  have z2 : decide (a < 0) = true := decide_eq_true (by omega)
  clear hx
  clear hv hk
  go_enter Tryd.func4, Tryd.ntmps4
  go_wp2_with (first | (go_at_call 6; refine (light_any _ ps _ HV.out).mono ?_; rintro e w9 ⟨rfl, hw9⟩; rw [hw9, HX.out]; clear hw9 w9) | (go_at_call 7; refine (bworks_any _).mono ?_; rintro e w12 ⟨rfl, hb12⟩; have HB12 := hide hb12; clear hb12))
  go_ret
  exact ⟨rfl, HB12.out⟩
set_option maxRecDepth 100000 in
theorem bkeeps_far3 (r a cut : Int) (v vk : Value) (ps : List Ap) (ks : List Int) (w : World) (hv : Al w v ps) (hk : Sl ic w vk ks) (hx : liB ps = true ∧ ks.length ≤ 100 ∧ 0 ≤ a ∧ 1000 < a) :
    Calls Tryd.prog 4 #[.int .u8 r, v, vk, .int .i64 cut, .int .i64 a] w fun e w' => e = .returned (.bool true) ∧ Below w.heap.size w w' := by
  have HV := hide hv
  obtain ⟨ako, kcap, rfl⟩ := hk.form
  have HX := hide hx.1
  have h1 := hx.2.1
  have h2 := hx.2.2.1
  have h3 := hx.2.2.2
  have z1 : decide ((100 : Int) < (ks.length : Int)) = false := decide_eq_false (by omega)
  have z2 : decide (a < 0) = false := decide_eq_false (by omega)
  have z3 : decide (1000 < a) = true := decide_eq_true (by omega)
  clear hx
  clear hv hk
  go_enter Tryd.func4, Tryd.ntmps4
  go_wp2_with (first | (go_at_call 6; refine (light_any _ ps _ HV.out).mono ?_; rintro e w9 ⟨rfl, hw9⟩; rw [hw9, HX.out]; clear hw9 w9) | (go_at_call 7; refine (bworks_any _).mono ?_; rintro e w12 ⟨rfl, hb12⟩; have HB12 := hide hb12; clear hb12))
  go_ret
  exact ⟨rfl, HB12.out⟩
theorem bkeeps_law (r a cut : Int) (v vk : Value) (ps : List Ap) (ks : List Int) (w : World) (hr : 0 ≤ r ∧ r ≤ 255) (hv : Al w v ps) (hk : Sl ic w vk ks) (hh : Hnd w) :
    Calls Tryd.prog 4 #[.int .u8 r, v, vk, .int .i64 cut, .int .i64 a] w fun e w' => e = .returned (.bool true) ∧ Below w.heap.size w w' := by
  by_cases hli : liB ps = true
  · by_cases h1 : 100 < ks.length
    · exact bkeeps_far1 r a cut v vk ps ks w hv hk ⟨hli, h1⟩
    by_cases h2 : a < 0
    · exact bkeeps_far2 r a cut v vk ps ks w hv hk ⟨hli, by omega, h2⟩
    by_cases h3 : 1000 < a
    · exact bkeeps_far3 r a cut v vk ps ks w hv hk ⟨hli, by omega, by omega, h3⟩
    · exact bkeeps_light r a cut v vk ps ks w hr ⟨by omega, by omega⟩ hv hk (by omega) hli hh
  · exact bkeeps_dark r a cut v vk ps ks w hv hk (by simpa using hli)
end Go.Proofs.YtcgfgmnelaiojaaDoor
