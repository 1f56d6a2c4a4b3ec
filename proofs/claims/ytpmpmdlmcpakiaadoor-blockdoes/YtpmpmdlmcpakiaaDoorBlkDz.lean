/-
  AN ACT, BOTH WAYS, THE DOCUMENT's STORE HAVING NOTHING (castellanlaw08.Do): the program's store is what the mathematics says. Condition: fewer than thirty thousand blocks and writes.
-/
import Derived.Test.YtpmpmdlmcpakiaaDoorBlkWi
import Derived.Test.YtpmpmdlmcpakiaaDoorDoc1
import Derived.Test.YtpmpmdlmcpakiaaDoorBlkWk
import Derived.Test.YtpmpmdlmcpakiaaDoorSameB
namespace Go.Proofs.YtpmpmdlmcpakiaaDoor
open Go.RowKit

/-- What an act leaves of a store. -/
def doS (s : Dst) (p : Ac) : Dst :=
  if p.kd = 0 then wrS s p.bl p.by_ else if p.kd = 1 then frS s p.bl else if p.kd = 2 then s else if p.kd = 3 then syS s else if p.kd = 4 then crS s p.ks p.cut else if p.kd = 5 then ⟨s.room, [], []⟩ else s
theorem doS_ok {s : Dst} (h : s.Ok) {p : Ac} (hb : Byt p.by_) : (doS s p).Ok := by
  unfold doS
  split
  · exact wrS_ok h _ hb
  · split
    · exact frS_ok h _
    · split
      · exact h
      · split
        · exact syS_ok h
        · split
          · exact crS_ok h _ _
          · split
            · exact ⟨asc_nil, fun p hp => by simp at hp, fun p hp => by simp at hp⟩
            · exact h
theorem doS_wt {s : Dst} (h : s.Ok) (p : Ac) : (doS s p).wt ≤ s.wt + 1 := by
  unfold doS
  split
  · exact wrS_wt _ _ _
  · split
    · exact frS_wt _ _
    · split
      · omega
      · split
        · have := syS_wt h; omega
        · split
          · have := crS_wt h p.ks p.cut; omega
          · split
            · simp [Dst.wt]
            · omega
theorem Dx.b3 {d bS bT : Nat} {u u' : Value} {w w' : World} {g : Nat} {x y z : Value} (h : Dx d bS bT u w w' u') (hg : ¬ Own d bS bT u g) (hb : B3 w g x y z) : B3 w' g x y z :=
  have hl := cell_block hb.c0
  ⟨(h.cell hl hg 0).trans hb.c0, (h.cell hl hg 1).trans hb.c1, (h.cell hl hg 2).trans hb.c2, fun i => (World.frozen?_of_block (a := ⟨g, i, none⟩) (h.ba.block g hl hg)).trans (hb.fz i)⟩
theorem Dx.rg {d bS bT : Nat} {u u' : Value} {w w' : World} {g o : Nat} {cs : List Value} (h : Dx d bS bT u w w' u') (hg : ¬ Own d bS bT u g) (hb : w.rangeAt g o cs) : w'.rangeAt g o cs := range_ba hb h.ba hg
theorem Dx.hnd {d bS bT : Nat} {u u' : Value} {w w' : World} (h : Dx d bS bT u w w' u') (hg : ¬ Own d bS bT u 0) (hb : Hnd w) : Hnd w' := (h.cell (cell_block hb) hg 0).trans hb
theorem rg_set {W : World} {g o k i : Nat} {v : Value} {cs : List Value} (h : W.rangeAt g o cs) (hk : g ≠ k) : (W.setCell ⟨k, i, none⟩ v).rangeAt g o cs := fun j x hx => (World.cell?_setCell_other _ _ _ _ (fun q => hk (congrArg Addr.block q).symm)).trans (h j x hx)
theorem Dq.set3 {d bS bT : Nat} {u : Value} {s : Dst} {W : World} (h : Dq W d bS bT u s) {g : Nat} (hg : ¬ Own d bS bT u g) (x y z : Value) : Dq (((W.setCell ⟨g, 0, none⟩ x).setCell ⟨g, 1, none⟩ y).setCell ⟨g, 2, none⟩ z) d bS bT u s :=
  ⟨h.dk.keep (fun k hk => by
    have hne : k ≠ g := fun e => hg (by rw [← e]; exact hk)
    rw [Below.heap_setCell _ _ _ _ hne, Below.heap_setCell _ _ _ _ hne, Below.heap_setCell _ _ _ _ hne]), h.ok⟩
theorem Dx.set3 {d bS bT : Nat} {u u' : Value} {w W : World} (h : Dx d bS bT u w W u') {g : Nat} (hg : w.heap.size ≤ g) (x y z : Value) : Dx d bS bT u w (((W.setCell ⟨g, 0, none⟩ x).setCell ⟨g, 1, none⟩ y).setCell ⟨g, 2, none⟩ z) u' :=
  ⟨((h.ba.set (fun q => absurd q (by omega)) 0 x).set (fun q => absurd q (by omega)) 1 y).set (fun q => absurd q (by omega)) 2 z, h.bl⟩
section
variable {d bS bT : Nat} {u : Value} {s : Dst}
set_option maxRecDepth 100000 in
set_option maxHeartbeats 8000000 in
theorem do_else (n kd bl cut : Int) (by_ ks : List Int) (ab ak : Option Addr) (cb ck : Nat) (w : World) (hq : Dq w d bS bT u s) (hh : Hnd w) (ho : ¬ Own d bS bT u 0) (hb : Sl bc w (.slice ab by_.length cb) by_) (hby : Byt by_) (hks : Sl ic w (.slice ak ks.length ck) ks) (hk : kd ≠ 0 ∧ kd ≠ 1 ∧ kd ≠ 2 ∧ kd ≠ 3 ∧ kd ≠ 4 ∧ kd ≠ 5) :
    Calls Tryd.prog 8 #[.pointer (some ⟨d, 0, none⟩), zd n, .agg #[.int .i64 kd, .int .i64 bl, .slice ab by_.length cb, .slice ak ks.length ck, .int .i64 cut]] w fun e w' => ∃ v u', e = .returned v ∧ Dq w' d bS bT u' s ∧ Dx d bS bT u w w' u' := by
  have HQ0 := hide hq
  have HH0 := hide hh
  have HO := hide ho
  have HBY0 := hide hb
  have HBT := hide hby
  have HKS0 := hide hks
  have HK := hide hk
  clear hq hh ho hb hby hks hk
  go_enter Tryd.func8, Tryd.ntmps8
  go_upto_region 1 with (fail)
  have hb1 := al_b0 w (.cells #[.int .i64 n, .slice none 0 0, .slice none 0 0] 35)
  have hb2 := al_b0 (w.alloc (.cells #[.int .i64 n, .slice none 0 0, .slice none 0 0] 35)) (.cells #[.int .i64 kd, .int .i64 bl, .slice ab by_.length cb, .slice ak ks.length ck, .int .i64 cut] 41)
  have hb3 := al_b0 ((w.alloc (.cells #[.int .i64 n, .slice none 0 0, .slice none 0 0] 35)).alloc (.cells #[.int .i64 kd, .int .i64 bl, .slice ab by_.length cb, .slice ak ks.length ck, .int .i64 cut] 41)) (.cells #[.int .i64 0, .slice none 0 0, .slice none 0 0] 35)
  have hD := ((b3_new w (.int .i64 n) (.slice none 0 0) (.slice none 0 0) 35).below hb2).below hb3
  have hP := range_belW (range_newW (w.alloc (.cells #[.int .i64 n, .slice none 0 0, .slice none 0 0] 35)) [.int .i64 kd, .int .i64 bl, .slice ab by_.length cb, .slice ak ks.length ck, .int .i64 cut] 41) hb3
  have hR := b3_new ((w.alloc (.cells #[.int .i64 n, .slice none 0 0, .slice none 0 0] 35)).alloc (.cells #[.int .i64 kd, .int .i64 bl, .slice ab by_.length cb, .slice ak ks.length ck, .int .i64 cut] 41)) (.int .i64 0) (.slice none 0 0) (.slice none 0 0) 35
  have hbb := bt (bt hb1 hb2) hb3
  have s1 : (w.alloc (.cells #[.int .i64 n, .slice none 0 0, .slice none 0 0] 35)).heap.size = w.heap.size + 1 := by simp
  have s2 : ((w.alloc (.cells #[.int .i64 n, .slice none 0 0, .slice none 0 0] 35)).alloc (.cells #[.int .i64 kd, .int .i64 bl, .slice ab by_.length cb, .slice ak ks.length ck, .int .i64 cut] 41)).heap.size = w.heap.size + 1 + 1 := by simp
  rw [s1] at hP
  rw [s2] at hR
  generalize hV : ((w.alloc (.cells #[.int .i64 n, .slice none 0 0, .slice none 0 0] 35)).alloc (.cells #[.int .i64 kd, .int .i64 bl, .slice ab by_.length cb, .slice ak ks.length ck, .int .i64 cut] 41)).alloc (.cells #[.int .i64 0, .slice none 0 0, .slice none 0 0] 35) = V at hD hP hR hbb ⊢
  have HD := hide hD
  have HP := hide hP
  have HR := hide hR
  have HQ := hide (HQ0.out.below hbb)
  have HX : Hid (Dx d bS bT u w V u) := hide (Dx.of hbb)
  have HH := hide (HH0.out.below hbb)
  have HBY := hide (HBY0.out.below hbb)
  have HKS := hide (HKS0.out.below hbb)
  have hOD : ¬ Own d bS bT u w.heap.size := fun q => by have := HQ0.out.dk.lt q; omega
  have hOP : ¬ Own d bS bT u (w.heap.size + 1) := fun q => by have := HQ0.out.dk.lt q; omega
  have hOR : ¬ Own d bS bT u (w.heap.size + 1 + 1) := fun q => by have := HQ0.out.dk.lt q; omega
  have HOD := hide hOD
  have HOP := hide hOP
  have HOR := hide hOR
  have hwr : w.heap.size ≤ w.heap.size + 1 + 1 := by omega
  have hdr : w.heap.size ≠ w.heap.size + 1 + 1 := by omega
  have hpr : w.heap.size + 1 ≠ w.heap.size + 1 + 1 := by omega
  generalize w.heap.size + 1 + 1 = R at HR HOR hwr hdr hpr ⊢
  generalize w.heap.size + 1 = Pb at HP HOP hpr ⊢
  obtain ⟨d0, d1, d2, _⟩ := hD
  have p0 := HP.out 0 _ rfl
  have p1 := HP.out 1 _ rfl
  have p2 := HP.out 2 _ rfl
  have p3 := HP.out 3 _ rfl
  have p4 := HP.out 4 _ rfl
  simp only [Nat.zero_add] at p0 p1 p2 p3 p4
  clear hV hb1 hb2 hb3 hP hR hbb s1 s2 HQ0 HH0 HBY0 HKS0 hOD hOP hOR
  have hk := HK.out
  have HOR2 := hide HOR.out
  have e0 := HR.out.c0
  have e1 := HR.out.c1
  have e2 := HR.out.c2
  have f0 := HR.out.fz 0
  have f1 := HR.out.fz 1
  have f2 := HR.out.fz 2
  obtain ⟨k0, k1, k2, k3, k4, k5⟩ := hk
  go_wp2
  exact bodyPost_ret (v := .tuple #[.agg #[_, _, _], .bool true]) (res_two Tryd.results8 _ _ R [_, _, _] _ _ rfl rfl (HR.out.all (.int .i64 n) (.slice none 0 0) (.slice none 0 0)).rg Tryd.underlying35 rfl infoDd) rfl ⟨_, _, rfl, HQ.out.set3 HOR2.out _ _ _, HX.out.set3 hwr _ _ _⟩
set_option maxRecDepth 100000 in
set_option maxHeartbeats 8000000 in
theorem do_sync (n kd bl cut : Int) (by_ ks : List Int) (ab ak : Option Addr) (cb ck : Nat) (w : World) (hq : Dq w d bS bT u s) (hn : s.wt < 30000) (hh : Hnd w) (ho : ¬ Own d bS bT u 0) (hb : Sl bc w (.slice ab by_.length cb) by_) (hby : Byt by_) (hks : Sl ic w (.slice ak ks.length ck) ks) (hk : kd = 3) :
    Calls Tryd.prog 8 #[.pointer (some ⟨d, 0, none⟩), zd n, .agg #[.int .i64 kd, .int .i64 bl, .slice ab by_.length cb, .slice ak ks.length ck, .int .i64 cut]] w fun e w' => ∃ v u', e = .returned v ∧ Dq w' d bS bT u' (syS s) ∧ Dx d bS bT u w w' u' := by
  have HQ0 := hide hq
  have HH0 := hide hh
  have HO := hide ho
  have HBY0 := hide hb
  have HBT := hide hby
  have HKS0 := hide hks
  have HK := hide hk
  clear hq hh ho hb hby hks hk
  go_enter Tryd.func8, Tryd.ntmps8
  go_upto_region 1 with (fail)
  have hb1 := al_b0 w (.cells #[.int .i64 n, .slice none 0 0, .slice none 0 0] 35)
  have hb2 := al_b0 (w.alloc (.cells #[.int .i64 n, .slice none 0 0, .slice none 0 0] 35)) (.cells #[.int .i64 kd, .int .i64 bl, .slice ab by_.length cb, .slice ak ks.length ck, .int .i64 cut] 41)
  have hb3 := al_b0 ((w.alloc (.cells #[.int .i64 n, .slice none 0 0, .slice none 0 0] 35)).alloc (.cells #[.int .i64 kd, .int .i64 bl, .slice ab by_.length cb, .slice ak ks.length ck, .int .i64 cut] 41)) (.cells #[.int .i64 0, .slice none 0 0, .slice none 0 0] 35)
  have hD := ((b3_new w (.int .i64 n) (.slice none 0 0) (.slice none 0 0) 35).below hb2).below hb3
  have hP := range_belW (range_newW (w.alloc (.cells #[.int .i64 n, .slice none 0 0, .slice none 0 0] 35)) [.int .i64 kd, .int .i64 bl, .slice ab by_.length cb, .slice ak ks.length ck, .int .i64 cut] 41) hb3
  have hR := b3_new ((w.alloc (.cells #[.int .i64 n, .slice none 0 0, .slice none 0 0] 35)).alloc (.cells #[.int .i64 kd, .int .i64 bl, .slice ab by_.length cb, .slice ak ks.length ck, .int .i64 cut] 41)) (.int .i64 0) (.slice none 0 0) (.slice none 0 0) 35
  have hbb := bt (bt hb1 hb2) hb3
  have s1 : (w.alloc (.cells #[.int .i64 n, .slice none 0 0, .slice none 0 0] 35)).heap.size = w.heap.size + 1 := by simp
  have s2 : ((w.alloc (.cells #[.int .i64 n, .slice none 0 0, .slice none 0 0] 35)).alloc (.cells #[.int .i64 kd, .int .i64 bl, .slice ab by_.length cb, .slice ak ks.length ck, .int .i64 cut] 41)).heap.size = w.heap.size + 1 + 1 := by simp
  rw [s1] at hP
  rw [s2] at hR
  generalize hV : ((w.alloc (.cells #[.int .i64 n, .slice none 0 0, .slice none 0 0] 35)).alloc (.cells #[.int .i64 kd, .int .i64 bl, .slice ab by_.length cb, .slice ak ks.length ck, .int .i64 cut] 41)).alloc (.cells #[.int .i64 0, .slice none 0 0, .slice none 0 0] 35) = V at hD hP hR hbb ⊢
  have HD := hide hD
  have HP := hide hP
  have HR := hide hR
  have HQ := hide (HQ0.out.below hbb)
  have HX : Hid (Dx d bS bT u w V u) := hide (Dx.of hbb)
  have HH := hide (HH0.out.below hbb)
  have HBY := hide (HBY0.out.below hbb)
  have HKS := hide (HKS0.out.below hbb)
  have hOD : ¬ Own d bS bT u w.heap.size := fun q => by have := HQ0.out.dk.lt q; omega
  have hOP : ¬ Own d bS bT u (w.heap.size + 1) := fun q => by have := HQ0.out.dk.lt q; omega
  have hOR : ¬ Own d bS bT u (w.heap.size + 1 + 1) := fun q => by have := HQ0.out.dk.lt q; omega
  have HOD := hide hOD
  have HOP := hide hOP
  have HOR := hide hOR
  have hwr : w.heap.size ≤ w.heap.size + 1 + 1 := by omega
  have hdr : w.heap.size ≠ w.heap.size + 1 + 1 := by omega
  have hpr : w.heap.size + 1 ≠ w.heap.size + 1 + 1 := by omega
  generalize w.heap.size + 1 + 1 = R at HR HOR hwr hdr hpr ⊢
  generalize w.heap.size + 1 = Pb at HP HOP hpr ⊢
  obtain ⟨d0, d1, d2, _⟩ := hD
  have p0 := HP.out 0 _ rfl
  have p1 := HP.out 1 _ rfl
  have p2 := HP.out 2 _ rfl
  have p3 := HP.out 3 _ rfl
  have p4 := HP.out 4 _ rfl
  simp only [Nat.zero_add] at p0 p1 p2 p3 p4
  clear hV hb1 hb2 hb3 hP hR hbb s1 s2 HQ0 HH0 HBY0 HKS0 hOD hOP hOR
  have hk := HK.out
  go_wp2_with (first | (go_at_call 16; refine (q_sync _ HQ.out hn).mono ?_; rintro e V2 ⟨rfl, hq2, hx2⟩; have HQ2 := hide hq2; have HX2 := hide (HX.out.trans hx2); have HR2 := hide (hx2.b3 HOR.out HR.out); have HD2 := hide (hx2.b3 HOD.out HD.out); have HOR2 := hide (hx2.own (cell_block HR.out.c0) HOR.out); clear hq2 hx2; obtain ⟨g0, g1, g2, _⟩ := HD2.out) | (go_at_call 28; refine (rsync0 n _).mono ?_; rintro e V3 ⟨v3, rfl, ⟨r7, a1, n1, c1, a2, n2, c2, rfl⟩, hb3⟩; have HQ3 := hide (HQ2.out.below hb3); have HX3 := hide (HX2.out.call hb3); have HR3 := hide (HR2.out.below hb3); have e0 := HR3.out.c0; have e1 := HR3.out.c1; have e2 := HR3.out.c2; have f0 := HR3.out.fz 0; have f1 := HR3.out.fz 1; have f2 := HR3.out.fz 2; clear hb3))
  exact bodyPost_ret (v := .tuple #[.agg #[_, _, _], .bool true]) (res_two Tryd.results8 _ _ R [_, _, _] _ _ rfl rfl (HR3.out.all (.int .i64 r7) (.slice a1 n1 c1) (.slice a2 n2 c2)).rg Tryd.underlying35 rfl infoDd) rfl ⟨_, _, rfl, HQ3.out.set3 HOR2.out _ _ _, HX3.out.set3 hwr _ _ _⟩
set_option maxRecDepth 100000 in
set_option maxHeartbeats 8000000 in
theorem do_crash (n kd bl cut : Int) (by_ ks : List Int) (ab ak : Option Addr) (cb ck : Nat) (w : World) (hq : Dq w d bS bT u s) (hn : s.wt < 30000) (hh : Hnd w) (ho : ¬ Own d bS bT u 0) (hb : Sl bc w (.slice ab by_.length cb) by_) (hby : Byt by_) (hks : Sl ic w (.slice ak ks.length ck) ks) (hk : kd = 4) :
    Calls Tryd.prog 8 #[.pointer (some ⟨d, 0, none⟩), zd n, .agg #[.int .i64 kd, .int .i64 bl, .slice ab by_.length cb, .slice ak ks.length ck, .int .i64 cut]] w fun e w' => ∃ v u', e = .returned v ∧ Dq w' d bS bT u' (crS s ks cut) ∧ Dx d bS bT u w w' u' := by
  have HQ0 := hide hq
  have HH0 := hide hh
  have HO := hide ho
  have HBY0 := hide hb
  have HBT := hide hby
  have HKS0 := hide hks
  have HK := hide hk
  clear hq hh ho hb hby hks hk
  go_enter Tryd.func8, Tryd.ntmps8
  go_upto_region 1 with (fail)
  have hb1 := al_b0 w (.cells #[.int .i64 n, .slice none 0 0, .slice none 0 0] 35)
  have hb2 := al_b0 (w.alloc (.cells #[.int .i64 n, .slice none 0 0, .slice none 0 0] 35)) (.cells #[.int .i64 kd, .int .i64 bl, .slice ab by_.length cb, .slice ak ks.length ck, .int .i64 cut] 41)
  have hb3 := al_b0 ((w.alloc (.cells #[.int .i64 n, .slice none 0 0, .slice none 0 0] 35)).alloc (.cells #[.int .i64 kd, .int .i64 bl, .slice ab by_.length cb, .slice ak ks.length ck, .int .i64 cut] 41)) (.cells #[.int .i64 0, .slice none 0 0, .slice none 0 0] 35)
  have hD := ((b3_new w (.int .i64 n) (.slice none 0 0) (.slice none 0 0) 35).below hb2).below hb3
  have hP := range_belW (range_newW (w.alloc (.cells #[.int .i64 n, .slice none 0 0, .slice none 0 0] 35)) [.int .i64 kd, .int .i64 bl, .slice ab by_.length cb, .slice ak ks.length ck, .int .i64 cut] 41) hb3
  have hR := b3_new ((w.alloc (.cells #[.int .i64 n, .slice none 0 0, .slice none 0 0] 35)).alloc (.cells #[.int .i64 kd, .int .i64 bl, .slice ab by_.length cb, .slice ak ks.length ck, .int .i64 cut] 41)) (.int .i64 0) (.slice none 0 0) (.slice none 0 0) 35
  have hbb := bt (bt hb1 hb2) hb3
  have s1 : (w.alloc (.cells #[.int .i64 n, .slice none 0 0, .slice none 0 0] 35)).heap.size = w.heap.size + 1 := by simp
  have s2 : ((w.alloc (.cells #[.int .i64 n, .slice none 0 0, .slice none 0 0] 35)).alloc (.cells #[.int .i64 kd, .int .i64 bl, .slice ab by_.length cb, .slice ak ks.length ck, .int .i64 cut] 41)).heap.size = w.heap.size + 1 + 1 := by simp
  rw [s1] at hP
  rw [s2] at hR
  generalize hV : ((w.alloc (.cells #[.int .i64 n, .slice none 0 0, .slice none 0 0] 35)).alloc (.cells #[.int .i64 kd, .int .i64 bl, .slice ab by_.length cb, .slice ak ks.length ck, .int .i64 cut] 41)).alloc (.cells #[.int .i64 0, .slice none 0 0, .slice none 0 0] 35) = V at hD hP hR hbb ⊢
  have HD := hide hD
  have HP := hide hP
  have HR := hide hR
  have HQ := hide (HQ0.out.below hbb)
  have HX : Hid (Dx d bS bT u w V u) := hide (Dx.of hbb)
  have HH := hide (HH0.out.below hbb)
  have HBY := hide (HBY0.out.below hbb)
  have HKS := hide (HKS0.out.below hbb)
  have hOD : ¬ Own d bS bT u w.heap.size := fun q => by have := HQ0.out.dk.lt q; omega
  have hOP : ¬ Own d bS bT u (w.heap.size + 1) := fun q => by have := HQ0.out.dk.lt q; omega
  have hOR : ¬ Own d bS bT u (w.heap.size + 1 + 1) := fun q => by have := HQ0.out.dk.lt q; omega
  have HOD := hide hOD
  have HOP := hide hOP
  have HOR := hide hOR
  have hwr : w.heap.size ≤ w.heap.size + 1 + 1 := by omega
  have hdr : w.heap.size ≠ w.heap.size + 1 + 1 := by omega
  have hpr : w.heap.size + 1 ≠ w.heap.size + 1 + 1 := by omega
  generalize w.heap.size + 1 + 1 = R at HR HOR hwr hdr hpr ⊢
  generalize w.heap.size + 1 = Pb at HP HOP hpr ⊢
  obtain ⟨d0, d1, d2, _⟩ := hD
  have p0 := HP.out 0 _ rfl
  have p1 := HP.out 1 _ rfl
  have p2 := HP.out 2 _ rfl
  have p3 := HP.out 3 _ rfl
  have p4 := HP.out 4 _ rfl
  simp only [Nat.zero_add] at p0 p1 p2 p3 p4
  clear hV hb1 hb2 hb3 hP hR hbb s1 s2 HQ0 HH0 HBY0 HKS0 hOD hOP hOR
  have hk := HK.out
  go_wp2_with (first | (go_at_call 17; refine (q_crash _ ks cut _ HQ.out HKS.out hn).mono ?_; rintro e V2 ⟨rfl, hq2, hx2⟩; have HQ2 := hide hq2; have HX2 := hide (HX.out.trans hx2); have HR2 := hide (hx2.b3 HOR.out HR.out); have HD2 := hide (hx2.b3 HOD.out HD.out); have HP2 := hide (hx2.rg HOP.out HP.out); have HOR2 := hide (hx2.own (cell_block HR.out.c0) HOR.out); clear hq2 hx2; obtain ⟨g0, g1, g2, _⟩ := HD2.out; have q3 := HP2.out 3 _ rfl; have q4 := HP2.out 4 _ rfl; simp only [Nat.zero_add] at q3 q4) | (go_at_call 29; refine (rcrash0 n cut _ _).mono ?_; rintro e V3 ⟨v3, rfl, ⟨r7, a1, n1, c1, a2, n2, c2, rfl⟩, hb3⟩; have HQ3 := hide (HQ2.out.below hb3); have HX3 := hide (HX2.out.call hb3); have HR3 := hide (HR2.out.below hb3); have e0 := HR3.out.c0; have e1 := HR3.out.c1; have e2 := HR3.out.c2; have f0 := HR3.out.fz 0; have f1 := HR3.out.fz 1; have f2 := HR3.out.fz 2; clear hb3))
  exact bodyPost_ret (v := .tuple #[.agg #[_, _, _], .bool true]) (res_two Tryd.results8 _ _ R [_, _, _] _ _ rfl rfl (HR3.out.all (.int .i64 r7) (.slice a1 n1 c1) (.slice a2 n2 c2)).rg Tryd.underlying35 rfl infoDd) rfl ⟨_, _, rfl, HQ3.out.set3 HOR2.out _ _ _, HX3.out.set3 hwr _ _ _⟩
set_option maxRecDepth 100000 in
set_option maxHeartbeats 8000000 in
theorem do_wipe (n kd bl cut : Int) (by_ ks : List Int) (ab ak : Option Addr) (cb ck : Nat) (w : World) (hq : Dq w d bS bT u s) (hh : Hnd w) (ho : ¬ Own d bS bT u 0) (hb : Sl bc w (.slice ab by_.length cb) by_) (hby : Byt by_) (hks : Sl ic w (.slice ak ks.length ck) ks) (hk : kd = 5) :
    Calls Tryd.prog 8 #[.pointer (some ⟨d, 0, none⟩), zd n, .agg #[.int .i64 kd, .int .i64 bl, .slice ab by_.length cb, .slice ak ks.length ck, .int .i64 cut]] w fun e w' => ∃ v u', e = .returned v ∧ Dq w' d bS bT u' ⟨s.room, [], []⟩ ∧ Dx d bS bT u w w' u' := by
  have HQ0 := hide hq
  have HH0 := hide hh
  have HO := hide ho
  have HBY0 := hide hb
  have HBT := hide hby
  have HKS0 := hide hks
  have HK := hide hk
  clear hq hh ho hb hby hks hk
  go_enter Tryd.func8, Tryd.ntmps8
  go_upto_region 1 with (fail)
  have hb1 := al_b0 w (.cells #[.int .i64 n, .slice none 0 0, .slice none 0 0] 35)
  have hb2 := al_b0 (w.alloc (.cells #[.int .i64 n, .slice none 0 0, .slice none 0 0] 35)) (.cells #[.int .i64 kd, .int .i64 bl, .slice ab by_.length cb, .slice ak ks.length ck, .int .i64 cut] 41)
  have hb3 := al_b0 ((w.alloc (.cells #[.int .i64 n, .slice none 0 0, .slice none 0 0] 35)).alloc (.cells #[.int .i64 kd, .int .i64 bl, .slice ab by_.length cb, .slice ak ks.length ck, .int .i64 cut] 41)) (.cells #[.int .i64 0, .slice none 0 0, .slice none 0 0] 35)
  have hD := ((b3_new w (.int .i64 n) (.slice none 0 0) (.slice none 0 0) 35).below hb2).below hb3
  have hP := range_belW (range_newW (w.alloc (.cells #[.int .i64 n, .slice none 0 0, .slice none 0 0] 35)) [.int .i64 kd, .int .i64 bl, .slice ab by_.length cb, .slice ak ks.length ck, .int .i64 cut] 41) hb3
  have hR := b3_new ((w.alloc (.cells #[.int .i64 n, .slice none 0 0, .slice none 0 0] 35)).alloc (.cells #[.int .i64 kd, .int .i64 bl, .slice ab by_.length cb, .slice ak ks.length ck, .int .i64 cut] 41)) (.int .i64 0) (.slice none 0 0) (.slice none 0 0) 35
  have hbb := bt (bt hb1 hb2) hb3
  have s1 : (w.alloc (.cells #[.int .i64 n, .slice none 0 0, .slice none 0 0] 35)).heap.size = w.heap.size + 1 := by simp
  have s2 : ((w.alloc (.cells #[.int .i64 n, .slice none 0 0, .slice none 0 0] 35)).alloc (.cells #[.int .i64 kd, .int .i64 bl, .slice ab by_.length cb, .slice ak ks.length ck, .int .i64 cut] 41)).heap.size = w.heap.size + 1 + 1 := by simp
  rw [s1] at hP
  rw [s2] at hR
  generalize hV : ((w.alloc (.cells #[.int .i64 n, .slice none 0 0, .slice none 0 0] 35)).alloc (.cells #[.int .i64 kd, .int .i64 bl, .slice ab by_.length cb, .slice ak ks.length ck, .int .i64 cut] 41)).alloc (.cells #[.int .i64 0, .slice none 0 0, .slice none 0 0] 35) = V at hD hP hR hbb ⊢
  have HD := hide hD
  have HP := hide hP
  have HR := hide hR
  have HQ := hide (HQ0.out.below hbb)
  have HX : Hid (Dx d bS bT u w V u) := hide (Dx.of hbb)
  have HH := hide (HH0.out.below hbb)
  have HBY := hide (HBY0.out.below hbb)
  have HKS := hide (HKS0.out.below hbb)
  have hOD : ¬ Own d bS bT u w.heap.size := fun q => by have := HQ0.out.dk.lt q; omega
  have hOP : ¬ Own d bS bT u (w.heap.size + 1) := fun q => by have := HQ0.out.dk.lt q; omega
  have hOR : ¬ Own d bS bT u (w.heap.size + 1 + 1) := fun q => by have := HQ0.out.dk.lt q; omega
  have HOD := hide hOD
  have HOP := hide hOP
  have HOR := hide hOR
  have hwr : w.heap.size ≤ w.heap.size + 1 + 1 := by omega
  have hdr : w.heap.size ≠ w.heap.size + 1 + 1 := by omega
  have hpr : w.heap.size + 1 ≠ w.heap.size + 1 + 1 := by omega
  generalize w.heap.size + 1 + 1 = R at HR HOR hwr hdr hpr ⊢
  generalize w.heap.size + 1 = Pb at HP HOP hpr ⊢
  obtain ⟨d0, d1, d2, _⟩ := hD
  have p0 := HP.out 0 _ rfl
  have p1 := HP.out 1 _ rfl
  have p2 := HP.out 2 _ rfl
  have p3 := HP.out 3 _ rfl
  have p4 := HP.out 4 _ rfl
  simp only [Nat.zero_add] at p0 p1 p2 p3 p4
  clear hV hb1 hb2 hb3 hP hR hbb s1 s2 HQ0 HH0 HBY0 HKS0 hOD hOP hOR
  have hk := HK.out
  go_wp2_with (first | (go_at_call 30; refine (q_wipe _ HQ.out).mono ?_; rintro e V2 ⟨rfl, hq2, hx2⟩; have HQ2 := hide hq2; have HX2 := hide (HX.out.trans hx2); have HR2 := hide (hx2.b3 HOR.out HR.out); have HD2 := hide (hx2.b3 HOD.out HD.out); have HOR2 := hide (hx2.own (cell_block HR.out.c0) HOR.out); clear hq2 hx2; obtain ⟨g0, g1, g2, _⟩ := HD2.out; have e0 := HR2.out.c0; have e1 := HR2.out.c1; have e2 := HR2.out.c2; have f0 := HR2.out.fz 0; have f1 := HR2.out.fz 1; have f2 := HR2.out.fz 2))
  exact bodyPost_ret (v := .tuple #[.agg #[_, _, _], .bool true]) (res_two Tryd.results8 _ _ R [_, _, _] _ _ rfl rfl (HR2.out.all (.int .i64 n) (.slice none 0 0) (.slice none 0 0)).rg Tryd.underlying35 rfl infoDd) rfl ⟨_, _, rfl, HQ2.out.set3 HOR2.out _ _ _, HX2.out.set3 hwr _ _ _⟩
set_option maxRecDepth 100000 in
set_option maxHeartbeats 8000000 in
theorem do_write (n kd bl cut : Int) (by_ ks : List Int) (ab ak : Option Addr) (cb ck : Nat) (w : World) (hq : Dq w d bS bT u s) (hn : s.wt < 30000) (hh : Hnd w) (ho : ¬ Own d bS bT u 0) (hb : Sl bc w (.slice ab by_.length cb) by_) (hby : Byt by_) (hks : Sl ic w (.slice ak ks.length ck) ks) (hk : kd = 0) :
    Calls Tryd.prog 8 #[.pointer (some ⟨d, 0, none⟩), zd n, .agg #[.int .i64 kd, .int .i64 bl, .slice ab by_.length cb, .slice ak ks.length ck, .int .i64 cut]] w fun e w' => ∃ v u', e = .returned v ∧ Dq w' d bS bT u' (wrS s bl by_) ∧ Dx d bS bT u w w' u' := by
  have HQ0 := hide hq
  have HH0 := hide hh
  have HO := hide ho
  have HBY0 := hide hb
  have HBT := hide hby
  have HKS0 := hide hks
  have HK := hide hk
  clear hq hh ho hb hby hks hk
  go_enter Tryd.func8, Tryd.ntmps8
  go_upto_region 1 with (fail)
  have hb1 := al_b0 w (.cells #[.int .i64 n, .slice none 0 0, .slice none 0 0] 35)
  have hb2 := al_b0 (w.alloc (.cells #[.int .i64 n, .slice none 0 0, .slice none 0 0] 35)) (.cells #[.int .i64 kd, .int .i64 bl, .slice ab by_.length cb, .slice ak ks.length ck, .int .i64 cut] 41)
  have hb3 := al_b0 ((w.alloc (.cells #[.int .i64 n, .slice none 0 0, .slice none 0 0] 35)).alloc (.cells #[.int .i64 kd, .int .i64 bl, .slice ab by_.length cb, .slice ak ks.length ck, .int .i64 cut] 41)) (.cells #[.int .i64 0, .slice none 0 0, .slice none 0 0] 35)
  have hD := ((b3_new w (.int .i64 n) (.slice none 0 0) (.slice none 0 0) 35).below hb2).below hb3
  have hP := range_belW (range_newW (w.alloc (.cells #[.int .i64 n, .slice none 0 0, .slice none 0 0] 35)) [.int .i64 kd, .int .i64 bl, .slice ab by_.length cb, .slice ak ks.length ck, .int .i64 cut] 41) hb3
  have hR := b3_new ((w.alloc (.cells #[.int .i64 n, .slice none 0 0, .slice none 0 0] 35)).alloc (.cells #[.int .i64 kd, .int .i64 bl, .slice ab by_.length cb, .slice ak ks.length ck, .int .i64 cut] 41)) (.int .i64 0) (.slice none 0 0) (.slice none 0 0) 35
  have hbb := bt (bt hb1 hb2) hb3
  have s1 : (w.alloc (.cells #[.int .i64 n, .slice none 0 0, .slice none 0 0] 35)).heap.size = w.heap.size + 1 := by simp
  have s2 : ((w.alloc (.cells #[.int .i64 n, .slice none 0 0, .slice none 0 0] 35)).alloc (.cells #[.int .i64 kd, .int .i64 bl, .slice ab by_.length cb, .slice ak ks.length ck, .int .i64 cut] 41)).heap.size = w.heap.size + 1 + 1 := by simp
  rw [s1] at hP
  rw [s2] at hR
  generalize hV : ((w.alloc (.cells #[.int .i64 n, .slice none 0 0, .slice none 0 0] 35)).alloc (.cells #[.int .i64 kd, .int .i64 bl, .slice ab by_.length cb, .slice ak ks.length ck, .int .i64 cut] 41)).alloc (.cells #[.int .i64 0, .slice none 0 0, .slice none 0 0] 35) = V at hD hP hR hbb ⊢
  have HD := hide hD
  have HP := hide hP
  have HR := hide hR
  have HQ := hide (HQ0.out.below hbb)
  have HX : Hid (Dx d bS bT u w V u) := hide (Dx.of hbb)
  have HH := hide (HH0.out.below hbb)
  have HBY := hide (HBY0.out.below hbb)
  have HKS := hide (HKS0.out.below hbb)
  have hOD : ¬ Own d bS bT u w.heap.size := fun q => by have := HQ0.out.dk.lt q; omega
  have hOP : ¬ Own d bS bT u (w.heap.size + 1) := fun q => by have := HQ0.out.dk.lt q; omega
  have hOR : ¬ Own d bS bT u (w.heap.size + 1 + 1) := fun q => by have := HQ0.out.dk.lt q; omega
  have HOD := hide hOD
  have HOP := hide hOP
  have HOR := hide hOR
  have hwr : w.heap.size ≤ w.heap.size + 1 + 1 := by omega
  have hdr : w.heap.size ≠ w.heap.size + 1 + 1 := by omega
  have hpr : w.heap.size + 1 ≠ w.heap.size + 1 + 1 := by omega
  generalize w.heap.size + 1 + 1 = R at HR HOR hwr hdr hpr ⊢
  generalize w.heap.size + 1 = Pb at HP HOP hpr ⊢
  obtain ⟨d0, d1, d2, _⟩ := hD
  have p0 := HP.out 0 _ rfl
  have p1 := HP.out 1 _ rfl
  have p2 := HP.out 2 _ rfl
  have p3 := HP.out 3 _ rfl
  have p4 := HP.out 4 _ rfl
  simp only [Nat.zero_add] at p0 p1 p2 p3 p4
  clear hV hb1 hb2 hb3 hP hR hbb s1 s2 HQ0 HH0 HBY0 HKS0 hOD hOP hOR
  have hk := HK.out
  go_upto_region 4 with (first | (go_at_call 22; refine (rput0 n bl _ by_ _ HBY.out).mono ?_; rintro e V2 ⟨v2, c2, rfl, ⟨r7, a1, n1, k1, a2, n2, k2, rfl⟩, hb2⟩; have HQ2 := hide (HQ.out.below hb2); have HX2 := hide (HX.out.call hb2); have HR2 := hide (HR.out.below hb2); have HP2 := hide (range_belW HP.out hb2); have HH2 := hide (HH.out.below hb2); have HBY2 := hide (HBY.out.below hb2); clear hb2))
  have hb3 := al_b0 V2 (.cells #[.int .i64 r7, .slice a1 n1 k1, .slice a2 n2 k2] 35)
  have hS := b3_new V2 (.int .i64 r7) (.slice a1 n1 k1) (.slice a2 n2 k2) 35
  have HQ3 := hide (HQ2.out.below hb3)
  have HX3 := hide (HX2.out.call hb3)
  have HR3 := hide (HR2.out.below hb3)
  have HP3 := hide (range_belW HP2.out hb3)
  have HH3 := hide (HH2.out.below hb3)
  have HBY3 := hide (HBY2.out.below hb3)
  have hrs : V2.heap.size ≠ R := fun e => by have h9 : R < V2.heap.size := cell_block HR2.out.c0; omega
  have HOS : Hid (¬ Own d bS bT u V2.heap.size) := hide (fun q => by have := HQ2.out.dk.lt q; omega)
  generalize V2.alloc (.cells #[.int .i64 r7, .slice a1 n1 k1, .slice a2 n2 k2] 35) = V3 at hS HQ3 HX3 HR3 HP3 HH3 HBY3 ⊢
  have HS3 := hide hS
  generalize V2.heap.size = Sb at HS3 hrs HOS ⊢
  clear hS hb3 HQ2 HX2 HR2 HP2 HH2 HBY2 HQ HX HR HP HH HBY HKS HD d0 d1 d2 p0 p1 p2 p3 p4
  refine wp_region_held_drew (S := fun W => B3 W Sb (.int .i64 r7) (.slice a1 n1 k1) (.slice a2 n2 k2) ∧ W.rangeAt Pb 0 [.int .i64 kd, .int .i64 bl, .slice ab by_.length cb, .slice ak ks.length ck, .int .i64 cut]) (by kernel_rfl) ⟨HS3.out.below (Below.refl _ _).drew, HP3.out⟩ (fun hHeld => ?_)
  have hdw : Below V3.heap.size V3 V3.drew := (Below.refl _ _).drew
  have HQ4 := hide (HQ3.out.below hdw)
  have HX4 := hide (HX3.out.call hdw)
  have HR4 := hide (HR3.out.below hdw)
  have HH4 := hide (HH3.out.below hdw)
  have HBY4 := hide (HBY3.out.below hdw)
  generalize V3.drew = V4 at HQ4 HX4 HR4 HH4 HBY4 hHeld ⊢
  clear hdw HQ3 HX3 HR3 HP3 HH3 HBY3 HS3
  refine wpAnyH_take (i := 0) (oi := _) (v := .agg #[.int .i64 r7, .slice a1 n1 k1, .slice a2 n2 k2]) rfl (by kernel_rfl) (by kernel_rfl) (by kernel_rfl) (fun _ _ _ h => h) (Or.inl ⟨by rfl, by intro w hSw; have h0 := hSw.1.c0; have h1 := hSw.1.c1; have h2 := hSw.1.c2; go_simp⟩) hHeld ?_
  change wpAnyH _ _ _ _ _ _ _ (Act.put _ (some 29) _) _
  simp only [Act.put, List.setIfInBounds_toArray, List.set_cons_zero, List.set_cons_succ]
  refine wpAnyH_take (i := 1) (oi := _) (v := .pointer (some ⟨d, 0, none⟩)) rfl (by kernel_rfl) (by kernel_rfl) (by kernel_rfl) (fun _ _ _ h => h) (Or.inl ⟨by rfl, by intro w hSw; go_simp⟩) hHeld ?_
  change wpAnyH _ _ _ _ _ _ _ (Act.put _ (some 30) _) _
  simp only [Act.put, List.setIfInBounds_toArray, List.set_cons_zero, List.set_cons_succ]
  refine wpAnyH_take (i := 2) (oi := _) (v := .pointer (some ⟨Pb, 1, none⟩)) rfl (by kernel_rfl) (by kernel_rfl) (by kernel_rfl) (fun _ _ _ h => h) (Or.inl ⟨by rfl, by intro w hSw; go_simp⟩) hHeld ?_
  change wpAnyH _ _ _ _ _ _ _ (Act.put _ (some 31) _) _
  simp only [Act.put, List.setIfInBounds_toArray, List.set_cons_zero, List.set_cons_succ]
  refine wpAnyH_take (i := 3) (oi := _) (v := .int .i64 bl) rfl (by kernel_rfl) (by kernel_rfl) (by kernel_rfl) (fun _ _ _ h => h) (Or.inl ⟨by rfl, by intro w hSw; have h1 := hSw.2 1 _ rfl; simp only [Nat.zero_add] at h1; go_simp⟩) hHeld ?_
  change wpAnyH _ _ _ _ _ _ _ (Act.put _ (some 32) _) _
  simp only [Act.put, List.setIfInBounds_toArray, List.set_cons_zero, List.set_cons_succ]
  refine wpAnyH_take (i := 4) (oi := _) (v := .pointer (some ⟨Pb, 2, none⟩)) rfl (by kernel_rfl) (by kernel_rfl) (by kernel_rfl) (fun _ _ _ h => h) (Or.inl ⟨by rfl, by intro w hSw; go_simp⟩) hHeld ?_
  change wpAnyH _ _ _ _ _ _ _ (Act.put _ (some 33) _) _
  simp only [Act.put, List.setIfInBounds_toArray, List.set_cons_zero, List.set_cons_succ]
  refine wpAnyH_take (i := 5) (oi := _) (v := .slice ab by_.length cb) rfl (by kernel_rfl) (by kernel_rfl) (by kernel_rfl) (fun _ _ _ h => h) (Or.inl ⟨by rfl, by intro w hSw; have h1 := hSw.2 2 _ rfl; simp only [Nat.zero_add] at h1; go_simp⟩) hHeld ?_
  change wpAnyH _ _ _ _ _ _ _ (Act.put _ (some 34) _) _
  simp only [Act.put, List.setIfInBounds_toArray, List.set_cons_zero, List.set_cons_succ]
  refine wpAnyH_take (i := 8) (oi := _) (v := .int .i64 c2) rfl (by kernel_rfl) (by kernel_rfl) (by kernel_rfl) (fun _ _ _ h => h) (Or.inl ⟨by rfl, by intro w hSw; go_simp⟩) hHeld ?_
  change wpAnyH _ _ _ _ _ _ _ (Act.put _ (some 37) _) _
  simp only [Act.put, List.setIfInBounds_toArray, List.set_cons_zero, List.set_cons_succ]
  refine wpAnyH_ready (rs := [6]) (by kernel_rfl) (by simp) ?_
  refine AllReadyH.cons (o := _) rfl (fun K hK => ?_) AllReadyH.nil
  go_simp
  go_at_call 15
  refine (q_write bl _ by_ _ HQ4.out HBY4.out HBT.out hn).mono ?_
  rintro e V5 ⟨u5, rfl, hq5, hx5⟩
  go_wp2_with fail
  refine hK.out _ _ ⟨hx5.b3 HOS.out hHeld.1, hx5.rg HOP.out hHeld.2⟩ (fun hHeld1 => ?_)
  clear hK K hHeld
  have hHeld := hHeld1
  clear hHeld1
  have HQ5 := hide hq5
  have HX5 := hide (HX4.out.trans hx5)
  have HR5 := hide (hx5.b3 HOR.out HR4.out)
  have HH5 := hide (hx5.hnd HO.out HH4.out)
  have HOR2 := hide (hx5.own (cell_block HR4.out.c0) HOR.out)
  clear hq5 hx5 HQ4 HX4 HR4 HH4 HBY4
  refine wpAnyH_ready (rs := [7]) (by kernel_rfl) (by simp) ?_
  refine AllReadyH.cons (o := _) rfl (fun K hK => ?_) AllReadyH.nil
  go_simp
  go_at_call 23
  refine (of_ev (wrE s bl by_) _ HH5.out).mono ?_
  rintro e V6 ⟨rfl, hb6⟩
  go_wp2_with fail
  refine hK.out _ _ ⟨hHeld.1.below hb6, range_belW hHeld.2 hb6⟩ (fun hHeld1 => ?_)
  clear hK K hHeld
  have hHeld := hHeld1
  clear hHeld1
  have HQ6 := hide (HQ5.out.below hb6)
  have HX6 := hide (HX5.out.call hb6)
  have HR6 := hide (HR5.out.below hb6)
  generalize ofV (wrE s bl by_) = oc
  clear hb6 HQ5 HX5 HR5 HH5
  refine wpAnyH_take (i := 9) (oi := _) (v := .bool (oc == c2)) rfl (by kernel_rfl) (by kernel_rfl) (by kernel_rfl) (fun _ _ _ h => h) (Or.inl ⟨by rfl, by intro w hSw; go_simp⟩) hHeld ?_
  change wpAnyH _ _ _ _ _ _ _ (Act.put _ (some 38) _) _
  simp only [Act.put, List.setIfInBounds_toArray, List.set_cons_zero, List.set_cons_succ]
  refine wpAnyH_ready (rs := [10]) (by kernel_rfl) (by simp) ?_
  refine AllReadyH.cons (o := _) rfl (fun K hK => ?_) AllReadyH.nil
  have e0 := HR6.out.c0
  have e1 := HR6.out.c1
  have e2 := HR6.out.c2
  have f0 := HR6.out.fz 0
  have f1 := HR6.out.fz 1
  have f2 := HR6.out.fz 2
  go_simp
  clear e0 e1 e2 f0 f1 f2
  refine hK.out _ _ ⟨((hHeld.1.setO hrs _).setO hrs _).setO hrs _, rg_set (rg_set (rg_set hHeld.2 hpr) hpr) hpr⟩ (fun hHeld1 => ?_)
  clear hK K hHeld
  have hHeld := hHeld1
  clear hHeld1
  refine wpAnyH_take (i := 11) (oi := _) (v := .bool (oc == c2)) rfl (by kernel_rfl) (by kernel_rfl) (by kernel_rfl) (fun _ _ _ h => h) (Or.inl ⟨by rfl, by intro w hSw; go_simp⟩) hHeld ?_
  change wpAnyH _ _ _ _ _ _ _ (Act.put _ (some 7) _) _
  simp only [Act.put, List.setIfInBounds_toArray, List.set_cons_zero, List.set_cons_succ]
  refine wpAnyH_done (by kernel_rfl) ?_ _
  clear hHeld
  go_wp2
  exact bodyPost_ret (v := .tuple #[.agg #[_, _, _], .bool (oc == c2)]) (res_two Tryd.results8 _ _ R [_, _, _] _ _ rfl rfl (HR6.out.all (.int .i64 r7) (.slice a1 n1 k1) (.slice a2 n2 k2)).rg Tryd.underlying35 rfl infoDd) rfl ⟨_, _, rfl, HQ6.out.set3 HOR2.out _ _ _, HX6.out.set3 hwr _ _ _⟩
set_option maxRecDepth 100000 in
set_option maxHeartbeats 8000000 in
theorem do_free (n kd bl cut : Int) (by_ ks : List Int) (ab ak : Option Addr) (cb ck : Nat) (w : World) (hq : Dq w d bS bT u s) (hn : s.wt < 30000) (hh : Hnd w) (ho : ¬ Own d bS bT u 0) (hb : Sl bc w (.slice ab by_.length cb) by_) (hby : Byt by_) (hks : Sl ic w (.slice ak ks.length ck) ks) (hk : kd = 1) :
    Calls Tryd.prog 8 #[.pointer (some ⟨d, 0, none⟩), zd n, .agg #[.int .i64 kd, .int .i64 bl, .slice ab by_.length cb, .slice ak ks.length ck, .int .i64 cut]] w fun e w' => ∃ v u', e = .returned v ∧ Dq w' d bS bT u' (frS s bl) ∧ Dx d bS bT u w w' u' := by
  have HQ0 := hide hq
  have HH0 := hide hh
  have HO := hide ho
  have HBY0 := hide hb
  have HBT := hide hby
  have HKS0 := hide hks
  have HK := hide hk
  clear hq hh ho hb hby hks hk
  go_enter Tryd.func8, Tryd.ntmps8
  go_upto_region 1 with (fail)
  have hb1 := al_b0 w (.cells #[.int .i64 n, .slice none 0 0, .slice none 0 0] 35)
  have hb2 := al_b0 (w.alloc (.cells #[.int .i64 n, .slice none 0 0, .slice none 0 0] 35)) (.cells #[.int .i64 kd, .int .i64 bl, .slice ab by_.length cb, .slice ak ks.length ck, .int .i64 cut] 41)
  have hb3 := al_b0 ((w.alloc (.cells #[.int .i64 n, .slice none 0 0, .slice none 0 0] 35)).alloc (.cells #[.int .i64 kd, .int .i64 bl, .slice ab by_.length cb, .slice ak ks.length ck, .int .i64 cut] 41)) (.cells #[.int .i64 0, .slice none 0 0, .slice none 0 0] 35)
  have hD := ((b3_new w (.int .i64 n) (.slice none 0 0) (.slice none 0 0) 35).below hb2).below hb3
  have hP := range_belW (range_newW (w.alloc (.cells #[.int .i64 n, .slice none 0 0, .slice none 0 0] 35)) [.int .i64 kd, .int .i64 bl, .slice ab by_.length cb, .slice ak ks.length ck, .int .i64 cut] 41) hb3
  have hR := b3_new ((w.alloc (.cells #[.int .i64 n, .slice none 0 0, .slice none 0 0] 35)).alloc (.cells #[.int .i64 kd, .int .i64 bl, .slice ab by_.length cb, .slice ak ks.length ck, .int .i64 cut] 41)) (.int .i64 0) (.slice none 0 0) (.slice none 0 0) 35
  have hbb := bt (bt hb1 hb2) hb3
  have s1 : (w.alloc (.cells #[.int .i64 n, .slice none 0 0, .slice none 0 0] 35)).heap.size = w.heap.size + 1 := by simp
  have s2 : ((w.alloc (.cells #[.int .i64 n, .slice none 0 0, .slice none 0 0] 35)).alloc (.cells #[.int .i64 kd, .int .i64 bl, .slice ab by_.length cb, .slice ak ks.length ck, .int .i64 cut] 41)).heap.size = w.heap.size + 1 + 1 := by simp
  rw [s1] at hP
  rw [s2] at hR
  generalize hV : ((w.alloc (.cells #[.int .i64 n, .slice none 0 0, .slice none 0 0] 35)).alloc (.cells #[.int .i64 kd, .int .i64 bl, .slice ab by_.length cb, .slice ak ks.length ck, .int .i64 cut] 41)).alloc (.cells #[.int .i64 0, .slice none 0 0, .slice none 0 0] 35) = V at hD hP hR hbb ⊢
  have HD := hide hD
  have HP := hide hP
  have HR := hide hR
  have HQ := hide (HQ0.out.below hbb)
  have HX : Hid (Dx d bS bT u w V u) := hide (Dx.of hbb)
  have HH := hide (HH0.out.below hbb)
  have HBY := hide (HBY0.out.below hbb)
  have HKS := hide (HKS0.out.below hbb)
  have hOD : ¬ Own d bS bT u w.heap.size := fun q => by have := HQ0.out.dk.lt q; omega
  have hOP : ¬ Own d bS bT u (w.heap.size + 1) := fun q => by have := HQ0.out.dk.lt q; omega
  have hOR : ¬ Own d bS bT u (w.heap.size + 1 + 1) := fun q => by have := HQ0.out.dk.lt q; omega
  have HOD := hide hOD
  have HOP := hide hOP
  have HOR := hide hOR
  have hwr : w.heap.size ≤ w.heap.size + 1 + 1 := by omega
  have hdr : w.heap.size ≠ w.heap.size + 1 + 1 := by omega
  have hpr : w.heap.size + 1 ≠ w.heap.size + 1 + 1 := by omega
  generalize w.heap.size + 1 + 1 = R at HR HOR hwr hdr hpr ⊢
  generalize w.heap.size + 1 = Pb at HP HOP hpr ⊢
  obtain ⟨d0, d1, d2, _⟩ := hD
  have p0 := HP.out 0 _ rfl
  have p1 := HP.out 1 _ rfl
  have p2 := HP.out 2 _ rfl
  have p3 := HP.out 3 _ rfl
  have p4 := HP.out 4 _ rfl
  simp only [Nat.zero_add] at p0 p1 p2 p3 p4
  clear hV hb1 hb2 hb3 hP hR hbb s1 s2 HQ0 HH0 HBY0 HKS0 hOD hOP hOR
  have hk := HK.out
  go_upto_region 7 with (first | (go_at_call 24; refine (rfree0 n bl _).mono ?_; rintro e V2 ⟨v2, c2, rfl, ⟨r7, a1, n1, k1, a2, n2, k2, rfl⟩, hb2⟩; have HQ2 := hide (HQ.out.below hb2); have HX2 := hide (HX.out.call hb2); have HR2 := hide (HR.out.below hb2); have HP2 := hide (range_belW HP.out hb2); have HH2 := hide (HH.out.below hb2); have HBY2 := hide (HBY.out.below hb2); clear hb2))
  have hb3 := al_b0 V2 (.cells #[.int .i64 r7, .slice a1 n1 k1, .slice a2 n2 k2] 35)
  have hS := b3_new V2 (.int .i64 r7) (.slice a1 n1 k1) (.slice a2 n2 k2) 35
  have HQ3 := hide (HQ2.out.below hb3)
  have HX3 := hide (HX2.out.call hb3)
  have HR3 := hide (HR2.out.below hb3)
  have HP3 := hide (range_belW HP2.out hb3)
  have HH3 := hide (HH2.out.below hb3)
  have HBY3 := hide (HBY2.out.below hb3)
  have hrs : V2.heap.size ≠ R := fun e => by have h9 : R < V2.heap.size := cell_block HR2.out.c0; omega
  have HOS : Hid (¬ Own d bS bT u V2.heap.size) := hide (fun q => by have := HQ2.out.dk.lt q; omega)
  generalize V2.alloc (.cells #[.int .i64 r7, .slice a1 n1 k1, .slice a2 n2 k2] 35) = V3 at hS HQ3 HX3 HR3 HP3 HH3 HBY3 ⊢
  have HS3 := hide hS
  generalize V2.heap.size = Sb at HS3 hrs HOS ⊢
  clear hS hb3 HQ2 HX2 HR2 HP2 HH2 HBY2 HQ HX HR HP HH HBY HKS HD d0 d1 d2 p0 p1 p2 p3 p4
  refine wp_region_held_drew (S := fun W => B3 W Sb (.int .i64 r7) (.slice a1 n1 k1) (.slice a2 n2 k2) ∧ W.rangeAt Pb 0 [.int .i64 kd, .int .i64 bl, .slice ab by_.length cb, .slice ak ks.length ck, .int .i64 cut]) (by kernel_rfl) ⟨HS3.out.below (Below.refl _ _).drew, HP3.out⟩ (fun hHeld => ?_)
  have hdw : Below V3.heap.size V3 V3.drew := (Below.refl _ _).drew
  have HQ4 := hide (HQ3.out.below hdw)
  have HX4 := hide (HX3.out.call hdw)
  have HR4 := hide (HR3.out.below hdw)
  have HH4 := hide (HH3.out.below hdw)
  have HBY4 := hide (HBY3.out.below hdw)
  generalize V3.drew = V4 at HQ4 HX4 HR4 HH4 HBY4 hHeld ⊢
  clear hdw HQ3 HX3 HR3 HP3 HH3 HBY3 HS3
  refine wpAnyH_take (i := 0) (oi := _) (v := .agg #[.int .i64 r7, .slice a1 n1 k1, .slice a2 n2 k2]) rfl (by kernel_rfl) (by kernel_rfl) (by kernel_rfl) (fun _ _ _ h => h) (Or.inl ⟨by rfl, by intro w hSw; have h0 := hSw.1.c0; have h1 := hSw.1.c1; have h2 := hSw.1.c2; go_simp⟩) hHeld ?_
  change wpAnyH _ _ _ _ _ _ _ (Act.put _ (some 48) _) _
  simp only [Act.put, List.setIfInBounds_toArray, List.set_cons_zero, List.set_cons_succ]
  refine wpAnyH_take (i := 1) (oi := _) (v := .pointer (some ⟨d, 0, none⟩)) rfl (by kernel_rfl) (by kernel_rfl) (by kernel_rfl) (fun _ _ _ h => h) (Or.inl ⟨by rfl, by intro w hSw; go_simp⟩) hHeld ?_
  change wpAnyH _ _ _ _ _ _ _ (Act.put _ (some 49) _) _
  simp only [Act.put, List.setIfInBounds_toArray, List.set_cons_zero, List.set_cons_succ]
  refine wpAnyH_take (i := 2) (oi := _) (v := .pointer (some ⟨Pb, 1, none⟩)) rfl (by kernel_rfl) (by kernel_rfl) (by kernel_rfl) (fun _ _ _ h => h) (Or.inl ⟨by rfl, by intro w hSw; go_simp⟩) hHeld ?_
  change wpAnyH _ _ _ _ _ _ _ (Act.put _ (some 50) _) _
  simp only [Act.put, List.setIfInBounds_toArray, List.set_cons_zero, List.set_cons_succ]
  refine wpAnyH_take (i := 3) (oi := _) (v := .int .i64 bl) rfl (by kernel_rfl) (by kernel_rfl) (by kernel_rfl) (fun _ _ _ h => h) (Or.inl ⟨by rfl, by intro w hSw; have h1 := hSw.2 1 _ rfl; simp only [Nat.zero_add] at h1; go_simp⟩) hHeld ?_
  change wpAnyH _ _ _ _ _ _ _ (Act.put _ (some 51) _) _
  simp only [Act.put, List.setIfInBounds_toArray, List.set_cons_zero, List.set_cons_succ]
  refine wpAnyH_take (i := 6) (oi := _) (v := .int .i64 c2) rfl (by kernel_rfl) (by kernel_rfl) (by kernel_rfl) (fun _ _ _ h => h) (Or.inl ⟨by rfl, by intro w hSw; go_simp⟩) hHeld ?_
  change wpAnyH _ _ _ _ _ _ _ (Act.put _ (some 54) _) _
  simp only [Act.put, List.setIfInBounds_toArray, List.set_cons_zero, List.set_cons_succ]
  refine wpAnyH_ready (rs := [4]) (by kernel_rfl) (by simp) ?_
  refine AllReadyH.cons (o := _) rfl (fun K hK => ?_) AllReadyH.nil
  go_simp
  go_at_call 25
  refine (q_free bl _ HQ4.out hn).mono ?_
  rintro e V5 ⟨u5, rfl, hq5, hx5⟩
  go_wp2_with fail
  refine hK.out _ _ ⟨hx5.b3 HOS.out hHeld.1, hx5.rg HOP.out hHeld.2⟩ (fun hHeld1 => ?_)
  clear hK K hHeld
  have hHeld := hHeld1
  clear hHeld1
  have HQ5 := hide hq5
  have HX5 := hide (HX4.out.trans hx5)
  have HR5 := hide (hx5.b3 HOR.out HR4.out)
  have HH5 := hide (hx5.hnd HO.out HH4.out)
  have HOR2 := hide (hx5.own (cell_block HR4.out.c0) HOR.out)
  clear hq5 hx5 HQ4 HX4 HR4 HH4 HBY4
  refine wpAnyH_ready (rs := [5]) (by kernel_rfl) (by simp) ?_
  refine AllReadyH.cons (o := _) rfl (fun K hK => ?_) AllReadyH.nil
  go_simp
  go_at_call 23
  refine (of_ev (frE bl) _ HH5.out).mono ?_
  rintro e V6 ⟨rfl, hb6⟩
  go_wp2_with fail
  refine hK.out _ _ ⟨hHeld.1.below hb6, range_belW hHeld.2 hb6⟩ (fun hHeld1 => ?_)
  clear hK K hHeld
  have hHeld := hHeld1
  clear hHeld1
  have HQ6 := hide (HQ5.out.below hb6)
  have HX6 := hide (HX5.out.call hb6)
  have HR6 := hide (HR5.out.below hb6)
  generalize ofV (frE bl) = oc
  clear hb6 HQ5 HX5 HR5 HH5
  refine wpAnyH_take (i := 7) (oi := _) (v := .bool (oc == c2)) rfl (by kernel_rfl) (by kernel_rfl) (by kernel_rfl) (fun _ _ _ h => h) (Or.inl ⟨by rfl, by intro w hSw; go_simp⟩) hHeld ?_
  change wpAnyH _ _ _ _ _ _ _ (Act.put _ (some 55) _) _
  simp only [Act.put, List.setIfInBounds_toArray, List.set_cons_zero, List.set_cons_succ]
  refine wpAnyH_ready (rs := [8]) (by kernel_rfl) (by simp) ?_
  refine AllReadyH.cons (o := _) rfl (fun K hK => ?_) AllReadyH.nil
  have e0 := HR6.out.c0
  have e1 := HR6.out.c1
  have e2 := HR6.out.c2
  have f0 := HR6.out.fz 0
  have f1 := HR6.out.fz 1
  have f2 := HR6.out.fz 2
  go_simp
  clear e0 e1 e2 f0 f1 f2
  refine hK.out _ _ ⟨((hHeld.1.setO hrs _).setO hrs _).setO hrs _, rg_set (rg_set (rg_set hHeld.2 hpr) hpr) hpr⟩ (fun hHeld1 => ?_)
  clear hK K hHeld
  have hHeld := hHeld1
  clear hHeld1
  refine wpAnyH_take (i := 9) (oi := _) (v := .bool (oc == c2)) rfl (by kernel_rfl) (by kernel_rfl) (by kernel_rfl) (fun _ _ _ h => h) (Or.inl ⟨by rfl, by intro w hSw; go_simp⟩) hHeld ?_
  change wpAnyH _ _ _ _ _ _ _ (Act.put _ (some 7) _) _
  simp only [Act.put, List.setIfInBounds_toArray, List.set_cons_zero, List.set_cons_succ]
  refine wpAnyH_done (by kernel_rfl) ?_ _
  clear hHeld
  go_wp2
  exact bodyPost_ret (v := .tuple #[.agg #[_, _, _], .bool (oc == c2)]) (res_two Tryd.results8 _ _ R [_, _, _] _ _ rfl rfl (HR6.out.all (.int .i64 r7) (.slice a1 n1 k1) (.slice a2 n2 k2)).rg Tryd.underlying35 rfl infoDd) rfl ⟨_, _, rfl, HQ6.out.set3 HOR2.out _ _ _, HX6.out.set3 hwr _ _ _⟩
set_option maxRecDepth 100000 in
set_option maxHeartbeats 8000000 in
theorem do_readok (n kd bl cut : Int) (by_ ks : List Int) (ab ak : Option Addr) (cb ck : Nat) (w : World) (hq : Dq w d bS bT u s) (hh : Hnd w) (ho : ¬ Own d bS bT u 0) (hb : Sl bc w (.slice ab by_.length cb) by_) (hby : Byt by_) (hks : Sl ic w (.slice ak ks.length ck) ks) (hk : kd = 2) (hnb : Num bl) :
    Calls Tryd.prog 8 #[.pointer (some ⟨d, 0, none⟩), zd n, .agg #[.int .i64 kd, .int .i64 bl, .slice ab by_.length cb, .slice ak ks.length ck, .int .i64 cut]] w fun e w' => ∃ v u', e = .returned v ∧ Dq w' d bS bT u' s ∧ Dx d bS bT u w w' u' := by
  have HQ0 := hide hq
  have HH0 := hide hh
  have HO := hide ho
  have HBY0 := hide hb
  have HBT := hide hby
  have HKS0 := hide hks
  have HK := hide hk
  clear hq hh ho hb hby hks hk
  go_enter Tryd.func8, Tryd.ntmps8
  have HNB := hide hnb
  clear hnb
  go_upto_region 1 with (fail)
  have hb1 := al_b0 w (.cells #[.int .i64 n, .slice none 0 0, .slice none 0 0] 35)
  have hb2 := al_b0 (w.alloc (.cells #[.int .i64 n, .slice none 0 0, .slice none 0 0] 35)) (.cells #[.int .i64 kd, .int .i64 bl, .slice ab by_.length cb, .slice ak ks.length ck, .int .i64 cut] 41)
  have hb3 := al_b0 ((w.alloc (.cells #[.int .i64 n, .slice none 0 0, .slice none 0 0] 35)).alloc (.cells #[.int .i64 kd, .int .i64 bl, .slice ab by_.length cb, .slice ak ks.length ck, .int .i64 cut] 41)) (.cells #[.int .i64 0, .slice none 0 0, .slice none 0 0] 35)
  have hD := ((b3_new w (.int .i64 n) (.slice none 0 0) (.slice none 0 0) 35).below hb2).below hb3
  have hP := range_belW (range_newW (w.alloc (.cells #[.int .i64 n, .slice none 0 0, .slice none 0 0] 35)) [.int .i64 kd, .int .i64 bl, .slice ab by_.length cb, .slice ak ks.length ck, .int .i64 cut] 41) hb3
  have hR := b3_new ((w.alloc (.cells #[.int .i64 n, .slice none 0 0, .slice none 0 0] 35)).alloc (.cells #[.int .i64 kd, .int .i64 bl, .slice ab by_.length cb, .slice ak ks.length ck, .int .i64 cut] 41)) (.int .i64 0) (.slice none 0 0) (.slice none 0 0) 35
  have hbb := bt (bt hb1 hb2) hb3
  have s1 : (w.alloc (.cells #[.int .i64 n, .slice none 0 0, .slice none 0 0] 35)).heap.size = w.heap.size + 1 := by simp
  have s2 : ((w.alloc (.cells #[.int .i64 n, .slice none 0 0, .slice none 0 0] 35)).alloc (.cells #[.int .i64 kd, .int .i64 bl, .slice ab by_.length cb, .slice ak ks.length ck, .int .i64 cut] 41)).heap.size = w.heap.size + 1 + 1 := by simp
  rw [s1] at hP
  rw [s2] at hR
  generalize hV : ((w.alloc (.cells #[.int .i64 n, .slice none 0 0, .slice none 0 0] 35)).alloc (.cells #[.int .i64 kd, .int .i64 bl, .slice ab by_.length cb, .slice ak ks.length ck, .int .i64 cut] 41)).alloc (.cells #[.int .i64 0, .slice none 0 0, .slice none 0 0] 35) = V at hD hP hR hbb ⊢
  have HD := hide hD
  have HP := hide hP
  have HR := hide hR
  have HQ := hide (HQ0.out.below hbb)
  have HX : Hid (Dx d bS bT u w V u) := hide (Dx.of hbb)
  have HH := hide (HH0.out.below hbb)
  have HBY := hide (HBY0.out.below hbb)
  have HKS := hide (HKS0.out.below hbb)
  have hOD : ¬ Own d bS bT u w.heap.size := fun q => by have := HQ0.out.dk.lt q; omega
  have hOP : ¬ Own d bS bT u (w.heap.size + 1) := fun q => by have := HQ0.out.dk.lt q; omega
  have hOR : ¬ Own d bS bT u (w.heap.size + 1 + 1) := fun q => by have := HQ0.out.dk.lt q; omega
  have HOD := hide hOD
  have HOP := hide hOP
  have HOR := hide hOR
  have hwr : w.heap.size ≤ w.heap.size + 1 + 1 := by omega
  have hdr : w.heap.size ≠ w.heap.size + 1 + 1 := by omega
  have hpr : w.heap.size + 1 ≠ w.heap.size + 1 + 1 := by omega
  generalize w.heap.size + 1 + 1 = R at HR HOR hwr hdr hpr ⊢
  generalize w.heap.size + 1 = Pb at HP HOP hpr ⊢
  obtain ⟨d0, d1, d2, _⟩ := hD
  have p0 := HP.out 0 _ rfl
  have p1 := HP.out 1 _ rfl
  have p2 := HP.out 2 _ rfl
  have p3 := HP.out 3 _ rfl
  have p4 := HP.out 4 _ rfl
  simp only [Nat.zero_add] at p0 p1 p2 p3 p4
  clear hV hb1 hb2 hb3 hP hR hbb s1 s2 HQ0 HH0 HBY0 HKS0 hOD hOP hOR
  have hk := HK.out
  go_upto_region 10 with (first | (go_at_call 18; refine (q_read bl _ HQ.out HNB.out).mono ?_; rintro e V2 ⟨rfl, hw2⟩; have hb2 : Below V.heap.size V V2 := (by rw [hw2]; exact al_b0 _ _); have HG2 : Hid (V2.heap[V.heap.size]? = some (.cells (bv ((look s.tk bl).getD zer)).toArray 74 (0, 0))) := hide (by rw [hw2]; exact arr_new0 _ _ _); have HQ2 := hide (HQ.out.below hb2); have HX2 := hide (HX.out.call hb2); have HR2 := hide (HR.out.below hb2); have HD2 := hide (HD.out.below hb2); have HP2 := hide (range_belW HP.out hb2); have HH2 := hide (HH.out.below hb2); clear hw2 hb2))
  have HSL := hide (sl_blk (b := (look s.tk bl).getD zer) (t := 74) (at_len HQ2.out.ok.tb bl) HG2.out)
  have HLL : Hid (((look s.tk bl).getD zer).length ≤ 40000) := hide (by rw [at_len HQ2.out.ok.tb bl]; decide)
  generalize (look s.tk bl).getD zer = bb at HSL HLL
  generalize V.heap.size = Yb at HSL ⊢
  clear HG2
  clear d0 d1 d2 p0 p1 p2 p3 p4 HQ HX HR HD HP HH
  obtain ⟨d0, d1, d2, _⟩ := HD2.out
  have p1 := HP2.out 1 _ rfl
  simp only [Nat.zero_add] at p1
  go_upto_region 11 with (first | (go_at_call 26; refine (rread0 n bl _).mono ?_; rintro e V3 ⟨v3, c3, l3, rfl, hs3, hl3, hb3⟩; have HS3 := hide hs3; have HL3 := hide hl3; have HSL3 := hide (HSL.out.below hb3); have HQ3 := hide (HQ2.out.below hb3); have HX3 := hide (HX2.out.call hb3); have HR3 := hide (HR2.out.below hb3); have HD3 := hide (HD2.out.below hb3); have HH3 := hide (HH2.out.below hb3); clear hs3 hl3 hb3))
  clear d0 d1 d2 p1 HQ2 HX2 HR2 HD2 HP2 HH2 HSL
  refine wp_region_held_drew (S := fun W => B3 W w.heap.size (.int .i64 n) (.slice none 0 0) (.slice none 0 0)) (by kernel_rfl) (HD3.out.below (Below.refl _ _).drew) (fun hHeld => ?_)
  have hdw : Below V3.heap.size V3 V3.drew := (Below.refl _ _).drew
  have HQ4 := hide (HQ3.out.below hdw)
  have HX4 := hide (HX3.out.call hdw)
  have HR4 := hide (HR3.out.below hdw)
  have HH4 := hide (HH3.out.below hdw)
  have HS4 := hide (HS3.out.below hdw)
  have HSL4 := hide (HSL3.out.below hdw)
  generalize V3.drew = V4 at HQ4 HX4 HR4 HH4 HS4 HSL4 hHeld ⊢
  clear hdw HQ3 HX3 HR3 HD3 HH3 HS3 HSL3
  refine wpAnyH_take (i := 0) (oi := _) (v := zd n) rfl (by kernel_rfl) (by kernel_rfl) (by kernel_rfl) (fun _ _ _ h => h) (Or.inl ⟨by rfl, by intro w hSw; have h0 := hSw.c0; have h1 := hSw.c1; have h2 := hSw.c2; go_simp⟩) hHeld ?_
  change wpAnyH _ _ _ _ _ _ _ (Act.put _ (some 72) _) _
  simp only [Act.put, List.setIfInBounds_toArray, List.set_cons_zero, List.set_cons_succ]
  refine wpAnyH_take (i := 1) (oi := _) (v := .nilIface) rfl (by kernel_rfl) (by kernel_rfl) (by kernel_rfl) (fun _ _ _ h => h) (Or.inl ⟨by rfl, by intro w hSw; go_simp⟩) hHeld ?_
  change wpAnyH _ _ _ _ _ _ _ (Act.put _ (some 73) _) _
  simp only [Act.put, List.setIfInBounds_toArray, List.set_cons_zero, List.set_cons_succ]
  refine wpAnyH_take (i := 3) (oi := _) (v := .int .i64 c3) rfl (by kernel_rfl) (by kernel_rfl) (by kernel_rfl) (fun _ _ _ h => h) (Or.inl ⟨by rfl, by intro w hSw; go_simp⟩) hHeld ?_
  change wpAnyH _ _ _ _ _ _ _ (Act.put _ (some 75) _) _
  simp only [Act.put, List.setIfInBounds_toArray, List.set_cons_zero, List.set_cons_succ]
  refine wpAnyH_ready (rs := [2]) (by kernel_rfl) (by simp) ?_
  refine AllReadyH.cons (o := _) rfl (fun K hK => ?_) AllReadyH.nil
  go_simp
  go_at_call 23
  refine (of_ev (none) _ HH4.out).mono ?_
  rintro e V6 ⟨rfl, hb6⟩
  go_wp2_with fail
  refine hK.out _ _ (hHeld.below hb6) (fun hHeld1 => ?_)
  clear hK K hHeld
  have hHeld := hHeld1
  clear hHeld1
  have HQ6 := hide (HQ4.out.below hb6)
  have HX6 := hide (HX4.out.call hb6)
  have HR6 := hide (HR4.out.below hb6)
  have HS6 := hide (HS4.out.below hb6)
  have HSL6 := hide (HSL4.out.below hb6)
  generalize ofV (none) = oc
  clear hb6 HQ4 HX4 HR4 HH4 HS4 HSL4
  obtain ⟨qb, hqb⟩ : ∃ qb, qb = (oc == c3) := ⟨_, rfl⟩
  refine wpAnyH_take (i := 4) (oi := _) (v := .bool (oc == c3)) rfl (by kernel_rfl) (by kernel_rfl) (by kernel_rfl) (fun _ _ _ h => h) (Or.inl ⟨by rfl, by intro w hSw; go_simp⟩) hHeld ?_
  change wpAnyH _ _ _ _ _ _ _ (Act.put _ (some 76) _) _
  simp only [Act.put, List.setIfInBounds_toArray, List.set_cons_zero, List.set_cons_succ]
  rw [← hqb]
  clear hqb
  have HOR2 := hide HOR.out
  refine wpAnyH_take (i := 5) (oi := _) (v := .bool qb) rfl (by kernel_rfl) (by kernel_rfl) (by kernel_rfl) (fun _ _ _ h => h) (Or.inl ⟨by rfl, by intro w hSw; go_simp⟩) hHeld ?_
  change wpAnyH _ _ _ _ _ _ _ (Act.put _ (some 77) _) _
  simp only [Act.put, List.setIfInBounds_toArray, List.set_cons_zero, List.set_cons_succ]
  cases qb
  · refine wpAnyH_take (i := 6) (oi := _) (v := undef) rfl (by kernel_rfl) (by kernel_rfl) (by kernel_rfl) (fun _ _ _ h => h) (Or.inr ⟨by rfl, rfl⟩) hHeld ?_
    change wpAnyH _ _ _ _ _ _ _ (Act.put _ (some 78) _) _
    simp only [Act.put, List.setIfInBounds_toArray, List.set_cons_zero, List.set_cons_succ]
    refine wpAnyH_take (i := 7) (oi := _) (v := undef) rfl (by kernel_rfl) (by kernel_rfl) (by kernel_rfl) (fun _ _ _ h => h) (Or.inr ⟨by rfl, rfl⟩) hHeld ?_
    change wpAnyH _ _ _ _ _ _ _ (Act.put _ (some 79) _) _
    simp only [Act.put, List.setIfInBounds_toArray, List.set_cons_zero, List.set_cons_succ]
    refine wpAnyH_take (i := 8) (oi := _) (v := undef) rfl (by kernel_rfl) (by kernel_rfl) (by kernel_rfl) (fun _ _ _ h => h) (Or.inr ⟨by rfl, rfl⟩) hHeld ?_
    change wpAnyH _ _ _ _ _ _ _ (Act.put _ (some 80) _) _
    simp only [Act.put, List.setIfInBounds_toArray, List.set_cons_zero, List.set_cons_succ]
    refine wpAnyH_take (i := 9) (oi := _) (v := .bool false) rfl (by kernel_rfl) (by kernel_rfl) (by kernel_rfl) (fun _ _ _ h => h) (Or.inl ⟨by rfl, by intro w hSw; go_simp⟩) hHeld ?_
    change wpAnyH _ _ _ _ _ _ _ (Act.put _ (some 81) _) _
    simp only [Act.put, List.setIfInBounds_toArray, List.set_cons_zero, List.set_cons_succ]
    refine wpAnyH_ready (rs := [10]) (by kernel_rfl) (by simp) ?_
    refine AllReadyH.cons (o := _) rfl (fun K hK => ?_) AllReadyH.nil
    have e0 := HR6.out.c0
    have e1 := HR6.out.c1
    have e2 := HR6.out.c2
    have f0 := HR6.out.fz 0
    have f1 := HR6.out.fz 1
    have f2 := HR6.out.fz 2
    go_simp
    clear e0 e1 e2 f0 f1 f2
    refine hK.out _ _ (((hHeld.setO hdr _).setO hdr _).setO hdr _) (fun hHeld1 => ?_)
    clear hK K hHeld
    have hHeld := hHeld1
    clear hHeld1
    refine wpAnyH_take (i := 11) (oi := _) (v := .bool false) rfl (by kernel_rfl) (by kernel_rfl) (by kernel_rfl) (fun _ _ _ h => h) (Or.inl ⟨by rfl, by intro w hSw; go_simp⟩) hHeld ?_
    change wpAnyH _ _ _ _ _ _ _ (Act.put _ (some 7) _) _
    simp only [Act.put, List.setIfInBounds_toArray, List.set_cons_zero, List.set_cons_succ]
    refine wpAnyH_done (by kernel_rfl) ?_ _
    clear hHeld
    go_wp2
    exact bodyPost_ret (v := .tuple #[.agg #[_, _, _], .bool false]) (res_two Tryd.results8 _ _ R [_, _, _] _ _ rfl rfl (HR6.out.all (.int .i64 n) (.slice none 0 0) (.slice none 0 0)).rg Tryd.underlying35 rfl infoDd) rfl ⟨_, _, rfl, HQ6.out.set3 HOR2.out _ _ _, HX6.out.set3 hwr _ _ _⟩
  · refine wpAnyH_take (i := 6) (oi := _) (v := .slice (some ⟨Yb, 0, none⟩) 64 64) rfl (by kernel_rfl) (by kernel_rfl) (by kernel_rfl) (fun _ _ _ h => h) (Or.inl ⟨by rfl, by intro w hSw; go_simp⟩) hHeld ?_
    change wpAnyH _ _ _ _ _ _ _ (Act.put _ (some 78) _) _
    simp only [Act.put, List.setIfInBounds_toArray, List.set_cons_zero, List.set_cons_succ]
    refine wpAnyH_take (i := 7) (oi := _) (v := v3) rfl (by kernel_rfl) (by kernel_rfl) (by kernel_rfl) (fun _ _ _ h => h) (Or.inl ⟨by rfl, by intro w hSw; go_simp⟩) hHeld ?_
    change wpAnyH _ _ _ _ _ _ _ (Act.put _ (some 79) _) _
    simp only [Act.put, List.setIfInBounds_toArray, List.set_cons_zero, List.set_cons_succ]
    refine wpAnyH_ready (rs := [8]) (by kernel_rfl) (by simp) ?_
    refine AllReadyH.cons (o := _) rfl (fun K hK => ?_) AllReadyH.nil
    go_simp
    go_at_call 27
    refine (same_any _ _ bb l3 _ HSL6.out HS6.out HLL.out).mono ?_
    rintro e V7 ⟨rfl, hb7⟩
    go_wp2_with fail
    refine hK.out _ _ (hHeld.below hb7) (fun hHeld1 => ?_)
    clear hK K hHeld
    have hHeld := hHeld1
    clear hHeld1
    have HQ7 := hide (HQ6.out.below hb7)
    have HX7 := hide (HX6.out.call hb7)
    have HR7 := hide (HR6.out.below hb7)
    generalize decide (bb = l3) = sb
    clear hb7
    refine wpAnyH_take (i := 9) (oi := _) (v := .bool sb) rfl (by kernel_rfl) (by kernel_rfl) (by kernel_rfl) (fun _ _ _ h => h) (Or.inl ⟨by rfl, by intro w hSw; go_simp⟩) hHeld ?_
    change wpAnyH _ _ _ _ _ _ _ (Act.put _ (some 81) _) _
    simp only [Act.put, List.setIfInBounds_toArray, List.set_cons_zero, List.set_cons_succ]
    refine wpAnyH_ready (rs := [10]) (by kernel_rfl) (by simp) ?_
    refine AllReadyH.cons (o := _) rfl (fun K hK => ?_) AllReadyH.nil
    have e0 := HR7.out.c0
    have e1 := HR7.out.c1
    have e2 := HR7.out.c2
    have f0 := HR7.out.fz 0
    have f1 := HR7.out.fz 1
    have f2 := HR7.out.fz 2
    go_simp
    clear e0 e1 e2 f0 f1 f2
    refine hK.out _ _ (((hHeld.setO hdr _).setO hdr _).setO hdr _) (fun hHeld1 => ?_)
    clear hK K hHeld
    have hHeld := hHeld1
    clear hHeld1
    refine wpAnyH_take (i := 11) (oi := _) (v := .bool sb) rfl (by kernel_rfl) (by kernel_rfl) (by kernel_rfl) (fun _ _ _ h => h) (Or.inl ⟨by rfl, by intro w hSw; go_simp⟩) hHeld ?_
    change wpAnyH _ _ _ _ _ _ _ (Act.put _ (some 7) _) _
    simp only [Act.put, List.setIfInBounds_toArray, List.set_cons_zero, List.set_cons_succ]
    refine wpAnyH_done (by kernel_rfl) ?_ _
    clear hHeld
    go_wp2
    exact bodyPost_ret (v := .tuple #[.agg #[_, _, _], .bool sb]) (res_two Tryd.results8 _ _ R [_, _, _] _ _ rfl rfl (HR7.out.all (.int .i64 n) (.slice none 0 0) (.slice none 0 0)).rg Tryd.underlying35 rfl infoDd) rfl ⟨_, _, rfl, HQ7.out.set3 HOR2.out _ _ _, HX7.out.set3 hwr _ _ _⟩
set_option maxRecDepth 100000 in
set_option maxHeartbeats 8000000 in
theorem do_readno (n kd bl cut : Int) (by_ ks : List Int) (ab ak : Option Addr) (cb ck : Nat) (w : World) (hq : Dq w d bS bT u s) (hh : Hnd w) (ho : ¬ Own d bS bT u 0) (hb : Sl bc w (.slice ab by_.length cb) by_) (hby : Byt by_) (hks : Sl ic w (.slice ak ks.length ck) ks) (hk : kd = 2) (hnb : ¬ Num bl) :
    Calls Tryd.prog 8 #[.pointer (some ⟨d, 0, none⟩), zd n, .agg #[.int .i64 kd, .int .i64 bl, .slice ab by_.length cb, .slice ak ks.length ck, .int .i64 cut]] w fun e w' => ∃ v u', e = .returned v ∧ Dq w' d bS bT u' s ∧ Dx d bS bT u w w' u' := by
  have HQ0 := hide hq
  have HH0 := hide hh
  have HO := hide ho
  have HBY0 := hide hb
  have HBT := hide hby
  have HKS0 := hide hks
  have HK := hide hk
  clear hq hh ho hb hby hks hk
  go_enter Tryd.func8, Tryd.ntmps8
  have HNB := hide hnb
  clear hnb
  go_upto_region 1 with (fail)
  have hb1 := al_b0 w (.cells #[.int .i64 n, .slice none 0 0, .slice none 0 0] 35)
  have hb2 := al_b0 (w.alloc (.cells #[.int .i64 n, .slice none 0 0, .slice none 0 0] 35)) (.cells #[.int .i64 kd, .int .i64 bl, .slice ab by_.length cb, .slice ak ks.length ck, .int .i64 cut] 41)
  have hb3 := al_b0 ((w.alloc (.cells #[.int .i64 n, .slice none 0 0, .slice none 0 0] 35)).alloc (.cells #[.int .i64 kd, .int .i64 bl, .slice ab by_.length cb, .slice ak ks.length ck, .int .i64 cut] 41)) (.cells #[.int .i64 0, .slice none 0 0, .slice none 0 0] 35)
  have hD := ((b3_new w (.int .i64 n) (.slice none 0 0) (.slice none 0 0) 35).below hb2).below hb3
  have hP := range_belW (range_newW (w.alloc (.cells #[.int .i64 n, .slice none 0 0, .slice none 0 0] 35)) [.int .i64 kd, .int .i64 bl, .slice ab by_.length cb, .slice ak ks.length ck, .int .i64 cut] 41) hb3
  have hR := b3_new ((w.alloc (.cells #[.int .i64 n, .slice none 0 0, .slice none 0 0] 35)).alloc (.cells #[.int .i64 kd, .int .i64 bl, .slice ab by_.length cb, .slice ak ks.length ck, .int .i64 cut] 41)) (.int .i64 0) (.slice none 0 0) (.slice none 0 0) 35
  have hbb := bt (bt hb1 hb2) hb3
  have s1 : (w.alloc (.cells #[.int .i64 n, .slice none 0 0, .slice none 0 0] 35)).heap.size = w.heap.size + 1 := by simp
  have s2 : ((w.alloc (.cells #[.int .i64 n, .slice none 0 0, .slice none 0 0] 35)).alloc (.cells #[.int .i64 kd, .int .i64 bl, .slice ab by_.length cb, .slice ak ks.length ck, .int .i64 cut] 41)).heap.size = w.heap.size + 1 + 1 := by simp
  rw [s1] at hP
  rw [s2] at hR
  generalize hV : ((w.alloc (.cells #[.int .i64 n, .slice none 0 0, .slice none 0 0] 35)).alloc (.cells #[.int .i64 kd, .int .i64 bl, .slice ab by_.length cb, .slice ak ks.length ck, .int .i64 cut] 41)).alloc (.cells #[.int .i64 0, .slice none 0 0, .slice none 0 0] 35) = V at hD hP hR hbb ⊢
  have HD := hide hD
  have HP := hide hP
  have HR := hide hR
  have HQ := hide (HQ0.out.below hbb)
  have HX : Hid (Dx d bS bT u w V u) := hide (Dx.of hbb)
  have HH := hide (HH0.out.below hbb)
  have HBY := hide (HBY0.out.below hbb)
  have HKS := hide (HKS0.out.below hbb)
  have hOD : ¬ Own d bS bT u w.heap.size := fun q => by have := HQ0.out.dk.lt q; omega
  have hOP : ¬ Own d bS bT u (w.heap.size + 1) := fun q => by have := HQ0.out.dk.lt q; omega
  have hOR : ¬ Own d bS bT u (w.heap.size + 1 + 1) := fun q => by have := HQ0.out.dk.lt q; omega
  have HOD := hide hOD
  have HOP := hide hOP
  have HOR := hide hOR
  have hwr : w.heap.size ≤ w.heap.size + 1 + 1 := by omega
  have hdr : w.heap.size ≠ w.heap.size + 1 + 1 := by omega
  have hpr : w.heap.size + 1 ≠ w.heap.size + 1 + 1 := by omega
  generalize w.heap.size + 1 + 1 = R at HR HOR hwr hdr hpr ⊢
  generalize w.heap.size + 1 = Pb at HP HOP hpr ⊢
  obtain ⟨d0, d1, d2, _⟩ := hD
  have p0 := HP.out 0 _ rfl
  have p1 := HP.out 1 _ rfl
  have p2 := HP.out 2 _ rfl
  have p3 := HP.out 3 _ rfl
  have p4 := HP.out 4 _ rfl
  simp only [Nat.zero_add] at p0 p1 p2 p3 p4
  clear hV hb1 hb2 hb3 hP hR hbb s1 s2 HQ0 HH0 HBY0 HKS0 hOD hOP hOR
  have hk := HK.out
  go_upto_region 10 with (first | (go_at_call 18; refine (bread_bad bl _ HQ.out.dk HNB.out).mono ?_; rintro e V2 ⟨rfl, hw2⟩; have HSL : Hid (Sl bc V2 (.slice none 0 0) []) := hide (Sl.nil _ _ _ _); have HQ2 : Hid (Dq V2 d bS bT u s) := hide (by rw [hw2]; exact HQ.out); have HX2 : Hid (Dx d bS bT u w V2 u) := hide (by rw [hw2]; exact HX.out); have HR2 := hide (by rw [← hw2] at HR; exact HR.out); have HD2 := hide (by rw [← hw2] at HD; exact HD.out); have HP2 := hide (by rw [← hw2] at HP; exact HP.out); have HH2 := hide (by rw [← hw2] at HH; exact HH.out); clear hw2))
  have HLL : Hid (([] : List Int).length ≤ 40000) := hide (by decide)
  generalize ([] : List Int) = bb at HSL HLL
  clear d0 d1 d2 p0 p1 p2 p3 p4 HQ HX HR HD HP HH
  obtain ⟨d0, d1, d2, _⟩ := HD2.out
  have p1 := HP2.out 1 _ rfl
  simp only [Nat.zero_add] at p1
  go_upto_region 11 with (first | (go_at_call 26; refine (rread0 n bl _).mono ?_; rintro e V3 ⟨v3, c3, l3, rfl, hs3, hl3, hb3⟩; have HS3 := hide hs3; have HL3 := hide hl3; have HSL3 := hide (HSL.out.below hb3); have HQ3 := hide (HQ2.out.below hb3); have HX3 := hide (HX2.out.call hb3); have HR3 := hide (HR2.out.below hb3); have HD3 := hide (HD2.out.below hb3); have HH3 := hide (HH2.out.below hb3); clear hs3 hl3 hb3))
  clear d0 d1 d2 p1 HQ2 HX2 HR2 HD2 HP2 HH2 HSL
  refine wp_region_held_drew (S := fun W => B3 W w.heap.size (.int .i64 n) (.slice none 0 0) (.slice none 0 0)) (by kernel_rfl) (HD3.out.below (Below.refl _ _).drew) (fun hHeld => ?_)
  have hdw : Below V3.heap.size V3 V3.drew := (Below.refl _ _).drew
  have HQ4 := hide (HQ3.out.below hdw)
  have HX4 := hide (HX3.out.call hdw)
  have HR4 := hide (HR3.out.below hdw)
  have HH4 := hide (HH3.out.below hdw)
  have HS4 := hide (HS3.out.below hdw)
  have HSL4 := hide (HSL3.out.below hdw)
  generalize V3.drew = V4 at HQ4 HX4 HR4 HH4 HS4 HSL4 hHeld ⊢
  clear hdw HQ3 HX3 HR3 HD3 HH3 HS3 HSL3
  refine wpAnyH_take (i := 0) (oi := _) (v := zd n) rfl (by kernel_rfl) (by kernel_rfl) (by kernel_rfl) (fun _ _ _ h => h) (Or.inl ⟨by rfl, by intro w hSw; have h0 := hSw.c0; have h1 := hSw.c1; have h2 := hSw.c2; go_simp⟩) hHeld ?_
  change wpAnyH _ _ _ _ _ _ _ (Act.put _ (some 72) _) _
  simp only [Act.put, List.setIfInBounds_toArray, List.set_cons_zero, List.set_cons_succ]
  refine wpAnyH_take (i := 1) (oi := _) (v := bft opBlock bl 2) rfl (by kernel_rfl) (by kernel_rfl) (by kernel_rfl) (fun _ _ _ h => h) (Or.inl ⟨by rfl, by intro w hSw; go_simp⟩) hHeld ?_
  change wpAnyH _ _ _ _ _ _ _ (Act.put _ (some 73) _) _
  simp only [Act.put, List.setIfInBounds_toArray, List.set_cons_zero, List.set_cons_succ]
  refine wpAnyH_take (i := 3) (oi := _) (v := .int .i64 c3) rfl (by kernel_rfl) (by kernel_rfl) (by kernel_rfl) (fun _ _ _ h => h) (Or.inl ⟨by rfl, by intro w hSw; go_simp⟩) hHeld ?_
  change wpAnyH _ _ _ _ _ _ _ (Act.put _ (some 75) _) _
  simp only [Act.put, List.setIfInBounds_toArray, List.set_cons_zero, List.set_cons_succ]
  refine wpAnyH_ready (rs := [2]) (by kernel_rfl) (by simp) ?_
  refine AllReadyH.cons (o := _) rfl (fun K hK => ?_) AllReadyH.nil
  go_simp
  go_at_call 23
  refine (of_ev (some ([(opBlock, bl)], 2)) _ HH4.out).mono ?_
  rintro e V6 ⟨rfl, hb6⟩
  go_wp2_with fail
  refine hK.out _ _ (hHeld.below hb6) (fun hHeld1 => ?_)
  clear hK K hHeld
  have hHeld := hHeld1
  clear hHeld1
  have HQ6 := hide (HQ4.out.below hb6)
  have HX6 := hide (HX4.out.call hb6)
  have HR6 := hide (HR4.out.below hb6)
  have HS6 := hide (HS4.out.below hb6)
  have HSL6 := hide (HSL4.out.below hb6)
  generalize ofV (some ([(opBlock, bl)], 2)) = oc
  clear hb6 HQ4 HX4 HR4 HH4 HS4 HSL4
  obtain ⟨qb, hqb⟩ : ∃ qb, qb = (oc == c3) := ⟨_, rfl⟩
  refine wpAnyH_take (i := 4) (oi := _) (v := .bool (oc == c3)) rfl (by kernel_rfl) (by kernel_rfl) (by kernel_rfl) (fun _ _ _ h => h) (Or.inl ⟨by rfl, by intro w hSw; go_simp⟩) hHeld ?_
  change wpAnyH _ _ _ _ _ _ _ (Act.put _ (some 76) _) _
  simp only [Act.put, List.setIfInBounds_toArray, List.set_cons_zero, List.set_cons_succ]
  rw [← hqb]
  clear hqb
  have HOR2 := hide HOR.out
  refine wpAnyH_take (i := 5) (oi := _) (v := .bool qb) rfl (by kernel_rfl) (by kernel_rfl) (by kernel_rfl) (fun _ _ _ h => h) (Or.inl ⟨by rfl, by intro w hSw; go_simp⟩) hHeld ?_
  change wpAnyH _ _ _ _ _ _ _ (Act.put _ (some 77) _) _
  simp only [Act.put, List.setIfInBounds_toArray, List.set_cons_zero, List.set_cons_succ]
  cases qb
  · refine wpAnyH_take (i := 6) (oi := _) (v := undef) rfl (by kernel_rfl) (by kernel_rfl) (by kernel_rfl) (fun _ _ _ h => h) (Or.inr ⟨by rfl, rfl⟩) hHeld ?_
    change wpAnyH _ _ _ _ _ _ _ (Act.put _ (some 78) _) _
    simp only [Act.put, List.setIfInBounds_toArray, List.set_cons_zero, List.set_cons_succ]
    refine wpAnyH_take (i := 7) (oi := _) (v := undef) rfl (by kernel_rfl) (by kernel_rfl) (by kernel_rfl) (fun _ _ _ h => h) (Or.inr ⟨by rfl, rfl⟩) hHeld ?_
    change wpAnyH _ _ _ _ _ _ _ (Act.put _ (some 79) _) _
    simp only [Act.put, List.setIfInBounds_toArray, List.set_cons_zero, List.set_cons_succ]
    refine wpAnyH_take (i := 8) (oi := _) (v := undef) rfl (by kernel_rfl) (by kernel_rfl) (by kernel_rfl) (fun _ _ _ h => h) (Or.inr ⟨by rfl, rfl⟩) hHeld ?_
    change wpAnyH _ _ _ _ _ _ _ (Act.put _ (some 80) _) _
    simp only [Act.put, List.setIfInBounds_toArray, List.set_cons_zero, List.set_cons_succ]
    refine wpAnyH_take (i := 9) (oi := _) (v := .bool false) rfl (by kernel_rfl) (by kernel_rfl) (by kernel_rfl) (fun _ _ _ h => h) (Or.inl ⟨by rfl, by intro w hSw; go_simp⟩) hHeld ?_
    change wpAnyH _ _ _ _ _ _ _ (Act.put _ (some 81) _) _
    simp only [Act.put, List.setIfInBounds_toArray, List.set_cons_zero, List.set_cons_succ]
    refine wpAnyH_ready (rs := [10]) (by kernel_rfl) (by simp) ?_
    refine AllReadyH.cons (o := _) rfl (fun K hK => ?_) AllReadyH.nil
    have e0 := HR6.out.c0
    have e1 := HR6.out.c1
    have e2 := HR6.out.c2
    have f0 := HR6.out.fz 0
    have f1 := HR6.out.fz 1
    have f2 := HR6.out.fz 2
    go_simp
    clear e0 e1 e2 f0 f1 f2
    refine hK.out _ _ (((hHeld.setO hdr _).setO hdr _).setO hdr _) (fun hHeld1 => ?_)
    clear hK K hHeld
    have hHeld := hHeld1
    clear hHeld1
    refine wpAnyH_take (i := 11) (oi := _) (v := .bool false) rfl (by kernel_rfl) (by kernel_rfl) (by kernel_rfl) (fun _ _ _ h => h) (Or.inl ⟨by rfl, by intro w hSw; go_simp⟩) hHeld ?_
    change wpAnyH _ _ _ _ _ _ _ (Act.put _ (some 7) _) _
    simp only [Act.put, List.setIfInBounds_toArray, List.set_cons_zero, List.set_cons_succ]
    refine wpAnyH_done (by kernel_rfl) ?_ _
    clear hHeld
    go_wp2
    exact bodyPost_ret (v := .tuple #[.agg #[_, _, _], .bool false]) (res_two Tryd.results8 _ _ R [_, _, _] _ _ rfl rfl (HR6.out.all (.int .i64 n) (.slice none 0 0) (.slice none 0 0)).rg Tryd.underlying35 rfl infoDd) rfl ⟨_, _, rfl, HQ6.out.set3 HOR2.out _ _ _, HX6.out.set3 hwr _ _ _⟩
  · refine wpAnyH_take (i := 6) (oi := _) (v := .slice none 0 0) rfl (by kernel_rfl) (by kernel_rfl) (by kernel_rfl) (fun _ _ _ h => h) (Or.inl ⟨by rfl, by intro w hSw; go_simp⟩) hHeld ?_
    change wpAnyH _ _ _ _ _ _ _ (Act.put _ (some 78) _) _
    simp only [Act.put, List.setIfInBounds_toArray, List.set_cons_zero, List.set_cons_succ]
    refine wpAnyH_take (i := 7) (oi := _) (v := v3) rfl (by kernel_rfl) (by kernel_rfl) (by kernel_rfl) (fun _ _ _ h => h) (Or.inl ⟨by rfl, by intro w hSw; go_simp⟩) hHeld ?_
    change wpAnyH _ _ _ _ _ _ _ (Act.put _ (some 79) _) _
    simp only [Act.put, List.setIfInBounds_toArray, List.set_cons_zero, List.set_cons_succ]
    refine wpAnyH_ready (rs := [8]) (by kernel_rfl) (by simp) ?_
    refine AllReadyH.cons (o := _) rfl (fun K hK => ?_) AllReadyH.nil
    go_simp
    go_at_call 27
    refine (same_any _ _ bb l3 _ HSL6.out HS6.out HLL.out).mono ?_
    rintro e V7 ⟨rfl, hb7⟩
    go_wp2_with fail
    refine hK.out _ _ (hHeld.below hb7) (fun hHeld1 => ?_)
    clear hK K hHeld
    have hHeld := hHeld1
    clear hHeld1
    have HQ7 := hide (HQ6.out.below hb7)
    have HX7 := hide (HX6.out.call hb7)
    have HR7 := hide (HR6.out.below hb7)
    generalize decide (bb = l3) = sb
    clear hb7
    refine wpAnyH_take (i := 9) (oi := _) (v := .bool sb) rfl (by kernel_rfl) (by kernel_rfl) (by kernel_rfl) (fun _ _ _ h => h) (Or.inl ⟨by rfl, by intro w hSw; go_simp⟩) hHeld ?_
    change wpAnyH _ _ _ _ _ _ _ (Act.put _ (some 81) _) _
    simp only [Act.put, List.setIfInBounds_toArray, List.set_cons_zero, List.set_cons_succ]
    refine wpAnyH_ready (rs := [10]) (by kernel_rfl) (by simp) ?_
    refine AllReadyH.cons (o := _) rfl (fun K hK => ?_) AllReadyH.nil
    have e0 := HR7.out.c0
    have e1 := HR7.out.c1
    have e2 := HR7.out.c2
    have f0 := HR7.out.fz 0
    have f1 := HR7.out.fz 1
    have f2 := HR7.out.fz 2
    go_simp
    clear e0 e1 e2 f0 f1 f2
    refine hK.out _ _ (((hHeld.setO hdr _).setO hdr _).setO hdr _) (fun hHeld1 => ?_)
    clear hK K hHeld
    have hHeld := hHeld1
    clear hHeld1
    refine wpAnyH_take (i := 11) (oi := _) (v := .bool sb) rfl (by kernel_rfl) (by kernel_rfl) (by kernel_rfl) (fun _ _ _ h => h) (Or.inl ⟨by rfl, by intro w hSw; go_simp⟩) hHeld ?_
    change wpAnyH _ _ _ _ _ _ _ (Act.put _ (some 7) _) _
    simp only [Act.put, List.setIfInBounds_toArray, List.set_cons_zero, List.set_cons_succ]
    refine wpAnyH_done (by kernel_rfl) ?_ _
    clear hHeld
    go_wp2
    exact bodyPost_ret (v := .tuple #[.agg #[_, _, _], .bool sb]) (res_two Tryd.results8 _ _ R [_, _, _] _ _ rfl rfl (HR7.out.all (.int .i64 n) (.slice none 0 0) (.slice none 0 0)).rg Tryd.underlying35 rfl infoDd) rfl ⟨_, _, rfl, HQ7.out.set3 HOR2.out _ _ _, HX7.out.set3 hwr _ _ _⟩
/-- An act on the program's store, whatever it is. -/
theorem do0 (n : Int) (p : Ap) (w : World) (hq : Dq w d bS bT u s) (hn : s.wt < 30000) (hh : Hnd w) (ho : ¬ Own d bS bT u 0) (hp : AcP w p) :
    Calls Tryd.prog 8 #[.pointer (some ⟨d, 0, none⟩), zd n, .agg (acl p).toArray] w fun e w' => ∃ v u', e = .returned v ∧ Dq w' d bS bT u' (doS s p.1) ∧ Dx d bS bT u w w' u' := by
  obtain ⟨⟨kd, bl, by_, ks, cut⟩, vb, vk⟩ := p
  obtain ⟨hb, hby, hks⟩ := hp
  simp only at hb hby hks
  obtain ⟨ab, cb, rfl⟩ := hb.form
  obtain ⟨ak, ck, rfl⟩ := hks.form
  by_cases h0 : kd = 0
  · rw [show doS s ⟨kd, bl, by_, ks, cut⟩ = wrS s bl by_ by simp [doS, h0]]
    exact do_write n kd bl cut by_ ks ab ak cb ck w hq hn hh ho hb hby hks h0
  by_cases h1 : kd = 1
  · rw [show doS s ⟨kd, bl, by_, ks, cut⟩ = frS s bl by simp [doS, h1]]
    exact do_free n kd bl cut by_ ks ab ak cb ck w hq hn hh ho hb hby hks h1
  by_cases h2 : kd = 2
  · rw [show doS s ⟨kd, bl, by_, ks, cut⟩ = s by simp [doS, h2]]
    by_cases hnb : Num bl
    · exact do_readok n kd bl cut by_ ks ab ak cb ck w hq hh ho hb hby hks h2 hnb
    · exact do_readno n kd bl cut by_ ks ab ak cb ck w hq hh ho hb hby hks h2 hnb
  by_cases h3 : kd = 3
  · rw [show doS s ⟨kd, bl, by_, ks, cut⟩ = syS s by simp [doS, h3]]
    exact do_sync n kd bl cut by_ ks ab ak cb ck w hq hn hh ho hb hby hks h3
  by_cases h4 : kd = 4
  · rw [show doS s ⟨kd, bl, by_, ks, cut⟩ = crS s ks cut by simp [doS, h4]]
    exact do_crash n kd bl cut by_ ks ab ak cb ck w hq hn hh ho hb hby hks h4
  by_cases h5 : kd = 5
  · rw [show doS s ⟨kd, bl, by_, ks, cut⟩ = ⟨s.room, [], []⟩ by simp [doS, h5]]
    exact do_wipe n kd bl cut by_ ks ab ak cb ck w hq hh ho hb hby hks h5
  · rw [show doS s ⟨kd, bl, by_, ks, cut⟩ = s by simp [doS, h0, h1, h2, h3, h4, h5]]
    exact do_else n kd bl cut by_ ks ab ak cb ck w hq hh ho hb hby hks ⟨h0, h1, h2, h3, h4, h5⟩
end
end Go.Proofs.YtpmpmdlmcpakiaaDoor
