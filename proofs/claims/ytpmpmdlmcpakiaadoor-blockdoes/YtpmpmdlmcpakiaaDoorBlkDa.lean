/-
  AN ACT, BOTH WAYS (castellanlaw08.Do), over a store and the document's store in one state: both answer the same, and are in one state again. Condition: fewer than thirty thousand blocks and writes.
-/
import Derived.Test.YtpmpmdlmcpakiaaDoorBlkDz
import Derived.Test.YtpmpmdlmcpakiaaDoorDocPu
import Derived.Test.YtpmpmdlmcpakiaaDoorDocCr
import Derived.Test.YtpmpmdlmcpakiaaDoorDocRd
import Derived.Test.YtpmpmdlmcpakiaaDoorDocCe
namespace Go.Proofs.YtpmpmdlmcpakiaaDoor
open Go.RowKit

/-- The blocks of memory that are not the store's. -/
def No (d bS bT : Nat) (u : Value) (Bd : Nat → Prop) : Nat → Prop := fun k => ¬ Own d bS bT u k ∧ ¬ Bd k
def Np (d bS bT : Nat) (u : Value) (Bd : Nat → Prop) (R : Nat) : Nat → Prop := fun k => (¬ Own d bS bT u k ∧ ¬ Bd k) ∧ k ≠ R
theorem Dd.form {W : World} {P : Nat → Prop} {v : Value} {s : Dst} (h : Dd W P v s) : ∃ a1 n1 k1 a2 n2 k2, v = .agg #[.int .i64 s.room, .slice a1 n1 k1, .slice a2 n2 k2] := by
  obtain ⟨vc, vl, qs, ls, rfl, hc, hl, _, _⟩ := h
  obtain ⟨a1, k1, rfl⟩ := hc.fm
  obtain ⟨a2, k2, rfl⟩ := hl.fm
  exact ⟨_, _, _, _, _, _, rfl⟩
section
variable {d bS bT : Nat} {u u' : Value} {s s0 : Dst} {w V W W' : World} {v : Value} {R : Nat} {Bd : Nat → Prop}
theorem Dd.np0 (h : Dd w (No d bS bT u Bd) v s) (hb : Below w.heap.size w V) (hR : w.heap.size ≤ R) : Dd V (Np d bS bT u Bd R) v s := h.keep (fun _ p hk => ⟨p, by omega⟩) (fun k _ hk => hb.block k hk)
theorem Dd.npD (h : Dd W (fun k => Np d bS bT u Bd R k ∨ V.heap.size ≤ k) v s) (hq : Dq V d bS bT u s0) (hR : R < V.heap.size) (hB : ∀ k, Bd k → k < V.heap.size) : Dd W (Np d bS bT u Bd R) v s := h.keep (fun _ p _ => p.elim id (fun q => ⟨⟨fun e => by have := hq.dk.lt e; omega, fun e => by have := hB _ e; omega⟩, by omega⟩)) (fun _ _ _ => rfl)
theorem Dd.npX (h : Dd W (Np d bS bT u Bd R) v s) (hx : Dx d bS bT u W W' u') : Dd W' (Np d bS bT u' Bd R) v s := h.keep (fun _ p hk => ⟨⟨hx.own hk p.1.1, p.1.2⟩, p.2⟩) (fun k p hk => hx.ba.block k hk p.1.1)
theorem Dd.npE (h : Dd W (Np d bS bT u Bd R) v s) (x y z : Value) : Dd (((W.setCell ⟨R, 0, none⟩ x).setCell ⟨R, 1, none⟩ y).setCell ⟨R, 2, none⟩ z) (No d bS bT u Bd) v s := h.keep (fun _ p _ => p.1) (fun _ p _ => set3_heap p.2 _ _ _)
end
theorem ofV_wr (s : Dst) (a : Int) (b : List Int) : ofV (wrE s a b) = wrC s a b := by
  unfold ofV wrC
  cases wrE s a b <;> rfl
def frC (a : Int) : Int := if 0 ≤ a ∧ a ≤ 1073741824 then 0 else 2
theorem ofV_fr (a : Int) : ofV (frE a) = frC a := by
  unfold frE frC
  split <;> rfl
theorem rfreeA_any {P : Nat → Prop} (v : Value) (a : Int) (s : Dst) (w : World) (h : Dd w P v s) (hn : s.lo.length < 90000) : Calls Tryd.prog 24 #[v, .int .i64 a] w fun e w' => ∃ v', e = .returned (.tuple #[v', .int .i64 (frC a)]) ∧ Dd w' (fun k => P k ∨ w.heap.size ≤ k) v' (frS s a) ∧ Below w.heap.size w w' := by
  by_cases ha : 0 ≤ a ∧ a ≤ 1073741824
  · rw [show frC a = 0 from if_pos ha, show frS s a = ⟨s.room, s.cs, s.lo ++ [⟨a, true, zer⟩]⟩ by unfold frS; rw [if_pos ha]; rfl]
    exact rfree_ok v a s w h ha hn
  · rw [show frC a = 2 from if_neg ha, show frS s a = s by unfold frS; rw [if_neg ha]]
    exact rfree_bad v a s w h ha
set_option maxRecDepth 100000 in
set_option maxHeartbeats 4000000 in
theorem rreadA_bad {P : Nat → Prop} (v : Value) (a : Int) (s : Dst) (w : World) (h : Dd w P v s) (ha : ¬ Num a) : Calls Tryd.prog 26 #[v, .int .i64 a] w fun e w' => e = .returned (.tuple #[.slice none 0 0, .int .i64 2]) ∧ Below w.heap.size w w' := by
  obtain ⟨a1, n1, k1, a2, n2, k2, rfl⟩ := h.form
  have HA := hide ha
  clear ha h
  go_enter Tryd.func26, Tryd.ntmps26
  go_wp2_with (first | (go_at_call 41; refine (right_bad _ _ HA.out).mono ?_; rintro e w9 ⟨rfl, hw9⟩; rw [hw9]; clear hw9 w9))
  go_ret2
  exact ⟨rfl, al_d w _⟩
theorem wt_80 {s : Dst} (h : s.wt < 30000) : s.cs.length + s.lo.length < 80000 := by unfold Dst.wt at h; omega
section
variable {d bS bT : Nat} {u : Value} {s : Dst} {Bd : Nat → Prop}
set_option maxRecDepth 100000 in
set_option maxHeartbeats 8000000 in
theorem da_else (kd bl cut : Int) (by_ ks : List Int) (ab ak a3 a4 : Option Addr) (cb ck n3 k3 n4 k4 : Nat) (w : World) (hq : Dq w d bS bT u s) (hh : Hnd w) (ho : ¬ Own d bS bT u 0) (hb : Sl bc w (.slice ab by_.length cb) by_) (hby : Byt by_) (hks : Sl ic w (.slice ak ks.length ck) ks) (hdd : Dd w (No d bS bT u Bd) (.agg #[.int .i64 s.room, .slice a3 n3 k3, .slice a4 n4 k4]) s) (hbd : ∀ k, Bd k → k < w.heap.size) (hk : kd ≠ 0 ∧ kd ≠ 1 ∧ kd ≠ 2 ∧ kd ≠ 3 ∧ kd ≠ 4 ∧ kd ≠ 5) :
    Calls Tryd.prog 8 #[.pointer (some ⟨d, 0, none⟩), (.agg #[.int .i64 s.room, .slice a3 n3 k3, .slice a4 n4 k4]), .agg #[.int .i64 kd, .int .i64 bl, .slice ab by_.length cb, .slice ak ks.length ck, .int .i64 cut]] w fun e w' => ∃ v' u', e = .returned (.tuple #[v', .bool true]) ∧ Dq w' d bS bT u' s ∧ Dd w' (No d bS bT u' Bd) v' s ∧ Dx d bS bT u w w' u' := by
  have HDD0 := hide hdd
  have HBD := hide hbd
  have HQ0 := hide hq
  have HH0 := hide hh
  have HO := hide ho
  have HBY0 := hide hb
  have HBT := hide hby
  have HKS0 := hide hks
  have HK := hide hk
  clear hq hh ho hb hby hks hk hdd hbd
  go_enter Tryd.func8, Tryd.ntmps8
  go_upto_region 1 with (fail)
  have hb1 := al_b0 w (.cells #[.int .i64 s.room, .slice a3 n3 k3, .slice a4 n4 k4] 35)
  have hb2 := al_b0 (w.alloc (.cells #[.int .i64 s.room, .slice a3 n3 k3, .slice a4 n4 k4] 35)) (.cells #[.int .i64 kd, .int .i64 bl, .slice ab by_.length cb, .slice ak ks.length ck, .int .i64 cut] 41)
  have hb3 := al_b0 ((w.alloc (.cells #[.int .i64 s.room, .slice a3 n3 k3, .slice a4 n4 k4] 35)).alloc (.cells #[.int .i64 kd, .int .i64 bl, .slice ab by_.length cb, .slice ak ks.length ck, .int .i64 cut] 41)) (.cells #[.int .i64 0, .slice none 0 0, .slice none 0 0] 35)
  have hD := ((b3_new w (.int .i64 s.room) (.slice a3 n3 k3) (.slice a4 n4 k4) 35).below hb2).below hb3
  have hP := range_belW (range_newW (w.alloc (.cells #[.int .i64 s.room, .slice a3 n3 k3, .slice a4 n4 k4] 35)) [.int .i64 kd, .int .i64 bl, .slice ab by_.length cb, .slice ak ks.length ck, .int .i64 cut] 41) hb3
  have hR := b3_new ((w.alloc (.cells #[.int .i64 s.room, .slice a3 n3 k3, .slice a4 n4 k4] 35)).alloc (.cells #[.int .i64 kd, .int .i64 bl, .slice ab by_.length cb, .slice ak ks.length ck, .int .i64 cut] 41)) (.int .i64 0) (.slice none 0 0) (.slice none 0 0) 35
  have hbb := bt (bt hb1 hb2) hb3
  have s1 : (w.alloc (.cells #[.int .i64 s.room, .slice a3 n3 k3, .slice a4 n4 k4] 35)).heap.size = w.heap.size + 1 := by simp
  have s2 : ((w.alloc (.cells #[.int .i64 s.room, .slice a3 n3 k3, .slice a4 n4 k4] 35)).alloc (.cells #[.int .i64 kd, .int .i64 bl, .slice ab by_.length cb, .slice ak ks.length ck, .int .i64 cut] 41)).heap.size = w.heap.size + 1 + 1 := by simp
  rw [s1] at hP
  rw [s2] at hR
  generalize hV : ((w.alloc (.cells #[.int .i64 s.room, .slice a3 n3 k3, .slice a4 n4 k4] 35)).alloc (.cells #[.int .i64 kd, .int .i64 bl, .slice ab by_.length cb, .slice ak ks.length ck, .int .i64 cut] 41)).alloc (.cells #[.int .i64 0, .slice none 0 0, .slice none 0 0] 35) = V at hD hP hR hbb ⊢
  have HD := hide hD
  have hVB := hide hbb
  have HP := hide hP
  have HR := hide hR
  have HQ := hide (HQ0.out.below hbb)
  have HX : Hid (Dx d bS bT u w V u) := hide (Dx.of hbb)
  have HH := hide (HH0.out.below hbb)
  have HBY := hide (HBY0.out.below hbb)
  have HKS := hide (HKS0.out.below hbb)
  have hOD : ¬ Own d bS bT u w.heap.size := fun q => by have := HQ0.out.dk.lt q; omega
  have hOP : ¬ Own d bS bT u (w.heap.size + 1) := fun q => by have := HQ0.out.dk.lt q; omega
  have hOR : ¬ Own d bS bT u (w.heap.size + 1 + 1) := fun q => by have := HQ0.out.dk.lt q; omega
  have HOD := hide hOD
  have HOP := hide hOP
  have HOR := hide hOR
  have hwr : w.heap.size ≤ w.heap.size + 1 + 1 := by omega
  have hdr : w.heap.size ≠ w.heap.size + 1 + 1 := by omega
  have hpr : w.heap.size + 1 ≠ w.heap.size + 1 + 1 := by omega
  have HDV := hide (HDD0.out.np0 (V := V) (R := w.heap.size + 1 + 1) hVB.out hwr)
  have HRV : Hid (w.heap.size + 1 + 1 < V.heap.size) := hide (cell_block HR.out.c0)
  generalize w.heap.size + 1 + 1 = R at HR HOR hwr hdr hpr HDV HRV ⊢
  generalize w.heap.size + 1 = Pb at HP HOP hpr ⊢
  obtain ⟨d0, d1, d2, _⟩ := hD
  have p0 := HP.out 0 _ rfl
  have p1 := HP.out 1 _ rfl
  have p2 := HP.out 2 _ rfl
  have p3 := HP.out 3 _ rfl
  have p4 := HP.out 4 _ rfl
  simp only [Nat.zero_add] at p0 p1 p2 p3 p4
  clear hV hb1 hb2 hb3 hP hR hbb s1 s2 HQ0 HH0 HBY0 HKS0 HDD0 hVB hOD hOP hOR
  have hk := HK.out
  have HOR2 := hide HOR.out
  have e0 := HR.out.c0
  have e1 := HR.out.c1
  have e2 := HR.out.c2
  have f0 := HR.out.fz 0
  have f1 := HR.out.fz 1
  have f2 := HR.out.fz 2
  obtain ⟨q0, q1, q2, q3, q4, q5⟩ := hk
  go_wp2
  exact bodyPost_ret (v := .tuple #[.agg #[_, _, _], .bool true]) (res_two Tryd.results8 _ _ R [_, _, _] _ _ rfl rfl (HR.out.all (.int .i64 s.room) (.slice a3 n3 k3) (.slice a4 n4 k4)).rg Tryd.underlying35 rfl infoDd) rfl ⟨_, _, rfl, HQ.out.set3 HOR2.out _ _ _, HDV.out.npE _ _ _, HX.out.set3 hwr _ _ _⟩
set_option maxRecDepth 100000 in
set_option maxHeartbeats 8000000 in
theorem da_sync (kd bl cut : Int) (by_ ks : List Int) (ab ak a3 a4 : Option Addr) (cb ck n3 k3 n4 k4 : Nat) (w : World) (hq : Dq w d bS bT u s) (hn : s.wt < 30000) (hh : Hnd w) (ho : ¬ Own d bS bT u 0) (hb : Sl bc w (.slice ab by_.length cb) by_) (hby : Byt by_) (hks : Sl ic w (.slice ak ks.length ck) ks) (hdd : Dd w (No d bS bT u Bd) (.agg #[.int .i64 s.room, .slice a3 n3 k3, .slice a4 n4 k4]) s) (hbd : ∀ k, Bd k → k < w.heap.size) (hk : kd = 3) :
    Calls Tryd.prog 8 #[.pointer (some ⟨d, 0, none⟩), (.agg #[.int .i64 s.room, .slice a3 n3 k3, .slice a4 n4 k4]), .agg #[.int .i64 kd, .int .i64 bl, .slice ab by_.length cb, .slice ak ks.length ck, .int .i64 cut]] w fun e w' => ∃ v' u', e = .returned (.tuple #[v', .bool true]) ∧ Dq w' d bS bT u' (syS s) ∧ Dd w' (No d bS bT u' Bd) v' (syS s) ∧ Dx d bS bT u w w' u' := by
  have HDD0 := hide hdd
  have HBD := hide hbd
  have HQ0 := hide hq
  have HH0 := hide hh
  have HO := hide ho
  have HBY0 := hide hb
  have HBT := hide hby
  have HKS0 := hide hks
  have HK := hide hk
  clear hq hh ho hb hby hks hk hdd hbd
  go_enter Tryd.func8, Tryd.ntmps8
  go_upto_region 1 with (fail)
  have hb1 := al_b0 w (.cells #[.int .i64 s.room, .slice a3 n3 k3, .slice a4 n4 k4] 35)
  have hb2 := al_b0 (w.alloc (.cells #[.int .i64 s.room, .slice a3 n3 k3, .slice a4 n4 k4] 35)) (.cells #[.int .i64 kd, .int .i64 bl, .slice ab by_.length cb, .slice ak ks.length ck, .int .i64 cut] 41)
  have hb3 := al_b0 ((w.alloc (.cells #[.int .i64 s.room, .slice a3 n3 k3, .slice a4 n4 k4] 35)).alloc (.cells #[.int .i64 kd, .int .i64 bl, .slice ab by_.length cb, .slice ak ks.length ck, .int .i64 cut] 41)) (.cells #[.int .i64 0, .slice none 0 0, .slice none 0 0] 35)
  have hD := ((b3_new w (.int .i64 s.room) (.slice a3 n3 k3) (.slice a4 n4 k4) 35).below hb2).below hb3
  have hP := range_belW (range_newW (w.alloc (.cells #[.int .i64 s.room, .slice a3 n3 k3, .slice a4 n4 k4] 35)) [.int .i64 kd, .int .i64 bl, .slice ab by_.length cb, .slice ak ks.length ck, .int .i64 cut] 41) hb3
  have hR := b3_new ((w.alloc (.cells #[.int .i64 s.room, .slice a3 n3 k3, .slice a4 n4 k4] 35)).alloc (.cells #[.int .i64 kd, .int .i64 bl, .slice ab by_.length cb, .slice ak ks.length ck, .int .i64 cut] 41)) (.int .i64 0) (.slice none 0 0) (.slice none 0 0) 35
  have hbb := bt (bt hb1 hb2) hb3
  have s1 : (w.alloc (.cells #[.int .i64 s.room, .slice a3 n3 k3, .slice a4 n4 k4] 35)).heap.size = w.heap.size + 1 := by simp
  have s2 : ((w.alloc (.cells #[.int .i64 s.room, .slice a3 n3 k3, .slice a4 n4 k4] 35)).alloc (.cells #[.int .i64 kd, .int .i64 bl, .slice ab by_.length cb, .slice ak ks.length ck, .int .i64 cut] 41)).heap.size = w.heap.size + 1 + 1 := by simp
  rw [s1] at hP
  rw [s2] at hR
  generalize hV : ((w.alloc (.cells #[.int .i64 s.room, .slice a3 n3 k3, .slice a4 n4 k4] 35)).alloc (.cells #[.int .i64 kd, .int .i64 bl, .slice ab by_.length cb, .slice ak ks.length ck, .int .i64 cut] 41)).alloc (.cells #[.int .i64 0, .slice none 0 0, .slice none 0 0] 35) = V at hD hP hR hbb ⊢
  have HD := hide hD
  have hVB := hide hbb
  have HP := hide hP
  have HR := hide hR
  have HQ := hide (HQ0.out.below hbb)
  have HX : Hid (Dx d bS bT u w V u) := hide (Dx.of hbb)
  have HH := hide (HH0.out.below hbb)
  have HBY := hide (HBY0.out.below hbb)
  have HKS := hide (HKS0.out.below hbb)
  have hOD : ¬ Own d bS bT u w.heap.size := fun q => by have := HQ0.out.dk.lt q; omega
  have hOP : ¬ Own d bS bT u (w.heap.size + 1) := fun q => by have := HQ0.out.dk.lt q; omega
  have hOR : ¬ Own d bS bT u (w.heap.size + 1 + 1) := fun q => by have := HQ0.out.dk.lt q; omega
  have HOD := hide hOD
  have HOP := hide hOP
  have HOR := hide hOR
  have hwr : w.heap.size ≤ w.heap.size + 1 + 1 := by omega
  have hdr : w.heap.size ≠ w.heap.size + 1 + 1 := by omega
  have hpr : w.heap.size + 1 ≠ w.heap.size + 1 + 1 := by omega
  have HDV := hide (HDD0.out.np0 (V := V) (R := w.heap.size + 1 + 1) hVB.out hwr)
  have HRV : Hid (w.heap.size + 1 + 1 < V.heap.size) := hide (cell_block HR.out.c0)
  generalize w.heap.size + 1 + 1 = R at HR HOR hwr hdr hpr HDV HRV ⊢
  generalize w.heap.size + 1 = Pb at HP HOP hpr ⊢
  obtain ⟨d0, d1, d2, _⟩ := hD
  have p0 := HP.out 0 _ rfl
  have p1 := HP.out 1 _ rfl
  have p2 := HP.out 2 _ rfl
  have p3 := HP.out 3 _ rfl
  have p4 := HP.out 4 _ rfl
  simp only [Nat.zero_add] at p0 p1 p2 p3 p4
  clear hV hb1 hb2 hb3 hP hR hbb s1 s2 HQ0 HH0 HBY0 HKS0 HDD0 hVB hOD hOP hOR
  have hk := HK.out
  have HAS := hide HQ.out.ok.asc
  go_wp2_with (first | (go_at_call 16; refine (q_sync _ HQ.out hn).mono ?_; rintro e V2 ⟨rfl, hq2, hx2⟩; have HQ2 := hide hq2; have HX2 := hide (HX.out.trans hx2); have HDV2 := hide (HDV.out.npX hx2); have HR2 := hide (hx2.b3 HOR.out HR.out); have HD2 := hide (hx2.b3 HOD.out HD.out); have HOR2 := hide (hx2.own (cell_block HR.out.c0) HOR.out); clear hq2 hx2; obtain ⟨g0, g1, g2, _⟩ := HD2.out) | (go_at_call 28; refine (rsync_any _ s _ HDV2.out HAS.out (wt_80 hn)).mono ?_; rintro e V3 ⟨v3, rfl, hdd3, hb3⟩; have HD3 := hide (hdd3.npD HQ2.out (cell_block HR2.out.c0) (fun k h => Nat.lt_of_lt_of_le (HBD.out k h) HX2.out.ba.size)); obtain ⟨a1, n1, c1, a2, n2, c2, rfl⟩ := HD3.out.form; have HQ3 := hide (HQ2.out.below hb3); have HX3 := hide (HX2.out.call hb3); have HR3 := hide (HR2.out.below hb3); have e0 := HR3.out.c0; have e1 := HR3.out.c1; have e2 := HR3.out.c2; have f0 := HR3.out.fz 0; have f1 := HR3.out.fz 1; have f2 := HR3.out.fz 2; clear hb3))
  exact bodyPost_ret (v := .tuple #[.agg #[_, _, _], .bool true]) (res_two Tryd.results8 _ _ R [_, _, _] _ _ rfl rfl (HR3.out.all (.int .i64 (syS s).room) (.slice a1 n1 c1) (.slice a2 n2 c2)).rg Tryd.underlying35 rfl infoDd) rfl ⟨_, _, rfl, HQ3.out.set3 HOR2.out _ _ _, HD3.out.npE _ _ _, HX3.out.set3 hwr _ _ _⟩
set_option maxRecDepth 100000 in
set_option maxHeartbeats 8000000 in
theorem da_crash (kd bl cut : Int) (by_ ks : List Int) (ab ak a3 a4 : Option Addr) (cb ck n3 k3 n4 k4 : Nat) (w : World) (hq : Dq w d bS bT u s) (hn : s.wt < 30000) (hh : Hnd w) (ho : ¬ Own d bS bT u 0) (hb : Sl bc w (.slice ab by_.length cb) by_) (hby : Byt by_) (hks : Sl ic w (.slice ak ks.length ck) ks) (hdd : Dd w (No d bS bT u Bd) (.agg #[.int .i64 s.room, .slice a3 n3 k3, .slice a4 n4 k4]) s) (hbd : ∀ k, Bd k → k < w.heap.size) (hk : kd = 4) (hkx : ∀ W9 u9, Dx d bS bT u w W9 u9 → Sl ic W9 (.slice ak ks.length ck) ks) :
    Calls Tryd.prog 8 #[.pointer (some ⟨d, 0, none⟩), (.agg #[.int .i64 s.room, .slice a3 n3 k3, .slice a4 n4 k4]), .agg #[.int .i64 kd, .int .i64 bl, .slice ab by_.length cb, .slice ak ks.length ck, .int .i64 cut]] w fun e w' => ∃ v' u', e = .returned (.tuple #[v', .bool true]) ∧ Dq w' d bS bT u' (crS s ks cut) ∧ Dd w' (No d bS bT u' Bd) v' (crS s ks cut) ∧ Dx d bS bT u w w' u' := by
  have HDD0 := hide hdd
  have HBD := hide hbd
  have HQ0 := hide hq
  have HH0 := hide hh
  have HO := hide ho
  have HBY0 := hide hb
  have HBT := hide hby
  have HKS0 := hide hks
  have HK := hide hk
  clear hq hh ho hb hby hks hk hdd hbd
  go_enter Tryd.func8, Tryd.ntmps8
  have HKX := hide hkx
  clear hkx
  go_upto_region 1 with (fail)
  have hb1 := al_b0 w (.cells #[.int .i64 s.room, .slice a3 n3 k3, .slice a4 n4 k4] 35)
  have hb2 := al_b0 (w.alloc (.cells #[.int .i64 s.room, .slice a3 n3 k3, .slice a4 n4 k4] 35)) (.cells #[.int .i64 kd, .int .i64 bl, .slice ab by_.length cb, .slice ak ks.length ck, .int .i64 cut] 41)
  have hb3 := al_b0 ((w.alloc (.cells #[.int .i64 s.room, .slice a3 n3 k3, .slice a4 n4 k4] 35)).alloc (.cells #[.int .i64 kd, .int .i64 bl, .slice ab by_.length cb, .slice ak ks.length ck, .int .i64 cut] 41)) (.cells #[.int .i64 0, .slice none 0 0, .slice none 0 0] 35)
  have hD := ((b3_new w (.int .i64 s.room) (.slice a3 n3 k3) (.slice a4 n4 k4) 35).below hb2).below hb3
  have hP := range_belW (range_newW (w.alloc (.cells #[.int .i64 s.room, .slice a3 n3 k3, .slice a4 n4 k4] 35)) [.int .i64 kd, .int .i64 bl, .slice ab by_.length cb, .slice ak ks.length ck, .int .i64 cut] 41) hb3
  have hR := b3_new ((w.alloc (.cells #[.int .i64 s.room, .slice a3 n3 k3, .slice a4 n4 k4] 35)).alloc (.cells #[.int .i64 kd, .int .i64 bl, .slice ab by_.length cb, .slice ak ks.length ck, .int .i64 cut] 41)) (.int .i64 0) (.slice none 0 0) (.slice none 0 0) 35
  have hbb := bt (bt hb1 hb2) hb3
  have s1 : (w.alloc (.cells #[.int .i64 s.room, .slice a3 n3 k3, .slice a4 n4 k4] 35)).heap.size = w.heap.size + 1 := by simp
  have s2 : ((w.alloc (.cells #[.int .i64 s.room, .slice a3 n3 k3, .slice a4 n4 k4] 35)).alloc (.cells #[.int .i64 kd, .int .i64 bl, .slice ab by_.length cb, .slice ak ks.length ck, .int .i64 cut] 41)).heap.size = w.heap.size + 1 + 1 := by simp
  rw [s1] at hP
  rw [s2] at hR
  generalize hV : ((w.alloc (.cells #[.int .i64 s.room, .slice a3 n3 k3, .slice a4 n4 k4] 35)).alloc (.cells #[.int .i64 kd, .int .i64 bl, .slice ab by_.length cb, .slice ak ks.length ck, .int .i64 cut] 41)).alloc (.cells #[.int .i64 0, .slice none 0 0, .slice none 0 0] 35) = V at hD hP hR hbb ⊢
  have HD := hide hD
  have hVB := hide hbb
  have HP := hide hP
  have HR := hide hR
  have HQ := hide (HQ0.out.below hbb)
  have HX : Hid (Dx d bS bT u w V u) := hide (Dx.of hbb)
  have HH := hide (HH0.out.below hbb)
  have HBY := hide (HBY0.out.below hbb)
  have HKS := hide (HKS0.out.below hbb)
  have hOD : ¬ Own d bS bT u w.heap.size := fun q => by have := HQ0.out.dk.lt q; omega
  have hOP : ¬ Own d bS bT u (w.heap.size + 1) := fun q => by have := HQ0.out.dk.lt q; omega
  have hOR : ¬ Own d bS bT u (w.heap.size + 1 + 1) := fun q => by have := HQ0.out.dk.lt q; omega
  have HOD := hide hOD
  have HOP := hide hOP
  have HOR := hide hOR
  have hwr : w.heap.size ≤ w.heap.size + 1 + 1 := by omega
  have hdr : w.heap.size ≠ w.heap.size + 1 + 1 := by omega
  have hpr : w.heap.size + 1 ≠ w.heap.size + 1 + 1 := by omega
  have HDV := hide (HDD0.out.np0 (V := V) (R := w.heap.size + 1 + 1) hVB.out hwr)
  have HRV : Hid (w.heap.size + 1 + 1 < V.heap.size) := hide (cell_block HR.out.c0)
  generalize w.heap.size + 1 + 1 = R at HR HOR hwr hdr hpr HDV HRV ⊢
  generalize w.heap.size + 1 = Pb at HP HOP hpr ⊢
  obtain ⟨d0, d1, d2, _⟩ := hD
  have p0 := HP.out 0 _ rfl
  have p1 := HP.out 1 _ rfl
  have p2 := HP.out 2 _ rfl
  have p3 := HP.out 3 _ rfl
  have p4 := HP.out 4 _ rfl
  simp only [Nat.zero_add] at p0 p1 p2 p3 p4
  clear hV hb1 hb2 hb3 hP hR hbb s1 s2 HQ0 HH0 HBY0 HKS0 HDD0 hVB hOD hOP hOR
  have hk := HK.out
  have HAS := hide HQ.out.ok.asc
  go_wp2_with (first | (go_at_call 17; refine (q_crash _ ks cut _ HQ.out HKS.out hn).mono ?_; rintro e V2 ⟨rfl, hq2, hx2⟩; have HQ2 := hide hq2; have HX2 := hide (HX.out.trans hx2); have HDV2 := hide (HDV.out.npX hx2); have HR2 := hide (hx2.b3 HOR.out HR.out); have HD2 := hide (hx2.b3 HOD.out HD.out); have HP2 := hide (hx2.rg HOP.out HP.out); have HKS2 := hide (HKX.out _ _ HX2.out); have HOR2 := hide (hx2.own (cell_block HR.out.c0) HOR.out); clear hq2 hx2; obtain ⟨g0, g1, g2, _⟩ := HD2.out; have q3 := HP2.out 3 _ rfl; have q4 := HP2.out 4 _ rfl; simp only [Nat.zero_add] at q3 q4) | (go_at_call 29; refine (rcrash_any _ _ ks cut s _ HDV2.out HKS2.out HAS.out (wt_80 hn)).mono ?_; rintro e V3 ⟨v3, rfl, hdd3, hb3⟩; have HD3 := hide (hdd3.npD HQ2.out (cell_block HR2.out.c0) (fun k h => Nat.lt_of_lt_of_le (HBD.out k h) HX2.out.ba.size)); obtain ⟨a1, n1, c1, a2, n2, c2, rfl⟩ := HD3.out.form; have HQ3 := hide (HQ2.out.below hb3); have HX3 := hide (HX2.out.call hb3); have HR3 := hide (HR2.out.below hb3); have e0 := HR3.out.c0; have e1 := HR3.out.c1; have e2 := HR3.out.c2; have f0 := HR3.out.fz 0; have f1 := HR3.out.fz 1; have f2 := HR3.out.fz 2; clear hb3))
  exact bodyPost_ret (v := .tuple #[.agg #[_, _, _], .bool true]) (res_two Tryd.results8 _ _ R [_, _, _] _ _ rfl rfl (HR3.out.all (.int .i64 (crS s ks cut).room) (.slice a1 n1 c1) (.slice a2 n2 c2)).rg Tryd.underlying35 rfl infoDd) rfl ⟨_, _, rfl, HQ3.out.set3 HOR2.out _ _ _, HD3.out.npE _ _ _, HX3.out.set3 hwr _ _ _⟩
set_option maxRecDepth 100000 in
set_option maxHeartbeats 8000000 in
theorem da_wipe (kd bl cut : Int) (by_ ks : List Int) (ab ak a3 a4 : Option Addr) (cb ck n3 k3 n4 k4 : Nat) (w : World) (hq : Dq w d bS bT u s) (hh : Hnd w) (ho : ¬ Own d bS bT u 0) (hb : Sl bc w (.slice ab by_.length cb) by_) (hby : Byt by_) (hks : Sl ic w (.slice ak ks.length ck) ks) (hdd : Dd w (No d bS bT u Bd) (.agg #[.int .i64 s.room, .slice a3 n3 k3, .slice a4 n4 k4]) s) (hbd : ∀ k, Bd k → k < w.heap.size) (hk : kd = 5) :
    Calls Tryd.prog 8 #[.pointer (some ⟨d, 0, none⟩), (.agg #[.int .i64 s.room, .slice a3 n3 k3, .slice a4 n4 k4]), .agg #[.int .i64 kd, .int .i64 bl, .slice ab by_.length cb, .slice ak ks.length ck, .int .i64 cut]] w fun e w' => ∃ v' u', e = .returned (.tuple #[v', .bool true]) ∧ Dq w' d bS bT u' ⟨s.room, [], []⟩ ∧ Dd w' (No d bS bT u' Bd) v' ⟨s.room, [], []⟩ ∧ Dx d bS bT u w w' u' := by
  have HDD0 := hide hdd
  have HBD := hide hbd
  have HQ0 := hide hq
  have HH0 := hide hh
  have HO := hide ho
  have HBY0 := hide hb
  have HBT := hide hby
  have HKS0 := hide hks
  have HK := hide hk
  clear hq hh ho hb hby hks hk hdd hbd
  go_enter Tryd.func8, Tryd.ntmps8
  go_upto_region 1 with (fail)
  have hb1 := al_b0 w (.cells #[.int .i64 s.room, .slice a3 n3 k3, .slice a4 n4 k4] 35)
  have hb2 := al_b0 (w.alloc (.cells #[.int .i64 s.room, .slice a3 n3 k3, .slice a4 n4 k4] 35)) (.cells #[.int .i64 kd, .int .i64 bl, .slice ab by_.length cb, .slice ak ks.length ck, .int .i64 cut] 41)
  have hb3 := al_b0 ((w.alloc (.cells #[.int .i64 s.room, .slice a3 n3 k3, .slice a4 n4 k4] 35)).alloc (.cells #[.int .i64 kd, .int .i64 bl, .slice ab by_.length cb, .slice ak ks.length ck, .int .i64 cut] 41)) (.cells #[.int .i64 0, .slice none 0 0, .slice none 0 0] 35)
  have hD := ((b3_new w (.int .i64 s.room) (.slice a3 n3 k3) (.slice a4 n4 k4) 35).below hb2).below hb3
  have hP := range_belW (range_newW (w.alloc (.cells #[.int .i64 s.room, .slice a3 n3 k3, .slice a4 n4 k4] 35)) [.int .i64 kd, .int .i64 bl, .slice ab by_.length cb, .slice ak ks.length ck, .int .i64 cut] 41) hb3
  have hR := b3_new ((w.alloc (.cells #[.int .i64 s.room, .slice a3 n3 k3, .slice a4 n4 k4] 35)).alloc (.cells #[.int .i64 kd, .int .i64 bl, .slice ab by_.length cb, .slice ak ks.length ck, .int .i64 cut] 41)) (.int .i64 0) (.slice none 0 0) (.slice none 0 0) 35
  have hbb := bt (bt hb1 hb2) hb3
  have s1 : (w.alloc (.cells #[.int .i64 s.room, .slice a3 n3 k3, .slice a4 n4 k4] 35)).heap.size = w.heap.size + 1 := by simp
  have s2 : ((w.alloc (.cells #[.int .i64 s.room, .slice a3 n3 k3, .slice a4 n4 k4] 35)).alloc (.cells #[.int .i64 kd, .int .i64 bl, .slice ab by_.length cb, .slice ak ks.length ck, .int .i64 cut] 41)).heap.size = w.heap.size + 1 + 1 := by simp
  rw [s1] at hP
  rw [s2] at hR
  generalize hV : ((w.alloc (.cells #[.int .i64 s.room, .slice a3 n3 k3, .slice a4 n4 k4] 35)).alloc (.cells #[.int .i64 kd, .int .i64 bl, .slice ab by_.length cb, .slice ak ks.length ck, .int .i64 cut] 41)).alloc (.cells #[.int .i64 0, .slice none 0 0, .slice none 0 0] 35) = V at hD hP hR hbb ⊢
  have HD := hide hD
  have hVB := hide hbb
  have HP := hide hP
  have HR := hide hR
  have HQ := hide (HQ0.out.below hbb)
  have HX : Hid (Dx d bS bT u w V u) := hide (Dx.of hbb)
  have HH := hide (HH0.out.below hbb)
  have HBY := hide (HBY0.out.below hbb)
  have HKS := hide (HKS0.out.below hbb)
  have hOD : ¬ Own d bS bT u w.heap.size := fun q => by have := HQ0.out.dk.lt q; omega
  have hOP : ¬ Own d bS bT u (w.heap.size + 1) := fun q => by have := HQ0.out.dk.lt q; omega
  have hOR : ¬ Own d bS bT u (w.heap.size + 1 + 1) := fun q => by have := HQ0.out.dk.lt q; omega
  have HOD := hide hOD
  have HOP := hide hOP
  have HOR := hide hOR
  have hwr : w.heap.size ≤ w.heap.size + 1 + 1 := by omega
  have hdr : w.heap.size ≠ w.heap.size + 1 + 1 := by omega
  have hpr : w.heap.size + 1 ≠ w.heap.size + 1 + 1 := by omega
  have HDV := hide (HDD0.out.np0 (V := V) (R := w.heap.size + 1 + 1) hVB.out hwr)
  have HRV : Hid (w.heap.size + 1 + 1 < V.heap.size) := hide (cell_block HR.out.c0)
  generalize w.heap.size + 1 + 1 = R at HR HOR hwr hdr hpr HDV HRV ⊢
  generalize w.heap.size + 1 = Pb at HP HOP hpr ⊢
  obtain ⟨d0, d1, d2, _⟩ := hD
  have p0 := HP.out 0 _ rfl
  have p1 := HP.out 1 _ rfl
  have p2 := HP.out 2 _ rfl
  have p3 := HP.out 3 _ rfl
  have p4 := HP.out 4 _ rfl
  simp only [Nat.zero_add] at p0 p1 p2 p3 p4
  clear hV hb1 hb2 hb3 hP hR hbb s1 s2 HQ0 HH0 HBY0 HKS0 HDD0 hVB hOD hOP hOR
  have hk := HK.out
  go_wp2_with (first | (go_at_call 30; refine (q_wipe _ HQ.out).mono ?_; rintro e V2 ⟨rfl, hq2, hx2⟩; have HQ2 := hide hq2; have HX2 := hide (HX.out.trans hx2); have HDV2 := hide (HDV.out.npX hx2); have HR2 := hide (hx2.b3 HOR.out HR.out); have HD2 := hide (hx2.b3 HOD.out HD.out); have HOR2 := hide (hx2.own (cell_block HR.out.c0) HOR.out); clear hq2 hx2; obtain ⟨g0, g1, g2, _⟩ := HD2.out; have e0 := HR2.out.c0; have e1 := HR2.out.c1; have e2 := HR2.out.c2; have f0 := HR2.out.fz 0; have f1 := HR2.out.fz 1; have f2 := HR2.out.fz 2))
  exact bodyPost_ret (v := .tuple #[.agg #[_, _, _], .bool true]) (res_two Tryd.results8 _ _ R [_, _, _] _ _ rfl rfl (HR2.out.all (.int .i64 s.room) (.slice none 0 0) (.slice none 0 0)).rg Tryd.underlying35 rfl infoDd) rfl ⟨_, _, rfl, HQ2.out.set3 HOR2.out _ _ _, ⟨_, _, [], [], rfl, ⟨⟨_, _, rfl⟩, (fun h => by simp at h), (fun q hq => by simp at hq)⟩, ⟨⟨_, _, rfl⟩, (fun h => by simp at h), (fun q hq => by simp at hq)⟩, rfl, rfl⟩, HX2.out.set3 hwr _ _ _⟩
set_option maxRecDepth 100000 in
set_option maxHeartbeats 8000000 in
theorem da_write (kd bl cut : Int) (by_ ks : List Int) (ab ak a3 a4 : Option Addr) (cb ck n3 k3 n4 k4 : Nat) (w : World) (hq : Dq w d bS bT u s) (hn : s.wt < 30000) (hh : Hnd w) (ho : ¬ Own d bS bT u 0) (hb : Sl bc w (.slice ab by_.length cb) by_) (hby : Byt by_) (hks : Sl ic w (.slice ak ks.length ck) ks) (hdd : Dd w (No d bS bT u Bd) (.agg #[.int .i64 s.room, .slice a3 n3 k3, .slice a4 n4 k4]) s) (hbd : ∀ k, Bd k → k < w.heap.size) (hk : kd = 0) :
    Calls Tryd.prog 8 #[.pointer (some ⟨d, 0, none⟩), (.agg #[.int .i64 s.room, .slice a3 n3 k3, .slice a4 n4 k4]), .agg #[.int .i64 kd, .int .i64 bl, .slice ab by_.length cb, .slice ak ks.length ck, .int .i64 cut]] w fun e w' => ∃ v' u', e = .returned (.tuple #[v', .bool true]) ∧ Dq w' d bS bT u' (wrS s bl by_) ∧ Dd w' (No d bS bT u' Bd) v' (wrS s bl by_) ∧ Dx d bS bT u w w' u' := by
  have HDD0 := hide hdd
  have HBD := hide hbd
  have HQ0 := hide hq
  have HH0 := hide hh
  have HO := hide ho
  have HBY0 := hide hb
  have HBT := hide hby
  have HKS0 := hide hks
  have HK := hide hk
  clear hq hh ho hb hby hks hk hdd hbd
  go_enter Tryd.func8, Tryd.ntmps8
  go_upto_region 1 with (fail)
  have hb1 := al_b0 w (.cells #[.int .i64 s.room, .slice a3 n3 k3, .slice a4 n4 k4] 35)
  have hb2 := al_b0 (w.alloc (.cells #[.int .i64 s.room, .slice a3 n3 k3, .slice a4 n4 k4] 35)) (.cells #[.int .i64 kd, .int .i64 bl, .slice ab by_.length cb, .slice ak ks.length ck, .int .i64 cut] 41)
  have hb3 := al_b0 ((w.alloc (.cells #[.int .i64 s.room, .slice a3 n3 k3, .slice a4 n4 k4] 35)).alloc (.cells #[.int .i64 kd, .int .i64 bl, .slice ab by_.length cb, .slice ak ks.length ck, .int .i64 cut] 41)) (.cells #[.int .i64 0, .slice none 0 0, .slice none 0 0] 35)
  have hD := ((b3_new w (.int .i64 s.room) (.slice a3 n3 k3) (.slice a4 n4 k4) 35).below hb2).below hb3
  have hP := range_belW (range_newW (w.alloc (.cells #[.int .i64 s.room, .slice a3 n3 k3, .slice a4 n4 k4] 35)) [.int .i64 kd, .int .i64 bl, .slice ab by_.length cb, .slice ak ks.length ck, .int .i64 cut] 41) hb3
  have hR := b3_new ((w.alloc (.cells #[.int .i64 s.room, .slice a3 n3 k3, .slice a4 n4 k4] 35)).alloc (.cells #[.int .i64 kd, .int .i64 bl, .slice ab by_.length cb, .slice ak ks.length ck, .int .i64 cut] 41)) (.int .i64 0) (.slice none 0 0) (.slice none 0 0) 35
  have hbb := bt (bt hb1 hb2) hb3
  have s1 : (w.alloc (.cells #[.int .i64 s.room, .slice a3 n3 k3, .slice a4 n4 k4] 35)).heap.size = w.heap.size + 1 := by simp
  have s2 : ((w.alloc (.cells #[.int .i64 s.room, .slice a3 n3 k3, .slice a4 n4 k4] 35)).alloc (.cells #[.int .i64 kd, .int .i64 bl, .slice ab by_.length cb, .slice ak ks.length ck, .int .i64 cut] 41)).heap.size = w.heap.size + 1 + 1 := by simp
  rw [s1] at hP
  rw [s2] at hR
  generalize hV : ((w.alloc (.cells #[.int .i64 s.room, .slice a3 n3 k3, .slice a4 n4 k4] 35)).alloc (.cells #[.int .i64 kd, .int .i64 bl, .slice ab by_.length cb, .slice ak ks.length ck, .int .i64 cut] 41)).alloc (.cells #[.int .i64 0, .slice none 0 0, .slice none 0 0] 35) = V at hD hP hR hbb ⊢
  have HD := hide hD
  have hVB := hide hbb
  have HP := hide hP
  have HR := hide hR
  have HQ := hide (HQ0.out.below hbb)
  have HX : Hid (Dx d bS bT u w V u) := hide (Dx.of hbb)
  have HH := hide (HH0.out.below hbb)
  have HBY := hide (HBY0.out.below hbb)
  have HKS := hide (HKS0.out.below hbb)
  have hOD : ¬ Own d bS bT u w.heap.size := fun q => by have := HQ0.out.dk.lt q; omega
  have hOP : ¬ Own d bS bT u (w.heap.size + 1) := fun q => by have := HQ0.out.dk.lt q; omega
  have hOR : ¬ Own d bS bT u (w.heap.size + 1 + 1) := fun q => by have := HQ0.out.dk.lt q; omega
  have HOD := hide hOD
  have HOP := hide hOP
  have HOR := hide hOR
  have hwr : w.heap.size ≤ w.heap.size + 1 + 1 := by omega
  have hdr : w.heap.size ≠ w.heap.size + 1 + 1 := by omega
  have hpr : w.heap.size + 1 ≠ w.heap.size + 1 + 1 := by omega
  have HDV := hide (HDD0.out.np0 (V := V) (R := w.heap.size + 1 + 1) hVB.out hwr)
  have HRV : Hid (w.heap.size + 1 + 1 < V.heap.size) := hide (cell_block HR.out.c0)
  generalize w.heap.size + 1 + 1 = R at HR HOR hwr hdr hpr HDV HRV ⊢
  generalize w.heap.size + 1 = Pb at HP HOP hpr ⊢
  obtain ⟨d0, d1, d2, _⟩ := hD
  have p0 := HP.out 0 _ rfl
  have p1 := HP.out 1 _ rfl
  have p2 := HP.out 2 _ rfl
  have p3 := HP.out 3 _ rfl
  have p4 := HP.out 4 _ rfl
  simp only [Nat.zero_add] at p0 p1 p2 p3 p4
  clear hV hb1 hb2 hb3 hP hR hbb s1 s2 HQ0 HH0 HBY0 HKS0 HDD0 hVB hOD hOP hOR
  have hk := HK.out
  have HAS := hide HQ.out.ok.asc
  have HCC : Hid (ofV (wrE s bl by_) = wrC s bl by_) := hide (ofV_wr s bl by_)
  go_upto_region 4 with (first | (go_at_call 22; refine (rputA_any _ bl _ by_ s _ HDV.out HAS.out HBY.out HBT.out (wt_80 hn)).mono ?_; rintro e V2 ⟨v2, rfl, hdd2, hb2⟩; have HD2 := hide (hdd2.npD HQ.out HRV.out (fun k h => Nat.lt_of_lt_of_le (HBD.out k h) HX.out.ba.size)); obtain ⟨a1, n1, k1, a2, n2, k2, rfl⟩ := HD2.out.form; have HQ2 := hide (HQ.out.below hb2); have HX2 := hide (HX.out.call hb2); have HR2 := hide (HR.out.below hb2); have HP2 := hide (range_belW HP.out hb2); have HH2 := hide (HH.out.below hb2); have HBY2 := hide (HBY.out.below hb2); clear hb2 hdd2))
  generalize wrC s bl by_ = c2 at HCC ⊢
  generalize hrm : (wrS s bl by_).room = r7 at HD2 ⊢
  clear hrm
  have hb3 := al_b0 V2 (.cells #[.int .i64 r7, .slice a1 n1 k1, .slice a2 n2 k2] 35)
  have hS := b3_new V2 (.int .i64 r7) (.slice a1 n1 k1) (.slice a2 n2 k2) 35
  have HQ3 := hide (HQ2.out.below hb3)
  have HX3 := hide (HX2.out.call hb3)
  have HR3 := hide (HR2.out.below hb3)
  have HP3 := hide (range_belW HP2.out hb3)
  have HH3 := hide (HH2.out.below hb3)
  have HBY3 := hide (HBY2.out.below hb3)
  have HD3 := hide (HD2.out.below hb3)
  have hrs : V2.heap.size ≠ R := fun e => by have h9 : R < V2.heap.size := cell_block HR2.out.c0; omega
  have HOS : Hid (¬ Own d bS bT u V2.heap.size) := hide (fun q => by have := HQ2.out.dk.lt q; omega)
  generalize V2.alloc (.cells #[.int .i64 r7, .slice a1 n1 k1, .slice a2 n2 k2] 35) = V3 at hS HQ3 HX3 HR3 HP3 HH3 HBY3 HD3 ⊢
  have HS3 := hide hS
  generalize V2.heap.size = Sb at HS3 hrs HOS ⊢
  clear hS hb3 HQ2 HX2 HR2 HP2 HH2 HBY2 HD2 HQ HX HR HP HH HBY HKS HD HDV d0 d1 d2 p0 p1 p2 p3 p4
  refine wp_region_held_drew (S := fun W => B3 W Sb (.int .i64 r7) (.slice a1 n1 k1) (.slice a2 n2 k2) ∧ W.rangeAt Pb 0 [.int .i64 kd, .int .i64 bl, .slice ab by_.length cb, .slice ak ks.length ck, .int .i64 cut]) (by kernel_rfl) ⟨HS3.out.below (Below.refl _ _).drew, HP3.out⟩ (fun hHeld => ?_)
  have hdw : Below V3.heap.size V3 V3.drew := (Below.refl _ _).drew
  have HQ4 := hide (HQ3.out.below hdw)
  have HX4 := hide (HX3.out.call hdw)
  have HR4 := hide (HR3.out.below hdw)
  have HH4 := hide (HH3.out.below hdw)
  have HBY4 := hide (HBY3.out.below hdw)
  have HD4 := hide (HD3.out.below hdw)
  generalize V3.drew = V4 at HQ4 HX4 HR4 HH4 HBY4 HD4 hHeld ⊢
  clear hdw HQ3 HX3 HR3 HP3 HH3 HBY3 HD3 HS3
  have hcc : (c2 == c2) = true := by simp
  refine wpAnyH_take (i := 0) (oi := _) (v := .agg #[.int .i64 r7, .slice a1 n1 k1, .slice a2 n2 k2]) rfl (by kernel_rfl) (by kernel_rfl) (by kernel_rfl) (fun _ _ _ h => h) (Or.inl ⟨by rfl, by intro w hSw; have h0 := hSw.1.c0; have h1 := hSw.1.c1; have h2 := hSw.1.c2; go_simp⟩) hHeld ?_
  change wpAnyH _ _ _ _ _ _ _ (Act.put _ (some 29) _) _
  simp only [Act.put, List.setIfInBounds_toArray, List.set_cons_zero, List.set_cons_succ]
  refine wpAnyH_take (i := 1) (oi := _) (v := .pointer (some ⟨d, 0, none⟩)) rfl (by kernel_rfl) (by kernel_rfl) (by kernel_rfl) (fun _ _ _ h => h) (Or.inl ⟨by rfl, by intro w hSw; go_simp⟩) hHeld ?_
  change wpAnyH _ _ _ _ _ _ _ (Act.put _ (some 30) _) _
  simp only [Act.put, List.setIfInBounds_toArray, List.set_cons_zero, List.set_cons_succ]
  refine wpAnyH_take (i := 2) (oi := _) (v := .pointer (some ⟨Pb, 1, none⟩)) rfl (by kernel_rfl) (by kernel_rfl) (by kernel_rfl) (fun _ _ _ h => h) (Or.inl ⟨by rfl, by intro w hSw; go_simp⟩) hHeld ?_
  change wpAnyH _ _ _ _ _ _ _ (Act.put _ (some 31) _) _
  simp only [Act.put, List.setIfInBounds_toArray, List.set_cons_zero, List.set_cons_succ]
  refine wpAnyH_take (i := 3) (oi := _) (v := .int .i64 bl) rfl (by kernel_rfl) (by kernel_rfl) (by kernel_rfl) (fun _ _ _ h => h) (Or.inl ⟨by rfl, by intro w hSw; have h1 := hSw.2 1 _ rfl; simp only [Nat.zero_add] at h1; go_simp⟩) hHeld ?_
  change wpAnyH _ _ _ _ _ _ _ (Act.put _ (some 32) _) _
  simp only [Act.put, List.setIfInBounds_toArray, List.set_cons_zero, List.set_cons_succ]
  refine wpAnyH_take (i := 4) (oi := _) (v := .pointer (some ⟨Pb, 2, none⟩)) rfl (by kernel_rfl) (by kernel_rfl) (by kernel_rfl) (fun _ _ _ h => h) (Or.inl ⟨by rfl, by intro w hSw; go_simp⟩) hHeld ?_
  change wpAnyH _ _ _ _ _ _ _ (Act.put _ (some 33) _) _
  simp only [Act.put, List.setIfInBounds_toArray, List.set_cons_zero, List.set_cons_succ]
  refine wpAnyH_take (i := 5) (oi := _) (v := .slice ab by_.length cb) rfl (by kernel_rfl) (by kernel_rfl) (by kernel_rfl) (fun _ _ _ h => h) (Or.inl ⟨by rfl, by intro w hSw; have h1 := hSw.2 2 _ rfl; simp only [Nat.zero_add] at h1; go_simp⟩) hHeld ?_
  change wpAnyH _ _ _ _ _ _ _ (Act.put _ (some 34) _) _
  simp only [Act.put, List.setIfInBounds_toArray, List.set_cons_zero, List.set_cons_succ]
  refine wpAnyH_take (i := 8) (oi := _) (v := .int .i64 c2) rfl (by kernel_rfl) (by kernel_rfl) (by kernel_rfl) (fun _ _ _ h => h) (Or.inl ⟨by rfl, by intro w hSw; go_simp⟩) hHeld ?_
  change wpAnyH _ _ _ _ _ _ _ (Act.put _ (some 37) _) _
  simp only [Act.put, List.setIfInBounds_toArray, List.set_cons_zero, List.set_cons_succ]
  refine wpAnyH_ready (rs := [6]) (by kernel_rfl) (by simp) ?_
  refine AllReadyH.cons (o := _) rfl (fun K hK => ?_) AllReadyH.nil
  go_simp
  go_at_call 15
  refine (q_write bl _ by_ _ HQ4.out HBY4.out HBT.out hn).mono ?_
  rintro e V5 ⟨u5, rfl, hq5, hx5⟩
  go_wp2_with fail
  refine hK.out _ _ ⟨hx5.b3 HOS.out hHeld.1, hx5.rg HOP.out hHeld.2⟩ (fun hHeld1 => ?_)
  clear hK K hHeld
  have hHeld := hHeld1
  clear hHeld1
  have HQ5 := hide hq5
  have HX5 := hide (HX4.out.trans hx5)
  have HR5 := hide (hx5.b3 HOR.out HR4.out)
  have HH5 := hide (hx5.hnd HO.out HH4.out)
  have HD5 := hide (HD4.out.npX hx5)
  have HOR2 := hide (hx5.own (cell_block HR4.out.c0) HOR.out)
  clear hq5 hx5 HD4 HQ4 HX4 HR4 HH4 HBY4
  refine wpAnyH_ready (rs := [7]) (by kernel_rfl) (by simp) ?_
  refine AllReadyH.cons (o := _) rfl (fun K hK => ?_) AllReadyH.nil
  go_simp
  go_at_call 23
  refine (of_ev (wrE s bl by_) _ HH5.out).mono ?_
  rintro e V6 ⟨rfl, hb6⟩
  go_wp2_with fail
  refine hK.out _ _ ⟨hHeld.1.below hb6, range_belW hHeld.2 hb6⟩ (fun hHeld1 => ?_)
  clear hK K hHeld
  have hHeld := hHeld1
  clear hHeld1
  have HQ6 := hide (HQ5.out.below hb6)
  have HX6 := hide (HX5.out.call hb6)
  have HR6 := hide (HR5.out.below hb6)
  have HD6 := hide (HD5.out.below hb6)
  rw [HCC.out]
  clear hb6 HQ5 HX5 HR5 HH5 HD5
  refine wpAnyH_take (i := 9) (oi := _) (v := .bool true) rfl (by kernel_rfl) (by kernel_rfl) (by kernel_rfl) (fun _ _ _ h => h) (Or.inl ⟨by rfl, by intro w hSw; go_simp⟩) hHeld ?_
  change wpAnyH _ _ _ _ _ _ _ (Act.put _ (some 38) _) _
  simp only [Act.put, List.setIfInBounds_toArray, List.set_cons_zero, List.set_cons_succ]
  refine wpAnyH_ready (rs := [10]) (by kernel_rfl) (by simp) ?_
  refine AllReadyH.cons (o := _) rfl (fun K hK => ?_) AllReadyH.nil
  have e0 := HR6.out.c0
  have e1 := HR6.out.c1
  have e2 := HR6.out.c2
  have f0 := HR6.out.fz 0
  have f1 := HR6.out.fz 1
  have f2 := HR6.out.fz 2
  go_simp
  clear e0 e1 e2 f0 f1 f2
  refine hK.out _ _ ⟨((hHeld.1.setO hrs _).setO hrs _).setO hrs _, rg_set (rg_set (rg_set hHeld.2 hpr) hpr) hpr⟩ (fun hHeld1 => ?_)
  clear hK K hHeld
  have hHeld := hHeld1
  clear hHeld1
  refine wpAnyH_take (i := 11) (oi := _) (v := .bool true) rfl (by kernel_rfl) (by kernel_rfl) (by kernel_rfl) (fun _ _ _ h => h) (Or.inl ⟨by rfl, by intro w hSw; go_simp⟩) hHeld ?_
  change wpAnyH _ _ _ _ _ _ _ (Act.put _ (some 7) _) _
  simp only [Act.put, List.setIfInBounds_toArray, List.set_cons_zero, List.set_cons_succ]
  refine wpAnyH_done (by kernel_rfl) ?_ _
  clear hHeld
  go_wp2
  exact bodyPost_ret (v := .tuple #[.agg #[_, _, _], .bool true]) (res_two Tryd.results8 _ _ R [_, _, _] _ _ rfl rfl (HR6.out.all (.int .i64 r7) (.slice a1 n1 k1) (.slice a2 n2 k2)).rg Tryd.underlying35 rfl infoDd) rfl ⟨_, _, rfl, HQ6.out.set3 HOR2.out _ _ _, HD6.out.npE _ _ _, HX6.out.set3 hwr _ _ _⟩
set_option maxRecDepth 100000 in
set_option maxHeartbeats 8000000 in
theorem da_free (kd bl cut : Int) (by_ ks : List Int) (ab ak a3 a4 : Option Addr) (cb ck n3 k3 n4 k4 : Nat) (w : World) (hq : Dq w d bS bT u s) (hn : s.wt < 30000) (hh : Hnd w) (ho : ¬ Own d bS bT u 0) (hb : Sl bc w (.slice ab by_.length cb) by_) (hby : Byt by_) (hks : Sl ic w (.slice ak ks.length ck) ks) (hdd : Dd w (No d bS bT u Bd) (.agg #[.int .i64 s.room, .slice a3 n3 k3, .slice a4 n4 k4]) s) (hbd : ∀ k, Bd k → k < w.heap.size) (hk : kd = 1) :
    Calls Tryd.prog 8 #[.pointer (some ⟨d, 0, none⟩), (.agg #[.int .i64 s.room, .slice a3 n3 k3, .slice a4 n4 k4]), .agg #[.int .i64 kd, .int .i64 bl, .slice ab by_.length cb, .slice ak ks.length ck, .int .i64 cut]] w fun e w' => ∃ v' u', e = .returned (.tuple #[v', .bool true]) ∧ Dq w' d bS bT u' (frS s bl) ∧ Dd w' (No d bS bT u' Bd) v' (frS s bl) ∧ Dx d bS bT u w w' u' := by
  have HDD0 := hide hdd
  have HBD := hide hbd
  have HQ0 := hide hq
  have HH0 := hide hh
  have HO := hide ho
  have HBY0 := hide hb
  have HBT := hide hby
  have HKS0 := hide hks
  have HK := hide hk
  clear hq hh ho hb hby hks hk hdd hbd
  go_enter Tryd.func8, Tryd.ntmps8
  go_upto_region 1 with (fail)
  have hb1 := al_b0 w (.cells #[.int .i64 s.room, .slice a3 n3 k3, .slice a4 n4 k4] 35)
  have hb2 := al_b0 (w.alloc (.cells #[.int .i64 s.room, .slice a3 n3 k3, .slice a4 n4 k4] 35)) (.cells #[.int .i64 kd, .int .i64 bl, .slice ab by_.length cb, .slice ak ks.length ck, .int .i64 cut] 41)
  have hb3 := al_b0 ((w.alloc (.cells #[.int .i64 s.room, .slice a3 n3 k3, .slice a4 n4 k4] 35)).alloc (.cells #[.int .i64 kd, .int .i64 bl, .slice ab by_.length cb, .slice ak ks.length ck, .int .i64 cut] 41)) (.cells #[.int .i64 0, .slice none 0 0, .slice none 0 0] 35)
  have hD := ((b3_new w (.int .i64 s.room) (.slice a3 n3 k3) (.slice a4 n4 k4) 35).below hb2).below hb3
  have hP := range_belW (range_newW (w.alloc (.cells #[.int .i64 s.room, .slice a3 n3 k3, .slice a4 n4 k4] 35)) [.int .i64 kd, .int .i64 bl, .slice ab by_.length cb, .slice ak ks.length ck, .int .i64 cut] 41) hb3
  have hR := b3_new ((w.alloc (.cells #[.int .i64 s.room, .slice a3 n3 k3, .slice a4 n4 k4] 35)).alloc (.cells #[.int .i64 kd, .int .i64 bl, .slice ab by_.length cb, .slice ak ks.length ck, .int .i64 cut] 41)) (.int .i64 0) (.slice none 0 0) (.slice none 0 0) 35
  have hbb := bt (bt hb1 hb2) hb3
  have s1 : (w.alloc (.cells #[.int .i64 s.room, .slice a3 n3 k3, .slice a4 n4 k4] 35)).heap.size = w.heap.size + 1 := by simp
  have s2 : ((w.alloc (.cells #[.int .i64 s.room, .slice a3 n3 k3, .slice a4 n4 k4] 35)).alloc (.cells #[.int .i64 kd, .int .i64 bl, .slice ab by_.length cb, .slice ak ks.length ck, .int .i64 cut] 41)).heap.size = w.heap.size + 1 + 1 := by simp
  rw [s1] at hP
  rw [s2] at hR
  generalize hV : ((w.alloc (.cells #[.int .i64 s.room, .slice a3 n3 k3, .slice a4 n4 k4] 35)).alloc (.cells #[.int .i64 kd, .int .i64 bl, .slice ab by_.length cb, .slice ak ks.length ck, .int .i64 cut] 41)).alloc (.cells #[.int .i64 0, .slice none 0 0, .slice none 0 0] 35) = V at hD hP hR hbb ⊢
  have HD := hide hD
  have hVB := hide hbb
  have HP := hide hP
  have HR := hide hR
  have HQ := hide (HQ0.out.below hbb)
  have HX : Hid (Dx d bS bT u w V u) := hide (Dx.of hbb)
  have HH := hide (HH0.out.below hbb)
  have HBY := hide (HBY0.out.below hbb)
  have HKS := hide (HKS0.out.below hbb)
  have hOD : ¬ Own d bS bT u w.heap.size := fun q => by have := HQ0.out.dk.lt q; omega
  have hOP : ¬ Own d bS bT u (w.heap.size + 1) := fun q => by have := HQ0.out.dk.lt q; omega
  have hOR : ¬ Own d bS bT u (w.heap.size + 1 + 1) := fun q => by have := HQ0.out.dk.lt q; omega
  have HOD := hide hOD
  have HOP := hide hOP
  have HOR := hide hOR
  have hwr : w.heap.size ≤ w.heap.size + 1 + 1 := by omega
  have hdr : w.heap.size ≠ w.heap.size + 1 + 1 := by omega
  have hpr : w.heap.size + 1 ≠ w.heap.size + 1 + 1 := by omega
  have HDV := hide (HDD0.out.np0 (V := V) (R := w.heap.size + 1 + 1) hVB.out hwr)
  have HRV : Hid (w.heap.size + 1 + 1 < V.heap.size) := hide (cell_block HR.out.c0)
  generalize w.heap.size + 1 + 1 = R at HR HOR hwr hdr hpr HDV HRV ⊢
  generalize w.heap.size + 1 = Pb at HP HOP hpr ⊢
  obtain ⟨d0, d1, d2, _⟩ := hD
  have p0 := HP.out 0 _ rfl
  have p1 := HP.out 1 _ rfl
  have p2 := HP.out 2 _ rfl
  have p3 := HP.out 3 _ rfl
  have p4 := HP.out 4 _ rfl
  simp only [Nat.zero_add] at p0 p1 p2 p3 p4
  clear hV hb1 hb2 hb3 hP hR hbb s1 s2 HQ0 HH0 HBY0 HKS0 HDD0 hVB hOD hOP hOR
  have hk := HK.out
  have HAS := hide HQ.out.ok.asc
  have HCC : Hid (ofV (frE bl) = frC bl) := hide (ofV_fr bl)
  go_upto_region 7 with (first | (go_at_call 24; refine (rfreeA_any _ bl s _ HDV.out (by have := wt_80 hn; omega)).mono ?_; rintro e V2 ⟨v2, rfl, hdd2, hb2⟩; have HD2 := hide (hdd2.npD HQ.out HRV.out (fun k h => Nat.lt_of_lt_of_le (HBD.out k h) HX.out.ba.size)); obtain ⟨a1, n1, k1, a2, n2, k2, rfl⟩ := HD2.out.form; have HQ2 := hide (HQ.out.below hb2); have HX2 := hide (HX.out.call hb2); have HR2 := hide (HR.out.below hb2); have HP2 := hide (range_belW HP.out hb2); have HH2 := hide (HH.out.below hb2); have HBY2 := hide (HBY.out.below hb2); clear hb2 hdd2))
  generalize frC bl = c2 at HCC ⊢
  generalize hrm : (frS s bl).room = r7 at HD2 ⊢
  clear hrm
  have hb3 := al_b0 V2 (.cells #[.int .i64 r7, .slice a1 n1 k1, .slice a2 n2 k2] 35)
  have hS := b3_new V2 (.int .i64 r7) (.slice a1 n1 k1) (.slice a2 n2 k2) 35
  have HQ3 := hide (HQ2.out.below hb3)
  have HX3 := hide (HX2.out.call hb3)
  have HR3 := hide (HR2.out.below hb3)
  have HP3 := hide (range_belW HP2.out hb3)
  have HH3 := hide (HH2.out.below hb3)
  have HBY3 := hide (HBY2.out.below hb3)
  have HD3 := hide (HD2.out.below hb3)
  have hrs : V2.heap.size ≠ R := fun e => by have h9 : R < V2.heap.size := cell_block HR2.out.c0; omega
  have HOS : Hid (¬ Own d bS bT u V2.heap.size) := hide (fun q => by have := HQ2.out.dk.lt q; omega)
  generalize V2.alloc (.cells #[.int .i64 r7, .slice a1 n1 k1, .slice a2 n2 k2] 35) = V3 at hS HQ3 HX3 HR3 HP3 HH3 HBY3 HD3 ⊢
  have HS3 := hide hS
  generalize V2.heap.size = Sb at HS3 hrs HOS ⊢
  clear hS hb3 HQ2 HX2 HR2 HP2 HH2 HBY2 HD2 HQ HX HR HP HH HBY HKS HD HDV d0 d1 d2 p0 p1 p2 p3 p4
  refine wp_region_held_drew (S := fun W => B3 W Sb (.int .i64 r7) (.slice a1 n1 k1) (.slice a2 n2 k2) ∧ W.rangeAt Pb 0 [.int .i64 kd, .int .i64 bl, .slice ab by_.length cb, .slice ak ks.length ck, .int .i64 cut]) (by kernel_rfl) ⟨HS3.out.below (Below.refl _ _).drew, HP3.out⟩ (fun hHeld => ?_)
  have hdw : Below V3.heap.size V3 V3.drew := (Below.refl _ _).drew
  have HQ4 := hide (HQ3.out.below hdw)
  have HX4 := hide (HX3.out.call hdw)
  have HR4 := hide (HR3.out.below hdw)
  have HH4 := hide (HH3.out.below hdw)
  have HBY4 := hide (HBY3.out.below hdw)
  have HD4 := hide (HD3.out.below hdw)
  generalize V3.drew = V4 at HQ4 HX4 HR4 HH4 HBY4 HD4 hHeld ⊢
  clear hdw HQ3 HX3 HR3 HP3 HH3 HBY3 HD3 HS3
  have hcc : (c2 == c2) = true := by simp
  refine wpAnyH_take (i := 0) (oi := _) (v := .agg #[.int .i64 r7, .slice a1 n1 k1, .slice a2 n2 k2]) rfl (by kernel_rfl) (by kernel_rfl) (by kernel_rfl) (fun _ _ _ h => h) (Or.inl ⟨by rfl, by intro w hSw; have h0 := hSw.1.c0; have h1 := hSw.1.c1; have h2 := hSw.1.c2; go_simp⟩) hHeld ?_
  change wpAnyH _ _ _ _ _ _ _ (Act.put _ (some 48) _) _
  simp only [Act.put, List.setIfInBounds_toArray, List.set_cons_zero, List.set_cons_succ]
  refine wpAnyH_take (i := 1) (oi := _) (v := .pointer (some ⟨d, 0, none⟩)) rfl (by kernel_rfl) (by kernel_rfl) (by kernel_rfl) (fun _ _ _ h => h) (Or.inl ⟨by rfl, by intro w hSw; go_simp⟩) hHeld ?_
  change wpAnyH _ _ _ _ _ _ _ (Act.put _ (some 49) _) _
  simp only [Act.put, List.setIfInBounds_toArray, List.set_cons_zero, List.set_cons_succ]
  refine wpAnyH_take (i := 2) (oi := _) (v := .pointer (some ⟨Pb, 1, none⟩)) rfl (by kernel_rfl) (by kernel_rfl) (by kernel_rfl) (fun _ _ _ h => h) (Or.inl ⟨by rfl, by intro w hSw; go_simp⟩) hHeld ?_
  change wpAnyH _ _ _ _ _ _ _ (Act.put _ (some 50) _) _
  simp only [Act.put, List.setIfInBounds_toArray, List.set_cons_zero, List.set_cons_succ]
  refine wpAnyH_take (i := 3) (oi := _) (v := .int .i64 bl) rfl (by kernel_rfl) (by kernel_rfl) (by kernel_rfl) (fun _ _ _ h => h) (Or.inl ⟨by rfl, by intro w hSw; have h1 := hSw.2 1 _ rfl; simp only [Nat.zero_add] at h1; go_simp⟩) hHeld ?_
  change wpAnyH _ _ _ _ _ _ _ (Act.put _ (some 51) _) _
  simp only [Act.put, List.setIfInBounds_toArray, List.set_cons_zero, List.set_cons_succ]
  refine wpAnyH_take (i := 6) (oi := _) (v := .int .i64 c2) rfl (by kernel_rfl) (by kernel_rfl) (by kernel_rfl) (fun _ _ _ h => h) (Or.inl ⟨by rfl, by intro w hSw; go_simp⟩) hHeld ?_
  change wpAnyH _ _ _ _ _ _ _ (Act.put _ (some 54) _) _
  simp only [Act.put, List.setIfInBounds_toArray, List.set_cons_zero, List.set_cons_succ]
  refine wpAnyH_ready (rs := [4]) (by kernel_rfl) (by simp) ?_
  refine AllReadyH.cons (o := _) rfl (fun K hK => ?_) AllReadyH.nil
  go_simp
  go_at_call 25
  refine (q_free bl _ HQ4.out hn).mono ?_
  rintro e V5 ⟨u5, rfl, hq5, hx5⟩
  go_wp2_with fail
  refine hK.out _ _ ⟨hx5.b3 HOS.out hHeld.1, hx5.rg HOP.out hHeld.2⟩ (fun hHeld1 => ?_)
  clear hK K hHeld
  have hHeld := hHeld1
  clear hHeld1
  have HQ5 := hide hq5
  have HX5 := hide (HX4.out.trans hx5)
  have HR5 := hide (hx5.b3 HOR.out HR4.out)
  have HH5 := hide (hx5.hnd HO.out HH4.out)
  have HD5 := hide (HD4.out.npX hx5)
  have HOR2 := hide (hx5.own (cell_block HR4.out.c0) HOR.out)
  clear hq5 hx5 HD4 HQ4 HX4 HR4 HH4 HBY4
  refine wpAnyH_ready (rs := [5]) (by kernel_rfl) (by simp) ?_
  refine AllReadyH.cons (o := _) rfl (fun K hK => ?_) AllReadyH.nil
  go_simp
  go_at_call 23
  refine (of_ev (frE bl) _ HH5.out).mono ?_
  rintro e V6 ⟨rfl, hb6⟩
  go_wp2_with fail
  refine hK.out _ _ ⟨hHeld.1.below hb6, range_belW hHeld.2 hb6⟩ (fun hHeld1 => ?_)
  clear hK K hHeld
  have hHeld := hHeld1
  clear hHeld1
  have HQ6 := hide (HQ5.out.below hb6)
  have HX6 := hide (HX5.out.call hb6)
  have HR6 := hide (HR5.out.below hb6)
  have HD6 := hide (HD5.out.below hb6)
  rw [HCC.out]
  clear hb6 HQ5 HX5 HR5 HH5 HD5
  refine wpAnyH_take (i := 7) (oi := _) (v := .bool true) rfl (by kernel_rfl) (by kernel_rfl) (by kernel_rfl) (fun _ _ _ h => h) (Or.inl ⟨by rfl, by intro w hSw; go_simp⟩) hHeld ?_
  change wpAnyH _ _ _ _ _ _ _ (Act.put _ (some 55) _) _
  simp only [Act.put, List.setIfInBounds_toArray, List.set_cons_zero, List.set_cons_succ]
  refine wpAnyH_ready (rs := [8]) (by kernel_rfl) (by simp) ?_
  refine AllReadyH.cons (o := _) rfl (fun K hK => ?_) AllReadyH.nil
  have e0 := HR6.out.c0
  have e1 := HR6.out.c1
  have e2 := HR6.out.c2
  have f0 := HR6.out.fz 0
  have f1 := HR6.out.fz 1
  have f2 := HR6.out.fz 2
  go_simp
  clear e0 e1 e2 f0 f1 f2
  refine hK.out _ _ ⟨((hHeld.1.setO hrs _).setO hrs _).setO hrs _, rg_set (rg_set (rg_set hHeld.2 hpr) hpr) hpr⟩ (fun hHeld1 => ?_)
  clear hK K hHeld
  have hHeld := hHeld1
  clear hHeld1
  refine wpAnyH_take (i := 9) (oi := _) (v := .bool true) rfl (by kernel_rfl) (by kernel_rfl) (by kernel_rfl) (fun _ _ _ h => h) (Or.inl ⟨by rfl, by intro w hSw; go_simp⟩) hHeld ?_
  change wpAnyH _ _ _ _ _ _ _ (Act.put _ (some 7) _) _
  simp only [Act.put, List.setIfInBounds_toArray, List.set_cons_zero, List.set_cons_succ]
  refine wpAnyH_done (by kernel_rfl) ?_ _
  clear hHeld
  go_wp2
  exact bodyPost_ret (v := .tuple #[.agg #[_, _, _], .bool true]) (res_two Tryd.results8 _ _ R [_, _, _] _ _ rfl rfl (HR6.out.all (.int .i64 r7) (.slice a1 n1 k1) (.slice a2 n2 k2)).rg Tryd.underlying35 rfl infoDd) rfl ⟨_, _, rfl, HQ6.out.set3 HOR2.out _ _ _, HD6.out.npE _ _ _, HX6.out.set3 hwr _ _ _⟩
set_option maxRecDepth 100000 in
set_option maxHeartbeats 8000000 in
theorem da_readok (kd bl cut : Int) (by_ ks : List Int) (ab ak a3 a4 : Option Addr) (cb ck n3 k3 n4 k4 : Nat) (w : World) (hq : Dq w d bS bT u s) (hn : s.wt < 30000) (hh : Hnd w) (ho : ¬ Own d bS bT u 0) (hb : Sl bc w (.slice ab by_.length cb) by_) (hby : Byt by_) (hks : Sl ic w (.slice ak ks.length ck) ks) (hdd : Dd w (No d bS bT u Bd) (.agg #[.int .i64 s.room, .slice a3 n3 k3, .slice a4 n4 k4]) s) (hbd : ∀ k, Bd k → k < w.heap.size) (hk : kd = 2) (hnb : Num bl) :
    Calls Tryd.prog 8 #[.pointer (some ⟨d, 0, none⟩), (.agg #[.int .i64 s.room, .slice a3 n3 k3, .slice a4 n4 k4]), .agg #[.int .i64 kd, .int .i64 bl, .slice ab by_.length cb, .slice ak ks.length ck, .int .i64 cut]] w fun e w' => ∃ v' u', e = .returned (.tuple #[v', .bool true]) ∧ Dq w' d bS bT u' s ∧ Dd w' (No d bS bT u' Bd) v' s ∧ Dx d bS bT u w w' u' := by
  have HDD0 := hide hdd
  have HBD := hide hbd
  have HQ0 := hide hq
  have HH0 := hide hh
  have HO := hide ho
  have HBY0 := hide hb
  have HBT := hide hby
  have HKS0 := hide hks
  have HK := hide hk
  clear hq hh ho hb hby hks hk hdd hbd
  go_enter Tryd.func8, Tryd.ntmps8
  have HNB := hide hnb
  clear hnb
  go_upto_region 1 with (fail)
  have hb1 := al_b0 w (.cells #[.int .i64 s.room, .slice a3 n3 k3, .slice a4 n4 k4] 35)
  have hb2 := al_b0 (w.alloc (.cells #[.int .i64 s.room, .slice a3 n3 k3, .slice a4 n4 k4] 35)) (.cells #[.int .i64 kd, .int .i64 bl, .slice ab by_.length cb, .slice ak ks.length ck, .int .i64 cut] 41)
  have hb3 := al_b0 ((w.alloc (.cells #[.int .i64 s.room, .slice a3 n3 k3, .slice a4 n4 k4] 35)).alloc (.cells #[.int .i64 kd, .int .i64 bl, .slice ab by_.length cb, .slice ak ks.length ck, .int .i64 cut] 41)) (.cells #[.int .i64 0, .slice none 0 0, .slice none 0 0] 35)
  have hD := ((b3_new w (.int .i64 s.room) (.slice a3 n3 k3) (.slice a4 n4 k4) 35).below hb2).below hb3
  have hP := range_belW (range_newW (w.alloc (.cells #[.int .i64 s.room, .slice a3 n3 k3, .slice a4 n4 k4] 35)) [.int .i64 kd, .int .i64 bl, .slice ab by_.length cb, .slice ak ks.length ck, .int .i64 cut] 41) hb3
  have hR := b3_new ((w.alloc (.cells #[.int .i64 s.room, .slice a3 n3 k3, .slice a4 n4 k4] 35)).alloc (.cells #[.int .i64 kd, .int .i64 bl, .slice ab by_.length cb, .slice ak ks.length ck, .int .i64 cut] 41)) (.int .i64 0) (.slice none 0 0) (.slice none 0 0) 35
  have hbb := bt (bt hb1 hb2) hb3
  have s1 : (w.alloc (.cells #[.int .i64 s.room, .slice a3 n3 k3, .slice a4 n4 k4] 35)).heap.size = w.heap.size + 1 := by simp
  have s2 : ((w.alloc (.cells #[.int .i64 s.room, .slice a3 n3 k3, .slice a4 n4 k4] 35)).alloc (.cells #[.int .i64 kd, .int .i64 bl, .slice ab by_.length cb, .slice ak ks.length ck, .int .i64 cut] 41)).heap.size = w.heap.size + 1 + 1 := by simp
  rw [s1] at hP
  rw [s2] at hR
  generalize hV : ((w.alloc (.cells #[.int .i64 s.room, .slice a3 n3 k3, .slice a4 n4 k4] 35)).alloc (.cells #[.int .i64 kd, .int .i64 bl, .slice ab by_.length cb, .slice ak ks.length ck, .int .i64 cut] 41)).alloc (.cells #[.int .i64 0, .slice none 0 0, .slice none 0 0] 35) = V at hD hP hR hbb ⊢
  have HD := hide hD
  have hVB := hide hbb
  have HP := hide hP
  have HR := hide hR
  have HQ := hide (HQ0.out.below hbb)
  have HX : Hid (Dx d bS bT u w V u) := hide (Dx.of hbb)
  have HH := hide (HH0.out.below hbb)
  have HBY := hide (HBY0.out.below hbb)
  have HKS := hide (HKS0.out.below hbb)
  have hOD : ¬ Own d bS bT u w.heap.size := fun q => by have := HQ0.out.dk.lt q; omega
  have hOP : ¬ Own d bS bT u (w.heap.size + 1) := fun q => by have := HQ0.out.dk.lt q; omega
  have hOR : ¬ Own d bS bT u (w.heap.size + 1 + 1) := fun q => by have := HQ0.out.dk.lt q; omega
  have HOD := hide hOD
  have HOP := hide hOP
  have HOR := hide hOR
  have hwr : w.heap.size ≤ w.heap.size + 1 + 1 := by omega
  have hdr : w.heap.size ≠ w.heap.size + 1 + 1 := by omega
  have hpr : w.heap.size + 1 ≠ w.heap.size + 1 + 1 := by omega
  have HDV := hide (HDD0.out.np0 (V := V) (R := w.heap.size + 1 + 1) hVB.out hwr)
  have HRV : Hid (w.heap.size + 1 + 1 < V.heap.size) := hide (cell_block HR.out.c0)
  generalize w.heap.size + 1 + 1 = R at HR HOR hwr hdr hpr HDV HRV ⊢
  generalize w.heap.size + 1 = Pb at HP HOP hpr ⊢
  obtain ⟨d0, d1, d2, _⟩ := hD
  have p0 := HP.out 0 _ rfl
  have p1 := HP.out 1 _ rfl
  have p2 := HP.out 2 _ rfl
  have p3 := HP.out 3 _ rfl
  have p4 := HP.out 4 _ rfl
  simp only [Nat.zero_add] at p0 p1 p2 p3 p4
  clear hV hb1 hb2 hb3 hP hR hbb s1 s2 HQ0 HH0 HBY0 HKS0 HDD0 hVB hOD hOP hOR
  have hk := HK.out
  go_upto_region 10 with (first | (go_at_call 18; refine (q_read bl _ HQ.out HNB.out).mono ?_; rintro e V2 ⟨rfl, hw2⟩; have hb2 : Below V.heap.size V V2 := (by rw [hw2]; exact al_b0 _ _); have HG2 : Hid (V2.heap[V.heap.size]? = some (.cells (bv ((look s.tk bl).getD zer)).toArray 74 (0, 0))) := hide (by rw [hw2]; exact arr_new0 _ _ _); have HQ2 := hide (HQ.out.below hb2); have HX2 := hide (HX.out.call hb2); have HR2 := hide (HR.out.below hb2); have HD2 := hide (HD.out.below hb2); have HP2 := hide (range_belW HP.out hb2); have HH2 := hide (HH.out.below hb2); have HBV2 := hide hb2; clear hw2 hb2))
  have HSL := hide (sl_blk (b := (look s.tk bl).getD zer) (t := 74) (at_len HQ2.out.ok.tb bl) HG2.out)
  have HLL : Hid (((look s.tk bl).getD zer).length ≤ 40000) := hide (by rw [at_len HQ2.out.ok.tb bl]; decide)
  have HL64 : Hid (((look s.tk bl).getD zer).length = 64) := hide (at_len HQ2.out.ok.tb bl)
  have HOK := hide HQ2.out.ok
  have HDV2 := hide (HDV.out.below (HBV2.out))
  generalize V.heap.size = Yb at HSL ⊢
  clear HG2
  clear d0 d1 d2 p0 p1 p2 p3 p4 HQ HX HR HD HP HH HDV
  obtain ⟨d0, d1, d2, _⟩ := HD2.out
  have p1 := HP2.out 1 _ rfl
  simp only [Nat.zero_add] at p1
  go_upto_region 11 with (first | (go_at_call 26; refine (rread_ok _ bl s _ HDV2.out HNB.out HOK.out (wt_80 hn)).mono ?_; rintro e V3 ⟨g3, rfl, hg3, _, hb3⟩; have HS3 := hide (sl_blk (b := (look s.tk bl).getD zer) (t := 5) HL64.out hg3); have HSL3 := hide (HSL.out.below hb3); have HQ3 := hide (HQ2.out.below hb3); have HX3 := hide (HX2.out.call hb3); have HR3 := hide (HR2.out.below hb3); have HD3 := hide (HD2.out.below hb3); have HH3 := hide (HH2.out.below hb3); have HV3 := hide (HDV2.out.below hb3); clear hg3 hb3))
  generalize (look s.tk bl).getD zer = bb at HSL3 HLL HS3 HSL
  clear d0 d1 d2 p1 HQ2 HX2 HR2 HD2 HP2 HH2 HSL HDV2
  refine wp_region_held_drew (S := fun W => B3 W w.heap.size (.int .i64 s.room) (.slice a3 n3 k3) (.slice a4 n4 k4)) (by kernel_rfl) (HD3.out.below (Below.refl _ _).drew) (fun hHeld => ?_)
  have hdw : Below V3.heap.size V3 V3.drew := (Below.refl _ _).drew
  have HQ4 := hide (HQ3.out.below hdw)
  have HX4 := hide (HX3.out.call hdw)
  have HR4 := hide (HR3.out.below hdw)
  have HH4 := hide (HH3.out.below hdw)
  have HS4 := hide (HS3.out.below hdw)
  have HSL4 := hide (HSL3.out.below hdw)
  have HV4 := hide (HV3.out.below hdw)
  generalize V3.drew = V4 at HQ4 HX4 HR4 HH4 HS4 HSL4 HV4 hHeld ⊢
  clear hdw HV3 HQ3 HX3 HR3 HD3 HH3 HS3 HSL3
  refine wpAnyH_take (i := 0) (oi := _) (v := .agg #[.int .i64 s.room, .slice a3 n3 k3, .slice a4 n4 k4]) rfl (by kernel_rfl) (by kernel_rfl) (by kernel_rfl) (fun _ _ _ h => h) (Or.inl ⟨by rfl, by intro w hSw; have h0 := hSw.c0; have h1 := hSw.c1; have h2 := hSw.c2; go_simp⟩) hHeld ?_
  change wpAnyH _ _ _ _ _ _ _ (Act.put _ (some 72) _) _
  simp only [Act.put, List.setIfInBounds_toArray, List.set_cons_zero, List.set_cons_succ]
  refine wpAnyH_take (i := 1) (oi := _) (v := .nilIface) rfl (by kernel_rfl) (by kernel_rfl) (by kernel_rfl) (fun _ _ _ h => h) (Or.inl ⟨by rfl, by intro w hSw; go_simp⟩) hHeld ?_
  change wpAnyH _ _ _ _ _ _ _ (Act.put _ (some 73) _) _
  simp only [Act.put, List.setIfInBounds_toArray, List.set_cons_zero, List.set_cons_succ]
  refine wpAnyH_take (i := 3) (oi := _) (v := .int .i64 0) rfl (by kernel_rfl) (by kernel_rfl) (by kernel_rfl) (fun _ _ _ h => h) (Or.inl ⟨by rfl, by intro w hSw; go_simp⟩) hHeld ?_
  change wpAnyH _ _ _ _ _ _ _ (Act.put _ (some 75) _) _
  simp only [Act.put, List.setIfInBounds_toArray, List.set_cons_zero, List.set_cons_succ]
  refine wpAnyH_ready (rs := [2]) (by kernel_rfl) (by simp) ?_
  refine AllReadyH.cons (o := _) rfl (fun K hK => ?_) AllReadyH.nil
  go_simp
  go_at_call 23
  refine (of_ev (none) _ HH4.out).mono ?_
  rintro e V6 ⟨rfl, hb6⟩
  go_wp2_with fail
  refine hK.out _ _ (hHeld.below hb6) (fun hHeld1 => ?_)
  clear hK K hHeld
  have hHeld := hHeld1
  clear hHeld1
  have HQ6 := hide (HQ4.out.below hb6)
  have HX6 := hide (HX4.out.call hb6)
  have HR6 := hide (HR4.out.below hb6)
  have HS6 := hide (HS4.out.below hb6)
  have HSL6 := hide (HSL4.out.below hb6)
  have HV6 := hide (HV4.out.below hb6)
  simp only [ofV]
  clear hb6 HQ4 HX4 HR4 HH4 HS4 HSL4 HV4
  refine wpAnyH_take (i := 4) (oi := _) (v := .bool true) rfl (by kernel_rfl) (by kernel_rfl) (by kernel_rfl) (fun _ _ _ h => h) (Or.inl ⟨by rfl, by intro w hSw; go_simp⟩) hHeld ?_
  change wpAnyH _ _ _ _ _ _ _ (Act.put _ (some 76) _) _
  simp only [Act.put, List.setIfInBounds_toArray, List.set_cons_zero, List.set_cons_succ]
  have HOR2 := hide HOR.out
  refine wpAnyH_take (i := 5) (oi := _) (v := .bool true) rfl (by kernel_rfl) (by kernel_rfl) (by kernel_rfl) (fun _ _ _ h => h) (Or.inl ⟨by rfl, by intro w hSw; go_simp⟩) hHeld ?_
  change wpAnyH _ _ _ _ _ _ _ (Act.put _ (some 77) _) _
  simp only [Act.put, List.setIfInBounds_toArray, List.set_cons_zero, List.set_cons_succ]
  refine wpAnyH_take (i := 6) (oi := _) (v := .slice (some ⟨Yb, 0, none⟩) 64 64) rfl (by kernel_rfl) (by kernel_rfl) (by kernel_rfl) (fun _ _ _ h => h) (Or.inl ⟨by rfl, by intro w hSw; go_simp⟩) hHeld ?_
  change wpAnyH _ _ _ _ _ _ _ (Act.put _ (some 78) _) _
  simp only [Act.put, List.setIfInBounds_toArray, List.set_cons_zero, List.set_cons_succ]
  refine wpAnyH_take (i := 7) (oi := _) (v := .slice (some ⟨g3, 0, none⟩) 64 64) rfl (by kernel_rfl) (by kernel_rfl) (by kernel_rfl) (fun _ _ _ h => h) (Or.inl ⟨by rfl, by intro w hSw; go_simp⟩) hHeld ?_
  change wpAnyH _ _ _ _ _ _ _ (Act.put _ (some 79) _) _
  simp only [Act.put, List.setIfInBounds_toArray, List.set_cons_zero, List.set_cons_succ]
  refine wpAnyH_ready (rs := [8]) (by kernel_rfl) (by simp) ?_
  refine AllReadyH.cons (o := _) rfl (fun K hK => ?_) AllReadyH.nil
  go_simp
  go_at_call 27
  refine (same_any _ _ bb bb _ HSL6.out HS6.out HLL.out).mono ?_
  rintro e V7 ⟨rfl, hb7⟩
  go_wp2_with fail
  refine hK.out _ _ (hHeld.below hb7) (fun hHeld1 => ?_)
  clear hK K hHeld
  have hHeld := hHeld1
  clear hHeld1
  have HQ7 := hide (HQ6.out.below hb7)
  have HX7 := hide (HX6.out.call hb7)
  have HR7 := hide (HR6.out.below hb7)
  have HV7 := hide (HV6.out.below hb7)
  clear hb7
  refine wpAnyH_take (i := 9) (oi := _) (v := .bool true) rfl (by kernel_rfl) (by kernel_rfl) (by kernel_rfl) (fun _ _ _ h => h) (Or.inl ⟨by rfl, by intro w hSw; go_simp⟩) hHeld ?_
  change wpAnyH _ _ _ _ _ _ _ (Act.put _ (some 81) _) _
  simp only [Act.put, List.setIfInBounds_toArray, List.set_cons_zero, List.set_cons_succ]
  refine wpAnyH_ready (rs := [10]) (by kernel_rfl) (by simp) ?_
  refine AllReadyH.cons (o := _) rfl (fun K hK => ?_) AllReadyH.nil
  have e0 := HR7.out.c0
  have e1 := HR7.out.c1
  have e2 := HR7.out.c2
  have f0 := HR7.out.fz 0
  have f1 := HR7.out.fz 1
  have f2 := HR7.out.fz 2
  go_simp
  clear e0 e1 e2 f0 f1 f2
  refine hK.out _ _ (((hHeld.setO hdr _).setO hdr _).setO hdr _) (fun hHeld1 => ?_)
  clear hK K hHeld
  have hHeld := hHeld1
  clear hHeld1
  refine wpAnyH_take (i := 11) (oi := _) (v := .bool true) rfl (by kernel_rfl) (by kernel_rfl) (by kernel_rfl) (fun _ _ _ h => h) (Or.inl ⟨by rfl, by intro w hSw; go_simp⟩) hHeld ?_
  change wpAnyH _ _ _ _ _ _ _ (Act.put _ (some 7) _) _
  simp only [Act.put, List.setIfInBounds_toArray, List.set_cons_zero, List.set_cons_succ]
  refine wpAnyH_done (by kernel_rfl) ?_ _
  clear hHeld
  go_wp2
  exact bodyPost_ret (v := .tuple #[.agg #[_, _, _], .bool true]) (res_two Tryd.results8 _ _ R [_, _, _] _ _ rfl rfl (HR7.out.all (.int .i64 s.room) (.slice a3 n3 k3) (.slice a4 n4 k4)).rg Tryd.underlying35 rfl infoDd) rfl ⟨_, _, rfl, HQ7.out.set3 HOR2.out _ _ _, HV7.out.npE _ _ _, HX7.out.set3 hwr _ _ _⟩
set_option maxRecDepth 100000 in
set_option maxHeartbeats 8000000 in
theorem da_readno (kd bl cut : Int) (by_ ks : List Int) (ab ak a3 a4 : Option Addr) (cb ck n3 k3 n4 k4 : Nat) (w : World) (hq : Dq w d bS bT u s) (hh : Hnd w) (ho : ¬ Own d bS bT u 0) (hb : Sl bc w (.slice ab by_.length cb) by_) (hby : Byt by_) (hks : Sl ic w (.slice ak ks.length ck) ks) (hdd : Dd w (No d bS bT u Bd) (.agg #[.int .i64 s.room, .slice a3 n3 k3, .slice a4 n4 k4]) s) (hbd : ∀ k, Bd k → k < w.heap.size) (hk : kd = 2) (hnb : ¬ Num bl) :
    Calls Tryd.prog 8 #[.pointer (some ⟨d, 0, none⟩), (.agg #[.int .i64 s.room, .slice a3 n3 k3, .slice a4 n4 k4]), .agg #[.int .i64 kd, .int .i64 bl, .slice ab by_.length cb, .slice ak ks.length ck, .int .i64 cut]] w fun e w' => ∃ v' u', e = .returned (.tuple #[v', .bool true]) ∧ Dq w' d bS bT u' s ∧ Dd w' (No d bS bT u' Bd) v' s ∧ Dx d bS bT u w w' u' := by
  have HDD0 := hide hdd
  have HBD := hide hbd
  have HQ0 := hide hq
  have HH0 := hide hh
  have HO := hide ho
  have HBY0 := hide hb
  have HBT := hide hby
  have HKS0 := hide hks
  have HK := hide hk
  clear hq hh ho hb hby hks hk hdd hbd
  go_enter Tryd.func8, Tryd.ntmps8
  have HNB := hide hnb
  clear hnb
  go_upto_region 1 with (fail)
  have hb1 := al_b0 w (.cells #[.int .i64 s.room, .slice a3 n3 k3, .slice a4 n4 k4] 35)
  have hb2 := al_b0 (w.alloc (.cells #[.int .i64 s.room, .slice a3 n3 k3, .slice a4 n4 k4] 35)) (.cells #[.int .i64 kd, .int .i64 bl, .slice ab by_.length cb, .slice ak ks.length ck, .int .i64 cut] 41)
  have hb3 := al_b0 ((w.alloc (.cells #[.int .i64 s.room, .slice a3 n3 k3, .slice a4 n4 k4] 35)).alloc (.cells #[.int .i64 kd, .int .i64 bl, .slice ab by_.length cb, .slice ak ks.length ck, .int .i64 cut] 41)) (.cells #[.int .i64 0, .slice none 0 0, .slice none 0 0] 35)
  have hD := ((b3_new w (.int .i64 s.room) (.slice a3 n3 k3) (.slice a4 n4 k4) 35).below hb2).below hb3
  have hP := range_belW (range_newW (w.alloc (.cells #[.int .i64 s.room, .slice a3 n3 k3, .slice a4 n4 k4] 35)) [.int .i64 kd, .int .i64 bl, .slice ab by_.length cb, .slice ak ks.length ck, .int .i64 cut] 41) hb3
  have hR := b3_new ((w.alloc (.cells #[.int .i64 s.room, .slice a3 n3 k3, .slice a4 n4 k4] 35)).alloc (.cells #[.int .i64 kd, .int .i64 bl, .slice ab by_.length cb, .slice ak ks.length ck, .int .i64 cut] 41)) (.int .i64 0) (.slice none 0 0) (.slice none 0 0) 35
  have hbb := bt (bt hb1 hb2) hb3
  have s1 : (w.alloc (.cells #[.int .i64 s.room, .slice a3 n3 k3, .slice a4 n4 k4] 35)).heap.size = w.heap.size + 1 := by simp
  have s2 : ((w.alloc (.cells #[.int .i64 s.room, .slice a3 n3 k3, .slice a4 n4 k4] 35)).alloc (.cells #[.int .i64 kd, .int .i64 bl, .slice ab by_.length cb, .slice ak ks.length ck, .int .i64 cut] 41)).heap.size = w.heap.size + 1 + 1 := by simp
  rw [s1] at hP
  rw [s2] at hR
  generalize hV : ((w.alloc (.cells #[.int .i64 s.room, .slice a3 n3 k3, .slice a4 n4 k4] 35)).alloc (.cells #[.int .i64 kd, .int .i64 bl, .slice ab by_.length cb, .slice ak ks.length ck, .int .i64 cut] 41)).alloc (.cells #[.int .i64 0, .slice none 0 0, .slice none 0 0] 35) = V at hD hP hR hbb ⊢
  have HD := hide hD
  have hVB := hide hbb
  have HP := hide hP
  have HR := hide hR
  have HQ := hide (HQ0.out.below hbb)
  have HX : Hid (Dx d bS bT u w V u) := hide (Dx.of hbb)
  have HH := hide (HH0.out.below hbb)
  have HBY := hide (HBY0.out.below hbb)
  have HKS := hide (HKS0.out.below hbb)
  have hOD : ¬ Own d bS bT u w.heap.size := fun q => by have := HQ0.out.dk.lt q; omega
  have hOP : ¬ Own d bS bT u (w.heap.size + 1) := fun q => by have := HQ0.out.dk.lt q; omega
  have hOR : ¬ Own d bS bT u (w.heap.size + 1 + 1) := fun q => by have := HQ0.out.dk.lt q; omega
  have HOD := hide hOD
  have HOP := hide hOP
  have HOR := hide hOR
  have hwr : w.heap.size ≤ w.heap.size + 1 + 1 := by omega
  have hdr : w.heap.size ≠ w.heap.size + 1 + 1 := by omega
  have hpr : w.heap.size + 1 ≠ w.heap.size + 1 + 1 := by omega
  have HDV := hide (HDD0.out.np0 (V := V) (R := w.heap.size + 1 + 1) hVB.out hwr)
  have HRV : Hid (w.heap.size + 1 + 1 < V.heap.size) := hide (cell_block HR.out.c0)
  generalize w.heap.size + 1 + 1 = R at HR HOR hwr hdr hpr HDV HRV ⊢
  generalize w.heap.size + 1 = Pb at HP HOP hpr ⊢
  obtain ⟨d0, d1, d2, _⟩ := hD
  have p0 := HP.out 0 _ rfl
  have p1 := HP.out 1 _ rfl
  have p2 := HP.out 2 _ rfl
  have p3 := HP.out 3 _ rfl
  have p4 := HP.out 4 _ rfl
  simp only [Nat.zero_add] at p0 p1 p2 p3 p4
  clear hV hb1 hb2 hb3 hP hR hbb s1 s2 HQ0 HH0 HBY0 HKS0 HDD0 hVB hOD hOP hOR
  have hk := HK.out
  go_upto_region 10 with (first | (go_at_call 18; refine (bread_bad bl _ HQ.out.dk HNB.out).mono ?_; rintro e V2 ⟨rfl, hw2⟩; have HSL : Hid (Sl bc V2 (.slice none 0 0) []) := hide (Sl.nil _ _ _ _); have HQ2 : Hid (Dq V2 d bS bT u s) := hide (by rw [hw2]; exact HQ.out); have HX2 : Hid (Dx d bS bT u w V2 u) := hide (by rw [hw2]; exact HX.out); have HR2 := hide (by rw [← hw2] at HR; exact HR.out); have HD2 := hide (by rw [← hw2] at HD; exact HD.out); have HP2 := hide (by rw [← hw2] at HP; exact HP.out); have HH2 := hide (by rw [← hw2] at HH; exact HH.out); have HDV2 := hide (by rw [← hw2] at HDV; exact HDV.out); clear hw2))
  have HLL : Hid (([] : List Int).length ≤ 40000) := hide (by decide)
  generalize ([] : List Int) = bb at HSL HLL
  clear d0 d1 d2 p0 p1 p2 p3 p4 HQ HX HR HD HP HH HDV
  obtain ⟨d0, d1, d2, _⟩ := HD2.out
  have p1 := HP2.out 1 _ rfl
  simp only [Nat.zero_add] at p1
  go_upto_region 11 with (first | (go_at_call 26; refine (rreadA_bad _ bl s _ HDV2.out HNB.out).mono ?_; rintro e V3 ⟨rfl, hb3⟩; have HS3 := hide (HSL.out.below hb3); have HSL3 := hide (HSL.out.below hb3); have HQ3 := hide (HQ2.out.below hb3); have HX3 := hide (HX2.out.call hb3); have HR3 := hide (HR2.out.below hb3); have HD3 := hide (HD2.out.below hb3); have HH3 := hide (HH2.out.below hb3); have HV3 := hide (HDV2.out.below hb3); clear hb3))
  skip
  clear d0 d1 d2 p1 HQ2 HX2 HR2 HD2 HP2 HH2 HSL HDV2
  refine wp_region_held_drew (S := fun W => B3 W w.heap.size (.int .i64 s.room) (.slice a3 n3 k3) (.slice a4 n4 k4)) (by kernel_rfl) (HD3.out.below (Below.refl _ _).drew) (fun hHeld => ?_)
  have hdw : Below V3.heap.size V3 V3.drew := (Below.refl _ _).drew
  have HQ4 := hide (HQ3.out.below hdw)
  have HX4 := hide (HX3.out.call hdw)
  have HR4 := hide (HR3.out.below hdw)
  have HH4 := hide (HH3.out.below hdw)
  have HS4 := hide (HS3.out.below hdw)
  have HSL4 := hide (HSL3.out.below hdw)
  have HV4 := hide (HV3.out.below hdw)
  generalize V3.drew = V4 at HQ4 HX4 HR4 HH4 HS4 HSL4 HV4 hHeld ⊢
  clear hdw HV3 HQ3 HX3 HR3 HD3 HH3 HS3 HSL3
  refine wpAnyH_take (i := 0) (oi := _) (v := .agg #[.int .i64 s.room, .slice a3 n3 k3, .slice a4 n4 k4]) rfl (by kernel_rfl) (by kernel_rfl) (by kernel_rfl) (fun _ _ _ h => h) (Or.inl ⟨by rfl, by intro w hSw; have h0 := hSw.c0; have h1 := hSw.c1; have h2 := hSw.c2; go_simp⟩) hHeld ?_
  change wpAnyH _ _ _ _ _ _ _ (Act.put _ (some 72) _) _
  simp only [Act.put, List.setIfInBounds_toArray, List.set_cons_zero, List.set_cons_succ]
  refine wpAnyH_take (i := 1) (oi := _) (v := bft opBlock bl 2) rfl (by kernel_rfl) (by kernel_rfl) (by kernel_rfl) (fun _ _ _ h => h) (Or.inl ⟨by rfl, by intro w hSw; go_simp⟩) hHeld ?_
  change wpAnyH _ _ _ _ _ _ _ (Act.put _ (some 73) _) _
  simp only [Act.put, List.setIfInBounds_toArray, List.set_cons_zero, List.set_cons_succ]
  refine wpAnyH_take (i := 3) (oi := _) (v := .int .i64 2) rfl (by kernel_rfl) (by kernel_rfl) (by kernel_rfl) (fun _ _ _ h => h) (Or.inl ⟨by rfl, by intro w hSw; go_simp⟩) hHeld ?_
  change wpAnyH _ _ _ _ _ _ _ (Act.put _ (some 75) _) _
  simp only [Act.put, List.setIfInBounds_toArray, List.set_cons_zero, List.set_cons_succ]
  refine wpAnyH_ready (rs := [2]) (by kernel_rfl) (by simp) ?_
  refine AllReadyH.cons (o := _) rfl (fun K hK => ?_) AllReadyH.nil
  go_simp
  go_at_call 23
  refine (of_ev (some ([(opBlock, bl)], 2)) _ HH4.out).mono ?_
  rintro e V6 ⟨rfl, hb6⟩
  go_wp2_with fail
  refine hK.out _ _ (hHeld.below hb6) (fun hHeld1 => ?_)
  clear hK K hHeld
  have hHeld := hHeld1
  clear hHeld1
  have HQ6 := hide (HQ4.out.below hb6)
  have HX6 := hide (HX4.out.call hb6)
  have HR6 := hide (HR4.out.below hb6)
  have HS6 := hide (HS4.out.below hb6)
  have HSL6 := hide (HSL4.out.below hb6)
  have HV6 := hide (HV4.out.below hb6)
  simp only [ofV]
  clear hb6 HQ4 HX4 HR4 HH4 HS4 HSL4 HV4
  refine wpAnyH_take (i := 4) (oi := _) (v := .bool true) rfl (by kernel_rfl) (by kernel_rfl) (by kernel_rfl) (fun _ _ _ h => h) (Or.inl ⟨by rfl, by intro w hSw; go_simp⟩) hHeld ?_
  change wpAnyH _ _ _ _ _ _ _ (Act.put _ (some 76) _) _
  simp only [Act.put, List.setIfInBounds_toArray, List.set_cons_zero, List.set_cons_succ]
  have HOR2 := hide HOR.out
  refine wpAnyH_take (i := 5) (oi := _) (v := .bool true) rfl (by kernel_rfl) (by kernel_rfl) (by kernel_rfl) (fun _ _ _ h => h) (Or.inl ⟨by rfl, by intro w hSw; go_simp⟩) hHeld ?_
  change wpAnyH _ _ _ _ _ _ _ (Act.put _ (some 77) _) _
  simp only [Act.put, List.setIfInBounds_toArray, List.set_cons_zero, List.set_cons_succ]
  refine wpAnyH_take (i := 6) (oi := _) (v := .slice none 0 0) rfl (by kernel_rfl) (by kernel_rfl) (by kernel_rfl) (fun _ _ _ h => h) (Or.inl ⟨by rfl, by intro w hSw; go_simp⟩) hHeld ?_
  change wpAnyH _ _ _ _ _ _ _ (Act.put _ (some 78) _) _
  simp only [Act.put, List.setIfInBounds_toArray, List.set_cons_zero, List.set_cons_succ]
  refine wpAnyH_take (i := 7) (oi := _) (v := .slice none 0 0) rfl (by kernel_rfl) (by kernel_rfl) (by kernel_rfl) (fun _ _ _ h => h) (Or.inl ⟨by rfl, by intro w hSw; go_simp⟩) hHeld ?_
  change wpAnyH _ _ _ _ _ _ _ (Act.put _ (some 79) _) _
  simp only [Act.put, List.setIfInBounds_toArray, List.set_cons_zero, List.set_cons_succ]
  refine wpAnyH_ready (rs := [8]) (by kernel_rfl) (by simp) ?_
  refine AllReadyH.cons (o := _) rfl (fun K hK => ?_) AllReadyH.nil
  go_simp
  go_at_call 27
  refine (same_any _ _ bb bb _ HSL6.out HS6.out HLL.out).mono ?_
  rintro e V7 ⟨rfl, hb7⟩
  go_wp2_with fail
  refine hK.out _ _ (hHeld.below hb7) (fun hHeld1 => ?_)
  clear hK K hHeld
  have hHeld := hHeld1
  clear hHeld1
  have HQ7 := hide (HQ6.out.below hb7)
  have HX7 := hide (HX6.out.call hb7)
  have HR7 := hide (HR6.out.below hb7)
  have HV7 := hide (HV6.out.below hb7)
  clear hb7
  refine wpAnyH_take (i := 9) (oi := _) (v := .bool true) rfl (by kernel_rfl) (by kernel_rfl) (by kernel_rfl) (fun _ _ _ h => h) (Or.inl ⟨by rfl, by intro w hSw; go_simp⟩) hHeld ?_
  change wpAnyH _ _ _ _ _ _ _ (Act.put _ (some 81) _) _
  simp only [Act.put, List.setIfInBounds_toArray, List.set_cons_zero, List.set_cons_succ]
  refine wpAnyH_ready (rs := [10]) (by kernel_rfl) (by simp) ?_
  refine AllReadyH.cons (o := _) rfl (fun K hK => ?_) AllReadyH.nil
  have e0 := HR7.out.c0
  have e1 := HR7.out.c1
  have e2 := HR7.out.c2
  have f0 := HR7.out.fz 0
  have f1 := HR7.out.fz 1
  have f2 := HR7.out.fz 2
  go_simp
  clear e0 e1 e2 f0 f1 f2
  refine hK.out _ _ (((hHeld.setO hdr _).setO hdr _).setO hdr _) (fun hHeld1 => ?_)
  clear hK K hHeld
  have hHeld := hHeld1
  clear hHeld1
  refine wpAnyH_take (i := 11) (oi := _) (v := .bool true) rfl (by kernel_rfl) (by kernel_rfl) (by kernel_rfl) (fun _ _ _ h => h) (Or.inl ⟨by rfl, by intro w hSw; go_simp⟩) hHeld ?_
  change wpAnyH _ _ _ _ _ _ _ (Act.put _ (some 7) _) _
  simp only [Act.put, List.setIfInBounds_toArray, List.set_cons_zero, List.set_cons_succ]
  refine wpAnyH_done (by kernel_rfl) ?_ _
  clear hHeld
  go_wp2
  exact bodyPost_ret (v := .tuple #[.agg #[_, _, _], .bool true]) (res_two Tryd.results8 _ _ R [_, _, _] _ _ rfl rfl (HR7.out.all (.int .i64 s.room) (.slice a3 n3 k3) (.slice a4 n4 k4)).rg Tryd.underlying35 rfl infoDd) rfl ⟨_, _, rfl, HQ7.out.set3 HOR2.out _ _ _, HV7.out.npE _ _ _, HX7.out.set3 hwr _ _ _⟩
/-- An act, whatever it is. -/
theorem do_any (v : Value) (p : Ap) (w0 w : World) (hq : Dq w d bS bT u s) (hn : s.wt < 30000) (hh : Hnd w) (ho : ¬ Own d bS bT u 0) (hnb : Nb w0 w d bS bT u) (hp : AcP w0 p) (hdd : Dd w (No d bS bT u Bd) v s) (hbd : ∀ k, Bd k → k < w.heap.size) :
    Calls Tryd.prog 8 #[.pointer (some ⟨d, 0, none⟩), v, .agg (acl p).toArray] w fun e w' => ∃ v' u', e = .returned (.tuple #[v', .bool true]) ∧ Dq w' d bS bT u' (doS s p.1) ∧ Dd w' (No d bS bT u' Bd) v' (doS s p.1) ∧ Dx d bS bT u w w' u' := by
  obtain ⟨⟨kd, bl, by_, ks, cut⟩, vb, vk⟩ := p
  obtain ⟨hb0, hby, hks0⟩ := hp
  simp only at hb0 hby hks0
  obtain ⟨ab, cb, rfl⟩ := hb0.form
  obtain ⟨ak, ck, rfl⟩ := hks0.form
  obtain ⟨a3, n3, k3, a4, n4, k4, rfl⟩ := hdd.form
  have hb := hb0.below hnb.be
  have hks := hks0.below hnb.be
  by_cases h0 : kd = 0
  · rw [show doS s ⟨kd, bl, by_, ks, cut⟩ = wrS s bl by_ by simp [doS, h0]]
    exact da_write kd bl cut by_ ks ab ak a3 a4 cb ck n3 k3 n4 k4 w hq hn hh ho hb hby hks hdd hbd h0
  by_cases h1 : kd = 1
  · rw [show doS s ⟨kd, bl, by_, ks, cut⟩ = frS s bl by simp [doS, h1]]
    exact da_free kd bl cut by_ ks ab ak a3 a4 cb ck n3 k3 n4 k4 w hq hn hh ho hb hby hks hdd hbd h1
  by_cases h2 : kd = 2
  · rw [show doS s ⟨kd, bl, by_, ks, cut⟩ = s by simp [doS, h2]]
    by_cases hnum : Num bl
    · exact da_readok kd bl cut by_ ks ab ak a3 a4 cb ck n3 k3 n4 k4 w hq hn hh ho hb hby hks hdd hbd h2 hnum
    · exact da_readno kd bl cut by_ ks ab ak a3 a4 cb ck n3 k3 n4 k4 w hq hh ho hb hby hks hdd hbd h2 hnum
  by_cases h3 : kd = 3
  · rw [show doS s ⟨kd, bl, by_, ks, cut⟩ = syS s by simp [doS, h3]]
    exact da_sync kd bl cut by_ ks ab ak a3 a4 cb ck n3 k3 n4 k4 w hq hn hh ho hb hby hks hdd hbd h3
  by_cases h4 : kd = 4
  · rw [show doS s ⟨kd, bl, by_, ks, cut⟩ = crS s ks cut by simp [doS, h4]]
    exact da_crash kd bl cut by_ ks ab ak a3 a4 cb ck n3 k3 n4 k4 w hq hn hh ho hb hby hks hdd hbd h4 (fun W9 u9 hx => hks0.below (hnb.step hx).be)
  by_cases h5 : kd = 5
  · rw [show doS s ⟨kd, bl, by_, ks, cut⟩ = ⟨s.room, [], []⟩ by simp [doS, h5]]
    exact da_wipe kd bl cut by_ ks ab ak a3 a4 cb ck n3 k3 n4 k4 w hq hh ho hb hby hks hdd hbd h5
  · rw [show doS s ⟨kd, bl, by_, ks, cut⟩ = s by simp [doS, h0, h1, h2, h3, h4, h5]]
    exact da_else kd bl cut by_ ks ab ak a3 a4 cb ck n3 k3 n4 k4 w hq hh ho hb hby hks hdd hbd ⟨h0, h1, h2, h3, h4, h5⟩
end
end Go.Proofs.YtpmpmdlmcpakiaaDoor
