/-
  MAY A PARTITION BE, AS THE DOCUMENT HAS 30 (castellanref15.Right).
-/
import Derived.Test.YtlggjgapdpkhiaaGreatJKFrameReca5
import Derived.Test.YtlggjgapdpkhiaaGreatJKRecBroa2
import Derived.Test.YtlggjgapdpkhiaaGreatJKImCpa5
import Derived.Test.YtlggjgapdpkhiaaGreatJKImQha3
namespace Go.Proofs.YtlggjgapdpkhiaaGreat
open Go.RowKit
def ra1 (l : List Bk) (p : Pt) : Bool := p.ids.isEmpty || p.ids.any fun i => (fB l i).isNone
def ra2 (p : Pt) : Bool := p.isr.isEmpty || p.isr.any fun i => !p.ids.contains i
def ra3 (l : List Bk) (p : Pt) : Bool := p.ld != 0 && (!p.isr.contains p.ld || !alive l p.ld)
def ra4 (p : Pt) : Bool := p.ad.any (fun i => !p.ids.contains i || p.dr.contains i) || p.dr.any fun i => !p.ids.contains i
theorem or_any2 {α : Type} (f g : α → Bool) (l : List α) : (l.any fun x => f x || g x) = (l.any f || l.any g) := by
 induction l with
 | nil => rfl
 | cons x l ih =>
  simp only [List.any_cons, ih]
  cases f x <;> cases g x <;> cases l.any f <;> cases l.any g <;> rfl
theorem ra4_eq (p : Pt) : ra4 p = (p.ad.any (fun i => !p.ids.contains i) || p.dr.any (fun i => !p.ids.contains i) || p.ad.any (fun i => p.dr.contains i)) := by
 unfold ra4
 rw [or_any2]
 cases p.ad.any (fun i => !p.ids.contains i) <;> cases p.dr.any (fun i => !p.ids.contains i) <;> cases p.ad.any (fun i => p.dr.contains i) <;> rfl
theorem right_r (l : List Bk) (p : Pt) : right l p = if ra1 l p = true then 18 else if ra2 p = true then 18 else if ra3 l p = true then 17 else if ra4 p = true then 18 else 0 := by
 rw [ra4_eq]
 rfl
theorem right_1 {l : List Bk} {p : Pt} (h : ra1 l p = true) : right l p = 18 := by rw [right_r, if_pos h]
theorem right_2 {l : List Bk} {p : Pt} (h1 : ra1 l p = false) (h : ra2 p = true) : right l p = 18 := by rw [right_r, if_neg (by simp [h1]), if_pos h]
theorem right_3 {l : List Bk} {p : Pt} (h1 : ra1 l p = false) (h2 : ra2 p = false) (h : ra3 l p = true) : right l p = 17 := by rw [right_r, if_neg (by simp [h1]), if_neg (by simp [h2]), if_pos h]
theorem right_4 {l : List Bk} {p : Pt} (h1 : ra1 l p = false) (h2 : ra2 p = false) (h3 : ra3 l p = false) (h : ra4 p = true) : right l p = 18 := by rw [right_r, if_neg (by simp [h1]), if_neg (by simp [h2]), if_neg (by simp [h3]), if_pos h]
theorem right_0 {l : List Bk} {p : Pt} (h1 : ra1 l p = false) (h2 : ra2 p = false) (h3 : ra3 l p = false) (h : ra4 p = false) : right l p = 0 := by rw [right_r, if_neg (by simp [h1]), if_neg (by simp [h2]), if_neg (by simp [h3]), if_neg (by simp [h])]
structure Rt (w W : World) (m : Im) (p : Ip) (q : Pp) : Prop where
 i : Bx W w.heap.size (iml m p)
 c : Bx W (w.heap.size + 1) (ptc q)
 b : Below w.heap.size w W
theorem Rt.below {w W W' : World} {m : Im} {p : Ip} {q : Pp} (h : Rt w W m p q) (hb : Below W.heap.size W W') : Rt w W' m p q := ⟨h.i.below hb, h.c.below hb, bt h.b hb⟩
theorem Rt.drewN {w W : World} {m : Im} {p : Ip} {q : Pp} (h : Rt w W m p q) (n : Nat) : Rt w (W.drewN n) m p q := ⟨h.i.drewN n, h.c.drewN n, ⟨h.b.os, h.b.tape, h.b.output, h.b.size, h.b.block⟩⟩
theorem sl_cell {W : World} {ao : Option Addr} {cap : Nat} {l : List Int} (h : Sl ic W (.slice ao l.length cap) l) {k : Nat} (hk : k < l.length) : ∃ b o, ao = some ⟨b, o, none⟩ ∧ W.rangeAt b (o + k) [ic l[k]] := by
 rcases h with ⟨_, _, e, _⟩ | ⟨b, o, c, e, h2, h3⟩
 ·subst e; simp at hk
 ·cases e
  refine ⟨b, o, rfl, fun j u hu => ?_⟩
  rcases j with _ | j
  ·simp only [List.getElem?_cons_zero, Option.some.injEq] at hu
   subst hu
   exact h3 k hk
  ·simp at hu
def brB (o : Option Bk) : Bool := o.isSome
def brS : Option Bk → List Value
 | some b => [.int .i64 b.id, .int .i64 b.ep, .string ⟨b.rk.toArray⟩, .bool b.fe, .bool b.lv]
 | none => [.int .i64 0, .int .i64 0, .string ⟨#[]⟩, .bool false, .bool false]
theorem brV_eq (o : Option Bk) : brV o = .tuple #[.agg (brS o).toArray, .bool (brB o)] := by cases o <;> rfl
theorem brS_form (o : Option Bk) : ∃ a b c d e, brS o = [.int .i64 a, .int .i64 b, .string c, .bool d, .bool e] := by cases o <;> exact ⟨_, _, _, _, _, rfl⟩
theorem rg_setsQ {g o k : Nat} {cs : List Value} {W : World} (h : W.rangeAt g o cs) (hk : ¬ g = k) : ∀ (ds : List Value) (i : Nat), (W.setCells k i ds).rangeAt g o cs
 | [], _ => h
 | d :: ds, i => by
  rw [World.setCells]
  exact rg_setsQ (fun j x hx => (World.cell?_setCell_other _ _ _ _ (fun e => hk (congrArg Addr.block e).symm)).trans (h j x hx)) hk ds (i + 1)
set_option maxRecDepth 100000 in
set_option maxHeartbeats 16000000 in
theorem rright_any (m : Im) (p : Ip) (q : Pp) (w : World) (hv : ImR w m p) (hl : m.br.length ≤ 100000) (hq : PtR w q) (hw : WfP q.1) : Calls Tryz.prog 108 #[imv m p, .agg (ptc q).toArray] w fun e w' => e = .returned (.int .i64 (right m.br q.1)) ∧ Below w.heap.size w w' := by
 have HV := Hd (fun W (h : Below w.heap.size w W) => hv.below h)
 have HQ := Hd (fun W (h : Below w.heap.size w W) => hq.below h)
 have HL := Hd hl
 have HR0 : Hid (Rt w ((w.alloc (.cells (List.toArray [Value.slice p.ab m.br.length p.cb, .slice p.aq p.ts.length p.cq, .slice p.ac m.cf.length p.cc, .slice p.ad m.dn.length p.cd, .int .i64 m.la]) 30)).alloc (.cells (List.toArray [Value.slice q.2.a0 q.1.ids.length q.2.c0, .slice q.2.a1 q.1.isr.length q.2.c1, .int .i64 q.1.ld, .int .i64 q.1.ep, .slice q.2.a2 q.1.ad.length q.2.c2, .slice q.2.a3 q.1.dr.length q.2.c3]) 44)) m p q) := Hd (by
  obtain ⟨h1, h2, h3⟩ := Bx.mk2 w (iml m p) (ptc q) 30 44 (Below.refl _ _)
  exact ⟨h1, h2, h3⟩)
 have hl0 := hw.l0
 have hl1 := hw.l1
 have hl2 := hw.l2
 have hl3 := hw.l3
 have HAL := Hd (fun W (h : Below w.heap.size w W) => ralive_any m p q.1.ld W (hv.below h) hl)
 have HHS := Hd (fun x W (h : Below w.heap.size w W) => rhas_any _ q.1.isr x W (hq.below h).s1 (by omega))
 have HHI := Hd (fun x W (h : Below w.heap.size w W) => rhas_any _ q.1.ids x W (hq.below h).s0 (by omega))
 have HHD := Hd (fun x W (h : Below w.heap.size w W) => rhas_any _ q.1.dr x W (hq.below h).s3 (by omega))
 clear hv hq hl hw
 generalize hrc : right m.br q.1 = rc
 have HRC := Hd hrc
 clear hrc
 have H1 := Hd (@right_1 m.br q.1)
 have H2 := Hd (@right_2 m.br q.1)
 have H3 := Hd (@right_3 m.br q.1)
 have H4 := Hd (@right_4 m.br q.1)
 have H0 := Hd (@right_0 m.br q.1)
 have HD1 : Hid (ra1 m.br q.1 = (q.1.ids.isEmpty || q.1.ids.any fun i => (fB m.br i).isNone)) := Hd rfl
 have HD2 : Hid (ra2 q.1 = (q.1.isr.isEmpty || q.1.isr.any fun i => !q.1.ids.contains i)) := Hd rfl
 have HD3 : Hid (ra3 m.br q.1 = (q.1.ld != 0 && (!q.1.isr.contains q.1.ld || !alive m.br q.1.ld))) := Hd rfl
 have HD4 : Hid (ra4 q.1 = (q.1.ad.any (fun i => !q.1.ids.contains i || q.1.dr.contains i) || q.1.dr.any fun i => !q.1.ids.contains i)) := Hd rfl
 obtain ⟨⟨ids, isr, ld, ep, ad, dr⟩, ⟨a0, a1, a2, a3, c0, c1, c2, c3⟩⟩ := q
 unfold imv ptc at *
 dsimp only at *
 go_enter Tryz.func108, Tryz.ntmps108
 go_upto_region 1 with fail
 generalize (w.alloc (.cells (List.toArray [Value.slice p.ab m.br.length p.cb, .slice p.aq p.ts.length p.cq, .slice p.ac m.cf.length p.cc, .slice p.ad m.dn.length p.cd, .int .i64 m.la]) 30)).alloc (.cells (List.toArray [Value.slice a0 ids.length c0, .slice a1 isr.length c1, .int .i64 ld, .int .i64 ep, .slice a2 ad.length c2, .slice a3 dr.length c3]) 44) = X at HR0 ⊢
 have HR := Hd HR0.out
 clear HR0
 have p0 := HR.out.c.at 0 _ rfl
 by_cases hz : ids.length = 0
 ·have hzI : ((ids.length : Int) == 0) = true := by simp [hz]
  have HT : Hid (ra1 m.br ⟨ids, isr, ld, ep, ad, dr⟩ = true) := Hd (by
   obtain rfl : ids = [] := List.length_eq_zero_iff.1 hz
   rfl)
  clear hz
  go_wp2_with fail
  go_ret
  exact ⟨by rw [← HRC.out, H1.out HT.out]; rfl, HR.out.b⟩
 ·have hzI : ((ids.length : Int) == 0) = false := by simp; exact fun h => hz (by rw [h]; rfl)
  go_upto_region 4 with fail
  clear hzI p0
  go_loopw [5] (fun i W => ∃ k : Nat, k ≤ ids.length ∧ i = .int .i64 (k : Int) ∧ Rt w W m p ((⟨ids, isr, ld, ep, ad, dr⟩ : Pt), (⟨a0, a1, a2, a3, c0, c1, c2, c3⟩ : P4)) ∧ ∀ j (hj : j < ids.length), j < k → (fun i => (fB m.br i).isNone) ids[j] = false) (fun i _ => ids.length - (ivQ i).toNat)
  case atStart => exact ⟨0, Nat.zero_le _, rfl, HR.out, fun j _ h => absurd h (Nat.not_lt_zero j)⟩
  case round =>
   clear HR
   obtain ⟨k, hk, rfl, hr, hall⟩ := hrel
   have HR := Hd hr
   have HA := Hd hall
   clear hr hall
   have p0 := HR.out.c.at 0 _ rfl
   by_cases hlt : k < ids.length
   ·have hltI : (k : Int) < (ids.length : Int) := by omega
    obtain ⟨bi, oi, rfl, hrg⟩ := sl_cell (HQ.out wr HR.out.b).s0 hlt
    have HX := Hd hrg
    have HUP := Hd (up_to (f := fun i => (fB m.br i).isNone) HA.out hlt)
    have HYE := Hd (any_yes (f := fun i => (fB m.br i).isNone) hlt)
    clear hrg
    generalize ids[k] = x at HX HUP HYE
    unfold ic at HX
    go_upto_region 6 with fail
    clear p0
    go_cut [7] (fun y W => y = .bool (brB (fB m.br x)) ∧ Rt w W m p ((⟨ids, isr, ld, ep, ad, dr⟩ : Pt), (⟨some ⟨bi, oi, none⟩, a1, a2, a3, c0, c1, c2, c3⟩ : P4)))
    case first =>
     have hdw : Below wr.heap.size wr wr.drew := (Below.refl _ _).drew
     refine wp_region_held_drew (S := fun W => Rt w W m p ((⟨ids, isr, ld, ep, ad, dr⟩ : Pt), (⟨some ⟨bi, oi, none⟩, a1, a2, a3, c0, c1, c2, c3⟩ : P4)) ∧ W.rangeAt bi (oi + k) [.int .i64 x]) (by kernel_rfl) ⟨HR.out.below hdw, rg_bel HX.out hdw⟩ (fun hHeld => ?_)
     have HBW := Hd (HR.out.b.trans (hdw.mono HR.out.b.size))
     have HBK := Hd (rbroker_any m p x wr.drew (HV.out _ HBW.out) HL.out)
     have HB4 := Hd hdw
     generalize wr.drew = V4 at HB4 HBW HBK hHeld ⊢
     clear hdw
     have HG0 : Hid (w.heap.size + 2 ≤ V4.heap.size ∧ bi < V4.heap.size) := Hd ⟨hHeld.1.c.l, cB (hHeld.2 0 _ rfl)⟩
     rw [brV_eq] at HBK
     obtain ⟨s1, s2, s3, s4, s5, hsf⟩ := brS_form (fB m.br x)
     rw [hsf] at HBK
     clear hsf
     unfold imv at HBK
     refine tky 0 23 (_) rfl rfl (yieldsIf_load_mid (by rfl) _ _ rfl _ _ rfl (iml m p) _ (fun W hW => hW.1.i.c) Tryz.underlying30 rfl (by kernel_rfl)) hHeld ?_
     simp only [Act.put, zA, zB, zC]
     refine tk 1 24 (.pointer (some ⟨w.heap.size + 1, 0, none⟩)) rfl rfl hHeld ?_
     simp only [Act.put, zA, zB, zC]
     refine tky 2 25 (.slice (some ⟨bi, oi, none⟩) ids.length c0) rfl rfl (Or.inl ⟨by rfl, by intro w hSw; have h0 := hSw.1.c.at 0 _ rfl; go_simp⟩) hHeld ?_
     simp only [Act.put, zA, zB, zC]
     refine tk 3 26 (.int .i64 (k : Int)) rfl rfl hHeld ?_
     simp only [Act.put, zA, zB, zC]
     refine tk 4 27 (.pointer (some ⟨bi, oi + k, none⟩)) rfl rfl hHeld ?_
     simp only [Act.put, zA, zB, zC]
     refine tky 5 28 (.int .i64 x) rfl rfl (Or.inl ⟨by rfl, by intro w hSw; have h1 := hSw.2 0 _ rfl; simp only [Nat.add_zero] at h1; go_simp⟩) hHeld ?_
     simp only [Act.put, zA, zB, zC]
     refine wpAnyH_ready (rs := [6, 10]) (by kernel_rfl) (by simp) ?_
     refine AllReadyH.cons (o := _) rfl (fun K hK => ?_) (AllReadyH.cons (o := _) rfl (fun K hK => ?_) AllReadyH.nil)
     ·go_simp
      go_at_call 8
      refine (HBK.out).mono ?_
      rintro e V6 ⟨rfl, hbx⟩
      go_wp2_with fail
      refine hK.out _ _ ⟨hHeld.1.below hbx, rg_bel hHeld.2 hbx⟩ (fun hHeld1 => ?_)
      clear hK K hHeld
      have hHeld := hHeld1
      clear hHeld1
      have HG : Hid (w.heap.size + 2 ≤ V6.heap.size ∧ bi < V6.heap.size) := Hd ⟨hHeld.1.c.l, cB (hHeld.2 0 _ rfl)⟩
      refine tk 7 22 (.tuple #[.agg #[.int .i64 s1, .int .i64 s2, .string s3, .bool s4, .bool s5], .bool (brB (fB m.br x))]) rfl rfl hHeld ?_
      simp only [Act.put, zA, zB, zC]
      refine tk 8 30 (.agg #[.int .i64 s1, .int .i64 s2, .string s3, .bool s4, .bool s5]) rfl rfl hHeld ?_
      simp only [Act.put, zA, zB, zC]
      refine tk 9 31 (.bool (brB (fB m.br x))) rfl rfl hHeld ?_
      simp only [Act.put, zA, zB, zC]
      refine wpAnyH_ready (rs := [10]) (by kernel_rfl) (by simp) ?_
      refine AllReadyH.cons (o := _) rfl (fun K hK => ?_) AllReadyH.nil
      go_simp
      refine hK.out _ _ ⟨hHeld.1.below (bA _ _), rg_bel hHeld.2 (bA _ _)⟩ (fun hHeld1 => ?_)
      clear hK K hHeld
      have hHeld := hHeld1
      clear hHeld1
      have hzz := Bx.new V6 [Value.int .i64 0, .int .i64 0, .string ⟨#[]⟩, .bool false, .bool false] 33
      replace hzz : Bx (V6.alloc (.cells (List.toArray [Value.int .i64 0, .int .i64 0, .string ⟨#[]⟩, .bool false, .bool false]) 33)) V6.heap.size [Value.int .i64 0, .int .i64 0, .string ⟨#[]⟩, .bool false, .bool false] := hzz
      have hg1 := HG.out.1
      have hg2 := HG.out.2
      have hn1 : ¬ w.heap.size = V6.heap.size := by omega
      have hn2 : ¬ w.heap.size + 1 = V6.heap.size := by omega
      have hn3 : w.heap.size ≤ V6.heap.size := by omega
      have hn4 : ¬ bi = V6.heap.size := by omega
      clear hg1 hg2
      generalize V6.alloc (.cells (List.toArray [Value.int .i64 0, .int .i64 0, .string ⟨#[]⟩, .bool false, .bool false]) 33) = V7 at hzz hHeld ⊢
      generalize V6.heap.size = gg at hzz hn1 hn2 hn3 hn4 ⊢
      refine wpAnyH_ready (rs := [11]) (by kernel_rfl) (by simp) ?_
      refine AllReadyH.cons (o := _) rfl (fun K hK => ?_) AllReadyH.nil
      obtain ⟨e0, e1, e2, e3, e4⟩ := hzz.c5
      have f0 := hzz.f 0 (by decide)
      have f1 := hzz.f 1 (by decide)
      have f2 := hzz.f 2 (by decide)
      have f3 := hzz.f 3 (by decide)
      have f4 := hzz.f 4 (by decide)
      go_simp
      clear e0 e1 e2 e3 e4 f0 f1 f2 f3 f4
      refine hK.out _ _ ⟨⟨hHeld.1.i.apart hn1 ([Value.int .i64 s1, .int .i64 s2, .string s3, .bool s4, .bool s5]) 0, hHeld.1.c.apart hn2 ([Value.int .i64 s1, .int .i64 s2, .string s3, .bool s4, .bool s5]) 0, below_sets hn3 ([Value.int .i64 s1, .int .i64 s2, .string s3, .bool s4, .bool s5]) 0 _ hHeld.1.b⟩, rg_setsQ hHeld.2 hn4 ([Value.int .i64 s1, .int .i64 s2, .string s3, .bool s4, .bool s5]) 0⟩ (fun hHeld1 => ?_)
      clear hK K hHeld
      have hHeld := hHeld1
      clear hHeld1
      refine tk 12 7 (.bool (brB (fB m.br x))) rfl rfl hHeld ?_
      simp only [Act.put, zA, zB, zC]
      refine wpAnyH_done (by kernel_rfl) ?_ _
      have HRR := Hd hHeld.1
      clear hHeld
      go_wp2_with fail
      go_meet
      exact ⟨rfl, HRR.out⟩
     ·go_simp
      refine hK.out _ _ ⟨hHeld.1.below (bA _ _), rg_bel hHeld.2 (bA _ _)⟩ (fun hHeld1 => ?_)
      clear hK K hHeld
      have hHeld := hHeld1
      clear hHeld1
      have HZB := Hd (Bx.new V4 [Value.int .i64 0, .int .i64 0, .string ⟨#[]⟩, .bool false, .bool false] 33)
      replace HZB : Hid (Bx (V4.alloc (.cells (List.toArray [Value.int .i64 0, .int .i64 0, .string ⟨#[]⟩, .bool false, .bool false]) 33)) V4.heap.size [Value.int .i64 0, .int .i64 0, .string ⟨#[]⟩, .bool false, .bool false]) := HZB
      have HG : Hid (w.heap.size + 2 ≤ V4.heap.size ∧ bi < V4.heap.size) := HG0
      have HB5 := Hd (bt HBW.out (bA V4 (.cells (List.toArray [Value.int .i64 0, .int .i64 0, .string ⟨#[]⟩, .bool false, .bool false]) 33)))
      have HBK5 := Hd (rbroker_any m p x (V4.alloc (.cells (List.toArray [Value.int .i64 0, .int .i64 0, .string ⟨#[]⟩, .bool false, .bool false]) 33)) (HV.out _ HB5.out) HL.out)
      rw [brV_eq] at HBK5
      obtain ⟨s1, s2, s3, s4, s5, hsf⟩ := brS_form (fB m.br x)
      rw [hsf] at HBK5
      clear hsf
      unfold imv at HBK5
      generalize V4.alloc (.cells (List.toArray [Value.int .i64 0, .int .i64 0, .string ⟨#[]⟩, .bool false, .bool false]) 33) = V5 at HZB HBK5 HB5 hHeld ⊢
      refine wpAnyH_ready (rs := [6]) (by kernel_rfl) (by simp) ?_
      refine AllReadyH.cons (o := _) rfl (fun K hK => ?_) AllReadyH.nil
      go_simp
      go_at_call 8
      refine (HBK5.out).mono ?_
      rintro e V6 ⟨rfl, hbx⟩
      go_wp2_with fail
      refine hK.out _ _ ⟨hHeld.1.below hbx, rg_bel hHeld.2 hbx⟩ (fun hHeld1 => ?_)
      clear hK K hHeld
      have hHeld := hHeld1
      clear hHeld1
      refine tk 7 22 (.tuple #[.agg #[.int .i64 s1, .int .i64 s2, .string s3, .bool s4, .bool s5], .bool (brB (fB m.br x))]) rfl rfl hHeld ?_
      simp only [Act.put, zA, zB, zC]
      refine tk 8 30 (.agg #[.int .i64 s1, .int .i64 s2, .string s3, .bool s4, .bool s5]) rfl rfl hHeld ?_
      simp only [Act.put, zA, zB, zC]
      refine tk 9 31 (.bool (brB (fB m.br x))) rfl rfl hHeld ?_
      simp only [Act.put, zA, zB, zC]
      have hzz := HZB.out.below hbx
      have hg1 := HG.out.1
      have hg2 := HG.out.2
      have hn1 : ¬ w.heap.size = V4.heap.size := by omega
      have hn2 : ¬ w.heap.size + 1 = V4.heap.size := by omega
      have hn3 : w.heap.size ≤ V4.heap.size := by omega
      have hn4 : ¬ bi = V4.heap.size := by omega
      clear hg1 hg2
      generalize V4.heap.size = gg at hzz hn1 hn2 hn3 hn4 ⊢
      refine wpAnyH_ready (rs := [11]) (by kernel_rfl) (by simp) ?_
      refine AllReadyH.cons (o := _) rfl (fun K hK => ?_) AllReadyH.nil
      obtain ⟨e0, e1, e2, e3, e4⟩ := hzz.c5
      have f0 := hzz.f 0 (by decide)
      have f1 := hzz.f 1 (by decide)
      have f2 := hzz.f 2 (by decide)
      have f3 := hzz.f 3 (by decide)
      have f4 := hzz.f 4 (by decide)
      go_simp
      clear e0 e1 e2 e3 e4 f0 f1 f2 f3 f4
      refine hK.out _ _ ⟨⟨hHeld.1.i.apart hn1 ([Value.int .i64 s1, .int .i64 s2, .string s3, .bool s4, .bool s5]) 0, hHeld.1.c.apart hn2 ([Value.int .i64 s1, .int .i64 s2, .string s3, .bool s4, .bool s5]) 0, below_sets hn3 ([Value.int .i64 s1, .int .i64 s2, .string s3, .bool s4, .bool s5]) 0 _ hHeld.1.b⟩, rg_setsQ hHeld.2 hn4 ([Value.int .i64 s1, .int .i64 s2, .string s3, .bool s4, .bool s5]) 0⟩ (fun hHeld1 => ?_)
      clear hK K hHeld
      have hHeld := hHeld1
      clear hHeld1
      refine tk 12 7 (.bool (brB (fB m.br x))) rfl rfl hHeld ?_
      simp only [Act.put, zA, zB, zC]
      refine wpAnyH_done (by kernel_rfl) ?_ _
      have HRR := Hd hHeld.1
      clear hHeld
      go_wp2_with fail
      go_meet
      exact ⟨rfl, HRR.out⟩
    case rest =>
     obtain ⟨rfl, hr⟩ := hcut
     replace HR := Hd hr
     clear hr
     cases hf : fB m.br x with
     | none =>
      have HT : Hid (ra1 m.br ⟨ids, isr, ld, ep, ad, dr⟩ = true) := Hd (by
       rw [HD1.out, Bool.or_eq_true]
       exact .inr (HYE.out (by rw [hf]; rfl)))
      unfold brB
      clear hf
      go_wp2_with fail
      go_ret
      exact ⟨by rw [← HRC.out, H1.out HT.out]; rfl, HR.out.b⟩
     | some b0 =>
      have HU := Hd (HUP.out (by rw [hf]; rfl))
      unfold brB
      clear hf
      go_wp2_with fail
      go_roundw
      case rel => exact ⟨k + 1, by omega, by go_num, HR.out, HU.out⟩
      case measure => simp [ivQ]; omega
   ·obtain rfl : k = ids.length := by omega
    have HF1 : Hid (ra1 m.br ⟨ids, isr, ld, ep, ad, dr⟩ = false) := Hd (by
     rw [HD1.out, Bool.or_eq_false_iff]
     refine ⟨?_, any_no (f := fun i => (fB m.br i).isNone) (fun j hj => HA.out j hj hj)⟩
     cases ids with
     | nil => exact absurd rfl hz
     | cons _ _ => rfl)
    have p1 := HR.out.c.at 1 _ rfl
    by_cases hz2 : isr.length = 0
    ·have hzI : ((isr.length : Int) == 0) = true := by simp [hz2]
     have HT : Hid (ra2 ⟨ids, isr, ld, ep, ad, dr⟩ = true) := Hd (by
      obtain rfl : isr = [] := List.length_eq_zero_iff.1 hz2
      rfl)
     clear hz2
     go_wp2_with fail
     go_ret
     exact ⟨by rw [← HRC.out, H2.out HF1.out HT.out]; rfl, HR.out.b⟩
    ·have hzI : ((isr.length : Int) == 0) = false := by simp; exact fun h => hz2 (by rw [h]; rfl)
     go_upto_region 12 with fail
     clear hzI p0 p1
     go_loopw [8] (fun i W => ∃ k : Nat, k ≤ isr.length ∧ i = .int .i64 (k : Int) ∧ Rt w W m p ((⟨ids, isr, ld, ep, ad, dr⟩ : Pt), (⟨a0, a1, a2, a3, c0, c1, c2, c3⟩ : P4)) ∧ ∀ j (hj : j < isr.length), j < k → (fun i => !ids.contains i) isr[j] = false) (fun i _ => isr.length - (ivQ i).toNat)
     case atStart => exact ⟨0, Nat.zero_le _, rfl, HR.out, fun j _ h => absurd h (Nat.not_lt_zero j)⟩
     case round =>
      clear HR HA
      obtain ⟨k, hk, rfl, hr, hall⟩ := hrel
      have HR := Hd hr
      have HA := Hd hall
      clear hr hall
      have p0 := HR.out.c.at 0 _ rfl
      have p1 := HR.out.c.at 1 _ rfl
      by_cases hlt : k < isr.length
      ·have hltI : (k : Int) < (isr.length : Int) := by omega
       obtain ⟨bi, oi, rfl, hrg⟩ := sl_cell (HQ.out wr HR.out.b).s1 hlt
       have HX := Hd hrg
       have HUP := Hd (up_to (f := fun i => !ids.contains i) HA.out hlt)
       have HYE := Hd (any_yes (f := fun i => !ids.contains i) hlt)
       clear hrg
       generalize isr[k] = x at HX HUP HYE
       unfold ic at HX
       have x0 : wr.cell? ⟨bi, oi + k, none⟩ = some (.int .i64 x) := HX.out 0 _ rfl
       have HHx := Hd (fun W h => HHI.out x W h)
       cases hcb : ids.contains x with
       | true =>
        rw [hcb] at HHx
        have HU := Hd (HUP.out (by rw [hcb]; rfl))
        clear hcb HUP HYE
        go_wp2_with fail
        go_quiet ((go_at_call 135; with_reducible exact Calls.quiet_of_same (HHx.out _ (below_drewN HR.out.b _))))
        replace HR := Hd (HR.out.drewN nq)
        clear p0 p1 x0
        go_wp2_with fail
        go_roundw
        case rel => exact ⟨k + 1, by omega, by go_num, HR.out, HU.out⟩
        case measure => simp [ivQ]; omega
       | false =>
        rw [hcb] at HHx
        have HT : Hid (ra2 ⟨ids, isr, ld, ep, ad, dr⟩ = true) := Hd (by
         rw [HD2.out, Bool.or_eq_true]
         exact .inr (HYE.out (by rw [hcb]; rfl)))
        clear hcb HUP HYE
        go_wp2_with fail
        go_quiet ((go_at_call 135; with_reducible exact Calls.quiet_of_same (HHx.out _ (below_drewN HR.out.b _))))
        replace HR := Hd (HR.out.drewN nq)
        go_wp2_with fail
        go_ret
        exact ⟨by rw [← HRC.out, H2.out HF1.out HT.out]; rfl, HR.out.b⟩
      ·obtain rfl : k = isr.length := by omega
       have HF2 : Hid (ra2 ⟨ids, isr, ld, ep, ad, dr⟩ = false) := Hd (by
        rw [HD2.out, Bool.or_eq_false_iff]
        refine ⟨?_, any_no (f := fun i => !ids.contains i) (fun j hj => HA.out j hj hj)⟩
        cases isr with
        | nil => exact absurd rfl hz2
        | cons _ _ => rfl)
       clear HA
       have p2 := HR.out.c.at 2 _ rfl
       have HHL := Hd (fun W h => HHS.out ld W h)
       by_cases hld : ld = 0
       ·have HF3 : Hid (ra3 m.br ⟨ids, isr, ld, ep, ad, dr⟩ = false) := Hd (by rw [HD3.out, hld]; rfl)
        have n1 : (ld != 0) = false := by simp [hld]
        clear hld
        go_upto_region 19 with fail
        clear n1
        clear p0 p1 p2
        go_loopw [9] (fun i W => ∃ k : Nat, k ≤ ad.length ∧ i = .int .i64 (k : Int) ∧ Rt w W m p ((⟨ids, isr, ld, ep, ad, dr⟩ : Pt), (⟨a0, a1, a2, a3, c0, c1, c2, c3⟩ : P4)) ∧ ∀ j (hj : j < ad.length), j < k → (fun i => !ids.contains i || dr.contains i) ad[j] = false) (fun i _ => ad.length - (ivQ i).toNat)
        case atStart => exact ⟨0, Nat.zero_le _, rfl, HR.out, fun j _ h => absurd h (Nat.not_lt_zero j)⟩
        case round =>
         clear HR
         obtain ⟨k, hk, rfl, hr, hall⟩ := hrel
         have HR := Hd hr
         have HA := Hd hall
         clear hr hall
         have p0 := HR.out.c.at 0 _ rfl
         have p4 := HR.out.c.at 4 _ rfl
         have p5 := HR.out.c.at 5 _ rfl
         by_cases hlt : k < ad.length
         ·have hltI : (k : Int) < (ad.length : Int) := by omega
          obtain ⟨bi, oi, rfl, hrg⟩ := sl_cell (HQ.out wr HR.out.b).s2 hlt
          have HX := Hd hrg
          have HUP := Hd (up_to (f := fun i => !ids.contains i || dr.contains i) HA.out hlt)
          have HYE := Hd (any_yes (f := fun i => !ids.contains i || dr.contains i) hlt)
          clear hrg
          generalize ad[k] = x at HX HUP HYE
          unfold ic at HX
          have x0 : wr.cell? ⟨bi, oi + k, none⟩ = some (.int .i64 x) := HX.out 0 _ rfl
          have HHx := Hd (fun W h => HHI.out x W h)
          have HHy := Hd (fun W h => HHD.out x W h)
          cases hcb : ids.contains x with
          | false =>
           rw [hcb] at HHx
           have HT : Hid (ra4 ⟨ids, isr, ld, ep, ad, dr⟩ = true) := Hd (by
            rw [HD4.out, Bool.or_eq_true]
            exact .inl (HYE.out (by rw [hcb]; rfl)))
           clear hcb HUP HYE
           go_wp2_with fail
           go_quiet ((go_at_call 135; with_reducible exact Calls.quiet_of_same (HHx.out _ (below_drewN HR.out.b _))))
           replace HR := Hd (HR.out.drewN nq)
           go_wp2_with fail
           go_ret
           exact ⟨by rw [← HRC.out, H4.out HF1.out HF2.out HF3.out HT.out]; rfl, HR.out.b⟩
          | true =>
           rw [hcb] at HHx
           cases hcd : dr.contains x with
           | true =>
            rw [hcd] at HHy
            have HT : Hid (ra4 ⟨ids, isr, ld, ep, ad, dr⟩ = true) := Hd (by
             rw [HD4.out, Bool.or_eq_true]
             exact .inl (HYE.out (by rw [hcb, hcd]; rfl)))
            clear hcb hcd HUP HYE
            go_wp2_with fail
            go_quiet (first | (go_at_call 135; with_reducible exact Calls.quiet_of_same (HHx.out _ (below_drewN HR.out.b _))) | (go_at_call 135; with_reducible exact Calls.quiet_of_same (HHy.out _ (below_drewN HR.out.b _))))
            replace HR := Hd (HR.out.drewN nq)
            go_wp2_with fail
            go_ret
            exact ⟨by rw [← HRC.out, H4.out HF1.out HF2.out HF3.out HT.out]; rfl, HR.out.b⟩
           | false =>
            rw [hcd] at HHy
            have HU := Hd (HUP.out (by rw [hcb, hcd]; rfl))
            clear hcb hcd HUP HYE
            go_wp2_with fail
            go_quiet (first | (go_at_call 135; with_reducible exact Calls.quiet_of_same (HHx.out _ (below_drewN HR.out.b _))) | (go_at_call 135; with_reducible exact Calls.quiet_of_same (HHy.out _ (below_drewN HR.out.b _))))
            replace HR := Hd (HR.out.drewN nq)
            clear p0 p4 p5 x0
            go_wp2_with fail
            go_roundw
            case rel => exact ⟨k + 1, by omega, by go_num, HR.out, HU.out⟩
            case measure => simp [ivQ]; omega
         ·obtain rfl : k = ad.length := by omega
          have HF4 : Hid ((ad.any fun i => !ids.contains i || dr.contains i) = false) := Hd (any_no (f := fun i => !ids.contains i || dr.contains i) (fun j hj => HA.out j hj hj))
          go_upto_region 24 with fail
          clear HA p0 p4 p5
          go_loopw [10] (fun i W => ∃ k : Nat, k ≤ dr.length ∧ i = .int .i64 (k : Int) ∧ Rt w W m p ((⟨ids, isr, ld, ep, ad, dr⟩ : Pt), (⟨a0, a1, a2, a3, c0, c1, c2, c3⟩ : P4)) ∧ ∀ j (hj : j < dr.length), j < k → (fun i => !ids.contains i) dr[j] = false) (fun i _ => dr.length - (ivQ i).toNat)
          case atStart => exact ⟨0, Nat.zero_le _, rfl, HR.out, fun j _ h => absurd h (Nat.not_lt_zero j)⟩
          case round =>
           clear HR
           obtain ⟨k, hk, rfl, hr, hall⟩ := hrel
           have HR := Hd hr
           have HA := Hd hall
           clear hr hall
           have p0 := HR.out.c.at 0 _ rfl
           have p5 := HR.out.c.at 5 _ rfl
           by_cases hlt : k < dr.length
           ·have hltI : (k : Int) < (dr.length : Int) := by omega
            obtain ⟨bi, oi, rfl, hrg⟩ := sl_cell (HQ.out wr HR.out.b).s3 hlt
            have HX := Hd hrg
            have HUP := Hd (up_to (f := fun i => !ids.contains i) HA.out hlt)
            have HYE := Hd (any_yes (f := fun i => !ids.contains i) hlt)
            clear hrg
            generalize dr[k] = x at HX HUP HYE
            unfold ic at HX
            have x0 : wr.cell? ⟨bi, oi + k, none⟩ = some (.int .i64 x) := HX.out 0 _ rfl
            have HHx := Hd (fun W h => HHI.out x W h)
            cases hcb : ids.contains x with
            | true =>
             rw [hcb] at HHx
             have HU := Hd (HUP.out (by rw [hcb]; rfl))
             clear hcb HUP HYE
             go_wp2_with fail
             go_quiet ((go_at_call 135; with_reducible exact Calls.quiet_of_same (HHx.out _ (below_drewN HR.out.b _))))
             replace HR := Hd (HR.out.drewN nq)
             clear p0 p5 x0
             go_wp2_with fail
             go_roundw
             case rel => exact ⟨k + 1, by omega, by go_num, HR.out, HU.out⟩
             case measure => simp [ivQ]; omega
            | false =>
             rw [hcb] at HHx
             have HT : Hid (ra4 ⟨ids, isr, ld, ep, ad, dr⟩ = true) := Hd (by
              rw [HD4.out, Bool.or_eq_true]
              exact .inr (HYE.out (by rw [hcb]; rfl)))
             clear hcb HUP HYE
             go_wp2_with fail
             go_quiet ((go_at_call 135; with_reducible exact Calls.quiet_of_same (HHx.out _ (below_drewN HR.out.b _))))
             replace HR := Hd (HR.out.drewN nq)
             go_wp2_with fail
             go_ret
             exact ⟨by rw [← HRC.out, H4.out HF1.out HF2.out HF3.out HT.out]; rfl, HR.out.b⟩
           ·obtain rfl : k = dr.length := by omega
            have HT : Hid (ra4 ⟨ids, isr, ld, ep, ad, dr⟩ = false) := Hd (by
             rw [HD4.out, Bool.or_eq_false_iff]
             exact ⟨HF4.out, any_no (f := fun i => !ids.contains i) (fun j hj => HA.out j hj hj)⟩)
            go_wp2_with fail
            go_ret
            exact ⟨by rw [← HRC.out, H0.out HF1.out HF2.out HF3.out HT.out]; rfl, HR.out.b⟩
       ·have n1 : (ld != 0) = true := by simp [hld]
        clear hld
        cases hci : isr.contains ld with
        | false =>
         rw [hci] at HHL
         have HT : Hid (ra3 m.br ⟨ids, isr, ld, ep, ad, dr⟩ = true) := Hd (by rw [HD3.out, hci, n1]; rfl)
         clear hci
         go_wp2_with (first | (go_at_call 135; refine (HHL.out _ HR.out.b).mono ?_; rintro e wz ⟨rfl, hwz⟩; rw [hwz]; clear hwz wz))
         go_ret
         exact ⟨by rw [← HRC.out, H3.out HF1.out HF2.out HT.out]; rfl, HR.out.b⟩
        | true =>
         rw [hci] at HHL
         cases hal : alive m.br ld with
         | false =>
          rw [hal] at HAL
          have HT : Hid (ra3 m.br ⟨ids, isr, ld, ep, ad, dr⟩ = true) := Hd (by rw [HD3.out, hci, n1, hal]; rfl)
          clear hci hal
          go_wp2_with (first | (refine wpList_load_want (by go_simp; done) _ _ rfl _ _ rfl _ _ HR.out.i.c Tryz.underlying30 rfl (by kernel_rfl) ?_) | (go_at_call 135; refine (HHL.out _ HR.out.b).mono ?_; rintro e wz ⟨rfl, hwz⟩; rw [hwz]; clear hwz wz) | (go_at_call 23; refine (HAL.out _ HR.out.b).mono ?_; rintro e wz ⟨rfl, hbz⟩; replace HR := Hd (HR.out.below hbz); clear hbz))
          go_ret
          exact ⟨by rw [← HRC.out, H3.out HF1.out HF2.out HT.out]; rfl, HR.out.b⟩
         | true =>
          rw [hal] at HAL
          have HF3 : Hid (ra3 m.br ⟨ids, isr, ld, ep, ad, dr⟩ = false) := Hd (by rw [HD3.out, hci, n1, hal]; rfl)
          clear hci hal
          go_upto_region 19 with (first | (refine wpList_load_want (by go_simp; done) _ _ rfl _ _ rfl _ _ HR.out.i.c Tryz.underlying30 rfl (by kernel_rfl) ?_) | (go_at_call 135; refine (HHL.out _ HR.out.b).mono ?_; rintro e wz ⟨rfl, hwz⟩; rw [hwz]; clear hwz wz) | (go_at_call 23; refine (HAL.out _ HR.out.b).mono ?_; rintro e wz ⟨rfl, hbz⟩; replace HR := Hd (HR.out.below hbz); clear hbz))
          clear n1
          clear p0 p1 p2
          go_loopw [9] (fun i W => ∃ k : Nat, k ≤ ad.length ∧ i = .int .i64 (k : Int) ∧ Rt w W m p ((⟨ids, isr, ld, ep, ad, dr⟩ : Pt), (⟨a0, a1, a2, a3, c0, c1, c2, c3⟩ : P4)) ∧ ∀ j (hj : j < ad.length), j < k → (fun i => !ids.contains i || dr.contains i) ad[j] = false) (fun i _ => ad.length - (ivQ i).toNat)
          case atStart => exact ⟨0, Nat.zero_le _, rfl, HR.out, fun j _ h => absurd h (Nat.not_lt_zero j)⟩
          case round =>
           clear HR
           obtain ⟨k, hk, rfl, hr, hall⟩ := hrel
           have HR := Hd hr
           have HA := Hd hall
           clear hr hall
           have p0 := HR.out.c.at 0 _ rfl
           have p4 := HR.out.c.at 4 _ rfl
           have p5 := HR.out.c.at 5 _ rfl
           by_cases hlt : k < ad.length
           ·have hltI : (k : Int) < (ad.length : Int) := by omega
            obtain ⟨bi, oi, rfl, hrg⟩ := sl_cell (HQ.out wr HR.out.b).s2 hlt
            have HX := Hd hrg
            have HUP := Hd (up_to (f := fun i => !ids.contains i || dr.contains i) HA.out hlt)
            have HYE := Hd (any_yes (f := fun i => !ids.contains i || dr.contains i) hlt)
            clear hrg
            generalize ad[k] = x at HX HUP HYE
            unfold ic at HX
            have x0 : wr.cell? ⟨bi, oi + k, none⟩ = some (.int .i64 x) := HX.out 0 _ rfl
            have HHx := Hd (fun W h => HHI.out x W h)
            have HHy := Hd (fun W h => HHD.out x W h)
            cases hcb : ids.contains x with
            | false =>
             rw [hcb] at HHx
             have HT : Hid (ra4 ⟨ids, isr, ld, ep, ad, dr⟩ = true) := Hd (by
              rw [HD4.out, Bool.or_eq_true]
              exact .inl (HYE.out (by rw [hcb]; rfl)))
             clear hcb HUP HYE
             go_wp2_with fail
             go_quiet ((go_at_call 135; with_reducible exact Calls.quiet_of_same (HHx.out _ (below_drewN HR.out.b _))))
             replace HR := Hd (HR.out.drewN nq)
             go_wp2_with fail
             go_ret
             exact ⟨by rw [← HRC.out, H4.out HF1.out HF2.out HF3.out HT.out]; rfl, HR.out.b⟩
            | true =>
             rw [hcb] at HHx
             cases hcd : dr.contains x with
             | true =>
              rw [hcd] at HHy
              have HT : Hid (ra4 ⟨ids, isr, ld, ep, ad, dr⟩ = true) := Hd (by
               rw [HD4.out, Bool.or_eq_true]
               exact .inl (HYE.out (by rw [hcb, hcd]; rfl)))
              clear hcb hcd HUP HYE
              go_wp2_with fail
              go_quiet (first | (go_at_call 135; with_reducible exact Calls.quiet_of_same (HHx.out _ (below_drewN HR.out.b _))) | (go_at_call 135; with_reducible exact Calls.quiet_of_same (HHy.out _ (below_drewN HR.out.b _))))
              replace HR := Hd (HR.out.drewN nq)
              go_wp2_with fail
              go_ret
              exact ⟨by rw [← HRC.out, H4.out HF1.out HF2.out HF3.out HT.out]; rfl, HR.out.b⟩
             | false =>
              rw [hcd] at HHy
              have HU := Hd (HUP.out (by rw [hcb, hcd]; rfl))
              clear hcb hcd HUP HYE
              go_wp2_with fail
              go_quiet (first | (go_at_call 135; with_reducible exact Calls.quiet_of_same (HHx.out _ (below_drewN HR.out.b _))) | (go_at_call 135; with_reducible exact Calls.quiet_of_same (HHy.out _ (below_drewN HR.out.b _))))
              replace HR := Hd (HR.out.drewN nq)
              clear p0 p4 p5 x0
              go_wp2_with fail
              go_roundw
              case rel => exact ⟨k + 1, by omega, by go_num, HR.out, HU.out⟩
              case measure => simp [ivQ]; omega
           ·obtain rfl : k = ad.length := by omega
            have HF4 : Hid ((ad.any fun i => !ids.contains i || dr.contains i) = false) := Hd (any_no (f := fun i => !ids.contains i || dr.contains i) (fun j hj => HA.out j hj hj))
            go_upto_region 24 with fail
            clear HA p0 p4 p5
            go_loopw [10] (fun i W => ∃ k : Nat, k ≤ dr.length ∧ i = .int .i64 (k : Int) ∧ Rt w W m p ((⟨ids, isr, ld, ep, ad, dr⟩ : Pt), (⟨a0, a1, a2, a3, c0, c1, c2, c3⟩ : P4)) ∧ ∀ j (hj : j < dr.length), j < k → (fun i => !ids.contains i) dr[j] = false) (fun i _ => dr.length - (ivQ i).toNat)
            case atStart => exact ⟨0, Nat.zero_le _, rfl, HR.out, fun j _ h => absurd h (Nat.not_lt_zero j)⟩
            case round =>
             clear HR
             obtain ⟨k, hk, rfl, hr, hall⟩ := hrel
             have HR := Hd hr
             have HA := Hd hall
             clear hr hall
             have p0 := HR.out.c.at 0 _ rfl
             have p5 := HR.out.c.at 5 _ rfl
             by_cases hlt : k < dr.length
             ·have hltI : (k : Int) < (dr.length : Int) := by omega
              obtain ⟨bi, oi, rfl, hrg⟩ := sl_cell (HQ.out wr HR.out.b).s3 hlt
              have HX := Hd hrg
              have HUP := Hd (up_to (f := fun i => !ids.contains i) HA.out hlt)
              have HYE := Hd (any_yes (f := fun i => !ids.contains i) hlt)
              clear hrg
              generalize dr[k] = x at HX HUP HYE
              unfold ic at HX
              have x0 : wr.cell? ⟨bi, oi + k, none⟩ = some (.int .i64 x) := HX.out 0 _ rfl
              have HHx := Hd (fun W h => HHI.out x W h)
              cases hcb : ids.contains x with
              | true =>
               rw [hcb] at HHx
               have HU := Hd (HUP.out (by rw [hcb]; rfl))
               clear hcb HUP HYE
               go_wp2_with fail
               go_quiet ((go_at_call 135; with_reducible exact Calls.quiet_of_same (HHx.out _ (below_drewN HR.out.b _))))
               replace HR := Hd (HR.out.drewN nq)
               clear p0 p5 x0
               go_wp2_with fail
               go_roundw
               case rel => exact ⟨k + 1, by omega, by go_num, HR.out, HU.out⟩
               case measure => simp [ivQ]; omega
              | false =>
               rw [hcb] at HHx
               have HT : Hid (ra4 ⟨ids, isr, ld, ep, ad, dr⟩ = true) := Hd (by
                rw [HD4.out, Bool.or_eq_true]
                exact .inr (HYE.out (by rw [hcb]; rfl)))
               clear hcb HUP HYE
               go_wp2_with fail
               go_quiet ((go_at_call 135; with_reducible exact Calls.quiet_of_same (HHx.out _ (below_drewN HR.out.b _))))
               replace HR := Hd (HR.out.drewN nq)
               go_wp2_with fail
               go_ret
               exact ⟨by rw [← HRC.out, H4.out HF1.out HF2.out HF3.out HT.out]; rfl, HR.out.b⟩
             ·obtain rfl : k = dr.length := by omega
              have HT : Hid (ra4 ⟨ids, isr, ld, ep, ad, dr⟩ = false) := Hd (by
               rw [HD4.out, Bool.or_eq_false_iff]
               exact ⟨HF4.out, any_no (f := fun i => !ids.contains i) (fun j hj => HA.out j hj hj)⟩)
              go_wp2_with fail
              go_ret
              exact ⟨by rw [← HRC.out, H0.out HF1.out HF2.out HF3.out HT.out]; rfl, HR.out.b⟩
end Go.Proofs.YtlggjgapdpkhiaaGreat
