/-
  IMAGES IN BOXES OF A LAW'S OWN: each in its box, and what each is made of lies in none of them. No condition.
  WHATEVER THE RECORDS (ImageDoes): what each makes of the metadata, or what is wrong with it, is what the document says. Condition: the records lie in their cells, their rows in memory that was there.
-/
import Derived.Test.YtlggjgapdpkhiaaGreatDoorJKImQna3
import Derived.Test.YtlggjgapdpkhiaaGreatDoorJKImWk
import Derived.Test.YtlggjgapdpkhiaaGreatDoorJKImFaa3
import Derived.Test.YtlggjgapdpkhiaaGreatDoorJKIsca5
import Derived.Test.YtlggjgapdpkhiaaGreatDoorJKImQha3
namespace Go.Proofs.YtlggjgapdpkhiaaGreatDoor
open Go.RowKit
def Nlb (W : World) (bs : List (Nat × Im × Ip)) (g : Nat) : Prop := g < W.heap.size ∧ ∀ b ∈ bs, g ≠ b.1
structure Lb (w W : World) (B : Nat) (bs : List (Nat × Im × Ip)) : Prop where
 x : ∀ b ∈ bs, Bx W b.1 (iml b.2.1 b.2.2)
 r : ∀ W', (∀ g, Nlb W bs g → W'.heap[g]? = W.heap[g]?) → ∀ b ∈ bs, ImR W' b.2.1 b.2.2
 h : B ≤ W.heap.size
 b : Below B w W
theorem Rl.agree {okb ok : Nat → Prop} {w W : World} {v : Value} {ps : List Rp} (h : Rl okb ok w v ps) (hW : ∀ g, g < w.heap.size → W.heap[g]? = w.heap[g]?) : Rl okb ok W v ps := h.imp (fun _ _ h => h) (fun _ _ h => h) (fun b _ hl _ => World.cell?_of_block (hW b hl))
section
variable {w W V X Y : World} {B : Nat} {bs : List (Nat × Im × Ip)} {m' : Im} {p' : Ip}
theorem Lb.below (h : Lb w V B bs) (hb : Below V.heap.size V X) : Lb w X B bs :=
 ⟨fun b hm => (h.x b hm).below hb, fun W' hW => h.r W' (fun g hg => (hW g ⟨Nat.lt_of_lt_of_le hg.1 hb.size, hg.2⟩).trans (hb.block g hg.1)), Nat.le_trans h.h hb.size, h.b.trans (hb.mono h.h)⟩
theorem Lb.one (h : Lb w V B bs) (hb : Below V.heap.size V X) (hi : ∀ W, Agr (Nlb V bs) V.heap.size X W → ImR W m' p') (hy : Bx W X.heap.size (iml m' p')) (hbx : Below X.heap.size X W) : Lb w W B ((X.heap.size, m', p') :: bs) := by
 have hs := hb.size
 have hs2 := hbx.size
 have h2 := (h.below hb).below hbx
 refine ⟨fun b hm => ?_, fun W' hW b hm => ?_, h2.h, h2.b⟩
 ·rcases List.mem_cons.1 hm with rfl | hm
  ·exact hy
  ·exact h2.x b hm
 ·rcases List.mem_cons.1 hm with rfl | hm
  ·refine ImR.lift (A := X) hi (fun k hk hlt => ?_)
   refine (hW k ⟨by omega, fun b hb2 => ?_⟩).trans (hbx.block k hlt)
   rcases List.mem_cons.1 hb2 with rfl | hb2
   ·simp only; omega
   ·rcases hk with hk | hk
    ·exact hk.2 b hb2
    ·have := (h.x b hb2).l; omega
  ·refine h.r W' (fun k hk => ?_) b hm
   refine (hW k ⟨by have := hk.1; omega, fun b hb2 => ?_⟩).trans ((hbx.block k (by have := hk.1; omega)).trans (hb.block k hk.1))
   rcases List.mem_cons.1 hb2 with rfl | hb2
   ·have := hk.1; simp only; omega
   ·exact hk.2 b hb2
theorem Lb.two (h : Lb w V B bs) (hb : Below V.heap.size V Y) (hY : V.heap.size < Y.heap.size) (hbx : Below Y.heap.size Y X) (hi : ∀ W, Agr (Nlb V bs) Y.heap.size X W → ImR W m' p') (hy : Bx W V.heap.size (iml m' p')) (hk : ∀ q xs, ¬ q = V.heap.size → Bx X q xs → Bx W q xs) (hbw : ∀ A u, A ≤ V.heap.size → Below A u X → Below A u W) (hp : ∀ g, ¬ g = V.heap.size → W.heap[g]? = X.heap[g]?) (hs : X.heap.size ≤ W.heap.size) : Lb w W B ((V.heap.size, m', p') :: bs) := by
 have hX := (h.below hb).below hbx
 have hsx := hb.size
 have hsy := hbx.size
 refine ⟨fun b hm => ?_, fun W' hW b hm => ?_, by have := h.h; omega, hbw B w h.h hX.b⟩
 ·rcases List.mem_cons.1 hm with rfl | hm
  ·exact hy
  ·exact hk _ _ (by have := (h.x b hm).l; omega) (hX.x b hm)
 ·rcases List.mem_cons.1 hm with rfl | hm
  ·refine ImR.lift (A := X) hi (fun k hk hlt => ?_)
   have hkV : ¬ k = V.heap.size := by
    rcases hk with hk | hk
    ·have := hk.1; omega
    ·omega
   refine (hW k ⟨by omega, fun b hb2 => ?_⟩).trans (hp k hkV)
   rcases List.mem_cons.1 hb2 with rfl | hb2
   ·exact hkV
   ·rcases hk with hk | hk
    ·exact hk.2 b hb2
    ·have := (h.x b hb2).l; omega
  ·refine h.r W' (fun k hk => ?_) b hm
   have hk1 := hk.1
   refine (hW k ⟨by omega, fun b hb2 => ?_⟩).trans ((hp k (by omega)).trans ((hbx.block k (by omega)).trans (hb.block k hk.1)))
   rcases List.mem_cons.1 hb2 with rfl | hb2
   ·simp only; omega
   ·exact hk.2 b hb2
theorem Lb.at (h : Lb w W B bs) {n : Nat} {m : Im} {p : Ip} (hm : (n, m, p) ∈ bs) : Bx W n (iml m p) := h.x _ hm
theorem Lb.eqm {g : Nat} {ma : Im} (h : Lb w W B ((g, m', p') :: bs)) (e : ma = m') : Lb w W B ((g, ma, p') :: bs) := by
 subst e
 exact h
theorem Lb.next (h : Lb w W B bs) {g : Nat} (hg : B ≤ g) {n : Nat} (hm : (n, m', p') ∈ bs) (hz : Bx V g (iml m' p')) (hb : ∀ A u, A ≤ g → Below A u W → Below A u V) (hp : ∀ k, ¬ k = g → V.heap[k]? = W.heap[k]?) (hs : W.heap.size ≤ V.heap.size) (hgb : ∃ b ∈ bs, b.1 = g) : Lb w V B [(g, m', p')] := by
 refine ⟨fun b hm2 => ?_, fun W' hW b hm2 => ?_, Nat.le_trans h.h hs, hb B w hg h.b⟩
 ·obtain rfl := List.mem_singleton.1 hm2
  exact hz
 ·obtain rfl := List.mem_singleton.1 hm2
  show ImR W' m' p'
  refine h.r W' (fun k hk => ?_) (n, m', p') hm
  obtain ⟨c, hc, hcg⟩ := hgb
  have hkg : k ≠ g := fun e => hk.2 c hc (by omega)
  exact (hW k ⟨by have := hk.1; omega, fun b hb2 => by obtain rfl := List.mem_singleton.1 hb2; exact hkg⟩).trans (hp k hkg)
end
end Go.Proofs.YtlggjgapdpkhiaaGreatDoor
namespace Go.Proofs.YtlggjgapdpkhiaaGreatDoor
open Go.RowKit
theorem of_erc {c : Int} {E : Value} (h : Erc c E) (w : World) (hg : Hnd w) : Calls Tryz.prog 9 #[E] w fun e w' => e = .returned (.int .i64 c) ∧ Below w.heap.size w w' := by
 rcases h with ⟨rfl, rfl⟩ | ⟨_, l, rfl⟩
 ·exact of_ev none w hg
 ·exact of_ev (some (l, c)) w hg
set_option maxRecDepth 100000 in
set_option maxHeartbeats 16000000 in
theorem idoes_law {okb ok : Nat → Prop} (u : Value) (ps : List Rp) (w : World) (hv : Rl okb ok w u ps) (hh : Hnd w) : Calls Tryz.prog 3 #[u] w fun e w' => e = .returned (.bool true) ∧ Below w.heap.size w w' := by
 have HLI := hide (light_any u ps w hv)
 have HH0 := hide hh
 clear hh
 by_cases hli : liR (rcl ps) = true
 ·rw [hli] at HLI
  have HV := hide hv
  have hl120 : ps.length ≤ 120 := by have := liR_len hli; rwa [rcl_len] at this
  have HTX : Hid (∀ r ∈ rcl ps, TxR r) := hide (liR_tx hli)
  obtain ⟨ao, cap, rfl⟩ := hv.form
  clear hv hli
  go_enter Tryz.func3, Tryz.ntmps3
  go_upto_region 5 with (first | (go_at_call 5; refine HLI.out.mono ?_; rintro e w1 ⟨rfl, hb1⟩; have HB1 := hide hb1; clear hb1 HLI))
  have HL0 : Hid (Lb w1 (w1.alloc (.cells (List.toArray [Value.slice none 0 0, .slice none 0 0, .slice none 0 0, .slice none 0 0, .int .i64 0]) 30)) w1.heap.size [(w1.heap.size, Im.zero, Ip.zero)]) := hide ⟨fun b hb => by obtain rfl := List.mem_singleton.1 hb; exact Bx.new w1 (iml Im.zero Ip.zero) _, fun W _ b hb => by obtain rfl := List.mem_singleton.1 hb; exact ⟨rs_nil _ _ _ _, rs_nil _ _ _ _, (fun t ht => by cases ht), rfl, rs_nil _ _ _ _, rs_nil _ _ _ _⟩, by simp, below_al1 w1 _⟩
  generalize w1.alloc (.cells (List.toArray [Value.slice none 0 0, .slice none 0 0, .slice none 0 0, .slice none 0 0, .int .i64 0]) 30) = V at HL0 ⊢
  have HBL : Hid (w.heap.size ≤ w1.heap.size) := hide HB1.out.size
  generalize hBB : w1.heap.size = BB at HL0 HBL ⊢
  have HBV : Hid (∀ W, Below BB w1 W → ∀ g, g < w.heap.size → W.heap[g]? = w.heap[g]?) := hide (fun W h g hg => (h.block g (by have := HBL.out; omega)).trans (HB1.out.block g hg))
  have HBW : Hid (∀ W, Below BB w1 W → Below w.heap.size w W) := hide (fun W h => HB1.out.trans (h.mono HBL.out))
  clear hBB
  go_loopw [4] (fun i W => ∃ (k : Nat) (m : Im) (p : Ip), k ≤ ps.length ∧ i = .int .i64 (k : Int) ∧ Lb w1 W BB [(BB, m, p)] ∧ Wf m k) (fun i _ => ps.length - (ivQ i).toNat)
  case atStart => exact ⟨0, Im.zero, Ip.zero, Nat.zero_le _, rfl, HL0.out, wf_zero 0⟩
  case round =>
   clear HL0
   obtain ⟨k, m, p, hk, rfl, hl, hwf⟩ := hrel
   have HL := hide hl
   have HWF := hide hwf
   clear hl hwf
   by_cases hlt : k < ps.length
   ·have hltI : (k : Int) < (ps.length : Int) := by omega
    obtain ⟨rb, ro, rfl, hrg⟩ := HV.out.rg (by omega)
    have HRR : Hid (rb < w.heap.size) := hide (cell_block ((range_at hrg hlt) 0 _ rfl))
    have HRG := hide (rg_bel (W := w) (range_at hrg hlt) (HBW.out wr HL.out.b))
    have HRH := hide (range_at hrg hlt)
    have HIS := hide (fun (W : World) (h : ∀ g, g < w.heap.size → W.heap[g]? = w.heap[g]?) => (((HV.out.agree h).2 _ (List.getElem_mem hlt))).is)
    have HTR := hide (HTX.out _ (List.mem_map.2 ⟨_, List.getElem_mem hlt, rfl⟩))
    clear hrg
    generalize ps[k] = r at HRG HIS HTR HRH
    have HW1 := hide (wf_app HWF.out r.1)
    have HNB : Hid (∀ g, g < w.heap.size → ∀ b ∈ [((BB, m, p) : Nat × Im × Ip)], g ≠ b.1) := hide (fun g hg b hb => by obtain rfl := List.mem_singleton.1 hb; have := HBL.out; simp only; omega)
    go_upto_region 7 with fail
    go_cut [5, 6] (fun x y W => ∃ (g : Nat) (p' : Ip) (E : Value), x = .pointer (some ⟨g, 0, none⟩) ∧ y = E ∧ Lb w1 W BB [(g, (app m r.1).1, p'), (BB, m, p)] ∧ Erc (app m r.1).2 E ∧ BB ≤ g)
    case first =>
     clear HW1
     have hdw : Below wr.heap.size wr wr.drew := (Below.refl _ _).drew
     refine wp_region_held_drew (S := fun W => Bx W BB (iml m p) ∧ W.rangeAt rb (ro + k * 18) (cel r)) (by kernel_rfl) ⟨(HL.out.x (BB, m, p) (by simp)).below hdw, rg_bel HRG.out hdw⟩ (fun hHeld => ?_)
     have HL4 := hide (HL.out.below hdw)
     generalize wr.drew = V4 at HL4 hHeld ⊢
     clear hdw HL
     have HNN : Hid (∀ q, q < w.heap.size → Nlb V4 [(BB, m, p)] q) := hide (fun q hq => ⟨by have := HL4.out.h; have := HBL.out; omega, HNB.out q hq⟩)
     have HAP := hide (fun W (h : Below V4.heap.size V4 W) => Apply_any m p r.1 _ W (Nlb V4 [(BB, m, p)]) (fun g hg => Nat.lt_of_lt_of_le hg.1 h.size) (fun W' hW' => HL4.out.r W' (fun g hg => (hW' g hg).trans (h.block g hg.1)) (BB, m, p) (by simp)) (HWF.out.mono (by omega)) (HIS.out W (fun g hg => (h.block g (HNN.out g hg).1).trans (HBV.out V4 HL4.out.b g hg))) HTR.out)
     obtain ⟨m', c', har⟩ : ∃ a b, app m r.1 = (a, b) := ⟨_, _, rfl⟩
     have HAR := hide har
     rw [har] at HAP
     clear har HIS HTR HWF
     refine tky 0 21 (_) rfl rfl (yieldsIf_load_mid (by rfl) _ _ rfl _ _ rfl (iml m p) _ (fun W hW => hW.1.c) Tryz.underlying30 rfl (by kernel_rfl)) hHeld ?_
     simp only [Act.put, zA, zB, zC]
     refine tk 1 22 (.slice (some ⟨rb, ro, none⟩) ps.length cap) rfl rfl hHeld ?_
     simp only [Act.put, zA, zB, zC]
     refine tk 2 23 (.int .i64 (k : Int)) rfl rfl hHeld ?_
     simp only [Act.put, zA, zB, zC]
     refine tk 3 24 (.pointer (some ⟨rb, ro + k * 18, none⟩)) rfl rfl hHeld ?_
     simp only [Act.put, zA, zB, zC]
     refine tky 4 25 (_) rfl rfl (yieldsIf_load_mid (by rfl) _ _ rfl _ _ rfl (cel r) _ (fun W hW => hW.2) Tryz.underlying37 rfl (by kernel_rfl)) hHeld ?_
     simp only [Act.put, zA, zB, zC]
     refine wpAnyH_ready (rs := [5, 9]) (by kernel_rfl) (by simp) ?_
     refine AllReadyH.cons (o := _) rfl (fun K hK => ?_) (AllReadyH.cons (o := _) rfl (fun K hK => ?_) AllReadyH.nil)
     ·go_simp
      go_at_call 7
      refine (HAP.out V4 (Below.refl _ _)).mono ?_
      rintro e V6 ⟨p', E, rfl, him, hE, hbx⟩
      have HEE := hide hE
      clear hE
      go_wp2_with fail
      refine hK.out _ _ ⟨hHeld.1.below hbx, rg_bel hHeld.2 hbx⟩ (fun hHeld1 => ?_)
      clear hK K hHeld
      have hHeld := hHeld1
      clear hHeld1
      refine tky 6 20 (.tuple #[.agg (List.toArray [.slice p'.ab m'.br.length p'.cb, .slice p'.aq p'.ts.length p'.cq, .slice p'.ac m'.cf.length p'.cc, .slice p'.ad m'.dn.length p'.cd, .int .i64 m'.la]), E]) rfl rfl (Or.inl ⟨by rfl, by intro w hSw; unfold imv; go_simp⟩) hHeld ?_
      simp only [Act.put, zA, zB, zC]
      refine tk 7 27 (.agg (List.toArray [.slice p'.ab m'.br.length p'.cb, .slice p'.aq p'.ts.length p'.cq, .slice p'.ac m'.cf.length p'.cc, .slice p'.ad m'.dn.length p'.cd, .int .i64 m'.la])) rfl rfl hHeld ?_
      simp only [Act.put, zA, zB, zC]
      refine tk 8 28 (E) rfl rfl hHeld ?_
      simp only [Act.put, zA, zB, zC]
      refine wpAnyH_ready (rs := [9]) (by kernel_rfl) (by simp) ?_
      refine AllReadyH.cons (o := _) rfl (fun K hK => ?_) AllReadyH.nil
      go_simp
      refine hK.out _ _ ⟨hHeld.1.below (below_al1 _ _), rg_bel hHeld.2 (below_al1 _ _)⟩ (fun hHeld1 => ?_)
      clear hK K hHeld
      have hHeld := hHeld1
      clear hHeld1
      have hne : ¬ BB = V6.heap.size := fun e => by have := (HL4.out.x (BB, m, p) (by simp)).l; have := hbx.size; simp only at *; omega
      have hnr : ¬ rb = V6.heap.size := fun e => by have := HRR.out; have := HL4.out.h; have := hbx.size; have := HBL.out; omega
      have hge : BB ≤ V6.heap.size := by have := HL4.out.h; have := hbx.size; omega
      have hzz := Bx.new V6 imzl 30
      have HLX := hide (HL4.out.one hbx him (hzz.set (iml m' p') rfl) (below_sets (Nat.le_refl _) (iml m' p') 0 _ (below_al1 V6 (.cells (List.toArray [Value.slice none 0 0, .slice none 0 0, .slice none 0 0, .slice none 0 0, .int .i64 0]) 30))))
      clear him hbx
      replace HLX : Hid (Lb w1 ((V6.alloc (.cells (List.toArray [Value.slice none 0 0, .slice none 0 0, .slice none 0 0, .slice none 0 0, .int .i64 0]) 30)).setCells V6.heap.size 0 (iml m' p')) BB ((V6.heap.size, m', p') :: [(BB, m, p)])) := HLX
      replace hzz : Bx (V6.alloc (.cells (List.toArray [Value.slice none 0 0, .slice none 0 0, .slice none 0 0, .slice none 0 0, .int .i64 0]) 30)) V6.heap.size imzl := hzz
      generalize V6.alloc (.cells (List.toArray [Value.slice none 0 0, .slice none 0 0, .slice none 0 0, .slice none 0 0, .int .i64 0]) 30) = V7 at HLX hzz hHeld ⊢
      generalize V6.heap.size = gg at HLX hzz hne hnr hge ⊢
      refine wpAnyH_ready (rs := [10]) (by kernel_rfl) (by simp) ?_
      refine AllReadyH.cons (o := _) rfl (fun K hK => ?_) AllReadyH.nil
      obtain ⟨e0, e1, e2, e3, e4⟩ := hzz.c5
      have f0 := hzz.f 0 (by decide)
      have f1 := hzz.f 1 (by decide)
      have f2 := hzz.f 2 (by decide)
      have f3 := hzz.f 3 (by decide)
      have f4 := hzz.f 4 (by decide)
      go_simp
      clear e0 e1 e2 e3 e4 f0 f1 f2 f3 f4
      refine hK.out _ _ ⟨hHeld.1.apart hne (iml m' p') 0, rg_setr hHeld.2 hnr (iml m' p') 0⟩ (fun hHeld1 => ?_)
      clear hK K hHeld
      have hHeld := hHeld1
      clear hHeld1
      refine tk 11 6 (E) rfl rfl hHeld ?_
      simp only [Act.put, zA, zB, zC]
      refine wpAnyH_done (by kernel_rfl) ?_ _
      clear hHeld
      go_wp2_with fail
      go_meet
      exact ⟨gg, p', E, rfl, rfl, by rw [HAR.out]; exact HLX.out, by rw [HAR.out]; exact HEE.out, hge⟩
     ·go_simp
      refine hK.out _ _ ⟨hHeld.1.below (below_al1 _ _), rg_bel hHeld.2 (below_al1 _ _)⟩ (fun hHeld1 => ?_)
      clear hK K hHeld
      have hHeld := hHeld1
      clear hHeld1
      have HZB := hide (Bx.new V4 imzl 30)
      have HB5 := hide (below_al1 V4 (.cells (List.toArray [Value.slice none 0 0, .slice none 0 0, .slice none 0 0, .slice none 0 0, .int .i64 0]) 30))
      have HS5 : Hid (V4.heap.size < (V4.alloc (.cells (List.toArray [Value.slice none 0 0, .slice none 0 0, .slice none 0 0, .slice none 0 0, .int .i64 0]) 30)).heap.size) := hide (by simp)
      replace HZB : Hid (Bx (V4.alloc (.cells (List.toArray [Value.slice none 0 0, .slice none 0 0, .slice none 0 0, .slice none 0 0, .int .i64 0]) 30)) V4.heap.size imzl) := HZB
      generalize V4.alloc (.cells (List.toArray [Value.slice none 0 0, .slice none 0 0, .slice none 0 0, .slice none 0 0, .int .i64 0]) 30) = V5 at HZB HB5 HS5 hHeld ⊢
      refine wpAnyH_ready (rs := [5]) (by kernel_rfl) (by simp) ?_
      refine AllReadyH.cons (o := _) rfl (fun K hK => ?_) AllReadyH.nil
      go_simp
      go_at_call 7
      refine (HAP.out V5 HB5.out).mono ?_
      rintro e V6 ⟨p', E, rfl, him, hE, hbx⟩
      have HEE := hide hE
      clear hE
      go_wp2_with fail
      refine hK.out _ _ ⟨hHeld.1.below hbx, rg_bel hHeld.2 hbx⟩ (fun hHeld1 => ?_)
      clear hK K hHeld
      have hHeld := hHeld1
      clear hHeld1
      refine tky 6 20 (.tuple #[.agg (List.toArray [.slice p'.ab m'.br.length p'.cb, .slice p'.aq p'.ts.length p'.cq, .slice p'.ac m'.cf.length p'.cc, .slice p'.ad m'.dn.length p'.cd, .int .i64 m'.la]), E]) rfl rfl (Or.inl ⟨by rfl, by intro w hSw; unfold imv; go_simp⟩) hHeld ?_
      simp only [Act.put, zA, zB, zC]
      refine tk 7 27 (.agg (List.toArray [.slice p'.ab m'.br.length p'.cb, .slice p'.aq p'.ts.length p'.cq, .slice p'.ac m'.cf.length p'.cc, .slice p'.ad m'.dn.length p'.cd, .int .i64 m'.la])) rfl rfl hHeld ?_
      simp only [Act.put, zA, zB, zC]
      refine tk 8 28 (E) rfl rfl hHeld ?_
      simp only [Act.put, zA, zB, zC]
      have hzz := HZB.out.below hbx
      have hne : ¬ BB = V4.heap.size := fun e => by have := (HL4.out.x (BB, m, p) (by simp)).l; simp only at *; omega
      have hnr : ¬ rb = V4.heap.size := fun e => by have := HRR.out; have := HL4.out.h; have := HBL.out; omega
      have HLX := hide (HL4.out.two HB5.out HS5.out hbx him (hzz.set (iml m' p') rfl) (fun q xs e h => h.apart e _ 0) (fun A u e h => below_sets e _ 0 _ h) (fun g e => hp_sets e _ 0 _) (by rw [sz_sets]; exact Nat.le_refl _))
      clear him hbx
      have hge : BB ≤ V4.heap.size := HL4.out.h
      generalize V4.heap.size = gg at HLX hzz hne hnr hge ⊢
      refine wpAnyH_ready (rs := [10]) (by kernel_rfl) (by simp) ?_
      refine AllReadyH.cons (o := _) rfl (fun K hK => ?_) AllReadyH.nil
      obtain ⟨e0, e1, e2, e3, e4⟩ := hzz.c5
      have f0 := hzz.f 0 (by decide)
      have f1 := hzz.f 1 (by decide)
      have f2 := hzz.f 2 (by decide)
      have f3 := hzz.f 3 (by decide)
      have f4 := hzz.f 4 (by decide)
      go_simp
      clear e0 e1 e2 e3 e4 f0 f1 f2 f3 f4
      refine hK.out _ _ ⟨hHeld.1.apart hne (iml m' p') 0, rg_setr hHeld.2 hnr (iml m' p') 0⟩ (fun hHeld1 => ?_)
      clear hK K hHeld
      have hHeld := hHeld1
      clear hHeld1
      refine tk 11 6 (E) rfl rfl hHeld ?_
      simp only [Act.put, zA, zB, zC]
      refine wpAnyH_done (by kernel_rfl) ?_ _
      clear hHeld
      go_wp2_with fail
      go_meet
      exact ⟨gg, p', E, rfl, rfl, by rw [HAR.out]; exact HLX.out, by rw [HAR.out]; exact HEE.out, hge⟩
    case rest =>
     obtain ⟨g, pa, E, rfl, rfl, hlx, hee, hge⟩ := hcut
     have HGE := hide hge
     clear hge
     have HLX := hide hlx
     have HEE := hide hee
     clear hlx hee HL HRG HNB
     go_upto_region 8 with fail
     go_cut [7, 8] (fun x y W => ∃ (g2 : Nat) (p2 : Ip), x = .pointer (some ⟨g2, 0, none⟩) ∧ y = .int .i64 (app m r.1).2 ∧ Lb w1 W BB [(g2, (app m r.1).1, p2), (g, (app m r.1).1, pa), (BB, m, p)])
     case first =>
      clear HW1 HEE
      have HRG := hide (rg_bel (W := w) HRH.out (HBW.out wc HLX.out.b))
      have HNB : Hid (∀ k, k < w.heap.size → ∀ b ∈ [((g, (app m r.1).1, pa) : Nat × Im × Ip), (BB, m, p)], k ≠ b.1) := hide (fun k hk b hb => by
       rcases List.mem_cons.1 hb with rfl | hb
       ·have h1 := HGE.out; have := HBL.out; simp only; omega
       ·obtain rfl := List.mem_singleton.1 hb; have := HBL.out; simp only; omega)
      have HL := HLX
      clear HLX
      generalize hma : (app m r.1).1 = ma at HL HNB ⊢
      have HMA := hide hma
      clear hma
      have hdw : Below wc.heap.size wc wc.drew := (Below.refl _ _).drew
      refine wp_region_held_drew (S := fun W => Bx W BB (iml m p) ∧ W.rangeAt rb (ro + k * 18) (cel r)) (by kernel_rfl) ⟨(HL.out.x (BB, m, p) (by simp)).below hdw, rg_bel HRG.out hdw⟩ (fun hHeld => ?_)
      have HL4 := hide (HL.out.below hdw)
      generalize wc.drew = V4 at HL4 hHeld ⊢
      clear hdw HL
      have HNN : Hid (∀ q, q < w.heap.size → Nlb V4 [(g, ma, pa), (BB, m, p)] q) := hide (fun q hq => ⟨by have := HL4.out.h; have := HBL.out; omega, HNB.out q hq⟩)
      have HAP := hide (fun W (h : Below V4.heap.size V4 W) => rapply_any m p r.1 _ W (Nlb V4 [(g, ma, pa), (BB, m, p)]) (fun g hg => Nat.lt_of_lt_of_le hg.1 h.size) (fun W' hW' => HL4.out.r W' (fun g hg => (hW' g hg).trans (h.block g hg.1)) (BB, m, p) (by simp)) (HWF.out.mono (by omega)) (fun W' hW' => HIS.out W' (fun g hg => ((hW' g (HNN.out g hg)).trans (h.block g (HNN.out g hg).1)).trans (HBV.out V4 HL4.out.b g hg))) HTR.out)
      obtain ⟨m', c', har⟩ : ∃ a b, app m r.1 = (a, b) := ⟨_, _, rfl⟩
      have HAR := hide har
      rw [har] at HAP
      clear har HIS HTR HWF
      refine tky 0 30 (_) rfl rfl (yieldsIf_load_mid (by rfl) _ _ rfl _ _ rfl (iml m p) _ (fun W hW => hW.1.c) Tryz.underlying30 rfl (by kernel_rfl)) hHeld ?_
      simp only [Act.put, zA, zB, zC]
      refine tk 1 31 (.slice (some ⟨rb, ro, none⟩) ps.length cap) rfl rfl hHeld ?_
      simp only [Act.put, zA, zB, zC]
      refine tk 2 32 (.int .i64 (k : Int)) rfl rfl hHeld ?_
      simp only [Act.put, zA, zB, zC]
      refine tk 3 33 (.pointer (some ⟨rb, ro + k * 18, none⟩)) rfl rfl hHeld ?_
      simp only [Act.put, zA, zB, zC]
      refine tky 4 34 (_) rfl rfl (yieldsIf_load_mid (by rfl) _ _ rfl _ _ rfl (cel r) _ (fun W hW => hW.2) Tryz.underlying37 rfl (by kernel_rfl)) hHeld ?_
      simp only [Act.put, zA, zB, zC]
      refine wpAnyH_ready (rs := [5, 9]) (by kernel_rfl) (by simp) ?_
      refine AllReadyH.cons (o := _) rfl (fun K hK => ?_) (AllReadyH.cons (o := _) rfl (fun K hK => ?_) AllReadyH.nil)
      ·go_simp
       go_at_call 8
       refine (HAP.out V4 (Below.refl _ _)).mono ?_
       rintro e V6 ⟨p', rfl, him, hbx⟩
       go_wp2_with fail
       refine hK.out _ _ ⟨hHeld.1.below hbx, rg_bel hHeld.2 hbx⟩ (fun hHeld1 => ?_)
       clear hK K hHeld
       have hHeld := hHeld1
       clear hHeld1
       refine tky 6 29 (.tuple #[.agg (List.toArray [.slice p'.ab m'.br.length p'.cb, .slice p'.aq p'.ts.length p'.cq, .slice p'.ac m'.cf.length p'.cc, .slice p'.ad m'.dn.length p'.cd, .int .i64 m'.la]), .int .i64 c']) rfl rfl (Or.inl ⟨by rfl, by intro w hSw; unfold imv; go_simp⟩) hHeld ?_
       simp only [Act.put, zA, zB, zC]
       refine tk 7 36 (.agg (List.toArray [.slice p'.ab m'.br.length p'.cb, .slice p'.aq p'.ts.length p'.cq, .slice p'.ac m'.cf.length p'.cc, .slice p'.ad m'.dn.length p'.cd, .int .i64 m'.la])) rfl rfl hHeld ?_
       simp only [Act.put, zA, zB, zC]
       refine tk 8 37 (.int .i64 c') rfl rfl hHeld ?_
       simp only [Act.put, zA, zB, zC]
       refine wpAnyH_ready (rs := [9]) (by kernel_rfl) (by simp) ?_
       refine AllReadyH.cons (o := _) rfl (fun K hK => ?_) AllReadyH.nil
       go_simp
       refine hK.out _ _ ⟨hHeld.1.below (below_al1 _ _), rg_bel hHeld.2 (below_al1 _ _)⟩ (fun hHeld1 => ?_)
       clear hK K hHeld
       have hHeld := hHeld1
       clear hHeld1
       have hne : ¬ BB = V6.heap.size := fun e => by have := (HL4.out.x (BB, m, p) (by simp)).l; have := hbx.size; simp only at *; omega
       have hnr : ¬ rb = V6.heap.size := fun e => by have := HRR.out; have := HL4.out.h; have := hbx.size; have := HBL.out; omega
       have hge : BB ≤ V6.heap.size := by have := HL4.out.h; have := hbx.size; omega
       have hzz := Bx.new V6 imzl 30
       have HLX := hide (HL4.out.one hbx him (hzz.set (iml m' p') rfl) (below_sets (Nat.le_refl _) (iml m' p') 0 _ (below_al1 V6 (.cells (List.toArray [Value.slice none 0 0, .slice none 0 0, .slice none 0 0, .slice none 0 0, .int .i64 0]) 30))))
       clear him hbx
       replace HLX : Hid (Lb w1 ((V6.alloc (.cells (List.toArray [Value.slice none 0 0, .slice none 0 0, .slice none 0 0, .slice none 0 0, .int .i64 0]) 30)).setCells V6.heap.size 0 (iml m' p')) BB ((V6.heap.size, m', p') :: [(g, ma, pa), (BB, m, p)])) := HLX
       replace hzz : Bx (V6.alloc (.cells (List.toArray [Value.slice none 0 0, .slice none 0 0, .slice none 0 0, .slice none 0 0, .int .i64 0]) 30)) V6.heap.size imzl := hzz
       generalize V6.alloc (.cells (List.toArray [Value.slice none 0 0, .slice none 0 0, .slice none 0 0, .slice none 0 0, .int .i64 0]) 30) = V7 at HLX hzz hHeld ⊢
       generalize V6.heap.size = gg at HLX hzz hne hnr hge ⊢
       refine wpAnyH_ready (rs := [10]) (by kernel_rfl) (by simp) ?_
       refine AllReadyH.cons (o := _) rfl (fun K hK => ?_) AllReadyH.nil
       obtain ⟨e0, e1, e2, e3, e4⟩ := hzz.c5
       have f0 := hzz.f 0 (by decide)
       have f1 := hzz.f 1 (by decide)
       have f2 := hzz.f 2 (by decide)
       have f3 := hzz.f 3 (by decide)
       have f4 := hzz.f 4 (by decide)
       go_simp
       clear e0 e1 e2 e3 e4 f0 f1 f2 f3 f4
       refine hK.out _ _ ⟨hHeld.1.apart hne (iml m' p') 0, rg_setr hHeld.2 hnr (iml m' p') 0⟩ (fun hHeld1 => ?_)
       clear hK K hHeld
       have hHeld := hHeld1
       clear hHeld1
       refine tk 11 8 (.int .i64 c') rfl rfl hHeld ?_
       simp only [Act.put, zA, zB, zC]
       refine wpAnyH_done (by kernel_rfl) ?_ _
       clear hHeld
       go_wp2_with fail
       go_meet
       exact ⟨gg, p', rfl, by rw [HAR.out], by rw [HMA.out]; exact HLX.out.eqm (show ma = m' by rw [← HMA.out, HAR.out])⟩
      ·go_simp
       refine hK.out _ _ ⟨hHeld.1.below (below_al1 _ _), rg_bel hHeld.2 (below_al1 _ _)⟩ (fun hHeld1 => ?_)
       clear hK K hHeld
       have hHeld := hHeld1
       clear hHeld1
       have HZB := hide (Bx.new V4 imzl 30)
       have HB5 := hide (below_al1 V4 (.cells (List.toArray [Value.slice none 0 0, .slice none 0 0, .slice none 0 0, .slice none 0 0, .int .i64 0]) 30))
       have HS5 : Hid (V4.heap.size < (V4.alloc (.cells (List.toArray [Value.slice none 0 0, .slice none 0 0, .slice none 0 0, .slice none 0 0, .int .i64 0]) 30)).heap.size) := hide (by simp)
       replace HZB : Hid (Bx (V4.alloc (.cells (List.toArray [Value.slice none 0 0, .slice none 0 0, .slice none 0 0, .slice none 0 0, .int .i64 0]) 30)) V4.heap.size imzl) := HZB
       generalize V4.alloc (.cells (List.toArray [Value.slice none 0 0, .slice none 0 0, .slice none 0 0, .slice none 0 0, .int .i64 0]) 30) = V5 at HZB HB5 HS5 hHeld ⊢
       refine wpAnyH_ready (rs := [5]) (by kernel_rfl) (by simp) ?_
       refine AllReadyH.cons (o := _) rfl (fun K hK => ?_) AllReadyH.nil
       go_simp
       go_at_call 8
       refine (HAP.out V5 HB5.out).mono ?_
       rintro e V6 ⟨p', rfl, him, hbx⟩
       go_wp2_with fail
       refine hK.out _ _ ⟨hHeld.1.below hbx, rg_bel hHeld.2 hbx⟩ (fun hHeld1 => ?_)
       clear hK K hHeld
       have hHeld := hHeld1
       clear hHeld1
       refine tky 6 29 (.tuple #[.agg (List.toArray [.slice p'.ab m'.br.length p'.cb, .slice p'.aq p'.ts.length p'.cq, .slice p'.ac m'.cf.length p'.cc, .slice p'.ad m'.dn.length p'.cd, .int .i64 m'.la]), .int .i64 c']) rfl rfl (Or.inl ⟨by rfl, by intro w hSw; unfold imv; go_simp⟩) hHeld ?_
       simp only [Act.put, zA, zB, zC]
       refine tk 7 36 (.agg (List.toArray [.slice p'.ab m'.br.length p'.cb, .slice p'.aq p'.ts.length p'.cq, .slice p'.ac m'.cf.length p'.cc, .slice p'.ad m'.dn.length p'.cd, .int .i64 m'.la])) rfl rfl hHeld ?_
       simp only [Act.put, zA, zB, zC]
       refine tk 8 37 (.int .i64 c') rfl rfl hHeld ?_
       simp only [Act.put, zA, zB, zC]
       have hzz := HZB.out.below hbx
       have hne : ¬ BB = V4.heap.size := fun e => by have := (HL4.out.x (BB, m, p) (by simp)).l; simp only at *; omega
       have hnr : ¬ rb = V4.heap.size := fun e => by have := HRR.out; have := HL4.out.h; have := HBL.out; omega
       have HLX := hide (HL4.out.two HB5.out HS5.out hbx him (hzz.set (iml m' p') rfl) (fun q xs e h => h.apart e _ 0) (fun A u e h => below_sets e _ 0 _ h) (fun g e => hp_sets e _ 0 _) (by rw [sz_sets]; exact Nat.le_refl _))
       clear him hbx
       have hge : BB ≤ V4.heap.size := HL4.out.h
       generalize V4.heap.size = gg at HLX hzz hne hnr hge ⊢
       refine wpAnyH_ready (rs := [10]) (by kernel_rfl) (by simp) ?_
       refine AllReadyH.cons (o := _) rfl (fun K hK => ?_) AllReadyH.nil
       obtain ⟨e0, e1, e2, e3, e4⟩ := hzz.c5
       have f0 := hzz.f 0 (by decide)
       have f1 := hzz.f 1 (by decide)
       have f2 := hzz.f 2 (by decide)
       have f3 := hzz.f 3 (by decide)
       have f4 := hzz.f 4 (by decide)
       go_simp
       clear e0 e1 e2 e3 e4 f0 f1 f2 f3 f4
       refine hK.out _ _ ⟨hHeld.1.apart hne (iml m' p') 0, rg_setr hHeld.2 hnr (iml m' p') 0⟩ (fun hHeld1 => ?_)
       clear hK K hHeld
       have hHeld := hHeld1
       clear hHeld1
       refine tk 11 8 (.int .i64 c') rfl rfl hHeld ?_
       simp only [Act.put, zA, zB, zC]
       refine wpAnyH_done (by kernel_rfl) ?_ _
       clear hHeld
       go_wp2_with fail
       go_meet
       exact ⟨gg, p', rfl, by rw [HAR.out], by rw [HMA.out]; exact HLX.out.eqm (show ma = m' by rw [← HMA.out, HAR.out])⟩
     case rest =>
      obtain ⟨g2, p2, rfl, rfl, hly⟩ := hcut
      have HLY := hide hly
      clear hly HLX HIS HTR HRR HWF HRH
      generalize app m r.1 = ar at HLY HW1 HEE ⊢
      obtain ⟨m', c'⟩ := ar
      dsimp only at *
      have HHC := hide (HH0.out.below (HBW.out _ HLY.out.b))
      go_wp2_with (first | (go_at_call 9; refine (of_erc HEE.out _ HHC.out).mono ?_; rintro e wo ⟨rfl, hbo⟩; replace HLY := hide (HLY.out.below hbo); clear hbo HEE) | (refine wpList_load_want (by go_simp; done) _ _ rfl _ _ rfl _ _ (HLY.out.at (n := g) (m := m') (p := pa) (by simp)).c Tryz.underlying30 rfl (by kernel_rfl) ?_) | (refine wpList_load_want (by go_simp; done) _ _ rfl _ _ rfl _ _ (HLY.out.at (n := g2) (m := m') (p := p2) (by simp)).c Tryz.underlying30 rfl (by kernel_rfl) ?_) | (go_at_call 10; refine (rsame_any m' pa p2 _ (HLY.out.r _ (fun _ _ => rfl) (g, m', pa) (by simp)) (HLY.out.r _ (fun _ _ => rfl) (g2, m', p2) (by simp)) (HW1.out.mono (by omega))).mono ?_; rintro e wy ⟨rfl, hby⟩; replace HLY := hide (HLY.out.below hby); clear hby) | (refine wpList_load_mid rfl _ _ rfl _ _ rfl _ _ (HLY.out.at (n := g) (m := m') (p := pa) (by simp)).c Tryz.underlying30 rfl (by kernel_rfl) ?_) | (refine wpList_set rfl _ _ _ rfl _ _ rfl (HLY.out.at (n := BB) (m := m) (p := p) (by simp)) (iml m' pa) rfl rfl (by kernel_rfl) rfl ?_; intro W3 hz hk hb hp; have HLF := hide (HLY.out.next (Nat.le_refl BB) (n := g) (m' := m') (p' := pa) (by simp) hz hb hp (hb 0 _ (Nat.zero_le _) (Below.refl _ _)).size ⟨(BB, m, p), by simp, rfl⟩); clear hz hk hb hp))
      go_roundw
      case rel => exact ⟨k + 1, m', pa, by omega, by go_num, HLF.out, HW1.out⟩
      case measure => simp [ivQ]; omega
   ·obtain rfl : k = ps.length := by omega
    have HBWR := hide (HBW.out _ HL.out.b)
    go_wp2_with (first | (go_at_call 6; refine (works_any _).mono ?_; rintro e w9 ⟨rfl, hb9⟩; have HB9 := hide (bt HBWR.out hb9); clear hb9))
    go_ret
    exact ⟨rfl, HB9.out⟩
 ·rw [Bool.eq_false_iff.2 hli] at HLI
  obtain ⟨ao, cap, rfl⟩ := hv.form
  clear hv hli
  go_enter Tryz.func3, Tryz.ntmps3
  go_wp2_with (first | (go_at_call 5; refine HLI.out.mono ?_; rintro e w1 ⟨rfl, hb1⟩; have HB1 := hide hb1; clear hb1 HLI) | (go_at_call 6; refine (works_any _).mono ?_; rintro e w9 ⟨rfl, hb9⟩; have HB9 := hide (bt HB1.out hb9); clear hb9))
  go_ret
  exact ⟨rfl, HB9.out⟩
end Go.Proofs.YtlggjgapdpkhiaaGreatDoor
