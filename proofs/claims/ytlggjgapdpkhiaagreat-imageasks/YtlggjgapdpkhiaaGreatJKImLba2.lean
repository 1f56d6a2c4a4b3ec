/-
  IMAGES IN BOXES OF A LAW'S OWN: each in its box, and what each is made of lies in none of them. No condition.
  WHAT AN IMAGE IS ASKED.
-/
import Derived.Test.YtlggjgapdpkhiaaGreatJKImQna4
import Derived.Test.YtlggjgapdpkhiaaGreatJKImWk
import Derived.Test.YtlggjgapdpkhiaaGreatJKImDea4
import Derived.Test.YtlggjgapdpkhiaaGreatJKImQza5
import Derived.Test.YtlggjgapdpkhiaaGreatJKImGa5
import Derived.Test.YtlggjgapdpkhiaaGreatJKImHa2
namespace Go.Proofs.YtlggjgapdpkhiaaGreat
open Go.RowKit
def Nlb (W : World) (bs : List (Nat × Im × Ip)) (g : Nat) : Prop := g < W.heap.size ∧ ∀ b ∈ bs, g ≠ b.1
structure Lb (w W : World) (B : Nat) (bs : List (Nat × Im × Ip)) : Prop where
 x : ∀ b ∈ bs, Bx W b.1 (iml b.2.1 b.2.2)
 r : ∀ W', (∀ g, Nlb W bs g → W'.heap[g]? = W.heap[g]?) → ∀ b ∈ bs, ImR W' b.2.1 b.2.2
 h : B ≤ W.heap.size
 b : Below B w W
theorem Rl.agree {okb ok : Nat → Prop} {w W : World} {v : Value} {ps : List Rp} (h : Rl okb ok w v ps) (hW : ∀ g, g < w.heap.size → W.heap[g]? = w.heap[g]?) : Rl okb ok W v ps := h.imp (fun _ _ h => h) (fun _ _ h => h) (fun b _ hl _ => World.cell?_of_block (hW b hl))
section
variable {w W V X Y : World} {B : Nat} {bs : List (Nat × Im × Ip)} {m' : Im} {p' : Ip}
theorem Lb.below (h : Lb w V B bs) (hb : Below V.heap.size V X) : Lb w X B bs :=
 ⟨fun b hm => (h.x b hm).below hb, fun W' hW => h.r W' (fun g hg => (hW g ⟨Nat.lt_of_lt_of_le hg.1 hb.size, hg.2⟩).trans (hb.block g hg.1)), Nat.le_trans h.h hb.size, h.b.trans (hb.mono h.h)⟩
theorem Lb.one (h : Lb w V B bs) (hb : Below V.heap.size V X) (hi : ∀ W, Agr (Nlb V bs) V.heap.size X W → ImR W m' p') (hy : Bx W X.heap.size (iml m' p')) (hbx : Below X.heap.size X W) : Lb w W B ((X.heap.size, m', p') :: bs) := by
 have hs := hb.size
 have hs2 := hbx.size
 have h2 := (h.below hb).below hbx
 refine ⟨fun b hm => ?_, fun W' hW b hm => ?_, h2.h, h2.b⟩
 ·rcases List.mem_cons.1 hm with rfl | hm
  ·exact hy
  ·exact h2.x b hm
 ·rcases List.mem_cons.1 hm with rfl | hm
  ·refine ImR.lift (A := X) hi (fun k hk hlt => ?_)
   refine (hW k ⟨by omega, fun b hb2 => ?_⟩).trans (hbx.block k hlt)
   rcases List.mem_cons.1 hb2 with rfl | hb2
   ·simp only; omega
   ·rcases hk with hk | hk
    ·exact hk.2 b hb2
    ·have := (h.x b hb2).l; omega
  ·refine h.r W' (fun k hk => ?_) b hm
   refine (hW k ⟨by have := hk.1; omega, fun b hb2 => ?_⟩).trans ((hbx.block k (by have := hk.1; omega)).trans (hb.block k hk.1))
   rcases List.mem_cons.1 hb2 with rfl | hb2
   ·have := hk.1; simp only; omega
   ·exact hk.2 b hb2
theorem Lb.two (h : Lb w V B bs) (hb : Below V.heap.size V Y) (hY : V.heap.size < Y.heap.size) (hbx : Below Y.heap.size Y X) (hi : ∀ W, Agr (Nlb V bs) Y.heap.size X W → ImR W m' p') (hy : Bx W V.heap.size (iml m' p')) (hk : ∀ q xs, ¬ q = V.heap.size → Bx X q xs → Bx W q xs) (hbw : ∀ A u, A ≤ V.heap.size → Below A u X → Below A u W) (hp : ∀ g, ¬ g = V.heap.size → W.heap[g]? = X.heap[g]?) (hs : X.heap.size ≤ W.heap.size) : Lb w W B ((V.heap.size, m', p') :: bs) := by
 have hX := (h.below hb).below hbx
 have hsx := hb.size
 have hsy := hbx.size
 refine ⟨fun b hm => ?_, fun W' hW b hm => ?_, by have := h.h; omega, hbw B w h.h hX.b⟩
 ·rcases List.mem_cons.1 hm with rfl | hm
  ·exact hy
  ·exact hk _ _ (by have := (h.x b hm).l; omega) (hX.x b hm)
 ·rcases List.mem_cons.1 hm with rfl | hm
  ·refine ImR.lift (A := X) hi (fun k hk hlt => ?_)
   have hkV : ¬ k = V.heap.size := by
    rcases hk with hk | hk
    ·have := hk.1; omega
    ·omega
   refine (hW k ⟨by omega, fun b hb2 => ?_⟩).trans (hp k hkV)
   rcases List.mem_cons.1 hb2 with rfl | hb2
   ·exact hkV
   ·rcases hk with hk | hk
    ·exact hk.2 b hb2
    ·have := (h.x b hb2).l; omega
  ·refine h.r W' (fun k hk => ?_) b hm
   have hk1 := hk.1
   refine (hW k ⟨by omega, fun b hb2 => ?_⟩).trans ((hp k (by omega)).trans ((hbx.block k (by omega)).trans (hb.block k hk.1)))
   rcases List.mem_cons.1 hb2 with rfl | hb2
   ·simp only; omega
   ·exact hk.2 b hb2
theorem Lb.next (h : Lb w W B bs) {g : Nat} (hg : B ≤ g) {n : Nat} (hm : (n, m', p') ∈ bs) (hz : Bx V g (iml m' p')) (hb : ∀ A u, A ≤ g → Below A u W → Below A u V) (hp : ∀ k, ¬ k = g → V.heap[k]? = W.heap[k]?) (hs : W.heap.size ≤ V.heap.size) (hgb : ∃ b ∈ bs, b.1 = g) : Lb w V B [(g, m', p')] := by
 refine ⟨fun b hm2 => ?_, fun W' hW b hm2 => ?_, Nat.le_trans h.h hs, hb B w hg h.b⟩
 ·obtain rfl := List.mem_singleton.1 hm2
  exact hz
 ·obtain rfl := List.mem_singleton.1 hm2
  show ImR W' m' p'
  refine h.r W' (fun k hk => ?_) (n, m', p') hm
  obtain ⟨c, hc, hcg⟩ := hgb
  have hkg : k ≠ g := fun e => hk.2 c hc (by omega)
  exact (hW k ⟨by have := hk.1; omega, fun b hb2 => by obtain rfl := List.mem_singleton.1 hb2; exact hkg⟩).trans (hp k hkg)
end
end Go.Proofs.YtlggjgapdpkhiaaGreat
namespace Go.Proofs.YtlggjgapdpkhiaaGreat
open Go.RowKit
def bkD (o : Option Bk) : Bk := o.getD Bk.zero
theorem brD_eq (o : Option Bk) : brV o = .tuple #[.agg (bkc (bkD o)).toArray, .bool o.isSome] := by cases o <;> rfl
theorem cfV_eq (o : Option Cf) : ∃ T : List UInt8, cfV o = .tuple #[.string ⟨T.toArray⟩, .bool o.isSome] := by cases o <;> exact ⟨_, rfl⟩
theorem ansV_eq (o : Option Dn) : ∃ k : Int, ansV o = .tuple #[.int .i64 k, .bool o.isSome] := by cases o <;> exact ⟨_, rfl⟩
theorem broker_of (m : Im) (p : Ip) (id : Int) (w : World) (hv : ImR w m p) (hw : Wf m 100000) : Calls Tryz.prog 7 #[imv m p, .int .i64 id] w fun e w' => e = .returned (.tuple #[.agg (bkc (bkD (fB m.br id))).toArray, .bool (fB m.br id).isSome]) ∧ Below w.heap.size w w' := by
 unfold fB
 cases h : m.br.find? (idB id) with
 | none => exact Broker_no m p id w hv hw h
 | some b => exact Broker_yes m p id w hv hw b h
theorem named_of (m : Im) (p : Ip) (S : List UInt8) (w : World) (hv : ImR w m p) (hw : Wf m 100000) : Calls Tryz.prog 11 #[imv m p, .string ⟨S.toArray⟩] w fun e w' => e = .returned (.tuple #[.agg (tpc (tqNm p S)).toArray, .bool (p.ts.find? (nmQ S)).isSome]) ∧ Below w.heap.size w w' := by
 unfold tqNm
 cases h : p.ts.find? (nmQ S) with
 | none => exact Named_no m p S w hv hw h
 | some t => exact Named_yes m p S w hv hw t h
def ppZ : Pp := (Pt.zero, ⟨none, none, none, none, 0, 0, 0, 0⟩)
theorem tqOf_mem {p : Ip} {id : Int} (h : 0 < (tqOf p id).ps.length) : tqOf p id ∈ p.ts := by
 unfold tqOf at *
 cases hf : p.ts.find? (idQ id) with
 | none => rw [hf] at h; simp at h
 | some x => exact List.mem_of_find?_eq_some hf
theorem part_of (m : Im) (p : Ip) (id n : Int) (w : World) (hk : Kp w m p) (hw : Wf m 100000) : ∃ (x : Pp) (b : Bool), (∀ W, Below w.heap.size w W → PtR W x) ∧ WfP x.1 ∧ (∀ W, Below w.heap.size w W → Calls Tryz.prog 13 #[imv m p, .int .i64 id, .int .i64 n] W fun e w' => e = .returned (.tuple #[.agg (ptc x).toArray, .bool b]) ∧ Below W.heap.size W w') ∧ ∀ W, Below w.heap.size w W → Calls Tryz.prog 14 #[imv m p, .int .i64 id, .int .i64 n] W fun e w' => e = .returned (.tuple #[.agg (ptc x).toArray, .bool b]) ∧ Below W.heap.size W w' := by
 have hl : p.ts.length ≤ 100000 := by rw [hk.im.len]; exact hw.nt
 by_cases hn : 0 ≤ n ∧ n < ((tqOf p id).ps.length : Int)
 ·have hi : n.toNat < (tqOf p id).ps.length := by omega
  have hin : n = (n.toNat : Int) := by omega
  have hm := tqOf_mem (p := p) (id := id) (by omega)
  refine ⟨(tqOf p id).ps[n.toNat], true, fun W h => ((hk.below h).im.q _ hm).pt _ (List.getElem_mem hi), hk.im.wp hw hm (List.getElem_mem hi), fun W h => ?_, fun W h => ?_⟩
  ·exact part_yes m p id n (tqOf p id) _ W (fun W2 h2 => topic_of m p id W2 ((hk.below h).below h2).im hw) ((hk.below h).im.q _ hm) n.toNat hi hin
  ·exact rpartq_yes m p id n W (hk.below h).im hl n.toNat hi hin
 ·refine ⟨ppZ, false, fun W _ => ⟨.inl ⟨none, 0, rfl, rfl⟩, .inl ⟨none, 0, rfl, rfl⟩, .inl ⟨none, 0, rfl, rfl⟩, .inl ⟨none, 0, rfl, rfl⟩⟩, ⟨by decide, by decide, by decide, by decide, by decide, by decide⟩, fun W h => ?_, fun W h => ?_⟩
  ·exact part_no m p id n (tqOf p id) _ W (fun W2 h2 => topic_of m p id W2 ((hk.below h).below h2).im hw) hn
  ·exact rpartq_no m p id n W (hk.below h).im hl hn
theorem sam_eq {x y : Pt} (h : y = x) : samP y x = true := by rw [h, samP_refl]
end Go.Proofs.YtlggjgapdpkhiaaGreat
