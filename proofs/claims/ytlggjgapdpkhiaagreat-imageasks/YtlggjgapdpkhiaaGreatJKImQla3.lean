/-
  A TOPIC's PARTITIONS WITH ANOTHER ONE AT A PLACE, OR BEHIND, AS THE DOCUMENT HAS 30 (castellanref15.putPart).
  PARTITIONS IN NEW MEMORY (image.copies). Conditions: no more than a hundred thousand, their rows short.
  A TOPIC IS GONE, AND ITS SETTINGS, AS THE DOCUMENT HAS IT (castellanref15.drop).
-/
import Derived.Test.YtlggjgapdpkhiaaGreatJKImQj
import Derived.Test.YtlggjgapdpkhiaaGreatJKImGa5
import Derived.Test.YtlggjgapdpkhiaaGreatJKImQia2
import Derived.Test.YtlggjgapdpkhiaaGreatJKImDea4
import Derived.Test.YtlggjgapdpkhiaaGreatJKImQha3
namespace Go.Proofs.YtlggjgapdpkhiaaGreat
open Go.RowKit
def updT (id : Int) (n : Nat) (q : Pt) (t : Tp) : Tp := if t.id = id then ⟨t.id, t.nm, putP t.ps n q⟩ else t
def Tq.row (t : Tq) : Value := .slice t.a t.ps.length t.c
theorem wpList_appP {α : Type} {f : α → List Value} {k : Nat} {P : Program} {S T : TypeId} (hi : Tyi P S T k) (hf : Enc f k) {ops : Array Oper} {rest : List Oper} {o : Oper} {a : Act} {Q : Exit → Act → World → Prop} (w : World) (hg : o.guard = none) (y z : Operand) (ho : o.op = .call { callee := .builtin .append, args := #[y, z], argTypes := #[S, S] }) (B : Nat) (v : Value) (l : List α) (hy : a.eval y = v) (hown : Ro f k T w B v l) (hB : B ≤ w.heap.size) (b c : Nat) (x : α) (hz : a.eval z = .slice (some ⟨b, 0, none⟩) 1 c) (hq : w.rangeAt b 0 (f x)) (hn : l.length ≤ 1000000000)
  (h : ∀ v' w', Ro f k T w' B v' (l ++ [x]) → w.grownBy w' v.ownBlock → v'.ownBlock = v.ownBlock ∨ v'.ownBlock = some w.heap.size → Below B w w' → wpList P ops Q rest (a.put o.dst v') w') : wpList P ops Q (o :: rest) a w := by
 refine wpList_plain hg fun K hK => ?_
 obtain ⟨⟨i0, z0, h1, h2, h3, h4, h5⟩, hu⟩ := hi
 have hq1 : w.rangeAt b 0 ([x].flatMap f) := by simpa using hq
 obtain ⟨v', w', a1, a2, a3, _, a4⟩ := run_append_own_at (P := P) w B S o.type T i0 z0 k i0.bytes hu h1 h2 h3 rfl h5 hf.pos v l.length (l.flatMap f) hown ⟨b, 0, none⟩ 1 c ([x].flatMap f) (fm_len hf [x]) (fun j x hj => by rw [Addr.add_mid]; exact hq1 j x hj) (fm_one hf [x]) (by unfold maxLen; omega) (by
  have : (l.length + 1) * i0.bytes ≤ 2000000000 * 300 := Nat.mul_le_mul (by omega) h4
  omega) hB
 unfold Oper.wp
 simp [execOp, ho, resolve, invoke, builtin, hy, hz, a1, Result.andThen]
 refine hK _ _ (h v' w' ?_ a3 a4 ((Below.refl B w).grown a3 hB (fun k e => (hown.lt k e).1)))
 unfold Ro
 rw [List.length_append, List.flatMap_append]
 exact a2
theorem Ro.keepB {α : Type} {f : α → List Value} {k : Nat} {T : TypeId} {W W' : World} {B : Nat} {v : Value} {l : List α} (h : Ro f k T W B v l) (hk : ∀ g, v.ownBlock = some g → W'.heap[g]? = W.heap[g]?) : Ro f k T W' B v l := by
 refine ⟨h.1, ?_⟩
 rcases h.2 with h2 | ⟨g, cap, cur, a1, a2, a3, a4⟩
 ·exact .inl h2
 ·exact .inr ⟨g, cap, cur, a1, a2, by rw [hk g (by rw [a1]; rfl)]; exact a3, a4⟩
structure Pk (W : World) (p : Ip) (q : Pp) (bo N : Nat) (v : Value) (Q : List Tq) : Prop where
 o : Ro tpc 3 38 W (bo + 1) v Q
 ob : ∀ g, v.ownBlock = some g → g < N
 n : ∀ t ∈ Q, t ∈ p.ts ∨ (Ro ptc 6 44 W (bo + 1) t.row t.ps ∧ (∀ g, t.row.ownBlock = some g → g < N ∧ ¬ v.ownBlock = some g) ∧ ∀ x ∈ t.ps, x = q ∨ ∃ u ∈ p.ts, x ∈ u.ps)
structure Pg (w W : World) (m : Im) (p : Ip) (q : Pp) (bo : Nat) (os : List Value) : Prop where
 i : Bx W w.heap.size (iml m p)
 c : Bx W (w.heap.size + 1) (ptc q)
 z : Bx W (w.heap.size + 1 + 1) imz
 o : Bx W bo os
 ge : w.heap.size + 1 + 1 + 1 ≤ bo
 b : Below w.heap.size w W
section
variable {w W W' : World} {m : Im} {p : Ip} {q : Pp} {os Q : List _} {bo N : Nat} {v v' : Value}
theorem Pk.keep {Q : List Tq} (h : Pk W p q bo N v Q) (hk : ∀ g, bo + 1 ≤ g → g < N → W'.heap[g]? = W.heap[g]?) : Pk W' p q bo N v Q :=
 ⟨h.o.keepB (fun g hg => hk g (h.o.lt g hg).1 (h.ob g hg)), h.ob, fun t ht => (h.n t ht).imp id (fun y => ⟨y.1.keepB (fun g hg => hk g (y.1.lt g hg).1 (y.2.1 g hg).1), y.2⟩)⟩
theorem Pk.below {Q : List Tq} (h : Pk W p q bo N v Q) (_ : N ≤ W.heap.size) (hb : Below W.heap.size W W') : Pk W' p q bo N v Q := h.keep (fun g _ h2 => hb.block g (by omega))
theorem Pk.setO {Q : List Tq} (h : Pk W p q bo W.heap.size v Q) (j : Nat) (u : Value) : Pk (W.setCell ⟨bo, j, none⟩ u) p q bo (W.setCell ⟨bo, j, none⟩ u).heap.size v Q := by
 have h1 := h.keep (W' := W.setCell ⟨bo, j, none⟩ u) (fun g h1 _ => Below.heap_setCell _ _ _ _ (show ¬ g = bo by omega))
 have e : (W.setCell ⟨bo, j, none⟩ u).heap.size = W.heap.size := by simp
 rw [e]
 exact h1
theorem Pk.app {Q : List Tq} {t : Tq} (h : Pk W p q bo N v Q) (_ : N ≤ W.heap.size) (ht : t ∈ p.ts ∨ (Ro ptc 6 44 W (bo + 1) t.row t.ps ∧ (∀ g, t.row.ownBlock = some g → N ≤ g) ∧ ∀ x ∈ t.ps, x = q ∨ ∃ u ∈ p.ts, x ∈ u.ps)) (ho : Ro tpc 3 38 W' (bo + 1) v' (Q ++ [t])) (hg : W.grownBy W' v.ownBlock) (hob : v'.ownBlock = v.ownBlock ∨ v'.ownBlock = some W.heap.size) : Pk W' p q bo W'.heap.size v' (Q ++ [t]) := by
 have hs := hg.size
 have key : ∀ u : Tq, Ro ptc 6 44 W (bo + 1) u.row u.ps → (∀ g, u.row.ownBlock = some g → ¬ v.ownBlock = some g) → Ro ptc 6 44 W' (bo + 1) u.row u.ps ∧ ∀ g, u.row.ownBlock = some g → g < W'.heap.size ∧ ¬ v'.ownBlock = some g := fun u hu hn => by
  refine ⟨hu.keepB (fun g hg1 => hg.block g (hu.lt g hg1).2 (fun e => hn g hg1 e.symm)), fun g hg1 => ?_⟩
  have hl := (hu.lt g hg1).2
  refine ⟨by omega, fun e => ?_⟩
  rcases hob with y | y
  ·exact hn g hg1 (y ▸ e)
  ·rw [y] at e
   cases e
   omega
 refine ⟨ho, fun g hg1 => (ho.lt g hg1).2, fun u hu => ?_⟩
 rcases List.mem_append.1 hu with hu | hu
 ·exact (h.n u hu).imp id (fun y => by
   obtain ⟨y1, y2⟩ := key u y.1 (fun g hg1 => (y.2.1 g hg1).2)
   exact ⟨y1, y2, y.2.2⟩)
 ·obtain rfl := List.mem_singleton.1 hu
  exact ht.imp id (fun y => by
   obtain ⟨y1, y2⟩ := key u y.1 (fun g hg1 e => by have := h.ob g e; have := y.2.1 g hg1; omega)
   exact ⟨y1, y2, y.2.2⟩)
theorem Pg.below {os : List Value} (h : Pg w W m p q bo os) (hb : Below W.heap.size W W') : Pg w W' m p q bo os := ⟨h.i.below hb, h.c.below hb, h.z.below hb, h.o.below hb, h.ge, bt h.b hb⟩
theorem Pg.set {os : List Value} (h : Pg w W m p q bo os) (j : Nat) (hj : j < os.length) (u : Value) : Pg w (W.setCell ⟨bo, j, none⟩ u) m p q bo (os.set j u) :=
 have hg := h.ge
 ⟨h.i.setOther (by omega) j u, h.c.setOther (by omega) j u, h.z.setOther (by omega) j u, h.o.setCell j hj u, h.ge, h.b.setCell (p := ⟨bo, j, none⟩) (show w.heap.size ≤ bo by omega) u⟩
theorem Pg.setN {os : List Value} (h : Pg w W m p q bo os) (n : Nat) (hn : bo < n) (j : Nat) (u : Value) : Pg w (W.setCell ⟨n, j, none⟩ u) m p q bo os :=
 have hg := h.ge
 ⟨h.i.setOther (by omega) j u, h.c.setOther (by omega) j u, h.z.setOther (by omega) j u, h.o.setOther (by omega) j u, h.ge, h.b.setCell (p := ⟨n, j, none⟩) (show w.heap.size ≤ n by omega) u⟩
theorem Pg.low {os : List Value} (h : Pg w W m p q bo os) (hb : Below (bo + 1) W W') : Pg w W' m p q bo os :=
 have hg := h.ge
 ⟨h.i.lowB hb (by omega), h.c.lowB hb (by omega), h.z.lowB hb (by omega), h.o.lowB hb (by omega), h.ge, h.b.trans (hb.mono (by omega))⟩
end
theorem putP_map (l : List Pp) (n : Nat) (q : Pp) : (l.take n ++ [q] ++ l.drop (n + 1)).map (·.1) = putP (l.map (·.1)) n q.1 := by simp [putP]
theorem putP_end (l : List Pp) (n : Nat) (q : Pp) (h : l.length ≤ n) : (l.take n ++ [q]).map (·.1) = putP (l.map (·.1)) n q.1 := by
 unfold putP
 rw [List.drop_eq_nil_of_le (by rw [List.length_map]; omega)]
 simp
set_option maxRecDepth 100000 in
set_option maxHeartbeats 16000000 in
theorem rputp_any (m : Im) (p : Ip) (id : Int) (n : Nat) (q : Pp) (w : World) (n0 : Nat → Prop) (hn0 : ∀ g, n0 g → g < w.heap.size) (hv : ∀ W, (∀ g, n0 g → W.heap[g]? = w.heap[g]?) → ImR W m p) (hw : Wf m 100000) (hq : ∀ W, (∀ g, n0 g → W.heap[g]? = w.heap[g]?) → PtR W q) (hn : ∀ t ∈ p.ts, t.id = id → n ≤ t.ps.length) : Calls Tryz.prog 109 #[imv m p, .int .i64 id, .int .i64 (n : Int), .agg (ptc q).toArray] w fun e w' => ∃ p', e = .returned (imv { m with ts := m.ts.map (updT id n q.1) } p') ∧ (∀ W, Agr n0 w.heap.size w' W → ImR W { m with ts := m.ts.map (updT id n q.1) } p') ∧ Below w.heap.size w w' := by
 have Hv := Hd (fun (W W3 : World) (hb : Below w.heap.size w W3) (hW : Agr n0 w.heap.size W3 W) => hv W (fun g hg => (hW g (.inl hg)).trans (hb.block g (hn0 g hg))))
 have HQQ := Hd (fun (W W3 : World) (hb : Below w.heap.size w W3) (hW : Agr n0 w.heap.size W3 W) => hq W (fun g hg => (hW g (.inl hg)).trans (hb.block g (hn0 g hg))))
 replace hv : ImR w m p := hv w (fun _ _ => rfl)
 have HV := Hd (fun W (h : Below w.heap.size w W) => hv.below h)
 have HNT : Hid (p.ts.length ≤ 100000) := Hd (by rw [hv.len]; exact hw.nt)
 have HNP := Hd (fun t (ht : t ∈ p.ts) => hv.np hw ht)
 have HNN := Hd hn
 have HME : Hid (m.ts.map (updT id n q.1) = p.ts.map (fun t => updT id n q.1 t.tp)) := Hd (by rw [← hv.e, List.map_map]; rfl)
 obtain ⟨T1, hT1⟩ : ∃ T, T = m.ts.map (updT id n q.1) := ⟨_, rfl⟩
 rw [← hT1] at HME ⊢
 have HFR0 : Hid (Bx (((w.alloc (.cells (List.toArray [Value.slice p.ab m.br.length p.cb, .slice p.aq p.ts.length p.cq, .slice p.ac m.cf.length p.cc, .slice p.ad m.dn.length p.cd, .int .i64 m.la]) 30)).alloc (.cells (List.toArray [Value.slice q.2.a0 q.1.ids.length q.2.c0, .slice q.2.a1 q.1.isr.length q.2.c1, .int .i64 q.1.ld, .int .i64 q.1.ep, .slice q.2.a2 q.1.ad.length q.2.c2, .slice q.2.a3 q.1.dr.length q.2.c3]) 44)).alloc (.cells (List.toArray [Value.slice none 0 0, .slice none 0 0, .slice none 0 0, .slice none 0 0, .int .i64 0]) 30)) w.heap.size (iml m p) ∧ Bx (((w.alloc (.cells (List.toArray [Value.slice p.ab m.br.length p.cb, .slice p.aq p.ts.length p.cq, .slice p.ac m.cf.length p.cc, .slice p.ad m.dn.length p.cd, .int .i64 m.la]) 30)).alloc (.cells (List.toArray [Value.slice q.2.a0 q.1.ids.length q.2.c0, .slice q.2.a1 q.1.isr.length q.2.c1, .int .i64 q.1.ld, .int .i64 q.1.ep, .slice q.2.a2 q.1.ad.length q.2.c2, .slice q.2.a3 q.1.dr.length q.2.c3]) 44)).alloc (.cells (List.toArray [Value.slice none 0 0, .slice none 0 0, .slice none 0 0, .slice none 0 0, .int .i64 0]) 30)) (w.heap.size + 1) (ptc q) ∧ Bx (((w.alloc (.cells (List.toArray [Value.slice p.ab m.br.length p.cb, .slice p.aq p.ts.length p.cq, .slice p.ac m.cf.length p.cc, .slice p.ad m.dn.length p.cd, .int .i64 m.la]) 30)).alloc (.cells (List.toArray [Value.slice q.2.a0 q.1.ids.length q.2.c0, .slice q.2.a1 q.1.isr.length q.2.c1, .int .i64 q.1.ld, .int .i64 q.1.ep, .slice q.2.a2 q.1.ad.length q.2.c2, .slice q.2.a3 q.1.dr.length q.2.c3]) 44)).alloc (.cells (List.toArray [Value.slice none 0 0, .slice none 0 0, .slice none 0 0, .slice none 0 0, .int .i64 0]) 30)) (w.heap.size + 1 + 1) imz ∧ Below w.heap.size w (((w.alloc (.cells (List.toArray [Value.slice p.ab m.br.length p.cb, .slice p.aq p.ts.length p.cq, .slice p.ac m.cf.length p.cc, .slice p.ad m.dn.length p.cd, .int .i64 m.la]) 30)).alloc (.cells (List.toArray [Value.slice q.2.a0 q.1.ids.length q.2.c0, .slice q.2.a1 q.1.isr.length q.2.c1, .int .i64 q.1.ld, .int .i64 q.1.ep, .slice q.2.a2 q.1.ad.length q.2.c2, .slice q.2.a3 q.1.dr.length q.2.c3]) 44)).alloc (.cells (List.toArray [Value.slice none 0 0, .slice none 0 0, .slice none 0 0, .slice none 0 0, .int .i64 0]) 30))) := Hd (Bx.mk3 w (iml m p) (ptc q) imz 30 44 30 (Below.refl _ _))
 clear hv hw hn0 hq hn hT1
 unfold imv ptc
 go_enter Tryz.func109, Tryz.ntmps109
 go_upto_region 1 with fail
 generalize ((w.alloc (.cells (List.toArray [Value.slice p.ab m.br.length p.cb, .slice p.aq p.ts.length p.cq, .slice p.ac m.cf.length p.cc, .slice p.ad m.dn.length p.cd, .int .i64 m.la]) 30)).alloc (.cells (List.toArray [Value.slice q.2.a0 q.1.ids.length q.2.c0, .slice q.2.a1 q.1.isr.length q.2.c1, .int .i64 q.1.ld, .int .i64 q.1.ep, .slice q.2.a2 q.1.ad.length q.2.c2, .slice q.2.a3 q.1.dr.length q.2.c3]) 44)).alloc (.cells (List.toArray [Value.slice none 0 0, .slice none 0 0, .slice none 0 0, .slice none 0 0, .int .i64 0]) 30) = X at HFR0 ⊢
 have i1 := HFR0.out.1.at 1 _ rfl
 have HIU : Hid (X.rangeAt w.heap.size 0 [Value.slice p.ab m.br.length p.cb, .slice p.aq p.ts.length p.cq, .slice p.ac m.cf.length p.cc, .slice p.ad m.dn.length p.cd, .int .i64 m.la]) := Hd HFR0.out.1.c
 go_upto_region 2 with (first | (refine wpList_load_mid rfl _ _ rfl _ _ rfl _ _ HIU.out Tryz.underlying30 rfl (by kernel_rfl) ?_))
 clear i1 HIU
 have Hz : Hid (Pg w (X.alloc (.cells (List.toArray [Value.slice p.ab m.br.length p.cb, .slice p.aq p.ts.length p.cq, .slice p.ac m.cf.length p.cc, .slice p.ad m.dn.length p.cd, .int .i64 m.la]) 30)) m p q X.heap.size [Value.slice p.ab m.br.length p.cb, .slice p.aq p.ts.length p.cq, .slice p.ac m.cf.length p.cc, .slice p.ad m.dn.length p.cd, .int .i64 m.la]) := Hd ⟨HFR0.out.1.alloc _, HFR0.out.2.1.alloc _, HFR0.out.2.2.1.alloc _, Bx.new X [Value.slice p.ab m.br.length p.cb, .slice p.aq p.ts.length p.cq, .slice p.ac m.cf.length p.cc, .slice p.ad m.dn.length p.cd, .int .i64 m.la] 30, HFR0.out.2.2.1.l, bt HFR0.out.2.2.2 (bA X _)⟩
 clear HFR0
 generalize X.alloc (.cells (List.toArray [Value.slice p.ab m.br.length p.cb, .slice p.aq p.ts.length p.cq, .slice p.ac m.cf.length p.cc, .slice p.ad m.dn.length p.cd, .int .i64 m.la]) 30) = Y at Hz ⊢
 generalize X.heap.size = bo at Hz ⊢
 have o1 := Hz.out.o.at 1 _ rfl
 have f1 := Hz.out.o.f 1 (by simp)
 go_upto_region 3 with fail
 replace Hz := Hd (Hz.out.set 1 (by simp) (.slice none 0 0))
 simp only [List.set] at Hz
 clear o1 f1
 generalize Y.setCell ⟨bo, 1, none⟩ (.slice none 0 0) = Y1 at Hz ⊢
 go_upto_region 4 with fail
 go_loopw [10] (fun i W => ∃ (k : Nat) (av : Option Addr) (cv : Nat) (Q : List Tq), k ≤ p.ts.length ∧ i = .int .i64 (k : Int) ∧ Pg w W m p q bo [Value.slice p.ab m.br.length p.cb, .slice av Q.length cv, .slice p.ac m.cf.length p.cc, .slice p.ad m.dn.length p.cd, .int .i64 m.la] ∧ Pk W p q bo W.heap.size (.slice av Q.length cv) Q ∧ Hid (Q.map Tq.tp = (p.ts.take k).map fun t => updT id n q.1 t.tp)) (fun i _ => p.ts.length - (ivQ i).toNat)
 case atStart => exact ⟨0, none, 0, [], Nat.zero_le _, rfl, Hz.out, ⟨ro_nil _ _ _ _ _, (fun g hg => by cases hg), fun t ht => by cases ht⟩, Hd rfl⟩
 case round =>
  clear Hz
  obtain ⟨k, av, cv, Q, hk, rfl, hf, hr, HQ⟩ := hrel
  have Hq := Hd hf
  have HPK := Hd hr
  clear hf hr
  have i1 := Hq.out.i.at 1 _ rfl
  have HQL : Hid (Q.length ≤ 100000) := Hd (by have h := congrArg List.length HQ.out; rw [List.length_map, List.length_map, List.length_take] at h; have := HNT.out; omega)
  by_cases hlt : k < p.ts.length
  ·have hltI : (k : Int) < (p.ts.length : Int) := by omega
   obtain ⟨bb, ob, hab, hrg⟩ := (HV.out wr Hq.out.b).t.rg (show 0 < p.ts.length by omega)
   have HXC := Hd (fm_at encT hrg hlt)
   rw [hab] at i1
   clear hab hrg
   have HXI : Hid (p.ts[k] ∈ p.ts) := Hd (List.getElem_mem hlt)
   have HXQ := Hd ((HV.out wr Hq.out.b).q _ HXI.out)
   have HTK : Hid ((p.ts.take (k + 1)).map (fun t => updT id n q.1 t.tp) = Q.map Tq.tp ++ [updT id n q.1 p.ts[k].tp]) := Hd (by rw [List.take_succ_eq_append_getElem hlt, List.map_append, HQ.out]; rfl)
   generalize p.ts[k] = x at HXC HXI HXQ HTK
   unfold tpc at HXC
   go_upto_region 7 with (first | (refine wpList_load_mid rfl _ _ rfl _ _ rfl _ _ HXC.out Tryz.underlying38 rfl (by kernel_rfl) ?_))
   have HF1 := Hd (Hq.out.below (bA wr (.cells (List.toArray [Value.int .i64 x.id, .string ⟨x.nm.toArray⟩, .slice x.a x.ps.length x.c]) 38)))
   have HP1 := Hd (HPK.out.below (Nat.le_refl _) (bA wr (.cells (List.toArray [Value.int .i64 x.id, .string ⟨x.nm.toArray⟩, .slice x.a x.ps.length x.c]) 38)))
   have HC1 := Hd (Bx.new wr [Value.int .i64 x.id, .string ⟨x.nm.toArray⟩, .slice x.a x.ps.length x.c] 38)
   have HX1 := Hd (HXQ.out.below (bA wr (.cells (List.toArray [Value.int .i64 x.id, .string ⟨x.nm.toArray⟩, .slice x.a x.ps.length x.c]) 38)))
   have HNB : Hid (bo < wr.heap.size) := Hd Hq.out.o.l
   clear Hq HPK i1 HXC HXQ
   have HVS : Hid ((wr.alloc (.cells (List.toArray [Value.int .i64 x.id, .string ⟨x.nm.toArray⟩, .slice x.a x.ps.length x.c]) 38)).heap.size = wr.heap.size + 1) := Hd (by simp)
   generalize wr.alloc (.cells (List.toArray [Value.int .i64 x.id, .string ⟨x.nm.toArray⟩, .slice x.a x.ps.length x.c]) 38) = V at HF1 HP1 HC1 HX1 HVS ⊢
   generalize wr.heap.size = nb at HP1 HC1 HNB HVS ⊢
   have c0 := HC1.out.at 0 _ rfl
   have hnt := HNT.out
   by_cases hx : ¬ x.id = id
   ·have n1 : (x.id == id) = false := by simpa using hx
    have hxt : ¬ x.tp.id = id := hx
    have HMM : Hid (x ∈ p.ts ∨ (Ro ptc 6 44 (V.alloc (.cells (List.toArray [Value.int .i64 x.id, .string ⟨x.nm.toArray⟩, .slice x.a x.ps.length x.c]) 38)) (bo + 1) x.row x.ps ∧ (∀ g, x.row.ownBlock = some g → nb ≤ g) ∧ ∀ y ∈ x.ps, y = q ∨ ∃ u ∈ p.ts, y ∈ u.ps)) := Hd (.inl HXI.out)
    have HVL : Hid (nb ≤ V.heap.size) := Hd (by have := HVS.out; omega)
    have HUP : Hid (updT id n q.1 x.tp = x.tp) := Hd (if_neg hxt)
    clear hx hxt
    have HFd := Hd (HF1.out.below (bA V (.cells (List.toArray [Value.int .i64 x.id, .string ⟨x.nm.toArray⟩, .slice x.a x.ps.length x.c]) 38)))
    have HPd := Hd (HP1.out.below (by have := HVL.out; omega) (bA V (.cells (List.toArray [Value.int .i64 x.id, .string ⟨x.nm.toArray⟩, .slice x.a x.ps.length x.c]) 38)))
    have HUd := Hd (Bx.new V [Value.int .i64 x.id, .string ⟨x.nm.toArray⟩, .slice x.a x.ps.length x.c] 38).c
    have o1 := HF1.out.o.at 1 _ rfl
    clear HX1
    obtain ⟨Q2, hQ2⟩ : ∃ L, L = Q ++ [x] := ⟨_, rfl⟩
    have HQ2 := Hd hQ2
    have HSF : Hid (Q2.map Tq.tp = (p.ts.take (k + 1)).map fun t => updT id n q.1 t.tp) := Hd (by rw [hQ2, HTK.out, List.map_append, List.map_cons, List.map_nil]; rw [HUP.out])
    clear hQ2
    go_wp2_with (first | (refine wpList_load_mid rfl _ _ rfl _ _ rfl _ _ HC1.out.c Tryz.underlying38 rfl (by kernel_rfl) ?_) | (refine wpList_appP tyiT encT _ rfl _ _ rfl (bo + 1) _ Q rfl HPd.out.o (by have := HFd.out.o.l; omega) _ 1 (x) rfl HUd.out (by have := HQL.out; omega) ?_; intro v2 w2 ho2 hg2 hob2 hb2; have HPe := Hd (HPd.out.app (by simp; have := HVL.out; omega) HMM.out ho2 hg2 hob2); rw [← HQ2.out] at ho2 HPe; obtain ⟨av2, cv2, rfl⟩ := ho2.form; have HFe := Hd (HFd.out.low hb2); have HFf := Hd (HFe.out.set 1 (by simp) (.slice av2 Q2.length cv2)); simp only [List.set] at HFf; have HPf := Hd (HPe.out.setO 1 (.slice av2 Q2.length cv2)); clear ho2 hg2 hob2 hb2; clear o1; have o1 := HFe.out.o.at 1 _ rfl; have f1 := HFe.out.o.f 1 (by simp)))
    go_roundw
    case rel => exact ⟨k + 1, av2, cv2, Q2, by omega, by go_num, HFf.out, HPf.out, HSF⟩
    case measure => simp [ivQ]; omega
   ·replace hx := Decidable.of_not_not hx
    have n1 : (x.id == id) = true := by simpa using hx
    have hxt : x.tp.id = id := hx
    have HUP : Hid (updT id n q.1 x.tp = ⟨x.id, x.nm, putP (x.ps.map (·.1)) n q.1⟩) := Hd (if_pos hxt)
    have hnx : n ≤ x.ps.length := HNN.out x HXI.out hx
    have HNX := Hd hnx
    have hpl : x.ps.length ≤ 100000 := HNP.out x HXI.out
    have HPL := Hd hpl
    have hUP : ∀ W, (Instr.slice 36 (.slice x.a x.ps.length x.c) none (some (.int .i64 (n : Int))) none).run Tryz.prog W = .ok (.slice x.a n x.c) W := fun W => upto_run tyiP x.a x.ps.length x.c n hnx HX1.out.ps.cap.2 W
    have HVL : Hid (nb + 1 ≤ V.heap.size) := Hd (by have := HVS.out; omega)
    have HLN : Hid ((x.ps.take n).length = n) := Hd (by rw [List.length_take]; omega)
    obtain ⟨L1, hL1⟩ : ∃ L, L = x.ps.take n := ⟨_, rfl⟩
    have HL1 := Hd hL1
    rw [← hL1] at HLN
    have HRT := Hd (HX1.out.ps.upto encP n hnx)
    rw [← hL1] at HRT
    clear hx hxt hL1 hnx
    have c2 := HC1.out.at 2 _ rfl
    go_upto_region 9 with fail
    go_upto_region 10 with (first | (refine wR tyiP encP _ rfl _ _ rfl (nb + 1) _ [] rfl (ro_nil _ _ _ _ _) HVL.out _ L1 rfl HRT.out (by have := HLN.out; have := HPL.out; have := HNX.out; simp only [List.length_nil]; omega) ?_; intro v1 w1 ho1 hg1 hb1; rw [List.nil_append] at ho1; have HR1 := Hd ho1; have HB1 := Hd hb1; clear ho1 hg1 hb1))
    obtain ⟨a1, c1, rfl⟩ := HR1.out.form
    have HF2 := Hd (HF1.out.low (HB1.out.mono (by have := HNB.out; omega)))
    have HP2 := Hd (HP1.out.keep (fun g _ h2 => HB1.out.block g (by omega)))
    have HC2 := Hd (HC1.out.lowB HB1.out (by omega))
    clear c0 c2 hUP n1
    obtain ⟨L2, hL2⟩ : ∃ L, L = L1 ++ [q] := ⟨_, rfl⟩
    have HL2 := Hd hL2
    have HLN2 : Hid (L2.length = n + 1) := Hd (by rw [hL2, List.length_append, HLN.out]; rfl)
    clear hL2
    have HF3 := Hd (HF2.out.below (bA w1 (.cells (List.toArray [Value.slice q.2.a0 q.1.ids.length q.2.c0, .slice q.2.a1 q.1.isr.length q.2.c1, .int .i64 q.1.ld, .int .i64 q.1.ep, .slice q.2.a2 q.1.ad.length q.2.c2, .slice q.2.a3 q.1.dr.length q.2.c3]) 44)))
    have HR3 := Hd (HR1.out.below (bA w1 (.cells (List.toArray [Value.slice q.2.a0 q.1.ids.length q.2.c0, .slice q.2.a1 q.1.isr.length q.2.c1, .int .i64 q.1.ld, .int .i64 q.1.ep, .slice q.2.a2 q.1.ad.length q.2.c2, .slice q.2.a3 q.1.dr.length q.2.c3]) 44)))
    have HU3 := Hd (Bx.new w1 [Value.slice q.2.a0 q.1.ids.length q.2.c0, .slice q.2.a1 q.1.isr.length q.2.c1, .int .i64 q.1.ld, .int .i64 q.1.ep, .slice q.2.a2 q.1.ad.length q.2.c2, .slice q.2.a3 q.1.dr.length q.2.c3] 44).c
    have HS1 : Hid (nb + 1 ≤ w1.heap.size) := Hd (by have := HB1.out.size; have := HVL.out; omega)
    have HB3 := Hd (HB1.out.trans ((bA w1 (.cells (List.toArray [Value.slice q.2.a0 q.1.ids.length q.2.c0, .slice q.2.a1 q.1.isr.length q.2.c1, .int .i64 q.1.ld, .int .i64 q.1.ep, .slice q.2.a2 q.1.ad.length q.2.c2, .slice q.2.a3 q.1.dr.length q.2.c3]) 44)).mono HS1.out))
    have HQU : Hid (w1.rangeAt (w.heap.size + 1) 0 [Value.slice q.2.a0 q.1.ids.length q.2.c0, .slice q.2.a1 q.1.isr.length q.2.c1, .int .i64 q.1.ld, .int .i64 q.1.ep, .slice q.2.a2 q.1.ad.length q.2.c2, .slice q.2.a3 q.1.dr.length q.2.c3]) := Hd HF2.out.c.c
    go_upto_region 11 with (first | (refine wpList_load_mid rfl _ _ rfl _ _ rfl _ _ HQU.out Tryz.underlying44 rfl (by kernel_rfl) ?_) | (refine wpList_app1g tyiP encP _ rfl _ _ rfl (nb + 1) _ L1 rfl HR3.out (by simp; have := HS1.out; omega) q _ 1 rfl (Nat.le_refl _) HU3.out (by have := HLN.out; have := HNX.out; have := HPL.out; omega) ?_; intro v3 w3 ho3 hg3 hb3; rw [← HL2.out] at ho3; have HR4 := Hd ho3; have HB4 := Hd (HB3.out.trans hb3); have HS3 := Hd hb3.size; clear ho3 hg3 hb3))
    obtain ⟨a3, c3, rfl⟩ := HR4.out.form
    have HF4 := Hd (HF1.out.low (HB4.out.mono (by have := HNB.out; omega)))
    have HP4 := Hd (HP1.out.keep (fun g _ h2 => HB4.out.block g (by omega)))
    have HC4 := Hd (HC1.out.lowB HB4.out (by omega))
    have HS4 : Hid (nb + 1 ≤ w3.heap.size) := Hd (by have := HB4.out.size; have := HVL.out; omega)
    clear HF2 HP2 HF3 HR3 HU3 HR1 HS3 HB3 HQU
    have c2 := HC4.out.at 2 _ rfl
    by_cases hnl : n < x.ps.length
    ·have hnI : (n : Int) < (x.ps.length : Int) := by omega
     have hwl : wrap64 ((n : Int) + 1) = (n : Int) + 1 := by have := HPL.out; unfold wrap64; omega
     obtain ⟨ao, hsl0, hdr⟩ := Rs.from tyiP encP HX1.out.ps (n + 1) (by omega)
     have hsl : ∀ W, (Instr.slice 36 (.slice x.a x.ps.length x.c) (some (.int .i64 ((n : Int) + 1))) none none).run Tryz.prog W = .ok (.slice ao (x.ps.length - (n + 1)) (x.c - (n + 1))) W := hsl0
     have HDR := Hd (hdr w3 (by rw [HVS.out]; exact HB4.out))
     clear hsl0 hdr
     obtain ⟨D, hD⟩ : ∃ D, D = x.ps.drop (n + 1) := ⟨_, rfl⟩
     have HD := Hd hD
     have HDL : Hid (D.length = x.ps.length - (n + 1)) := Hd (by rw [hD, List.length_drop])
     rw [← hD] at HDR
     clear hD
     obtain ⟨L3, hL3⟩ : ∃ L, L = L2 ++ D := ⟨_, rfl⟩
     have HL3 := Hd hL3
     clear hL3
     go_upto_region 13 with (first | (refine wR tyiP encP _ rfl _ _ rfl (nb + 1) _ L2 rfl HR4.out HS4.out _ D rfl HDR.out (by have := HLN2.out; have := HDL.out; have := HPL.out; omega) ?_; intro v6 w6 ho6 hg6 hb6; rw [← HL3.out] at ho6; have HR6 := Hd ho6; have HB6 := Hd (HB4.out.trans hb6); clear ho6 hg6 hb6))
     obtain ⟨a6, c6, rfl⟩ := HR6.out.form
     have HF6 := Hd (HF1.out.low (HB6.out.mono (by have := HNB.out; omega)))
     have HP6 := Hd (HP1.out.keep (fun g _ h2 => HB6.out.block g (by omega)))
     have HC6 := Hd (HC1.out.lowB HB6.out (by omega))
     have HS6 : Hid (nb + 1 ≤ w6.heap.size) := Hd (by have := HB6.out.size; have := HVL.out; omega)
     clear c2 hnI hwl hsl HF4 HP4 HC4 HR4 HDR HVL
     have c2 := HC6.out.at 2 _ rfl
     have g2 := HC6.out.f 2 (by simp)
     go_upto_region 14 with fail
     clear c2 g2
     have HF5 := Hd (HF6.out.setN nb HNB.out 2 (.slice a6 L3.length c6))
     have HC5 := Hd (HC6.out.setCell 2 (by simp) (.slice a6 L3.length c6))
     simp only [List.set] at HC5
     have HP5 := Hd (HP6.out.keep (W' := w6.setCell ⟨nb, 2, none⟩ (.slice a6 L3.length c6)) (fun g _ h2 => Below.heap_setCell _ _ _ _ (show ¬ g = nb by omega)))
     have HR5 := Hd (HR6.out.keepG (W' := w6.setCell ⟨nb, 2, none⟩ (.slice a6 L3.length c6)) (fun g hg => Below.heap_setCell _ _ _ _ (show ¬ g = nb by omega)))
     have HVL : Hid (nb ≤ (w6.setCell ⟨nb, 2, none⟩ (.slice a6 L3.length c6)).heap.size) := Hd (by simp; have := HS6.out; omega)
     clear HF6 HR6 HP6 HC6
     generalize w6.setCell ⟨nb, 2, none⟩ (.slice a6 L3.length c6) = V5 at HF5 HC5 HP5 HR5 HVL ⊢
     have HMM : Hid ((⟨x.id, x.nm, L3, a6, c6⟩ : Tq) ∈ p.ts ∨ (Ro ptc 6 44 (V5.alloc (.cells (List.toArray [Value.int .i64 x.id, .string ⟨x.nm.toArray⟩, .slice a6 L3.length c6]) 38)) (bo + 1) (⟨x.id, x.nm, L3, a6, c6⟩ : Tq).row (⟨x.id, x.nm, L3, a6, c6⟩ : Tq).ps ∧ (∀ g, (⟨x.id, x.nm, L3, a6, c6⟩ : Tq).row.ownBlock = some g → nb ≤ g) ∧ ∀ y ∈ (⟨x.id, x.nm, L3, a6, c6⟩ : Tq).ps, y = q ∨ ∃ u ∈ p.ts, y ∈ u.ps)) := Hd (.inr ⟨(HR5.out.below (bA V5 (.cells (List.toArray [Value.int .i64 x.id, .string ⟨x.nm.toArray⟩, .slice a6 L3.length c6]) 38))).mono (by have := HNB.out; omega), (fun g hg => by have := (HR5.out.lt g hg).1; omega), (fun y hy => by
      have hy' : y ∈ L3 := hy
      rw [HL3.out, HL2.out, HL1.out, HD.out] at hy'
      simp only [List.mem_append, List.mem_singleton] at hy'
      rcases hy' with (h | h) | h
      ·exact .inr ⟨x, HXI.out, List.mem_of_mem_take h⟩
      ·exact .inl h
      ·exact .inr ⟨x, HXI.out, List.mem_of_mem_drop h⟩)⟩)
     have HFd := Hd (HF5.out.below (bA V5 (.cells (List.toArray [Value.int .i64 x.id, .string ⟨x.nm.toArray⟩, .slice a6 L3.length c6]) 38)))
     have HPd := Hd (HP5.out.below (by have := HVL.out; omega) (bA V5 (.cells (List.toArray [Value.int .i64 x.id, .string ⟨x.nm.toArray⟩, .slice a6 L3.length c6]) 38)))
     have HUd := Hd (Bx.new V5 [Value.int .i64 x.id, .string ⟨x.nm.toArray⟩, .slice a6 L3.length c6] 38).c
     have o1 := HF5.out.o.at 1 _ rfl
     obtain ⟨Q2, hQ2⟩ : ∃ L, L = Q ++ [(⟨x.id, x.nm, L3, a6, c6⟩ : Tq)] := ⟨_, rfl⟩
     have HQ2 := Hd hQ2
     have HSF : Hid (Q2.map Tq.tp = (p.ts.take (k + 1)).map fun t => updT id n q.1 t.tp) := Hd (by rw [hQ2, HTK.out, List.map_append, List.map_cons, List.map_nil]; rw [HUP.out]; show _ ++ [(⟨x.id, x.nm, L3.map (·.1)⟩ : Tp)] = _; rw [HL3.out, HL2.out, HL1.out, HD.out, putP_map])
     clear hQ2
     go_wp2_with (first | (refine wpList_load_mid rfl _ _ rfl _ _ rfl _ _ HC5.out.c Tryz.underlying38 rfl (by kernel_rfl) ?_) | (refine wpList_appP tyiT encT _ rfl _ _ rfl (bo + 1) _ Q rfl HPd.out.o (by have := HFd.out.o.l; omega) _ 1 ((⟨x.id, x.nm, L3, a6, c6⟩ : Tq)) rfl HUd.out (by have := HQL.out; omega) ?_; intro v2 w2 ho2 hg2 hob2 hb2; have HPe := Hd (HPd.out.app (by simp; have := HVL.out; omega) HMM.out ho2 hg2 hob2); rw [← HQ2.out] at ho2 HPe; obtain ⟨av2, cv2, rfl⟩ := ho2.form; have HFe := Hd (HFd.out.low hb2); have HFf := Hd (HFe.out.set 1 (by simp) (.slice av2 Q2.length cv2)); simp only [List.set] at HFf; have HPf := Hd (HPe.out.setO 1 (.slice av2 Q2.length cv2)); clear ho2 hg2 hob2 hb2; clear o1; have o1 := HFe.out.o.at 1 _ rfl; have f1 := HFe.out.o.f 1 (by simp)))
     go_roundw
     case rel => exact ⟨k + 1, av2, cv2, Q2, by omega, by go_num, HFf.out, HPf.out, HSF⟩
     case measure => simp [ivQ]; omega
    ·have hnI : ¬ (n : Int) < (x.ps.length : Int) := by omega
     clear HVL
     have g2 := HC4.out.f 2 (by simp)
     go_upto_region 14 with fail
     clear c2 g2
     have HF5 := Hd (HF4.out.setN nb HNB.out 2 (.slice a3 L2.length c3))
     have HC5 := Hd (HC4.out.setCell 2 (by simp) (.slice a3 L2.length c3))
     simp only [List.set] at HC5
     have HP5 := Hd (HP4.out.keep (W' := w3.setCell ⟨nb, 2, none⟩ (.slice a3 L2.length c3)) (fun g _ h2 => Below.heap_setCell _ _ _ _ (show ¬ g = nb by omega)))
     have HR5 := Hd (HR4.out.keepG (W' := w3.setCell ⟨nb, 2, none⟩ (.slice a3 L2.length c3)) (fun g hg => Below.heap_setCell _ _ _ _ (show ¬ g = nb by omega)))
     have HVL : Hid (nb ≤ (w3.setCell ⟨nb, 2, none⟩ (.slice a3 L2.length c3)).heap.size) := Hd (by simp; have := HS4.out; omega)
     clear HF4 HR4 HP4 HC4
     generalize w3.setCell ⟨nb, 2, none⟩ (.slice a3 L2.length c3) = V5 at HF5 HC5 HP5 HR5 HVL ⊢
     have HMM : Hid ((⟨x.id, x.nm, L2, a3, c3⟩ : Tq) ∈ p.ts ∨ (Ro ptc 6 44 (V5.alloc (.cells (List.toArray [Value.int .i64 x.id, .string ⟨x.nm.toArray⟩, .slice a3 L2.length c3]) 38)) (bo + 1) (⟨x.id, x.nm, L2, a3, c3⟩ : Tq).row (⟨x.id, x.nm, L2, a3, c3⟩ : Tq).ps ∧ (∀ g, (⟨x.id, x.nm, L2, a3, c3⟩ : Tq).row.ownBlock = some g → nb ≤ g) ∧ ∀ y ∈ (⟨x.id, x.nm, L2, a3, c3⟩ : Tq).ps, y = q ∨ ∃ u ∈ p.ts, y ∈ u.ps)) := Hd (.inr ⟨(HR5.out.below (bA V5 (.cells (List.toArray [Value.int .i64 x.id, .string ⟨x.nm.toArray⟩, .slice a3 L2.length c3]) 38))).mono (by have := HNB.out; omega), (fun g hg => by have := (HR5.out.lt g hg).1; omega), (fun y hy => by
      have hy' : y ∈ L2 := hy
      rw [HL2.out, HL1.out] at hy'
      simp only [List.mem_append, List.mem_singleton] at hy'
      rcases hy' with h | h
      ·exact .inr ⟨x, HXI.out, List.mem_of_mem_take h⟩
      ·exact .inl h)⟩)
     have HFd := Hd (HF5.out.below (bA V5 (.cells (List.toArray [Value.int .i64 x.id, .string ⟨x.nm.toArray⟩, .slice a3 L2.length c3]) 38)))
     have HPd := Hd (HP5.out.below (by have := HVL.out; omega) (bA V5 (.cells (List.toArray [Value.int .i64 x.id, .string ⟨x.nm.toArray⟩, .slice a3 L2.length c3]) 38)))
     have HUd := Hd (Bx.new V5 [Value.int .i64 x.id, .string ⟨x.nm.toArray⟩, .slice a3 L2.length c3] 38).c
     have o1 := HF5.out.o.at 1 _ rfl
     obtain ⟨Q2, hQ2⟩ : ∃ L, L = Q ++ [(⟨x.id, x.nm, L2, a3, c3⟩ : Tq)] := ⟨_, rfl⟩
     have HQ2 := Hd hQ2
     have HSF : Hid (Q2.map Tq.tp = (p.ts.take (k + 1)).map fun t => updT id n q.1 t.tp) := Hd (by rw [hQ2, HTK.out, List.map_append, List.map_cons, List.map_nil]; rw [HUP.out]; show _ ++ [(⟨x.id, x.nm, L2.map (·.1)⟩ : Tp)] = _; rw [HL2.out, HL1.out, putP_end _ _ _ (show x.ps.length ≤ n by omega)])
     clear hQ2
     go_wp2_with (first | (refine wpList_load_mid rfl _ _ rfl _ _ rfl _ _ HC5.out.c Tryz.underlying38 rfl (by kernel_rfl) ?_) | (refine wpList_appP tyiT encT _ rfl _ _ rfl (bo + 1) _ Q rfl HPd.out.o (by have := HFd.out.o.l; omega) _ 1 ((⟨x.id, x.nm, L2, a3, c3⟩ : Tq)) rfl HUd.out (by have := HQL.out; omega) ?_; intro v2 w2 ho2 hg2 hob2 hb2; have HPe := Hd (HPd.out.app (by simp; have := HVL.out; omega) HMM.out ho2 hg2 hob2); rw [← HQ2.out] at ho2 HPe; obtain ⟨av2, cv2, rfl⟩ := ho2.form; have HFe := Hd (HFd.out.low hb2); have HFf := Hd (HFe.out.set 1 (by simp) (.slice av2 Q2.length cv2)); simp only [List.set] at HFf; have HPf := Hd (HPe.out.setO 1 (.slice av2 Q2.length cv2)); clear ho2 hg2 hob2 hb2; clear o1; have o1 := HFe.out.o.at 1 _ rfl; have f1 := HFe.out.o.f 1 (by simp)))
     go_roundw
     case rel => exact ⟨k + 1, av2, cv2, Q2, by omega, by go_num, HFf.out, HPf.out, HSF⟩
     case measure => simp [ivQ]; omega
  ·obtain rfl : k = p.ts.length := by omega
   have HTT : Hid (Q.map Tq.tp = T1) := Hd (by rw [HQ.out, List.take_length, HME.out])
   clear HQ HME
   go_wp2_with (first | (refine wpList_load_mid rfl _ _ rfl _ _ rfl _ _ Hq.out.o.c Tryz.underlying30 rfl (by kernel_rfl) ?_) | (refine wS rfl _ _ _ rfl _ _ rfl Hq.out.z (iml { m with ts := T1 } { p with aq := av, cq := cv, ts := Q }) rfl rfl (by kernel_rfl) rfl ?_; intro W3 hz hk hb hp; have HZ := Hd hz; have Hb := Hd (hb _ _ (show w.heap.size ≤ w.heap.size + 1 + 1 by omega) Hq.out.b); have HRS := Hd (fun W (hW : Agr n0 w.heap.size W3 W) => HPK.out.keep (W' := W) (fun g h1 _ => (hW g (.inr (by have := Hq.out.ge; omega))).trans (hp g (by have := Hq.out.ge; omega)))); clear hz hk hb hp))
   obtain ⟨q0, q1, q2, q3, q4⟩ := HZ.out.im
   exact bodyPost_ret (v := .agg (iml { m with ts := T1 } { p with aq := av, cq := cv, ts := Q }).toArray) (by simp [results, Tryz.results109, go_sem, q0, q1, q2, q3, q4, iml]) rfl ⟨{ p with aq := av, cq := cv, ts := Q }, rfl, (fun W hW => ⟨(Hv.out W _ Hb.out hW).b, (HRS.out W hW).o.rs, (fun t ht => ((HRS.out W hW).n t ht).elim (fun h => (Hv.out W _ Hb.out hW).q t h) (fun h => ⟨h.1.rs, fun y hy => (h.2.2 y hy).elim (fun e => e ▸ HQQ.out W _ Hb.out hW) (fun ⟨u, hu, hy2⟩ => ((Hv.out W _ Hb.out hW).q u hu).pt y hy2)⟩)), HTT.out, (Hv.out W _ Hb.out hW).c, (Hv.out W _ Hb.out hW).d⟩), Hb.out⟩
end Go.Proofs.YtlggjgapdpkhiaaGreat
namespace Go.Proofs.YtlggjgapdpkhiaaGreat
open Go.RowKit
def Pblk (q : Pp) (g : Nat) : Prop := (Value.slice q.2.a0 q.1.ids.length q.2.c0).ownBlock = some g ∨ (Value.slice q.2.a1 q.1.isr.length q.2.c1).ownBlock = some g ∨ (Value.slice q.2.a2 q.1.ad.length q.2.c2).ownBlock = some g ∨ (Value.slice q.2.a3 q.1.dr.length q.2.c3).ownBlock = some g
section
variable {w W W' X : World} {B N : Nat} {q : Pp} {v v' : Value} {l : List Pp}
theorem PtO.keepB (h : PtO W B q) (hk : ∀ g, Pblk q g → W'.heap[g]? = W.heap[g]?) : PtO W' B q :=
 ⟨h.r0.keepB (fun g e => hk g (.inl e)), h.r1.keepB (fun g e => hk g (.inr (.inl e))), h.r2.keepB (fun g e => hk g (.inr (.inr (.inl e)))), h.r3.keepB (fun g e => hk g (.inr (.inr (.inr e))))⟩
theorem PtO.blt (h : PtO W B q) {g : Nat} (hg : Pblk q g) : B ≤ g ∧ g < W.heap.size := by
 rcases hg with e | e | e | e
 ·exact h.r0.lt g e
 ·exact h.r1.lt g e
 ·exact h.r2.lt g e
 ·exact h.r3.lt g e
structure Cs (w W : World) (v : Value) (l : List Pp) : Prop where
 o : Ro ptc 6 44 W w.heap.size v l
 n : ∀ q ∈ l, PtO W w.heap.size q ∧ ∀ g, Pblk q g → ¬ v.ownBlock = some g
 b : Below w.heap.size w W
theorem Cs.below (h : Cs w W v l) (hb : Below W.heap.size W W') : Cs w W' v l :=
 ⟨h.o.below hb, fun q hq => ⟨(h.n q hq).1.keepB (fun g hg => hb.block g ((h.n q hq).1.blt hg).2), (h.n q hq).2⟩, bt h.b hb⟩
theorem Cs.app (h : Cs w X v l) (hN : ∀ g, v.ownBlock = some g → g < N) (hwN : w.heap.size ≤ N) (hq : PtO X N q) (ho : Ro ptc 6 44 W w.heap.size v' (l ++ [q])) (hg : X.grownBy W v.ownBlock) (hob : v'.ownBlock = v.ownBlock ∨ v'.ownBlock = some X.heap.size) (hbe : Below w.heap.size X W) : Cs w W v' (l ++ [q]) := by
 have key : ∀ y : Pp, PtO X w.heap.size y → (∀ g, Pblk y g → ¬ v.ownBlock = some g) → PtO W w.heap.size y ∧ ∀ g, Pblk y g → ¬ v'.ownBlock = some g := fun y hy hn => by
  refine ⟨hy.keepB (fun g hg1 => hg.block g (hy.blt hg1).2 (fun e => hn g hg1 e.symm)), fun g hg1 e => ?_⟩
  rcases hob with z | z
  ·exact hn g hg1 (z ▸ e)
  ·rw [z] at e
   cases e
   have := (hy.blt hg1).2
   omega
 refine ⟨ho, fun y hy => ?_, h.b.trans hbe⟩
 rcases List.mem_append.1 hy with hy | hy
 ·exact key y (h.n y hy).1 (h.n y hy).2
 ·obtain rfl := List.mem_singleton.1 hy
  exact key y (hq.mono hwN) (fun g hg1 e => by have := hN g e; have := (hq.blt hg1).1; omega)
end
def ivY : Value → Int
 | .int _ n => n
 | _ => 0
set_option maxRecDepth 100000 in
set_option maxHeartbeats 16000000 in
theorem copies_any (l : List Pp) (v : Value) (w : World) (hv : Rs ptc w v l) (hp : ∀ q ∈ l, PtR w q ∧ WfP q.1) (hl : l.length ≤ 100000) : Calls Tryz.prog 55 #[v] w fun e w' => ∃ (l' : List Pp) (a : Option Addr) (c : Nat), e = .returned (.slice a l'.length c) ∧ l'.map (·.1) = l.map (·.1) ∧ Cs w w' (.slice a l'.length c) l' := by
 obtain ⟨ao, cap, rfl⟩ := hv.form
 have HV := Hd (fun W (h : Below w.heap.size w W) => hv.below h)
 have HP := Hd (fun q hq W (h : Below w.heap.size w W) => (⟨(hp q hq).1.below h, (hp q hq).2⟩ : PtR W q ∧ WfP q.1))
 clear hv hp
 go_enter Tryz.func55, Tryz.ntmps55
 go_upto_region 3 with fail
 go_loopw [3, 8] (fun u i W => ∃ (k : Nat) (a : Option Addr) (c : Nat) (Q : List Pp), k ≤ l.length ∧ u = .slice a Q.length c ∧ i = .int .i64 (k : Int) ∧ Cs w W (.slice a Q.length c) Q ∧ Hid (Q.map (·.1) = (l.take k).map (·.1))) (fun _ i _ => l.length - (ivY i).toNat)
 case atStart => exact ⟨0, none, 0, [], Nat.zero_le _, rfl, rfl, ⟨ro_nil _ _ _ _ _, (fun q hq => by cases hq), Below.refl _ _⟩, Hd rfl⟩
 case round =>
  obtain ⟨k, a, c, Q, hk, rfl, rfl, hc, HQ⟩ := hrel
  have HC := Hd hc
  clear hc
  have HQL : Hid (Q.length ≤ 100000) := Hd (by have h := congrArg List.length HQ.out; rw [List.length_map, List.length_map, List.length_take] at h; omega)
  by_cases hlt : k < l.length
  ·have hltI : (k : Int) < (l.length : Int) := by omega
   obtain ⟨bb, ob, hab, hrg⟩ := (HV.out wr HC.out.b).rg (show 0 < l.length by omega)
   have HXC := Hd (fm_at encP hrg hlt)
   subst hab
   clear hrg
   have HXP := Hd (HP.out l[k] (List.getElem_mem hlt))
   have HTK : Hid ((l.take (k + 1)).map (·.1) = Q.map (·.1) ++ [l[k].1]) := Hd (by rw [List.take_succ_eq_append_getElem hlt, List.map_append, HQ.out]; rfl)
   generalize l[k] = x at HXC HXP HTK
   unfold ptc at HXC
   go_upto_region 5 with (first | (refine wpList_load_mid rfl _ _ rfl _ _ rfl _ _ HXC.out Tryz.underlying44 rfl (by kernel_rfl) ?_))
   have HC1 := Hd (HC.out.below (bA wr (.cells (List.toArray [Value.slice x.2.a0 x.1.ids.length x.2.c0, .slice x.2.a1 x.1.isr.length x.2.c1, .int .i64 x.1.ld, .int .i64 x.1.ep, .slice x.2.a2 x.1.ad.length x.2.c2, .slice x.2.a3 x.1.dr.length x.2.c3]) 44)))
   have HX1 := Hd (Bx.new wr [Value.slice x.2.a0 x.1.ids.length x.2.c0, .slice x.2.a1 x.1.isr.length x.2.c1, .int .i64 x.1.ld, .int .i64 x.1.ep, .slice x.2.a2 x.1.ad.length x.2.c2, .slice x.2.a3 x.1.dr.length x.2.c3] 44)
   clear HC HXC
   generalize wr.alloc (.cells (List.toArray [Value.slice x.2.a0 x.1.ids.length x.2.c0, .slice x.2.a1 x.1.isr.length x.2.c1, .int .i64 x.1.ld, .int .i64 x.1.ep, .slice x.2.a2 x.1.ad.length x.2.c2, .slice x.2.a3 x.1.dr.length x.2.c3]) 44) = V at HC1 HX1 ⊢
   generalize wr.heap.size = nb at HX1 ⊢
   have HAL := Hd (Alone_any x V (HXP.out V HC1.out.b).1 (HXP.out V HC1.out.b).2)
   have HVO : Hid (∀ g, (Value.slice a Q.length c).ownBlock = some g → g < V.heap.size) := Hd (fun g hg => (HC1.out.o.lt g hg).2)
   have HVS : Hid (w.heap.size ≤ V.heap.size) := Hd HC1.out.b.size
   unfold ptc at HAL
   go_upto_region 6 with (first | (refine wpList_load_mid rfl _ _ rfl _ _ rfl _ _ HX1.out.c Tryz.underlying44 rfl (by kernel_rfl) ?_) | (go_at_call 21; refine HAL.out.mono ?_; rintro e w2 ⟨y, hy, rfl, hpo, hb2⟩; have HY := Hd hy; have HPO := Hd (hpo.keepB (W' := w2.alloc (.cells (List.toArray [Value.slice y.2.a0 y.1.ids.length y.2.c0, .slice y.2.a1 y.1.isr.length y.2.c1, .int .i64 y.1.ld, .int .i64 y.1.ep, .slice y.2.a2 y.1.ad.length y.2.c2, .slice y.2.a3 y.1.dr.length y.2.c3]) 44)) (fun g hg => (bA w2 _).block g (hpo.blt hg).2)); have HC2 := Hd ((HC1.out.below hb2).below (bA w2 (.cells (List.toArray [Value.slice y.2.a0 y.1.ids.length y.2.c0, .slice y.2.a1 y.1.isr.length y.2.c1, .int .i64 y.1.ld, .int .i64 y.1.ep, .slice y.2.a2 y.1.ad.length y.2.c2, .slice y.2.a3 y.1.dr.length y.2.c3]) 44))); have HU2 := Hd (Bx.new w2 [Value.slice y.2.a0 y.1.ids.length y.2.c0, .slice y.2.a1 y.1.isr.length y.2.c1, .int .i64 y.1.ld, .int .i64 y.1.ep, .slice y.2.a2 y.1.ad.length y.2.c2, .slice y.2.a3 y.1.dr.length y.2.c3] 44).c; clear hy hpo hb2 HAL) | (refine wpList_appP tyiP encP _ rfl _ _ rfl w.heap.size _ Q rfl HC2.out.o HC2.out.b.size _ 1 y rfl HU2.out (by have := HQL.out; omega) ?_; intro v3 w3 ho3 hg3 hob3 hb3; have HC3 := Hd (HC2.out.app (N := V.heap.size) HVO.out HVS.out HPO.out ho3 hg3 hob3 hb3); have HR3 := Hd ho3; clear ho3 hg3 hob3 hb3))
   obtain ⟨Q2, hQ2⟩ : ∃ L, L = Q ++ [y] := ⟨_, rfl⟩
   have HSF : Hid (Q2.map (·.1) = (l.take (k + 1)).map (·.1)) := Hd (by rw [hQ2, HTK.out, List.map_append, List.map_cons, List.map_nil, HY.out])
   rw [← hQ2] at HC3 HR3
   obtain ⟨a3, c3, rfl⟩ := HR3.out.form
   clear HC1 HX1 HC2 HU2 HPO HVO hQ2
   go_wp2_with fail
   go_roundw
   case rel => exact ⟨k + 1, a3, c3, Q2, by omega, rfl, by go_num, HC3.out, HSF⟩
   case measure => simp [ivY]; omega
  ·obtain rfl : k = l.length := by omega
   go_wp2_with fail
   go_ret
   exact ⟨Q, a, c, rfl, by rw [HQ.out, List.take_length], HC.out⟩
end Go.Proofs.YtlggjgapdpkhiaaGreat
namespace Go.Proofs.YtlggjgapdpkhiaaGreat
open Go.RowKit
structure Df (w : World) (m : Im) (p : Ip) (W : World) : Prop where
 i : Bx W w.heap.size (iml m p)
 z : Bx W (w.heap.size + 1) imz
 b : Below w.heap.size w W
structure Dg (w W : World) (m : Im) (p : Ip) (bo : Nat) (os : List Value) : Prop where
 f : Df w m p W
 o : Bx W bo os
 ge : w.heap.size + 1 + 1 ≤ bo
def Kpd (B B2 : Nat) (A W : World) : Prop := B2 ≤ W.heap.size ∧ ∀ g, B ≤ g → g < B2 → W.heap[g]? = A.heap[g]?
section
variable {w W W' A : World} {m : Im} {p : Ip} {os : List Value} {bo B B2 : Nat}
theorem Df.below (h : Df w m p W) (hb : Below W.heap.size W W') : Df w m p W' := ⟨h.i.below hb, h.z.below hb, bt h.b hb⟩
theorem Df.drewN (h : Df w m p W) (n : Nat) : Df w m p (W.drewN n) := ⟨h.i.drewN n, h.z.drewN n, ⟨h.b.os, h.b.tape, h.b.output, h.b.size, h.b.block⟩⟩
theorem Df.sz (h : Df w m p W) : w.heap.size + 1 + 1 ≤ W.heap.size := h.z.l
theorem Df.out (h : Df w m p W) (hz : Bx W' (w.heap.size + 1) (iml m p)) (hb : ∀ B u, B ≤ w.heap.size + 1 → Below B u W → Below B u W') : Bx W' (w.heap.size + 1) (iml m p) ∧ Below w.heap.size w W' := ⟨hz, hb _ _ (by omega) h.b⟩
theorem Dg.below (h : Dg w W m p bo os) (hb : Below W.heap.size W W') : Dg w W' m p bo os := ⟨h.f.below hb, h.o.below hb, h.ge⟩
theorem Dg.drewN (h : Dg w W m p bo os) (n : Nat) : Dg w (W.drewN n) m p bo os := ⟨h.f.drewN n, h.o.drewN n, h.ge⟩
theorem Dg.set (h : Dg w W m p bo os) (j : Nat) (hj : j < os.length) (v : Value) : Dg w (W.setCell ⟨bo, j, none⟩ v) m p bo (os.set j v) :=
 have hg := h.ge
 ⟨⟨h.f.i.setOther (by omega) j v, h.f.z.setOther (by omega) j v, h.f.b.setCell (p := ⟨bo, j, none⟩) (show w.heap.size ≤ bo by omega) v⟩, h.o.setCell j hj v, hg⟩
theorem Dg.new (h : Df w m p W) (os : List Value) (t : TypeId) : Dg w (W.alloc (.cells os.toArray t)) m p W.heap.size os := ⟨h.below (bA W _), Bx.new W os t, h.sz⟩
theorem Dg.low (h : Dg w W m p bo os) (hb : Below (bo + 1) W W') : Dg w W' m p bo os :=
 have hg := h.ge
 ⟨⟨h.f.i.lowB hb (by omega), h.f.z.lowB hb (by omega), h.f.b.trans (hb.mono (by omega))⟩, h.o.lowB hb (by omega), h.ge⟩
theorem Kpd.below (h : Kpd B B2 A W) (hb : Below B2 W W') : Kpd B B2 A W' := ⟨Nat.le_trans h.1 hb.size, fun g h1 h2 => (hb.block g h2).trans (h.2 g h1 h2)⟩
theorem Kpd.drewN (h : Kpd B B2 A W) (n : Nat) : Kpd B B2 A (W.drewN n) := ⟨h.1, h.2⟩
theorem Kpd.set (h : Kpd B B2 A W) (hb : bo < B) (j : Nat) (v : Value) : Kpd B B2 A (W.setCell ⟨bo, j, none⟩ v) := ⟨by simpa using h.1, fun g h1 h2 => (Below.heap_setCell _ _ _ _ (show ¬ g = bo by omega)).trans (h.2 g h1 h2)⟩
theorem Ro.kr {α : Type} {f : α → List Value} {k : Nat} {T : TypeId} {v : Value} {l : List α} (h : Ro f k T W B v l) (hk : ∀ g, B ≤ g → g < W.heap.size → W'.heap[g]? = W.heap[g]?) : Rs f W' v l := by
 obtain ⟨ao, cap, e, hc, hr⟩ := h.rs
 refine ⟨ao, cap, e, hc, fun q => ?_⟩
 obtain ⟨b, o, e1, e2⟩ := hr q
 refine ⟨b, o, e1, fun j u hu => ?_⟩
 have hl := h.lt b (by rw [e, e1]; rfl)
 have hb := hk b hl.1 hl.2
 have he := e2 j u hu
 simp only [World.cell?] at he ⊢
 rw [hb]
 exact he
end
set_option maxRecDepth 100000 in
set_option maxHeartbeats 16000000 in
theorem rdrop_any (m : Im) (p : Ip) (r : Rc) (w : World) (n0 : Nat → Prop) (hn0 : ∀ g, n0 g → g < w.heap.size) (hv : ∀ W, (∀ g, n0 g → W.heap[g]? = w.heap[g]?) → ImR W m p) (hw : Wf m 100000) : Calls Tryz.prog 69 #[imv m p, .int .i64 r.tp] w fun e w' => StD n0 w w' (drpT m r).1 (drpT m r).2 e := by
 have Hv := Hd (fun (W W3 : World) (hb : Below w.heap.size w W3) (hW : Agr n0 w.heap.size W3 W) => hv W (fun g hg => (hW g (.inl hg)).trans (hb.block g (hn0 g hg))))
 replace hv : ImR w m p := hv w (fun _ _ => rfl)
 have HV := Hd (fun W (h : Below w.heap.size w W) => hv.below h)
 have HTP := Hd (fun W (h : Below w.heap.size w W) => rtopic_any m p r.tp W (hv.below h) (by rw [hv.len]; exact hw.nt))
 have HNT : Hid (p.ts.length ≤ 100000) := Hd (by rw [hv.len]; exact hw.nt)
 have HNC := Hd hw.nc
 have HFN := Hd (hv.fT r.tp)
 obtain ⟨u, hu⟩ : ∃ u, u = tqOf p r.tp := ⟨_, rfl⟩
 rw [← hu] at HTP
 clear hu
 obtain ⟨T1, hT1⟩ : ∃ T, T = m.ts.filter fun t => !idT r.tp t := ⟨_, rfl⟩
 have HTL : Hid ((p.ts.filter fun t => !idQ r.tp t).map Tq.tp = T1) := Hd (by rw [hT1, ← hv.e, List.filter_map]; rfl)
 cases hf : p.ts.find? (idQ r.tp) with
 | none =>
  have Hr : Hid (drpT m r = (m, 8)) := Hd (by unfold drpT; rw [HFN.out, hf]; rfl)
  rw [Hr.out]
  rw [hf] at HTP
  clear hf hT1 HTL
  unfold imv at HTP
  unfold tpc at HTP
  simp only [Option.isSome_none] at HTP
  have HFR0 : Df w m p ((w.alloc (.cells (List.toArray [Value.slice p.ab m.br.length p.cb, .slice p.aq p.ts.length p.cq, .slice p.ac m.cf.length p.cc, .slice p.ad m.dn.length p.cd, .int .i64 m.la]) 30)).alloc (.cells (List.toArray [Value.slice none 0 0, .slice none 0 0, .slice none 0 0, .slice none 0 0, .int .i64 0]) 30)) := by
   obtain ⟨h1, h2, h3⟩ := Bx.mk2 w (iml m p) imz 30 30 (Below.refl _ _)
   exact ⟨h1, h2, h3⟩
  clear hv hw hn0
  unfold imv
  go_enter Tryz.func69, Tryz.ntmps69
  go_upto_region 1 with fail
  generalize (w.alloc (.cells (List.toArray [Value.slice p.ab m.br.length p.cb, .slice p.aq p.ts.length p.cq, .slice p.ac m.cf.length p.cc, .slice p.ad m.dn.length p.cd, .int .i64 m.la]) 30)).alloc (.cells (List.toArray [Value.slice none 0 0, .slice none 0 0, .slice none 0 0, .slice none 0 0, .int .i64 0]) 30) = X at HFR0 ⊢
  have Hf := Hd HFR0
  clear HFR0
  obtain ⟨i0, i1, i2, i3, i4⟩ := Hf.out.i.im
  go_upto_region 2 with (first | (refine wpList_load_mid rfl _ _ rfl _ _ rfl _ _ Hf.out.i.c Tryz.underlying30 rfl (by kernel_rfl) ?_) | (go_at_call 10; refine (HTP.out _ Hf.out.b).mono ?_; rintro e wx ⟨rfl, hbx⟩; replace Hf := Hd (Hf.out.below hbx); clear i0 i1 i2 i3 i4; clear hbx HTP))
  replace Hf := Hd (Hf.out.below (bA wx (.cells (List.toArray [Value.int .i64 u.id, .string ⟨u.nm.toArray⟩, .slice u.a u.ps.length u.c]) 38)))
  generalize wx.alloc (.cells (List.toArray [Value.int .i64 u.id, .string ⟨u.nm.toArray⟩, .slice u.a u.ps.length u.c]) 38) = X2 at Hf ⊢
  obtain ⟨i0, i1, i2, i3, i4⟩ := Hf.out.i.im
  go_wp2_with (first | (refine wpList_load_mid rfl _ _ rfl _ _ rfl _ _ Hf.out.i.c Tryz.underlying30 rfl (by kernel_rfl) ?_) | (refine wS rfl _ _ _ rfl _ _ rfl Hf.out.z (iml m p) rfl rfl (by kernel_rfl) rfl ?_; intro W3 hz hk hb hp; have Ho := Hd (Hf.out.out hz hb); clear hz hk hb hp))
  obtain ⟨q0, q1, q2, q3, q4⟩ := Ho.out.1.im
  exact bodyPost_ret (v := .tuple #[.agg (iml m p).toArray, .int .i64 8]) (by simp [results, Tryz.results69, go_sem, q0, q1, q2, q3, q4, iml]) rfl ⟨p, rfl, (fun W hW => Hv.out W _ Ho.out.2 hW), Ho.out.2⟩
 | some q9 =>
  obtain ⟨L2, hL2⟩ : ∃ L, L = m.cf.filter fun c => !(c.tp == r.tp) := ⟨_, rfl⟩
  have Hr : Hid (drpT m r = ({ m with ts := T1, cf := L2 }, 0)) := Hd (by unfold drpT; rw [HFN.out, hf, hT1, hL2]; rfl)
  have HL2 := Hd hL2
  clear hL2
  rw [Hr.out]
  rw [hf] at HTP
  clear hf hT1
  unfold imv at HTP
  unfold tpc at HTP
  simp only [Option.isSome_some] at HTP
  have HFR0 : Df w m p ((w.alloc (.cells (List.toArray [Value.slice p.ab m.br.length p.cb, .slice p.aq p.ts.length p.cq, .slice p.ac m.cf.length p.cc, .slice p.ad m.dn.length p.cd, .int .i64 m.la]) 30)).alloc (.cells (List.toArray [Value.slice none 0 0, .slice none 0 0, .slice none 0 0, .slice none 0 0, .int .i64 0]) 30)) := by
   obtain ⟨h1, h2, h3⟩ := Bx.mk2 w (iml m p) imz 30 30 (Below.refl _ _)
   exact ⟨h1, h2, h3⟩
  clear hv hw hn0
  unfold imv
  go_enter Tryz.func69, Tryz.ntmps69
  go_upto_region 1 with fail
  generalize (w.alloc (.cells (List.toArray [Value.slice p.ab m.br.length p.cb, .slice p.aq p.ts.length p.cq, .slice p.ac m.cf.length p.cc, .slice p.ad m.dn.length p.cd, .int .i64 m.la]) 30)).alloc (.cells (List.toArray [Value.slice none 0 0, .slice none 0 0, .slice none 0 0, .slice none 0 0, .int .i64 0]) 30) = X at HFR0 ⊢
  have Hf := Hd HFR0
  clear HFR0
  obtain ⟨i0, i1, i2, i3, i4⟩ := Hf.out.i.im
  go_upto_region 2 with (first | (refine wpList_load_mid rfl _ _ rfl _ _ rfl _ _ Hf.out.i.c Tryz.underlying30 rfl (by kernel_rfl) ?_) | (go_at_call 10; refine (HTP.out _ Hf.out.b).mono ?_; rintro e wx ⟨rfl, hbx⟩; replace Hf := Hd (Hf.out.below hbx); clear i0 i1 i2 i3 i4; clear hbx HTP))
  replace Hf := Hd (Hf.out.below (bA wx (.cells (List.toArray [Value.int .i64 u.id, .string ⟨u.nm.toArray⟩, .slice u.a u.ps.length u.c]) 38)))
  generalize wx.alloc (.cells (List.toArray [Value.int .i64 u.id, .string ⟨u.nm.toArray⟩, .slice u.a u.ps.length u.c]) 38) = X2 at Hf ⊢
  obtain ⟨i0, i1, i2, i3, i4⟩ := Hf.out.i.im
  have HIU : Hid (X2.rangeAt w.heap.size 0 [Value.slice p.ab m.br.length p.cb, .slice p.aq p.ts.length p.cq, .slice p.ac m.cf.length p.cc, .slice p.ad m.dn.length p.cd, .int .i64 m.la]) := Hd Hf.out.i.c
  go_upto_region 5 with (first | (refine wpList_load_mid rfl _ _ rfl _ _ rfl _ _ HIU.out Tryz.underlying30 rfl (by kernel_rfl) ?_))
  clear HIU
  clear i0 i1 i2 i3 i4
  have Hz := Hd (Dg.new Hf.out [Value.slice p.ab m.br.length p.cb, .slice p.aq p.ts.length p.cq, .slice p.ac m.cf.length p.cc, .slice p.ad m.dn.length p.cd, .int .i64 m.la] 30)
  generalize X2.alloc (.cells (List.toArray [Value.slice p.ab m.br.length p.cb, .slice p.aq p.ts.length p.cq, .slice p.ac m.cf.length p.cc, .slice p.ad m.dn.length p.cd, .int .i64 m.la]) 30) = Y at Hz ⊢
  generalize X2.heap.size = bo at Hz ⊢
  have o1 := Hz.out.o.at 1 _ rfl
  have f1 := Hz.out.o.f 1 (by simp)
  go_upto_region 6 with fail
  replace Hz := Hd (Hz.out.set 1 (by simp) (.slice none 0 0))
  simp only [List.set] at Hz
  clear o1 f1 Hf
  generalize Y.setCell ⟨bo, 1, none⟩ (.slice none 0 0) = Y1 at Hz ⊢
  go_upto_region 7 with fail
  have hnt := HNT.out
  have hnc := HNC.out
  go_loopw [9] (fun i W => ∃ (k : Nat) (av : Option Addr) (cv : Nat) (Q : List Tq), k ≤ p.ts.length ∧ i = .int .i64 (k : Int) ∧ Dg w W m p bo [Value.slice p.ab m.br.length p.cb, .slice av Q.length cv, .slice p.ac m.cf.length p.cc, .slice p.ad m.dn.length p.cd, .int .i64 m.la] ∧ Ro tpc 3 38 W (bo + 1) (.slice av Q.length cv) Q ∧ Hid (Q = (p.ts.take k).filter (fun y : Tq => !idQ r.tp y))) (fun i _ => p.ts.length - (ivQ i).toNat)
  case atStart => exact ⟨0, none, 0, [], Nat.zero_le _, rfl, Hz.out, ro_nil _ _ _ _ _, Hd rfl⟩
  case round =>
   clear Hz
   obtain ⟨k, av, cv, Q, hk, rfl, hf, hr, HQ⟩ := hrel
   have Hq := Hd hf
   have HRO := Hd hr
   clear hf hr
   have i0 := Hq.out.f.i.at 1 _ rfl
   by_cases hlt : k < p.ts.length
   ·have hltI : (k : Int) < (p.ts.length : Int) := by omega
    obtain ⟨bb, ob, hab, hrg⟩ := (HV.out wr Hq.out.f.b).t.rg (show 0 < p.ts.length by omega)
    have HPA := Hd hab
    have HXA : Hid (∀ W, Below w.heap.size w W → W.rangeAt bb (ob + k * 3) (tpc p.ts[k])) := Hd (fun W h => by
     have hh := (HV.out W h).t
     rw [hab] at hh
     exact hh.at encT hlt)
    rw [hab] at i0
    clear hab hrg
    have HT : Hid (∀ c, c = (fun y : Tq => !idQ r.tp y) p.ts[k] → (p.ts.take (k + 1)).filter (fun y : Tq => !idQ r.tp y) = Q ++ (if c then [p.ts[k]] else [])) := Hd (fun c hc => by
     rw [List.take_succ_eq_append_getElem hlt, List.filter_append, ← HQ.out, hc, List.filter_cons, List.filter_nil])
    generalize p.ts[k] = x at HXA HT
    unfold tpc at HXA
    have c0 : wr.cell? ⟨bb, ob + k * 3, none⟩ = some (.int .i64 x.id) := HXA.out wr Hq.out.f.b 0 _ rfl
    by_cases hx : x.id = r.tp
    ·have n1 : (x.id != r.tp) = false := by simp [hx]
     have HQ3 : Hid (Q = (p.ts.take (k + 1)).filter (fun y : Tq => !idQ r.tp y)) := Hd (by rw [HT.out false (by simp [idQ, hx])]; simp)
     clear hx
     go_wp2_with fail
     go_roundw
     case rel => exact ⟨k + 1, av, cv, Q, by omega, by go_num, Hq.out, HRO.out, HQ3⟩
     case measure => simp [ivQ]; omega
    ·have n1 : (x.id != r.tp) = true := by simpa using hx
     obtain ⟨Q2, hq2⟩ : ∃ Q2, Q2 = Q ++ [x] := ⟨_, rfl⟩
     have HQ2 := Hd hq2
     have HQ3 : Hid (Q2 = (p.ts.take (k + 1)).filter (fun y : Tq => !idQ r.tp y)) := Hd (by rw [HT.out true (by simp [idQ, hx]), hq2]; simp)
     have HQL : Hid (Q.length + [x].length ≤ 2000000000) := Hd (by rw [HQ.out]; have h1 := List.length_filter_le (fun y : Tq => !idQ r.tp y) (p.ts.take k); have h2 : (p.ts.take k).length ≤ k := (by rw [List.length_take]; omega); have := HNT.out; simp only [List.length_cons, List.length_nil]; omega)
     clear hx hq2
     go_wp2_with fail
     clear c0 i0
     refine wp_region_held_drew (S := fun W => Df w m p W) (by kernel_rfl) (Hq.out.f.drewN 1) (fun hHeld => ?_)
     have HF4 : Hid (Dg w wr.drew m p bo [Value.slice p.ab m.br.length p.cb, .slice av Q.length cv, .slice p.ac m.cf.length p.cc, .slice p.ad m.dn.length p.cd, .int .i64 m.la]) := Hd (Hq.out.drewN 1)
     have HR4 : Hid (Ro tpc 3 38 wr.drew (bo + 1) (.slice av Q.length cv) Q) := Hd HRO.out
     generalize wr.drew = V4 at hHeld HF4 HR4 ⊢
     clear Hq HRO
     refine tk 0 37 (.pointer (some ⟨bo, 1, none⟩)) rfl rfl hHeld ?_
     simp only [Act.put, zA, zB, zC]
     refine tk 2 39 (.pointer (some ⟨w.heap.size, 1, none⟩)) rfl rfl hHeld ?_
     simp only [Act.put, zA, zB, zC]
     refine tky 3 40 (.slice (some ⟨bb, ob, none⟩) p.ts.length p.cq) rfl rfl (Or.inl ⟨by rfl, by intro w hSw; have h0 := hSw.i.at 1 _ rfl; rw [HPA.out] at h0; go_simp⟩) hHeld ?_
     simp only [Act.put, zA, zB, zC]
     refine tk 4 41 (.int .i64 (k : Int)) rfl rfl hHeld ?_
     simp only [Act.put, zA, zB, zC]
     refine tk 5 42 (.pointer (some ⟨bb, ob + k * 3, none⟩)) rfl rfl hHeld ?_
     simp only [Act.put, zA, zB, zC]
     refine tky 6 43 (_) rfl rfl (yieldsIf_load_mid (by rfl) _ _ rfl _ _ rfl ([Value.int .i64 x.id, .string ⟨x.nm.toArray⟩, .slice x.a x.ps.length x.c]) _ (fun W hW => HXA.out W hW.b) Tryz.underlying38 rfl (by kernel_rfl)) hHeld ?_
     simp only [Act.put, zA, zB, zC]
     refine wpAnyH_ready (rs := [1, 7]) (by kernel_rfl) (by simp) ?_
     refine AllReadyH.cons (o := _) rfl (fun K hK => ?_) (AllReadyH.cons (o := _) rfl (fun K hK => ?_) AllReadyH.nil)
     ·have h0 := HF4.out.o.at 1 _ rfl
      go_simp
      clear h0
      refine hK.out _ _ hHeld (fun hHeld1 => ?_)
      clear hK K hHeld
      have hHeld := hHeld1
      clear hHeld1
      refine wpAnyH_ready (rs := [7]) (by kernel_rfl) (by simp) ?_
      refine AllReadyH.cons (o := _) rfl (fun K hK => ?_) AllReadyH.nil
      go_simp
      have HF5 := Hd (HF4.out.below (bA V4 (.cells (List.toArray [Value.int .i64 x.id, .string ⟨x.nm.toArray⟩, .slice x.a x.ps.length x.c]) 38)))
      have HR5 := Hd (HR4.out.below (bA V4 (.cells (List.toArray [Value.int .i64 x.id, .string ⟨x.nm.toArray⟩, .slice x.a x.ps.length x.c]) 38)))
      have HC5 := Hd (Bx.new V4 [Value.int .i64 x.id, .string ⟨x.nm.toArray⟩, .slice x.a x.ps.length x.c] 38).c
      refine hK.out _ _ HF5.out.f (fun hHeld1 => ?_)
      clear hK K hHeld
      have hHeld := hHeld1
      clear hHeld1
      refine wpAnyH_ready (rs := [8]) (by kernel_rfl) (by simp) ?_
      refine AllReadyH.cons (o := _) rfl (fun K hK => ?_) AllReadyH.nil
      refine step_appR tyiT encT rfl _ _ rfl (bo + 1) (.slice av Q.length cv) Q rfl HR5.out (by have := HF5.out.o.l; omega) _ [x] rfl ⟨_, 1, rfl, Nat.le_refl _, fun _ => ⟨_, 0, rfl, by have := HC5.out; simpa [tpc] using this⟩⟩ HQL.out ?_
      intro av2 cv2 w1 ho1 hb1
      have HF6 := Hd (HF5.out.low hb1)
      have HR6 := Hd ho1
      clear ho1 hb1
      rw [← HQ2.out] at HR6 ⊢
      refine hK.out _ _ HF6.out.f (fun hHeld1 => ?_)
      clear hK K hHeld
      have hHeld := hHeld1
      clear hHeld1
      change wpAnyH _ _ _ _ _ _ _ (Act.put _ (some 45) _) _
      simp only [Act.put, zA, zB, zC]
      refine tk 9 46 (.pointer (some ⟨bo, 1, none⟩)) rfl rfl hHeld ?_
      simp only [Act.put, zA, zB, zC]
      refine wpAnyH_ready (rs := [10]) (by kernel_rfl) (by simp) ?_
      refine AllReadyH.cons (o := _) rfl (fun K hK => ?_) AllReadyH.nil
      have o0 := HF6.out.o.at 1 _ rfl
      have f0 := HF6.out.o.f 1 (by simp)
      go_simp
      clear o0 f0
      have HF70 := Hd (HF6.out.set 1 (by simp) (.slice av2 Q2.length cv2))
      simp only [List.set] at HF70
      have HR7 := Hd (HR6.out.keepG (W' := w1.setCell ⟨bo, 1, none⟩ (.slice av2 Q2.length cv2)) (fun g hg => Below.heap_setCell _ _ _ _ (show ¬ g = bo by omega)))
      refine hK.out _ _ HF70.out.f (fun hHeld1 => ?_)
      clear hK K hHeld
      have hHeld := hHeld1
      clear hHeld1
      refine wpAnyH_done (by kernel_rfl) ?_ _
      clear hHeld
      go_wp2_with fail
      go_roundw
      case rel => exact ⟨k + 1, av2, cv2, Q2, by omega, by go_num, HF70.out, HR7.out, HQ3⟩
      case measure => simp [ivQ]; omega
     ·go_simp
      have HF5 := Hd (HF4.out.below (bA V4 (.cells (List.toArray [Value.int .i64 x.id, .string ⟨x.nm.toArray⟩, .slice x.a x.ps.length x.c]) 38)))
      have HR5 := Hd (HR4.out.below (bA V4 (.cells (List.toArray [Value.int .i64 x.id, .string ⟨x.nm.toArray⟩, .slice x.a x.ps.length x.c]) 38)))
      have HC5 := Hd (Bx.new V4 [Value.int .i64 x.id, .string ⟨x.nm.toArray⟩, .slice x.a x.ps.length x.c] 38).c
      refine hK.out _ _ HF5.out.f (fun hHeld1 => ?_)
      clear hK K hHeld
      have hHeld := hHeld1
      clear hHeld1
      refine wpAnyH_ready (rs := [1]) (by kernel_rfl) (by simp) ?_
      refine AllReadyH.cons (o := _) rfl (fun K hK => ?_) AllReadyH.nil
      have h0 := HF5.out.o.at 1 _ rfl
      go_simp
      clear h0
      refine hK.out _ _ hHeld (fun hHeld1 => ?_)
      clear hK K hHeld
      have hHeld := hHeld1
      clear hHeld1
      refine wpAnyH_ready (rs := [8]) (by kernel_rfl) (by simp) ?_
      refine AllReadyH.cons (o := _) rfl (fun K hK => ?_) AllReadyH.nil
      refine step_appR tyiT encT rfl _ _ rfl (bo + 1) (.slice av Q.length cv) Q rfl HR5.out (by have := HF5.out.o.l; omega) _ [x] rfl ⟨_, 1, rfl, Nat.le_refl _, fun _ => ⟨_, 0, rfl, by have := HC5.out; simpa [tpc] using this⟩⟩ HQL.out ?_
      intro av2 cv2 w1 ho1 hb1
      have HF6 := Hd (HF5.out.low hb1)
      have HR6 := Hd ho1
      clear ho1 hb1
      rw [← HQ2.out] at HR6 ⊢
      refine hK.out _ _ HF6.out.f (fun hHeld1 => ?_)
      clear hK K hHeld
      have hHeld := hHeld1
      clear hHeld1
      change wpAnyH _ _ _ _ _ _ _ (Act.put _ (some 45) _) _
      simp only [Act.put, zA, zB, zC]
      refine tk 9 46 (.pointer (some ⟨bo, 1, none⟩)) rfl rfl hHeld ?_
      simp only [Act.put, zA, zB, zC]
      refine wpAnyH_ready (rs := [10]) (by kernel_rfl) (by simp) ?_
      refine AllReadyH.cons (o := _) rfl (fun K hK => ?_) AllReadyH.nil
      have o0 := HF6.out.o.at 1 _ rfl
      have f0 := HF6.out.o.f 1 (by simp)
      go_simp
      clear o0 f0
      have HF70 := Hd (HF6.out.set 1 (by simp) (.slice av2 Q2.length cv2))
      simp only [List.set] at HF70
      have HR7 := Hd (HR6.out.keepG (W' := w1.setCell ⟨bo, 1, none⟩ (.slice av2 Q2.length cv2)) (fun g hg => Below.heap_setCell _ _ _ _ (show ¬ g = bo by omega)))
      refine hK.out _ _ HF70.out.f (fun hHeld1 => ?_)
      clear hK K hHeld
      have hHeld := hHeld1
      clear hHeld1
      refine wpAnyH_done (by kernel_rfl) ?_ _
      clear hHeld
      go_wp2_with fail
      go_roundw
      case rel => exact ⟨k + 1, av2, cv2, Q2, by omega, by go_num, HF70.out, HR7.out, HQ3⟩
      case measure => simp [ivQ]; omega
   ·obtain rfl : k = p.ts.length := by omega
    obtain ⟨L1, hL1⟩ : ∃ L, L = p.ts.filter fun t => !idQ r.tp t := ⟨_, rfl⟩
    have hq : L1 = Q := by rw [hL1, HQ.out, List.take_length]
    clear HQ
    rw [← hL1] at HTL
    have HMQ : Hid (∀ t ∈ L1, t ∈ p.ts) := Hd (fun t ht => by rw [hL1] at ht; exact (List.mem_filter.1 ht).1)
    clear hL1
    subst hq
    have o2 := Hq.out.o.at 2 _ rfl
    have f2 := Hq.out.o.f 2 (by simp)
    go_upto_region 12 with fail
    clear o2 f2 i0
    have HFZ0 := Hd (Hq.out.set 2 (by simp) (.slice none 0 0))
    simp only [List.set] at HFZ0
    have HRN := Hd (HRO.out.keepG (W' := wr.setCell ⟨bo, 2, none⟩ (.slice none 0 0)) (fun g hg => Below.heap_setCell _ _ _ _ (show ¬ g = bo by omega)))
    clear Hq HRO
    generalize wr.setCell ⟨bo, 2, none⟩ (.slice none 0 0) = A2 at HFZ0 HRN ⊢
    have Hz := Hd HFZ0.out
    clear HFZ0
    obtain ⟨B2, hB2⟩ : ∃ B2, B2 = A2.heap.size := ⟨_, rfl⟩
    have HKR : Hid (∀ W', (∀ g, bo + 1 ≤ g → g < B2 → W'.heap[g]? = A2.heap[g]?) → Rs tpc W' (.slice av L1.length cv) L1) := Hd (fun W' h => HRN.out.kr (fun g h1 h2 => h g h1 (by rw [hB2]; exact h2)))
    have HBB2 : Hid (bo + 1 ≤ B2) := Hd (by rw [hB2]; exact Hz.out.o.l)
    have HKS : Hid (Kpd (bo + 1) B2 A2 A2) := Hd ⟨by omega, fun _ _ _ => rfl⟩
    clear hB2 HRN
    generalize av = av1 at Hz HKR ⊢
    generalize cv = cv1 at Hz HKR ⊢
    go_upto_region 13 with fail
    go_loopw [10] (fun i W => ∃ (k : Nat) (av : Option Addr) (cv : Nat) (Q : List Cf), k ≤ m.cf.length ∧ i = .int .i64 (k : Int) ∧ Dg w W m p bo [Value.slice p.ab m.br.length p.cb, .slice av1 L1.length cv1, .slice av Q.length cv, .slice p.ad m.dn.length p.cd, .int .i64 m.la] ∧ Ro cfc 3 78 W (B2) (.slice av Q.length cv) Q ∧ Kpd (bo + 1) B2 A2 W ∧ Hid (Q = (m.cf.take k).filter (fun y : Cf => !(y.tp == r.tp)))) (fun i _ => m.cf.length - (ivQ i).toNat)
    case atStart => exact ⟨0, none, 0, [], Nat.zero_le _, rfl, Hz.out, ro_nil _ _ _ _ _, HKS.out, Hd rfl⟩
    case round =>
     clear Hz HKS
     obtain ⟨k, av, cv, Q, hk, rfl, hf, hr, hkp, HQ⟩ := hrel
     have Hq := Hd hf
     have HRO := Hd hr
     have HKP := Hd hkp
     clear hf hr hkp
     have i0 := Hq.out.f.i.at 2 _ rfl
     by_cases hlt : k < m.cf.length
     ·have hltI : (k : Int) < (m.cf.length : Int) := by omega
      obtain ⟨bb, ob, hab, hrg⟩ := (HV.out wr Hq.out.f.b).c.rg (show 0 < m.cf.length by omega)
      have HPA := Hd hab
      have HXA : Hid (∀ W, Below w.heap.size w W → W.rangeAt bb (ob + k * 3) (cfc m.cf[k])) := Hd (fun W h => by
       have hh := (HV.out W h).c
       rw [hab] at hh
       exact hh.at encC hlt)
      rw [hab] at i0
      clear hab hrg
      have HT : Hid (∀ c, c = (fun y : Cf => !(y.tp == r.tp)) m.cf[k] → (m.cf.take (k + 1)).filter (fun y : Cf => !(y.tp == r.tp)) = Q ++ (if c then [m.cf[k]] else [])) := Hd (fun c hc => by
       rw [List.take_succ_eq_append_getElem hlt, List.filter_append, ← HQ.out, hc, List.filter_cons, List.filter_nil])
      generalize m.cf[k] = x at HXA HT
      unfold cfc at HXA
      have c0 : wr.cell? ⟨bb, ob + k * 3, none⟩ = some (.int .i64 x.tp) := HXA.out wr Hq.out.f.b 0 _ rfl
      by_cases hx : x.tp = r.tp
      ·have n1 : (x.tp != r.tp) = false := by simp [hx]
       have HQ3 : Hid (Q = (m.cf.take (k + 1)).filter (fun y : Cf => !(y.tp == r.tp))) := Hd (by rw [HT.out false (by simp [hx])]; simp)
       clear hx
       go_wp2_with fail
       go_roundw
       case rel => exact ⟨k + 1, av, cv, Q, by omega, by go_num, Hq.out, HRO.out, HKP.out, HQ3⟩
       case measure => simp [ivQ]; omega
      ·have n1 : (x.tp != r.tp) = true := by simpa using hx
       obtain ⟨Q2, hq2⟩ : ∃ Q2, Q2 = Q ++ [x] := ⟨_, rfl⟩
       have HQ2 := Hd hq2
       have HQ3 : Hid (Q2 = (m.cf.take (k + 1)).filter (fun y : Cf => !(y.tp == r.tp))) := Hd (by rw [HT.out true (by simp [hx]), hq2]; simp)
       have HQL : Hid (Q.length + [x].length ≤ 2000000000) := Hd (by rw [HQ.out]; have h1 := List.length_filter_le (fun y : Cf => !(y.tp == r.tp)) (m.cf.take k); have h2 : (m.cf.take k).length ≤ k := (by rw [List.length_take]; omega); have := HNC.out; simp only [List.length_cons, List.length_nil]; omega)
       clear hx hq2
       go_wp2_with fail
       clear c0 i0
       refine wp_region_held_drew (S := fun W => Df w m p W) (by kernel_rfl) (Hq.out.f.drewN 1) (fun hHeld => ?_)
       have HF4 : Hid (Dg w wr.drew m p bo [Value.slice p.ab m.br.length p.cb, .slice av1 L1.length cv1, .slice av Q.length cv, .slice p.ad m.dn.length p.cd, .int .i64 m.la]) := Hd (Hq.out.drewN 1)
       have HR4 : Hid (Ro cfc 3 78 wr.drew (B2) (.slice av Q.length cv) Q) := Hd HRO.out
       have HK4 : Hid (Kpd (bo + 1) B2 A2 wr.drew) := Hd (HKP.out.drewN 1)
       generalize wr.drew = V4 at hHeld HF4 HR4 HK4 ⊢
       clear Hq HRO HKP
       refine tk 0 63 (.pointer (some ⟨bo, 2, none⟩)) rfl rfl hHeld ?_
       simp only [Act.put, zA, zB, zC]
       refine tk 2 65 (.pointer (some ⟨w.heap.size, 2, none⟩)) rfl rfl hHeld ?_
       simp only [Act.put, zA, zB, zC]
       refine tky 3 66 (.slice (some ⟨bb, ob, none⟩) m.cf.length p.cc) rfl rfl (Or.inl ⟨by rfl, by intro w hSw; have h0 := hSw.i.at 2 _ rfl; rw [HPA.out] at h0; go_simp⟩) hHeld ?_
       simp only [Act.put, zA, zB, zC]
       refine tk 4 67 (.int .i64 (k : Int)) rfl rfl hHeld ?_
       simp only [Act.put, zA, zB, zC]
       refine tk 5 68 (.pointer (some ⟨bb, ob + k * 3, none⟩)) rfl rfl hHeld ?_
       simp only [Act.put, zA, zB, zC]
       refine tky 6 69 (_) rfl rfl (yieldsIf_load_mid (by rfl) _ _ rfl _ _ rfl ([Value.int .i64 x.tp, .string ⟨x.ky.toArray⟩, .string ⟨x.va.toArray⟩]) _ (fun W hW => HXA.out W hW.b) Tryz.underlying78 rfl (by kernel_rfl)) hHeld ?_
       simp only [Act.put, zA, zB, zC]
       refine wpAnyH_ready (rs := [1, 7]) (by kernel_rfl) (by simp) ?_
       refine AllReadyH.cons (o := _) rfl (fun K hK => ?_) (AllReadyH.cons (o := _) rfl (fun K hK => ?_) AllReadyH.nil)
       ·have h0 := HF4.out.o.at 2 _ rfl
        go_simp
        clear h0
        refine hK.out _ _ hHeld (fun hHeld1 => ?_)
        clear hK K hHeld
        have hHeld := hHeld1
        clear hHeld1
        refine wpAnyH_ready (rs := [7]) (by kernel_rfl) (by simp) ?_
        refine AllReadyH.cons (o := _) rfl (fun K hK => ?_) AllReadyH.nil
        go_simp
        have HF5 := Hd (HF4.out.below (bA V4 (.cells (List.toArray [Value.int .i64 x.tp, .string ⟨x.ky.toArray⟩, .string ⟨x.va.toArray⟩]) 78)))
        have HR5 := Hd (HR4.out.below (bA V4 (.cells (List.toArray [Value.int .i64 x.tp, .string ⟨x.ky.toArray⟩, .string ⟨x.va.toArray⟩]) 78)))
        have HC5 := Hd (Bx.new V4 [Value.int .i64 x.tp, .string ⟨x.ky.toArray⟩, .string ⟨x.va.toArray⟩] 78).c
        have HK5 := Hd (HK4.out.below ((bA V4 (.cells (List.toArray [Value.int .i64 x.tp, .string ⟨x.ky.toArray⟩, .string ⟨x.va.toArray⟩]) 78)).mono HK4.out.1))
        refine hK.out _ _ HF5.out.f (fun hHeld1 => ?_)
        clear hK K hHeld
        have hHeld := hHeld1
        clear hHeld1
        refine wpAnyH_ready (rs := [8]) (by kernel_rfl) (by simp) ?_
        refine AllReadyH.cons (o := _) rfl (fun K hK => ?_) AllReadyH.nil
        refine step_appR tyiC encC rfl _ _ rfl (B2) (.slice av Q.length cv) Q rfl HR5.out HK5.out.1 _ [x] rfl ⟨_, 1, rfl, Nat.le_refl _, fun _ => ⟨_, 0, rfl, by have := HC5.out; simpa [cfc] using this⟩⟩ HQL.out ?_
        intro av2 cv2 w1 ho1 hb1
        have HF6 := Hd (HF5.out.low (hb1.mono (by have := HBB2.out; omega)))
        have HR6 := Hd ho1
        have HK6 := Hd (HK5.out.below hb1)
        clear ho1 hb1
        rw [← HQ2.out] at HR6 ⊢
        refine hK.out _ _ HF6.out.f (fun hHeld1 => ?_)
        clear hK K hHeld
        have hHeld := hHeld1
        clear hHeld1
        change wpAnyH _ _ _ _ _ _ _ (Act.put _ (some 71) _) _
        simp only [Act.put, zA, zB, zC]
        refine tk 9 72 (.pointer (some ⟨bo, 2, none⟩)) rfl rfl hHeld ?_
        simp only [Act.put, zA, zB, zC]
        refine wpAnyH_ready (rs := [10]) (by kernel_rfl) (by simp) ?_
        refine AllReadyH.cons (o := _) rfl (fun K hK => ?_) AllReadyH.nil
        have o0 := HF6.out.o.at 2 _ rfl
        have f0 := HF6.out.o.f 2 (by simp)
        go_simp
        clear o0 f0
        have HF70 := Hd (HF6.out.set 2 (by simp) (.slice av2 Q2.length cv2))
        simp only [List.set] at HF70
        have HR7 := Hd (HR6.out.keepG (W' := w1.setCell ⟨bo, 2, none⟩ (.slice av2 Q2.length cv2)) (fun g hg => Below.heap_setCell _ _ _ _ (show ¬ g = bo by have := HBB2.out; omega)))
        have HK7 := Hd (HK6.out.set (Nat.lt_succ_self bo) 2 (.slice av2 Q2.length cv2))
        refine hK.out _ _ HF70.out.f (fun hHeld1 => ?_)
        clear hK K hHeld
        have hHeld := hHeld1
        clear hHeld1
        refine wpAnyH_done (by kernel_rfl) ?_ _
        clear hHeld
        go_wp2_with fail
        go_roundw
        case rel => exact ⟨k + 1, av2, cv2, Q2, by omega, by go_num, HF70.out, HR7.out, HK7.out, HQ3⟩
        case measure => simp [ivQ]; omega
       ·go_simp
        have HF5 := Hd (HF4.out.below (bA V4 (.cells (List.toArray [Value.int .i64 x.tp, .string ⟨x.ky.toArray⟩, .string ⟨x.va.toArray⟩]) 78)))
        have HR5 := Hd (HR4.out.below (bA V4 (.cells (List.toArray [Value.int .i64 x.tp, .string ⟨x.ky.toArray⟩, .string ⟨x.va.toArray⟩]) 78)))
        have HC5 := Hd (Bx.new V4 [Value.int .i64 x.tp, .string ⟨x.ky.toArray⟩, .string ⟨x.va.toArray⟩] 78).c
        have HK5 := Hd (HK4.out.below ((bA V4 (.cells (List.toArray [Value.int .i64 x.tp, .string ⟨x.ky.toArray⟩, .string ⟨x.va.toArray⟩]) 78)).mono HK4.out.1))
        refine hK.out _ _ HF5.out.f (fun hHeld1 => ?_)
        clear hK K hHeld
        have hHeld := hHeld1
        clear hHeld1
        refine wpAnyH_ready (rs := [1]) (by kernel_rfl) (by simp) ?_
        refine AllReadyH.cons (o := _) rfl (fun K hK => ?_) AllReadyH.nil
        have h0 := HF5.out.o.at 2 _ rfl
        go_simp
        clear h0
        refine hK.out _ _ hHeld (fun hHeld1 => ?_)
        clear hK K hHeld
        have hHeld := hHeld1
        clear hHeld1
        refine wpAnyH_ready (rs := [8]) (by kernel_rfl) (by simp) ?_
        refine AllReadyH.cons (o := _) rfl (fun K hK => ?_) AllReadyH.nil
        refine step_appR tyiC encC rfl _ _ rfl (B2) (.slice av Q.length cv) Q rfl HR5.out HK5.out.1 _ [x] rfl ⟨_, 1, rfl, Nat.le_refl _, fun _ => ⟨_, 0, rfl, by have := HC5.out; simpa [cfc] using this⟩⟩ HQL.out ?_
        intro av2 cv2 w1 ho1 hb1
        have HF6 := Hd (HF5.out.low (hb1.mono (by have := HBB2.out; omega)))
        have HR6 := Hd ho1
        have HK6 := Hd (HK5.out.below hb1)
        clear ho1 hb1
        rw [← HQ2.out] at HR6 ⊢
        refine hK.out _ _ HF6.out.f (fun hHeld1 => ?_)
        clear hK K hHeld
        have hHeld := hHeld1
        clear hHeld1
        change wpAnyH _ _ _ _ _ _ _ (Act.put _ (some 71) _) _
        simp only [Act.put, zA, zB, zC]
        refine tk 9 72 (.pointer (some ⟨bo, 2, none⟩)) rfl rfl hHeld ?_
        simp only [Act.put, zA, zB, zC]
        refine wpAnyH_ready (rs := [10]) (by kernel_rfl) (by simp) ?_
        refine AllReadyH.cons (o := _) rfl (fun K hK => ?_) AllReadyH.nil
        have o0 := HF6.out.o.at 2 _ rfl
        have f0 := HF6.out.o.f 2 (by simp)
        go_simp
        clear o0 f0
        have HF70 := Hd (HF6.out.set 2 (by simp) (.slice av2 Q2.length cv2))
        simp only [List.set] at HF70
        have HR7 := Hd (HR6.out.keepG (W' := w1.setCell ⟨bo, 2, none⟩ (.slice av2 Q2.length cv2)) (fun g hg => Below.heap_setCell _ _ _ _ (show ¬ g = bo by have := HBB2.out; omega)))
        have HK7 := Hd (HK6.out.set (Nat.lt_succ_self bo) 2 (.slice av2 Q2.length cv2))
        refine hK.out _ _ HF70.out.f (fun hHeld1 => ?_)
        clear hK K hHeld
        have hHeld := hHeld1
        clear hHeld1
        refine wpAnyH_done (by kernel_rfl) ?_ _
        clear hHeld
        go_wp2_with fail
        go_roundw
        case rel => exact ⟨k + 1, av2, cv2, Q2, by omega, by go_num, HF70.out, HR7.out, HK7.out, HQ3⟩
        case measure => simp [ivQ]; omega
     ·obtain rfl : k = m.cf.length := by omega
      have HLL : Hid (L2 = Q) := Hd (by rw [HL2.out, HQ.out, List.take_length])
      have hq := HLL.out
      clear HLL HQ HL2
      subst hq
      go_wp2_with (first | (refine wpList_load_mid rfl _ _ rfl _ _ rfl _ _ Hq.out.o.c Tryz.underlying30 rfl (by kernel_rfl) ?_) | (refine wS rfl _ _ _ rfl _ _ rfl Hq.out.f.z (iml { m with ts := T1, cf := L2 } { p with aq := av1, cq := cv1, ts := L1, ac := av, cc := cv }) rfl rfl (by kernel_rfl) rfl ?_; intro W3 hz hk hb hp; have HZ := Hd hz; have Hb := Hd (hb _ _ (show w.heap.size ≤ w.heap.size + 1 by omega) Hq.out.f.b); have HRT := Hd (fun W (hW : Agr n0 w.heap.size W3 W) => HKR.out W (fun g h1 h2 => ((hW g (.inr (by have := Hq.out.ge; omega))).trans (hp g (by have := Hq.out.ge; omega))).trans (HKP.out.2 g h1 h2))); have HRS := Hd (fun W (hW : Agr n0 w.heap.size W3 W) => (HRO.out.keepG (fun g hg => (hW g (.inr (by have := HBB2.out; have := Hq.out.ge; omega))).trans (hp g (by have := HBB2.out; have := Hq.out.ge; omega)))).rs); clear hz hk hb hp))
      obtain ⟨q0, q1, q2, q3, q4⟩ := HZ.out.im
      exact bodyPost_ret (v := .tuple #[.agg (iml { m with ts := T1, cf := L2 } { p with aq := av1, cq := cv1, ts := L1, ac := av, cc := cv }).toArray, .int .i64 0]) (by simp [results, Tryz.results69, go_sem, q0, q1, q2, q3, q4, iml]) rfl ⟨{ p with aq := av1, cq := cv1, ts := L1, ac := av, cc := cv }, rfl, (fun W hW => ⟨(Hv.out W _ Hb.out hW).b, HRT.out W hW, fun t ht => (Hv.out W _ Hb.out hW).q t (HMQ.out t ht), HTL.out, HRS.out W hW, (Hv.out W _ Hb.out hW).d⟩), Hb.out⟩
end Go.Proofs.YtlggjgapdpkhiaaGreat
