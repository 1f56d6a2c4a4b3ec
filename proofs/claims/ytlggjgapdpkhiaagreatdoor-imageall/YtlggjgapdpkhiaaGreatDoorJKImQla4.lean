/-
  A TOPIC's PARTITIONS WITH ANOTHER ONE AT A PLACE, OR BEHIND, AS THE DOCUMENT HAS 30 (castellanref15.putPart). Conditions: an image in order, its lists no longer than a hundred thousand; a place that is one, or the next.
  ARE PARTITIONS, TOPICS, IMAGES THE SAME, AS THE DOCUMENT HAS IT (castellanref15.SamePart; sameTopic and Same where they are). Conditions: partitions' rows are short; images in order, their lists no longer than a hundred thousand.
  A TOPIC IS GONE, AND ITS SETTINGS (image.drop). Conditions: an image in order, its lists no longer than a hundred thousand.
  ONE THAT IS PUT AT A PLACE (image.put), ahead of what is there, or in its stead. Conditions: the cells hold them, no more than a hundred thousand.
-/
import Derived.Test.YtlggjgapdpkhiaaGreatDoorJKImQj
import Derived.Test.YtlggjgapdpkhiaaGreatDoorJKRecShra5
import Derived.Test.YtlggjgapdpkhiaaGreatDoorJKImCba5
import Derived.Laws.StructEq
import Derived.Test.YtlggjgapdpkhiaaGreatDoorJKImQha3
import Derived.Test.YtlggjgapdpkhiaaGreatDoorJKImCda5
import Derived.Test.YtlggjgapdpkhiaaGreatDoorJKImDda5
import Derived.Test.YtlggjgapdpkhiaaGreatDoorJKImDgTa5
import Derived.Test.YtlggjgapdpkhiaaGreatDoorJKImQia2
namespace Go.Proofs.YtlggjgapdpkhiaaGreatDoor
open Go.RowKit
def updT (id : Int) (n : Nat) (q : Pt) (t : Tp) : Tp := if t.id = id then ⟨t.id, t.nm, putP t.ps n q⟩ else t
def Tq.row (t : Tq) : Value := .slice t.a t.ps.length t.c
theorem wpList_appP {α : Type} {f : α → List Value} {k : Nat} {P : Program} {S T : TypeId} (hi : Tyi P S T k) (hf : Enc f k) {ops : Array Oper} {rest : List Oper} {o : Oper} {a : Act} {Q : Exit → Act → World → Prop} (w : World) (hg : o.guard = none) (y z : Operand) (ho : o.op = .call { callee := .builtin .append, args := #[y, z], argTypes := #[S, S] }) (B : Nat) (v : Value) (l : List α) (hy : a.eval y = v) (hown : Ro f k T w B v l) (hB : B ≤ w.heap.size) (b c : Nat) (x : α) (hz : a.eval z = .slice (some ⟨b, 0, none⟩) 1 c) (hq : w.rangeAt b 0 (f x)) (hn : l.length ≤ 1000000000)
  (h : ∀ v' w', Ro f k T w' B v' (l ++ [x]) → w.grownBy w' v.ownBlock → v'.ownBlock = v.ownBlock ∨ v'.ownBlock = some w.heap.size → Below B w w' → wpList P ops Q rest (a.put o.dst v') w') : wpList P ops Q (o :: rest) a w := by
 refine wpList_plain hg fun K hK => ?_
 obtain ⟨⟨i0, z0, h1, h2, h3, h4, h5⟩, hu⟩ := hi
 have hq1 : w.rangeAt b 0 ([x].flatMap f) := by simpa using hq
 obtain ⟨v', w', a1, a2, a3, _, a4⟩ := run_append_own_at (P := P) w B S o.type T i0 z0 k i0.bytes hu h1 h2 h3 rfl h5 hf.pos v l.length (l.flatMap f) hown ⟨b, 0, none⟩ 1 c ([x].flatMap f) (fm_len hf [x]) (fun j x hj => by rw [Addr.add_mid]; exact hq1 j x hj) (fm_one hf [x]) (by unfold maxLen; omega) (by
  have : (l.length + 1) * i0.bytes ≤ 2000000000 * 300 := Nat.mul_le_mul (by omega) h4
  omega) hB
 unfold Oper.wp
 simp [execOp, ho, resolve, invoke, builtin, hy, hz, a1, Result.andThen]
 refine hK _ _ (h v' w' ?_ a3 a4 ((Below.refl B w).grown a3 hB (fun k e => (hown.lt k e).1)))
 unfold Ro
 rw [List.length_append, List.flatMap_append]
 exact a2
theorem Ro.keepB {α : Type} {f : α → List Value} {k : Nat} {T : TypeId} {W W' : World} {B : Nat} {v : Value} {l : List α} (h : Ro f k T W B v l) (hk : ∀ g, v.ownBlock = some g → W'.heap[g]? = W.heap[g]?) : Ro f k T W' B v l := by
 refine ⟨h.1, ?_⟩
 rcases h.2 with h2 | ⟨g, cap, cur, a1, a2, a3, a4⟩
 ·exact .inl h2
 ·exact .inr ⟨g, cap, cur, a1, a2, by rw [hk g (by rw [a1]; rfl)]; exact a3, a4⟩
structure Pk (W : World) (p : Ip) (q : Pp) (bo N : Nat) (v : Value) (Q : List Tq) : Prop where
 o : Ro tpc 3 70 W (bo + 1) v Q
 ob : ∀ g, v.ownBlock = some g → g < N
 n : ∀ t ∈ Q, t ∈ p.ts ∨ (Ro ptc 6 50 W (bo + 1) t.row t.ps ∧ (∀ g, t.row.ownBlock = some g → g < N ∧ ¬ v.ownBlock = some g) ∧ ∀ x ∈ t.ps, x = q ∨ ∃ u ∈ p.ts, x ∈ u.ps)
structure Pg (w W : World) (m : Im) (p : Ip) (q : Pp) (bo : Nat) (os : List Value) : Prop where
 i : Bx W w.heap.size (iml m p)
 c : Bx W (w.heap.size + 1) (ptc q)
 z : Bx W (w.heap.size + 1 + 1) imz
 o : Bx W bo os
 ge : w.heap.size + 1 + 1 + 1 ≤ bo
 b : Below w.heap.size w W
section
variable {w W W' : World} {m : Im} {p : Ip} {q : Pp} {os Q : List _} {bo N : Nat} {v v' : Value}
theorem Pk.keep {Q : List Tq} (h : Pk W p q bo N v Q) (hk : ∀ g, bo + 1 ≤ g → g < N → W'.heap[g]? = W.heap[g]?) : Pk W' p q bo N v Q :=
 ⟨h.o.keepB (fun g hg => hk g (h.o.lt g hg).1 (h.ob g hg)), h.ob, fun t ht => (h.n t ht).imp id (fun y => ⟨y.1.keepB (fun g hg => hk g (y.1.lt g hg).1 (y.2.1 g hg).1), y.2⟩)⟩
theorem Pk.below {Q : List Tq} (h : Pk W p q bo N v Q) (_ : N ≤ W.heap.size) (hb : Below W.heap.size W W') : Pk W' p q bo N v Q := h.keep (fun g _ h2 => hb.block g (by omega))
theorem Pk.setO {Q : List Tq} (h : Pk W p q bo W.heap.size v Q) (j : Nat) (u : Value) : Pk (W.setCell ⟨bo, j, none⟩ u) p q bo (W.setCell ⟨bo, j, none⟩ u).heap.size v Q := by
 have h1 := h.keep (W' := W.setCell ⟨bo, j, none⟩ u) (fun g h1 _ => Below.heap_setCell _ _ _ _ (show ¬ g = bo by omega))
 have e : (W.setCell ⟨bo, j, none⟩ u).heap.size = W.heap.size := by simp
 rw [e]
 exact h1
theorem Pk.app {Q : List Tq} {t : Tq} (h : Pk W p q bo N v Q) (_ : N ≤ W.heap.size) (ht : t ∈ p.ts ∨ (Ro ptc 6 50 W (bo + 1) t.row t.ps ∧ (∀ g, t.row.ownBlock = some g → N ≤ g) ∧ ∀ x ∈ t.ps, x = q ∨ ∃ u ∈ p.ts, x ∈ u.ps)) (ho : Ro tpc 3 70 W' (bo + 1) v' (Q ++ [t])) (hg : W.grownBy W' v.ownBlock) (hob : v'.ownBlock = v.ownBlock ∨ v'.ownBlock = some W.heap.size) : Pk W' p q bo W'.heap.size v' (Q ++ [t]) := by
 have hs := hg.size
 have key : ∀ u : Tq, Ro ptc 6 50 W (bo + 1) u.row u.ps → (∀ g, u.row.ownBlock = some g → ¬ v.ownBlock = some g) → Ro ptc 6 50 W' (bo + 1) u.row u.ps ∧ ∀ g, u.row.ownBlock = some g → g < W'.heap.size ∧ ¬ v'.ownBlock = some g := fun u hu hn => by
  refine ⟨hu.keepB (fun g hg1 => hg.block g (hu.lt g hg1).2 (fun e => hn g hg1 e.symm)), fun g hg1 => ?_⟩
  have hl := (hu.lt g hg1).2
  refine ⟨by omega, fun e => ?_⟩
  rcases hob with y | y
  ·exact hn g hg1 (y ▸ e)
  ·rw [y] at e
   cases e
   omega
 refine ⟨ho, fun g hg1 => (ho.lt g hg1).2, fun u hu => ?_⟩
 rcases List.mem_append.1 hu with hu | hu
 ·exact (h.n u hu).imp id (fun y => by
   obtain ⟨y1, y2⟩ := key u y.1 (fun g hg1 => (y.2.1 g hg1).2)
   exact ⟨y1, y2, y.2.2⟩)
 ·obtain rfl := List.mem_singleton.1 hu
  exact ht.imp id (fun y => by
   obtain ⟨y1, y2⟩ := key u y.1 (fun g hg1 e => by have := h.ob g e; have := y.2.1 g hg1; omega)
   exact ⟨y1, y2, y.2.2⟩)
theorem Pg.below {os : List Value} (h : Pg w W m p q bo os) (hb : Below W.heap.size W W') : Pg w W' m p q bo os := ⟨h.i.below hb, h.c.below hb, h.z.below hb, h.o.below hb, h.ge, bt h.b hb⟩
theorem Pg.set {os : List Value} (h : Pg w W m p q bo os) (j : Nat) (hj : j < os.length) (u : Value) : Pg w (W.setCell ⟨bo, j, none⟩ u) m p q bo (os.set j u) :=
 have hg := h.ge
 ⟨h.i.setOther (by omega) j u, h.c.setOther (by omega) j u, h.z.setOther (by omega) j u, h.o.setCell j hj u, h.ge, h.b.setCell (p := ⟨bo, j, none⟩) (show w.heap.size ≤ bo by omega) u⟩
theorem Pg.setN {os : List Value} (h : Pg w W m p q bo os) (n : Nat) (hn : bo < n) (j : Nat) (u : Value) : Pg w (W.setCell ⟨n, j, none⟩ u) m p q bo os :=
 have hg := h.ge
 ⟨h.i.setOther (by omega) j u, h.c.setOther (by omega) j u, h.z.setOther (by omega) j u, h.o.setOther (by omega) j u, h.ge, h.b.setCell (p := ⟨n, j, none⟩) (show w.heap.size ≤ n by omega) u⟩
theorem Pg.low {os : List Value} (h : Pg w W m p q bo os) (hb : Below (bo + 1) W W') : Pg w W' m p q bo os :=
 have hg := h.ge
 ⟨h.i.lowB hb (by omega), h.c.lowB hb (by omega), h.z.lowB hb (by omega), h.o.lowB hb (by omega), h.ge, h.b.trans (hb.mono (by omega))⟩
end
theorem putP_map (l : List Pp) (n : Nat) (q : Pp) : (l.take n ++ [q] ++ l.drop (n + 1)).map (·.1) = putP (l.map (·.1)) n q.1 := by simp [putP]
theorem putP_end (l : List Pp) (n : Nat) (q : Pp) (h : l.length ≤ n) : (l.take n ++ [q]).map (·.1) = putP (l.map (·.1)) n q.1 := by
 unfold putP
 rw [List.drop_eq_nil_of_le (by rw [List.length_map]; omega)]
 simp
set_option maxRecDepth 100000 in
set_option maxHeartbeats 16000000 in
theorem rputp_any (m : Im) (p : Ip) (id : Int) (n : Nat) (q : Pp) (w : World) (n0 : Nat → Prop) (hn0 : ∀ g, n0 g → g < w.heap.size) (hv : ∀ W, (∀ g, n0 g → W.heap[g]? = w.heap[g]?) → ImR W m p) (hw : Wf m 100000) (hq : ∀ W, (∀ g, n0 g → W.heap[g]? = w.heap[g]?) → PtR W q) (hn : ∀ t ∈ p.ts, t.id = id → n ≤ t.ps.length) : Calls Tryz.prog 70 #[imv m p, .int .i64 id, .int .i64 (n : Int), .agg (ptc q).toArray] w fun e w' => ∃ p', e = .returned (imv { m with ts := m.ts.map (updT id n q.1) } p') ∧ (∀ W, Agr n0 w.heap.size w' W → ImR W { m with ts := m.ts.map (updT id n q.1) } p') ∧ Below w.heap.size w w' := by
 have HVV := hide (fun (W W3 : World) (hb : Below w.heap.size w W3) (hW : Agr n0 w.heap.size W3 W) => hv W (fun g hg => (hW g (.inl hg)).trans (hb.block g (hn0 g hg))))
 have HQQ := hide (fun (W W3 : World) (hb : Below w.heap.size w W3) (hW : Agr n0 w.heap.size W3 W) => hq W (fun g hg => (hW g (.inl hg)).trans (hb.block g (hn0 g hg))))
 replace hv : ImR w m p := hv w (fun _ _ => rfl)
 have HV := hide (fun W (h : Below w.heap.size w W) => hv.below h)
 have HNT : Hid (p.ts.length ≤ 100000) := hide (by rw [hv.len]; exact hw.nt)
 have HNP := hide (fun t (ht : t ∈ p.ts) => hv.np hw ht)
 have HNN := hide hn
 have HME : Hid (m.ts.map (updT id n q.1) = p.ts.map (fun t => updT id n q.1 t.tp)) := hide (by rw [← hv.e, List.map_map]; rfl)
 obtain ⟨T1, hT1⟩ : ∃ T, T = m.ts.map (updT id n q.1) := ⟨_, rfl⟩
 rw [← hT1] at HME ⊢
 have HFR0 : Hid (Bx (((w.alloc (.cells (List.toArray [Value.slice p.ab m.br.length p.cb, .slice p.aq p.ts.length p.cq, .slice p.ac m.cf.length p.cc, .slice p.ad m.dn.length p.cd, .int .i64 m.la]) 30)).alloc (.cells (List.toArray [Value.slice q.2.a0 q.1.ids.length q.2.c0, .slice q.2.a1 q.1.isr.length q.2.c1, .int .i64 q.1.ld, .int .i64 q.1.ep, .slice q.2.a2 q.1.ad.length q.2.c2, .slice q.2.a3 q.1.dr.length q.2.c3]) 50)).alloc (.cells (List.toArray [Value.slice none 0 0, .slice none 0 0, .slice none 0 0, .slice none 0 0, .int .i64 0]) 30)) w.heap.size (iml m p) ∧ Bx (((w.alloc (.cells (List.toArray [Value.slice p.ab m.br.length p.cb, .slice p.aq p.ts.length p.cq, .slice p.ac m.cf.length p.cc, .slice p.ad m.dn.length p.cd, .int .i64 m.la]) 30)).alloc (.cells (List.toArray [Value.slice q.2.a0 q.1.ids.length q.2.c0, .slice q.2.a1 q.1.isr.length q.2.c1, .int .i64 q.1.ld, .int .i64 q.1.ep, .slice q.2.a2 q.1.ad.length q.2.c2, .slice q.2.a3 q.1.dr.length q.2.c3]) 50)).alloc (.cells (List.toArray [Value.slice none 0 0, .slice none 0 0, .slice none 0 0, .slice none 0 0, .int .i64 0]) 30)) (w.heap.size + 1) (ptc q) ∧ Bx (((w.alloc (.cells (List.toArray [Value.slice p.ab m.br.length p.cb, .slice p.aq p.ts.length p.cq, .slice p.ac m.cf.length p.cc, .slice p.ad m.dn.length p.cd, .int .i64 m.la]) 30)).alloc (.cells (List.toArray [Value.slice q.2.a0 q.1.ids.length q.2.c0, .slice q.2.a1 q.1.isr.length q.2.c1, .int .i64 q.1.ld, .int .i64 q.1.ep, .slice q.2.a2 q.1.ad.length q.2.c2, .slice q.2.a3 q.1.dr.length q.2.c3]) 50)).alloc (.cells (List.toArray [Value.slice none 0 0, .slice none 0 0, .slice none 0 0, .slice none 0 0, .int .i64 0]) 30)) (w.heap.size + 1 + 1) imz ∧ Below w.heap.size w (((w.alloc (.cells (List.toArray [Value.slice p.ab m.br.length p.cb, .slice p.aq p.ts.length p.cq, .slice p.ac m.cf.length p.cc, .slice p.ad m.dn.length p.cd, .int .i64 m.la]) 30)).alloc (.cells (List.toArray [Value.slice q.2.a0 q.1.ids.length q.2.c0, .slice q.2.a1 q.1.isr.length q.2.c1, .int .i64 q.1.ld, .int .i64 q.1.ep, .slice q.2.a2 q.1.ad.length q.2.c2, .slice q.2.a3 q.1.dr.length q.2.c3]) 50)).alloc (.cells (List.toArray [Value.slice none 0 0, .slice none 0 0, .slice none 0 0, .slice none 0 0, .int .i64 0]) 30))) := hide (Bx.mk3 w (iml m p) (ptc q) imz 30 50 30 (Below.refl _ _))
 clear hv hw hn0 hq hn hT1
 unfold imv ptc
 go_enter Tryz.func70, Tryz.ntmps70
 go_upto_region 1 with fail
 generalize ((w.alloc (.cells (List.toArray [Value.slice p.ab m.br.length p.cb, .slice p.aq p.ts.length p.cq, .slice p.ac m.cf.length p.cc, .slice p.ad m.dn.length p.cd, .int .i64 m.la]) 30)).alloc (.cells (List.toArray [Value.slice q.2.a0 q.1.ids.length q.2.c0, .slice q.2.a1 q.1.isr.length q.2.c1, .int .i64 q.1.ld, .int .i64 q.1.ep, .slice q.2.a2 q.1.ad.length q.2.c2, .slice q.2.a3 q.1.dr.length q.2.c3]) 50)).alloc (.cells (List.toArray [Value.slice none 0 0, .slice none 0 0, .slice none 0 0, .slice none 0 0, .int .i64 0]) 30) = X at HFR0 ⊢
 have i1 := HFR0.out.1.at 1 _ rfl
 have HIU : Hid (X.rangeAt w.heap.size 0 [Value.slice p.ab m.br.length p.cb, .slice p.aq p.ts.length p.cq, .slice p.ac m.cf.length p.cc, .slice p.ad m.dn.length p.cd, .int .i64 m.la]) := hide HFR0.out.1.c
 go_upto_region 2 with (first | (refine wpList_load_mid rfl _ _ rfl _ _ rfl _ _ HIU.out Tryz.underlying30 rfl (by kernel_rfl) ?_))
 clear i1 HIU
 have HFZ : Hid (Pg w (X.alloc (.cells (List.toArray [Value.slice p.ab m.br.length p.cb, .slice p.aq p.ts.length p.cq, .slice p.ac m.cf.length p.cc, .slice p.ad m.dn.length p.cd, .int .i64 m.la]) 30)) m p q X.heap.size [Value.slice p.ab m.br.length p.cb, .slice p.aq p.ts.length p.cq, .slice p.ac m.cf.length p.cc, .slice p.ad m.dn.length p.cd, .int .i64 m.la]) := hide ⟨HFR0.out.1.alloc _, HFR0.out.2.1.alloc _, HFR0.out.2.2.1.alloc _, Bx.new X [Value.slice p.ab m.br.length p.cb, .slice p.aq p.ts.length p.cq, .slice p.ac m.cf.length p.cc, .slice p.ad m.dn.length p.cd, .int .i64 m.la] 30, HFR0.out.2.2.1.l, bt HFR0.out.2.2.2 (below_al1 X _)⟩
 clear HFR0
 generalize X.alloc (.cells (List.toArray [Value.slice p.ab m.br.length p.cb, .slice p.aq p.ts.length p.cq, .slice p.ac m.cf.length p.cc, .slice p.ad m.dn.length p.cd, .int .i64 m.la]) 30) = Y at HFZ ⊢
 generalize X.heap.size = bo at HFZ ⊢
 have o1 := HFZ.out.o.at 1 _ rfl
 have f1 := HFZ.out.o.f 1 (by simp)
 go_upto_region 3 with fail
 replace HFZ := hide (HFZ.out.set 1 (by simp) (.slice none 0 0))
 simp only [List.set] at HFZ
 clear o1 f1
 generalize Y.setCell ⟨bo, 1, none⟩ (.slice none 0 0) = Y1 at HFZ ⊢
 go_upto_region 4 with fail
 go_loopw [10] (fun i W => ∃ (k : Nat) (av : Option Addr) (cv : Nat) (Q : List Tq), k ≤ p.ts.length ∧ i = .int .i64 (k : Int) ∧ Pg w W m p q bo [Value.slice p.ab m.br.length p.cb, .slice av Q.length cv, .slice p.ac m.cf.length p.cc, .slice p.ad m.dn.length p.cd, .int .i64 m.la] ∧ Pk W p q bo W.heap.size (.slice av Q.length cv) Q ∧ Hid (Q.map Tq.tp = (p.ts.take k).map fun t => updT id n q.1 t.tp)) (fun i _ => p.ts.length - (ivQ i).toNat)
 case atStart => exact ⟨0, none, 0, [], Nat.zero_le _, rfl, HFZ.out, ⟨ro_nil _ _ _ _ _, (fun g hg => by cases hg), fun t ht => by cases ht⟩, hide rfl⟩
 case round =>
  clear HFZ
  obtain ⟨k, av, cv, Q, hk, rfl, hf, hr, HQ⟩ := hrel
  have HFB := hide hf
  have HPK := hide hr
  clear hf hr
  have i1 := HFB.out.i.at 1 _ rfl
  have HQL : Hid (Q.length ≤ 100000) := hide (by have h := congrArg List.length HQ.out; rw [List.length_map, List.length_map, List.length_take] at h; have := HNT.out; omega)
  by_cases hlt : k < p.ts.length
  ·have hltI : (k : Int) < (p.ts.length : Int) := by omega
   obtain ⟨bb, ob, hab, hrg⟩ := (HV.out wr HFB.out.b).t.rg (show 0 < p.ts.length by omega)
   have HXC := hide (fm_at encT hrg hlt)
   rw [hab] at i1
   clear hab hrg
   have HXI : Hid (p.ts[k] ∈ p.ts) := hide (List.getElem_mem hlt)
   have HXQ := hide ((HV.out wr HFB.out.b).q _ HXI.out)
   have HTK : Hid ((p.ts.take (k + 1)).map (fun t => updT id n q.1 t.tp) = Q.map Tq.tp ++ [updT id n q.1 p.ts[k].tp]) := hide (by rw [List.take_succ_eq_append_getElem hlt, List.map_append, HQ.out]; rfl)
   generalize p.ts[k] = x at HXC HXI HXQ HTK
   unfold tpc at HXC
   go_upto_region 7 with (first | (refine wpList_load_mid rfl _ _ rfl _ _ rfl _ _ HXC.out Tryz.underlying70 rfl (by kernel_rfl) ?_))
   have HF1 := hide (HFB.out.below (below_al1 wr (.cells (List.toArray [Value.int .i64 x.id, .string ⟨x.nm.toArray⟩, .slice x.a x.ps.length x.c]) 70)))
   have HP1 := hide (HPK.out.below (Nat.le_refl _) (below_al1 wr (.cells (List.toArray [Value.int .i64 x.id, .string ⟨x.nm.toArray⟩, .slice x.a x.ps.length x.c]) 70)))
   have HC1 := hide (Bx.new wr [Value.int .i64 x.id, .string ⟨x.nm.toArray⟩, .slice x.a x.ps.length x.c] 70)
   have HX1 := hide (HXQ.out.below (below_al1 wr (.cells (List.toArray [Value.int .i64 x.id, .string ⟨x.nm.toArray⟩, .slice x.a x.ps.length x.c]) 70)))
   have HNB : Hid (bo < wr.heap.size) := hide HFB.out.o.l
   clear HFB HPK i1 HXC HXQ
   have HVS : Hid ((wr.alloc (.cells (List.toArray [Value.int .i64 x.id, .string ⟨x.nm.toArray⟩, .slice x.a x.ps.length x.c]) 70)).heap.size = wr.heap.size + 1) := hide (by simp)
   generalize wr.alloc (.cells (List.toArray [Value.int .i64 x.id, .string ⟨x.nm.toArray⟩, .slice x.a x.ps.length x.c]) 70) = V at HF1 HP1 HC1 HX1 HVS ⊢
   generalize wr.heap.size = nb at HP1 HC1 HNB HVS ⊢
   have c0 := HC1.out.at 0 _ rfl
   have hnt := HNT.out
   by_cases hx : ¬ x.id = id
   ·have n1 : (x.id == id) = false := by simpa using hx
    have hxt : ¬ x.tp.id = id := hx
    have HMM : Hid (x ∈ p.ts ∨ (Ro ptc 6 50 (V.alloc (.cells (List.toArray [Value.int .i64 x.id, .string ⟨x.nm.toArray⟩, .slice x.a x.ps.length x.c]) 70)) (bo + 1) x.row x.ps ∧ (∀ g, x.row.ownBlock = some g → nb ≤ g) ∧ ∀ y ∈ x.ps, y = q ∨ ∃ u ∈ p.ts, y ∈ u.ps)) := hide (.inl HXI.out)
    have HVL : Hid (nb ≤ V.heap.size) := hide (by have := HVS.out; omega)
    have HUP : Hid (updT id n q.1 x.tp = x.tp) := hide (if_neg hxt)
    clear hx hxt
    have HFd := hide (HF1.out.below (below_al1 V (.cells (List.toArray [Value.int .i64 x.id, .string ⟨x.nm.toArray⟩, .slice x.a x.ps.length x.c]) 70)))
    have HPd := hide (HP1.out.below (by have := HVL.out; omega) (below_al1 V (.cells (List.toArray [Value.int .i64 x.id, .string ⟨x.nm.toArray⟩, .slice x.a x.ps.length x.c]) 70)))
    have HUd := hide (Bx.new V [Value.int .i64 x.id, .string ⟨x.nm.toArray⟩, .slice x.a x.ps.length x.c] 70).c
    have o1 := HF1.out.o.at 1 _ rfl
    clear HX1
    obtain ⟨Q2, hQ2⟩ : ∃ L, L = Q ++ [x] := ⟨_, rfl⟩
    have HQ2 := hide hQ2
    have HSF : Hid (Q2.map Tq.tp = (p.ts.take (k + 1)).map fun t => updT id n q.1 t.tp) := hide (by rw [hQ2, HTK.out, List.map_append, List.map_cons, List.map_nil]; rw [HUP.out])
    clear hQ2
    go_wp2_with (first | (refine wpList_load_mid rfl _ _ rfl _ _ rfl _ _ HC1.out.c Tryz.underlying70 rfl (by kernel_rfl) ?_) | (refine wpList_appP tyiT encT _ rfl _ _ rfl (bo + 1) _ Q rfl HPd.out.o (by have := HFd.out.o.l; omega) _ 1 (x) rfl HUd.out (by have := HQL.out; omega) ?_; intro v2 w2 ho2 hg2 hob2 hb2; have HPe := hide (HPd.out.app (by simp; have := HVL.out; omega) HMM.out ho2 hg2 hob2); rw [← HQ2.out] at ho2 HPe; obtain ⟨av2, cv2, rfl⟩ := ho2.form; have HFe := hide (HFd.out.low hb2); have HFf := hide (HFe.out.set 1 (by simp) (.slice av2 Q2.length cv2)); simp only [List.set] at HFf; have HPf := hide (HPe.out.setO 1 (.slice av2 Q2.length cv2)); clear ho2 hg2 hob2 hb2; clear o1; have o1 := HFe.out.o.at 1 _ rfl; have f1 := HFe.out.o.f 1 (by simp)))
    go_roundw
    case rel => exact ⟨k + 1, av2, cv2, Q2, by omega, by go_num, HFf.out, HPf.out, HSF⟩
    case measure => simp [ivQ]; omega
   ·replace hx := Decidable.of_not_not hx
    have n1 : (x.id == id) = true := by simpa using hx
    have hxt : x.tp.id = id := hx
    have HUP : Hid (updT id n q.1 x.tp = ⟨x.id, x.nm, putP (x.ps.map (·.1)) n q.1⟩) := hide (if_pos hxt)
    have hnx : n ≤ x.ps.length := HNN.out x HXI.out hx
    have HNX := hide hnx
    have hpl : x.ps.length ≤ 100000 := HNP.out x HXI.out
    have HPL := hide hpl
    have hUP : ∀ W, (Instr.slice 68 (.slice x.a x.ps.length x.c) none (some (.int .i64 (n : Int))) none).run Tryz.prog W = .ok (.slice x.a n x.c) W := fun W => upto_run tyiP x.a x.ps.length x.c n hnx HX1.out.ps.cap.2 W
    have HVL : Hid (nb + 1 ≤ V.heap.size) := hide (by have := HVS.out; omega)
    have HLN : Hid ((x.ps.take n).length = n) := hide (by rw [List.length_take]; omega)
    obtain ⟨L1, hL1⟩ : ∃ L, L = x.ps.take n := ⟨_, rfl⟩
    have HL1 := hide hL1
    rw [← hL1] at HLN
    have HRT := hide (HX1.out.ps.upto encP n hnx)
    rw [← hL1] at HRT
    clear hx hxt hL1 hnx
    have c2 := HC1.out.at 2 _ rfl
    go_upto_region 9 with fail
    go_upto_region 10 with (first | (refine wpList_appR tyiP encP _ rfl _ _ rfl (nb + 1) _ [] rfl (ro_nil _ _ _ _ _) HVL.out _ L1 rfl HRT.out (by have := HLN.out; have := HPL.out; have := HNX.out; simp only [List.length_nil]; omega) ?_; intro v1 w1 ho1 hg1 hb1; rw [List.nil_append] at ho1; have HR1 := hide ho1; have HB1 := hide hb1; clear ho1 hg1 hb1))
    obtain ⟨a1, c1, rfl⟩ := HR1.out.form
    have HF2 := hide (HF1.out.low (HB1.out.mono (by have := HNB.out; omega)))
    have HP2 := hide (HP1.out.keep (fun g _ h2 => HB1.out.block g (by omega)))
    have HC2 := hide (HC1.out.lowB HB1.out (by omega))
    clear c0 c2 hUP n1
    obtain ⟨L2, hL2⟩ : ∃ L, L = L1 ++ [q] := ⟨_, rfl⟩
    have HL2 := hide hL2
    have HLN2 : Hid (L2.length = n + 1) := hide (by rw [hL2, List.length_append, HLN.out]; rfl)
    clear hL2
    have HF3 := hide (HF2.out.below (below_al1 w1 (.cells (List.toArray [Value.slice q.2.a0 q.1.ids.length q.2.c0, .slice q.2.a1 q.1.isr.length q.2.c1, .int .i64 q.1.ld, .int .i64 q.1.ep, .slice q.2.a2 q.1.ad.length q.2.c2, .slice q.2.a3 q.1.dr.length q.2.c3]) 50)))
    have HR3 := hide (HR1.out.below (below_al1 w1 (.cells (List.toArray [Value.slice q.2.a0 q.1.ids.length q.2.c0, .slice q.2.a1 q.1.isr.length q.2.c1, .int .i64 q.1.ld, .int .i64 q.1.ep, .slice q.2.a2 q.1.ad.length q.2.c2, .slice q.2.a3 q.1.dr.length q.2.c3]) 50)))
    have HU3 := hide (Bx.new w1 [Value.slice q.2.a0 q.1.ids.length q.2.c0, .slice q.2.a1 q.1.isr.length q.2.c1, .int .i64 q.1.ld, .int .i64 q.1.ep, .slice q.2.a2 q.1.ad.length q.2.c2, .slice q.2.a3 q.1.dr.length q.2.c3] 50).c
    have HS1 : Hid (nb + 1 ≤ w1.heap.size) := hide (by have := HB1.out.size; have := HVL.out; omega)
    have HB3 := hide (HB1.out.trans ((below_al1 w1 (.cells (List.toArray [Value.slice q.2.a0 q.1.ids.length q.2.c0, .slice q.2.a1 q.1.isr.length q.2.c1, .int .i64 q.1.ld, .int .i64 q.1.ep, .slice q.2.a2 q.1.ad.length q.2.c2, .slice q.2.a3 q.1.dr.length q.2.c3]) 50)).mono HS1.out))
    have HQU : Hid (w1.rangeAt (w.heap.size + 1) 0 [Value.slice q.2.a0 q.1.ids.length q.2.c0, .slice q.2.a1 q.1.isr.length q.2.c1, .int .i64 q.1.ld, .int .i64 q.1.ep, .slice q.2.a2 q.1.ad.length q.2.c2, .slice q.2.a3 q.1.dr.length q.2.c3]) := hide HF2.out.c.c
    go_upto_region 11 with (first | (refine wpList_load_mid rfl _ _ rfl _ _ rfl _ _ HQU.out Tryz.underlying50 rfl (by kernel_rfl) ?_) | (refine wpList_app1g tyiP encP _ rfl _ _ rfl (nb + 1) _ L1 rfl HR3.out (by simp; have := HS1.out; omega) q _ 1 rfl (Nat.le_refl _) HU3.out (by have := HLN.out; have := HNX.out; have := HPL.out; omega) ?_; intro v3 w3 ho3 hg3 hb3; rw [← HL2.out] at ho3; have HR4 := hide ho3; have HB4 := hide (HB3.out.trans hb3); have HS3 := hide hb3.size; clear ho3 hg3 hb3))
    obtain ⟨a3, c3, rfl⟩ := HR4.out.form
    have HF4 := hide (HF1.out.low (HB4.out.mono (by have := HNB.out; omega)))
    have HP4 := hide (HP1.out.keep (fun g _ h2 => HB4.out.block g (by omega)))
    have HC4 := hide (HC1.out.lowB HB4.out (by omega))
    have HS4 : Hid (nb + 1 ≤ w3.heap.size) := hide (by have := HB4.out.size; have := HVL.out; omega)
    clear HF2 HP2 HF3 HR3 HU3 HR1 HS3 HB3 HQU
    have c2 := HC4.out.at 2 _ rfl
    by_cases hnl : n < x.ps.length
    ·have hnI : (n : Int) < (x.ps.length : Int) := by omega
     have hwl : wrap64 ((n : Int) + 1) = (n : Int) + 1 := by have := HPL.out; unfold wrap64; omega
     obtain ⟨ao, hsl0, hdr⟩ := Rs.from tyiP encP HX1.out.ps (n + 1) (by omega)
     have hsl : ∀ W, (Instr.slice 68 (.slice x.a x.ps.length x.c) (some (.int .i64 ((n : Int) + 1))) none none).run Tryz.prog W = .ok (.slice ao (x.ps.length - (n + 1)) (x.c - (n + 1))) W := hsl0
     have HDR := hide (hdr w3 (by rw [HVS.out]; exact HB4.out))
     clear hsl0 hdr
     obtain ⟨D, hD⟩ : ∃ D, D = x.ps.drop (n + 1) := ⟨_, rfl⟩
     have HD := hide hD
     have HDL : Hid (D.length = x.ps.length - (n + 1)) := hide (by rw [hD, List.length_drop])
     rw [← hD] at HDR
     clear hD
     obtain ⟨L3, hL3⟩ : ∃ L, L = L2 ++ D := ⟨_, rfl⟩
     have HL3 := hide hL3
     clear hL3
     go_upto_region 13 with (first | (refine wpList_appR tyiP encP _ rfl _ _ rfl (nb + 1) _ L2 rfl HR4.out HS4.out _ D rfl HDR.out (by have := HLN2.out; have := HDL.out; have := HPL.out; omega) ?_; intro v6 w6 ho6 hg6 hb6; rw [← HL3.out] at ho6; have HR6 := hide ho6; have HB6 := hide (HB4.out.trans hb6); clear ho6 hg6 hb6))
     obtain ⟨a6, c6, rfl⟩ := HR6.out.form
     have HF6 := hide (HF1.out.low (HB6.out.mono (by have := HNB.out; omega)))
     have HP6 := hide (HP1.out.keep (fun g _ h2 => HB6.out.block g (by omega)))
     have HC6 := hide (HC1.out.lowB HB6.out (by omega))
     have HS6 : Hid (nb + 1 ≤ w6.heap.size) := hide (by have := HB6.out.size; have := HVL.out; omega)
     clear c2 hnI hwl hsl HF4 HP4 HC4 HR4 HDR HVL
     have c2 := HC6.out.at 2 _ rfl
     have g2 := HC6.out.f 2 (by simp)
     go_upto_region 14 with fail
     clear c2 g2
     have HF5 := hide (HF6.out.setN nb HNB.out 2 (.slice a6 L3.length c6))
     have HC5 := hide (HC6.out.setCell 2 (by simp) (.slice a6 L3.length c6))
     simp only [List.set] at HC5
     have HP5 := hide (HP6.out.keep (W' := w6.setCell ⟨nb, 2, none⟩ (.slice a6 L3.length c6)) (fun g _ h2 => Below.heap_setCell _ _ _ _ (show ¬ g = nb by omega)))
     have HR5 := hide (HR6.out.keepG (W' := w6.setCell ⟨nb, 2, none⟩ (.slice a6 L3.length c6)) (fun g hg => Below.heap_setCell _ _ _ _ (show ¬ g = nb by omega)))
     have HVL : Hid (nb ≤ (w6.setCell ⟨nb, 2, none⟩ (.slice a6 L3.length c6)).heap.size) := hide (by simp; have := HS6.out; omega)
     clear HF6 HR6 HP6 HC6
     generalize w6.setCell ⟨nb, 2, none⟩ (.slice a6 L3.length c6) = V5 at HF5 HC5 HP5 HR5 HVL ⊢
     have HMM : Hid ((⟨x.id, x.nm, L3, a6, c6⟩ : Tq) ∈ p.ts ∨ (Ro ptc 6 50 (V5.alloc (.cells (List.toArray [Value.int .i64 x.id, .string ⟨x.nm.toArray⟩, .slice a6 L3.length c6]) 70)) (bo + 1) (⟨x.id, x.nm, L3, a6, c6⟩ : Tq).row (⟨x.id, x.nm, L3, a6, c6⟩ : Tq).ps ∧ (∀ g, (⟨x.id, x.nm, L3, a6, c6⟩ : Tq).row.ownBlock = some g → nb ≤ g) ∧ ∀ y ∈ (⟨x.id, x.nm, L3, a6, c6⟩ : Tq).ps, y = q ∨ ∃ u ∈ p.ts, y ∈ u.ps)) := hide (.inr ⟨(HR5.out.below (below_al1 V5 (.cells (List.toArray [Value.int .i64 x.id, .string ⟨x.nm.toArray⟩, .slice a6 L3.length c6]) 70))).mono (by have := HNB.out; omega), (fun g hg => by have := (HR5.out.lt g hg).1; omega), (fun y hy => by
      have hy' : y ∈ L3 := hy
      rw [HL3.out, HL2.out, HL1.out, HD.out] at hy'
      simp only [List.mem_append, List.mem_singleton] at hy'
      rcases hy' with (h | h) | h
      ·exact .inr ⟨x, HXI.out, List.mem_of_mem_take h⟩
      ·exact .inl h
      ·exact .inr ⟨x, HXI.out, List.mem_of_mem_drop h⟩)⟩)
     have HFd := hide (HF5.out.below (below_al1 V5 (.cells (List.toArray [Value.int .i64 x.id, .string ⟨x.nm.toArray⟩, .slice a6 L3.length c6]) 70)))
     have HPd := hide (HP5.out.below (by have := HVL.out; omega) (below_al1 V5 (.cells (List.toArray [Value.int .i64 x.id, .string ⟨x.nm.toArray⟩, .slice a6 L3.length c6]) 70)))
     have HUd := hide (Bx.new V5 [Value.int .i64 x.id, .string ⟨x.nm.toArray⟩, .slice a6 L3.length c6] 70).c
     have o1 := HF5.out.o.at 1 _ rfl
     obtain ⟨Q2, hQ2⟩ : ∃ L, L = Q ++ [(⟨x.id, x.nm, L3, a6, c6⟩ : Tq)] := ⟨_, rfl⟩
     have HQ2 := hide hQ2
     have HSF : Hid (Q2.map Tq.tp = (p.ts.take (k + 1)).map fun t => updT id n q.1 t.tp) := hide (by rw [hQ2, HTK.out, List.map_append, List.map_cons, List.map_nil]; rw [HUP.out]; show _ ++ [(⟨x.id, x.nm, L3.map (·.1)⟩ : Tp)] = _; rw [HL3.out, HL2.out, HL1.out, HD.out, putP_map])
     clear hQ2
     go_wp2_with (first | (refine wpList_load_mid rfl _ _ rfl _ _ rfl _ _ HC5.out.c Tryz.underlying70 rfl (by kernel_rfl) ?_) | (refine wpList_appP tyiT encT _ rfl _ _ rfl (bo + 1) _ Q rfl HPd.out.o (by have := HFd.out.o.l; omega) _ 1 ((⟨x.id, x.nm, L3, a6, c6⟩ : Tq)) rfl HUd.out (by have := HQL.out; omega) ?_; intro v2 w2 ho2 hg2 hob2 hb2; have HPe := hide (HPd.out.app (by simp; have := HVL.out; omega) HMM.out ho2 hg2 hob2); rw [← HQ2.out] at ho2 HPe; obtain ⟨av2, cv2, rfl⟩ := ho2.form; have HFe := hide (HFd.out.low hb2); have HFf := hide (HFe.out.set 1 (by simp) (.slice av2 Q2.length cv2)); simp only [List.set] at HFf; have HPf := hide (HPe.out.setO 1 (.slice av2 Q2.length cv2)); clear ho2 hg2 hob2 hb2; clear o1; have o1 := HFe.out.o.at 1 _ rfl; have f1 := HFe.out.o.f 1 (by simp)))
     go_roundw
     case rel => exact ⟨k + 1, av2, cv2, Q2, by omega, by go_num, HFf.out, HPf.out, HSF⟩
     case measure => simp [ivQ]; omega
    ·have hnI : ¬ (n : Int) < (x.ps.length : Int) := by omega
     clear HVL
     have g2 := HC4.out.f 2 (by simp)
     go_upto_region 14 with fail
     clear c2 g2
     have HF5 := hide (HF4.out.setN nb HNB.out 2 (.slice a3 L2.length c3))
     have HC5 := hide (HC4.out.setCell 2 (by simp) (.slice a3 L2.length c3))
     simp only [List.set] at HC5
     have HP5 := hide (HP4.out.keep (W' := w3.setCell ⟨nb, 2, none⟩ (.slice a3 L2.length c3)) (fun g _ h2 => Below.heap_setCell _ _ _ _ (show ¬ g = nb by omega)))
     have HR5 := hide (HR4.out.keepG (W' := w3.setCell ⟨nb, 2, none⟩ (.slice a3 L2.length c3)) (fun g hg => Below.heap_setCell _ _ _ _ (show ¬ g = nb by omega)))
     have HVL : Hid (nb ≤ (w3.setCell ⟨nb, 2, none⟩ (.slice a3 L2.length c3)).heap.size) := hide (by simp; have := HS4.out; omega)
     clear HF4 HR4 HP4 HC4
     generalize w3.setCell ⟨nb, 2, none⟩ (.slice a3 L2.length c3) = V5 at HF5 HC5 HP5 HR5 HVL ⊢
     have HMM : Hid ((⟨x.id, x.nm, L2, a3, c3⟩ : Tq) ∈ p.ts ∨ (Ro ptc 6 50 (V5.alloc (.cells (List.toArray [Value.int .i64 x.id, .string ⟨x.nm.toArray⟩, .slice a3 L2.length c3]) 70)) (bo + 1) (⟨x.id, x.nm, L2, a3, c3⟩ : Tq).row (⟨x.id, x.nm, L2, a3, c3⟩ : Tq).ps ∧ (∀ g, (⟨x.id, x.nm, L2, a3, c3⟩ : Tq).row.ownBlock = some g → nb ≤ g) ∧ ∀ y ∈ (⟨x.id, x.nm, L2, a3, c3⟩ : Tq).ps, y = q ∨ ∃ u ∈ p.ts, y ∈ u.ps)) := hide (.inr ⟨(HR5.out.below (below_al1 V5 (.cells (List.toArray [Value.int .i64 x.id, .string ⟨x.nm.toArray⟩, .slice a3 L2.length c3]) 70))).mono (by have := HNB.out; omega), (fun g hg => by have := (HR5.out.lt g hg).1; omega), (fun y hy => by
      have hy' : y ∈ L2 := hy
      rw [HL2.out, HL1.out] at hy'
      simp only [List.mem_append, List.mem_singleton] at hy'
      rcases hy' with h | h
      ·exact .inr ⟨x, HXI.out, List.mem_of_mem_take h⟩
      ·exact .inl h)⟩)
     have HFd := hide (HF5.out.below (below_al1 V5 (.cells (List.toArray [Value.int .i64 x.id, .string ⟨x.nm.toArray⟩, .slice a3 L2.length c3]) 70)))
     have HPd := hide (HP5.out.below (by have := HVL.out; omega) (below_al1 V5 (.cells (List.toArray [Value.int .i64 x.id, .string ⟨x.nm.toArray⟩, .slice a3 L2.length c3]) 70)))
     have HUd := hide (Bx.new V5 [Value.int .i64 x.id, .string ⟨x.nm.toArray⟩, .slice a3 L2.length c3] 70).c
     have o1 := HF5.out.o.at 1 _ rfl
     obtain ⟨Q2, hQ2⟩ : ∃ L, L = Q ++ [(⟨x.id, x.nm, L2, a3, c3⟩ : Tq)] := ⟨_, rfl⟩
     have HQ2 := hide hQ2
     have HSF : Hid (Q2.map Tq.tp = (p.ts.take (k + 1)).map fun t => updT id n q.1 t.tp) := hide (by rw [hQ2, HTK.out, List.map_append, List.map_cons, List.map_nil]; rw [HUP.out]; show _ ++ [(⟨x.id, x.nm, L2.map (·.1)⟩ : Tp)] = _; rw [HL2.out, HL1.out, putP_end _ _ _ (show x.ps.length ≤ n by omega)])
     clear hQ2
     go_wp2_with (first | (refine wpList_load_mid rfl _ _ rfl _ _ rfl _ _ HC5.out.c Tryz.underlying70 rfl (by kernel_rfl) ?_) | (refine wpList_appP tyiT encT _ rfl _ _ rfl (bo + 1) _ Q rfl HPd.out.o (by have := HFd.out.o.l; omega) _ 1 ((⟨x.id, x.nm, L2, a3, c3⟩ : Tq)) rfl HUd.out (by have := HQL.out; omega) ?_; intro v2 w2 ho2 hg2 hob2 hb2; have HPe := hide (HPd.out.app (by simp; have := HVL.out; omega) HMM.out ho2 hg2 hob2); rw [← HQ2.out] at ho2 HPe; obtain ⟨av2, cv2, rfl⟩ := ho2.form; have HFe := hide (HFd.out.low hb2); have HFf := hide (HFe.out.set 1 (by simp) (.slice av2 Q2.length cv2)); simp only [List.set] at HFf; have HPf := hide (HPe.out.setO 1 (.slice av2 Q2.length cv2)); clear ho2 hg2 hob2 hb2; clear o1; have o1 := HFe.out.o.at 1 _ rfl; have f1 := HFe.out.o.f 1 (by simp)))
     go_roundw
     case rel => exact ⟨k + 1, av2, cv2, Q2, by omega, by go_num, HFf.out, HPf.out, HSF⟩
     case measure => simp [ivQ]; omega
  ·obtain rfl : k = p.ts.length := by omega
   have HTT : Hid (Q.map Tq.tp = T1) := hide (by rw [HQ.out, List.take_length, HME.out])
   clear HQ HME
   go_wp2_with (first | (refine wpList_load_mid rfl _ _ rfl _ _ rfl _ _ HFB.out.o.c Tryz.underlying30 rfl (by kernel_rfl) ?_) | (refine wpList_set rfl _ _ _ rfl _ _ rfl HFB.out.z (iml { m with ts := T1 } { p with aq := av, cq := cv, ts := Q }) rfl rfl (by kernel_rfl) rfl ?_; intro W3 hz hk hb hp; have HZ := hide hz; have HBB := hide (hb _ _ (show w.heap.size ≤ w.heap.size + 1 + 1 by omega) HFB.out.b); have HRS := hide (fun W (hW : Agr n0 w.heap.size W3 W) => HPK.out.keep (W' := W) (fun g h1 _ => (hW g (.inr (by have := HFB.out.ge; omega))).trans (hp g (by have := HFB.out.ge; omega)))); clear hz hk hb hp))
   obtain ⟨q0, q1, q2, q3, q4⟩ := HZ.out.im
   exact bodyPost_ret (v := .agg (iml { m with ts := T1 } { p with aq := av, cq := cv, ts := Q }).toArray) (by simp [results, Tryz.results70, go_sem, q0, q1, q2, q3, q4, iml]) rfl ⟨{ p with aq := av, cq := cv, ts := Q }, rfl, (fun W hW => ⟨(HVV.out W _ HBB.out hW).b, (HRS.out W hW).o.rs, (fun t ht => ((HRS.out W hW).n t ht).elim (fun h => (HVV.out W _ HBB.out hW).q t h) (fun h => ⟨h.1.rs, fun y hy => (h.2.2 y hy).elim (fun e => e ▸ HQQ.out W _ HBB.out hW) (fun ⟨u, hu, hy2⟩ => ((HVV.out W _ HBB.out hW).q u hu).pt y hy2)⟩)), HTT.out, (HVV.out W _ HBB.out hW).c, (HVV.out W _ HBB.out hW).d⟩), HBB.out⟩
end Go.Proofs.YtlggjgapdpkhiaaGreatDoor
namespace Go.Proofs.YtlggjgapdpkhiaaGreatDoor
open Go.RowKit
set_option maxRecDepth 100000
set_option maxHeartbeats 16000000
theorem samP_refl (p : Pt) : samP p p = true := by
 unfold samP
 simp
structure Tb (w W : World) (xs ys : List Value) : Prop where
 a : Bx W w.heap.size xs
 c : Bx W (w.heap.size + 1) ys
 b : Below w.heap.size w W
theorem Tb.below {w W W' : World} {xs ys : List Value} (h : Tb w W xs ys) (hb : Below W.heap.size W W') : Tb w W' xs ys := ⟨h.a.below hb, h.c.below hb, bt h.b hb⟩
theorem Tb.drewN {w W : World} {xs ys : List Value} (h : Tb w W xs ys) (n : Nat) : Tb w (W.drewN n) xs ys := ⟨h.a.drewN n, h.c.drewN n, ⟨h.b.os, h.b.tape, h.b.output, h.b.size, h.b.block⟩⟩
theorem Tb.mk' (w : World) (xs ys : List Value) (t u : TypeId) : Tb w ((w.alloc (.cells xs.toArray t)).alloc (.cells ys.toArray u)) xs ys := by
 obtain ⟨h1, h2, h3⟩ := Bx.mk2 w xs ys t u (Below.refl _ _)
 exact ⟨h1, h2, h3⟩
theorem eqI_bq (a b : List Int) : eqI a b = (a == b) := by
 unfold eqI
 by_cases h : a = b
 ·simp [h]
 ·simp [h]
theorem rsamep_any (p q : Pp) (w : World) (hp : PtR w p) (hq : PtR w q) (hl : WfP p.1) : Calls Tryz.prog 71 #[.agg (ptc p).toArray, .agg (ptc q).toArray] w fun e w' => e = .returned (.bool (samP p.1 q.1)) ∧ Below w.heap.size w w' := by
 have HR0 : Hid (Tb w ((w.alloc (.cells (List.toArray [Value.slice p.2.a0 p.1.ids.length p.2.c0, .slice p.2.a1 p.1.isr.length p.2.c1, .int .i64 p.1.ld, .int .i64 p.1.ep, .slice p.2.a2 p.1.ad.length p.2.c2, .slice p.2.a3 p.1.dr.length p.2.c3]) 50)).alloc (.cells (List.toArray [Value.slice q.2.a0 q.1.ids.length q.2.c0, .slice q.2.a1 q.1.isr.length q.2.c1, .int .i64 q.1.ld, .int .i64 q.1.ep, .slice q.2.a2 q.1.ad.length q.2.c2, .slice q.2.a3 q.1.dr.length q.2.c3]) 50)) (ptc p) (ptc q)) := hide (Tb.mk' w (ptc p) (ptc q) 50 50)
 have HI0 := hide (fun W (h : Below w.heap.size w W) => ints_any _ _ p.1.ids q.1.ids W (hp.below h).s0 (hq.below h).s0 (Nat.le_trans hl.l0 (by decide)))
 have HI1 := hide (fun W (h : Below w.heap.size w W) => ints_any _ _ p.1.isr q.1.isr W (hp.below h).s1 (hq.below h).s1 (Nat.le_trans hl.l1 (by decide)))
 have HI2 := hide (fun W (h : Below w.heap.size w W) => ints_any _ _ p.1.ad q.1.ad W (hp.below h).s2 (hq.below h).s2 (Nat.le_trans hl.l2 (by decide)))
 have HI3 := hide (fun W (h : Below w.heap.size w W) => ints_any _ _ p.1.dr q.1.dr W (hp.below h).s3 (hq.below h).s3 (Nat.le_trans hl.l3 (by decide)))
 rw [eqI_bq] at HI0 HI1 HI2 HI3
 clear hp hq hl
 obtain ⟨R, hR⟩ : ∃ R, R = samP p.1 q.1 := ⟨_, rfl⟩
 rw [← hR]
 unfold samP at hR
 unfold ptc at *
 go_enter Tryz.func71, Tryz.ntmps71
 go_upto_region 1 with fail
 generalize (w.alloc (.cells (List.toArray [Value.slice p.2.a0 p.1.ids.length p.2.c0, .slice p.2.a1 p.1.isr.length p.2.c1, .int .i64 p.1.ld, .int .i64 p.1.ep, .slice p.2.a2 p.1.ad.length p.2.c2, .slice p.2.a3 p.1.dr.length p.2.c3]) 50)).alloc (.cells (List.toArray [Value.slice q.2.a0 q.1.ids.length q.2.c0, .slice q.2.a1 q.1.isr.length q.2.c1, .int .i64 q.1.ld, .int .i64 q.1.ep, .slice q.2.a2 q.1.ad.length q.2.c2, .slice q.2.a3 q.1.dr.length q.2.c3]) 50) = X at HR0 ⊢
 have HR := hide HR0.out
 clear HR0
 have p0 := HR.out.a.at 0 _ rfl
 have p1 := HR.out.a.at 1 _ rfl
 have p2 := HR.out.a.at 2 _ rfl
 have p3 := HR.out.a.at 3 _ rfl
 have p4 := HR.out.a.at 4 _ rfl
 have p5 := HR.out.a.at 5 _ rfl
 have q0 := HR.out.c.at 0 _ rfl
 have q1 := HR.out.c.at 1 _ rfl
 have q2 := HR.out.c.at 2 _ rfl
 have q3 := HR.out.c.at 3 _ rfl
 have q4 := HR.out.c.at 4 _ rfl
 have q5 := HR.out.c.at 5 _ rfl
 cases e1 : p.1.ld == q.1.ld with
 | false =>
  rw [e1] at hR
  have n1 : (p.1.ld != q.1.ld) = true := by simpa using e1
  clear e1
  have HRR := hide hR
  clear hR
  go_wp2_with (first | fail)
  go_ret
  exact ⟨by rw [HRR.out]; rfl, HR.out.b⟩
 | true =>
  rw [e1] at hR
  have n1 : (p.1.ld != q.1.ld) = false := by simpa using e1
  clear e1
  cases e2 : p.1.ep == q.1.ep with
  | false =>
   rw [e2] at hR
   have n2 : (p.1.ep != q.1.ep) = true := by simpa using e2
   clear e2
   have HRR := hide hR
   clear hR
   go_wp2_with (first | fail)
   go_ret
   exact ⟨by rw [HRR.out]; rfl, HR.out.b⟩
  | true =>
   rw [e2] at hR
   have n2 : (p.1.ep != q.1.ep) = false := by simpa using e2
   clear e2
   cases f0 : p.1.ids == q.1.ids with
   | false =>
    rw [f0] at hR HI0
    clear f0
    have HRR := hide hR
    clear hR
    go_wp2_with (first | (go_at_call 111; with_reducible refine (HI0.out _ HR.out.b).mono ?_; rintro e wz ⟨rfl, hbz⟩; replace HR := hide (HR.out.below hbz.below); have p0 := HR.out.a.at 0 _ rfl; have p1 := HR.out.a.at 1 _ rfl; have p4 := HR.out.a.at 4 _ rfl; have p5 := HR.out.a.at 5 _ rfl; have q0 := HR.out.c.at 0 _ rfl; have q1 := HR.out.c.at 1 _ rfl; have q4 := HR.out.c.at 4 _ rfl; have q5 := HR.out.c.at 5 _ rfl; clear hbz))
    go_ret
    exact ⟨by rw [HRR.out]; rfl, HR.out.b⟩
   | true =>
    rw [f0] at hR HI0
    clear f0
    cases f1 : p.1.isr == q.1.isr with
    | false =>
     rw [f1] at hR HI1
     clear f1
     have HRR := hide hR
     clear hR
     go_wp2_with (first | (go_at_call 111; with_reducible refine (HI0.out _ HR.out.b).mono ?_; rintro e wz ⟨rfl, hbz⟩; replace HR := hide (HR.out.below hbz.below); have p0 := HR.out.a.at 0 _ rfl; have p1 := HR.out.a.at 1 _ rfl; have p4 := HR.out.a.at 4 _ rfl; have p5 := HR.out.a.at 5 _ rfl; have q0 := HR.out.c.at 0 _ rfl; have q1 := HR.out.c.at 1 _ rfl; have q4 := HR.out.c.at 4 _ rfl; have q5 := HR.out.c.at 5 _ rfl; clear hbz) | (go_at_call 111; with_reducible refine (HI1.out _ HR.out.b).mono ?_; rintro e wz ⟨rfl, hbz⟩; replace HR := hide (HR.out.below hbz.below); have p0 := HR.out.a.at 0 _ rfl; have p1 := HR.out.a.at 1 _ rfl; have p4 := HR.out.a.at 4 _ rfl; have p5 := HR.out.a.at 5 _ rfl; have q0 := HR.out.c.at 0 _ rfl; have q1 := HR.out.c.at 1 _ rfl; have q4 := HR.out.c.at 4 _ rfl; have q5 := HR.out.c.at 5 _ rfl; clear hbz))
     go_ret
     exact ⟨by rw [HRR.out]; rfl, HR.out.b⟩
    | true =>
     rw [f1] at hR HI1
     clear f1
     cases f2 : p.1.ad == q.1.ad with
     | false =>
      rw [f2] at hR HI2
      clear f2
      have HRR := hide hR
      clear hR
      go_wp2_with (first | (go_at_call 111; with_reducible refine (HI0.out _ HR.out.b).mono ?_; rintro e wz ⟨rfl, hbz⟩; replace HR := hide (HR.out.below hbz.below); have p0 := HR.out.a.at 0 _ rfl; have p1 := HR.out.a.at 1 _ rfl; have p4 := HR.out.a.at 4 _ rfl; have p5 := HR.out.a.at 5 _ rfl; have q0 := HR.out.c.at 0 _ rfl; have q1 := HR.out.c.at 1 _ rfl; have q4 := HR.out.c.at 4 _ rfl; have q5 := HR.out.c.at 5 _ rfl; clear hbz) | (go_at_call 111; with_reducible refine (HI1.out _ HR.out.b).mono ?_; rintro e wz ⟨rfl, hbz⟩; replace HR := hide (HR.out.below hbz.below); have p0 := HR.out.a.at 0 _ rfl; have p1 := HR.out.a.at 1 _ rfl; have p4 := HR.out.a.at 4 _ rfl; have p5 := HR.out.a.at 5 _ rfl; have q0 := HR.out.c.at 0 _ rfl; have q1 := HR.out.c.at 1 _ rfl; have q4 := HR.out.c.at 4 _ rfl; have q5 := HR.out.c.at 5 _ rfl; clear hbz) | (go_at_call 111; with_reducible refine (HI2.out _ HR.out.b).mono ?_; rintro e wz ⟨rfl, hbz⟩; replace HR := hide (HR.out.below hbz.below); have p0 := HR.out.a.at 0 _ rfl; have p1 := HR.out.a.at 1 _ rfl; have p4 := HR.out.a.at 4 _ rfl; have p5 := HR.out.a.at 5 _ rfl; have q0 := HR.out.c.at 0 _ rfl; have q1 := HR.out.c.at 1 _ rfl; have q4 := HR.out.c.at 4 _ rfl; have q5 := HR.out.c.at 5 _ rfl; clear hbz))
      go_ret
      exact ⟨by rw [HRR.out]; rfl, HR.out.b⟩
     | true =>
      rw [f2] at hR HI2
      clear f2
      cases f3 : p.1.dr == q.1.dr with
      | false =>
       rw [f3] at hR HI3
       clear f3
       have HRR := hide hR
       clear hR
       go_wp2_with (first | (go_at_call 111; with_reducible refine (HI0.out _ HR.out.b).mono ?_; rintro e wz ⟨rfl, hbz⟩; replace HR := hide (HR.out.below hbz.below); have p0 := HR.out.a.at 0 _ rfl; have p1 := HR.out.a.at 1 _ rfl; have p4 := HR.out.a.at 4 _ rfl; have p5 := HR.out.a.at 5 _ rfl; have q0 := HR.out.c.at 0 _ rfl; have q1 := HR.out.c.at 1 _ rfl; have q4 := HR.out.c.at 4 _ rfl; have q5 := HR.out.c.at 5 _ rfl; clear hbz) | (go_at_call 111; with_reducible refine (HI1.out _ HR.out.b).mono ?_; rintro e wz ⟨rfl, hbz⟩; replace HR := hide (HR.out.below hbz.below); have p0 := HR.out.a.at 0 _ rfl; have p1 := HR.out.a.at 1 _ rfl; have p4 := HR.out.a.at 4 _ rfl; have p5 := HR.out.a.at 5 _ rfl; have q0 := HR.out.c.at 0 _ rfl; have q1 := HR.out.c.at 1 _ rfl; have q4 := HR.out.c.at 4 _ rfl; have q5 := HR.out.c.at 5 _ rfl; clear hbz) | (go_at_call 111; with_reducible refine (HI2.out _ HR.out.b).mono ?_; rintro e wz ⟨rfl, hbz⟩; replace HR := hide (HR.out.below hbz.below); have p0 := HR.out.a.at 0 _ rfl; have p1 := HR.out.a.at 1 _ rfl; have p4 := HR.out.a.at 4 _ rfl; have p5 := HR.out.a.at 5 _ rfl; have q0 := HR.out.c.at 0 _ rfl; have q1 := HR.out.c.at 1 _ rfl; have q4 := HR.out.c.at 4 _ rfl; have q5 := HR.out.c.at 5 _ rfl; clear hbz) | (go_at_call 111; with_reducible refine (HI3.out _ HR.out.b).mono ?_; rintro e wz ⟨rfl, hbz⟩; replace HR := hide (HR.out.below hbz.below); have p0 := HR.out.a.at 0 _ rfl; have p1 := HR.out.a.at 1 _ rfl; have p4 := HR.out.a.at 4 _ rfl; have p5 := HR.out.a.at 5 _ rfl; have q0 := HR.out.c.at 0 _ rfl; have q1 := HR.out.c.at 1 _ rfl; have q4 := HR.out.c.at 4 _ rfl; have q5 := HR.out.c.at 5 _ rfl; clear hbz))
       go_ret
       exact ⟨by rw [HRR.out]; rfl, HR.out.b⟩
      | true =>
       rw [f3] at hR HI3
       clear f3
       have HRR := hide hR
       clear hR
       go_wp2_with (first | (go_at_call 111; with_reducible refine (HI0.out _ HR.out.b).mono ?_; rintro e wz ⟨rfl, hbz⟩; replace HR := hide (HR.out.below hbz.below); have p0 := HR.out.a.at 0 _ rfl; have p1 := HR.out.a.at 1 _ rfl; have p4 := HR.out.a.at 4 _ rfl; have p5 := HR.out.a.at 5 _ rfl; have q0 := HR.out.c.at 0 _ rfl; have q1 := HR.out.c.at 1 _ rfl; have q4 := HR.out.c.at 4 _ rfl; have q5 := HR.out.c.at 5 _ rfl; clear hbz) | (go_at_call 111; with_reducible refine (HI1.out _ HR.out.b).mono ?_; rintro e wz ⟨rfl, hbz⟩; replace HR := hide (HR.out.below hbz.below); have p0 := HR.out.a.at 0 _ rfl; have p1 := HR.out.a.at 1 _ rfl; have p4 := HR.out.a.at 4 _ rfl; have p5 := HR.out.a.at 5 _ rfl; have q0 := HR.out.c.at 0 _ rfl; have q1 := HR.out.c.at 1 _ rfl; have q4 := HR.out.c.at 4 _ rfl; have q5 := HR.out.c.at 5 _ rfl; clear hbz) | (go_at_call 111; with_reducible refine (HI2.out _ HR.out.b).mono ?_; rintro e wz ⟨rfl, hbz⟩; replace HR := hide (HR.out.below hbz.below); have p0 := HR.out.a.at 0 _ rfl; have p1 := HR.out.a.at 1 _ rfl; have p4 := HR.out.a.at 4 _ rfl; have p5 := HR.out.a.at 5 _ rfl; have q0 := HR.out.c.at 0 _ rfl; have q1 := HR.out.c.at 1 _ rfl; have q4 := HR.out.c.at 4 _ rfl; have q5 := HR.out.c.at 5 _ rfl; clear hbz) | (go_at_call 111; with_reducible refine (HI3.out _ HR.out.b).mono ?_; rintro e wz ⟨rfl, hbz⟩; replace HR := hide (HR.out.below hbz.below); have p0 := HR.out.a.at 0 _ rfl; have p1 := HR.out.a.at 1 _ rfl; have p4 := HR.out.a.at 4 _ rfl; have p5 := HR.out.a.at 5 _ rfl; have q0 := HR.out.c.at 0 _ rfl; have q1 := HR.out.c.at 1 _ rfl; have q4 := HR.out.c.at 4 _ rfl; have q5 := HR.out.c.at 5 _ rfl; clear hbz))
       go_ret
       exact ⟨by rw [HRR.out]; rfl, HR.out.b⟩
theorem rsamet_any (x y : Tq) (w : World) (hx : TqR w x) (hy : TqR w y) (he : x.tp = y.tp) (hl : x.ps.length ≤ 100000) (hw : ∀ q ∈ x.ps, WfP q.1) : Calls Tryz.prog 34 #[.agg (tpc x).toArray, .agg (tpc y).toArray] w fun e w' => e = .returned (.bool true) ∧ Below w.heap.size w w' := by
 have HX := hide (fun W (h : Below w.heap.size w W) => hx.below h)
 have HY := hide (fun W (h : Below w.heap.size w W) => hy.below h)
 obtain ⟨xi, xn, xps, xa, xc⟩ := x
 obtain ⟨yi, yn, yps, ya, yc⟩ := y
 simp only [Tq.tp, Tp.mk.injEq] at he
 obtain ⟨rfl, rfl, hps⟩ := he
 have hln : xps.length = yps.length := by have := congrArg List.length hps; simpa using this
 have HW := hide hw
 have HPS := hide hps
 have HLN := hide hln
 clear hln
 have HR0 := hide (Tb.mk' w (tpc ⟨xi, xn, xps, xa, xc⟩) (tpc ⟨xi, xn, yps, ya, yc⟩) 70 70)
 clear hx hy hw hps
 unfold tpc at *
 dsimp only at *
 go_enter Tryz.func34, Tryz.ntmps34
 go_upto_region 1 with fail
 generalize (w.alloc (.cells (List.toArray [Value.int .i64 xi, .string ⟨xn.toArray⟩, .slice xa xps.length xc]) 70)).alloc (.cells (List.toArray [Value.int .i64 xi, .string ⟨xn.toArray⟩, .slice ya yps.length yc]) 70) = X at HR0 ⊢
 have HR := hide HR0.out
 clear HR0
 have a0 := HR.out.a.at 0 _ rfl
 have a1 := HR.out.a.at 1 _ rfl
 have a2 := HR.out.a.at 2 _ rfl
 have b0 := HR.out.c.at 0 _ rfl
 have b1 := HR.out.c.at 1 _ rfl
 have b2 := HR.out.c.at 2 _ rfl
 have n1 : (xi != xi) = false := by simp
 have n2 : (xn != xn) = false := by simp
 have n3 : ((xps.length : Int) != (yps.length : Int)) = false := by simp [HLN.out]
 go_upto_region 4 with fail
 clear a0 a1 a2 b0 b1 b2 n1 n2 n3
 go_loopw [5] (fun i W => ∃ k : Nat, k ≤ xps.length ∧ i = .int .i64 (k : Int) ∧ Tb w W [Value.int .i64 xi, .string ⟨xn.toArray⟩, .slice xa xps.length xc] [Value.int .i64 xi, .string ⟨xn.toArray⟩, .slice ya yps.length yc]) (fun i _ => xps.length - (ivQ i).toNat)
 case atStart => exact ⟨0, Nat.zero_le _, rfl, HR.out⟩
 case round =>
  clear HR
  obtain ⟨k, hk, rfl, hr⟩ := hrel
  have HR := hide hr
  clear hr
  have a2 := HR.out.a.at 2 _ rfl
  by_cases hlt : k < xps.length
  ·have hltI : (k : Int) < (xps.length : Int) := by omega
   have hlt2 : k < yps.length := by have := HLN.out; omega
   have hlyI : (k : Int) < (yps.length : Int) := by omega
   obtain ⟨bx, ox, rfl, hrx⟩ := (HX.out wr HR.out.b).ps.rg (show 0 < xps.length by omega)
   obtain ⟨by_, oy, rfl, hry⟩ := (HY.out wr HR.out.b).ps.rg (show 0 < yps.length by omega)
   have HU := hide (fm_at encP hrx hlt)
   have HVV := hide (fm_at encP hry hlt2)
   have HSP : Hid (∀ W, Below wr.heap.size wr W → Calls Tryz.prog 71 #[.agg (ptc xps[k]).toArray, .agg (ptc yps[k]).toArray] W fun e w' => e = .returned (.bool true) ∧ Below W.heap.size W w') := hide (fun W h => by
    have hb := bt HR.out.b h
    have := rsamep_any xps[k] yps[k] W ((HX.out W hb).pt _ (List.getElem_mem hlt)) ((HY.out W hb).pt _ (List.getElem_mem hlt2)) (HW.out _ (List.getElem_mem hlt))
    have e1 : (xps[k]).1 = (yps[k]).1 := by
     have h1 : (xps.map (·.1))[k]? = some (xps[k]).1 := by rw [List.getElem?_map, List.getElem?_eq_getElem hlt]; rfl
     have h2 : (yps.map (·.1))[k]? = some (yps[k]).1 := by rw [List.getElem?_map, List.getElem?_eq_getElem hlt2]; rfl
     rw [HPS.out, h2] at h1
     exact (Option.some.inj h1).symm
    rw [e1, samP_refl] at this
    exact this)
   clear hrx hry
   generalize xps[k] = u at HU HSP
   generalize yps[k] = v at HVV HSP
   go_upto_region 6 with fail
   clear a2
   have hdw : Below wr.heap.size wr wr.drew := (Below.refl _ _).drew
   refine wp_region_held_drew (S := fun W => Tb w W [Value.int .i64 xi, .string ⟨xn.toArray⟩, .slice (some ⟨bx, ox, none⟩) xps.length xc] [Value.int .i64 xi, .string ⟨xn.toArray⟩, .slice (some ⟨by_, oy, none⟩) yps.length yc] ∧ W.rangeAt bx (ox + k * 6) (ptc u) ∧ W.rangeAt by_ (oy + k * 6) (ptc v)) (by kernel_rfl) ⟨HR.out.below hdw, rg_bel HU.out hdw, rg_bel HVV.out hdw⟩ (fun hHeld => ?_)
   have HSM := hide (fun W (h : Below wr.drew.heap.size wr.drew W) => HSP.out W (bt (hdw) h))
   generalize wr.drew = V4 at HSM hHeld ⊢
   clear hdw
   refine tk 0 34 (.pointer (some ⟨w.heap.size, 2, none⟩)) rfl rfl hHeld ?_
   simp only [Act.put, zA, zB, zC]
   refine tky 1 35 (.slice (some ⟨bx, ox, none⟩) xps.length xc) rfl rfl (Or.inl ⟨by rfl, by intro w hSw; have h0 := hSw.1.a.at 2 _ rfl; go_simp⟩) hHeld ?_
   simp only [Act.put, zA, zB, zC]
   refine tk 2 36 (.int .i64 (k : Int)) rfl rfl hHeld ?_
   simp only [Act.put, zA, zB, zC]
   refine tk 3 37 (.pointer (some ⟨bx, ox + k * 6, none⟩)) rfl rfl hHeld ?_
   simp only [Act.put, zA, zB, zC]
   refine tky 4 38 (_) rfl rfl (yieldsIf_load_mid (by rfl) _ _ rfl _ _ rfl (ptc u) _ (fun W hW => hW.2.1) Tryz.underlying50 rfl (by kernel_rfl)) hHeld ?_
   simp only [Act.put, zA, zB, zC]
   refine tk 5 39 (.pointer (some ⟨w.heap.size + 1, 2, none⟩)) rfl rfl hHeld ?_
   simp only [Act.put, zA, zB, zC]
   refine tky 6 40 (.slice (some ⟨by_, oy, none⟩) yps.length yc) rfl rfl (Or.inl ⟨by rfl, by intro w hSw; have h0 := hSw.1.c.at 2 _ rfl; go_simp⟩) hHeld ?_
   simp only [Act.put, zA, zB, zC]
   refine tk 7 41 (.int .i64 (k : Int)) rfl rfl hHeld ?_
   simp only [Act.put, zA, zB, zC]
   refine tk 8 42 (.pointer (some ⟨by_, oy + k * 6, none⟩)) rfl rfl hHeld ?_
   simp only [Act.put, zA, zB, zC]
   refine tky 9 43 (_) rfl rfl (yieldsIf_load_mid (by rfl) _ _ rfl _ _ rfl (ptc v) _ (fun W hW => hW.2.2) Tryz.underlying50 rfl (by kernel_rfl)) hHeld ?_
   simp only [Act.put, zA, zB, zC]
   refine wpAnyH_ready (rs := [10]) (by kernel_rfl) (by simp) ?_
   refine AllReadyH.cons (o := _) rfl (fun K hK => ?_) AllReadyH.nil
   go_simp
   go_at_call 71
   refine (HSM.out V4 (Below.refl _ _)).mono ?_
   rintro e V6 ⟨rfl, hbx⟩
   go_wp2_with fail
   refine hK.out _ _ ⟨hHeld.1.below hbx, rg_bel hHeld.2.1 hbx, rg_bel hHeld.2.2 hbx⟩ (fun hHeld1 => ?_)
   clear hK K hHeld
   have hHeld := hHeld1
   clear hHeld1
   refine tk 11 45 (.bool false) rfl rfl hHeld ?_
   simp only [Act.put, zA, zB, zC]
   refine wpAnyH_done (by kernel_rfl) ?_ _
   replace HR := hide hHeld.1
   clear hHeld
   go_wp2_with fail
   go_roundw
   case rel => exact ⟨k + 1, by omega, by go_num, HR.out⟩
   case measure => simp [ivQ]; omega
  ·obtain rfl : k = xps.length := by omega
   go_wp2_with fail
   go_ret
   exact ⟨rfl, HR.out.b⟩
end Go.Proofs.YtlggjgapdpkhiaaGreatDoor
namespace Go.Proofs.YtlggjgapdpkhiaaGreatDoor
open Go.RowKit
set_option maxRecDepth 100000 in
set_option maxHeartbeats 16000000 in
theorem drop_any {ok : Nat → Prop} (m : Im) (p : Ip) (r : Rc) (v : Value) (w : World) (n0 : Nat → Prop) (hn0 : ∀ g, n0 g → g < w.heap.size) (hv : ∀ W, (∀ g, n0 g → W.heap[g]? = w.heap[g]?) → ImR W m p) (hw : Wf m 100000) (hr : IsR ok w v r) : Calls Tryz.prog 58 #[imv m p, v] w fun e w' => StP n0 w w' (drpT m r).1 (drpT m r).2 e := by
 obtain ⟨a14, a15, a16, a17, c14, c15, c16, c17, rfl, hrw⟩ := hr
 have HVV := hide (fun (W W3 : World) (hb : Below w.heap.size w W3) (hW : Agr n0 w.heap.size W3 W) => hv W (fun g hg => (hW g (.inl hg)).trans (hb.block g (hn0 g hg))))
 clear hn0
 replace hv : ImR w m p := hv w (fun _ _ => rfl)
 have HV := hide (fun W (h : Below w.heap.size w W) => hv.below h)
 have HFN := hide (hv.fT r.tp)
 cases hf : p.ts.find? (idQ r.tp) with
 | none =>
  have HFT := hide (fun W (h : Below w.heap.size w W) => findTopic_no m p r.tp W (hv.below h) hw hf)
  have HRE : Hid (drpT m r = (m, 8)) := hide (by unfold drpT; rw [HFN.out, hf]; rfl)
  rw [HRE.out]
  have HFR0 := frW_fr w m p r a14 a15 a16 a17 c14 c15 c16 c17
  clear hv hw hrw hf
  unfold imv
  unfold cellsR
  go_enter Tryz.func58, Tryz.ntmps58
  go_upto_region 1 with fail
  rw [frW_eq]
  generalize frW w m p r a14 a15 a16 a17 c14 c15 c16 c17 = X at HFR0 ⊢
  have HFR := hide HFR0
  clear HFR0
  obtain ⟨i0, i1, i2, i3, i4⟩ := HFR.out.i.im; have r3 := HFR.out.r.at 3 _ rfl
  unfold imv at HFT
  go_wp2_with (first | (go_at_call 77; refine (HFT.out _ HFR.out.b).mono ?_; rintro e wx ⟨i9, _, _, rfl, hbx⟩;  replace HFR := hide (HFR.out.below hbx); clear i0 i1 i2 i3 i4 r3; clear hbx HFT; obtain ⟨i0, i1, i2, i3, i4⟩ := HFR.out.i.im; have r3 := HFR.out.r.at 3 _ rfl) | (refine wpList_set rfl _ _ _ rfl _ _ rfl HFR.out.z (iml m p) rfl rfl (by kernel_rfl) rfl ?_; intro W3 hz hk hb hp; have HFO := hide (HFR.out.out hz hk hb); clear hz hk hb hp))
  obtain ⟨q0, q1, q2, q3, q4⟩ := HFO.out.z.im
  exact bodyPost_ret (v := .tuple #[.agg (iml m p).toArray, .iface 38 (.int .i64 8)]) (by simp [results, Tryz.results58, go_sem, q0, q1, q2, q3, q4, iml]) rfl (st_ret HFO.out (fun W hW => HVV.out W _ HFO.out.b hW) (erc_code (by decide)))
 | some q =>
  have HFT := hide (fun W (h : Below w.heap.size w W) => findTopic_yes m p r.tp W (hv.below h) hw q hf)
  obtain ⟨L1, hL1⟩ : ∃ L, L = p.ts.filter fun t => !idQ r.tp t := ⟨_, rfl⟩
  obtain ⟨L2, hL2⟩ : ∃ L, L = m.cf.filter fun c => !(c.tp == r.tp) := ⟨_, rfl⟩
  obtain ⟨T1, hT1⟩ : ∃ T, T = m.ts.filter fun t => !idT r.tp t := ⟨_, rfl⟩
  have HTL : Hid (L1.map Tq.tp = T1) := hide (by rw [hL1, hT1, ← hv.e, List.filter_map]; rfl)
  have HMQ : Hid (∀ t ∈ L1, t ∈ p.ts) := hide (fun t ht => by rw [hL1] at ht; exact (List.mem_filter.1 ht).1)
  have HRE : Hid (drpT m r = ({ m with ts := T1, cf := L2 }, 0)) := hide (by unfold drpT; rw [HFN.out, hf, hL2, hT1]; rfl)
  rw [HRE.out]
  have HLT : Hid (remO (fun x : Tq => cmpN x.id r.tp) p.ts = L1) := hide (by rw [hL1, remQ_rem])
  have HWO := hide (fun W (h : Below w.heap.size w W) i (hi : i < p.ts.length) => woT_any p.ts p.aq _ p.cq i W rfl (hv.below h).t hi (by rw [hv.len]; exact hw.nt))
  have HCL := hide (fun W (h : Below w.heap.size w W) => cloneC_any m.cf p.ac _ p.cc W rfl (hv.below h).c hw.nc)
  have HNC := hide hw.nc
  have HL2 := hide hL2
  clear hL1 hL2 hT1
  have HFR0 := frW_fr w m p r a14 a15 a16 a17 c14 c15 c16 c17
  clear hv hw hrw hf
  unfold imv
  unfold cellsR
  go_enter Tryz.func58, Tryz.ntmps58
  go_upto_region 1 with fail
  rw [frW_eq]
  generalize frW w m p r a14 a15 a16 a17 c14 c15 c16 c17 = X at HFR0 ⊢
  have HFR := hide HFR0
  clear HFR0
  obtain ⟨i0, i1, i2, i3, i4⟩ := HFR.out.i.im; have r3 := HFR.out.r.at 3 _ rfl
  unfold imv at HFT
  go_upto_region 5 with (first | (go_at_call 77; refine (HFT.out _ HFR.out.b).mono ?_; rintro e wx ⟨i, hi, _, _, hrem, _, _, rfl, hbx⟩; have HRM := hide hrem.symm; clear hrem; replace HFR := hide (HFR.out.below hbx); clear i0 i1 i2 i3 i4 r3; clear hbx HFT; obtain ⟨i0, i1, i2, i3, i4⟩ := HFR.out.i.im; have r3 := HFR.out.r.at 3 _ rfl) | (go_at_call 100; refine (HWO.out _ HFR.out.b i hi).mono ?_; rintro e w3 ⟨v, rfl, hro, hb3⟩; rw [HRM.out, HLT.out] at hro; obtain ⟨av, cv, rfl⟩ := hro.form; have HRO := hide (hro.mono HFR.out.sz); replace HFR := hide (HFR.out.below hb3); clear hro hb3 HWO; clear i0 i1 i2 i3 i4 r3; obtain ⟨i0, i1, i2, i3, i4⟩ := HFR.out.i.im; have r3 := HFR.out.r.at 3 _ rfl; have f1 := HFR.out.f 1 (by decide)))
  have HFS := hide (HFR.out.set 1 (.slice av L1.length cv) { m with ts := T1 } { p with aq := av, cq := cv, ts := L1 } (by decide) rfl)
  replace HRO := hide (HRO.out.keepG (W' := w3.setCell ⟨w.heap.size, 1, none⟩ (.slice av L1.length cv)) (fun g hg => Below.heap_setCell _ _ _ _ (show ¬ g = w.heap.size by omega)))
  clear f1 HFR i0 i1 i2 i3 i4 r3
  generalize w3.setCell ⟨w.heap.size, 1, none⟩ (.slice av L1.length cv) = X3 at HFS HRO ⊢
  have HFR := hide HFS.out
  clear HFS
  obtain ⟨i0, i1, i2, i3, i4⟩ := HFR.out.i.im; have r3 := HFR.out.r.at 3 _ rfl
  go_wp2_with (first | (go_at_call 102; refine (HCL.out _ HFR.out.b).mono ?_; rintro e w4 ⟨v2, rfl, hro2, hb4⟩; have HSZ := hide HFR.out.sz; have HR2 := hide hro2; have HFR3 := hide HFR.out; have HB34 := hide hb4; replace HFR := hide (HFR.out.below hb4); have HDF := hide (delf_own m.cf v2 _ (w.heap.size + 1) r.tp w4 HR2.out (HFR.out.r.at 3 _ rfl) (Nat.lt_of_succ_lt HSZ.out) hb4.size HNC.out); have HB4 := hide hb4.size; clear i0 i1 i2 i3 i4 r3 hro2 hb4 HCL; obtain ⟨i0, i1, i2, i3, i4⟩ := HFR.out.i.im; have r3 := HFR.out.r.at 3 _ rfl) | (go_at_call 101; refine HDF.out.mono ?_; rintro e w5 ⟨v3, rfl, hrg, hb5⟩; rw [← HL2.out] at hrg; obtain ⟨av2, cv2, rfl⟩ := hrg.form; have HRG := hide (hrg.mono HSZ.out); replace HFR := hide (HFR3.out.below (HB34.out.trans hb5)); replace HRO := hide (HRO.out.below (HB34.out.trans hb5)); clear HDF hrg i0 i1 i2 i3 i4 r3 hb5; obtain ⟨i0, i1, i2, i3, i4⟩ := HFR.out.i.im; have f2 := HFR.out.f 2 (by decide); have HFS := hide (HFR.out.set 2 (.slice av2 L2.length cv2) { m with ts := T1, cf := L2 } { p with aq := av, cq := cv, ts := L1, ac := av2, cc := cv2 } (by decide) rfl)) | (refine wpList_set rfl _ _ _ rfl _ _ rfl HFS.out.z (iml { m with ts := T1, cf := L2 } { p with aq := av, cq := cv, ts := L1, ac := av2, cc := cv2 }) rfl rfl (by kernel_rfl) rfl ?_; intro W3 hz hk hb hp; have HFO := hide (HFS.out.out hz hk hb); have HRS := hide (fun W (hW : Agr n0 w.heap.size W3 W) => (HRO.out.keepG (fun g hg => (hW g (.inr (by omega))).trans ((hp g (by omega)).trans (Below.heap_setCell _ _ _ _ (show ¬ g = w.heap.size by omega))))).rs); have HRC := hide (fun W (hW : Agr n0 w.heap.size W3 W) => (HRG.out.keepG (fun g hg => (hW g (.inr (by omega))).trans ((hp g (by omega)).trans (Below.heap_setCell _ _ _ _ (show ¬ g = w.heap.size by omega))))).rs); clear hz hk hb hp))
  obtain ⟨q0, q1, q2, q3, q4⟩ := HFO.out.z.im
  exact bodyPost_ret (v := .tuple #[.agg (iml { m with ts := T1, cf := L2 } { p with aq := av, cq := cv, ts := L1, ac := av2, cc := cv2 }).toArray, .nilIface]) (by simp [results, Tryz.results58, go_sem, q0, q1, q2, q3, q4, iml]) rfl (st_ret HFO.out (fun W hW => ⟨(HVV.out W _ HFO.out.b hW).b, (HRS.out W hW), fun t ht => (HVV.out W _ HFO.out.b hW).q t (HMQ.out t ht), HTL.out, (HRC.out W hW), (HVV.out W _ HFO.out.b hW).d⟩) erc_nil)
end Go.Proofs.YtlggjgapdpkhiaaGreatDoor
namespace Go.Proofs.YtlggjgapdpkhiaaGreatDoor
open Go.RowKit
set_option maxRecDepth 100000
set_option maxHeartbeats 8000000
theorem putC_new (l : List Cf) (ao : Option Addr) (n cap i : Nat) (x : Cf) (w : World) (hn : n = l.length) (hv : Rs cfc w (.slice ao n cap) l) (hi : i ≤ l.length) (hl : l.length ≤ 100000) :
  Calls Tryz.prog 99 #[.slice ao n cap, .int .i64 (i : Int), .bool false, .agg (cfc x).toArray] w fun e w' => ∃ v, e = .returned v ∧ Ro cfc 3 72 w' w.heap.size v (l.take i ++ x :: l.drop i) ∧ Below w.heap.size w w' := by
 subst hn
 obtain ⟨ao', hr, hd⟩ := hv.from tyiC encC i hi
 have hu := fun W => upto_run tyiC ao l.length cap i hi hv.cap.2 W
 have HP := hide (fun o1 T U => put_frame (f := cfc) w o1 x T U (.slice ao i cap) (.slice ao' (l.length - i) (cap - i)))
 have HC := hide (fun W (hb : Below w.heap.size w W) (hB : Bx W (w.heap.size + 1 + 1) [.slice ao i cap, .slice (some ⟨w.heap.size + 1, 0, none⟩) 1 1, .slice ao' (l.length - i) (cap - i)]) (hx : Rs cfc W (.slice (some ⟨w.heap.size + 1, 0, none⟩) 1 1) [x]) => concC_3 _ _ _ (l.take i) [x] (l.drop i) _ W hB ((hv.below hb).upto encC i hi) hx (hd W hb) (by rw [List.length_take]; omega) (by simp) (by rw [List.length_drop]; omega))
 have HE : Hid (l.take i ++ [x] ++ l.drop i = l.take i ++ x :: l.drop i) := hide (by simp)
 clear hv hd
 unfold cfc at *
 go_enter Tryz.func99, Tryz.ntmps99
 go_upto_region 4 with fail
 go_region_with (go_at_call 142; obtain ⟨p1, p2, p3⟩ := HP.out _ _ _; refine (HC.out _ p3 p1 p2).mono ?_; rintro e w1 ⟨v, rfl, hr, hb⟩; rw [HE.out] at hr; have HR := hide (hr.mono p3.size); have HB := hide (bt p3 hb); clear hr hb p1 p2 p3)
 all_goals
  go_wp2_with fail
  go_ret
  exact ⟨_, rfl, HR.out, HB.out⟩
theorem putC_old (l : List Cf) (ao : Option Addr) (n cap i : Nat) (x : Cf) (w : World) (hn : n = l.length) (hv : Rs cfc w (.slice ao n cap) l) (hi : i < l.length) (hl : l.length ≤ 100000) :
  Calls Tryz.prog 99 #[.slice ao n cap, .int .i64 (i : Int), .bool true, .agg (cfc x).toArray] w fun e w' => ∃ v, e = .returned v ∧ Ro cfc 3 72 w' w.heap.size v (l.take i ++ x :: l.drop (i + 1)) ∧ Below w.heap.size w w' := by
 subst hn
 obtain ⟨ao', hr, hd⟩ := hv.from tyiC encC i (Nat.le_of_lt hi)
 have hdl : (l.drop i).length = l.length - i := List.length_drop
 obtain ⟨ao2, hr2, hd2⟩ := (show Rs cfc w (.slice ao' (l.drop i).length (cap - i)) (l.drop i) from hdl ▸ hd w (Below.refl _ _)).from tyiC encC 1 (by omega)
 rw [hdl] at hr2 hd2
 have hdd : (l.drop i).drop 1 = l.drop (i + 1) := by rw [List.drop_drop]
 rw [hdd] at hd2
 have hu := fun W => upto_run tyiC ao l.length cap i (Nat.le_of_lt hi) hv.cap.2 W
 replace hr2 : ∀ W, (Instr.slice 27 (.slice ao' (l.length - i) (cap - i)) (some (.int .i64 1)) none none).run Tryz.prog W = .ok (.slice ao2 (l.length - i - 1) (cap - i - 1)) W := hr2
 have HP := hide (fun o1 T U => put_frame (f := cfc) w o1 x T U (.slice ao i cap) (.slice ao2 (l.length - i - 1) (cap - i - 1)))
 have HC := hide (fun W (hb : Below w.heap.size w W) (hB : Bx W (w.heap.size + 1 + 1) [.slice ao i cap, .slice (some ⟨w.heap.size + 1, 0, none⟩) 1 1, .slice ao2 (l.length - i - 1) (cap - i - 1)]) (hx : Rs cfc W (.slice (some ⟨w.heap.size + 1, 0, none⟩) 1 1) [x]) => concC_3 _ _ _ (l.take i) [x] (l.drop (i + 1)) _ W hB ((hv.below hb).upto encC i (Nat.le_of_lt hi)) hx (hd2 W hb) (by rw [List.length_take]; omega) (by simp) (by rw [List.length_drop]; omega))
 have HE : Hid (l.take i ++ [x] ++ l.drop (i + 1) = l.take i ++ x :: l.drop (i + 1)) := hide (by simp)
 clear hv hd hd2 hdl hdd
 unfold cfc at *
 go_enter Tryz.func99, Tryz.ntmps99
 go_upto_region 4 with fail
 go_region_with (go_at_call 142; obtain ⟨p1, p2, p3⟩ := HP.out _ _ _; refine (HC.out _ p3 p1 p2).mono ?_; rintro e w1 ⟨v, rfl, hr, hb⟩; rw [HE.out] at hr; have HR := hide (hr.mono p3.size); have HB := hide (bt p3 hb); clear hr hb p1 p2 p3)
 all_goals
  go_wp2_with fail
  go_ret
  exact ⟨_, rfl, HR.out, HB.out⟩
end Go.Proofs.YtlggjgapdpkhiaaGreatDoor
