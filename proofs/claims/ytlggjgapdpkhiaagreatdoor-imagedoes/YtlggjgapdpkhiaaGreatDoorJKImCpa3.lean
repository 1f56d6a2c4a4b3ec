/-
  A PARTITION BY ITS TOPIC AND PLACE (image.Part). Conditions: an image in order, its lists no longer than a hundred thousand.
  WHAT THE DOCUMENT ASKS OF METADATA (castellanref15.Topic, Named, Config, Answered, Leads, used, Part). Conditions: an image's lists, no longer than a hundred thousand.
  BROKERS WITH ANOTHER ONE, AS THE DOCUMENT HAS IT (castellanref15.putBroker); one more behind a row of the call's own. Conditions: brokers that stand by their numbers, no more than a hundred thousand.
-/
import Derived.Test.YtlggjgapdpkhiaaGreatDoorJKImCda5
import Derived.BigFrame
import Derived.Test.YtlggjgapdpkhiaaGreatDoorJKRecShra5
import Derived.Test.YtlggjgapdpkhiaaGreatDoorJKImCba5
namespace Go.Proofs.YtlggjgapdpkhiaaGreatDoor
open Go.RowKit
theorem wpList_load_want {P : Program} {ops : Array Oper} {rest : List Oper} {op : Oper} {a : Act} {w : World} {Q : Exit → Act → World → Prop} (hw : Region.wanted op (yielded ops a.tmps) = true) (ty : TypeId) (x : Operand) (ho : op.op = .load ty x)
  (b o : Nat) (hx : a.eval x = .pointer (some ⟨b, o, none⟩)) (cs : List Value) (d : TypeDesc) (hc : w.rangeAt b o cs) (hu : P.underlying ty = some d) (hd : d.isRow = true) (hi : (P.info? ty).map (·.size) = some cs.length)
  (h : wpList P ops Q rest (a.put op.dst (.agg cs.toArray)) w) : wpList P ops Q (op :: rest) a w :=
 BigFrame.wpList_want hw fun _ hK => wp_load_mid ty x ho b o hx cs d hc hu hd hi (hK _ _ h)
set_option maxRecDepth 100000 in
set_option maxHeartbeats 8000000 in
theorem part_yes (m : Im) (p : Ip) (id n : Int) (t : Tq) (is : Bool) (w : World) (hT : ∀ W, Below w.heap.size w W → Calls Tryz.prog 36 #[imv m p, .int .i64 id] W fun e w' => e = .returned (.tuple #[.agg (tpc t).toArray, .bool is]) ∧ Below W.heap.size W w') (ht : TqR w t) (i : Nat) (hi : i < t.ps.length) (hin : n = i) : Calls Tryz.prog 17 #[imv m p, .int .i64 id, .int .i64 n] w fun e w' => e = .returned (.tuple #[.agg (ptc t.ps[i]).toArray, .bool true]) ∧ Below w.heap.size w w' := by
 have HT := hide hT
 subst hin
 have HA := hide (fun W (h : Below w.heap.size w W) => atP_yes t.ps t.a _ t.c i W rfl (ht.ps.below h) hi)
 clear hT ht
 have h1 : (i : Int) < (t.ps.length : Int) := by omega
 generalize t.ps[i] = q at *
 unfold ptc at *
 have HBB : Hid (Bx ((w.alloc (.cells (List.toArray [Value.slice p.ab m.br.length p.cb, .slice p.aq p.ts.length p.cq, .slice p.ac m.cf.length p.cc, .slice p.ad m.dn.length p.cd, .int .i64 m.la]) 30)).alloc (.cells (List.toArray [Value.slice none 0 0, .slice none 0 0, .int .i64 0, .int .i64 0, .slice none 0 0, .slice none 0 0]) 50)) w.heap.size (iml m p) ∧ Bx ((w.alloc (.cells (List.toArray [Value.slice p.ab m.br.length p.cb, .slice p.aq p.ts.length p.cq, .slice p.ac m.cf.length p.cc, .slice p.ad m.dn.length p.cd, .int .i64 m.la]) 30)).alloc (.cells (List.toArray [Value.slice none 0 0, .slice none 0 0, .int .i64 0, .int .i64 0, .slice none 0 0, .slice none 0 0]) 50)) (w.heap.size + 1) [.slice none 0 0, .slice none 0 0, .int .i64 0, .int .i64 0, .slice none 0 0, .slice none 0 0] ∧ Below w.heap.size w ((w.alloc (.cells (List.toArray [Value.slice p.ab m.br.length p.cb, .slice p.aq p.ts.length p.cq, .slice p.ac m.cf.length p.cc, .slice p.ad m.dn.length p.cd, .int .i64 m.la]) 30)).alloc (.cells (List.toArray [Value.slice none 0 0, .slice none 0 0, .int .i64 0, .int .i64 0, .slice none 0 0, .slice none 0 0]) 50))) := hide (Bx.mk2 w (iml m p) [.slice none 0 0, .slice none 0 0, .int .i64 0, .int .i64 0, .slice none 0 0, .slice none 0 0] _ _ (Below.refl _ _))
 unfold imv at *
 go_enter Tryz.func17, Tryz.ntmps17
 go_upto_region 1 with fail
 generalize (w.alloc (.cells (List.toArray [Value.slice p.ab m.br.length p.cb, .slice p.aq p.ts.length p.cq, .slice p.ac m.cf.length p.cc, .slice p.ad m.dn.length p.cd, .int .i64 m.la]) 30)).alloc (.cells (List.toArray [Value.slice none 0 0, .slice none 0 0, .int .i64 0, .int .i64 0, .slice none 0 0, .slice none 0 0]) 50) = X at HBB ⊢
 have HI := hide HBB.out.1
 have HR := hide HBB.out.2.1
 have HB := hide HBB.out.2.2
 clear HBB
 go_upto_region 2 with (first | (refine wpList_load_mid rfl _ _ rfl _ _ rfl _ _ HI.out.c Tryz.underlying30 rfl (by kernel_rfl) ?_) | (go_at_call 36; refine (HT.out _ HB.out).mono ?_; rintro e w1 ⟨rfl, hb1⟩; unfold tpc; dsimp only; replace HI := hide (HI.out.below hb1); replace HR := hide (HR.out.below hb1); replace HB := hide (bt HB.out hb1); clear hb1 HT))
 have HX := hide (Bx.new w1 [Value.int .i64 t.id, .string ⟨t.nm.toArray⟩, .slice t.a t.ps.length t.c] 70)
 replace HR := hide (HR.out.below (below_al1 w1 (.cells (List.toArray [Value.int .i64 t.id, .string ⟨t.nm.toArray⟩, .slice t.a t.ps.length t.c]) 70)))
 replace HB := hide (bt HB.out (below_al1 w1 (.cells (List.toArray [Value.int .i64 t.id, .string ⟨t.nm.toArray⟩, .slice t.a t.ps.length t.c]) 70)))
 clear HI
 generalize w1.alloc (.cells (List.toArray [Value.int .i64 t.id, .string ⟨t.nm.toArray⟩, .slice t.a t.ps.length t.c]) 70) = X2 at HX HR HB ⊢
 generalize w1.heap.size = bT at HX ⊢
 obtain ⟨t0, t1, t2⟩ := HX.out.c3
 go_wp2_with (first | (go_at_call 37; refine (HA.out _ HB.out).mono ?_; rintro e w2 ⟨rfl, hb2⟩; replace HR := hide (HR.out.below hb2); replace HB := hide (bt HB.out hb2); clear hb2 HX t0 t1 t2) | (refine wpList_set rfl _ _ _ rfl _ _ rfl HR.out ([.slice q.2.a0 q.1.ids.length q.2.c0, .slice q.2.a1 q.1.isr.length q.2.c1, .int .i64 q.1.ld, .int .i64 q.1.ep, .slice q.2.a2 q.1.ad.length q.2.c2, .slice q.2.a3 q.1.dr.length q.2.c3] : List Value) rfl rfl (by kernel_rfl) rfl ?_; intro W3 hR3 _ hK3 _; have HR3 := hide hR3; have HB3 := hide (hK3 _ _ (Nat.le_succ _) HB.out); clear hR3 hK3 HR HB))
 obtain ⟨r0, r1, r2, r3, r4, r5⟩ := HR3.out.c6
 exact bodyPost_ret (v := .tuple #[.agg (List.toArray [.slice q.2.a0 q.1.ids.length q.2.c0, .slice q.2.a1 q.1.isr.length q.2.c1, .int .i64 q.1.ld, .int .i64 q.1.ep, .slice q.2.a2 q.1.ad.length q.2.c2, .slice q.2.a3 q.1.dr.length q.2.c3]), .bool true]) (by simp [results, Tryz.results17, go_sem, r0, r1, r2, r3, r4, r5]) rfl ⟨rfl, HB3.out⟩
def tqOf (p : Ip) (id : Int) : Tq := (p.ts.find? (idQ id)).getD ⟨0, [], [], none, 0⟩
theorem topic_of (m : Im) (p : Ip) (id : Int) (w : World) (hv : ImR w m p) (hw : Wf m 100000) : Calls Tryz.prog 36 #[imv m p, .int .i64 id] w fun e w' => e = .returned (.tuple #[.agg (tpc (tqOf p id)).toArray, .bool (p.ts.find? (idQ id)).isSome]) ∧ Below w.heap.size w w' := by
 unfold tqOf
 cases h : p.ts.find? (idQ id) with
 | none => exact Topic_no m p id w hv hw h
 | some t => exact Topic_yes m p id w hv hw t h
end Go.Proofs.YtlggjgapdpkhiaaGreatDoor
namespace Go.Proofs.YtlggjgapdpkhiaaGreatDoor
open Go.RowKit
set_option maxRecDepth 100000
set_option maxHeartbeats 8000000
theorem find_up {α : Type} {f : α → Bool} {l : List α} {k : Nat} (hk : k < l.length) (h : ∀ j (hj : j < l.length), j < k → f l[j] = false) (hy : f l[k] = true) : l.find? f = some l[k] := by
 rw [List.find?_eq_some_iff_getElem]
 exact ⟨hy, k, hk, rfl, fun j hj => by rw [h j (by omega) hj]; rfl⟩
theorem find_end {α : Type} {f : α → Bool} {l : List α} (h : ∀ j (hj : j < l.length), f l[j] = false) : l.find? f = none := by
 rw [List.find?_eq_none]
 intro x hx
 obtain ⟨j, hj, rfl⟩ := List.getElem_of_mem hx
 simp [h j hj]
def tqNm (p : Ip) (S : List UInt8) : Tq := (p.ts.find? (nmQ S)).getD ⟨0, [], [], none, 0⟩
def cfV : Option Cf → Value
 | some c => .tuple #[.string ⟨c.va.toArray⟩, .bool true]
 | none => .tuple #[.string ⟨#[]⟩, .bool false]
theorem rtopic_any (m : Im) (p : Ip) (id : Int) (w : World) (hv : ImR w m p) (hl : p.ts.length ≤ 100000) : Calls Tryz.prog 68 #[imv m p, .int .i64 id] w fun e w' => e = .returned (.tuple #[.agg (tpc (tqOf p id)).toArray, .bool (p.ts.find? (idQ id)).isSome]) ∧ Below w.heap.size w w' := by
 have HS : Hid (Bx ((w.alloc (.cells (iml m p).toArray 30)).alloc (.cells (List.toArray [Value.int .i64 0, .string ⟨#[]⟩, .slice none 0 0]) 70)) w.heap.size (iml m p) ∧ Bx ((w.alloc (.cells (iml m p).toArray 30)).alloc (.cells (List.toArray [Value.int .i64 0, .string ⟨#[]⟩, .slice none 0 0]) 70)) (w.heap.size + 1) [.int .i64 0, .string ⟨#[]⟩, .slice none 0 0] ∧ Below w.heap.size w ((w.alloc (.cells (iml m p).toArray 30)).alloc (.cells (List.toArray [Value.int .i64 0, .string ⟨#[]⟩, .slice none 0 0]) 70))) := hide (Bx.mk2 w (iml m p) [.int .i64 0, .string ⟨#[]⟩, .slice none 0 0] 30 70 (Below.refl _ _))
 have HV := hide (fun W (h : Below w.heap.size w W) => (hv.below h).t)
 clear hv
 obtain ⟨an, han⟩ : ∃ an, an = Value.tuple #[.agg (tpc (tqOf p id)).toArray, .bool (p.ts.find? (idQ id)).isSome] := ⟨_, rfl⟩
 rw [← han]
 unfold tqOf at han
 have HAN : Hid (Value.tuple #[.agg (tpc ((p.ts.find? (idQ id)).getD ⟨0, [], [], none, 0⟩)).toArray, .bool (p.ts.find? (idQ id)).isSome] = an) := hide han.symm
 clear han
 obtain ⟨ab, aq, ac, ad, cb, cq, cc, cd, ts⟩ := p
 unfold imv
 unfold iml at HS
 replace hl : ts.length ≤ 100000 := hl
 go_enter Tryz.func68, Tryz.ntmps68
 go_upto_region 2 with fail
 (try dsimp only at HS)
 (try dsimp only at HV)
 (try dsimp only at HAN)
 generalize (w.alloc (.cells (List.toArray [Value.slice ab m.br.length cb, .slice aq ts.length cq, .slice ac m.cf.length cc, .slice ad m.dn.length cd, .int .i64 m.la]) 30)).alloc (.cells (List.toArray [Value.int .i64 0, .string ⟨#[]⟩, .slice none 0 0]) 70) = X at HS ⊢
 go_loopw [6] (fun i W => ∃ k : Nat, k ≤ ts.length ∧ i = .int .i64 (k : Int) ∧ W = X ∧ ∀ j (hj : j < ts.length), j < k → (idQ id) ts[j] = false) (fun i _ => ts.length - (ivQ i).toNat)
 case atStart => exact ⟨0, Nat.zero_le _, rfl, rfl, fun j _ h => absurd h (Nat.not_lt_zero j)⟩
 case round =>
  obtain ⟨k, hk, rfl, rfl, hall⟩ := hrel
  have HA := hide hall
  clear hall
  have i1 := HS.out.1.at 1 _ rfl
  by_cases hlt : k < ts.length
  ·have hltI : (k : Int) < (ts.length : Int) := by omega
   obtain ⟨bb, ob, rfl, hrg⟩ := (HV.out wr HS.out.2.2).rg (show 0 < ts.length by omega)
   have HC := hide (fm_at encT hrg hlt)
   have HUP := hide (up_to (f := idQ id) HA.out hlt)
   have HYE := hide (find_up (f := idQ id) hlt HA.out)
   clear hrg
   generalize ts[k] = t at HC HUP HYE
   unfold tpc at HC
   have c0 : wr.cell? ⟨bb, ob + k * 3, none⟩ = some (.int .i64 t.id) := HC.out 0 _ rfl
   cases hx : t.id == id with
   | true =>
    have HF := hide (HYE.out hx)
    go_wp2_with (first | (refine wpList_load_mid rfl _ _ rfl _ _ rfl _ _ HC.out Tryz.underlying70 rfl (by kernel_rfl) ?_) | (refine wpList_set rfl _ _ _ rfl _ _ rfl HS.out.2.1 [.int .i64 t.id, .string ⟨t.nm.toArray⟩, .slice t.a t.ps.length t.c] rfl rfl (by kernel_rfl) rfl ?_; intro W3 hR3 _ hK3 _; have HR3 := hide hR3; have HB3 := hide (hK3 _ _ (Nat.le_succ _) HS.out.2.2); clear hR3 hK3))
    obtain ⟨r0, r1, r2⟩ := HR3.out.c3
    exact bodyPost_ret (v := .tuple #[.agg (List.toArray [Value.int .i64 t.id, .string ⟨t.nm.toArray⟩, .slice t.a t.ps.length t.c]), .bool true]) (by simp [results, Tryz.results68, go_sem, r0, r1, r2]) rfl ⟨by rw [← HAN.out, HF.out]; rfl, HB3.out⟩
   | false =>
    have HU := hide (HUP.out hx)
    go_wp2_with fail
    go_roundw
    case rel => exact ⟨k + 1, by omega, by go_num, (by first | rfl | trivial), HU.out⟩
    case measure => simp [ivQ]; omega
  ·obtain rfl : k = ts.length := by omega
   have HF := hide (find_end (f := idQ id) (fun j hj => HA.out j hj hj))
   go_wp2_with (first | (refine wpList_set rfl _ _ _ rfl _ _ rfl HS.out.2.1 [.int .i64 0, .string ⟨#[]⟩, .slice none 0 0] rfl rfl (by kernel_rfl) rfl ?_; intro W3 hR3 _ hK3 _; have HR3 := hide hR3; have HB3 := hide (hK3 _ _ (Nat.le_succ _) HS.out.2.2); clear hR3 hK3))
   obtain ⟨r0, r1, r2⟩ := HR3.out.c3
   exact bodyPost_ret (v := .tuple #[.agg (List.toArray [Value.int .i64 0, .string ⟨#[]⟩, .slice none 0 0]), .bool false]) (by simp [results, Tryz.results68, go_sem, r0, r1, r2]) rfl ⟨by rw [← HAN.out, HF.out]; rfl, HB3.out⟩
theorem rnamed_any (m : Im) (p : Ip) (S : List UInt8) (w : World) (hv : ImR w m p) (hl : p.ts.length ≤ 100000) : Calls Tryz.prog 72 #[imv m p, .string ⟨S.toArray⟩] w fun e w' => e = .returned (.tuple #[.agg (tpc (tqNm p S)).toArray, .bool (p.ts.find? (nmQ S)).isSome]) ∧ Below w.heap.size w w' := by
 have HS : Hid (Bx ((w.alloc (.cells (iml m p).toArray 30)).alloc (.cells (List.toArray [Value.int .i64 0, .string ⟨#[]⟩, .slice none 0 0]) 70)) w.heap.size (iml m p) ∧ Bx ((w.alloc (.cells (iml m p).toArray 30)).alloc (.cells (List.toArray [Value.int .i64 0, .string ⟨#[]⟩, .slice none 0 0]) 70)) (w.heap.size + 1) [.int .i64 0, .string ⟨#[]⟩, .slice none 0 0] ∧ Below w.heap.size w ((w.alloc (.cells (iml m p).toArray 30)).alloc (.cells (List.toArray [Value.int .i64 0, .string ⟨#[]⟩, .slice none 0 0]) 70))) := hide (Bx.mk2 w (iml m p) [.int .i64 0, .string ⟨#[]⟩, .slice none 0 0] 30 70 (Below.refl _ _))
 have HV := hide (fun W (h : Below w.heap.size w W) => (hv.below h).t)
 clear hv
 obtain ⟨an, han⟩ : ∃ an, an = Value.tuple #[.agg (tpc (tqNm p S)).toArray, .bool (p.ts.find? (nmQ S)).isSome] := ⟨_, rfl⟩
 rw [← han]
 unfold tqNm at han
 have HAN : Hid (Value.tuple #[.agg (tpc ((p.ts.find? (nmQ S)).getD ⟨0, [], [], none, 0⟩)).toArray, .bool (p.ts.find? (nmQ S)).isSome] = an) := hide han.symm
 clear han
 obtain ⟨ab, aq, ac, ad, cb, cq, cc, cd, ts⟩ := p
 unfold imv
 unfold iml at HS
 replace hl : ts.length ≤ 100000 := hl
 go_enter Tryz.func72, Tryz.ntmps72
 go_upto_region 2 with fail
 (try dsimp only at HS)
 (try dsimp only at HV)
 (try dsimp only at HAN)
 generalize (w.alloc (.cells (List.toArray [Value.slice ab m.br.length cb, .slice aq ts.length cq, .slice ac m.cf.length cc, .slice ad m.dn.length cd, .int .i64 m.la]) 30)).alloc (.cells (List.toArray [Value.int .i64 0, .string ⟨#[]⟩, .slice none 0 0]) 70) = X at HS ⊢
 go_loopw [6] (fun i W => ∃ k : Nat, k ≤ ts.length ∧ i = .int .i64 (k : Int) ∧ W = X ∧ ∀ j (hj : j < ts.length), j < k → (nmQ S) ts[j] = false) (fun i _ => ts.length - (ivQ i).toNat)
 case atStart => exact ⟨0, Nat.zero_le _, rfl, rfl, fun j _ h => absurd h (Nat.not_lt_zero j)⟩
 case round =>
  obtain ⟨k, hk, rfl, rfl, hall⟩ := hrel
  have HA := hide hall
  clear hall
  have i1 := HS.out.1.at 1 _ rfl
  by_cases hlt : k < ts.length
  ·have hltI : (k : Int) < (ts.length : Int) := by omega
   obtain ⟨bb, ob, rfl, hrg⟩ := (HV.out wr HS.out.2.2).rg (show 0 < ts.length by omega)
   have HC := hide (fm_at encT hrg hlt)
   have HUP := hide (up_to (f := nmQ S) HA.out hlt)
   have HYE := hide (find_up (f := nmQ S) hlt HA.out)
   clear hrg
   generalize ts[k] = t at HC HUP HYE
   unfold tpc at HC
   have c0 : wr.cell? ⟨bb, ob + k * 3 + 1, none⟩ = some (.string ⟨t.nm.toArray⟩) := HC.out 1 _ rfl
   cases hx : t.nm == S with
   | true =>
    have HF := hide (HYE.out hx)
    go_wp2_with (first | (refine wpList_load_mid rfl _ _ rfl _ _ rfl _ _ HC.out Tryz.underlying70 rfl (by kernel_rfl) ?_) | (refine wpList_set rfl _ _ _ rfl _ _ rfl HS.out.2.1 [.int .i64 t.id, .string ⟨t.nm.toArray⟩, .slice t.a t.ps.length t.c] rfl rfl (by kernel_rfl) rfl ?_; intro W3 hR3 _ hK3 _; have HR3 := hide hR3; have HB3 := hide (hK3 _ _ (Nat.le_succ _) HS.out.2.2); clear hR3 hK3))
    obtain ⟨r0, r1, r2⟩ := HR3.out.c3
    exact bodyPost_ret (v := .tuple #[.agg (List.toArray [Value.int .i64 t.id, .string ⟨t.nm.toArray⟩, .slice t.a t.ps.length t.c]), .bool true]) (by simp [results, Tryz.results72, go_sem, r0, r1, r2]) rfl ⟨by rw [← HAN.out, HF.out]; rfl, HB3.out⟩
   | false =>
    have HU := hide (HUP.out hx)
    go_wp2_with fail
    go_roundw
    case rel => exact ⟨k + 1, by omega, by go_num, (by first | rfl | trivial), HU.out⟩
    case measure => simp [ivQ]; omega
  ·obtain rfl : k = ts.length := by omega
   have HF := hide (find_end (f := nmQ S) (fun j hj => HA.out j hj hj))
   go_wp2_with (first | (refine wpList_set rfl _ _ _ rfl _ _ rfl HS.out.2.1 [.int .i64 0, .string ⟨#[]⟩, .slice none 0 0] rfl rfl (by kernel_rfl) rfl ?_; intro W3 hR3 _ hK3 _; have HR3 := hide hR3; have HB3 := hide (hK3 _ _ (Nat.le_succ _) HS.out.2.2); clear hR3 hK3))
   obtain ⟨r0, r1, r2⟩ := HR3.out.c3
   exact bodyPost_ret (v := .tuple #[.agg (List.toArray [Value.int .i64 0, .string ⟨#[]⟩, .slice none 0 0]), .bool false]) (by simp [results, Tryz.results72, go_sem, r0, r1, r2]) rfl ⟨by rw [← HAN.out, HF.out]; rfl, HB3.out⟩
theorem rconfig_any (m : Im) (p : Ip) (t : Int) (K : List UInt8) (w : World) (hv : ImR w m p) (hl : m.cf.length ≤ 100000) : Calls Tryz.prog 73 #[imv m p, .int .i64 t, .string ⟨K.toArray⟩] w fun e w' => e = .returned (cfV (fC m.cf t K)) ∧ Below w.heap.size w w' := by
 have HS : Hid (Bx (w.alloc (.cells (iml m p).toArray 30)) w.heap.size (iml m p) ∧ Below w.heap.size w (w.alloc (.cells (iml m p).toArray 30))) := hide ⟨Bx.new w _ _, below_al1 w _⟩
 have HV := hide (fun W (h : Below w.heap.size w W) => (hv.below h).c)
 clear hv
 obtain ⟨an, han⟩ : ∃ an, an = cfV (fC m.cf t K) := ⟨_, rfl⟩
 rw [← han]
 have HAN := hide han.symm
 clear han
 obtain ⟨ab, aq, ac, ad, cb, cq, cc, cd, ts⟩ := p
 unfold imv
 unfold iml at HS
 go_enter Tryz.func73, Tryz.ntmps73
 go_upto_region 2 with fail
 (try dsimp only at HS)
 (try dsimp only at HV)
 generalize w.alloc (.cells (List.toArray [Value.slice ab m.br.length cb, .slice aq ts.length cq, .slice ac m.cf.length cc, .slice ad m.dn.length cd, .int .i64 m.la]) 30) = X at HS ⊢
 go_loopw [8] (fun i W => ∃ k : Nat, k ≤ m.cf.length ∧ i = .int .i64 (k : Int) ∧ W = X ∧ ∀ j (hj : j < m.cf.length), j < k → (idC t K) m.cf[j] = false) (fun i _ => m.cf.length - (ivQ i).toNat)
 case atStart => exact ⟨0, Nat.zero_le _, rfl, rfl, fun j _ h => absurd h (Nat.not_lt_zero j)⟩
 case round =>
  obtain ⟨k, hk, rfl, rfl, hall⟩ := hrel
  have HA := hide hall
  clear hall
  have i2 := HS.out.1.at 2 _ rfl
  by_cases hlt : k < m.cf.length
  ·have hltI : (k : Int) < (m.cf.length : Int) := by omega
   obtain ⟨bb, ob, rfl, hrg⟩ := (HV.out wr HS.out.2).rg (show 0 < m.cf.length by omega)
   have HC := hide (fm_at encC hrg hlt)
   have HUP := hide (up_to (f := idC t K) HA.out hlt)
   have HYE := hide (find_up (f := idC t K) hlt HA.out)
   clear hrg
   generalize m.cf[k] = x at HC HUP HYE
   unfold cfc at HC
   have c0 : wr.cell? ⟨bb, ob + k * 3, none⟩ = some (.int .i64 x.tp) := HC.out 0 _ rfl
   have c1 : wr.cell? ⟨bb, ob + k * 3 + 1, none⟩ = some (.string ⟨x.ky.toArray⟩) := HC.out 1 _ rfl
   have c2 : wr.cell? ⟨bb, ob + k * 3 + 2, none⟩ = some (.string ⟨x.va.toArray⟩) := HC.out 2 _ rfl
   cases h1 : x.tp == t with
   | false =>
    have HU := hide (HUP.out (by show (x.tp == t && x.ky == K) = false; rw [h1]; rfl))
    go_wp2_with fail
    go_roundw
    case rel => exact ⟨k + 1, by omega, by go_num, (by first | rfl | trivial), HU.out⟩
    case measure => simp [ivQ]; omega
   | true =>
    cases h2 : x.ky == K with
    | false =>
     have HU := hide (HUP.out (by show (x.tp == t && x.ky == K) = false; rw [h1, h2]; rfl))
     go_wp2_with fail
     go_roundw
     case rel => exact ⟨k + 1, by omega, by go_num, (by first | rfl | trivial), HU.out⟩
     case measure => simp [ivQ]; omega
    | true =>
     have HF := hide (HYE.out (by show (x.tp == t && x.ky == K) = true; rw [h1, h2]; rfl))
     go_wp2_with fail
     exact bodyPost_ret (v := .tuple #[.string ⟨x.va.toArray⟩, .bool true]) (by simp [results, Tryz.results73, go_sem]) rfl ⟨by rw [← HAN.out]; show _ = Ending.returned (cfV (List.find? (idC t K) m.cf)); rw [HF.out]; rfl, HS.out.2⟩
  ·obtain rfl : k = m.cf.length := by omega
   have HF := hide (find_end (f := idC t K) (fun j hj => HA.out j hj hj))
   go_wp2_with fail
   exact bodyPost_ret (v := .tuple #[.string ⟨#[]⟩, .bool false]) (by simp [results, Tryz.results73, go_sem]) rfl ⟨by rw [← HAN.out]; show _ = Ending.returned (cfV (List.find? (idC t K) m.cf)); rw [HF.out]; rfl, HS.out.2⟩
theorem ranswered_any (m : Im) (p : Ip) (c s : Int) (w : World) (hv : ImR w m p) (hl : m.dn.length ≤ 100000) : Calls Tryz.prog 74 #[imv m p, .int .i64 c, .int .i64 s] w fun e w' => e = .returned (ansV (fD m.dn c s)) ∧ Below w.heap.size w w' := by
 have HS : Hid (Bx (w.alloc (.cells (iml m p).toArray 30)) w.heap.size (iml m p) ∧ Below w.heap.size w (w.alloc (.cells (iml m p).toArray 30))) := hide ⟨Bx.new w _ _, below_al1 w _⟩
 have HV := hide (fun W (h : Below w.heap.size w W) => (hv.below h).d)
 clear hv
 obtain ⟨an, han⟩ : ∃ an, an = ansV (fD m.dn c s) := ⟨_, rfl⟩
 rw [← han]
 have HAN := hide han.symm
 clear han
 obtain ⟨ab, aq, ac, ad, cb, cq, cc, cd, ts⟩ := p
 unfold imv
 unfold iml at HS
 go_enter Tryz.func74, Tryz.ntmps74
 go_upto_region 2 with fail
 (try dsimp only at HS)
 (try dsimp only at HV)
 generalize w.alloc (.cells (List.toArray [Value.slice ab m.br.length cb, .slice aq ts.length cq, .slice ac m.cf.length cc, .slice ad m.dn.length cd, .int .i64 m.la]) 30) = X at HS ⊢
 go_loopw [8] (fun i W => ∃ k : Nat, k ≤ m.dn.length ∧ i = .int .i64 (k : Int) ∧ W = X ∧ ∀ j (hj : j < m.dn.length), j < k → (idD c s) m.dn[j] = false) (fun i _ => m.dn.length - (ivQ i).toNat)
 case atStart => exact ⟨0, Nat.zero_le _, rfl, rfl, fun j _ h => absurd h (Nat.not_lt_zero j)⟩
 case round =>
  obtain ⟨k, hk, rfl, rfl, hall⟩ := hrel
  have HA := hide hall
  clear hall
  have i3 := HS.out.1.at 3 _ rfl
  by_cases hlt : k < m.dn.length
  ·have hltI : (k : Int) < (m.dn.length : Int) := by omega
   obtain ⟨bb, ob, rfl, hrg⟩ := (HV.out wr HS.out.2).rg (show 0 < m.dn.length by omega)
   have HC := hide (fm_at encD hrg hlt)
   have HUP := hide (up_to (f := idD c s) HA.out hlt)
   have HYE := hide (find_up (f := idD c s) hlt HA.out)
   clear hrg
   generalize m.dn[k] = x at HC HUP HYE
   unfold dnc at HC
   have c0 : wr.cell? ⟨bb, ob + k * 3, none⟩ = some (.int .i64 x.cl) := HC.out 0 _ rfl
   have c1 : wr.cell? ⟨bb, ob + k * 3 + 1, none⟩ = some (.int .i64 x.se) := HC.out 1 _ rfl
   have c2 : wr.cell? ⟨bb, ob + k * 3 + 2, none⟩ = some (.int .i64 x.co) := HC.out 2 _ rfl
   cases h1 : x.cl == c with
   | false =>
    have HU := hide (HUP.out (by show (x.cl == c && x.se == s) = false; rw [h1]; rfl))
    go_wp2_with fail
    go_roundw
    case rel => exact ⟨k + 1, by omega, by go_num, (by first | rfl | trivial), HU.out⟩
    case measure => simp [ivQ]; omega
   | true =>
    cases h2 : x.se == s with
    | false =>
     have HU := hide (HUP.out (by show (x.cl == c && x.se == s) = false; rw [h1, h2]; rfl))
     go_wp2_with fail
     go_roundw
     case rel => exact ⟨k + 1, by omega, by go_num, (by first | rfl | trivial), HU.out⟩
     case measure => simp [ivQ]; omega
    | true =>
     have HF := hide (HYE.out (by show (x.cl == c && x.se == s) = true; rw [h1, h2]; rfl))
     go_wp2_with fail
     exact bodyPost_ret (v := .tuple #[.int .i64 x.co, .bool true]) (by simp [results, Tryz.results74, go_sem]) rfl ⟨by rw [← HAN.out]; show _ = Ending.returned (ansV (List.find? (idD c s) m.dn)); rw [HF.out]; rfl, HS.out.2⟩
  ·obtain rfl : k = m.dn.length := by omega
   have HF := hide (find_end (f := idD c s) (fun j hj => HA.out j hj hj))
   go_wp2_with fail
   exact bodyPost_ret (v := .tuple #[.int .i64 0, .bool false]) (by simp [results, Tryz.results74, go_sem]) rfl ⟨by rw [← HAN.out]; show _ = Ending.returned (ansV (List.find? (idD c s) m.dn)); rw [HF.out]; rfl, HS.out.2⟩
theorem rleads_any (m : Im) (p : Ip) (id : Int) (w : World) (hv : ImR w m p) (hw : Wf m 100000) : Calls Tryz.prog 65 #[imv m p, .int .i64 id] w fun e w' => e = .returned (.bool (leads m.ts id)) ∧ Below w.heap.size w w' := by
 have HS : Hid (Bx (w.alloc (.cells (iml m p).toArray 30)) w.heap.size (iml m p) ∧ Below w.heap.size w (w.alloc (.cells (iml m p).toArray 30))) := hide ⟨Bx.new w _ _, below_al1 w _⟩
 have HX := hide (fun W (h : Below w.heap.size w W) => hv.below h)
 have hl : p.ts.length ≤ 100000 := by rw [hv.len]; exact hw.nt
 have HNP := hide (fun (t : Tq) (h : t ∈ p.ts) => hv.np hw h)
 have HWP := hide (fun (t : Tq) (h : t ∈ p.ts) (q : Pp) (hq : q ∈ t.ps) => hv.wp hw h hq)
 obtain ⟨an, han⟩ : ∃ an, an = leads m.ts id := ⟨_, rfl⟩
 rw [← han]
 have HAN : Hid ((p.ts.any fun t => t.ps.any fun q => q.1.ld == id) = an) := hide (by
  rw [han]
  unfold leads
  rw [← hv.e, List.any_map]
  congr 1
  funext t
  simp only [Function.comp, Tq.tp, List.any_map]
  rfl)
 clear han hv hw
 obtain ⟨ab, aq, ac, ad, cb, cq, cc, cd, ts⟩ := p
 unfold imv
 unfold iml at HS
 replace hl : ts.length ≤ 100000 := hl
 go_enter Tryz.func65, Tryz.ntmps65
 go_upto_region 2 with fail
 (try dsimp only at HS)
 (try dsimp only at HAN)
 generalize w.alloc (.cells (List.toArray [Value.slice ab m.br.length cb, .slice aq ts.length cq, .slice ac m.cf.length cc, .slice ad m.dn.length cd, .int .i64 m.la]) 30) = X at HS ⊢
 go_loopw [5] (fun i W => ∃ a : Nat, a ≤ ts.length ∧ i = .int .i64 (a : Int) ∧ W = X ∧ ∀ j (hj : j < ts.length), j < a → (fun t : Tq => t.ps.any fun q => q.1.ld == id) ts[j] = false) (fun i _ => ts.length - (ivQ i).toNat)
 case atStart => exact ⟨0, Nat.zero_le _, rfl, rfl, fun j _ h => absurd h (Nat.not_lt_zero j)⟩
 case round =>
  obtain ⟨a, ha, rfl, rfl, hall⟩ := hrel
  have HA := hide hall
  clear hall
  have i1 := HS.out.1.at 1 _ rfl
  by_cases hlt : a < ts.length
  ·have hltI : (a : Int) < (ts.length : Int) := by omega
   have HI := hide (HX.out wr HS.out.2)
   obtain ⟨bq, oq, rfl, hrq⟩ := HI.out.t.rg (show 0 < ts.length by omega)
   have HT := hide (fm_at encT hrq hlt)
   have hmem := List.getElem_mem hlt
   have HTQ := hide (HI.out.q _ hmem)
   have hpn := HNP.out _ hmem
   have HWQ := hide (HWP.out _ hmem)
   have HUP := hide (up_to (f := fun t : Tq => t.ps.any fun q => q.1.ld == id) HA.out hlt)
   have HYE := hide (any_yes (f := fun t : Tq => t.ps.any fun q => q.1.ld == id) hlt)
   clear hrq hmem HI
   generalize ts[a] = t at HT HTQ hpn HWQ HUP HYE
   obtain ⟨tid, tnm, ps, ta, tc⟩ := t
   dsimp only at *
   unfold tpc at HT
   dsimp only at HT
   have t2 : wr.cell? ⟨bq, oq + a * 3 + 2, none⟩ = some (.slice ta ps.length tc) := HT.out 2 _ rfl
   go_upto_region 5 with fail
   obtain ⟨Y, hY⟩ : ∃ Y, Y = wr := ⟨_, rfl⟩
   have HYW := hide hY
   clear hY
   go_loopw [6] (fun i W => ∃ b : Nat, b ≤ ps.length ∧ i = .int .i64 (b : Int) ∧ W = Y ∧ ∀ j (hj : j < ps.length), j < b → (fun q => q.1.ld == id) ps[j] = false) (fun i _ => ps.length - (ivQ i).toNat)
   case atStart => exact ⟨0, Nat.zero_le _, rfl, HYW.out.symm, fun j _ h => absurd h (Nat.not_lt_zero j)⟩
   case round =>
    clear HA
    obtain ⟨b, hb, rfl, hw, hall⟩ := hrel
    obtain rfl := hw.trans HYW.out
    have HA := hide hall
    clear hall hw
    by_cases hlb : b < ps.length
    ·have hlbI : (b : Int) < (ps.length : Int) := by omega
     obtain ⟨bp, op, rfl, hrp⟩ := HTQ.out.ps.rg (show 0 < ps.length by omega)
     have HP := hide (fm_at encP hrp hlb)
     have hpm := List.getElem_mem hlb
     have HPT := hide (HTQ.out.pt _ hpm)
     have HPW := hide (HWQ.out _ hpm)
     have HU2 := hide (up_to (f := (fun q => q.1.ld == id)) HA.out hlb)
     have HY2 := hide (any_yes (f := (fun q => q.1.ld == id)) hlb)
     clear hrp hpm
     generalize ps[b] = q at HP HPT HPW HU2 HY2
     unfold ptc at HP
     have c2 : wr.cell? ⟨bp, op + b * 6 + 2, none⟩ = some (.int .i64 q.1.ld) := HP.out 2 _ rfl
     cases hx : q.1.ld == id with
     | true =>
      have HT2 := hide (HYE.out (HY2.out hx))
      go_wp2_with fail
      go_ret
      exact ⟨by rw [← HAN.out]; show _ = Ending.returned (Value.bool (List.any ts _)); rw [HT2.out]; rfl, HS.out.2⟩
     | false =>
      have HU3 := hide (HU2.out hx)
      go_wp2_with fail
      go_roundw
      case rel => exact ⟨b + 1, by omega, by go_num, (by first | rfl | exact HYW.out.symm | trivial), HU3.out⟩
      case measure => simp [ivQ]; omega
    ·obtain rfl : b = ps.length := by omega
     have HU3 := hide (HUP.out (any_no (f := (fun q => q.1.ld == id)) (fun j hj => HA.out j hj hj)))
     go_wp2_with fail
     go_roundw
     case rel => exact ⟨a + 1, by omega, by go_num, (by first | rfl | trivial), HU3.out⟩
     case measure => simp [ivQ]; omega
  ·obtain rfl : a = ts.length := by omega
   have HF := hide (any_no (f := fun t : Tq => t.ps.any fun q => q.1.ld == id) (fun j hj => HA.out j hj hj))
   go_wp2_with fail
   go_ret
   exact ⟨by rw [← HAN.out]; show _ = Ending.returned (Value.bool (List.any ts _)); rw [HF.out]; rfl, HS.out.2⟩
theorem rused_any (m : Im) (p : Ip) (id : Int) (w : World) (hv : ImR w m p) (hw : Wf m 100000) : Calls Tryz.prog 67 #[imv m p, .int .i64 id] w fun e w' => e = .returned (.bool (used m.ts id)) ∧ Below w.heap.size w w' := by
 have HS : Hid (Bx (w.alloc (.cells (iml m p).toArray 30)) w.heap.size (iml m p) ∧ Below w.heap.size w (w.alloc (.cells (iml m p).toArray 30))) := hide ⟨Bx.new w _ _, below_al1 w _⟩
 have HX := hide (fun W (h : Below w.heap.size w W) => hv.below h)
 have hl : p.ts.length ≤ 100000 := by rw [hv.len]; exact hw.nt
 have HNP := hide (fun (t : Tq) (h : t ∈ p.ts) => hv.np hw h)
 have HWP := hide (fun (t : Tq) (h : t ∈ p.ts) (q : Pp) (hq : q ∈ t.ps) => hv.wp hw h hq)
 obtain ⟨an, han⟩ : ∃ an, an = used m.ts id := ⟨_, rfl⟩
 rw [← han]
 have HAN : Hid ((p.ts.any fun t => t.ps.any fun q => q.1.ids.contains id) = an) := hide (by
  rw [han]
  unfold used
  rw [← hv.e, List.any_map]
  congr 1
  funext t
  simp only [Function.comp, Tq.tp, List.any_map]
  rfl)
 clear han hv hw
 obtain ⟨ab, aq, ac, ad, cb, cq, cc, cd, ts⟩ := p
 unfold imv
 unfold iml at HS
 replace hl : ts.length ≤ 100000 := hl
 go_enter Tryz.func67, Tryz.ntmps67
 go_upto_region 2 with fail
 (try dsimp only at HS)
 (try dsimp only at HAN)
 generalize w.alloc (.cells (List.toArray [Value.slice ab m.br.length cb, .slice aq ts.length cq, .slice ac m.cf.length cc, .slice ad m.dn.length cd, .int .i64 m.la]) 30) = X at HS ⊢
 go_loopw [5] (fun i W => ∃ a : Nat, a ≤ ts.length ∧ i = .int .i64 (a : Int) ∧ W = X ∧ ∀ j (hj : j < ts.length), j < a → (fun t : Tq => t.ps.any fun q => q.1.ids.contains id) ts[j] = false) (fun i _ => ts.length - (ivQ i).toNat)
 case atStart => exact ⟨0, Nat.zero_le _, rfl, rfl, fun j _ h => absurd h (Nat.not_lt_zero j)⟩
 case round =>
  obtain ⟨a, ha, rfl, rfl, hall⟩ := hrel
  have HA := hide hall
  clear hall
  have i1 := HS.out.1.at 1 _ rfl
  by_cases hlt : a < ts.length
  ·have hltI : (a : Int) < (ts.length : Int) := by omega
   have HI := hide (HX.out wr HS.out.2)
   obtain ⟨bq, oq, rfl, hrq⟩ := HI.out.t.rg (show 0 < ts.length by omega)
   have HT := hide (fm_at encT hrq hlt)
   have hmem := List.getElem_mem hlt
   have HTQ := hide (HI.out.q _ hmem)
   have hpn := HNP.out _ hmem
   have HWQ := hide (HWP.out _ hmem)
   have HUP := hide (up_to (f := fun t : Tq => t.ps.any fun q => q.1.ids.contains id) HA.out hlt)
   have HYE := hide (any_yes (f := fun t : Tq => t.ps.any fun q => q.1.ids.contains id) hlt)
   clear hrq hmem HI
   generalize ts[a] = t at HT HTQ hpn HWQ HUP HYE
   obtain ⟨tid, tnm, ps, ta, tc⟩ := t
   dsimp only at *
   unfold tpc at HT
   dsimp only at HT
   have t2 : wr.cell? ⟨bq, oq + a * 3 + 2, none⟩ = some (.slice ta ps.length tc) := HT.out 2 _ rfl
   go_upto_region 5 with fail
   obtain ⟨Y, hY⟩ : ∃ Y, Y = wr := ⟨_, rfl⟩
   have HYW := hide hY
   clear hY
   go_loopw [6] (fun i W => ∃ b : Nat, b ≤ ps.length ∧ i = .int .i64 (b : Int) ∧ W = Y ∧ ∀ j (hj : j < ps.length), j < b → (fun q => q.1.ids.contains id) ps[j] = false) (fun i _ => ps.length - (ivQ i).toNat)
   case atStart => exact ⟨0, Nat.zero_le _, rfl, HYW.out.symm, fun j _ h => absurd h (Nat.not_lt_zero j)⟩
   case round =>
    clear HA
    obtain ⟨b, hb, rfl, hw, hall⟩ := hrel
    obtain rfl := hw.trans HYW.out
    have HA := hide hall
    clear hall hw
    by_cases hlb : b < ps.length
    ·have hlbI : (b : Int) < (ps.length : Int) := by omega
     obtain ⟨bp, op, rfl, hrp⟩ := HTQ.out.ps.rg (show 0 < ps.length by omega)
     have HP := hide (fm_at encP hrp hlb)
     have hpm := List.getElem_mem hlb
     have HPT := hide (HTQ.out.pt _ hpm)
     have HPW := hide (HWQ.out _ hpm)
     have HU2 := hide (up_to (f := (fun q => q.1.ids.contains id)) HA.out hlb)
     have HY2 := hide (any_yes (f := (fun q => q.1.ids.contains id)) hlb)
     clear hrp hpm
     generalize ps[b] = q at HP HPT HPW HU2 HY2
     unfold ptc at HP
     have c0 : wr.cell? ⟨bp, op + b * 6, none⟩ = some (.slice q.2.a0 q.1.ids.length q.2.c0) := HP.out 0 _ rfl
     have HHS := hide (rhas_any _ q.1.ids id wr HPT.out.s0 (Nat.le_trans HPW.out.l0 (by decide)))
     cases hx : q.1.ids.contains id with
     | true =>
      rw [hx] at HHS
      have HT2 := hide (HYE.out (HY2.out hx))
      go_wp2_with (first | (go_at_call 109; refine HHS.out.mono ?_; rintro e wz ⟨rfl, hwz⟩; rw [hwz]; clear hwz wz))
      go_ret
      exact ⟨by rw [← HAN.out]; show _ = Ending.returned (Value.bool (List.any ts _)); rw [HT2.out]; rfl, HS.out.2⟩
     | false =>
      rw [hx] at HHS
      have HU3 := hide (HU2.out hx)
      go_wp2_with (first | (go_at_call 109; refine HHS.out.mono ?_; rintro e wz ⟨rfl, hwz⟩; rw [hwz]; clear hwz wz))
      go_roundw
      case rel => exact ⟨b + 1, by omega, by go_num, (by first | rfl | exact HYW.out.symm | trivial), HU3.out⟩
      case measure => simp [ivQ]; omega
    ·obtain rfl : b = ps.length := by omega
     have HU3 := hide (HUP.out (any_no (f := (fun q => q.1.ids.contains id)) (fun j hj => HA.out j hj hj)))
     go_wp2_with fail
     go_roundw
     case rel => exact ⟨a + 1, by omega, by go_num, (by first | rfl | trivial), HU3.out⟩
     case measure => simp [ivQ]; omega
  ·obtain rfl : a = ts.length := by omega
   have HF := hide (any_no (f := fun t : Tq => t.ps.any fun q => q.1.ids.contains id) (fun j hj => HA.out j hj hj))
   go_wp2_with fail
   go_ret
   exact ⟨by rw [← HAN.out]; show _ = Ending.returned (Value.bool (List.any ts _)); rw [HF.out]; rfl, HS.out.2⟩
end Go.Proofs.YtlggjgapdpkhiaaGreatDoor
namespace Go.Proofs.YtlggjgapdpkhiaaGreatDoor
open Go.RowKit
theorem wpList_app1 {α : Type} {f : α → List Value} {k : Nat} {P : Program} {S T : TypeId} (hi : Tyi P S T k) (hf : Enc f k) {ops : Array Oper} {rest : List Oper} {o : Oper} {a : Act} {Q : Exit → Act → World → Prop} (w : World) (hg : o.guard = none) (y z : Operand) (ho : o.op = .call { callee := .builtin .append, args := #[y, z], argTypes := #[S, S] }) (B : Nat) (v : Value) (l : List α) (hy : a.eval y = v) (hown : Ro f k T w B v l) (hB : B ≤ w.heap.size) (x : α) (g c : Nat) (hz : a.eval z = .slice (some ⟨g, 0, none⟩) 1 c) (hc : 1 ≤ c) (hq : w.rangeAt g 0 (f x)) (hn : l.length ≤ 1000000000)
  (h : ∀ v' w', Ro f k T w' B v' (l ++ [x]) → Below B w w' → wpList P ops Q rest (a.put o.dst v') w') : wpList P ops Q (o :: rest) a w :=
 wpList_appR hi hf w hg y z ho B v l hy hown hB _ [x] hz ⟨some ⟨g, 0, none⟩, c, rfl, hc, fun _ => ⟨g, 0, rfl, by simpa using hq⟩⟩ (by simp; omega) (fun v' w' h1 _ h3 => h v' w' h1 h3)
theorem Bx.blk0 {W W' : World} {n : Nat} {cs : List Value} (h : Bx W n cs) (hs : W.heap.size ≤ W'.heap.size) (e : W'.heap[n]? = W.heap[n]?) : Bx W' n cs :=
 ⟨Nat.lt_of_lt_of_le h.l hs, fun j u hu => by
  have := h.c j u hu
  rw [← this]
  exact World.cell?_of_block e, fun j hj => (World.frozen?_of_block e).trans (h.f j hj)⟩
theorem Bx.lowB {W W' : World} {n B : Nat} {cs : List Value} (h : Bx W n cs) (hb : Below B W W') (hn : n < B) : Bx W' n cs := h.blk0 hb.size (hb.block n hn)
theorem fold_get {α : Type} {l : List α} {k : Nat} (hk : k < l.length) (c : α → Int) (b : α) : (l.take (k + 1)).foldl (stepO c b) ([], false) = stepO c b ((l.take k).foldl (stepO c b) ([], false)) l[k] := by
 rw [List.take_succ_eq_append_getElem hk, List.foldl_append]
 rfl
structure Pb (w W : World) (b : Bk) (vo : Value) (s : List Bk) : Prop where
 x : Bx W w.heap.size (bkc b)
 o : Ro bkc 5 54 W (w.heap.size + 1) vo s
 b : Below w.heap.size w W
theorem Pb.below {w W W' : World} {b : Bk} {vo : Value} {s : List Bk} (h : Pb w W b vo s) (hb : Below W.heap.size W W') : Pb w W' b vo s := ⟨h.x.below hb, h.o.below hb, bt h.b hb⟩
theorem Pb.drewN {w W : World} {b : Bk} {vo : Value} {s : List Bk} (h : Pb w W b vo s) (n : Nat) : Pb w (W.drewN n) b vo s := ⟨h.x.drewN n, h.o, below_drewN h.b n⟩
theorem Pb.app {w W W' : World} {b : Bk} {vo v' : Value} {s s' : List Bk} (h : Pb w W b vo s) (ho : Ro bkc 5 54 W' (w.heap.size + 1) v' s') (hb : Below (w.heap.size + 1) W W') : Pb w W' b v' s' := ⟨h.x.lowB hb (Nat.lt_succ_self _), ho, h.b.trans (hb.mono (Nat.le_succ _))⟩
theorem stepO_len {α : Type} (c : α → Int) (b : α) : ∀ (l : List α), (l.foldl (stepO c b) ([], false)).1.length ≤ 2 * l.length := by
 intro l
 suffices h : ∀ (l : List α) (s : List α × Bool), (l.foldl (stepO c b) s).1.length ≤ s.1.length + 2 * l.length by simpa using h l ([], false)
 intro l
 induction l with
 | nil => intro s; simp
 | cons x l ih =>
  intro s
  rw [List.foldl_cons]
  refine Nat.le_trans (ih _) ?_
  unfold stepO
  simp only [List.length_append, List.length_cons]
  split <;> split <;> simp <;> omega
set_option maxRecDepth 100000 in
set_option maxHeartbeats 16000000 in
theorem rputb_any (l : List Bk) (v : Value) (b : Bk) (w : World) (hv : Rs bkc w v l) (hl : l.length ≤ 100000) (hs : l.Pairwise fun x y => x.id < y.id) : Calls Tryz.prog 66 #[v, .agg (bkc b).toArray] w fun e w' => ∃ v', e = .returned v' ∧ Ro bkc 5 54 w' w.heap.size v' (putB l b) ∧ Below w.heap.size w w' := by
 have HV := hide (fun W (h : Below w.heap.size w W) => hv.below h)
 have HP0 : Hid (Pb w (w.alloc (.cells (bkc b).toArray 54)) b (.slice none 0 0) []) := hide ⟨Bx.new w _ _, ro_nil _ _ _ _ _, below_al1 w _⟩
 have HFO : Hid (putB l b = if (l.foldl (stepO (fun x : Bk => cmpN x.id b.id) b) ([], false)).2 then (l.foldl (stepO (fun x : Bk => cmpN x.id b.id) b) ([], false)).1 else (l.foldl (stepO (fun x : Bk => cmpN x.id b.id) b) ([], false)).1 ++ [b]) := hide (by
  rw [fold_O _ b l (stn_B hs b.id)]
  exact putB_ins rfl)
 obtain ⟨R, hR⟩ : ∃ R, R = putB l b := ⟨_, rfl⟩
 rw [← hR]
 rw [← hR] at HFO
 clear hR hs
 obtain ⟨ao, cap, rfl⟩ := hv.form
 clear hv
 unfold bkc at HP0 ⊢
 go_enter Tryz.func66, Tryz.ntmps66
 go_upto_region 4 with fail
 generalize w.alloc (.cells (List.toArray [Value.int .i64 b.id, .int .i64 b.ep, .string ⟨b.rk.toArray⟩, .bool b.fe, .bool b.lv]) 54) = X at HP0 ⊢
 go_loopw [5, 6, 7] (fun o d i W => ∃ (k : Nat) (s : List Bk × Bool) (vo : Value), k ≤ l.length ∧ i = .int .i64 (k : Int) ∧ d = .bool s.2 ∧ vo = o ∧ Hid (s = (l.take k).foldl (stepO (fun x : Bk => cmpN x.id b.id) b) ([], false)) ∧ Pb w W b vo s.1) (fun _ _ i _ => l.length - (ivQ i).toNat)
 case atStart => exact ⟨0, ([], false), _, Nat.zero_le _, rfl, rfl, rfl, hide rfl, HP0.out⟩
 case round =>
  clear HP0
  obtain ⟨k, s, vo, hk, rfl, rfl, rfl, HS, hp⟩ := hrel
  have HP := hide hp
  clear hp
  have HLN : Hid (s.1.length ≤ 200000) := hide (by
   have := stepO_len (fun x : Bk => cmpN x.id b.id) b (l.take k)
   rw [← HS.out] at this
   have h2 : (l.take k).length ≤ k := by rw [List.length_take]; omega
   omega)
  by_cases hlt : k < l.length
  ·have hltI : (k : Int) < (l.length : Int) := by omega
   obtain ⟨bb, ob, rfl, hrg⟩ := (HV.out wr HP.out.b).rg (show 0 < l.length by omega)
   have HRG := hide hrg
   have HST := hide (fold_get hlt (fun x : Bk => cmpN x.id b.id) b)
   rw [← HS.out] at HST
   have HXA := hide (fun W (h : Below w.heap.size w W) => (HV.out W h).at encB hlt)
   have HC := hide (fm_at encB HRG.out hlt)
   clear hrg HRG HS
   generalize l[k] = x at HST HXA HC
   obtain ⟨sl, sb⟩ := s
   dsimp only at *
   unfold bkc at HC HXA
   have c0 : wr.cell? ⟨bb, ob + k * 5, none⟩ = some (.int .i64 x.id) := HC.out 0 _ rfl
   have b0 := HP.out.x.at 0 _ rfl
   have HL1 : Hid (sl.length ≤ 1000000000) := hide (by have := HLN.out; omega)
   have HL2 : Hid ((sl ++ [b]).length ≤ 1000000000) := hide (by have := HLN.out; rw [List.length_append]; simp only [List.length_cons, List.length_nil]; omega)
   cases sb with
   | true =>
    have HST2 : Hid ((l.take (k + 1)).foldl (stepO (fun x : Bk => cmpN x.id b.id) b) ([], false) = (sl ++ (if x.id = b.id then [] else [x]), true)) := hide (by
     rw [HST.out]
     unfold stepO
     by_cases hx : x.id = b.id
     ·rw [if_pos hx, if_pos (cmpN_zero.2 hx)]; rfl
     ·rw [if_neg hx, if_neg (fun q => hx (cmpN_zero.1 q))]; rfl)
    go_wp2_with fail
    go_quiet (fail)
    have HPQ := hide (HP.out.drewN nq)
    have c0 : (wr.drewN nq).cell? ⟨bb, ob + k * 5, none⟩ = some (.int .i64 x.id) := HC.out 0 _ rfl
    have b0 := HPQ.out.x.at 0 _ rfl
    generalize wr.drewN nq = V at HPQ c0 b0 ⊢
    by_cases hx : x.id = b.id
    ·have n2 : (x.id != b.id) = false := by simp [hx]
     have HSF : Hid ((sl, true) = (l.take (k + 1)).foldl (stepO (fun x : Bk => cmpN x.id b.id) b) ([], false)) := hide (by rw [HST2.out, if_pos hx, List.append_nil])
     clear hx
     (try go_wp2_with fail)
     go_quiet (fail)
     have HPR := hide (HPQ.out.drewN nq)
     clear c0 b0
     go_wp2_with fail
     go_roundw
     case rel => exact ⟨k + 1, (sl, true), _, by omega, by go_num, rfl, rfl, HSF, HPR.out⟩
     case measure => simp [ivQ]; omega
    ·have n2 : (x.id != b.id) = true := by simpa using hx
     have HSF : Hid ((sl ++ [x], true) = (l.take (k + 1)).foldl (stepO (fun x : Bk => cmpN x.id b.id) b) ([], false)) := hide (by rw [HST2.out, if_neg hx])
     clear hx
     (try go_wp2_with fail)
     go_quiet (fail)
     have HPR := hide (HPQ.out.drewN nq)
     clear c0 b0
     generalize V.drewN nq = V3 at HPR ⊢
     have HCX := hide (HXA.out V3 HPR.out.b)
     have HB3 := hide (HPR.out.below (below_al1 V3 (.cells (List.toArray [Value.int .i64 x.id, .int .i64 x.ep, .string ⟨x.rk.toArray⟩, .bool x.fe, .bool x.lv]) 54)))
     have HC3 := hide (Bx.new V3 [.int .i64 x.id, .int .i64 x.ep, .string ⟨x.rk.toArray⟩, .bool x.fe, .bool x.lv] 54).c
     go_wp2_with (first | (refine wpList_load_mid rfl _ _ rfl _ _ rfl _ _ HCX.out Tryz.underlying54 rfl (by kernel_rfl) ?_) | (refine wpList_app1 tyiB encB _ rfl _ _ rfl (w.heap.size + 1) _ _ rfl HB3.out.o (by have := HB3.out.x.l; omega) x _ 1 rfl (Nat.le_refl _) (HC3.out) HL1.out ?_; intro v' w' hov hbe; have HPX := hide (HB3.out.app hov hbe); clear hov hbe))
     go_roundw
     case rel => exact ⟨k + 1, (sl ++ [x], true), _, by omega, by go_num, rfl, rfl, HSF, HPX.out⟩
     case measure => simp [ivQ]; omega
   | false =>
    by_cases hlt2 : x.id < b.id
    ·have HST2 : Hid ((l.take (k + 1)).foldl (stepO (fun x : Bk => cmpN x.id b.id) b) ([], false) = (sl ++ (if x.id = b.id then [] else [x]), false)) := hide (by
      rw [HST.out]
      unfold stepO
      have h1 : cmpN x.id b.id < 0 := cmpN_lt.2 hlt2
      have h2 : decide (0 ≤ cmpN x.id b.id) = false := decide_eq_false (by omega)
      have h3 : ¬ cmpN x.id b.id = 0 := by omega
      have h4 : ¬ x.id = b.id := by omega
      simp [h2, h3, h4])
     have n1 : ¬ b.id ≤ x.id := by omega
     have hne : ¬ x.id = b.id := by omega
     clear hlt2
     go_wp2_with fail
     go_quiet (fail)
     have HPQ := hide (HP.out.drewN nq)
     have c0 : (wr.drewN nq).cell? ⟨bb, ob + k * 5, none⟩ = some (.int .i64 x.id) := HC.out 0 _ rfl
     have b0 := HPQ.out.x.at 0 _ rfl
     generalize wr.drewN nq = V at HPQ c0 b0 ⊢
     have n2 : (x.id != b.id) = true := by simpa using hne
     have HSF : Hid ((sl ++ [x], false) = (l.take (k + 1)).foldl (stepO (fun x : Bk => cmpN x.id b.id) b) ([], false)) := hide (by rw [HST2.out, if_neg hne])
     clear hne
     (try go_wp2_with fail)
     go_quiet (fail)
     have HPR := hide (HPQ.out.drewN nq)
     clear c0 b0
     generalize V.drewN nq = V3 at HPR ⊢
     have HCX := hide (HXA.out V3 HPR.out.b)
     have HB3 := hide (HPR.out.below (below_al1 V3 (.cells (List.toArray [Value.int .i64 x.id, .int .i64 x.ep, .string ⟨x.rk.toArray⟩, .bool x.fe, .bool x.lv]) 54)))
     have HC3 := hide (Bx.new V3 [.int .i64 x.id, .int .i64 x.ep, .string ⟨x.rk.toArray⟩, .bool x.fe, .bool x.lv] 54).c
     go_wp2_with (first | (refine wpList_load_mid rfl _ _ rfl _ _ rfl _ _ HCX.out Tryz.underlying54 rfl (by kernel_rfl) ?_) | (refine wpList_app1 tyiB encB _ rfl _ _ rfl (w.heap.size + 1) _ _ rfl HB3.out.o (by have := HB3.out.x.l; omega) x _ 1 rfl (Nat.le_refl _) (HC3.out) HL1.out ?_; intro v' w' hov hbe; have HPX := hide (HB3.out.app hov hbe); clear hov hbe))
     go_roundw
     case rel => exact ⟨k + 1, (sl ++ [x], false), _, by omega, by go_num, rfl, rfl, HSF, HPX.out⟩
     case measure => simp [ivQ]; omega
    ·have HST2 : Hid ((l.take (k + 1)).foldl (stepO (fun x : Bk => cmpN x.id b.id) b) ([], false) = (sl ++ [b] ++ (if x.id = b.id then [] else [x]), true)) := hide (by
      rw [HST.out]
      unfold stepO
      have h1 : ¬ cmpN x.id b.id < 0 := fun q => hlt2 (cmpN_lt.1 q)
      have h2 : decide (0 ≤ cmpN x.id b.id) = true := decide_eq_true (by omega)
      by_cases hx : x.id = b.id
      ·rw [if_pos hx, if_pos (cmpN_zero.2 hx)]
       simp [h2]
      ·rw [if_neg hx, if_neg (fun q => hx (cmpN_zero.1 q))]
       simp [h2])
     have n1 : b.id ≤ x.id := by omega
     clear hlt2
     go_wp2_with fail
     go_quiet (fail)
     have HPQ := hide (HP.out.drewN nq)
     generalize wr.drewN nq = V at HPQ ⊢
     have HXC : Hid (V.rangeAt w.heap.size 0 [.int .i64 b.id, .int .i64 b.ep, .string ⟨b.rk.toArray⟩, .bool b.fe, .bool b.lv]) := hide HPQ.out.x.c
     have HB2 := hide (HPQ.out.below (below_al1 V (.cells (List.toArray [Value.int .i64 b.id, .int .i64 b.ep, .string ⟨b.rk.toArray⟩, .bool b.fe, .bool b.lv]) 54)))
     have HC2 := hide (Bx.new V [.int .i64 b.id, .int .i64 b.ep, .string ⟨b.rk.toArray⟩, .bool b.fe, .bool b.lv] 54).c
     go_upto_region 9 with (first | (refine wpList_load_mid rfl _ _ rfl _ _ rfl _ _ HXC.out Tryz.underlying54 rfl (by kernel_rfl) ?_) | (refine wpList_app1 tyiB encB _ rfl _ _ rfl (w.heap.size + 1) _ _ rfl HB2.out.o (by have := HB2.out.x.l; omega) b _ 1 rfl (Nat.le_refl _) (HC2.out) HL1.out ?_; intro v' w' hov hbe; have HPA := hide (HB2.out.app hov hbe); clear hov hbe))
     clear HB2 HC2 HXC n1 HPQ
     have HPQ := hide HPA.out
     clear HPA
     generalize w' = V2 at HPQ ⊢
     have c0 : V2.cell? ⟨bb, ob + k * 5, none⟩ = some (.int .i64 x.id) := by
      obtain ⟨bb', ob', e, hr⟩ : ∃ bb' ob', (some (⟨bb, ob, none⟩ : Addr)) = some ⟨bb', ob', none⟩ ∧ V2.rangeAt bb' (ob' + k * 5) [.int .i64 x.id, .int .i64 x.ep, .string ⟨x.rk.toArray⟩, .bool x.fe, .bool x.lv] := ⟨_, _, rfl, HXA.out V2 HPQ.out.b⟩
      cases e
      exact hr 0 _ rfl
     have b0 := HPQ.out.x.at 0 _ rfl
     by_cases hx : x.id = b.id
     ·have n2 : (x.id != b.id) = false := by simp [hx]
      have HSF : Hid ((sl ++ [b], true) = (l.take (k + 1)).foldl (stepO (fun x : Bk => cmpN x.id b.id) b) ([], false)) := hide (by rw [HST2.out, if_pos hx, List.append_nil])
      clear hx
      (try go_wp2_with fail)
      go_quiet (fail)
      have HPR := hide (HPQ.out.drewN nq)
      clear c0 b0
      go_wp2_with fail
      go_roundw
      case rel => exact ⟨k + 1, (sl ++ [b], true), _, by omega, by go_num, rfl, rfl, HSF, HPR.out⟩
      case measure => simp [ivQ]; omega
     ·have n2 : (x.id != b.id) = true := by simpa using hx
      have HSF : Hid ((sl ++ [b] ++ [x], true) = (l.take (k + 1)).foldl (stepO (fun x : Bk => cmpN x.id b.id) b) ([], false)) := hide (by rw [HST2.out, if_neg hx])
      clear hx
      (try go_wp2_with fail)
      go_quiet (fail)
      have HPR := hide (HPQ.out.drewN nq)
      clear c0 b0
      generalize V2.drewN nq = V3 at HPR ⊢
      have HCX := hide (HXA.out V3 HPR.out.b)
      have HB3 := hide (HPR.out.below (below_al1 V3 (.cells (List.toArray [Value.int .i64 x.id, .int .i64 x.ep, .string ⟨x.rk.toArray⟩, .bool x.fe, .bool x.lv]) 54)))
      have HC3 := hide (Bx.new V3 [.int .i64 x.id, .int .i64 x.ep, .string ⟨x.rk.toArray⟩, .bool x.fe, .bool x.lv] 54).c
      go_wp2_with (first | (refine wpList_load_mid rfl _ _ rfl _ _ rfl _ _ HCX.out Tryz.underlying54 rfl (by kernel_rfl) ?_) | (refine wpList_app1 tyiB encB _ rfl _ _ rfl (w.heap.size + 1) _ _ rfl HB3.out.o (by have := HB3.out.x.l; omega) x _ 1 rfl (Nat.le_refl _) (HC3.out) HL2.out ?_; intro v' w' hov hbe; have HPX := hide (HB3.out.app hov hbe); clear hov hbe))
      go_roundw
      case rel => exact ⟨k + 1, (sl ++ [b] ++ [x], true), _, by omega, by go_num, rfl, rfl, HSF, HPX.out⟩
      case measure => simp [ivQ]; omega
  ·obtain rfl : k = l.length := by omega
   have HSE : Hid (s = l.foldl (stepO (fun x : Bk => cmpN x.id b.id) b) ([], false)) := hide (by have := HS.out; rwa [List.take_length] at this)
   rw [← HSE.out] at HFO
   obtain ⟨sl, sb⟩ := s
   dsimp only at *
   cases sb with
   | true =>
    go_wp2_with fail
    go_ret
    exact ⟨_, rfl, by rw [HFO.out]; exact HP.out.o.mono (Nat.le_succ _), HP.out.b⟩
   | false =>
    have HB2 := hide (HP.out.below (below_al1 wr (.cells (List.toArray [Value.int .i64 b.id, .int .i64 b.ep, .string ⟨b.rk.toArray⟩, .bool b.fe, .bool b.lv]) 54)))
    have HC2 := hide (Bx.new wr [.int .i64 b.id, .int .i64 b.ep, .string ⟨b.rk.toArray⟩, .bool b.fe, .bool b.lv] 54).c
    have HL1 : Hid (sl.length ≤ 1000000000) := hide (by have := HLN.out; omega)
    have HXC : Hid (wr.rangeAt w.heap.size 0 [.int .i64 b.id, .int .i64 b.ep, .string ⟨b.rk.toArray⟩, .bool b.fe, .bool b.lv]) := hide HP.out.x.c
    clear HSE HS
    go_wp2_with (first | (refine wpList_load_mid rfl _ _ rfl _ _ rfl _ _ HXC.out Tryz.underlying54 rfl (by kernel_rfl) ?_) | (refine wpList_app1 tyiB encB _ rfl _ _ rfl (w.heap.size + 1) _ _ rfl HB2.out.o (by have := HB2.out.x.l; omega) b _ 1 rfl (Nat.le_refl _) (HC2.out) HL1.out ?_; intro v' w' hov hbe; have HPN := hide (HB2.out.app hov hbe); clear hov hbe))
    go_ret
    exact ⟨_, rfl, by rw [HFO.out]; exact HPN.out.o.mono (Nat.le_succ _), HPN.out.b⟩
end Go.Proofs.YtlggjgapdpkhiaaGreatDoor
