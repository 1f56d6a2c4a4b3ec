/-
  A PARTITION BY ITS TOPIC AND PLACE (image.Part).
  WHAT THE DOCUMENT ASKS OF METADATA (castellanref15.Topic, Named, Config, Answered, Leads, used, Part).
  MANY ROWS AS ONE (slices.Grow, slices.Concat).
  WHAT IS TAKEN OUT OF A ROW OF SETTINGS (slices.DeleteFunc with image.drop's function), in its own memory.
  A ROW IN NEW MEMORY (slices.Clone). Conditions: the cells hold it, no more than a hundred thousand.
-/
import Derived.Test.YtlggjgapdpkhiaaGreatJKImCda5
import Derived.BigFrame
import Derived.Test.YtlggjgapdpkhiaaGreatJKFrameReca5
import Derived.Test.YtlggjgapdpkhiaaGreatJKImCba5
namespace Go.Proofs.YtlggjgapdpkhiaaGreat
open Go.RowKit
set_option maxRecDepth 100000
set_option maxHeartbeats 8000000
theorem wpList_load_want {P : Program} {ops : Array Oper} {rest : List Oper} {op : Oper} {a : Act} {w : World} {Q : Exit → Act → World → Prop} (hw : Region.wanted op (yielded ops a.tmps) = true) (ty : TypeId) (x : Operand) (ho : op.op = .load ty x)
  (b o : Nat) (hx : a.eval x = .pointer (some ⟨b, o, none⟩)) (cs : List Value) (d : TypeDesc) (hc : w.rangeAt b o cs) (hu : P.underlying ty = some d) (hd : d.isRow = true) (hi : (P.info? ty).map (·.size) = some cs.length)
  (h : wpList P ops Q rest (a.put op.dst (.agg cs.toArray)) w) : wpList P ops Q (op :: rest) a w :=
 BigFrame.wpList_want hw fun _ hK => wp_load_mid ty x ho b o hx cs d hc hu hd hi (hK _ _ h)
theorem part_no (m : Im) (p : Ip) (id n : Int) (t : Tq) (is : Bool) (w : World) (hT : ∀ W, Below w.heap.size w W → Calls Tryz.prog 9 #[imv m p, .int .i64 id] W fun e w' => e = .returned (.tuple #[.agg (tpc t).toArray, .bool is]) ∧ Below W.heap.size W w') (hn : ¬ (0 ≤ n ∧ n < (t.ps.length : Int))) : Calls Tryz.prog 13 #[imv m p, .int .i64 id, .int .i64 n] w fun e w' => e = .returned (.tuple #[.agg #[.slice none 0 0, .slice none 0 0, .int .i64 0, .int .i64 0, .slice none 0 0, .slice none 0 0], .bool false]) ∧ Below w.heap.size w w' := by
 have HT := Hd hT
 clear hT
 by_cases h0 : 0 ≤ n
 ·have h1 : ¬ n < (t.ps.length : Int) := fun q => hn ⟨h0, q⟩
  clear hn
  have Hb : Hid (Bx ((w.alloc (.cells (List.toArray [Value.slice p.ab m.br.length p.cb, .slice p.aq p.ts.length p.cq, .slice p.ac m.cf.length p.cc, .slice p.ad m.dn.length p.cd, .int .i64 m.la]) 30)).alloc (.cells (List.toArray [Value.slice none 0 0, .slice none 0 0, .int .i64 0, .int .i64 0, .slice none 0 0, .slice none 0 0]) 44)) w.heap.size (iml m p) ∧ Bx ((w.alloc (.cells (List.toArray [Value.slice p.ab m.br.length p.cb, .slice p.aq p.ts.length p.cq, .slice p.ac m.cf.length p.cc, .slice p.ad m.dn.length p.cd, .int .i64 m.la]) 30)).alloc (.cells (List.toArray [Value.slice none 0 0, .slice none 0 0, .int .i64 0, .int .i64 0, .slice none 0 0, .slice none 0 0]) 44)) (w.heap.size + 1) [.slice none 0 0, .slice none 0 0, .int .i64 0, .int .i64 0, .slice none 0 0, .slice none 0 0] ∧ Below w.heap.size w ((w.alloc (.cells (List.toArray [Value.slice p.ab m.br.length p.cb, .slice p.aq p.ts.length p.cq, .slice p.ac m.cf.length p.cc, .slice p.ad m.dn.length p.cd, .int .i64 m.la]) 30)).alloc (.cells (List.toArray [Value.slice none 0 0, .slice none 0 0, .int .i64 0, .int .i64 0, .slice none 0 0, .slice none 0 0]) 44))) := Hd (Bx.mk2 w (iml m p) [.slice none 0 0, .slice none 0 0, .int .i64 0, .int .i64 0, .slice none 0 0, .slice none 0 0] _ _ (Below.refl _ _))
  unfold imv at *
  go_enter Tryz.func13, Tryz.ntmps13
  go_upto_region 1 with fail
  generalize (w.alloc (.cells (List.toArray [Value.slice p.ab m.br.length p.cb, .slice p.aq p.ts.length p.cq, .slice p.ac m.cf.length p.cc, .slice p.ad m.dn.length p.cd, .int .i64 m.la]) 30)).alloc (.cells (List.toArray [Value.slice none 0 0, .slice none 0 0, .int .i64 0, .int .i64 0, .slice none 0 0, .slice none 0 0]) 44) = X at Hb ⊢
  have HI := Hd Hb.out.1
  have HR := Hd Hb.out.2.1
  have HB := Hd Hb.out.2.2
  clear Hb
  go_upto_region 2 with (first | (refine wpList_load_mid rfl _ _ rfl _ _ rfl _ _ HI.out.c Tryz.underlying30 rfl (by kernel_rfl) ?_) | (go_at_call 9; refine (HT.out _ HB.out).mono ?_; rintro e w1 ⟨rfl, hb1⟩; unfold tpc; dsimp only; replace HI := Hd (HI.out.below hb1); replace HR := Hd (HR.out.below hb1); replace HB := Hd (bt HB.out hb1); clear hb1 HT))
  have HX := Hd (Bx.new w1 [Value.int .i64 t.id, .string ⟨t.nm.toArray⟩, .slice t.a t.ps.length t.c] 38)
  replace HR := Hd (HR.out.below (bA w1 (.cells (List.toArray [Value.int .i64 t.id, .string ⟨t.nm.toArray⟩, .slice t.a t.ps.length t.c]) 38)))
  replace HB := Hd (bt HB.out (bA w1 (.cells (List.toArray [Value.int .i64 t.id, .string ⟨t.nm.toArray⟩, .slice t.a t.ps.length t.c]) 38)))
  clear HI
  generalize w1.alloc (.cells (List.toArray [Value.int .i64 t.id, .string ⟨t.nm.toArray⟩, .slice t.a t.ps.length t.c]) 38) = X2 at HX HR HB ⊢
  generalize w1.heap.size = bT at HX ⊢
  obtain ⟨t0, t1, t2⟩ := HX.out.c3
  go_wp2_with (first | (go_at_call 41; refine (atP_no _ _ _).mono ?_; rintro e w2 ⟨rfl, hb2⟩; replace HR := Hd (HR.out.below hb2); replace HB := Hd (bt HB.out hb2); clear hb2 HX t0 t1 t2) | (refine wS rfl _ _ _ rfl _ _ rfl HR.out [.slice none 0 0, .slice none 0 0, .int .i64 0, .int .i64 0, .slice none 0 0, .slice none 0 0] rfl rfl (by kernel_rfl) rfl ?_; intro W3 hR3 _ hK3 _; have HR3 := Hd hR3; have HB3 := Hd (hK3 _ _ (Nat.le_succ _) HB.out); clear hR3 hK3 HR HB))
  obtain ⟨r0, r1, r2, r3, r4, r5⟩ := HR3.out.c6
  exact bodyPost_ret (v := .tuple #[.agg (List.toArray [.slice none 0 0, .slice none 0 0, .int .i64 0, .int .i64 0, .slice none 0 0, .slice none 0 0]), .bool false]) (by simp [results, Tryz.results13, go_sem, r0, r1, r2, r3, r4, r5]) rfl ⟨rfl, HB3.out⟩
 ·clear hn
  have Hb : Hid (Bx ((w.alloc (.cells (List.toArray [Value.slice p.ab m.br.length p.cb, .slice p.aq p.ts.length p.cq, .slice p.ac m.cf.length p.cc, .slice p.ad m.dn.length p.cd, .int .i64 m.la]) 30)).alloc (.cells (List.toArray [Value.slice none 0 0, .slice none 0 0, .int .i64 0, .int .i64 0, .slice none 0 0, .slice none 0 0]) 44)) w.heap.size (iml m p) ∧ Bx ((w.alloc (.cells (List.toArray [Value.slice p.ab m.br.length p.cb, .slice p.aq p.ts.length p.cq, .slice p.ac m.cf.length p.cc, .slice p.ad m.dn.length p.cd, .int .i64 m.la]) 30)).alloc (.cells (List.toArray [Value.slice none 0 0, .slice none 0 0, .int .i64 0, .int .i64 0, .slice none 0 0, .slice none 0 0]) 44)) (w.heap.size + 1) [.slice none 0 0, .slice none 0 0, .int .i64 0, .int .i64 0, .slice none 0 0, .slice none 0 0] ∧ Below w.heap.size w ((w.alloc (.cells (List.toArray [Value.slice p.ab m.br.length p.cb, .slice p.aq p.ts.length p.cq, .slice p.ac m.cf.length p.cc, .slice p.ad m.dn.length p.cd, .int .i64 m.la]) 30)).alloc (.cells (List.toArray [Value.slice none 0 0, .slice none 0 0, .int .i64 0, .int .i64 0, .slice none 0 0, .slice none 0 0]) 44))) := Hd (Bx.mk2 w (iml m p) [.slice none 0 0, .slice none 0 0, .int .i64 0, .int .i64 0, .slice none 0 0, .slice none 0 0] _ _ (Below.refl _ _))
  unfold imv at *
  go_enter Tryz.func13, Tryz.ntmps13
  go_upto_region 1 with fail
  generalize (w.alloc (.cells (List.toArray [Value.slice p.ab m.br.length p.cb, .slice p.aq p.ts.length p.cq, .slice p.ac m.cf.length p.cc, .slice p.ad m.dn.length p.cd, .int .i64 m.la]) 30)).alloc (.cells (List.toArray [Value.slice none 0 0, .slice none 0 0, .int .i64 0, .int .i64 0, .slice none 0 0, .slice none 0 0]) 44) = X at Hb ⊢
  have HI := Hd Hb.out.1
  have HR := Hd Hb.out.2.1
  have HB := Hd Hb.out.2.2
  clear Hb
  go_upto_region 2 with (first | (refine wpList_load_mid rfl _ _ rfl _ _ rfl _ _ HI.out.c Tryz.underlying30 rfl (by kernel_rfl) ?_) | (go_at_call 9; refine (HT.out _ HB.out).mono ?_; rintro e w1 ⟨rfl, hb1⟩; unfold tpc; dsimp only; replace HI := Hd (HI.out.below hb1); replace HR := Hd (HR.out.below hb1); replace HB := Hd (bt HB.out hb1); clear hb1 HT))
  have HX := Hd (Bx.new w1 [Value.int .i64 t.id, .string ⟨t.nm.toArray⟩, .slice t.a t.ps.length t.c] 38)
  replace HR := Hd (HR.out.below (bA w1 (.cells (List.toArray [Value.int .i64 t.id, .string ⟨t.nm.toArray⟩, .slice t.a t.ps.length t.c]) 38)))
  replace HB := Hd (bt HB.out (bA w1 (.cells (List.toArray [Value.int .i64 t.id, .string ⟨t.nm.toArray⟩, .slice t.a t.ps.length t.c]) 38)))
  clear HI
  generalize w1.alloc (.cells (List.toArray [Value.int .i64 t.id, .string ⟨t.nm.toArray⟩, .slice t.a t.ps.length t.c]) 38) = X2 at HX HR HB ⊢
  generalize w1.heap.size = bT at HX ⊢
  obtain ⟨t0, t1, t2⟩ := HX.out.c3
  go_wp2_with (first | (go_at_call 41; refine (atP_no _ _ _).mono ?_; rintro e w2 ⟨rfl, hb2⟩; replace HR := Hd (HR.out.below hb2); replace HB := Hd (bt HB.out hb2); clear hb2 HX t0 t1 t2) | (refine wS rfl _ _ _ rfl _ _ rfl HR.out [.slice none 0 0, .slice none 0 0, .int .i64 0, .int .i64 0, .slice none 0 0, .slice none 0 0] rfl rfl (by kernel_rfl) rfl ?_; intro W3 hR3 _ hK3 _; have HR3 := Hd hR3; have HB3 := Hd (hK3 _ _ (Nat.le_succ _) HB.out); clear hR3 hK3 HR HB))
  obtain ⟨r0, r1, r2, r3, r4, r5⟩ := HR3.out.c6
  exact bodyPost_ret (v := .tuple #[.agg (List.toArray [.slice none 0 0, .slice none 0 0, .int .i64 0, .int .i64 0, .slice none 0 0, .slice none 0 0]), .bool false]) (by simp [results, Tryz.results13, go_sem, r0, r1, r2, r3, r4, r5]) rfl ⟨rfl, HB3.out⟩
theorem part_yes (m : Im) (p : Ip) (id n : Int) (t : Tq) (is : Bool) (w : World) (hT : ∀ W, Below w.heap.size w W → Calls Tryz.prog 9 #[imv m p, .int .i64 id] W fun e w' => e = .returned (.tuple #[.agg (tpc t).toArray, .bool is]) ∧ Below W.heap.size W w') (ht : TqR w t) (i : Nat) (hi : i < t.ps.length) (hin : n = i) : Calls Tryz.prog 13 #[imv m p, .int .i64 id, .int .i64 n] w fun e w' => e = .returned (.tuple #[.agg (ptc t.ps[i]).toArray, .bool true]) ∧ Below w.heap.size w w' := by
 have HT := Hd hT
 subst hin
 have HA := Hd (fun W (h : Below w.heap.size w W) => atP_yes t.ps t.a _ t.c i W rfl (ht.ps.below h) hi)
 clear hT ht
 have h1 : (i : Int) < (t.ps.length : Int) := by omega
 generalize t.ps[i] = q at *
 unfold ptc at *
 have Hb : Hid (Bx ((w.alloc (.cells (List.toArray [Value.slice p.ab m.br.length p.cb, .slice p.aq p.ts.length p.cq, .slice p.ac m.cf.length p.cc, .slice p.ad m.dn.length p.cd, .int .i64 m.la]) 30)).alloc (.cells (List.toArray [Value.slice none 0 0, .slice none 0 0, .int .i64 0, .int .i64 0, .slice none 0 0, .slice none 0 0]) 44)) w.heap.size (iml m p) ∧ Bx ((w.alloc (.cells (List.toArray [Value.slice p.ab m.br.length p.cb, .slice p.aq p.ts.length p.cq, .slice p.ac m.cf.length p.cc, .slice p.ad m.dn.length p.cd, .int .i64 m.la]) 30)).alloc (.cells (List.toArray [Value.slice none 0 0, .slice none 0 0, .int .i64 0, .int .i64 0, .slice none 0 0, .slice none 0 0]) 44)) (w.heap.size + 1) [.slice none 0 0, .slice none 0 0, .int .i64 0, .int .i64 0, .slice none 0 0, .slice none 0 0] ∧ Below w.heap.size w ((w.alloc (.cells (List.toArray [Value.slice p.ab m.br.length p.cb, .slice p.aq p.ts.length p.cq, .slice p.ac m.cf.length p.cc, .slice p.ad m.dn.length p.cd, .int .i64 m.la]) 30)).alloc (.cells (List.toArray [Value.slice none 0 0, .slice none 0 0, .int .i64 0, .int .i64 0, .slice none 0 0, .slice none 0 0]) 44))) := Hd (Bx.mk2 w (iml m p) [.slice none 0 0, .slice none 0 0, .int .i64 0, .int .i64 0, .slice none 0 0, .slice none 0 0] _ _ (Below.refl _ _))
 unfold imv at *
 go_enter Tryz.func13, Tryz.ntmps13
 go_upto_region 1 with fail
 generalize (w.alloc (.cells (List.toArray [Value.slice p.ab m.br.length p.cb, .slice p.aq p.ts.length p.cq, .slice p.ac m.cf.length p.cc, .slice p.ad m.dn.length p.cd, .int .i64 m.la]) 30)).alloc (.cells (List.toArray [Value.slice none 0 0, .slice none 0 0, .int .i64 0, .int .i64 0, .slice none 0 0, .slice none 0 0]) 44) = X at Hb ⊢
 have HI := Hd Hb.out.1
 have HR := Hd Hb.out.2.1
 have HB := Hd Hb.out.2.2
 clear Hb
 go_upto_region 2 with (first | (refine wpList_load_mid rfl _ _ rfl _ _ rfl _ _ HI.out.c Tryz.underlying30 rfl (by kernel_rfl) ?_) | (go_at_call 9; refine (HT.out _ HB.out).mono ?_; rintro e w1 ⟨rfl, hb1⟩; unfold tpc; dsimp only; replace HI := Hd (HI.out.below hb1); replace HR := Hd (HR.out.below hb1); replace HB := Hd (bt HB.out hb1); clear hb1 HT))
 have HX := Hd (Bx.new w1 [Value.int .i64 t.id, .string ⟨t.nm.toArray⟩, .slice t.a t.ps.length t.c] 38)
 replace HR := Hd (HR.out.below (bA w1 (.cells (List.toArray [Value.int .i64 t.id, .string ⟨t.nm.toArray⟩, .slice t.a t.ps.length t.c]) 38)))
 replace HB := Hd (bt HB.out (bA w1 (.cells (List.toArray [Value.int .i64 t.id, .string ⟨t.nm.toArray⟩, .slice t.a t.ps.length t.c]) 38)))
 clear HI
 generalize w1.alloc (.cells (List.toArray [Value.int .i64 t.id, .string ⟨t.nm.toArray⟩, .slice t.a t.ps.length t.c]) 38) = X2 at HX HR HB ⊢
 generalize w1.heap.size = bT at HX ⊢
 obtain ⟨t0, t1, t2⟩ := HX.out.c3
 go_wp2_with (first | (go_at_call 41; refine (HA.out _ HB.out).mono ?_; rintro e w2 ⟨rfl, hb2⟩; replace HR := Hd (HR.out.below hb2); replace HB := Hd (bt HB.out hb2); clear hb2 HX t0 t1 t2) | (refine wS rfl _ _ _ rfl _ _ rfl HR.out ([.slice q.2.a0 q.1.ids.length q.2.c0, .slice q.2.a1 q.1.isr.length q.2.c1, .int .i64 q.1.ld, .int .i64 q.1.ep, .slice q.2.a2 q.1.ad.length q.2.c2, .slice q.2.a3 q.1.dr.length q.2.c3] : List Value) rfl rfl (by kernel_rfl) rfl ?_; intro W3 hR3 _ hK3 _; have HR3 := Hd hR3; have HB3 := Hd (hK3 _ _ (Nat.le_succ _) HB.out); clear hR3 hK3 HR HB))
 obtain ⟨r0, r1, r2, r3, r4, r5⟩ := HR3.out.c6
 exact bodyPost_ret (v := .tuple #[.agg (List.toArray [.slice q.2.a0 q.1.ids.length q.2.c0, .slice q.2.a1 q.1.isr.length q.2.c1, .int .i64 q.1.ld, .int .i64 q.1.ep, .slice q.2.a2 q.1.ad.length q.2.c2, .slice q.2.a3 q.1.dr.length q.2.c3]), .bool true]) (by simp [results, Tryz.results13, go_sem, r0, r1, r2, r3, r4, r5]) rfl ⟨rfl, HB3.out⟩
def tqOf (p : Ip) (id : Int) : Tq := (p.ts.find? (idQ id)).getD ⟨0, [], [], none, 0⟩
theorem topic_of (m : Im) (p : Ip) (id : Int) (w : World) (hv : ImR w m p) (hw : Wf m 100000) : Calls Tryz.prog 9 #[imv m p, .int .i64 id] w fun e w' => e = .returned (.tuple #[.agg (tpc (tqOf p id)).toArray, .bool (p.ts.find? (idQ id)).isSome]) ∧ Below w.heap.size w w' := by
 unfold tqOf
 cases h : p.ts.find? (idQ id) with
 | none => exact Topic_no m p id w hv hw h
 | some t => exact Topic_yes m p id w hv hw t h
end Go.Proofs.YtlggjgapdpkhiaaGreat
namespace Go.Proofs.YtlggjgapdpkhiaaGreat
open Go.RowKit
set_option maxRecDepth 100000
set_option maxHeartbeats 8000000
theorem find_up {α : Type} {f : α → Bool} {l : List α} {k : Nat} (hk : k < l.length) (h : ∀ j (hj : j < l.length), j < k → f l[j] = false) (hy : f l[k] = true) : l.find? f = some l[k] := by
 rw [List.find?_eq_some_iff_getElem]
 exact ⟨hy, k, hk, rfl, fun j hj => by rw [h j (by omega) hj]; rfl⟩
theorem find_end {α : Type} {f : α → Bool} {l : List α} (h : ∀ j (hj : j < l.length), f l[j] = false) : l.find? f = none := by
 rw [List.find?_eq_none]
 intro x hx
 obtain ⟨j, hj, rfl⟩ := List.getElem_of_mem hx
 simp [h j hj]
def tqNm (p : Ip) (S : List UInt8) : Tq := (p.ts.find? (nmQ S)).getD ⟨0, [], [], none, 0⟩
def cfV : Option Cf → Value
 | some c => .tuple #[.string ⟨c.va.toArray⟩, .bool true]
 | none => .tuple #[.string ⟨#[]⟩, .bool false]
theorem rtopic_any (m : Im) (p : Ip) (id : Int) (w : World) (hv : ImR w m p) (hl : p.ts.length ≤ 100000) : Calls Tryz.prog 10 #[imv m p, .int .i64 id] w fun e w' => e = .returned (.tuple #[.agg (tpc (tqOf p id)).toArray, .bool (p.ts.find? (idQ id)).isSome]) ∧ Below w.heap.size w w' := by
 have HS : Hid (Bx ((w.alloc (.cells (iml m p).toArray 30)).alloc (.cells (List.toArray [Value.int .i64 0, .string ⟨#[]⟩, .slice none 0 0]) 38)) w.heap.size (iml m p) ∧ Bx ((w.alloc (.cells (iml m p).toArray 30)).alloc (.cells (List.toArray [Value.int .i64 0, .string ⟨#[]⟩, .slice none 0 0]) 38)) (w.heap.size + 1) [.int .i64 0, .string ⟨#[]⟩, .slice none 0 0] ∧ Below w.heap.size w ((w.alloc (.cells (iml m p).toArray 30)).alloc (.cells (List.toArray [Value.int .i64 0, .string ⟨#[]⟩, .slice none 0 0]) 38))) := Hd (Bx.mk2 w (iml m p) [.int .i64 0, .string ⟨#[]⟩, .slice none 0 0] 30 38 (Below.refl _ _))
 have HV := Hd (fun W (h : Below w.heap.size w W) => (hv.below h).t)
 clear hv
 obtain ⟨an, han⟩ : ∃ an, an = Value.tuple #[.agg (tpc (tqOf p id)).toArray, .bool (p.ts.find? (idQ id)).isSome] := ⟨_, rfl⟩
 rw [← han]
 unfold tqOf at han
 have HAN : Hid (Value.tuple #[.agg (tpc ((p.ts.find? (idQ id)).getD ⟨0, [], [], none, 0⟩)).toArray, .bool (p.ts.find? (idQ id)).isSome] = an) := Hd han.symm
 clear han
 obtain ⟨ab, aq, ac, ad, cb, cq, cc, cd, ts⟩ := p
 unfold imv
 unfold iml at HS
 replace hl : ts.length ≤ 100000 := hl
 go_enter Tryz.func10, Tryz.ntmps10
 go_upto_region 2 with fail
 (try dsimp only at HS)
 (try dsimp only at HV)
 (try dsimp only at HAN)
 generalize (w.alloc (.cells (List.toArray [Value.slice ab m.br.length cb, .slice aq ts.length cq, .slice ac m.cf.length cc, .slice ad m.dn.length cd, .int .i64 m.la]) 30)).alloc (.cells (List.toArray [Value.int .i64 0, .string ⟨#[]⟩, .slice none 0 0]) 38) = X at HS ⊢
 go_loopw [6] (fun i W => ∃ k : Nat, k ≤ ts.length ∧ i = .int .i64 (k : Int) ∧ W = X ∧ ∀ j (hj : j < ts.length), j < k → (idQ id) ts[j] = false) (fun i _ => ts.length - (ivQ i).toNat)
 case atStart => exact ⟨0, Nat.zero_le _, rfl, rfl, fun j _ h => absurd h (Nat.not_lt_zero j)⟩
 case round =>
  obtain ⟨k, hk, rfl, rfl, hall⟩ := hrel
  have HA := Hd hall
  clear hall
  have i1 := HS.out.1.at 1 _ rfl
  by_cases hlt : k < ts.length
  ·have hltI : (k : Int) < (ts.length : Int) := by omega
   obtain ⟨bb, ob, rfl, hrg⟩ := (HV.out wr HS.out.2.2).rg (show 0 < ts.length by omega)
   have HC := Hd (fm_at encT hrg hlt)
   have HUP := Hd (up_to (f := idQ id) HA.out hlt)
   have HYE := Hd (find_up (f := idQ id) hlt HA.out)
   clear hrg
   generalize ts[k] = t at HC HUP HYE
   unfold tpc at HC
   have c0 : wr.cell? ⟨bb, ob + k * 3, none⟩ = some (.int .i64 t.id) := HC.out 0 _ rfl
   cases hx : t.id == id with
   | true =>
    have HF := Hd (HYE.out hx)
    go_wp2_with (first | (refine wpList_load_mid rfl _ _ rfl _ _ rfl _ _ HC.out Tryz.underlying38 rfl (by kernel_rfl) ?_) | (refine wS rfl _ _ _ rfl _ _ rfl HS.out.2.1 [.int .i64 t.id, .string ⟨t.nm.toArray⟩, .slice t.a t.ps.length t.c] rfl rfl (by kernel_rfl) rfl ?_; intro W3 hR3 _ hK3 _; have HR3 := Hd hR3; have HB3 := Hd (hK3 _ _ (Nat.le_succ _) HS.out.2.2); clear hR3 hK3))
    obtain ⟨r0, r1, r2⟩ := HR3.out.c3
    exact bodyPost_ret (v := .tuple #[.agg (List.toArray [Value.int .i64 t.id, .string ⟨t.nm.toArray⟩, .slice t.a t.ps.length t.c]), .bool true]) (by simp [results, Tryz.results10, go_sem, r0, r1, r2]) rfl ⟨by rw [← HAN.out, HF.out]; rfl, HB3.out⟩
   | false =>
    have HU := Hd (HUP.out hx)
    go_wp2_with fail
    go_roundw
    case rel => exact ⟨k + 1, by omega, by go_num, (by first | rfl | trivial), HU.out⟩
    case measure => simp [ivQ]; omega
  ·obtain rfl : k = ts.length := by omega
   have HF := Hd (find_end (f := idQ id) (fun j hj => HA.out j hj hj))
   go_wp2_with (first | (refine wS rfl _ _ _ rfl _ _ rfl HS.out.2.1 [.int .i64 0, .string ⟨#[]⟩, .slice none 0 0] rfl rfl (by kernel_rfl) rfl ?_; intro W3 hR3 _ hK3 _; have HR3 := Hd hR3; have HB3 := Hd (hK3 _ _ (Nat.le_succ _) HS.out.2.2); clear hR3 hK3))
   obtain ⟨r0, r1, r2⟩ := HR3.out.c3
   exact bodyPost_ret (v := .tuple #[.agg (List.toArray [Value.int .i64 0, .string ⟨#[]⟩, .slice none 0 0]), .bool false]) (by simp [results, Tryz.results10, go_sem, r0, r1, r2]) rfl ⟨by rw [← HAN.out, HF.out]; rfl, HB3.out⟩
theorem rnamed_any (m : Im) (p : Ip) (S : List UInt8) (w : World) (hv : ImR w m p) (hl : p.ts.length ≤ 100000) : Calls Tryz.prog 12 #[imv m p, .string ⟨S.toArray⟩] w fun e w' => e = .returned (.tuple #[.agg (tpc (tqNm p S)).toArray, .bool (p.ts.find? (nmQ S)).isSome]) ∧ Below w.heap.size w w' := by
 have HS : Hid (Bx ((w.alloc (.cells (iml m p).toArray 30)).alloc (.cells (List.toArray [Value.int .i64 0, .string ⟨#[]⟩, .slice none 0 0]) 38)) w.heap.size (iml m p) ∧ Bx ((w.alloc (.cells (iml m p).toArray 30)).alloc (.cells (List.toArray [Value.int .i64 0, .string ⟨#[]⟩, .slice none 0 0]) 38)) (w.heap.size + 1) [.int .i64 0, .string ⟨#[]⟩, .slice none 0 0] ∧ Below w.heap.size w ((w.alloc (.cells (iml m p).toArray 30)).alloc (.cells (List.toArray [Value.int .i64 0, .string ⟨#[]⟩, .slice none 0 0]) 38))) := Hd (Bx.mk2 w (iml m p) [.int .i64 0, .string ⟨#[]⟩, .slice none 0 0] 30 38 (Below.refl _ _))
 have HV := Hd (fun W (h : Below w.heap.size w W) => (hv.below h).t)
 clear hv
 obtain ⟨an, han⟩ : ∃ an, an = Value.tuple #[.agg (tpc (tqNm p S)).toArray, .bool (p.ts.find? (nmQ S)).isSome] := ⟨_, rfl⟩
 rw [← han]
 unfold tqNm at han
 have HAN : Hid (Value.tuple #[.agg (tpc ((p.ts.find? (nmQ S)).getD ⟨0, [], [], none, 0⟩)).toArray, .bool (p.ts.find? (nmQ S)).isSome] = an) := Hd han.symm
 clear han
 obtain ⟨ab, aq, ac, ad, cb, cq, cc, cd, ts⟩ := p
 unfold imv
 unfold iml at HS
 replace hl : ts.length ≤ 100000 := hl
 go_enter Tryz.func12, Tryz.ntmps12
 go_upto_region 2 with fail
 (try dsimp only at HS)
 (try dsimp only at HV)
 (try dsimp only at HAN)
 generalize (w.alloc (.cells (List.toArray [Value.slice ab m.br.length cb, .slice aq ts.length cq, .slice ac m.cf.length cc, .slice ad m.dn.length cd, .int .i64 m.la]) 30)).alloc (.cells (List.toArray [Value.int .i64 0, .string ⟨#[]⟩, .slice none 0 0]) 38) = X at HS ⊢
 go_loopw [6] (fun i W => ∃ k : Nat, k ≤ ts.length ∧ i = .int .i64 (k : Int) ∧ W = X ∧ ∀ j (hj : j < ts.length), j < k → (nmQ S) ts[j] = false) (fun i _ => ts.length - (ivQ i).toNat)
 case atStart => exact ⟨0, Nat.zero_le _, rfl, rfl, fun j _ h => absurd h (Nat.not_lt_zero j)⟩
 case round =>
  obtain ⟨k, hk, rfl, rfl, hall⟩ := hrel
  have HA := Hd hall
  clear hall
  have i1 := HS.out.1.at 1 _ rfl
  by_cases hlt : k < ts.length
  ·have hltI : (k : Int) < (ts.length : Int) := by omega
   obtain ⟨bb, ob, rfl, hrg⟩ := (HV.out wr HS.out.2.2).rg (show 0 < ts.length by omega)
   have HC := Hd (fm_at encT hrg hlt)
   have HUP := Hd (up_to (f := nmQ S) HA.out hlt)
   have HYE := Hd (find_up (f := nmQ S) hlt HA.out)
   clear hrg
   generalize ts[k] = t at HC HUP HYE
   unfold tpc at HC
   have c0 : wr.cell? ⟨bb, ob + k * 3 + 1, none⟩ = some (.string ⟨t.nm.toArray⟩) := HC.out 1 _ rfl
   cases hx : t.nm == S with
   | true =>
    have HF := Hd (HYE.out hx)
    go_wp2_with (first | (refine wpList_load_mid rfl _ _ rfl _ _ rfl _ _ HC.out Tryz.underlying38 rfl (by kernel_rfl) ?_) | (refine wS rfl _ _ _ rfl _ _ rfl HS.out.2.1 [.int .i64 t.id, .string ⟨t.nm.toArray⟩, .slice t.a t.ps.length t.c] rfl rfl (by kernel_rfl) rfl ?_; intro W3 hR3 _ hK3 _; have HR3 := Hd hR3; have HB3 := Hd (hK3 _ _ (Nat.le_succ _) HS.out.2.2); clear hR3 hK3))
    obtain ⟨r0, r1, r2⟩ := HR3.out.c3
    exact bodyPost_ret (v := .tuple #[.agg (List.toArray [Value.int .i64 t.id, .string ⟨t.nm.toArray⟩, .slice t.a t.ps.length t.c]), .bool true]) (by simp [results, Tryz.results12, go_sem, r0, r1, r2]) rfl ⟨by rw [← HAN.out, HF.out]; rfl, HB3.out⟩
   | false =>
    have HU := Hd (HUP.out hx)
    go_wp2_with fail
    go_roundw
    case rel => exact ⟨k + 1, by omega, by go_num, (by first | rfl | trivial), HU.out⟩
    case measure => simp [ivQ]; omega
  ·obtain rfl : k = ts.length := by omega
   have HF := Hd (find_end (f := nmQ S) (fun j hj => HA.out j hj hj))
   go_wp2_with (first | (refine wS rfl _ _ _ rfl _ _ rfl HS.out.2.1 [.int .i64 0, .string ⟨#[]⟩, .slice none 0 0] rfl rfl (by kernel_rfl) rfl ?_; intro W3 hR3 _ hK3 _; have HR3 := Hd hR3; have HB3 := Hd (hK3 _ _ (Nat.le_succ _) HS.out.2.2); clear hR3 hK3))
   obtain ⟨r0, r1, r2⟩ := HR3.out.c3
   exact bodyPost_ret (v := .tuple #[.agg (List.toArray [Value.int .i64 0, .string ⟨#[]⟩, .slice none 0 0]), .bool false]) (by simp [results, Tryz.results12, go_sem, r0, r1, r2]) rfl ⟨by rw [← HAN.out, HF.out]; rfl, HB3.out⟩
theorem rconfig_any (m : Im) (p : Ip) (t : Int) (K : List UInt8) (w : World) (hv : ImR w m p) (hl : m.cf.length ≤ 100000) : Calls Tryz.prog 16 #[imv m p, .int .i64 t, .string ⟨K.toArray⟩] w fun e w' => e = .returned (cfV (fC m.cf t K)) ∧ Below w.heap.size w w' := by
 have HS : Hid (Bx (w.alloc (.cells (iml m p).toArray 30)) w.heap.size (iml m p) ∧ Below w.heap.size w (w.alloc (.cells (iml m p).toArray 30))) := Hd ⟨Bx.new w _ _, bA w _⟩
 have HV := Hd (fun W (h : Below w.heap.size w W) => (hv.below h).c)
 clear hv
 obtain ⟨an, han⟩ : ∃ an, an = cfV (fC m.cf t K) := ⟨_, rfl⟩
 rw [← han]
 have HAN := Hd han.symm
 clear han
 obtain ⟨ab, aq, ac, ad, cb, cq, cc, cd, ts⟩ := p
 unfold imv
 unfold iml at HS
 go_enter Tryz.func16, Tryz.ntmps16
 go_upto_region 2 with fail
 (try dsimp only at HS)
 (try dsimp only at HV)
 generalize w.alloc (.cells (List.toArray [Value.slice ab m.br.length cb, .slice aq ts.length cq, .slice ac m.cf.length cc, .slice ad m.dn.length cd, .int .i64 m.la]) 30) = X at HS ⊢
 go_loopw [8] (fun i W => ∃ k : Nat, k ≤ m.cf.length ∧ i = .int .i64 (k : Int) ∧ W = X ∧ ∀ j (hj : j < m.cf.length), j < k → (idC t K) m.cf[j] = false) (fun i _ => m.cf.length - (ivQ i).toNat)
 case atStart => exact ⟨0, Nat.zero_le _, rfl, rfl, fun j _ h => absurd h (Nat.not_lt_zero j)⟩
 case round =>
  obtain ⟨k, hk, rfl, rfl, hall⟩ := hrel
  have HA := Hd hall
  clear hall
  have i2 := HS.out.1.at 2 _ rfl
  by_cases hlt : k < m.cf.length
  ·have hltI : (k : Int) < (m.cf.length : Int) := by omega
   obtain ⟨bb, ob, rfl, hrg⟩ := (HV.out wr HS.out.2).rg (show 0 < m.cf.length by omega)
   have HC := Hd (fm_at encC hrg hlt)
   have HUP := Hd (up_to (f := idC t K) HA.out hlt)
   have HYE := Hd (find_up (f := idC t K) hlt HA.out)
   clear hrg
   generalize m.cf[k] = x at HC HUP HYE
   unfold cfc at HC
   have c0 : wr.cell? ⟨bb, ob + k * 3, none⟩ = some (.int .i64 x.tp) := HC.out 0 _ rfl
   have c1 : wr.cell? ⟨bb, ob + k * 3 + 1, none⟩ = some (.string ⟨x.ky.toArray⟩) := HC.out 1 _ rfl
   have c2 : wr.cell? ⟨bb, ob + k * 3 + 2, none⟩ = some (.string ⟨x.va.toArray⟩) := HC.out 2 _ rfl
   cases h1 : x.tp == t with
   | false =>
    have HU := Hd (HUP.out (by show (x.tp == t && x.ky == K) = false; rw [h1]; rfl))
    go_wp2_with fail
    go_roundw
    case rel => exact ⟨k + 1, by omega, by go_num, (by first | rfl | trivial), HU.out⟩
    case measure => simp [ivQ]; omega
   | true =>
    cases h2 : x.ky == K with
    | false =>
     have HU := Hd (HUP.out (by show (x.tp == t && x.ky == K) = false; rw [h1, h2]; rfl))
     go_wp2_with fail
     go_roundw
     case rel => exact ⟨k + 1, by omega, by go_num, (by first | rfl | trivial), HU.out⟩
     case measure => simp [ivQ]; omega
    | true =>
     have HF := Hd (HYE.out (by show (x.tp == t && x.ky == K) = true; rw [h1, h2]; rfl))
     go_wp2_with fail
     exact bodyPost_ret (v := .tuple #[.string ⟨x.va.toArray⟩, .bool true]) (by simp [results, Tryz.results16, go_sem]) rfl ⟨by rw [← HAN.out]; show _ = Ending.returned (cfV (List.find? (idC t K) m.cf)); rw [HF.out]; rfl, HS.out.2⟩
  ·obtain rfl : k = m.cf.length := by omega
   have HF := Hd (find_end (f := idC t K) (fun j hj => HA.out j hj hj))
   go_wp2_with fail
   exact bodyPost_ret (v := .tuple #[.string ⟨#[]⟩, .bool false]) (by simp [results, Tryz.results16, go_sem]) rfl ⟨by rw [← HAN.out]; show _ = Ending.returned (cfV (List.find? (idC t K) m.cf)); rw [HF.out]; rfl, HS.out.2⟩
theorem ranswered_any (m : Im) (p : Ip) (c s : Int) (w : World) (hv : ImR w m p) (hl : m.dn.length ≤ 100000) : Calls Tryz.prog 18 #[imv m p, .int .i64 c, .int .i64 s] w fun e w' => e = .returned (ansV (fD m.dn c s)) ∧ Below w.heap.size w w' := by
 have HS : Hid (Bx (w.alloc (.cells (iml m p).toArray 30)) w.heap.size (iml m p) ∧ Below w.heap.size w (w.alloc (.cells (iml m p).toArray 30))) := Hd ⟨Bx.new w _ _, bA w _⟩
 have HV := Hd (fun W (h : Below w.heap.size w W) => (hv.below h).d)
 clear hv
 obtain ⟨an, han⟩ : ∃ an, an = ansV (fD m.dn c s) := ⟨_, rfl⟩
 rw [← han]
 have HAN := Hd han.symm
 clear han
 obtain ⟨ab, aq, ac, ad, cb, cq, cc, cd, ts⟩ := p
 unfold imv
 unfold iml at HS
 go_enter Tryz.func18, Tryz.ntmps18
 go_upto_region 2 with fail
 (try dsimp only at HS)
 (try dsimp only at HV)
 generalize w.alloc (.cells (List.toArray [Value.slice ab m.br.length cb, .slice aq ts.length cq, .slice ac m.cf.length cc, .slice ad m.dn.length cd, .int .i64 m.la]) 30) = X at HS ⊢
 go_loopw [8] (fun i W => ∃ k : Nat, k ≤ m.dn.length ∧ i = .int .i64 (k : Int) ∧ W = X ∧ ∀ j (hj : j < m.dn.length), j < k → (idD c s) m.dn[j] = false) (fun i _ => m.dn.length - (ivQ i).toNat)
 case atStart => exact ⟨0, Nat.zero_le _, rfl, rfl, fun j _ h => absurd h (Nat.not_lt_zero j)⟩
 case round =>
  obtain ⟨k, hk, rfl, rfl, hall⟩ := hrel
  have HA := Hd hall
  clear hall
  have i3 := HS.out.1.at 3 _ rfl
  by_cases hlt : k < m.dn.length
  ·have hltI : (k : Int) < (m.dn.length : Int) := by omega
   obtain ⟨bb, ob, rfl, hrg⟩ := (HV.out wr HS.out.2).rg (show 0 < m.dn.length by omega)
   have HC := Hd (fm_at encD hrg hlt)
   have HUP := Hd (up_to (f := idD c s) HA.out hlt)
   have HYE := Hd (find_up (f := idD c s) hlt HA.out)
   clear hrg
   generalize m.dn[k] = x at HC HUP HYE
   unfold dnc at HC
   have c0 : wr.cell? ⟨bb, ob + k * 3, none⟩ = some (.int .i64 x.cl) := HC.out 0 _ rfl
   have c1 : wr.cell? ⟨bb, ob + k * 3 + 1, none⟩ = some (.int .i64 x.se) := HC.out 1 _ rfl
   have c2 : wr.cell? ⟨bb, ob + k * 3 + 2, none⟩ = some (.int .i64 x.co) := HC.out 2 _ rfl
   cases h1 : x.cl == c with
   | false =>
    have HU := Hd (HUP.out (by show (x.cl == c && x.se == s) = false; rw [h1]; rfl))
    go_wp2_with fail
    go_roundw
    case rel => exact ⟨k + 1, by omega, by go_num, (by first | rfl | trivial), HU.out⟩
    case measure => simp [ivQ]; omega
   | true =>
    cases h2 : x.se == s with
    | false =>
     have HU := Hd (HUP.out (by show (x.cl == c && x.se == s) = false; rw [h1, h2]; rfl))
     go_wp2_with fail
     go_roundw
     case rel => exact ⟨k + 1, by omega, by go_num, (by first | rfl | trivial), HU.out⟩
     case measure => simp [ivQ]; omega
    | true =>
     have HF := Hd (HYE.out (by show (x.cl == c && x.se == s) = true; rw [h1, h2]; rfl))
     go_wp2_with fail
     exact bodyPost_ret (v := .tuple #[.int .i64 x.co, .bool true]) (by simp [results, Tryz.results18, go_sem]) rfl ⟨by rw [← HAN.out]; show _ = Ending.returned (ansV (List.find? (idD c s) m.dn)); rw [HF.out]; rfl, HS.out.2⟩
  ·obtain rfl : k = m.dn.length := by omega
   have HF := Hd (find_end (f := idD c s) (fun j hj => HA.out j hj hj))
   go_wp2_with fail
   exact bodyPost_ret (v := .tuple #[.int .i64 0, .bool false]) (by simp [results, Tryz.results18, go_sem]) rfl ⟨by rw [← HAN.out]; show _ = Ending.returned (ansV (List.find? (idD c s) m.dn)); rw [HF.out]; rfl, HS.out.2⟩
theorem rleads_any (m : Im) (p : Ip) (id : Int) (w : World) (hv : ImR w m p) (hw : Wf m 100000) : Calls Tryz.prog 25 #[imv m p, .int .i64 id] w fun e w' => e = .returned (.bool (leads m.ts id)) ∧ Below w.heap.size w w' := by
 have HS : Hid (Bx (w.alloc (.cells (iml m p).toArray 30)) w.heap.size (iml m p) ∧ Below w.heap.size w (w.alloc (.cells (iml m p).toArray 30))) := Hd ⟨Bx.new w _ _, bA w _⟩
 have HX := Hd (fun W (h : Below w.heap.size w W) => hv.below h)
 have hl : p.ts.length ≤ 100000 := by rw [hv.len]; exact hw.nt
 have HNP := Hd (fun (t : Tq) (h : t ∈ p.ts) => hv.np hw h)
 have HWP := Hd (fun (t : Tq) (h : t ∈ p.ts) (q : Pp) (hq : q ∈ t.ps) => hv.wp hw h hq)
 obtain ⟨an, han⟩ : ∃ an, an = leads m.ts id := ⟨_, rfl⟩
 rw [← han]
 have HAN : Hid ((p.ts.any fun t => t.ps.any fun q => q.1.ld == id) = an) := Hd (by
  rw [han]
  unfold leads
  rw [← hv.e, List.any_map]
  congr 1
  funext t
  simp only [Function.comp, Tq.tp, List.any_map]
  rfl)
 clear han hv hw
 obtain ⟨ab, aq, ac, ad, cb, cq, cc, cd, ts⟩ := p
 unfold imv
 unfold iml at HS
 replace hl : ts.length ≤ 100000 := hl
 go_enter Tryz.func25, Tryz.ntmps25
 go_upto_region 2 with fail
 (try dsimp only at HS)
 (try dsimp only at HAN)
 generalize w.alloc (.cells (List.toArray [Value.slice ab m.br.length cb, .slice aq ts.length cq, .slice ac m.cf.length cc, .slice ad m.dn.length cd, .int .i64 m.la]) 30) = X at HS ⊢
 go_loopw [5] (fun i W => ∃ a : Nat, a ≤ ts.length ∧ i = .int .i64 (a : Int) ∧ W = X ∧ ∀ j (hj : j < ts.length), j < a → (fun t : Tq => t.ps.any fun q => q.1.ld == id) ts[j] = false) (fun i _ => ts.length - (ivQ i).toNat)
 case atStart => exact ⟨0, Nat.zero_le _, rfl, rfl, fun j _ h => absurd h (Nat.not_lt_zero j)⟩
 case round =>
  obtain ⟨a, ha, rfl, rfl, hall⟩ := hrel
  have HA := Hd hall
  clear hall
  have i1 := HS.out.1.at 1 _ rfl
  by_cases hlt : a < ts.length
  ·have hltI : (a : Int) < (ts.length : Int) := by omega
   have HI := Hd (HX.out wr HS.out.2)
   obtain ⟨bq, oq, rfl, hrq⟩ := HI.out.t.rg (show 0 < ts.length by omega)
   have HT := Hd (fm_at encT hrq hlt)
   have hmem := List.getElem_mem hlt
   have HTQ := Hd (HI.out.q _ hmem)
   have hpn := HNP.out _ hmem
   have HWQ := Hd (HWP.out _ hmem)
   have HUP := Hd (up_to (f := fun t : Tq => t.ps.any fun q => q.1.ld == id) HA.out hlt)
   have HYE := Hd (any_yes (f := fun t : Tq => t.ps.any fun q => q.1.ld == id) hlt)
   clear hrq hmem HI
   generalize ts[a] = t at HT HTQ hpn HWQ HUP HYE
   obtain ⟨tid, tnm, ps, ta, tc⟩ := t
   dsimp only at *
   unfold tpc at HT
   dsimp only at HT
   have t2 : wr.cell? ⟨bq, oq + a * 3 + 2, none⟩ = some (.slice ta ps.length tc) := HT.out 2 _ rfl
   go_upto_region 5 with fail
   obtain ⟨Y, hY⟩ : ∃ Y, Y = wr := ⟨_, rfl⟩
   have HYW := Hd hY
   clear hY
   go_loopw [6] (fun i W => ∃ b : Nat, b ≤ ps.length ∧ i = .int .i64 (b : Int) ∧ W = Y ∧ ∀ j (hj : j < ps.length), j < b → (fun q => q.1.ld == id) ps[j] = false) (fun i _ => ps.length - (ivQ i).toNat)
   case atStart => exact ⟨0, Nat.zero_le _, rfl, HYW.out.symm, fun j _ h => absurd h (Nat.not_lt_zero j)⟩
   case round =>
    clear HA
    obtain ⟨b, hb, rfl, hw, hall⟩ := hrel
    obtain rfl := hw.trans HYW.out
    have HA := Hd hall
    clear hall hw
    by_cases hlb : b < ps.length
    ·have hlbI : (b : Int) < (ps.length : Int) := by omega
     obtain ⟨bp, op, rfl, hrp⟩ := HTQ.out.ps.rg (show 0 < ps.length by omega)
     have HP := Hd (fm_at encP hrp hlb)
     have hpm := List.getElem_mem hlb
     have HPT := Hd (HTQ.out.pt _ hpm)
     have HPW := Hd (HWQ.out _ hpm)
     have HU2 := Hd (up_to (f := (fun q => q.1.ld == id)) HA.out hlb)
     have HY2 := Hd (any_yes (f := (fun q => q.1.ld == id)) hlb)
     clear hrp hpm
     generalize ps[b] = q at HP HPT HPW HU2 HY2
     unfold ptc at HP
     have c2 : wr.cell? ⟨bp, op + b * 6 + 2, none⟩ = some (.int .i64 q.1.ld) := HP.out 2 _ rfl
     cases hx : q.1.ld == id with
     | true =>
      have HT2 := Hd (HYE.out (HY2.out hx))
      go_wp2_with fail
      go_ret
      exact ⟨by rw [← HAN.out]; show _ = Ending.returned (Value.bool (List.any ts _)); rw [HT2.out]; rfl, HS.out.2⟩
     | false =>
      have HU3 := Hd (HU2.out hx)
      go_wp2_with fail
      go_roundw
      case rel => exact ⟨b + 1, by omega, by go_num, (by first | rfl | exact HYW.out.symm | trivial), HU3.out⟩
      case measure => simp [ivQ]; omega
    ·obtain rfl : b = ps.length := by omega
     have HU3 := Hd (HUP.out (any_no (f := (fun q => q.1.ld == id)) (fun j hj => HA.out j hj hj)))
     go_wp2_with fail
     go_roundw
     case rel => exact ⟨a + 1, by omega, by go_num, (by first | rfl | trivial), HU3.out⟩
     case measure => simp [ivQ]; omega
  ·obtain rfl : a = ts.length := by omega
   have HF := Hd (any_no (f := fun t : Tq => t.ps.any fun q => q.1.ld == id) (fun j hj => HA.out j hj hj))
   go_wp2_with fail
   go_ret
   exact ⟨by rw [← HAN.out]; show _ = Ending.returned (Value.bool (List.any ts _)); rw [HF.out]; rfl, HS.out.2⟩
theorem rused_any (m : Im) (p : Ip) (id : Int) (w : World) (hv : ImR w m p) (hw : Wf m 100000) : Calls Tryz.prog 107 #[imv m p, .int .i64 id] w fun e w' => e = .returned (.bool (used m.ts id)) ∧ Below w.heap.size w w' := by
 have HS : Hid (Bx (w.alloc (.cells (iml m p).toArray 30)) w.heap.size (iml m p) ∧ Below w.heap.size w (w.alloc (.cells (iml m p).toArray 30))) := Hd ⟨Bx.new w _ _, bA w _⟩
 have HX := Hd (fun W (h : Below w.heap.size w W) => hv.below h)
 have hl : p.ts.length ≤ 100000 := by rw [hv.len]; exact hw.nt
 have HNP := Hd (fun (t : Tq) (h : t ∈ p.ts) => hv.np hw h)
 have HWP := Hd (fun (t : Tq) (h : t ∈ p.ts) (q : Pp) (hq : q ∈ t.ps) => hv.wp hw h hq)
 obtain ⟨an, han⟩ : ∃ an, an = used m.ts id := ⟨_, rfl⟩
 rw [← han]
 have HAN : Hid ((p.ts.any fun t => t.ps.any fun q => q.1.ids.contains id) = an) := Hd (by
  rw [han]
  unfold used
  rw [← hv.e, List.any_map]
  congr 1
  funext t
  simp only [Function.comp, Tq.tp, List.any_map]
  rfl)
 clear han hv hw
 obtain ⟨ab, aq, ac, ad, cb, cq, cc, cd, ts⟩ := p
 unfold imv
 unfold iml at HS
 replace hl : ts.length ≤ 100000 := hl
 go_enter Tryz.func107, Tryz.ntmps107
 go_upto_region 2 with fail
 (try dsimp only at HS)
 (try dsimp only at HAN)
 generalize w.alloc (.cells (List.toArray [Value.slice ab m.br.length cb, .slice aq ts.length cq, .slice ac m.cf.length cc, .slice ad m.dn.length cd, .int .i64 m.la]) 30) = X at HS ⊢
 go_loopw [5] (fun i W => ∃ a : Nat, a ≤ ts.length ∧ i = .int .i64 (a : Int) ∧ W = X ∧ ∀ j (hj : j < ts.length), j < a → (fun t : Tq => t.ps.any fun q => q.1.ids.contains id) ts[j] = false) (fun i _ => ts.length - (ivQ i).toNat)
 case atStart => exact ⟨0, Nat.zero_le _, rfl, rfl, fun j _ h => absurd h (Nat.not_lt_zero j)⟩
 case round =>
  obtain ⟨a, ha, rfl, rfl, hall⟩ := hrel
  have HA := Hd hall
  clear hall
  have i1 := HS.out.1.at 1 _ rfl
  by_cases hlt : a < ts.length
  ·have hltI : (a : Int) < (ts.length : Int) := by omega
   have HI := Hd (HX.out wr HS.out.2)
   obtain ⟨bq, oq, rfl, hrq⟩ := HI.out.t.rg (show 0 < ts.length by omega)
   have HT := Hd (fm_at encT hrq hlt)
   have hmem := List.getElem_mem hlt
   have HTQ := Hd (HI.out.q _ hmem)
   have hpn := HNP.out _ hmem
   have HWQ := Hd (HWP.out _ hmem)
   have HUP := Hd (up_to (f := fun t : Tq => t.ps.any fun q => q.1.ids.contains id) HA.out hlt)
   have HYE := Hd (any_yes (f := fun t : Tq => t.ps.any fun q => q.1.ids.contains id) hlt)
   clear hrq hmem HI
   generalize ts[a] = t at HT HTQ hpn HWQ HUP HYE
   obtain ⟨tid, tnm, ps, ta, tc⟩ := t
   dsimp only at *
   unfold tpc at HT
   dsimp only at HT
   have t2 : wr.cell? ⟨bq, oq + a * 3 + 2, none⟩ = some (.slice ta ps.length tc) := HT.out 2 _ rfl
   go_upto_region 5 with fail
   obtain ⟨Y, hY⟩ : ∃ Y, Y = wr := ⟨_, rfl⟩
   have HYW := Hd hY
   clear hY
   go_loopw [6] (fun i W => ∃ b : Nat, b ≤ ps.length ∧ i = .int .i64 (b : Int) ∧ W = Y ∧ ∀ j (hj : j < ps.length), j < b → (fun q => q.1.ids.contains id) ps[j] = false) (fun i _ => ps.length - (ivQ i).toNat)
   case atStart => exact ⟨0, Nat.zero_le _, rfl, HYW.out.symm, fun j _ h => absurd h (Nat.not_lt_zero j)⟩
   case round =>
    clear HA
    obtain ⟨b, hb, rfl, hw, hall⟩ := hrel
    obtain rfl := hw.trans HYW.out
    have HA := Hd hall
    clear hall hw
    by_cases hlb : b < ps.length
    ·have hlbI : (b : Int) < (ps.length : Int) := by omega
     obtain ⟨bp, op, rfl, hrp⟩ := HTQ.out.ps.rg (show 0 < ps.length by omega)
     have HP := Hd (fm_at encP hrp hlb)
     have hpm := List.getElem_mem hlb
     have HPT := Hd (HTQ.out.pt _ hpm)
     have HPW := Hd (HWQ.out _ hpm)
     have HU2 := Hd (up_to (f := (fun q => q.1.ids.contains id)) HA.out hlb)
     have HY2 := Hd (any_yes (f := (fun q => q.1.ids.contains id)) hlb)
     clear hrp hpm
     generalize ps[b] = q at HP HPT HPW HU2 HY2
     unfold ptc at HP
     have c0 : wr.cell? ⟨bp, op + b * 6, none⟩ = some (.slice q.2.a0 q.1.ids.length q.2.c0) := HP.out 0 _ rfl
     have HHS := Hd (rhas_any _ q.1.ids id wr HPT.out.s0 (Nat.le_trans HPW.out.l0 (by decide)))
     cases hx : q.1.ids.contains id with
     | true =>
      rw [hx] at HHS
      have HT2 := Hd (HYE.out (HY2.out hx))
      go_wp2_with (first | (go_at_call 135; refine HHS.out.mono ?_; rintro e wz ⟨rfl, hwz⟩; rw [hwz]; clear hwz wz))
      go_ret
      exact ⟨by rw [← HAN.out]; show _ = Ending.returned (Value.bool (List.any ts _)); rw [HT2.out]; rfl, HS.out.2⟩
     | false =>
      rw [hx] at HHS
      have HU3 := Hd (HU2.out hx)
      go_wp2_with (first | (go_at_call 135; refine HHS.out.mono ?_; rintro e wz ⟨rfl, hwz⟩; rw [hwz]; clear hwz wz))
      go_roundw
      case rel => exact ⟨b + 1, by omega, by go_num, (by first | rfl | exact HYW.out.symm | trivial), HU3.out⟩
      case measure => simp [ivQ]; omega
    ·obtain rfl : b = ps.length := by omega
     have HU3 := Hd (HUP.out (any_no (f := (fun q => q.1.ids.contains id)) (fun j hj => HA.out j hj hj)))
     go_wp2_with fail
     go_roundw
     case rel => exact ⟨a + 1, by omega, by go_num, (by first | rfl | trivial), HU3.out⟩
     case measure => simp [ivQ]; omega
  ·obtain rfl : a = ts.length := by omega
   have HF := Hd (any_no (f := fun t : Tq => t.ps.any fun q => q.1.ids.contains id) (fun j hj => HA.out j hj hj))
   go_wp2_with fail
   go_ret
   exact ⟨by rw [← HAN.out]; show _ = Ending.returned (Value.bool (List.any ts _)); rw [HF.out]; rfl, HS.out.2⟩
end Go.Proofs.YtlggjgapdpkhiaaGreat
namespace Go.Proofs.YtlggjgapdpkhiaaGreat
open Go.RowKit
set_option maxRecDepth 100000
set_option maxHeartbeats 8000000
theorem growC_any (n : Nat) (w : World) (hn : n ≤ 1000000) : Calls Tryz.prog 158 #[.slice none 0 0, .int .i64 (n : Int)] w fun e w' => ∃ v, e = .returned v ∧ Ro cfc 3 78 w' w.heap.size v [] ∧ Below w.heap.size w w' := by
 have h2 : wrap64 ((0 : Int) - 0) = 0 := by unfold wrap64; omega
 have h1 : ¬ ((n : Int) < 0) := by omega
 rcases Nat.eq_zero_or_pos n with h0 | h0
 ·subst h0
  clear hn h1
  go_enter Tryz.func158, Tryz.ntmps158
  go_wp2_with fail
  go_ret
  exact ⟨_, rfl, ro_nil _ _ _ _ _, Below.refl _ _⟩
 ·have h3 : wrap64 ((n : Int) - 0) = (n : Int) := by unfold wrap64; omega
  have h4 : (n : Int) > 0 := by omega
  have hz := fun ty => grow_zeros (I := 3) tyiC (by decide) Tryz.underlying3 w n h0 hn ty
  obtain ⟨G, c, hG, hnG, hm, hc⟩ := hz 27
  have HU := Hd (fun W => upto_run tyiC (some ⟨w.heap.size, 0, none⟩) n G 0 (Nat.zero_le _) hnG W)
  have HG := Hd hG
  have HR := Hd (ro_room cfc 3 78 w G c hm hc)
  clear hz hG hm hc
  go_enter Tryz.func158, Tryz.ntmps158
  go_wp2_with (at_builtin; refine Lib.wpList_append_run _ rfl _ _ _ _ rfl _ _ rfl rfl _ _ HG.out ?_)
  all_goals
   go_ret
   exact ⟨_, rfl, HR.out, below_dal _ _⟩
theorem concC_3 (v1 v2 v3 : Value) (l1 l2 l3 : List Cf) (B : Nat) (w : World) (hB : Bx w B [v1, v2, v3]) (h1 : Rs cfc w v1 l1) (h2 : Rs cfc w v2 l2) (h3 : Rs cfc w v3 l3) (hl1 : l1.length ≤ 200000) (hl2 : l2.length ≤ 200000) (hl3 : l3.length ≤ 200000) :
  Calls Tryz.prog 148 #[.slice (some ⟨B, 0, none⟩) 3 3] w fun e w' => ∃ v, e = .returned v ∧ Ro cfc 3 78 w' w.heap.size v (l1 ++ l2 ++ l3) ∧ Below w.heap.size w w' := by
 have HG := Hd (fun n hn => growC_any n w hn)
 obtain ⟨a1, c1, rfl⟩ := h1.form
 obtain ⟨a2, c2, rfl⟩ := h2.form
 obtain ⟨a3, c3, rfl⟩ := h3.form
 have HB := Hd (fun W (h : Below w.heap.size w W) => (hB.below h).c3)
 have H1 := Hd (fun W (h : Below w.heap.size w W) => h1.below h)
 have H2 := Hd (fun W (h : Below w.heap.size w W) => h2.below h)
 have H3 := Hd (fun W (h : Below w.heap.size w W) => h3.below h)
 obtain ⟨b0, b1, b2⟩ := hB.c3
 have hbl := hB.l
 clear h1 h2 h3 hB
 go_enter Tryz.func148, Tryz.ntmps148
 go_wp2_with fail
 refine wp_loop_rounds 4 ?_
 rw [rounds_succ]
 go_wp2_with fail
 rw [rounds_succ]
 go_wp2_with fail
 rw [rounds_succ]
 go_wp2_with fail
 rw [rounds_succ]
 have HN : Hid (((l1.length : Int) + l2.length + l3.length) = ((l1.length + l2.length + l3.length : Nat) : Int)) := Hd (by omega)
 have HK : Hid (l1.length + l2.length + l3.length ≤ 1000000) := Hd (by omega)
 go_wp2_with (go_at_call 158; first | rw [HN.out] | skip; refine (HG.out _ HK.out).mono ?_; rintro e w1 ⟨v, rfl, hr, hb⟩; obtain ⟨d0, d1, d2⟩ := HB.out _ hb; have HR := Hd hr; have HBl := Hd hb; clear hr hb HG b0 b1 b2)
 refine wp_loop_rounds 4 ?_
 rw [rounds_succ]
 go_wp2_with (at_builtin; refine wR tyiC encC _ rfl _ _ rfl w.heap.size _ [] rfl HR.out HBl.out.size _ l1 rfl (H1.out _ HBl.out) (by rw [List.length_nil]; omega) ?_; intro v1 w2 hr _ hb; rw [List.nil_append] at hr; obtain ⟨d0, d1, d2⟩ := HB.out _ (HBl.out.trans hb); replace HR := Hd hr; replace HBl := Hd (HBl.out.trans hb); clear hr hb)
 rw [rounds_succ]
 go_wp2_with (at_builtin; refine wR tyiC encC _ rfl _ _ rfl w.heap.size _ l1 rfl HR.out HBl.out.size _ l2 rfl (H2.out _ HBl.out) (by omega) ?_; intro v2 w3 hr _ hb; obtain ⟨d0, d1, d2⟩ := HB.out _ (HBl.out.trans hb); replace HR := Hd hr; replace HBl := Hd (HBl.out.trans hb); clear hr hb)
 rw [rounds_succ]
 go_wp2_with (at_builtin; refine wR tyiC encC _ rfl _ _ rfl w.heap.size _ (l1 ++ l2) rfl HR.out HBl.out.size _ l3 rfl (H3.out _ HBl.out) (by rw [List.length_append]; omega) ?_; intro v3 w4 hr _ hb; obtain ⟨d0, d1, d2⟩ := HB.out _ (HBl.out.trans hb); replace HR := Hd hr; replace HBl := Hd (HBl.out.trans hb); clear hr hb)
 rw [rounds_succ]
 go_wp2_with fail
 go_ret
 exact ⟨_, rfl, HR.out, HBl.out⟩
end Go.Proofs.YtlggjgapdpkhiaaGreat
namespace Go.Proofs.YtlggjgapdpkhiaaGreat
open Go.RowKit
theorem infoC : (Tryz.prog.info? 78).map (fun i => (i.zero, i.size, i.bytes)) = some (some (.agg #[.int .i64 0, .string ⟨#[]⟩, .string ⟨#[]⟩]), 3, 40) := by kernel_rfl
theorem run_clearC (w : World) (ty : TypeId) (g o n cap : Nat) (ht : w.there g o (n * 3)) : ∃ vs : List Value, vs.length = n * 3 ∧ (Builtin.clear_ #[27] ty #[.slice (some ⟨g, o, none⟩) n cap]).run Tryz.prog w = .ok (.tuple #[]) (w.setCells g o vs) := by
 obtain ⟨i0, hi, hz0, hz1, hz2⟩ := info_parts infoC
 have hu := Tryz.underlying27
 rcases Nat.eq_zero_or_pos n with h0 | h0
 ·subst h0
  exact ⟨[], by simp, by simp [Builtin.clear_, run_underlying hu, go_sem, World.setCells]⟩
 ·obtain ⟨m, rfl⟩ : ∃ m, n = m + 1 := ⟨n - 1, by omega⟩
  obtain ⟨vs, hvs⟩ : ∃ vs, vs = (Builtin.zeroCells (Value.agg #[.int .i64 0, .string ⟨#[]⟩, .string ⟨#[]⟩]).cells (m + 1)).toList := ⟨_, rfl⟩
  have hl : vs.length = (m + 1) * 3 := by rw [hvs]; simp [Builtin.zeroCells, Value.cells]
  have hone : ∀ v ∈ vs, v.oneCell' = true := by
   intro v hv
   rw [hvs] at hv
   simp only [Builtin.zeroCells, Array.toList_map, List.mem_map] at hv
   obtain ⟨i, _, rfl⟩ := hv
   have h3 : i % 3 = 0 ∨ i % 3 = 1 ∨ i % 3 = 2 := by omega
   show (#[Value.int .i64 0, .string ⟨#[]⟩, .string ⟨#[]⟩][i % 3]!).oneCell' = true
   rcases h3 with e | e | e <;> rw [e] <;> rfl
  have hst := run_storeCells_cells (P := Tryz.prog) g o vs 0 w (fun j hj => (ht j (by omega)).1) (fun j hj => (ht j (by omega)).2) hone
  simp only [Nat.add_zero] at hst
  refine ⟨vs, hl, ?_⟩
  have hz : ∀ W, (zeroValue 78).run Tryz.prog W = .ok (.agg #[.int .i64 0, .string ⟨#[]⟩, .string ⟨#[]⟩]) W := fun W => by simp [zeroValue, typeInfo, hi, hz0]
  simp [Builtin.clear_, run_underlying hu, hz, ← hvs, hst]
structure Dl (W : World) (B g C : Nat) (t : Int) (l : List Cf) (i j : Nat) : Prop where
 lo : W.rangeAt g 0 (((l.take j).filter fun x => !(x.tp == t)).flatMap cfc)
 hi : W.rangeAt g (j * 3) ((l.drop j).flatMap cfc)
 th : W.there g 0 (l.length * 3)
 n : i = ((l.take j).filter fun x => !(x.tp == t)).length
 lt : i < j
 le : j ≤ l.length
 c : W.cell? ⟨C, 3, none⟩ = some (.int .i64 t)
 nc : ¬ C = g
theorem Dl.below {W W' : World} {B g C : Nat} {t : Int} {l : List Cf} {i j : Nat} (h : Dl W B g C t l i j) (hg : g < W.heap.size) (hb : Below W.heap.size W W') : Dl W' B g C t l i j :=
 ⟨rg_bel h.lo hb, rg_bel h.hi hb, fun k hk => by
  have := h.th k hk
  rw [hb.cell (p := ⟨g, 0 + k, none⟩) hg, hb.frozen (p := ⟨g, 0 + k, none⟩) hg]
  exact this, h.n, h.lt, h.le, (hb.cell (p := ⟨C, 3, none⟩) (cB h.c)).trans h.c, h.nc⟩
theorem Dl.skip {W : World} {B g C : Nat} {t : Int} {l : List Cf} {i j : Nat} (h : Dl W B g C t l i j) (hj : j < l.length) (hx : (l[j].tp == t) = true) : Dl W B g C t l i (j + 1) := by
 have e : ((l.take (j + 1)).filter fun x => !(x.tp == t)) = (l.take j).filter fun x => !(x.tp == t) := by
  rw [List.take_succ_eq_append_getElem hj, List.filter_append, List.filter_cons, if_neg (by rw [hx]; decide)]; simp
 have hh := h.hi
 rw [List.drop_eq_getElem_cons hj, List.flatMap_cons] at hh
 have h2 := (rg_app hh).2
 exact ⟨by rw [e]; exact h.lo, by rw [Nat.succ_mul]; exact h2, h.th, by rw [e]; exact h.n, by have := h.lt; omega, hj, h.c, h.nc⟩
theorem Dl.keep {W : World} {B g C : Nat} {t : Int} {l : List Cf} {i j : Nat} (h : Dl W B g C t l i j) (hj : j < l.length) (hx : (l[j].tp == t) = false) : Dl (W.setCells g (i * 3) (cfc l[j])) B g C t l (i + 1) (j + 1) := by
 have e : ((l.take (j + 1)).filter fun x => !(x.tp == t)) = ((l.take j).filter fun x => !(x.tp == t)) ++ [l[j]] := by
  rw [List.take_succ_eq_append_getElem hj, List.filter_append, List.filter_cons, if_pos (by rw [hx]; rfl)]; simp
 have hh := h.hi
 rw [List.drop_eq_getElem_cons hj, List.flatMap_cons] at hh
 have h2 := (rg_app hh).2
 have hlt := h.lt
 have hle := h.le
 have hln : (((l.take j).filter fun x => !(x.tp == t)).flatMap cfc).length = i * 3 := by rw [fm_len encC, ← h.n]
 have hth : W.there g (i * 3) (cfc l[j]).length := fun k hk => by
  have h3 : (cfc l[j]).length = 3 := rfl
  have := h.th (i * 3 + k) (by have : i * 3 + 3 ≤ l.length * 3 := by omega
                               omega)
  rwa [Nat.zero_add] at this
 refine ⟨?_, ?_, World.there_setCells h.th g _ _, by rw [e, List.length_append, ← h.n]; rfl, by omega, hj, by rw [World.cell?_setCells_out _ _ _ _ _ (fun q _ => absurd q h.nc)]; exact h.c, h.nc⟩
 ·rw [e, List.flatMap_append, List.flatMap_cons, List.flatMap_nil, List.append_nil]
  intro q u hu
  rcases Nat.lt_or_ge q (i * 3) with hq | hq
  ·rw [List.getElem?_append_left (by omega)] at hu
   have := World.rangeAt_setCells_apart h.lo g (i * 3) (cfc l[j]) (.inr (.inl (by omega)))
   exact this q u hu
  ·rw [List.getElem?_append_right (by omega), hln] at hu
   have := World.rangeAt_setCells_same W g (i * 3) (cfc l[j]) hth (q - i * 3) u hu
   rwa [show i * 3 + (q - i * 3) = 0 + q by omega] at this
 ·have h3 : (cfc l[j]).length = 3 := rfl
  have := World.rangeAt_setCells_apart h2 g (i * 3) (cfc l[j]) (.inr (.inr (by rw [h3]; omega)))
  rwa [h3, show j * 3 + 3 = (j + 1) * 3 by omega] at this
theorem bel_sets {B : Nat} {w W : World} {g o : Nat} {vs : List Value} (h : Below B w W) (hg : B ≤ g) : Below B w (W.setCells g o vs) := below_sets hg vs o W h
theorem wpList_put {P : Program} {ops : Array Oper} {rest : List Oper} {op : Oper} {a : Act} {w : World} {Q : Exit → Act → World → Prop} (hgd : op.guard = none) (ty : TypeId) (x y : Operand) (ho : op.op = .store ty x y)
  (g o : Nat) (hx : a.eval x = .pointer (some ⟨g, o, none⟩)) (ds : List Value) (hy : a.eval y = .agg ds.toArray) (ht : w.there g o ds.length) (hi : (P.info? ty).map (·.size) = some ds.length) (h1 : ds.all (·.oneCell') = true)
  (h : ∀ W, W = w.setCells g o ds → wpList P ops Q rest (a.put op.dst undef) W) : wpList P ops Q (op :: rest) a w :=
 wpList_store_mid hgd ty x y ho g o ds.toArray hx hy (by simpa using ht) (by rw [hi]; simp) (all_oneCell_toArray (List.all_eq_true.1 h1)) (by
  rw [List.toList_toArray]
  exact h _ rfl)
theorem Dl.there {W : World} {B g C : Nat} {t : Int} {l : List Cf} {i j : Nat} (h : Dl W B g C t l i j) (hj : j < l.length) : W.there g (i * 3) 3 := fun k hk => by
 have := h.lt
 have h1 := h.th (i * 3 + k) (by omega)
 rwa [Nat.zero_add] at h1
theorem IxP.first {α : Type} {p : α → Bool} {l : List α} {w w' : World} {e : Ending} (h : IxP p l w w' e) {y : α} (hn : l.find? p = some y) : ∃ (k : Nat) (hk : k < l.length), p l[k] = true ∧ (∀ j (h : j < l.length), j < k → p l[j] = false) ∧ e = .returned (.int .i64 (k : Int)) ∧ Below w.heap.size w w' := by
 obtain ⟨⟨k, hk, hp, hj, rfl⟩ | ⟨hn', rfl⟩, hb⟩ := h
 ·exact ⟨k, hk, hp, hj, rfl, hb⟩
 ·obtain ⟨h1, h2⟩ := List.find?_eq_some_iff_append.1 hn
  exact absurd h1 (by rw [hn' y (List.mem_of_find?_eq_some hn)]; simp)
theorem Dl.start {W : World} {B g C : Nat} {t : Int} {l : List Cf} {k : Nat} (hr : W.rangeAt g 0 (l.flatMap cfc)) (hth : W.there g 0 (l.length * 3)) (hC : W.cell? ⟨C, 3, none⟩ = some (.int .i64 t)) (hcg : ¬ C = g) (hk : k < l.length) (hp : (l[k].tp == t) = true) (hj : ∀ j (h : j < l.length), j < k → (l[j].tp == t) = false) : Dl W B g C t l k (k + 1) := by
 have e : ((l.take (k + 1)).filter fun x => !(x.tp == t)) = l.take k := by
  rw [List.take_succ_eq_append_getElem hk, List.filter_append, List.filter_cons, if_neg (by rw [hp]; decide), List.filter_nil, List.append_nil]
  refine List.filter_eq_self.2 fun x hx => ?_
  obtain ⟨j, hj1, rfl⟩ := List.getElem_of_mem hx
  rw [List.length_take] at hj1
  rw [List.getElem_take, hj j (by omega) (by omega)]
  rfl
 have h1 : l.flatMap cfc = (l.take k).flatMap cfc ++ (l.drop k).flatMap cfc := by rw [← List.flatMap_append, List.take_append_drop]
 have h2 : l.flatMap cfc = (l.take (k + 1)).flatMap cfc ++ (l.drop (k + 1)).flatMap cfc := by rw [← List.flatMap_append, List.take_append_drop]
 refine ⟨by rw [e]; rw [h1] at hr; exact (rg_app hr).1, ?_, hth, by rw [e, List.length_take]; omega, Nat.lt_succ_self _, hk, hC, hcg⟩
 rw [h2] at hr
 have := (rg_app hr).2
 rwa [fm_len encC, List.length_take, Nat.min_eq_left (by omega), Nat.zero_add] at this
set_option maxRecDepth 100000 in
set_option maxHeartbeats 8000000 in
theorem delf_any (l : List Cf) (g cap B C : Nat) (t : Int) (w : World) (hr : w.rangeAt g 0 (l.flatMap cfc)) (hth : w.there g 0 (l.length * 3)) (hcap : l.length ≤ cap) (hg : B ≤ g) (hgl : g < w.heap.size) (hB : B ≤ w.heap.size) (hC : w.cell? ⟨C, 3, none⟩ = some (.int .i64 t)) (hcg : ¬ C = g) (hl : l.length ≤ 100000) :
  Calls Tryz.prog 129 #[.slice (some ⟨g, 0, none⟩) l.length cap, .func (.func 130) #[] #[.pointer (some ⟨C, 0, none⟩)]] w fun e w' => ∃ n, e = .returned (.slice (some ⟨g, 0, none⟩) n cap) ∧ Rs cfc w' (.slice (some ⟨g, 0, none⟩) n cap) (l.filter fun x => !(x.tp == t)) ∧ Below B w w' := by
 have HCL := Hd (fun W (x : Cf) (h : W.cell? ⟨C, 3, none⟩ = some (.int .i64 t)) => cDrp_any x t C W h)
 have HIX := Hd (ix_drp l (fun x => x.tp == t) (some ⟨g, 0, none⟩) _ cap (.pointer (some ⟨C, 0, none⟩)) w rfl ⟨_, _, rfl, hcap, fun _ => ⟨g, 0, rfl, hr⟩⟩ hl (fun W x _ hb => HCL.out W x ((hb.cell (p := ⟨C, 3, none⟩) (cB hC)).trans hC)))
 cases hf : l.find? (fun x => x.tp == t) with
 | none =>
  have HI := Hd (HIX.out.mono fun _ _ q => q.find_no hf)
  have hfil : (l.filter fun x => !(x.tp == t)) = l := List.filter_eq_self.2 (fun x hx => by have := List.find?_eq_none.1 hf x hx; simpa using this)
  rw [hfil]
  have HR := Hd hr
  clear hf hfil HIX hr hth hC hcg
  go_enter Tryz.func129, Tryz.ntmps129
  go_wp2_with (go_at_call 149; refine HI.out.mono ?_; rintro e w1 ⟨rfl, hb⟩; have HB1 := Hd hb; clear hb HI)
  go_ret
  exact ⟨_, rfl, ⟨_, _, rfl, hcap, fun _ => ⟨g, 0, rfl, rg_bel HR.out HB1.out⟩⟩, HB1.out.mono hB⟩
 | some y =>
  have HI := Hd (HIX.out.mono fun _ _ q => q.first hf)
  have HS := Hd (fun W (hb : Below w.heap.size w W) k hk hp hj => Dl.start (W := W) (B := B) (k := k) (rg_bel hr hb) (fun q hq => by
   have := hth q hq
   rw [hb.cell (p := ⟨g, 0 + q, none⟩) hgl, hb.frozen (p := ⟨g, 0 + q, none⟩) hgl]
   exact this) ((hb.cell (p := ⟨C, 3, none⟩) (cB hC)).trans hC) hcg hk hp hj)
  have hUP := fun W i (hi : i ≤ l.length) => upto_run tyiC (some ⟨g, 0, none⟩) l.length cap i hi hcap W
  have hFR := fun i (hi : i ≤ l.length) => from_runR tyiC (some ⟨g, 0, none⟩) l.length cap i hi (fun e => by cases e)
  have HUP := Hd hUP
  have Hf := Hd hFR
  clear hf HIX hr hth hC hcg hUP hFR
  go_enter Tryz.func129, Tryz.ntmps129
  go_wp2_with (go_at_call 149; refine HI.out.mono ?_; rintro e w1 ⟨k, hk, hp, hj, rfl, hb⟩; have HD0 := Hd (HS.out w1 hb k hk hp hj); have HB1 := Hd (hb.mono hB); have HZ1 : Hid (g < w1.heap.size) := Hd (Nat.lt_of_lt_of_le hgl hb.size); have hkI : ((k : Int) == -1) = false := beq_eq_false_iff_ne.2 (by omega); clear hb HI hp hj HS)
  go_loopw [5, 6] (fun x y W => ∃ i j : Nat, x = .int .i64 (i : Int) ∧ y = .int .i64 (j : Int) ∧ Dl W B g C t l i j ∧ Below B w W ∧ g < W.heap.size) (fun _ y _ => l.length - (intOf y).toNat)
  case atStart => exact ⟨k, k + 1, rfl, by go_num, HD0.out, HB1.out, HZ1.out⟩
  case round =>
   obtain ⟨i, j, rfl, rfl, hd, hb, hz⟩ := hrel
   have HD := Hd hd
   have HB := Hd hb
   have HZ := Hd hz
   have HBS : Hid (B ≤ wr.heap.size) := Hd (Nat.le_trans hB hb.size)
   have hij := hd.lt
   have hjl := hd.le
   clear hd hb hz HD0 HB1 HZ1
   by_cases hlt : j < l.length
   ·have hltI : (j : Int) < (l.length : Int) := by omega
    have hilI : (i : Int) < (l.length : Int) := by omega
    have hil : i < l.length := by omega
    have HE : Hid (wr.rangeAt g (j * 3) (cfc l[j])) := Hd (by
     have := HD.out.hi
     rw [List.drop_eq_getElem_cons hlt, List.flatMap_cons] at this
     exact (rg_app this).1)
    have HCC := Hd (fun W (hb : Below wr.heap.size wr W) => HCL.out W l[j] ((HD.out.below HZ.out hb).c))
    have HSK := Hd (fun W (hb : Below wr.heap.size wr W) h => (HD.out.below HZ.out hb).skip hlt h)
    have HKE := Hd (fun W (hb : Below wr.heap.size wr W) h => (HD.out.below HZ.out hb).keep hlt h)
    have HTH := Hd (fun W (hb : Below wr.heap.size wr W) => (HD.out.below HZ.out hb).there hlt)
    clear HD
    cases hx : (l[j].tp == t) with
    | true =>
     rw [hx] at HCC
     replace HSK := Hd (fun W hb => HSK.out W hb hx)
     clear hx HKE HTH
     generalize l[j] = y at HE HCC
     unfold cfc at HE HCC
     go_wp2_with (first
      | (refine wpList_load_mid rfl _ _ rfl _ _ rfl _ _ HE.out Tryz.underlying78 rfl (by kernel_rfl) ?_)
      | (go_at_call 130; refine (HCC.out _ (bA _ _)).mono ?_; rintro e w2 ⟨rfl, hb2⟩; have HB2 := Hd (bt (bA _ _) hb2); clear hb2 HCC HE))
     go_roundw
     case rel => exact ⟨i, j + 1, rfl, by go_num, HSK.out _ HB2.out, HB.out.trans (HB2.out.mono HBS.out), Nat.lt_of_lt_of_le HZ.out HB2.out.size⟩
     case measure => simp [intOf]; omega
    | false =>
     rw [hx] at HCC
     replace HKE := Hd (fun W hb => HKE.out W hb hx)
     clear hx HSK
     generalize l[j] = y at HE HCC HKE
     unfold cfc at HE HCC HKE
     go_wp2_with (first
      | (refine wpList_load_mid rfl _ _ rfl _ _ rfl _ _ HE.out Tryz.underlying78 rfl (by kernel_rfl) ?_)
      | (go_at_call 130; refine (HCC.out _ (bA _ _)).mono ?_; rintro e w2 ⟨rfl, hb2⟩; have HB2 := Hd (bt (bA _ _) hb2); obtain ⟨z0, z1, z2⟩ := (Bx.mk1 wr [.int .i64 y.tp, .string ⟨y.ky.toArray⟩, .string ⟨y.va.toArray⟩] _ hb2).c3; clear hb2 HCC HE)
      | (refine wpList_put rfl _ _ _ rfl _ _ rfl [.int .i64 y.tp, .string ⟨y.ky.toArray⟩, .string ⟨y.va.toArray⟩] rfl (HTH.out _ HB2.out) (by kernel_rfl) rfl ?_; intro W3 hW3; have HW3 := Hd hW3; clear hW3 HTH))
     go_roundw
     case rel =>
      have e3 := HW3.out
      exact ⟨i + 1, j + 1, by go_num, by go_num, by rw [e3]; exact HKE.out _ HB2.out, by rw [e3]; exact bel_sets (HB.out.trans (HB2.out.mono HBS.out)) hg, by rw [e3, sz_sets]; exact Nat.lt_of_lt_of_le HZ.out HB2.out.size⟩
     case measure => simp [intOf]; omega
   ·obtain rfl : j = l.length := by omega
    have hil : i ≤ l.length := by omega
    have HLO := Hd HD.out.lo
    have HTH := Hd HD.out.th
    have HNI := Hd HD.out.n
    obtain ⟨ao', hfr, hao⟩ := Hf.out i hil
    have hup := HUP.out
    have hup' : ∀ W, (Instr.slice 27 (.slice (some ⟨g, 0, none⟩) l.length cap) none (some (.int .i64 (i : Int))) none).run Tryz.prog W = .ok (.slice (some ⟨g, 0, none⟩) i cap) W := fun W => hup W i hil
    clear hup hlt HD
    rw [List.take_length] at HLO HNI
    have hi0 : i < l.length := by omega
    obtain rfl := hao g 0 rfl hi0 hcap
    rw [Nat.zero_add] at hfr
    obtain ⟨vs, hvs, hcl⟩ := run_clearC wr 0 g (i * 3) (l.length - i) (cap - i) (fun q hq => by
     have := HTH.out (i * 3 + q) (by omega)
     rwa [Nat.zero_add] at this)
    go_wp2_with fail
    go_ret
    refine ⟨i, rfl, ⟨_, _, by rw [← HNI.out], by rw [← HNI.out]; omega, fun _ => ⟨g, 0, rfl, ?_⟩⟩, bel_sets HB.out hg⟩
    exact World.rangeAt_setCells_apart HLO.out g (i * 3) vs (.inr (.inl (by rw [fm_len encC, ← HNI.out]; omega)))
end Go.Proofs.YtlggjgapdpkhiaaGreat
namespace Go.Proofs.YtlggjgapdpkhiaaGreat
open Go.RowKit
theorem nilC_yes (n cap : Nat) (w : World) : (binOp .eql 27 (.slice none n cap) (.slice none 0 0)).run Tryz.prog w = .ok (.bool true) w := by kernel_rfl
theorem nilC_no (a : Addr) (n cap : Nat) (w : World) : (binOp .eql 27 (.slice (some a) n cap) (.slice none 0 0)).run Tryz.prog w = .ok (.bool false) w := by kernel_rfl
set_option maxRecDepth 100000 in
set_option maxHeartbeats 4000000 in
theorem cloneC_any (l : List Cf) (ao : Option Addr) (n cap : Nat) (w : World) (hn : n = l.length) (hv : Rs cfc w (.slice ao n cap) l) (hl : l.length ≤ 100000) :
  Calls Tryz.prog 56 #[.slice ao n cap] w fun e w' => ∃ v, e = .returned v ∧ Ro cfc 3 78 w' w.heap.size v l ∧ Below w.heap.size w w' := by
 subst hn
 cases ao with
 | none =>
  have e1 := nilC_yes
  have h0 := hv.none0 rfl
  obtain rfl := List.eq_nil_iff_length_eq_zero.2 h0
  clear hv hl h0
  go_enter Tryz.func56, Tryz.ntmps56
  go_wp2_with fail
  go_ret
  exact ⟨_, rfl, ro_nil _ _ _ _ _, Below.refl _ _⟩
 | some a =>
  have e2 := nilC_no
  have HV := Hd (hv.below ((Below.refl _ _).alloc (Nat.le_refl _) (.cells #[] 78)))
  have HR := Hd (ro_new encC 78 w [] (Nat.zero_le _))
  clear hv
  go_enter Tryz.func56, Tryz.ntmps56
  go_wp2_with (at_builtin; refine wR tyiC encC _ rfl _ _ rfl w.heap.size _ [] rfl HR.out (by simp) _ l rfl HV.out (by rw [List.length_nil]; omega) ?_; intro v1 w2 hr _ hb; rw [List.nil_append] at hr; have HRO := Hd hr; have HB := Hd (((Below.refl w.heap.size w).alloc (Nat.le_refl _) _).trans hb); clear hr hb)
  go_ret
  exact ⟨_, rfl, HRO.out, HB.out⟩
end Go.Proofs.YtlggjgapdpkhiaaGreat
