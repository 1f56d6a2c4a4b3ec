/-
  METADATA AS VALUES AND IN THEIR CELLS: brokers, partitions, topics, settings, answers, an image; that what lies there stays behind whatever makes memory and turns nothing old. No condition.
  WHERE SOMETHING STANDS (cmp.Compare, slices.BinarySearchFunc, image.find, findBroker, findTopic, findConfig): its place in a list that stands in order, and whether it is there. Conditions: the lists' cells hold them, no more than a hundred thousand, in order.
-/
import Derived.Test.YtlggjgapdpkhiaaGreatDoorJKMema4
import Derived.Test.YtlggjgapdpkhiaaGreatDoorJKImMa2
import Derived.Test.YtlggjgapdpkhiaaGreatDoorJKRecVa2
import Derived.Deep.DeepCutAuto
import Derived.Deep.RegionWith
namespace Go.Proofs.YtlggjgapdpkhiaaGreatDoor
open Go.RowKit
def bkc (b : Bk) : List Value := [.int .i64 b.id, .int .i64 b.ep, .string ⟨b.rk.toArray⟩, .bool b.fe, .bool b.lv]
def cfc (c : Cf) : List Value := [.int .i64 c.tp, .string ⟨c.ky.toArray⟩, .string ⟨c.va.toArray⟩]
def dnc (d : Dn) : List Value := [.int .i64 d.cl, .int .i64 d.se, .int .i64 d.co]
structure P4 where
 a0 : Option Addr
 a1 : Option Addr
 a2 : Option Addr
 a3 : Option Addr
 c0 : Nat
 c1 : Nat
 c2 : Nat
 c3 : Nat
abbrev Pp := Pt × P4
def ptc (p : Pp) : List Value := [.slice p.2.a0 p.1.ids.length p.2.c0, .slice p.2.a1 p.1.isr.length p.2.c1, .int .i64 p.1.ld, .int .i64 p.1.ep, .slice p.2.a2 p.1.ad.length p.2.c2, .slice p.2.a3 p.1.dr.length p.2.c3]
structure PtR (W : World) (p : Pp) : Prop where
 s0 : Sl ic W (.slice p.2.a0 p.1.ids.length p.2.c0) p.1.ids
 s1 : Sl ic W (.slice p.2.a1 p.1.isr.length p.2.c1) p.1.isr
 s2 : Sl ic W (.slice p.2.a2 p.1.ad.length p.2.c2) p.1.ad
 s3 : Sl ic W (.slice p.2.a3 p.1.dr.length p.2.c3) p.1.dr
theorem PtR.below {W W' : World} {p : Pp} (h : PtR W p) (hb : Below W.heap.size W W') : PtR W' p := ⟨h.s0.below hb, h.s1.below hb, h.s2.below hb, h.s3.below hb⟩
structure Tq where
 id : Int
 nm : List UInt8
 ps : List Pp
 a : Option Addr
 c : Nat
def Tq.tp (t : Tq) : Tp := ⟨t.id, t.nm, t.ps.map (·.1)⟩
def tpc (t : Tq) : List Value := [.int .i64 t.id, .string ⟨t.nm.toArray⟩, .slice t.a t.ps.length t.c]
structure TqR (W : World) (t : Tq) : Prop where
 ps : Rs ptc W (.slice t.a t.ps.length t.c) t.ps
 pt : ∀ p ∈ t.ps, PtR W p
theorem TqR.below {W W' : World} {t : Tq} (h : TqR W t) (hb : Below W.heap.size W W') : TqR W' t := ⟨h.ps.below hb, fun p hp => (h.pt p hp).below hb⟩
theorem stn_Q {l : List Tq} (h : l.Pairwise fun x y => x.tp.id < y.tp.id) (id : Int) : Stn (fun x : Tq => cmpN x.id id) l := h.imp fun {x y} q => by
 have q' : x.id < y.id := q
 rw [cmpN_lt, cmpN_gt]; omega
theorem encB : Enc bkc 5 := ⟨fun _ => rfl, fun x u hu => by
 simp only [bkc, List.mem_cons, List.not_mem_nil, or_false] at hu
 rcases hu with rfl | rfl | rfl | rfl | rfl <;> rfl, by decide⟩
theorem encC : Enc cfc 3 := ⟨fun _ => rfl, fun x u hu => by
 simp only [cfc, List.mem_cons, List.not_mem_nil, or_false] at hu
 rcases hu with rfl | rfl | rfl <;> rfl, by decide⟩
theorem encD : Enc dnc 3 := ⟨fun _ => rfl, fun x u hu => by
 simp only [dnc, List.mem_cons, List.not_mem_nil, or_false] at hu
 rcases hu with rfl | rfl | rfl <;> rfl, by decide⟩
theorem encP : Enc ptc 6 := ⟨fun _ => rfl, fun x u hu => by
 simp only [ptc, List.mem_cons, List.not_mem_nil, or_false] at hu
 rcases hu with rfl | rfl | rfl | rfl | rfl | rfl <;> rfl, by decide⟩
theorem encT : Enc tpc 3 := ⟨fun _ => rfl, fun x u hu => by
 simp only [tpc, List.mem_cons, List.not_mem_nil, or_false] at hu
 rcases hu with rfl | rfl | rfl <;> rfl, by decide⟩
theorem tyi_map {P : Program} {S T : TypeId} {k n : Nat} {z : Value} (h : (P.info? T).map (fun i => (i.zero, i.size, i.bytes)) = some (some z, k, n)) (hn : n ≤ 300) (hz : z.cells.size = k) (hu : P.underlying S = some (.slice T)) : Tyi P S T k := by
 obtain ⟨i, hi, he⟩ := Option.map_eq_some_iff.1 h
 injection he with e1 e2
 injection e2 with e2 e3
 exact ⟨⟨i, z, hi, e1, e2, by omega, hz⟩, hu⟩
theorem tyiB : Tyi Tryz.prog 25 54 5 := tyi_map (z := .agg #[.int .i64 0, .int .i64 0, .string ⟨#[]⟩, .bool false, .bool false]) (n := 40) (by kernel_rfl) (by decide) rfl Tryz.underlying25
theorem tyiT : Tyi Tryz.prog 26 70 3 := tyi_map (z := .agg #[.int .i64 0, .string ⟨#[]⟩, .slice none 0 0]) (n := 48) (by kernel_rfl) (by decide) rfl Tryz.underlying26
theorem tyiP : Tyi Tryz.prog 68 50 6 := tyi_map (z := .agg #[.slice none 0 0, .slice none 0 0, .int .i64 0, .int .i64 0, .slice none 0 0, .slice none 0 0]) (n := 112) (by kernel_rfl) (by decide) rfl Tryz.underlying68
theorem tyiC : Tyi Tryz.prog 27 72 3 := tyi_map (z := .agg #[.int .i64 0, .string ⟨#[]⟩, .string ⟨#[]⟩]) (n := 40) (by kernel_rfl) (by decide) rfl Tryz.underlying27
theorem tyiD : Tyi Tryz.prog 28 74 3 := tyi_map (z := .agg #[.int .i64 0, .int .i64 0, .int .i64 0]) (n := 24) (by kernel_rfl) (by decide) rfl Tryz.underlying28
structure Ip where
 ab : Option Addr
 aq : Option Addr
 ac : Option Addr
 ad : Option Addr
 cb : Nat
 cq : Nat
 cc : Nat
 cd : Nat
 ts : List Tq
def imv (m : Im) (p : Ip) : Value := .agg #[.slice p.ab m.br.length p.cb, .slice p.aq p.ts.length p.cq, .slice p.ac m.cf.length p.cc, .slice p.ad m.dn.length p.cd, .int .i64 m.la]
structure ImR (W : World) (m : Im) (p : Ip) : Prop where
 b : Rs bkc W (.slice p.ab m.br.length p.cb) m.br
 t : Rs tpc W (.slice p.aq p.ts.length p.cq) p.ts
 q : ∀ t ∈ p.ts, TqR W t
 e : p.ts.map Tq.tp = m.ts
 c : Rs cfc W (.slice p.ac m.cf.length p.cc) m.cf
 d : Rs dnc W (.slice p.ad m.dn.length p.cd) m.dn
theorem ImR.below {W W' : World} {m : Im} {p : Ip} (h : ImR W m p) (hb : Below W.heap.size W W') : ImR W' m p := ⟨h.b.below hb, h.t.below hb, fun t ht => (h.q t ht).below hb, h.e, h.c.below hb, h.d.below hb⟩
def IsI (W : World) (v : Value) (m : Im) : Prop := ∃ p, v = imv m p ∧ ImR W m p
theorem IsI.below {W W' : World} {v : Value} {m : Im} (h : IsI W v m) (hb : Below W.heap.size W W') : IsI W' v m := by
 obtain ⟨p, e, hr⟩ := h
 exact ⟨p, e, hr.below hb⟩
theorem ImR.len {W : World} {m : Im} {p : Ip} (h : ImR W m p) : p.ts.length = m.ts.length := by rw [← h.e, List.length_map]
structure WfP (p : Pt) : Prop where
 l0 : p.ids.length ≤ 7
 l1 : p.isr.length ≤ 7
 l2 : p.ad.length ≤ 7
 l3 : p.dr.length ≤ 7
 ep : 0 ≤ p.ep ∧ p.ep ≤ 1073741824
structure Wf (m : Im) (N : Nat) : Prop where
 b : m.br.Pairwise fun x y => x.id < y.id
 t : m.ts.Pairwise fun x y => x.id < y.id
 c : m.cf.Pairwise ltC
 u : ∀ t ∈ m.ts, 1 ≤ t.id ∧ t.id ≤ m.la
 la : 0 ≤ m.la ∧ m.la ≤ 1073741824
 nb : m.br.length ≤ N
 nt : m.ts.length ≤ N
 nc : m.cf.length ≤ N
 nd : m.dn.length ≤ N
 np : ∀ t ∈ m.ts, t.ps.length ≤ N
 p : ∀ t ∈ m.ts, ∀ p ∈ t.ps, WfP p
theorem ImR.stn {W : World} {m : Im} {p : Ip} {N : Nat} (h : ImR W m p) (hw : Wf m N) (id : Int) : Stn (fun x : Tq => cmpN x.id id) p.ts := by
 have h0 := hw.t
 rw [← h.e, List.pairwise_map] at h0
 exact stn_Q h0 id
theorem ImR.tin {W : World} {m : Im} {p : Ip} (h : ImR W m p) {t : Tq} (ht : t ∈ p.ts) : t.tp ∈ m.ts := by rw [← h.e]; exact List.mem_map_of_mem ht
theorem ImR.np {W : World} {m : Im} {p : Ip} {N : Nat} (h : ImR W m p) (hw : Wf m N) {t : Tq} (ht : t ∈ p.ts) : t.ps.length ≤ N := by
 have := hw.np _ (h.tin ht)
 simpa [Tq.tp] using this
theorem ImR.wp {W : World} {m : Im} {p : Ip} {N : Nat} (h : ImR W m p) (hw : Wf m N) {t : Tq} (ht : t ∈ p.ts) {q : Pp} (hq : q ∈ t.ps) : WfP q.1 := hw.p _ (h.tin ht) _ (List.mem_map_of_mem hq)
end Go.Proofs.YtlggjgapdpkhiaaGreatDoor
namespace Go.Proofs.YtlggjgapdpkhiaaGreatDoor
open Go.RowKit
set_option maxRecDepth 100000
set_option maxHeartbeats 2000000
theorem nanI_any (a : Int) (w : World) : Calls Tryz.prog 152 #[.int .i64 a] w fun e w' => e = .returned (.bool false) ∧ w' = w := by
 have h1 : (a != a) = false := by simp
 go_enter Tryz.func152, Tryz.ntmps152
 go_wp2
 go_ret
 exact ⟨rfl, rfl⟩
theorem nanS_any (a : List UInt8) (w : World) : Calls Tryz.prog 161 #[.string ⟨a.toArray⟩] w fun e w' => e = .returned (.bool false) ∧ w' = w := by
 have h1 : ((⟨a.toArray⟩ : ByteArray).toList == (⟨a.toArray⟩ : ByteArray).toList) = true := by simp
 go_enter Tryz.func161, Tryz.ntmps161
 go_wp2
 go_ret
 exact ⟨rfl, rfl⟩
theorem cmpI_any (a b : Int) (w : World) : Calls Tryz.prog 120 #[.int .i64 a, .int .i64 b] w fun e w' => e = .returned (.int .i64 (cmpN a b)) ∧ w' = w := by
 unfold cmpN
 by_cases h1 : a < b
 ·rw [if_pos h1]
  go_enter Tryz.func120, Tryz.ntmps120
  go_wp2_with (go_at_call 152; refine (nanI_any _ _).mono ?_; rintro e w' ⟨rfl, rfl⟩)
  go_ret
  exact ⟨rfl, rfl⟩
 ·rw [if_neg h1]
  by_cases h2 : b < a
  ·rw [if_pos h2]
   go_enter Tryz.func120, Tryz.ntmps120
   go_wp2_with (go_at_call 152; refine (nanI_any _ _).mono ?_; rintro e w' ⟨rfl, rfl⟩)
   go_ret
   exact ⟨rfl, rfl⟩
  ·rw [if_neg h2]
   go_enter Tryz.func120, Tryz.ntmps120
   go_wp2_with (go_at_call 152; refine (nanI_any _ _).mono ?_; rintro e w' ⟨rfl, rfl⟩)
   go_ret
   exact ⟨rfl, rfl⟩
theorem wpl_want {P : Program} {ops : Array Oper} {rest : List Oper} {op : Oper} {a : Act} {w : World} {Q : Exit → Act → World → Prop} (hw : Region.wanted op (yielded ops a.tmps) = true) (ty : TypeId) (x : Operand) (ho : op.op = .load ty x)
  (b o : Nat) (hx : a.eval x = .pointer (some ⟨b, o, none⟩)) (cs : List Value) (d : TypeDesc) (hc : w.rangeAt b o cs) (hu : P.underlying ty = some d) (hd : d.isRow = true) (hi : (P.info? ty).map (·.size) = some cs.length)
  (h : wpList P ops Q rest (a.put op.dst (.agg cs.toArray)) w) : wpList P ops Q (op :: rest) a w :=
 BigFrame.wpList_want hw fun _ hK => wp_load_mid ty x ho b o hx cs d hc hu hd hi (hK _ _ h)
def BsP {α : Type} (c : α → Int) (l : List α) (w w' : World) (e : Ending) : Prop := ∃ i : Nat, Pla c l i ∧ e = .returned (.tuple #[.int .i64 (i : Int), .bool (decide (∃ h : i < l.length, c l[i] = 0))]) ∧ Below w.heap.size w w'
theorem BsP.mk {α : Type} {c : α → Int} {l : List α} {w w' : World} {e : Ending} (i : Nat) (h : Pla c l i) (he : e = .returned (.tuple #[.int .i64 (i : Int), .bool (decide (∃ h : i < l.length, c l[i] = 0))])) (hb : Below w.heap.size w w') : BsP c l w w' e := ⟨i, h, he, hb⟩
theorem pla_nil {α : Type} (c : α → Int) : Pla c [] 0 := ⟨Nat.le_refl _, fun x hx => by simp at hx, fun x hx => by simp at hx⟩
theorem BsP.none {α : Type} {c : α → Int} {w w' : World} {e : Ending} (he : e = .returned (.tuple #[.int .i64 0, .bool false])) (hb : Below w.heap.size w w') : BsP c [] w w' e :=
 .mk 0 (pla_nil c) (he.trans (by rw [decide_eq_false (fun q => absurd q.1 (Nat.lt_irrefl 0))]; rfl)) hb
theorem run_gtrT (a b : List UInt8) (t : TypeId) (W : World) : (binOp .gtr t (.string ⟨a.toArray⟩) (.string ⟨b.toArray⟩)).run Tryz.prog W = .ok (.bool (decide (0 < cmpT a b))) W := by
 have h : (!(Op.bytesLess a b || a == b)) = decide (0 < cmpT a b) := by
  rw [less_cmpT]
  have hz := @cmpT_zero a b
  by_cases e : a = b
  ·rw [hz.2 e]; simp [e]
  ·have e0 : ¬ cmpT a b = 0 := fun q => e (hz.1 q)
   have e2 : (a == b) = false := by simpa using e
   rw [e2, Bool.or_false]
   by_cases e1 : cmpT a b < 0
   ·rw [decide_eq_true e1, decide_eq_false (by omega)]; rfl
   ·rw [decide_eq_false e1, decide_eq_true (by omega)]; rfl
 rw [← h]
 simp [binOp, go_sem, Op.stringOp]
theorem cmpS_any (a b : List UInt8) (w : World) : Calls Tryz.prog 141 #[.string ⟨a.toArray⟩, .string ⟨b.toArray⟩] w fun e w' => e = .returned (.int .i64 (cmpT a b)) ∧ w' = w := by
 have hr := cmpT_range a b
 have HL := hide (less_cmpT a b)
 obtain ⟨c, hc⟩ : ∃ c, c = cmpT a b := ⟨_, rfl⟩
 have HG : Hid (cmpT a b = c) := hide hc.symm
 have HE : Hid (cmpT a b = -1 ∨ cmpT a b = 0 ∨ cmpT a b = 1) := hide (by omega)
 clear hr
 rw [← hc] at HL HE ⊢
 clear hc
 rcases HE.out with rfl | rfl | rfl
 ·have h1 : Op.bytesLess a b = true := HL.out
  go_enter Tryz.func141, Tryz.ntmps141
  go_wp2_with (go_at_call 161; refine (nanS_any _ _).mono ?_; rintro e w' ⟨rfl, rfl⟩)
  go_ret
  exact ⟨rfl, rfl⟩
 ·have h1 : Op.bytesLess a b = false := HL.out
  have h4 : ∀ W, (binOp .gtr 9 (.string ⟨a.toArray⟩) (.string ⟨b.toArray⟩)).run Tryz.prog W = .ok (.bool false) W := fun W => by rw [run_gtrT, HG.out]; rfl
  go_enter Tryz.func141, Tryz.ntmps141
  go_wp2_with (go_at_call 161; refine (nanS_any _ _).mono ?_; rintro e w' ⟨rfl, rfl⟩)
  go_ret
  exact ⟨rfl, rfl⟩
 ·have h1 : Op.bytesLess a b = false := HL.out
  have h4 : ∀ W, (binOp .gtr 9 (.string ⟨a.toArray⟩) (.string ⟨b.toArray⟩)).run Tryz.prog W = .ok (.bool true) W := fun W => by rw [run_gtrT, HG.out]; rfl
  go_enter Tryz.func141, Tryz.ntmps141
  go_wp2_with (go_at_call 161; refine (nanS_any _ _).mono ?_; rintro e w' ⟨rfl, rfl⟩)
  go_ret
  exact ⟨rfl, rfl⟩
end Go.Proofs.YtlggjgapdpkhiaaGreatDoor
