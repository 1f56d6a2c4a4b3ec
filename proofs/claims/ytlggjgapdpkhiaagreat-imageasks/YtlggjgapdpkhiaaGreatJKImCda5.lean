/-
  WHAT IS ASKED OF METADATA, the places (image.findBroker, findTopic, findConfig) by what is there.
  WHAT IS ASKED OF METADATA (image's Broker, Topic, Named, Part, Config, Answered, Alive, Leads, holds, registered).
  WHETHER A BROKER LEADS ANYTHING, OR IS A REPLICA (image.anyPart, Leads, holds).
  WHAT IS ASKED OF METADATA (image.Broker, Topic, Named, Part, Config, Answered, Alive, registered).
  WHAT IS ASKED OF METADATA (image.registered, Alive, Named, Answered).
-/
import Derived.Test.YtlggjgapdpkhiaaGreatJKImBaa2
import Derived.Test.YtlggjgapdpkhiaaGreatJKImBb
import Derived.Test.YtlggjgapdpkhiaaGreatJKImCba5
import Derived.Test.YtlggjgapdpkhiaaGreatJKImMa5
namespace Go.Proofs.YtlggjgapdpkhiaaGreat
open Go.RowKit
section
variable {α : Type} {c : α → Int} {l : List α} {w w' : World} {e : Ending}
theorem find_eq {p : α → Bool} (hp : ∀ x, p x = true ↔ c x = 0) : l.find? p = l.find? (fun x => decide (c x = 0)) := by
 congr 1
 funext x
 by_cases h : c x = 0
 ·rw [(hp x).2 h, decide_eq_true h]
 ·rw [decide_eq_false h]
  exact Bool.eq_false_iff.2 (fun q => h ((hp x).1 q))
theorem BsP.no (h : BsP c l w w' e) (hs : Stn c l) {p : α → Bool} (hp : ∀ x, p x = true ↔ c x = 0) (hn : l.find? p = Option.none) : ∃ i : Nat, i ≤ l.length ∧ (∀ b, insO c b l = l.take i ++ b :: l.drop i) ∧ e = .returned (.tuple #[.int .i64 (i : Int), .bool false]) ∧ Below w.heap.size w w' := by
 obtain ⟨i, hi, rfl, hb⟩ := h
 rw [find_eq hp] at hn
 rcases hi.cases hs with q | ⟨q0, q1, q2⟩
 ·refine ⟨i, hi.le, fun b => hi.put_new q b, ?_, hb⟩
  rw [decide_eq_false]
  rintro ⟨r0, r1⟩
  have := q l[i] (by rw [List.drop_eq_getElem_cons r0]; exact List.mem_cons_self)
  omega
 ·rw [hi.find_yes q0 q1] at hn
  cases hn
theorem BsP.yes (h : BsP c l w w' e) (hs : Stn c l) {p : α → Bool} (hp : ∀ x, p x = true ↔ c x = 0) {y : α} (hn : l.find? p = some y) : ∃ (i : Nat) (hi : i < l.length), l[i] = y ∧ (∀ b, insO c b l = l.take i ++ b :: l.drop (i + 1)) ∧ remO c l = l.take i ++ l.drop (i + 1) ∧ (∀ x ∈ l.take i, c x < 0) ∧ (∀ x ∈ l.drop (i + 1), 0 < c x) ∧ e = .returned (.tuple #[.int .i64 (i : Int), .bool true]) ∧ Below w.heap.size w w' := by
 obtain ⟨i, hi, rfl, hb⟩ := h
 rw [find_eq hp] at hn
 rcases hi.cases hs with q | ⟨q0, q1, q2⟩
 ·rw [hi.find_no q] at hn
  cases hn
 ·rw [hi.find_yes q0 q1] at hn
  cases hn
  exact ⟨i, q0, rfl, fun b => hi.put_old q0 q1 q2 b, hi.rem q0 q1 q2, hi.lo, q2, by rw [decide_eq_true ⟨q0, q1⟩], hb⟩
end
theorem keyB {id : Int} (x : Bk) : idB id x = true ↔ cmpN x.id id = 0 := by rw [cmpN_zero]; simp [idB]
def idQ (id : Int) (t : Tq) : Bool := t.id == id
theorem keyT {id : Int} (x : Tq) : idQ id x = true ↔ cmpN x.id id = 0 := by rw [cmpN_zero]; simp [idQ]
theorem keyC {t : Int} {k : List UInt8} (x : Cf) : idC t k x = true ↔ cmpC x t k = 0 := cmpC_zero.symm
theorem ImR.fT {W : World} {m : Im} {p : Ip} (h : ImR W m p) (id : Int) : fT m.ts id = (p.ts.find? (idQ id)).map Tq.tp := by
 unfold Go.Proofs.YtlggjgapdpkhiaaGreat.fT
 rw [← h.e, List.find?_map]
 rfl
theorem getD_at {l : List Int} {j : Nat} (h : j < l.length) : l.getD j 0 = l[j] := by
 show (l[j]?).getD 0 = l[j]
 rw [List.getElem?_eq_getElem h]
 rfl
theorem cont_any (v : Value) (l : List Int) (x : Int) (w : World) (hv : Sl ic w v l) (hl : l.length ≤ 7) : Calls Tryz.prog 138 #[v, .int .i64 x] w fun e w' => e = .returned (.bool (l.contains x)) ∧ w' = w := by
 have he : l.contains x = inB l l.length x := by
  unfold inB
  rw [Bool.eq_iff_iff, List.contains_iff_mem, List.any_eq_true]
  constructor
  ·intro hm
   obtain ⟨j, hj, rfl⟩ := List.getElem_of_mem hm
   exact ⟨j, List.mem_range.2 hj, decide_eq_true (by rw [getD_at hj])⟩
  ·rintro ⟨j, hj, e⟩
   have hj' := List.mem_range.1 hj
   have := of_decide_eq_true e
   rw [getD_at hj'] at this
   rw [← this]
   exact List.getElem_mem hj'
 rcases hv with ⟨ao, cap, rfl, rfl⟩ | ⟨b, o, cap, rfl, h2, h3⟩
 ·have HC : Hid (Calls Tryz.prog 152 #[.slice ao 0 cap, .int .i64 x] w fun e w' => e = .returned (.int .i64 (-1)) ∧ w' = w) := Hd (by
   go_enter Tryz.func152, Tryz.ntmps152
   go_wp2_with fail
   refine wp_loop_rounds 1 ?_
   rw [rounds_succ]
   go_wp2_with fail
   go_ret
   exact ⟨rfl, rfl⟩)
  clear he
  go_enter Tryz.func138, Tryz.ntmps138
  go_wp2_with (go_at_call 152; refine HC.out.mono ?_; rintro e w' ⟨rfl, rfl⟩)
  go_ret
  exact ⟨rfl, rfl⟩
 ·rw [he]
  exact ctni_some b o cap l l.length x w (Nat.le_refl _) hl (fun i hi => by rw [getD_at hi]; exact h3 i hi)
end Go.Proofs.YtlggjgapdpkhiaaGreat
namespace Go.Proofs.YtlggjgapdpkhiaaGreat
open Go.RowKit
theorem cNam_any (x : Tq) (S : List UInt8) (B : Nat) (w : World) (hB : w.cell? ⟨B, 0, none⟩ = some (.string ⟨S.toArray⟩)) : Calls Tryz.prog 40 #[.agg (tpc x).toArray, .pointer (some ⟨B, 0, none⟩)] w fun e w' => e = .returned (.bool (x.nm == S)) ∧ Below w.heap.size w w' := by
 have hl := cB hB
 unfold tpc
 go_enter Tryz.func40, Tryz.ntmps40
 go_wp2
 go_ret
 exact ⟨rfl, (Below.refl _ _).alloc (Nat.le_refl _) _⟩
theorem cDrp_any (x : Cf) (t : Int) (B : Nat) (w : World) (hB : w.cell? ⟨B, 3, none⟩ = some (.int .i64 t)) : Calls Tryz.prog 130 #[.agg (cfc x).toArray, .pointer (some ⟨B, 0, none⟩)] w fun e w' => e = .returned (.bool (x.tp == t)) ∧ Below w.heap.size w w' := by
 have hl := cB hB
 unfold cfc
 go_enter Tryz.func130, Tryz.ntmps130
 go_wp2
 go_ret
 exact ⟨rfl, (Below.refl _ _).alloc (Nat.le_refl _) _⟩
theorem cAns_any (x : Dn) (c s : Int) (B C : Nat) (w : World) (hB : w.cell? ⟨B, 0, none⟩ = some (.int .i64 c)) (hC : w.cell? ⟨C, 0, none⟩ = some (.int .i64 s)) : Calls Tryz.prog 45 #[.agg (dnc x).toArray, .pointer (some ⟨B, 0, none⟩), .pointer (some ⟨C, 0, none⟩)] w fun e w' => e = .returned (.bool (idD c s x)) ∧ Below w.heap.size w w' := by
 have hl := cB hB
 have hl' := cB hC
 unfold dnc idD
 cases h : (x.cl == c) with
 | true =>
  go_enter Tryz.func45, Tryz.ntmps45
  go_wp2
  go_ret
  exact ⟨rfl, (Below.refl _ _).alloc (Nat.le_refl _) _⟩
 | false =>
  go_enter Tryz.func45, Tryz.ntmps45
  go_wp2
  go_ret
  exact ⟨rfl, (Below.refl _ _).alloc (Nat.le_refl _) _⟩
theorem cLed_any (x : Pp) (id : Int) (B : Nat) (w : World) (hB : w.cell? ⟨B, 0, none⟩ = some (.int .i64 id)) : Calls Tryz.prog 51 #[.agg (ptc x).toArray, .pointer (some ⟨B, 0, none⟩)] w fun e w' => e = .returned (.bool (x.1.ld == id)) ∧ Below w.heap.size w w' := by
 have hl := cB hB
 unfold ptc
 go_enter Tryz.func51, Tryz.ntmps51
 go_wp2
 go_ret
 exact ⟨rfl, (Below.refl _ _).alloc (Nat.le_refl _) _⟩
theorem cHol_any (x : Pp) (id : Int) (B : Nat) (w : World) (hB : w.cell? ⟨B, 0, none⟩ = some (.int .i64 id)) (hx : PtR w x) (h7 : x.1.ids.length ≤ 7) : Calls Tryz.prog 154 #[.agg (ptc x).toArray, .pointer (some ⟨B, 0, none⟩)] w fun e w' => e = .returned (.bool (x.1.ids.contains id)) ∧ Below w.heap.size w w' := by
 have hl := cB hB
 have HC := Hd (fun W (h : Below w.heap.size w W) => cont_any _ x.1.ids id W (hx.s0.below h) h7)
 clear hx h7
 generalize x.1.ids.contains id = A at *
 unfold ptc
 go_enter Tryz.func154, Tryz.ntmps154
 go_wp2_with (go_at_call 138; refine (HC.out _ ((Below.refl _ _).alloc (Nat.le_refl _) _)).mono ?_; rintro e w1 ⟨rfl, rfl⟩)
 go_ret
 exact ⟨rfl, (Below.refl _ _).alloc (Nat.le_refl _) _⟩
end Go.Proofs.YtlggjgapdpkhiaaGreat
namespace Go.Proofs.YtlggjgapdpkhiaaGreat
open Go.RowKit
set_option maxRecDepth 100000
theorem cL_any (t : Tq) (id : Int) (B C : Nat) (w : World) (hB : w.cell? ⟨B, 0, none⟩ = some (.func (.func 51) #[] #[.pointer (some ⟨C, 0, none⟩)])) (hC : w.cell? ⟨C, 0, none⟩ = some (.int .i64 id)) (ht : TqR w t) (hl : t.ps.length ≤ 100000) (_h7 : ∀ p ∈ t.ps, p.1.ids.length ≤ 7) :
  Calls Tryz.prog 82 #[.agg (tpc t).toArray, .pointer (some ⟨B, 0, none⟩)] w fun e w' => e = .returned (.bool (t.ps.any fun p => p.1.ld == id)) ∧ Below w.heap.size w w' := by
 have hb := cB hB
 have HC := Hd (fun W (h : Below w.heap.size w W) => ct_led t.ps (fun p => p.1.ld == id) t.a _ t.c (.pointer (some ⟨C, 0, none⟩)) W rfl (ht.ps.below h) hl (fun W' x hx h' => cLed_any x id C W' (((bt h h').cell (p := ⟨C, 0, none⟩) (cB hC)).trans hC)))
 clear ht hl _h7
 generalize (t.ps.any fun p => p.1.ld == id) = A at *
 unfold tpc
 go_enter Tryz.func82, Tryz.ntmps82
 go_wp2_with (go_at_call 83; refine (HC.out _ ((Below.refl _ _).alloc (Nat.le_refl _) _)).mono ?_; rintro e w1 ⟨rfl, hb1⟩; have HB := Hd hb1; clear hb1 HC)
 go_ret
 exact ⟨rfl, bt ((Below.refl _ _).alloc (Nat.le_refl _) _) HB.out⟩
theorem apL_any (m : Im) (p : Ip) (id : Int) (C : Nat) (w : World) (hv : ImR w m p) (hw : Wf m 100000) (hC : w.cell? ⟨C, 0, none⟩ = some (.int .i64 id)) :
  Calls Tryz.prog 50 #[imv m p, .func (.func 51) #[] #[.pointer (some ⟨C, 0, none⟩)]] w fun e w' => e = .returned (.bool (m.ts.any fun t => t.ps.any fun p => p.ld == id)) ∧ Below w.heap.size w w' := by
 have hc := cB hC
 have HC := Hd (fun W (h : Below w.heap.size w W) (hB : W.cell? ⟨w.heap.size + 1, 0, none⟩ = some (.func (.func 51) #[] #[.pointer (some ⟨C, 0, none⟩)])) => ct_any p.ts (fun t => t.ps.any fun p => p.1.ld == id) p.aq _ p.cq (.pointer (some ⟨w.heap.size + 1, 0, none⟩)) W rfl (hv.t.below h) (by rw [hv.len]; exact hw.nt) (fun W' x hx h' => cL_any x id (w.heap.size + 1) C W' ((h'.cell (p := ⟨w.heap.size + 1, 0, none⟩) (cB hB)).trans hB) (((bt h h').cell (p := ⟨C, 0, none⟩) hc).trans hC) ((hv.q x hx).below (bt h h')) (hv.np hw hx) (fun q hq => (hv.wp hw hx hq).l0)))
 have he : (m.ts.any fun t => t.ps.any fun p => p.ld == id) = (p.ts.any fun t => t.ps.any fun p => p.1.ld == id) := by
  rw [← hv.e, List.any_map]
  congr 1
  funext t
  simp only [Function.comp, Tq.tp, List.any_map]
  rfl
 rw [he]
 clear hv hw he
 generalize (p.ts.any fun t => t.ps.any fun p => p.1.ld == id) = A at *
 unfold imv
 go_enter Tryz.func50, Tryz.ntmps50
 go_wp2_with (go_at_call 81; refine (HC.out _ (((Below.refl _ _).alloc (Nat.le_refl _) _).alloc (by simp) _) (by simp)).mono ?_; rintro e w1 ⟨rfl, hb1⟩; have HB := Hd hb1; clear hb1 HC)
 go_ret
 exact ⟨rfl, bt (((Below.refl _ _).alloc (Nat.le_refl _) _).alloc (by simp) _) HB.out⟩
theorem Leads_any (m : Im) (p : Ip) (id : Int) (w : World) (hv : ImR w m p) (hw : Wf m 100000) :
  Calls Tryz.prog 24 #[imv m p, .int .i64 id] w fun e w' => e = .returned (.bool (leads m.ts id)) ∧ Below w.heap.size w w' := by
 have HC := Hd (fun W (h : Below w.heap.size w W) (hB : W.cell? ⟨w.heap.size + 1, 0, none⟩ = some (.int .i64 id)) => apL_any m p id (w.heap.size + 1) W (hv.below h) hw hB)
 clear hv hw
 unfold imv at *
 unfold leads
 generalize (m.ts.any fun t => t.ps.any fun p => p.ld == id) = A at *
 go_enter Tryz.func24, Tryz.ntmps24
 go_wp2_with (go_at_call 50; refine (HC.out _ (((Below.refl _ _).alloc (Nat.le_refl _) _).alloc (by simp) _) (by simp)).mono ?_; rintro e w1 ⟨rfl, hb1⟩; have HB := Hd hb1; clear hb1 HC)
 go_ret
 exact ⟨rfl, bt (((Below.refl _ _).alloc (Nat.le_refl _) _).alloc (by simp) _) HB.out⟩
theorem cH_any (t : Tq) (id : Int) (B C : Nat) (w : World) (hB : w.cell? ⟨B, 0, none⟩ = some (.func (.func 154) #[] #[.pointer (some ⟨C, 0, none⟩)])) (hC : w.cell? ⟨C, 0, none⟩ = some (.int .i64 id)) (ht : TqR w t) (hl : t.ps.length ≤ 100000) (h7 : ∀ p ∈ t.ps, p.1.ids.length ≤ 7) :
  Calls Tryz.prog 82 #[.agg (tpc t).toArray, .pointer (some ⟨B, 0, none⟩)] w fun e w' => e = .returned (.bool (t.ps.any fun p => p.1.ids.contains id)) ∧ Below w.heap.size w w' := by
 have hb := cB hB
 have HC := Hd (fun W (h : Below w.heap.size w W) => ct_hol t.ps (fun p => p.1.ids.contains id) t.a _ t.c (.pointer (some ⟨C, 0, none⟩)) W rfl (ht.ps.below h) hl (fun W' x hx h' => cHol_any x id C W' (((bt h h').cell (p := ⟨C, 0, none⟩) (cB hC)).trans hC) ((ht.pt x hx).below (bt h h')) (h7 x hx)))
 clear ht hl h7
 generalize (t.ps.any fun p => p.1.ids.contains id) = A at *
 unfold tpc
 go_enter Tryz.func82, Tryz.ntmps82
 go_wp2_with (go_at_call 83; refine (HC.out _ ((Below.refl _ _).alloc (Nat.le_refl _) _)).mono ?_; rintro e w1 ⟨rfl, hb1⟩; have HB := Hd hb1; clear hb1 HC)
 go_ret
 exact ⟨rfl, bt ((Below.refl _ _).alloc (Nat.le_refl _) _) HB.out⟩
theorem apH_any (m : Im) (p : Ip) (id : Int) (C : Nat) (w : World) (hv : ImR w m p) (hw : Wf m 100000) (hC : w.cell? ⟨C, 0, none⟩ = some (.int .i64 id)) :
  Calls Tryz.prog 50 #[imv m p, .func (.func 154) #[] #[.pointer (some ⟨C, 0, none⟩)]] w fun e w' => e = .returned (.bool (m.ts.any fun t => t.ps.any fun p => p.ids.contains id)) ∧ Below w.heap.size w w' := by
 have hc := cB hC
 have HC := Hd (fun W (h : Below w.heap.size w W) (hB : W.cell? ⟨w.heap.size + 1, 0, none⟩ = some (.func (.func 154) #[] #[.pointer (some ⟨C, 0, none⟩)])) => ct_any p.ts (fun t => t.ps.any fun p => p.1.ids.contains id) p.aq _ p.cq (.pointer (some ⟨w.heap.size + 1, 0, none⟩)) W rfl (hv.t.below h) (by rw [hv.len]; exact hw.nt) (fun W' x hx h' => cH_any x id (w.heap.size + 1) C W' ((h'.cell (p := ⟨w.heap.size + 1, 0, none⟩) (cB hB)).trans hB) (((bt h h').cell (p := ⟨C, 0, none⟩) hc).trans hC) ((hv.q x hx).below (bt h h')) (hv.np hw hx) (fun q hq => (hv.wp hw hx hq).l0)))
 have he : (m.ts.any fun t => t.ps.any fun p => p.ids.contains id) = (p.ts.any fun t => t.ps.any fun p => p.1.ids.contains id) := by
  rw [← hv.e, List.any_map]
  congr 1
  funext t
  simp only [Function.comp, Tq.tp, List.any_map]
  rfl
 rw [he]
 clear hv hw he
 generalize (p.ts.any fun t => t.ps.any fun p => p.1.ids.contains id) = A at *
 unfold imv
 go_enter Tryz.func50, Tryz.ntmps50
 go_wp2_with (go_at_call 81; refine (HC.out _ (((Below.refl _ _).alloc (Nat.le_refl _) _).alloc (by simp) _) (by simp)).mono ?_; rintro e w1 ⟨rfl, hb1⟩; have HB := Hd hb1; clear hb1 HC)
 go_ret
 exact ⟨rfl, bt (((Below.refl _ _).alloc (Nat.le_refl _) _).alloc (by simp) _) HB.out⟩
theorem holds_any (m : Im) (p : Ip) (id : Int) (w : World) (hv : ImR w m p) (hw : Wf m 100000) :
  Calls Tryz.prog 140 #[imv m p, .int .i64 id] w fun e w' => e = .returned (.bool (used m.ts id)) ∧ Below w.heap.size w w' := by
 have HC := Hd (fun W (h : Below w.heap.size w W) (hB : W.cell? ⟨w.heap.size + 1, 0, none⟩ = some (.int .i64 id)) => apH_any m p id (w.heap.size + 1) W (hv.below h) hw hB)
 clear hv hw
 unfold imv at *
 unfold used
 generalize (m.ts.any fun t => t.ps.any fun p => p.ids.contains id) = A at *
 go_enter Tryz.func140, Tryz.ntmps140
 go_wp2_with (go_at_call 50; refine (HC.out _ (((Below.refl _ _).alloc (Nat.le_refl _) _).alloc (by simp) _) (by simp)).mono ?_; rintro e w1 ⟨rfl, hb1⟩; have HB := Hd hb1; clear hb1 HC)
 go_ret
 exact ⟨rfl, bt (((Below.refl _ _).alloc (Nat.le_refl _) _).alloc (by simp) _) HB.out⟩
end Go.Proofs.YtlggjgapdpkhiaaGreat
namespace Go.Proofs.YtlggjgapdpkhiaaGreat
open Go.RowKit
set_option maxRecDepth 100000
set_option maxHeartbeats 2000000
theorem findBroker_no (m : Im) (p : Ip) (id : Int) (w : World) (hv : ImR w m p) (hw : Wf m 100000) (h : m.br.find? (idB id) = none) : Calls Tryz.prog 35 #[imv m p, .int .i64 id] w fun e w' => ∃ i : Nat, i ≤ m.br.length ∧ (∀ b, insO (fun x : Bk => cmpN x.id id) b m.br = m.br.take i ++ b :: m.br.drop i) ∧ e = .returned (.tuple #[.int .i64 (i : Int), .bool false]) ∧ Below w.heap.size w w' :=
 (findBroker_any m p id w hv hw.nb (stn_B hw.b id)).mono fun _ _ q => q.no (stn_B hw.b id) (fun x => keyB x) h
theorem findBroker_yes (m : Im) (p : Ip) (id : Int) (w : World) (hv : ImR w m p) (hw : Wf m 100000) (b : Bk) (h : m.br.find? (idB id) = some b) : Calls Tryz.prog 35 #[imv m p, .int .i64 id] w fun e w' => ∃ (i : Nat) (hi : i < m.br.length), m.br[i] = b ∧ (∀ b, insO (fun x : Bk => cmpN x.id id) b m.br = m.br.take i ++ b :: m.br.drop (i + 1)) ∧ remO (fun x : Bk => cmpN x.id id) m.br = m.br.take i ++ m.br.drop (i + 1) ∧ (∀ x ∈ m.br.take i, cmpN x.id id < 0) ∧ (∀ x ∈ m.br.drop (i + 1), 0 < cmpN x.id id) ∧ e = .returned (.tuple #[.int .i64 (i : Int), .bool true]) ∧ Below w.heap.size w w' :=
 (findBroker_any m p id w hv hw.nb (stn_B hw.b id)).mono fun _ _ q => q.yes (stn_B hw.b id) (fun x => keyB x) h
theorem findTopic_no (m : Im) (p : Ip) (id : Int) (w : World) (hv : ImR w m p) (hw : Wf m 100000) (h : p.ts.find? (idQ id) = none) : Calls Tryz.prog 37 #[imv m p, .int .i64 id] w fun e w' => ∃ i : Nat, i ≤ p.ts.length ∧ (∀ b, insO (fun x : Tq => cmpN x.id id) b p.ts = p.ts.take i ++ b :: p.ts.drop i) ∧ e = .returned (.tuple #[.int .i64 (i : Int), .bool false]) ∧ Below w.heap.size w w' :=
 (findTopic_any m p id w hv (by rw [hv.len]; exact hw.nt) (hv.stn hw id)).mono fun _ _ q => q.no (hv.stn hw id) (fun x => keyT x) h
theorem findTopic_yes (m : Im) (p : Ip) (id : Int) (w : World) (hv : ImR w m p) (hw : Wf m 100000) (b : Tq) (h : p.ts.find? (idQ id) = some b) : Calls Tryz.prog 37 #[imv m p, .int .i64 id] w fun e w' => ∃ (i : Nat) (hi : i < p.ts.length), p.ts[i] = b ∧ (∀ b, insO (fun x : Tq => cmpN x.id id) b p.ts = p.ts.take i ++ b :: p.ts.drop (i + 1)) ∧ remO (fun x : Tq => cmpN x.id id) p.ts = p.ts.take i ++ p.ts.drop (i + 1) ∧ (∀ x ∈ p.ts.take i, cmpN x.id id < 0) ∧ (∀ x ∈ p.ts.drop (i + 1), 0 < cmpN x.id id) ∧ e = .returned (.tuple #[.int .i64 (i : Int), .bool true]) ∧ Below w.heap.size w w' :=
 (findTopic_any m p id w hv (by rw [hv.len]; exact hw.nt) (hv.stn hw id)).mono fun _ _ q => q.yes (hv.stn hw id) (fun x => keyT x) h
theorem Broker_no (m : Im) (p : Ip) (id : Int) (w : World) (hv : ImR w m p) (hw : Wf m 100000) (h : m.br.find? (idB id) = none) : Calls Tryz.prog 7 #[imv m p, .int .i64 id] w fun e w' => e = .returned (.tuple #[.agg #[.int .i64 0, .int .i64 0, .string ⟨#[]⟩, .bool false, .bool false], .bool false]) ∧ Below w.heap.size w w' := by
 have HC := Hd (fun W (h' : Below w.heap.size w W) => findBroker_no m p id W (hv.below h') hw h)
 have HA := Hd (fun v i W => atB_no v i W)
 clear hv hw h
 unfold imv at *
 go_enter Tryz.func7, Tryz.ntmps7
 go_wp2_with (first
  | (go_at_call 35; refine (HC.out _ (((Below.refl _ _).alloc (Nat.le_refl _) _).alloc (by simp) _)).mono ?_; rintro e w1 ⟨i, _, _, rfl, hb1⟩; obtain ⟨hI, hR, hb⟩ := Bx.mk2 w (iml m p) _ _ _ hb1; obtain ⟨i0, i1, i2, i3, i4⟩ := hI.im; have HR := Hd hR; have HB := Hd hb; clear hI hR hb hb1 HC)
  | (go_at_call 36; refine (HA.out _ _ _).mono ?_; rintro e w2 ⟨rfl, hb2⟩; replace HR := Hd (HR.out.below hb2); replace HB := Hd (bt HB.out hb2); clear hb2 HA i0 i1 i2 i3 i4)
  | (refine wS rfl _ _ _ rfl _ _ rfl HR.out _ rfl rfl (by kernel_rfl) rfl ?_; intro W3 hR3 _ hK3 _; have HR3 := Hd hR3; have HB3 := Hd (hK3 _ _ (Nat.le_succ _) HB.out); clear hR3 hK3 HR HB))
 obtain ⟨r0, r1, r2, r3, r4⟩ := HR3.out.c5
 exact bodyPost_ret (v := .tuple #[.agg #[.int .i64 0, .int .i64 0, .string ⟨#[]⟩, .bool false, .bool false], .bool false]) (by simp [results, Tryz.results7, go_sem, r0, r1, r2, r3, r4]) rfl ⟨rfl, HB3.out⟩
theorem Broker_yes (m : Im) (p : Ip) (id : Int) (w : World) (hv : ImR w m p) (hw : Wf m 100000) (b : Bk) (h : m.br.find? (idB id) = some b) : Calls Tryz.prog 7 #[imv m p, .int .i64 id] w fun e w' => e = .returned (.tuple #[.agg (bkc b).toArray, .bool true]) ∧ Below w.heap.size w w' := by
 have HC := Hd (fun W (h' : Below w.heap.size w W) => findBroker_yes m p id W (hv.below h') hw b h)
 have HA := Hd (fun W (h' : Below w.heap.size w W) i (hi : i < m.br.length) => atB_yes m.br _ _ _ i W rfl (hv.b.below h') hi)
 clear hv hw h
 unfold imv at *
 go_enter Tryz.func7, Tryz.ntmps7
 go_wp2_with (first
  | (go_at_call 35; refine (HC.out _ (((Below.refl _ _).alloc (Nat.le_refl _) _).alloc (by simp) _)).mono ?_; rintro e w1 ⟨i, hi, hib, _, _, _, _, rfl, hb1⟩; obtain ⟨hI, hR, hb⟩ := Bx.mk2 w (iml m p) _ _ _ hb1; obtain ⟨i0, i1, i2, i3, i4⟩ := hI.im; have HR := Hd hR; have HB := Hd hb; replace HA := Hd (HA.out w1 hb i hi); rw [hib] at HA; clear hI hR hb hb1 HC hib hi)
  | (go_at_call 36; refine HA.out.mono ?_; rintro e w2 ⟨rfl, hb2⟩; replace HR := Hd (HR.out.below hb2); replace HB := Hd (bt HB.out hb2); clear hb2 HA i0 i1 i2 i3 i4)
  | (refine wS rfl _ _ _ rfl _ _ rfl HR.out _ rfl rfl (by kernel_rfl) rfl ?_; intro W3 hR3 _ hK3 _; have HR3 := Hd hR3; have HB3 := Hd (hK3 _ _ (Nat.le_succ _) HB.out); clear hR3 hK3 HR HB))
 obtain ⟨r0, r1, r2, r3, r4⟩ := HR3.out.c5
 exact bodyPost_ret (v := .tuple #[.agg (bkc b).toArray, .bool true]) (by simp [results, Tryz.results7, go_sem, r0, r1, r2, r3, r4, bkc]) rfl ⟨rfl, HB3.out⟩
theorem Topic_no (m : Im) (p : Ip) (id : Int) (w : World) (hv : ImR w m p) (hw : Wf m 100000) (h : p.ts.find? (idQ id) = none) : Calls Tryz.prog 9 #[imv m p, .int .i64 id] w fun e w' => e = .returned (.tuple #[.agg #[.int .i64 0, .string ⟨#[]⟩, .slice none 0 0], .bool false]) ∧ Below w.heap.size w w' := by
 have HC := Hd (fun W (h' : Below w.heap.size w W) => findTopic_no m p id W (hv.below h') hw h)
 have HA := Hd (fun v i W => atT_no v i W)
 clear hv hw h
 unfold imv at *
 go_enter Tryz.func9, Tryz.ntmps9
 go_wp2_with (first
  | (go_at_call 37; refine (HC.out _ (((Below.refl _ _).alloc (Nat.le_refl _) _).alloc (by simp) _)).mono ?_; rintro e w1 ⟨i, _, _, rfl, hb1⟩; obtain ⟨hI, hR, hb⟩ := Bx.mk2 w (iml m p) _ _ _ hb1; obtain ⟨i0, i1, i2, i3, i4⟩ := hI.im; have HR := Hd hR; have HB := Hd hb; clear hI hR hb hb1 HC)
  | (go_at_call 38; refine (HA.out _ _ _).mono ?_; rintro e w2 ⟨rfl, hb2⟩; replace HR := Hd (HR.out.below hb2); replace HB := Hd (bt HB.out hb2); clear hb2 HA i0 i1 i2 i3 i4)
  | (refine wS rfl _ _ _ rfl _ _ rfl HR.out _ rfl rfl (by kernel_rfl) rfl ?_; intro W3 hR3 _ hK3 _; have HR3 := Hd hR3; have HB3 := Hd (hK3 _ _ (Nat.le_succ _) HB.out); clear hR3 hK3 HR HB))
 obtain ⟨r0, r1, r2⟩ := HR3.out.c3
 exact bodyPost_ret (v := .tuple #[.agg #[.int .i64 0, .string ⟨#[]⟩, .slice none 0 0], .bool false]) (by simp [results, Tryz.results9, go_sem, r0, r1, r2]) rfl ⟨rfl, HB3.out⟩
theorem Topic_yes (m : Im) (p : Ip) (id : Int) (w : World) (hv : ImR w m p) (hw : Wf m 100000) (b : Tq) (h : p.ts.find? (idQ id) = some b) : Calls Tryz.prog 9 #[imv m p, .int .i64 id] w fun e w' => e = .returned (.tuple #[.agg (tpc b).toArray, .bool true]) ∧ Below w.heap.size w w' := by
 have HC := Hd (fun W (h' : Below w.heap.size w W) => findTopic_yes m p id W (hv.below h') hw b h)
 have HA := Hd (fun W (h' : Below w.heap.size w W) i (hi : i < p.ts.length) => atT_yes p.ts _ _ _ i W rfl (hv.t.below h') hi)
 clear hv hw h
 unfold imv at *
 go_enter Tryz.func9, Tryz.ntmps9
 go_wp2_with (first
  | (go_at_call 37; refine (HC.out _ (((Below.refl _ _).alloc (Nat.le_refl _) _).alloc (by simp) _)).mono ?_; rintro e w1 ⟨i, hi, hib, _, _, _, _, rfl, hb1⟩; obtain ⟨hI, hR, hb⟩ := Bx.mk2 w (iml m p) _ _ _ hb1; obtain ⟨i0, i1, i2, i3, i4⟩ := hI.im; have HR := Hd hR; have HB := Hd hb; replace HA := Hd (HA.out w1 hb i hi); rw [hib] at HA; clear hI hR hb hb1 HC hib hi)
  | (go_at_call 38; refine HA.out.mono ?_; rintro e w2 ⟨rfl, hb2⟩; replace HR := Hd (HR.out.below hb2); replace HB := Hd (bt HB.out hb2); clear hb2 HA i0 i1 i2 i3 i4)
  | (refine wS rfl _ _ _ rfl _ _ rfl HR.out _ rfl rfl (by kernel_rfl) rfl ?_; intro W3 hR3 _ hK3 _; have HR3 := Hd hR3; have HB3 := Hd (hK3 _ _ (Nat.le_succ _) HB.out); clear hR3 hK3 HR HB))
 obtain ⟨r0, r1, r2⟩ := HR3.out.c3
 exact bodyPost_ret (v := .tuple #[.agg (tpc b).toArray, .bool true]) (by simp [results, Tryz.results9, go_sem, r0, r1, r2, tpc]) rfl ⟨rfl, HB3.out⟩
end Go.Proofs.YtlggjgapdpkhiaaGreat
namespace Go.Proofs.YtlggjgapdpkhiaaGreat
open Go.RowKit
set_option maxRecDepth 100000
set_option maxHeartbeats 2000000
theorem IxP.find_no {α : Type} {p : α → Bool} {l : List α} {w w' : World} {e : Ending} (h : IxP p l w w' e) (hn : l.find? p = Option.none) : e = .returned (.int .i64 (-1)) ∧ Below w.heap.size w w' := by
 obtain ⟨⟨k, hk, hp, _, rfl⟩ | ⟨_, rfl⟩, hb⟩ := h
 ·exact absurd hp (List.find?_eq_none.1 hn _ (List.getElem_mem hk))
 ·exact ⟨rfl, hb⟩
theorem IxP.find_yes {α : Type} {p : α → Bool} {l : List α} {w w' : World} {e : Ending} (h : IxP p l w w' e) {y : α} (hn : l.find? p = some y) : ∃ (k : Nat) (hk : k < l.length), l[k] = y ∧ e = .returned (.int .i64 (k : Int)) ∧ Below w.heap.size w w' := by
 obtain ⟨⟨k, hk, hp, hj, rfl⟩ | ⟨hn', rfl⟩, hb⟩ := h
 ·refine ⟨k, hk, ?_, rfl, hb⟩
  rw [← List.take_append_drop k l, List.find?_append, List.find?_eq_none.2 (fun x hx => by
   obtain ⟨j, hj1, rfl⟩ := List.getElem_of_mem hx
   rw [List.length_take] at hj1
   rw [List.getElem_take, hj j (by omega) (by omega)]
   simp), Option.none_or, List.drop_eq_getElem_cons hk, List.find?_cons_of_pos hp] at hn
  exact Option.some.inj hn
 ·obtain ⟨h1, h2⟩ := List.find?_eq_some_iff_append.1 hn
  exact absurd h1 (by rw [hn' y (List.mem_of_find?_eq_some hn)]; simp)
theorem registered_any (m : Im) (p : Ip) (id : Int) (w : World) (hv : ImR w m p) (hw : Wf m 100000) : Calls Tryz.prog 145 #[imv m p, .int .i64 id] w fun e w' => e = .returned (.bool (fB m.br id).isSome) ∧ Below w.heap.size w w' := by
 cases hf : fB m.br id with
 | none =>
  have HC := Hd (fun W (h' : Below w.heap.size w W) => findBroker_no m p id W (hv.below h') hw hf)
  clear hv hw hf
  unfold imv at *
  go_enter Tryz.func145, Tryz.ntmps145
  go_wp2_with (go_at_call 35; refine (HC.out _ (bA _ _)).mono ?_; rintro e w1 ⟨i, _, _, rfl, hb1⟩; have HB := Hd (bt (bA _ _) hb1); clear hb1 HC)
  go_ret
  exact ⟨rfl, HB.out⟩
 | some b =>
  have HC := Hd (fun W (h' : Below w.heap.size w W) => findBroker_yes m p id W (hv.below h') hw b hf)
  clear hv hw hf
  unfold imv at *
  go_enter Tryz.func145, Tryz.ntmps145
  go_wp2_with (go_at_call 35; refine (HC.out _ (bA _ _)).mono ?_; rintro e w1 ⟨i, _, _, _, _, _, _, rfl, hb1⟩; have HB := Hd (bt (bA _ _) hb1); clear hb1 HC)
  go_ret
  exact ⟨rfl, HB.out⟩
theorem Alive_any (m : Im) (p : Ip) (id : Int) (w : World) (hv : ImR w m p) (hw : Wf m 100000) : Calls Tryz.prog 22 #[imv m p, .int .i64 id] w fun e w' => e = .returned (.bool (alive m.br id)) ∧ Below w.heap.size w w' := by
 unfold alive
 cases hf : fB m.br id with
 | none =>
  have HC := Hd (fun W (h' : Below w.heap.size w W) => Broker_no m p id W (hv.below h') hw hf)
  clear hv hw hf
  unfold imv at *
  go_enter Tryz.func22, Tryz.ntmps22
  go_wp2_with (go_at_call 7; refine (HC.out _ (bA _ _)).mono ?_; rintro e w1 ⟨rfl, hb1⟩; have HB := Hd (bt (bA _ _) hb1); clear hb1 HC)
  go_ret
  exact ⟨rfl, HB.out.alloc HB.out.size _⟩
 | some b =>
  have HC := Hd (fun W (h' : Below w.heap.size w W) => Broker_yes m p id W (hv.below h') hw b hf)
  clear hv hw hf
  unfold imv bkc at *
  dsimp only
  generalize b.fe = F at *
  go_enter Tryz.func22, Tryz.ntmps22
  go_wp2_with (go_at_call 7; refine (HC.out _ (bA _ _)).mono ?_; rintro e w1 ⟨rfl, hb1⟩; have HB := Hd (bt (bA _ _) hb1); clear hb1 HC)
  go_ret
  exact ⟨rfl, HB.out.alloc HB.out.size _⟩
def nmQ (S : List UInt8) (t : Tq) : Bool := t.nm == S
theorem ImR.fN {W : World} {m : Im} {p : Ip} (h : ImR W m p) (S : List UInt8) : fN m.ts S = (p.ts.find? (nmQ S)).map Tq.tp := by
 unfold Go.Proofs.YtlggjgapdpkhiaaGreat.fN
 rw [← h.e, List.find?_map]
 rfl
theorem Named_no (m : Im) (p : Ip) (S : List UInt8) (w : World) (hv : ImR w m p) (hw : Wf m 100000) (h : p.ts.find? (nmQ S) = none) : Calls Tryz.prog 11 #[imv m p, .string ⟨S.toArray⟩] w fun e w' => e = .returned (.tuple #[.agg #[.int .i64 0, .string ⟨#[]⟩, .slice none 0 0], .bool false]) ∧ Below w.heap.size w w' := by
 have HC := Hd (fun W (h' : Below w.heap.size w W) (hB : W.cell? ⟨w.heap.size + 1, 0, none⟩ = some (.string ⟨S.toArray⟩)) => (ix_nam p.ts (nmQ S) p.aq _ p.cq (.pointer (some ⟨w.heap.size + 1, 0, none⟩)) W rfl (hv.t.below h') (by rw [hv.len]; exact hw.nt) (fun W' x hx h'' => cNam_any x S (w.heap.size + 1) W' ((h''.cell (p := ⟨w.heap.size + 1, 0, none⟩) (cB hB)).trans hB))).mono fun _ _ q => q.find_no h)
 have HA := Hd (fun v i W => atT_no v i W)
 clear hv hw h
 unfold imv at *
 go_enter Tryz.func11, Tryz.ntmps11
 go_wp2_with (first
  | (go_at_call 39; refine (HC.out _ (below_al3 _ _ _ _) (al3_mid _ _ _ _ _)).mono ?_; rintro e w1 ⟨rfl, hb1⟩; obtain ⟨hI, hN, hR, hb⟩ := Bx.mk3 w (iml m p) [.string ⟨S.toArray⟩] _ _ _ _ hb1; obtain ⟨i0, i1, i2, i3, i4⟩ := hI.im; have HR := Hd hR; have HB := Hd hb; clear hI hN hR hb hb1 HC)
  | (go_at_call 38; refine (HA.out _ _ _).mono ?_; rintro e w2 ⟨rfl, hb2⟩; replace HR := Hd (HR.out.below hb2); replace HB := Hd (bt HB.out hb2); clear hb2 HA i0 i1 i2 i3 i4)
  | (refine wS rfl _ _ _ rfl _ _ rfl HR.out _ rfl rfl (by kernel_rfl) rfl ?_; intro W3 hR3 _ hK3 _; have HR3 := Hd hR3; have HB3 := Hd (hK3 _ _ (by omega) HB.out); clear hR3 hK3 HR HB))
 obtain ⟨r0, r1, r2⟩ := HR3.out.c3
 exact bodyPost_ret (v := .tuple #[.agg #[.int .i64 0, .string ⟨#[]⟩, .slice none 0 0], .bool false]) (by simp [results, Tryz.results11, go_sem, r0, r1, r2]) rfl ⟨rfl, HB3.out⟩
theorem Named_yes (m : Im) (p : Ip) (S : List UInt8) (w : World) (hv : ImR w m p) (hw : Wf m 100000) (t : Tq) (h : p.ts.find? (nmQ S) = some t) : Calls Tryz.prog 11 #[imv m p, .string ⟨S.toArray⟩] w fun e w' => e = .returned (.tuple #[.agg (tpc t).toArray, .bool true]) ∧ Below w.heap.size w w' := by
 have HC := Hd (fun W (h' : Below w.heap.size w W) (hB : W.cell? ⟨w.heap.size + 1, 0, none⟩ = some (.string ⟨S.toArray⟩)) => (ix_nam p.ts (nmQ S) p.aq _ p.cq (.pointer (some ⟨w.heap.size + 1, 0, none⟩)) W rfl (hv.t.below h') (by rw [hv.len]; exact hw.nt) (fun W' x hx h'' => cNam_any x S (w.heap.size + 1) W' ((h''.cell (p := ⟨w.heap.size + 1, 0, none⟩) (cB hB)).trans hB))).mono fun _ _ q => q.find_yes h)
 have HA := Hd (fun W (h' : Below w.heap.size w W) i (hi : i < p.ts.length) => atT_yes p.ts _ _ _ i W rfl (hv.t.below h') hi)
 clear hv hw h
 unfold imv at *
 go_enter Tryz.func11, Tryz.ntmps11
 go_wp2_with (first
  | (go_at_call 39; refine (HC.out _ (below_al3 _ _ _ _) (al3_mid _ _ _ _ _)).mono ?_; rintro e w1 ⟨i, hi, hib, rfl, hb1⟩; obtain ⟨hI, hN, hR, hb⟩ := Bx.mk3 w (iml m p) [.string ⟨S.toArray⟩] _ _ _ _ hb1; obtain ⟨i0, i1, i2, i3, i4⟩ := hI.im; have HR := Hd hR; have HB := Hd hb; replace HA := Hd (HA.out w1 hb i hi); rw [hib] at HA; clear hI hN hR hb hb1 HC hib hi)
  | (go_at_call 38; refine HA.out.mono ?_; rintro e w2 ⟨rfl, hb2⟩; replace HR := Hd (HR.out.below hb2); replace HB := Hd (bt HB.out hb2); clear hb2 HA i0 i1 i2 i3 i4)
  | (refine wS rfl _ _ _ rfl _ _ rfl HR.out _ rfl rfl (by kernel_rfl) rfl ?_; intro W3 hR3 _ hK3 _; have HR3 := Hd hR3; have HB3 := Hd (hK3 _ _ (by omega) HB.out); clear hR3 hK3 HR HB))
 obtain ⟨r0, r1, r2⟩ := HR3.out.c3
 exact bodyPost_ret (v := .tuple #[.agg (tpc t).toArray, .bool true]) (by simp [results, Tryz.results11, go_sem, r0, r1, r2, tpc]) rfl ⟨rfl, HB3.out⟩
def ansV (o : Option Dn) : Value := match o with
 | some d => .tuple #[.int .i64 d.co, .bool true]
 | none => .tuple #[.int .i64 0, .bool false]
theorem Answered_any (m : Im) (p : Ip) (c s : Int) (w : World) (hv : ImR w m p) (hw : Wf m 100000) : Calls Tryz.prog 17 #[imv m p, .int .i64 c, .int .i64 s] w fun e w' => e = .returned (ansV (fD m.dn c s)) ∧ Below w.heap.size w w' := by
 have HX := Hd (fun W (h' : Below w.heap.size w W) (hB : W.cell? ⟨w.heap.size + 1, 0, none⟩ = some (.int .i64 c)) (hC : W.cell? ⟨w.heap.size + 1 + 1, 0, none⟩ = some (.int .i64 s)) => ix_ans m.dn (idD c s) p.ad _ p.cd (.pointer (some ⟨w.heap.size + 1, 0, none⟩)) (.pointer (some ⟨w.heap.size + 1 + 1, 0, none⟩)) W rfl (hv.d.below h') hw.nd (fun W' x hx h'' => cAns_any x c s (w.heap.size + 1) (w.heap.size + 1 + 1) W' ((h''.cell (p := ⟨w.heap.size + 1, 0, none⟩) (cB hB)).trans hB) ((h''.cell (p := ⟨w.heap.size + 1 + 1, 0, none⟩) (cB hC)).trans hC)))
 cases hf : fD m.dn c s with
 | none =>
  have HC := Hd (fun W h1 h2 h3 => (HX.out W h1 h2 h3).mono fun _ _ q => q.find_no hf)
  have HA := Hd (fun v i W => atD_no v i W)
  clear hv hw hf HX
  unfold imv ansV at *
  dsimp only
  go_enter Tryz.func17, Tryz.ntmps17
  go_wp2_with (first
   | (go_at_call 44; refine (HC.out _ (below_al3 _ _ _ _) (al3_mid _ _ _ _ _) (al3_end _ _ _ _ _)).mono ?_; rintro e w1 ⟨rfl, hb1⟩; obtain ⟨hI, _, _, hb⟩ := Bx.mk3 w (iml m p) [.int .i64 c] [.int .i64 s] _ _ _ hb1; obtain ⟨i0, i1, i2, i3, i4⟩ := hI.im; have HB := Hd hb; clear hI hb hb1 HC)
   | (go_at_call 46; refine (HA.out _ _ _).mono ?_; rintro e w2 ⟨rfl, hb2⟩; replace HB := Hd (bt HB.out hb2); clear hb2 HA i0 i1 i2 i3 i4))
  go_ret2
  exact ⟨rfl, HB.out.alloc HB.out.size _⟩
 | some d =>
  have HC := Hd (fun W h1 h2 h3 => (HX.out W h1 h2 h3).mono fun _ _ q => q.find_yes hf)
  have HA := Hd (fun W (h' : Below w.heap.size w W) i (hi : i < m.dn.length) => atD_yes m.dn _ _ _ i W rfl (hv.d.below h') hi)
  clear hv hw hf HX
  unfold imv ansV dnc at *
  dsimp only
  go_enter Tryz.func17, Tryz.ntmps17
  go_wp2_with (first
   | (go_at_call 44; refine (HC.out _ (below_al3 _ _ _ _) (al3_mid _ _ _ _ _) (al3_end _ _ _ _ _)).mono ?_; rintro e w1 ⟨i, hi, hib, rfl, hb1⟩; obtain ⟨hI, _, _, hb⟩ := Bx.mk3 w (iml m p) [.int .i64 c] [.int .i64 s] _ _ _ hb1; obtain ⟨i0, i1, i2, i3, i4⟩ := hI.im; have HB := Hd hb; replace HA := Hd (HA.out w1 hb i hi); rw [hib] at HA; clear hI hb hb1 HC hib hi)
   | (go_at_call 46; refine HA.out.mono ?_; rintro e w2 ⟨rfl, hb2⟩; replace HB := Hd (bt HB.out hb2); clear hb2 HA i0 i1 i2 i3 i4))
  go_ret2
  exact ⟨rfl, HB.out.alloc HB.out.size _⟩
end Go.Proofs.YtlggjgapdpkhiaaGreat
