/-
  WHAT IS ASKED OF METADATA (image's Broker, Topic, Named, Part, Config, Answered, Alive, Leads, holds, registered). Conditions: an image in order, its lists no longer than a hundred thousand.
  WHETHER A BROKER LEADS ANYTHING, OR IS A REPLICA (image.anyPart, Leads, holds). Conditions: an image in order, its lists no longer than a hundred thousand.
  WHAT IS ASKED OF METADATA (image.Broker, Topic, Named, Part, Config, Answered, Alive, registered). Conditions: an image in order, its lists no longer than a hundred thousand.
-/
import Derived.Test.YtfnemlbkmhcodaaGreatJImCba3
import Derived.Test.YtfnemlbkmhcodaaGreatJImXa3
namespace Go.Proofs.YtfnemlbkmhcodaaGreat
open Go.RowKit

theorem cNam_any (x : Tq) (S : List UInt8) (B : Nat) (w : World) (hB : w.cell? ⟨B, 0, none⟩ = some (.string ⟨S.toArray⟩)) : Calls Tryz.prog 44 #[.agg (tpc x).toArray, .pointer (some ⟨B, 0, none⟩)] w fun e w' => e = .returned (.bool (x.nm == S)) ∧ Below w.heap.size w w' := by
  have hl := cell_block hB
  unfold tpc
  go_enter Tryz.func44, Tryz.ntmps44
  go_wp2
  go_ret
  exact ⟨rfl, (Below.refl _ _).alloc (Nat.le_refl _) _⟩
theorem cDrp_any (x : Cf) (t : Int) (B : Nat) (w : World) (hB : w.cell? ⟨B, 3, none⟩ = some (.int .i64 t)) : Calls Tryz.prog 136 #[.agg (cfc x).toArray, .pointer (some ⟨B, 0, none⟩)] w fun e w' => e = .returned (.bool (x.tp == t)) ∧ Below w.heap.size w w' := by
  have hl := cell_block hB
  unfold cfc
  go_enter Tryz.func136, Tryz.ntmps136
  go_wp2
  go_ret
  exact ⟨rfl, (Below.refl _ _).alloc (Nat.le_refl _) _⟩
theorem cAns_any (x : Dn) (c s : Int) (B C : Nat) (w : World) (hB : w.cell? ⟨B, 0, none⟩ = some (.int .i64 c)) (hC : w.cell? ⟨C, 0, none⟩ = some (.int .i64 s)) : Calls Tryz.prog 49 #[.agg (dnc x).toArray, .pointer (some ⟨B, 0, none⟩), .pointer (some ⟨C, 0, none⟩)] w fun e w' => e = .returned (.bool (idD c s x)) ∧ Below w.heap.size w w' := by
  have hl := cell_block hB
  have hl' := cell_block hC
  unfold dnc idD
  cases h : (x.cl == c) with
  | true =>
    go_enter Tryz.func49, Tryz.ntmps49
    go_wp2
    go_ret
    exact ⟨rfl, (Below.refl _ _).alloc (Nat.le_refl _) _⟩
  | false =>
    go_enter Tryz.func49, Tryz.ntmps49
    go_wp2
    go_ret
    exact ⟨rfl, (Below.refl _ _).alloc (Nat.le_refl _) _⟩
theorem cLed_any (x : Pp) (id : Int) (B : Nat) (w : World) (hB : w.cell? ⟨B, 0, none⟩ = some (.int .i64 id)) : Calls Tryz.prog 55 #[.agg (ptc x).toArray, .pointer (some ⟨B, 0, none⟩)] w fun e w' => e = .returned (.bool (x.1.ld == id)) ∧ Below w.heap.size w w' := by
  have hl := cell_block hB
  unfold ptc
  go_enter Tryz.func55, Tryz.ntmps55
  go_wp2
  go_ret
  exact ⟨rfl, (Below.refl _ _).alloc (Nat.le_refl _) _⟩
theorem cHol_any (x : Pp) (id : Int) (B : Nat) (w : World) (hB : w.cell? ⟨B, 0, none⟩ = some (.int .i64 id)) (hx : PtR w x) (h7 : x.1.ids.length ≤ 7) : Calls Tryz.prog 158 #[.agg (ptc x).toArray, .pointer (some ⟨B, 0, none⟩)] w fun e w' => e = .returned (.bool (x.1.ids.contains id)) ∧ Below w.heap.size w w' := by
  have hl := cell_block hB
  have HC := hide (fun W (h : Below w.heap.size w W) => cont_any _ x.1.ids id W (hx.s0.below h) h7)
  clear hx h7
  generalize x.1.ids.contains id = A at *
  unfold ptc
  go_enter Tryz.func158, Tryz.ntmps158
  go_wp2_with (go_at_call 142; refine (HC.out _ ((Below.refl _ _).alloc (Nat.le_refl _) _)).mono ?_; rintro e w1 ⟨rfl, rfl⟩)
  go_ret
  exact ⟨rfl, (Below.refl _ _).alloc (Nat.le_refl _) _⟩
end Go.Proofs.YtfnemlbkmhcodaaGreat
namespace Go.Proofs.YtfnemlbkmhcodaaGreat
open Go.RowKit

set_option maxRecDepth 100000 in
theorem cL_any (t : Tq) (id : Int) (B C : Nat) (w : World) (hB : w.cell? ⟨B, 0, none⟩ = some (.func (.func 55) #[] #[.pointer (some ⟨C, 0, none⟩)])) (hC : w.cell? ⟨C, 0, none⟩ = some (.int .i64 id)) (ht : TqR w t) (hl : t.ps.length ≤ 100000) (_h7 : ∀ p ∈ t.ps, p.1.ids.length ≤ 7) :
    Calls Tryz.prog 88 #[.agg (tpc t).toArray, .pointer (some ⟨B, 0, none⟩)] w fun e w' => e = .returned (.bool (t.ps.any fun p => p.1.ld == id)) ∧ Below w.heap.size w w' := by
  have hb := cell_block hB
  have HC := hide (fun W (h : Below w.heap.size w W) => ct_led t.ps (fun p => p.1.ld == id) t.a _ t.c (.pointer (some ⟨C, 0, none⟩)) W rfl (ht.ps.below h) hl (fun W' x hx h' => cLed_any x id C W' (((bt h h').cell (p := ⟨C, 0, none⟩) (cell_block hC)).trans hC)))
  clear ht hl _h7
  generalize (t.ps.any fun p => p.1.ld == id) = A at *
  unfold tpc
  go_enter Tryz.func88, Tryz.ntmps88
  go_wp2_with (go_at_call 89; refine (HC.out _ ((Below.refl _ _).alloc (Nat.le_refl _) _)).mono ?_; rintro e w1 ⟨rfl, hb1⟩; have HB := hide hb1; clear hb1 HC)
  go_ret
  exact ⟨rfl, bt ((Below.refl _ _).alloc (Nat.le_refl _) _) HB.out⟩
set_option maxRecDepth 100000 in
theorem apL_any (m : Im) (p : Ip) (id : Int) (C : Nat) (w : World) (hv : ImR w m p) (hw : Wf m 100000) (hC : w.cell? ⟨C, 0, none⟩ = some (.int .i64 id)) :
    Calls Tryz.prog 54 #[imv m p, .func (.func 55) #[] #[.pointer (some ⟨C, 0, none⟩)]] w fun e w' => e = .returned (.bool (m.ts.any fun t => t.ps.any fun p => p.ld == id)) ∧ Below w.heap.size w w' := by
  have hc := cell_block hC
  have HC := hide (fun W (h : Below w.heap.size w W) (hB : W.cell? ⟨w.heap.size + 1, 0, none⟩ = some (.func (.func 55) #[] #[.pointer (some ⟨C, 0, none⟩)])) => ct_any p.ts (fun t => t.ps.any fun p => p.1.ld == id) p.aq _ p.cq (.pointer (some ⟨w.heap.size + 1, 0, none⟩)) W rfl (hv.t.below h) (by rw [hv.len]; exact hw.nt) (fun W' x hx h' => cL_any x id (w.heap.size + 1) C W' ((h'.cell (p := ⟨w.heap.size + 1, 0, none⟩) (cell_block hB)).trans hB) (((bt h h').cell (p := ⟨C, 0, none⟩) hc).trans hC) ((hv.q x hx).below (bt h h')) (hv.np hw hx) (fun q hq => (hv.wp hw hx hq).l0)))
  have he : (m.ts.any fun t => t.ps.any fun p => p.ld == id) = (p.ts.any fun t => t.ps.any fun p => p.1.ld == id) := by
    rw [← hv.e, List.any_map]
    congr 1
    funext t
    simp only [Function.comp, Tq.tp, List.any_map]
    rfl
  rw [he]
  clear hv hw he
  generalize (p.ts.any fun t => t.ps.any fun p => p.1.ld == id) = A at *
  unfold imv
  go_enter Tryz.func54, Tryz.ntmps54
  go_wp2_with (go_at_call 87; refine (HC.out _ (((Below.refl _ _).alloc (Nat.le_refl _) _).alloc (by simp) _) (by simp)).mono ?_; rintro e w1 ⟨rfl, hb1⟩; have HB := hide hb1; clear hb1 HC)
  go_ret
  exact ⟨rfl, bt (((Below.refl _ _).alloc (Nat.le_refl _) _).alloc (by simp) _) HB.out⟩
set_option maxRecDepth 100000 in
theorem Leads_any (m : Im) (p : Ip) (id : Int) (w : World) (hv : ImR w m p) (hw : Wf m 100000) :
    Calls Tryz.prog 26 #[imv m p, .int .i64 id] w fun e w' => e = .returned (.bool (leads m.ts id)) ∧ Below w.heap.size w w' := by
  have HC := hide (fun W (h : Below w.heap.size w W) (hB : W.cell? ⟨w.heap.size + 1, 0, none⟩ = some (.int .i64 id)) => apL_any m p id (w.heap.size + 1) W (hv.below h) hw hB)
  clear hv hw
  unfold imv at *
  unfold leads
  generalize (m.ts.any fun t => t.ps.any fun p => p.ld == id) = A at *
  go_enter Tryz.func26, Tryz.ntmps26
  go_wp2_with (go_at_call 54; refine (HC.out _ (((Below.refl _ _).alloc (Nat.le_refl _) _).alloc (by simp) _) (by simp)).mono ?_; rintro e w1 ⟨rfl, hb1⟩; have HB := hide hb1; clear hb1 HC)
  go_ret
  exact ⟨rfl, bt (((Below.refl _ _).alloc (Nat.le_refl _) _).alloc (by simp) _) HB.out⟩
set_option maxRecDepth 100000 in
theorem cH_any (t : Tq) (id : Int) (B C : Nat) (w : World) (hB : w.cell? ⟨B, 0, none⟩ = some (.func (.func 158) #[] #[.pointer (some ⟨C, 0, none⟩)])) (hC : w.cell? ⟨C, 0, none⟩ = some (.int .i64 id)) (ht : TqR w t) (hl : t.ps.length ≤ 100000) (h7 : ∀ p ∈ t.ps, p.1.ids.length ≤ 7) :
    Calls Tryz.prog 88 #[.agg (tpc t).toArray, .pointer (some ⟨B, 0, none⟩)] w fun e w' => e = .returned (.bool (t.ps.any fun p => p.1.ids.contains id)) ∧ Below w.heap.size w w' := by
  have hb := cell_block hB
  have HC := hide (fun W (h : Below w.heap.size w W) => ct_hol t.ps (fun p => p.1.ids.contains id) t.a _ t.c (.pointer (some ⟨C, 0, none⟩)) W rfl (ht.ps.below h) hl (fun W' x hx h' => cHol_any x id C W' (((bt h h').cell (p := ⟨C, 0, none⟩) (cell_block hC)).trans hC) ((ht.pt x hx).below (bt h h')) (h7 x hx)))
  clear ht hl h7
  generalize (t.ps.any fun p => p.1.ids.contains id) = A at *
  unfold tpc
  go_enter Tryz.func88, Tryz.ntmps88
  go_wp2_with (go_at_call 89; refine (HC.out _ ((Below.refl _ _).alloc (Nat.le_refl _) _)).mono ?_; rintro e w1 ⟨rfl, hb1⟩; have HB := hide hb1; clear hb1 HC)
  go_ret
  exact ⟨rfl, bt ((Below.refl _ _).alloc (Nat.le_refl _) _) HB.out⟩
set_option maxRecDepth 100000 in
theorem apH_any (m : Im) (p : Ip) (id : Int) (C : Nat) (w : World) (hv : ImR w m p) (hw : Wf m 100000) (hC : w.cell? ⟨C, 0, none⟩ = some (.int .i64 id)) :
    Calls Tryz.prog 54 #[imv m p, .func (.func 158) #[] #[.pointer (some ⟨C, 0, none⟩)]] w fun e w' => e = .returned (.bool (m.ts.any fun t => t.ps.any fun p => p.ids.contains id)) ∧ Below w.heap.size w w' := by
  have hc := cell_block hC
  have HC := hide (fun W (h : Below w.heap.size w W) (hB : W.cell? ⟨w.heap.size + 1, 0, none⟩ = some (.func (.func 158) #[] #[.pointer (some ⟨C, 0, none⟩)])) => ct_any p.ts (fun t => t.ps.any fun p => p.1.ids.contains id) p.aq _ p.cq (.pointer (some ⟨w.heap.size + 1, 0, none⟩)) W rfl (hv.t.below h) (by rw [hv.len]; exact hw.nt) (fun W' x hx h' => cH_any x id (w.heap.size + 1) C W' ((h'.cell (p := ⟨w.heap.size + 1, 0, none⟩) (cell_block hB)).trans hB) (((bt h h').cell (p := ⟨C, 0, none⟩) hc).trans hC) ((hv.q x hx).below (bt h h')) (hv.np hw hx) (fun q hq => (hv.wp hw hx hq).l0)))
  have he : (m.ts.any fun t => t.ps.any fun p => p.ids.contains id) = (p.ts.any fun t => t.ps.any fun p => p.1.ids.contains id) := by
    rw [← hv.e, List.any_map]
    congr 1
    funext t
    simp only [Function.comp, Tq.tp, List.any_map]
    rfl
  rw [he]
  clear hv hw he
  generalize (p.ts.any fun t => t.ps.any fun p => p.1.ids.contains id) = A at *
  unfold imv
  go_enter Tryz.func54, Tryz.ntmps54
  go_wp2_with (go_at_call 87; refine (HC.out _ (((Below.refl _ _).alloc (Nat.le_refl _) _).alloc (by simp) _) (by simp)).mono ?_; rintro e w1 ⟨rfl, hb1⟩; have HB := hide hb1; clear hb1 HC)
  go_ret
  exact ⟨rfl, bt (((Below.refl _ _).alloc (Nat.le_refl _) _).alloc (by simp) _) HB.out⟩
set_option maxRecDepth 100000 in
theorem holds_any (m : Im) (p : Ip) (id : Int) (w : World) (hv : ImR w m p) (hw : Wf m 100000) :
    Calls Tryz.prog 144 #[imv m p, .int .i64 id] w fun e w' => e = .returned (.bool (used m.ts id)) ∧ Below w.heap.size w w' := by
  have HC := hide (fun W (h : Below w.heap.size w W) (hB : W.cell? ⟨w.heap.size + 1, 0, none⟩ = some (.int .i64 id)) => apH_any m p id (w.heap.size + 1) W (hv.below h) hw hB)
  clear hv hw
  unfold imv at *
  unfold used
  generalize (m.ts.any fun t => t.ps.any fun p => p.ids.contains id) = A at *
  go_enter Tryz.func144, Tryz.ntmps144
  go_wp2_with (go_at_call 54; refine (HC.out _ (((Below.refl _ _).alloc (Nat.le_refl _) _).alloc (by simp) _) (by simp)).mono ?_; rintro e w1 ⟨rfl, hb1⟩; have HB := hide hb1; clear hb1 HC)
  go_ret
  exact ⟨rfl, bt (((Below.refl _ _).alloc (Nat.le_refl _) _).alloc (by simp) _) HB.out⟩
end Go.Proofs.YtfnemlbkmhcodaaGreat
namespace Go.Proofs.YtfnemlbkmhcodaaGreat
open Go.RowKit

theorem findBroker_no (m : Im) (p : Ip) (id : Int) (w : World) (hv : ImR w m p) (hw : Wf m 100000) (h : m.br.find? (idB id) = none) : Calls Tryz.prog 39 #[imv m p, .int .i64 id] w fun e w' => ∃ i : Nat, i ≤ m.br.length ∧ (∀ b, insO (fun x : Bk => cmpN x.id id) b m.br = m.br.take i ++ b :: m.br.drop i) ∧ e = .returned (.tuple #[.int .i64 (i : Int), .bool false]) ∧ Below w.heap.size w w' :=
  (findBroker_any m p id w hv hw.nb (stn_B hw.b id)).mono fun _ _ q => q.no (stn_B hw.b id) (fun x => keyB x) h
theorem findBroker_yes (m : Im) (p : Ip) (id : Int) (w : World) (hv : ImR w m p) (hw : Wf m 100000) (b : Bk) (h : m.br.find? (idB id) = some b) : Calls Tryz.prog 39 #[imv m p, .int .i64 id] w fun e w' => ∃ (i : Nat) (hi : i < m.br.length), m.br[i] = b ∧ (∀ b, insO (fun x : Bk => cmpN x.id id) b m.br = m.br.take i ++ b :: m.br.drop (i + 1)) ∧ remO (fun x : Bk => cmpN x.id id) m.br = m.br.take i ++ m.br.drop (i + 1) ∧ (∀ x ∈ m.br.take i, cmpN x.id id < 0) ∧ (∀ x ∈ m.br.drop (i + 1), 0 < cmpN x.id id) ∧ e = .returned (.tuple #[.int .i64 (i : Int), .bool true]) ∧ Below w.heap.size w w' :=
  (findBroker_any m p id w hv hw.nb (stn_B hw.b id)).mono fun _ _ q => q.yes (stn_B hw.b id) (fun x => keyB x) h
theorem findTopic_no (m : Im) (p : Ip) (id : Int) (w : World) (hv : ImR w m p) (hw : Wf m 100000) (h : p.ts.find? (idQ id) = none) : Calls Tryz.prog 41 #[imv m p, .int .i64 id] w fun e w' => ∃ i : Nat, i ≤ p.ts.length ∧ (∀ b, insO (fun x : Tq => cmpN x.id id) b p.ts = p.ts.take i ++ b :: p.ts.drop i) ∧ e = .returned (.tuple #[.int .i64 (i : Int), .bool false]) ∧ Below w.heap.size w w' :=
  (findTopic_any m p id w hv (by rw [hv.len]; exact hw.nt) (hv.stn hw id)).mono fun _ _ q => q.no (hv.stn hw id) (fun x => keyT x) h
theorem findTopic_yes (m : Im) (p : Ip) (id : Int) (w : World) (hv : ImR w m p) (hw : Wf m 100000) (b : Tq) (h : p.ts.find? (idQ id) = some b) : Calls Tryz.prog 41 #[imv m p, .int .i64 id] w fun e w' => ∃ (i : Nat) (hi : i < p.ts.length), p.ts[i] = b ∧ (∀ b, insO (fun x : Tq => cmpN x.id id) b p.ts = p.ts.take i ++ b :: p.ts.drop (i + 1)) ∧ remO (fun x : Tq => cmpN x.id id) p.ts = p.ts.take i ++ p.ts.drop (i + 1) ∧ (∀ x ∈ p.ts.take i, cmpN x.id id < 0) ∧ (∀ x ∈ p.ts.drop (i + 1), 0 < cmpN x.id id) ∧ e = .returned (.tuple #[.int .i64 (i : Int), .bool true]) ∧ Below w.heap.size w w' :=
  (findTopic_any m p id w hv (by rw [hv.len]; exact hw.nt) (hv.stn hw id)).mono fun _ _ q => q.yes (hv.stn hw id) (fun x => keyT x) h
set_option maxRecDepth 100000 in
set_option maxHeartbeats 2000000 in
theorem Broker_no (m : Im) (p : Ip) (id : Int) (w : World) (hv : ImR w m p) (hw : Wf m 100000) (h : m.br.find? (idB id) = none) : Calls Tryz.prog 9 #[imv m p, .int .i64 id] w fun e w' => e = .returned (.tuple #[.agg #[.int .i64 0, .int .i64 0, .string ⟨#[]⟩, .bool false, .bool false], .bool false]) ∧ Below w.heap.size w w' := by
  have HC := hide (fun W (h' : Below w.heap.size w W) => findBroker_no m p id W (hv.below h') hw h)
  have HA := hide (fun v i W => atB_no v i W)
  clear hv hw h
  unfold imv at *
  go_enter Tryz.func9, Tryz.ntmps9
  go_wp2_with (first
    | (go_at_call 39; refine (HC.out _ (((Below.refl _ _).alloc (Nat.le_refl _) _).alloc (by simp) _)).mono ?_; rintro e w1 ⟨i, _, _, rfl, hb1⟩; obtain ⟨hI, hR, hb⟩ := Bx.mk2 w (iml m p) _ _ _ hb1; obtain ⟨i0, i1, i2, i3, i4⟩ := hI.im; have HR := hide hR; have HB := hide hb; clear hI hR hb hb1 HC)
    | (go_at_call 40; refine (HA.out _ _ _).mono ?_; rintro e w2 ⟨rfl, hb2⟩; replace HR := hide (HR.out.below hb2); replace HB := hide (bt HB.out hb2); clear hb2 HA i0 i1 i2 i3 i4)
    | (refine wpList_set rfl _ _ _ rfl _ _ rfl HR.out _ rfl rfl (by kernel_rfl) rfl ?_; intro W3 hR3 _ hK3 _; have HR3 := hide hR3; have HB3 := hide (hK3 _ _ (Nat.le_succ _) HB.out); clear hR3 hK3 HR HB))
  obtain ⟨r0, r1, r2, r3, r4⟩ := HR3.out.c5
  exact bodyPost_ret (v := .tuple #[.agg #[.int .i64 0, .int .i64 0, .string ⟨#[]⟩, .bool false, .bool false], .bool false]) (by simp [results, Tryz.results9, go_sem, r0, r1, r2, r3, r4]) rfl ⟨rfl, HB3.out⟩
set_option maxRecDepth 100000 in
set_option maxHeartbeats 2000000 in
theorem Broker_yes (m : Im) (p : Ip) (id : Int) (w : World) (hv : ImR w m p) (hw : Wf m 100000) (b : Bk) (h : m.br.find? (idB id) = some b) : Calls Tryz.prog 9 #[imv m p, .int .i64 id] w fun e w' => e = .returned (.tuple #[.agg (bkc b).toArray, .bool true]) ∧ Below w.heap.size w w' := by
  have HC := hide (fun W (h' : Below w.heap.size w W) => findBroker_yes m p id W (hv.below h') hw b h)
  have HA := hide (fun W (h' : Below w.heap.size w W) i (hi : i < m.br.length) => atB_yes m.br _ _ _ i W rfl (hv.b.below h') hi)
  clear hv hw h
  unfold imv at *
  go_enter Tryz.func9, Tryz.ntmps9
  go_wp2_with (first
    | (go_at_call 39; refine (HC.out _ (((Below.refl _ _).alloc (Nat.le_refl _) _).alloc (by simp) _)).mono ?_; rintro e w1 ⟨i, hi, hib, _, _, _, _, rfl, hb1⟩; obtain ⟨hI, hR, hb⟩ := Bx.mk2 w (iml m p) _ _ _ hb1; obtain ⟨i0, i1, i2, i3, i4⟩ := hI.im; have HR := hide hR; have HB := hide hb; replace HA := hide (HA.out w1 hb i hi); rw [hib] at HA; clear hI hR hb hb1 HC hib hi)
    | (go_at_call 40; refine HA.out.mono ?_; rintro e w2 ⟨rfl, hb2⟩; replace HR := hide (HR.out.below hb2); replace HB := hide (bt HB.out hb2); clear hb2 HA i0 i1 i2 i3 i4)
    | (refine wpList_set rfl _ _ _ rfl _ _ rfl HR.out _ rfl rfl (by kernel_rfl) rfl ?_; intro W3 hR3 _ hK3 _; have HR3 := hide hR3; have HB3 := hide (hK3 _ _ (Nat.le_succ _) HB.out); clear hR3 hK3 HR HB))
  obtain ⟨r0, r1, r2, r3, r4⟩ := HR3.out.c5
  exact bodyPost_ret (v := .tuple #[.agg (bkc b).toArray, .bool true]) (by simp [results, Tryz.results9, go_sem, r0, r1, r2, r3, r4, bkc]) rfl ⟨rfl, HB3.out⟩
set_option maxRecDepth 100000 in
set_option maxHeartbeats 2000000 in
theorem Topic_no (m : Im) (p : Ip) (id : Int) (w : World) (hv : ImR w m p) (hw : Wf m 100000) (h : p.ts.find? (idQ id) = none) : Calls Tryz.prog 11 #[imv m p, .int .i64 id] w fun e w' => e = .returned (.tuple #[.agg #[.int .i64 0, .string ⟨#[]⟩, .slice none 0 0], .bool false]) ∧ Below w.heap.size w w' := by
  have HC := hide (fun W (h' : Below w.heap.size w W) => findTopic_no m p id W (hv.below h') hw h)
  have HA := hide (fun v i W => atT_no v i W)
  clear hv hw h
  unfold imv at *
  go_enter Tryz.func11, Tryz.ntmps11
  go_wp2_with (first
    | (go_at_call 41; refine (HC.out _ (((Below.refl _ _).alloc (Nat.le_refl _) _).alloc (by simp) _)).mono ?_; rintro e w1 ⟨i, _, _, rfl, hb1⟩; obtain ⟨hI, hR, hb⟩ := Bx.mk2 w (iml m p) _ _ _ hb1; obtain ⟨i0, i1, i2, i3, i4⟩ := hI.im; have HR := hide hR; have HB := hide hb; clear hI hR hb hb1 HC)
    | (go_at_call 42; refine (HA.out _ _ _).mono ?_; rintro e w2 ⟨rfl, hb2⟩; replace HR := hide (HR.out.below hb2); replace HB := hide (bt HB.out hb2); clear hb2 HA i0 i1 i2 i3 i4)
    | (refine wpList_set rfl _ _ _ rfl _ _ rfl HR.out _ rfl rfl (by kernel_rfl) rfl ?_; intro W3 hR3 _ hK3 _; have HR3 := hide hR3; have HB3 := hide (hK3 _ _ (Nat.le_succ _) HB.out); clear hR3 hK3 HR HB))
  obtain ⟨r0, r1, r2⟩ := HR3.out.c3
  exact bodyPost_ret (v := .tuple #[.agg #[.int .i64 0, .string ⟨#[]⟩, .slice none 0 0], .bool false]) (by simp [results, Tryz.results11, go_sem, r0, r1, r2]) rfl ⟨rfl, HB3.out⟩
set_option maxRecDepth 100000 in
set_option maxHeartbeats 2000000 in
theorem Topic_yes (m : Im) (p : Ip) (id : Int) (w : World) (hv : ImR w m p) (hw : Wf m 100000) (b : Tq) (h : p.ts.find? (idQ id) = some b) : Calls Tryz.prog 11 #[imv m p, .int .i64 id] w fun e w' => e = .returned (.tuple #[.agg (tpc b).toArray, .bool true]) ∧ Below w.heap.size w w' := by
  have HC := hide (fun W (h' : Below w.heap.size w W) => findTopic_yes m p id W (hv.below h') hw b h)
  have HA := hide (fun W (h' : Below w.heap.size w W) i (hi : i < p.ts.length) => atT_yes p.ts _ _ _ i W rfl (hv.t.below h') hi)
  clear hv hw h
  unfold imv at *
  go_enter Tryz.func11, Tryz.ntmps11
  go_wp2_with (first
    | (go_at_call 41; refine (HC.out _ (((Below.refl _ _).alloc (Nat.le_refl _) _).alloc (by simp) _)).mono ?_; rintro e w1 ⟨i, hi, hib, _, _, _, _, rfl, hb1⟩; obtain ⟨hI, hR, hb⟩ := Bx.mk2 w (iml m p) _ _ _ hb1; obtain ⟨i0, i1, i2, i3, i4⟩ := hI.im; have HR := hide hR; have HB := hide hb; replace HA := hide (HA.out w1 hb i hi); rw [hib] at HA; clear hI hR hb hb1 HC hib hi)
    | (go_at_call 42; refine HA.out.mono ?_; rintro e w2 ⟨rfl, hb2⟩; replace HR := hide (HR.out.below hb2); replace HB := hide (bt HB.out hb2); clear hb2 HA i0 i1 i2 i3 i4)
    | (refine wpList_set rfl _ _ _ rfl _ _ rfl HR.out _ rfl rfl (by kernel_rfl) rfl ?_; intro W3 hR3 _ hK3 _; have HR3 := hide hR3; have HB3 := hide (hK3 _ _ (Nat.le_succ _) HB.out); clear hR3 hK3 HR HB))
  obtain ⟨r0, r1, r2⟩ := HR3.out.c3
  exact bodyPost_ret (v := .tuple #[.agg (tpc b).toArray, .bool true]) (by simp [results, Tryz.results11, go_sem, r0, r1, r2, tpc]) rfl ⟨rfl, HB3.out⟩
end Go.Proofs.YtfnemlbkmhcodaaGreat
