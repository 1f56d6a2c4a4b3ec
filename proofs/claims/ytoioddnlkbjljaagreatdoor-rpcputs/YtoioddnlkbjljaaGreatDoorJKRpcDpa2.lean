/-
  A MESSAGE INTO A FRAME, BY THE DOCUMENT (castellanref07.Bytes, castellanref07.Put). Conditions: the message's slices' cells hold what they hold, its records' texts are not too long.
  RpcPuts' WALK: any message into a frame, or what is wrong with it. Conditions: the message's slices' cells hold what they hold; errors.errorType is laid.
-/
import Derived.Test.YtoioddnlkbjljaaGreatDoorJKRpcDba3
import Derived.Test.YtoioddnlkbjljaaGreatDoorJKRpcDk
import Derived.Test.YtoioddnlkbjljaaGreatDoorJKRpcPpa6
import Derived.Test.YtoioddnlkbjljaaGreatDoorJKRpcWk
import Derived.Test.YtoioddnlkbjljaaGreatDoorJKRpcSea3
import Derived.Test.YtoioddnlkbjljaaGreatDoorJKRpcRda3
namespace Go.Proofs.YtoioddnlkbjljaaGreatDoor
open Go.RowKit

theorem rmbytes_any (m : Ms) (v : Value) (w : World) (hv : IsM w v m) (hl : Lite m) (hle : ∀ x ∈ m.bs, (bytL x).length ≤ 16384) : Calls Tryz.prog 26 #[v] w fun e w' => ∃ u, e = .returned u ∧ Sl bc w' u (tailM m) ∧ Below w.heap.size w w' := by
  obtain ⟨ab, cb, ad, cd, qs, rfl, hm⟩ := isM_form hv
  have hn : ∀ x ∈ [m.fr, m.tn, m.t, m.ld, m.pa, m.pt, m.hi, m.co, m.sz, m.po], x ≤ 9223372036854775807 := fun x hx => hl.n x (by simpa [Ms.n3, Ms.n7] using hx)
  refine rmbytes_go m.k m.fr m.tn m.t m.ld m.pa m.pt m.hi m.co m.sz m.po m.pre m.ok ab ad m.bs.length cb m.da.length cd (fun c => hasM m.k c) qs m.da w (hn _ (by simp)) (hn _ (by simp)) (hn _ (by simp)) (hn _ (by simp)) (hn _ (by simp)) (hn _ (by simp)) (hn _ (by simp)) (hn _ (by simp)) (hn _ (by simp)) (hn _ (by simp)) (by have := hl.bl; omega) (by have := hl.bl; omega) (hide (fun c W => rmhas_any m.k c W)) (hide hm.bl) hm.len (hide hm.da) (by have := hl.da; omega) (hide (by rw [hm.bs]; exact hl.bs)) (hide (by rw [hm.bs]; exact hle)) _ (hide ?_)
  rw [hm.bs]
  simp [tailM, h3, Ms.n3, hF2, hN7, Ms.n7, encs, enI, enF, List.append_assoc]
/-- Two results in cells. -/
theorem results_mid3 {P : Program} {fn : Func} {q r : Tmp} {ty ty' : TypeId} (h : fn.results = #[.cell q ty, .cell r ty']) (tmps : Array Value) (w : World) (b : Nat) (cs : List Value) (d : TypeDesc) (b' : Nat) (cs' : List Value) (d' : TypeDesc) (hp : tmps.getD q undef = .pointer (some ⟨b, 0, none⟩)) (hp2 : tmps.getD r undef = .pointer (some ⟨b', 0, none⟩)) (hc : w.rangeAt b 0 cs) (hu : P.underlying ty = some d) (hd : d.isRow = true) (hi : (P.info? ty).map (·.size) = some cs.length) (hc' : w.rangeAt b' 0 cs') (hu' : P.underlying ty' = some d') (hd' : d'.isRow = true) (hi' : (P.info? ty').map (·.size) = some cs'.length) :
    (results fn tmps).run P w = .ok (.tuple #[.agg cs.toArray, .agg cs'.toArray]) w := by
  have hp' : tmps[q]?.getD undef = .pointer (some ⟨b, 0, none⟩) := by simpa using hp
  have hp2' : tmps[r]?.getD undef = .pointer (some ⟨b', 0, none⟩) := by simpa using hp2
  simp [results, h, hp', hp2', asAddr, run_loadVar_mid w b 0 ty cs d hc hu hd hi, run_loadVar_mid w b' 0 ty' cs' d' hc' hu' hd' hi']
/-- A message in its cells, and two results that are not yet. -/
structure Ktw (w W : World) (L : List Value) : Prop where
  rg : W.rangeAt w.heap.size 0 L
  a0 : W.cell? ⟨w.heap.size + 1, 0, none⟩ = some (.int .i64 0)
  a1 : W.cell? ⟨w.heap.size + 1, 1, none⟩ = some (.slice none 0 0)
  r0 : W.cell? ⟨w.heap.size + 1 + 1, 0, none⟩ = some (.string ⟨#[]⟩)
  r1 : W.cell? ⟨w.heap.size + 1 + 1, 1, none⟩ = some (.int .i64 0)
  r2 : W.cell? ⟨w.heap.size + 1 + 1, 2, none⟩ = some (.int .i64 0)
  r3 : W.cell? ⟨w.heap.size + 1 + 1, 3, none⟩ = some (.int .i64 0)
  af : ∀ i, W.frozen? ⟨w.heap.size + 1, i, none⟩ = false
  rf : ∀ i, W.frozen? ⟨w.heap.size + 1 + 1, i, none⟩ = false
  be : Below w.heap.size w W
theorem Ktw.below {w W W' : World} {L : List Value} (h : Ktw w W L) (hb : Below W.heap.size W W') : Ktw w W' L := by
  have hz : w.heap.size + 1 + 1 < W.heap.size := cell_block h.r0
  have hz1 : w.heap.size + 1 < W.heap.size := by omega
  have hc : ∀ i, W'.cell? ⟨w.heap.size + 1 + 1, i, none⟩ = W.cell? ⟨w.heap.size + 1 + 1, i, none⟩ := fun i => hb.cell (p := ⟨w.heap.size + 1 + 1, i, none⟩) hz
  have hc1 : ∀ i, W'.cell? ⟨w.heap.size + 1, i, none⟩ = W.cell? ⟨w.heap.size + 1, i, none⟩ := fun i => hb.cell (p := ⟨w.heap.size + 1, i, none⟩) hz1
  exact ⟨range_bel h.rg hb, (hc1 0).trans h.a0, (hc1 1).trans h.a1, (hc 0).trans h.r0, (hc 1).trans h.r1, (hc 2).trans h.r2, (hc 3).trans h.r3, fun i => (hb.frozen (p := ⟨w.heap.size + 1, i, none⟩) hz1).trans (h.af i), fun i => (hb.frozen (p := ⟨w.heap.size + 1 + 1, i, none⟩) hz).trans (h.rf i), h.be.trans (hb.mono h.be.size)⟩
theorem ktw_new (w : World) (L : List Value) {X : World} (hX : X = ((w.alloc (.cells L.toArray 25)).alloc (.cells #[.int .i64 0, .slice none 0 0] 29)).alloc (.cells #[.string ⟨#[]⟩, .int .i64 0, .int .i64 0, .int .i64 0] 38)) : Ktw w X L := by
  subst hX
  have h1 : (w.alloc (.cells L.toArray 25)).heap.size = w.heap.size + 1 := by simp
  have b1 : Below w.heap.size w (w.alloc (.cells L.toArray 25)) := (Below.refl _ _).alloc (Nat.le_refl _) _
  have g := range_new w L 25
  generalize w.alloc (.cells L.toArray 25) = W1 at *
  have h2 : (W1.alloc (.cells #[.int .i64 0, .slice none 0 0] 29)).heap.size = W1.heap.size + 1 := by simp
  have b2 : Below W1.heap.size W1 (W1.alloc (.cells #[.int .i64 0, .slice none 0 0] 29)) := (Below.refl _ _).alloc (Nat.le_refl _) _
  have g2 := range_new W1 [.int .i64 0, .slice none 0 0] 29
  have z2 : ∀ i, (W1.alloc (.cells #[.int .i64 0, .slice none 0 0] 29)).frozen? ⟨W1.heap.size, i, none⟩ = false := fun i => by simp
  change (W1.alloc (.cells #[.int .i64 0, .slice none 0 0] 29)).rangeAt _ _ _ at g2
  generalize W1.alloc (.cells #[.int .i64 0, .slice none 0 0] 29) = W2 at *
  have b3 : Below W2.heap.size W2 (W2.alloc (.cells #[.string ⟨#[]⟩, .int .i64 0, .int .i64 0, .int .i64 0] 38)) := (Below.refl _ _).alloc (Nat.le_refl _) _
  have g3 := range_new W2 [.string ⟨#[]⟩, .int .i64 0, .int .i64 0, .int .i64 0] 38
  have z3 : ∀ i, (W2.alloc (.cells #[.string ⟨#[]⟩, .int .i64 0, .int .i64 0, .int .i64 0] 38)).frozen? ⟨W2.heap.size, i, none⟩ = false := fun i => by simp
  change (W2.alloc (.cells #[.string ⟨#[]⟩, .int .i64 0, .int .i64 0, .int .i64 0] 38)).rangeAt _ _ _ at g3
  generalize W2.alloc (.cells #[.string ⟨#[]⟩, .int .i64 0, .int .i64 0, .int .i64 0] 38) = X at *
  have b23 : Below W1.heap.size W1 X := b2.trans (b3.mono b2.size)
  have z2' : ∀ i, X.frozen? ⟨W1.heap.size, i, none⟩ = false := fun i => (b3.frozen (p := ⟨W1.heap.size, i, none⟩) (by show W1.heap.size < _; omega)).trans (z2 i)
  have g2' := range_bel g2 b3
  rw [h1] at g2' z2'
  rw [h2, h1] at g3 z3
  exact ⟨range_bel g b23, by simpa using g2' 0 _ rfl, by simpa using g2' 1 _ rfl, by simpa using g3 0 _ rfl, by simpa using g3 1 _ rfl, by simpa using g3 2 _ rfl, by simpa using g3 3 _ rfl, z2', z3, b1.trans (b23.mono b1.size)⟩
theorem Ktw.ea {w W : World} {L : List Value} (h : Ktw w W L) (f0 f1 a b c d : Value) : ((((((W.setCell ⟨w.heap.size + 1, 0, none⟩ f0).setCell ⟨w.heap.size + 1, 1, none⟩ f1).setCell ⟨w.heap.size + 1 + 1, 0, none⟩ a).setCell ⟨w.heap.size + 1 + 1, 1, none⟩ b).setCell ⟨w.heap.size + 1 + 1, 2, none⟩ c).setCell ⟨w.heap.size + 1 + 1, 3, none⟩ d).rangeAt (w.heap.size + 1) 0 [f0, f1] ∧ ((((((W.setCell ⟨w.heap.size + 1, 0, none⟩ f0).setCell ⟨w.heap.size + 1, 1, none⟩ f1).setCell ⟨w.heap.size + 1 + 1, 0, none⟩ a).setCell ⟨w.heap.size + 1 + 1, 1, none⟩ b).setCell ⟨w.heap.size + 1 + 1, 2, none⟩ c).setCell ⟨w.heap.size + 1 + 1, 3, none⟩ d).rangeAt (w.heap.size + 1 + 1) 0 [a, b, c, d] ∧ Below w.heap.size w ((((((W.setCell ⟨w.heap.size + 1, 0, none⟩ f0).setCell ⟨w.heap.size + 1, 1, none⟩ f1).setCell ⟨w.heap.size + 1 + 1, 0, none⟩ a).setCell ⟨w.heap.size + 1 + 1, 1, none⟩ b).setCell ⟨w.heap.size + 1 + 1, 2, none⟩ c).setCell ⟨w.heap.size + 1 + 1, 3, none⟩ d) := by
  have a0 := h.a0
  have a1 := h.a1
  have r0 := h.r0
  have r1 := h.r1
  have r2 := h.r2
  have r3 := h.r3
  refine ⟨fun j u hj => ?_, fun j u hj => ?_, ((((((h.be.setCell (by exact Nat.le_succ _) _).setCell (by exact Nat.le_succ _) _).setCell (by exact Nat.le_succ_of_le (Nat.le_succ _)) _).setCell (by exact Nat.le_succ_of_le (Nat.le_succ _)) _).setCell (by exact Nat.le_succ_of_le (Nat.le_succ _)) _).setCell (by exact Nat.le_succ_of_le (Nat.le_succ _)) _)⟩
  · match j, hj with
    | 0, hj => cases hj; simp [go_sem, *]
    | 1, hj => cases hj; simp [go_sem, *]
    | _ + 2, hj => cases hj
  · match j, hj with
    | 0, hj => cases hj; simp [go_sem, *]
    | 1, hj => cases hj; simp [go_sem, *]
    | 2, hj => cases hj; simp [go_sem, *]
    | 3, hj => cases hj; simp [go_sem, *]
    | _ + 4, hj => cases hj
theorem Ktw.sl {w W : World} {L : List Value} (h : Ktw w W L) {v : Value} {l : List Int} (hs : Sl bc W v l) (f0 f1 a b c d : Value) : Sl bc ((((((W.setCell ⟨w.heap.size + 1, 0, none⟩ f0).setCell ⟨w.heap.size + 1, 1, none⟩ f1).setCell ⟨w.heap.size + 1 + 1, 0, none⟩ a).setCell ⟨w.heap.size + 1 + 1, 1, none⟩ b).setCell ⟨w.heap.size + 1 + 1, 2, none⟩ c).setCell ⟨w.heap.size + 1 + 1, 3, none⟩ d) v l := by
  have a0 := h.a0
  have a1 := h.a1
  have r0 := h.r0
  have r1 := h.r1
  have r2 := h.r2
  have r3 := h.r3
  rcases hs with hs | ⟨g, o, cap, e1, e2, e3⟩
  · exact .inl hs
  · refine .inr ⟨g, o, cap, e1, e2, fun i hi => ?_⟩
    have e := e3 i hi
    have no : ∀ (p : Addr) (x : Value), W.cell? p = some x → (∀ n, x ≠ bc n) → (⟨g, o + i, none⟩ : Addr) ≠ p := fun p x hp hx q => by
      rw [q, hp] at e
      exact hx _ (Option.some.inj e)
    rw [World.cell?_setCell_other _ _ _ _ (fun q => no _ _ r3 (by intro n; simp [bc]) q.symm), World.cell?_setCell_other _ _ _ _ (fun q => no _ _ r2 (by intro n; simp [bc]) q.symm), World.cell?_setCell_other _ _ _ _ (fun q => no _ _ r1 (by intro n; simp [bc]) q.symm), World.cell?_setCell_other _ _ _ _ (fun q => no _ _ r0 (by intro n; simp [bc]) q.symm), World.cell?_setCell_other _ _ _ _ (fun q => no _ _ a1 (by intro n; simp [bc]) q.symm), World.cell?_setCell_other _ _ _ _ (fun q => no _ _ a0 (by intro n; simp [bc]) q.symm)]
    exact e
set_option maxRecDepth 100000 in
set_option maxHeartbeats 64000000 in
theorem rmput_go (k fr tn t ld pa pt hi co sz po : Int) (pre ok : Bool) (ab ad : Option Addr) (nb cb nd cd : Nat) (qs : List Bq) (w : World) (op : ByteArray) (n c : Int) (RES : List Int) (Q : Int → List Int → ByteArray → Int → Int → Prop)
    (HC : Hid (∀ W, Below w.heap.size w W → Calls Tryz.prog 24 #[.agg #[.int .i64 k, .int .i64 fr, .int .i64 tn, .int .i64 t, .bool pre, .bool ok, .int .i64 ld, .int .i64 pa, .int .i64 pt, .int .i64 hi, .int .i64 co, .slice ab nb cb, .int .i64 sz, .int .i64 po, .slice ad nd cd]] W fun e w' => e = .returned (.agg #[.string op, .int .i64 n, .int .i64 c, .int .i64 (-1)]) ∧ Below W.heap.size W w'))
    (HB : Hid (c = 0 → (∀ x ∈ bts qs, (bytL x).length ≤ 16384) → ∀ W, Below w.heap.size w W → Calls Tryz.prog 26 #[.agg #[.int .i64 k, .int .i64 fr, .int .i64 tn, .int .i64 t, .bool pre, .bool ok, .int .i64 ld, .int .i64 pa, .int .i64 pt, .int .i64 hi, .int .i64 co, .slice ab nb cb, .int .i64 sz, .int .i64 po, .slice ad nd cd]] W fun e w' => ∃ a2 c2, e = .returned (.slice a2 RES.length c2) ∧ Sl bc w' (.slice a2 RES.length c2) RES ∧ Below W.heap.size W w'))
    (hm : Bl w (.slice ab nb cb) qs) (hnb : qs.length = nb) (hn8 : c = 0 → nb ≤ 8) (htx : ∀ x ∈ bts qs, ∀ r ∈ x.rs, TxR r) (HOK : Hid (c = 0 → ∀ x ∈ bts qs, (bw x).c = 0))
    (HQ1 : Hid (c ≠ 0 → Q 0 [] op n c)) (HQ2 : Hid (c = 0 → ∀ (j : Nat) (hj : j < (bts qs).length), (∀ x ∈ (bts qs).take j, (bytL x).length ≤ 16384) → ¬ (bytL (bts qs)[j]).length ≤ 16384 → Q 0 [] ⟨#[98, 97, 116, 99, 104]⟩ (j : Int) 6))
    (HQ3 : Hid (c = 0 → (∀ x ∈ bts qs, (bytL x).length ≤ 16384) → ¬ RES.length ≤ 16384 → Q 0 [] ⟨#[109, 101, 115, 115, 97, 103, 101]⟩ (RES.length : Int) 6)) (HQ4 : Hid (c = 0 → (∀ x ∈ bts qs, (bytL x).length ≤ 16384) → RES.length ≤ 16384 → Q k RES ⟨#[]⟩ 0 0)) :
    Calls Tryz.prog 8 #[.agg #[.int .i64 k, .int .i64 fr, .int .i64 tn, .int .i64 t, .bool pre, .bool ok, .int .i64 ld, .int .i64 pa, .int .i64 pt, .int .i64 hi, .int .i64 co, .slice ab nb cb, .int .i64 sz, .int .i64 po, .slice ad nd cd]] w fun e w' => ∃ k9 y l9 o9 n9 c9, e = .returned (.tuple #[.agg #[.int .i64 k9, y], .agg #[.string o9, .int .i64 n9, .int .i64 c9, .int .i64 (-1)]]) ∧ Q k9 l9 o9 n9 c9 ∧ Sl bc w' y l9 ∧ Below w.heap.size w w' := by
  have HM := hide hm
  have HTX := hide htx
  have HN8 := hide hn8
  clear hm htx hn8
  obtain ⟨X, hX⟩ : ∃ X, X = ((w.alloc (.cells #[.int .i64 k, .int .i64 fr, .int .i64 tn, .int .i64 t, .bool pre, .bool ok, .int .i64 ld, .int .i64 pa, .int .i64 pt, .int .i64 hi, .int .i64 co, .slice ab nb cb, .int .i64 sz, .int .i64 po, .slice ad nd cd] 25)).alloc (.cells #[.int .i64 0, .slice none 0 0] 29)).alloc (.cells #[.string ⟨#[]⟩, .int .i64 0, .int .i64 0, .int .i64 0] 38) := ⟨_, rfl⟩
  have HK := hide (ktw_new w [.int .i64 k, .int .i64 fr, .int .i64 tn, .int .i64 t, .bool pre, .bool ok, .int .i64 ld, .int .i64 pa, .int .i64 pt, .int .i64 hi, .int .i64 co, .slice ab nb cb, .int .i64 sz, .int .i64 po, .slice ad nd cd] hX)
  go_enter Tryz.func8, Tryz.ntmps8
  go_upto_region 1 with fail
  rw [← hX]
  clear hX
  go_upto_region 2 with (first | (refine wpList_load_mid rfl _ _ rfl _ _ rfl _ _ HK.out.rg Tryz.underlying25 rfl (by kernel_rfl) ?_) | (go_at_call 24; refine (HC.out X HK.out.be).mono ?_; rintro e V1 ⟨rfl, hb1⟩))
  obtain ⟨V, hV⟩ : ∃ V, V = V1.alloc (.cells #[.string op, .int .i64 n, .int .i64 c, .int .i64 (-1)] 38) := ⟨_, rfl⟩
  have hbV : Below X.heap.size X V := by rw [hV]; exact hb1.alloc hb1.size _
  have d0 : V.cell? ⟨V1.heap.size, 0, none⟩ = some (.string op) := by rw [hV]; simp
  have d1 : V.cell? ⟨V1.heap.size, 1, none⟩ = some (.int .i64 n) := by rw [hV]; simp
  have d2 : V.cell? ⟨V1.heap.size, 2, none⟩ = some (.int .i64 c) := by rw [hV]; simp
  have d3 : V.cell? ⟨V1.heap.size, 3, none⟩ = some (.int .i64 (-1)) := by rw [hV]; simp
  show Code.wp _ _ _ _ _
  rw [← hV]
  have HKX := HK
  replace HK := hide (HK.out.below hbV)
  have hz : w.heap.size + 1 + 1 < V1.heap.size := Nat.lt_of_lt_of_le (cell_block HKX.out.r0) hb1.size
  clear hV hbV hb1 HC HKX
  generalize V1.heap.size = D at *
  by_cases hc : c = 0
  case neg =>
    have hcb : (c != 0) = true := by simp [hc]
    have HQ := hide (HQ1.out hc)
    clear HQ1 HQ2 HQ3 HQ4 HB HM HTX HN8 HOK
    have a0 := HK.out.a0
    have a1 := HK.out.a1
    have r0 := HK.out.r0
    have r1 := HK.out.r1
    have r2 := HK.out.r2
    have r3 := HK.out.r3
    have b0 := HK.out.af 0
    have b1 := HK.out.af 1
    have f0 := HK.out.rf 0
    have f1 := HK.out.rf 1
    have f2 := HK.out.rf 2
    have f3 := HK.out.rf 3
    go_upto_region 3 with fail
    go_region
    all_goals go_wp2_with fail
    all_goals exact bodyPost_ret (v := .tuple #[.agg #[_, _], .agg #[_, _, _, _]]) (results_mid3 Tryz.results8 _ _ (w.heap.size + 1) _ _ (w.heap.size + 1 + 1) _ _ rfl rfl (range_bel (HK.out.ea _ _ _ _ _ _).1 ((Below.refl _ _).drew)) Tryz.underlying29 rfl (by kernel_rfl) (range_bel (HK.out.ea _ _ _ _ _ _).2.1 ((Below.refl _ _).drew)) Tryz.underlying38 rfl (by kernel_rfl)) rfl ⟨_, _, _, _, _, _, rfl, HQ.out, Sl.nil _ _ _ _, (HK.out.ea _ _ _ _ _ _).2.2.drew⟩
  subst hc
  have hn8 := HN8.out rfl
  have HOK' := hide (HOK.out rfl)
  have HQ2' := hide (HQ2.out rfl)
  have HQ3' := hide (HQ3.out rfl)
  have HQ4' := hide (HQ4.out rfl)
  have HB' := hide (HB.out rfl)
  clear HQ1 HQ2 HQ3 HQ4 HB d0 d1 d3 HOK HN8 hz
  have g11 := (C15.of HK.out.rg).c11
  go_wp2_with fail
  clear g11 d2
  go_loopw [5] (fun i wr => ∃ j : Nat, j ≤ nb ∧ i = .int .i64 (j : Int) ∧ Hid (∀ x ∈ (bts qs).take j, (bytL x).length ≤ 16384) ∧ Hid (Ktw w wr [.int .i64 k, .int .i64 fr, .int .i64 tn, .int .i64 t, .bool pre, .bool ok, .int .i64 ld, .int .i64 pa, .int .i64 pt, .int .i64 hi, .int .i64 co, .slice ab nb cb, .int .i64 sz, .int .i64 po, .slice ad nd cd])) (fun i _ => nb - (intOf i).toNat)
  case atStart => exact ⟨0, Nat.zero_le _, rfl, hide (fun x hx => by simp at hx), HK⟩
  case round =>
    clear HK
    obtain ⟨j, hj, rfl, HA', HK⟩ := hrel
    have g11 := (C15.of HK.out.rg).c11
    by_cases hlt : j < nb
    · have hltI : (j : Int) < (nb : Int) := by omega
      have hlq : j < qs.length := by omega
      have hlb : j < (bts qs).length := by rw [bts_len]; exact hlq
      have hbj : (bts qs)[j] = btq qs[j] := by simp [bts]
      obtain ⟨b, o, rfl, hrg⟩ := HM.out.rg3 (by omega)
      have HE := hide (range_bel (brange_at hrg hlq) HK.out.be)
      have HP := hide ((HM.out.2 _ (List.getElem_mem hlq)).below HK.out.be)
      have HXT := hide (HTX.out (btq qs[j]) (List.mem_map.2 ⟨_, List.getElem_mem hlq, rfl⟩))
      have HB0 := hide (HOK'.out (btq qs[j]) (List.mem_map.2 ⟨_, List.getElem_mem hlq, rfl⟩))
      have HNO2 := hide (fun h => HQ2'.out j hlb HA'.out h)
      have HKE : Hid ((bytL (btq qs[j])).length ≤ 16384 → ∀ x ∈ (bts qs).take (j + 1), (bytL x).length ≤ 16384) := hide (fun h x hx => by
        rw [List.take_succ_eq_append_getElem hlb, hbj] at hx
        rcases List.mem_append.1 hx with q | q
        · exact HA'.out x q
        · rw [List.mem_singleton.1 q]; exact h)
      rw [hbj] at HNO2
      clear hrg hbj
      generalize qs[j] = p at *
      have HC2 := hide (rbput_any (okb := fun _ => True) (ok := fun _ => True) (btq p) (.agg (bce p).toArray) wr ⟨p.u, p.ps, rfl, HP.out, rfl⟩ HXT.out)
      unfold wrB bwP at HC2
      rw [if_pos HB0.out] at HC2
      clear HP HXT HB0
      by_cases hle : (bytL (btq p)).length ≤ 16384
      · have HLE := hide (HKE.out hle)
        rw [if_pos hle] at HC2
        simp only at HC2
        clear HNO2 HKE hle
        go_wp2_with (first | (refine wpList_load_mid rfl _ _ rfl _ _ rfl _ _ HE.out Tryz.underlying52 rfl (by kernel_rfl) ?_) | (go_at_call 25; refine HC2.out.mono ?_; rintro e V ⟨y, rfl, _, hbn⟩; have HKV := hide (HK.out.below hbn); have HK2 := hide ((HK.out.below hbn).below ((Below.refl _ _).alloc (Nat.le_refl _) (.cells #[.string ⟨#[]⟩, .int .i64 0, .int .i64 0, .int .i64 (-1)] 38))); clear hbn))
        go_roundw
        case rel => exact ⟨j + 1, by omega, by go_num, HLE, HK2⟩
        case measure => simp [intOf]; omega
      · have HQ := hide (HNO2.out hle)
        rw [if_neg hle] at HC2
        simp only at HC2
        clear HNO2 HKE hle
        generalize (bytL (btq p)).length = LN at *
        go_upto_region 8 with (first | (refine wpList_load_mid rfl _ _ rfl _ _ rfl _ _ HE.out Tryz.underlying52 rfl (by kernel_rfl) ?_) | (go_at_call 25; refine HC2.out.mono ?_; rintro e V ⟨y, rfl, _, hbn⟩; have HKV := hide (HK.out.below hbn); have HK2 := hide ((HK.out.below hbn).below ((Below.refl _ _).alloc (Nat.le_refl _) (.cells #[.string ⟨#[98, 97, 116, 99, 104]⟩, .int .i64 (LN : Int), .int .i64 6, .int .i64 (-1)] 38))); clear hbn))
        obtain ⟨V9, hV9⟩ : ∃ V9, V9 = V.alloc (.cells #[.string ⟨#[98, 97, 116, 99, 104]⟩, .int .i64 (LN : Int), .int .i64 6, .int .i64 (-1)] 38) := ⟨_, rfl⟩
        have d0 : V9.cell? ⟨V.heap.size, 0, none⟩ = some (.string ⟨#[98, 97, 116, 99, 104]⟩) := by rw [hV9]; simp
        have d1 : V9.cell? ⟨V.heap.size, 1, none⟩ = some (.int .i64 (LN : Int)) := by rw [hV9]; simp
        have d2 : V9.cell? ⟨V.heap.size, 2, none⟩ = some (.int .i64 6) := by rw [hV9]; simp
        show Code.wp _ _ _ _ _
        rw [← hV9] at HK2 ⊢
        have hz9 : w.heap.size + 1 + 1 < V.heap.size := cell_block HKV.out.r0
        clear hV9 HK g11 HE HKV
        generalize V.heap.size = D9 at *
        have a0 := HK2.out.a0
        have a1 := HK2.out.a1
        have r0 := HK2.out.r0
        have r1 := HK2.out.r1
        have r2 := HK2.out.r2
        have r3 := HK2.out.r3
        have b0 := HK2.out.af 0
        have b1 := HK2.out.af 1
        have f0 := HK2.out.rf 0
        have f1 := HK2.out.rf 1
        have f2 := HK2.out.rf 2
        have f3 := HK2.out.rf 3
        go_upto_region 9 with fail
        go_region
        all_goals go_wp2_with fail
        all_goals exact bodyPost_ret (v := .tuple #[.agg #[_, _], .agg #[_, _, _, _]]) (results_mid3 Tryz.results8 _ _ (w.heap.size + 1) _ _ (w.heap.size + 1 + 1) _ _ rfl rfl (range_bel (HK2.out.ea _ _ _ _ _ _).1 ((Below.refl _ _).drew)) Tryz.underlying29 rfl (by kernel_rfl) (range_bel (HK2.out.ea _ _ _ _ _ _).2.1 ((Below.refl _ _).drew)) Tryz.underlying38 rfl (by kernel_rfl)) rfl ⟨_, _, _, _, _, _, rfl, HQ.out, Sl.nil _ _ _ _, (HK2.out.ea _ _ _ _ _ _).2.2.drew⟩
    · obtain rfl : j = nb := by omega
      have hall : ∀ x ∈ bts qs, (bytL x).length ≤ 16384 := by have := HA'.out; rwa [← hnb, ← bts_len, List.take_length] at this
      have HBB := hide (HB'.out hall wr HK.out.be)
      have HQ3 := hide (HQ3'.out hall)
      have HQ4 := hide (HQ4'.out hall)
      clear hlt hall HQ2' HQ3' HQ4' HB'
      go_upto_region 11 with (first | (refine wpList_load_mid rfl _ _ rfl _ _ rfl _ _ HK.out.rg Tryz.underlying25 rfl (by kernel_rfl) ?_) | (go_at_call 26; refine HBB.out.mono ?_; rintro e V3 ⟨a3, c3, rfl, hs3, hb3⟩))
      have HS3 := hide hs3
      replace HK := hide (HK.out.below hb3)
      clear hs3 hb3 g11
      by_cases hm : RES.length ≤ 16384
      · have hmI : ¬ (16384 : Int) < (RES.length : Int) := by omega
        have HQ := hide (HQ4.out hm)
        have g0 := (C15.of HK.out.rg).c0
        have a0 := HK.out.a0
        have a1 := HK.out.a1
        have r0 := HK.out.r0
        have r1 := HK.out.r1
        have r2 := HK.out.r2
        have r3 := HK.out.r3
        have b0 := HK.out.af 0
        have b1 := HK.out.af 1
        have f0 := HK.out.rf 0
        have f1 := HK.out.rf 1
        have f2 := HK.out.rf 2
        have f3 := HK.out.rf 3
        go_wp2_with fail
        exact bodyPost_ret (v := .tuple #[.agg #[_, _], .agg #[_, _, _, _]]) (results_mid3 Tryz.results8 _ _ (w.heap.size + 1) _ _ (w.heap.size + 1 + 1) _ _ rfl rfl (HK.out.ea _ _ _ _ _ _).1 Tryz.underlying29 rfl (by kernel_rfl) (HK.out.ea _ _ _ _ _ _).2.1 Tryz.underlying38 rfl (by kernel_rfl)) rfl ⟨_, _, _, _, _, _, rfl, HQ.out, HK.out.sl HS3.out _ _ _ _ _ _, (HK.out.ea _ _ _ _ _ _).2.2⟩
      · have hmI : (16384 : Int) < (RES.length : Int) := by omega
        have HQ := hide (HQ3.out hm)
        go_wp2_with (go_at_call 27; refine (mno_any _ _ _ _).mono ?_; rintro e V4 ⟨rfl, hb4⟩; replace HK := hide (HK.out.below hb4); clear hb4; have a0 := HK.out.a0; have a1 := HK.out.a1; have r0 := HK.out.r0; have r1 := HK.out.r1; have r2 := HK.out.r2; have r3 := HK.out.r3; have b0 := HK.out.af 0; have b1 := HK.out.af 1; have f0 := HK.out.rf 0; have f1 := HK.out.rf 1; have f2 := HK.out.rf 2; have f3 := HK.out.rf 3)
        exact bodyPost_ret (v := .tuple #[.agg #[_, _], .agg #[_, _, _, _]]) (results_mid3 Tryz.results8 _ _ (w.heap.size + 1) _ _ (w.heap.size + 1 + 1) _ _ rfl rfl (HK.out.ea _ _ _ _ _ _).1 Tryz.underlying29 rfl (by kernel_rfl) (HK.out.ea _ _ _ _ _ _).2.1 Tryz.underlying38 rfl (by kernel_rfl)) rfl ⟨_, _, _, _, _, _, rfl, HQ.out, Sl.nil _ _ _ _, (HK.out.ea _ _ _ _ _ _).2.2⟩
/-- What the document's Put leaves. -/
def PdP (m : Ms) (w : World) (e : Ending) (w' : World) : Prop :=
  ∃ k9 y l9, e = .returned (.tuple #[.agg #[.int .i64 k9, y], wrT (chkP m)]) ∧ (k9 = if (chkP m).2.2 = 0 then m.k else 0) ∧ (l9 = if (chkP m).2.2 = 0 then tailM m else []) ∧ Sl bc w' y l9 ∧ Below w.heap.size w w'
theorem rmput_any (m : Ms) (v : Value) (w : World) (hv : IsM w v m) (htx : TxM m) : Calls Tryz.prog 8 #[v] w (PdP m w) := by
  have hck := fun W (h : Below w.heap.size w W) => rmcheck_any m v W (hv.below h) htx
  have hby : (chkM m).2.2 = 0 → (∀ x ∈ m.bs, (bytL x).length ≤ 16384) → ∀ W, Below w.heap.size w W → Calls Tryz.prog 26 #[v] W fun e w' => ∃ a2 c2, e = .returned (.slice a2 (tailM m).length c2) ∧ Sl bc w' (.slice a2 (tailM m).length c2) (tailM m) ∧ Below W.heap.size W w' := fun hc hl W h => (rmbytes_any m v W (hv.below h) (lite (evM_none.2 hc)) hl).mono (by
    rintro e w' ⟨u, rfl, hs, hb⟩
    obtain ⟨a, c, rfl⟩ := hs.form
    exact ⟨a, c, rfl, hs, hb⟩)
  obtain ⟨ab, cb, ad, cd, qs, rfl, hm⟩ := isM_form hv
  have hbs := hm.bs
  refine (rmput_go m.k m.fr m.tn m.t m.ld m.pa m.pt m.hi m.co m.sz m.po m.pre m.ok ab ad m.bs.length cb m.da.length cd qs w (chkM m).1 (chkM m).2.1 (chkM m).2.2 (tailM m) (fun k9 l9 o9 n9 c9 => (o9, n9, c9) = chkP m ∧ (k9 = if c9 = 0 then m.k else 0) ∧ (l9 = if c9 = 0 then tailM m else [])) (hide hck) (hide (by rw [hbs]; exact hby)) hm.bl hm.len (fun h => (lite (evM_none.2 h)).bl) (by rw [hbs]; exact htx) (hide (fun h => by rw [hbs]; exact (lite (evM_none.2 h)).bs)) (hide (fun h => ⟨by unfold chkP; rw [if_pos h], by rw [if_neg h], by rw [if_neg h]⟩)) (hide (fun h j hj h1 h2 => ⟨?_, rfl, rfl⟩)) (hide (fun h h1 h2 => ⟨?_, rfl, rfl⟩)) (hide (fun h h1 h2 => ⟨?_, rfl, rfl⟩))).mono ?_
  · have := lnBs_some (bts qs) 0 j hj h1 h2
    generalize (bytL (bts qs)[j]).length = LN at this
    rw [hbs] at this
    unfold chkP
    rw [if_neg (fun q => q h), this]
    simp
  · have := lnBs_none m.bs 0 (by rw [← hbs]; exact h1)
    unfold chkP
    rw [if_neg (fun q => q h), this]
    simp only
    rw [if_neg h2]
  · have := lnBs_none m.bs 0 (by rw [← hbs]; exact h1)
    unfold chkP
    rw [if_neg (fun q => q h), this]
    simp only
    rw [if_pos h2]
  · rintro e w' ⟨k9, y, l9, o9, n9, c9, rfl, ⟨h1, h2, h3⟩, h4, h5⟩
    refine ⟨k9, y, l9, ?_, ?_, ?_, h4, h5⟩
    · unfold wrT; rw [← h1]
    · rw [← h1]; exact h2
    · rw [← h1]; exact h3
end Go.Proofs.YtoioddnlkbjljaaGreatDoor
namespace Go.Proofs.YtoioddnlkbjljaaGreatDoor
open Go.RowKit

theorem shM_txp {m : Ms} (h : shM m = true) : TxM m := fun x hx r hr => sh_tx ((shL_is ((shM_is h).2.2 x hx)).2 r hr)
/-- The frame's kind and bytes, if nothing is wrong. -/
def kP (m : Ms) : Int := if (chkP m).2.2 = 0 then m.k else 0
def lP (m : Ms) : List Int := if (chkP m).2.2 = 0 then tailM m else []
theorem lP_len (m : Ms) : (lP m).length ≤ 16384 := by
  unfold lP
  split
  case isFalse => simp
  case isTrue h =>
    unfold chkP at h
    split at h
    · rename_i q; exact absurd h q
    · split at h
      · exact absurd (show (6 : Int) = 0 from h) (by decide)
      · split at h
        · assumption
        · exact absurd (show (6 : Int) = 0 from h) (by decide)
theorem mput_same (m : Ms) (v : Value) (w : World) (hv : IsM w v m) (htx : TxM m) (hn : m.bs.length ≤ 100000) : Calls Tryz.prog 7 #[v] w fun e w' => ∃ a c, e = .returned (.tuple #[.agg #[.int .i64 (kP m), .slice a (lP m).length c], ev (evP m)]) ∧ Sl bc w' (.slice a (lP m).length c) (lP m) ∧ Below w.heap.size w w' := by
  have ht := tells_P m
  refine (mput_any m v w hv htx hn).mono ?_
  rintro e w' ⟨h1, h2⟩
  unfold kP lP
  cases hq : evP m with
  | none =>
    rw [hq] at h1 ht
    have hc : (chkP m).2.2 = 0 := ht
    rw [if_pos hc, if_pos hc]
    obtain ⟨y, rfl, hs⟩ := h1
    obtain ⟨a, c, rfl⟩ := hs.form
    exact ⟨a, c, rfl, hs, h2⟩
  | some q =>
    rw [hq] at h1 ht
    have hc : ¬ (chkP m).2.2 = 0 := fun h => ht.2.1 (ht.1.trans h)
    rw [if_neg hc, if_neg hc]
    exact ⟨none, 0, h1, Sl.nil _ _ _ _, h2⟩
theorem rmput_same (m : Ms) (v : Value) (w : World) (hv : IsM w v m) (htx : TxM m) : Calls Tryz.prog 8 #[v] w fun e w' => ∃ a c, e = .returned (.tuple #[.agg #[.int .i64 (kP m), .slice a (lP m).length c], wrT (chkP m)]) ∧ Sl bc w' (.slice a (lP m).length c) (lP m) ∧ Below w.heap.size w w' := by
  refine (rmput_any m v w hv htx).mono ?_
  rintro e w' ⟨k9, y, l9, rfl, h1, h2, h3, h4⟩
  obtain ⟨a, c, rfl⟩ := h3.form
  subst h1 h2
  exact ⟨a, c, rfl, h3, h4⟩
set_option maxRecDepth 100000 in
set_option maxHeartbeats 16000000 in
theorem mputs_law (m : Ms) (v : Value) (w : World) (hv : IsM w v m) (hg : Hnd w) : Calls Tryz.prog 3 #[v] w fun e w' => e = .returned (.bool true) ∧ Below w.heap.size w w' := by
  have hsh := fun W (h : Below w.heap.size w W) => rmshort_any m v W (hv.below h)
  have HIA := hide (fun W (h : Below w.heap.size w W) => hv.below h)
  obtain ⟨ab, cb, ad, cd, qs, rfl, hm⟩ := isM_form hv
  have HG := hide hg
  have HWK := hide (fun W (h : Below w.heap.size w W) => mworks_any W (HG.out.below h))
  obtain ⟨X, hX⟩ : ∃ X, X = w.alloc (.cells #[.int .i64 m.k, .int .i64 m.fr, .int .i64 m.tn, .int .i64 m.t, .bool m.pre, .bool m.ok, .int .i64 m.ld, .int .i64 m.pa, .int .i64 m.pt, .int .i64 m.hi, .int .i64 m.co, .slice ab m.bs.length cb, .int .i64 m.sz, .int .i64 m.po, .slice ad m.da.length cd] 25) := ⟨_, rfl⟩
  have HQ : Hid (X.rangeAt w.heap.size 0 [.int .i64 m.k, .int .i64 m.fr, .int .i64 m.tn, .int .i64 m.t, .bool m.pre, .bool m.ok, .int .i64 m.ld, .int .i64 m.pa, .int .i64 m.pt, .int .i64 m.hi, .int .i64 m.co, .slice ab m.bs.length cb, .int .i64 m.sz, .int .i64 m.po, .slice ad m.da.length cd]) := hide (by rw [hX]; exact range_new w _ _)
  have HB : Hid (Below w.heap.size w X) := hide (by rw [hX]; exact (Below.refl _ _).alloc (Nat.le_refl _) _)
  clear hv hg hm
  unfold cellsM at hsh HIA ⊢
  go_enter Tryz.func3, Tryz.ntmps3
  go_upto_region 1 with fail
  rw [← hX]
  clear hX
  cases hs : shM m with
  | false =>
    have HSH := hide (hsh X HB.out)
    rw [hs] at HSH
    clear hsh
    go_wp2_with (first | (refine wpList_load_mid rfl _ _ rfl _ _ rfl _ _ HQ.out Tryz.underlying25 rfl (by kernel_rfl) ?_) | (go_at_call 5; refine HSH.out.mono ?_; rintro e V1 ⟨rfl, hb1⟩; have HB1 := hide (HB.out.trans (hb1.mono HB.out.size)); clear hb1) | (go_at_call 6; refine (HWK.out _ HB1.out).mono ?_; rintro e V9 ⟨rfl, hb9⟩; have HB9 := hide (HB1.out.trans (hb9.mono HB1.out.size)); clear hb9))
    go_ret
    exact ⟨rfl, HB9.out⟩
  | true =>
  have HSH := hide (hsh X HB.out)
  rw [hs] at HSH
  have htx := shM_txp hs
  obtain ⟨_, hb12, _⟩ := shM_is hs
  have HPA := hide (fun W (h : Below w.heap.size w W) => mput_same m _ W (HIA.out W h) htx (by omega))
  have HPB := hide (fun W (h : Below w.heap.size w W) => rmput_same m _ W (HIA.out W h) htx)
  have HWR := hide (fun W (h : Below w.heap.size w W) => mwrong_any (evP m) (chkP m) (-1) W (tells_P m) (HG.out.below h))
  have hLL := lP_len m
  unfold wrT at HPB
  generalize ev (evP m) = E at *
  generalize chkP m = T at *
  generalize kP m = K at *
  generalize lP m = LL at *
  have HLL := hide hLL
  clear hsh htx hs hb12 HIA hLL
  go_upto_region 3 with (first | (refine wpList_load_mid rfl _ _ rfl _ _ rfl _ _ HQ.out Tryz.underlying25 rfl (by kernel_rfl) ?_) | (go_at_call 5; refine HSH.out.mono ?_; rintro e V1 ⟨rfl, hb1⟩))
  have HB1 := hide (HB.out.trans (hb1.mono HB.out.size))
  have HQ1 := hide (range_bel HQ.out hb1)
  clear hb1 HSH HQ HB
  go_upto_region 4 with (first | (refine wpList_load_mid rfl _ _ rfl _ _ rfl _ _ HQ1.out Tryz.underlying25 rfl (by kernel_rfl) ?_) | (go_at_call 7; refine (HPA.out V1 HB1.out).mono ?_; rintro e V5 ⟨a5, c5, rfl, hs5, hb5⟩))
  obtain ⟨Y5, hY5⟩ : ∃ Y, Y = V5.alloc (.cells #[.int .i64 K, .slice a5 LL.length c5] 29) := ⟨_, rfl⟩
  have hbY5 : Below V5.heap.size V5 Y5 := by rw [hY5]; exact (Below.refl _ _).alloc (Nat.le_refl _) _
  have HF5 : Hid (Y5.rangeAt V5.heap.size 0 [.int .i64 K, .slice a5 LL.length c5]) := hide (by rw [hY5]; exact range_new V5 _ _)
  have HX5 := hide (hb5.trans (hbY5.mono hb5.size))
  have HB5 := hide (HB1.out.trans (HX5.out.mono HB1.out.size))
  have HS5 := hide (hs5.below hbY5)
  have HQ5 := hide (range_bel HQ1.out HX5.out)
  rw [← hY5]
  clear hY5 hbY5 hs5 hb5 HPA HQ1
  generalize hd5 : V5.heap.size = d5 at *
  clear hd5
  go_upto_region 5 with (first | (refine wpList_load_mid rfl _ _ rfl _ _ rfl _ _ HQ5.out Tryz.underlying25 rfl (by kernel_rfl) ?_) | (go_at_call 8; refine (HPB.out Y5 HB5.out).mono ?_; rintro e V6 ⟨a6, c6, rfl, hs6, hb6⟩))
  obtain ⟨Y6, hY6⟩ : ∃ Y, Y = (V6.alloc (.cells #[.int .i64 K, .slice a6 LL.length c6] 29)).alloc (.cells #[.string T.1, .int .i64 T.2.1, .int .i64 T.2.2, .int .i64 (-1)] 38) := ⟨_, rfl⟩
  have hbZ6 : Below V6.heap.size V6 (V6.alloc (.cells #[.int .i64 K, .slice a6 LL.length c6] 29)) := (Below.refl _ _).alloc (Nat.le_refl _) _
  have hbY6 : Below V6.heap.size V6 Y6 := by rw [hY6]; exact hbZ6.alloc hbZ6.size _
  have HF6 : Hid (Y6.rangeAt V6.heap.size 0 [.int .i64 K, .slice a6 LL.length c6]) := hide (by rw [hY6]; exact range_bel (range_new V6 _ _) ((Below.refl _ _).alloc (Nat.le_refl _) _))
  have HW6 : Hid (Y6.rangeAt (V6.heap.size + 1) 0 [.string T.1, .int .i64 T.2.1, .int .i64 T.2.2, .int .i64 (-1)]) := hide (by
    have := range_new (V6.alloc (.cells #[.int .i64 K, .slice a6 LL.length c6] 29)) [.string T.1, .int .i64 T.2.1, .int .i64 T.2.2, .int .i64 (-1)] 38
    rw [hY6]
    rw [show (V6.alloc (.cells #[.int .i64 K, .slice a6 LL.length c6] 29)).heap.size = V6.heap.size + 1 by simp] at this
    exact this)
  have HX6 := hide (hb6.trans (hbY6.mono hb6.size))
  have HB6 := hide (HB5.out.trans (HX6.out.mono HB5.out.size))
  have HSB := hide (same_bytes _ _ LL Y6 (HS5.out.below HX6.out) (hs6.below hbY6) (by have := HLL.out; omega))
  have HG5 := range_bel HF5.out HX6.out
  have f0 : Y6.cell? ⟨d5, 0, none⟩ = some (.int .i64 K) := by simpa using HG5 0 _ rfl
  have f1 : Y6.cell? ⟨d5, 1, none⟩ = some (.slice a5 LL.length c5) := by simpa using HG5 1 _ rfl
  have f2 : Y6.cell? ⟨V6.heap.size, 0, none⟩ = some (.int .i64 K) := by simpa using HF6.out 0 _ rfl
  have f3 : Y6.cell? ⟨V6.heap.size, 1, none⟩ = some (.slice a6 LL.length c6) := by simpa using HF6.out 1 _ rfl
  rw [← hY6]
  clear hY6 hbY6 hbZ6 hs6 hb6 HPB HQ5 HG5 HF5 HF6 HS5
  generalize hd6 : V6.heap.size = d6 at *
  clear hd6
  go_wp2_with (first | (go_at_call 9; refine HSB.out.mono ?_; rintro e V2 ⟨rfl, hb2⟩; have HB2 := hide (HB6.out.trans (hb2.mono HB6.out.size)); have HW2 := hide (range_bel HW6.out hb2); clear hb2) | (refine wpList_load_want (by go_simp) _ _ rfl _ _ rfl _ _ HW2.out Tryz.underlying38 rfl (by kernel_rfl) ?_) | (go_at_call 10; refine (HWR.out _ HB2.out).mono ?_; rintro e V8 ⟨rfl, hb8⟩; have HB8 := hide (HB2.out.trans (hb8.mono HB2.out.size)); clear hb8) | (go_at_call 6; refine (HWK.out _ HB8.out).mono ?_; rintro e V9 ⟨rfl, hb9⟩; have HB9 := hide (HB8.out.trans (hb9.mono HB8.out.size)); clear hb9))
  go_ret
  exact ⟨rfl, HB9.out⟩
end Go.Proofs.YtoioddnlkbjljaaGreatDoor
