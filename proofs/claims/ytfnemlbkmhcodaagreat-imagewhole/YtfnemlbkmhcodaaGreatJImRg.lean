/-
  WHO REIGNED BEFORE, AND WHO REIGNS NOW (castellanlaw15.Reigns). Conditions: an image in order, its lists no longer than two hundred; those that reigned before agree with it, and lie in a row of the caller's own; what the image is made of lies elsewhere.
-/
import Derived.Test.YtfnemlbkmhcodaaGreatJImXa3
import Derived.Test.YtfnemlbkmhcodaaGreatJImKrsa3
import Derived.Laws.StructEq
namespace Go.Proofs.YtfnemlbkmhcodaaGreat
open Go.RowKit

def rgc (y : Rgn) : List Value := [.int .i64 y.tp, .int .i64 y.pa, .int .i64 y.ep, .int .i64 y.ld]
theorem encG : Enc rgc 4 := ⟨fun _ => rfl, fun x u hu => by
  simp only [rgc, List.mem_cons, List.not_mem_nil, or_false] at hu
  rcases hu with rfl | rfl | rfl | rfl <;> rfl, by decide⟩
theorem tyiG : Tyi Tryz.prog 64 106 4 := tyi_map (z := .agg #[.int .i64 0, .int .i64 0, .int .i64 0, .int .i64 0]) (n := 32) (by kernel_rfl) (by decide) rfl Tryz.underlying64
/-- One more behind a row of the call's own: where the row lies then. -/
theorem wpList_appO {α : Type} {f : α → List Value} {k : Nat} {P : Program} {S T : TypeId} (hi : Tyi P S T k) (hf : Enc f k) {ops : Array Oper} {rest : List Oper} {o : Oper} {a : Act} {Q : Exit → Act → World → Prop} (w : World) (hg : o.guard = none) (y z : Operand) (ho : o.op = .call { callee := .builtin .append, args := #[y, z], argTypes := #[S, S] }) (B : Nat) (v : Value) (l : List α) (hy : a.eval y = v) (hown : Ro f k T w B v l) (hB : B ≤ w.heap.size) (b o' c : Nat) (q : List α) (hz : a.eval z = .slice (some ⟨b, o', none⟩) q.length c) (hq : w.rangeAt b o' (q.flatMap f)) (hn : l.length + q.length ≤ 2000000000)
    (h : ∀ v' w', Ro f k T w' B v' (l ++ q) → w.grownBy w' v.ownBlock → v'.ownBlock = v.ownBlock ∨ v'.ownBlock = some w.heap.size → Below B w w' → wpList P ops Q rest (a.put o.dst v') w') : wpList P ops Q (o :: rest) a w := by
  refine wpList_plain hg fun K hK => ?_
  obtain ⟨⟨i0, z0, h1, h2, h3, h4, h5⟩, hu⟩ := hi
  obtain ⟨v', w', a1, a2, a3, _, a4⟩ := run_append_own_at (P := P) w B S o.type T i0 z0 k i0.bytes hu h1 h2 h3 rfl h5 hf.pos v l.length (l.flatMap f) hown ⟨b, o', none⟩ q.length c (q.flatMap f) (fm_len hf q) (fun j x hj => by rw [Addr.add_mid]; exact hq j x hj) (fm_one hf q) (by unfold maxLen; omega) (by
    have : (l.length + q.length) * i0.bytes ≤ 2000000000 * 300 := Nat.mul_le_mul hn h4
    omega) hB
  unfold Oper.wp
  simp [execOp, ho, resolve, invoke, builtin, hy, hz, a1, Result.andThen]
  refine hK _ _ (h v' w' ?_ a3 a4 ((Below.refl B w).grown a3 hB (fun k e => (hown.lt k e).1)))
  unfold Ro
  rw [List.length_append, List.flatMap_append]
  exact a2
/-- The state of the two outer loops: the row so far, the image's box, and what stays as it was. -/
structure Rgs (w wr : World) (B : Nat) (v vo : Value) (m : Im) (p : Ip) (lo : List Rgn) : Prop where
  o : Ro rgc 4 106 wr B vo lo
  x : Bx wr w.heap.size (iml m p)
  k : ∀ g, g < w.heap.size → v.ownBlock ≠ some g → wr.heap[g]? = w.heap[g]?
  ob : ∀ g, vo.ownBlock = some g → v.ownBlock = some g ∨ w.heap.size < g
  r : Rei m lo
  b : Below B w wr
section
variable {w wr W : World} {B : Nat} {v vo : Value} {m : Im} {p : Ip} {lo : List Rgn}
theorem Rgs.below (h : Rgs w wr B v vo m p lo) (hB : B ≤ w.heap.size) (hb : Below wr.heap.size wr W) : Rgs w W B v vo m p lo :=
  ⟨h.o.below hb, h.x.below hb, fun g hg hn => (hb.block g (by have := h.x.l; omega)).trans (h.k g hg hn), h.ob, h.r, h.b.trans (hb.mono (by have := h.x.l; omega))⟩
theorem Rgs.drewN (h : Rgs w wr B v vo m p lo) (n : Nat) : Rgs w (wr.drewN n) B v vo m p lo :=
  ⟨h.o, h.x.drewN n, h.k, h.ob, h.r, ⟨h.b.os, h.b.tape, h.b.output, h.b.size, h.b.block⟩⟩
end
theorem eq_rgS (a b c d : Int) (w : World) : (binOp .eql 106 (.agg #[.int .i64 a, .int .i64 b, .int .i64 c, .int .i64 d]) (.agg #[.int .i64 a, .int .i64 b, .int .i64 c, .int .i64 d])).run Tryz.prog w = .ok (.bool true) w := by
  have u3 := Tryz.underlying3
  have hS : Tryz.prog.underlying 106 = some (.struct (Tryz.prog.fieldsOf 106)) := by kernel_rfl
  have hp : Tryz.prog.stoodInHeld 106 = false := by kernel_rfl
  rw [run_eql_struct, show (10000 : Nat) = 9999 + 1 from rfl, run_equalIn_agg w 9999 106 _ _ hS hp]
  simp only [Program.fieldsOf, Tryz.underlying106]
  go_simp
theorem eq_rgN (a b c d c' d' : Int) (h : c ≠ c') (w : World) : (binOp .eql 106 (.agg #[.int .i64 a, .int .i64 b, .int .i64 c, .int .i64 d]) (.agg #[.int .i64 a, .int .i64 b, .int .i64 c', .int .i64 d'])).run Tryz.prog w = .ok (.bool false) w := by
  have u3 := Tryz.underlying3
  have hS : Tryz.prog.underlying 106 = some (.struct (Tryz.prog.fieldsOf 106)) := by kernel_rfl
  have hp : Tryz.prog.stoodInHeld 106 = false := by kernel_rfl
  rw [run_eql_struct, show (10000 : Nat) = 9999 + 1 from rfl, run_equalIn_agg w 9999 106 _ _ hS hp]
  simp only [Program.fieldsOf, Tryz.underlying106]
  simp [go_sem, h]
theorem guardRg : Tryz.prog.eqGuardType Tryz.prog.depth 106 = false := by kernel_rfl
theorem Bx.blk {W W' : World} {n : Nat} {cs : List Value} (h : Bx W n cs) (hs : W.heap.size ≤ W'.heap.size) (e : W'.heap[n]? = W.heap[n]?) : Bx W' n cs :=
  ⟨Nat.lt_of_lt_of_le h.l hs, fun j u hu => by
    have := h.c j u hu
    rw [← this]
    exact World.cell?_of_block e, fun j hj => (World.frozen?_of_block e).trans (h.f j hj)⟩
theorem Bx.c4 {W : World} {n : Nat} {a b c d : Value} (h : Bx W n [a, b, c, d]) : W.cell? ⟨n, 0, none⟩ = some a ∧ W.cell? ⟨n, 1, none⟩ = some b ∧ W.cell? ⟨n, 2, none⟩ = some c ∧ W.cell? ⟨n, 3, none⟩ = some d := ⟨h.at 0 _ rfl, h.at 1 _ rfl, h.at 2 _ rfl, h.at 3 _ rfl⟩
theorem Rgs.app {w X W : World} {B : Nat} {v vo v' : Value} {m : Im} {p : Ip} {lo lo' : List Rgn} (h : Rgs w X B v vo m p lo) (hvl : ∀ g, v.ownBlock = some g → g < w.heap.size) (ho : Ro rgc 4 106 W B v' lo') (hg : X.grownBy W vo.ownBlock) (hob : v'.ownBlock = vo.ownBlock ∨ v'.ownBlock = some X.heap.size) (hbe : Below B X W) (hr : Rei m lo') : Rgs w W B v v' m p lo' := by
  have hl := h.x.l
  have hno : some w.heap.size ≠ vo.ownBlock := fun e => by
    rcases h.ob _ e.symm with q | q
    · have := hvl _ q; omega
    · omega
  refine ⟨ho, h.x.blk hg.size (hg.block _ hl hno), fun g hlt hn => ?_, fun g hgg => ?_, hr, h.b.trans hbe⟩
  · rw [hg.block g (by omega) (fun e => ?_)]
    · exact h.k g hlt hn
    · rcases h.ob _ e.symm with q | q
      · exact hn q
      · omega
  · rcases hob with q | q
    · exact h.ob g (q ▸ hgg)
    · rw [q] at hgg
      cases hgg
      exact .inr (by omega)
theorem eq_rgN' (a b c d c' d' : Int) (h : c ≠ c') (w : World) : (binOp .eql 106 (.agg #[.int .i64 a, .int .i64 b, .int .i64 c, .int .i64 d]) (.agg #[.int .i64 a, .int .i64 b, .int .i64 c', .int .i64 d'])).run Tryz.prog w = .ok (.bool false) w := eq_rgN a b c d c' d' h w
/-- Who reigns now, beside those before. -/
def RgP (w : World) (B : Nat) (v : Value) (l : List Rgn) (m : Im) (e : Ending) (w' : World) : Prop := ∃ v' l', e = .returned (.tuple #[v', .bool true]) ∧ Ro rgc 4 106 w' B v' l' ∧ Rei m l' ∧ l'.length ≤ l.length + 40000 ∧ (∀ g, g < w.heap.size → v.ownBlock ≠ some g → w'.heap[g]? = w.heap[g]?) ∧ w.heap.size ≤ w'.heap.size ∧ (∀ g, v'.ownBlock = some g → v.ownBlock = some g ∨ w.heap.size ≤ g) ∧ Below B w w'
def ivG : Value → Int
  | .int _ n => n
  | _ => 0
set_option maxRecDepth 100000 in
set_option maxHeartbeats 16000000 in
theorem reigns_any (m : Im) (p : Ip) (v : Value) (l : List Rgn) (w : World) (B : Nat) (hB : B ≤ w.heap.size) (hv : ∀ W, (∀ g, g < w.heap.size → v.ownBlock ≠ some g → W.heap[g]? = w.heap[g]?) → ImR W m p) (hw : Wf m 200) (ho : Ro rgc 4 106 w B v l) (hr : Rei m l) (hn : l.length ≤ 100000000) : Calls Tryz.prog 32 #[v, imv m p] w fun e w' => RgP w B v l m e w' := by
  have HV := hide hv
  have HW := hide hw
  have HBB := hide hB
  have HN := hide hn
  have HVL : Hid (∀ g, v.ownBlock = some g → g < w.heap.size) := hide (fun g hg => (ho.lt g hg).2)
  have hnt := hw.nt
  have HS0 : Hid (Rgs w (w.alloc (.cells (iml m p).toArray 30)) B v v m p l) := hide (by
    have hal := below_al1 w (.cells (iml m p).toArray 30)
    exact ⟨ho.below hal, Bx.new w _ _, fun g hg _ => hal.block g hg, fun g hg => .inl hg, hr, hal.mono hB⟩)
  obtain ⟨av, cv, rfl⟩ := ho.form
  have HLT : Hid (p.ts.length = m.ts.length) := hide (hv w (fun _ _ _ => rfl)).len
  have htl : p.ts.length ≤ 200 := by rw [HLT.out]; exact hnt
  clear hv hw hB hn ho hr hnt
  obtain ⟨ab, aq, ac, ad, cb, cq, cc, cd, ts⟩ := p
  replace htl : ts.length ≤ 200 := htl
  unfold imv
  go_enter Tryz.func32, Tryz.ntmps32
  go_upto_region 3 with fail
  unfold iml at HS0
  generalize w.alloc (.cells (List.toArray [Value.slice ab m.br.length cb, .slice aq ts.length cq, .slice ac m.cf.length cc, .slice ad m.dn.length cd, .int .i64 m.la]) 30) = X at HS0 ⊢
  go_loopw [6, 7] (fun u i wr => ∃ (vo : Value) (a : Nat) (lo : List Rgn), vo = u ∧ a ≤ ts.length ∧ i = .int .i64 (a : Int) ∧ Rgs w wr B (.slice av l.length cv) vo m ⟨ab, aq, ac, ad, cb, cq, cc, cd, ts⟩ lo ∧ lo.length ≤ l.length + a * 200) (fun _ i _ => ts.length - (ivG i).toNat)
  case atStart => exact ⟨_, 0, l, rfl, Nat.zero_le _, rfl, HS0.out, by omega⟩
  case round =>
    obtain ⟨vo, a, lo, rfl, ha, rfl, hs, hll⟩ := hrel
    have HS := hide hs
    have HLL := hide hll
    clear hs hll
    by_cases hlt : a < ts.length
    · have hltI : (a : Int) < (ts.length : Int) := by omega
      have HI := hide (HV.out wr HS.out.k)
      obtain ⟨bq, oq, rfl, hqr⟩ := HI.out.t.rg (show 0 < ts.length by omega)
      clear hqr
      obtain ⟨t, hta⟩ : ∃ t, ts[a] = t := ⟨_, rfl⟩
      have HTA := hide hta
      have HTM : Hid (t ∈ ts) := hide (hta ▸ List.getElem_mem hlt)
      have hpn : t.ps.length ≤ 200 := HI.out.np HW.out HTM.out
      clear hta
      obtain ⟨i0, i1, i2, i3, i4⟩ := HS.out.x.im
      go_upto_region 6 with fail
      clear i0 i1 i2 i3 i4 HI
      go_loopw [6, 8] (fun u i W => ∃ (vo : Value) (b : Nat) (lo : List Rgn), vo = u ∧ b ≤ t.ps.length ∧ i = .int .i64 (b : Int) ∧ Rgs w W B (.slice av l.length cv) vo m ⟨ab, some ⟨bq, oq, none⟩, ac, ad, cb, cq, cc, cd, ts⟩ lo ∧ lo.length ≤ l.length + a * 200 + b) (fun _ i _ => t.ps.length - (ivG i).toNat)
      case atStart => exact ⟨_, 0, lo, rfl, Nat.zero_le _, rfl, HS.out, by have := HLL.out; omega⟩
      case round =>
        clear HS HLL
        obtain ⟨vo, b, lo, rfl, hb, rfl, hs, hll⟩ := hrel
        have HS := hide hs
        have HLL := hide hll
        clear hs hll
        have HI := hide (HV.out wr HS.out.k)
        obtain ⟨i0, i1, i2, i3, i4⟩ := HS.out.x.im
        have HTC := hide (HTA.out ▸ HI.out.t.at encT hlt)
        have HTQ := hide (HI.out.q t HTM.out)
        obtain ⟨id, nm, ps, ta, tc⟩ := t
        have ct0 : wr.cell? ⟨bq, oq + a * 3, none⟩ = some (.int .i64 id) := HTC.out 0 _ rfl
        have ct2 : wr.cell? ⟨bq, oq + a * 3 + 2, none⟩ = some (.slice ta ps.length tc) := HTC.out 2 _ rfl
        by_cases hlb : b < ps.length
        · have hlbI : (b : Int) < (ps.length : Int) := by omega
          obtain ⟨bp, op, rfl, hpr⟩ := HTQ.out.ps.rg (show 0 < ps.length by omega)
          clear hpr
          have HPC := hide (HTQ.out.ps.at encP hlb)
          have HOK : Hid (∀ y ∈ lo, y.tp = id → y.pa = (b : Int) → y.ep < (ps[b]).1.ep ∨ y.ep = (ps[b]).1.ep ∧ y.ld = (ps[b]).1.ld) := hide (fun y hy e1 e2 => by
            have := HS.out.r.ok hy (HI.out.tin HTM.out) b (by simpa [Tq.tp] using hlb) e1 e2
            simpa [Tq.tp] using this)
          have HSN : Hid (Rei m (lo ++ [⟨id, b, (ps[b]).1.ep, (ps[b]).1.ld⟩])) := hide (by
            have := HS.out.r.snoc HW.out (HI.out.tin HTM.out) b (by simpa [Tq.tp] using hlb)
            simpa [Tq.tp] using this)
          obtain ⟨P, hP⟩ : ∃ P, ps[b] = P := ⟨_, rfl⟩
          rw [hP] at HPC HOK HSN
          clear hP
          unfold ptc at HPC
          go_upto_region 9 with (first | (refine wpList_load_mid rfl _ _ rfl _ _ rfl _ _ HPC.out Tryz.underlying44 rfl (by kernel_rfl) ?_))
          have HS1 := hide (HS.out.below HBB.out (below_al1 wr (.cells (List.toArray [Value.slice P.2.a0 P.1.ids.length P.2.c0, .slice P.2.a1 P.1.isr.length P.2.c1, .int .i64 P.1.ld, .int .i64 P.1.ep, .slice P.2.a2 P.1.ad.length P.2.c2, .slice P.2.a3 P.1.dr.length P.2.c3]) 44)))
          have HT1 := hide (rg_bel HTC.out (below_al1 wr (.cells (List.toArray [Value.slice P.2.a0 P.1.ids.length P.2.c0, .slice P.2.a1 P.1.isr.length P.2.c1, .int .i64 P.1.ld, .int .i64 P.1.ep, .slice P.2.a2 P.1.ad.length P.2.c2, .slice P.2.a3 P.1.dr.length P.2.c3]) 44)))
          have HP1 := hide (Bx.new wr [Value.slice P.2.a0 P.1.ids.length P.2.c0, .slice P.2.a1 P.1.isr.length P.2.c1, .int .i64 P.1.ld, .int .i64 P.1.ep, .slice P.2.a2 P.1.ad.length P.2.c2, .slice P.2.a3 P.1.dr.length P.2.c3] 44)
          clear ct0 ct2 i0 i1 i2 i3 i4 HI HTC HTQ HPC HS
          generalize wr.alloc (.cells (List.toArray [Value.slice P.2.a0 P.1.ids.length P.2.c0, .slice P.2.a1 P.1.isr.length P.2.c1, .int .i64 P.1.ld, .int .i64 P.1.ep, .slice P.2.a2 P.1.ad.length P.2.c2, .slice P.2.a3 P.1.dr.length P.2.c3]) 44) = X1 at HS1 HT1 HP1 ⊢
          generalize wr.heap.size = bP at HP1 ⊢
          generalize P.1.ld = ld at HP1 HOK HSN ⊢
          generalize P.1.ep = ep at HP1 HOK HSN ⊢
          have i1 := HS1.out.x.at 1 _ rfl
          have p2 := HP1.out.at 2 _ rfl
          have p3 := HP1.out.at 3 _ rfl
          have ct0 : X1.cell? ⟨bq, oq + a * 3, none⟩ = some (.int .i64 id) := HT1.out 0 _ rfl
          have lP := HP1.out.l
          have lW := HS1.out.x.l
          have lQ : bq < X1.heap.size := cell_block ct0
          go_region
          clear i1 p2 p3 ct0 lP lQ lW HT1 HP1
          have HS2 := hide ((HS1.out.below HBB.out (below_al1 X1 (.cells (List.toArray [Value.int .i64 id, .int .i64 (b : Int), .int .i64 ep, .int .i64 ld]) 106))).drewN 1)
          have HX2 : Hid (Bx (X1.alloc (.cells (List.toArray [Value.int .i64 id, .int .i64 (b : Int), .int .i64 ep, .int .i64 ld]) 106)).drew X1.heap.size [Value.int .i64 id, .int .i64 (b : Int), .int .i64 ep, .int .i64 ld]) := hide ((Bx.new X1 _ _).drewN 1)
          clear HS1
          replace HS2 : Hid (Rgs w (X1.alloc (.cells (List.toArray [Value.int .i64 id, .int .i64 (b : Int), .int .i64 ep, .int .i64 ld]) 106)).drew B (.slice av l.length cv) vo m ⟨ab, some ⟨bq, oq, none⟩, ac, ad, cb, cq, cc, cd, ts⟩ lo) := HS2
          generalize (X1.alloc (.cells (List.toArray [Value.int .i64 id, .int .i64 (b : Int), .int .i64 ep, .int .i64 ld]) 106)).drew = X2 at HS2 HX2 ⊢
          generalize X1.heap.size = bX at HX2 ⊢
          obtain ⟨ao, co, rfl⟩ := HS2.out.o.form
          go_upto_region 12 with fail
          go_loopw [11, 12] (fun u j W => ∃ (c : Nat) (mt : Bool), c ≤ lo.length ∧ j = .int .i64 (c : Int) ∧ u = .bool mt ∧ Below X2.heap.size X2 W) (fun _ j _ => lo.length - (ivG j).toNat)
          case atStart => exact ⟨0, false, Nat.zero_le _, rfl, rfl, Below.refl _ _⟩
          case round =>
            obtain ⟨c, mt, hc, rfl, rfl, hbw⟩ := hrel
            have HBW := hide hbw
            clear hbw
            have HXW := hide (HX2.out.below HBW.out)
            by_cases hlc : c < lo.length
            · have hlcI : (c : Int) < (lo.length : Int) := by omega
              have hll2 : lo.length ≤ 200000000 := by have := HLL.out; have := HN.out; omega
              obtain ⟨bz, oz, rfl, hyr⟩ := HS2.out.o.rs.rg (show 0 < lo.length by omega)
              clear hyr
              have HY := hide (rg_bel (HS2.out.o.rs.at encG hlc) HBW.out)
              have HYM := hide (HOK.out _ (List.getElem_mem hlc))
              generalize lo[c] = y at HY HYM
              obtain ⟨yt, yp, ye, yl⟩ := y
              unfold rgc at HY
              simp only at HY
              go_upto_region 15 with (first | (refine wpList_load_mid rfl _ _ rfl _ _ rfl _ _ HY.out Tryz.underlying106 rfl (by kernel_rfl) ?_))
              have HYB := hide (Bx.new wr [Value.int .i64 yt, .int .i64 yp, .int .i64 ye, .int .i64 yl] 106)
              have HXB := hide (HXW.out.alloc (.cells (List.toArray [Value.int .i64 yt, .int .i64 yp, .int .i64 ye, .int .i64 yl]) 106))
              have HB3 := hide (HBW.out.trans ((below_al1 wr (.cells (List.toArray [Value.int .i64 yt, .int .i64 yp, .int .i64 ye, .int .i64 yl]) 106)).mono HBW.out.size))
              clear HY HXW HBW
              generalize wr.alloc (.cells (List.toArray [Value.int .i64 yt, .int .i64 yp, .int .i64 ye, .int .i64 yl]) 106) = X3 at HYB HXB HB3 ⊢
              generalize wr.heap.size = bY at HYB ⊢
              obtain ⟨y0, y1, y2, y3⟩ := HYB.out.c4
              obtain ⟨x0, x1, x2, x3⟩ := HXB.out.c4
              by_cases e1 : yt = id
              · by_cases e2 : yp = (b : Int)
                · have n1 : (yt != id) = false := by simp [e1]
                  have n2 : (yp != (b : Int)) = false := by simp [e2]
                  have ho := HYM.out e1 e2
                  simp only at ho
                  rcases ho with ho | ⟨ho, ho2⟩
                  · have n3 : ¬ ep < ye := by omega
                    have n4 : (ye == ep) = false := by simp; omega
                    have hq : ∀ W, (binOp .eql 106 (.agg #[.int .i64 yt, .int .i64 yp, .int .i64 ye, .int .i64 yl]) (.agg #[.int .i64 id, .int .i64 (b : Int), .int .i64 ep, .int .i64 ld])).run Tryz.prog W = .ok (.bool false) W := fun W => by
                      rw [e1, e2]
                      exact eq_rgN' _ _ _ _ _ _ (by omega) W
                    have hg := guardRg
                    clear ho e1 e2
                    cases mt with
                    | true =>
                      go_wp2_with fail
                      go_roundw
                      case rel => exact ⟨c + 1, true, by omega, by go_num, rfl, HB3.out⟩
                      case measure => simp [ivG]; omega
                    | false =>
                      go_wp2_with (first | (refine wpList_load_mid rfl _ _ rfl _ _ rfl _ _ HYB.out.c Tryz.underlying106 rfl (by kernel_rfl) ?_) | (refine wpList_load_mid rfl _ _ rfl _ _ rfl _ _ HXB.out.c Tryz.underlying106 rfl (by kernel_rfl) ?_))
                      go_roundw
                      case rel => exact ⟨c + 1, false, by omega, by go_num, rfl, HB3.out⟩
                      case measure => simp [ivG]; omega
                  · have n3 : ¬ ep < ye := by omega
                    have n4 : (ye == ep) = true := by simp [ho]
                    have n5 : (yl != ld) = false := by simp [ho2]
                    have hq : ∀ W, (binOp .eql 106 (.agg #[.int .i64 yt, .int .i64 yp, .int .i64 ye, .int .i64 yl]) (.agg #[.int .i64 id, .int .i64 (b : Int), .int .i64 ep, .int .i64 ld])).run Tryz.prog W = .ok (.bool true) W := fun W => by
                      rw [e1, e2, ho, ho2]
                      exact eq_rgS _ _ _ _ W
                    have hg := guardRg
                    clear ho ho2 e1 e2
                    cases mt with
                    | true =>
                      go_wp2_with fail
                      go_roundw
                      case rel => exact ⟨c + 1, true, by omega, by go_num, rfl, HB3.out⟩
                      case measure => simp [ivG]; omega
                    | false =>
                      go_wp2_with (first | (refine wpList_load_mid rfl _ _ rfl _ _ rfl _ _ HYB.out.c Tryz.underlying106 rfl (by kernel_rfl) ?_) | (refine wpList_load_mid rfl _ _ rfl _ _ rfl _ _ HXB.out.c Tryz.underlying106 rfl (by kernel_rfl) ?_))
                      go_roundw
                      case rel => exact ⟨c + 1, true, by omega, by go_num, rfl, HB3.out⟩
                      case measure => simp [ivG]; omega
                · have n1 : (yt != id) = false := by simp [e1]
                  have n2 : (yp != (b : Int)) = true := by simpa using e2
                  clear e1 e2
                  go_wp2_with fail
                  go_roundw
                  case rel => exact ⟨c + 1, mt, by omega, by go_num, rfl, HB3.out⟩
                  case measure => simp [ivG]; omega
              · have n1 : (yt != id) = true := by simpa using e1
                clear e1
                go_wp2_with fail
                go_roundw
                case rel => exact ⟨c + 1, mt, by omega, by go_num, rfl, HB3.out⟩
                case measure => simp [ivG]; omega
            · obtain rfl : c = lo.length := by omega
              have HS3 := hide (HS2.out.below HBB.out HBW.out)
              cases mt with
              | true =>
                go_wp2_with fail
                go_roundw
                case rel => exact ⟨_, b + 1, lo, rfl, by omega, by go_num, HS3.out, by have := HLL.out; omega⟩
                case measure => simp [ivG]; omega
              | false =>
                have HS4 := hide (HS3.out.below HBB.out (below_al1 wr (.cells (List.toArray [Value.int .i64 id, .int .i64 (b : Int), .int .i64 ep, .int .i64 ld]) 106)))
                have HR4 := hide (Bx.new wr [Value.int .i64 id, .int .i64 (b : Int), .int .i64 ep, .int .i64 ld] 106).c
                have HL4 : Hid (lo.length + 1 ≤ 2000000000) := hide (by have := HLL.out; have := HN.out; omega)
                have HB4 : Hid (B ≤ (wr.alloc (.cells (List.toArray [Value.int .i64 id, .int .i64 (b : Int), .int .i64 ep, .int .i64 ld]) 106)).heap.size) := hide (by have := HBB.out; have := HS4.out.x.l; omega)
                go_wp2_with (first | (refine wpList_load_mid rfl _ _ rfl _ _ rfl _ _ HXW.out.c Tryz.underlying106 rfl (by kernel_rfl) ?_) | (refine wpList_appO tyiG encG _ rfl _ _ rfl B _ lo rfl HS4.out.o HB4.out wr.heap.size 0 1 [⟨id, b, ep, ld⟩] rfl HR4.out HL4.out ?_; intro v' w' hov hgv hob hbe; have HS5 := hide (HS4.out.app HVL.out hov hgv hob hbe HSN.out); clear hov hgv hob hbe))
                go_roundw
                case rel => exact ⟨_, b + 1, lo ++ [⟨id, b, ep, ld⟩], rfl, by omega, by go_num, HS5.out, by have := HLL.out; rw [List.length_append]; simp only [List.length_cons, List.length_nil]; omega⟩
                case measure => simp [ivG]; omega
        · obtain rfl : b = ps.length := by simp only at hb; omega
          go_wp2_with fail
          go_roundw
          case rel => exact ⟨vo, a + 1, lo, rfl, by omega, by go_num, HS.out, by have := HLL.out; simp only at this hpn; omega⟩
          case measure => simp [ivG]; omega
    · obtain rfl : a = ts.length := by omega
      obtain ⟨i0, i1, i2, i3, i4⟩ := HS.out.x.im
      go_wp2_with fail
      exact bodyPost_ret (v := .tuple #[vo, .bool true]) (by simp [results, Tryz.results32, go_sem]) rfl ⟨_, lo, rfl, HS.out.o, HS.out.r, by have := HLL.out; omega, HS.out.k, by have := HS.out.x.l; omega, fun g hg => (HS.out.ob g hg).imp id (fun q => by omega), HS.out.b⟩
end Go.Proofs.YtfnemlbkmhcodaaGreat
