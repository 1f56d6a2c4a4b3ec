/-
  ALL WHOLE FRAMES OF BYTES (castellanref04.Scan): as one function of the bytes. Conditions: the bytes' cells hold them, no more than two thousand.
-/
import Derived.Test.YtenahnbfaekljaaDoorMQ
import Derived.Test.YtenahnbfaekljaaDoorMN
namespace Go.Proofs.YtenahnbfaekljaaDoor
open Go.RowKit

theorem Sl.slo {W : World} {v : Value} {l : List Int} (h : Sl bc W v l) : Slo (fun b => b < W.heap.size) W v l := by
  rcases h with h | ⟨b, o, cap, h1, h2, h3⟩
  · exact .inl h
  · by_cases hl : 0 < l.length
    · exact .inr ⟨b, o, cap, h1, h2, cell_block (h3 0 hl), h3⟩
    · exact .inl ⟨_, _, List.length_eq_zero_iff.1 (by omega), by rw [h1, show l.length = 0 by omega]⟩
theorem Slo.some_at {ok : Nat → Prop} {w : World} {v : Value} {l : List Int} (h : Slo ok w v l) (hl : 0 < l.length) : ∃ b o cap, v = .slice (some ⟨b, o, none⟩) l.length cap ∧ ok b := by
  rcases h with ⟨_, _, rfl, _⟩ | ⟨b, o, cap, h1, h2, h4, h3⟩
  · simp at hl
  · exact ⟨b, o, cap, h1, h4⟩
theorem slice_from_slo (ok : Nat → Prop) (v : Value) (b : List Int) (n : Nat) (w : World) (hv : Slo ok w v b) (hn : n ≤ b.length) :
    ∃ u, (∀ W, (Instr.slice 22 v (some (.int .i64 (n : Int))) none none).run Tryd.prog W = .ok u W) ∧ ∀ W, Slo ok W v b → Slo ok W u (b.drop n) := by
  by_cases h0 : n < b.length
  · rcases hv with ⟨_, _, rfl, _⟩ | ⟨g, o, cap, rfl, hc, hp, _⟩
    · simp at h0
    refine ⟨_, from_run _ b.length cap n hn, fun W hW => ?_⟩
    rcases hW with ⟨_, _, rfl, _⟩ | ⟨g', o', cap', h1, h2, hp', h3⟩
    · simp at h0
    cases h1
    have hl : (b.drop n).length = b.length - n := by rw [List.length_drop]
    refine .inr ⟨g, o + n, cap - n, by rw [if_neg (by omega), hl, Addr.add_lit], by rw [hl]; omega, hp, fun i hi => ?_⟩
    rw [hl] at hi
    rw [Nat.add_assoc, h3 (n + i) (by omega)]
    simp [List.getElem_drop]
  · obtain ⟨u, h1, h2⟩ := slice_from_any v b n w hv.sl hn
    refine ⟨u, h1, fun W hW => ?_⟩
    have h3 := h2 W hW.sl
    have e : b.drop n = [] := List.drop_eq_nil_of_le (by omega)
    rw [e] at h3 ⊢
    obtain ⟨ao, cap, rfl⟩ := h3.form
    exact .inl ⟨_, _, rfl, rfl⟩
theorem next_slo (ok : Nat → Prop) (v : Value) (l : List Int) (w : World) (hv : Slo ok w v l) (hl : l.length ≤ 2000) (hby : Byt l) :
    Calls Tryd.prog 14 #[v] w fun e w' => ∃ u, e = .returned (fdv (nextS l).K u (nextS l).size (nextS l).c (nextS l).op (nextS l).wh) ∧ Slo ok w' u (nextS l).body ∧ Below w.heap.size w w' := by
  refine (next_full v l w hv.sl hl hby).mono ?_
  rintro e w' ⟨u, h1, h2, h3, h4⟩
  refine ⟨u, h1, ?_, h3⟩
  rcases h2 with h2 | ⟨b, o, cap, h5, h6, h7⟩
  · exact .inl h2
  · obtain ⟨o', k', c', e⟩ := h4 b o _ _ h5
    rcases hv with ⟨_, _, rfl, e2⟩ | ⟨b', o2, c2, e2, _, h8, _⟩
    · have hz : (nextS []).body = [] := rfl
      rw [hz] at h5 ⊢
      exact .inl ⟨_, _, rfl, h5⟩
    · rw [e] at e2
      cases e2
      exact .inr ⟨b, o, cap, h5, h6, h8, h7⟩
theorem Fd6.ex {S : Nat → Prop} {W W' : World} {n : Nat} (h : Fd6 W n) (hx : Ex S W W') (hs : ¬ S n) : Fd6 W' n := by
  obtain ⟨⟨h0, h1, h2, h3, h4, h5⟩, hf⟩ := h
  have hl : n < W.heap.size := cell_block h0
  have hc : ∀ i, W'.cell? ⟨n, i, none⟩ = W.cell? ⟨n, i, none⟩ := fun i => hx.cell hl hs
  exact ⟨⟨(hc 0).trans h0, (hc 1).trans h1, (hc 2).trans h2, (hc 3).trans h3, (hc 4).trans h4, (hc 5).trans h5⟩, fun i => (World.frozen?_of_block (hx.block n hl hs)).trans (hf i)⟩
theorem scan_step {w wr w3 w5 : World} {k : Nat} {y ub : Value} {ps : List (Int × Value)} {fs : List (Int × List Int)} {K : Int} {body : List Int} {o o' : Obj} (hb : Below w.heap.size w wr) (hown : wr.ownsRow (w.heap.size + 1) 24 2 y k (fcs ps))
    (hbod : Bod (fun b => b < w.heap.size) wr ps fs) (hfd : Fd6 wr w.heap.size) (hb3 : Below wr.heap.size wr w3) (hub : Slo (fun b => b < w.heap.size) w3 ub body) (hg5 : ((w3.alloc o).alloc o').grownBy w5 y.ownBlock) :
    Bod (fun b => b < w.heap.size) w5 (ps ++ [(K, ub)]) (fs ++ [(K, body)]) ∧ Fd6 w5 w.heap.size ∧ Below w.heap.size w w5 ∧ w5.cell? ⟨w3.heap.size, 2, none⟩ = ((w3.alloc o).alloc o').cell? ⟨w3.heap.size, 2, none⟩ := by
  have hs3 := hb3.size
  have hylt : ∀ g, y.ownBlock = some g → w.heap.size + 1 ≤ g ∧ g < wr.heap.size := fun g h => hown.lt g h
  have hal : Below w3.heap.size w3 ((w3.alloc o).alloc o') := ((Below.refl _ _).alloc (Nat.le_refl _) o).alloc (by simp) o'
  have hx5 : Ex (fun k => some k = y.ownBlock) ((w3.alloc o).alloc o') w5 := Ex.grown hg5 (fun g h => h.symm)
  have hx35 : Ex (fun k => some k = y.ownBlock) w3 w5 := (Ex.of hal).trans hx5
  have hxr5 : Ex (fun k => some k = y.ownBlock) wr w5 := (Ex.of hb3).trans hx35
  have hno : ∀ b, b ≤ w.heap.size → ¬ some b = y.ownBlock := fun b hb e => by have := (hylt b e.symm).1; omega
  refine ⟨Bod.app (Bod.imp (fun u l h => h.ex hxr5 (fun b hb => hno b (Nat.le_of_lt hb))) hbod) (Bod.one (hub.ex hx35 (fun b hb => hno b (Nat.le_of_lt hb)))), hfd.ex hxr5 (hno _ (Nat.le_refl _)), hb.trans (hxr5.below hb.size (fun b hb => hno b (Nat.le_of_lt hb))), ?_⟩
  exact hx5.cell (by simp; omega) (fun e => by have := (hylt _ e.symm).2; omega)
/-- What a call of Scan leaves. -/
def ScanP (l : List Int) (w : World) (e : Ending) (w' : World) : Prop :=
  ∃ y k ps u, e = .returned (.tuple #[y, .int .i64 ((it l k).2 : Int), fdv (nextS (l.drop (it l k).2)).K u (nextS (l.drop (it l k).2)).size (nextS (l.drop (it l k).2)).c (nextS (l.drop (it l k).2)).op (nextS (l.drop (it l k).2)).wh]) ∧ (∃ ao cap, u = .slice ao (nextS (l.drop (it l k).2)).body.length cap) ∧ Its l k ∧ (nextS (l.drop (it l k).2)).size = 0 ∧
    w'.ownsRow w.heap.size 24 2 y k (fcs ps) ∧ Bod (fun b => b < w.heap.size) w' ps (it l k).1 ∧ Below w.heap.size w w'
set_option maxRecDepth 100000 in
set_option maxHeartbeats 8000000 in
theorem scan_any (v : Value) (l : List Int) (w : World) (hv : Sl bc w v l) (hl : l.length ≤ 2000) (hby : Byt l) : Calls Tryd.prog 17 #[v] w (ScanP l w) := by
  have HV := hide hv.slo
  have HY := hide hby
  have hba : Below w.heap.size w (w.alloc (.cells #[.int .i64 0, .slice none 0 0, .int .i64 0, .int .i64 0, .string ⟨#[]⟩, .int .i64 0] 43)) := (Below.refl _ _).alloc (Nat.le_refl _) _
  have hfd : Fd6 (w.alloc (.cells #[.int .i64 0, .slice none 0 0, .int .i64 0, .int .i64 0, .string ⟨#[]⟩, .int .i64 0] 43)) w.heap.size := ⟨⟨by simp, by simp, by simp, by simp, by simp, by simp⟩, fun i => World.frozen?_alloc_at _ _ _ _ rfl⟩
  have HBA := hide hba
  have HFD := hide hfd
  obtain ⟨ao, cap, rfl⟩ := hv.form
  clear hv hby hba hfd
  go_enter Tryd.func17, Tryd.ntmps17
  go_wp2_with fail
  go_loopg [5, 6] l.length (fun g y n wr => ∃ (k : Nat) (ps : List (Int × Value)), (it l k).2 + g = l.length ∧ n = .int .i64 ((it l k).2 : Int) ∧ Its l k ∧ wr.ownsRow (w.heap.size + 1) 24 2 y k (fcs ps) ∧ Bod (fun b => b < w.heap.size) wr ps (it l k).1 ∧ Fd6 wr w.heap.size ∧ Below w.heap.size w wr)
  case atStart => exact ⟨0, [], by simp [it], rfl, fun j hj => absurd hj (Nat.not_lt_zero _), World.ownsRow_nil _ _ _ _, trivial, HFD.out, HBA.out⟩
  case round =>
    obtain ⟨k, ps, hg, rfl, hits, hown, hbod, hfd, hb⟩ := hrel
    have hle := it_le l k
    have hkk := its_le hits
    have hle' : ((it l k).2 : Int) ≤ (l.length : Int) := by omega
    obtain ⟨u2, hs2, hu2⟩ := slice_from_slo _ _ l (it l k).2 w HV.out hle
    have HN := hide (next_slo _ u2 (l.drop (it l k).2) wr (hu2 wr (HV.out.below hb)) (by rw [List.length_drop]; omega) (fun x hx => HY.out x (List.mem_of_mem_drop hx)))
    have hfz := nextS_size (l.drop (it l k).2)
    rw [List.length_drop] at hfz
    have HITS := hide hits
    have HOWN := hide hown
    have HBOD := hide hbod
    have HFR := hide hfd
    have HB := hide hb
    have hsw : w.heap.size < wr.heap.size := cell_block hfd.c.1
    unfold fdv at HN
    clear hits hown hbod hfd hb hu2
    generalize hf : nextS (l.drop (it l k).2) = f at *
    have HF := hide hf
    clear hf
    go_wp2_with fail
    refine HN.out.mono ?_
    rintro e w3 ⟨ub, rfl, hub, hb3⟩
    obtain ⟨ao3, cap3, hub1⟩ := hub.sl.form
    obtain ⟨M, hM⟩ : ∃ M, M = f.body.length := ⟨_, rfl⟩
    rw [← hM] at hub1
    have HM := hide hM
    clear hM
    subst hub1
    have HUB := hide hub
    have hba3 : Below w3.heap.size w3 (w3.alloc (.cells #[.int .i64 f.K, .slice ao3 M cap3, .int .i64 (f.size : Int), .int .i64 f.c, .string f.op, .int .i64 (f.wh : Int)] 43)) := (Below.refl _ _).alloc (Nat.le_refl _) _
    have HBR := hide (bt hb3 hba3)
    have HB3 := hide hb3
    clear hub hb3 hba3
    by_cases hsz : f.size = 0
    · have HSZ := hide hsz
      have HFX := hide (HFR.out.below HB3.out)
      obtain ⟨⟨q0, q1, q2, q3, q4, q5⟩, fz⟩ := id HFX.out
      have f0 := fz 0
      have f1 := fz 1
      have f2 := fz 2
      have f3 := fz 3
      have f4 := fz 4
      have f5 := fz 5
      have hlt3 : w.heap.size < w3.heap.size := by have := HB3.out.size; omega
      have hne3 : ¬ w.heap.size = w3.heap.size := by omega
      rw [hsz]
      clear fz hsz
      go_wp2_with fail
      go_region
      go_wp2_with fail
      have T := set6 (x0 := .int .i64 f.K) (x1 := .slice ao3 M cap3) (x2 := .int .i64 0) (x3 := .int .i64 f.c) (x4 := .string f.op) (x5 := .int .i64 (f.wh : Int)) q0 q1 q2 q3 q4 q5
      have hx : Ex (fun k => k = w.heap.size) w3 ((((((w3.setCell ⟨w.heap.size, 0, none⟩ (.int .i64 f.K)).setCell ⟨w.heap.size, 1, none⟩ (.slice ao3 M cap3)).setCell ⟨w.heap.size, 2, none⟩ (.int .i64 0)).setCell ⟨w.heap.size, 3, none⟩ (.int .i64 f.c)).setCell ⟨w.heap.size, 4, none⟩ (.string f.op)).setCell ⟨w.heap.size, 5, none⟩ (.int .i64 (f.wh : Int))) :=
        (((((Ex.set (S := fun k => k = w.heap.size) w3 rfl 0 _).trans (Ex.set (S := fun k => k = w.heap.size) _ rfl 1 _)).trans (Ex.set (S := fun k => k = w.heap.size) _ rfl 2 _)).trans (Ex.set (S := fun k => k = w.heap.size) _ rfl 3 _)).trans (Ex.set (S := fun k => k = w.heap.size) _ rfl 4 _)).trans (Ex.set (S := fun k => k = w.heap.size) _ rfl 5 _)
      obtain ⟨WC, hWC⟩ : ∃ WC, WC = ((((((w3.setCell ⟨w.heap.size, 0, none⟩ (.int .i64 f.K)).setCell ⟨w.heap.size, 1, none⟩ (.slice ao3 M cap3)).setCell ⟨w.heap.size, 2, none⟩ (.int .i64 0)).setCell ⟨w.heap.size, 3, none⟩ (.int .i64 f.c)).setCell ⟨w.heap.size, 4, none⟩ (.string f.op)).setCell ⟨w.heap.size, 5, none⟩ (.int .i64 (f.wh : Int))) := ⟨_, rfl⟩
      obtain ⟨t0, t1, t2, t3, t4, t5⟩ := T WC hWC
      rw [← hWC] at hx ⊢
      have z : w.heap.size < WC.heap.size := cell_block t0
      have hal : Below WC.heap.size WC (WC.alloc (.cells #[.int .i64 f.K, .slice ao3 M cap3, .int .i64 0, .int .i64 f.c, .string f.op, .int .i64 (f.wh : Int)] 43)).drew := ((Below.refl _ _).alloc (Nat.le_refl _) _).drew
      have hxF := hx.trans (Ex.of hal)
      have hxr := (Ex.of (S := fun k => k = w.heap.size) HB3.out).trans hxF
      have hO := owns_ex HOWN.out hxr (fun g hg e => by have := (HOWN.out.lt g hg).1; omega)
      have hD := Bod.imp (fun _ _ h => h.ex hxr (fun b hb e => by omega)) HBOD.out
      have hBB := HB.out.trans (hxr.below HB.out.size (fun k hk e => by omega))
      refine bodyPost_ret (v := .tuple #[u5, .int .i64 ((it l k).2 : Int), fdv f.K (.slice ao3 M cap3) 0 f.c f.op (f.wh : Int)]) (by simp [results, Tryd.results17, go_sem, t0, t1, t2, t3, t4, t5, z, fdv]) rfl ?_
      refine ⟨u5, k, ps, .slice ao3 M cap3, ?_, ?_, HITS.out, by rw [HF.out]; exact HSZ.out, owns_mono hO (Nat.le_succ _), hD, hBB⟩
      · rw [HF.out, HSZ.out]; rfl
      · rw [HF.out]; exact ⟨ao3, cap3, by rw [HM.out]⟩
    · have hszI : ¬ (f.size : Int) = 0 := by omega
      have HOWN3 := hide (((owns_below HOWN.out HB3.out).alloc (.cells #[.int .i64 f.K, .slice ao3 M cap3, .int .i64 (f.size : Int), .int .i64 f.c, .string f.op, .int .i64 (f.wh : Int)] 43)).alloc (.cells #[.int .i64 f.K, .slice ao3 M cap3] 24))
      have HZ3 : Hid (w.heap.size + 1 ≤ ((w3.alloc (.cells #[.int .i64 f.K, .slice ao3 M cap3, .int .i64 (f.size : Int), .int .i64 f.c, .string f.op, .int .i64 (f.wh : Int)] 43)).alloc (.cells #[.int .i64 f.K, .slice ao3 M cap3] 24)).heap.size) := hide (by
        have h2 := HB3.out.size
        simp
        omega)
      have HCL : Hid (∀ j u, [Value.int .i64 f.K, Value.slice ao3 M cap3][j]? = some u → ((w3.alloc (.cells #[.int .i64 f.K, .slice ao3 M cap3, .int .i64 (f.size : Int), .int .i64 f.c, .string f.op, .int .i64 (f.wh : Int)] 43)).alloc (.cells #[.int .i64 f.K, .slice ao3 M cap3] 24)).cell? ((⟨w3.heap.size + 1, 0, none⟩ : Addr).add j) = some u) := hide (by
        have := cells_at (w3.alloc (.cells #[.int .i64 f.K, .slice ao3 M cap3, .int .i64 (f.size : Int), .int .i64 f.c, .string f.op, .int .i64 (f.wh : Int)] 43)) [Value.int .i64 f.K, Value.slice ao3 M cap3] 24
        simpa using this)
      go_wp2_with (first | (at_builtin; refine wpList_append_fr _ rfl _ _ rfl (w.heap.size + 1) _ k (fcs ps) rfl HOWN3.out HZ3.out ⟨w3.heap.size + 1, 0, none⟩ 1 1 [.int .i64 f.K, .slice ao3 M cap3] rfl rfl (by omega) HCL.out (by intro u hu; simp at hu; rcases hu with rfl | rfl <;> rfl) (by omega) ?_))
      intro w5 y5 hown5 hg5 _
      have hstep := scan_step (K := f.K) (body := f.body) (ub := .slice ao3 M cap3) HB.out HOWN.out HBOD.out HFR.out HB3.out HUB.out hg5
      have cF : w5.cell? ⟨w3.heap.size, 2, none⟩ = some (.int .i64 (f.size : Int)) := by rw [hstep.2.2.2]; simp
      have HSTEP := hide hstep
      have HOWN5 := hide hown5
      clear hown5 hg5 hstep HOWN3 HCL HN
      go_wp2_with fail
      go_roundg (gk - f.size)
      case measure => omega
      case rel =>
        refine ⟨k + 1, ps ++ [(f.K, .slice ao3 M cap3)], ?_, ?_, its_succ HITS.out (by rw [HF.out]; exact hsz), ?_, ?_, HSTEP.out.2.1, HSTEP.out.2.2.1⟩
        · simp only [it, HF.out]; omega
        · simp only [it, HF.out]; simp
        · rw [fcs_app]; exact HOWN5.out
        · simp only [it, HF.out]; exact HSTEP.out.1
end Go.Proofs.YtenahnbfaekljaaDoor
