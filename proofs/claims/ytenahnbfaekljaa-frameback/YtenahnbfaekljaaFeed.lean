/-
  BYTES THAT COME TO A STREAM (frame.Stream.Feed): which frames are told, what is wrong, what is left. Conditions: the stream's cells hold what they do, no more than five thousand bytes.
-/
import Derived.Test.YtenahnbfaekljaaFgt
import Derived.Test.YtenahnbfaekljaaFput
import Derived.WalkMore
import Derived.Deep.LoopGhost
namespace Go.Proofs.Ytenahnbfaekljaa
open Go.RowKit

/-- A stream at block p: the bytes that are left, in memory of its own, how many were told, what is wrong. -/
def Strm (B : Nat) (W : World) (p : Nat) (v : Value) (L : List Int) (a : Int) (e : Value) : Prop :=
  Rd W p v a e ∧ v.ownBlock ≠ some p ∧ B ≤ p ∧ ∃ cur, Rw B W v L.length cur ∧ cur.take L.length = bv L
/-- What is left, and what is wrong, where n bytes were told. -/
def leftS (A : List Int) (n : Nat) : List Int := if (nextS (A.drop n)).c = 0 then A.drop n else []
def errS (a : Nat) (A : List Int) (n : Nat) : Option (List (ByteArray × Int) × Int) := match errF (nextS (A.drop n)) with
  | none => none
  | some (l, c) => some ((⟨#[102, 114, 97, 109, 101]⟩, (a + n : Nat)) :: l, c)
theorem Rw.sl {B : Nat} {W : World} {v : Value} {L : List Int} {cur : List Value} (h : Rw B W v L.length cur) (hc : cur.take L.length = bv L) : Sl bc W v L := by
  have := h.owns
  rw [hc] at this
  exact sl_of_owns this
set_option maxHeartbeats 4000000 in
theorem feed_err (p : Nat) (v u : Value) (a : Int) (t : TypeId) (x : Value) (w : World) (hr : Rd w p v a (.iface t x)) :
    Calls Try.prog 8 #[.pointer (some ⟨p, 0, none⟩), u] w fun x w' => x = .returned (.slice none 0 0) ∧ w' = w := by
  obtain ⟨c0, c1, c2, fz⟩ := hr
  go_enter Try.func8, Try.ntmps8
  go_wp2_with fail
  go_step3
  go_wp2_with fail
  rw [Exit.noGoto_ret]
  go_ret
  exact ⟨rfl, rfl⟩
theorem owns_ex {S : Nat → Prop} {w w' : World} {base n size : Nat} {e : TypeId} {v : Value} {xs : List Value} (h : w.ownsRow base e size v n xs) (hx : Ex S w w') (hs : ∀ g, v.ownBlock = some g → ¬ S g) : w'.ownsRow base e size v n xs := by
  obtain ⟨h1, h2⟩ := h
  refine ⟨h1, ?_⟩
  rcases h2 with h2 | ⟨g, cap, cur, a1, a2, a3, a4⟩
  · exact .inl h2
  · refine .inr ⟨g, cap, cur, a1, a2, ?_, a4⟩
    rw [hx.block g (Array.getElem?_eq_some_iff.1 a3).1 (hs g (by rw [a1]; rfl))]
    exact a3
theorem Rw.ex {S : Nat → Prop} {B : Nat} {w w' : World} {v : Value} {n : Nat} {cur : List Value} (h : Rw B w v n cur) (hx : Ex S w w') (hs : ∀ g, v.ownBlock = some g → ¬ S g) : Rw B w' v n cur := by
  obtain ⟨h1, h2, h3⟩ := h
  refine ⟨h1, h2, ?_⟩
  rcases h3 with h3 | ⟨g, a1, a2, a3⟩
  · exact .inl h3
  · refine .inr ⟨g, a1, a2, ?_⟩
    rw [hx.block g (Array.getElem?_eq_some_iff.1 a3).1 (hs g (by rw [a1]; rfl))]
    exact a3
theorem Rw.lt {B : Nat} {w : World} {v : Value} {n : Nat} {cur : List Value} (h : Rw B w v n cur) : ∀ g, v.ownBlock = some g → B ≤ g ∧ g < w.heap.size := by
  intro g hg
  rcases h.2.2 with ⟨rfl, _⟩ | ⟨g', rfl, a2, a3⟩
  · cases hg
  · cases hg
    exact ⟨a2, (Array.getElem?_eq_some_iff.1 a3).1⟩
/-- What a call of Feed leaves. -/
def FeedP (B p : Nat) (v : Value) (A : List Int) (a : Nat) (w : World) (x : Ending) (w' : World) : Prop :=
  ∃ y k ps v', x = .returned y ∧ Its A k ∧ (nextS (A.drop (it A k).2)).size = 0 ∧
      w'.ownsRow w.heap.size 40 2 y k (fcs ps) ∧ Bod (fun b => w.heap.size ≤ b ∧ some b ≠ v'.ownBlock) w' ps (it A k).1 ∧
      Strm B w' p v' (leftS A (it A k).2) ((a + (it A k).2 : Nat) : Int) (ev (errS a A (it A k).2)) ∧
      (v'.ownBlock = v.ownBlock ∨ ∀ g, v'.ownBlock = some g → w.heap.size ≤ g) ∧ Ex (fun k => k = p ∨ some k = v.ownBlock) w w' ∧ ∀ g, y.ownBlock = some g → v'.ownBlock ≠ some g
theorem feed_end {B p a k : Nat} {v v' y : Value} {A : List Int} {ps : List (Int × Value)} {w w2 wX w6 : World} (hits : Its A k) (hsz : (nextS (A.drop (it A k).2)).size = 0) (hX : Ex (fun k => k = p ∨ some k = v.ownBlock) w w2) (hp : p < w.heap.size) (hb : Below w2.heap.size w2 wX)
    (hown : wX.ownsRow w2.heap.size 40 2 y k (fcs ps)) (hbod : Bod (fun b => w2.heap.size ≤ b ∧ b < wX.heap.size) wX ps (it A k).1) (hx6 : Ex (fun k => k = p) wX w6)
    (hst : Strm B w6 p v' (leftS A (it A k).2) ((a + (it A k).2 : Nat) : Int) (ev (errS a A (it A k).2))) (hv1 : v'.ownBlock = v.ownBlock ∨ ∀ g, v'.ownBlock = some g → w.heap.size ≤ g) (hv2 : ∀ g, v'.ownBlock = some g → g < w2.heap.size ∨ wX.heap.size ≤ g) : FeedP B p v A a w (.returned y) w6 := by
  have hs := hX.size
  refine ⟨y, k, ps, v', rfl, hits, hsz, ?_, ?_, hst, hv1, hX.trans ((Ex.of hb).trans (hx6.mono (fun _ _ h => .inl h))), fun g hg e => ?_⟩
  · refine owns_mono (owns_ex hown hx6 (fun g hg e => ?_)) hs
    have := (hown.lt g hg).1
    omega
  · refine Bod.imp (fun u l h => ?_) hbod
    have h1 := h.ex hx6 (fun b hb e => by have := hb.1; omega)
    refine h1.mono (fun b _ hb => ⟨by omega, fun e => ?_⟩)
    rcases hv2 b e.symm with q | q <;> omega
  · have h1 := hown.lt g hg
    rcases hv2 g e with q | q <;> omega
theorem feed_step {w2 wr w3 w5 : World} {k : Nat} {y y5 ub : Value} {ps : List (Int × Value)} {fs : List (Int × List Int)} {K : Int} {body : List Int} {o o' : Obj} (hb : Below w2.heap.size w2 wr) (hown : wr.ownsRow w2.heap.size 40 2 y k (fcs ps))
    (hbod : Bod (fun b => w2.heap.size ≤ b ∧ some b ≠ y.ownBlock) wr ps fs) (hb3 : Below wr.heap.size wr w3) (hub : Sld 0 wr.heap.size bc w3 ub body) (hg5 : ((w3.alloc o).alloc o').grownBy w5 y.ownBlock) (hblk : y5.ownBlock = y.ownBlock ∨ ∀ g, y5.ownBlock = some g → w3.heap.size + 1 + 1 ≤ g) :
    Bod (fun b => w2.heap.size ≤ b ∧ some b ≠ y5.ownBlock) w5 (ps ++ [(K, ub)]) (fs ++ [(K, body)]) ∧ Below w2.heap.size w2 w5 := by
  have hsr := hb.size
  have hs3 := hb3.size
  have hylt : ∀ g, y.ownBlock = some g → w2.heap.size ≤ g ∧ g < wr.heap.size := fun g h => hown.lt g h
  have hal : Below w3.heap.size w3 ((w3.alloc o).alloc o') := ((Below.refl _ _).alloc (Nat.le_refl _) o).alloc (by simp) o'
  have hx35 : Ex (fun k => some k = y.ownBlock) w3 w5 := (Ex.of hal).trans (Ex.grown hg5 (fun g h => h.symm))
  have hxr5 : Ex (fun k => some k = y.ownBlock) wr w5 := (Ex.of hb3).trans hx35
  refine ⟨Bod.app (Bod.imp (fun u l h => ?_) hbod) (Bod.one ?_), ?_⟩
  · have h1 : Slo (fun b => (w2.heap.size ≤ b ∧ some b ≠ y5.ownBlock) ∧ some b ≠ y.ownBlock) wr u l := h.mono (fun b hlt hb => ⟨⟨hb.1, fun e => by
      rcases hblk with q | q
      · rw [q] at e; exact hb.2 e
      · have := q b e.symm; omega⟩, hb.2⟩)
    exact (h1.ex hxr5 (fun b hb => hb.2)).mono (fun b _ hb => hb.1)
  · have h1 := hub.slo.ex hx35 (fun b hb e => by have := (hylt b e.symm).2; omega)
    refine h1.mono (fun b _ hb => ⟨by omega, fun e => ?_⟩)
    rcases hblk with q | q
    · rw [q] at e; have := (hylt b e.symm).2; omega
    · have := q b e.symm; omega
  · exact hb.trans (hxr5.below hsr (fun k hk e => by have := (hylt k e.symm).1; omega))
theorem Bod.fresh {w2 W : World} {y : Value} {ps : List (Int × Value)} {fs : List (Int × List Int)} (h : Bod (fun b => w2.heap.size ≤ b ∧ some b ≠ y.ownBlock) W ps fs) : Bod (fun b => w2.heap.size ≤ b ∧ b < W.heap.size) W ps fs :=
  Bod.imp (fun _ _ h => h.mono (fun _ hl hb => ⟨hb.1, hl⟩)) h
theorem Bod.below {ok : Nat → Prop} {W W' : World} {ps : List (Int × Value)} {fs : List (Int × List Int)} (h : Bod ok W ps fs) (hb : Below W.heap.size W W') : Bod ok W' ps fs := Bod.imp (fun _ _ h => h.below hb) h
theorem forget_ok (B p : Nat) (v : Value) (A : List Int) (cur : List Value) (a m : Nat) (W : World) (hr : Rd W p v (a : Int) .nilIface) (hrw : Rw B W v A.length cur) (htk : cur.take A.length = bv A) (hvp : v.ownBlock ≠ some p) (hBp : B ≤ p) (ha : a ≤ 5000) (hm : m ≤ A.length) (hl : A.length ≤ 5000) :
    Calls Try.prog 17 #[.pointer (some ⟨p, 0, none⟩), .int .i64 (m : Int)] W fun x w6 => x = .returned (.tuple #[]) ∧ ∃ v', Strm B w6 p v' (A.drop m) ((a + m : Nat) : Int) .nilIface ∧ (v'.ownBlock = v.ownBlock ∨ ∀ g, v'.ownBlock = some g → W.heap.size ≤ g) ∧ Ex (fun k => k = p) W w6 := by
  have hplt := hr.lt
  by_cases h0 : m = 0
  · subst h0
    refine (forget_none p v a W hr (by omega)).mono ?_
    rintro e w6 ⟨rfl, rfl⟩
    have hx : Ex (fun k => k = p) W (W.setCell ⟨p, 1, none⟩ (.int .i64 (a : Int))) := Ex.set (S := fun k => k = p) W rfl 1 _
    refine ⟨rfl, v, ⟨hr.seta (a : Int), hvp, hBp, cur, ?_, htk⟩, .inl rfl, hx⟩
    exact hrw.ex hx (fun g hg e => hvp (by rw [hg, e]))
  · have hslo : Slo (fun b => b ≠ p) W v A := by
      rcases hrw.sl htk with h | ⟨b, o, cap, h1, h2, h3⟩
      · exact .inl h
      · exact .inr ⟨b, o, cap, h1, h2, fun e => hvp (by rw [h1, e]; rfl), h3⟩
    refine (forget_more p v A a m W hr (by omega) (by omega) hm (by omega) hslo).mono ?_
    rintro e w6 ⟨rfl, v', hr', ho, hx⟩
    have hlt : ∀ g, v'.ownBlock = some g → W.heap.size ≤ g := fun g hg => (ho.lt g hg).1
    obtain ⟨cur', k1, k2⟩ := Rw.of ho
    refine ⟨rfl, v', ⟨?_, fun e => ?_, hBp, cur', ⟨k1.1, k1.2.1, ?_⟩, k2⟩, .inr hlt, hx⟩
    · rw [show ((a + m : Nat) : Int) = (a : Int) + (m : Int) by omega]; exact hr'
    · have := hlt p e; omega
    · rcases k1.2.2 with q | ⟨g, q1, q2, q3⟩
      · exact .inl q
      · exact .inr ⟨g, q1, by omega, q3⟩
theorem forget_bad (B p : Nat) (v : Value) (a m : Nat) (t : TypeId) (u : Value) (W : World) (hr : Rd W p v (a : Int) (.iface t u)) (hBp : B ≤ p) (ha : a ≤ 5000) (hm : m ≤ 5000) :
    Calls Try.prog 17 #[.pointer (some ⟨p, 0, none⟩), .int .i64 (m : Int)] W fun x w6 => x = .returned (.tuple #[]) ∧ Strm B w6 p (.slice none 0 0) [] ((a + m : Nat) : Int) (.iface t u) ∧ Ex (fun k => k = p) W w6 := by
  refine (forget_err p v a m t u W hr (by omega) (by omega)).mono ?_
  rintro e w6 ⟨rfl, rfl⟩
  refine ⟨rfl, ⟨?_, by simp [Value.ownBlock], hBp, [], rw_nil _ _, rfl⟩, (Ex.set (S := fun k => k = p) W rfl 1 _).trans (Ex.set (S := fun k => k = p) _ rfl 0 _)⟩
  rw [show ((a + m : Nat) : Int) = (a : Int) + (m : Int) by omega]
  exact (hr.seta _).setv _
set_option maxRecDepth 100000 in
set_option maxHeartbeats 4000000 in
theorem feed_core (B p : Nat) (v u : Value) (L Q A : List Int) (a : Nat) (w : World) (hst : Strm B w p v L (a : Int) .nilIface) (hB : B ≤ w.heap.size) (hu : Sl bc w u Q) (hAq : A = L ++ Q) (hby : Byt A) (hlen : A.length ≤ 5000) (ha : a ≤ 5000) :
    Calls Try.prog 8 #[.pointer (some ⟨p, 0, none⟩), u] w (FeedP B p v A a w) := by
  obtain ⟨hr, hvp, hBp, cur, hrw, hcur⟩ := hst
  have hA : A.length = L.length + Q.length := by rw [hAq]; exact List.length_append
  have hAb : bv A = bv L ++ bv Q := by rw [hAq]; simp [bv]
  have HA := hide hA
  have HAB := hide hAb
  have hLQ : L.length + Q.length ≤ 5000 := by omega
  clear hA hAb hAq
  have hplt := hr.lt
  obtain ⟨c0, c1, c2, fz⟩ := id hr
  have HR := hide hr
  have HRW := hide hrw
  have HU := hide hu
  have HCU := hide hcur
  have HY := hide hby
  clear hr fz hrw hu hcur hby
  go_enter Try.func8, Try.ntmps8
  go_wp2_with fail
  go_step3
  go_wp2_with (first | (at_builtin; refine wpList_append_sl _ rfl _ _ rfl B _ L.length cur rfl HRW.out hB _ Q rfl HU.out (by omega) ?_))
  intro w1 v1 cur1 hp1
  have hcell : ∀ i, w1.cell? ⟨p, i, none⟩ = w.cell? ⟨p, i, none⟩ := fun i => World.cell?_of_block (hp1.grown.block p hplt (Ne.symm hvp))
  have hfroz : ∀ i, w1.frozen? ⟨p, i, none⟩ = w.frozen? ⟨p, i, none⟩ := fun i => World.frozen?_of_block (hp1.grown.block p hplt (Ne.symm hvp))
  have hr1 : Rd w1 p v a .nilIface := ⟨(hcell 0).trans HR.out.c0, (hcell 1).trans HR.out.c1, (hcell 2).trans HR.out.c2, fun i => (hfroz i).trans (HR.out.fz i)⟩
  have hx1 : Ex (fun k => k = p ∨ some k = v.ownBlock) w w1 := Ex.grown hp1.grown (fun g h => .inr h.symm)
  have hblk : v1.ownBlock = v.ownBlock ∨ ∀ g, v1.ownBlock = some g → w.heap.size ≤ g := hp1.blk
  have hv1p : v1.ownBlock ≠ some p := by
    rcases hblk with q | q
    · rw [q]; exact hvp
    · intro e; have := q p e; omega
  have hrw1 : Rw B w1 v1 A.length cur1 := by rw [HA.out]; exact hp1.rw
  have htk1 : cur1.take A.length = bv A := by rw [HA.out, hp1.tk, HCU.out, HAB.out]
  obtain ⟨ao1, e1, _⟩ := rw_form hrw1
  subst e1
  have hx2 := hx1.trans (Ex.set (S := fun k => k = p ∨ some k = v.ownBlock) w1 (.inl rfl) 0 (.slice ao1 A.length cur1.length))
  have hr2 := hr1.setv (.slice ao1 A.length cur1.length)
  have hrw2 : Rw B (w1.setCell ⟨p, 0, none⟩ (.slice ao1 A.length cur1.length)) (.slice ao1 A.length cur1.length) A.length cur1 := by
    obtain ⟨q1, q2, q3⟩ := hrw1
    refine ⟨q1, q2, ?_⟩
    rcases q3 with q3 | ⟨g, b1, b2, b3⟩
    · exact .inl q3
    · refine .inr ⟨g, b1, b2, ?_⟩
      rw [Below.heap_setCell _ _ _ _ (fun e => hv1p (by rw [b1]; simp at e; simp [Value.ownBlock, e]))]
      exact b3
  obtain ⟨d0, d1, d2, gz⟩ := id hr1
  have g0 := gz 0
  have HX2 := hide hx2
  have HR2 := hide hr2
  have HRW2 := hide hrw2
  have HTK := hide htk1
  have HBLK := hide hblk
  have HV1P := hide hv1p
  clear hp1 hcell hfroz hr1 hx1 hblk hv1p hrw1 htk1 hx2 hr2 hrw2 gz HRW HU HCU
  go_wp2_with fail
  go_step3
  go_wp2_with fail
  obtain ⟨w2, hw2⟩ : ∃ w2, w2 = w1.setCell ⟨p, 0, none⟩ (.slice ao1 A.length cur1.length) := ⟨_, rfl⟩
  rw [← hw2] at HX2 HR2 HRW2 ⊢
  clear hw2 d0 d1 d2 g0 c0 c1 c2
  have hws : w.heap.size ≤ w2.heap.size := HX2.out.size
  go_loopg [5, 6] A.length (fun g y n wr => ∃ (k : Nat) (ps : List (Int × Value)), (it A k).2 + g = A.length ∧ n = .int .i64 ((it A k).2 : Int) ∧ Its A k ∧ wr.ownsRow w2.heap.size 40 2 y k (fcs ps) ∧ Bod (fun b => w2.heap.size ≤ b ∧ some b ≠ y.ownBlock) wr ps (it A k).1 ∧ Below w2.heap.size w2 wr)
  case atStart => exact ⟨0, [], by simp [it], rfl, fun j hj => absurd hj (Nat.not_lt_zero _), World.ownsRow_nil _ _ _ _, trivial, Below.refl _ _⟩
  case round =>
    obtain ⟨k, ps, hg, rfl, hits, hown, hbod, hb⟩ := hrel
    have hle := it_le A k
    obtain ⟨u2, hs2, hu2⟩ := slice_from_any _ A (it A k).2 w2 (HRW2.out.sl HTK.out) hle
    have hr := HR2.out.below hb
    have hxn := nx_any u2 (A.drop (it A k).2) wr (hu2 wr ((HRW2.out.sl HTK.out).below hb)) (by rw [List.length_drop]; omega) (fun x hx => HY.out x (List.mem_of_mem_drop hx))
    have HN := hide hxn
    have HITS := hide hits
    have HOWN := hide hown
    have HBOD := hide hbod
    have HB := hide hb
    have HRr := hide hr
    obtain ⟨c0, c1, c2, fz⟩ := id hr
    clear hr fz hxn hits hown hbod hb hu2
    by_cases hsz : (nextS (A.drop (it A k).2)).size = 0
    · have HSZ := hide hsz
      have hkk := its_le HITS.out
      by_cases hc : (nextS (A.drop (it A k).2)).c = 0
      · rw [show errF (nextS (A.drop (it A k).2)) = none from if_pos hc] at HN
        simp only [ev] at HN
        have HE : Hid (errS a A (it A k).2 = none) := hide (by unfold errS; rw [show errF (nextS (A.drop (it A k).2)) = none from if_pos hc])
        have HL : Hid (leftS A (it A k).2 = A.drop (it A k).2) := hide (if_pos hc)
        rw [hsz] at HN
        clear hc hsz
        generalize (nextS (A.drop (it A k).2)).K = fK at HN
        generalize (nextS (A.drop (it A k).2)).body = fB at HN
        go_wp2_with fail
        refine HN.out.mono ?_
        rintro e w3 ⟨ub, rfl, hub, hb3⟩
        obtain ⟨ao3, cap3, hub1⟩ := hub.sl.form
        subst hub1
        generalize fB.length = M at *
        unfold fdt
        have hbX : Below wr.heap.size wr (w3.alloc (.cells #[.int .i64 fK, .slice ao3 M cap3] 40)) := hb3.alloc hb3.size _
        have HBX := hide (HB.out.trans (hbX.mono HB.out.size))
        have HOX := hide (owns_below HOWN.out hbX)
        have HDX := hide ((HBOD.out.fresh.below hbX))
        have HRX := hide (HRr.out.below hbX)
        have hszX := hbX.size
        have HSX := hide hszX
        clear hub hb3 hbX hszX
        have HRWX := hide (HRW2.out.below HBX.out)
        have HC := hide (forget_ok B p _ A cur1 a (it A k).2 _ HRX.out HRWX.out HTK.out HV1P.out hBp ha hle hlen)
        go_wp2_with fail
        refine HC.out.mono ?_
        rintro e w6 ⟨rfl, v', hst, hv', hx6⟩
        have HFE : Hid (FeedP B p v A a w (.returned u5) w6) := hide (by
          refine feed_end HITS.out HSZ.out HX2.out hplt HBX.out HOX.out (Bod.imp (fun _ _ h => h.mono (fun b hb q => ⟨q.1, hb⟩)) HDX.out) hx6 (by rw [HL.out, HE.out]; exact hst) ?_ ?_
          · rcases hv' with q | q
            · rw [q]; exact HBLK.out
            · exact .inr fun g hg => Nat.le_trans (Nat.le_trans hws HBX.out.size) (q g hg)
          · intro g hg
            rcases hv' with q | q
            · exact .inl (HRW2.out.lt g (by rw [← q]; exact hg)).2
            · exact .inr (q g hg))
        clear hst hv' hx6 HC HN
        go_wp2_with fail
        rw [Exit.noGoto_ret]
        go_ret
        exact HFE.out
      · have hop : ∃ l c, errF (nextS (A.drop (it A k).2)) = some (l, c) := by
          unfold errF
          rw [if_neg hc]
          split <;> exact ⟨_, _, rfl⟩
        obtain ⟨el, ec, he⟩ := hop
        obtain ⟨ty, tv, htv⟩ := chn_form el ec
        have HE : Hid (ev (errS a A (it A k).2) = .iface 60 (.agg #[.string ⟨#[102, 114, 97, 109, 101]⟩, .int .i64 ((a : Int) + ((it A k).2 : Int)), .iface ty tv])) := hide (by unfold errS; rw [he]; simp only [ev, chn, htv]; simp)
        rw [he] at HN
        simp only [ev, htv] at HN
        have HL : Hid (leftS A (it A k).2 = []) := hide (if_neg hc)
        rw [hsz] at HN
        clear hc hsz he htv
        generalize (nextS (A.drop (it A k).2)).K = fK at HN
        generalize (nextS (A.drop (it A k).2)).body = fB at HN
        go_wp2_with fail
        refine HN.out.mono ?_
        rintro e w3 ⟨ub, rfl, hub, hb3⟩
        obtain ⟨ao3, cap3, hub1⟩ := hub.sl.form
        subst hub1
        generalize fB.length = M at *
        unfold fdt
        have hbX : Below wr.heap.size wr (w3.alloc (.cells #[.int .i64 fK, .slice ao3 M cap3] 40)) := hb3.alloc hb3.size _
        have HBX := hide (HB.out.trans (hbX.mono HB.out.size))
        have HOX := hide (owns_below HOWN.out hbX)
        have HDX := hide ((HBOD.out.fresh.below hbX))
        have hrX := HRr.out.below hbX
        obtain ⟨d0, d1, d2, gz⟩ := id hrX
        have g2 := gz 2
        have HRX := hide (hrX.sete (.iface 60 (.agg #[.string ⟨#[102, 114, 97, 109, 101]⟩, .int .i64 ((a : Int) + ((it A k).2 : Int)), .iface ty tv])))
        have HC := hide (forget_bad B p _ a (it A k).2 _ _ _ HRX.out hBp ha (by omega))
        clear hub hb3 hbX gz hrX
        go_wp2_with (first | (go_at_call 16; refine (wrap_some _ _ _ _ _).mono ?_; rintro e w4 ⟨rfl, rfl⟩) | (go_at_call 17; refine HC.out.mono ?_; rintro e w6 ⟨rfl, hst, hx6⟩; have HST := hide hst; have HX6 := hide hx6; clear hst hx6))
        rw [Exit.noGoto_ret]
        go_ret
        refine feed_end HITS.out HSZ.out HX2.out hplt HBX.out HOX.out (Bod.imp (fun _ _ h => h.mono (fun b hb q => ⟨q.1, hb⟩)) HDX.out) ((Ex.set (S := fun k => k = p) _ rfl 2 _).trans HX6.out) (by rw [HL.out, HE.out]; exact HST.out) ?_ ?_
        · exact .inr fun g hg => by simp [Value.ownBlock] at hg
        · intro g hg; simp [Value.ownBlock] at hg
    · have hc := nextS_c hsz
      rw [show errF (nextS (A.drop (it A k).2)) = none from if_pos hc] at HN
      simp only [ev] at HN
      have hfz := nextS_size (A.drop (it A k).2)
      rw [List.length_drop] at hfz
      generalize hf : nextS (A.drop (it A k).2) = f at *
      have HF := hide hf
      clear hf
      have hszI : ¬ (f.size : Int) = 0 := by omega
      go_wp2_with fail
      refine HN.out.mono ?_
      rintro e w3 ⟨ub, rfl, hub, hb3⟩
      obtain ⟨ao3, cap3, hub1⟩ := hub.sl.form
      obtain ⟨M, hM⟩ : ∃ M, M = f.body.length := ⟨_, rfl⟩
      rw [← hM] at hub1
      clear hM
      subst hub1
      have HUB := hide hub
      have HB3 := hide hb3
      have HOWN3 := hide (((owns_below HOWN.out hb3).alloc (.cells #[.int .i64 f.K, .slice ao3 M cap3] 40)).alloc (.cells #[.int .i64 f.K, .slice ao3 M cap3] 40))
      have hsz3 : w2.heap.size ≤ ((w3.alloc (.cells #[.int .i64 f.K, .slice ao3 M cap3] 40)).alloc (.cells #[.int .i64 f.K, .slice ao3 M cap3] 40)).heap.size := by
        have h1 := HB.out.size
        have h2 := hb3.size
        simp
        omega
      have HZ3 := hide hsz3
      have hcl : ∀ j u, [Value.int .i64 f.K, Value.slice ao3 M cap3][j]? = some u → ((w3.alloc (.cells #[.int .i64 f.K, .slice ao3 M cap3] 40)).alloc (.cells #[.int .i64 f.K, .slice ao3 M cap3] 40)).cell? ((⟨w3.heap.size + 1, 0, none⟩ : Addr).add j) = some u := by
        have := cells_at (w3.alloc (.cells #[.int .i64 f.K, .slice ao3 M cap3] 40)) [Value.int .i64 f.K, Value.slice ao3 M cap3] 40
        simpa using this
      have HCL := hide hcl
      have hkk := its_le HITS.out
      clear hub hb3 hsz3 hcl
      unfold fdt
      go_wp2_with (first | (at_builtin; refine wpList_append_fr _ rfl _ _ rfl w2.heap.size _ k (fcs ps) rfl HOWN3.out HZ3.out ⟨w3.heap.size + 1, 0, none⟩ 1 1 [.int .i64 f.K, .slice ao3 M cap3] rfl rfl (by omega) HCL.out (by intro u hu; simp at hu; rcases hu with rfl | rfl <;> rfl) (by omega) ?_))
      intro w5 y5 hown5 hg5 hblk5
      have hstep := feed_step (K := f.K) (body := f.body) (ub := .slice ao3 M cap3) HB.out HOWN.out HBOD.out HB3.out HUB.out hg5 hblk5
      have HSTEP := hide hstep
      have HOWN5 := hide hown5
      clear hown5 hg5 hblk5 hstep HOWN3 HCL HN
      go_wp2_with fail
      go_roundg (gk - f.size)
      case measure => omega
      case rel =>
        refine ⟨k + 1, ps ++ [(f.K, .slice ao3 M cap3)], ?_, ?_, its_succ HITS.out (by rw [HF.out]; exact hsz), ?_, ?_, HSTEP.out.2⟩
        · simp only [it, HF.out]; omega
        · simp only [it, HF.out]; simp
        · rw [fcs_app]; exact HOWN5.out
        · simp only [it, HF.out]; exact HSTEP.out.1
end Go.Proofs.Ytenahnbfaekljaa
