/-
  RecordReads' WALK: which records any bytes are, one behind the other, and what is wrong first, and where. Conditions: the bytes' cells hold them, each is a byte; errors.errorType is laid.
-/
import Derived.Test.YtgbcjmpnkejpeaaGreatDoorJRecRrb
import Derived.Test.YtgbcjmpnkejpeaaGreatDoorJRecEna2
import Derived.Test.YtgbcjmpnkejpeaaGreatDoorJRecWr
import Derived.Test.YtgbcjmpnkejpeaaGreatDoorJRecPb
import Derived.Deep.RegionHeld3
import Derived.Deep.DeepCutAuto
namespace Go.Proofs.YtgbcjmpnkejpeaaGreatDoor
open Go.RowKit

theorem wrong_gs (s : Gs) (w : World) (hg : Hnd w) : Calls Tryz.prog 16 #[erN s.op s.pt s.c, .agg #[.string s.op, .int .i64 (whS s), .int .i64 s.c]] w fun e w' => e = .returned (.bool true) ∧ Below w.heap.size w w' := by
  by_cases hc : s.c = 0
  · rw [hc]
    exact wrong_nil s.op (whS s) w
  · have := wrong_any s.op s.pt s.c w hg
    rw [show whS s = (s.pt : Int) from if_neg hc]
    exact this
theorem cuG_bx {p q : Nat} {v : Value} {s : Gs} {W W' : World} (h : CuG W p v s) (hb : Bx q W W') (hq : p ≠ q) : CuG W' p v s :=
  have hl := cell_block h.c0
  ⟨(hb.cell hl hq).trans h.c0, (hb.cell hl hq).trans h.c1, (hb.cell hl hq).trans h.c2, (hb.cell hl hq).trans h.c3, (hb.cell hl hq).trans h.c4, fun i => (hb.frozen hl hq).trans (h.fz i)⟩
theorem isR_bx {q : Nat} {v : Value} {r : Rc} {ok : Nat → Prop} {W W' : World} (h : IsR ok W v r) (hb : Bx q W W') (hq : ¬ ok q) : IsR ok W' v r := by
  obtain ⟨a14, a15, a16, a17, c14, c15, c16, c17, h1, h2⟩ := h
  have hc : ∀ b i, b < W.heap.size → ok b → W'.cell? ⟨b, i, none⟩ = W.cell? ⟨b, i, none⟩ := fun b i hl hk => hb.cell hl (fun e => hq (e ▸ hk))
  exact ⟨a14, a15, a16, a17, c14, c15, c16, c17, h1, ⟨h2.h14.imp (fun _ _ q => q) hc, h2.h15.imp (fun _ _ q => q) hc, h2.h16.imp (fun _ _ q => q) hc, h2.h17.imp (fun _ _ q => q) hc⟩⟩
/-- A reader and a cursor over the same bytes, in the same state. -/
structure Two (w W : World) (p q : Nat) (v : Value) (l : List Int) (s : Gs) : Prop where
  rd : RdG W p v s
  cu : CuG W q v s
  pt : s.pt ≤ l.length
  be : Below w.heap.size w W
  hp : w.heap.size ≤ p
  hq : w.heap.size ≤ q
  ne : p ≠ q
  lq : q < W.heap.size
theorem Two.below {w W W' : World} {p q : Nat} {v : Value} {l : List Int} {s : Gs} (h : Two w W p q v l s) (hb : Below W.heap.size W W') : Two w W' p q v l s :=
  ⟨h.rd.below hb, h.cu.below hb, h.pt, h.be.trans (hb.mono h.be.size), h.hp, h.hq, h.ne, Nat.lt_of_lt_of_le h.lq hb.size⟩
theorem Two.lp {w W : World} {p q : Nat} {v : Value} {l : List Int} {s : Gs} (h : Two w W p q v l s) : p < W.heap.size := h.rd.lt
end Go.Proofs.YtgbcjmpnkejpeaaGreatDoor
