/-
  THE RECORD THAT A READER READS NEXT (record.Read): what the document says. Conditions: the bytes' cells hold them, each is a byte, no more than ten thousand, they don't lie in the reader, and the reader is within them.
  THE RECORD THAT A READER READS NEXT (record.Read): the walk.
  THE DOCUMENT's NEXT NUMBER, as one function of the bytes, the place and the limit (castellanref02.num). Conditions: the bytes' cells hold them, each is a byte, and no more than four thousand.
  THE DOCUMENT's End (castellanref02.End), and its bad where something is wrong already. Condition: no more than four thousand bytes.
  THE DOCUMENT's NEXT TEXT (castellanref02.text), out of what its num tells: something is wrong; bytes lack; they are there. Conditions: the bytes' cells hold them, no more than four thousand, and the numbers are in their bounds.
-/
import Derived.Test.YtoioddnlkbjljaaGreatDoorJKWputda6
import Derived.Test.YtoioddnlkbjljaaGreatDoorJKRefRead
import Derived.Deep.RegionHeld3
import Derived.Deep.DeepCutAuto
namespace Go.Proofs.YtoioddnlkbjljaaGreatDoor
open Go.RowKit

theorem gT_len {l : List Int} {s : Gs} (hb : Byt l) : (gT l s).2.length ≤ 256 := by
  unfold gT
  split
  · simp only [bs_len]
    unfold textS
    rw [show abv' 256 = 256 from rfl]
    rcases hq : numS (l.drop s.pt) 256 with ⟨c, k, N⟩
    simp only
    split
    · rename_i hc
      subst hc
      have := numS_once (hb.drop s.pt) hq
      split
      · simp
      · rw [List.length_take]; omega
    · simp
  · simp
theorem fL_all {α : Type} (z : α) (g : Gs → Gs × α) (P : α → Prop) (hz : P z) (hg : ∀ s, P (g s).2) : ∀ (hs : List Bool) (s : Gs), ∀ x ∈ (fL z g hs s).2, P x
  | [], _, x, h => by simp [fL] at h
  | b :: hs, s, x, h => by
    rcases List.mem_cons.1 h with e | e
    · rw [e]
      cases b
      · exact hz
      · exact hg s
    · exact fL_all z g P hz hg hs _ x e
theorem getD_all {α : Type} (P : α → Prop) (l : List α) (d : α) (hd : P d) (h : ∀ x ∈ l, P x) (i : Nat) : P (l.getD i d) := by
  by_cases hi : i < l.length
  · rw [show l.getD i d = l[i] by simp [List.getD, hi]]
    exact h _ (List.getElem_mem hi)
  · rw [show l.getD i d = d by simp [List.getD, List.getElem?_eq_none (Nat.le_of_not_lt hi)]]
    exact hd
theorem body_tx {l : List Int} {k : Int} {s : Gs} (hb : Byt l) : TxR (bodyG l k s).2 := by
  unfold bodyG
  simp only
  generalize (fL false (gF l) (hF k) (fL 0 (gN 1073741824 l) (hN k) s).1).1 = s2
  have h := fL_all [] (gT l) (fun x => x.length ≤ 1000) (by simp) (fun s => by have := gT_len (s := s) hb; omega) (hT k) s2
  exact ⟨getD_all (fun x => x.length ≤ 1000) _ [] (by simp) h 0, getD_all (fun x => x.length ≤ 1000) _ [] (by simp) h 1, getD_all (fun x => x.length ≤ 1000) _ [] (by simp) h 2, getD_all (fun x => x.length ≤ 1000) _ [] (by simp) h 3⟩
theorem body_k (l : List Int) (k : Int) (s : Gs) : (bodyG l k s).2.k = k := rfl
theorem body_pt {l : List Int} {k : Int} {s : Gs} (hb : Byt l) (hs : s.pt ≤ l.length) : (bodyG l k s).1.pt ≤ l.length := by
  unfold bodyG
  simp only
  exact fL_pt [] (gR l) l.length (fun s h => gR_pt hb h) _ _ (fL_pt [] (gT l) l.length (fun s h => gT_pt hb h) _ _ (fL_pt false (gF l) l.length (fun s h => gF_pt hb h) _ _ (fL_pt 0 (gN 1073741824 l) l.length (fun s h => gN_pt hb h) _ _ hs)))
theorem read_pt {l : List Int} {s : Gs} (hb : Byt l) (hs : s.pt ≤ l.length) : (readG l s).1.pt ≤ l.length := by
  have h1 := gN_pt (m := 63) hb hs
  have h2 := body_pt (k := (gN 63 l s).2) hb h1
  unfold readG
  simp only
  split
  · split
    · split
      · exact h2
      · exact h2
    · exact h2
  · split
    · exact h1
    · exact h1
/-- New zeros are there, and may be written. -/
theorem there_new (w : World) : (w.alloc (.cells #[.int .i64 0, .int .i64 0, .int .i64 0, .int .i64 0, .int .i64 0, .int .i64 0, .int .i64 0, .int .i64 0, .int .i64 0, .bool false, .string ⟨#[]⟩, .string ⟨#[]⟩, .string ⟨#[]⟩, .string ⟨#[]⟩, .slice none 0 0, .slice none 0 0, .slice none 0 0, .slice none 0 0] 55)).there w.heap.size 0 18 := fun j hj =>
  ⟨(range_new w [.int .i64 0, .int .i64 0, .int .i64 0, .int .i64 0, .int .i64 0, .int .i64 0, .int .i64 0, .int .i64 0, .int .i64 0, .bool false, .string ⟨#[]⟩, .string ⟨#[]⟩, .string ⟨#[]⟩, .string ⟨#[]⟩, .slice none 0 0, .slice none 0 0, .slice none 0 0, .slice none 0 0] 55).isSome j hj, by simp⟩
theorem there_bx {p R : Nat} {W W' : World} (h : W.there R 0 18) (hb : Bx p W W') (hp : R ≠ p) : W'.there R 0 18 := fun j hj => by
  have hl : R < W.heap.size := by
    obtain ⟨x, hx⟩ := Option.isSome_iff_exists.1 (h 0 (by decide)).1
    exact cell_block hx
  rw [hb.cell hl hp, hb.frozen hl hp]
  exact h j hj
theorem Bx.handle {p : Nat} {w w' : World} (h : Bx p w w') (hp : p ≠ 0) (hg : Hnd w) : Hnd w' := (h.cell (cell_block hg) (Ne.symm hp)).trans hg
/-- A record that is laid into new cells, and then its kind. -/
theorem laid {ok : Nat → Prop} {p R X : Nat} {w W : World} {v : Value} {s : Gs} {x : Rc} {a14 a15 a16 a17 : Option Addr} {c14 c15 c16 c17 : Nat} {k : Int} (hX : X = W.heap.size) (hr : RdG W p v s) (hb : Bx p w W) (hp : p < w.heap.size) (hw : RwsR ok W x a14 a15 a16 a17 c14 c15 c16 c17) (ht : W.there R 0 18) (hR : R < W.heap.size) {W1 W2 : World} (h1 : W1 = (W.alloc (.cells #[.int .i64 0, .int .i64 0, .int .i64 0, .int .i64 0, .int .i64 0, .int .i64 0, .int .i64 0, .int .i64 0, .int .i64 0, .bool false, .string ⟨#[]⟩, .string ⟨#[]⟩, .string ⟨#[]⟩, .string ⟨#[]⟩, .slice none 0 0, .slice none 0 0, .slice none 0 0, .slice none 0 0] 55)).setCells X 0 (cellsR x a14 a15 a16 a17 c14 c15 c16 c17)) (h2 : W2 = W1.setCell ⟨X, 0, none⟩ (.int .i64 k)) :
    (W1.cell? ⟨X, 0, none⟩ = some (.int .i64 x.k) ∧ W1.frozen? ⟨X, 0, none⟩ = false) ∧ RdG W2 p v s ∧ Bx p w W2 ∧ RwsR ok W2 { x with k := k } a14 a15 a16 a17 c14 c15 c16 c17 ∧ W2.there R 0 18 ∧ W2.rangeAt X 0 (cellsR { x with k := k } a14 a15 a16 a17 c14 c15 c16 c17) ∧ X < W2.heap.size := by
  subst h2
  subst h1
  generalize hW1 : (W.alloc (.cells #[.int .i64 0, .int .i64 0, .int .i64 0, .int .i64 0, .int .i64 0, .int .i64 0, .int .i64 0, .int .i64 0, .int .i64 0, .bool false, .string ⟨#[]⟩, .string ⟨#[]⟩, .string ⟨#[]⟩, .string ⟨#[]⟩, .slice none 0 0, .slice none 0 0, .slice none 0 0, .slice none 0 0] 55)).setCells X 0 (cellsR x a14 a15 a16 a17 c14 c15 c16 c17) = W1
  generalize hW2 : W1.setCell ⟨X, 0, none⟩ (.int .i64 k) = W2
  have hth : (W.alloc (.cells #[.int .i64 0, .int .i64 0, .int .i64 0, .int .i64 0, .int .i64 0, .int .i64 0, .int .i64 0, .int .i64 0, .int .i64 0, .bool false, .string ⟨#[]⟩, .string ⟨#[]⟩, .string ⟨#[]⟩, .string ⟨#[]⟩, .slice none 0 0, .slice none 0 0, .slice none 0 0, .slice none 0 0] 55)).there X 0 18 := by subst hX; exact there_new W
  have hrg : W1.rangeAt X 0 (cellsR x a14 a15 a16 a17 c14 c15 c16 c17) := by rw [← hW1]; exact World.rangeAt_setCells_same _ _ _ _ hth
  have hfz : ∀ j, j < 18 → W1.frozen? ⟨X, 0 + j, none⟩ = false := fun j hj => by rw [← hW1, World.frozen?_setCells]; exact (hth j hj).2
  have hXw : w.heap.size ≤ X := by rw [hX]; exact hb.size
  have hXp : X ≠ p := by omega
  have hbl : Below W.heap.size W (W.alloc (.cells #[.int .i64 0, .int .i64 0, .int .i64 0, .int .i64 0, .int .i64 0, .int .i64 0, .int .i64 0, .int .i64 0, .int .i64 0, .bool false, .string ⟨#[]⟩, .string ⟨#[]⟩, .string ⟨#[]⟩, .string ⟨#[]⟩, .slice none 0 0, .slice none 0 0, .slice none 0 0, .slice none 0 0] 55)) := (Below.refl _ _).alloc (Nat.le_refl _) _
  have hc0 : W1.cell? ⟨X, 0, none⟩ = some (.int .i64 x.k) := hrg 0 _ rfl
  have hcell : ∀ b i, b ≠ X → b < W.heap.size → W2.cell? ⟨b, i, none⟩ = W.cell? ⟨b, i, none⟩ := fun b i hb hl => by
    rw [← hW2, World.cell?_setCell_other _ _ _ _ (fun q => hb (congrArg Addr.block q).symm), ← hW1, cell_many hb]
    exact hbl.cell (p := ⟨b, i, none⟩) hl
  have hsl : ∀ (u : Value) (l : List Int), Sli ok W u l → Sli ok W2 u l := fun u l h => h.imp (fun _ _ q => q) (fun b i hl _ => hcell b i (by omega) hl)
  refine ⟨⟨hc0, hfz 0 (by decide)⟩, by rw [← hW2, ← hW1]; exact rdG_set (rdG_many hXp _ _ (hr.below hbl)) hXp, by rw [← hW2, ← hW1]; exact (Bx.many hXw _ _ (hb.call hbl)).fresh hXw, ⟨hsl _ _ hw.h14, hsl _ _ hw.h15, hsl _ _ hw.h16, hsl _ _ hw.h17⟩, fun j hj => ⟨?_, ?_⟩, ?_, ?_⟩
  · rw [hcell R _ (by omega) hR]; exact (ht j hj).1
  · have h1 : W2.frozen? ⟨R, 0 + j, none⟩ = W1.frozen? ⟨R, 0 + j, none⟩ := by rw [← hW2]; simp
    rw [h1, ← hW1, World.frozen?_setCells, hbl.frozen (p := ⟨R, 0 + j, none⟩) hR]
    exact (ht j hj).2
  · intro j y hy
    rcases j with _ | j
    · cases hy
      rw [← hW2]
      exact World.cell?_setCell_same _ _ _ hc0
    · rw [← hW2, World.cell?_setCell_other _ _ _ _ (fun q => by have := congrArg Addr.off q; simp at this)]
      exact hrg (j + 1) y hy
  · rw [← hW2]; exact cell_block (World.cell?_setCell_same _ _ (.int .i64 k) hc0)
end Go.Proofs.YtoioddnlkbjljaaGreatDoor
namespace Go.Proofs.YtoioddnlkbjljaaGreatDoor
open Go.RowKit

theorem read_kind {l : List Int} {s : Gs} {s1 : Gs} {k : Int} (hq : gN 63 l s = (s1, k)) (hk : ¬ (1 ≤ k ∧ k ≤ 12)) : readG l s = (refS ⟨#[107, 105, 110, 100]⟩ 5 s1, Rc.zero) := by
  unfold readG refS
  rw [hq]
  simp only
  rw [if_neg hk]
theorem read_body {l : List Int} {s : Gs} {s1 s4 : Gs} {k : Int} {x : Rc} (hq : gN 63 l s = (s1, k)) (hk : 1 ≤ k ∧ k ≤ 12) (hb : bodyG l k s1 = (s4, x)) : readG l s = if s4.c = 0 then (if (chk x).2.2 = 0 then (s4, x) else (⟨(chk x).2.2, ⟨#[114, 101, 99, 111, 114, 100]⟩, s4.pt⟩, Rc.zero)) else (s4, Rc.zero) := by
  unfold readG
  rw [hq]
  simp only
  rw [if_pos hk, hb]
set_option maxRecDepth 100000 in
set_option maxHeartbeats 16000000 in
theorem cread_any (p : Nat) (v : Value) (l : List Int) (s : Gs) (w : World) (hrd : RdG w p v s) (hv : Slx p bc w v l) (hl : l.length ≤ 100000) (hby : Byt l) (hs : s.pt ≤ l.length) (hg : Hnd w) (hpz : p ≠ 0) :
    Calls Tryz.prog 107 #[.pointer (some ⟨p, 0, none⟩)] w fun e w' => ∃ vx, e = .returned vx ∧ IsR (fun b => w.heap.size ≤ b) w' vx (readG l s).2 ∧ RdG w' p v (readG l s).1 ∧ Bx p w w' := by
  have HBY := hide hby
  have hp : p < w.heap.size := hrd.lt
  have hbl : Below w.heap.size w (w.alloc (.cells #[.int .i64 0, .int .i64 0, .int .i64 0, .int .i64 0, .int .i64 0, .int .i64 0, .int .i64 0, .int .i64 0, .int .i64 0, .bool false, .string ⟨#[]⟩, .string ⟨#[]⟩, .string ⟨#[]⟩, .string ⟨#[]⟩, .slice none 0 0, .slice none 0 0, .slice none 0 0, .slice none 0 0] 55)) := (Below.refl _ _).alloc (Nat.le_refl _) _
  have HTH := hide (there_new w)
  have HG := hide (hg.below hbl)
  have HC := hide (rint_gs p v l 63 s _ (hrd.below hbl) (hv.below hbl) hl hby hs (by decide) (by decide))
  have hpt := gN_pt (m := 63) (s := s) hby hs
  have HB0 := hide (Bx.of (p := p) hbl)
  have HV := hide hv
  have HGW := hide hg
  rcases hq : gN 63 l s with ⟨s1, k⟩
  rw [hq] at HC hpt
  simp only at HC hpt
  have HS := hide (fun W => subj_any k W)
  have HQ := hide hq
  clear hbl hrd hv hby hs hg hq
  by_cases hk : 1 ≤ k ∧ k ≤ 12
  · rw [show knd k = true from decide_eq_true hk] at HS
    rcases hb : bodyG l k s1 with ⟨s4, x⟩
    have HR := hide (read_body HQ.out hk hb)
    have HTX : Hid (TxR x) := hide (by have := body_tx (k := k) (s := s1) HBY.out; rwa [hb] at this)
    have HXK : Hid ({ x.k0 with k := k } = x) := hide (by have := body_k l k s1; rw [hb] at this; cases x; simp only [Rc.k0] at this ⊢; rw [this])
    go_enter Tryz.func107, Tryz.ntmps107
    go_upto_region 1 with fail
    generalize w.alloc (.cells #[.int .i64 0, .int .i64 0, .int .i64 0, .int .i64 0, .int .i64 0, .int .i64 0, .int .i64 0, .int .i64 0, .int .i64 0, .bool false, .string ⟨#[]⟩, .string ⟨#[]⟩, .string ⟨#[]⟩, .string ⟨#[]⟩, .slice none 0 0, .slice none 0 0, .slice none 0 0, .slice none 0 0] 55) = X0 at HTH HG HC HB0 ⊢
    go_upto_region 6 with (first | (go_at_call 74; refine HC.out.mono ?_; rintro e w1 ⟨rfl, hr1, hb1⟩) | (go_at_call 126; refine (HS.out _).mono ?_; rintro e w9 ⟨rfl, hw9⟩; rw [hw9]; clear hw9 w9))
    replace HTH := hide (there_bx HTH.out hb1 (by omega))
    replace HG := hide (hb1.handle hpz HG.out)
    replace HB0 := hide (HB0.out.trans hb1)
    have HF := hide (fields_any p v l s1 k w1 hr1 (HV.out.bx HB0.out) hl HBY.out hpt hk)
    rw [hb] at HF
    simp only at HF
    have hz1 : w.heap.size ≤ w1.heap.size := HB0.out.size
    have hw1 : w.heap.size < w1.heap.size := by
      obtain ⟨y, hy⟩ := Option.isSome_iff_exists.1 (HTH.out 0 (by decide)).1
      exact cell_block hy
    clear hr1 hb1 hb HC hk
    clear X0
    go_upto_region 7 with (first | (go_at_call 145; refine HF.out.mono ?_; rintro e w2 ⟨vx, rfl, hx2, hr2, hb2⟩; obtain ⟨a14, a15, a16, a17, c14, c15, c16, c17, rfl, hw2⟩ := hx2; have HT2 := hide (there_bx HTH.out hb2 (by omega)); have HN2 := hide (there_new w2)) | (refine wpList_store_mid rfl _ _ _ rfl w2.heap.size 0 (cellsR x.k0 a14 a15 a16 a17 c14 c15 c16 c17).toArray rfl rfl HN2.out (by kernel_rfl) (cellsR_one _ _ _ _ _ _ _ _ _) ?_))
    have hX2 := Nat.lt_of_lt_of_le hw1 hb2.size
    have hz2 : w1.heap.size ≤ w2.heap.size := hb2.size
    obtain ⟨W1, hW1⟩ : ∃ W1, W1 = (w2.alloc (.cells #[.int .i64 0, .int .i64 0, .int .i64 0, .int .i64 0, .int .i64 0, .int .i64 0, .int .i64 0, .int .i64 0, .int .i64 0, .bool false, .string ⟨#[]⟩, .string ⟨#[]⟩, .string ⟨#[]⟩, .string ⟨#[]⟩, .slice none 0 0, .slice none 0 0, .slice none 0 0, .slice none 0 0] 55)).setCells w2.heap.size 0 (cellsR x.k0 a14 a15 a16 a17 c14 c15 c16 c17) := ⟨_, rfl⟩
    obtain ⟨W2, hW2⟩ : ∃ W2, W2 = W1.setCell ⟨w2.heap.size, 0, none⟩ (.int .i64 k) := ⟨_, rfl⟩
    obtain ⟨⟨g0, f0⟩, hr3, hb3, hw3, ht3, hrg3, hx3⟩ := laid (k := k) (R := w.heap.size) rfl hr2 (HB0.out.trans hb2) hp hw2 HT2.out hX2 hW1 hW2
    rw [HXK.out] at hw3 hrg3
    have HRD3 := hide hr3
    have HBX3 := hide hb3
    have HW3 := hide hw3
    have HTH3 := hide ht3
    have HRG3 := hide hrg3
    have HG3 := hide (hb3.handle hpz (show Hnd w from HGW.out))
    have HW2 := hide hW2
    show Code.wp _ _ _ _ _
    rw [← hW1]
    clear hr2 hb2 hw2 HT2 HN2 hr3 hb3 hw3 ht3 hrg3 hW1 hW2 HF HTH HG HB0 HS
    go_upto_region 8 with fail
    rw [← HW2.out]
    have HCK := hide (ccheck_any x _ W2 ⟨a14, a15, a16, a17, c14, c15, c16, c17, rfl, HW3.out⟩ HTX.out)
    clear HW2 g0 f0 HTX HXK hx3
    clear W1
    by_cases hc : (chk x).2.2 = 0
    · rw [show erN (chk x).1 (chk x).2.1 (chk x).2.2 = .nilIface from if_pos hc] at HCK
      have HR2 : Hid (readG l s = if s4.c = 0 then (s4, x) else (s4, Rc.zero)) := hide (by rw [HR.out, if_pos hc])
      go_upto_region 11 with (first | (refine wpList_load_mid rfl _ _ rfl _ _ rfl _ _ HRG3.out Tryz.underlying55 rfl (by kernel_rfl) ?_) | (go_at_call 122; refine HCK.out.mono ?_; rintro e w5 ⟨rfl, hb5⟩))
      have hX2' : w2.heap.size < W2.heap.size := cell_block (HRG3.out 0 _ rfl)
      have HRD := hide (HRD3.out.below hb5)
      have HBX := hide (HBX3.out.call hb5)
      have HTH := hide (there_bx HTH3.out (Bx.of (p := p) hb5) (by omega))
      have HRG := hide (range_below HRG3.out hb5)
      have HWS := hide (HW3.out.below hb5)
      clear HRD3 HBX3 HTH3 HRG3 HW3 hb5 HR HCK
      by_cases h4 : s4.c = 0
      · have HRX := hide (HR2.out.trans (if_pos h4))
        have HE := hide (err_any p v _ _ w5 HRD.out)
        rw [show erN s4.op s4.pt s4.c = .nilIface from if_pos h4] at HE
        go_wp2_with (first | (go_at_call 108; refine HE.out.mono ?_; rintro e w9 ⟨rfl, hw9⟩; rw [hw9]; clear hw9 w9) | (refine wpList_load_mid rfl _ _ rfl _ _ rfl _ _ HRG.out Tryz.underlying55 rfl (by kernel_rfl) ?_) | (refine wpList_store_mid rfl _ _ _ rfl w.heap.size 0 (cellsR x a14 a15 a16 a17 c14 c15 c16 c17).toArray rfl rfl HTH.out (by kernel_rfl) (cellsR_one _ _ _ _ _ _ _ _ _) ?_))
        have hRp : w.heap.size ≠ p := by omega
        exact bodyPost_ret (v := .agg (cellsR x a14 a15 a16 a17 c14 c15 c16 c17).toArray) (results_mid Tryz.results107 _ _ w.heap.size _ _ rfl (World.rangeAt_setCells_same _ _ _ _ HTH.out) Tryz.underlying55 rfl (by kernel_rfl)) rfl ⟨_, rfl, by rw [HRX.out]; exact (⟨a14, a15, a16, a17, c14, c15, c16, c17, rfl, HWS.out.h14.imp (fun b _ q => by omega) (fun b i _ q => cell_many (by omega) _ _), HWS.out.h15.imp (fun b _ q => by omega) (fun b i _ q => cell_many (by omega) _ _), HWS.out.h16.imp (fun b _ q => by omega) (fun b i _ q => cell_many (by omega) _ _), HWS.out.h17.imp (fun b _ q => by omega) (fun b i _ q => cell_many (by omega) _ _)⟩), by rw [HRX.out]; exact rdG_many hRp _ _ HRD.out, Bx.many (Nat.le_refl _) _ _ HBX.out⟩
      · have HRX := hide (HR2.out.trans (if_neg h4))
        have HE := hide (err_any p v _ _ w5 HRD.out)
        rw [show erN s4.op s4.pt s4.c = ft s4.op s4.pt s4.c from if_neg h4] at HE
        unfold ft at HE
        go_wp2_with (first | (go_at_call 108; refine HE.out.mono ?_; rintro e w9 ⟨rfl, hw9⟩; rw [hw9]; clear hw9 w9) | (refine wpList_store_mid rfl _ _ _ rfl w.heap.size 0 (cellsR Rc.zero none none none none 0 0 0 0).toArray rfl rfl HTH.out (by kernel_rfl) (cellsR_one _ _ _ _ _ _ _ _ _) ?_))
        have hRp : w.heap.size ≠ p := by omega
        exact bodyPost_ret (v := .agg (cellsR Rc.zero none none none none 0 0 0 0).toArray) (results_mid Tryz.results107 _ _ w.heap.size _ _ rfl (World.rangeAt_setCells_same _ _ _ _ HTH.out) Tryz.underlying55 rfl (by kernel_rfl)) rfl ⟨_, rfl, by rw [HRX.out]; exact (isR_zero _ _), by rw [HRX.out]; exact rdG_many hRp _ _ HRD.out, Bx.many (Nat.le_refl _) _ _ HBX.out⟩
    · rw [show erN (chk x).1 (chk x).2.1 (chk x).2.2 = ft (chk x).1 (chk x).2.1 (chk x).2.2 from if_neg hc] at HCK
      have HR2 : Hid (readG l s = (refS ⟨#[114, 101, 99, 111, 114, 100]⟩ (chk x).2.2 s4, Rc.zero)) := hide (by rw [HR.out, refS, if_neg hc]; split <;> rfl)
      have hrc : (refS ⟨#[114, 101, 99, 111, 114, 100]⟩ (chk x).2.2 s4).c ≠ 0 := by
        unfold refS
        split
        · exact hc
        · assumption
      have HRF := hide (fun W (h : RdG W p v s4) => refuse_gs p v s4 ⟨#[114, 101, 99, 111, 114, 100]⟩ (chk x).2.2 W hc h)
      generalize refS ⟨#[114, 101, 99, 111, 114, 100]⟩ (chk x).2.2 s4 = s5 at *
      generalize chk x = TT at *
      have HOF := hide (fun W (h : Hnd W) => of_ev (some ([(TT.1, TT.2.1)], TT.2.2)) W h)
      rw [show ofV (some ([(TT.1, TT.2.1)], TT.2.2)) = TT.2.2 from rfl] at HOF
      change Hid (∀ W, Hnd W → Calls Tryz.prog 29 #[ft TT.1 TT.2.1 TT.2.2] W fun e w' => e = .returned (.int .i64 TT.2.2) ∧ Below W.heap.size W w') at HOF
      unfold ft at HOF HCK
      go_upto_region 11 with (first | (refine wpList_load_mid rfl _ _ rfl _ _ rfl _ _ HRG3.out Tryz.underlying55 rfl (by kernel_rfl) ?_) | (go_at_call 122; refine HCK.out.mono ?_; rintro e w5 ⟨rfl, hb5⟩) | (go_at_call 29; refine (HOF.out _ (HG3.out.below hb5)).mono ?_; rintro e w6 ⟨rfl, hb6⟩) | (go_at_call 78; refine (HRF.out _ ((HRD3.out.below hb5).below hb6)).mono ?_; rintro e w7 ⟨rfl, hr7, hb7⟩))
      have hB := (Bx.of (p := p) hb5).trans ((Bx.of hb6).trans hb7)
      have hX2' : w2.heap.size < W2.heap.size := cell_block (HRG3.out 0 _ rfl)
      have HRD := hide hr7
      have HBX := hide (HBX3.out.trans hB)
      have HTH := hide (there_bx HTH3.out hB (by omega))
      have HE := hide (err_any p v _ _ w7 HRD.out)
      rw [show erN s5.op s5.pt s5.c = ft s5.op s5.pt s5.c from if_neg hrc] at HE
      unfold ft at HE
      have HRX := HR2
      clear HRD3 HBX3 HTH3 HRG3 HW3 hb5 hb6 hr7 hb7 hB HR HR2 HCK HOF HRF
      go_wp2_with (first | (go_at_call 108; refine HE.out.mono ?_; rintro e w9 ⟨rfl, hw9⟩; rw [hw9]; clear hw9 w9) | (refine wpList_store_mid rfl _ _ _ rfl w.heap.size 0 (cellsR Rc.zero none none none none 0 0 0 0).toArray rfl rfl HTH.out (by kernel_rfl) (cellsR_one _ _ _ _ _ _ _ _ _) ?_))
      have hRp : w.heap.size ≠ p := by omega
      exact bodyPost_ret (v := .agg (cellsR Rc.zero none none none none 0 0 0 0).toArray) (results_mid Tryz.results107 _ _ w.heap.size _ _ rfl (World.rangeAt_setCells_same _ _ _ _ HTH.out) Tryz.underlying55 rfl (by kernel_rfl)) rfl ⟨_, rfl, by rw [HRX.out]; exact (isR_zero _ _), by rw [HRX.out]; exact rdG_many hRp _ _ HRD.out, Bx.many (Nat.le_refl _) _ _ HBX.out⟩
  · rw [show knd k = false from decide_eq_false hk] at HS
    have HR := hide (read_kind HQ.out hk)
    have HRX := HR
    go_enter Tryz.func107, Tryz.ntmps107
    go_upto_region 1 with fail
    generalize w.alloc (.cells #[.int .i64 0, .int .i64 0, .int .i64 0, .int .i64 0, .int .i64 0, .int .i64 0, .int .i64 0, .int .i64 0, .int .i64 0, .bool false, .string ⟨#[]⟩, .string ⟨#[]⟩, .string ⟨#[]⟩, .string ⟨#[]⟩, .slice none 0 0, .slice none 0 0, .slice none 0 0, .slice none 0 0] 55) = X0 at HTH HG HC HB0 ⊢
    go_wp2_with (first | (go_at_call 74; refine HC.out.mono ?_; rintro e w1 ⟨rfl, hr1, hb1⟩; replace HTH := hide (there_bx HTH.out hb1 (by omega)); replace HB0 := hide (HB0.out.trans hb1); have HC2 := hide (refuse_gs p v s1 ⟨#[107, 105, 110, 100]⟩ 5 w1 (by decide) hr1); clear hr1 hb1) | (go_at_call 126; refine (HS.out _).mono ?_; rintro e w9 ⟨rfl, hw9⟩; rw [hw9]; clear hw9 w9) | (go_at_call 78; refine HC2.out.mono ?_; rintro e w2 ⟨rfl, hr2, hb2⟩; replace HTH := hide (there_bx HTH.out hb2 (by omega)); have HBX := hide (HB0.out.trans hb2); have HRD := hide hr2; clear hr2 hb2) | (refine wpList_store_mid rfl _ _ _ rfl w.heap.size 0 (cellsR Rc.zero none none none none 0 0 0 0).toArray rfl rfl HTH.out (by kernel_rfl) (cellsR_one _ _ _ _ _ _ _ _ _) ?_))
    have hRp : w.heap.size ≠ p := by omega
    exact bodyPost_ret (v := .agg (cellsR Rc.zero none none none none 0 0 0 0).toArray) (results_mid Tryz.results107 _ _ w.heap.size _ _ rfl (World.rangeAt_setCells_same _ _ _ _ HTH.out) Tryz.underlying55 rfl (by kernel_rfl)) rfl ⟨_, rfl, by rw [HRX.out]; exact (isR_zero _ _), by rw [HRX.out]; exact rdG_many hRp _ _ HRD.out, Bx.many (Nat.le_refl _) _ _ HBX.out⟩
end Go.Proofs.YtoioddnlkbjljaaGreatDoor
namespace Go.Proofs.YtoioddnlkbjljaaGreatDoor
open Go.RowKit

end Go.Proofs.YtoioddnlkbjljaaGreatDoor
namespace Go.Proofs.YtoioddnlkbjljaaGreatDoor
open Go.RowKit

end Go.Proofs.YtoioddnlkbjljaaGreatDoor
namespace Go.Proofs.YtoioddnlkbjljaaGreatDoor
open Go.RowKit

/-- What a reader's call keeps: the box of the state, the result's cells, all old memory. -/
def Kp (n : Nat) (a wh : Int) (op : ByteArray) (w W : World) : Prop :=
  W.cell? ⟨n, 0, none⟩ = some (.int .i64 a) ∧ W.cell? ⟨n, 1, none⟩ = some (.int .i64 0) ∧ W.cell? ⟨n, 2, none⟩ = some (.string op) ∧ W.cell? ⟨n, 3, none⟩ = some (.int .i64 wh) ∧
  (W.cell? ⟨n + 1, 0, none⟩ = some (.int .i64 0) ∧ W.cell? ⟨n + 1, 1, none⟩ = some (.int .i64 0) ∧ W.cell? ⟨n + 1, 2, none⟩ = some (.string ⟨#[]⟩) ∧ W.cell? ⟨n + 1, 3, none⟩ = some (.int .i64 0)) ∧
  (∀ i, W.frozen? ⟨n + 1, i, none⟩ = false) ∧ Below n w W ∧ n + 2 ≤ W.heap.size
theorem Kp.later {n : Nat} {a wh : Int} {op : ByteArray} {w W : World} {W' : World} (h : Kp n a wh op w W) (hb : Below (n + 2) W W') : Kp n a wh op w W' := by
  obtain ⟨h1, h2, h3, h4, ⟨r0, r1, r2, r3⟩, hf, hB, hz⟩ := h
  have c : ∀ k i x, k < n + 2 → W.cell? ⟨k, i, none⟩ = some x → W'.cell? ⟨k, i, none⟩ = some x := fun k i x hk hx => (hb.cell (p := ⟨k, i, none⟩) hk).trans hx
  exact ⟨c _ _ _ (by omega) h1, c _ _ _ (by omega) h2, c _ _ _ (by omega) h3, c _ _ _ (by omega) h4, ⟨c _ _ _ (by omega) r0, c _ _ _ (by omega) r1, c _ _ _ (by omega) r2, c _ _ _ (by omega) r3⟩,
    fun i => (hb.frozen (p := ⟨n + 1, i, none⟩) (by show n + 1 < n + 2; omega)).trans (hf i), hB.trans (hb.mono (by omega)), Nat.le_trans hz hb.size⟩
theorem Kp.size {n : Nat} {a wh : Int} {op : ByteArray} {w W : World} (h : Kp n a wh op w W) : n + 2 ≤ W.heap.size := h.2.2.2.2.2.2.2
theorem Kp.old {n : Nat} {a wh : Int} {op : ByteArray} {w W : World} (h : Kp n a wh op w W) : Below n w W := h.2.2.2.2.2.2.1
theorem Kp.call {n : Nat} {a wh : Int} {op : ByteArray} {w W : World} {W' : World} (h : Kp n a wh op w W) (hb : Below W.heap.size W W') : Kp n a wh op w W' := h.later (hb.mono h.size)
theorem Kp.alloc {n : Nat} {a wh : Int} {op : ByteArray} {w W : World} (h : Kp n a wh op w W) (o : Obj) : Kp n a wh op w (W.alloc o) := h.call ((Below.refl _ _).alloc (Nat.le_refl _) o)
theorem Kp.set {n : Nat} {a wh : Int} {op : ByteArray} {w W : World} {g : Nat} {x y z t : Value} (h : Kp n a wh op w W) (hg : n + 2 ≤ g) : Kp n a wh op w ((((W.setCell ⟨g, 0, none⟩ x).setCell ⟨g, 1, none⟩ y).setCell ⟨g, 2, none⟩ z).setCell ⟨g, 3, none⟩ t) :=
  h.later (((((Below.refl _ _).setCell (by exact hg) _).setCell (by exact hg) _).setCell (by exact hg) _).setCell (by exact hg) _)
theorem Kp.S {n : Nat} {a wh : Int} {op : ByteArray} {w W : World} (h : Kp n a wh op w W) : W.cell? ⟨n, 0, none⟩ = some (.int .i64 a) ∧ W.cell? ⟨n, 1, none⟩ = some (.int .i64 0) ∧ W.cell? ⟨n, 2, none⟩ = some (.string op) ∧ W.cell? ⟨n, 3, none⟩ = some (.int .i64 wh) ∧ Kp n a wh op w W := ⟨h.1, h.2.1, h.2.2.1, h.2.2.2.1, h⟩
end Go.Proofs.YtoioddnlkbjljaaGreatDoor
