/-
  THE EXAMPLE (castellanlaw05.works): true. Condition: errors.errorType is laid.
  THE EXAMPLE (castellanlaw05.works): true. Condition: errors.errorType is laid.
-/
import Derived.Test.YtgbcjmpnkejpeaaGreatDoorJRecFlda3
import Derived.Test.YtgbcjmpnkejpeaaGreatDoorJRecSmb
import Derived.Test.YtgbcjmpnkejpeaaGreatDoorJTextsc
import Derived.WalkMore
namespace Go.Proofs.YtgbcjmpnkejpeaaGreatDoor
open Go.RowKit

theorem Bx.range {p b : Nat} {w w' : World} {x : Value} {xs : List Value} (h : Bx p w w') (hp : b ≠ p) (hr : w.rangeAt b 0 (x :: xs)) : w'.rangeAt b 0 (x :: xs) := fun j y hy =>
  (h.cell (cell_block (hr 0 _ rfl) : b < w.heap.size) hp).trans (hr j y hy)
theorem RwsR.bx {ok : Nat → Prop} {p : Nat} {W W' : World} {r : Rc} {a14 a15 a16 a17 : Option Addr} {c14 c15 c16 c17 : Nat} (h : RwsR ok W r a14 a15 a16 a17 c14 c15 c16 c17) (hb : Bx p W W') (hk : ∀ b, ok b → b ≠ p) : RwsR ok W' r a14 a15 a16 a17 c14 c15 c16 c17 :=
  ⟨h.h14.imp (fun _ _ q => q) (fun b _ hl q => hb.cell hl (hk b q)), h.h15.imp (fun _ _ q => q) (fun b _ hl q => hb.cell hl (hk b q)), h.h16.imp (fun _ _ q => q) (fun b _ hl q => hb.cell hl (hk b q)), h.h17.imp (fun _ _ q => q) (fun b _ hl q => hb.cell hl (hk b q))⟩
theorem IsR.bx {ok : Nat → Prop} {p : Nat} {W W' : World} {v : Value} {r : Rc} (h : IsR ok W v r) (hb : Bx p W W') (hk : ∀ b, ok b → b ≠ p) : IsR ok W' v r := by
  obtain ⟨a14, a15, a16, a17, c14, c15, c16, c17, h1, h2⟩ := h
  exact ⟨a14, a15, a16, a17, c14, c15, c16, c17, h1, h2.bx hb hk⟩
def rEx : Rc := ⟨8, 0, 0, 5, 2, 1, 0, 0, 0, false, [], [], [], [], [1, 2, 3], [1], [], []⟩
def rBad : Rc := ⟨7, 0, 0, 1, 0, 0, 0, 0, 0, false, [65], [], [], [], [], [], [], []⟩
theorem rEx_chk : (chk rEx).2.2 = 0 := by decide
theorem rEx_put : putL rEx = [8, 5, 2, 1, 3, 1, 2, 3, 1, 1] := by decide
theorem rBad_chk : chk rBad = (⟨#[110, 97, 109, 101]⟩, 1, 1) := by rfl
theorem rEx_read : readG [8, 5, 2, 1, 3, 1, 2, 3, 1, 1] (okS 0) = (okS 10, rEx) := by
  have := read_back rEx rEx_chk [] []
  rw [rEx_put] at this
  simpa using this
theorem rEx_byt : Byt [8, 5, 2, 1, 3, 1, 2, 3, 1, 1] := by unfold Byt; decide
end Go.Proofs.YtgbcjmpnkejpeaaGreatDoor
namespace Go.Proofs.YtgbcjmpnkejpeaaGreatDoor
open Go.RowKit

/-- Numbers in new cells. -/
theorem sli_new {ok : Nat → Prop} (V : World) (l : List Int) (h : ok V.heap.size) : Sli ok (V.alloc (.cells (l.map ic).toArray 3)) (.slice (some ⟨V.heap.size, 0, none⟩) l.length l.length) l :=
  .inr ⟨V.heap.size, 0, l.length, rfl, Nat.le_refl _, h, fun i hi => by
    have := cells_at V (l.map ic) 3 i (ic l[i]) (by simp [hi])
    rwa [Addr.add_lit] at this⟩
theorem ow_new (W : World) (l : List Int) (hm : l.length ≤ maxLen) : Ow W.heap.size (W.alloc (.cells (bv l).toArray 5)) (.slice (some ⟨W.heap.size, 0, none⟩) l.length l.length) l := by
  refine ⟨bv l, ⟨by simp [bv], by simpa [bv] using hm, .inr ⟨W.heap.size, by simp [bv], Nat.le_refl _, ?_⟩⟩, ?_⟩
  · show (W.heap.push _)[W.heap.size]? = _
    simp
  · rw [List.take_of_length_le (by simp [bv])]
theorem below_bx {B p : Nat} {w w1 w2 : World} (h : Below B w w1) (hb : Bx p w1 w2) (hp : B ≤ p) (hB : B ≤ w1.heap.size) : Below B w w2 :=
  ⟨hb.os.trans h.os, hb.tape.trans h.tape, hb.output.trans h.output, Nat.le_trans h.size hb.size, fun k hk => (hb.block k (by omega) (by omega)).trans (h.block k hk)⟩
theorem cut_one {W : World} {g c : Nat} {x : Int} {l : List Int} (h : Sl bc W (.slice (some ⟨g, 0, none⟩) (x :: l).length c) (x :: l)) (hc : (x :: l).length ≤ c) : Sl bc W (.slice (some ⟨g, 1, none⟩) l.length (c - 1)) l := by
  rcases h with ⟨_, _, h1, _⟩ | ⟨b, o, c', h1, h2, h3⟩
  · cases h1
  · cases h1
    refine .inr ⟨g, 1, c - 1, rfl, by simp at hc; omega, fun i hi => ?_⟩
    have := h3 (i + 1) (by simp; omega)
    simpa [Nat.add_comm] using this
set_option maxRecDepth 100000 in
set_option maxHeartbeats 16000000 in
theorem works_any (w : World) (hg : Hnd w) : Calls Tryz.prog 9 #[] w fun e w' => e = .returned (.bool true) ∧ Below w.heap.size w w' := by
  have hpos : 0 < w.heap.size := cell_block hg
  have HG := hide hg
  clear hg
  have hz : ((w.alloc (.cells #[.int .i64 1, .int .i64 2, .int .i64 3] 3)).alloc (.cells #[.int .i64 1] 3)).heap.size = w.heap.size + 1 + 1 := by simp
  have hth := there_new ((w.alloc (.cells #[.int .i64 1, .int .i64 2, .int .i64 3] 3)).alloc (.cells #[.int .i64 1] 3))
  rw [hz] at hth
  have HTH := hide hth
  have hbl0 : Below w.heap.size w (((w.alloc (.cells #[.int .i64 1, .int .i64 2, .int .i64 3] 3)).alloc (.cells #[.int .i64 1] 3)).alloc (.cells #[.int .i64 0, .int .i64 0, .int .i64 0, .int .i64 0, .int .i64 0, .int .i64 0, .int .i64 0, .int .i64 0, .int .i64 0, .bool false, .string ⟨#[]⟩, .string ⟨#[]⟩, .string ⟨#[]⟩, .string ⟨#[]⟩, .slice none 0 0, .slice none 0 0, .slice none 0 0, .slice none 0 0] 35)) := (((Below.refl _ _).alloc (Nat.le_refl _) _).alloc (by simp) _).alloc (by simp; omega) _
  have hz1 : (w.alloc (.cells #[.int .i64 1, .int .i64 2, .int .i64 3] 3)).heap.size = w.heap.size + 1 := by simp
  have s1 := sli_new (ok := fun b => b < w.heap.size + 2) w [1, 2, 3] (by omega)
  have s2 := sli_new (ok := fun b => b < w.heap.size + 2) (w.alloc (.cells #[.int .i64 1, .int .i64 2, .int .i64 3] 3)) [1] (by rw [hz1]; omega)
  rw [hz1] at s2
  have al : ∀ (V : World) (O : Obj), Below V.heap.size V (V.alloc O) := fun V O => (Below.refl _ _).alloc (Nat.le_refl _) _
  have s1' := ((s1.below (al _ (.cells #[.int .i64 1] 3))).below (al _ (.cells #[.int .i64 0, .int .i64 0, .int .i64 0, .int .i64 0, .int .i64 0, .int .i64 0, .int .i64 0, .int .i64 0, .int .i64 0, .bool false, .string ⟨#[]⟩, .string ⟨#[]⟩, .string ⟨#[]⟩, .string ⟨#[]⟩, .slice none 0 0, .slice none 0 0, .slice none 0 0, .slice none 0 0] 35)))
  have s2' := (s2.below (al _ (.cells #[.int .i64 0, .int .i64 0, .int .i64 0, .int .i64 0, .int .i64 0, .int .i64 0, .int .i64 0, .int .i64 0, .int .i64 0, .bool false, .string ⟨#[]⟩, .string ⟨#[]⟩, .string ⟨#[]⟩, .string ⟨#[]⟩, .slice none 0 0, .slice none 0 0, .slice none 0 0, .slice none 0 0] 35)))
  obtain ⟨W1, hW1⟩ : ∃ W1, W1 = (((w.alloc (.cells #[.int .i64 1, .int .i64 2, .int .i64 3] 3)).alloc (.cells #[.int .i64 1] 3)).alloc (.cells #[.int .i64 0, .int .i64 0, .int .i64 0, .int .i64 0, .int .i64 0, .int .i64 0, .int .i64 0, .int .i64 0, .int .i64 0, .bool false, .string ⟨#[]⟩, .string ⟨#[]⟩, .string ⟨#[]⟩, .string ⟨#[]⟩, .slice none 0 0, .slice none 0 0, .slice none 0 0, .slice none 0 0] 35)).setCells (w.heap.size + 1 + 1) 0 (cellsR rEx (some ⟨w.heap.size, 0, none⟩) (some ⟨w.heap.size + 1, 0, none⟩) none none 3 1 0 0) := ⟨_, rfl⟩
  have HRG : Hid (W1.rangeAt (w.heap.size + 1 + 1) 0 (cellsR rEx (some ⟨w.heap.size, 0, none⟩) (some ⟨w.heap.size + 1, 0, none⟩) none none 3 1 0 0)) := hide (by rw [hW1]; exact World.rangeAt_setCells_same _ _ _ _ hth)
  have HB1 : Hid (Below w.heap.size w W1) := hide (by
    have h := Bx.many (p := w.heap.size + 1 + 1) (X := w.heap.size + 1 + 1) (by omega) (cellsR rEx (some ⟨w.heap.size, 0, none⟩) (some ⟨w.heap.size + 1, 0, none⟩) none none 3 1 0 0) 0 (Bx.of (p := w.heap.size + 1 + 1) hbl0)
    rw [hW1]
    exact ⟨h.os, h.tape, h.output, h.size, fun k hk => h.block k hk (by omega)⟩)
  have HS1 : Hid (W1.heap.size = w.heap.size + 3) := hide (by
    rw [hW1]
    have : ∀ (vs : List Value) (o : Nat) (V : World), (V.setCells (w.heap.size + 1 + 1) o vs).heap.size = V.heap.size := by
      intro vs
      induction vs with
      | nil => intro o V; rfl
      | cons y ys ih => intro o V; rw [World.setCells, ih]; simp [World.setCell]
    rw [this]; simp)
  have HW1 : Hid (RwsR (fun b => b < w.heap.size + 2) W1 rEx (some ⟨w.heap.size, 0, none⟩) (some ⟨w.heap.size + 1, 0, none⟩) none none 3 1 0 0) := hide (by
    rw [hW1]
    have hc : ∀ b i, b < w.heap.size + 2 → ((((w.alloc (.cells #[.int .i64 1, .int .i64 2, .int .i64 3] 3)).alloc (.cells #[.int .i64 1] 3)).alloc (.cells #[.int .i64 0, .int .i64 0, .int .i64 0, .int .i64 0, .int .i64 0, .int .i64 0, .int .i64 0, .int .i64 0, .int .i64 0, .bool false, .string ⟨#[]⟩, .string ⟨#[]⟩, .string ⟨#[]⟩, .string ⟨#[]⟩, .slice none 0 0, .slice none 0 0, .slice none 0 0, .slice none 0 0] 35)).setCells (w.heap.size + 1 + 1) 0 (cellsR rEx (some ⟨w.heap.size, 0, none⟩) (some ⟨w.heap.size + 1, 0, none⟩) none none 3 1 0 0)).cell? ⟨b, i, none⟩ = (((w.alloc (.cells #[.int .i64 1, .int .i64 2, .int .i64 3] 3)).alloc (.cells #[.int .i64 1] 3)).alloc (.cells #[.int .i64 0, .int .i64 0, .int .i64 0, .int .i64 0, .int .i64 0, .int .i64 0, .int .i64 0, .int .i64 0, .int .i64 0, .bool false, .string ⟨#[]⟩, .string ⟨#[]⟩, .string ⟨#[]⟩, .string ⟨#[]⟩, .slice none 0 0, .slice none 0 0, .slice none 0 0, .slice none 0 0] 35)).cell? ⟨b, i, none⟩ := fun b i hb => cell_many (by omega) _ _
    have hq : ∀ (u : Value) (l : List Int), Sli (fun b => b < w.heap.size + 2) (((w.alloc (.cells #[.int .i64 1, .int .i64 2, .int .i64 3] 3)).alloc (.cells #[.int .i64 1] 3)).alloc (.cells #[.int .i64 0, .int .i64 0, .int .i64 0, .int .i64 0, .int .i64 0, .int .i64 0, .int .i64 0, .int .i64 0, .int .i64 0, .bool false, .string ⟨#[]⟩, .string ⟨#[]⟩, .string ⟨#[]⟩, .string ⟨#[]⟩, .slice none 0 0, .slice none 0 0, .slice none 0 0, .slice none 0 0] 35)) u l → Sli (fun b => b < w.heap.size + 2) ((((w.alloc (.cells #[.int .i64 1, .int .i64 2, .int .i64 3] 3)).alloc (.cells #[.int .i64 1] 3)).alloc (.cells #[.int .i64 0, .int .i64 0, .int .i64 0, .int .i64 0, .int .i64 0, .int .i64 0, .int .i64 0, .int .i64 0, .int .i64 0, .bool false, .string ⟨#[]⟩, .string ⟨#[]⟩, .string ⟨#[]⟩, .string ⟨#[]⟩, .slice none 0 0, .slice none 0 0, .slice none 0 0, .slice none 0 0] 35)).setCells (w.heap.size + 1 + 1) 0 (cellsR rEx (some ⟨w.heap.size, 0, none⟩) (some ⟨w.heap.size + 1, 0, none⟩) none none 3 1 0 0)) u l := fun u l h => h.imp (fun _ _ q => q) (fun b i _ q => hc b i q)
    exact ⟨hq _ _ s1', hq _ _ s2', Sli.nil _ _ _ _, Sli.nil _ _ _ _⟩)
  have HE1 := hide hW1
  clear hth hbl0 hz hW1 s1 s2 s1' s2' al hz1
  go_enter Tryz.func9, Tryz.ntmps9
  go_upto_region 2 with (first | (refine wpList_store_mid rfl _ _ _ rfl (w.heap.size + 1 + 1) 0 (cellsR rEx (some ⟨w.heap.size, 0, none⟩) (some ⟨w.heap.size + 1, 0, none⟩) none none 3 1 0 0).toArray rfl rfl HTH.out (by kernel_rfl) (cellsR_one _ _ _ _ _ _ _ _ _) ?_))
  rw [← HE1.out]
  clear HE1 HTH
  have hBz : W1.heap.size = w.heap.size + 3 := HS1.out
  have hb2 : Below W1.heap.size W1 (W1.alloc (.cells #[.int .u8 9] 5)) := (Below.refl _ _).alloc (Nat.le_refl _) _
  have HPUT := hide (cput_ok W1.heap.size _ [9] rEx (.agg (cellsR rEx (some ⟨w.heap.size, 0, none⟩) (some ⟨w.heap.size + 1, 0, none⟩) none none 3 1 0 0).toArray) _ (ow_new W1 [9] (by unfold maxLen; decide)) (by decide) (by simp) ⟨_, _, _, _, _, _, _, _, rfl, ⟨HW1.out.h14.imp (fun b _ q => by omega) (fun b i hl _ => hb2.cell (p := ⟨b, i, none⟩) hl), HW1.out.h15.imp (fun b _ q => by omega) (fun b i hl _ => hb2.cell (p := ⟨b, i, none⟩) hl), HW1.out.h16.imp (fun b _ q => by omega) (fun b i hl _ => hb2.cell (p := ⟨b, i, none⟩) hl), HW1.out.h17.imp (fun b _ q => by omega) (fun b i hl _ => hb2.cell (p := ⟨b, i, none⟩) hl)⟩⟩ rEx_chk)
  have HRG2 := hide (range_below HRG.out hb2)
  rw [rEx_put] at HPUT
  change Hid (Calls Tryz.prog 39 #[.slice (some ⟨W1.heap.size, 0, none⟩) 1 1, .agg (cellsR rEx (some ⟨w.heap.size, 0, none⟩) (some ⟨w.heap.size + 1, 0, none⟩) none none 3 1 0 0).toArray] (W1.alloc (.cells #[.int .u8 9] 5)) _) at HPUT
  have HB2 := hide hb2
  have HBZ := hide hBz
  clear hb2 hBz
  go_upto_region 3 with (first | (refine wpList_load_mid rfl _ _ rfl _ _ rfl _ _ HRG2.out Tryz.underlying35 rfl (by kernel_rfl) ?_) | (go_at_call 39; refine HPUT.out.mono ?_; rintro e W3 ⟨v3, rfl, ho3, hg3⟩))
  have hBz := HBZ.out
  have hb3 : Below W1.heap.size W1 W3 := HB2.out.trans (hg3.below.mono (Nat.le_refl _))
  have HSL3 := hide ho3.sl
  obtain ⟨cur3, hrw3, _⟩ := ho3
  rcases hrw3.2.2 with ⟨_, hnil⟩ | ⟨g3, rfl, hBg3, _⟩
  · have := hrw3.1
    rw [hnil] at this
    simp at this
  have hcap : 11 ≤ cur3.length := hrw3.1
  have hcm : cur3.length ≤ 9223372036854775807 := by have := hrw3.2.1; unfold maxLen at this; omega
  have HRG3 := hide (range_below HRG.out hb3)
  have HW3 := hide (HW1.out.below hb3)
  have HB3 := hide (HB1.out.trans (hb3.mono HB1.out.size))
  have hz3 : W1.heap.size ≤ W3.heap.size := hb3.size
  have HV3 := hide (cut_one (x := 9) (l := [8, 5, 2, 1, 3, 1, 2, 3, 1, 1]) HSL3.out hcap)
  have HRD3 := hide (read_any (some ⟨g3, 1, none⟩) 10 (cur3.length - 1) W3)
  clear hBz hg3 hb3 hrw3 HSL3 HPUT HRG2 HB2 HRG HW1 HB1 HS1
  go_upto_region 8 with (first | (go_at_call 10; refine HRD3.out.mono ?_; rintro e W4 ⟨rfl, hr4, hb4⟩))
  have hBz := HBZ.out
  have HV4 : Hid (Slx W3.heap.size bc W4 (.slice (some ⟨g3, 1, none⟩) 10 (cur3.length - 1)) [8, 5, 2, 1, 3, 1, 2, 3, 1, 1]) := hide ((HV3.out.out (Nat.le_refl _)).below hb4)
  have HRG4 := hide (range_below HRG3.out hb4)
  have HW4 := hide (HW3.out.below hb4)
  have HB4 := hide (HB3.out.trans (hb4.mono HB3.out.size))
  have hp4 : W3.heap.size < W4.heap.size := hr4.lt
  have hz4 : w.heap.size ≤ W4.heap.size := HB4.out.size
  have HC4 := hide (cread_any W3.heap.size _ [8, 5, 2, 1, 3, 1, 2, 3, 1, 1] (okS 0) W4 hr4 HV4.out (by decide) rEx_byt (by decide) (HG.out.below HB4.out) (by show W3.heap.size ≠ 0; omega))
  rw [rEx_read] at HC4
  clear hr4 hb4 HRG3 HW3 HB3 HRD3 HV3 HV4 hBz
  go_upto_region 9 with (first | (go_at_call 12; refine HC4.out.mono ?_; rintro e W5 ⟨vx, rfl, hx5, hr5, hb5⟩; obtain ⟨a14, a15, a16, a17, c14, c15, c16, c17, rfl, hw5⟩ := hx5) | (refine wpList_store_mid rfl _ _ _ rfl W5.heap.size 0 (cellsR rEx a14 a15 a16 a17 c14 c15 c16 c17).toArray rfl rfl (there_new W5) (by kernel_rfl) (cellsR_one _ _ _ _ _ _ _ _ _) ?_))
  have hBz := HBZ.out
  have hz5 : W4.heap.size ≤ W5.heap.size := hb5.size
  have hbl5 : Below W5.heap.size W5 (W5.alloc (.cells #[.int .i64 0, .int .i64 0, .int .i64 0, .int .i64 0, .int .i64 0, .int .i64 0, .int .i64 0, .int .i64 0, .int .i64 0, .bool false, .string ⟨#[]⟩, .string ⟨#[]⟩, .string ⟨#[]⟩, .string ⟨#[]⟩, .slice none 0 0, .slice none 0 0, .slice none 0 0, .slice none 0 0] 35)) := (Below.refl _ _).alloc (Nat.le_refl _) _
  obtain ⟨W6, hW6⟩ : ∃ W6, W6 = (W5.alloc (.cells #[.int .i64 0, .int .i64 0, .int .i64 0, .int .i64 0, .int .i64 0, .int .i64 0, .int .i64 0, .int .i64 0, .int .i64 0, .bool false, .string ⟨#[]⟩, .string ⟨#[]⟩, .string ⟨#[]⟩, .string ⟨#[]⟩, .slice none 0 0, .slice none 0 0, .slice none 0 0, .slice none 0 0] 35)).setCells W5.heap.size 0 (cellsR rEx a14 a15 a16 a17 c14 c15 c16 c17) := ⟨_, rfl⟩
  have hb46 : Bx W3.heap.size W4 W6 := by rw [hW6]; exact Bx.many (by omega) _ _ (hb5.call hbl5)
  have HX6 : Hid (W6.rangeAt W5.heap.size 0 (cellsR rEx a14 a15 a16 a17 c14 c15 c16 c17)) := hide (by rw [hW6]; exact World.rangeAt_setCells_same _ _ _ _ (there_new W5))
  have hc6 : ∀ b i, b < W5.heap.size → W6.cell? ⟨b, i, none⟩ = W5.cell? ⟨b, i, none⟩ := fun b i hb => by rw [hW6, cell_many (by omega)]; exact hbl5.cell (p := ⟨b, i, none⟩) hb
  have HXW6 : Hid (RwsR (fun b => W4.heap.size ≤ b) W6 rEx a14 a15 a16 a17 c14 c15 c16 c17) := hide ⟨hw5.h14.imp (fun _ _ q => q) (fun b i hl _ => hc6 b i hl), hw5.h15.imp (fun _ _ q => q) (fun b i hl _ => hc6 b i hl), hw5.h16.imp (fun _ _ q => q) (fun b i hl _ => hc6 b i hl), hw5.h17.imp (fun _ _ q => q) (fun b i hl _ => hc6 b i hl)⟩
  have HRD6 : Hid (RdG W6 W3.heap.size (.slice (some ⟨g3, 1, none⟩) 10 (cur3.length - 1)) (okS 10)) := hide (by rw [hW6]; exact rdG_many (by omega) _ _ (hr5.below hbl5))
  have HRG6 := hide (hb46.range (by omega) HRG4.out)
  have HW6 := hide (HW4.out.bx hb46 (fun b q => by omega))
  have HB6 := hide (below_bx HB4.out hb46 (by omega) hz4)
  have HE6 := hide hW6
  have HCK := hide (ccheck_any (ok := fun _ => True) rBad (.agg (cellsR rBad none none none none 0 0 0 0).toArray) W6 ⟨_, _, _, _, _, _, _, _, rfl, Sli.nil _ _ _ _, Sli.nil _ _ _ _, Sli.nil _ _ _ _, Sli.nil _ _ _ _⟩ ⟨by decide, by decide, by decide, by decide⟩)
  rw [rBad_chk] at HCK
  change Hid (Calls Tryz.prog 40 #[_] W6 fun e w' => e = .returned (ft ⟨#[110, 97, 109, 101]⟩ 1 1) ∧ Below W6.heap.size W6 w') at HCK
  rw [← HE6.out]
  clear hBz hW6 hb46 hc6 hbl5 hw5 hr5 hb5 HE6 HRG4 HW4 HB4 HC4
  go_upto_region 10 with (first | (go_at_call 40; refine HCK.out.mono ?_; rintro e W7 ⟨rfl, hb7⟩; unfold ft))
  have hBz := HBZ.out
  have hz67 : W6.heap.size ≤ W7.heap.size := hb7.size
  have hz6 : W5.heap.size < W6.heap.size := cell_block (HX6.out 0 _ rfl)
  have HX7 := hide (range_below HX6.out hb7)
  have HXW7 := hide (HXW6.out.below hb7)
  have HRG7 := hide (range_below HRG6.out hb7)
  have HW7 := hide (HW6.out.below hb7)
  have HB7 := hide (HB6.out.trans (hb7.mono HB6.out.size))
  have HEND := hide (rend_any W3.heap.size (some ⟨g3, 1, none⟩) 10 (cur3.length - 1) 10 W7 (HRD6.out.below hb7))
  rw [show erN ⟨#[101, 110, 100]⟩ (10 : Nat) (endC 10 10) = .nilIface from rfl] at HEND
  have HLX := hide (fun W (h : Bx W3.heap.size W7 W) => h.range (b := W5.heap.size) (by omega) HX7.out)
  have HLR := hide (fun W (h : Bx W3.heap.size W7 W) => h.range (b := w.heap.size + 1 + 1) (by omega) HRG7.out)
  have HS1 := hide (fun W (h : Bx W3.heap.size W7 W) => csame_any rEx rEx (.agg (cellsR rEx a14 a15 a16 a17 c14 c15 c16 c17).toArray) (.agg (cellsR rEx (some ⟨w.heap.size, 0, none⟩) (some ⟨w.heap.size + 1, 0, none⟩) none none 3 1 0 0).toArray) W ⟨_, _, _, _, _, _, _, _, rfl, HXW7.out.bx h (fun b q => by omega)⟩ ⟨_, _, _, _, _, _, _, _, rfl, HW7.out.bx h (fun b q => by omega)⟩ ⟨by decide, by decide, by decide, by decide⟩)
  rw [sameR_self] at HS1
  have HS2 := hide (fun W (h : Bx W3.heap.size W7 W) => csame_any rEx Rc.zero (.agg (cellsR rEx a14 a15 a16 a17 c14 c15 c16 c17).toArray) (.agg (cellsR Rc.zero none none none none 0 0 0 0).toArray) W ⟨_, _, _, _, _, _, _, _, rfl, HXW7.out.bx h (fun b q => by omega)⟩ (isR_zero (fun _ => True) W) ⟨by decide, by decide, by decide, by decide⟩)
  rw [show sameR rEx Rc.zero = false by decide] at HS2
  unfold cellsR at HS1 HS2
  change Hid (∀ W, Bx W3.heap.size W7 W → Calls Tryz.prog 41 #[_, .agg #[.int .i64 0, .int .i64 0, .int .i64 0, .int .i64 0, .int .i64 0, .int .i64 0, .int .i64 0, .int .i64 0, .int .i64 0, .bool false, .string ⟨#[]⟩, .string ⟨#[]⟩, .string ⟨#[]⟩, .string ⟨#[]⟩, .slice none 0 0, .slice none 0 0, .slice none 0 0, .slice none 0 0]] W _) at HS2
  have HISC : Hid (∀ W, Calls Tryz.prog 42 #[.iface 148 (.agg #[.string ⟨#[110, 97, 109, 101]⟩, .int .i64 1, .iface 27 (.int .i64 1)]), .int .i64 1] W fun e w' => e = .returned (.bool true) ∧ Below W.heap.size W w') := hide (fun W => is_ev (some ([(⟨#[110, 97, 109, 101]⟩, 1)], 1)) 1 W)
  have HN1 : Hid (∀ W, Calls Tryz.prog 43 #[.string ⟨#[97, 46, 98, 45, 49]⟩] W fun e w' => e = .returned (.bool true) ∧ Below W.heap.size W w') := hide (fun W => cname_any [97, 46, 98, 45, 49] W (by decide))
  have HN2 : Hid (∀ W, Calls Tryz.prog 43 #[.string ⟨#[46, 46]⟩] W fun e w' => e = .returned (.bool false) ∧ Below W.heap.size W w') := hide (fun W => cname_any [46, 46] W (by decide))
  have HBR1 : Hid (∀ W : World, Calls Tryz.prog 44 #[.slice (some ⟨W.heap.size, 0, none⟩) 2 2] (W.alloc (.cells #[.int .i64 1, .int .i64 64] 3)) fun e w' => e = .returned (.bool true) ∧ w' = W.alloc (.cells #[.int .i64 1, .int .i64 64] 3)) := hide (fun W => cbrok_any _ [1, 64] _ (sli_new (ok := fun _ => True) W [1, 64] trivial).sl)
  have HBR2 : Hid (∀ W : World, Calls Tryz.prog 44 #[.slice (some ⟨W.heap.size, 0, none⟩) 2 2] (W.alloc (.cells #[.int .i64 1, .int .i64 1] 3)) fun e w' => e = .returned (.bool false) ∧ w' = W.alloc (.cells #[.int .i64 1, .int .i64 1] 3)) := hide (fun W => cbrok_any _ [1, 1] _ (sli_new (ok := fun _ => True) W [1, 1] trivial).sl)
  have HZ7 := hide HB7.out.size
  have HPW : Hid (w.heap.size ≤ W3.heap.size) := hide (by omega)
  clear hBz hb7 hz67 HX7 HXW7 HRG7 HW7 HX6 HXW6 HRG6 HW6 HB6 HRD6 hz6
  go_wp2_with (first | (go_at_call 17; refine HEND.out.mono ?_; rintro e W8 ⟨rfl, _, hb8⟩; have HBX := hide hb8; clear hb8) | (refine wpList_load_want (by rfl) _ _ rfl _ _ rfl _ _ (HLX.out _ HBX.out) Tryz.underlying35 rfl (by kernel_rfl) ?_) | (refine wpList_load_want (by rfl) _ _ rfl _ _ rfl _ _ (HLR.out _ HBX.out) Tryz.underlying35 rfl (by kernel_rfl) ?_) | (go_at_call 41; first | (with_reducible refine (HS1.out _ HBX.out).mono ?_; rintro e W9 ⟨rfl, hb9⟩; replace HBX := hide (HBX.out.call hb9); clear hb9) | (with_reducible refine (HS2.out _ HBX.out).mono ?_; rintro e W9 ⟨rfl, hb9⟩; replace HBX := hide (HBX.out.call hb9); clear hb9)) | (go_at_call 42; with_reducible refine (HISC.out _).mono ?_; rintro e W9 ⟨rfl, hb9⟩; replace HBX := hide (HBX.out.call hb9); clear hb9) | (go_at_call 43; first | (with_reducible refine (HN1.out _).mono ?_; rintro e W9 ⟨rfl, hb9⟩; replace HBX := hide (HBX.out.call hb9); clear hb9) | (with_reducible refine (HN2.out _).mono ?_; rintro e W9 ⟨rfl, hb9⟩; replace HBX := hide (HBX.out.call hb9); clear hb9)) | (go_at_call 44; first | (with_reducible refine (HBR1.out _).mono ?_; rintro e W9 ⟨rfl, hw9⟩; replace HBX := hide (HBX.out.call (show Below _ _ W9 by rw [hw9]; exact (Below.refl _ _).alloc (Nat.le_refl _) _)); clear hw9) | (with_reducible refine (HBR2.out _).mono ?_; rintro e W9 ⟨rfl, hw9⟩; replace HBX := hide (HBX.out.call (show Below _ _ W9 by rw [hw9]; exact (Below.refl _ _).alloc (Nat.le_refl _) _)); clear hw9)))
  go_ret
  exact ⟨rfl, below_bx HB7.out HBX.out HPW.out HZ7.out⟩
end Go.Proofs.YtgbcjmpnkejpeaaGreatDoor
