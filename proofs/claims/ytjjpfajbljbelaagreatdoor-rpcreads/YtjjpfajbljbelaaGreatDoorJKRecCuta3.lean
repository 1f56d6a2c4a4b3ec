/-
  A CURSOR's METHODS (castellanref05.Cursor), the texts and rows: what they read next. Conditions: its bytes' cells hold them.
  A CURSOR's METHODS (castellanref05.Cursor) as functions of its state: Flag, Text, Row. Conditions: its bytes' cells hold them, no more than four thousand bytes.
  A CURSOR's METHODS (castellanref05.Cursor) as functions of its state: some, word, brokers, Refuse. Conditions: its bytes' cells hold them, no more than four thousand bytes.
-/
import Derived.Test.YtjjpfajbljbelaaGreatDoorJKRecCuia2
namespace Go.Proofs.YtjjpfajbljbelaaGreatDoor
open Go.RowKit
set_option maxRecDepth 100000
set_option maxHeartbeats 16000000
theorem cutext_go (p : Nat) (v : Value) (a c wh A C WH n M : Int) (op OP : ByteArray) (f : Bool) (nt nr : Nat) (w : World) (hp : p < w.heap.size) (hfz : ∀ i, w.frozen? ⟨p, i, none⟩ = false) (N0 : Nat) (hN0 : N0 ≤ p) (T : List Int)
  (hF : ∀ W, Below w.heap.size w W → (W.cell? ⟨p, 0, none⟩ = some v ∧ W.cell? ⟨p, 1, none⟩ = some (.int .i64 a) ∧ W.cell? ⟨p, 2, none⟩ = some (.int .i64 c) ∧ W.cell? ⟨p, 3, none⟩ = some (.string op) ∧ W.cell? ⟨p, 4, none⟩ = some (.int .i64 wh)))
  (HC : Hid (∀ W, Below w.heap.size w W → Calls Tryz.prog 56 #[v, .agg #[.int .i64 a, .int .i64 c, .string op, .int .i64 wh], .agg #[.int .i64 3, .int .i64 M, .int .i64 0]] W fun e w' => ∃ x1 x3 y1 y3, e = .returned (.tuple #[.agg #[.int .i64 A, .int .i64 C, .string OP, .int .i64 WH], .agg #[.int .u64 n, .bool f, .slice x1 nt x3, .slice y1 nr y3]]) ∧ Slk (fun b => b < N0 ∨ W.heap.size ≤ b) bc w' (.slice x1 nt x3) T ∧ Below W.heap.size W w')) :
  Calls Tryz.prog 24 #[.pointer (some ⟨p, 0, none⟩), .int .i64 M] w fun e w' => ∃ z1 z3, e = .returned (.slice z1 nt z3) ∧ Slk (fun b => (b < N0 ∨ w.heap.size ≤ b)) bc w' (.slice z1 nt z3) T ∧ (w'.cell? ⟨p, 0, none⟩ = some v ∧ w'.cell? ⟨p, 1, none⟩ = some (.int .i64 A) ∧ w'.cell? ⟨p, 2, none⟩ = some (.int .i64 C) ∧ w'.cell? ⟨p, 3, none⟩ = some (.string OP) ∧ w'.cell? ⟨p, 4, none⟩ = some (.int .i64 WH)) ∧ (∀ i, w'.frozen? ⟨p, i, none⟩ = false) ∧ Bx p w w' := by
 have HS0 := hide (hs_drew hF (Nat.le_refl _))
 have HF := hide hF
 clear hF
 go_enter Tryz.func24, Tryz.ntmps24
 go_upto_region 1 with fail
 go_cut [5, 6] (fun x y W => ∃ g1 g2 x1 x3 y1 y3, x = .pointer (some ⟨g1, 0, none⟩) ∧ y = .pointer (some ⟨g2, 0, none⟩) ∧ B4 W g1 (.int .i64 A) (.int .i64 C) (.string OP) (.int .i64 WH) ∧ B4 W g2 (.int .u64 n) (.bool f) (.slice x1 nt x3) (.slice y1 nr y3) ∧ w.heap.size ≤ g1 ∧ w.heap.size ≤ g2 ∧ Below w.heap.size w W ∧ Slk (fun b => (b < N0 ∨ w.heap.size ≤ b)) bc W (.slice x1 nt x3) T)
 case first =>
  refine wp_region_held_drew (S := fun W => (W.cell? ⟨p, 0, none⟩ = some v ∧ W.cell? ⟨p, 1, none⟩ = some (.int .i64 a) ∧ W.cell? ⟨p, 2, none⟩ = some (.int .i64 c) ∧ W.cell? ⟨p, 3, none⟩ = some (.string op) ∧ W.cell? ⟨p, 4, none⟩ = some (.int .i64 wh)) ∧ Below w.heap.size w W ∧ w.heap.size ≤ W.heap.size) (by kernel_rfl) HS0.out (fun hHeld => ?_)
  generalize w.drew = W0 at hHeld ⊢
  refine tk 0 8 (.pointer (some ⟨p, 0, none⟩)) rfl rfl hHeld ?_
  simp only [Act.put, zA, zB, zC]
  refine tk 1 9 (.pointer (some ⟨p, 0, none⟩)) rfl rfl hHeld ?_
  simp only [Act.put, zA, zB, zC]
  refine tk 2 10 (.pointer (some ⟨p, 0, none⟩)) rfl rfl hHeld ?_
  simp only [Act.put, zA, zB, zC]
  refine tk 3 11 (v) rfl rfl hHeld ?_
  simp only [Act.put, zA, zB, zC]
  refine tk 4 12 (.pointer (some ⟨p, 0, none⟩)) rfl rfl hHeld ?_
  simp only [Act.put, zA, zB, zC]
  refine tk 5 13 (.pointer (some ⟨p, 0, none⟩)) rfl rfl hHeld ?_
  simp only [Act.put, zA, zB, zC]
  refine tk 6 14 (.pointer (some ⟨p, 1, none⟩)) rfl rfl hHeld ?_
  simp only [Act.put, zA, zB, zC]
  refine tk 7 15 (.agg #[.int .i64 a, .int .i64 c, .string op, .int .i64 wh]) rfl rfl hHeld ?_
  simp only [Act.put, zA, zB, zC]
  refine tk 8 16 (.int .i64 M) rfl rfl hHeld ?_
  simp only [Act.put, zA, zB, zC]
  refine tk 9 17 (.agg #[.int .i64 3, .int .i64 M, .int .i64 0]) rfl rfl hHeld ?_
  simp only [Act.put, zA, zB, zC]
  refine wpAnyH_ready (rs := [10, 14, 15]) (by kernel_rfl) (by simp) ?_
  refine AllReadyH.cons (o := _) rfl (fun K hK => ?_) (AllReadyH.cons (o := _) rfl (fun K hK => ?_) (AllReadyH.cons (o := _) rfl (fun K hK => ?_) AllReadyH.nil))
  focus
   go_simp
   go_at_call 56
   refine (HC.out _ hHeld.2.1).mono ?_
   rintro e W1 ⟨x1, x3, y1, y3, rfl, ht, hb⟩
   have hz := hHeld.2.2
   have HT : Hid (Slk (fun b => (b < N0 ∨ w.heap.size ≤ b)) bc W1 (.slice x1 nt x3) T) := hide (ht.imp (fun b hl k => by omega) (fun _ _ _ _ => rfl))
   clear hz ht 
   go_wp2_with fail
   refine hK.out _ _ ?_ (fun hHeld1 => ?_)
   ·exact hs_call HF.out hb hHeld
   clear hb
   clear hK K hHeld
   have hHeld := hHeld1
   clear hHeld1
   refine tk 11 7 (.tuple #[.agg #[.int .i64 A, .int .i64 C, .string OP, .int .i64 WH], .agg #[.int .u64 n, .bool f, .slice x1 nt x3, .slice y1 nr y3]]) rfl rfl hHeld ?_
   simp only [Act.put, zA, zB, zC]
   refine tk 12 19 (.agg #[.int .i64 A, .int .i64 C, .string OP, .int .i64 WH]) rfl rfl hHeld ?_
   simp only [Act.put, zA, zB, zC]
   refine tk 13 20 (.agg #[.int .u64 n, .bool f, .slice x1 nt x3, .slice y1 nr y3]) rfl rfl hHeld ?_
   simp only [Act.put, zA, zB, zC]
   refine wpAnyH_ready (rs := [14, 15]) (by kernel_rfl) (by simp) ?_
   refine AllReadyH.cons (o := _) rfl (fun K hK => ?_) (AllReadyH.cons (o := _) rfl (fun K hK => ?_) AllReadyH.nil)
   focus
    go_simp
    refine hK.out _ _ ?_ (fun hHeld1 => ?_)
    ·exact hs_alloc HF.out hHeld
    have HA := hide (B4.new W1 (.int .i64 0) (.int .i64 0) (.string ⟨#[]⟩) (.int .i64 0) 66)
    have GA : Hid (w.heap.size ≤ W1.heap.size) := hide hHeld.2.2
    replace HT := hide ((HT.out.off (Nat.le_refl W1.heap.size)).below ((Below.refl _ _).alloc (Nat.le_refl _) (.cells #[.int .i64 0, .int .i64 0, .string ⟨#[]⟩, .int .i64 0] 66)))
    generalize W1.alloc (.cells #[.int .i64 0, .int .i64 0, .string ⟨#[]⟩, .int .i64 0] 66) = W2 at HA hHeld1 HT ⊢
    generalize W1.heap.size = g1 at HA GA HT ⊢
    clear hK K hHeld
    have hHeld := hHeld1
    clear hHeld1
    refine wpAnyH_ready (rs := [15]) (by kernel_rfl) (by simp) ?_
    refine AllReadyH.cons (o := _) rfl (fun K hK => ?_) AllReadyH.nil
    go_simp
    refine hK.out _ _ ?_ (fun hHeld1 => ?_)
    ·exact hs_alloc HF.out hHeld
    have HB := hide (B4.new W2 (.int .u64 0) (.bool false) (.slice none 0 0) (.slice none 0 0) 110)
    have GB : Hid (w.heap.size ≤ W2.heap.size) := hide hHeld.2.2
    have HN : Hid (¬ g1 = W2.heap.size) := hide (by have := HA.out.lt; omega)
    replace HA := hide (HA.out.below ((Below.refl _ _).alloc (Nat.le_refl _) (.cells #[.int .u64 0, .bool false, .slice none 0 0, .slice none 0 0] 110)))
    replace HT := hide ((HT.out.off (Nat.le_refl W2.heap.size)).below ((Below.refl _ _).alloc (Nat.le_refl _) (.cells #[.int .u64 0, .bool false, .slice none 0 0, .slice none 0 0] 110)))
    generalize W2.alloc (.cells #[.int .u64 0, .bool false, .slice none 0 0, .slice none 0 0] 110) = W3 at HB hHeld1 HA HT ⊢
    generalize W2.heap.size = g2 at HB GB HN HT ⊢
    clear hK K hHeld
    have hHeld := hHeld1
    clear hHeld1
    obtain ⟨WZ, rfl⟩ : ∃ x : World, x = W3 := ⟨_, rfl⟩
   rotate_left 1
   focus
    go_simp
    refine hK.out _ _ ?_ (fun hHeld1 => ?_)
    ·exact hs_alloc HF.out hHeld
    have HB := hide (B4.new W1 (.int .u64 0) (.bool false) (.slice none 0 0) (.slice none 0 0) 110)
    have GB : Hid (w.heap.size ≤ W1.heap.size) := hide hHeld.2.2
    replace HT := hide ((HT.out.off (Nat.le_refl W1.heap.size)).below ((Below.refl _ _).alloc (Nat.le_refl _) (.cells #[.int .u64 0, .bool false, .slice none 0 0, .slice none 0 0] 110)))
    generalize W1.alloc (.cells #[.int .u64 0, .bool false, .slice none 0 0, .slice none 0 0] 110) = W2 at HB hHeld1 HT ⊢
    generalize W1.heap.size = g2 at HB GB HT ⊢
    clear hK K hHeld
    have hHeld := hHeld1
    clear hHeld1
    refine wpAnyH_ready (rs := [14]) (by kernel_rfl) (by simp) ?_
    refine AllReadyH.cons (o := _) rfl (fun K hK => ?_) AllReadyH.nil
    go_simp
    refine hK.out _ _ ?_ (fun hHeld1 => ?_)
    ·exact hs_alloc HF.out hHeld
    have HA := hide (B4.new W2 (.int .i64 0) (.int .i64 0) (.string ⟨#[]⟩) (.int .i64 0) 66)
    have GA : Hid (w.heap.size ≤ W2.heap.size) := hide hHeld.2.2
    have HN : Hid (¬ g2 = W2.heap.size) := hide (by have := HB.out.lt; omega)
    replace HB := hide (HB.out.below ((Below.refl _ _).alloc (Nat.le_refl _) (.cells #[.int .i64 0, .int .i64 0, .string ⟨#[]⟩, .int .i64 0] 66)))
    replace HT := hide ((HT.out.off (Nat.le_refl W2.heap.size)).below ((Below.refl _ _).alloc (Nat.le_refl _) (.cells #[.int .i64 0, .int .i64 0, .string ⟨#[]⟩, .int .i64 0] 66)))
    generalize W2.alloc (.cells #[.int .i64 0, .int .i64 0, .string ⟨#[]⟩, .int .i64 0] 66) = W3 at HA hHeld1 HB HT ⊢
    generalize W2.heap.size = g1 at HA GA HN HT ⊢
    clear hK K hHeld
    have hHeld := hHeld1
    clear hHeld1
    replace HN := hide (fun e => HN.out (Eq.symm e))
    obtain ⟨WZ, rfl⟩ : ∃ x : World, x = W3 := ⟨_, rfl⟩
   rotate_left 1
  rotate_left 2
  focus
   go_simp
   refine hK.out _ _ ?_ (fun hHeld1 => ?_)
   ·exact hs_alloc HF.out hHeld
   have HA := hide (B4.new W0 (.int .i64 0) (.int .i64 0) (.string ⟨#[]⟩) (.int .i64 0) 66)
   have GA : Hid (w.heap.size ≤ W0.heap.size) := hide hHeld.2.2
   generalize W0.alloc (.cells #[.int .i64 0, .int .i64 0, .string ⟨#[]⟩, .int .i64 0] 66) = W1 at HA hHeld1 ⊢
   generalize W0.heap.size = g1 at HA GA ⊢
   clear hK K hHeld
   have hHeld := hHeld1
   clear hHeld1
   refine wpAnyH_ready (rs := [10, 15]) (by kernel_rfl) (by simp) ?_
   refine AllReadyH.cons (o := _) rfl (fun K hK => ?_) (AllReadyH.cons (o := _) rfl (fun K hK => ?_) AllReadyH.nil)
   focus
    go_simp
    go_at_call 56
    refine (HC.out _ hHeld.2.1).mono ?_
    rintro e W2 ⟨x1, x3, y1, y3, rfl, ht, hb⟩
    have l14 := HA.out.lt
    have m14 := GA.out
    have hz := hHeld.2.2
    have HT : Hid (Slk (fun b => ((b < N0 ∨ w.heap.size ≤ b) ∧ ¬ b = g1)) bc W2 (.slice x1 nt x3) T) := hide (ht.imp (fun b hl k => by omega) (fun _ _ _ _ => rfl))
    clear hz ht l14 m14
    go_wp2_with fail
    refine hK.out _ _ ?_ (fun hHeld1 => ?_)
    ·exact hs_call HF.out hb hHeld
    replace HA := hide (HA.out.below hb)
    clear hb
    clear hK K hHeld
    have hHeld := hHeld1
    clear hHeld1
    refine tk 11 7 (.tuple #[.agg #[.int .i64 A, .int .i64 C, .string OP, .int .i64 WH], .agg #[.int .u64 n, .bool f, .slice x1 nt x3, .slice y1 nr y3]]) rfl rfl hHeld ?_
    simp only [Act.put, zA, zB, zC]
    refine tk 12 19 (.agg #[.int .i64 A, .int .i64 C, .string OP, .int .i64 WH]) rfl rfl hHeld ?_
    simp only [Act.put, zA, zB, zC]
    refine tk 13 20 (.agg #[.int .u64 n, .bool f, .slice x1 nt x3, .slice y1 nr y3]) rfl rfl hHeld ?_
    simp only [Act.put, zA, zB, zC]
    refine wpAnyH_ready (rs := [15]) (by kernel_rfl) (by simp) ?_
    refine AllReadyH.cons (o := _) rfl (fun K hK => ?_) AllReadyH.nil
    go_simp
    refine hK.out _ _ ?_ (fun hHeld1 => ?_)
    ·exact hs_alloc HF.out hHeld
    have HB := hide (B4.new W2 (.int .u64 0) (.bool false) (.slice none 0 0) (.slice none 0 0) 110)
    have GB : Hid (w.heap.size ≤ W2.heap.size) := hide hHeld.2.2
    have HN : Hid (¬ g1 = W2.heap.size) := hide (by have := HA.out.lt; omega)
    replace HA := hide (HA.out.below ((Below.refl _ _).alloc (Nat.le_refl _) (.cells #[.int .u64 0, .bool false, .slice none 0 0, .slice none 0 0] 110)))
    replace HT := hide ((HT.out.off (Nat.le_refl W2.heap.size)).below ((Below.refl _ _).alloc (Nat.le_refl _) (.cells #[.int .u64 0, .bool false, .slice none 0 0, .slice none 0 0] 110)))
    generalize W2.alloc (.cells #[.int .u64 0, .bool false, .slice none 0 0, .slice none 0 0] 110) = W3 at HB hHeld1 HA HT ⊢
    generalize W2.heap.size = g2 at HB GB HN HT ⊢
    clear hK K hHeld
    have hHeld := hHeld1
    clear hHeld1
    obtain ⟨WZ, rfl⟩ : ∃ x : World, x = W3 := ⟨_, rfl⟩
   rotate_left 1
   focus
    go_simp
    refine hK.out _ _ ?_ (fun hHeld1 => ?_)
    ·exact hs_alloc HF.out hHeld
    have HB := hide (B4.new W1 (.int .u64 0) (.bool false) (.slice none 0 0) (.slice none 0 0) 110)
    have GB : Hid (w.heap.size ≤ W1.heap.size) := hide hHeld.2.2
    have HN : Hid (¬ g1 = W1.heap.size) := hide (by have := HA.out.lt; omega)
    replace HA := hide (HA.out.below ((Below.refl _ _).alloc (Nat.le_refl _) (.cells #[.int .u64 0, .bool false, .slice none 0 0, .slice none 0 0] 110)))
    generalize W1.alloc (.cells #[.int .u64 0, .bool false, .slice none 0 0, .slice none 0 0] 110) = W2 at HB hHeld1 HA ⊢
    generalize W1.heap.size = g2 at HB GB HN ⊢
    clear hK K hHeld
    have hHeld := hHeld1
    clear hHeld1
    refine wpAnyH_ready (rs := [10]) (by kernel_rfl) (by simp) ?_
    refine AllReadyH.cons (o := _) rfl (fun K hK => ?_) AllReadyH.nil
    go_simp
    go_at_call 56
    refine (HC.out _ hHeld.2.1).mono ?_
    rintro e W3 ⟨x1, x3, y1, y3, rfl, ht, hb⟩
    have l14 := HA.out.lt
    have m14 := GA.out
    have l15 := HB.out.lt
    have m15 := GB.out
    have hz := hHeld.2.2
    have HT : Hid (Slk (fun b => (((b < N0 ∨ w.heap.size ≤ b) ∧ ¬ b = g1) ∧ ¬ b = g2)) bc W3 (.slice x1 nt x3) T) := hide (ht.imp (fun b hl k => by omega) (fun _ _ _ _ => rfl))
    clear hz ht l14 m14 l15 m15
    go_wp2_with fail
    refine hK.out _ _ ?_ (fun hHeld1 => ?_)
    ·exact hs_call HF.out hb hHeld
    replace HA := hide (HA.out.below hb)
    replace HB := hide (HB.out.below hb)
    clear hb
    clear hK K hHeld
    have hHeld := hHeld1
    clear hHeld1
    refine tk 11 7 (.tuple #[.agg #[.int .i64 A, .int .i64 C, .string OP, .int .i64 WH], .agg #[.int .u64 n, .bool f, .slice x1 nt x3, .slice y1 nr y3]]) rfl rfl hHeld ?_
    simp only [Act.put, zA, zB, zC]
    refine tk 12 19 (.agg #[.int .i64 A, .int .i64 C, .string OP, .int .i64 WH]) rfl rfl hHeld ?_
    simp only [Act.put, zA, zB, zC]
    refine tk 13 20 (.agg #[.int .u64 n, .bool f, .slice x1 nt x3, .slice y1 nr y3]) rfl rfl hHeld ?_
    simp only [Act.put, zA, zB, zC]
    obtain ⟨WZ, rfl⟩ : ∃ x : World, x = W3 := ⟨_, rfl⟩
   rotate_left 1
  rotate_left 2
  focus
   go_simp
   refine hK.out _ _ ?_ (fun hHeld1 => ?_)
   ·exact hs_alloc HF.out hHeld
   have HB := hide (B4.new W0 (.int .u64 0) (.bool false) (.slice none 0 0) (.slice none 0 0) 110)
   have GB : Hid (w.heap.size ≤ W0.heap.size) := hide hHeld.2.2
   generalize W0.alloc (.cells #[.int .u64 0, .bool false, .slice none 0 0, .slice none 0 0] 110) = W1 at HB hHeld1 ⊢
   generalize W0.heap.size = g2 at HB GB ⊢
   clear hK K hHeld
   have hHeld := hHeld1
   clear hHeld1
   refine wpAnyH_ready (rs := [10, 14]) (by kernel_rfl) (by simp) ?_
   refine AllReadyH.cons (o := _) rfl (fun K hK => ?_) (AllReadyH.cons (o := _) rfl (fun K hK => ?_) AllReadyH.nil)
   focus
    go_simp
    go_at_call 56
    refine (HC.out _ hHeld.2.1).mono ?_
    rintro e W2 ⟨x1, x3, y1, y3, rfl, ht, hb⟩
    have l15 := HB.out.lt
    have m15 := GB.out
    have hz := hHeld.2.2
    have HT : Hid (Slk (fun b => ((b < N0 ∨ w.heap.size ≤ b) ∧ ¬ b = g2)) bc W2 (.slice x1 nt x3) T) := hide (ht.imp (fun b hl k => by omega) (fun _ _ _ _ => rfl))
    clear hz ht l15 m15
    go_wp2_with fail
    refine hK.out _ _ ?_ (fun hHeld1 => ?_)
    ·exact hs_call HF.out hb hHeld
    replace HB := hide (HB.out.below hb)
    clear hb
    clear hK K hHeld
    have hHeld := hHeld1
    clear hHeld1
    refine tk 11 7 (.tuple #[.agg #[.int .i64 A, .int .i64 C, .string OP, .int .i64 WH], .agg #[.int .u64 n, .bool f, .slice x1 nt x3, .slice y1 nr y3]]) rfl rfl hHeld ?_
    simp only [Act.put, zA, zB, zC]
    refine tk 12 19 (.agg #[.int .i64 A, .int .i64 C, .string OP, .int .i64 WH]) rfl rfl hHeld ?_
    simp only [Act.put, zA, zB, zC]
    refine tk 13 20 (.agg #[.int .u64 n, .bool f, .slice x1 nt x3, .slice y1 nr y3]) rfl rfl hHeld ?_
    simp only [Act.put, zA, zB, zC]
    refine wpAnyH_ready (rs := [14]) (by kernel_rfl) (by simp) ?_
    refine AllReadyH.cons (o := _) rfl (fun K hK => ?_) AllReadyH.nil
    go_simp
    refine hK.out _ _ ?_ (fun hHeld1 => ?_)
    ·exact hs_alloc HF.out hHeld
    have HA := hide (B4.new W2 (.int .i64 0) (.int .i64 0) (.string ⟨#[]⟩) (.int .i64 0) 66)
    have GA : Hid (w.heap.size ≤ W2.heap.size) := hide hHeld.2.2
    have HN : Hid (¬ g2 = W2.heap.size) := hide (by have := HB.out.lt; omega)
    replace HB := hide (HB.out.below ((Below.refl _ _).alloc (Nat.le_refl _) (.cells #[.int .i64 0, .int .i64 0, .string ⟨#[]⟩, .int .i64 0] 66)))
    replace HT := hide ((HT.out.off (Nat.le_refl W2.heap.size)).below ((Below.refl _ _).alloc (Nat.le_refl _) (.cells #[.int .i64 0, .int .i64 0, .string ⟨#[]⟩, .int .i64 0] 66)))
    generalize W2.alloc (.cells #[.int .i64 0, .int .i64 0, .string ⟨#[]⟩, .int .i64 0] 66) = W3 at HA hHeld1 HB HT ⊢
    generalize W2.heap.size = g1 at HA GA HN HT ⊢
    clear hK K hHeld
    have hHeld := hHeld1
    clear hHeld1
    replace HN := hide (fun e => HN.out (Eq.symm e))
    obtain ⟨WZ, rfl⟩ : ∃ x : World, x = W3 := ⟨_, rfl⟩
   rotate_left 1
   focus
    go_simp
    refine hK.out _ _ ?_ (fun hHeld1 => ?_)
    ·exact hs_alloc HF.out hHeld
    have HA := hide (B4.new W1 (.int .i64 0) (.int .i64 0) (.string ⟨#[]⟩) (.int .i64 0) 66)
    have GA : Hid (w.heap.size ≤ W1.heap.size) := hide hHeld.2.2
    have HN : Hid (¬ g2 = W1.heap.size) := hide (by have := HB.out.lt; omega)
    replace HB := hide (HB.out.below ((Below.refl _ _).alloc (Nat.le_refl _) (.cells #[.int .i64 0, .int .i64 0, .string ⟨#[]⟩, .int .i64 0] 66)))
    generalize W1.alloc (.cells #[.int .i64 0, .int .i64 0, .string ⟨#[]⟩, .int .i64 0] 66) = W2 at HA hHeld1 HB ⊢
    generalize W1.heap.size = g1 at HA GA HN ⊢
    clear hK K hHeld
    have hHeld := hHeld1
    clear hHeld1
    refine wpAnyH_ready (rs := [10]) (by kernel_rfl) (by simp) ?_
    refine AllReadyH.cons (o := _) rfl (fun K hK => ?_) AllReadyH.nil
    go_simp
    go_at_call 56
    refine (HC.out _ hHeld.2.1).mono ?_
    rintro e W3 ⟨x1, x3, y1, y3, rfl, ht, hb⟩
    have l15 := HB.out.lt
    have m15 := GB.out
    have l14 := HA.out.lt
    have m14 := GA.out
    have hz := hHeld.2.2
    have HT : Hid (Slk (fun b => (((b < N0 ∨ w.heap.size ≤ b) ∧ ¬ b = g2) ∧ ¬ b = g1)) bc W3 (.slice x1 nt x3) T) := hide (ht.imp (fun b hl k => by omega) (fun _ _ _ _ => rfl))
    clear hz ht l15 m15 l14 m14
    go_wp2_with fail
    refine hK.out _ _ ?_ (fun hHeld1 => ?_)
    ·exact hs_call HF.out hb hHeld
    replace HA := hide (HA.out.below hb)
    replace HB := hide (HB.out.below hb)
    clear hb
    clear hK K hHeld
    have hHeld := hHeld1
    clear hHeld1
    refine tk 11 7 (.tuple #[.agg #[.int .i64 A, .int .i64 C, .string OP, .int .i64 WH], .agg #[.int .u64 n, .bool f, .slice x1 nt x3, .slice y1 nr y3]]) rfl rfl hHeld ?_
    simp only [Act.put, zA, zB, zC]
    refine tk 12 19 (.agg #[.int .i64 A, .int .i64 C, .string OP, .int .i64 WH]) rfl rfl hHeld ?_
    simp only [Act.put, zA, zB, zC]
    refine tk 13 20 (.agg #[.int .u64 n, .bool f, .slice x1 nt x3, .slice y1 nr y3]) rfl rfl hHeld ?_
    simp only [Act.put, zA, zB, zC]
    replace HN := hide (fun e => HN.out (Eq.symm e))
    obtain ⟨WZ, rfl⟩ : ∃ x : World, x = W3 := ⟨_, rfl⟩
   rotate_left 1
  rotate_left 2
  all_goals
   refine wpAnyH_ready (rs := [16]) (by kernel_rfl) (by simp) ?_
   refine AllReadyH.cons (o := _) rfl (fun K hK => ?_) AllReadyH.nil
   have i0 := HA.out.c0
   have i1 := HA.out.c1
   have i2 := HA.out.c2
   have i3 := HA.out.c3
   have k0 := HA.out.fz 0
   have k1 := HA.out.fz 1
   have k2 := HA.out.fz 2
   have k3 := HA.out.fz 3
   go_simp
   clear i0 i1 i2 i3 k0 k1 k2 k3
   refine hK.out _ _ ?_ (fun hHeld1 => ?_)
   ·exact hs_set4 HF.out GA.out hHeld
   replace HA := hide (HA.out.set (.int .i64 A) (.int .i64 C) (.string OP) (.int .i64 WH))
   replace HB := hide (HB.out.other (k := g1) (fun e => HN.out (e.symm)) (.int .i64 A) (.int .i64 C) (.string OP) (.int .i64 WH))
   replace HT := hide (HT.out.set4 (g := g1) (fun b k => by omega) (.int .i64 A) (.int .i64 C) (.string OP) (.int .i64 WH))
   unfold set4 at HA HB
   generalize (((WZ.setCell ⟨g1, 0, none⟩ (.int .i64 A)).setCell ⟨g1, 1, none⟩ (.int .i64 C)).setCell ⟨g1, 2, none⟩ (.string OP)).setCell ⟨g1, 3, none⟩ (.int .i64 WH) = W7 at HA HB HT hHeld1 ⊢
   clear hK K hHeld
   have hHeld := hHeld1
   clear hHeld1
   refine wpAnyH_ready (rs := [17]) (by kernel_rfl) (by simp) ?_
   refine AllReadyH.cons (o := _) rfl (fun K hK => ?_) AllReadyH.nil
   have i0 := HB.out.c0
   have i1 := HB.out.c1
   have i2 := HB.out.c2
   have i3 := HB.out.c3
   have k0 := HB.out.fz 0
   have k1 := HB.out.fz 1
   have k2 := HB.out.fz 2
   have k3 := HB.out.fz 3
   go_simp
   clear i0 i1 i2 i3 k0 k1 k2 k3
   refine hK.out _ _ ?_ (fun hHeld1 => ?_)
   ·exact hs_set4 HF.out GB.out hHeld
   replace HB := hide (HB.out.set (.int .u64 n) (.bool f) (.slice x1 nt x3) (.slice y1 nr y3))
   replace HA := hide (HA.out.other (k := g2) (fun e => HN.out (e)) (.int .u64 n) (.bool f) (.slice x1 nt x3) (.slice y1 nr y3))
   replace HT := hide (HT.out.set4 (g := g2) (fun b k => by omega) (.int .u64 n) (.bool f) (.slice x1 nt x3) (.slice y1 nr y3))
   unfold set4 at HA HB
   generalize (((W7.setCell ⟨g2, 0, none⟩ (.int .u64 n)).setCell ⟨g2, 1, none⟩ (.bool f)).setCell ⟨g2, 2, none⟩ (.slice x1 nt x3)).setCell ⟨g2, 3, none⟩ (.slice y1 nr y3) = W8 at HA HB HT hHeld1 ⊢
   clear hK K hHeld
   have hHeld := hHeld1
   clear hHeld1
   refine wpAnyH_done (by kernel_rfl) ?_ _
   have HD := hide hHeld.2.1
   clear hHeld HF HC HS0
   go_wp2_with fail
   go_meet
   exact ⟨g1, g2, x1, x3, y1, y3, rfl, rfl, HA.out, HB.out, GA.out, GB.out, HD.out, HT.out.imp (fun b _ k => by omega) (fun _ _ _ _ => rfl)⟩
 case rest =>
  obtain ⟨g1, g2, x1, x3, y1, y3, rfl, rfl, hA, hB, h1, h2, hb, ht⟩ := hcut
  obtain ⟨i0, i1, i2, i3, _⟩ := hA
  obtain ⟨j0, j1, j2, j3, _⟩ := hB
  obtain ⟨e0, e1, e2, e3, e4⟩ := HF.out _ hb
  have f1 : wc.frozen? ⟨p, 1, none⟩ = false := (hb.frozen (p := ⟨p, 1, none⟩) hp).trans (hfz 1)
  have f2 : wc.frozen? ⟨p, 2, none⟩ = false := (hb.frozen (p := ⟨p, 2, none⟩) hp).trans (hfz 2)
  have f3 : wc.frozen? ⟨p, 3, none⟩ = false := (hb.frozen (p := ⟨p, 3, none⟩) hp).trans (hfz 3)
  have f4 : wc.frozen? ⟨p, 4, none⟩ = false := (hb.frozen (p := ⟨p, 4, none⟩) hp).trans (hfz 4)
  have hn2 : ¬ p = g2 := by omega
  have hn3 : ¬ g2 = p := by omega
  have HFZ : Hid (∀ i, wc.frozen? ⟨p, i, none⟩ = false) := hide (fun i => (hb.frozen (p := ⟨p, i, none⟩) hp).trans (hfz i))
  have HB := hide hb
  have HE := hide (And.intro e0 (And.intro e1 (And.intro e2 (And.intro e3 e4))))
  have HT := hide ht
  clear ht
  clear hfz hb h1 h2
  go_wp2_with fail
  go_ret
  exact ⟨x1, x3, rfl, HT.out.setp (fun b k => by omega) _ _ _ _, set_p HE.out, fun i => by simp [World.frozen?_setCell, HFZ.out], bx_p HB.out⟩
theorem curow_go (p : Nat) (v : Value) (a c wh A C WH n M E : Int) (op OP : ByteArray) (f : Bool) (nt nr : Nat) (w : World) (hp : p < w.heap.size) (hfz : ∀ i, w.frozen? ⟨p, i, none⟩ = false) (T : List Int)
  (hF : ∀ W, Below w.heap.size w W → (W.cell? ⟨p, 0, none⟩ = some v ∧ W.cell? ⟨p, 1, none⟩ = some (.int .i64 a) ∧ W.cell? ⟨p, 2, none⟩ = some (.int .i64 c) ∧ W.cell? ⟨p, 3, none⟩ = some (.string op) ∧ W.cell? ⟨p, 4, none⟩ = some (.int .i64 wh)))
  (HC : Hid (∀ W, Below w.heap.size w W → Calls Tryz.prog 56 #[v, .agg #[.int .i64 a, .int .i64 c, .string op, .int .i64 wh], .agg #[.int .i64 4, .int .i64 M, .int .i64 E]] W fun e w' => ∃ x1 x3 y1 y3, e = .returned (.tuple #[.agg #[.int .i64 A, .int .i64 C, .string OP, .int .i64 WH], .agg #[.int .u64 n, .bool f, .slice x1 nt x3, .slice y1 nr y3]]) ∧ Slk (fun b => W.heap.size ≤ b) ic w' (.slice y1 nr y3) T ∧ Below W.heap.size W w')) :
  Calls Tryz.prog 115 #[.pointer (some ⟨p, 0, none⟩), .int .i64 M, .int .i64 E] w fun e w' => ∃ z1 z3, e = .returned (.slice z1 nr z3) ∧ Slk (fun b => w.heap.size ≤ b) ic w' (.slice z1 nr z3) T ∧ (w'.cell? ⟨p, 0, none⟩ = some v ∧ w'.cell? ⟨p, 1, none⟩ = some (.int .i64 A) ∧ w'.cell? ⟨p, 2, none⟩ = some (.int .i64 C) ∧ w'.cell? ⟨p, 3, none⟩ = some (.string OP) ∧ w'.cell? ⟨p, 4, none⟩ = some (.int .i64 WH)) ∧ (∀ i, w'.frozen? ⟨p, i, none⟩ = false) ∧ Bx p w w' := by
 have HS0 := hide (hs_drew hF (Nat.le_refl _))
 have HF := hide hF
 clear hF
 go_enter Tryz.func115, Tryz.ntmps115
 go_upto_region 1 with fail
 go_cut [7, 8] (fun x y W => ∃ g1 g2 x1 x3 y1 y3, x = .pointer (some ⟨g1, 0, none⟩) ∧ y = .pointer (some ⟨g2, 0, none⟩) ∧ B4 W g1 (.int .i64 A) (.int .i64 C) (.string OP) (.int .i64 WH) ∧ B4 W g2 (.int .u64 n) (.bool f) (.slice x1 nt x3) (.slice y1 nr y3) ∧ w.heap.size ≤ g1 ∧ w.heap.size ≤ g2 ∧ Below w.heap.size w W ∧ Slk (fun b => w.heap.size ≤ b) ic W (.slice y1 nr y3) T)
 case first =>
  refine wp_region_held_drew (S := fun W => (W.cell? ⟨p, 0, none⟩ = some v ∧ W.cell? ⟨p, 1, none⟩ = some (.int .i64 a) ∧ W.cell? ⟨p, 2, none⟩ = some (.int .i64 c) ∧ W.cell? ⟨p, 3, none⟩ = some (.string op) ∧ W.cell? ⟨p, 4, none⟩ = some (.int .i64 wh)) ∧ Below w.heap.size w W ∧ w.heap.size ≤ W.heap.size) (by kernel_rfl) HS0.out (fun hHeld => ?_)
  generalize w.drew = W0 at hHeld ⊢
  refine tk 0 10 (.pointer (some ⟨p, 0, none⟩)) rfl rfl hHeld ?_
  simp only [Act.put, zA, zB, zC]
  refine tk 1 11 (.pointer (some ⟨p, 0, none⟩)) rfl rfl hHeld ?_
  simp only [Act.put, zA, zB, zC]
  refine tk 2 12 (.pointer (some ⟨p, 0, none⟩)) rfl rfl hHeld ?_
  simp only [Act.put, zA, zB, zC]
  refine tk 3 13 (v) rfl rfl hHeld ?_
  simp only [Act.put, zA, zB, zC]
  refine tk 4 14 (.pointer (some ⟨p, 0, none⟩)) rfl rfl hHeld ?_
  simp only [Act.put, zA, zB, zC]
  refine tk 5 15 (.pointer (some ⟨p, 0, none⟩)) rfl rfl hHeld ?_
  simp only [Act.put, zA, zB, zC]
  refine tk 6 16 (.pointer (some ⟨p, 1, none⟩)) rfl rfl hHeld ?_
  simp only [Act.put, zA, zB, zC]
  refine tk 7 17 (.agg #[.int .i64 a, .int .i64 c, .string op, .int .i64 wh]) rfl rfl hHeld ?_
  simp only [Act.put, zA, zB, zC]
  refine tk 8 18 (.int .i64 M) rfl rfl hHeld ?_
  simp only [Act.put, zA, zB, zC]
  refine tk 9 19 (.int .i64 E) rfl rfl hHeld ?_
  simp only [Act.put, zA, zB, zC]
  refine tk 10 20 (.agg #[.int .i64 4, .int .i64 M, .int .i64 E]) rfl rfl hHeld ?_
  simp only [Act.put, zA, zB, zC]
  refine wpAnyH_ready (rs := [11, 15, 16]) (by kernel_rfl) (by simp) ?_
  refine AllReadyH.cons (o := _) rfl (fun K hK => ?_) (AllReadyH.cons (o := _) rfl (fun K hK => ?_) (AllReadyH.cons (o := _) rfl (fun K hK => ?_) AllReadyH.nil))
  focus
   go_simp
   go_at_call 56
   refine (HC.out _ hHeld.2.1).mono ?_
   rintro e W1 ⟨x1, x3, y1, y3, rfl, ht, hb⟩
   have hz := hHeld.2.2
   have HT : Hid (Slk (fun b => w.heap.size ≤ b) ic W1 (.slice y1 nr y3) T) := hide (ht.imp (fun b hl k => by omega) (fun _ _ _ _ => rfl))
   clear hz ht 
   go_wp2_with fail
   refine hK.out _ _ ?_ (fun hHeld1 => ?_)
   ·exact hs_call HF.out hb hHeld
   clear hb
   clear hK K hHeld
   have hHeld := hHeld1
   clear hHeld1
   refine tk 12 9 (.tuple #[.agg #[.int .i64 A, .int .i64 C, .string OP, .int .i64 WH], .agg #[.int .u64 n, .bool f, .slice x1 nt x3, .slice y1 nr y3]]) rfl rfl hHeld ?_
   simp only [Act.put, zA, zB, zC]
   refine tk 13 22 (.agg #[.int .i64 A, .int .i64 C, .string OP, .int .i64 WH]) rfl rfl hHeld ?_
   simp only [Act.put, zA, zB, zC]
   refine tk 14 23 (.agg #[.int .u64 n, .bool f, .slice x1 nt x3, .slice y1 nr y3]) rfl rfl hHeld ?_
   simp only [Act.put, zA, zB, zC]
   refine wpAnyH_ready (rs := [15, 16]) (by kernel_rfl) (by simp) ?_
   refine AllReadyH.cons (o := _) rfl (fun K hK => ?_) (AllReadyH.cons (o := _) rfl (fun K hK => ?_) AllReadyH.nil)
   focus
    go_simp
    refine hK.out _ _ ?_ (fun hHeld1 => ?_)
    ·exact hs_alloc HF.out hHeld
    have HA := hide (B4.new W1 (.int .i64 0) (.int .i64 0) (.string ⟨#[]⟩) (.int .i64 0) 66)
    have GA : Hid (w.heap.size ≤ W1.heap.size) := hide hHeld.2.2
    replace HT := hide ((HT.out.off (Nat.le_refl W1.heap.size)).below ((Below.refl _ _).alloc (Nat.le_refl _) (.cells #[.int .i64 0, .int .i64 0, .string ⟨#[]⟩, .int .i64 0] 66)))
    generalize W1.alloc (.cells #[.int .i64 0, .int .i64 0, .string ⟨#[]⟩, .int .i64 0] 66) = W2 at HA hHeld1 HT ⊢
    generalize W1.heap.size = g1 at HA GA HT ⊢
    clear hK K hHeld
    have hHeld := hHeld1
    clear hHeld1
    refine wpAnyH_ready (rs := [16]) (by kernel_rfl) (by simp) ?_
    refine AllReadyH.cons (o := _) rfl (fun K hK => ?_) AllReadyH.nil
    go_simp
    refine hK.out _ _ ?_ (fun hHeld1 => ?_)
    ·exact hs_alloc HF.out hHeld
    have HB := hide (B4.new W2 (.int .u64 0) (.bool false) (.slice none 0 0) (.slice none 0 0) 110)
    have GB : Hid (w.heap.size ≤ W2.heap.size) := hide hHeld.2.2
    have HN : Hid (¬ g1 = W2.heap.size) := hide (by have := HA.out.lt; omega)
    replace HA := hide (HA.out.below ((Below.refl _ _).alloc (Nat.le_refl _) (.cells #[.int .u64 0, .bool false, .slice none 0 0, .slice none 0 0] 110)))
    replace HT := hide ((HT.out.off (Nat.le_refl W2.heap.size)).below ((Below.refl _ _).alloc (Nat.le_refl _) (.cells #[.int .u64 0, .bool false, .slice none 0 0, .slice none 0 0] 110)))
    generalize W2.alloc (.cells #[.int .u64 0, .bool false, .slice none 0 0, .slice none 0 0] 110) = W3 at HB hHeld1 HA HT ⊢
    generalize W2.heap.size = g2 at HB GB HN HT ⊢
    clear hK K hHeld
    have hHeld := hHeld1
    clear hHeld1
    obtain ⟨WZ, rfl⟩ : ∃ x : World, x = W3 := ⟨_, rfl⟩
   rotate_left 1
   focus
    go_simp
    refine hK.out _ _ ?_ (fun hHeld1 => ?_)
    ·exact hs_alloc HF.out hHeld
    have HB := hide (B4.new W1 (.int .u64 0) (.bool false) (.slice none 0 0) (.slice none 0 0) 110)
    have GB : Hid (w.heap.size ≤ W1.heap.size) := hide hHeld.2.2
    replace HT := hide ((HT.out.off (Nat.le_refl W1.heap.size)).below ((Below.refl _ _).alloc (Nat.le_refl _) (.cells #[.int .u64 0, .bool false, .slice none 0 0, .slice none 0 0] 110)))
    generalize W1.alloc (.cells #[.int .u64 0, .bool false, .slice none 0 0, .slice none 0 0] 110) = W2 at HB hHeld1 HT ⊢
    generalize W1.heap.size = g2 at HB GB HT ⊢
    clear hK K hHeld
    have hHeld := hHeld1
    clear hHeld1
    refine wpAnyH_ready (rs := [15]) (by kernel_rfl) (by simp) ?_
    refine AllReadyH.cons (o := _) rfl (fun K hK => ?_) AllReadyH.nil
    go_simp
    refine hK.out _ _ ?_ (fun hHeld1 => ?_)
    ·exact hs_alloc HF.out hHeld
    have HA := hide (B4.new W2 (.int .i64 0) (.int .i64 0) (.string ⟨#[]⟩) (.int .i64 0) 66)
    have GA : Hid (w.heap.size ≤ W2.heap.size) := hide hHeld.2.2
    have HN : Hid (¬ g2 = W2.heap.size) := hide (by have := HB.out.lt; omega)
    replace HB := hide (HB.out.below ((Below.refl _ _).alloc (Nat.le_refl _) (.cells #[.int .i64 0, .int .i64 0, .string ⟨#[]⟩, .int .i64 0] 66)))
    replace HT := hide ((HT.out.off (Nat.le_refl W2.heap.size)).below ((Below.refl _ _).alloc (Nat.le_refl _) (.cells #[.int .i64 0, .int .i64 0, .string ⟨#[]⟩, .int .i64 0] 66)))
    generalize W2.alloc (.cells #[.int .i64 0, .int .i64 0, .string ⟨#[]⟩, .int .i64 0] 66) = W3 at HA hHeld1 HB HT ⊢
    generalize W2.heap.size = g1 at HA GA HN HT ⊢
    clear hK K hHeld
    have hHeld := hHeld1
    clear hHeld1
    replace HN := hide (fun e => HN.out (Eq.symm e))
    obtain ⟨WZ, rfl⟩ : ∃ x : World, x = W3 := ⟨_, rfl⟩
   rotate_left 1
  rotate_left 2
  focus
   go_simp
   refine hK.out _ _ ?_ (fun hHeld1 => ?_)
   ·exact hs_alloc HF.out hHeld
   have HA := hide (B4.new W0 (.int .i64 0) (.int .i64 0) (.string ⟨#[]⟩) (.int .i64 0) 66)
   have GA : Hid (w.heap.size ≤ W0.heap.size) := hide hHeld.2.2
   generalize W0.alloc (.cells #[.int .i64 0, .int .i64 0, .string ⟨#[]⟩, .int .i64 0] 66) = W1 at HA hHeld1 ⊢
   generalize W0.heap.size = g1 at HA GA ⊢
   clear hK K hHeld
   have hHeld := hHeld1
   clear hHeld1
   refine wpAnyH_ready (rs := [11, 16]) (by kernel_rfl) (by simp) ?_
   refine AllReadyH.cons (o := _) rfl (fun K hK => ?_) (AllReadyH.cons (o := _) rfl (fun K hK => ?_) AllReadyH.nil)
   focus
    go_simp
    go_at_call 56
    refine (HC.out _ hHeld.2.1).mono ?_
    rintro e W2 ⟨x1, x3, y1, y3, rfl, ht, hb⟩
    have l14 := HA.out.lt
    have m14 := GA.out
    have hz := hHeld.2.2
    have HT : Hid (Slk (fun b => (w.heap.size ≤ b ∧ ¬ b = g1)) ic W2 (.slice y1 nr y3) T) := hide (ht.imp (fun b hl k => by omega) (fun _ _ _ _ => rfl))
    clear hz ht l14 m14
    go_wp2_with fail
    refine hK.out _ _ ?_ (fun hHeld1 => ?_)
    ·exact hs_call HF.out hb hHeld
    replace HA := hide (HA.out.below hb)
    clear hb
    clear hK K hHeld
    have hHeld := hHeld1
    clear hHeld1
    refine tk 12 9 (.tuple #[.agg #[.int .i64 A, .int .i64 C, .string OP, .int .i64 WH], .agg #[.int .u64 n, .bool f, .slice x1 nt x3, .slice y1 nr y3]]) rfl rfl hHeld ?_
    simp only [Act.put, zA, zB, zC]
    refine tk 13 22 (.agg #[.int .i64 A, .int .i64 C, .string OP, .int .i64 WH]) rfl rfl hHeld ?_
    simp only [Act.put, zA, zB, zC]
    refine tk 14 23 (.agg #[.int .u64 n, .bool f, .slice x1 nt x3, .slice y1 nr y3]) rfl rfl hHeld ?_
    simp only [Act.put, zA, zB, zC]
    refine wpAnyH_ready (rs := [16]) (by kernel_rfl) (by simp) ?_
    refine AllReadyH.cons (o := _) rfl (fun K hK => ?_) AllReadyH.nil
    go_simp
    refine hK.out _ _ ?_ (fun hHeld1 => ?_)
    ·exact hs_alloc HF.out hHeld
    have HB := hide (B4.new W2 (.int .u64 0) (.bool false) (.slice none 0 0) (.slice none 0 0) 110)
    have GB : Hid (w.heap.size ≤ W2.heap.size) := hide hHeld.2.2
    have HN : Hid (¬ g1 = W2.heap.size) := hide (by have := HA.out.lt; omega)
    replace HA := hide (HA.out.below ((Below.refl _ _).alloc (Nat.le_refl _) (.cells #[.int .u64 0, .bool false, .slice none 0 0, .slice none 0 0] 110)))
    replace HT := hide ((HT.out.off (Nat.le_refl W2.heap.size)).below ((Below.refl _ _).alloc (Nat.le_refl _) (.cells #[.int .u64 0, .bool false, .slice none 0 0, .slice none 0 0] 110)))
    generalize W2.alloc (.cells #[.int .u64 0, .bool false, .slice none 0 0, .slice none 0 0] 110) = W3 at HB hHeld1 HA HT ⊢
    generalize W2.heap.size = g2 at HB GB HN HT ⊢
    clear hK K hHeld
    have hHeld := hHeld1
    clear hHeld1
    obtain ⟨WZ, rfl⟩ : ∃ x : World, x = W3 := ⟨_, rfl⟩
   rotate_left 1
   focus
    go_simp
    refine hK.out _ _ ?_ (fun hHeld1 => ?_)
    ·exact hs_alloc HF.out hHeld
    have HB := hide (B4.new W1 (.int .u64 0) (.bool false) (.slice none 0 0) (.slice none 0 0) 110)
    have GB : Hid (w.heap.size ≤ W1.heap.size) := hide hHeld.2.2
    have HN : Hid (¬ g1 = W1.heap.size) := hide (by have := HA.out.lt; omega)
    replace HA := hide (HA.out.below ((Below.refl _ _).alloc (Nat.le_refl _) (.cells #[.int .u64 0, .bool false, .slice none 0 0, .slice none 0 0] 110)))
    generalize W1.alloc (.cells #[.int .u64 0, .bool false, .slice none 0 0, .slice none 0 0] 110) = W2 at HB hHeld1 HA ⊢
    generalize W1.heap.size = g2 at HB GB HN ⊢
    clear hK K hHeld
    have hHeld := hHeld1
    clear hHeld1
    refine wpAnyH_ready (rs := [11]) (by kernel_rfl) (by simp) ?_
    refine AllReadyH.cons (o := _) rfl (fun K hK => ?_) AllReadyH.nil
    go_simp
    go_at_call 56
    refine (HC.out _ hHeld.2.1).mono ?_
    rintro e W3 ⟨x1, x3, y1, y3, rfl, ht, hb⟩
    have l14 := HA.out.lt
    have m14 := GA.out
    have l15 := HB.out.lt
    have m15 := GB.out
    have hz := hHeld.2.2
    have HT : Hid (Slk (fun b => ((w.heap.size ≤ b ∧ ¬ b = g1) ∧ ¬ b = g2)) ic W3 (.slice y1 nr y3) T) := hide (ht.imp (fun b hl k => by omega) (fun _ _ _ _ => rfl))
    clear hz ht l14 m14 l15 m15
    go_wp2_with fail
    refine hK.out _ _ ?_ (fun hHeld1 => ?_)
    ·exact hs_call HF.out hb hHeld
    replace HA := hide (HA.out.below hb)
    replace HB := hide (HB.out.below hb)
    clear hb
    clear hK K hHeld
    have hHeld := hHeld1
    clear hHeld1
    refine tk 12 9 (.tuple #[.agg #[.int .i64 A, .int .i64 C, .string OP, .int .i64 WH], .agg #[.int .u64 n, .bool f, .slice x1 nt x3, .slice y1 nr y3]]) rfl rfl hHeld ?_
    simp only [Act.put, zA, zB, zC]
    refine tk 13 22 (.agg #[.int .i64 A, .int .i64 C, .string OP, .int .i64 WH]) rfl rfl hHeld ?_
    simp only [Act.put, zA, zB, zC]
    refine tk 14 23 (.agg #[.int .u64 n, .bool f, .slice x1 nt x3, .slice y1 nr y3]) rfl rfl hHeld ?_
    simp only [Act.put, zA, zB, zC]
    obtain ⟨WZ, rfl⟩ : ∃ x : World, x = W3 := ⟨_, rfl⟩
   rotate_left 1
  rotate_left 2
  focus
   go_simp
   refine hK.out _ _ ?_ (fun hHeld1 => ?_)
   ·exact hs_alloc HF.out hHeld
   have HB := hide (B4.new W0 (.int .u64 0) (.bool false) (.slice none 0 0) (.slice none 0 0) 110)
   have GB : Hid (w.heap.size ≤ W0.heap.size) := hide hHeld.2.2
   generalize W0.alloc (.cells #[.int .u64 0, .bool false, .slice none 0 0, .slice none 0 0] 110) = W1 at HB hHeld1 ⊢
   generalize W0.heap.size = g2 at HB GB ⊢
   clear hK K hHeld
   have hHeld := hHeld1
   clear hHeld1
   refine wpAnyH_ready (rs := [11, 15]) (by kernel_rfl) (by simp) ?_
   refine AllReadyH.cons (o := _) rfl (fun K hK => ?_) (AllReadyH.cons (o := _) rfl (fun K hK => ?_) AllReadyH.nil)
   focus
    go_simp
    go_at_call 56
    refine (HC.out _ hHeld.2.1).mono ?_
    rintro e W2 ⟨x1, x3, y1, y3, rfl, ht, hb⟩
    have l15 := HB.out.lt
    have m15 := GB.out
    have hz := hHeld.2.2
    have HT : Hid (Slk (fun b => (w.heap.size ≤ b ∧ ¬ b = g2)) ic W2 (.slice y1 nr y3) T) := hide (ht.imp (fun b hl k => by omega) (fun _ _ _ _ => rfl))
    clear hz ht l15 m15
    go_wp2_with fail
    refine hK.out _ _ ?_ (fun hHeld1 => ?_)
    ·exact hs_call HF.out hb hHeld
    replace HB := hide (HB.out.below hb)
    clear hb
    clear hK K hHeld
    have hHeld := hHeld1
    clear hHeld1
    refine tk 12 9 (.tuple #[.agg #[.int .i64 A, .int .i64 C, .string OP, .int .i64 WH], .agg #[.int .u64 n, .bool f, .slice x1 nt x3, .slice y1 nr y3]]) rfl rfl hHeld ?_
    simp only [Act.put, zA, zB, zC]
    refine tk 13 22 (.agg #[.int .i64 A, .int .i64 C, .string OP, .int .i64 WH]) rfl rfl hHeld ?_
    simp only [Act.put, zA, zB, zC]
    refine tk 14 23 (.agg #[.int .u64 n, .bool f, .slice x1 nt x3, .slice y1 nr y3]) rfl rfl hHeld ?_
    simp only [Act.put, zA, zB, zC]
    refine wpAnyH_ready (rs := [15]) (by kernel_rfl) (by simp) ?_
    refine AllReadyH.cons (o := _) rfl (fun K hK => ?_) AllReadyH.nil
    go_simp
    refine hK.out _ _ ?_ (fun hHeld1 => ?_)
    ·exact hs_alloc HF.out hHeld
    have HA := hide (B4.new W2 (.int .i64 0) (.int .i64 0) (.string ⟨#[]⟩) (.int .i64 0) 66)
    have GA : Hid (w.heap.size ≤ W2.heap.size) := hide hHeld.2.2
    have HN : Hid (¬ g2 = W2.heap.size) := hide (by have := HB.out.lt; omega)
    replace HB := hide (HB.out.below ((Below.refl _ _).alloc (Nat.le_refl _) (.cells #[.int .i64 0, .int .i64 0, .string ⟨#[]⟩, .int .i64 0] 66)))
    replace HT := hide ((HT.out.off (Nat.le_refl W2.heap.size)).below ((Below.refl _ _).alloc (Nat.le_refl _) (.cells #[.int .i64 0, .int .i64 0, .string ⟨#[]⟩, .int .i64 0] 66)))
    generalize W2.alloc (.cells #[.int .i64 0, .int .i64 0, .string ⟨#[]⟩, .int .i64 0] 66) = W3 at HA hHeld1 HB HT ⊢
    generalize W2.heap.size = g1 at HA GA HN HT ⊢
    clear hK K hHeld
    have hHeld := hHeld1
    clear hHeld1
    replace HN := hide (fun e => HN.out (Eq.symm e))
    obtain ⟨WZ, rfl⟩ : ∃ x : World, x = W3 := ⟨_, rfl⟩
   rotate_left 1
   focus
    go_simp
    refine hK.out _ _ ?_ (fun hHeld1 => ?_)
    ·exact hs_alloc HF.out hHeld
    have HA := hide (B4.new W1 (.int .i64 0) (.int .i64 0) (.string ⟨#[]⟩) (.int .i64 0) 66)
    have GA : Hid (w.heap.size ≤ W1.heap.size) := hide hHeld.2.2
    have HN : Hid (¬ g2 = W1.heap.size) := hide (by have := HB.out.lt; omega)
    replace HB := hide (HB.out.below ((Below.refl _ _).alloc (Nat.le_refl _) (.cells #[.int .i64 0, .int .i64 0, .string ⟨#[]⟩, .int .i64 0] 66)))
    generalize W1.alloc (.cells #[.int .i64 0, .int .i64 0, .string ⟨#[]⟩, .int .i64 0] 66) = W2 at HA hHeld1 HB ⊢
    generalize W1.heap.size = g1 at HA GA HN ⊢
    clear hK K hHeld
    have hHeld := hHeld1
    clear hHeld1
    refine wpAnyH_ready (rs := [11]) (by kernel_rfl) (by simp) ?_
    refine AllReadyH.cons (o := _) rfl (fun K hK => ?_) AllReadyH.nil
    go_simp
    go_at_call 56
    refine (HC.out _ hHeld.2.1).mono ?_
    rintro e W3 ⟨x1, x3, y1, y3, rfl, ht, hb⟩
    have l15 := HB.out.lt
    have m15 := GB.out
    have l14 := HA.out.lt
    have m14 := GA.out
    have hz := hHeld.2.2
    have HT : Hid (Slk (fun b => ((w.heap.size ≤ b ∧ ¬ b = g2) ∧ ¬ b = g1)) ic W3 (.slice y1 nr y3) T) := hide (ht.imp (fun b hl k => by omega) (fun _ _ _ _ => rfl))
    clear hz ht l15 m15 l14 m14
    go_wp2_with fail
    refine hK.out _ _ ?_ (fun hHeld1 => ?_)
    ·exact hs_call HF.out hb hHeld
    replace HA := hide (HA.out.below hb)
    replace HB := hide (HB.out.below hb)
    clear hb
    clear hK K hHeld
    have hHeld := hHeld1
    clear hHeld1
    refine tk 12 9 (.tuple #[.agg #[.int .i64 A, .int .i64 C, .string OP, .int .i64 WH], .agg #[.int .u64 n, .bool f, .slice x1 nt x3, .slice y1 nr y3]]) rfl rfl hHeld ?_
    simp only [Act.put, zA, zB, zC]
    refine tk 13 22 (.agg #[.int .i64 A, .int .i64 C, .string OP, .int .i64 WH]) rfl rfl hHeld ?_
    simp only [Act.put, zA, zB, zC]
    refine tk 14 23 (.agg #[.int .u64 n, .bool f, .slice x1 nt x3, .slice y1 nr y3]) rfl rfl hHeld ?_
    simp only [Act.put, zA, zB, zC]
    replace HN := hide (fun e => HN.out (Eq.symm e))
    obtain ⟨WZ, rfl⟩ : ∃ x : World, x = W3 := ⟨_, rfl⟩
   rotate_left 1
  rotate_left 2
  all_goals
   refine wpAnyH_ready (rs := [17]) (by kernel_rfl) (by simp) ?_
   refine AllReadyH.cons (o := _) rfl (fun K hK => ?_) AllReadyH.nil
   have i0 := HA.out.c0
   have i1 := HA.out.c1
   have i2 := HA.out.c2
   have i3 := HA.out.c3
   have k0 := HA.out.fz 0
   have k1 := HA.out.fz 1
   have k2 := HA.out.fz 2
   have k3 := HA.out.fz 3
   go_simp
   clear i0 i1 i2 i3 k0 k1 k2 k3
   refine hK.out _ _ ?_ (fun hHeld1 => ?_)
   ·exact hs_set4 HF.out GA.out hHeld
   replace HA := hide (HA.out.set (.int .i64 A) (.int .i64 C) (.string OP) (.int .i64 WH))
   replace HB := hide (HB.out.other (k := g1) (fun e => HN.out (e.symm)) (.int .i64 A) (.int .i64 C) (.string OP) (.int .i64 WH))
   replace HT := hide (HT.out.set4 (g := g1) (fun b k => by omega) (.int .i64 A) (.int .i64 C) (.string OP) (.int .i64 WH))
   unfold set4 at HA HB
   generalize (((WZ.setCell ⟨g1, 0, none⟩ (.int .i64 A)).setCell ⟨g1, 1, none⟩ (.int .i64 C)).setCell ⟨g1, 2, none⟩ (.string OP)).setCell ⟨g1, 3, none⟩ (.int .i64 WH) = W7 at HA HB HT hHeld1 ⊢
   clear hK K hHeld
   have hHeld := hHeld1
   clear hHeld1
   refine wpAnyH_ready (rs := [18]) (by kernel_rfl) (by simp) ?_
   refine AllReadyH.cons (o := _) rfl (fun K hK => ?_) AllReadyH.nil
   have i0 := HB.out.c0
   have i1 := HB.out.c1
   have i2 := HB.out.c2
   have i3 := HB.out.c3
   have k0 := HB.out.fz 0
   have k1 := HB.out.fz 1
   have k2 := HB.out.fz 2
   have k3 := HB.out.fz 3
   go_simp
   clear i0 i1 i2 i3 k0 k1 k2 k3
   refine hK.out _ _ ?_ (fun hHeld1 => ?_)
   ·exact hs_set4 HF.out GB.out hHeld
   replace HB := hide (HB.out.set (.int .u64 n) (.bool f) (.slice x1 nt x3) (.slice y1 nr y3))
   replace HA := hide (HA.out.other (k := g2) (fun e => HN.out (e)) (.int .u64 n) (.bool f) (.slice x1 nt x3) (.slice y1 nr y3))
   replace HT := hide (HT.out.set4 (g := g2) (fun b k => by omega) (.int .u64 n) (.bool f) (.slice x1 nt x3) (.slice y1 nr y3))
   unfold set4 at HA HB
   generalize (((W7.setCell ⟨g2, 0, none⟩ (.int .u64 n)).setCell ⟨g2, 1, none⟩ (.bool f)).setCell ⟨g2, 2, none⟩ (.slice x1 nt x3)).setCell ⟨g2, 3, none⟩ (.slice y1 nr y3) = W8 at HA HB HT hHeld1 ⊢
   clear hK K hHeld
   have hHeld := hHeld1
   clear hHeld1
   refine wpAnyH_done (by kernel_rfl) ?_ _
   have HD := hide hHeld.2.1
   clear hHeld HF HC HS0
   go_wp2_with fail
   go_meet
   exact ⟨g1, g2, x1, x3, y1, y3, rfl, rfl, HA.out, HB.out, GA.out, GB.out, HD.out, HT.out.imp (fun b _ k => by omega) (fun _ _ _ _ => rfl)⟩
 case rest =>
  obtain ⟨g1, g2, x1, x3, y1, y3, rfl, rfl, hA, hB, h1, h2, hb, ht⟩ := hcut
  obtain ⟨i0, i1, i2, i3, _⟩ := hA
  obtain ⟨j0, j1, j2, j3, _⟩ := hB
  obtain ⟨e0, e1, e2, e3, e4⟩ := HF.out _ hb
  have f1 : wc.frozen? ⟨p, 1, none⟩ = false := (hb.frozen (p := ⟨p, 1, none⟩) hp).trans (hfz 1)
  have f2 : wc.frozen? ⟨p, 2, none⟩ = false := (hb.frozen (p := ⟨p, 2, none⟩) hp).trans (hfz 2)
  have f3 : wc.frozen? ⟨p, 3, none⟩ = false := (hb.frozen (p := ⟨p, 3, none⟩) hp).trans (hfz 3)
  have f4 : wc.frozen? ⟨p, 4, none⟩ = false := (hb.frozen (p := ⟨p, 4, none⟩) hp).trans (hfz 4)
  have hn2 : ¬ p = g2 := by omega
  have hn3 : ¬ g2 = p := by omega
  have HFZ : Hid (∀ i, wc.frozen? ⟨p, i, none⟩ = false) := hide (fun i => (hb.frozen (p := ⟨p, i, none⟩) hp).trans (hfz i))
  have HB := hide hb
  have HE := hide (And.intro e0 (And.intro e1 (And.intro e2 (And.intro e3 e4))))
  have HT := hide ht
  clear ht
  clear hfz hb h1 h2
  go_wp2_with fail
  go_ret
  exact ⟨y1, y3, rfl, HT.out.setp (fun b k => by omega) _ _ _ _, set_p HE.out, fun i => by simp [World.frozen?_setCell, HFZ.out], bx_p HB.out⟩
theorem cuflag_gs (p : Nat) (v : Value) (l : List Int) (s : Gs) (w0 w : World) (hr : CuG w p v s) (hv : Sl bc w0 v l) (hW : Below w0.heap.size w0 w) (hl : l.length ≤ 4000) (hby : Byt l) (hs : s.pt ≤ l.length) :
  Calls Tryz.prog 57 #[.pointer (some ⟨p, 0, none⟩)] w fun e w' => e = .returned (.bool (gF l s).2) ∧ CuG w' p v (gF l s).1 ∧ Bx p w w' := by
 have hp : p < w.heap.size := cell_block hr.c0
 have hF := fun W (h : Below w.heap.size w W) => (hr.below h).cells
 unfold gF
 by_cases hc : s.c = 0
 ·rw [if_pos hc]
  have hbad : (flagS (l.drop s.pt)).1 ≠ 0 → s.pt + (flagS (l.drop s.pt)).2.1 = s.pt := by
   unfold flagS
   split
   ·intro _; rfl
   ·split
    ·intro _; rfl
    ·intro q; exact absurd rfl q
  have hask : askS l s.pt 2 0 0 = ⟨(flagS (l.drop s.pt)).1, ⟨#[102, 108, 97, 103]⟩, s.pt, s.pt + (flagS (l.drop s.pt)).2.1, 0, (flagS (l.drop s.pt)).2.2, [], []⟩ := rfl
  rcases hq : flagS (l.drop s.pt) with ⟨c, k, f⟩
  rw [hq] at hbad hask
  simp only at hbad hask
  refine (cuflag_go p v s.pt s.c (whS s) (mkS c ⟨#[102, 108, 97, 103]⟩ (s.pt + k) s.pt).pt (mkS c ⟨#[102, 108, 97, 103]⟩ (s.pt + k) s.pt).c (whS (mkS c ⟨#[102, 108, 97, 103]⟩ (s.pt + k) s.pt)) 0 s.op (mkS c ⟨#[102, 108, 97, 103]⟩ (s.pt + k) s.pt).op f 0 0 w hp hr.fz hF (hide fun W h => ?_)).mono ?_
  ·have hcall := refRead_any v l s.pt 2 0 0 (whS s) s.op w0 W hv (hW.trans (h.mono hW.size)) hl hby hs (by decide) (by decide)
   rw [hask] at hcall
   simp only at hcall
   rw [st_gs c _ _ _ hbad] at hcall
   rw [hc]
   refine hcall.mono ?_
   rintro e w' ⟨vt, vr, rfl, h1, h2, h3⟩
   obtain ⟨x1, x3, rfl⟩ := h1.sl.form
   obtain ⟨y1, y3, rfl⟩ := h2.sl.form
   exact ⟨x1, x3, y1, y3, rfl, h3⟩
  ·rintro e w' ⟨rfl, ⟨a0, a1, a2, a3, a4⟩, h2, h3⟩
   exact ⟨rfl, ⟨a0, a1, a2, a3, a4, h2⟩, h3⟩
 ·rw [if_neg hc]
  refine (cuflag_go p v s.pt s.c (whS s) s.pt s.c (whS s) 0 s.op s.op false 0 0 w hp hr.fz hF (hide fun W h => ?_)).mono ?_
  ·refine (read_err v s.pt s.c (whS s) 2 0 0 s.op W (by simpa using hc)).mono ?_
   rintro e w' ⟨rfl, h3⟩
   exact ⟨_, _, _, _, rfl, h3⟩
  ·rintro e w' ⟨rfl, ⟨a0, a1, a2, a3, a4⟩, h2, h3⟩
   exact ⟨rfl, ⟨a0, a1, a2, a3, a4, h2⟩, h3⟩
theorem cutext_gs (p : Nat) (v : Value) (l : List Int) (s : Gs) (w0 w : World) (hr : CuG w p v s) (hv : Sl bc w0 v l) (hW : Below w0.heap.size w0 w) (hp0 : w0.heap.size ≤ p) (hl : l.length ≤ 4000) (hby : Byt l) (hs : s.pt ≤ l.length) :
  Calls Tryz.prog 24 #[.pointer (some ⟨p, 0, none⟩), .int .i64 256] w fun e w' => ∃ u, e = .returned u ∧ (convert 22 9 u).run Tryz.prog w' = .ok (.string ⟨((gT l s).2).toArray⟩) w' ∧ CuG w' p v (gT l s).1 ∧ Bx p w w' := by
 have hp : p < w.heap.size := cell_block hr.c0
 have hF := fun W (h : Below w.heap.size w W) => (hr.below h).cells
 unfold gT
 by_cases hc : s.c = 0
 ·rw [if_pos hc]
  have hbad : (textS l s.pt 256).1 ≠ 0 → (textS l s.pt 256).2.2.1 = s.pt := by
   unfold textS
   simp only
   split
   ·split
    ·intro _; rfl
    ·intro q; exact absurd rfl q
   ·intro _; rfl
  have hask : askS l s.pt 3 256 0 = ⟨(textS l s.pt 256).1, (textS l s.pt 256).2.1, s.pt, (textS l s.pt 256).2.2.1, 0, false, (textS l s.pt 256).2.2.2, []⟩ := rfl
  have hbt := textS_byt l s.pt 256 hby
  rcases hq : textS l s.pt 256 with ⟨c, op, k, T⟩
  rw [hq] at hbad hask hbt
  simp only at hbad hask hbt
  refine (cutext_go p v s.pt s.c (whS s) (mkS c op k s.pt).pt (mkS c op k s.pt).c (whS (mkS c op k s.pt)) 0 256 s.op (mkS c op k s.pt).op false T.length 0 w hp hr.fz w0.heap.size hp0 T hF (hide fun W h => ?_)).mono ?_
  ·have hcall := refRead_any v l s.pt 3 256 0 (whS s) s.op w0 W hv (hW.trans (h.mono hW.size)) hl hby hs (by decide) (by decide)
   rw [hask] at hcall
   simp only at hcall
   rw [st_gs c _ _ _ hbad] at hcall
   rw [hc]
   refine hcall.mono ?_
   rintro e w' ⟨vt, vr, rfl, h1, h2, h3⟩
   have h4 := h1.slk
   obtain ⟨x1, x3, rfl⟩ := h1.sl.form
   obtain ⟨y1, y3, rfl⟩ := h2.sl.form
   exact ⟨x1, x3, y1, y3, rfl, h4, h3⟩
  ·rintro e w' ⟨z1, z3, rfl, h1, ⟨a0, a1, a2, a3, a4⟩, h2, h3⟩
   exact ⟨_, rfl, str_of h1.sl hbt, ⟨a0, a1, a2, a3, a4, h2⟩, h3⟩
 ·rw [if_neg hc]
  refine (cutext_go p v s.pt s.c (whS s) s.pt s.c (whS s) 0 256 s.op s.op false 0 0 w hp hr.fz w0.heap.size hp0 [] hF (hide fun W h => ?_)).mono ?_
  ·refine (read_err v s.pt s.c (whS s) 3 256 0 s.op W (by simpa using hc)).mono ?_
   rintro e w' ⟨rfl, h3⟩
   exact ⟨_, _, _, _, rfl, .inl ⟨_, _, rfl, rfl⟩, h3⟩
  ·rintro e w' ⟨z1, z3, rfl, h1, ⟨a0, a1, a2, a3, a4⟩, h2, h3⟩
   exact ⟨_, rfl, str_of (Sl.nil _ _ _ _) (fun x hx => by simp at hx), ⟨a0, a1, a2, a3, a4, h2⟩, h3⟩
theorem curow_gs (p : Nat) (v : Value) (l : List Int) (s : Gs) (w0 w : World) (hr : CuG w p v s) (hv : Sl bc w0 v l) (hW : Below w0.heap.size w0 w) (hl : l.length ≤ 4000) (hby : Byt l) (hs : s.pt ≤ l.length) :
  Calls Tryz.prog 115 #[.pointer (some ⟨p, 0, none⟩), .int .i64 7, .int .i64 64] w fun e w' => ∃ u, e = .returned u ∧ Sli (fun b => w.heap.size ≤ b) w' u (gR l s).2 ∧ CuG w' p v (gR l s).1 ∧ Bx p w w' := by
 have hp : p < w.heap.size := cell_block hr.c0
 have hF := fun W (h : Below w.heap.size w W) => (hr.below h).cells
 have sli : ∀ {W : World} {u : Value} {T : List Int}, Slk (fun b => w.heap.size ≤ b) ic W u T → Sli (fun b => w.heap.size ≤ b) W u T := fun h => by
  rcases h with h | ⟨b, o, cap, h1, h2, h3, _, h5⟩
  ·exact .inl h
  ·exact .inr ⟨b, o, cap, h1, h2, h3, h5⟩
 unfold gR
 by_cases hc : s.c = 0
 ·rw [if_pos hc]
  have hask : askS l s.pt 4 7 64 = ⟨(rowS l s.pt 7 64).1, ⟨#[110, 117, 109]⟩, (rowS l s.pt 7 64).2.1, (rowS l s.pt 7 64).2.1, 0, false, [], rowR (rowS l s.pt 7 64)⟩ := rfl
  generalize rowR (rowS l s.pt 7 64) = T at hask ⊢
  generalize (rowS l s.pt 7 64).1 = c at hask ⊢
  generalize (rowS l s.pt 7 64).2.1 = k at hask ⊢
  refine (curow_go p v s.pt s.c (whS s) (mkS c ⟨#[110, 117, 109]⟩ k k).pt (mkS c ⟨#[110, 117, 109]⟩ k k).c (whS (mkS c ⟨#[110, 117, 109]⟩ k k)) 0 7 64 s.op (mkS c ⟨#[110, 117, 109]⟩ k k).op false 0 T.length w hp hr.fz T hF (hide fun W h => ?_)).mono ?_
  ·have hcall := refRead_any v l s.pt 4 7 64 (whS s) s.op w0 W hv (hW.trans (h.mono hW.size)) hl hby hs (by decide) (by decide)
   rw [hask] at hcall
   simp only at hcall
   rw [st_gs c _ _ _ (fun _ => rfl)] at hcall
   rw [hc]
   refine hcall.mono ?_
   rintro e w' ⟨vt, vr, rfl, h1, h2, h3⟩
   have h4 : Slk (fun b => W.heap.size ≤ b) ic w' vr T := h2.slk.imp (fun b _ q => by omega) (fun _ _ _ _ => rfl)
   obtain ⟨x1, x3, rfl⟩ := h1.sl.form
   obtain ⟨y1, y3, rfl⟩ := h2.sl.form
   exact ⟨x1, x3, y1, y3, rfl, h4, h3⟩
  ·rintro e w' ⟨z1, z3, rfl, h1, ⟨a0, a1, a2, a3, a4⟩, h2, h3⟩
   exact ⟨_, rfl, sli h1, ⟨a0, a1, a2, a3, a4, h2⟩, h3⟩
 ·rw [if_neg hc]
  refine (curow_go p v s.pt s.c (whS s) s.pt s.c (whS s) 0 7 64 s.op s.op false 0 0 w hp hr.fz [] hF (hide fun W h => ?_)).mono ?_
  ·refine (read_err v s.pt s.c (whS s) 4 7 64 s.op W (by simpa using hc)).mono ?_
   rintro e w' ⟨rfl, h3⟩
   exact ⟨_, _, _, _, rfl, .inl ⟨_, _, rfl, rfl⟩, h3⟩
  ·rintro e w' ⟨z1, z3, rfl, h1, ⟨a0, a1, a2, a3, a4⟩, h2, h3⟩
   exact ⟨_, rfl, sli h1, ⟨a0, a1, a2, a3, a4, h2⟩, h3⟩
theorem cusome_gs (p : Nat) (v : Value) (l : List Int) (asks : Bool) (s : Gs) (w0 w : World) (hr : CuG w p v s) (hv : Sl bc w0 v l) (hW : Below w0.heap.size w0 w) (hl : l.length ≤ 4000) (hby : Byt l) (hs : s.pt ≤ l.length) :
  Calls Tryz.prog 90 #[.pointer (some ⟨p, 0, none⟩), .bool asks] w fun e w' => e = .returned (.int .i64 (if asks then (gN 1073741824 l s).2 else 0)) ∧ CuG w' p v (if asks then (gN 1073741824 l s).1 else s) ∧ Bx p w w' := by
 have HC := hide (cuint_gs p v l 1073741824 s w0 w hr hv hW hl hby hs (by decide) (by decide))
 have HR := hide hr
 generalize gN 1073741824 l s = G at *
 clear hr hv hW
 cases asks with
 | true =>
  go_enter Tryz.func90, Tryz.ntmps90
  go_wp2_with (first | (go_at_call 20; refine HC.out.mono ?_; rintro e w1 ⟨rfl, h1, h2⟩; have H1 := hide h1; have H2 := hide h2; clear h1 h2))
  go_ret
  exact ⟨rfl, by simpa using H1.out, H2.out⟩
 | false =>
  go_enter Tryz.func90, Tryz.ntmps90
  go_wp2_with fail
  go_ret
  exact ⟨rfl, by simpa using HR.out, Bx.refl _ _⟩
theorem cubrok_gs (p : Nat) (v : Value) (l : List Int) (asks : Bool) (s : Gs) (w0 w : World) (hr : CuG w p v s) (hv : Sl bc w0 v l) (hW : Below w0.heap.size w0 w) (hl : l.length ≤ 4000) (hby : Byt l) (hs : s.pt ≤ l.length) :
  Calls Tryz.prog 93 #[.pointer (some ⟨p, 0, none⟩), .bool asks] w fun e w' => ∃ u, e = .returned u ∧ Sli (fun b => w.heap.size ≤ b) w' u (if asks then (gR l s).2 else []) ∧ CuG w' p v (if asks then (gR l s).1 else s) ∧ Bx p w w' := by
 have HC := hide (curow_gs p v l s w0 w hr hv hW hl hby hs)
 have HR := hide hr
 generalize gR l s = G at *
 clear hr hv hW
 cases asks with
 | true =>
  go_enter Tryz.func93, Tryz.ntmps93
  go_wp2_with (first | (go_at_call 115; refine HC.out.mono ?_; rintro e w1 ⟨u, rfl, h0, h1, h2⟩; have H0 := hide h0; have H1 := hide h1; have H2 := hide h2; clear h0 h1 h2))
  go_ret
  exact ⟨_, rfl, by simpa using H0.out, by simpa using H1.out, H2.out⟩
 | false =>
  go_enter Tryz.func93, Tryz.ntmps93
  go_wp2_with fail
  go_ret
  exact ⟨_, rfl, Sli.nil _ _ _ _, by simpa using HR.out, Bx.refl _ _⟩
set_option maxRecDepth 100000 in
theorem cuword_gs (p : Nat) (v : Value) (l : List Int) (asks : Bool) (s : Gs) (w0 w : World) (hr : CuG w p v s) (hv : Sl bc w0 v l) (hW : Below w0.heap.size w0 w) (hp0 : w0.heap.size ≤ p) (hl : l.length ≤ 4000) (hby : Byt l) (hs : s.pt ≤ l.length) :
  Calls Tryz.prog 92 #[.pointer (some ⟨p, 0, none⟩), .bool asks] w fun e w' => e = .returned (.string ⟨(if asks then (gT l s).2 else []).toArray⟩) ∧ CuG w' p v (if asks then (gT l s).1 else s) ∧ Bx p w w' := by
 have HC := hide (cutext_gs p v l s w0 w hr hv hW hp0 hl hby hs)
 have HR := hide hr
 generalize gT l s = G at *
 clear hr hv hW
 cases asks with
 | true =>
  go_enter Tryz.func92, Tryz.ntmps92
  go_wp2_with (first | (go_at_call 24; refine HC.out.mono ?_; rintro e w1 ⟨u, rfl, h0, h1, h2⟩; have H1 := hide h1; have H2 := hide h2; clear h1 h2))
  go_ret
  exact ⟨rfl, by simpa using H1.out, H2.out⟩
 | false =>
  go_enter Tryz.func92, Tryz.ntmps92
  go_wp2_with fail
  go_ret
  exact ⟨rfl, by simpa using HR.out, Bx.refl _ _⟩
end Go.Proofs.YtjjpfajbljbelaaGreatDoor
