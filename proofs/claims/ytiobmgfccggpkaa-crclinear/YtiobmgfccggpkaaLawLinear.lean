/-
  THE WALK OF CrcLinear: true at any three texts. No condition.
-/
import Derived.Test.YtiobmgfccggpkaaCrcWorks
namespace Go.Proofs.Ytiobmgfccggpkaa
open Go.RowKit

theorem Sl.some_at {α : Type} {f : α → Value} {w : World} {ao : Option Addr} {L cap : Nat} {l : List α} (h : Sl f w (.slice ao L cap) l) (hl : 0 < l.length) : ∃ b o, ao = some ⟨b, o, none⟩ ∧ l.length ≤ cap ∧ ∀ i (h : i < l.length), w.cell? ⟨b, o + i, none⟩ = some (f l[i]) := by
  rcases h with ⟨_, _, rfl, _⟩ | ⟨b, o, c, h1, h2, h3⟩
  · simp at hl
  · cases h1
    exact ⟨b, o, rfl, h2, h3⟩
theorem slice_to_any (v : Value) (b : List Int) (n : Nat) (w : World) (hv : Sl bc w v b) (hn : n ≤ b.length) :
    ∃ u, (∀ W, (Instr.slice 22 v none (some (.int .i64 (n : Int))) none).run Try.prog W = .ok u W) ∧ ∀ W, Sl bc W v b → Sl bc W u (b.take n) := by
  by_cases h0 : 0 < b.length
  · obtain ⟨ao, cap, rfl⟩ := hv.form
    obtain ⟨g, o, rfl, hc, _⟩ := hv.some_at h0
    refine ⟨_, slice_to g o b.length cap n (by omega), fun W hW => ?_⟩
    obtain ⟨g', o', h1, h2, h3⟩ := hW.some_at h0
    cases h1
    refine .inr ⟨g, o, cap, by rw [List.length_take, Nat.min_eq_left hn], by rw [List.length_take]; omega, cell_take n h3⟩
  · obtain rfl : b = [] := List.length_eq_zero_iff.1 (by omega)
    obtain rfl : n = 0 := by simpa using hn
    obtain ⟨ao, cap, rfl⟩ := hv.form
    refine ⟨.slice ao 0 cap, fun W => ?_, fun W _ => Sl.nil _ _ _ _⟩
    simp [Instr.slice, go_sem]
theorem crcL_three {a b c : List Int} (ha : Byt a) (hb : Byt b) (hc : Byt c) (h1 : a.length = b.length) (h2 : a.length = c.length) (hz : Byt (zx (zx a b) c)) : crcL (zx (zx a b) c) = crcL a ^^^ crcL b ^^^ crcL c := by
  rw [crcL_eq ha, crcL_eq hb, crcL_eq hc, crcL_eq hz]
  have e1 : crF 4294967295 (zx (zx a b) c) = crF 0 (zx a b) ^^^ crF 4294967295 c := by
    have := crF_zx 0 4294967295 (zx a b) c (by simp [zx]; omega)
    rwa [Nat.zero_xor] at this
  have e2 : crF 0 (zx a b) = crF 4294967295 a ^^^ crF 4294967295 b := by
    have := crF_zx 4294967295 4294967295 a b h1
    rwa [Nat.xor_self] at this
  rw [e1, e2]
  generalize crF 4294967295 a = A
  generalize crF 4294967295 b = B
  generalize crF 4294967295 c = C
  refine Nat.eq_of_testBit_eq fun i => ?_
  simp only [Nat.testBit_xor]
  cases A.testBit i <;> cases B.testBit i <;> cases C.testBit i <;> cases (4294967295 : Nat).testBit i <;> rfl
theorem zx_len (a b : List Int) (h : a.length = b.length) : (zx a b).length = a.length := by simp [zx, h]
theorem zx_byt {a b : List Int} (ha : Byt a) (hb : Byt b) : Byt (zx a b) := by
  intro x hx
  unfold zx at hx
  obtain ⟨i, hi, rfl⟩ := List.mem_iff_getElem.1 hx
  rw [List.getElem_zipWith]
  simp only [List.length_zipWith] at hi
  have h1 := ha _ (List.getElem_mem (show i < a.length by omega))
  have h2 := hb _ (List.getElem_mem (show i < b.length by omega))
  have : a[i].toNat ^^^ b[i].toNat < 256 := Nat.xor_lt_two_pow (n := 8) (by omega) (by omega)
  omega
theorem hs_put {F : World → Prop} {N : Nat} {w0 W W' : World} (hF : ∀ W, Below N w0 W → F W) (hb : Below N W W') (h : F W ∧ Below N w0 W ∧ N ≤ W.heap.size) : F W' ∧ Below N w0 W' ∧ N ≤ W'.heap.size :=
  have k := h.2.1.trans hb
  ⟨hF _ k, k, Nat.le_trans h.2.2 hb.size⟩
/-- An append as one step of a region that draws. -/
theorem step_append_rw {ops : Array Oper} {o : Oper} {a : Act} {w : World} {K : Act → World → Prop} {Q : Exit → Act → World → Prop} {E : Prop} (hg : o.guard = none) (s x : Operand)
    (ho : o.op = .call { callee := .builtin .append, args := #[s, x], argTypes := #[22, 22] }) (B : Nat) (v : Value) (n : Nat) (cur : List Value) (hs : a.eval s = v) (hr : Rw B w v n cur) (hB : B ≤ w.heap.size) (ad : Addr) (m c : Nat) (news : List Value)
    (hx : a.eval x = .slice (some ad) m c) (hl : news.length = m) (hm : 0 < m) (hnews : ∀ j u, news[j]? = some u → w.cell? (ad.add j) = some u) (h1 : ∀ u ∈ news, u.oneCell' = true) (hn : n + m ≤ 1000000)
    (h : ∀ w' v' cur', Put B w v n cur w' v' m cur' news → K (a.put o.dst v') w') : if Region.wanted o (yielded ops a.tmps) = true then Oper.wp Try.prog o a w K Q else E := by
  have hw : Region.wanted o (yielded ops a.tmps) = true := by simp [Region.wanted, hg]
  rw [if_pos hw]
  obtain ⟨w', v', cur', hrun, hp⟩ := run_append_rw w o.type B v n cur hr hB ad m c news hl hm hnews h1 hn
  unfold Oper.wp
  simp [execOp, ho, resolve, invoke, builtin, hs, hx, hrun, Result.andThen]
  exact h w' v' cur' hp
theorem xor_8 {x y : Int} (h0 : 0 ≤ x) (h1 : x ≤ 255) (h2 : 0 ≤ y) (h3 : y ≤ 255) : bits .xor .u8 x y = ((x.toNat ^^^ y.toNat : Nat) : Int) := u8_xor x y h0 (by omega) h2 (by omega)
theorem zx3_next (a b c : List Int) (j : Nat) (ha : j < a.length) (hb : j < b.length) (hc : j < c.length) : (zx (zx a b) c).take (j + 1) = (zx (zx a b) c).take j ++ [(((((a[j].toNat ^^^ b[j].toNat : Nat) : Int).toNat ^^^ c[j].toNat : Nat)) : Int)] := by
  have h : j < (zx (zx a b) c).length := by simp [zx]; omega
  rw [List.take_succ_eq_append_getElem h]
  congr 2
  simp [zx]
set_option maxRecDepth 100000 in
set_option maxHeartbeats 8000000 in
theorem linear_few (ao bo co : Option Addr) (ca cb cc : Nat) (a b c : List Int) (w : World) (ha : Sl bc w (.slice ao a.length ca) a) (hb : Sl bc w (.slice bo b.length cb) b) (hc : Sl bc w (.slice co c.length cc) c) (ba : Byt a) (bb : Byt b) (bC : Byt c) (h1 : ¬ (400 : Int) < (a.length : Int)) (h2 : ¬ (b.length : Int) < (a.length : Int)) (h3 : ¬ (c.length : Int) < (a.length : Int)) :
    Calls Try.prog 7 #[.slice ao a.length ca, .slice bo b.length cb, .slice co c.length cc] w fun e w' => e = .returned (.bool true) ∧ Below w.heap.size w w' := by
  have HW := hide works_any
  have HA := hide ha
  have HB := hide hb
  have HC := hide hc
  have BA := hide ba
  have BB := hide bb
  have BC := hide bC
  obtain ⟨ub, hub, hub2⟩ := slice_to_any _ b a.length w hb (by omega)
  obtain ⟨uc, huc, huc2⟩ := slice_to_any _ c a.length w hc (by omega)
  have HUB := hide hub2
  have HUC := hide huc2
  have lb : a.length = (b.take a.length).length := by rw [List.length_take]; omega
  have lc : a.length = (c.take a.length).length := by rw [List.length_take]; omega
  have bB : Byt (b.take a.length) := fun x hx => bb x (List.mem_of_mem_take hx)
  have bD : Byt (c.take a.length) := fun x hx => bC x (List.mem_of_mem_take hx)
  have HZ := hide (zx_byt (zx_byt ba bB) bD)
  have HX := hide (crcL_three ba bB bD lb lc HZ.out)
  have hZl : (zx (zx a (b.take a.length)) (c.take a.length)).length = a.length := by rw [zx_len _ _ (by rw [zx_len _ _ lb]; omega), zx_len _ _ lb]
  have HN : Hid (∀ j (h : j < a.length), ∃ x y z, x = a[j] ∧ (∃ h, y = b[j]'h) ∧ (∃ h, z = c[j]'h) ∧ (zx (zx a (b.take a.length)) (c.take a.length)).take (j + 1) = (zx (zx a (b.take a.length)) (c.take a.length)).take j ++ [(((((x.toNat ^^^ y.toNat : Nat) : Int).toNat ^^^ z.toNat : Nat)) : Int)]) := hide (fun j h => by
    refine ⟨_, _, _, rfl, ⟨by omega, rfl⟩, ⟨by omega, rfl⟩, ?_⟩
    rw [zx3_next a (b.take a.length) (c.take a.length) j h (by omega) (by omega), List.getElem_take, List.getElem_take])
  have HBB := hide bB
  have HBD := hide bD
  clear ha hb hc ba bb bC hub2 huc2 bB bD lb lc
  generalize zx (zx a (b.take a.length)) (c.take a.length) = Z at *
  go_enter Try.func7, Try.ntmps7
  go_wp2_with fail
  go_loopw [7, 8] (fun u i wr => ∃ j : Nat, j ≤ a.length ∧ i = .int .i64 j ∧ ∃ cur, Put w.heap.size w (.slice none 0 0) 0 [] wr u j cur (bv (Z.take j))) (fun _ i _ => a.length - (intOf i).toNat)
  case atStart => exact ⟨0, Nat.zero_le _, rfl, [], by simpa using Put.idle (rw_nil _ _)⟩
  case round =>
    obtain ⟨j, hj, rfl, cur, hp⟩ := hrel
    have HP := hide hp
    clear hp
    by_cases hlt : j < a.length
    · obtain ⟨ga, oa, rfl, _, ca3⟩ := HA.out.some_at (by omega)
      obtain ⟨gb', ob, rfl, _, cb3⟩ := HB.out.some_at (by omega)
      obtain ⟨gc, oc, rfl, _, cc3⟩ := HC.out.some_at (by omega)
      obtain ⟨x, y, z, rfl, ⟨hjb, rfl⟩, ⟨hjc, rfl⟩, hnx⟩ := HN.out j hlt
      have ea := ca3 j hlt
      have eb := cb3 j hjb
      have ec := cc3 j hjc
      have xa := BA.out _ (List.getElem_mem hlt)
      have xb := BB.out _ (List.getElem_mem hjb)
      have xc := BC.out _ (List.getElem_mem hjc)
      generalize a[j] = x at *
      generalize b[j] = y at *
      generalize c[j] = z at *
      have hxy : x.toNat ^^^ y.toNat < 256 := Nat.xor_lt_two_pow (n := 8) (by omega) (by omega)
      have q1 := xor_8 xa.1 xa.2 xb.1 xb.2
      have q2 := xor_8 (x := ((x.toNat ^^^ y.toNat : Nat) : Int)) (by omega) (by omega) xc.1 xc.2
      generalize (((x.toNat ^^^ y.toNat : Nat) : Int).toNat ^^^ z.toNat) = t at *
      generalize x.toNat ^^^ y.toNat = s at *
      have HNX := hide hnx
      have HF : Hid (∀ W, Below w.heap.size w W → (W.cell? ⟨ga, oa + j, none⟩ = some (.int .u8 x) ∧ W.cell? ⟨gb', ob + j, none⟩ = some (.int .u8 y) ∧ W.cell? ⟨gc, oc + j, none⟩ = some (.int .u8 z))) := hide (fun W h => ⟨(h.cell (p := ⟨ga, oa + j, none⟩) (cell_block ea)).trans ea, (h.cell (p := ⟨gb', ob + j, none⟩) (cell_block eb)).trans eb, (h.cell (p := ⟨gc, oc + j, none⟩) (cell_block ec)).trans ec⟩)
      have hS0 : (wr.drew.cell? ⟨ga, oa + j, none⟩ = some (.int .u8 x) ∧ wr.drew.cell? ⟨gb', ob + j, none⟩ = some (.int .u8 y) ∧ wr.drew.cell? ⟨gc, oc + j, none⟩ = some (.int .u8 z)) ∧ Below w.heap.size w wr.drew ∧ w.heap.size ≤ wr.drew.heap.size := ⟨HF.out _ HP.out.below.drew, HP.out.below.drew, HP.out.below.drew.size⟩
      have HS0 := hide hS0
      have hS1 := HP.out.below.alloc HP.out.below.size (.cells #[.int .u8 (t : Int)] 5)
      have HS1 := hide (show ((wr.alloc (.cells #[.int .u8 (t : Int)] 5)).drew.cell? ⟨ga, oa + j, none⟩ = some (.int .u8 x) ∧ (wr.alloc (.cells #[.int .u8 (t : Int)] 5)).drew.cell? ⟨gb', ob + j, none⟩ = some (.int .u8 y) ∧ (wr.alloc (.cells #[.int .u8 (t : Int)] 5)).drew.cell? ⟨gc, oc + j, none⟩ = some (.int .u8 z)) ∧ Below w.heap.size w (wr.alloc (.cells #[.int .u8 (t : Int)] 5)).drew ∧ w.heap.size ≤ (wr.alloc (.cells #[.int .u8 (t : Int)] 5)).drew.heap.size from ⟨HF.out _ hS1.drew, hS1.drew, hS1.drew.size⟩)
      have HBn := hide (show Below wr.heap.size wr (wr.alloc (.cells #[.int .u8 (t : Int)] 5)).drew from ((Below.refl _ _).alloc (Nat.le_refl _) _).drew)
      have hlt' : (j : Int) < (a.length : Int) := by omega
      have hjb' : (j : Int) < (b.length : Int) := by omega
      have hjc' : (j : Int) < (c.length : Int) := by omega
      clear ca3 cb3 cc3 ea eb ec hnx hS0 hS1
      go_wp2_with fail
      go_region_held3 (fun W => (W.cell? ⟨ga, oa + j, none⟩ = some (.int .u8 x) ∧ W.cell? ⟨gb', ob + j, none⟩ = some (.int .u8 y) ∧ W.cell? ⟨gc, oc + j, none⟩ = some (.int .u8 z)) ∧ Below w.heap.size w W ∧ w.heap.size ≤ W.heap.size)
        (first | with_reducible assumption | with_reducible exact HS0.out | with_reducible exact HS1.out | with_reducible exact hs_put (F := fun W => W.cell? ⟨ga, oa + j, none⟩ = some (.int .u8 x) ∧ W.cell? ⟨gb', ob + j, none⟩ = some (.int .u8 y) ∧ W.cell? ⟨gc, oc + j, none⟩ = some (.int .u8 z)) HF.out (by assumption) (by assumption))
        (first
          | (refine step_append_rw rfl _ _ rfl w.heap.size _ j cur rfl (by have h := HP.out.rw.below HBn.out; rw [Nat.zero_add] at h; exact h) (HS1.out.2.2) ⟨wr.heap.size, 0, none⟩ 1 1 [.int .u8 (t : Int)] rfl rfl (by omega) (fun j u h => cells_at wr [.int .u8 (t : Int)] 5 j u h) (one_bytes [(t : Int)]) (by omega) ?_; intro w1 v1 cur1 hp1; have hpb := hp1.below))
      have hp2 := hp1.pre HP.out.below.size HBn.out
      have hp3 : Put w.heap.size wr u7 (0 + j) cur w1 v1 1 cur1 [.int .u8 (t : Int)] := by rw [Nat.zero_add]; exact hp2
      have HQ := hide (HP.out.trans hp3)
      clear hpb hp1 hp2 hp3
      go_wp2_with fail
      refine ⟨⟨j + 1, by omega, by go_num, cur1, ?_⟩, by simp [intOf]; omega⟩
      rw [HNX.out, show bv (Z.take j ++ [(t : Int)]) = bv (Z.take j) ++ [.int .u8 (t : Int)] by simp [bv]]
      exact HQ.out
    · obtain rfl : j = a.length := by omega
      have hown := HP.out.rw.owns
      rw [HP.out.tk] at hown
      have hzt : Z.take a.length = Z := List.take_of_length_le (by omega)
      rw [hzt] at hown
      have HSZ : Hid (Sl bc wr u7 Z) := hide (sl_of_owns (base := w.heap.size) (e := 5) (by rw [hZl]; simpa [bv_eq] using hown))
      have HBW := hide HP.out.below
      clear hown hzt
      have H1 := hide (fun W (h : Below wr.heap.size wr W) => sum_any _ Z W (HSZ.out.below h) (by omega) HZ.out)
      have H2 := hide (fun W (h : Below wr.heap.size wr W) => sum_any _ a W ((HA.out.below HBW.out).below h) (by omega) BA.out)
      have H3 := hide (fun W (h : Below wr.heap.size wr W) => sum_any _ _ W (HUB.out W ((HB.out.below HBW.out).below h)) (by rw [List.length_take]; omega) HBB.out)
      have H4 := hide (fun W (h : Below wr.heap.size wr W) => sum_any _ _ W (HUC.out W ((HC.out.below HBW.out).below h)) (by rw [List.length_take]; omega) HBD.out)
      have s1 := crcL_lt a
      have s2 := crcL_lt (b.take a.length)
      have s3 := crcL_lt (c.take a.length)
      have HXX := hide HX.out
      generalize crcL Z = S0 at *
      generalize crcL a = S1 at *
      generalize crcL (b.take a.length) = S2 at *
      generalize crcL (c.take a.length) = S3 at *
      have s12 : S1 ^^^ S2 < 4294967296 := Nat.xor_lt_two_pow (n := 32) s1 s2
      have x1 := u32_xor_nat S1 S2 s1 s2
      have x2 := u32_xor_nat (S1 ^^^ S2) S3 s12 s3
      rw [← HXX.out] at x2
      generalize S1 ^^^ S2 = S12 at *
      have HF : Hid (∀ W, Below wr.heap.size wr W → True) := hide (fun _ _ => trivial)
      have HS0 := hide (hs_drew (F := fun _ => True) HF.out (Nat.le_refl _))
      clear HA HB HC BA BB BC HN HP HX HXX HUB HUC
      go_wp2_with fail
      go_region_held3 (fun W => True ∧ Below wr.heap.size wr W ∧ wr.heap.size ≤ W.heap.size)
        (first | with_reducible assumption | with_reducible exact hs_call (F := fun _ => True) HF.out (by assumption) (by assumption) | with_reducible exact HS0.out)
        (first
          | (go_at_call 9; refine (H1.out _ ?_).mono ?_; exact And.left (And.right (by assumption)); rintro e w' ⟨rfl, hb⟩)
          | (go_at_call 9; refine (H2.out _ ?_).mono ?_; exact And.left (And.right (by assumption)); rintro e w' ⟨rfl, hb⟩)
          | (go_at_call 9; refine (H3.out _ ?_).mono ?_; exact And.left (And.right (by assumption)); rintro e w' ⟨rfl, hb⟩)
          | (go_at_call 9; refine (H4.out _ ?_).mono ?_; exact And.left (And.right (by assumption)); rintro e w' ⟨rfl, hb⟩)
          | (go_at_call 8; refine (HW.out _).mono ?_; rintro e w' ⟨rfl, hb⟩))
      have hfin : Below wr.heap.size wr w' := And.left (And.right (by assumption))
      have HFI := hide (bt HBW.out hfin)
      clear hfin
      go_wp2_with fail
      go_ret
      exact ⟨rfl, HFI.out⟩
set_option maxRecDepth 100000 in
set_option maxHeartbeats 4000000 in
theorem linear_any (va vb vc : Value) (a b c : List Int) (w : World) (ha : Sl bc w va a) (hb : Sl bc w vb b) (hc : Sl bc w vc c) (ba : Byt a) (bb : Byt b) (bC : Byt c) : Calls Try.prog 7 #[va, vb, vc] w fun e w' => e = .returned (.bool true) ∧ Below w.heap.size w w' := by
  obtain ⟨ao, ca, rfl⟩ := ha.form
  obtain ⟨bo, cb, rfl⟩ := hb.form
  obtain ⟨co, cc, rfl⟩ := hc.form
  by_cases h1 : (400 : Int) < (a.length : Int)
  · have HW := hide works_any
    clear ha hb hc ba bb bC
    go_enter Try.func7, Try.ntmps7
    go_wp2_with fail
    refine (HW.out _).mono ?_
    rintro e w1 ⟨rfl, hb1⟩
    go_wp2_with fail
    go_ret
    exact ⟨rfl, hb1⟩
  · by_cases h2 : (b.length : Int) < (a.length : Int)
    · have HW := hide works_any
      clear ha hb hc ba bb bC
      go_enter Try.func7, Try.ntmps7
      go_wp2_with fail
      refine (HW.out _).mono ?_
      rintro e w1 ⟨rfl, hb1⟩
      go_wp2_with fail
      go_ret
      exact ⟨rfl, hb1⟩
    · by_cases h3 : (c.length : Int) < (a.length : Int)
      · have HW := hide works_any
        clear ha hb hc ba bb bC
        go_enter Try.func7, Try.ntmps7
        go_wp2_with fail
        refine (HW.out _).mono ?_
        rintro e w1 ⟨rfl, hb1⟩
        go_wp2_with fail
        go_ret
        exact ⟨rfl, hb1⟩
      · exact linear_few ao bo co ca cb cc a b c w ha hb hc ba bb bC h1 h2 h3
end Go.Proofs.Ytiobmgfccggpkaa
