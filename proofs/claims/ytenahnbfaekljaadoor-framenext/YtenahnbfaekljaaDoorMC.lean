/-
  THE SUM OF BYTES BEHIND A SUM, BY HALF BYTES OF A TABLE (crc.More): the remainder from that sum on, a fold over the bytes. Conditions: the bytes' cells hold them, no more than a hundred thousand.
  THE SUM OF BYTES, AND FOUR BYTES AS A NUMBER (crc.More, Sum, number): what the document says of them. Conditions: the bytes' cells hold them, no more than a hundred thousand.
  BYTES WITH THEIR SUM BEHIND, AND A COPY OF BYTES (crc.Put, bytes.Clone): what the document says of them, in new memory. Conditions: the bytes' cells hold them, no more than a hundred thousand.
  BYTES AHEAD OF THEIR SUM, OR NONE (crc.Open): what the document says of them. Conditions: the bytes' cells hold them, no more than a hundred thousand.
  SMALL STEPS: a slice that has something has a place; a beginning of a slice; an append as one step of a region that draws its order. Condition: fewer than a million bytes.
  PARTS OF A SLICE OF BYTES: from a place on, up to one, between two. Condition: the places are within it.
-/
import Derived.Test.YtenahnbfaekljaaDoorMB
import Derived.Laws.MakeOwn
import Derived.Test.YtenahnbfaekljaaDoorMA
import Derived.Deep.RegionHeld3
namespace Go.Proofs.YtenahnbfaekljaaDoor
open Go.RowKit

theorem and_15 (r : Nat) (h : r < 4294967296) : bits .and .u32 (r : Int) 15 = ((r % 16 : Nat) : Int) := by
  rw [u32_and (r : Int) 15 (by omega) (by omega) (by omega) (by omega)]
  show ((r &&& 15 : Nat) : Int) = _
  rw [show (15 : Nat) = 2 ^ 4 - 1 by rfl, Nat.and_two_pow_sub_one_eq_mod]
theorem not_32 (s : Nat) (h : s < 4294967296) : bits .xor .u32 IntKind.u32.max (s : Int) = ((s ^^^ 4294967295 : Nat) : Int) := by
  rw [u32_xor IntKind.u32.max (s : Int) (by decide) (by decide) (by omega) (by omega)]
  show ((4294967295 ^^^ s : Nat) : Int) = _
  rw [Nat.xor_comm]
/-- The table of half bytes lies in the block B. -/
def Tab (B : Nat) (w : World) : Prop := ∀ k, k < 16 → w.cell? ⟨B, k, none⟩ = some (.int .u32 ((cF 4 k : Nat) : Int))
theorem tab_new (w : World) : Tab w.heap.size (w.alloc (.cells #[.int .u32 0, .int .u32 274646895, .int .u32 549293790, .int .u32 820201905, .int .u32 1098587580, .int .u32 1361435347, .int .u32 1640403810, .int .u32 1905808397, .int .u32 2197175160, .int .u32 2460548119, .int .u32 2722870694, .int .u32 2987750089, .int .u32 3280807620, .int .u32 3553878443, .int .u32 3811616794, .int .u32 4084100981] 143)) := by
  intro k hk
  rw [World.cell?_alloc_at _ _ _ _ rfl]
  have e : #[Value.int .u32 0, .int .u32 274646895, .int .u32 549293790, .int .u32 820201905, .int .u32 1098587580, .int .u32 1361435347, .int .u32 1640403810, .int .u32 1905808397, .int .u32 2197175160, .int .u32 2460548119, .int .u32 2722870694, .int .u32 2987750089, .int .u32 3280807620, .int .u32 3553878443, .int .u32 3811616794, .int .u32 4084100981] = ((List.range 16).map fun k => Value.int .u32 ((cF 4 k : Nat) : Int)).toArray := by kernel_rfl
  rw [e]
  simp [hk]
set_option maxRecDepth 100000 in
set_option maxHeartbeats 4000000 in
theorem more_some (b o cap : Nat) (S : Nat) (l : List Int) (w : World) (hS : S < 4294967296) (hl : l.length ≤ 100000) (hby : Byt l) (h3 : ∀ i (h : i < l.length), w.cell? ⟨b, o + i, none⟩ = some (bc l[i])) :
    Calls Tryd.prog 64 #[.int .u32 S, .slice (some ⟨b, o, none⟩) l.length cap] w fun e w' => e = .returned (.int .u32 ((crF (S ^^^ 4294967295) l ^^^ 4294967295 : Nat) : Int)) ∧ Below w.heap.size w w' := by
  have H3 := hide h3
  have HB := hide hby
  clear h3 hby
  have hn := not_32 S hS
  have hsg : IntKind.u32.signed = false := rfl
  have hS1 : S ^^^ 4294967295 < 4294967296 := Nat.xor_lt_two_pow (n := 32) hS (by decide)
  have HC : Hid (∀ j, crF (S ^^^ 4294967295) (l.take j) < 4294967296) := hide fun j => crF_lt hS1 (fun x hx => HB.out x (List.mem_of_mem_take hx))
  generalize S ^^^ 4294967295 = s at *
  have HT := hide (tab_new w)
  go_enter Tryd.func64, Tryd.ntmps64
  go_wp2_with fail
  go_loopw [6, 14] (fun r i wr => ∃ j : Nat, j ≤ l.length ∧ i = .int .i64 j ∧ r = .int .u32 ((crF s (l.take j) : Nat) : Int) ∧ Tab w.heap.size wr ∧ Below w.heap.size w wr) (fun _ i _ => l.length - (intOf i).toNat)
  case atStart => exact ⟨0, Nat.zero_le _, rfl, rfl, HT.out, (Below.refl _ _).alloc (Nat.le_refl _) _⟩
  case round =>
    obtain ⟨j, hj, rfl, rfl, ht, hb⟩ := hrel
    by_cases hlt : j < l.length
    · have hc : wr.cell? ⟨b, o + j, none⟩ = some (.int .u8 l[j]) := by rw [hb.cell (p := ⟨b, o + j, none⟩) (cell_block (H3.out j hlt))]; exact H3.out j hlt
      have hx := HB.out _ (List.getElem_mem hlt)
      have h0 := HC.out j
      have HN : Hid (crF s (l.take (j + 1)) = cY (crF s (l.take j)) l[j].toNat) := hide (by
        rw [List.take_succ_eq_append_getElem hlt, crF_app]; rfl)
      generalize l[j] = x at *
      generalize hr : crF s (l.take j) = r at *
      have h1 : r ^^^ x.toNat < 4294967296 := Nat.xor_lt_two_pow (n := 32) h0 (by omega)
      have hx1 : bits .xor .u32 (r : Int) x = ((r ^^^ x.toNat : Nat) : Int) := by
        rw [u32_xor _ _ (by omega) (by omega) (by omega) (by omega)]; simp
      have HY := hide (cY_half r x.toNat)
      generalize r ^^^ x.toNat = r1 at *
      have hm1 := and_15 r1 h1
      have c1 := ht (r1 % 16) (Nat.mod_lt _ (by decide))
      have t1 : cF 4 (r1 % 16) < 4294967296 := cF_lt 4 (by omega)
      have h2 : cF 4 (r1 % 16) ^^^ r1 / 16 < 4294967296 := Nat.xor_lt_two_pow (n := 32) t1 (by omega)
      have hx2 : bits .xor .u32 ((r1 : Int) / 16) ((cF 4 (r1 % 16) : Nat) : Int) = ((cF 4 (r1 % 16) ^^^ r1 / 16 : Nat) : Int) := by
        rw [u32_xor _ _ (by omega) (by omega) (by omega) (by omega), Nat.xor_comm]
        rfl
      have b1 : r1 % 16 < 16 := Nat.mod_lt _ (by decide)
      generalize cF 4 (r1 % 16) ^^^ r1 / 16 = r2 at *
      generalize cF 4 (r1 % 16) = T1 at *
      generalize r1 % 16 = m1 at *
      have hm2 := and_15 r2 h2
      have c2 := ht (r2 % 16) (Nat.mod_lt _ (by decide))
      have t2 : cF 4 (r2 % 16) < 4294967296 := cF_lt 4 (by omega)
      have h3 : cF 4 (r2 % 16) ^^^ r2 / 16 < 4294967296 := Nat.xor_lt_two_pow (n := 32) t2 (by omega)
      have hx3 : bits .xor .u32 ((r2 : Int) / 16) ((cF 4 (r2 % 16) : Nat) : Int) = ((cF 4 (r2 % 16) ^^^ r2 / 16 : Nat) : Int) := by
        rw [u32_xor _ _ (by omega) (by omega) (by omega) (by omega), Nat.xor_comm]
        rfl
      have b2 : r2 % 16 < 16 := Nat.mod_lt _ (by decide)
      generalize cF 4 (r2 % 16) ^^^ r2 / 16 = r3 at *
      generalize cF 4 (r2 % 16) = T2 at *
      generalize r2 % 16 = m2 at *
      have HTT := hide ht
      have HBB := hide hb
      clear hr ht hb
      go_wp2_with fail
      exact ⟨⟨j + 1, by omega, by go_num, by rw [HN.out, HY.out], HTT.out, HBB.out⟩, by simp [intOf]; omega⟩
    · obtain rfl : j = l.length := by omega
      have hn2 := not_32 _ (HC.out l.length)
      rw [List.take_length] at *
      obtain ⟨R, hR⟩ : ∃ R, R = crF s l := ⟨_, rfl⟩
      rw [← hR] at hn2
      rw [← hR]
      have HR := hide hR
      clear hR
      go_wp2_with fail
      go_ret
      exact ⟨by rw [← HR.out]; rfl, hb⟩
end Go.Proofs.YtenahnbfaekljaaDoor
namespace Go.Proofs.YtenahnbfaekljaaDoor
open Go.RowKit

set_option maxRecDepth 100000 in
set_option maxHeartbeats 4000000 in
theorem more_none (ao : Option Addr) (cap : Nat) (S : Nat) (w : World) (hS : S < 4294967296) :
    Calls Tryd.prog 64 #[.int .u32 S, .slice ao 0 cap] w fun e w' => e = .returned (.int .u32 (S : Int)) ∧ Below w.heap.size w w' := by
  have hn := not_32 S hS
  have hsg : IntKind.u32.signed = false := rfl
  have hS1 : S ^^^ 4294967295 < 4294967296 := Nat.xor_lt_two_pow (n := 32) hS (by decide)
  have hn2 := not_32 _ hS1
  rw [Nat.xor_assoc, Nat.xor_self, Nat.xor_zero] at hn2
  generalize S ^^^ 4294967295 = s at *
  go_enter Tryd.func64, Tryd.ntmps64
  go_wp2_with fail
  refine wp_loop_rounds 1 ?_
  rw [rounds_succ]
  go_wp2
  go_ret
  exact ⟨rfl, (Below.refl _ _).alloc (Nat.le_refl _) _⟩
/-- The sum of bytes, and of bytes behind them. -/
theorem more_any (v : Value) (S : Nat) (l : List Int) (w : World) (hv : Sl bc w v l) (hS : S < 4294967296) (hl : l.length ≤ 100000) (hby : Byt l) :
    Calls Tryd.prog 64 #[.int .u32 S, v] w fun e w' => e = .returned (.int .u32 ((crF (S ^^^ 4294967295) l ^^^ 4294967295 : Nat) : Int)) ∧ Below w.heap.size w w' := by
  rcases hv with ⟨ao, cap, rfl, rfl⟩ | ⟨b, o, cap, rfl, _, h3⟩
  · have h := more_none ao cap S w hS
    rw [show crF (S ^^^ 4294967295) [] = S ^^^ 4294967295 from rfl, Nat.xor_assoc, Nat.xor_self, Nat.xor_zero]
    exact h
  · exact more_some b o cap S l w hS hl hby h3
set_option maxRecDepth 100000 in
set_option maxHeartbeats 4000000 in
theorem sum_any (v : Value) (l : List Int) (w : World) (hv : Sl bc w v l) (hl : l.length ≤ 100000) (hby : Byt l) :
    Calls Tryd.prog 40 #[v] w fun e w' => e = .returned (.int .u32 ((crcL l : Nat) : Int)) ∧ Below w.heap.size w w' := by
  have HM := hide (more_any v 0 l w hv (by decide) hl hby)
  rw [Nat.zero_xor, ← crcL_eq hby] at HM
  clear hv hby
  go_enter Tryd.func40, Tryd.ntmps40
  go_wp2_with fail
  refine HM.out.mono ?_
  rintro e w' ⟨rfl, hb⟩
  go_wp2_with fail
  go_ret
  exact ⟨rfl, hb⟩
theorem or_u32 (j a y : Nat) (hy : y < 2 ^ j) (hs : 2 ^ j * a + y < 4294967296) : bits .or .u32 (y : Int) ((2 ^ j * a : Nat) : Int) = ((2 ^ j * a + y : Nat) : Int) := by
  rw [u32_or_nat _ _ (by omega) (by omega), Nat.or_comm, (Nat.two_pow_add_eq_or_of_lt hy a).symm]
/-- Two numbers that share no bit: the lower one lies below 2^j, the higher one is a multiple of it. -/
theorem or_add32 {x y P : Int} (j : Nat) (q : Int) (hP : P = ((2 ^ j : Nat) : Int)) (hx : x = q * P) (hq : 0 ≤ q) (h0 : 0 ≤ y) (hy : y < P) (hs : x + y < 4294967296) : bits .or .u32 y x = y + x := by
  have e1 : x = ((2 ^ j * q.toNat : Nat) : Int) := by rw [hx, hP, Int.natCast_mul, Int.mul_comm]; congr 1; omega
  have e2 : y = (y.toNat : Int) := by omega
  have e3 := or_u32 j q.toNat y.toNat (by omega) (by omega)
  rw [← e1, ← e2] at e3
  rw [e3]
  omega
set_option maxRecDepth 100000 in
set_option maxHeartbeats 4000000 in
theorem number_four (b o cap : Nat) (x0 x1 x2 x3 : Int) (w : World) (h0 : 0 ≤ x0) (g0 : x0 ≤ 255) (h1 : 0 ≤ x1) (g1 : x1 ≤ 255) (h2 : 0 ≤ x2) (g2 : x2 ≤ 255) (h3 : 0 ≤ x3) (g3 : x3 ≤ 255)
    (c0 : w.cell? ⟨b, o, none⟩ = some (.int .u8 x0)) (c1 : w.cell? ⟨b, o + 1, none⟩ = some (.int .u8 x1)) (c2 : w.cell? ⟨b, o + 2, none⟩ = some (.int .u8 x2)) (c3 : w.cell? ⟨b, o + 3, none⟩ = some (.int .u8 x3)) :
    Calls Tryd.prog 54 #[.slice (some ⟨b, o, none⟩) 4 cap] w fun e w' => e = .returned (.int .u32 (x0 + x1 * 256 + x2 * 65536 + x3 * 16777216)) ∧ Below w.heap.size w w' := by
  have e1 : bits .or .u32 x0 (x1 * 256) = x0 + x1 * 256 := or_add32 8 x1 (P := 256) rfl (by omega) (by omega) (by omega) (by omega) (by omega)
  have e2 : bits .or .u32 (x0 + x1 * 256) (x2 * 65536) = x0 + x1 * 256 + x2 * 65536 := or_add32 16 x2 (P := 65536) rfl (by omega) (by omega) (by omega) (by omega) (by omega)
  have e3 : bits .or .u32 (x0 + x1 * 256 + x2 * 65536) (x3 * 16777216) = x0 + x1 * 256 + x2 * 65536 + x3 * 16777216 := or_add32 24 x3 (P := 16777216) rfl (by omega) (by omega) (by omega) (by omega) (by omega)
  go_enter Tryd.func54, Tryd.ntmps54
  go_wp2_with fail
  go_quiet (fail)
  go_wp2
  go_ret
  exact ⟨rfl, below_drewN (Below.refl _ _) _⟩
end Go.Proofs.YtenahnbfaekljaaDoor
namespace Go.Proofs.YtenahnbfaekljaaDoor
open Go.RowKit

theorem nilS_yes (n cap : Nat) (w : World) : (binOp .eql 22 (.slice none n cap) (.slice none 0 0)).run Tryd.prog w = .ok (.bool true) w := by kernel_rfl
theorem nilS_no (a : Addr) (n cap : Nat) (w : World) : (binOp .eql 22 (.slice (some a) n cap) (.slice none 0 0)).run Tryd.prog w = .ok (.bool false) w := by kernel_rfl
theorem rw_none (w : World) : Rw w.heap.size (w.alloc (.cells #[] 5)) (.slice (some ⟨w.heap.size, 0, none⟩) 0 0) 0 [] :=
  ⟨Nat.le_refl _, Nat.zero_le _, .inr ⟨w.heap.size, rfl, Nat.le_refl _, Array.getElem?_push_size⟩⟩
set_option maxRecDepth 100000 in
set_option maxHeartbeats 4000000 in
theorem bclone_nil (cap : Nat) (w : World) : Calls Tryd.prog 55 #[.slice none 0 cap] w fun e w' => e = .returned (.slice none 0 0) ∧ Below w.heap.size w w' := by
  have e1 := nilS_yes
  go_enter Tryd.func55, Tryd.ntmps55
  go_wp2
  go_ret
  exact ⟨rfl, Below.refl _ _⟩
set_option maxRecDepth 100000 in
set_option maxHeartbeats 4000000 in
theorem bclone_some (a : Addr) (cap : Nat) (l : List Int) (w : World) (hl : l.length ≤ 100000) (hv : Sl bc w (.slice (some a) l.length cap) l) :
    Calls Tryd.prog 55 #[.slice (some a) l.length cap] w fun e w' => ∃ v, e = .returned v ∧ w'.ownsRow w.heap.size 5 1 v l.length (bv l) ∧ Below w.heap.size w w' := by
  have e2 := nilS_no
  have HV := hide (hv.below ((Below.refl _ _).alloc (Nat.le_refl _) (.cells #[] 5)))
  have HR := hide (rw_none w)
  clear hv
  go_enter Tryd.func55, Tryd.ntmps55
  go_wp2_with (first | (at_builtin; refine wpList_append_sl _ rfl _ _ rfl w.heap.size _ 0 [] rfl HR.out (by simp) _ l rfl HV.out (by omega) ?_))
  intro w1 v1 cur1 hp1
  have hown := hp1.rw.owns
  rw [hp1.tk] at hown
  have HO := hide hown
  have HB := hide (((Below.refl w.heap.size w).alloc (Nat.le_refl _) _).trans hp1.below)
  clear hp1 hown
  go_wp2_with fail
  go_ret
  exact ⟨_, rfl, by simpa using HO.out, HB.out⟩
theorem bclone_own (v : Value) (l : List Int) (w : World) (hv : Sl bc w v l) (hl : l.length ≤ 100000) :
    Calls Tryd.prog 55 #[v] w fun e w' => ∃ u, e = .returned u ∧ w'.ownsRow w.heap.size 5 1 u l.length (bv l) ∧ Below w.heap.size w w' := by
  obtain ⟨ao, cap, rfl⟩ := hv.form
  cases ao with
  | none =>
    obtain rfl : l = [] := by
      rcases hv with ⟨ao, cap, h, _⟩ | ⟨b, o, cap, h, _⟩
      · exact h
      · cases h
    refine (bclone_nil cap w).mono ?_
    rintro e w' ⟨rfl, hb⟩
    exact ⟨_, rfl, World.ownsRow_nil _ _ _ _, hb⟩
  | some a => exact bclone_some a cap l w hl hv
theorem makeBytes (M : Nat) (hM : M ≤ 200000) (W : World) : (Instr.makeSlice 22 (.int .i64 0) (.int .i64 (M : Int))).run Tryd.prog W = .ok (.slice (some ⟨W.heap.size, 0, none⟩) 0 M) (W.alloc (.cells (madeCells #[.int .u8 0] M) 5)) := by
  obtain ⟨i0, hi, hz0, hz1, hz2⟩ := info_parts infoB
  have h := run_make (P := Tryd.prog) W 22 5 i0 (.int .u8 0) Tryd.underlying22 hi hz0 .i64 .i64 0 (M : Int) (by omega) (by omega) (by rw [hz2]; omega) (by omega)
  rw [hz1] at h
  simpa [Value.cells] using h
theorem rw_made (w W : World) (M : Nat) (h : w.heap.size ≤ W.heap.size) (hM : M ≤ 200000) : Rw w.heap.size (W.alloc (.cells (madeCells #[.int .u8 0] M) 5)) (.slice (some ⟨W.heap.size, 0, none⟩) 0 M) 0 (madeCells #[.int .u8 0] M).toList := by
  have hl : (madeCells #[.int .u8 0] M).toList.length = M := by simp [size_madeCells]
  refine ⟨Nat.zero_le _, by rw [hl]; unfold maxLen; omega, .inr ⟨W.heap.size, by rw [hl], h, ?_⟩⟩
  rw [Array.toArray_toList]
  exact Array.getElem?_push_size
theorem buildFour (x0 x1 x2 x3 : Int) (W : World) : (Instr.buildSlice 22 4 #[(0, .int .u8 x0), (1, .int .u8 x1), (2, .int .u8 x2), (3, .int .u8 x3)]).run Tryd.prog W = .ok (.slice (some ⟨W.heap.size, 0, none⟩) 4 4) (W.alloc (.cells #[.int .u8 x0, .int .u8 x1, .int .u8 x2, .int .u8 x3] 5)) := by kernel_rfl
set_option maxRecDepth 100000 in
set_option maxHeartbeats 4000000 in
theorem put_any (v : Value) (l : List Int) (w : World) (hv : Sl bc w v l) (hl : l.length ≤ 100000) (hby : Byt l) :
    Calls Tryd.prog 25 #[v] w fun e w' => ∃ v', e = .returned v' ∧ w'.ownsRow w.heap.size 5 1 v' (l ++ le4 (crcL l)).length (bv (l ++ le4 (crcL l))) ∧ Below w.heap.size w w' := by
  have HV := hide hv
  have HS := hide (sum_any v l w hv hl hby)
  have hS := crcL_lt l
  obtain ⟨ao, cap, rfl⟩ := hv.form
  clear hv hby
  have hmk : ∀ W, (Instr.makeSlice 22 (.int .i64 0) (.int .i64 ((l.length : Int) + 4))).run Tryd.prog W = .ok (.slice (some ⟨W.heap.size, 0, none⟩) 0 (l.length + 4)) (W.alloc (.cells (madeCells #[.int .u8 0] (l.length + 4)) 5)) := makeBytes (l.length + 4) (by omega)
  generalize crcL l = S at *
  go_enter Tryd.func25, Tryd.ntmps25
  go_wp2_with fail
  refine HS.out.mono ?_
  rintro e w1 ⟨rfl, hb1⟩
  have HB1 := hide hb1
  clear hb1 HS
  have HR := hide (rw_made w w1 (l.length + 4) HB1.out.size (by omega))
  have HV1 := hide (HV.out.below (HB1.out.alloc HB1.out.size (.cells (madeCells #[.int .u8 0] (l.length + 4)) 5)))
  have HM := hide (show (madeCells #[.int .u8 0] (l.length + 4)).toList.length = l.length + 4 by simp [size_madeCells])
  go_wp2_with (first | (at_builtin; refine wpList_append_sl _ rfl _ _ rfl w.heap.size _ 0 _ rfl HR.out (by have := HB1.out.size; simp; omega) _ l rfl HV1.out (by omega) ?_))
  intro w2 v2 cur2 hp2
  have HP2 := hide hp2
  have HB2 := hide ((HB1.out.alloc HB1.out.size _).trans hp2.below)
  clear hp2 HR HV1 hmk
  have hbs := buildFour
  go_wp2_with (first | (at_builtin; refine wpList_append_rw _ rfl _ _ rfl w.heap.size _ (0 + l.length) cur2 rfl (HP2.out.rw.below ((Below.refl _ _).alloc (Nat.le_refl _) _)) (by have := HB2.out.size; simp; omega) _ 4 4 [.int .u8 ((S : Int) % 256), .int .u8 ((S : Int) / 256 % 256), .int .u8 ((S : Int) / 65536 % 256), .int .u8 ((S : Int) / 16777216)] rfl rfl (by omega) (cells_at _ _ _) (one_bytes [(S : Int) % 256, (S : Int) / 256 % 256, (S : Int) / 65536 % 256, (S : Int) / 16777216]) (by omega) ?_))
  intro w3 v3 cur3 hp3
  have hown := hp3.rw.owns
  have e0 : cur2.take l.length = bv l := by have := HP2.out.tk; simpa using this
  rw [hp3.tk, e0] at hown
  have HO := hide hown
  have HB := hide ((HB2.out.alloc HB2.out.size _).trans hp3.below)
  clear hp3 hown HP2 
  go_wp2_with fail
  go_ret
  refine ⟨_, rfl, ?_, HB.out⟩
  have h := HO.out
  have e4 : [Value.int .u8 ((S : Int) % 256), .int .u8 ((S : Int) / 256 % 256), .int .u8 ((S : Int) / 65536 % 256), .int .u8 ((S : Int) / 16777216)] = bv (le4 S) := by
    have q : ((S / 16777216 % 256 : Nat) : Int) = (S : Int) / 16777216 := by omega
    unfold le4
    rw [q]
    rfl
  rw [e4] at h
  have e5 : (l ++ le4 S).length = l.length + 4 := by simp [le4]
  rw [e5, show bv (l ++ le4 S) = bv l ++ bv (le4 S) by simp [bv]]
  exact h
end Go.Proofs.YtenahnbfaekljaaDoor
namespace Go.Proofs.YtenahnbfaekljaaDoor
open Go.RowKit

theorem last_four {l : List Int} (h : ¬ l.length < 4) : ∃ x0 x1 x2 x3, l.drop (l.length - 4) = [x0, x1, x2, x3] := by
  have hl : (l.drop (l.length - 4)).length = 4 := by rw [List.length_drop]; omega
  match hd : l.drop (l.length - 4), hl with
  | [x0, x1, x2, x3], _ => exact ⟨x0, x1, x2, x3, rfl⟩
theorem openL_num {l : List Int} {x0 x1 x2 x3 : Int} (h : ¬ l.length < 4) (hby : Byt l) (hd : l.drop (l.length - 4) = [x0, x1, x2, x3]) :
    openL l = if (crcL (l.take (l.length - 4)) : Int) = x0 + x1 * 256 + x2 * 65536 + x3 * 16777216 then some (l.take (l.length - 4)) else none := by
  have hb : ∀ x ∈ [x0, x1, x2, x3], 0 ≤ x ∧ x ≤ 255 := fun x hx => hby x (List.mem_of_mem_drop (by rw [hd]; exact hx))
  have b0 := hb x0 (by simp)
  have b1 := hb x1 (by simp)
  have b2 := hb x2 (by simp)
  have b3 := hb x3 (by simp)
  have hS := crcL_lt (l.take (l.length - 4))
  have hcat : l.take (l.length - 4) ++ [x0, x1, x2, x3] = l := by rw [← hd]; exact List.take_append_drop _ _
  unfold openL
  rw [if_neg h]
  by_cases e : (crcL (l.take (l.length - 4)) : Int) = x0 + x1 * 256 + x2 * 65536 + x3 * 16777216
  · rw [if_pos e, if_pos]
    generalize crcL (l.take (l.length - 4)) = S at *
    have : le4 S = [x0, x1, x2, x3] := by
      unfold le4
      simp only [List.cons.injEq, and_true]
      refine ⟨?_, ?_, ?_, ?_⟩ <;> omega
    rw [this, hcat]
  · rw [if_neg e, if_neg]
    generalize crcL (l.take (l.length - 4)) = S at *
    intro q
    have q2 := q.trans hcat.symm
    have q3 := List.append_cancel_left q2
    unfold le4 at q3
    simp only [List.cons.injEq, and_true] at q3
    omega
set_option maxRecDepth 100000 in
set_option maxHeartbeats 4000000 in
theorem copen_few (ao : Option Addr) (cap : Nat) (l : List Int) (w : World) (h : l.length < 4) :
    Calls Tryd.prog 32 #[.slice ao l.length cap] w fun e w' => e = .returned (.tuple #[.slice none 0 0, .bool false]) ∧ Below w.heap.size w w' := by
  have h' : (l.length : Int) - 4 < 0 := by omega
  go_enter Tryd.func32, Tryd.ntmps32
  go_wp2_with fail
  go_quiet (fail)
  go_wp2_with fail
  exact bodyPost_ret (v := .tuple #[.slice none 0 0, .bool false]) (by simp [results, Tryd.results32, go_sem]) rfl ⟨rfl, below_drewN (Below.refl _ _) _⟩
theorem slice_to (b o L cap E : Nat) (hE : E ≤ cap) (W : World) : (Instr.slice 22 (.slice (some ⟨b, o, none⟩) L cap) none (some (.int .i64 (E : Int))) none).run Tryd.prog W = .ok (.slice (some ⟨b, o, none⟩) E cap) W := by
  have h1 : (E : Int) ≤ (cap : Int) := by omega
  simp [Instr.slice, go_sem, h1]
theorem slice_from (b o L cap E : Nat) (hE : E < L) (hc : L ≤ cap) (W : World) : (Instr.slice 22 (.slice (some ⟨b, o, none⟩) L cap) (some (.int .i64 (E : Int))) none none).run Tryd.prog W = .ok (.slice (some ⟨b, o + E, none⟩) (L - E) (cap - E)) W := by
  have h1 : (E : Int) ≤ (L : Int) := by omega
  simp [Instr.slice, go_sem, h1]
  omega
set_option maxRecDepth 100000 in
set_option maxHeartbeats 4000000 in
theorem copen_much (b o cap E : Nat) (S : Nat) (X : Int) (l : List Int) (w : World) (hl : l.length ≤ 100000) (hE : (l.length : Int) - 4 = (E : Int)) (hcap : l.length ≤ cap)
    (HS : Hid (∀ W, Below w.heap.size w W → Calls Tryd.prog 40 #[.slice (some ⟨b, o, none⟩) E cap] W fun e w' => e = .returned (.int .u32 (S : Int)) ∧ Below W.heap.size W w'))
    (HN : Hid (∀ W, Below w.heap.size w W → Calls Tryd.prog 54 #[.slice (some ⟨b, o + E, none⟩) 4 (cap - E)] W fun e w' => e = .returned (.int .u32 X) ∧ Below W.heap.size W w'))
    (HC : Hid (∀ W, Below w.heap.size w W → Calls Tryd.prog 55 #[.slice (some ⟨b, o, none⟩) E cap] W fun e w' => ∃ u, e = .returned u ∧ Sld 0 w.heap.size bc w' u (l.take E) ∧ Below W.heap.size W w')) :
    Calls Tryd.prog 32 #[.slice (some ⟨b, o, none⟩) l.length cap] w fun e w' => (∃ u, e = .returned (.tuple #[u, .bool (decide ((S : Int) = X))]) ∧ (((S : Int) = X ∧ Sld 0 w.heap.size bc w' u (l.take E)) ∨ (¬ (S : Int) = X ∧ u = .slice none 0 0))) ∧ Below w.heap.size w w' := by
  have hE0 : ¬ ((E : Int) < 0) := by omega
  have hE1 : (l.length : Int) - (E : Int) = 4 := by omega
  have hs1 := slice_to b o l.length cap E (by omega)
  have hs2 := slice_from b o l.length cap E (by omega) hcap
  rw [show l.length - E = 4 by omega] at hs2
  go_enter Tryd.func32, Tryd.ntmps32
  go_wp2_with fail
  have HF : Hid (∀ W, Below w.heap.size w W → True) := hide (fun _ _ => trivial)
  have HS0 := hide (hs_drew (F := fun _ => True) HF.out (Nat.le_refl _))
  go_region_held3 (fun W => True ∧ Below w.heap.size w W ∧ w.heap.size ≤ W.heap.size)
    (first | with_reducible assumption | with_reducible exact hs_call (F := fun _ => True) HF.out (by assumption) (by assumption) | with_reducible exact HS0.out)
    (first
      | (go_at_call 40; refine (HS.out _ ?_).mono ?_; exact And.left (And.right (by assumption)); rintro e w' ⟨rfl, hb⟩)
      | (go_at_call 54; refine (HN.out _ ?_).mono ?_; exact And.left (And.right (by assumption)); rintro e w' ⟨rfl, hb⟩))
  have hfin : Below w.heap.size w w' := And.left (And.right (by assumption))
  have HFI := hide hfin
  clear hfin
  generalize hf : (decide ((E : Int) < 0) || (S : Int) != X) = f
  have hf2 : f = ! decide ((S : Int) = X) := by
    rw [← hf, decide_eq_false (by omega), Bool.false_or]
    rfl
  have HX := hide hf2
  clear hf hf2
  cases f with
  | false =>
    have HY := hide (show (S : Int) = X by have := HX.out; simpa using this)
    go_wp2_with fail
    refine (HC.out _ HFI.out).mono ?_
    rintro e w2 ⟨u, rfl, hsl, hb2⟩
    have HSL := hide hsl
    have HB2 := hide (HFI.out.trans (hb2.mono HFI.out.size))
    clear hsl hb2
    go_wp2_with fail
    exact bodyPost_ret (v := .tuple #[u, .bool true]) (by simp [results, Tryd.results32, go_sem]) rfl ⟨⟨u, by rw [decide_eq_true HY.out], .inl ⟨HY.out, HSL.out⟩⟩, HB2.out⟩
  | true =>
    have HY := hide (show ¬ (S : Int) = X by have := HX.out; simpa using this)
    go_wp2_with fail
    exact bodyPost_ret (v := .tuple #[.slice none 0 0, .bool false]) (by simp [results, Tryd.results32, go_sem]) rfl ⟨⟨_, by rw [decide_eq_false HY.out], .inr ⟨HY.out, rfl⟩⟩, HFI.out⟩
theorem cell_take {b o : Nat} {l : List Int} {w : World} (E : Nat) (h3 : ∀ i (h : i < l.length), w.cell? ⟨b, o + i, none⟩ = some (bc l[i])) : ∀ i (h : i < (l.take E).length), w.cell? ⟨b, o + i, none⟩ = some (bc (l.take E)[i]) := by
  intro i hi
  rw [List.getElem_take]
  exact h3 i (by rw [List.length_take] at hi; omega)
/-- The bytes ahead of their sum, or none. -/
theorem copen_any (v : Value) (l : List Int) (w : World) (hv : Sl bc w v l) (hl : l.length ≤ 100000) (hby : Byt l) :
    Calls Tryd.prog 32 #[v] w fun e w' => (∃ u f, e = .returned (.tuple #[u, .bool f]) ∧ ((f = true ∧ openL l = some (l.take (l.length - 4)) ∧ Sld 0 w.heap.size bc w' u (l.take (l.length - 4))) ∨ (f = false ∧ openL l = none ∧ u = .slice none 0 0))) ∧ Below w.heap.size w w' := by
  by_cases h4 : l.length < 4
  · obtain ⟨ao, cap, rfl⟩ := hv.form
    refine (copen_few ao cap l w h4).mono ?_
    rintro e w' ⟨rfl, hb⟩
    exact ⟨⟨_, _, rfl, .inr ⟨rfl, by unfold openL; rw [if_pos h4], rfl⟩⟩, hb⟩
  · rcases hv with ⟨ao, cap, rfl, rfl⟩ | ⟨b, o, cap, rfl, hc, h3⟩
    · simp at h4
    · obtain ⟨x0, x1, x2, x3, hd⟩ := last_four h4
      have hlen : (l.take (l.length - 4)).length = l.length - 4 := by rw [List.length_take]; omega
      have hb : ∀ x ∈ [x0, x1, x2, x3], 0 ≤ x ∧ x ≤ 255 := fun x hx => hby x (List.mem_of_mem_drop (by rw [hd]; exact hx))
      have b0 := hb x0 (by simp)
      have b1 := hb x1 (by simp)
      have b2 := hb x2 (by simp)
      have b3 := hb x3 (by simp)
      have hsl : Sl bc w (.slice (some ⟨b, o, none⟩) (l.length - 4) cap) (l.take (l.length - 4)) := .inr ⟨b, o, cap, by rw [hlen], by omega, cell_take _ h3⟩
      have hbt : Byt (l.take (l.length - 4)) := fun x hx => hby x (List.mem_of_mem_take hx)
      have hx : ∀ i (h : i < 4) (x : Int), [x0, x1, x2, x3][i]? = some x → w.cell? ⟨b, o + (l.length - 4) + i, none⟩ = some (.int .u8 x) := by
        intro i h x hx
        rw [← hd, List.getElem?_drop] at hx
        obtain ⟨h5, h6⟩ := List.getElem?_eq_some_iff.1 hx
        rw [Nat.add_assoc, h3 _ h5, h6]
        rfl
      refine (copen_much b o cap (l.length - 4) (crcL (l.take (l.length - 4))) (x0 + x1 * 256 + x2 * 65536 + x3 * 16777216) l w hl (by omega) hc
        (hide fun W hW => sum_any _ _ W (hsl.below hW) (by omega) hbt)
        (hide fun W hW => number_four b (o + (l.length - 4)) (cap - (l.length - 4)) x0 x1 x2 x3 W b0.1 b0.2 b1.1 b1.2 b2.1 b2.2 b3.1 b3.2 ?_ ?_ ?_ ?_)
        (hide fun W hW => (bclone_own _ _ W (hsl.below hW) (by omega)).mono (by rintro e w' ⟨u, rfl, ho, hb'⟩; exact ⟨u, rfl, (sld_of_owns 0 ho).more hW.size, hb'⟩))).mono ?_
      · have c := hx 0 (by decide) x0 rfl
        rw [hW.cell (p := ⟨b, o + (l.length - 4), none⟩) (cell_block c)]; exact c
      · have c := hx 1 (by decide) x1 rfl
        rw [hW.cell (p := ⟨b, o + (l.length - 4) + 1, none⟩) (cell_block c)]; exact c
      · have c := hx 2 (by decide) x2 rfl
        rw [hW.cell (p := ⟨b, o + (l.length - 4) + 2, none⟩) (cell_block c)]; exact c
      · have c := hx 3 (by decide) x3 rfl
        rw [hW.cell (p := ⟨b, o + (l.length - 4) + 3, none⟩) (cell_block c)]; exact c
      rintro e w' ⟨⟨u, rfl, hu⟩, hbl⟩
      refine ⟨⟨u, _, rfl, ?_⟩, hbl⟩
      rw [openL_num h4 hby hd]
      rcases hu with ⟨h5, h6⟩ | ⟨h5, h6⟩
      · exact .inl ⟨decide_eq_true h5, if_pos h5, h6⟩
      · exact .inr ⟨decide_eq_false h5, if_neg h5, h6⟩
end Go.Proofs.YtenahnbfaekljaaDoor
namespace Go.Proofs.YtenahnbfaekljaaDoor
open Go.RowKit

theorem Sl.some_at {α : Type} {f : α → Value} {w : World} {ao : Option Addr} {L cap : Nat} {l : List α} (h : Sl f w (.slice ao L cap) l) (hl : 0 < l.length) : ∃ b o, ao = some ⟨b, o, none⟩ ∧ l.length ≤ cap ∧ ∀ i (h : i < l.length), w.cell? ⟨b, o + i, none⟩ = some (f l[i]) := by
  rcases h with ⟨_, _, rfl, _⟩ | ⟨b, o, c, h1, h2, h3⟩
  · simp at hl
  · cases h1
    exact ⟨b, o, rfl, h2, h3⟩
theorem slice_to_any (v : Value) (b : List Int) (n : Nat) (w : World) (hv : Sl bc w v b) (hn : n ≤ b.length) :
    ∃ u, (∀ W, (Instr.slice 22 v none (some (.int .i64 (n : Int))) none).run Tryd.prog W = .ok u W) ∧ ∀ W, Sl bc W v b → Sl bc W u (b.take n) := by
  by_cases h0 : 0 < b.length
  · obtain ⟨ao, cap, rfl⟩ := hv.form
    obtain ⟨g, o, rfl, hc, _⟩ := hv.some_at h0
    refine ⟨_, slice_to g o b.length cap n (by omega), fun W hW => ?_⟩
    obtain ⟨g', o', h1, h2, h3⟩ := hW.some_at h0
    cases h1
    refine .inr ⟨g, o, cap, by rw [List.length_take, Nat.min_eq_left hn], by rw [List.length_take]; omega, cell_take n h3⟩
  · obtain rfl : b = [] := List.length_eq_zero_iff.1 (by omega)
    obtain rfl : n = 0 := by simpa using hn
    obtain ⟨ao, cap, rfl⟩ := hv.form
    refine ⟨.slice ao 0 cap, fun W => ?_, fun W _ => Sl.nil _ _ _ _⟩
    simp [Instr.slice, go_sem]
theorem hs_put {F : World → Prop} {N : Nat} {w0 W W' : World} (hF : ∀ W, Below N w0 W → F W) (hb : Below N W W') (h : F W ∧ Below N w0 W ∧ N ≤ W.heap.size) : F W' ∧ Below N w0 W' ∧ N ≤ W'.heap.size :=
  have k := h.2.1.trans hb
  ⟨hF _ k, k, Nat.le_trans h.2.2 hb.size⟩
/-- An append as one step of a region that draws. -/
theorem step_append_rw {ops : Array Oper} {o : Oper} {a : Act} {w : World} {K : Act → World → Prop} {Q : Exit → Act → World → Prop} {E : Prop} (hg : o.guard = none) (s x : Operand)
    (ho : o.op = .call { callee := .builtin .append, args := #[s, x], argTypes := #[22, 22] }) (B : Nat) (v : Value) (n : Nat) (cur : List Value) (hs : a.eval s = v) (hr : Rw B w v n cur) (hB : B ≤ w.heap.size) (ad : Addr) (m c : Nat) (news : List Value)
    (hx : a.eval x = .slice (some ad) m c) (hl : news.length = m) (hm : 0 < m) (hnews : ∀ j u, news[j]? = some u → w.cell? (ad.add j) = some u) (h1 : ∀ u ∈ news, u.oneCell' = true) (hn : n + m ≤ 1000000)
    (h : ∀ w' v' cur', Put B w v n cur w' v' m cur' news → K (a.put o.dst v') w') : if Region.wanted o (yielded ops a.tmps) = true then Oper.wp Tryd.prog o a w K Q else E := by
  have hw : Region.wanted o (yielded ops a.tmps) = true := by simp [Region.wanted, hg]
  rw [if_pos hw]
  obtain ⟨w', v', cur', hrun, hp⟩ := run_append_rw w o.type B v n cur hr hB ad m c news hl hm hnews h1 hn
  unfold Oper.wp
  simp [execOp, ho, resolve, invoke, builtin, hs, hx, hrun, Result.andThen]
  exact h w' v' cur' hp
theorem xor_8 {x y : Int} (h0 : 0 ≤ x) (h1 : x ≤ 255) (h2 : 0 ≤ y) (h3 : y ≤ 255) : bits .xor .u8 x y = ((x.toNat ^^^ y.toNat : Nat) : Int) := u8_xor x y h0 (by omega) h2 (by omega)
end Go.Proofs.YtenahnbfaekljaaDoor
namespace Go.Proofs.YtenahnbfaekljaaDoor
open Go.RowKit

theorem Sl.none_nil {α : Type} {f : α → Value} {w : World} {L cap : Nat} {l : List α} (h : Sl f w (.slice none L cap) l) : l = [] := by
  rcases h with ⟨ao, cap, h, _⟩ | ⟨b, o, cap, h, _⟩
  · exact h
  · cases h
theorem cut_run (a : Addr) (L cap n m : Nat) (h1 : n ≤ m) (h2 : m ≤ cap) (W : World) : (Instr.slice 22 (.slice (some a) L cap) (some (.int .i64 (n : Int))) (some (.int .i64 (m : Int))) none).run Tryd.prog W = .ok (.slice (if cap = n then some a else some (a.add n)) (m - n) (cap - n)) W := by
  have g2 : (m : Int) ≤ (cap : Int) := by omega
  simp [Instr.slice, go_sem, h1, g2]
theorem from_run (a : Addr) (L cap n : Nat) (h1 : n ≤ L) (W : World) : (Instr.slice 22 (.slice (some a) L cap) (some (.int .i64 (n : Int))) none none).run Tryd.prog W = .ok (.slice (if cap = n then some a else some (a.add n)) (L - n) (cap - n)) W := by
  have g1 : (n : Int) ≤ (L : Int) := by omega
  simp [Instr.slice, go_sem, g1]
/-- From a place on, up to one. -/
theorem slice_mid_any (v : Value) (b : List Int) (n m : Nat) (w : World) (hv : Sl bc w v b) (hn : n ≤ m) (hm : m ≤ b.length) :
    ∃ u, (∀ W, (Instr.slice 22 v (some (.int .i64 (n : Int))) (some (.int .i64 (m : Int))) none).run Tryd.prog W = .ok u W) ∧ ∀ W, Sl bc W v b → Sl bc W u ((b.drop n).take (m - n)) := by
  by_cases h0 : n < m
  · obtain ⟨ao, cap, rfl⟩ := hv.form
    obtain ⟨g, o, rfl, hc, _⟩ := hv.some_at (by omega)
    refine ⟨_, cut_run _ b.length cap n m hn (by omega), fun W hW => ?_⟩
    obtain ⟨g', o', h1, h2, h3⟩ := hW.some_at (by omega)
    cases h1
    have hl : ((b.drop n).take (m - n)).length = m - n := by rw [List.length_take, List.length_drop]; omega
    refine .inr ⟨g, o + n, cap - n, by rw [if_neg (by omega), hl, Addr.add_lit], by rw [hl]; omega, fun i hi => ?_⟩
    rw [hl] at hi
    rw [Nat.add_assoc, h3 (n + i) (by omega)]
    simp [List.getElem_take, List.getElem_drop]
  · obtain rfl : n = m := by omega
    obtain ⟨ao, cap, rfl⟩ := hv.form
    have e : (b.drop n).take (n - n) = [] := by simp
    rw [e]
    cases ao with
    | none =>
      obtain rfl := hv.none_nil
      obtain rfl : n = 0 := by simpa using hm
      refine ⟨.slice none 0 cap, fun W => ?_, fun W _ => Sl.nil _ _ _ _⟩
      simp [Instr.slice, go_sem]
    | some a =>
      have hc : n ≤ cap := by
        rcases hv with ⟨_, _, rfl, h⟩ | ⟨_, _, _, h, h2, _⟩
        · have : n = 0 := by simpa using hm
          omega
        · cases h; omega
      refine ⟨_, cut_run a b.length cap n n (Nat.le_refl _) hc, fun W _ => ?_⟩
      rw [Nat.sub_self]
      exact Sl.nil _ _ _ _
/-- From a place on. -/
theorem slice_from_any (v : Value) (b : List Int) (n : Nat) (w : World) (hv : Sl bc w v b) (hn : n ≤ b.length) :
    ∃ u, (∀ W, (Instr.slice 22 v (some (.int .i64 (n : Int))) none none).run Tryd.prog W = .ok u W) ∧ ∀ W, Sl bc W v b → Sl bc W u (b.drop n) := by
  by_cases h0 : n < b.length
  · obtain ⟨ao, cap, rfl⟩ := hv.form
    obtain ⟨g, o, rfl, hc, _⟩ := hv.some_at (by omega)
    refine ⟨_, from_run _ b.length cap n hn, fun W hW => ?_⟩
    obtain ⟨g', o', h1, h2, h3⟩ := hW.some_at (by omega)
    cases h1
    have hl : (b.drop n).length = b.length - n := by rw [List.length_drop]
    refine .inr ⟨g, o + n, cap - n, by rw [if_neg (by omega), hl, Addr.add_lit], by rw [hl]; omega, fun i hi => ?_⟩
    rw [hl] at hi
    rw [Nat.add_assoc, h3 (n + i) (by omega)]
    simp [List.getElem_drop]
  · obtain rfl : n = b.length := by omega
    obtain ⟨ao, cap, rfl⟩ := hv.form
    rw [List.drop_length]
    cases ao with
    | none =>
      obtain rfl := hv.none_nil
      refine ⟨.slice none 0 cap, fun W => ?_, fun W _ => Sl.nil _ _ _ _⟩
      simp [Instr.slice, go_sem]
    | some a =>
      refine ⟨_, from_run a b.length cap b.length (Nat.le_refl _), fun W _ => ?_⟩
      rw [Nat.sub_self]
      exact Sl.nil _ _ _ _
theorem slice_from_sld (lo hi : Nat) (v : Value) (b : List Int) (n : Nat) (w : World) (hv : Sld lo hi bc w v b) (hn : n ≤ b.length) :
    ∃ u, (∀ W, (Instr.slice 22 v (some (.int .i64 (n : Int))) none none).run Tryd.prog W = .ok u W) ∧ ∀ W, Sld lo hi bc W v b → Sld lo hi bc W u (b.drop n) := by
  by_cases h0 : n < b.length
  · rcases hv with ⟨_, _, rfl, _⟩ | ⟨g, o, cap, rfl, hc, hp, _⟩
    · simp at h0
    refine ⟨_, from_run _ b.length cap n hn, fun W hW => ?_⟩
    rcases hW with ⟨_, _, rfl, _⟩ | ⟨g', o', cap', h1, h2, hp', h3⟩
    · simp at h0
    cases h1
    have hl : (b.drop n).length = b.length - n := by rw [List.length_drop]
    refine .inr ⟨g, o + n, cap - n, by rw [if_neg (by omega), hl, Addr.add_lit], by rw [hl]; omega, hp, fun i hi => ?_⟩
    rw [hl] at hi
    rw [Nat.add_assoc, h3 (n + i) (by omega)]
    simp [List.getElem_drop]
  · obtain ⟨u, h1, h2⟩ := slice_from_any v b n w hv.sl hn
    refine ⟨u, h1, fun W hW => ?_⟩
    have h3 := h2 W hW.sl
    have e : b.drop n = [] := List.drop_eq_nil_of_le (by omega)
    rw [e] at h3 ⊢
    obtain ⟨ao, cap, rfl⟩ := h3.form
    exact Sld.nil _ _ _ _ _ _
end Go.Proofs.YtenahnbfaekljaaDoor
