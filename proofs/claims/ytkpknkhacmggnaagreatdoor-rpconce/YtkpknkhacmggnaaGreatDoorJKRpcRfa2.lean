/-
  WHAT IS READ OF A MESSAGE (rpc.fields): what the mathematics says. Conditions: the bytes' cells hold them, each is a byte, no more than a hundred thousand, they don't lie in the reader; errors.errorType is laid.
  THE MESSAGE THAT A FRAME IS (rpc.Read): what the mathematics says. Conditions: the bytes' cells hold them, each is a byte, no more than a hundred thousand; errors.errorType is laid.
-/
import Derived.Test.YtkpknkhacmggnaaGreatDoorJKRpcPpa5
import Derived.Deep.DeepCutAuto
import Derived.Test.YtkpknkhacmggnaaGreatDoorJKRpcCk
import Derived.Test.YtkpknkhacmggnaaGreatDoorJKBatCla6
namespace Go.Proofs.YtkpknkhacmggnaaGreatDoor
open Go.RowKit

theorem gN_range {l : List Int} {s : Gs} (hby : Byt l) (m : Int) (hm : 0 ≤ m) : 0 ≤ (gN m l s).2 ∧ (gN m l s).2 ≤ m := by
  unfold gN
  split
  · rcases hq : numS (l.drop s.pt) m with ⟨c, k, n⟩
    by_cases hc : c = 0
    · subst hc
      obtain ⟨_, _, e3, _, e5, _⟩ := numS_once (fun x hx => hby x (List.mem_of_mem_drop hx)) hq
      exact ⟨e3, e5⟩
    · have := (numS_bad hq hc).2
      simp only
      omega
  · exact ⟨Int.le_refl 0, hm⟩
theorem cellsM_one (m : Ms) (ab ad : Option Addr) (nb cb nd cd : Nat) : (cellsM m (.slice ab nb cb) (.slice ad nd cd)).toArray.all (·.oneCell') = true :=
  all_oneCell_toArray (fun v hv => by
    simp only [cellsM, List.mem_cons, List.not_mem_nil, or_false] at hv
    rcases hv with rfl | rfl | rfl | rfl | rfl | rfl | rfl | rfl | rfl | rfl | rfl | rfl | rfl | rfl | rfl <;> rfl)
/-- A message without its kind. -/
def Ms.k0 (m : Ms) : Ms := { m with k := 0 }
set_option maxRecDepth 100000 in
set_option maxHeartbeats 64000000 in
theorem mrf_any (p : Nat) (v : Value) (l : List Int) (s : Gs) (k : Int) (w : World) (hrd : RdG w p v s) (hv : Slx p bc w v l) (hl : l.length ≤ 100000) (hby : Byt l) (hs : s.pt ≤ l.length) (hk : 1 ≤ k ∧ k ≤ 8) (hg : Hnd w) (hpz : p ≠ 0) :
    Calls Tryz.prog 50 #[.pointer (some ⟨p, 0, none⟩), .int .u16 (sbjM k)] w fun e w' => ∃ vx, e = .returned vx ∧ IsMn (fun b => w.heap.size ≤ b) w' vx (bodyM l k s).2.k0 ∧ RdG w' p v (bodyM l k s).1 ∧ Bx p w w' := by
  obtain ⟨q0, q1, _, _, _, _, _, _, _, q9, q10⟩ := bitM_has hk
  have HF0 : Hid (Fm p w ((w.alloc (.cells #[.int .i64 0, .int .i64 0, .int .i64 0, .int .i64 0, .bool false, .bool false, .int .i64 0, .int .i64 0, .int .i64 0, .int .i64 0, .int .i64 0, .slice none 0 0, .int .i64 0, .int .i64 0, .slice none 0 0] 25)).alloc (.cells #[.int .i64 0, .int .i64 0, .int .i64 0, .int .i64 0, .bool false, .bool false, .int .i64 0, .int .i64 0, .int .i64 0, .int .i64 0, .int .i64 0, .slice none 0 0, .int .i64 0, .int .i64 0, .slice none 0 0] 25)) v s (msP [] [] [] [] []) (.slice none 0 0) (.slice none 0 0) []) := hide (fm_new hrd)
  have HV := hide hv
  have HBY := hide hby
  have HS := hide hs
  have HG := hide hg
  clear hrd hv hby hs hg
  go_enter Tryz.func50, Tryz.ntmps50
  go_upto_region 2 with fail
  generalize (w.alloc (.cells #[.int .i64 0, .int .i64 0, .int .i64 0, .int .i64 0, .bool false, .bool false, .int .i64 0, .int .i64 0, .int .i64 0, .int .i64 0, .int .i64 0, .slice none 0 0, .int .i64 0, .int .i64 0, .slice none 0 0] 25)).alloc (.cells #[.int .i64 0, .int .i64 0, .int .i64 0, .int .i64 0, .bool false, .bool false, .int .i64 0, .int .i64 0, .int .i64 0, .int .i64 0, .int .i64 0, .slice none 0 0, .int .i64 0, .int .i64 0, .slice none 0 0] 25) = X0 at HF0 ⊢
  go_upto_region 3 with (first | (go_at_call 72; refine (heads_any _ _).mono ?_; rintro e Y ⟨rfl, hY⟩; unfold ptH))
  have HF1 := hide (HF0.out.below hY)
  clear HF0 hY
  go_wp2_with fail
  go_loopw [11] (fun i wr => ∃ j : Nat, j ≤ 3 ∧ i = .int .i64 (j : Int) ∧ Hid (Fm p w wr v (fL 0 (gN 1073741824 l) (h3.take j) s).1 (msP (fL 0 (gN 1073741824 l) (h3.take j) s).2 [] [] [] []) (.slice none 0 0) (.slice none 0 0) [])) (fun i _ => 3 - (intOf i).toNat)
  case atStart => exact ⟨0, Nat.zero_le _, rfl, HF1⟩
  case round =>
    clear HF1
    obtain ⟨j, hj, rfl, HFJ⟩ := hrel
    by_cases hlt : j < 3
    · have hltI : (j : Int) < 3 := by omega
      have hix := idxH (w.heap.size + 1) j hlt
      have HE := hide (fL_take 0 (gN 1073741824 l) h3 s j (by exact hlt))
      have hlen : (fL 0 (gN 1073741824 l) (h3.take j) s).2.length = j := by rw [fL_len, List.length_take]; exact Nat.min_eq_left (Nat.le_of_lt hlt)
      have hpt : (fL 0 (gN 1073741824 l) (h3.take j) s).1.pt ≤ l.length := fL_pt 0 (gN 1073741824 l) l.length (fun s hs => gN_pt HBY.out hs) _ _ HS.out
      have hjt : h3.getD j false = true := by
        have hc : j = 0 ∨ j = 1 ∨ j = 2 := by omega
        rcases hc with rfl | rfl | rfl <;> rfl
      rw [hjt] at HE
      generalize fL 0 (gN 1073741824 l) (h3.take j) s = Q at *
      obtain ⟨sq, xs⟩ := Q
      simp only at HFJ HE hlen hpt
      have HC := hide (rint_gs p v l 1073741824 sq wr HFJ.out.rd (HV.out.bx HFJ.out.bx) hl HBY.out hpt (by decide) (by decide))
      have HE2 := HE.out
      simp only [↓reduceIte] at HE2
      have HE3 := hide HE2
      clear HE2 HE
      generalize gN 1073741824 l sq = Q2 at *
      obtain ⟨sq2, xq⟩ := Q2
      simp only at HC HE3
      go_wp2_with (first | (go_at_call 83; refine HC.out.mono ?_; rintro e w5 ⟨rfl, hr5, hb5⟩; have HF5 := hide (HFJ.out.step hr5 hb5); clear hr5 hb5; obtain ⟨y5, c5, f5⟩ := HF5.out.cA j hlt))
      have HF6 := hide (HF5.out.setA xq hlen hlt)
      go_roundw
      case rel => exact ⟨j + 1, by omega, by go_num, hide (by rw [HE3.out]; exact HF6.out)⟩
      case measure => simp [intOf]; omega
    · obtain rfl : j = 3 := by omega
      clear hlt hj
      have HF0 : Hid (Fm p w wr v (fL 0 (gN 1073741824 l) h3 s).1 (msP (fL 0 (gN 1073741824 l) h3 s).2 [] [] [] []) (.slice none 0 0) (.slice none 0 0) []) := HFJ
      have HS2 : Hid ((fL 0 (gN 1073741824 l) h3 s).1.pt ≤ l.length) := hide (fL_pt 0 (gN 1073741824 l) l.length (fun s hs => gN_pt HBY.out hs) _ _ HS.out)
      clear HFJ HS
      have HS := HS2
      clear HS2
      generalize hA : fL 0 (gN 1073741824 l) h3 s = Q at *
      obtain ⟨As, Ax⟩ := Q
      simp only at HF0 HS
      have HQA := hide hA
      clear hA
      obtain ⟨VA, rfl⟩ : ∃ x : World, x = wr := ⟨_, rfl⟩
      have HH := hide (fun W => mhas_any (sbjM k) 1 W)
      rw [q0] at HH
      go_upto_if 20 with (go_at_call 29; refine (HH.out _).mono ?_; rintro e w1 ⟨rfl, hw1⟩; rw [hw1]; clear hw1 w1)
      go_cut [] (fun W => Hid (Fm p w W v (if hasM k 97 then gF l As else (As, false)).1 (msP Ax ([] ++ [(if hasM k 97 then gF l As else (As, false)).2]) [] [] []) (.slice none 0 0) (.slice none 0 0) []))
      case first =>
        cases hh : hasM k 97 with
        | true =>
          have HC := hide (rflag_gs p v l As _ HF0.out.rd (HV.out.bx HF0.out.bx) hl HS.out)
          go_wp2_with (first | (go_at_call 84; refine HC.out.mono ?_; rintro e w5 ⟨rfl, hr5, hb5⟩; have HF5 := hide (HF0.out.step hr5 hb5); clear hr5 hb5; have c5 := HF5.out.rg 4 _ rfl; rw [Nat.zero_add] at c5; have f5 := HF5.out.fz 4))
          go_meet
          exact hide (by rw [hh]; exact HF5.out.setF (gF l As).2 rfl (by decide))
        | false =>
          go_wp2_with fail
          go_meet
          exact hide (by rw [hh]; exact HF0.out.padF)
      case rest =>
        clear HF0 HH
        have HF0 := hcut
        clear hcut
        have HS2 : Hid ((if hasM k 97 then gF l As else (As, false)).1.pt ≤ l.length) := hide (by split; (exact gF_pt HBY.out HS.out); (exact HS.out))
        clear HS
        have HS := HS2
        clear HS2
        generalize hF : (if hasM k 97 then gF l As else (As, false)) = Q at *
        obtain ⟨Fs, Fx⟩ := Q
        simp only at HF0 HS
        have HQF := hide hF
        clear hF
        obtain ⟨VF, rfl⟩ : ∃ x : World, x = wc := ⟨_, rfl⟩
        have HH := hide (fun W => mhas_any (sbjM k) 2 W)
        rw [q1] at HH
        go_upto_if 25 with (go_at_call 29; refine (HH.out _).mono ?_; rintro e w1 ⟨rfl, hw1⟩; rw [hw1]; clear hw1 w1)
        go_cut [] (fun W => Hid (Fm p w W v (if hasM k 103 then gF l Fs else (Fs, false)).1 (msP Ax ([Fx] ++ [(if hasM k 103 then gF l Fs else (Fs, false)).2]) [] [] []) (.slice none 0 0) (.slice none 0 0) []))
        case first =>
          cases hh : hasM k 103 with
          | true =>
            have HC := hide (rflag_gs p v l Fs _ HF0.out.rd (HV.out.bx HF0.out.bx) hl HS.out)
            go_wp2_with (first | (go_at_call 84; refine HC.out.mono ?_; rintro e w5 ⟨rfl, hr5, hb5⟩; have HF5 := hide (HF0.out.step hr5 hb5); clear hr5 hb5; have c5 := HF5.out.rg 5 _ rfl; rw [Nat.zero_add] at c5; have f5 := HF5.out.fz 5))
            go_meet
            exact hide (by rw [hh]; exact HF5.out.setF (gF l Fs).2 rfl (by decide))
          | false =>
            go_wp2_with fail
            go_meet
            exact hide (by rw [hh]; exact HF0.out.padF)
        case rest =>
          clear HF0 HH
          have HF0 := hcut
          clear hcut
          have HS2 : Hid ((if hasM k 103 then gF l Fs else (Fs, false)).1.pt ≤ l.length) := hide (by split; (exact gF_pt HBY.out HS.out); (exact HS.out))
          clear HS
          have HS := HS2
          clear HS2
          generalize hG : (if hasM k 103 then gF l Fs else (Fs, false)) = Q at *
          obtain ⟨Gs_, Gx⟩ := Q
          simp only at HF0 HS
          have HQG := hide hG
          clear hG
          obtain ⟨VG, rfl⟩ : ∃ x : World, x = wc := ⟨_, rfl⟩
          go_upto_region 12 with (first | (go_at_call 75; refine (numbs_any _ _).mono ?_; rintro e Y ⟨rfl, hY⟩; unfold ptN))
          have HF1 := hide (HF0.out.below hY)
          clear HF0 hY
          go_wp2_with fail
          go_loopw [30] (fun i wr => ∃ j : Nat, j ≤ 7 ∧ i = .int .i64 (j : Int) ∧ Hid (Fm p w wr v (fL 0 (gN 1073741824 l) ((hN7 k).take j) Gs_).1 (msP Ax [Fx, Gx] (fL 0 (gN 1073741824 l) ((hN7 k).take j) Gs_).2 [] []) (.slice none 0 0) (.slice none 0 0) [])) (fun i _ => 7 - (intOf i).toNat)
          case atStart => exact ⟨0, Nat.zero_le _, rfl, HF1⟩
          case round =>
            clear HF1
            obtain ⟨j, hj, rfl, HFJ⟩ := hrel
            by_cases hlt : j < 7
            · have hltI : (j : Int) < 7 := by omega
              have hix := idxN (w.heap.size + 1) j hlt
              have HE := hide (fL_take 0 (gN 1073741824 l) (hN7 k) Gs_ j (by exact hlt))
              have hlen : (fL 0 (gN 1073741824 l) ((hN7 k).take j) Gs_).2.length = j := by rw [fL_len, List.length_take]; exact Nat.min_eq_left (Nat.le_of_lt hlt)
              have hpt : (fL 0 (gN 1073741824 l) ((hN7 k).take j) Gs_).1.pt ≤ l.length := fL_pt 0 (gN 1073741824 l) l.length (fun s hs => gN_pt HBY.out hs) _ _ HS.out
              have HH := hide (fun W => mhas_any (sbjM k) (4 * 2 ^ j % 65536) W)
              rw [bitN hk j hlt] at HH
              generalize (hN7 k).getD j false = hb at *
              generalize fL 0 (gN 1073741824 l) ((hN7 k).take j) Gs_ = Q at *
              obtain ⟨sq, xs⟩ := Q
              simp only at HFJ HE hlen hpt
              have HC := hide (rint_gs p v l 1073741824 sq wr HFJ.out.rd (HV.out.bx HFJ.out.bx) hl HBY.out hpt (by decide) (by decide))
              cases hb with
              | true =>
                have HE2 := HE.out
                simp only [↓reduceIte] at HE2
                have HE3 := hide HE2
                clear HE2 HE
                generalize gN 1073741824 l sq = Q2 at *
                obtain ⟨sq2, xq⟩ := Q2
                simp only at HC HE3
                go_wp2_with (first | (go_at_call 29; refine (HH.out _).mono ?_; rintro e w1 ⟨rfl, hw1⟩; rw [hw1]; clear hw1 w1) | (go_at_call 83; refine HC.out.mono ?_; rintro e w5 ⟨rfl, hr5, hb5⟩; have HF5 := hide (HFJ.out.step hr5 hb5); clear hr5 hb5; obtain ⟨y5, c5, f5⟩ := HF5.out.cN j hlt))
                have HF6 := hide (HF5.out.setN xq hlen hlt)
                go_roundw
                case rel => exact ⟨j + 1, by omega, by go_num, hide (by rw [HE3.out]; exact HF6.out)⟩
                case measure => simp [intOf]; omega
              | false =>
                have HE2 := HE.out
                simp only [Bool.false_eq_true, ↓reduceIte] at HE2
                have HE3 := hide HE2
                clear HE2 HE
                go_wp2_with (first | (go_at_call 29; refine (HH.out _).mono ?_; rintro e w1 ⟨rfl, hw1⟩; rw [hw1]; clear hw1 w1))
                go_roundw
                case rel => exact ⟨j + 1, by omega, by go_num, hide (by rw [HE3.out]; exact HFJ.out.padN)⟩
                case measure => simp [intOf]; omega
            · obtain rfl : j = 7 := by omega
              clear hlt hj
              have HF0 : Hid (Fm p w wr v (fL 0 (gN 1073741824 l) (hN7 k) Gs_).1 (msP Ax [Fx, Gx] (fL 0 (gN 1073741824 l) (hN7 k) Gs_).2 [] []) (.slice none 0 0) (.slice none 0 0) []) := HFJ
              have HS2 : Hid ((fL 0 (gN 1073741824 l) (hN7 k) Gs_).1.pt ≤ l.length) := hide (fL_pt 0 (gN 1073741824 l) l.length (fun s hs => gN_pt HBY.out hs) _ _ HS.out)
              clear HFJ HS
              have HS := HS2
              clear HS2
              generalize hN : fL 0 (gN 1073741824 l) (hN7 k) Gs_ = Q at *
              obtain ⟨Ns, Nx⟩ := Q
              simp only at HF0 HS
              have HQN := hide hN
              clear hN
              obtain ⟨VN, rfl⟩ : ∃ x : World, x = wr := ⟨_, rfl⟩
              have HH := hide (fun W => mhas_any (sbjM k) 512 W)
              rw [q9] at HH
              go_upto_if 44 with (go_at_call 29; refine (HH.out _).mono ?_; rintro e w1 ⟨rfl, hw1⟩; rw [hw1]; clear hw1 w1)
              go_cut [] (fun W => ∃ ud, Hid (Fm p w W v (if hasM k 100 then gD l Ns else (Ns, [])).1 (msP Ax [Fx, Gx] Nx (if hasM k 100 then gD l Ns else (Ns, [])).2 []) (.slice none 0 0) ud []))
              case first =>
                cases hh : hasM k 100 with
                | true =>
                  have HC := hide (rdata_gs p v l Ns _ HF0.out.rd (HV.out.bx HF0.out.bx) hl HBY.out HS.out)
                  have hsz := HF0.out.sz
                  go_wp2_with (first | (go_at_call 85; refine HC.out.mono ?_; rintro e w5 ⟨u5', rfl, hu5, hr5, hb5⟩; obtain ⟨a5, c5', e5⟩ := hu5.sl.form; have HU5 := hide hu5; have HF5 := hide (HF0.out.step hr5 hb5); clear hr5 hb5 hu5; have c5 := HF5.out.rg 14 _ rfl; rw [Nat.zero_add] at c5; have f5 := HF5.out.fz 14; subst e5))
                  go_meet
                  exact ⟨_, hide (by rw [hh]; exact HF5.out.setD _ _ (HU5.out.ln.imp (fun k _ hk => ⟨by omega, fun e => by cases e⟩) (fun _ _ _ _ => rfl)))⟩
                | false =>
                  go_wp2_with fail
                  go_meet
                  exact ⟨_, hide (by rw [hh]; exact HF0.out)⟩
              case rest =>
                clear HF0 HH
                obtain ⟨ud, HF0⟩ := hcut
                have HS2 : Hid ((if hasM k 100 then gD l Ns else (Ns, [])).1.pt ≤ l.length) := hide (by split; (exact gD_pt HBY.out HS.out); (exact HS.out))
                clear HS
                have HS := HS2
                clear HS2
                generalize hD : (if hasM k 100 then gD l Ns else (Ns, [])) = Q at *
                obtain ⟨Ds, Dx⟩ := Q
                simp only at HF0 HS
                have HQD := hide hD
                clear hD
                obtain ⟨VD, rfl⟩ : ∃ x : World, x = wc := ⟨_, rfl⟩
                have HH := hide (fun W => mhas_any (sbjM k) 1024 W)
                rw [q10] at HH
                go_upto_if 49 with (go_at_call 29; refine (HH.out _).mono ?_; rintro e w1 ⟨rfl, hw1⟩; rw [hw1]; clear hw1 w1)
                obtain ⟨bG, hbG⟩ : ∃ x, x = batsG l (if hasM k 98 then (gN 8 l Ds).2 else 0).toNat (if hasM k 98 then (gN 8 l Ds).1 else Ds) := ⟨_, rfl⟩
                go_cut [] (fun W => ∃ ub qs, Hid (Fm p w W v bG.1 (msP Ax [Fx, Gx] Nx Dx bG.2) ub ud qs))
                case first =>
                  cases hh : hasM k 98 with
                  | true =>
                    rw [hh] at hbG
                    simp only [↓reduceIte] at hbG
                    have HC0 := hide (rint_gs p v l 8 Ds _ HF0.out.rd (HV.out.bx HF0.out.bx) hl HBY.out HS.out (by decide) (by decide))
                    have hrg := gN_range (l := l) (s := Ds) HBY.out 8 (by decide)
                    have hpt2 : (gN 8 l Ds).1.pt ≤ l.length := gN_pt HBY.out HS.out
                    generalize gN 8 l Ds = Q at *
                    obtain ⟨s8, x8⟩ := Q
                    simp only at HC0 hbG hrg hpt2
                    obtain ⟨M, rfl⟩ : ∃ M : Nat, x8 = (M : Int) := ⟨x8.toNat, by omega⟩
                    rw [Int.toNat_natCast] at hbG
                    have HBG := hide hbG
                    clear hbG
                    have hM : M ≤ 8 := by omega
                    go_upto_region 21 with (first | (go_at_call 83; refine HC0.out.mono ?_; rintro e w5 ⟨rfl, hr5, hb5⟩; have HF5 := hide (HF0.out.step hr5 hb5); clear hr5 hb5))
                    clear HF0 HC0
                    go_wp2_with fail
                    go_loopw [52] (fun i wr => ∃ (j : Nat) (ub : Value) (qs : List Bq), j ≤ M ∧ i = .int .i64 (j : Int) ∧ Hid (Fm p w wr v (batsG l j s8).1 (msP Ax [Fx, Gx] Nx Dx (batsG l j s8).2) ub ud qs)) (fun i _ => M - (intOf i).toNat)
                    case atStart => exact ⟨0, _, [], Nat.zero_le _, rfl, HF5⟩
                    case round =>
                      clear HF5
                      obtain ⟨j, ub, qs, hj, rfl, HFJ⟩ := hrel
                      by_cases hlt : j < M
                      · have hltI : (j : Int) < (M : Int) := by omega
                        have hptj := bats_pt HBY.out hpt2 j
                        have hlqs : qs.length ≤ 8 := by have e1 := bats_len l s8 j; have e2 := congrArg List.length HFJ.out.bs; rw [bts_len] at e2; change qs.length = (batsG l j s8).2.length at e2; omega
                        have HSU := hide (batsG_succ l j s8)
                        generalize batsG l j s8 = Qj at *
                        obtain ⟨sj, bsj⟩ := Qj
                        simp only at HFJ HSU hptj
                        have HC := hide (fun W (h : RdG W p v sj) (hb : Bx p w W) => next_any p v l sj W h (HV.out.bx hb) hl HBY.out hptj (hb.handle hpz HG.out) hpz)
                        generalize nextG l sj = RR at *
                        obtain ⟨s', x⟩ := RR
                        simp only at HC HSU
                        obtain ⟨ao, cap, hu⟩ : ∃ ao cap, ub = .slice ao qs.length cap := by
                          rcases HFJ.out.own.2 with ⟨rfl, h0⟩ | ⟨g, cap, cur, rfl, _⟩
                          · exact ⟨none, 0, by rw [h0]⟩
                          · exact ⟨_, _, rfl⟩
                        subst hu
                        go_upto_region 22 with fail
                        refine wp_region_held_drew (S := fun _ => True) (by kernel_rfl) trivial (fun hHeld => ?_)
                        have HN0 := hide (HFJ.out.below ((Below.refl _ _).drew))
                        generalize wr.drew = W0 at HN0 ⊢
                        clear HFJ
                        refine wpAnyH_take (i := 0) (oi := _) (v := .pointer (some ⟨w.heap.size + 1, 11, none⟩)) rfl (by kernel_rfl) (by kernel_rfl) (by kernel_rfl) (fun _ _ _ h => h) (Or.inl ⟨by rfl, by intro w hSw; go_simp⟩) hHeld ?_
                        change wpAnyH _ _ _ _ _ _ _ (Act.put _ (some 54) _) _
                        simp only [Act.put, List.setIfInBounds_toArray, List.set_cons_zero, List.set_cons_succ]
                        refine wpAnyH_take (i := 2) (oi := _) (v := .pointer (some ⟨p, 0, none⟩)) rfl (by kernel_rfl) (by kernel_rfl) (by kernel_rfl) (fun _ _ _ h => h) (Or.inl ⟨by rfl, by intro w hSw; go_simp⟩) hHeld ?_
                        change wpAnyH _ _ _ _ _ _ _ (Act.put _ (some 56) _) _
                        simp only [Act.put, List.setIfInBounds_toArray, List.set_cons_zero, List.set_cons_succ]
                        refine wpAnyH_ready (rs := [1, 3]) (by kernel_rfl) (by simp) ?_
                        refine AllReadyH.cons (o := _) rfl (fun K hK => ?_) (AllReadyH.cons (o := _) rfl (fun K hK => ?_) AllReadyH.nil)
                        · have i2 := HN0.out.rg 11 _ rfl
                          rw [Nat.zero_add] at i2
                          change _ = some (Value.slice ao qs.length cap) at i2
                          go_simp
                          clear i2
                          refine hK.out _ _ ?_ (fun hHeld1 => ?_)
                          · exact trivial
                          clear hK K hHeld
                          have hHeld := hHeld1
                          clear hHeld1
                          refine wpAnyH_ready (rs := [3]) (by kernel_rfl) (by simp) ?_
                          refine AllReadyH.cons (o := _) rfl (fun K hK => ?_) AllReadyH.nil
                          go_simp
                          go_at_call 86
                          refine (HC.out _ HN0.out.rd HN0.out.bx).mono ?_
                          rintro e V1 ⟨vx, rfl, hx, hr, hb⟩
                          go_wp2_with fail
                          refine hK.out _ _ ?_ (fun hHeld1 => ?_)
                          · exact trivial
                          clear hK K hHeld
                          have hHeld := hHeld1
                          clear hHeld1
                          obtain ⟨u0', ps0, rfl, hq2, hq1⟩ := hx
                          obtain ⟨a0, c0, rfl⟩ := hq2.form
                          have hob := HN0.out.ob
                          have hsz := HN0.out.sz
                          have HQW : Hid (Rl (fun k => w.heap.size + 2 ≤ k ∧ (Value.slice ao qs.length cap).ownBlock ≠ some k) (fun k => w.heap.size + 2 ≤ k ∧ (Value.slice ao qs.length cap).ownBlock ≠ some k) V1 (.slice a0 ps0.length c0) ps0) := hide (hq2.imp (fun k _ hk => ⟨by omega, fun e => by have := (hob k e).2; omega⟩) (fun k _ hk => ⟨by omega, fun e => by have := (hob k e).2; omega⟩) (fun _ _ _ _ => rfl))
                          obtain ⟨q, hq⟩ : ∃ q : Bq, q = ⟨x.t, x.b, .slice a0 ps0.length c0, ps0⟩ := ⟨_, rfl⟩
                          have HQT : Hid (btq q = x) := hide (by rw [hq]; unfold btq; simp only; rw [hq1])
                          have HN1 := hide (HN0.out.step hr hb)
                          clear hq2 hq1 hr hb hob hsz HN0
                          refine wpAnyH_ready (rs := [4]) (by kernel_rfl) (by simp) ?_
                          refine AllReadyH.cons (o := _) rfl (fun K hK => ?_) AllReadyH.nil
                          refine step_build_bt rfl _ rfl x.t x.b a0 ps0.length c0 rfl ?_
                          show K (Act.put _ (some 58) _) _
                          simp only [Act.put, List.setIfInBounds_toArray, List.set_cons_zero, List.set_cons_succ]
                          refine hK.out _ _ ?_ (fun hHeld1 => ?_)
                          · exact trivial
                          clear hK K hHeld
                          have hHeld := hHeld1
                          clear hHeld1
                          have hbl : Below V1.heap.size V1 (V1.alloc (.cells #[.int .i64 x.t, .int .i64 x.b, .slice a0 ps0.length c0] 55)) := (Below.refl _ _).alloc (Nat.le_refl _) _
                          have HN2 := hide (HN1.out.below hbl)
                          have HQ2 := hide (HQW.out.below hbl)
                          have HNW : Hid (∀ j u, (bce q)[j]? = some u → (V1.alloc (.cells #[.int .i64 x.t, .int .i64 x.b, .slice a0 ps0.length c0] 55)).cell? ((⟨V1.heap.size, 0, none⟩ : Addr).add j) = some u) := hide (by rw [hq]; exact range_news (range_new V1 [.int .i64 x.t, .int .i64 x.b, .slice a0 ps0.length c0] 55))
                          generalize V1.alloc (.cells #[.int .i64 x.t, .int .i64 x.b, .slice a0 ps0.length c0] 55) = U2 at HN2 HQ2 HNW ⊢
                          generalize V1.heap.size = D at HNW ⊢
                          clear hbl HN1 HQW
                          refine wpAnyH_ready (rs := [5]) (by kernel_rfl) (by simp) ?_
                          refine AllReadyH.cons (o := _) rfl (fun K hK => ?_) AllReadyH.nil
                          refine step_append_bt rfl _ _ rfl (w.heap.size + 2) (.slice ao qs.length cap) qs.length (bcs qs) rfl HN2.out.own (by have := HN2.out.sz; omega) ⟨D, 0, none⟩ 1 (bce q) rfl rfl HNW.out (fun u hu => by rw [hq] at hu; simp [bce] at hu; rcases hu with rfl | rfl | rfl <;> rfl) (by omega) ?_
                          intro V3 u' ho hgr hub
                          have hzV := HN2.out.sz
                          have c5 : V3.cell? ⟨w.heap.size + 1, 11, none⟩ = some (.slice ao qs.length cap) := (World.cell?_of_block (hgr.block (w.heap.size + 1) hzV (fun e => by have := (HN2.out.ob _ e.symm).1; omega))).trans (by have := HN2.out.rg 11 _ rfl; rwa [Nat.zero_add] at this)
                          have f5 : V3.frozen? ⟨w.heap.size + 1, 11, none⟩ = false := (World.frozen?_of_block (hgr.block (w.heap.size + 1) hzV (fun e => by have := (HN2.out.ob _ e.symm).1; omega))).trans (HN2.out.fz 11)
                          have HNF := hide (HN2.out.app (m' := msP Ax [Fx, Gx] Nx Dx (bsj ++ [x])) (by rw [hq]; exact HQ2.out) ho hgr hub (by rw [HQT.out]; rfl))
                          obtain ⟨a6, c6, hu6⟩ : ∃ a6 c6, u' = .slice a6 (qs.length + 1) c6 := by
                            rcases ho.2 with ⟨_, h0⟩ | ⟨g, cap, cur, rfl, _⟩
                            · omega
                            · exact ⟨_, _, rfl⟩
                          clear ho hgr hub HN2 HQ2 HNW
                          subst hu6
                          show K (Act.put _ (some 59) _) _
                          simp only [Act.put, List.setIfInBounds_toArray, List.set_cons_zero, List.set_cons_succ]
                          refine hK.out _ _ ?_ (fun hHeld1 => ?_)
                          · exact trivial
                          clear hK K hHeld
                          have hHeld := hHeld1
                          clear hHeld1
                          refine wpAnyH_take (i := 6) (oi := _) (v := .pointer (some ⟨w.heap.size + 1, 11, none⟩)) rfl (by kernel_rfl) (by kernel_rfl) (by kernel_rfl) (fun _ _ _ h => h) (Or.inl ⟨by rfl, by intro w hSw; go_simp⟩) hHeld ?_
                          change wpAnyH _ _ _ _ _ _ _ (Act.put _ (some 60) _) _
                          simp only [Act.put, List.setIfInBounds_toArray, List.set_cons_zero, List.set_cons_succ]
                          refine wpAnyH_ready (rs := [7]) (by kernel_rfl) (by simp) ?_
                          refine AllReadyH.cons (o := _) rfl (fun K hK => ?_) AllReadyH.nil
                          go_simp
                          clear c5 f5
                          refine hK.out _ _ ?_ (fun hHeld1 => ?_)
                          · exact trivial
                          clear hK K hHeld
                          have hHeld := hHeld1
                          clear hHeld1
                          refine wpAnyH_done (by kernel_rfl) ?_ _
                          go_wp2_with fail
                          go_roundw
                          case rel => exact ⟨j + 1, _, qs ++ [q], by omega, by go_num, hide (by rw [HSU.out]; exact HNF.out)⟩
                          case measure => simp [intOf]; omega
                        · go_simp
                          go_at_call 86
                          refine (HC.out _ HN0.out.rd HN0.out.bx).mono ?_
                          rintro e V1 ⟨vx, rfl, hx, hr, hb⟩
                          go_wp2_with fail
                          refine hK.out _ _ ?_ (fun hHeld1 => ?_)
                          · exact trivial
                          clear hK K hHeld
                          have hHeld := hHeld1
                          clear hHeld1
                          obtain ⟨u0', ps0, rfl, hq2, hq1⟩ := hx
                          obtain ⟨a0, c0, rfl⟩ := hq2.form
                          have hob := HN0.out.ob
                          have hsz := HN0.out.sz
                          have HQW : Hid (Rl (fun k => w.heap.size + 2 ≤ k ∧ (Value.slice ao qs.length cap).ownBlock ≠ some k) (fun k => w.heap.size + 2 ≤ k ∧ (Value.slice ao qs.length cap).ownBlock ≠ some k) V1 (.slice a0 ps0.length c0) ps0) := hide (hq2.imp (fun k _ hk => ⟨by omega, fun e => by have := (hob k e).2; omega⟩) (fun k _ hk => ⟨by omega, fun e => by have := (hob k e).2; omega⟩) (fun _ _ _ _ => rfl))
                          obtain ⟨q, hq⟩ : ∃ q : Bq, q = ⟨x.t, x.b, .slice a0 ps0.length c0, ps0⟩ := ⟨_, rfl⟩
                          have HQT : Hid (btq q = x) := hide (by rw [hq]; unfold btq; simp only; rw [hq1])
                          have HN1 := hide (HN0.out.step hr hb)
                          clear hq2 hq1 hr hb hob hsz HN0
                          refine wpAnyH_ready (rs := [1, 4]) (by kernel_rfl) (by simp) ?_
                          refine AllReadyH.cons (o := _) rfl (fun K hK => ?_) (AllReadyH.cons (o := _) rfl (fun K hK => ?_) AllReadyH.nil)
                          · have i2 := HN1.out.rg 11 _ rfl
                            rw [Nat.zero_add] at i2
                            change _ = some (Value.slice ao qs.length cap) at i2
                            go_simp
                            clear i2
                            refine hK.out _ _ ?_ (fun hHeld1 => ?_)
                            · exact trivial
                            clear hK K hHeld
                            have hHeld := hHeld1
                            clear hHeld1
                            refine wpAnyH_ready (rs := [4]) (by kernel_rfl) (by simp) ?_
                            refine AllReadyH.cons (o := _) rfl (fun K hK => ?_) AllReadyH.nil
                            refine step_build_bt rfl _ rfl x.t x.b a0 ps0.length c0 rfl ?_
                            show K (Act.put _ (some 58) _) _
                            simp only [Act.put, List.setIfInBounds_toArray, List.set_cons_zero, List.set_cons_succ]
                            refine hK.out _ _ ?_ (fun hHeld1 => ?_)
                            · exact trivial
                            clear hK K hHeld
                            have hHeld := hHeld1
                            clear hHeld1
                            have hbl : Below V1.heap.size V1 (V1.alloc (.cells #[.int .i64 x.t, .int .i64 x.b, .slice a0 ps0.length c0] 55)) := (Below.refl _ _).alloc (Nat.le_refl _) _
                            have HN2 := hide (HN1.out.below hbl)
                            have HQ2 := hide (HQW.out.below hbl)
                            have HNW : Hid (∀ j u, (bce q)[j]? = some u → (V1.alloc (.cells #[.int .i64 x.t, .int .i64 x.b, .slice a0 ps0.length c0] 55)).cell? ((⟨V1.heap.size, 0, none⟩ : Addr).add j) = some u) := hide (by rw [hq]; exact range_news (range_new V1 [.int .i64 x.t, .int .i64 x.b, .slice a0 ps0.length c0] 55))
                            generalize V1.alloc (.cells #[.int .i64 x.t, .int .i64 x.b, .slice a0 ps0.length c0] 55) = U2 at HN2 HQ2 HNW ⊢
                            generalize V1.heap.size = D at HNW ⊢
                            clear hbl HN1 HQW
                            refine wpAnyH_ready (rs := [5]) (by kernel_rfl) (by simp) ?_
                            refine AllReadyH.cons (o := _) rfl (fun K hK => ?_) AllReadyH.nil
                            refine step_append_bt rfl _ _ rfl (w.heap.size + 2) (.slice ao qs.length cap) qs.length (bcs qs) rfl HN2.out.own (by have := HN2.out.sz; omega) ⟨D, 0, none⟩ 1 (bce q) rfl rfl HNW.out (fun u hu => by rw [hq] at hu; simp [bce] at hu; rcases hu with rfl | rfl | rfl <;> rfl) (by omega) ?_
                            intro V3 u' ho hgr hub
                            have hzV := HN2.out.sz
                            have c5 : V3.cell? ⟨w.heap.size + 1, 11, none⟩ = some (.slice ao qs.length cap) := (World.cell?_of_block (hgr.block (w.heap.size + 1) hzV (fun e => by have := (HN2.out.ob _ e.symm).1; omega))).trans (by have := HN2.out.rg 11 _ rfl; rwa [Nat.zero_add] at this)
                            have f5 : V3.frozen? ⟨w.heap.size + 1, 11, none⟩ = false := (World.frozen?_of_block (hgr.block (w.heap.size + 1) hzV (fun e => by have := (HN2.out.ob _ e.symm).1; omega))).trans (HN2.out.fz 11)
                            have HNF := hide (HN2.out.app (m' := msP Ax [Fx, Gx] Nx Dx (bsj ++ [x])) (by rw [hq]; exact HQ2.out) ho hgr hub (by rw [HQT.out]; rfl))
                            obtain ⟨a6, c6, hu6⟩ : ∃ a6 c6, u' = .slice a6 (qs.length + 1) c6 := by
                              rcases ho.2 with ⟨_, h0⟩ | ⟨g, cap, cur, rfl, _⟩
                              · omega
                              · exact ⟨_, _, rfl⟩
                            clear ho hgr hub HN2 HQ2 HNW
                            subst hu6
                            show K (Act.put _ (some 59) _) _
                            simp only [Act.put, List.setIfInBounds_toArray, List.set_cons_zero, List.set_cons_succ]
                            refine hK.out _ _ ?_ (fun hHeld1 => ?_)
                            · exact trivial
                            clear hK K hHeld
                            have hHeld := hHeld1
                            clear hHeld1
                            refine wpAnyH_take (i := 6) (oi := _) (v := .pointer (some ⟨w.heap.size + 1, 11, none⟩)) rfl (by kernel_rfl) (by kernel_rfl) (by kernel_rfl) (fun _ _ _ h => h) (Or.inl ⟨by rfl, by intro w hSw; go_simp⟩) hHeld ?_
                            change wpAnyH _ _ _ _ _ _ _ (Act.put _ (some 60) _) _
                            simp only [Act.put, List.setIfInBounds_toArray, List.set_cons_zero, List.set_cons_succ]
                            refine wpAnyH_ready (rs := [7]) (by kernel_rfl) (by simp) ?_
                            refine AllReadyH.cons (o := _) rfl (fun K hK => ?_) AllReadyH.nil
                            go_simp
                            clear c5 f5
                            refine hK.out _ _ ?_ (fun hHeld1 => ?_)
                            · exact trivial
                            clear hK K hHeld
                            have hHeld := hHeld1
                            clear hHeld1
                            refine wpAnyH_done (by kernel_rfl) ?_ _
                            go_wp2_with fail
                            go_roundw
                            case rel => exact ⟨j + 1, _, qs ++ [q], by omega, by go_num, hide (by rw [HSU.out]; exact HNF.out)⟩
                            case measure => simp [intOf]; omega
                          · refine step_build_bt rfl _ rfl x.t x.b a0 ps0.length c0 rfl ?_
                            show K (Act.put _ (some 58) _) _
                            simp only [Act.put, List.setIfInBounds_toArray, List.set_cons_zero, List.set_cons_succ]
                            refine hK.out _ _ ?_ (fun hHeld1 => ?_)
                            · exact trivial
                            clear hK K hHeld
                            have hHeld := hHeld1
                            clear hHeld1
                            have hbl : Below V1.heap.size V1 (V1.alloc (.cells #[.int .i64 x.t, .int .i64 x.b, .slice a0 ps0.length c0] 55)) := (Below.refl _ _).alloc (Nat.le_refl _) _
                            have HN2 := hide (HN1.out.below hbl)
                            have HQ2 := hide (HQW.out.below hbl)
                            have HNW : Hid (∀ j u, (bce q)[j]? = some u → (V1.alloc (.cells #[.int .i64 x.t, .int .i64 x.b, .slice a0 ps0.length c0] 55)).cell? ((⟨V1.heap.size, 0, none⟩ : Addr).add j) = some u) := hide (by rw [hq]; exact range_news (range_new V1 [.int .i64 x.t, .int .i64 x.b, .slice a0 ps0.length c0] 55))
                            generalize V1.alloc (.cells #[.int .i64 x.t, .int .i64 x.b, .slice a0 ps0.length c0] 55) = U2 at HN2 HQ2 HNW ⊢
                            generalize V1.heap.size = D at HNW ⊢
                            clear hbl HN1 HQW
                            refine wpAnyH_ready (rs := [1]) (by kernel_rfl) (by simp) ?_
                            refine AllReadyH.cons (o := _) rfl (fun K hK => ?_) AllReadyH.nil
                            have i2 := HN2.out.rg 11 _ rfl
                            rw [Nat.zero_add] at i2
                            change _ = some (Value.slice ao qs.length cap) at i2
                            go_simp
                            clear i2
                            refine hK.out _ _ ?_ (fun hHeld1 => ?_)
                            · exact trivial
                            clear hK K hHeld
                            have hHeld := hHeld1
                            clear hHeld1
                            refine wpAnyH_ready (rs := [5]) (by kernel_rfl) (by simp) ?_
                            refine AllReadyH.cons (o := _) rfl (fun K hK => ?_) AllReadyH.nil
                            refine step_append_bt rfl _ _ rfl (w.heap.size + 2) (.slice ao qs.length cap) qs.length (bcs qs) rfl HN2.out.own (by have := HN2.out.sz; omega) ⟨D, 0, none⟩ 1 (bce q) rfl rfl HNW.out (fun u hu => by rw [hq] at hu; simp [bce] at hu; rcases hu with rfl | rfl | rfl <;> rfl) (by omega) ?_
                            intro V3 u' ho hgr hub
                            have hzV := HN2.out.sz
                            have c5 : V3.cell? ⟨w.heap.size + 1, 11, none⟩ = some (.slice ao qs.length cap) := (World.cell?_of_block (hgr.block (w.heap.size + 1) hzV (fun e => by have := (HN2.out.ob _ e.symm).1; omega))).trans (by have := HN2.out.rg 11 _ rfl; rwa [Nat.zero_add] at this)
                            have f5 : V3.frozen? ⟨w.heap.size + 1, 11, none⟩ = false := (World.frozen?_of_block (hgr.block (w.heap.size + 1) hzV (fun e => by have := (HN2.out.ob _ e.symm).1; omega))).trans (HN2.out.fz 11)
                            have HNF := hide (HN2.out.app (m' := msP Ax [Fx, Gx] Nx Dx (bsj ++ [x])) (by rw [hq]; exact HQ2.out) ho hgr hub (by rw [HQT.out]; rfl))
                            obtain ⟨a6, c6, hu6⟩ : ∃ a6 c6, u' = .slice a6 (qs.length + 1) c6 := by
                              rcases ho.2 with ⟨_, h0⟩ | ⟨g, cap, cur, rfl, _⟩
                              · omega
                              · exact ⟨_, _, rfl⟩
                            clear ho hgr hub HN2 HQ2 HNW
                            subst hu6
                            show K (Act.put _ (some 59) _) _
                            simp only [Act.put, List.setIfInBounds_toArray, List.set_cons_zero, List.set_cons_succ]
                            refine hK.out _ _ ?_ (fun hHeld1 => ?_)
                            · exact trivial
                            clear hK K hHeld
                            have hHeld := hHeld1
                            clear hHeld1
                            refine wpAnyH_take (i := 6) (oi := _) (v := .pointer (some ⟨w.heap.size + 1, 11, none⟩)) rfl (by kernel_rfl) (by kernel_rfl) (by kernel_rfl) (fun _ _ _ h => h) (Or.inl ⟨by rfl, by intro w hSw; go_simp⟩) hHeld ?_
                            change wpAnyH _ _ _ _ _ _ _ (Act.put _ (some 60) _) _
                            simp only [Act.put, List.setIfInBounds_toArray, List.set_cons_zero, List.set_cons_succ]
                            refine wpAnyH_ready (rs := [7]) (by kernel_rfl) (by simp) ?_
                            refine AllReadyH.cons (o := _) rfl (fun K hK => ?_) AllReadyH.nil
                            go_simp
                            clear c5 f5
                            refine hK.out _ _ ?_ (fun hHeld1 => ?_)
                            · exact trivial
                            clear hK K hHeld
                            have hHeld := hHeld1
                            clear hHeld1
                            refine wpAnyH_done (by kernel_rfl) ?_ _
                            go_wp2_with fail
                            go_roundw
                            case rel => exact ⟨j + 1, _, qs ++ [q], by omega, by go_num, hide (by rw [HSU.out]; exact HNF.out)⟩
                            case measure => simp [intOf]; omega
                      · obtain rfl : j = M := by omega
                        clear hlt
                        go_wp2_with fail
                        go_meet
                        exact ⟨ub, qs, by rw [HBG.out]; exact HFJ⟩
                  | false =>
                    rw [hh] at hbG
                    simp only [Bool.false_eq_true, ↓reduceIte] at hbG
                    have HBG := hide hbG
                    clear hbG
                    go_wp2_with fail
                    go_meet
                    exact ⟨_, [], by rw [HBG.out]; exact HF0⟩
                case rest =>
                  clear HF0 HH
                  obtain ⟨ub, qs, HF0⟩ := hcut
                  have HBM : Hid (bodyM l k s = (bG.1, { (msP Ax [Fx, Gx] Nx Dx bG.2) with k := k })) := hide (by
                    unfold bodyM
                    simp only
                    rw [HQA.out]
                    simp only
                    rw [show fL false (gF l) (hF2 k) As = ((if hasM k 103 then gF l (if hasM k 97 then gF l As else (As, false)).1 else ((if hasM k 97 then gF l As else (As, false)).1, false)).1, [(if hasM k 97 then gF l As else (As, false)).2, (if hasM k 103 then gF l (if hasM k 97 then gF l As else (As, false)).1 else ((if hasM k 97 then gF l As else (As, false)).1, false)).2]) from rfl, HQF.out]
                    simp only
                    rw [HQG.out]
                    simp only
                    rw [HQN.out]
                    simp only
                    rw [show fL [] (gD l) [hasM k 100] Ns = ((if hasM k 100 then gD l Ns else (Ns, [])).1, [(if hasM k 100 then gD l Ns else (Ns, [])).2]) from rfl, HQD.out]
                    simp only
                    rw [show fL 0 (gN 8 l) [hasM k 98] Ds = ((if hasM k 98 then gN 8 l Ds else (Ds, 0)).1, [(if hasM k 98 then gN 8 l Ds else (Ds, 0)).2]) from rfl]
                    simp only [List.getD_cons_zero]
                    rw [hbG]
                    cases hasM k 98 <;> rfl)
                  clear hbG HS
                  obtain ⟨sF, bsF⟩ := bG
                  simp only at HF0 HBM
                  obtain ⟨VF, rfl⟩ : ∃ x : World, x = wc := ⟨_, rfl⟩
                  obtain ⟨au, cu, eu⟩ : ∃ au cu, ub = .slice au qs.length cu := by
                    rcases HF0.out.own.2 with ⟨rfl, h0⟩ | ⟨g, cap, cur, rfl, _⟩
                    · exact ⟨none, 0, by rw [h0]⟩
                    · exact ⟨_, _, rfl⟩
                  obtain ⟨ad, cd, ed⟩ : ∃ ad cd, ud = .slice ad Dx.length cd := HF0.out.da.sl.form
                  subst eu ed
                  have HRG := hide HF0.out.rg
                  have HTH := hide HF0.out.th
                  have hRp : w.heap.size ≠ p := by have := HF0.out.hp; omega
                  have HIS : Hid (IsMn (fun k => w.heap.size ≤ k) (VF.setCells w.heap.size 0 (cellsM (msP Ax [Fx, Gx] Nx Dx bsF) (.slice au qs.length cu) (.slice ad Dx.length cd))) (.agg (cellsM (msP Ax [Fx, Gx] Nx Dx bsF) (.slice au qs.length cu) (.slice ad Dx.length cd)).toArray) (msP Ax [Fx, Gx] Nx Dx bsF)) := hide ((fm_isM HF0.out (fun k i hk => cell_many hk _ _)).imp (fun k _ hk => by omega) (fun _ _ _ _ => rfl))
                  have HRD : Hid (RdG (VF.setCells w.heap.size 0 (cellsM (msP Ax [Fx, Gx] Nx Dx bsF) (.slice au qs.length cu) (.slice ad Dx.length cd))) p v sF) := hide (rdG_many hRp _ _ HF0.out.rd)
                  have HBX : Hid (Bx p w (VF.setCells w.heap.size 0 (cellsM (msP Ax [Fx, Gx] Nx Dx bsF) (.slice au qs.length cu) (.slice ad Dx.length cd)))) := hide (Bx.many (Nat.le_refl _) _ _ HF0.out.bx)
                  have HRR : Hid ((VF.setCells w.heap.size 0 (cellsM (msP Ax [Fx, Gx] Nx Dx bsF) (.slice au qs.length cu) (.slice ad Dx.length cd))).rangeAt w.heap.size 0 (cellsM (msP Ax [Fx, Gx] Nx Dx bsF) (.slice au qs.length cu) (.slice ad Dx.length cd))) := hide (World.rangeAt_setCells_same _ _ _ _ HTH.out)
                  have HON := hide (cellsM_one (msP Ax [Fx, Gx] Nx Dx bsF) au ad qs.length cu Dx.length cd)
                  clear HF0
                  go_wp2_with (first | (refine wpList_load_mid rfl _ _ rfl _ _ rfl _ _ HRG.out Tryz.underlying25 rfl (by kernel_rfl) ?_) | (refine wpList_store_mid rfl _ _ _ rfl w.heap.size 0 (cellsM (msP Ax [Fx, Gx] Nx Dx bsF) (.slice au qs.length cu) (.slice ad Dx.length cd)).toArray rfl rfl HTH.out (by kernel_rfl) HON.out ?_))
                  exact bodyPost_ret (v := .agg (cellsM (msP Ax [Fx, Gx] Nx Dx bsF) (.slice au qs.length cu) (.slice ad Dx.length cd)).toArray) (results_mid Tryz.results50 _ _ w.heap.size _ _ rfl HRR.out Tryz.underlying25 rfl (by kernel_rfl)) rfl ⟨_, rfl, by rw [HBM.out]; exact HIS.out, by rw [HBM.out]; exact HRD.out, HBX.out⟩
end Go.Proofs.YtkpknkhacmggnaaGreatDoor
namespace Go.Proofs.YtkpknkhacmggnaaGreatDoor
open Go.RowKit

/-- Two results, the first of which lies in many cells. -/
theorem results_mid2 {P : Program} {fn : Func} {q r : Tmp} {ty : TypeId} (h : fn.results = #[.cell q ty, .tmp r]) (tmps : Array Value) (w : World) (b : Nat) (cs : List Value) (d : TypeDesc) (e : Value) (hp : tmps.getD q undef = .pointer (some ⟨b, 0, none⟩)) (he : tmps.getD r undef = e) (hc : w.rangeAt b 0 cs) (hu : P.underlying ty = some d) (hd : d.isRow = true) (hi : (P.info? ty).map (·.size) = some cs.length) :
    (results fn tmps).run P w = .ok (.tuple #[.agg cs.toArray, e]) w := by
  have hp' : tmps[q]?.getD undef = .pointer (some ⟨b, 0, none⟩) := by simpa using hp
  have he' : tmps[r]?.getD undef = e := by simpa using he
  simp [results, h, hp', he', asAddr, run_loadVar_mid w b 0 ty cs d hc hu hd hi]
theorem there_newM (w : World) : (w.alloc (.cells #[.int .i64 0, .int .i64 0, .int .i64 0, .int .i64 0, .bool false, .bool false, .int .i64 0, .int .i64 0, .int .i64 0, .int .i64 0, .int .i64 0, .slice none 0 0, .int .i64 0, .int .i64 0, .slice none 0 0] 25)).there w.heap.size 0 15 :=
  fun j hj => ⟨(range_new w [.int .i64 0, .int .i64 0, .int .i64 0, .int .i64 0, .bool false, .bool false, .int .i64 0, .int .i64 0, .int .i64 0, .int .i64 0, .int .i64 0, .slice none 0 0, .int .i64 0, .int .i64 0, .slice none 0 0] 25).isSome j hj, by simp⟩
/-- A frame, and a result of fifteen cells, in new memory. -/
theorem frame_in (w : World) (k : Int) (ao : Option Addr) (n cap : Nat) {X : World} (hX : X = ((w.alloc (.cells #[.int .i64 k, .slice ao n cap] 41)).alloc (.cells #[.int .i64 0, .int .i64 0, .int .i64 0, .int .i64 0, .bool false, .bool false, .int .i64 0, .int .i64 0, .int .i64 0, .int .i64 0, .int .i64 0, .slice none 0 0, .int .i64 0, .int .i64 0, .slice none 0 0] 25))) : Below w.heap.size w X ∧ X.heap.size = w.heap.size + 2 ∧ ∀ W, Below (w.heap.size + 2) X W → W.cell? ⟨w.heap.size, 0, none⟩ = some (.int .i64 k) ∧ W.cell? ⟨w.heap.size, 1, none⟩ = some (.slice ao n cap) ∧ W.there (w.heap.size + 1) 0 15 := by
  have hz : X.heap.size = w.heap.size + 2 := by rw [hX]; simp
  refine ⟨by rw [hX]; exact ((Below.refl _ _).alloc (Nat.le_refl _) _).alloc (by simp) _, hz, fun W h => ?_⟩
  have hc : ∀ b i, b < w.heap.size + 2 → W.cell? ⟨b, i, none⟩ = X.cell? ⟨b, i, none⟩ := fun b i hb => h.cell (p := ⟨b, i, none⟩) hb
  have hf : ∀ b i, b < w.heap.size + 2 → W.frozen? ⟨b, i, none⟩ = X.frozen? ⟨b, i, none⟩ := fun b i hb => h.frozen (p := ⟨b, i, none⟩) hb
  have ht := there_newM (w.alloc (.cells #[.int .i64 k, .slice ao n cap] 41))
  rw [show (w.alloc (.cells #[.int .i64 k, .slice ao n cap] 41)).heap.size = w.heap.size + 1 by simp, ← hX] at ht
  exact ⟨by rw [hc _ _ (by omega), hX]; simp, by rw [hc _ _ (by omega), hX]; simp, fun j hj => by rw [hc _ _ (by omega), hf _ _ (by omega)]; exact ht j hj⟩
/-- A message laid into new cells, its kind set. -/
theorem laidM (W : World) (m : Ms) (ub ud : Value) {W1 : World} (h1 : W1 = (W.alloc (.cells #[.int .i64 0, .int .i64 0, .int .i64 0, .int .i64 0, .bool false, .bool false, .int .i64 0, .int .i64 0, .int .i64 0, .int .i64 0, .int .i64 0, .slice none 0 0, .int .i64 0, .int .i64 0, .slice none 0 0] 25)).setCells W.heap.size 0 (cellsM m.k0 ub ud)) : Below W.heap.size W W1 ∧ W1.rangeAt W.heap.size 0 (cellsM m.k0 ub ud) ∧ W.heap.size < W1.heap.size ∧ W1.frozen? ⟨W.heap.size, 0, none⟩ = false ∧ (W1.setCell ⟨W.heap.size, 0, none⟩ (.int .i64 m.k)).rangeAt W.heap.size 0 (cellsM m ub ud) := by
  have hbl : Below W.heap.size W (W.alloc (.cells #[.int .i64 0, .int .i64 0, .int .i64 0, .int .i64 0, .bool false, .bool false, .int .i64 0, .int .i64 0, .int .i64 0, .int .i64 0, .int .i64 0, .slice none 0 0, .int .i64 0, .int .i64 0, .slice none 0 0] 25)) := (Below.refl _ _).alloc (Nat.le_refl _) _
  have hrg : W1.rangeAt W.heap.size 0 (cellsM m.k0 ub ud) := by rw [h1]; exact World.rangeAt_setCells_same _ _ _ _ (there_newM W)
  refine ⟨by rw [h1]; exact below_many (Nat.le_refl _) _ _ hbl, hrg, cell_block (hrg 0 _ rfl), ?_, range_set hrg (i := 0) (show 0 < 15 by decide)⟩
  rw [h1, World.frozen?_setCells]
  simp
theorem there_bel {W W' : World} {b n : Nat} (h : W.there b 0 n) (hb : Below W.heap.size W W') (hl : b < W.heap.size) : W'.there b 0 n := fun j hj => by
  rw [hb.cell (p := ⟨b, 0 + j, none⟩) hl, hb.frozen (p := ⟨b, 0 + j, none⟩) hl]
  exact h j hj
theorem chk_tx {r : Rc} (h : (chk r).2.2 = 0) : TxR r := by
  have hi := chk_is h
  have hn : ∀ (S : List UInt8) (b : Bool), nameA S b = true → S.length ≤ 1000 := fun S b e => by
    have := nameA_asks e
    split at this
    · omega
    · rw [this]; simp
  exact ⟨hn _ _ hi.nm, hn _ _ hi.ky, by have := hi.va; omega, hn _ _ hi.rk⟩
theorem msOk_tx {m : Ms} (h : MsOk m) : TxM m ∧ m.bs.length ≤ 8 := by
  refine ⟨fun x hx r hr => chk_tx ((bw_ok (h.bs x hx).1).2.2.2 r hr), ?_⟩
  have h1 := h.ct.1
  split at h1
  · omega
  · have : (m.bs.length : Int) = 0 := h1
    omega
theorem body_kM (l : List Int) (k : Int) (s : Gs) : (bodyM l k s).2.k = k := rfl
theorem erN_ev (op : ByteArray) (a c : Int) (h : c ≠ 0) : erN op a c = ev (some ([(op, a)], c)) := by
  unfold erN
  rw [if_neg h]
  rfl
/-- What a call of Read leaves. -/
def RdP (k : Int) (l : List Int) (w : World) (e : Ending) (w' : World) : Prop :=
  ∃ vx X, e = .returned (.tuple #[vx, ev X]) ∧ IsMn (fun b => w.heap.size ≤ b) w' vx (readM k l).2 ∧ Tells X (readM k l).1 ∧ Below w.heap.size w w'
set_option maxRecDepth 100000 in
set_option maxHeartbeats 16000000 in
theorem mread_kindz (k : Int) (ao : Option Addr) (n cap : Nat) (l : List Int) (w : World) (hk : ¬ (1 ≤ k ∧ k ≤ 8)) : Calls Tryz.prog 19 #[.agg #[.int .i64 k, .slice ao n cap]] w fun e w' => e = .returned (.tuple #[.agg (cellsM Ms.zero (.slice none 0 0) (.slice none 0 0)).toArray, ev (some ([(⟨#[107, 105, 110, 100]⟩, k)], 5))]) ∧ Tells (some ([(⟨#[107, 105, 110, 100]⟩, k)], 5)) (readM k l).1 ∧ Below w.heap.size w w' := by
  have HS := hide (fun W => msubj_any k W)
  rw [show kndM k = false from decide_eq_false hk] at HS
  have HRM : Hid (readM k l = ((⟨#[107, 105, 110, 100]⟩, k, 5), Ms.zero)) := hide (by unfold readM; rw [if_pos (by omega)])
  obtain ⟨X, hX⟩ : ∃ X, X = ((w.alloc (.cells #[.int .i64 k, .slice ao n cap] 41)).alloc (.cells #[.int .i64 0, .int .i64 0, .int .i64 0, .int .i64 0, .bool false, .bool false, .int .i64 0, .int .i64 0, .int .i64 0, .int .i64 0, .int .i64 0, .slice none 0 0, .int .i64 0, .int .i64 0, .slice none 0 0] 25)) := ⟨_, rfl⟩
  obtain ⟨hb, hz, hF⟩ := frame_in w k ao n cap hX
  have HB := hide hb
  obtain ⟨c0, c1, ht⟩ := hF X (by rw [← hz]; exact Below.refl _ _)
  have HTH := hide ht
  clear hb hF ht hz
  go_enter Tryz.func19, Tryz.ntmps19
  go_upto_region 1 with fail
  rw [← hX]
  clear hX
  go_wp2_with (first | ((first | (go_at_call 26; refine (HS.out _).mono ?_) | (go_at_call 27; refine (new_any _ _ _ _).mono ?_)); rintro e w1 ⟨rfl, hw1⟩; rw [hw1]; clear hw1 w1) | (refine wpList_store_mid rfl _ _ _ rfl (w.heap.size + 1) 0 (cellsM Ms.zero (.slice none 0 0) (.slice none 0 0)).toArray rfl rfl HTH.out (by kernel_rfl) (cellsM_one Ms.zero none none 0 0 0 0) ?_))
  exact bodyPost_ret (v := .tuple #[.agg (cellsM Ms.zero (.slice none 0 0) (.slice none 0 0)).toArray, ev (some ([(⟨#[107, 105, 110, 100]⟩, k)], 5))]) (results_mid2 Tryz.results19 _ _ (w.heap.size + 1) _ _ _ rfl rfl (World.rangeAt_setCells_same _ _ _ _ HTH.out) Tryz.underlying25 rfl (by kernel_rfl)) rfl ⟨rfl, by rw [HRM.out]; exact tells_one _ _ _ (by decide), below_many (Nat.le_succ _) _ _ HB.out⟩
theorem mread_kind (k : Int) (ao : Option Addr) (n cap : Nat) (l : List Int) (w : World) (hk : ¬ (1 ≤ k ∧ k ≤ 8)) : Calls Tryz.prog 19 #[.agg #[.int .i64 k, .slice ao n cap]] w (RdP k l w) := by
  refine (mread_kindz k ao n cap l w hk).mono ?_
  rintro e w' ⟨rfl, ht, hb⟩
  exact ⟨_, _, rfl, by rw [show (readM k l).2 = Ms.zero by unfold readM; rw [if_pos (by omega)]]; exact isMn_zero _ _, ht, hb⟩
set_option maxRecDepth 100000 in
set_option maxHeartbeats 32000000 in
theorem mread_go (k : Int) (ao : Option Addr) (cap : Nat) (l : List Int) (w : World) (hk : 1 ≤ k ∧ k ≤ 8) (hv : Sl bc w (.slice ao l.length cap) l) (hl : l.length ≤ 100000) (hby : Byt l) (hg : Hnd w) : Calls Tryz.prog 19 #[.agg #[.int .i64 k, .slice ao l.length cap]] w (RdP k l w) := by
  have HS := hide (fun W => msubj_any k W)
  rw [show kndM k = true from decide_eq_true hk] at HS
  have HK := hide hk
  have HBY := hide hby
  have HV := hide hv
  have HG := hide hg
  have hpos : 0 < w.heap.size := cell_block hg
  have HRM : Hid (readM k l = if (endS l (bodyM l k (okS 0)).1).c ≠ 0 then (((endS l (bodyM l k (okS 0)).1).op, whS (endS l (bodyM l k (okS 0)).1), (endS l (bodyM l k (okS 0)).1).c), Ms.zero) else if (chkM (bodyM l k (okS 0)).2).2.2 ≠ 0 then (chkM (bodyM l k (okS 0)).2, Ms.zero) else ((⟨#[]⟩, 0, 0), (bodyM l k (okS 0)).2)) := hide (by unfold readM; rw [if_neg (by omega)])
  have HRUN : Hid ((endS l (bodyM l k (okS 0)).1).c = 0 → MsOk (bodyM l k (okS 0)).2) := hide (fun h => by
    obtain ⟨e1, _, _⟩ := endS_c h
    obtain ⟨b, _, _, _, _, _, o5⟩ := bodyM_run l hby k 0 (Nat.zero_le _) e1
    exact o5)
  have hkk := body_kM l k (okS 0)
  obtain ⟨RM, hRM⟩ : ∃ x, readM k l = x := ⟨_, rfl⟩
  rw [hRM] at HRM
  have HRMM := hide hRM
  clear hRM
  obtain ⟨X, hX⟩ : ∃ X, X = ((w.alloc (.cells #[.int .i64 k, .slice ao l.length cap] 41)).alloc (.cells #[.int .i64 0, .int .i64 0, .int .i64 0, .int .i64 0, .bool false, .bool false, .int .i64 0, .int .i64 0, .int .i64 0, .int .i64 0, .int .i64 0, .slice none 0 0, .int .i64 0, .int .i64 0, .slice none 0 0] 25)) := ⟨_, rfl⟩
  obtain ⟨hb, hz, hF⟩ := frame_in w k ao l.length cap hX
  have hz2 : w.heap.size + 2 ≤ X.heap.size := by omega
  have hz3' : X.heap.size ≤ w.heap.size + 2 := by omega
  have HB := hide hb
  have HF := hide hF
  obtain ⟨c0, c1, _⟩ := hF X (by rw [← hz]; exact Below.refl _ _)
  clear hb hF hk hby hv hg hz
  go_enter Tryz.func19, Tryz.ntmps19
  go_upto_region 1 with fail
  rw [← hX]
  clear hX
  have HRD := hide (read_any ao l.length cap X)
  go_upto_region 5 with (first | ((go_at_call 26; refine (HS.out _).mono ?_); rintro e w1 ⟨rfl, hw1⟩; rw [hw1]; clear hw1 w1) | (go_at_call 49; refine HRD.out.mono ?_; rintro e W1 ⟨rfl, hr1, hb1⟩))
  clear c0 c1 HRD
  have hlt1 : X.heap.size < W1.heap.size := hr1.lt
  have HN := hide (mrf_any X.heap.size (.slice ao l.length cap) l (okS 0) k W1 hr1 (((HV.out.below HB.out).out (Nat.le_refl _)).below hb1) hl HBY.out (Nat.zero_le _) HK.out ((HG.out.below HB.out).below hb1) (by show X.heap.size ≠ 0; omega))
  have HB1 : Hid (Below (w.heap.size + 2) X W1) := hide (hb1.mono (by omega))
  generalize bodyM l k (okS 0) = BM at *
  obtain ⟨sn, m⟩ := BM
  simp only at HN HRM HRUN hkk
  subst hkk
  clear hr1 hb1 HV HG HBY
  have HTN := hide (fun W => there_newM W)
  go_upto_region 6 with (first | (go_at_call 50; refine HN.out.mono ?_; rintro e W2 ⟨vx, rfl, hx2, hr2, hb2⟩; obtain ⟨ub, ud, qs, rfl, hbl2, hqs, hda2⟩ := hx2; obtain ⟨ab, cb, e1⟩ := hbl2.bl.form; obtain ⟨ad, cd, e2⟩ := hda2.sl.form; subst e1 e2; have HON := hide (cellsM_one m.k0 ab ad qs.length cb m.k0.da.length cd)) | (refine wpList_store_mid rfl _ _ _ rfl W2.heap.size 0 (cellsM m.k0 (.slice ab qs.length cb) (.slice ad m.k0.da.length cd)).toArray rfl rfl (HTN.out W2) (by kernel_rfl) HON.out ?_))
  have HB2 : Hid (Below (w.heap.size + 2) X W2) := hide (below_bx HB1.out hb2 (by omega) (by omega))
  obtain ⟨Y, hY⟩ : ∃ Y, Y = (W2.alloc (.cells #[.int .i64 0, .int .i64 0, .int .i64 0, .int .i64 0, .bool false, .bool false, .int .i64 0, .int .i64 0, .int .i64 0, .int .i64 0, .int .i64 0, .slice none 0 0, .int .i64 0, .int .i64 0, .slice none 0 0] 25)).setCells W2.heap.size 0 (cellsM m.k0 (.slice ab qs.length cb) (.slice ad m.k0.da.length cd)) := ⟨_, rfl⟩
  obtain ⟨hbY, hrY, hzY, yf, hrZ⟩ := laidM W2 m _ _ hY
  rw [← hY]
  have y0 := hrY 0 _ rfl
  rw [Nat.zero_add] at y0
  change _ = some (Value.int .i64 0) at y0
  have HBY : Hid (Below (w.heap.size + 2) X Y) := hide (HB2.out.trans (hbY.mono (by have := HB2.out.size; omega)))
  obtain ⟨c0, c1, _⟩ := HF.out Y HBY.out
  have hD : X.heap.size < W2.heap.size := by have := hb2.size; omega
  obtain ⟨Z, hZ⟩ : ∃ Z, Z = Y.setCell ⟨W2.heap.size, 0, none⟩ (.int .i64 m.k) := ⟨_, rfl⟩
  have HBZ : Hid (Below (w.heap.size + 2) X Z) := hide (by rw [hZ]; exact HBY.out.setCell (by exact (by omega : w.heap.size + 2 ≤ W2.heap.size)) _)
  have hbYZ : ∀ b i, b ≠ W2.heap.size → Z.cell? ⟨b, i, none⟩ = Y.cell? ⟨b, i, none⟩ := fun b i hb => by rw [hZ]; exact World.cell?_setCell_other _ _ _ _ (fun e => hb (congrArg Addr.block e).symm)
  have HIS : Hid (IsMn (fun b => W1.heap.size ≤ b ∧ b ≠ W2.heap.size) Z (.agg (cellsM m (.slice ab qs.length cb) (.slice ad m.k0.da.length cd)).toArray) m) := hide ⟨_, _, qs, rfl, (hbl2.imp (ok' := fun b => W1.heap.size ≤ b ∧ b ≠ W2.heap.size) (W' := Z) (fun b hl hk => ⟨hk, by omega⟩) (fun b i hl hk => (hbYZ b i (by omega)).trans (hbY.cell (p := ⟨b, i, none⟩) hl))), hqs, hda2.imp (fun b hl hk => ⟨hk, by omega⟩) (fun b i hl hk => (hbYZ b i (by omega)).trans (hbY.cell (p := ⟨b, i, none⟩) hl))⟩
  rw [← hZ] at hrZ
  have HRZ := hide hrZ
  have HE := hide (rend_gs X.heap.size ao cap l sn Z (by rw [hZ]; exact rdG_set (hr2.below hbY) (by omega)))
  have hzZ : W2.heap.size < Z.heap.size := by rw [hZ]; simpa [World.setCell] using hzY
  have HZE : Hid (Y.setCell ⟨W2.heap.size, 0, none⟩ (.int .i64 m.k) = Z) := hide hZ.symm
  generalize endS l sn = sE at *
  clear hr2 hb2 hbl2 hqs hda2 hrY hbY hY HN HB1 HB2 HBY hbYZ hrZ hzY HON HTN hZ
  generalize W2.heap.size = D at *
  go_upto_region 7 with fail
  rw [HZE.out]
  clear y0 yf c0 c1 HZE
  go_upto_region 8 with (first | (go_at_call 51; refine HE.out.mono ?_; rintro e W3 ⟨rfl, hr3, hb3⟩))
  have HB3 : Hid (Below (w.heap.size + 2) X W3) := hide (below_bx HBZ.out hb3 (by omega) (by have := HBZ.out.size; omega))
  have HTH := hide (HF.out W3 HB3.out).2.2
  have HR3 := hide (range_imp HRZ.out (fun i _ => hb3.cell hzZ (by omega)))
  have HI3 := hide (HIS.out.imp (ok' := fun b => W1.heap.size ≤ b ∧ b ≠ D) (W' := W3) (fun _ _ q => q) (fun b i hl hk => hb3.cell hl (by omega)))
  have HBF : Hid (Below w.heap.size w W3) := hide (HB.out.trans (HB3.out.mono (by omega)))
  have hz3 := HB3.out.size
  clear hr3 hb3 HE HRZ HIS HBZ HF hzZ
  by_cases hc : sE.c = 0
  case neg =>
    have e1 : RM = ((sE.op, whS sE, sE.c), Ms.zero) := by rw [HRM.out, if_pos hc]
    have HRE := hide e1
    have HWS : Hid (whS sE = (sE.pt : Int)) := hide (if_neg hc)
    clear e1
    rw [erN_ev _ _ _ hc]
    obtain ⟨F, U, hFU⟩ := ev_form ([(sE.op, (sE.pt : Int))], sE.c)
    rw [hFU]
    have HFU := hide hFU
    clear hFU
    go_wp2_with (refine wpList_store_mid rfl _ _ _ rfl (w.heap.size + 1) 0 (cellsM Ms.zero (.slice none 0 0) (.slice none 0 0)).toArray rfl rfl HTH.out (by kernel_rfl) (cellsM_one Ms.zero none none 0 0 0 0) ?_)
    exact bodyPost_ret (v := .tuple #[.agg (cellsM Ms.zero (.slice none 0 0) (.slice none 0 0)).toArray, .iface F U]) (results_mid2 Tryz.results19 _ _ (w.heap.size + 1) _ _ _ rfl rfl (World.rangeAt_setCells_same _ _ _ _ HTH.out) Tryz.underlying25 rfl (by kernel_rfl)) rfl ⟨_, some ([(sE.op, (sE.pt : Int))], sE.c), by rw [HFU.out], by rw [HRMM.out, HRE.out]; exact isMn_zero _ _, by rw [HRMM.out, HRE.out, HWS.out]; exact tells_one _ _ _ hc, below_many (Nat.le_succ _) _ _ HBF.out⟩
  rw [show erN sE.op sE.pt sE.c = .nilIface from if_pos hc]
  obtain ⟨htx, h8⟩ := msOk_tx (HRUN.out hc)
  have HC := hide (mcheck_any m _ W3 HI3.out.is htx (by omega))
  have HTL := hide (tells_M m)
  have HEN := hide (evM_none (m := m))
  have HRE : Hid (RM = if (chkM m).2.2 ≠ 0 then (chkM m, Ms.zero) else ((⟨#[]⟩, 0, 0), m)) := hide (by rw [HRM.out, if_neg (fun q => q hc)])
  clear htx HRUN HRM
  generalize evM m = X9 at *
  rcases X9 with _ | q
  · have h0 : (chkM m).2.2 = 0 := HEN.out.1 rfl
    have HR5 : Hid (RM = ((⟨#[]⟩, 0, 0), m)) := hide (by rw [HRE.out, if_neg (fun q => q h0)])
    clear h0 HRE HTL HEN
    rw [show ev none = .nilIface from rfl] at HC
    go_upto_region 11 with (first | (refine wpList_load_mid rfl _ _ rfl _ _ rfl _ _ HR3.out Tryz.underlying25 rfl (by kernel_rfl) ?_) | (go_at_call 11; refine HC.out.mono ?_; rintro e W4 ⟨rfl, hb4⟩; have HR4 := hide (range_bel HR3.out hb4); have HT4 : Hid (W4.there (w.heap.size + 1) 0 15) := hide (there_bel HTH.out hb4 (by omega)); have HI4 := hide (HI3.out.imp (ok' := fun b => W1.heap.size ≤ b ∧ b ≠ D) (W' := W4) (fun _ _ q => q) (fun b i hl hk => hb4.cell (p := ⟨b, i, none⟩) hl)); have HB4 := hide (HBF.out.trans (hb4.mono HBF.out.size)); clear hb4))
    have HON := hide (cellsM_one m ab ad qs.length cb m.k0.da.length cd)
    go_wp2_with (first | (refine wpList_load_mid rfl _ _ rfl _ _ rfl _ _ HR4.out Tryz.underlying25 rfl (by kernel_rfl) ?_) | (refine wpList_store_mid rfl _ _ _ rfl (w.heap.size + 1) 0 (cellsM m (.slice ab qs.length cb) (.slice ad m.k0.da.length cd)).toArray rfl rfl HT4.out (by kernel_rfl) HON.out ?_))
    exact bodyPost_ret (v := .tuple #[.agg (cellsM m (.slice ab qs.length cb) (.slice ad m.k0.da.length cd)).toArray, .nilIface]) (results_mid2 Tryz.results19 _ _ (w.heap.size + 1) _ _ _ rfl rfl (World.rangeAt_setCells_same _ _ _ _ HT4.out) Tryz.underlying25 rfl (by kernel_rfl)) rfl ⟨_, none, rfl, by rw [HRMM.out, HR5.out]; exact HI4.out.imp (fun b _ hk => by omega) (fun b i _ hk => cell_many (by omega) _ _), by rw [HRMM.out, HR5.out]; rfl, below_many (Nat.le_succ _) _ _ HB4.out⟩
  · have h0 : (chkM m).2.2 ≠ 0 := fun e => by have := HEN.out.2 e; cases this
    have HR5 : Hid (RM = (chkM m, Ms.zero)) := hide (by rw [HRE.out, if_pos h0])
    clear h0 HRE HEN
    obtain ⟨F, U, hFU⟩ := ev_form q
    rw [hFU] at HC
    have HFU := hide hFU
    clear hFU
    go_upto_region 11 with (first | (refine wpList_load_mid rfl _ _ rfl _ _ rfl _ _ HR3.out Tryz.underlying25 rfl (by kernel_rfl) ?_) | (go_at_call 11; refine HC.out.mono ?_; rintro e W4 ⟨rfl, hb4⟩; have HT4 : Hid (W4.there (w.heap.size + 1) 0 15) := hide (there_bel HTH.out hb4 (by omega)); have HB4 := hide (HBF.out.trans (hb4.mono HBF.out.size)); clear hb4))
    go_wp2_with (refine wpList_store_mid rfl _ _ _ rfl (w.heap.size + 1) 0 (cellsM Ms.zero (.slice none 0 0) (.slice none 0 0)).toArray rfl rfl HT4.out (by kernel_rfl) (cellsM_one Ms.zero none none 0 0 0 0) ?_)
    exact bodyPost_ret (v := .tuple #[.agg (cellsM Ms.zero (.slice none 0 0) (.slice none 0 0)).toArray, .iface F U]) (results_mid2 Tryz.results19 _ _ (w.heap.size + 1) _ _ _ rfl rfl (World.rangeAt_setCells_same _ _ _ _ HT4.out) Tryz.underlying25 rfl (by kernel_rfl)) rfl ⟨_, some q, by rw [HFU.out], by rw [HRMM.out, HR5.out]; exact isMn_zero _ _, by rw [HRMM.out, HR5.out]; exact HTL.out, below_many (Nat.le_succ _) _ _ HB4.out⟩
theorem mread_any (k : Int) (v : Value) (l : List Int) (w : World) (hv : Sl bc w v l) (hl : l.length ≤ 100000) (hby : Byt l) (hg : Hnd w) : Calls Tryz.prog 19 #[.agg #[.int .i64 k, v]] w (RdP k l w) := by
  obtain ⟨ao, cap, rfl⟩ := hv.form
  by_cases hk : 1 ≤ k ∧ k ≤ 8
  · exact mread_go k ao cap l w hk hv hl hby hg
  · exact mread_kind k ao _ cap l w hk
end Go.Proofs.YtkpknkhacmggnaaGreatDoor
