/-
  WHAT IS READ OF A RECORD BEHIND ITS KIND (record.fields): the walk.
-/
import Derived.Test.YthoeajiojdfgdaaGreatDoorRecFi
namespace Go.Proofs.YthoeajiojdfgdaaGreatDoor
open Go.RowKit

/-- Its cells, eighteen of them. -/
theorem Fi.range {p R X : Nat} {w W : World} {v : Value} {s : Gs} {n : List Int} {f : List Bool} {t : List (List UInt8)} {r : List Value} {rs : List (List Int)} (h : Fi p R X w W v s n f t r rs) :
    W.rangeAt X 0 [.int .i64 0, .int .i64 (n.getD 0 0), .int .i64 (n.getD 1 0), .int .i64 (n.getD 2 0), .int .i64 (n.getD 3 0), .int .i64 (n.getD 4 0), .int .i64 (n.getD 5 0), .int .i64 (n.getD 6 0), .int .i64 (n.getD 7 0), .bool (f.getD 0 false), .string ⟨(t.getD 0 []).toArray⟩, .string ⟨(t.getD 1 []).toArray⟩, .string ⟨(t.getD 2 []).toArray⟩, .string ⟨(t.getD 3 []).toArray⟩, r.getD 0 (.slice none 0 0), r.getD 1 (.slice none 0 0), r.getD 2 (.slice none 0 0), r.getD 3 (.slice none 0 0)] := fun j x hx => by
  match j, hx with
  | 0, hx => cases hx; exact h.c0
  | 1, hx => cases hx; exact h.cn 0 (by decide)
  | 2, hx => cases hx; exact h.cn 1 (by decide)
  | 3, hx => cases hx; exact h.cn 2 (by decide)
  | 4, hx => cases hx; exact h.cn 3 (by decide)
  | 5, hx => cases hx; exact h.cn 4 (by decide)
  | 6, hx => cases hx; exact h.cn 5 (by decide)
  | 7, hx => cases hx; exact h.cn 6 (by decide)
  | 8, hx => cases hx; exact h.cn 7 (by decide)
  | 9, hx => cases hx; exact h.cf
  | 10, hx => cases hx; exact h.ct 0 (by decide)
  | 11, hx => cases hx; exact h.ct 1 (by decide)
  | 12, hx => cases hx; exact h.ct 2 (by decide)
  | 13, hx => cases hx; exact h.ct 3 (by decide)
  | 14, hx => cases hx; exact h.cr 0 (by decide)
  | 15, hx => cases hx; exact h.cr 1 (by decide)
  | 16, hx => cases hx; exact h.cr 2 (by decide)
  | 17, hx => cases hx; exact h.cr 3 (by decide)
  | _ + 18, hx => cases hx
/-- A store of many cells into one block. -/
theorem Bx.many {p X : Nat} {a : World} (hX : a.heap.size ≤ X) : ∀ (vs : List Value) (o : Nat) {b : World}, Bx p a b → Bx p a (b.setCells X o vs)
  | [], _, _, h => h
  | _ :: vs, o, _, h => by
    rw [World.setCells]
    exact Bx.many hX vs (o + 1) (h.fresh hX)
theorem rdG_many {p X : Nat} {v : Value} {s : Gs} (hX : X ≠ p) : ∀ (vs : List Value) (o : Nat) {b : World}, RdG b p v s → RdG (b.setCells X o vs) p v s
  | [], _, _, h => h
  | _ :: vs, o, _, h => by
    rw [World.setCells]
    exact rdG_many hX vs (o + 1) (rdG_set h hX)
theorem cell_many {X b j : Nat} {W : World} (hb : b ≠ X) (vs : List Value) (o : Nat) : (W.setCells X o vs).cell? ⟨b, j, none⟩ = W.cell? ⟨b, j, none⟩ :=
  World.cell?_setCells_out X vs o W ⟨b, j, none⟩ (fun q _ => absurd q hb)
theorem cellsR_one (r : Rc) (a14 a15 a16 a17 : Option Addr) (c14 c15 c16 c17 : Nat) : (cellsR r a14 a15 a16 a17 c14 c15 c16 c17).toArray.all (·.oneCell') = true :=
  all_oneCell_toArray (fun v hv => by
    simp only [cellsR, List.mem_cons, List.not_mem_nil, or_false] at hv
    rcases hv with rfl | rfl | rfl | rfl | rfl | rfl | rfl | rfl | rfl | rfl | rfl | rfl | rfl | rfl | rfl | rfl | rfl | rfl <;> rfl)
/-- A result that lies in many cells. -/
theorem results_mid {P : Program} {fn : Func} {q : Tmp} {ty : TypeId} (h : fn.results = #[.cell q ty]) (tmps : Array Value) (w : World) (b : Nat) (cs : List Value) (d : TypeDesc) (hp : tmps.getD q undef = .pointer (some ⟨b, 0, none⟩)) (hc : w.rangeAt b 0 cs) (hu : P.underlying ty = some d) (hd : d.isRow = true) (hi : (P.info? ty).map (·.size) = some cs.length) :
    (results fn tmps).run P w = .ok (.agg cs.toArray) w := by
  have hp' : tmps[q]?.getD undef = .pointer (some ⟨b, 0, none⟩) := by simpa using hp
  simp [results, h, hp', asAddr, run_loadVar_mid w b 0 ty cs d hc hu hd hi]
/-- A record without its kind. -/
def Rc.k0 (x : Rc) : Rc := { x with k := 0 }
set_option maxRecDepth 100000 in
set_option maxHeartbeats 16000000 in
theorem fields_go (p : Nat) (v : Value) (l : List Int) (s : Gs) (k : Int) (w : World) (h8 hf ht hr : List Bool) (hrd : RdG w p v s) (hv : Slx p bc w v l) (hl : l.length ≤ 10000) (hby : Byt l) (hs : s.pt ≤ l.length) (hk : 1 ≤ k ∧ k ≤ 12) (HH8 : Hid (h8 = hN k)) (HHF : Hid (hf = [hasL k 102])) (HHT : Hid (ht = hT k)) (HHR : Hid (hr = hR k)) :
    Calls Tryz.prog 63 #[.pointer (some ⟨p, 0, none⟩), .int .u32 (sbj k)] w fun e w' => ∃ vx n f t r s1 s2 s3 s4, e = .returned vx ∧ Hid (fL 0 (gN 1073741824 l) h8 s = (s1, n)) ∧ Hid (fL false (gF l) hf s1 = (s2, f)) ∧ Hid (fL [] (gT l) ht s2 = (s3, t)) ∧ Hid (fL [] (gR l) hr s3 = (s4, r)) ∧ IsR (fun b => w.heap.size ≤ b) w' vx (mkR 0 n f t r) ∧ RdG w' p v s4 ∧ Bx p w w' := by
  have HK := hide hk
  have HBY := hide hby
  have HS := hide hs
  have HV := hide hv
  have hp : p < w.heap.size := hrd.lt
  have HF0 : Hid (Fi p w.heap.size (w.heap.size + 1) w ((w.alloc (.cells #[.int .i64 0, .int .i64 0, .int .i64 0, .int .i64 0, .int .i64 0, .int .i64 0, .int .i64 0, .int .i64 0, .int .i64 0, .bool false, .string ⟨#[]⟩, .string ⟨#[]⟩, .string ⟨#[]⟩, .string ⟨#[]⟩, .slice none 0 0, .slice none 0 0, .slice none 0 0, .slice none 0 0] 24)).alloc (.cells #[.int .i64 0, .int .i64 0, .int .i64 0, .int .i64 0, .int .i64 0, .int .i64 0, .int .i64 0, .int .i64 0, .int .i64 0, .bool false, .string ⟨#[]⟩, .string ⟨#[]⟩, .string ⟨#[]⟩, .string ⟨#[]⟩, .slice none 0 0, .slice none 0 0, .slice none 0 0, .slice none 0 0] 24)) v s [] [] [] [] []) := by
    have hbl : Below w.heap.size w ((w.alloc (.cells #[.int .i64 0, .int .i64 0, .int .i64 0, .int .i64 0, .int .i64 0, .int .i64 0, .int .i64 0, .int .i64 0, .int .i64 0, .bool false, .string ⟨#[]⟩, .string ⟨#[]⟩, .string ⟨#[]⟩, .string ⟨#[]⟩, .slice none 0 0, .slice none 0 0, .slice none 0 0, .slice none 0 0] 24)).alloc (.cells #[.int .i64 0, .int .i64 0, .int .i64 0, .int .i64 0, .int .i64 0, .int .i64 0, .int .i64 0, .int .i64 0, .int .i64 0, .bool false, .string ⟨#[]⟩, .string ⟨#[]⟩, .string ⟨#[]⟩, .string ⟨#[]⟩, .slice none 0 0, .slice none 0 0, .slice none 0 0, .slice none 0 0] 24)) := ((Below.refl _ _).alloc (Nat.le_refl _) _).alloc (by simp) _
    have hrg := C18.of (range_new (w.alloc (.cells #[.int .i64 0, .int .i64 0, .int .i64 0, .int .i64 0, .int .i64 0, .int .i64 0, .int .i64 0, .int .i64 0, .int .i64 0, .bool false, .string ⟨#[]⟩, .string ⟨#[]⟩, .string ⟨#[]⟩, .string ⟨#[]⟩, .slice none 0 0, .slice none 0 0, .slice none 0 0, .slice none 0 0] 24)) [.int .i64 0, .int .i64 0, .int .i64 0, .int .i64 0, .int .i64 0, .int .i64 0, .int .i64 0, .int .i64 0, .int .i64 0, .bool false, .string ⟨#[]⟩, .string ⟨#[]⟩, .string ⟨#[]⟩, .string ⟨#[]⟩, .slice none 0 0, .slice none 0 0, .slice none 0 0, .slice none 0 0] 24)
    have hsz : (w.alloc (.cells #[.int .i64 0, .int .i64 0, .int .i64 0, .int .i64 0, .int .i64 0, .int .i64 0, .int .i64 0, .int .i64 0, .int .i64 0, .bool false, .string ⟨#[]⟩, .string ⟨#[]⟩, .string ⟨#[]⟩, .string ⟨#[]⟩, .slice none 0 0, .slice none 0 0, .slice none 0 0, .slice none 0 0] 24)).heap.size = w.heap.size + 1 := by simp
    rw [hsz] at hrg
    refine hide ⟨hrd.below hbl, hrg.c0, fun i hi => ?_, hrg.c9, fun i hi => ?_, fun i hi => ?_, fun i => by simp, fun j hj => ?_, fun i hi => ?_, Bx.of hbl, hp, rfl, rfl⟩
    · have hc : i = 0 ∨ i = 1 ∨ i = 2 ∨ i = 3 ∨ i = 4 ∨ i = 5 ∨ i = 6 ∨ i = 7 := by omega
      rcases hc with rfl | rfl | rfl | rfl | rfl | rfl | rfl | rfl
      · exact hrg.c1
      · exact hrg.c2
      · exact hrg.c3
      · exact hrg.c4
      · exact hrg.c5
      · exact hrg.c6
      · exact hrg.c7
      · exact hrg.c8
    · have hc : i = 0 ∨ i = 1 ∨ i = 2 ∨ i = 3 := by omega
      rcases hc with rfl | rfl | rfl | rfl
      · exact hrg.c10
      · exact hrg.c11
      · exact hrg.c12
      · exact hrg.c13
    · have hc : i = 0 ∨ i = 1 ∨ i = 2 ∨ i = 3 := by omega
      rcases hc with rfl | rfl | rfl | rfl
      · exact hrg.c14
      · exact hrg.c15
      · exact hrg.c16
      · exact hrg.c17
    · refine World.there_alloc (o := 0) (n := 18) (fun j hj => ⟨?_, by simp⟩) _ j hj
      have hr2 := range_new w [.int .i64 0, .int .i64 0, .int .i64 0, .int .i64 0, .int .i64 0, .int .i64 0, .int .i64 0, .int .i64 0, .int .i64 0, .bool false, .string ⟨#[]⟩, .string ⟨#[]⟩, .string ⟨#[]⟩, .string ⟨#[]⟩, .slice none 0 0, .slice none 0 0, .slice none 0 0, .slice none 0 0] 24
      exact hr2.isSome j hj
    · simp only [List.getD_nil]; exact Sli.nil _ _ _ _
  clear hrd hv hby hs hk
  go_enter Tryz.func63, Tryz.ntmps63
  go_upto_region 2 with fail
  generalize (w.alloc (.cells #[.int .i64 0, .int .i64 0, .int .i64 0, .int .i64 0, .int .i64 0, .int .i64 0, .int .i64 0, .int .i64 0, .int .i64 0, .bool false, .string ⟨#[]⟩, .string ⟨#[]⟩, .string ⟨#[]⟩, .string ⟨#[]⟩, .slice none 0 0, .slice none 0 0, .slice none 0 0, .slice none 0 0] 24)).alloc (.cells #[.int .i64 0, .int .i64 0, .int .i64 0, .int .i64 0, .int .i64 0, .int .i64 0, .int .i64 0, .int .i64 0, .int .i64 0, .bool false, .string ⟨#[]⟩, .string ⟨#[]⟩, .string ⟨#[]⟩, .string ⟨#[]⟩, .slice none 0 0, .slice none 0 0, .slice none 0 0, .slice none 0 0] 24) = X0 at HF0 ⊢
  have HLH : Hid (h8.length = 8) := hide (by rw [HH8.out]; rfl)
  go_upto_region 3 with (first | (go_at_call 50; refine (numbers_pts _ _).mono ?_; rintro e w2 ⟨rfl, hY⟩; unfold pts8))
  have HF1 := hide (HF0.out.below hY)
  clear HF0 hY
  go_loopw [13] (fun i wr => ∃ (j : Nat), j ≤ 8 ∧ i = .int .i64 (j : Int) ∧ Hid (Fi p w.heap.size (w.heap.size + 1) w wr v (fL 0 (gN 1073741824 l) (h8.take j) s).1 (fL 0 (gN 1073741824 l) (h8.take j) s).2 [] [] [] [])) (fun i _ => 8 - (intOf i).toNat)
  case atStart => exact ⟨0, Nat.zero_le _, rfl, HF1⟩
  case round =>
    obtain ⟨j, hj, rfl, HFj⟩ := hrel
    by_cases hlt : j < 8
    · have hltI : (j : Int) < 8 := by omega
      have hix := idx8 (w.heap.size + 1) j hlt
      have HH := hide (fun W => bhas_any (sbj k) (2 ^ j % 4294967296) W)
      rw [bit8 HK.out j hlt, ← HH8.out] at HH
      have HE := hide (fL_take 0 (gN 1073741824 l) h8 s j (by rw [HLH.out]; exact hlt))
      have hlen : (fL 0 (gN 1073741824 l) (h8.take j) s).2.length = j := by rw [fL_len, List.length_take, HLH.out]; omega
      have hpt : (fL 0 (gN 1073741824 l) (h8.take j) s).1.pt ≤ l.length := fL_pt 0 (gN 1073741824 l) l.length (fun s hs => gN_pt HBY.out hs) (h8.take j) s HS.out
      generalize h8.getD j false = hb at *
      generalize fL 0 (gN 1073741824 l) (h8.take j) s = Q at *
      obtain ⟨sq, nq'⟩ := Q
      simp only at HFj HE hlen hpt
      have HVj := hide (HV.out.bx HFj.out.bx)
      cases hb with
      | true =>
        have HC := hide (rint_gs p v l 1073741824 sq wr HFj.out.rd HVj.out hl HBY.out hpt (by decide) (by decide))
        have HE2 := HE.out
        simp only [↓reduceIte] at HE2
        have HE3 := hide HE2
        clear HE2 HE
        generalize gN 1073741824 l sq = Q2 at *
        obtain ⟨sq2, xq⟩ := Q2
        simp only at HC HE3
        go_wp2_with (first | (go_at_call 35; refine (HH.out _).mono ?_; rintro e w1 ⟨rfl, hw1⟩; rw [hw1]; clear hw1 w1) | (go_at_call 61; refine HC.out.mono ?_; rintro e w5 ⟨rfl, hr5, hb5⟩; have HF5 := hide (HFj.out.step hr5 hb5); clear hr5 hb5; have c5 := HF5.out.cn j hlt; have f5 := HF5.out.fz (j + 1)))
        have HF6 := hide (HF5.out.setN (x := xq) hlen hlt)
        go_roundw
        case rel => exact ⟨j + 1, by omega, by go_num, hide (by rw [HE3.out]; exact HF6.out)⟩
        case measure => simp [intOf]; omega
      | false =>
        have HE2 := HE.out
        simp only [Bool.false_eq_true, ↓reduceIte] at HE2
        have HE3 := hide HE2
        clear HE2 HE
        go_wp2_with (first | (go_at_call 35; refine (HH.out _).mono ?_; rintro e w1 ⟨rfl, hw1⟩; rw [hw1]; clear hw1 w1))
        go_roundw
        case rel => exact ⟨j + 1, by omega, by go_num, hide (by rw [HE3.out]; exact HFj.out.padN)⟩
        case measure => simp [intOf]; omega
    · obtain rfl : j = 8 := by omega
      clear hlt hj
      have HT : Hid (h8.take 8 = h8) := hide (List.take_of_length_le (by rw [HLH.out]; omega))
      rw [HT.out] at HFj
      have hpt : (fL 0 (gN 1073741824 l) h8 s).1.pt ≤ l.length := fL_pt 0 (gN 1073741824 l) l.length (fun s hs => gN_pt HBY.out hs) h8 s HS.out
      rcases hQ : fL 0 (gN 1073741824 l) h8 s with ⟨s1, n1⟩
      rw [hQ] at HFj hpt
      have HQ8 := hide hQ
      have HS := hide hpt
      simp only at HFj HS
      clear hQ hpt HT HLH
      obtain ⟨wa8, rfl⟩ : ∃ x : World, x = wr := ⟨_, rfl⟩
      have HF0 := HFj
      clear HFj HF1
      have HFB := hide (fun W => bhas_any (sbj k) 256 W)
      rw [(bit_has HK.out).2.2.2.2.2.2.2.2.1] at HFB
      generalize hasL k 102 = hb at *
      cases hb with
      | true =>
        have HVj := hide (HV.out.bx HF0.out.bx)
        have HC := hide (rflag_gs p v l s1 wa8 HF0.out.rd HVj.out hl HS.out)
        have HQF : Hid (fL false (gF l) hf s1 = ((gF l s1).1, [(gF l s1).2])) := hide (by rw [HHF.out]; rfl)
        have HS2 := hide (gF_pt HBY.out HS.out)
        generalize gF l s1 = Q2 at *
        obtain ⟨s2, x2⟩ := Q2
        simp only at HC HQF HS2
        clear HS
        have HS := HS2
        clear HS2
        go_upto_region 10 with (first | (go_at_call 35; refine (HFB.out _).mono ?_; rintro e w1 ⟨rfl, hw1⟩; rw [hw1]; clear hw1 w1) | (go_at_call 89; refine HC.out.mono ?_; rintro e w5 ⟨rfl, hr5, hb5⟩; have HF5 := hide (HF0.out.step hr5 hb5); clear hr5 hb5; have c5 := HF5.out.cf; have f5 := HF5.out.fz 9))
        have HF6 := hide (HF5.out.setF (b := x2))
        clear HF0
        have HF0 := HF6
        clear HF6 HF5 c5 f5
        obtain ⟨f1, hf1⟩ : ∃ x, x = [x2] := ⟨_, rfl⟩
        rw [← hf1] at HF0 HQF
        clear hf1
        have HLH : Hid (ht.length = 4) := hide (by rw [HHT.out]; rfl)
        go_upto_region 11 with (first | (go_at_call 53; refine (texts_any _ _).mono ?_; rintro e w6 ⟨rfl, hY⟩; unfold ptsT))
        have HF1 := hide (HF0.out.below hY)
        clear HF0 hY
        go_loopw [32] (fun i wr => ∃ (j : Nat), j ≤ 4 ∧ i = .int .i64 (j : Int) ∧ Hid (Fi p w.heap.size (w.heap.size + 1) w wr v (fL [] (gT l) (ht.take j) s2).1 n1 f1 (fL [] (gT l) (ht.take j) s2).2 [] [])) (fun i _ => 4 - (intOf i).toNat)
        case atStart => exact ⟨0, Nat.zero_le _, rfl, HF1⟩
        case round =>
          obtain ⟨j, hj, rfl, HFj⟩ := hrel
          by_cases hlt : j < 4
          · have hltI : (j : Int) < 4 := by omega
            have hix := idxT (w.heap.size + 1) j hlt
            have HH := hide (fun W => bhas_any (sbj k) (512 * 2 ^ j % 4294967296) W)
            rw [bitT HK.out j hlt, ← HHT.out] at HH
            have HE := hide (fL_take [] (gT l) ht s2 j (by rw [HLH.out]; exact hlt))
            have hlen : (fL [] (gT l) (ht.take j) s2).2.length = j := by rw [fL_len, List.length_take, HLH.out]; omega
            have hpt : (fL [] (gT l) (ht.take j) s2).1.pt ≤ l.length := fL_pt [] (gT l) l.length (fun s hs => gT_pt HBY.out hs) (ht.take j) s2 HS.out
            generalize ht.getD j false = hb at *
            generalize fL [] (gT l) (ht.take j) s2 = Q at *
            obtain ⟨sq, nq'⟩ := Q
            simp only at HFj HE hlen hpt
            have HVj := hide (HV.out.bx HFj.out.bx)
            cases hb with
            | true =>
              have HC := hide (rtext_gs p v l sq wr HFj.out.rd HVj.out hl HBY.out hpt)
              have HE2 := HE.out
              simp only [↓reduceIte] at HE2
              have HE3 := hide HE2
              clear HE2 HE
              generalize gT l sq = Q2 at *
              obtain ⟨sq2, xq⟩ := Q2
              simp only at HC HE3
              go_wp2_with (first | (go_at_call 35; refine (HH.out _).mono ?_; rintro e w1 ⟨rfl, hw1⟩; rw [hw1]; clear hw1 w1) | (go_at_call 90; refine HC.out.mono ?_; rintro e w5 ⟨u5, rfl, hcv, hr5, hb5⟩; have HF5 := hide (HFj.out.step hr5 hb5); clear hr5 hb5; have c5 := HF5.out.ct j hlt; have f5 := HF5.out.fz (j + 10)))
              have HF6 := hide (HF5.out.setT (x := xq) hlen hlt)
              go_roundw
              case rel => exact ⟨j + 1, by omega, by go_num, hide (by rw [HE3.out]; exact HF6.out)⟩
              case measure => simp [intOf]; omega
            | false =>
              have HE2 := HE.out
              simp only [Bool.false_eq_true, ↓reduceIte] at HE2
              have HE3 := hide HE2
              clear HE2 HE
              go_wp2_with (first | (go_at_call 35; refine (HH.out _).mono ?_; rintro e w1 ⟨rfl, hw1⟩; rw [hw1]; clear hw1 w1))
              go_roundw
              case rel => exact ⟨j + 1, by omega, by go_num, hide (by rw [HE3.out]; exact HFj.out.padT)⟩
              case measure => simp [intOf]; omega
          · obtain rfl : j = 4 := by omega
            clear hlt hj
            have HT : Hid (ht.take 4 = ht) := hide (List.take_of_length_le (by rw [HLH.out]; omega))
            rw [HT.out] at HFj
            have hpt : (fL [] (gT l) ht s2).1.pt ≤ l.length := fL_pt [] (gT l) l.length (fun s hs => gT_pt HBY.out hs) ht s2 HS.out
            rcases hQ : fL [] (gT l) ht s2 with ⟨s3, t1⟩
            rw [hQ] at HFj hpt
            have HQT := hide hQ
            have HS := hide hpt
            simp only at HFj HS
            clear hQ hpt HT HLH
            obtain ⟨waT, rfl⟩ : ∃ x : World, x = wr := ⟨_, rfl⟩
            have HF0 := HFj
            clear HFj HF1
            have HLH : Hid (hr.length = 4) := hide (by rw [HHR.out]; rfl)
            go_upto_region 17 with (first | (go_at_call 55; refine (rows_any _ _).mono ?_; rintro e w7 ⟨rfl, hY⟩; unfold ptsR))
            have HF1 := hide (HF0.out.below hY)
            clear HF0 hY
            go_loopw [47] (fun i wr => ∃ (j : Nat) (r : List Value), j ≤ 4 ∧ i = .int .i64 (j : Int) ∧ r.length = j ∧ Hid (Fi p w.heap.size (w.heap.size + 1) w wr v (fL [] (gR l) (hr.take j) s3).1 n1 f1 t1 r (fL [] (gR l) (hr.take j) s3).2)) (fun i _ => 4 - (intOf i).toNat)
            case atStart => exact ⟨0, [], Nat.zero_le _, rfl, rfl, HF1⟩
            case round =>
              obtain ⟨j, r, hj, rfl, hrl, HFj⟩ := hrel
              by_cases hlt : j < 4
              · have hltI : (j : Int) < 4 := by omega
                have hix := idxR (w.heap.size + 1) j hlt
                have HH := hide (fun W => bhas_any (sbj k) (8192 * 2 ^ j % 4294967296) W)
                rw [bitR HK.out j hlt, ← HHR.out] at HH
                have HE := hide (fL_take [] (gR l) hr s3 j (by rw [HLH.out]; exact hlt))
                have hlen : (fL [] (gR l) (hr.take j) s3).2.length = j := by rw [fL_len, List.length_take, HLH.out]; omega
                have hpt : (fL [] (gR l) (hr.take j) s3).1.pt ≤ l.length := fL_pt [] (gR l) l.length (fun s hs => gR_pt HBY.out hs) (hr.take j) s3 HS.out
                generalize hr.getD j false = hb at *
                generalize fL [] (gR l) (hr.take j) s3 = Q at *
                obtain ⟨sq, nq'⟩ := Q
                simp only at HFj HE hlen hpt
                have HVj := hide (HV.out.bx HFj.out.bx)
                cases hb with
                | true =>
                  have HC := hide (rrow_gs p v l sq wr HFj.out.rd HVj.out hl HBY.out hpt)
                  have HE2 := HE.out
                  simp only [↓reduceIte] at HE2
                  have HE3 := hide HE2
                  clear HE2 HE
                  generalize gR l sq = Q2 at *
                  obtain ⟨sq2, xq⟩ := Q2
                  simp only at HC HE3
                  go_wp2_with (first | (go_at_call 35; refine (HH.out _).mono ?_; rintro e w1 ⟨rfl, hw1⟩; rw [hw1]; clear hw1 w1) | (go_at_call 91; refine HC.out.mono ?_; rintro e w5 ⟨u5, rfl, hsl5, hr5, hb5⟩; obtain ⟨ao5, cap5, rfl⟩ := hsl5.sl.form; have HF5 := hide (HFj.out.step hr5 hb5); have HU5 := hide hsl5; clear hr5 hb5 hsl5; have c5 := HF5.out.cr j hlt; have f5 := HF5.out.fz (j + 14)))
                  have HF6 := hide (HF5.out.setR (x := xq) hrl hlen hlt (HU5.out.imp (fun b _ q => by have := HFj.out.sz; omega) (fun _ _ _ _ => rfl)))
                  go_roundw
                  case rel => exact ⟨j + 1, r ++ [.slice ao5 xq.length cap5], by omega, by go_num, by rw [List.length_append, hrl]; rfl, hide (by rw [HE3.out]; exact HF6.out)⟩
                  case measure => simp [intOf]; omega
                | false =>
                  have HE2 := HE.out
                  simp only [Bool.false_eq_true, ↓reduceIte] at HE2
                  have HE3 := hide HE2
                  clear HE2 HE
                  go_wp2_with (first | (go_at_call 35; refine (HH.out _).mono ?_; rintro e w1 ⟨rfl, hw1⟩; rw [hw1]; clear hw1 w1))
                  go_roundw
                  case rel => exact ⟨j + 1, r ++ [.slice none 0 0], by omega, by go_num, by rw [List.length_append, hrl]; rfl, hide (by rw [HE3.out]; exact HFj.out.padR)⟩
                  case measure => simp [intOf]; omega
              · obtain rfl : j = 4 := by omega
                clear hlt hj
                have HT : Hid (hr.take 4 = hr) := hide (List.take_of_length_le (by rw [HLH.out]; omega))
                rw [HT.out] at HFj
                have hpt : (fL [] (gR l) hr s3).1.pt ≤ l.length := fL_pt [] (gR l) l.length (fun s hs => gR_pt HBY.out hs) hr s3 HS.out
                have hlenR : (fL [] (gR l) hr s3).2.length = 4 := by rw [fL_len, HLH.out]
                rcases hQ : fL [] (gR l) hr s3 with ⟨s4, rs1⟩
                rw [hQ] at HFj hpt hlenR
                have HQR := hide hQ
                have HS := hide hpt
                simp only at HFj HS
                clear hQ hpt HT HLH
                obtain ⟨waR, rfl⟩ : ∃ x : World, x = wr := ⟨_, rfl⟩
                have HF0 := HFj
                clear HFj HF1
                obtain ⟨b14, d14, e14⟩ := (HF0.out.rw 0 (by decide)).sl.form
                obtain ⟨b15, d15, e15⟩ := (HF0.out.rw 1 (by decide)).sl.form
                obtain ⟨b16, d16, e16⟩ := (HF0.out.rw 2 (by decide)).sl.form
                obtain ⟨b17, d17, e17⟩ := (HF0.out.rw 3 (by decide)).sl.form
                have hrg := HF0.out.range
                have hw14 := HF0.out.rw 0 (by decide)
                have hw15 := HF0.out.rw 1 (by decide)
                have hw16 := HF0.out.rw 2 (by decide)
                have hw17 := HF0.out.rw 3 (by decide)
                rw [e14, e15, e16, e17] at hrg
                rw [e14] at hw14
                rw [e15] at hw15
                rw [e16] at hw16
                rw [e17] at hw17
                have HRG := hide hrg
                have HTH := hide HF0.out.th
                have hRX : w.heap.size + 1 ≠ w.heap.size := by omega
                have HIS : Hid (IsR (fun b => w.heap.size ≤ b) (waR.setCells w.heap.size 0 (cellsR (mkR 0 n1 f1 t1 rs1) b14 b15 b16 b17 d14 d15 d16 d17)) (.agg (cellsR (mkR 0 n1 f1 t1 rs1) b14 b15 b16 b17 d14 d15 d16 d17).toArray) (mkR 0 n1 f1 t1 rs1)) := hide ⟨b14, b15, b16, b17, d14, d15, d16, d17, rfl, hw14.imp (fun _ _ q => by omega) (fun b i _ q => cell_many (by omega) _ _), hw15.imp (fun _ _ q => by omega) (fun b i _ q => cell_many (by omega) _ _), hw16.imp (fun _ _ q => by omega) (fun b i _ q => cell_many (by omega) _ _), hw17.imp (fun _ _ q => by omega) (fun b i _ q => cell_many (by omega) _ _)⟩
                have HRD : Hid (RdG (waR.setCells w.heap.size 0 (cellsR (mkR 0 n1 f1 t1 rs1) b14 b15 b16 b17 d14 d15 d16 d17)) p v s4) := hide (rdG_many (by have := HF0.out.hp; omega) _ _ HF0.out.rd)
                have HBX : Hid (Bx p w (waR.setCells w.heap.size 0 (cellsR (mkR 0 n1 f1 t1 rs1) b14 b15 b16 b17 d14 d15 d16 d17))) := hide (Bx.many (Nat.le_refl _) _ _ HF0.out.bx)
                have HRR : Hid ((waR.setCells w.heap.size 0 (cellsR (mkR 0 n1 f1 t1 rs1) b14 b15 b16 b17 d14 d15 d16 d17)).rangeAt w.heap.size 0 (cellsR (mkR 0 n1 f1 t1 rs1) b14 b15 b16 b17 d14 d15 d16 d17)) := hide (World.rangeAt_setCells_same _ _ _ _ HF0.out.th)
                clear hrg hw14 hw15 hw16 hw17 e14 e15 e16 e17 HF0
                go_wp2_with (first | (refine wpList_load_mid rfl _ _ rfl _ _ rfl _ _ HRG.out Tryz.underlying24 rfl (by kernel_rfl) ?_) | (refine wpList_store_mid rfl _ _ _ rfl w.heap.size 0 (cellsR (mkR 0 n1 f1 t1 rs1) b14 b15 b16 b17 d14 d15 d16 d17).toArray rfl rfl HTH.out (by kernel_rfl) (cellsR_one _ _ _ _ _ _ _ _ _) ?_))
                exact bodyPost_ret (v := .agg (cellsR (mkR 0 n1 f1 t1 rs1) b14 b15 b16 b17 d14 d15 d16 d17).toArray) (results_mid Tryz.results63 _ _ w.heap.size _ _ rfl HRR.out Tryz.underlying24 rfl (by kernel_rfl)) rfl ⟨_, rfl, n1, f1, t1, rs1, s1, HQ8, s2, HQF, s3, HQT, s4, HQR, HIS.out, HRD.out, HBX.out⟩
      | false =>
        have HQF : Hid (fL false (gF l) hf s1 = (s1, [false])) := hide (by rw [HHF.out]; rfl)
        go_upto_region 10 with (first | (go_at_call 35; refine (HFB.out _).mono ?_; rintro e w1 ⟨rfl, hw1⟩; rw [hw1]; clear hw1 w1))
        have HF6 := hide HF0.out.padF
        clear HF0
        have HF0 := HF6
        clear HF6
        obtain ⟨f1, hf1⟩ : ∃ x, x = [false] := ⟨_, rfl⟩
        rw [← hf1] at HF0 HQF
        clear hf1
        obtain ⟨s2, hs2⟩ : ∃ x, x = s1 := ⟨_, rfl⟩
        rw [← hs2] at HF0 HS
        rw [show fL false (gF l) hf s1 = (s1, f1) ↔ fL false (gF l) hf s1 = (s2, f1) by rw [hs2]] at HQF
        clear hs2
        have HLH : Hid (ht.length = 4) := hide (by rw [HHT.out]; rfl)
        go_upto_region 11 with (first | (go_at_call 53; refine (texts_any _ _).mono ?_; rintro e w6 ⟨rfl, hY⟩; unfold ptsT))
        have HF1 := hide (HF0.out.below hY)
        clear HF0 hY
        go_loopw [32] (fun i wr => ∃ (j : Nat), j ≤ 4 ∧ i = .int .i64 (j : Int) ∧ Hid (Fi p w.heap.size (w.heap.size + 1) w wr v (fL [] (gT l) (ht.take j) s2).1 n1 f1 (fL [] (gT l) (ht.take j) s2).2 [] [])) (fun i _ => 4 - (intOf i).toNat)
        case atStart => exact ⟨0, Nat.zero_le _, rfl, HF1⟩
        case round =>
          obtain ⟨j, hj, rfl, HFj⟩ := hrel
          by_cases hlt : j < 4
          · have hltI : (j : Int) < 4 := by omega
            have hix := idxT (w.heap.size + 1) j hlt
            have HH := hide (fun W => bhas_any (sbj k) (512 * 2 ^ j % 4294967296) W)
            rw [bitT HK.out j hlt, ← HHT.out] at HH
            have HE := hide (fL_take [] (gT l) ht s2 j (by rw [HLH.out]; exact hlt))
            have hlen : (fL [] (gT l) (ht.take j) s2).2.length = j := by rw [fL_len, List.length_take, HLH.out]; omega
            have hpt : (fL [] (gT l) (ht.take j) s2).1.pt ≤ l.length := fL_pt [] (gT l) l.length (fun s hs => gT_pt HBY.out hs) (ht.take j) s2 HS.out
            generalize ht.getD j false = hb at *
            generalize fL [] (gT l) (ht.take j) s2 = Q at *
            obtain ⟨sq, nq'⟩ := Q
            simp only at HFj HE hlen hpt
            have HVj := hide (HV.out.bx HFj.out.bx)
            cases hb with
            | true =>
              have HC := hide (rtext_gs p v l sq wr HFj.out.rd HVj.out hl HBY.out hpt)
              have HE2 := HE.out
              simp only [↓reduceIte] at HE2
              have HE3 := hide HE2
              clear HE2 HE
              generalize gT l sq = Q2 at *
              obtain ⟨sq2, xq⟩ := Q2
              simp only at HC HE3
              go_wp2_with (first | (go_at_call 35; refine (HH.out _).mono ?_; rintro e w1 ⟨rfl, hw1⟩; rw [hw1]; clear hw1 w1) | (go_at_call 90; refine HC.out.mono ?_; rintro e w5 ⟨u5, rfl, hcv, hr5, hb5⟩; have HF5 := hide (HFj.out.step hr5 hb5); clear hr5 hb5; have c5 := HF5.out.ct j hlt; have f5 := HF5.out.fz (j + 10)))
              have HF6 := hide (HF5.out.setT (x := xq) hlen hlt)
              go_roundw
              case rel => exact ⟨j + 1, by omega, by go_num, hide (by rw [HE3.out]; exact HF6.out)⟩
              case measure => simp [intOf]; omega
            | false =>
              have HE2 := HE.out
              simp only [Bool.false_eq_true, ↓reduceIte] at HE2
              have HE3 := hide HE2
              clear HE2 HE
              go_wp2_with (first | (go_at_call 35; refine (HH.out _).mono ?_; rintro e w1 ⟨rfl, hw1⟩; rw [hw1]; clear hw1 w1))
              go_roundw
              case rel => exact ⟨j + 1, by omega, by go_num, hide (by rw [HE3.out]; exact HFj.out.padT)⟩
              case measure => simp [intOf]; omega
          · obtain rfl : j = 4 := by omega
            clear hlt hj
            have HT : Hid (ht.take 4 = ht) := hide (List.take_of_length_le (by rw [HLH.out]; omega))
            rw [HT.out] at HFj
            have hpt : (fL [] (gT l) ht s2).1.pt ≤ l.length := fL_pt [] (gT l) l.length (fun s hs => gT_pt HBY.out hs) ht s2 HS.out
            rcases hQ : fL [] (gT l) ht s2 with ⟨s3, t1⟩
            rw [hQ] at HFj hpt
            have HQT := hide hQ
            have HS := hide hpt
            simp only at HFj HS
            clear hQ hpt HT HLH
            obtain ⟨waT, rfl⟩ : ∃ x : World, x = wr := ⟨_, rfl⟩
            have HF0 := HFj
            clear HFj HF1
            have HLH : Hid (hr.length = 4) := hide (by rw [HHR.out]; rfl)
            go_upto_region 17 with (first | (go_at_call 55; refine (rows_any _ _).mono ?_; rintro e w7 ⟨rfl, hY⟩; unfold ptsR))
            have HF1 := hide (HF0.out.below hY)
            clear HF0 hY
            go_loopw [47] (fun i wr => ∃ (j : Nat) (r : List Value), j ≤ 4 ∧ i = .int .i64 (j : Int) ∧ r.length = j ∧ Hid (Fi p w.heap.size (w.heap.size + 1) w wr v (fL [] (gR l) (hr.take j) s3).1 n1 f1 t1 r (fL [] (gR l) (hr.take j) s3).2)) (fun i _ => 4 - (intOf i).toNat)
            case atStart => exact ⟨0, [], Nat.zero_le _, rfl, rfl, HF1⟩
            case round =>
              obtain ⟨j, r, hj, rfl, hrl, HFj⟩ := hrel
              by_cases hlt : j < 4
              · have hltI : (j : Int) < 4 := by omega
                have hix := idxR (w.heap.size + 1) j hlt
                have HH := hide (fun W => bhas_any (sbj k) (8192 * 2 ^ j % 4294967296) W)
                rw [bitR HK.out j hlt, ← HHR.out] at HH
                have HE := hide (fL_take [] (gR l) hr s3 j (by rw [HLH.out]; exact hlt))
                have hlen : (fL [] (gR l) (hr.take j) s3).2.length = j := by rw [fL_len, List.length_take, HLH.out]; omega
                have hpt : (fL [] (gR l) (hr.take j) s3).1.pt ≤ l.length := fL_pt [] (gR l) l.length (fun s hs => gR_pt HBY.out hs) (hr.take j) s3 HS.out
                generalize hr.getD j false = hb at *
                generalize fL [] (gR l) (hr.take j) s3 = Q at *
                obtain ⟨sq, nq'⟩ := Q
                simp only at HFj HE hlen hpt
                have HVj := hide (HV.out.bx HFj.out.bx)
                cases hb with
                | true =>
                  have HC := hide (rrow_gs p v l sq wr HFj.out.rd HVj.out hl HBY.out hpt)
                  have HE2 := HE.out
                  simp only [↓reduceIte] at HE2
                  have HE3 := hide HE2
                  clear HE2 HE
                  generalize gR l sq = Q2 at *
                  obtain ⟨sq2, xq⟩ := Q2
                  simp only at HC HE3
                  go_wp2_with (first | (go_at_call 35; refine (HH.out _).mono ?_; rintro e w1 ⟨rfl, hw1⟩; rw [hw1]; clear hw1 w1) | (go_at_call 91; refine HC.out.mono ?_; rintro e w5 ⟨u5, rfl, hsl5, hr5, hb5⟩; obtain ⟨ao5, cap5, rfl⟩ := hsl5.sl.form; have HF5 := hide (HFj.out.step hr5 hb5); have HU5 := hide hsl5; clear hr5 hb5 hsl5; have c5 := HF5.out.cr j hlt; have f5 := HF5.out.fz (j + 14)))
                  have HF6 := hide (HF5.out.setR (x := xq) hrl hlen hlt (HU5.out.imp (fun b _ q => by have := HFj.out.sz; omega) (fun _ _ _ _ => rfl)))
                  go_roundw
                  case rel => exact ⟨j + 1, r ++ [.slice ao5 xq.length cap5], by omega, by go_num, by rw [List.length_append, hrl]; rfl, hide (by rw [HE3.out]; exact HF6.out)⟩
                  case measure => simp [intOf]; omega
                | false =>
                  have HE2 := HE.out
                  simp only [Bool.false_eq_true, ↓reduceIte] at HE2
                  have HE3 := hide HE2
                  clear HE2 HE
                  go_wp2_with (first | (go_at_call 35; refine (HH.out _).mono ?_; rintro e w1 ⟨rfl, hw1⟩; rw [hw1]; clear hw1 w1))
                  go_roundw
                  case rel => exact ⟨j + 1, r ++ [.slice none 0 0], by omega, by go_num, by rw [List.length_append, hrl]; rfl, hide (by rw [HE3.out]; exact HFj.out.padR)⟩
                  case measure => simp [intOf]; omega
              · obtain rfl : j = 4 := by omega
                clear hlt hj
                have HT : Hid (hr.take 4 = hr) := hide (List.take_of_length_le (by rw [HLH.out]; omega))
                rw [HT.out] at HFj
                have hpt : (fL [] (gR l) hr s3).1.pt ≤ l.length := fL_pt [] (gR l) l.length (fun s hs => gR_pt HBY.out hs) hr s3 HS.out
                have hlenR : (fL [] (gR l) hr s3).2.length = 4 := by rw [fL_len, HLH.out]
                rcases hQ : fL [] (gR l) hr s3 with ⟨s4, rs1⟩
                rw [hQ] at HFj hpt hlenR
                have HQR := hide hQ
                have HS := hide hpt
                simp only at HFj HS
                clear hQ hpt HT HLH
                obtain ⟨waR, rfl⟩ : ∃ x : World, x = wr := ⟨_, rfl⟩
                have HF0 := HFj
                clear HFj HF1
                obtain ⟨b14, d14, e14⟩ := (HF0.out.rw 0 (by decide)).sl.form
                obtain ⟨b15, d15, e15⟩ := (HF0.out.rw 1 (by decide)).sl.form
                obtain ⟨b16, d16, e16⟩ := (HF0.out.rw 2 (by decide)).sl.form
                obtain ⟨b17, d17, e17⟩ := (HF0.out.rw 3 (by decide)).sl.form
                have hrg := HF0.out.range
                have hw14 := HF0.out.rw 0 (by decide)
                have hw15 := HF0.out.rw 1 (by decide)
                have hw16 := HF0.out.rw 2 (by decide)
                have hw17 := HF0.out.rw 3 (by decide)
                rw [e14, e15, e16, e17] at hrg
                rw [e14] at hw14
                rw [e15] at hw15
                rw [e16] at hw16
                rw [e17] at hw17
                have HRG := hide hrg
                have HTH := hide HF0.out.th
                have hRX : w.heap.size + 1 ≠ w.heap.size := by omega
                have HIS : Hid (IsR (fun b => w.heap.size ≤ b) (waR.setCells w.heap.size 0 (cellsR (mkR 0 n1 f1 t1 rs1) b14 b15 b16 b17 d14 d15 d16 d17)) (.agg (cellsR (mkR 0 n1 f1 t1 rs1) b14 b15 b16 b17 d14 d15 d16 d17).toArray) (mkR 0 n1 f1 t1 rs1)) := hide ⟨b14, b15, b16, b17, d14, d15, d16, d17, rfl, hw14.imp (fun _ _ q => by omega) (fun b i _ q => cell_many (by omega) _ _), hw15.imp (fun _ _ q => by omega) (fun b i _ q => cell_many (by omega) _ _), hw16.imp (fun _ _ q => by omega) (fun b i _ q => cell_many (by omega) _ _), hw17.imp (fun _ _ q => by omega) (fun b i _ q => cell_many (by omega) _ _)⟩
                have HRD : Hid (RdG (waR.setCells w.heap.size 0 (cellsR (mkR 0 n1 f1 t1 rs1) b14 b15 b16 b17 d14 d15 d16 d17)) p v s4) := hide (rdG_many (by have := HF0.out.hp; omega) _ _ HF0.out.rd)
                have HBX : Hid (Bx p w (waR.setCells w.heap.size 0 (cellsR (mkR 0 n1 f1 t1 rs1) b14 b15 b16 b17 d14 d15 d16 d17))) := hide (Bx.many (Nat.le_refl _) _ _ HF0.out.bx)
                have HRR : Hid ((waR.setCells w.heap.size 0 (cellsR (mkR 0 n1 f1 t1 rs1) b14 b15 b16 b17 d14 d15 d16 d17)).rangeAt w.heap.size 0 (cellsR (mkR 0 n1 f1 t1 rs1) b14 b15 b16 b17 d14 d15 d16 d17)) := hide (World.rangeAt_setCells_same _ _ _ _ HF0.out.th)
                clear hrg hw14 hw15 hw16 hw17 e14 e15 e16 e17 HF0
                go_wp2_with (first | (refine wpList_load_mid rfl _ _ rfl _ _ rfl _ _ HRG.out Tryz.underlying24 rfl (by kernel_rfl) ?_) | (refine wpList_store_mid rfl _ _ _ rfl w.heap.size 0 (cellsR (mkR 0 n1 f1 t1 rs1) b14 b15 b16 b17 d14 d15 d16 d17).toArray rfl rfl HTH.out (by kernel_rfl) (cellsR_one _ _ _ _ _ _ _ _ _) ?_))
                exact bodyPost_ret (v := .agg (cellsR (mkR 0 n1 f1 t1 rs1) b14 b15 b16 b17 d14 d15 d16 d17).toArray) (results_mid Tryz.results63 _ _ w.heap.size _ _ rfl HRR.out Tryz.underlying24 rfl (by kernel_rfl)) rfl ⟨_, rfl, n1, f1, t1, rs1, s1, HQ8, s2, HQF, s3, HQT, s4, HQR, HIS.out, HRD.out, HBX.out⟩
/-- What is read of a record behind its kind, by the program. -/
theorem fields_any (p : Nat) (v : Value) (l : List Int) (s : Gs) (k : Int) (w : World) (hrd : RdG w p v s) (hv : Slx p bc w v l) (hl : l.length ≤ 10000) (hby : Byt l) (hs : s.pt ≤ l.length) (hk : 1 ≤ k ∧ k ≤ 12) :
    Calls Tryz.prog 63 #[.pointer (some ⟨p, 0, none⟩), .int .u32 (sbj k)] w fun e w' => ∃ vx, e = .returned vx ∧ IsR (fun b => w.heap.size ≤ b) w' vx (bodyG l k s).2.k0 ∧ RdG w' p v (bodyG l k s).1 ∧ Bx p w w' := by
  refine (fields_go p v l s k w (hN k) (hF k) (hT k) (hR k) hrd hv hl hby hs hk (hide rfl) (hide rfl) (hide rfl) (hide rfl)).mono ?_
  rintro e w' ⟨vx, n, f, t, r, s1, s2, s3, s4, rfl, h1, h2, h3, h4, h5, h6, h7⟩
  have hb : bodyG l k s = (s4, mkR k n f t r) := by
    unfold bodyG
    simp only
    rw [h1.out]
    simp only
    rw [h2.out]
    simp only
    rw [h3.out]
    simp only
    rw [h4.out]
  rw [hb]
  exact ⟨vx, rfl, h5, h6, h7⟩
end Go.Proofs.YthoeajiojdfgdaaGreatDoor
