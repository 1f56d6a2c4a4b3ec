/-
  SLICES OF FRAMES, as lists: in whichever memory; frames as bytes, one behind the other (frame.All); whether frames are few (castellanlaw04.light). Conditions: what each theorem names.
-/
import Derived.Test.YtenahnbfaekljaaFeed
namespace Go.Proofs.Ytenahnbfaekljaa
open Go.RowKit

/-- The slice v holds the frames fs. -/
def Fl (W : World) (v : Value) (fs : List (Int × List Int)) : Prop :=
  (∃ ao cap, fs = [] ∧ v = .slice ao 0 cap) ∨
  (∃ b o cap, v = .slice (some ⟨b, o, none⟩) fs.length cap ∧ fs.length ≤ cap ∧ ∀ i (h : i < fs.length), W.cell? ⟨b, o + i * 2, none⟩ = some (.int .i64 fs[i].1) ∧ ∃ u, W.cell? ⟨b, o + i * 2 + 1, none⟩ = some u ∧ Sl bc W u fs[i].2)
theorem Fl.below {w w' : World} {v : Value} {fs : List (Int × List Int)} (h : Fl w v fs) (hb : Below w.heap.size w w') : Fl w' v fs := by
  rcases h with h | ⟨b, o, cap, h1, h2, h3⟩
  · exact .inl h
  · refine .inr ⟨b, o, cap, h1, h2, fun i hi => ?_⟩
    obtain ⟨c0, u, c1, hs⟩ := h3 i hi
    exact ⟨(hb.cell (p := ⟨b, o + i * 2, none⟩) (cell_block c0)).trans c0, u, (hb.cell (p := ⟨b, o + i * 2 + 1, none⟩) (cell_block c1)).trans c1, hs.below hb⟩
theorem Fl.form {w : World} {v : Value} {fs : List (Int × List Int)} (h : Fl w v fs) : ∃ ao cap, v = .slice ao fs.length cap := by
  rcases h with ⟨ao, cap, rfl, rfl⟩ | ⟨b, o, cap, rfl, h2, h3⟩ <;> exact ⟨_, _, rfl⟩
theorem fl_of_owns {w : World} {B : Nat} {v : Value} {ps : List (Int × Value)} {fs : List (Int × List Int)} {ok : Nat → Prop} (h : w.ownsRow B 40 2 v fs.length (fcs ps)) (hb : Bod ok w ps fs) : Fl w v fs := by
  by_cases h0 : 0 < fs.length
  · obtain ⟨g, cap, rfl, _, hc, _, hcell⟩ := owns_cells h h0
    refine .inr ⟨g, 0, cap, rfl, hc, fun i hi => ?_⟩
    have hl := hb.len
    obtain ⟨e1, e2⟩ := fcs_get ps i (by omega)
    obtain ⟨k1, k2⟩ := hb.get i (by omega) hi
    rw [Nat.zero_add]
    exact ⟨by rw [hcell _ _ e1, k1], ps[i].2, hcell _ _ e2, k2.sl⟩
  · obtain rfl : fs = [] := List.length_eq_zero_iff.1 (by omega)
    rcases h.2 with ⟨rfl, _⟩ | ⟨g, cap, cur, rfl, _⟩ <;> exact .inl ⟨_, _, rfl, rfl⟩
theorem allL_take_le (fs : List (Int × List Int)) (j : Nat) : (allL (fs.take j)).length ≤ (allL fs).length := by
  rw [allL_split fs j, List.length_append]; omega
set_option maxRecDepth 100000 in
set_option maxHeartbeats 4000000 in
theorem all_none (ao : Option Addr) (cap : Nat) (w : World) : Calls Try.prog 7 #[.slice ao 0 cap] w fun e w' => e = .returned (.tuple #[.slice none 0 0, .nilIface]) ∧ Below w.heap.size w w' := by
  go_enter Try.func7, Try.ntmps7
  go_wp2_with fail
  refine wp_loop_rounds 1 ?_
  rw [rounds_succ]
  go_wp2_with fail
  exact bodyPost_ret (v := .tuple #[.slice none 0 0, .nilIface]) (by simp [results, Try.results7, go_sem]) rfl ⟨rfl, Below.refl _ _⟩
/-- What a call of All leaves: all bytes, or something wrong. -/
def AllP (fs : List (Int × List Int)) (w : World) (e : Ending) (w' : World) : Prop :=
  (((∀ f ∈ fs, Ok f) ∧ ∃ y, e = .returned (.tuple #[y, .nilIface]) ∧ w'.ownsRow w.heap.size 5 1 y (allL fs).length (bv (allL fs))) ∨ ((∃ f ∈ fs, ¬ Ok f) ∧ ∃ t u, e = .returned (.tuple #[.slice none 0 0, .iface t u]))) ∧ Below w.heap.size w w'
set_option maxRecDepth 100000 in
set_option maxHeartbeats 4000000 in
theorem all_some (b o cap : Nat) (fs : List (Int × List Int)) (w : World) (h3 : ∀ i (h : i < fs.length), w.cell? ⟨b, o + i * 2, none⟩ = some (.int .i64 fs[i].1) ∧ ∃ u, w.cell? ⟨b, o + i * 2 + 1, none⟩ = some u ∧ Sl bc w u fs[i].2)
    (hn : fs.length ≤ 1000) (hl : ∀ f ∈ fs, f.2.length ≤ 4000 ∧ Byt f.2) (ht : (allL fs).length ≤ 100000) :
    Calls Try.prog 7 #[.slice (some ⟨b, o, none⟩) fs.length cap] w (AllP fs w) := by
  have H3 := hide h3
  have HL := hide hl
  clear h3 hl
  go_enter Try.func7, Try.ntmps7
  go_wp2_with fail
  go_loopw [4, 11] (fun y i wr => ∃ (j : Nat) (cur : List Value), j ≤ fs.length ∧ i = .int .i64 (j : Int) ∧ (∀ f ∈ fs.take j, Ok f) ∧ Rw w.heap.size wr y (allL (fs.take j)).length cur ∧ cur.take (allL (fs.take j)).length = bv (allL (fs.take j)) ∧ Below w.heap.size w wr) (fun _ i _ => fs.length - (intOf i).toNat)
  case atStart => exact ⟨0, [], Nat.zero_le _, rfl, fun f hf => by simp at hf, rw_nil _ _, rfl, Below.refl _ _⟩
  case round =>
    obtain ⟨j, cur, hj, rfl, hok, hrw, htk, hb⟩ := hrel
    have HOK := hide hok
    have HRW := hide hrw
    have HTK := hide htk
    have HB := hide hb
    clear hok hrw htk hb
    by_cases hlt : j < fs.length
    · obtain ⟨c0', ub, c1', hs'⟩ := H3.out j hlt
      have c0 : wr.cell? ⟨b, o + j * 2, none⟩ = some (.int .i64 fs[j].1) := (HB.out.cell (p := ⟨b, o + j * 2, none⟩) (cell_block c0')).trans c0'
      have c1 : wr.cell? ⟨b, o + j * 2 + 1, none⟩ = some ub := (HB.out.cell (p := ⟨b, o + j * 2 + 1, none⟩) (cell_block c1')).trans c1'
      have hs := hs'.below HB.out
      obtain ⟨ao3, cap3, hub⟩ := hs'.form
      obtain ⟨M, hM⟩ : ∃ M, M = fs[j].2.length := ⟨_, rfl⟩
      rw [← hM] at hub
      subst hub
      have hbody := HL.out fs[j] (List.getElem_mem hlt)
      have HSN := hide (allL_snoc fs j hlt)
      have HTL := hide (allL_take_le fs (j + 1))
      have HFJ : Hid (fs.take (j + 1) = fs.take j ++ [fs[j]]) := hide (List.take_succ_eq_append_getElem hlt)
      have hltI : (j : Int) < (fs.length : Int) := by omega
      have HM := hide (List.getElem_mem hlt)
      generalize hfj : fs[j] = f at *
      clear c0' c1' hs' hM hfj
      have hba : Below wr.heap.size wr (wr.alloc (.cells #[.int .i64 f.1, .slice ao3 M cap3] 40)) := (Below.refl _ _).alloc (Nat.le_refl _) _
      by_cases hbad : f.1 < 0 ∨ (¬ f.1 < 0 ∧ 63 < f.1)
      · have HP := hide (put_bad f.1 ao3 M cap3 (wr.alloc (.cells #[.int .i64 f.1, .slice ao3 M cap3] 40)) hbad)
        unfold ft at HP
        have HBA := hide (HB.out.trans (hba.mono HB.out.size))
        have HNB : Hid (∃ f ∈ fs, ¬ Ok f) := hide ⟨f, HM.out, fun h => by have h1 := h.1; have h2 := h.2.1; omega⟩
        clear hbad hba hs hbody
        go_wp2_with (first
          | (go_at_call 12; refine (HP.out).mono ?_; rintro e w2 ⟨rfl, hb2⟩; have HB2 := hide (HBA.out.trans (hb2.mono HBA.out.size)); clear hb2)
          | (go_at_call 16; refine (wrap_some _ _ _ _ _).mono ?_; rintro e w3 ⟨rfl, rfl⟩))
        exact bodyPost_ret (v := .tuple #[.slice none 0 0, .iface 60 (.agg #[.string ⟨#[102, 114, 97, 109, 101]⟩, .int .i64 (j : Int), .iface 60 (.agg #[.string ⟨#[107, 105, 110, 100]⟩, .int .i64 f.1, .iface 48 (.int .i64 5)])])]) (by simp [results, Try.results7, go_sem]) rfl ⟨.inr ⟨HNB.out, _, _, rfl⟩, HB2.out⟩
      · have hk0 : ¬ f.1 < 0 := by omega
        have hk1 : ¬ 63 < f.1 := by omega
        have HP := hide (put_ok f.1 (.slice ao3 M cap3) f.2 (wr.alloc (.cells #[.int .i64 f.1, .slice ao3 M cap3] 40)) (hs.below hba) hbody.1 hbody.2 hk0 hk1)
        have HOK1 : Hid (∀ g ∈ fs.take (j + 1), Ok g) := hide (by
          rw [HFJ.out]
          intro g hg
          rcases List.mem_append.1 hg with q | q
          · exact HOK.out g q
          · simp at q; subst q; exact ⟨by omega, by omega, by have := hbody.1; omega⟩)
        have HBA := hide (HB.out.trans (hba.mono HB.out.size))
        have HRW1 := hide (HRW.out.below hba)
        have htot : (allL (fs.take j)).length + (frameL f.1 f.2).length ≤ 100000 := by have h1 := HTL.out; rw [HSN.out, List.length_append] at h1; omega
        clear hbad hba hs hbody HRW HOK
        generalize frameL f.1 f.2 = X at *
        generalize hY : allL (fs.take j) = Y at *
        have HY := hide hY
        clear hY
        go_wp2_with fail
        refine (HP.out).mono ?_
        rintro e w2 ⟨y2, rfl, hown, hb2⟩
        have HB2 := hide (HBA.out.trans (hb2.mono HBA.out.size))
        have HRW2 := hide (HRW1.out.below hb2)
        have HSL := hide (show Sl bc w2 y2 X from sl_of_owns hown)
        have hsz2 := HB2.out.size
        have HSZ2 := hide hsz2
        clear hown hb2 HRW1 hsz2 HP
        go_wp2_with (first | (at_builtin; refine wpList_append_sl _ rfl _ _ rfl w.heap.size _ Y.length cur rfl HRW2.out HSZ2.out _ X rfl HSL.out (by omega) ?_))
        intro w3 v3 cur3 hp3
        have HRW3 := hide hp3.rw
        have HTK3 := hide hp3.tk
        have HB3 := hide (HB2.out.trans hp3.below)
        clear hp3
        go_wp2_with fail
        go_roundw
        case rel =>
          refine ⟨j + 1, cur3, by omega, by go_num, HOK1.out, ?_, ?_, HB3.out⟩
          · rw [HSN.out, List.length_append]; exact HRW3.out
          · rw [HSN.out, List.length_append, HTK3.out, HTK.out]; simp [bv]
        case measure => simp [intOf]; omega
    · obtain rfl : j = fs.length := by omega
      rw [List.take_length] at HOK HRW HTK
      have HO : Hid (wr.ownsRow w.heap.size 5 1 u4 (allL fs).length (bv (allL fs))) := hide (by have := HRW.out.owns; rw [HTK.out] at this; exact this)
      clear HRW HTK
      go_wp2_with fail
      exact bodyPost_ret (v := .tuple #[u4, .nilIface]) (by simp [results, Try.results7, go_sem]) rfl ⟨.inl ⟨HOK.out, u4, rfl, HO.out⟩, HB.out⟩
theorem all_any (v : Value) (fs : List (Int × List Int)) (w : World) (hv : Fl w v fs) (hn : fs.length ≤ 1000) (hl : ∀ f ∈ fs, f.2.length ≤ 4000 ∧ Byt f.2) (ht : (allL fs).length ≤ 100000) :
    Calls Try.prog 7 #[v] w (AllP fs w) := by
  rcases hv with ⟨ao, cap, rfl, rfl⟩ | ⟨b, o, cap, rfl, h2, h3⟩
  · refine (all_none ao cap w).mono ?_
    rintro e w' ⟨rfl, hb⟩
    exact ⟨.inl ⟨fun f hf => by simp at hf, _, rfl, World.ownsRow_nil _ _ _ _⟩, hb⟩
  · exact all_some b o cap fs w h3 hn hl ht
/-- How many bytes all bodies have. -/
def tot (fs : List (Int × List Int)) : Nat := (fs.map fun f => f.2.length).sum
theorem tot_snoc (fs : List (Int × List Int)) (j : Nat) (h : j < fs.length) : tot (fs.take (j + 1)) = tot (fs.take j) + fs[j].2.length := by
  rw [List.take_succ_eq_append_getElem h]
  unfold tot
  rw [List.map_append, List.sum_append]
  simp only [List.map_cons, List.map_nil, List.sum_cons, List.sum_nil]
  omega
theorem tot_mem {fs : List (Int × List Int)} {f : Int × List Int} (h : f ∈ fs) : f.2.length ≤ tot fs := by
  induction fs with
  | nil => simp at h
  | cons g fs ih =>
    have e : tot (g :: fs) = g.2.length + tot fs := by simp [tot]
    rcases List.mem_cons.1 h with rfl | h
    · omega
    · have := ih h; omega
theorem allL_len_le (fs : List (Int × List Int)) : (allL fs).length ≤ tot fs + 14 * fs.length := by
  induction fs with
  | nil => simp [allL]
  | cons g fs ih =>
    have e : tot (g :: fs) = g.2.length + tot fs := by simp [tot]
    have e2 : allL (g :: fs) = frameL g.1 g.2 ++ allL fs := by simp [allL]
    have h8 := intL_le g.2.length
    rw [e2, List.length_append, frameL_len, List.length_cons]
    omega
/-- What a call of light leaves. -/
def LightP (fs : List (Int × List Int)) (w : World) (e : Ending) (w' : World) : Prop := (∃ r, e = .returned (.bool r) ∧ (r = true → fs.length ≤ 60 ∧ tot fs ≤ 1500)) ∧ w' = w
set_option maxRecDepth 100000 in
set_option maxHeartbeats 4000000 in
theorem light_some (b o cap : Nat) (fs : List (Int × List Int)) (w : World) (hn : fs.length ≤ 9223372036854775807) (h3 : ∀ i (h : i < fs.length), w.cell? ⟨b, o + i * 2, none⟩ = some (.int .i64 fs[i].1) ∧ ∃ u, w.cell? ⟨b, o + i * 2 + 1, none⟩ = some u ∧ Sl bc w u fs[i].2) (hl : ∀ f ∈ fs, f.2.length ≤ 1152921504606846976) :
    Calls Try.prog 5 #[.slice (some ⟨b, o, none⟩) fs.length cap] w (LightP fs w) := by
  have H3 := hide h3
  have HL := hide hl
  clear h3 hl
  by_cases h60 : 60 < fs.length
  · have h60' : (60 : Int) < (fs.length : Int) := by omega
    go_enter Try.func5, Try.ntmps5
    go_wp2_with fail
    go_ret
    exact ⟨⟨false, rfl, fun h => by cases h⟩, rfl⟩
  · have h60' : ¬ (60 : Int) < (fs.length : Int) := by omega
    go_enter Try.func5, Try.ntmps5
    go_wp2_with fail
    go_loop [3, 4] (fun n i => ∃ j : Nat, j ≤ fs.length ∧ i = .int .i64 (j : Int) ∧ n = .int .i64 (tot (fs.take j) : Int) ∧ tot (fs.take j) ≤ 1500) (fun _ i => fs.length - (intOf i).toNat)
    case atStart => exact ⟨0, Nat.zero_le _, rfl, rfl, by simp [tot]⟩
    case round =>
      obtain ⟨j, hj, rfl, rfl, ht⟩ := hrel
      by_cases hlt : j < fs.length
      · obtain ⟨c0, ub, c1, hs⟩ := H3.out j hlt
        obtain ⟨ao3, cap3, hub⟩ := hs.form
        have hbl := HL.out fs[j] (List.getElem_mem hlt)
        have HSN := hide (tot_snoc fs j hlt)
        have hltI : (j : Int) < (fs.length : Int) := by omega
        generalize fs[j] = f at *
        subst hub
        clear hs
        obtain ⟨T, hT⟩ : ∃ T, T = tot (fs.take j) := ⟨_, rfl⟩
        rw [← hT] at ht HSN ⊢
        clear hT
        by_cases hbig : 1500 < T + f.2.length
        · have hbig' : (1500 : Int) < (T : Int) + (f.2.length : Int) := by omega
          go_wp2_with fail
          go_ret
          exact ⟨⟨false, rfl, fun h => by cases h⟩, rfl⟩
        · have hbig' : ¬ (1500 : Int) < (T : Int) + (f.2.length : Int) := by omega
          go_wp2_with fail
          go_round
          case rel => exact ⟨j + 1, by omega, by go_num, by rw [HSN.out]; go_num, by rw [HSN.out]; omega⟩
          case measure => simp [intOf]; omega
      · obtain rfl : j = fs.length := by omega
        rw [List.take_length] at ht
        clear hlt
        go_wp2_with fail
        go_ret
        exact ⟨⟨true, rfl, fun _ => ⟨by omega, ht⟩⟩, rfl⟩
set_option maxHeartbeats 4000000 in
theorem light_none (ao : Option Addr) (cap : Nat) (w : World) : Calls Try.prog 5 #[.slice ao 0 cap] w (LightP [] w) := by
  go_enter Try.func5, Try.ntmps5
  go_wp2_with fail
  refine wp_loop_rounds 1 ?_
  rw [rounds_succ]
  go_wp2_with fail
  go_ret
  exact ⟨⟨true, rfl, fun _ => ⟨by simp, by simp [tot]⟩⟩, rfl⟩
theorem light_any (v : Value) (fs : List (Int × List Int)) (w : World) (hv : Fl w v fs) (hn : fs.length ≤ 9223372036854775807) (hl : ∀ f ∈ fs, f.2.length ≤ 1152921504606846976) : Calls Try.prog 5 #[v] w (LightP fs w) := by
  rcases hv with ⟨ao, cap, rfl, rfl⟩ | ⟨b, o, cap, rfl, h2, h3⟩
  · exact light_none ao cap w
  · exact light_some b o cap fs w hn h3 hl
end Go.Proofs.Ytenahnbfaekljaa
