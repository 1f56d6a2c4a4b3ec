/-
  SLICES OF FRAMES, as lists: in whichever memory; frames as bytes, one behind the other (frame.All); whether frames are few (castellanlaw04.light). Conditions: what each theorem names.
  THE SAME FRAMES (castellanref04.Same): of two slices that hold the same ones it says so. Conditions: no more than a thousand frames, of no more than forty thousand bytes each.
  THE CHAPTER's EXAMPLE (castellanlaw04.works): it comes out so. No condition.
-/
import Derived.Test.YtenahnbfaekljaaDoorMP
namespace Go.Proofs.YtenahnbfaekljaaDoor
open Go.RowKit

/-- The slice v holds the frames fs. -/
def Fl (W : World) (v : Value) (fs : List (Int × List Int)) : Prop :=
  (∃ ao cap, fs = [] ∧ v = .slice ao 0 cap) ∨
  (∃ b o cap, v = .slice (some ⟨b, o, none⟩) fs.length cap ∧ fs.length ≤ cap ∧ ∀ i (h : i < fs.length), W.cell? ⟨b, o + i * 2, none⟩ = some (.int .i64 fs[i].1) ∧ ∃ u, W.cell? ⟨b, o + i * 2 + 1, none⟩ = some u ∧ Sl bc W u fs[i].2)
theorem Fl.below {w w' : World} {v : Value} {fs : List (Int × List Int)} (h : Fl w v fs) (hb : Below w.heap.size w w') : Fl w' v fs := by
  rcases h with h | ⟨b, o, cap, h1, h2, h3⟩
  · exact .inl h
  · refine .inr ⟨b, o, cap, h1, h2, fun i hi => ?_⟩
    obtain ⟨c0, u, c1, hs⟩ := h3 i hi
    exact ⟨(hb.cell (p := ⟨b, o + i * 2, none⟩) (cell_block c0)).trans c0, u, (hb.cell (p := ⟨b, o + i * 2 + 1, none⟩) (cell_block c1)).trans c1, hs.below hb⟩
theorem Fl.form {w : World} {v : Value} {fs : List (Int × List Int)} (h : Fl w v fs) : ∃ ao cap, v = .slice ao fs.length cap := by
  rcases h with ⟨ao, cap, rfl, rfl⟩ | ⟨b, o, cap, rfl, h2, h3⟩ <;> exact ⟨_, _, rfl⟩
theorem fl_of_owns {w : World} {B : Nat} {v : Value} {ps : List (Int × Value)} {fs : List (Int × List Int)} {ok : Nat → Prop} (h : w.ownsRow B 24 2 v fs.length (fcs ps)) (hb : Bod ok w ps fs) : Fl w v fs := by
  by_cases h0 : 0 < fs.length
  · obtain ⟨g, cap, rfl, _, hc, _, hcell⟩ := owns_cells h h0
    refine .inr ⟨g, 0, cap, rfl, hc, fun i hi => ?_⟩
    have hl := hb.len
    obtain ⟨e1, e2⟩ := fcs_get ps i (by omega)
    obtain ⟨k1, k2⟩ := hb.get i (by omega) hi
    rw [Nat.zero_add]
    exact ⟨by rw [hcell _ _ e1, k1], ps[i].2, hcell _ _ e2, k2.sl⟩
  · obtain rfl : fs = [] := List.length_eq_zero_iff.1 (by omega)
    rcases h.2 with ⟨rfl, _⟩ | ⟨g, cap, cur, rfl, _⟩ <;> exact .inl ⟨_, _, rfl, rfl⟩
theorem allL_take_le (fs : List (Int × List Int)) (j : Nat) : (allL (fs.take j)).length ≤ (allL fs).length := by
  rw [allL_split fs j, List.length_append]; omega
set_option maxRecDepth 100000 in
set_option maxHeartbeats 4000000 in
theorem all_none (ao : Option Addr) (cap : Nat) (w : World) : Calls Tryd.prog 22 #[.slice ao 0 cap] w fun e w' => e = .returned (.tuple #[.slice none 0 0, .nilIface]) ∧ Below w.heap.size w w' := by
  go_enter Tryd.func22, Tryd.ntmps22
  go_wp2_with fail
  refine wp_loop_rounds 1 ?_
  rw [rounds_succ]
  go_wp2_with fail
  exact bodyPost_ret (v := .tuple #[.slice none 0 0, .nilIface]) (by simp [results, Tryd.results22, go_sem]) rfl ⟨rfl, Below.refl _ _⟩
/-- What a call of All leaves: all bytes, or something wrong. -/
def AllP (fs : List (Int × List Int)) (w : World) (e : Ending) (w' : World) : Prop :=
  (((∀ f ∈ fs, Ok f) ∧ ∃ y, e = .returned (.tuple #[y, .nilIface]) ∧ w'.ownsRow w.heap.size 5 1 y (allL fs).length (bv (allL fs))) ∨ ((∃ f ∈ fs, ¬ Ok f) ∧ ∃ t u, e = .returned (.tuple #[.slice none 0 0, .iface t u]))) ∧ Below w.heap.size w w'
set_option maxRecDepth 100000 in
set_option maxHeartbeats 4000000 in
theorem all_some (b o cap : Nat) (fs : List (Int × List Int)) (w : World) (h3 : ∀ i (h : i < fs.length), w.cell? ⟨b, o + i * 2, none⟩ = some (.int .i64 fs[i].1) ∧ ∃ u, w.cell? ⟨b, o + i * 2 + 1, none⟩ = some u ∧ Sl bc w u fs[i].2)
    (hn : fs.length ≤ 1000) (hl : ∀ f ∈ fs, f.2.length ≤ 4000 ∧ Byt f.2) (ht : (allL fs).length ≤ 100000) :
    Calls Tryd.prog 22 #[.slice (some ⟨b, o, none⟩) fs.length cap] w (AllP fs w) := by
  have H3 := hide h3
  have HL := hide hl
  clear h3 hl
  go_enter Tryd.func22, Tryd.ntmps22
  go_wp2_with fail
  go_loopw [4, 11] (fun y i wr => ∃ (j : Nat) (cur : List Value), j ≤ fs.length ∧ i = .int .i64 (j : Int) ∧ (∀ f ∈ fs.take j, Ok f) ∧ Rw w.heap.size wr y (allL (fs.take j)).length cur ∧ cur.take (allL (fs.take j)).length = bv (allL (fs.take j)) ∧ Below w.heap.size w wr) (fun _ i _ => fs.length - (intOf i).toNat)
  case atStart => exact ⟨0, [], Nat.zero_le _, rfl, fun f hf => by simp at hf, rw_nil _ _, rfl, Below.refl _ _⟩
  case round =>
    obtain ⟨j, cur, hj, rfl, hok, hrw, htk, hb⟩ := hrel
    have HOK := hide hok
    have HRW := hide hrw
    have HTK := hide htk
    have HB := hide hb
    clear hok hrw htk hb
    by_cases hlt : j < fs.length
    · obtain ⟨c0', ub, c1', hs'⟩ := H3.out j hlt
      have c0 : wr.cell? ⟨b, o + j * 2, none⟩ = some (.int .i64 fs[j].1) := (HB.out.cell (p := ⟨b, o + j * 2, none⟩) (cell_block c0')).trans c0'
      have c1 : wr.cell? ⟨b, o + j * 2 + 1, none⟩ = some ub := (HB.out.cell (p := ⟨b, o + j * 2 + 1, none⟩) (cell_block c1')).trans c1'
      have hs := hs'.below HB.out
      obtain ⟨ao3, cap3, hub⟩ := hs'.form
      obtain ⟨M, hM⟩ : ∃ M, M = fs[j].2.length := ⟨_, rfl⟩
      rw [← hM] at hub
      subst hub
      have hbody := HL.out fs[j] (List.getElem_mem hlt)
      have HSN := hide (allL_snoc fs j hlt)
      have HTL := hide (allL_take_le fs (j + 1))
      have HFJ : Hid (fs.take (j + 1) = fs.take j ++ [fs[j]]) := hide (List.take_succ_eq_append_getElem hlt)
      have hltI : (j : Int) < (fs.length : Int) := by omega
      have HM := hide (List.getElem_mem hlt)
      generalize hfj : fs[j] = f at *
      clear c0' c1' hs' hM hfj
      have hba : Below wr.heap.size wr (wr.alloc (.cells #[.int .i64 f.1, .slice ao3 M cap3] 24)) := (Below.refl _ _).alloc (Nat.le_refl _) _
      by_cases hbad : f.1 < 0 ∨ (¬ f.1 < 0 ∧ 63 < f.1)
      · have HP := hide (put_bad f.1 ao3 M cap3 (wr.alloc (.cells #[.int .i64 f.1, .slice ao3 M cap3] 24)) hbad)
        unfold ft at HP
        have HBA := hide (HB.out.trans (hba.mono HB.out.size))
        have HNB : Hid (∃ f ∈ fs, ¬ Ok f) := hide ⟨f, HM.out, fun h => by have h1 := h.1; have h2 := h.2.1; omega⟩
        clear hbad hba hs hbody
        go_wp2_with (first
          | (go_at_call 8; refine (HP.out).mono ?_; rintro e w2 ⟨rfl, hb2⟩; have HB2 := hide (HBA.out.trans (hb2.mono HBA.out.size)); clear hb2)
          | (go_at_call 34; refine (wrap_some _ _ _ _ _).mono ?_; rintro e w3 ⟨rfl, rfl⟩))
        exact bodyPost_ret (v := .tuple #[.slice none 0 0, .iface 66 (.agg #[.string ⟨#[102, 114, 97, 109, 101]⟩, .int .i64 (j : Int), .iface 66 (.agg #[.string ⟨#[107, 105, 110, 100]⟩, .int .i64 f.1, .iface 32 (.int .i64 5)])])]) (by simp [results, Tryd.results22, go_sem]) rfl ⟨.inr ⟨HNB.out, _, _, rfl⟩, HB2.out⟩
      · have hk0 : ¬ f.1 < 0 := by omega
        have hk1 : ¬ 63 < f.1 := by omega
        have HP := hide (put_ok f.1 (.slice ao3 M cap3) f.2 (wr.alloc (.cells #[.int .i64 f.1, .slice ao3 M cap3] 24)) (hs.below hba) hbody.1 hbody.2 hk0 hk1)
        have HOK1 : Hid (∀ g ∈ fs.take (j + 1), Ok g) := hide (by
          rw [HFJ.out]
          intro g hg
          rcases List.mem_append.1 hg with q | q
          · exact HOK.out g q
          · simp at q; subst q; exact ⟨by omega, by omega, by have := hbody.1; omega⟩)
        have HBA := hide (HB.out.trans (hba.mono HB.out.size))
        have HRW1 := hide (HRW.out.below hba)
        have htot : (allL (fs.take j)).length + (frameL f.1 f.2).length ≤ 100000 := by have h1 := HTL.out; rw [HSN.out, List.length_append] at h1; omega
        clear hbad hba hs hbody HRW HOK
        generalize frameL f.1 f.2 = X at *
        generalize hY : allL (fs.take j) = Y at *
        have HY := hide hY
        clear hY
        go_wp2_with fail
        refine (HP.out).mono ?_
        rintro e w2 ⟨y2, rfl, hown, hb2⟩
        have HB2 := hide (HBA.out.trans (hb2.mono HBA.out.size))
        have HRW2 := hide (HRW1.out.below hb2)
        have HSL := hide (show Sl bc w2 y2 X from sl_of_owns hown)
        have hsz2 := HB2.out.size
        have HSZ2 := hide hsz2
        clear hown hb2 HRW1 hsz2 HP
        go_wp2_with (first | (at_builtin; refine wpList_append_sl _ rfl _ _ rfl w.heap.size _ Y.length cur rfl HRW2.out HSZ2.out _ X rfl HSL.out (by omega) ?_))
        intro w3 v3 cur3 hp3
        have HRW3 := hide hp3.rw
        have HTK3 := hide hp3.tk
        have HB3 := hide (HB2.out.trans hp3.below)
        clear hp3
        go_wp2_with fail
        go_roundw
        case rel =>
          refine ⟨j + 1, cur3, by omega, by go_num, HOK1.out, ?_, ?_, HB3.out⟩
          · rw [HSN.out, List.length_append]; exact HRW3.out
          · rw [HSN.out, List.length_append, HTK3.out, HTK.out]; simp [bv]
        case measure => simp [intOf]; omega
    · obtain rfl : j = fs.length := by omega
      rw [List.take_length] at HOK HRW HTK
      have HO : Hid (wr.ownsRow w.heap.size 5 1 u4 (allL fs).length (bv (allL fs))) := hide (by have := HRW.out.owns; rw [HTK.out] at this; exact this)
      clear HRW HTK
      go_wp2_with fail
      exact bodyPost_ret (v := .tuple #[u4, .nilIface]) (by simp [results, Tryd.results22, go_sem]) rfl ⟨.inl ⟨HOK.out, u4, rfl, HO.out⟩, HB.out⟩
theorem all_any (v : Value) (fs : List (Int × List Int)) (w : World) (hv : Fl w v fs) (hn : fs.length ≤ 1000) (hl : ∀ f ∈ fs, f.2.length ≤ 4000 ∧ Byt f.2) (ht : (allL fs).length ≤ 100000) :
    Calls Tryd.prog 22 #[v] w (AllP fs w) := by
  rcases hv with ⟨ao, cap, rfl, rfl⟩ | ⟨b, o, cap, rfl, h2, h3⟩
  · refine (all_none ao cap w).mono ?_
    rintro e w' ⟨rfl, hb⟩
    exact ⟨.inl ⟨fun f hf => by simp at hf, _, rfl, World.ownsRow_nil _ _ _ _⟩, hb⟩
  · exact all_some b o cap fs w h3 hn hl ht
/-- How many bytes all bodies have. -/
def tot (fs : List (Int × List Int)) : Nat := (fs.map fun f => f.2.length).sum
theorem tot_snoc (fs : List (Int × List Int)) (j : Nat) (h : j < fs.length) : tot (fs.take (j + 1)) = tot (fs.take j) + fs[j].2.length := by
  rw [List.take_succ_eq_append_getElem h]
  unfold tot
  rw [List.map_append, List.sum_append]
  simp only [List.map_cons, List.map_nil, List.sum_cons, List.sum_nil]
  omega
theorem tot_mem {fs : List (Int × List Int)} {f : Int × List Int} (h : f ∈ fs) : f.2.length ≤ tot fs := by
  induction fs with
  | nil => simp at h
  | cons g fs ih =>
    have e : tot (g :: fs) = g.2.length + tot fs := by simp [tot]
    rcases List.mem_cons.1 h with rfl | h
    · omega
    · have := ih h; omega
theorem allL_len_le (fs : List (Int × List Int)) : (allL fs).length ≤ tot fs + 14 * fs.length := by
  induction fs with
  | nil => simp [allL]
  | cons g fs ih =>
    have e : tot (g :: fs) = g.2.length + tot fs := by simp [tot]
    have e2 : allL (g :: fs) = frameL g.1 g.2 ++ allL fs := by simp [allL]
    have h8 := intL_le g.2.length
    rw [e2, List.length_append, frameL_len, List.length_cons]
    omega
/-- What a call of light leaves. -/
def LightP (fs : List (Int × List Int)) (w : World) (e : Ending) (w' : World) : Prop := (∃ r, e = .returned (.bool r) ∧ (r = true → fs.length ≤ 60 ∧ tot fs ≤ 1500)) ∧ w' = w
set_option maxRecDepth 100000 in
set_option maxHeartbeats 4000000 in
theorem light_some (b o cap : Nat) (fs : List (Int × List Int)) (w : World) (hn : fs.length ≤ 9223372036854775807) (h3 : ∀ i (h : i < fs.length), w.cell? ⟨b, o + i * 2, none⟩ = some (.int .i64 fs[i].1) ∧ ∃ u, w.cell? ⟨b, o + i * 2 + 1, none⟩ = some u ∧ Sl bc w u fs[i].2) (hl : ∀ f ∈ fs, f.2.length ≤ 1152921504606846976) :
    Calls Tryd.prog 6 #[.slice (some ⟨b, o, none⟩) fs.length cap] w (LightP fs w) := by
  have H3 := hide h3
  have HL := hide hl
  clear h3 hl
  by_cases h60 : 60 < fs.length
  · have h60' : (60 : Int) < (fs.length : Int) := by omega
    go_enter Tryd.func6, Tryd.ntmps6
    go_wp2_with fail
    go_ret
    exact ⟨⟨false, rfl, fun h => by cases h⟩, rfl⟩
  · have h60' : ¬ (60 : Int) < (fs.length : Int) := by omega
    go_enter Tryd.func6, Tryd.ntmps6
    go_wp2_with fail
    go_loop [3, 4] (fun n i => ∃ j : Nat, j ≤ fs.length ∧ i = .int .i64 (j : Int) ∧ n = .int .i64 (tot (fs.take j) : Int) ∧ tot (fs.take j) ≤ 1500) (fun _ i => fs.length - (intOf i).toNat)
    case atStart => exact ⟨0, Nat.zero_le _, rfl, rfl, by simp [tot]⟩
    case round =>
      obtain ⟨j, hj, rfl, rfl, ht⟩ := hrel
      by_cases hlt : j < fs.length
      · obtain ⟨c0, ub, c1, hs⟩ := H3.out j hlt
        obtain ⟨ao3, cap3, hub⟩ := hs.form
        have hbl := HL.out fs[j] (List.getElem_mem hlt)
        have HSN := hide (tot_snoc fs j hlt)
        have hltI : (j : Int) < (fs.length : Int) := by omega
        generalize fs[j] = f at *
        subst hub
        clear hs
        obtain ⟨T, hT⟩ : ∃ T, T = tot (fs.take j) := ⟨_, rfl⟩
        rw [← hT] at ht HSN ⊢
        clear hT
        by_cases hbig : 1500 < T + f.2.length
        · have hbig' : (1500 : Int) < (T : Int) + (f.2.length : Int) := by omega
          go_wp2_with fail
          go_ret
          exact ⟨⟨false, rfl, fun h => by cases h⟩, rfl⟩
        · have hbig' : ¬ (1500 : Int) < (T : Int) + (f.2.length : Int) := by omega
          go_wp2_with fail
          go_round
          case rel => exact ⟨j + 1, by omega, by go_num, by rw [HSN.out]; go_num, by rw [HSN.out]; omega⟩
          case measure => simp [intOf]; omega
      · obtain rfl : j = fs.length := by omega
        rw [List.take_length] at ht
        clear hlt
        go_wp2_with fail
        go_ret
        exact ⟨⟨true, rfl, fun _ => ⟨by omega, ht⟩⟩, rfl⟩
set_option maxHeartbeats 4000000 in
theorem light_none (ao : Option Addr) (cap : Nat) (w : World) : Calls Tryd.prog 6 #[.slice ao 0 cap] w (LightP [] w) := by
  go_enter Tryd.func6, Tryd.ntmps6
  go_wp2_with fail
  refine wp_loop_rounds 1 ?_
  rw [rounds_succ]
  go_wp2_with fail
  go_ret
  exact ⟨⟨true, rfl, fun _ => ⟨by simp, by simp [tot]⟩⟩, rfl⟩
theorem light_any (v : Value) (fs : List (Int × List Int)) (w : World) (hv : Fl w v fs) (hn : fs.length ≤ 9223372036854775807) (hl : ∀ f ∈ fs, f.2.length ≤ 1152921504606846976) : Calls Tryd.prog 6 #[v] w (LightP fs w) := by
  rcases hv with ⟨ao, cap, rfl, rfl⟩ | ⟨b, o, cap, rfl, h2, h3⟩
  · exact light_none ao cap w
  · exact light_some b o cap fs w hn h3 hl
end Go.Proofs.YtenahnbfaekljaaDoor
namespace Go.Proofs.YtenahnbfaekljaaDoor
open Go.RowKit

set_option maxRecDepth 100000 in
set_option maxHeartbeats 4000000 in
theorem fsame_some (b o cap b' o' cap' : Nat) (fs : List (Int × List Int)) (w : World) (h3 : ∀ i (h : i < fs.length), w.cell? ⟨b, o + i * 2, none⟩ = some (.int .i64 fs[i].1) ∧ ∃ u, w.cell? ⟨b, o + i * 2 + 1, none⟩ = some u ∧ Sl bc w u fs[i].2)
    (h3' : ∀ i (h : i < fs.length), w.cell? ⟨b', o' + i * 2, none⟩ = some (.int .i64 fs[i].1) ∧ ∃ u, w.cell? ⟨b', o' + i * 2 + 1, none⟩ = some u ∧ Sl bc w u fs[i].2) (hn : fs.length ≤ 10000) (hl : ∀ f ∈ fs, f.2.length ≤ 40000) :
    Calls Tryd.prog 18 #[.slice (some ⟨b, o, none⟩) fs.length cap, .slice (some ⟨b', o', none⟩) fs.length cap'] w fun e w' => e = .returned (.bool true) ∧ Below w.heap.size w w' := by
  have H3 := hide h3
  have H3' := hide h3'
  have HL := hide hl
  clear h3 h3' hl
  go_enter Tryd.func18, Tryd.ntmps18
  go_wp2_with fail
  go_loopw [5] (fun i wr => ∃ j : Nat, j ≤ fs.length ∧ i = .int .i64 (j : Int) ∧ Below w.heap.size w wr) (fun i _ => fs.length - (intOf i).toNat)
  case atStart => exact ⟨0, Nat.zero_le _, rfl, Below.refl _ _⟩
  case round =>
    obtain ⟨j, hj, rfl, hb⟩ := hrel
    have HB := hide hb
    clear hb
    by_cases hlt : j < fs.length
    · obtain ⟨c0', u1, c1', hs1⟩ := H3.out j hlt
      obtain ⟨d0', u2, d1', hs2⟩ := H3'.out j hlt
      have hbl := HL.out fs[j] (List.getElem_mem hlt)
      have hltI : (j : Int) < (fs.length : Int) := by omega
      obtain ⟨a1, k1, e1⟩ := hs1.form
      obtain ⟨a2, k2, e2⟩ := hs2.form
      generalize fs[j] = f at *
      obtain ⟨M, hM⟩ : ∃ M, M = f.2.length := ⟨_, rfl⟩
      rw [← hM] at e1 e2
      subst e1 e2
      clear hM
      have hF : ∀ W, Below wr.heap.size wr W → (W.cell? ⟨b, o + j * 2, none⟩ = some (.int .i64 f.1) ∧ W.cell? ⟨b, o + j * 2 + 1, none⟩ = some (.slice a1 M k1) ∧ W.cell? ⟨b', o' + j * 2, none⟩ = some (.int .i64 f.1) ∧ W.cell? ⟨b', o' + j * 2 + 1, none⟩ = some (.slice a2 M k2)) := fun W h => by
        have hw := HB.out.trans (h.mono HB.out.size)
        exact ⟨(hw.cell (p := ⟨b, o + j * 2, none⟩) (cell_block c0')).trans c0', (hw.cell (p := ⟨b, o + j * 2 + 1, none⟩) (cell_block c1')).trans c1', (hw.cell (p := ⟨b', o' + j * 2, none⟩) (cell_block d0')).trans d0', (hw.cell (p := ⟨b', o' + j * 2 + 1, none⟩) (cell_block d1')).trans d1'⟩
      have HS := hide (fun W (h : Below wr.heap.size wr W) => same_bytes (.slice a1 M k1) (.slice a2 M k2) f.2 W (hs1.below (HB.out.trans (h.mono HB.out.size))) (hs2.below (HB.out.trans (h.mono HB.out.size))) hbl)
      have HS0 := hide (hs_drew hF (Nat.le_refl _))
      have HF := hide hF
      have hne : (f.1 != f.1) = false := by simp
      clear hF c0' c1' d0' d1' hs1 hs2 hbl
      go_wp2_with fail
      go_region_held3 (fun W => (W.cell? ⟨b, o + j * 2, none⟩ = some (.int .i64 f.1) ∧ W.cell? ⟨b, o + j * 2 + 1, none⟩ = some (.slice a1 M k1) ∧ W.cell? ⟨b', o' + j * 2, none⟩ = some (.int .i64 f.1) ∧ W.cell? ⟨b', o' + j * 2 + 1, none⟩ = some (.slice a2 M k2)) ∧ Below wr.heap.size wr W ∧ wr.heap.size ≤ W.heap.size)
        (first | with_reducible assumption | with_reducible exact hs_call HF.out (by assumption) (by assumption) | with_reducible exact HS0.out)
        (first
          | (go_at_call 12; refine (HS.out _ ?_).mono ?_; exact And.left (And.right (by assumption)); rintro e w' ⟨rfl, hb⟩))
      have hfin : Below wr.heap.size wr w' := And.left (And.right (by assumption))
      have HBF := hide (HB.out.trans (hfin.mono HB.out.size))
      clear hfin
      go_wp2_with fail
      go_roundw
      case rel => exact ⟨j + 1, by omega, by go_num, HBF.out⟩
      case measure => simp [intOf]; omega
    · obtain rfl : j = fs.length := by omega
      clear hlt
      go_wp2_with fail
      go_ret
      exact ⟨rfl, HB.out⟩
set_option maxHeartbeats 4000000 in
theorem fsame_none (ao bo : Option Addr) (cap cap' : Nat) (w : World) : Calls Tryd.prog 18 #[.slice ao 0 cap, .slice bo 0 cap'] w fun e w' => e = .returned (.bool true) ∧ Below w.heap.size w w' := by
  go_enter Tryd.func18, Tryd.ntmps18
  go_wp2_with fail
  refine wp_loop_rounds 1 ?_
  rw [rounds_succ]
  go_wp2_with fail
  go_ret
  exact ⟨rfl, Below.refl _ _⟩
theorem fsame_any (v u : Value) (fs : List (Int × List Int)) (w : World) (hv : Fl w v fs) (hu : Fl w u fs) (hn : fs.length ≤ 10000) (hl : ∀ f ∈ fs, f.2.length ≤ 40000) :
    Calls Tryd.prog 18 #[v, u] w fun e w' => e = .returned (.bool true) ∧ Below w.heap.size w w' := by
  by_cases h0 : 0 < fs.length
  · rcases hv with ⟨_, _, rfl, _⟩ | ⟨b, o, cap, rfl, h2, h3⟩
    · simp at h0
    rcases hu with ⟨_, _, rfl, _⟩ | ⟨b', o', cap', rfl, h2', h3'⟩
    · simp at h0
    exact fsame_some b o cap b' o' cap' fs w h3 h3' hn hl
  · obtain rfl : fs = [] := List.length_eq_zero_iff.1 (by omega)
    obtain ⟨ao, cap, rfl⟩ := hv.form
    obtain ⟨bo, cap', rfl⟩ := hu.form
    exact fsame_none ao bo cap cap' w
end Go.Proofs.YtenahnbfaekljaaDoor
namespace Go.Proofs.YtenahnbfaekljaaDoor
open Go.RowKit

def fsW : List (Int × List Int) := [(3, [7, 8]), (9, [])]
theorem fsW_ok : ∀ f ∈ fsW, Ok f := by unfold fsW Ok; decide
theorem fsW_small : ∀ f ∈ fsW, f.2.length ≤ 4000 ∧ Byt f.2 := by unfold fsW Byt; decide
theorem fsW_len : (allL fsW).length = 16 := by
  have e : allL fsW = frameL 3 [7, 8] ++ frameL 9 [] := by simp [allL, fsW]
  rw [e, List.length_append, frameL_len, frameL_len]
  decide
theorem fsW_next : nextS (allL fsW) = ⟨3, [7, 8], 9, 0, ⟨#[]⟩, 0⟩ := by
  have e : allL fsW = frameL 3 [7, 8] ++ frameL 9 [] := by simp [allL, fsW]
  rw [e, nextS_put _ (by decide) (by decide) (by decide), frameL_len]
  rfl
theorem its_none {l : List Int} {k : Nat} (hi : Its l k) (h : (nextS l).size = 0) : k = 0 := by
  rcases Nat.eq_zero_or_pos k with q | q
  · exact q
  · exact absurd h (hi 0 q)
theorem wk_first : (nextS ((allL fsW).take 5)).size = 0 ∧ (nextS ((allL fsW).take 5)).c = 0 := by
  have hs : (nextS ((allL fsW).take 5)).size = 0 := by
    by_cases h : (nextS ((allL fsW).take 5)).size = 0
    · exact h
    · exfalso
      have h1 := nextS_app ((allL fsW).drop 5) (.inl h)
      rw [List.take_append_drop, fsW_next] at h1
      have h2 := nextS_size ((allL fsW).take 5)
      rw [← h1, List.length_take] at h2
      simp only at h2
      omega
  exact ⟨hs, (it_cut fsW_ok (n := 5) (k := 0) (fun j hj => absurd hj (Nat.not_lt_zero _)) hs).2.2⟩
theorem end_all {fs : List (Int × List Int)} (h : ∀ f ∈ fs, Ok f) : it (allL fs) fs.length = (fs, (allL fs).length) := by
  rw [it_all h _ (Nat.le_refl _), List.take_length]
theorem its_end {fs : List (Int × List Int)} (h : ∀ f ∈ fs, Ok f) {k : Nat} (hi : Its (allL fs) k) (hs : (nextS ((allL fs).drop (it (allL fs) k).2)).size = 0) : k = fs.length := by
  refine its_one hi (its_all h) hs ?_
  rw [end_all h, List.drop_length]
  rfl
theorem leftS_none {A : List Int} {n : Nat} (h : (nextS (A.drop n)).c = 0) : leftS A n = A.drop n := if_pos h
theorem errS_none {a : Nat} {A : List Int} {n : Nat} (h : (nextS (A.drop n)).c = 0) : errS a A n = none := by
  unfold errS
  rw [show errF (nextS (A.drop n)) = none from if_pos h]
theorem strm_new (w : World) : Strm w.heap.size (w.alloc (.cells #[.slice none 0 0, .int .i64 0, .nilIface] 50)) w.heap.size (.slice none 0 0) [] 0 .nilIface :=
  ⟨⟨by simp, by simp, by simp, fun i => World.frozen?_alloc_at _ _ _ _ rfl⟩, by simp [Value.ownBlock], Nat.le_refl _, [], rw_nil _ _, rfl⟩
theorem Strm.form {B p : Nat} {W : World} {v : Value} {L : List Int} {a : Int} {e : Value} (h : Strm B W p v L a e) : ∃ ao cap, v = .slice ao L.length cap := by
  obtain ⟨_, _, _, cur, h1, h2⟩ := h
  exact (h1.sl h2).form
theorem Strm.lt {B p : Nat} {W : World} {v : Value} {L : List Int} {a : Int} {e : Value} (h : Strm B W p v L a e) : p < W.heap.size ∧ B ≤ p ∧ ∀ g, v.ownBlock = some g → B ≤ g ∧ g < W.heap.size := by
  obtain ⟨h0, _, h3, cur, h1, h2⟩ := h
  exact ⟨h0.lt, h3, h1.lt⟩
theorem Strm.below {B p : Nat} {W W' : World} {v : Value} {L : List Int} {a : Int} {e : Value} (h : Strm B W p v L a e) (hb : Below W.heap.size W W') : Strm B W' p v L a e := by
  obtain ⟨h0, h1, h2, cur, h3, h4⟩ := h
  exact ⟨h0.below hb, h1, h2, cur, h3.below hb, h4⟩
/-- What a call of Feed turns lies in new memory. -/
theorem strm_low {B p : Nat} {W w' : World} {v : Value} {L : List Int} {a : Int} {e : Value} (h : Strm B W p v L a e) (hx : Ex (fun k => k = p ∨ some k = v.ownBlock) W w') : Below B W w' := by
  obtain ⟨h1, h2, h3⟩ := h.lt
  refine hx.below (by omega) (fun k hk q => ?_)
  rcases q with rfl | q
  · omega
  · have := (h3 k q.symm).1; omega
set_option maxRecDepth 100000 in
set_option maxHeartbeats 8000000 in
theorem works_any (w : World) : Calls Tryd.prog 7 #[] w fun e w' => e = .returned (.bool true) ∧ Below w.heap.size w w' := by
  have hfl : Fl ((w.alloc (.cells #[.int .u8 7, .int .u8 8] 5)).alloc (.cells #[.int .i64 3, .slice (some ⟨w.heap.size, 0, none⟩) 2 2, .int .i64 9, .slice none 0 0] 24)) (.slice (some ⟨w.heap.size + 1, 0, none⟩) 2 2) fsW := by
    refine .inr ⟨w.heap.size + 1, 0, 2, rfl, Nat.le_refl _, fun i hi => ?_⟩
    match i, hi with
    | 0, _ =>
      refine ⟨by simp [fsW], .slice (some ⟨w.heap.size, 0, none⟩) 2 2, by simp, .inr ⟨w.heap.size, 0, 2, rfl, Nat.le_refl _, fun i hi => ?_⟩⟩
      match i, hi with
      | 0, _ => simp [fsW, bc]
      | 1, _ => simp [fsW, bc]
    | 1, _ => exact ⟨by simp [fsW], .slice none 0 0, by simp, Sl.nil _ _ _ _⟩
  have HA := hide (all_any _ fsW _ hfl (by decide) fsW_small (by rw [fsW_len]; decide))
  have HB0 := hide (((Below.refl w.heap.size w).alloc (Nat.le_refl _) (.cells #[.int .u8 7, .int .u8 8] 5)).alloc (by simp) (.cells #[.int .i64 3, .slice (some ⟨w.heap.size, 0, none⟩) 2 2, .int .i64 9, .slice none 0 0] 24))
  clear hfl
  go_enter Tryd.func7, Tryd.ntmps7
  go_wp2_with fail
  refine HA.out.mono ?_
  rintro e w1 ⟨h, hb1⟩
  rcases h with ⟨_, y, rfl, hy⟩ | ⟨⟨f, hf, hnf⟩, _⟩
  case inr => exact absurd (fsW_ok f hf) hnf
  rw [fsW_len] at hy
  have HSY := hide (show Sl bc w1 y (allL fsW) from sl_of_owns (by rw [fsW_len]; exact hy))
  have HB1 := hide (HB0.out.trans (hb1.mono HB0.out.size))
  obtain ⟨yo, yc, hyf⟩ := HSY.out.form
  rw [fsW_len] at hyf
  subst hyf
  have HP := hide (put_bad 64 none 0 0 w1 (.inr ⟨by decide, by decide⟩))
  clear hy hb1 HA
  go_wp2_with fail
  refine HP.out.mono ?_
  rintro e w2 ⟨rfl, hb2⟩
  have HB2 := hide (HB1.out.trans (hb2.mono HB1.out.size))
  have HSY2 := hide (HSY.out.below hb2)
  have HST := hide (strm_new w2)
  have hba : Below w2.heap.size w2 (w2.alloc (.cells #[.slice none 0 0, .int .i64 0, .nilIface] 50)) := (Below.refl _ _).alloc (Nat.le_refl _) _
  have HB3 := hide (HB2.out.trans (hba.mono HB2.out.size))
  have HSY3 := hide (HSY2.out.below hba)
  have HLO := hide hba
  clear hb2 hba HP HSY
  have hbyt : Byt (allL fsW) := by
    have e : allL fsW = frameL 3 [7, 8] ++ frameL 9 [] := by simp [allL, fsW]
    rw [e]
    intro x hx
    rcases List.mem_append.1 hx with hx | hx
    · exact frameL_byt (by decide) (by decide) (by unfold Byt; decide) x hx
    · exact frameL_byt (by decide) (by decide) (by unfold Byt; decide) x hx
  obtain ⟨q1, hs1, hq1⟩ := slice_to_any _ (allL fsW) 5 _ HSY3.out (by rw [fsW_len]; decide)
  obtain ⟨q2, hs2, hq2⟩ := slice_from_any _ (allL fsW) 5 _ HSY3.out (by rw [fsW_len]; decide)
  have hs1' : ∀ W, (Instr.slice 22 (.slice yo 16 yc) none (some (.int .i64 5)) none).run Tryd.prog W = .ok q1 W := hs1
  have hs2' : ∀ W, (Instr.slice 22 (.slice yo 16 yc) (some (.int .i64 5)) none none).run Tryd.prog W = .ok q2 W := hs2
  have HF1 := hide (feed_core w2.heap.size w2.heap.size _ q1 [] ((allL fsW).take 5) ((allL fsW).take 5) 0 _ HST.out (by simp) (hq1 _ HSY3.out) rfl (fun x hx => hbyt x (List.mem_of_mem_take hx)) (by rw [List.length_take]; omega) (by omega))
  have HQ2 := hide hq2
  have HBY := hide hbyt
  clear hbyt hs1 hs2 hq1 hq2
  go_wp2_with fail
  refine HF1.out.mono ?_
  rintro e w4 ⟨y1, k1, ps1, v1, rfl, hi1, hz1, hown1, _, hstr1, hblk1, hx1, _⟩
  obtain rfl : k1 = 0 := its_none hi1 wk_first.1
  have hstr1' : Strm w2.heap.size w4 w2.heap.size v1 ((allL fsW).take 5) ((0 : Nat) : Int) .nilIface := by
    have h1 := hstr1
    rw [leftS_none (by exact wk_first.2), errS_none (by exact wk_first.2)] at h1
    exact h1
  have hy1 : ∃ ao cap, y1 = .slice ao 0 cap := by rcases hown1.2 with ⟨rfl, _⟩ | ⟨g, cap, cur, rfl, _⟩ <;> exact ⟨_, _, rfl⟩
  obtain ⟨yo1, yc1, rfl⟩ := hy1
  have hlo4 : Below w2.heap.size w2 w4 := HLO.out.trans (strm_low HST.out hx1)
  have HLO4 := hide hlo4
  have HF2 := hide (feed_core w2.heap.size w2.heap.size v1 q2 ((allL fsW).take 5) ((allL fsW).drop 5) (allL fsW) 0 w4 hstr1' hlo4.size (HQ2.out _ (HSY2.out.below hlo4)) (List.take_append_drop _ _).symm HBY.out (by rw [fsW_len]; omega) (by omega))
  have HST1 := hide hstr1'
  clear hown1 hstr1 hstr1' hblk1 hx1 hi1 hz1 hlo4 HF1 HQ2 HSY3 HSY2 HST
  go_wp2_with fail
  refine HF2.out.mono ?_
  rintro e w5 ⟨y2, k2, ps2, v2, rfl, hi2, hz2, hown2, hbod2, hstr2, hblk2, hx2, hyv2⟩
  obtain rfl : k2 = 2 := its_end fsW_ok hi2 hz2
  have hit : it (allL fsW) 2 = (fsW, (allL fsW).length) := end_all fsW_ok
  have hnx : (nextS ((allL fsW).drop (allL fsW).length)).c = 0 := by rw [List.drop_length]; rfl
  rw [hit] at hbod2 hstr2
  simp only at hbod2 hstr2
  rw [leftS_none hnx, errS_none hnx, List.drop_length, fsW_len] at hstr2
  have hstr2' : Strm w2.heap.size w5 w2.heap.size v2 [] ((16 : Nat) : Int) .nilIface := hstr2
  have hlo5 : Below w2.heap.size w2 w5 := HLO4.out.trans (strm_low HST1.out hx2)
  have hba5 : Below w5.heap.size w5 (w5.alloc (.cells #[.int .u8 1] 5)) := (Below.refl _ _).alloc (Nat.le_refl _) _
  have HLO5 := hide (hlo5.trans (hba5.mono hlo5.size))
  have HST2 := hide (hstr2'.below hba5)
  have HO2 := hide (owns_below hown2 hba5)
  have HBO2 := hide (hbod2.below hba5)
  have HYV2 := hide hyv2
  have hp4 : w2.heap.size < w4.heap.size := HST1.out.lt.1
  have HF3 := hide (feed_core w2.heap.size w2.heap.size v2 (.slice (some ⟨w5.heap.size, 0, none⟩) 1 1) [] [1] [1] 16 _ HST2.out (by have := HLO5.out.size; omega) (sl_new w5 [1] (by simp [maxLen])) rfl (by unfold Byt; decide) (by decide) (by omega))
  have hy2 : ∃ g cap, y2 = .slice (some ⟨g, 0, none⟩) 2 cap := by
    obtain ⟨g, cap, e, _⟩ := owns_cells hown2 (by decide)
    exact ⟨g, cap, e⟩
  obtain ⟨g2, yc2, rfl⟩ := hy2
  clear hown2 hbod2 hstr2 hstr2' hblk2 hx2 hyv2 hi2 hz2 hlo5 hba5 HF2 hit hnx HST1 HBY
  go_wp2_with fail
  refine HF3.out.mono ?_
  rintro e w6 ⟨y3, k3, ps3, v3, rfl, hi3, hz3, hown3, _, hstr3, hblk3, hx3, _⟩
  obtain rfl : k3 = 0 := its_none hi3 rfl
  have hstr3' : Strm w2.heap.size w6 w2.heap.size v3 [] 16 (ev (some ([(⟨#[102, 114, 97, 109, 101]⟩, 16), (⟨#[115, 105, 103, 110]⟩, 0)], 5))) := hstr3
  have hy3 : ∃ ao cap, y3 = .slice ao 0 cap := by rcases hown3.2 with ⟨rfl, _⟩ | ⟨g, cap, cur, rfl, _⟩ <;> exact ⟨_, _, rfl⟩
  obtain ⟨yo3, yc3, rfl⟩ := hy3
  obtain ⟨vo3, vc3, rfl⟩ := hstr3'.form
  have hlo6 := HLO5.out.trans (strm_low HST2.out hx3)
  have HB6 := hide (HB2.out.trans (hlo6.mono HB2.out.size))
  have hns : ∀ g, g = g2 ∨ (w4.heap.size ≤ g ∧ some g ≠ v2.ownBlock) → ¬ (g = w2.heap.size ∨ some g = v2.ownBlock) := by
    intro g hg q
    have h2 := HO2.out.lt g2 rfl
    rcases hg with rfl | hg
    · rcases q with q | q
      · omega
      · exact HYV2.out g rfl q.symm
    · rcases q with q | q
      · omega
      · exact hg.2 q
  have ho6 := owns_ex HO2.out hx3 (fun g hg => hns g (.inl (by cases hg; rfl)))
  have hb6 : Bod (fun b => w4.heap.size ≤ b ∧ some b ≠ v2.ownBlock) w6 ps2 fsW := Bod.imp (fun _ _ h => h.ex hx3 (fun b hb => hns b (.inr hb))) HBO2.out
  have hfl6 := fl_of_owns (fs := fsW) ho6 hb6
  have HFL := hide hfl6
  have HR6 := hide hstr3'.1
  clear hown3 hstr3 hstr3' hblk3 hx3 hi3 hz3 hlo6 hns ho6 hb6 hfl6 HF3 HO2 HBO2 HYV2 HST2 HLO5 HLO4
  have HI1 := hide (fun W => is_ev (some ([(⟨#[107, 105, 110, 100]⟩, 64)], 5)) 5 W)
  rw [show isV (some ([((⟨#[107, 105, 110, 100]⟩ : ByteArray), (64 : Int))], (5 : Int))) 5 = true from rfl] at HI1
  unfold ft
  go_wp2_with fail
  refine (HI1.out _).mono ?_
  rintro e w7 ⟨rfl, hb7⟩
  have HR7 := hide (HR6.out.below hb7)
  have HB7 := hide (HB6.out.trans (hb7.mono HB6.out.size))
  rcases HFL.out.below hb7 with ⟨_, _, hx, _⟩ | ⟨b7, o7, cap7, hv7, _, hc7⟩
  · cases hx
  cases hv7
  obtain ⟨c0, u7, c1, hs7⟩ := hc7 0 (by decide)
  obtain ⟨ao7, cp7, hu7⟩ := hs7.form
  subst hu7
  have d0 : w7.cell? ⟨g2, 0, none⟩ = some (.int .i64 3) := c0
  have d1 : w7.cell? ⟨g2, 1, none⟩ = some (.slice ao7 2 cp7) := c1
  have HI2 := hide (fun W => is_ev (some ([(⟨#[102, 114, 97, 109, 101]⟩, 16), (⟨#[115, 105, 103, 110]⟩, 0)], 5)) 5 W)
  rw [show isV (some ([((⟨#[102, 114, 97, 109, 101]⟩ : ByteArray), (16 : Int)), (⟨#[115, 105, 103, 110]⟩, 0)], (5 : Int))) 5 = true from rfl] at HI2
  generalize ev (some ([((⟨#[102, 114, 97, 109, 101]⟩ : ByteArray), (16 : Int)), (⟨#[115, 105, 103, 110]⟩, 0)], (5 : Int))) = E at *
  clear hb7 c0 c1 hs7 hc7 HFL HR6
  go_wp2_with (first
    | (go_at_call 19; refine (serr_any _ _ _ _ _ HR7.out).mono ?_; rintro e w8 ⟨rfl, rfl⟩)
    | (go_at_call 23; refine (HI2.out _).mono ?_; rintro e w9 ⟨rfl, hb9⟩; have HR9 := hide (HR7.out.below hb9); have HB9 := hide (HB7.out.trans (hb9.mono HB7.out.size)); clear hb9)
    | (go_at_call 20; refine (sleft_any _ _ _ _ _ _ _ HR9.out).mono ?_; rintro e w10 ⟨rfl, rfl⟩))
  go_ret
  exact ⟨rfl, HB9.out⟩
end Go.Proofs.YtenahnbfaekljaaDoor
