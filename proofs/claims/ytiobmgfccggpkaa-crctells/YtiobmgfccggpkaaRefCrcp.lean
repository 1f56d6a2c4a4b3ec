/-
  THE DOCUMENT's BYTES WITH THEIR SUM BEHIND, AND OPENED AGAIN (castellanref03.Put, Open). Conditions: the bytes' cells hold them, no more than ten thousand.
-/
import Derived.Test.YtiobmgfccggpkaaRefCrc
import Derived.Test.YtiobmgfccggpkaaRwa
namespace Go.Proofs.Ytiobmgfccggpkaa
open Go.RowKit

/-- Four bytes of a number, the lowest first. -/
def le4 (s : Nat) : List Int := [((s % 256 : Nat) : Int), ((s / 256 % 256 : Nat) : Int), ((s / 65536 % 256 : Nat) : Int), ((s / 16777216 % 256 : Nat) : Int)]
theorem le4_next (s j : Nat) (h : j < 4) : (le4 s).take (j + 1) = (le4 s).take j ++ [((s / 256 ^ j % 256 : Nat) : Int)] := by
  have : j = 0 ∨ j = 1 ∨ j = 2 ∨ j = 3 := by omega
  rcases this with rfl | rfl | rfl | rfl
  · simp [le4]
  · simp [le4]
  · simp [le4]
  · simp [le4]
theorem crcL_lt (l : List Int) : crcL l < 4294967296 := by unfold crcL; omega
set_option maxRecDepth 100000 in
set_option maxHeartbeats 4000000 in
theorem refPut_any (v : Value) (l : List Int) (w : World) (hv : Sl bc w v l) (hl : l.length ≤ 10000) (hby : Byt l) :
    Calls Try.prog 16 #[v] w fun e w' => ∃ v', e = .returned v' ∧ w'.ownsRow w.heap.size 5 1 v' (l ++ le4 (crcL l)).length (bv (l ++ le4 (crcL l))) ∧ Below w.heap.size w w' := by
  have HV := hide hv
  have HS := hide (fun W (h : Below w.heap.size w W) => refSum_any v l W (hv.below h) hl hby)
  have hS := crcL_lt l
  obtain ⟨ao, cap, rfl⟩ := hv.form
  clear hv hby
  generalize crcL l = S at *
  go_enter Try.func16, Try.ntmps16
  go_wp2_with (first | (at_builtin; refine wpList_append_sl _ rfl _ _ rfl w.heap.size _ 0 [] rfl (rw_nil _ _) (Nat.le_refl _) _ l rfl HV.out (by omega) ?_))
  intro w0 v0 cur0 hp0
  have HP0 := hide hp0
  clear hp0
  go_wp2_with fail
  refine (HS.out _ HP0.out.below).mono ?_
  rintro e w1 ⟨rfl, rfl⟩
  go_wp2_with fail
  go_loopw [3, 4, 5] (fun u s i wr => ∃ j : Nat, j ≤ 4 ∧ i = .int .i64 j ∧ s = .int .u32 ((S / 256 ^ j : Nat) : Int) ∧ ∃ cur, Put w.heap.size w (.slice none 0 0) 0 [] wr u (l.length + j) cur (bv (l ++ (le4 S).take j))) (fun _ _ i _ => 4 - (intOf i).toNat)
  case atStart => exact ⟨0, by omega, rfl, by simp, cur0, by simpa using HP0.out⟩
  case round =>
    obtain ⟨j, hj, rfl, rfl, cur, hp⟩ := hrel
    have HP := hide hp
    clear hp HP0
    by_cases hlt : j < 4
    · have hlt' : (j : Int) < 4 := by omega
      have hdiv : ((S / 256 ^ j : Nat) : Int) / 256 = ((S / 256 ^ (j + 1) : Nat) : Int) := by
        rw [Nat.pow_succ, ← Nat.div_div_eq_div_mul]
        rfl
      have HD := hide hdiv
      clear hdiv
      have hle : S / 256 ^ j ≤ S := Nat.div_le_self _ _
      have HN := hide (le4_next S j hlt)
      generalize S / 256 ^ j = T at *
      go_wp2_with (first | (at_builtin; refine wpList_append_rw _ rfl _ _ rfl w.heap.size _ (0 + (l.length + j)) cur rfl (HP.out.rw.below ((Below.refl _ _).alloc (Nat.le_refl _) _)) (by have := HP.out.below.size; simp; omega) _ 1 1 (bv [((T % 256 : Nat) : Int)]) rfl rfl (by omega) (cells_at _ _ _) (one_bytes _) (by omega) ?_))
      intro w2 v2 cur2 hp2
      have hp3 := hp2.pre (w := wr) HP.out.below.size ((Below.refl _ _).alloc (Nat.le_refl _) _)
      have hp4 := HP.out.trans (by rw [Nat.zero_add]; exact hp3)
      have HQ := hide hp4
      clear hp2 hp3 hp4 HP
      go_wp2_with fail
      go_roundw
      case rel =>
        refine ⟨j + 1, by omega, by go_num, by rw [← HD.out], cur2, ?_⟩
        rw [HN.out, ← List.append_assoc]
        have := HQ.out
        rw [show bv (l ++ List.take j (le4 S) ++ [((T % 256 : Nat) : Int)]) = bv (l ++ List.take j (le4 S)) ++ bv [(T : Int) % 256] by simp [bv]]
        exact this
      case measure => simp [intOf]; omega
    · obtain rfl : j = 4 := by omega
      go_wp2_with fail
      go_ret
      have h1 := HP.out.rw.owns
      rw [HP.out.tk] at h1
      refine ⟨_, rfl, ?_, HP.out.below⟩
      have e : (l ++ le4 S).length = 0 + (l.length + 4) := by simp [le4]
      rw [e]
      have e2 : (le4 S).take 4 = le4 S := rfl
      rw [e2] at h1
      simpa using h1
/-- The chapter's Open: the bytes ahead of their sum, or none. -/
def openL (l : List Int) : Option (List Int) := if l.length < 4 then none else if l.take (l.length - 4) ++ le4 (crcL (l.take (l.length - 4))) = l then some (l.take (l.length - 4)) else none
set_option maxRecDepth 100000 in
set_option maxHeartbeats 4000000 in
theorem open_short (ao : Option Addr) (cap : Nat) (l : List Int) (w : World) (h : l.length < 4) :
    Calls Try.prog 13 #[.slice ao l.length cap] w fun e w' => e = .returned (.tuple #[.slice none 0 0, .bool false]) ∧ w' = w := by
  have h' : (l.length : Int) < 4 := by omega
  go_enter Try.func13, Try.ntmps13
  go_wp2
  exact bodyPost_ret (v := .tuple #[.slice none 0 0, .bool false]) (by simp [results, Try.results13, go_sem]) rfl ⟨rfl, rfl⟩
set_option maxRecDepth 100000 in
set_option maxHeartbeats 4000000 in
theorem open_long (b o cap : Nat) (l : List Int) (w : World) (hc : l.length ≤ cap) (hl : l.length ≤ 10000) (hby : Byt l) (h4 : ¬ l.length < 4) (h3 : ∀ i (h : i < l.length), w.cell? ⟨b, o + i, none⟩ = some (bc l[i])) :
    Calls Try.prog 13 #[.slice (some ⟨b, o, none⟩) l.length cap] w fun e w' => (∃ u f, e = .returned (.tuple #[u, .bool f]) ∧ ((f = true ∧ openL l = some (l.take (l.length - 4)) ∧ Sl bc w' u (l.take (l.length - 4))) ∨ (f = false ∧ openL l = none ∧ u = .slice none 0 0))) ∧ Below w.heap.size w w' := by
  have h4' : ¬ (l.length : Int) < 4 := by omega
  have hm : (l.take (l.length - 4)).length = l.length - 4 := by rw [List.length_take]; omega
  have hsl : Sl bc w (.slice (some ⟨b, o, none⟩) (l.length - 4) cap) (l.take (l.length - 4)) := by
    refine .inr ⟨b, o, cap, by rw [hm], by omega, fun i hi => ?_⟩
    rw [hm] at hi
    rw [List.getElem_take]
    exact h3 i (by omega)
  have HP := hide (refPut_any _ (l.take (l.length - 4)) w hsl (by omega) (fun x hx => hby x (List.mem_of_mem_take hx)))
  have HSL := hide hsl
  have H3 := hide h3
  have hbl : b < w.heap.size := cell_block (h3 0 (by omega))
  clear hsl h3 hby
  have HOL : Hid (openL l = if l.take (l.length - 4) ++ le4 (crcL (l.take (l.length - 4))) = l then some (l.take (l.length - 4)) else none) := hide (by unfold openL; rw [if_neg h4])
  have hxl : (l.take (l.length - 4) ++ le4 (crcL (l.take (l.length - 4)))).length = l.length := by rw [List.length_append, hm]; simp [le4]; omega
  generalize l.take (l.length - 4) ++ le4 (crcL (l.take (l.length - 4))) = X at *
  go_enter Try.func13, Try.ntmps13
  go_wp2_with fail
  refine (HP.out).mono ?_
  rintro e w1 ⟨vx, rfl, hown, hb1⟩
  have hsx : Sl bc w1 vx X := sl_of_owns (base := w.heap.size) (e := 5) hown
  rcases hsx with ⟨_, _, hX, _⟩ | ⟨bx, ox, cx, hvx, hcx, hx3⟩
  · rw [hX] at hxl; simp at hxl; omega
  subst hvx
  have HX3 := hide hx3
  have HB1 := hide hb1
  clear hown hb1 hx3 HP
  rw [hxl] at hcx ⊢
  go_wp2_with fail
  go_loopw [5] (fun i wr => ∃ j : Nat, j ≤ l.length ∧ i = .int .i64 j ∧ (∀ t (h : t < l.length) (h' : t < X.length), t < j → X[t] = l[t]) ∧ Below w1.heap.size w1 wr) (fun i _ => l.length - (intOf i).toNat)
  case atStart => exact ⟨0, Nat.zero_le _, rfl, fun t _ _ h => by omega, Below.refl _ _⟩
  case round =>
    obtain ⟨j, hj, rfl, hall, hbw⟩ := hrel
    by_cases hlt : j < l.length
    · have hlt' : (j : Int) < (l.length : Int) := by omega
      have hjx : j < X.length := by omega
      have k1 := HX3.out j hjx
      have k2 := H3.out j hlt
      have c1 : wr.cell? ⟨bx, ox + j, none⟩ = some (.int .u8 X[j]) := (hbw.cell (p := ⟨bx, ox + j, none⟩) (cell_block k1)).trans k1
      have c2 : wr.cell? ⟨b, o + j, none⟩ = some (.int .u8 l[j]) := (hbw.cell (p := ⟨b, o + j, none⟩) (Nat.lt_of_lt_of_le hbl HB1.out.size)).trans ((HB1.out.cell (p := ⟨b, o + j, none⟩) hbl).trans k2)
      have HALL := hide hall
      have HBW := hide hbw
      clear hall hbw k1 k2
      by_cases he : X[j] = l[j]
      · have HE := hide he
        rw [he] at c1
        generalize l[j] = y at c1 c2
        go_wp2_with fail
        go_region
        go_wp2_with fail
        go_roundw
        case rel =>
          refine ⟨j + 1, by omega, by go_num, fun t h h' ht => ?_, HBW.out.drew⟩
          by_cases e : t = j
          · subst e; exact HE.out
          · exact HALL.out t h h' (by omega)
        case measure => simp [intOf]; omega
      · have hXl : ¬ X = l := fun e => he (by simp [e])
        have hne : (X[j] != l[j]) = true := by simpa using he
        generalize l[j] = y at *
        generalize X[j] = x at *
        go_wp2_with fail
        go_region
        go_wp2_with fail
        exact bodyPost_ret (v := .tuple #[.slice none 0 0, .bool false]) (by simp [results, Try.results13, go_sem]) rfl ⟨⟨_, _, rfl, .inr ⟨rfl, by rw [HOL.out, if_neg hXl], rfl⟩⟩, HB1.out.trans (HBW.out.drew.mono HB1.out.size)⟩
    · obtain rfl : j = l.length := by omega
      have hXl : X = l := List.ext_getElem hxl fun t h h' => hall t h' h h'
      have HBW := hide (HB1.out.trans (hbw.mono HB1.out.size))
      clear hall hbw hlt
      go_wp2_with fail
      exact bodyPost_ret (v := .tuple #[.slice (some ⟨b, o, none⟩) (l.length - 4) cap, .bool true]) (by simp [results, Try.results13, go_sem]) rfl ⟨⟨_, _, rfl, .inl ⟨rfl, by rw [HOL.out, if_pos hXl], HSL.out.below HBW.out⟩⟩, HBW.out⟩
theorem refOpen_any (v : Value) (l : List Int) (w : World) (hv : Sl bc w v l) (hl : l.length ≤ 10000) (hby : Byt l) :
    Calls Try.prog 13 #[v] w fun e w' => (∃ u f, e = .returned (.tuple #[u, .bool f]) ∧ ((f = true ∧ openL l = some (l.take (l.length - 4)) ∧ Sl bc w' u (l.take (l.length - 4))) ∨ (f = false ∧ openL l = none ∧ u = .slice none 0 0))) ∧ Below w.heap.size w w' := by
  by_cases h4 : l.length < 4
  · obtain ⟨ao, cap, rfl⟩ := hv.form
    refine (open_short ao cap l w h4).mono ?_
    rintro e w' ⟨rfl, rfl⟩
    exact ⟨⟨_, _, rfl, .inr ⟨rfl, by unfold openL; rw [if_pos h4], rfl⟩⟩, Below.refl _ _⟩
  · rcases hv with ⟨ao, cap, rfl, rfl⟩ | ⟨b, o, cap, rfl, hc, h3⟩
    · simp at h4
    · exact open_long b o cap l w hc hl hby h4 h3
end Go.Proofs.Ytiobmgfccggpkaa
