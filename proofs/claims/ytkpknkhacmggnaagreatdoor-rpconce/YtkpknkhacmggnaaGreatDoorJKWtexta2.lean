/-
  A READER's NEXT FLAG AND TEXT, AND ITS END (wire.Reader.Flag, Text, End; slices.Clone). Conditions: the bytes' cells hold them, no more than a hundred thousand, and the reader is within them.
  A ROW OF BYTES THAT IS WRITTEN ON, WITH ALL ITS CELLS (those behind its length, too): what an append leaves of it. Condition: fewer than a million bytes.
-/
import Derived.Test.YtkpknkhacmggnaaGreatDoorJKIsca5
import Derived.Test.YtkpknkhacmggnaaGreatDoorJKWnuma5
import Derived.Laws.CopyOwn
import Derived.Deep.AppendSrc
namespace Go.Proofs.YtkpknkhacmggnaaGreatDoor
open Go.RowKit

theorem nilB_yes (n cap : Nat) (w : World) : (binOp .eql 23 (.slice none n cap) (.slice none 0 0)).run Tryz.prog w = .ok (.bool true) w := by kernel_rfl
theorem nilB_no (a : Addr) (n cap : Nat) (w : World) : (binOp .eql 23 (.slice (some a) n cap) (.slice none 0 0)).run Tryz.prog w = .ok (.bool false) w := by kernel_rfl
set_option maxRecDepth 100000 in
set_option maxHeartbeats 4000000 in
theorem clone_none (cap : Nat) (w : World) : Calls Tryz.prog 119 #[.slice none 0 cap] w fun e w' => (∃ ao c, e = .returned (.slice ao 0 c)) ∧ Below w.heap.size w w' := by
  have e1 := nilB_yes
  have e2 := nilB_no
  go_enter Tryz.func119, Tryz.ntmps119
  go_wp2
  go_ret
  exact ⟨⟨_, _, rfl⟩, Below.refl _ _⟩
set_option maxRecDepth 100000 in
set_option maxHeartbeats 4000000 in
theorem clone_zero (a : Addr) (cap : Nat) (w : World) : Calls Tryz.prog 119 #[.slice (some a) 0 cap] w fun e w' => (∃ ao c, e = .returned (.slice ao 0 c)) ∧ Below w.heap.size w w' := by
  have e1 := nilB_yes
  have e2 := nilB_no
  go_enter Tryz.func119, Tryz.ntmps119
  go_wp2
  go_ret
  exact ⟨⟨_, _, rfl⟩, (Below.refl _ _).alloc (Nat.le_refl _) _⟩
set_option maxRecDepth 100000 in
set_option maxHeartbeats 4000000 in
theorem clone_some (b o cap : Nat) (l : List Int) (w : World) (hl : l.length ≤ 100000) (h3 : ∀ i (h : i < l.length), w.cell? ⟨b, o + i, none⟩ = some (bc l[i])) :
    Calls Tryz.prog 119 #[.slice (some ⟨b, o, none⟩) l.length cap] w fun e w' => ∃ v, e = .returned v ∧ w'.ownsRow w.heap.size 5 1 v l.length (bv l) ∧ Below w.heap.size w w' := by
  obtain ⟨i0, hi, hz0, hz1, hz2⟩ := info_parts infoB
  have H3 := hide h3
  clear h3
  have hown := owns_new w [] 5 (by decide)
  have HN := hide (Sl.news (f := bc) (w := w.alloc (.cells #[] 5)) (b := b) (o := o) (l := l) fun i hi => by rw [World.cell?_alloc_lt _ _ _ (cell_block (H3.out i hi))]; exact H3.out i hi)
  have e2 := nilB_no
  go_enter Tryz.func119, Tryz.ntmps119
  go_wp2_with (first
    | (at_builtin; refine wpList_append_own _ rfl _ _ 23 rfl w.heap.size 5 i0 (.int .u8 0) 1 1 Tryz.underlying23 hi hz0 hz1 hz2 rfl (by decide) _ _ _ rfl hown ⟨b, o, none⟩ l.length cap (l.map bc) rfl (by simp) HN.out (Sl.one (fun _ => rfl) l) ?c3 ?c4 ?c5 ?_))
  case c3 => unfold maxLen; simp; omega
  case c4 => simp; omega
  case c5 => simp
  · intro v' w2 hown' hgrow _
    have hB : Below w.heap.size w w2 := ((Below.refl _ _).alloc (Nat.le_refl _) _).grown hgrow (by simp) (fun j hj => (hown.lt j hj).1)
    have HO := hide hown'
    clear hown' hgrow hown
    go_wp2
    go_ret
    exact ⟨v', rfl, by simpa [bv_eq] using HO.out, hB⟩

/-- The next flag at the head of the bytes r. -/
def flagS (r : List Int) : Int × Nat × Bool := match r with
  | [] => (3, 0, false)
  | x :: _ => if 1 < x then (5, 0, false) else (0, 1, x == 1)
theorem rflag_err (p : Nat) (v : Value) (a : Int) (t : TypeId) (u : Value) (w : World) (hr : Rd w p v a (.iface t u)) :
    Calls Tryz.prog 84 #[.pointer (some ⟨p, 0, none⟩)] w fun x w' => x = .returned (.bool false) ∧ w' = w := by
  obtain ⟨c0, c1, c2, fz⟩ := hr
  go_enter Tryz.func84, Tryz.ntmps84
  go_wp2
  go_ret
  exact ⟨rfl, rfl⟩
set_option maxRecDepth 100000 in
set_option maxHeartbeats 4000000 in
theorem rflag_none (p : Nat) (ao : Option Addr) (L cap : Nat) (w : World) (hr : Rd w p (.slice ao L cap) L .nilIface) :
    Calls Tryz.prog 84 #[.pointer (some ⟨p, 0, none⟩)] w fun x w' => x = .returned (.bool false) ∧ Rd w' p (.slice ao L cap) L (ft ⟨#[102, 108, 97, 103]⟩ L 3) ∧ Bx p w w' := by
  obtain ⟨c0, c1, c2, fz⟩ := id hr
  have f1 := fz 1
  have HR := hide hr
  clear hr fz
  go_enter Tryz.func84, Tryz.ntmps84
  go_wp2_with fail
  go_quiet (fail)
  go_wp2_with (first | (go_at_call 87; refine (refuse_none p _ _ _ _ _ (HR.out.drewN _)).mono ?_; rintro e w' ⟨rfl, rfl⟩))
  go_ret
  exact ⟨rfl, (HR.out.drewN _).sete _, ((Bx.refl p w).drewN _).set _ _⟩
set_option maxRecDepth 100000 in
set_option maxHeartbeats 4000000 in
theorem rflag_kind (p b o L cap a : Nat) (x : Int) (w : World) (hr : Rd w p (.slice (some ⟨b, o, none⟩) L cap) a .nilIface) (ha : a < L) (hx : 1 < x) (hc : w.cell? ⟨b, o + a, none⟩ = some (.int .u8 x)) :
    Calls Tryz.prog 84 #[.pointer (some ⟨p, 0, none⟩)] w fun x w' => x = .returned (.bool false) ∧ Rd w' p (.slice (some ⟨b, o, none⟩) L cap) a (ft ⟨#[102, 108, 97, 103]⟩ a 5) ∧ Bx p w w' := by
  obtain ⟨c0, c1, c2, fz⟩ := id hr
  have f1 := fz 1
  have HR := hide hr
  clear hr fz
  have hne : ¬ a = L := by omega
  go_enter Tryz.func84, Tryz.ntmps84
  go_wp2_with fail
  go_quiet (fail)
  go_wp2_with fail
  go_quiet (fail)
  go_wp2_with (first | (go_at_call 87; refine (refuse_none p _ _ _ _ _ (HR.out.drewN _)).mono ?_; rintro e w' ⟨rfl, rfl⟩))
  go_ret
  exact ⟨rfl, (HR.out.drewN _).sete _, ((Bx.refl p w).drewN _).set _ _⟩
set_option maxRecDepth 100000 in
set_option maxHeartbeats 4000000 in
theorem rflag_ok (p b o L cap a : Nat) (x : Int) (w : World) (hr : Rd w p (.slice (some ⟨b, o, none⟩) L cap) a .nilIface) (hL : L ≤ 100000) (ha : a < L) (hx : ¬ 1 < x) (hc : w.cell? ⟨b, o + a, none⟩ = some (.int .u8 x)) :
    Calls Tryz.prog 84 #[.pointer (some ⟨p, 0, none⟩)] w fun y w' => y = .returned (.bool (x == 1)) ∧ Rd w' p (.slice (some ⟨b, o, none⟩) L cap) (a + 1 : Nat) .nilIface ∧ Bx p w w' := by
  obtain ⟨c0, c1, c2, fz⟩ := id hr
  have f1 := fz 1
  have HR := hide hr
  clear hr fz
  have hne : ¬ a = L := by omega
  go_enter Tryz.func84, Tryz.ntmps84
  go_wp2_with fail
  go_quiet (fail)
  go_wp2_with fail
  go_quiet (fail)
  go_wp2_with fail
  go_ret
  exact ⟨rfl, (HR.out.drewN _).seta _, ((Bx.refl p w).drewN _).set _ _⟩
theorem rflag_any (p : Nat) (v : Value) (l : List Int) (a : Nat) (w : World) (hr : Rd w p v a .nilIface) (hv : Sl bc w v l) (hl : l.length ≤ 100000) (ha : a ≤ l.length) :
    Calls Tryz.prog 84 #[.pointer (some ⟨p, 0, none⟩)] w fun x w' => x = .returned (.bool (flagS (l.drop a)).2.2) ∧ Rd w' p v (a + (flagS (l.drop a)).2.1 : Nat) (erN ⟨#[102, 108, 97, 103]⟩ a (flagS (l.drop a)).1) ∧ Bx p w w' := by
  generalize hd : l.drop a = r
  have hlen := drop_size hd
  rcases r with _ | ⟨x0, r⟩
  · obtain rfl : a = l.length := by simp at hlen; omega
    rcases hv with ⟨ao, cap, rfl, rfl⟩ | ⟨b, o, cap, rfl, hc, _⟩
    · exact rflag_none p ao 0 cap w hr
    · exact rflag_none p (some ⟨b, o, none⟩) l.length cap w hr
  · rcases hv with ⟨ao, cap, rfl, rfl⟩ | ⟨b, o, cap, rfl, hc, h3⟩
    · simp at hd
    · obtain ⟨h1, h2⟩ := drop_get (i := 0) hd rfl
      have h4 := h3 (a + 0) h1
      rw [h2] at h4
      by_cases hx : 1 < x0
      · simp only [flagS, if_pos hx]
        exact rflag_kind p b o l.length cap a x0 w hr (by omega) hx h4
      · simp only [flagS, if_neg hx]
        exact rflag_ok p b o l.length cap a x0 w hr hl (by omega) hx h4
set_option maxRecDepth 100000 in
set_option maxHeartbeats 4000000 in
theorem rend_err (p : Nat) (ao : Option Addr) (L cap : Nat) (a : Int) (t : TypeId) (u : Value) (w : World) (hr : Rd w p (.slice ao L cap) a (.iface t u)) :
    Calls Tryz.prog 51 #[.pointer (some ⟨p, 0, none⟩)] w fun x w' => x = .returned (.iface t u) ∧ Rd w' p (.slice ao L cap) a (.iface t u) ∧ Bx p w w' := by
  obtain ⟨c0, c1, c2, fz⟩ := id hr
  have f1 := fz 1
  have HR := hide hr
  clear hr fz
  by_cases ha : a < L
  · go_enter Tryz.func51, Tryz.ntmps51
    go_wp2_with fail
    go_quiet (fail)
    go_wp2_with (first | (go_at_call 87; refine (refuse_some p _ _ _ _ _ _ _ (HR.out.drewN _)).mono ?_; rintro e w' ⟨rfl, rfl⟩))
    go_ret
    exact ⟨rfl, HR.out.drewN _, (Bx.refl p w).drewN _⟩
  · go_enter Tryz.func51, Tryz.ntmps51
    go_wp2_with fail
    go_quiet (fail)
    go_wp2_with fail
    go_ret
    exact ⟨rfl, HR.out.drewN _, (Bx.refl p w).drewN _⟩
/-- That bytes are left is wrong. -/
def endC (L a : Nat) : Int := if a < L then 5 else 0
set_option maxRecDepth 100000 in
set_option maxHeartbeats 4000000 in
theorem rend_any (p : Nat) (ao : Option Addr) (L cap a : Nat) (w : World) (hr : Rd w p (.slice ao L cap) a .nilIface) :
    Calls Tryz.prog 51 #[.pointer (some ⟨p, 0, none⟩)] w fun x w' => x = .returned (erN ⟨#[101, 110, 100]⟩ a (endC L a)) ∧ Rd w' p (.slice ao L cap) a (erN ⟨#[101, 110, 100]⟩ a (endC L a)) ∧ Bx p w w' := by
  obtain ⟨c0, c1, c2, fz⟩ := id hr
  have f1 := fz 1
  have HR := hide hr
  clear hr fz
  by_cases ha : a < L
  · rw [endC, if_pos ha]
    have ha' : (a : Int) < (L : Int) := by omega
    go_enter Tryz.func51, Tryz.ntmps51
    go_wp2_with fail
    go_quiet (fail)
    go_wp2_with (first | (go_at_call 87; refine (refuse_none p _ _ _ _ _ (HR.out.drewN _)).mono ?_; rintro e w' ⟨rfl, rfl⟩))
    go_ret
    exact ⟨rfl, (HR.out.drewN _).sete _, ((Bx.refl p w).drewN _).set _ _⟩
  · rw [endC, if_neg ha]
    have ha' : ¬ (a : Int) < (L : Int) := by omega
    go_enter Tryz.func51, Tryz.ntmps51
    go_wp2_with fail
    go_quiet (fail)
    go_wp2_with fail
    go_ret
    exact ⟨rfl, HR.out.drewN _, (Bx.refl p w).drewN _⟩
end Go.Proofs.YtkpknkhacmggnaaGreatDoor
namespace Go.Proofs.YtkpknkhacmggnaaGreatDoor
open Go.RowKit

end Go.Proofs.YtkpknkhacmggnaaGreatDoor
