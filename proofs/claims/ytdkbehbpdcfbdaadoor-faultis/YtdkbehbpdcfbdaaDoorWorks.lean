/-
  THE LAW's OWN 'works' ANSWERS true, and its 'light' tells whether there are at most sixty steps. Condition: errors.errorType holds the handle of the type error.
-/
import Derived.Test.YtdkbehbpdcfbdaaDoorSame
namespace Go.Proofs.YtdkbehbpdcfbdaaDoor
open Go.RowKit Go.Extern.Stop Go.Stop Go.Extern

theorem bt {a b c : World} (h1 : Below a.heap.size a b) (h2 : Below b.heap.size b c) : Below a.heap.size a c := h1.trans (h2.mono h1.size)

theorem path_len (x : Option (List (ByteArray × Int) × Option Int × Addr)) (w : World) (hg : Hnd w) (hl : (stV x).length ≤ 1000) :
    Calls Tryd.prog 21 #[ev x] w fun e w' => ∃ ao cap, e = .returned (.slice ao (stV x).length cap) ∧ Below w.heap.size w w' := by
  refine (path_ev x w hg hl).mono ?_
  rintro e w' ⟨v, rfl, ⟨h1, h2⟩, hb⟩
  rcases h2 with ⟨rfl, hn⟩ | ⟨g, cap, cur, rfl, _⟩
  · rw [hn]; exact ⟨_, _, rfl, hb⟩
  · exact ⟨_, _, rfl, hb⟩

/-- ErrSum at 7 of read, wrapped at 3 of open. -/
def exV : Option (List (ByteArray × Int) × Option Int × Addr) := some ([(⟨#[111, 112, 101, 110]⟩, 3), (⟨#[114, 101, 97, 100]⟩, 7)], some 4, ⟨0, 0, none⟩)
theorem wk_where (w : World) (hg : Hnd w) : Calls Tryd.prog 20 #[ev exV] w fun e w' => e = .returned (.tuple #[.int .i64 3, .bool true]) ∧ Below w.heap.size w w' := where_ev exV w hg
theorem wk_of (w : World) (hg : Hnd w) : Calls Tryd.prog 22 #[ev exV] w fun e w' => e = .returned (.int .i64 4) ∧ Below w.heap.size w w' := of_ev exV w hg
theorem wk_is4 (w : World) : Calls Tryd.prog 11 #[ev exV, .int .i64 4] w fun e w' => e = .returned (.bool true) ∧ Below w.heap.size w w' := is_ev exV 4 w
theorem wk_is7 (w : World) : Calls Tryd.prog 11 #[ev exV, .int .i64 7] w fun e w' => e = .returned (.bool false) ∧ Below w.heap.size w w' := is_ev exV 7 w
theorem wk_path (w : World) (hg : Hnd w) : Calls Tryd.prog 21 #[ev exV] w fun e w' => ∃ ao cap, e = .returned (.slice ao 2 cap) ∧ Below w.heap.size w w' := path_len exV w hg (by decide)
theorem wk_under (w : World) (hg : Hnd w) : Calls Tryd.prog 13 #[ev exV, .string ⟨#[114, 101, 97, 100]⟩] w fun e w' => e = .returned (.bool true) ∧ Below w.heap.size w w' := by
  have := under_ev exV ⟨#[114, 101, 97, 100]⟩ w hg (by decide)
  rwa [show hasB ((stV exV).map (·.1)) ⟨#[114, 101, 97, 100]⟩ = true from has_yes (j := 1) (by decide) (by simp [exV, stV])] at this
theorem wk_ofNil (w : World) : Calls Tryd.prog 22 #[.nilIface] w fun e w' => e = .returned (.int .i64 0) ∧ Below w.heap.size w w' := of_nil w
theorem wk_ofOther (p : Addr) (w : World) (hg : Hnd w) : Calls Tryd.prog 22 #[.iface 65 (.pointer (some p))] w fun e w' => e = .returned (.int .i64 21) ∧ Below w.heap.size w w' := of_ev (some ([], none, p)) w hg
theorem wk_again (w : World) (hg : Hnd w) : Calls Tryd.prog 15 #[ev exV] w fun e w' => e = .returned (ev (agV exV)) ∧ Below w.heap.size w w' := again_ev exV w hg
theorem wk_path1 (w : World) (hg : Hnd w) : Calls Tryd.prog 21 #[ev (agV exV)] w fun e w' => ∃ ao cap, e = .returned (.slice ao 1 cap) ∧ Below w.heap.size w w' := path_len (agV exV) w hg (by decide)
theorem wk_new (w : World) : Calls Tryd.prog 24 #[.string ⟨#[114, 101, 97, 100]⟩, .int .i64 7, .int .i64 4] w fun e w' => e = .returned (.iface 60 (.agg #[.string ⟨#[114, 101, 97, 100]⟩, .int .i64 7, .iface 32 (.int .i64 4)])) ∧ w' = w := new_any _ _ _ w
theorem wk_wrap (w : World) : Calls Tryd.prog 19 #[.string ⟨#[111, 112, 101, 110]⟩, .int .i64 3, .iface 60 (.agg #[.string ⟨#[114, 101, 97, 100]⟩, .int .i64 7, .iface 32 (.int .i64 4)])] w fun e w' => e = .returned (ev exV) ∧ w' = w := wrap_some _ _ _ _ w

set_option maxRecDepth 100000 in
set_option maxHeartbeats 8000000 in
theorem works_any (w : World) (hg : Hnd w) : Calls Tryd.prog 8 #[] w fun e w' => e = .returned (.bool true) ∧ Below w.heap.size w w' := by
  have G0 := hide hg
  have h1 := hide fun W => wk_where W
  have h2 := hide fun W => wk_of W
  have h3 := hide fun W => wk_is4 W
  have h4 := hide fun W => wk_is7 W
  have h5 := hide fun W => wk_path W
  have h6 := hide fun W => wk_under W
  have h7 := hide fun W => wk_again W
  have h8 := hide fun W => wk_path1 W
  have h9 := hide fun W => wk_wrap W
  generalize ev (agV exV) = E' at *
  generalize ev exV = E at *
  clear hg
  go_enter Tryd.func8, Tryd.ntmps8
  go_wp2_with fail
  refine (wk_new _).mono ?_
  rintro e w0 ⟨rfl, rfl⟩
  go_wp2_with fail
  refine (h9.out _).mono ?_
  rintro e w0 ⟨rfl, rfl⟩
  go_wp2_with fail
  refine (h1.out _ G0.out).mono ?_
  rintro e w1 ⟨rfl, b1⟩
  have G1 := hide (G0.out.below b1)
  go_wp2_with fail
  refine (h2.out _ G1.out).mono ?_
  rintro e w2 ⟨rfl, b2⟩
  have G2 := hide (G1.out.below b2)
  go_wp2_with fail
  refine (h3.out _).mono ?_
  rintro e w3 ⟨rfl, b3⟩
  have G3 := hide (G2.out.below b3)
  go_wp2_with fail
  refine (h4.out _).mono ?_
  rintro e w4 ⟨rfl, b4⟩
  have G4 := hide (G3.out.below b4)
  go_wp2_with fail
  refine (h5.out _ G4.out).mono ?_
  rintro e w5 ⟨ao, cap, rfl, b5⟩
  have G5 := hide (G4.out.below b5)
  go_wp2_with fail
  refine (h6.out _ G5.out).mono ?_
  rintro e w6 ⟨rfl, b6⟩
  have G6 := hide (G5.out.below b6)
  go_wp2_with fail
  refine (wk_ofNil _).mono ?_
  rintro e w7 ⟨rfl, b7⟩
  have G7 := hide (G6.out.below b7)
  go_wp2_with fail
  refine (enew_any _ _).mono ?_
  rintro e w8 ⟨rfl, hw8⟩
  have b8 : Below w7.heap.size w7 w8 := by rw [hw8]; exact (Below.refl _ _).alloc (Nat.le_refl _) _
  clear hw8
  have G8 := hide (G7.out.below b8)
  go_wp2_with fail
  refine (wk_ofOther _ _ G8.out).mono ?_
  rintro e w9 ⟨rfl, b9⟩
  have G9 := hide (G8.out.below b9)
  go_wp2_with fail
  refine (wrap_nil _ _ _).mono ?_
  rintro e w0 ⟨rfl, rfl⟩
  go_wp2_with fail
  refine (h7.out _ G9.out).mono ?_
  rintro e w10 ⟨rfl, b10⟩
  have G10 := hide (G9.out.below b10)
  go_wp2_with fail
  refine (h8.out _ G10.out).mono ?_
  rintro e w11 ⟨ao', cap', rfl, b11⟩
  go_wp2
  go_ret
  exact ⟨rfl, bt (bt (bt (bt (bt (bt (bt (bt (bt (bt b1 b2) b3) b4) b5) b6) b7) b8) b9) b10) b11⟩

theorem light_no (ao : Option Addr) (n cap : Nat) (k : Int) (w : World) (hn : 60 < n) :
    Calls Tryd.prog 7 #[.agg #[.slice ao n cap, .int .i64 k]] w fun e w' => e = .returned (.bool false) ∧ Below w.heap.size w w' := by
  have := light_any ao n cap k w
  rwa [show decide ((n : Int) ≤ 60) = false by simp; omega] at this
theorem light_yes (ao : Option Addr) (n cap : Nat) (k : Int) (w : World) (hn : n ≤ 60) :
    Calls Tryd.prog 7 #[.agg #[.slice ao n cap, .int .i64 k]] w fun e w' => e = .returned (.bool true) ∧ Below w.heap.size w w' := by
  have := light_any ao n cap k w
  rwa [show decide ((n : Int) ≤ 60) = true by simp; omega] at this
end Go.Proofs.YtdkbehbpdcfbdaaDoor
