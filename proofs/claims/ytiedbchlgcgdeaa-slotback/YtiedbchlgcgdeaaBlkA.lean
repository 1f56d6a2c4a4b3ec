/-
  A NEW STORE, WHETHER THERE IS SUCH A BLOCK, AND WHAT A STORE TELLS (block.New, check, Loose, Used, Room, Read). No condition.
-/
import Derived.Test.YtiedbchlgcgdeaaBlkV
import Derived.Test.YtiedbchlgcgdeaaMidc
namespace Go.Proofs.Ytiedbchlgcgdeaa
open Go.RowKit Go.Maps

abbrev bft (op : ByteArray) (a c : Int) : Value := .iface 74 (.agg #[.string op, .int .i64 a, .iface 46 (.int .i64 c)])
theorem bft_ev (op : ByteArray) (a c : Int) : bft op a c = ev (some ([(op, a)], c)) := rfl
def opBlock : ByteArray := ⟨#[98, 108, 111, 99, 107]⟩
def opSize : ByteArray := ⟨#[115, 105, 122, 101]⟩
def opRoom : ByteArray := ⟨#[114, 111, 111, 109]⟩
set_option maxRecDepth 100000 in
theorem check_ok (a : Int) (w : World) (h : Num a) : Calls Try.prog 38 #[.int .i64 a] w fun e w' => e = .returned .nilIface ∧ w' = w := by
  obtain ⟨h1, h2⟩ := h
  go_enter Try.func38, Try.ntmps38
  go_wp2
  go_ret
  exact ⟨rfl, rfl⟩
set_option maxRecDepth 100000 in
theorem check_bad (a : Int) (w : World) (h : ¬ Num a) : Calls Try.prog 38 #[.int .i64 a] w fun e w' => e = .returned (bft opBlock a 2) ∧ w' = w := by
  unfold Num at h
  by_cases h1 : a < 0
  · clear h
    go_enter Try.func38, Try.ntmps38
    go_wp2_with (first | (go_at_call 16; refine (new_any _ _ _ _).mono ?_; rintro e w9 ⟨rfl, hw9⟩; rw [hw9]; clear hw9 w9))
    go_ret
    exact ⟨rfl, rfl⟩
  · have h2 : 1073741824 < a := by omega
    clear h
    go_enter Try.func38, Try.ntmps38
    go_wp2_with (first | (go_at_call 16; refine (new_any _ _ _ _).mono ?_; rintro e w9 ⟨rfl, hw9⟩; rw [hw9]; clear hw9 w9))
    go_ret
    exact ⟨rfl, rfl⟩
set_option maxRecDepth 100000 in
theorem bnew_bad (a : Int) (w : World) (h : ¬ Num a) : Calls Try.prog 7 #[.int .i64 a] w fun e w' => e = .returned (.tuple #[.pointer none, bft opRoom a 2]) ∧ w' = w := by
  unfold Num at h
  by_cases h1 : a < 0
  · clear h
    go_enter Try.func7, Try.ntmps7
    go_wp2_with (first | (go_at_call 16; refine (new_any _ _ _ _).mono ?_; rintro e w9 ⟨rfl, hw9⟩; rw [hw9]; clear hw9 w9))
    go_ret2
    exact ⟨rfl, rfl⟩
  · have h2 : 1073741824 < a := by omega
    clear h
    go_enter Try.func7, Try.ntmps7
    go_wp2_with (first | (go_at_call 16; refine (new_any _ _ _ _).mono ?_; rintro e w9 ⟨rfl, hw9⟩; rw [hw9]; clear hw9 w9))
    go_ret2
    exact ⟨rfl, rfl⟩
theorem fz_new (V : World) (cs : Array Value) (t : TypeId) (i : Nat) : (V.alloc (.cells cs t)).frozen? ⟨V.heap.size, i, none⟩ = false := by simp
/-- A store of which no block is taken. -/
theorem dk_new (w : World) (room : Int) : Dk (((w.alloc (.map #[] 0)).alloc (.map #[] 0)).alloc (.cells #[.int .i64 room, .map (some w.heap.size), .map (some (w.heap.size + 1)), .slice none 0 0] 51)) (w.heap.size + 2) w.heap.size (w.heap.size + 1) (.slice none 0 0) ⟨room, [], []⟩ [] [] := by
  have e1 : (w.alloc (.map #[] 0)).heap.size = w.heap.size + 1 := by simp
  have m1 : Mp (w.alloc (.map #[] 0)) w.heap.size [] := mp_new w
  have m2 : Mp ((w.alloc (.map #[] 0)).alloc (.map #[] 0)) (w.heap.size + 1) [] := by have := mp_new (w.alloc (.map #[] 0)); rwa [e1] at this
  have k1 := (m1.keep (Below.heap_alloc _ (.map #[] 0) _ (by simp))).keep (Below.heap_alloc _ (.cells #[.int .i64 room, .map (some w.heap.size), .map (some (w.heap.size + 1)), .slice none 0 0] 51) _ (by simp; omega))
  have k2 := m2.keep (Below.heap_alloc _ (.cells #[.int .i64 room, .map (some w.heap.size), .map (some (w.heap.size + 1)), .slice none 0 0] 51) _ (by simp))
  have e2 : ((w.alloc (.map #[] 0)).alloc (.map #[] 0)).heap.size = w.heap.size + 2 := by simp
  have hc : ∀ i, (((w.alloc (.map #[] 0)).alloc (.map #[] 0)).alloc (.cells #[.int .i64 room, .map (some w.heap.size), .map (some (w.heap.size + 1)), .slice none 0 0] 51)).cell? ⟨w.heap.size + 2, i, none⟩ = #[Value.int .i64 room, .map (some w.heap.size), .map (some (w.heap.size + 1)), .slice none 0 0][i]? := fun i => by rw [← e2, World.cell?_alloc_at _ _ _ _ rfl]
  have hf : ∀ i, (((w.alloc (.map #[] 0)).alloc (.map #[] 0)).alloc (.cells #[.int .i64 room, .map (some w.heap.size), .map (some (w.heap.size + 1)), .slice none 0 0] 51)).frozen? ⟨w.heap.size + 2, i, none⟩ = false := fun i => by rw [← e2]; exact fz_new _ _ _ _
  exact ⟨hc 0, hc 1, hc 2, hc 3, hf, k1, k2, Lo.nil _, by omega, by intro h; cases h⟩
set_option maxRecDepth 100000 in
theorem bnew_ok (a : Int) (w : World) (h : Num a) : Calls Try.prog 7 #[.int .i64 a] w fun e w' => e = .returned (.tuple #[.pointer (some ⟨w.heap.size + 2, 0, none⟩), .nilIface]) ∧ Dk w' (w.heap.size + 2) w.heap.size (w.heap.size + 1) (.slice none 0 0) ⟨a, [], []⟩ [] [] ∧ Below w.heap.size w w' := by
  obtain ⟨h1, h2⟩ := h
  have hmm := @run_makeMap Try.prog
  have HD := hide (dk_new w a)
  go_enter Try.func7, Try.ntmps7
  go_wp2
  go_ret2
  exact ⟨rfl, HD.out, (((Below.refl _ _).alloc (Nat.le_refl _) _).alloc (by simp) _).alloc (by simp; omega) _⟩
section
variable {d bS bT : Nat} {u : Value} {s : Dst} {tk : Cs} {lo : List Wr}
end
end Go.Proofs.Ytiedbchlgcgdeaa
