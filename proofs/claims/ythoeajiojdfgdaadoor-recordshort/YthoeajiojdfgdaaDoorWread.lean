/-
  A READER's NEXT NUMBER (wire.Read, Refuse, Reader.Num, Int, At, Err): what it tells, where it is then, and what is wrong. Conditions: the bytes' cells hold them, they lie below the reader, and no more than ten thousand.
-/
import Derived.Test.YthoeajiojdfgdaaDoorWbit
import Derived.Test.YthoeajiojdfgdaaDoorMidc
namespace Go.Proofs.YthoeajiojdfgdaaDoor
open Go.RowKit

/-- All that was there stays, but for block p. -/
structure Bx (p : Nat) (w w' : World) : Prop where
  os : w'.os = w.os
  tape : w'.tape = w.tape
  output : w'.output = w.output
  size : w.heap.size ≤ w'.heap.size
  block : ∀ k, k < w.heap.size → k ≠ p → w'.heap[k]? = w.heap[k]?
theorem Bx.refl (p : Nat) (w : World) : Bx p w w := ⟨rfl, rfl, rfl, Nat.le_refl _, fun _ _ _ => rfl⟩
theorem Bx.trans {p : Nat} {a b c : World} (h : Bx p a b) (k : Bx p b c) : Bx p a c :=
  ⟨k.os.trans h.os, k.tape.trans h.tape, k.output.trans h.output, Nat.le_trans h.size k.size, fun i hi hp => (k.block i (Nat.lt_of_lt_of_le hi h.size) hp).trans (h.block i hi hp)⟩
theorem Bx.call {p : Nat} {a b c : World} (h : Bx p a b) (k : Below b.heap.size b c) : Bx p a c :=
  ⟨k.os.trans h.os, k.tape.trans h.tape, k.output.trans h.output, Nat.le_trans h.size k.size, fun i hi hp => (k.block i (Nat.lt_of_lt_of_le hi h.size)).trans (h.block i hi hp)⟩
theorem Bx.of {p : Nat} {a b : World} (k : Below a.heap.size a b) : Bx p a b := (Bx.refl p a).call k
theorem Bx.drewN {p : Nat} {a b : World} (h : Bx p a b) (n : Nat) : Bx p a (b.drewN n) := h.call (below_drewN (Below.refl _ _) n)
theorem Bx.set {p : Nat} {a b : World} (h : Bx p a b) (i : Nat) (x : Value) : Bx p a (b.setCell ⟨p, i, none⟩ x) :=
  h.trans ⟨rfl, rfl, rfl, by simp [World.setCell], fun _ _ hp => Below.heap_setCell _ _ _ _ (fun e => hp (by simp [e]))⟩
theorem Bx.below {p : Nat} {w w' : World} (h : Bx p w w') (hp : p ≤ w.heap.size) : Below p w w' := ⟨h.os, h.tape, h.output, h.size, fun k hk => h.block k (by omega) (by omega)⟩
theorem Bx.cell {p : Nat} {w w' : World} (h : Bx p w w') {b i : Nat} (hb : b < w.heap.size) (hp : b ≠ p) : w'.cell? ⟨b, i, none⟩ = w.cell? ⟨b, i, none⟩ := World.cell?_of_block (h.block b hb hp)
theorem Bx.frozen {p : Nat} {w w' : World} (h : Bx p w w') {b i : Nat} (hb : b < w.heap.size) (hp : b ≠ p) : w'.frozen? ⟨b, i, none⟩ = w.frozen? ⟨b, i, none⟩ := World.frozen?_of_block (h.block b hb hp)

/-- A reader's three cells at block p. -/
structure Rd (W : World) (p : Nat) (v : Value) (a : Int) (e : Value) : Prop where
  c0 : W.cell? ⟨p, 0, none⟩ = some v
  c1 : W.cell? ⟨p, 1, none⟩ = some (.int .i64 a)
  c2 : W.cell? ⟨p, 2, none⟩ = some e
  fz : ∀ i, W.frozen? ⟨p, i, none⟩ = false
theorem Rd.below {W W' : World} {p : Nat} {v : Value} {a : Int} {e : Value} (h : Rd W p v a e) (hb : Below W.heap.size W W') : Rd W' p v a e :=
  have hl := cell_block h.c0
  ⟨(hb.cell (p := ⟨p, 0, none⟩) hl).trans h.c0, (hb.cell (p := ⟨p, 1, none⟩) hl).trans h.c1, (hb.cell (p := ⟨p, 2, none⟩) hl).trans h.c2, fun i => (hb.frozen (p := ⟨p, i, none⟩) hl).trans (h.fz i)⟩
theorem Rd.lt {W : World} {p : Nat} {v : Value} {a : Int} {e : Value} (h : Rd W p v a e) : p < W.heap.size := cell_block h.c0
theorem Rd.seta {W : World} {p : Nat} {v : Value} {a : Int} {e : Value} (h : Rd W p v a e) (a' : Int) : Rd (W.setCell ⟨p, 1, none⟩ (.int .i64 a')) p v a' e :=
  ⟨by rw [World.cell?_setCell_other _ _ _ _ (by simp)]; exact h.c0, World.cell?_setCell_same _ _ _ h.c1, by rw [World.cell?_setCell_other _ _ _ _ (by simp)]; exact h.c2, fun i => by simp [h.fz i]⟩
theorem Rd.sete {W : World} {p : Nat} {v : Value} {a : Int} {e : Value} (h : Rd W p v a e) (e' : Value) : Rd (W.setCell ⟨p, 2, none⟩ e') p v a e' :=
  ⟨by rw [World.cell?_setCell_other _ _ _ _ (by simp)]; exact h.c0, by rw [World.cell?_setCell_other _ _ _ _ (by simp)]; exact h.c1, World.cell?_setCell_same _ _ _ h.c2, fun i => by simp [h.fz i]⟩
theorem Rd.drewN {W : World} {p : Nat} {v : Value} {a : Int} {e : Value} (h : Rd W p v a e) (n : Nat) : Rd (W.drewN n) p v a e := ⟨h.c0, h.c1, h.c2, h.fz⟩

theorem read_any (ao : Option Addr) (L cap : Nat) (w : World) : Calls Tryd.prog 8 #[.slice ao L cap] w fun e w' => e = .returned (.pointer (some ⟨w.heap.size, 0, none⟩)) ∧ Rd w' w.heap.size (.slice ao L cap) 0 .nilIface ∧ Below w.heap.size w w' := by
  go_enter Tryd.func8, Tryd.ntmps8
  go_wp2
  go_ret
  exact ⟨rfl, ⟨by simp, by simp, by simp, fun i => World.frozen?_alloc_at _ _ _ _ rfl⟩, (Below.refl _ _).alloc (Nat.le_refl _) _⟩
theorem at_any (p : Nat) (v : Value) (a : Int) (e : Value) (w : World) (hr : Rd w p v a e) : Calls Tryd.prog 14 #[.pointer (some ⟨p, 0, none⟩)] w fun x w' => x = .returned (.int .i64 a) ∧ w' = w := by
  obtain ⟨c0, c1, c2, fz⟩ := hr
  go_enter Tryd.func14, Tryd.ntmps14
  go_wp2
  go_ret
  exact ⟨rfl, rfl⟩
theorem err_any (p : Nat) (v : Value) (a : Int) (e : Value) (w : World) (hr : Rd w p v a e) : Calls Tryd.prog 12 #[.pointer (some ⟨p, 0, none⟩)] w fun x w' => x = .returned e ∧ w' = w := by
  obtain ⟨c0, c1, c2, fz⟩ := hr
  go_enter Tryd.func12, Tryd.ntmps12
  go_wp2
  go_ret
  exact ⟨rfl, rfl⟩
/-- Something wrong, as fault.New makes it. -/
def ft (op : ByteArray) (a c : Int) : Value := .iface 96 (.agg #[.string op, .int .i64 a, .iface 42 (.int .i64 c)])
theorem ft_ev (op : ByteArray) (a c : Int) : ft op a c = ev (some ([(op, a)], c)) := rfl
theorem refuse_none (p : Nat) (v : Value) (a : Int) (op : ByteArray) (c : Int) (w : World) (hr : Rd w p v a .nilIface) :
    Calls Tryd.prog 31 #[.pointer (some ⟨p, 0, none⟩), .string op, .int .i64 c] w fun x w' => x = .returned (.tuple #[]) ∧ w' = w.setCell ⟨p, 2, none⟩ (ft op a c) := by
  obtain ⟨c0, c1, c2, fz⟩ := hr
  have f2 := fz 2
  go_enter Tryd.func31, Tryd.ntmps31
  go_wp2_with (first | (go_at_call 36; refine (new_any _ _ _ _).mono ?_; rintro e w' ⟨rfl, rfl⟩))
  exact bodyPost_end (v := .tuple #[]) (by simp [results, Tryd.results31]) rfl ⟨rfl, rfl⟩
theorem refuse_some (p : Nat) (v : Value) (a : Int) (t : TypeId) (u : Value) (op : ByteArray) (c : Int) (w : World) (hr : Rd w p v a (.iface t u)) :
    Calls Tryd.prog 31 #[.pointer (some ⟨p, 0, none⟩), .string op, .int .i64 c] w fun x w' => x = .returned (.tuple #[]) ∧ w' = w := by
  obtain ⟨c0, c1, c2, fz⟩ := hr
  go_enter Tryd.func31, Tryd.ntmps31
  go_wp2
  exact bodyPost_end (v := .tuple #[]) (by simp [results, Tryd.results31]) rfl ⟨rfl, rfl⟩
theorem rnum_err (p : Nat) (v : Value) (a most : Int) (t : TypeId) (u : Value) (w : World) (hr : Rd w p v a (.iface t u)) :
    Calls Tryd.prog 53 #[.pointer (some ⟨p, 0, none⟩), .int .u64 most] w fun x w' => x = .returned (.int .u64 0) ∧ w' = w := by
  obtain ⟨c0, c1, c2, fz⟩ := hr
  go_enter Tryd.func53, Tryd.ntmps53
  go_wp2
  go_ret
  exact ⟨rfl, rfl⟩
set_option maxRecDepth 100000 in
set_option maxHeartbeats 4000000 in
theorem rnum_none (p : Nat) (ao : Option Addr) (L cap : Nat) (most : Int) (w : World) (hr : Rd w p (.slice ao L cap) L .nilIface) (hL : L ≤ 10000) (hc : L ≤ cap) :
    Calls Tryd.prog 53 #[.pointer (some ⟨p, 0, none⟩), .int .u64 most] w fun x w' => x = .returned (.int .u64 0) ∧ Rd w' p (.slice ao L cap) L (ft ⟨#[110, 117, 109]⟩ L 3) ∧ Bx p w w' := by
  by_cases hcl : cap = L
  · subst hcl
    obtain ⟨c0, c1, c2, fz⟩ := id hr
    have HR := hide hr
    clear hr fz
    go_enter Tryd.func53, Tryd.ntmps53
    go_wp2_with fail
    go_quiet (fail)
    go_wp2_with (first | (go_at_call 63; refine (announced_none _ _ _).mono ?_; rintro e w' ⟨rfl, rfl⟩) | (go_at_call 31; refine (refuse_none p _ _ _ _ _ (HR.out.drewN _)).mono ?_; rintro e w' ⟨rfl, rfl⟩))
    go_ret
    exact ⟨rfl, (HR.out.drewN _).sete _, ((Bx.refl p w).drewN _).set _ _⟩
  · obtain ⟨c0, c1, c2, fz⟩ := id hr
    have HR := hide hr
    clear hr fz
    go_enter Tryd.func53, Tryd.ntmps53
    go_wp2_with fail
    go_quiet (fail)
    go_wp2_with (first | (go_at_call 63; refine (announced_none _ _ _).mono ?_; rintro e w' ⟨rfl, rfl⟩) | (go_at_call 31; refine (refuse_none p _ _ _ _ _ (HR.out.drewN _)).mono ?_; rintro e w' ⟨rfl, rfl⟩))
    go_ret
    exact ⟨rfl, (HR.out.drewN _).sete _, ((Bx.refl p w).drewN _).set _ _⟩
set_option maxRecDepth 100000 in
set_option maxHeartbeats 4000000 in
theorem rnum_short (p b o L cap a : Nat) (most K : Int) (w : World) (hr : Rd w p (.slice (some ⟨b, o, none⟩) L cap) a .nilIface) (_hL : L ≤ 10000) (hc : L ≤ cap) (ha : a < L) (hk : ((L - a : Nat) : Int) < K)
    (HA : Hid (∀ n, Calls Tryd.prog 63 #[.slice (some ⟨b, o + a, none⟩) (L - a) (cap - a)] (w.drewN n) fun e w' => e = .returned (.int .i64 K) ∧ w' = w.drewN n)) :
    Calls Tryd.prog 53 #[.pointer (some ⟨p, 0, none⟩), .int .u64 most] w fun x w' => x = .returned (.int .u64 0) ∧ Rd w' p (.slice (some ⟨b, o, none⟩) L cap) a (ft ⟨#[110, 117, 109]⟩ a 3) ∧ Bx p w w' := by
  obtain ⟨c0, c1, c2, fz⟩ := id hr
  have HR := hide hr
  have hne : ¬ cap = a := by omega
  clear hr fz
  go_enter Tryd.func53, Tryd.ntmps53
  go_wp2_with fail
  go_quiet (fail)
  go_wp2_with (first | (go_at_call 63; refine (HA.out _).mono ?_; rintro e w' ⟨rfl, rfl⟩) | (go_at_call 31; refine (refuse_none p _ _ _ _ _ (HR.out.drewN _)).mono ?_; rintro e w' ⟨rfl, rfl⟩))
  go_ret
  exact ⟨rfl, (HR.out.drewN _).sete _, ((Bx.refl p w).drewN _).set _ _⟩
set_option maxRecDepth 100000 in
set_option maxHeartbeats 4000000 in
theorem rnum_kind (p b o L cap a : Nat) (most K N S : Int) (w : World) (hr : Rd w p (.slice (some ⟨b, o, none⟩) L cap) a .nilIface) (_hL : L ≤ 10000) (hc : L ≤ cap) (ha : a < L) (k0 : 0 ≤ K) (hk : K ≤ ((L - a : Nat) : Int)) (hs : S < K)
    (HA : Hid (∀ n, Calls Tryd.prog 63 #[.slice (some ⟨b, o + a, none⟩) (L - a) (cap - a)] (w.drewN n) fun e w' => e = .returned (.int .i64 K) ∧ w' = w.drewN n))
    (HN : Hid (∀ n, Calls Tryd.prog 64 #[.slice (some ⟨b, o + a, none⟩) K.toNat (cap - a)] (w.drewN n) fun e w' => e = .returned (.int .u64 N) ∧ Below w.heap.size (w.drewN n) w'))
    (HS : Hid (∀ W, Calls Tryd.prog 51 #[.int .u64 N] W fun e w' => e = .returned (.int .i64 S) ∧ w' = W)) :
    Calls Tryd.prog 53 #[.pointer (some ⟨p, 0, none⟩), .int .u64 most] w fun x w' => x = .returned (.int .u64 0) ∧ Rd w' p (.slice (some ⟨b, o, none⟩) L cap) a (ft ⟨#[110, 117, 109]⟩ a 5) ∧ Bx p w w' := by
  obtain ⟨c0, c1, c2, fz⟩ := id hr
  have HR := hide hr
  have hne : ¬ cap = a := by omega
  clear hr fz
  go_enter Tryd.func53, Tryd.ntmps53
  go_wp2_with fail
  go_quiet (fail)
  go_wp2_with (first | (go_at_call 63; refine (HA.out _).mono ?_; rintro e w' ⟨rfl, rfl⟩) | (go_at_call 64; refine (HN.out _).mono ?_; rintro e w' ⟨rfl, hb⟩; have hr' := (HR.out.drewN _).below hb; obtain ⟨d0, d1, d2, fz'⟩ := id hr'; have f1 := fz' 1; clear fz'; have HR' := hide hr'; clear hr'; have HB' := hide hb; clear hb) | (go_at_call 51; refine (HS.out _).mono ?_; rintro e w' ⟨rfl, rfl⟩) | (go_at_call 31; refine (refuse_none p _ _ _ _ _ HR'.out).mono ?_; rintro e w' ⟨rfl, rfl⟩))
  go_ret
  exact ⟨rfl, HR'.out.sete _, (((Bx.refl p w).drewN _).call HB'.out).set _ _⟩
set_option maxRecDepth 100000 in
set_option maxHeartbeats 4000000 in
theorem rnum_limit (p b o L cap a : Nat) (most K N S : Int) (w : World) (hr : Rd w p (.slice (some ⟨b, o, none⟩) L cap) a .nilIface) (_hL : L ≤ 10000) (hc : L ≤ cap) (ha : a < L) (k0 : 0 ≤ K) (hk : K ≤ ((L - a : Nat) : Int)) (hs : ¬ S < K) (hm : most < N)
    (HA : Hid (∀ n, Calls Tryd.prog 63 #[.slice (some ⟨b, o + a, none⟩) (L - a) (cap - a)] (w.drewN n) fun e w' => e = .returned (.int .i64 K) ∧ w' = w.drewN n))
    (HN : Hid (∀ n, Calls Tryd.prog 64 #[.slice (some ⟨b, o + a, none⟩) K.toNat (cap - a)] (w.drewN n) fun e w' => e = .returned (.int .u64 N) ∧ Below w.heap.size (w.drewN n) w'))
    (HS : Hid (∀ W, Calls Tryd.prog 51 #[.int .u64 N] W fun e w' => e = .returned (.int .i64 S) ∧ w' = W)) :
    Calls Tryd.prog 53 #[.pointer (some ⟨p, 0, none⟩), .int .u64 most] w fun x w' => x = .returned (.int .u64 0) ∧ Rd w' p (.slice (some ⟨b, o, none⟩) L cap) a (ft ⟨#[110, 117, 109]⟩ a 6) ∧ Bx p w w' := by
  obtain ⟨c0, c1, c2, fz⟩ := id hr
  have HR := hide hr
  have hne : ¬ cap = a := by omega
  clear hr fz
  go_enter Tryd.func53, Tryd.ntmps53
  go_wp2_with fail
  go_quiet (fail)
  go_wp2_with (first | (go_at_call 63; refine (HA.out _).mono ?_; rintro e w' ⟨rfl, rfl⟩) | (go_at_call 64; refine (HN.out _).mono ?_; rintro e w' ⟨rfl, hb⟩; have hr' := (HR.out.drewN _).below hb; obtain ⟨d0, d1, d2, fz'⟩ := id hr'; have f1 := fz' 1; clear fz'; have HR' := hide hr'; clear hr'; have HB' := hide hb; clear hb) | (go_at_call 51; refine (HS.out _).mono ?_; rintro e w' ⟨rfl, rfl⟩) | (go_at_call 31; refine (refuse_none p _ _ _ _ _ HR'.out).mono ?_; rintro e w' ⟨rfl, rfl⟩))
  go_ret
  exact ⟨rfl, HR'.out.sete _, (((Bx.refl p w).drewN _).call HB'.out).set _ _⟩
set_option maxRecDepth 100000 in
set_option maxHeartbeats 4000000 in
theorem rnum_ok (p b o L cap a : Nat) (most K N S : Int) (w : World) (hr : Rd w p (.slice (some ⟨b, o, none⟩) L cap) a .nilIface) (hL : L ≤ 10000) (hc : L ≤ cap) (ha : a < L) (k0 : 0 ≤ K) (hk : K ≤ ((L - a : Nat) : Int)) (hs : ¬ S < K) (hm : ¬ most < N)
    (HA : Hid (∀ n, Calls Tryd.prog 63 #[.slice (some ⟨b, o + a, none⟩) (L - a) (cap - a)] (w.drewN n) fun e w' => e = .returned (.int .i64 K) ∧ w' = w.drewN n))
    (HN : Hid (∀ n, Calls Tryd.prog 64 #[.slice (some ⟨b, o + a, none⟩) K.toNat (cap - a)] (w.drewN n) fun e w' => e = .returned (.int .u64 N) ∧ Below w.heap.size (w.drewN n) w'))
    (HS : Hid (∀ W, Calls Tryd.prog 51 #[.int .u64 N] W fun e w' => e = .returned (.int .i64 S) ∧ w' = W)) :
    Calls Tryd.prog 53 #[.pointer (some ⟨p, 0, none⟩), .int .u64 most] w fun x w' => x = .returned (.int .u64 N) ∧ Rd w' p (.slice (some ⟨b, o, none⟩) L cap) (a + K) .nilIface ∧ Bx p w w' := by
  obtain ⟨c0, c1, c2, fz⟩ := id hr
  have HR := hide hr
  have hne : ¬ cap = a := by omega
  clear hr fz
  go_enter Tryd.func53, Tryd.ntmps53
  go_wp2_with fail
  go_quiet (fail)
  go_wp2_with (first | (go_at_call 63; refine (HA.out _).mono ?_; rintro e w' ⟨rfl, rfl⟩) | (go_at_call 64; refine (HN.out _).mono ?_; rintro e w' ⟨rfl, hb⟩; have hr' := (HR.out.drewN _).below hb; obtain ⟨d0, d1, d2, fz'⟩ := id hr'; have f1 := fz' 1; clear fz'; have HR' := hide hr'; clear hr'; have HB' := hide hb; clear hb) | (go_at_call 51; refine (HS.out _).mono ?_; rintro e w' ⟨rfl, rfl⟩))
  go_ret
  exact ⟨rfl, HR'.out.seta _, (((Bx.refl p w).drewN _).call HB'.out).set _ _⟩
end Go.Proofs.YthoeajiojdfgdaaDoor
