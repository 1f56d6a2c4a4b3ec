/-
  A READER's NEXT NUMBER (wire.Read, Refuse, Reader.Num, Int, At, Err): what it tells, where it is then, and what is wrong. Conditions: the bytes' cells hold them, they lie below the reader, and no more than a hundred thousand.
  A READER's NEXT NUMBER, as one function of the bytes, the place and the limit (wire.Reader.Num, Int). Conditions: the bytes' cells hold them, each is a byte, no more than a hundred thousand, and the reader is within them.
  A ROW OF BYTES THAT IS WRITTEN ON, WITH ALL ITS CELLS: what an append leaves of it, of any bytes, none among them. Condition: fewer than a million bytes.
  A READER's NEXT FLAG AND TEXT, AND ITS END (wire.Reader.Flag, Text, End; slices.Clone). Conditions: the bytes' cells hold them, no more than a hundred thousand, and the reader is within them.
  A READER's NEXT TEXT (wire.Reader.Text), out of what its Int tells. Conditions: the bytes' cells hold them, they lie below the reader, no more than a hundred thousand.
-/
import Derived.Test.YtjjpfajbljbelaaGreatDoorJKIsca5
import Derived.Laws.CopyOwn
import Derived.Deep.AppendSrc
namespace Go.Proofs.YtjjpfajbljbelaaGreatDoor
open Go.RowKit
set_option maxRecDepth 100000
set_option maxHeartbeats 4000000
structure Bx (p : Nat) (w w' : World) : Prop where
 os : w'.os = w.os
 tape : w'.tape = w.tape
 output : w'.output = w.output
 size : w.heap.size ≤ w'.heap.size
 block : ∀ k, k < w.heap.size → k ≠ p → w'.heap[k]? = w.heap[k]?
theorem Bx.refl (p : Nat) (w : World) : Bx p w w := ⟨rfl, rfl, rfl, Nat.le_refl _, fun _ _ _ => rfl⟩
theorem Bx.trans {p : Nat} {a b c : World} (h : Bx p a b) (k : Bx p b c) : Bx p a c :=
 ⟨k.os.trans h.os, k.tape.trans h.tape, k.output.trans h.output, Nat.le_trans h.size k.size, fun i hi hp => (k.block i (Nat.lt_of_lt_of_le hi h.size) hp).trans (h.block i hi hp)⟩
theorem Bx.call {p : Nat} {a b c : World} (h : Bx p a b) (k : Below b.heap.size b c) : Bx p a c :=
 ⟨k.os.trans h.os, k.tape.trans h.tape, k.output.trans h.output, Nat.le_trans h.size k.size, fun i hi hp => (k.block i (Nat.lt_of_lt_of_le hi h.size)).trans (h.block i hi hp)⟩
theorem Bx.of {p : Nat} {a b : World} (k : Below a.heap.size a b) : Bx p a b := (Bx.refl p a).call k
theorem Bx.drewN {p : Nat} {a b : World} (h : Bx p a b) (n : Nat) : Bx p a (b.drewN n) := h.call (below_drewN (Below.refl _ _) n)
theorem Bx.set {p : Nat} {a b : World} (h : Bx p a b) (i : Nat) (x : Value) : Bx p a (b.setCell ⟨p, i, none⟩ x) :=
 h.trans ⟨rfl, rfl, rfl, by simp [World.setCell], fun _ _ hp => Below.heap_setCell _ _ _ _ (fun e => hp (by simp [e]))⟩
theorem Bx.below {p : Nat} {w w' : World} (h : Bx p w w') (hp : p ≤ w.heap.size) : Below p w w' := ⟨h.os, h.tape, h.output, h.size, fun k hk => h.block k (by omega) (by omega)⟩
theorem Bx.cell {p : Nat} {w w' : World} (h : Bx p w w') {b i : Nat} (hb : b < w.heap.size) (hp : b ≠ p) : w'.cell? ⟨b, i, none⟩ = w.cell? ⟨b, i, none⟩ := World.cell?_of_block (h.block b hb hp)
theorem Bx.frozen {p : Nat} {w w' : World} (h : Bx p w w') {b i : Nat} (hb : b < w.heap.size) (hp : b ≠ p) : w'.frozen? ⟨b, i, none⟩ = w.frozen? ⟨b, i, none⟩ := World.frozen?_of_block (h.block b hb hp)
structure Rd (W : World) (p : Nat) (v : Value) (a : Int) (e : Value) : Prop where
 c0 : W.cell? ⟨p, 0, none⟩ = some v
 c1 : W.cell? ⟨p, 1, none⟩ = some (.int .i64 a)
 c2 : W.cell? ⟨p, 2, none⟩ = some e
 fz : ∀ i, W.frozen? ⟨p, i, none⟩ = false
theorem Rd.below {W W' : World} {p : Nat} {v : Value} {a : Int} {e : Value} (h : Rd W p v a e) (hb : Below W.heap.size W W') : Rd W' p v a e :=
 have hl := cell_block h.c0
 ⟨(hb.cell (p := ⟨p, 0, none⟩) hl).trans h.c0, (hb.cell (p := ⟨p, 1, none⟩) hl).trans h.c1, (hb.cell (p := ⟨p, 2, none⟩) hl).trans h.c2, fun i => (hb.frozen (p := ⟨p, i, none⟩) hl).trans (h.fz i)⟩
theorem Rd.lt {W : World} {p : Nat} {v : Value} {a : Int} {e : Value} (h : Rd W p v a e) : p < W.heap.size := cell_block h.c0
theorem Rd.seta {W : World} {p : Nat} {v : Value} {a : Int} {e : Value} (h : Rd W p v a e) (a' : Int) : Rd (W.setCell ⟨p, 1, none⟩ (.int .i64 a')) p v a' e :=
 ⟨by rw [World.cell?_setCell_other _ _ _ _ (by simp)]; exact h.c0, World.cell?_setCell_same _ _ _ h.c1, by rw [World.cell?_setCell_other _ _ _ _ (by simp)]; exact h.c2, fun i => by simp [h.fz i]⟩
theorem Rd.sete {W : World} {p : Nat} {v : Value} {a : Int} {e : Value} (h : Rd W p v a e) (e' : Value) : Rd (W.setCell ⟨p, 2, none⟩ e') p v a e' :=
 ⟨by rw [World.cell?_setCell_other _ _ _ _ (by simp)]; exact h.c0, by rw [World.cell?_setCell_other _ _ _ _ (by simp)]; exact h.c1, World.cell?_setCell_same _ _ _ h.c2, fun i => by simp [h.fz i]⟩
theorem Rd.drewN {W : World} {p : Nat} {v : Value} {a : Int} {e : Value} (h : Rd W p v a e) (n : Nat) : Rd (W.drewN n) p v a e := ⟨h.c0, h.c1, h.c2, h.fz⟩
theorem read_any (ao : Option Addr) (L cap : Nat) (w : World) : Calls Tryz.prog 16 #[.slice ao L cap] w fun e w' => e = .returned (.pointer (some ⟨w.heap.size, 0, none⟩)) ∧ Rd w' w.heap.size (.slice ao L cap) 0 .nilIface ∧ Below w.heap.size w w' := by
 go_enter Tryz.func16, Tryz.ntmps16
 go_wp2
 go_ret
 exact ⟨rfl, ⟨by simp, by simp, by simp, fun i => World.frozen?_alloc_at _ _ _ _ rfl⟩, (Below.refl _ _).alloc (Nat.le_refl _) _⟩
theorem at_any (p : Nat) (v : Value) (a : Int) (e : Value) (w : World) (hr : Rd w p v a e) : Calls Tryz.prog 82 #[.pointer (some ⟨p, 0, none⟩)] w fun x w' => x = .returned (.int .i64 a) ∧ w' = w := by
 obtain ⟨c0, c1, c2, fz⟩ := hr
 go_enter Tryz.func82, Tryz.ntmps82
 go_wp2
 go_ret
 exact ⟨rfl, rfl⟩
theorem err_any (p : Nat) (v : Value) (a : Int) (e : Value) (w : World) (hr : Rd w p v a e) : Calls Tryz.prog 84 #[.pointer (some ⟨p, 0, none⟩)] w fun x w' => x = .returned e ∧ w' = w := by
 obtain ⟨c0, c1, c2, fz⟩ := hr
 go_enter Tryz.func84, Tryz.ntmps84
 go_wp2
 go_ret
 exact ⟨rfl, rfl⟩
def ft (op : ByteArray) (a c : Int) : Value := .iface 98 (.agg #[.string op, .int .i64 a, .iface 33 (.int .i64 c)])
theorem refuse_none (p : Nat) (v : Value) (a : Int) (op : ByteArray) (c : Int) (w : World) (hr : Rd w p v a .nilIface) :
  Calls Tryz.prog 55 #[.pointer (some ⟨p, 0, none⟩), .string op, .int .i64 c] w fun x w' => x = .returned (.tuple #[]) ∧ w' = w.setCell ⟨p, 2, none⟩ (ft op a c) := by
 obtain ⟨c0, c1, c2, fz⟩ := hr
 have f2 := fz 2
 go_enter Tryz.func55, Tryz.ntmps55
 go_wp2_with (first | (go_at_call 15; refine (new_any _ _ _ _).mono ?_; rintro e w' ⟨rfl, rfl⟩))
 exact bodyPost_end (v := .tuple #[]) (by simp [results, Tryz.results55]) rfl ⟨rfl, rfl⟩
theorem refuse_some (p : Nat) (v : Value) (a : Int) (t : TypeId) (u : Value) (op : ByteArray) (c : Int) (w : World) (hr : Rd w p v a (.iface t u)) :
  Calls Tryz.prog 55 #[.pointer (some ⟨p, 0, none⟩), .string op, .int .i64 c] w fun x w' => x = .returned (.tuple #[]) ∧ w' = w := by
 obtain ⟨c0, c1, c2, fz⟩ := hr
 go_enter Tryz.func55, Tryz.ntmps55
 go_wp2
 exact bodyPost_end (v := .tuple #[]) (by simp [results, Tryz.results55]) rfl ⟨rfl, rfl⟩
theorem rnum_err (p : Nat) (v : Value) (a most : Int) (t : TypeId) (u : Value) (w : World) (hr : Rd w p v a (.iface t u)) :
  Calls Tryz.prog 79 #[.pointer (some ⟨p, 0, none⟩), .int .u64 most] w fun x w' => x = .returned (.int .u64 0) ∧ w' = w := by
 obtain ⟨c0, c1, c2, fz⟩ := hr
 go_enter Tryz.func79, Tryz.ntmps79
 go_wp2
 go_ret
 exact ⟨rfl, rfl⟩
theorem rnum_none (p : Nat) (ao : Option Addr) (L cap : Nat) (most : Int) (w : World) (hr : Rd w p (.slice ao L cap) L .nilIface) (hL : L ≤ 100000) (hc : L ≤ cap) :
  Calls Tryz.prog 79 #[.pointer (some ⟨p, 0, none⟩), .int .u64 most] w fun x w' => x = .returned (.int .u64 0) ∧ Rd w' p (.slice ao L cap) L (ft ⟨#[110, 117, 109]⟩ L 3) ∧ Bx p w w' := by
 by_cases hcl : cap = L
 ·subst hcl
  obtain ⟨c0, c1, c2, fz⟩ := id hr
  have HR := hide hr
  clear hr fz
  go_enter Tryz.func79, Tryz.ntmps79
  go_wp2_with fail
  go_quiet (fail)
  go_wp2_with (first | (go_at_call 110; refine (announced_none _ _ _).mono ?_; rintro e w' ⟨rfl, rfl⟩) | (go_at_call 55; refine (refuse_none p _ _ _ _ _ (HR.out.drewN _)).mono ?_; rintro e w' ⟨rfl, rfl⟩))
  go_ret
  exact ⟨rfl, (HR.out.drewN _).sete _, ((Bx.refl p w).drewN _).set _ _⟩
 ·obtain ⟨c0, c1, c2, fz⟩ := id hr
  have HR := hide hr
  clear hr fz
  go_enter Tryz.func79, Tryz.ntmps79
  go_wp2_with fail
  go_quiet (fail)
  go_wp2_with (first | (go_at_call 110; refine (announced_none _ _ _).mono ?_; rintro e w' ⟨rfl, rfl⟩) | (go_at_call 55; refine (refuse_none p _ _ _ _ _ (HR.out.drewN _)).mono ?_; rintro e w' ⟨rfl, rfl⟩))
  go_ret
  exact ⟨rfl, (HR.out.drewN _).sete _, ((Bx.refl p w).drewN _).set _ _⟩
theorem rnum_short (p b o L cap a : Nat) (most K : Int) (w : World) (hr : Rd w p (.slice (some ⟨b, o, none⟩) L cap) a .nilIface) (_hL : L ≤ 100000) (hc : L ≤ cap) (ha : a < L) (hk : ((L - a : Nat) : Int) < K)
  (HA : Hid (∀ n, Calls Tryz.prog 110 #[.slice (some ⟨b, o + a, none⟩) (L - a) (cap - a)] (w.drewN n) fun e w' => e = .returned (.int .i64 K) ∧ w' = w.drewN n)) :
  Calls Tryz.prog 79 #[.pointer (some ⟨p, 0, none⟩), .int .u64 most] w fun x w' => x = .returned (.int .u64 0) ∧ Rd w' p (.slice (some ⟨b, o, none⟩) L cap) a (ft ⟨#[110, 117, 109]⟩ a 3) ∧ Bx p w w' := by
 obtain ⟨c0, c1, c2, fz⟩ := id hr
 have HR := hide hr
 have hne : ¬ cap = a := by omega
 clear hr fz
 go_enter Tryz.func79, Tryz.ntmps79
 go_wp2_with fail
 go_quiet (fail)
 go_wp2_with (first | (go_at_call 110; refine (HA.out _).mono ?_; rintro e w' ⟨rfl, rfl⟩) | (go_at_call 55; refine (refuse_none p _ _ _ _ _ (HR.out.drewN _)).mono ?_; rintro e w' ⟨rfl, rfl⟩))
 go_ret
 exact ⟨rfl, (HR.out.drewN _).sete _, ((Bx.refl p w).drewN _).set _ _⟩
theorem rnum_kind (p b o L cap a : Nat) (most K N S : Int) (w : World) (hr : Rd w p (.slice (some ⟨b, o, none⟩) L cap) a .nilIface) (_hL : L ≤ 100000) (hc : L ≤ cap) (ha : a < L) (k0 : 0 ≤ K) (hk : K ≤ ((L - a : Nat) : Int)) (hs : S < K)
  (HA : Hid (∀ n, Calls Tryz.prog 110 #[.slice (some ⟨b, o + a, none⟩) (L - a) (cap - a)] (w.drewN n) fun e w' => e = .returned (.int .i64 K) ∧ w' = w.drewN n))
  (HN : Hid (∀ n, Calls Tryz.prog 111 #[.slice (some ⟨b, o + a, none⟩) K.toNat (cap - a)] (w.drewN n) fun e w' => e = .returned (.int .u64 N) ∧ Below w.heap.size (w.drewN n) w'))
  (HS : Hid (∀ W, Calls Tryz.prog 101 #[.int .u64 N] W fun e w' => e = .returned (.int .i64 S) ∧ w' = W)) :
  Calls Tryz.prog 79 #[.pointer (some ⟨p, 0, none⟩), .int .u64 most] w fun x w' => x = .returned (.int .u64 0) ∧ Rd w' p (.slice (some ⟨b, o, none⟩) L cap) a (ft ⟨#[110, 117, 109]⟩ a 5) ∧ Bx p w w' := by
 obtain ⟨c0, c1, c2, fz⟩ := id hr
 have HR := hide hr
 have hne : ¬ cap = a := by omega
 clear hr fz
 go_enter Tryz.func79, Tryz.ntmps79
 go_wp2_with fail
 go_quiet (fail)
 go_wp2_with (first | (go_at_call 110; refine (HA.out _).mono ?_; rintro e w' ⟨rfl, rfl⟩) | (go_at_call 111; refine (HN.out _).mono ?_; rintro e w' ⟨rfl, hb⟩; have hr' := (HR.out.drewN _).below hb; obtain ⟨d0, d1, d2, fz'⟩ := id hr'; have f1 := fz' 1; clear fz'; have HR' := hide hr'; clear hr'; have HB' := hide hb; clear hb) | (go_at_call 101; refine (HS.out _).mono ?_; rintro e w' ⟨rfl, rfl⟩) | (go_at_call 55; refine (refuse_none p _ _ _ _ _ HR'.out).mono ?_; rintro e w' ⟨rfl, rfl⟩))
 go_ret
 exact ⟨rfl, HR'.out.sete _, (((Bx.refl p w).drewN _).call HB'.out).set _ _⟩
theorem rnum_limit (p b o L cap a : Nat) (most K N S : Int) (w : World) (hr : Rd w p (.slice (some ⟨b, o, none⟩) L cap) a .nilIface) (_hL : L ≤ 100000) (hc : L ≤ cap) (ha : a < L) (k0 : 0 ≤ K) (hk : K ≤ ((L - a : Nat) : Int)) (hs : ¬ S < K) (hm : most < N)
  (HA : Hid (∀ n, Calls Tryz.prog 110 #[.slice (some ⟨b, o + a, none⟩) (L - a) (cap - a)] (w.drewN n) fun e w' => e = .returned (.int .i64 K) ∧ w' = w.drewN n))
  (HN : Hid (∀ n, Calls Tryz.prog 111 #[.slice (some ⟨b, o + a, none⟩) K.toNat (cap - a)] (w.drewN n) fun e w' => e = .returned (.int .u64 N) ∧ Below w.heap.size (w.drewN n) w'))
  (HS : Hid (∀ W, Calls Tryz.prog 101 #[.int .u64 N] W fun e w' => e = .returned (.int .i64 S) ∧ w' = W)) :
  Calls Tryz.prog 79 #[.pointer (some ⟨p, 0, none⟩), .int .u64 most] w fun x w' => x = .returned (.int .u64 0) ∧ Rd w' p (.slice (some ⟨b, o, none⟩) L cap) a (ft ⟨#[110, 117, 109]⟩ a 6) ∧ Bx p w w' := by
 obtain ⟨c0, c1, c2, fz⟩ := id hr
 have HR := hide hr
 have hne : ¬ cap = a := by omega
 clear hr fz
 go_enter Tryz.func79, Tryz.ntmps79
 go_wp2_with fail
 go_quiet (fail)
 go_wp2_with (first | (go_at_call 110; refine (HA.out _).mono ?_; rintro e w' ⟨rfl, rfl⟩) | (go_at_call 111; refine (HN.out _).mono ?_; rintro e w' ⟨rfl, hb⟩; have hr' := (HR.out.drewN _).below hb; obtain ⟨d0, d1, d2, fz'⟩ := id hr'; have f1 := fz' 1; clear fz'; have HR' := hide hr'; clear hr'; have HB' := hide hb; clear hb) | (go_at_call 101; refine (HS.out _).mono ?_; rintro e w' ⟨rfl, rfl⟩) | (go_at_call 55; refine (refuse_none p _ _ _ _ _ HR'.out).mono ?_; rintro e w' ⟨rfl, rfl⟩))
 go_ret
 exact ⟨rfl, HR'.out.sete _, (((Bx.refl p w).drewN _).call HB'.out).set _ _⟩
theorem rnum_ok (p b o L cap a : Nat) (most K N S : Int) (w : World) (hr : Rd w p (.slice (some ⟨b, o, none⟩) L cap) a .nilIface) (hL : L ≤ 100000) (hc : L ≤ cap) (ha : a < L) (k0 : 0 ≤ K) (hk : K ≤ ((L - a : Nat) : Int)) (hs : ¬ S < K) (hm : ¬ most < N)
  (HA : Hid (∀ n, Calls Tryz.prog 110 #[.slice (some ⟨b, o + a, none⟩) (L - a) (cap - a)] (w.drewN n) fun e w' => e = .returned (.int .i64 K) ∧ w' = w.drewN n))
  (HN : Hid (∀ n, Calls Tryz.prog 111 #[.slice (some ⟨b, o + a, none⟩) K.toNat (cap - a)] (w.drewN n) fun e w' => e = .returned (.int .u64 N) ∧ Below w.heap.size (w.drewN n) w'))
  (HS : Hid (∀ W, Calls Tryz.prog 101 #[.int .u64 N] W fun e w' => e = .returned (.int .i64 S) ∧ w' = W)) :
  Calls Tryz.prog 79 #[.pointer (some ⟨p, 0, none⟩), .int .u64 most] w fun x w' => x = .returned (.int .u64 N) ∧ Rd w' p (.slice (some ⟨b, o, none⟩) L cap) (a + K) .nilIface ∧ Bx p w w' := by
 obtain ⟨c0, c1, c2, fz⟩ := id hr
 have HR := hide hr
 have hne : ¬ cap = a := by omega
 clear hr fz
 go_enter Tryz.func79, Tryz.ntmps79
 go_wp2_with fail
 go_quiet (fail)
 go_wp2_with (first | (go_at_call 110; refine (HA.out _).mono ?_; rintro e w' ⟨rfl, rfl⟩) | (go_at_call 111; refine (HN.out _).mono ?_; rintro e w' ⟨rfl, hb⟩; have hr' := (HR.out.drewN _).below hb; obtain ⟨d0, d1, d2, fz'⟩ := id hr'; have f1 := fz' 1; clear fz'; have HR' := hide hr'; clear hr'; have HB' := hide hb; clear hb) | (go_at_call 101; refine (HS.out _).mono ?_; rintro e w' ⟨rfl, rfl⟩))
 go_ret
 exact ⟨rfl, HR'.out.seta _, (((Bx.refl p w).drewN _).call HB'.out).set _ _⟩
theorem drop_get {l r : List Int} {a i : Nat} {x : Int} (h : l.drop a = r) (hi : r[i]? = some x) : ∃ hlt : a + i < l.length, l[a + i] = x := by
 rw [← h, List.getElem?_drop] at hi
 obtain ⟨h1, h2⟩ := List.getElem?_eq_some_iff.1 hi
 exact ⟨h1, h2⟩
theorem drop_size {l r : List Int} {a : Nat} (h : l.drop a = r) : r.length = l.length - a := by rw [← h, List.length_drop]
def erN (op : ByteArray) (a : Int) (c : Int) : Value := if c = 0 then .nilIface else ft op a c
theorem rnum_fin (p b o L cap a k : Nat) (most N lo : Int) (w : World) (hr : Rd w p (.slice (some ⟨b, o, none⟩) L cap) a .nilIface) (hL : L ≤ 100000) (hc : L ≤ cap) (hk0 : 0 < k) (hk : a + k ≤ L) (hlo : N < lo ↔ szL N < k)
  (HA : ∀ n, Calls Tryz.prog 110 #[.slice (some ⟨b, o + a, none⟩) (L - a) (cap - a)] (w.drewN n) fun e w' => e = .returned (.int .i64 (k : Int)) ∧ w' = w.drewN n)
  (HN : ∀ n, Calls Tryz.prog 111 #[.slice (some ⟨b, o + a, none⟩) k (cap - a)] (w.drewN n) fun e w' => e = .returned (.int .u64 N) ∧ Below w.heap.size (w.drewN n) w') :
  Calls Tryz.prog 79 #[.pointer (some ⟨p, 0, none⟩), .int .u64 most] w fun x w' => x = .returned (.int .u64 (finN k lo N most).2.2) ∧ Rd w' p (.slice (some ⟨b, o, none⟩) L cap) (a + (finN k lo N most).2.1 : Nat) (erN ⟨#[110, 117, 109]⟩ a (finN k lo N most).1) ∧ Bx p w w' := by
 by_cases h1 : N < lo
 ·rw [finN, if_pos h1]
  exact rnum_kind p b o L cap a most k N (szL N) w hr hL hc (by omega) (by omega) (by omega) (hlo.1 h1) (hide HA) (hide HN) (hide (wsize_any N))
 ·rw [finN, if_neg h1]
  by_cases h2 : most < N
  ·rw [if_pos h2]
   exact rnum_limit p b o L cap a most k N (szL N) w hr hL hc (by omega) (by omega) (by omega) (fun h => h1 (hlo.2 h)) h2 (hide HA) (hide HN) (hide (wsize_any N))
  ·rw [if_neg h2]
   exact rnum_ok p b o L cap a most k N (szL N) w hr hL hc (by omega) (by omega) (by omega) (fun h => h1 (hlo.2 h)) h2 (hide HA) (hide HN) (hide (wsize_any N))
theorem sz_lt_2 (n : Int) : n < 64 ↔ szL n < (2 : Nat) := by
 unfold szL numL
 split
 ·simp; omega
 ·split
  ·simp; omega
  ·split <;> simp <;> omega
theorem sz_lt_4 (n : Int) : n < 16384 ↔ szL n < (4 : Nat) := by
 unfold szL numL
 split
 ·simp; omega
 ·split
  ·simp; omega
  ·split <;> simp <;> omega
theorem sz_lt_8 (n : Int) : n < 1073741824 ↔ szL n < (8 : Nat) := by
 unfold szL numL
 split
 ·simp; omega
 ·split
  ·simp; omega
  ·split <;> simp <;> omega
theorem sz_lt_1 (n : Int) (h : 0 ≤ n) : n < 0 ↔ szL n < (1 : Nat) := by
 unfold szL numL
 split
 ·simp; omega
 ·split
  ·simp; omega
  ·split <;> simp <;> omega
theorem rnum_any (p : Nat) (v : Value) (l : List Int) (a : Nat) (most : Int) (w : World) (hr : Rd w p v a .nilIface) (hv : Sl bc w v l) (hl : l.length ≤ 100000) (hby : Byt l) (ha : a ≤ l.length) :
  Calls Tryz.prog 79 #[.pointer (some ⟨p, 0, none⟩), .int .u64 most] w fun x w' => x = .returned (.int .u64 (numS (l.drop a) most).2.2) ∧ Rd w' p v (a + (numS (l.drop a) most).2.1 : Nat) (erN ⟨#[110, 117, 109]⟩ a (numS (l.drop a) most).1) ∧ Bx p w w' := by
 generalize hd : l.drop a = r
 have hlen := drop_size hd
 rcases r with _ | ⟨x0, r⟩
 ·obtain rfl : a = l.length := by simp at hlen; omega
  rcases hv with ⟨ao, cap, rfl, rfl⟩ | ⟨b, o, cap, rfl, hc, _⟩
  ·exact rnum_none p ao 0 cap most w hr (by omega) (by omega)
  ·exact rnum_none p (some ⟨b, o, none⟩) l.length cap most w hr hl hc
 ·rcases hv with ⟨ao, cap, rfl, rfl⟩ | ⟨b, o, cap, rfl, hc, h3⟩
  ·simp at hd
  ·have get : ∀ i x, (x0 :: r)[i]? = some x → (∀ n, (w.drewN n).cell? ⟨b, o + a + i, none⟩ = some (.int .u8 x)) ∧ 0 ≤ x ∧ x ≤ 255 := by
    intro i x hx
    obtain ⟨h1, h2⟩ := drop_get hd hx
    have h4 := h3 (a + i) h1
    rw [h2, ← Nat.add_assoc] at h4
    exact ⟨fun n => h4, hby x (by rw [← h2]; exact List.getElem_mem h1)⟩
   obtain ⟨c0, l0, u0⟩ := get 0 x0 rfl
   have hal : a < l.length := by simp at hlen; omega
   have HA : ∀ n, Calls Tryz.prog 110 #[.slice (some ⟨b, o + a, none⟩) (l.length - a) (cap - a)] (w.drewN n) fun e w' => e = .returned (.int .i64 (annL x0)) ∧ w' = w.drewN n := fun n => announced_some b (o + a) (l.length - a) (cap - a) x0 (w.drewN n) (by omega) l0 u0 (c0 n)
   by_cases k0 : x0 / 64 = 0
   ·have e1 : annL x0 = ((1 : Nat) : Int) := if_pos k0
    rw [e1] at HA
    simp only [numS, if_pos k0]
    exact rnum_fin p b o l.length cap a 1 most (x0 % 64) 0 w hr hl hc (by omega) (by omega) (sz_lt_1 _ (by omega)) HA (fun n => number_1 b (o + a) (cap - a) x0 (w.drewN n) l0 u0 (c0 n))
   ·by_cases k1 : x0 / 64 = 1
    ·have e1 : annL x0 = ((2 : Nat) : Int) := by rw [annL, if_neg k0, if_pos k1]; rfl
     rw [e1] at HA
     simp only [numS, if_neg k0, if_pos k1]
     rcases r with _ | ⟨x1, r⟩
     ·exact rnum_short p b o l.length cap a most 2 w hr hl hc hal (by simp at hlen; omega) (hide HA)
     ·obtain ⟨c1, l1, u1⟩ := get 1 x1 rfl
      exact rnum_fin p b o l.length cap a 2 most _ 64 w hr hl hc (by omega) (by simp at hlen; omega) (sz_lt_2 _) HA (fun n => number_2 b (o + a) (cap - a) x0 x1 (w.drewN n) l0 u0 l1 u1 (by simp at hlen; omega) (c0 n) (c1 n))
    ·by_cases k2 : x0 / 64 = 2
     ·have e1 : annL x0 = ((4 : Nat) : Int) := by rw [annL, if_neg k0, if_neg k1, if_pos k2]; rfl
      rw [e1] at HA
      simp only [numS, if_neg k0, if_neg k1, if_pos k2]
      rcases r with _ | ⟨x1, _ | ⟨x2, _ | ⟨x3, r⟩⟩⟩
      ·exact rnum_short p b o l.length cap a most 4 w hr hl hc hal (by simp at hlen; omega) (hide HA)
      ·exact rnum_short p b o l.length cap a most 4 w hr hl hc hal (by simp at hlen; omega) (hide HA)
      ·exact rnum_short p b o l.length cap a most 4 w hr hl hc hal (by simp at hlen; omega) (hide HA)
      ·obtain ⟨c1, l1, u1⟩ := get 1 x1 rfl
       obtain ⟨c2, l2, u2⟩ := get 2 x2 rfl
       obtain ⟨c3, l3, u3⟩ := get 3 x3 rfl
       exact rnum_fin p b o l.length cap a 4 most _ 16384 w hr hl hc (by omega) (by simp at hlen; omega) (sz_lt_4 _) HA (fun n => number_4 b (o + a) (cap - a) x0 x1 x2 x3 (w.drewN n) l0 u0 l1 u1 l2 u2 l3 u3 (by simp at hlen; omega) (c0 n) (c1 n) (c2 n) (c3 n))
     ·have e1 : annL x0 = ((8 : Nat) : Int) := by rw [annL, if_neg k0, if_neg k1, if_neg k2]; rfl
      rw [e1] at HA
      simp only [numS, if_neg k0, if_neg k1, if_neg k2]
      rcases r with _ | ⟨x1, _ | ⟨x2, _ | ⟨x3, _ | ⟨x4, _ | ⟨x5, _ | ⟨x6, _ | ⟨x7, r⟩⟩⟩⟩⟩⟩⟩
      ·exact rnum_short p b o l.length cap a most 8 w hr hl hc hal (by simp at hlen; omega) (hide HA)
      ·exact rnum_short p b o l.length cap a most 8 w hr hl hc hal (by simp at hlen; omega) (hide HA)
      ·exact rnum_short p b o l.length cap a most 8 w hr hl hc hal (by simp at hlen; omega) (hide HA)
      ·exact rnum_short p b o l.length cap a most 8 w hr hl hc hal (by simp at hlen; omega) (hide HA)
      ·exact rnum_short p b o l.length cap a most 8 w hr hl hc hal (by simp at hlen; omega) (hide HA)
      ·exact rnum_short p b o l.length cap a most 8 w hr hl hc hal (by simp at hlen; omega) (hide HA)
      ·exact rnum_short p b o l.length cap a most 8 w hr hl hc hal (by simp at hlen; omega) (hide HA)
      ·obtain ⟨c1, l1, u1⟩ := get 1 x1 rfl
       obtain ⟨c2, l2, u2⟩ := get 2 x2 rfl
       obtain ⟨c3, l3, u3⟩ := get 3 x3 rfl
       obtain ⟨c4, l4, u4⟩ := get 4 x4 rfl
       obtain ⟨c5, l5, u5⟩ := get 5 x5 rfl
       obtain ⟨c6, l6, u6⟩ := get 6 x6 rfl
       obtain ⟨c7, l7, u7⟩ := get 7 x7 rfl
       exact rnum_fin p b o l.length cap a 8 most _ 1073741824 w hr hl hc (by omega) (by simp at hlen; omega) (sz_lt_8 _) HA (fun n => number_8 b (o + a) (cap - a) x0 x1 x2 x3 x4 x5 x6 x7 (w.drewN n) l0 u0 l1 u1 l2 u2 l3 u3 l4 u4 l5 u5 l6 u6 l7 u7 (by simp at hlen; omega) (c0 n) (c1 n) (c2 n) (c3 n) (c4 n) (c5 n) (c6 n) (c7 n))
set_option maxHeartbeats 4000000 in
theorem rint_of (p : Nat) (m M N : Int) (w : World) (hm : m ≤ 9223372036854775807) (hM : M = abv' m) (hN : 0 ≤ N ∧ N ≤ 9223372036854775807) {R : World → Prop} (HC : Hid (Calls Tryz.prog 79 #[.pointer (some ⟨p, 0, none⟩), .int .u64 M] w fun x w' => x = .returned (.int .u64 N) ∧ R w')) :
  Calls Tryz.prog 50 #[.pointer (some ⟨p, 0, none⟩), .int .i64 m] w fun x w' => x = .returned (.int .i64 N) ∧ R w' := by
 subst hM
 obtain ⟨n0, n1⟩ := hN
 go_enter Tryz.func50, Tryz.ntmps50
 go_wp2_with (first | (go_at_call 80; refine (natural_any m _ hm).mono ?_; rintro e w' ⟨rfl, rfl⟩) | (go_at_call 79; refine (HC.out).mono ?_; rintro e w' ⟨rfl, hR⟩))
 go_ret
 exact ⟨rfl, hR⟩
theorem fin_bad {k : Nat} {lo n most : Int} {c : Int} {j : Nat} {m : Int} (h : finN k lo n most = (c, j, m)) (hc : c ≠ 0) : j = 0 ∧ m = 0 := by
 unfold finN at h
 split at h
 ·simp at h; omega
 ·split at h
  ·simp at h; omega
  ·simp at h; omega
theorem numS_bad {r : List Int} {most : Int} {c : Int} {k : Nat} {n : Int} (h : numS r most = (c, k, n)) (hc : c ≠ 0) : k = 0 ∧ n = 0 := by
 unfold numS at h
 split at h
 ·simp at h; omega
 ·split at h
  ·exact fin_bad h hc
  ·split at h
   ·split at h
    ·exact fin_bad h hc
    ·simp at h; omega
   ·split at h
    ·split at h
     ·exact fin_bad h hc
     ·simp at h; omega
    ·split at h
     ·exact fin_bad h hc
     ·simp at h; omega
theorem numS_range (r : List Int) (most : Int) (h : Byt r) : 0 ≤ (numS r most).2.2 ∧ (numS r most).2.2 ≤ 4611686018427387903 := by
 rcases hq : numS r most with ⟨c, k, n⟩
 by_cases h0 : c = 0
 ·subst h0
  obtain ⟨_, _, h1, h2, _⟩ := numS_once h hq
  exact ⟨h1, h2⟩
 ·have h1 := numS_bad hq h0
  simp only [h1.2]
  decide
theorem infoB : (Tryz.prog.info? 5).map (fun i => (i.zero, i.size, i.bytes)) = some (some (.int .u8 0), 1, 1) := by kernel_rfl
def Rw (B : Nat) (w : World) (v : Value) (n : Nat) (cur : List Value) : Prop :=
 n ≤ cur.length ∧ cur.length ≤ maxLen ∧ ((v = .slice none 0 0 ∧ cur = []) ∨ ∃ g, v = .slice (some ⟨g, 0, none⟩) n cur.length ∧ B ≤ g ∧ w.heap[g]? = some (.cells cur.toArray 5 (0, 0)))
theorem rw_nil (B : Nat) (w : World) : Rw B w (.slice none 0 0) 0 [] := ⟨Nat.le_refl _, Nat.zero_le _, .inl ⟨rfl, rfl⟩⟩
theorem Rw.below {B : Nat} {w w' : World} {v : Value} {n : Nat} {cur : List Value} (h : Rw B w v n cur) (hb : Below w.heap.size w w') : Rw B w' v n cur := by
 obtain ⟨h1, h2, h3⟩ := h
 refine ⟨h1, h2, ?_⟩
 rcases h3 with h3 | ⟨g, a1, a2, a3⟩
 ·exact .inl h3
 ·refine .inr ⟨g, a1, a2, ?_⟩
  rw [hb.block g (Array.getElem?_eq_some_iff.1 a3).1]
  exact a3
theorem Rw.owns {B : Nat} {w : World} {v : Value} {n : Nat} {cur : List Value} (h : Rw B w v n cur) : w.ownsRow B 5 1 v n (cur.take n) := by
 obtain ⟨h1, h2, h3⟩ := h
 refine ⟨by rw [List.length_take]; omega, ?_⟩
 rcases h3 with ⟨rfl, rfl⟩ | ⟨g, a1, a2, a3⟩
 ·exact .inl ⟨rfl, by simpa using h1⟩
 ·exact .inr ⟨g, cur.length, cur.toArray, a1, a2, a3, h1, h2, by simp, by simp⟩
theorem Rw.of {B : Nat} {w : World} {v : Value} {n : Nat} {xs : List Value} (h : w.ownsRow B 5 1 v n xs) : ∃ cur, Rw B w v n cur ∧ cur.take n = xs := by
 obtain ⟨h1, h2⟩ := h
 rcases h2 with ⟨rfl, rfl⟩ | ⟨g, cap, cur, rfl, a2, a3, a4, a5, a6, a7⟩
 ·exact ⟨[], rw_nil _ _, by simp at h1; simp [h1]⟩
 ·have e1 : cur.toList.length = cap := by simpa using a6
  exact ⟨cur.toList, ⟨by omega, by omega, .inr ⟨g, by rw [e1], a2, by simpa using a3⟩⟩, by simpa using a7⟩
structure Put (B : Nat) (w : World) (v : Value) (n : Nat) (cur : List Value) (w' : World) (v' : Value) (m : Nat) (cur' news : List Value) : Prop where
 rw : Rw B w' v' (n + m) cur'
 tk : cur'.take (n + m) = cur.take n ++ news
 len : news.length = m
 fit : n + m ≤ cur.length → v'.ownBlock = v.ownBlock ∧ cur'.length = cur.length ∧ cur'.drop (n + m) = cur.drop (n + m)
 below : Below B w w'
 grown : w.grownBy w' v.ownBlock
 blk : v'.ownBlock = v.ownBlock ∨ ∀ g, v'.ownBlock = some g → w.heap.size ≤ g
theorem Put.pre {B : Nat} {w W : World} {v : Value} {n : Nat} {cur : List Value} {w' : World} {v' : Value} {m : Nat} {cur' news : List Value} (h : Put B W v n cur w' v' m cur' news) (hB : B ≤ w.heap.size) (hb : Below w.heap.size w W) : Put B w v n cur w' v' m cur' news :=
 ⟨h.rw, h.tk, h.len, h.fit, (hb.mono hB).trans h.below, ⟨h.grown.os.trans hb.os, h.grown.tape.trans hb.tape, h.grown.output.trans hb.output, Nat.le_trans hb.size h.grown.size, fun k hk hp => (h.grown.block k (Nat.lt_of_lt_of_le hk hb.size) hp).trans (hb.block k hk)⟩,
  h.blk.imp id (fun q g hg => Nat.le_trans hb.size (q g hg))⟩
theorem Put.trans {B : Nat} {w w1 w2 : World} {v v1 v2 : Value} {n m1 m2 : Nat} {cur cur1 cur2 x1 x2 : List Value} (h : Put B w v n cur w1 v1 m1 cur1 x1) (k : Put B w1 v1 (n + m1) cur1 w2 v2 m2 cur2 x2) : Put B w v n cur w2 v2 (m1 + m2) cur2 (x1 ++ x2) := by
 refine ⟨by rw [← Nat.add_assoc]; exact k.rw, ?_, by rw [List.length_append, h.len, k.len], ?_, h.below.trans k.below, ⟨k.grown.os.trans h.grown.os, k.grown.tape.trans h.grown.tape, k.grown.output.trans h.grown.output, Nat.le_trans h.grown.size k.grown.size, fun i hi hp => ?_⟩, ?_⟩
 ·rw [← Nat.add_assoc, k.tk, h.tk, List.append_assoc]
 ·intro hf
  obtain ⟨a1, a2, a3⟩ := h.fit (by omega)
  obtain ⟨b1, b2, b3⟩ := k.fit (by omega)
  refine ⟨b1.trans a1, b2.trans a2, ?_⟩
  rw [← Nat.add_assoc, b3]
  have := congrArg (List.drop m2) a3
  rw [List.drop_drop, List.drop_drop] at this
  exact this
 ·refine (k.grown.block i (Nat.lt_of_lt_of_le hi h.grown.size) ?_).trans (h.grown.block i hi hp)
  rcases h.blk with q | q
  ·rw [q]; exact hp
  ·intro e
   have := q i e.symm
   omega
 ·rcases k.blk with q | q
  ·rw [q]; exact h.blk
  ·exact .inr fun g hg => Nat.le_trans h.grown.size (q g hg)
theorem run_append_rw (w : World) (ty : TypeId) (B : Nat) (v : Value) (n : Nat) (cur : List Value) (hr : Rw B w v n cur) (hB : B ≤ w.heap.size) (ad : Addr) (m c : Nat) (news : List Value) (hl : news.length = m) (hm : 0 < m)
  (hnews : ∀ j u, news[j]? = some u → w.cell? (ad.add j) = some u) (h1 : ∀ u ∈ news, u.oneCell' = true) (hn : n + m ≤ 1000000) :
  ∃ w' v' cur', (Builtin.append_ #[22, 22] ty #[v, .slice (some ad) m c]).run Tryz.prog w = .ok v' w' ∧ Put B w v n cur w' v' m cur' news := by
 obtain ⟨i0, hi, hz0, hz1, hz2⟩ := info_parts infoB
 obtain ⟨r1, r2, r3⟩ := id hr
 by_cases hf : n + m ≤ cur.length
 ·rcases r3 with ⟨_, rfl⟩ | ⟨g, rfl, a2, a3⟩
  ·simp at hf; omega
  ·have e := run_append_room (P := Tryz.prog) w 22 ty 5 i0 Tryz.underlying22 hi g n cur.length cur.toArray a3 ad m c news (by rw [hz1]; omega) hnews h1 hf (by rw [hz1, hl]; simp; omega)
   rw [hz1] at e
   simp only [Nat.mul_one] at e
   have hlen : (cur.take n ++ news ++ cur.drop (n + news.length)).length = cur.length := by simp; omega
   refine ⟨_, _, cur.take n ++ news ++ cur.drop (n + news.length), e, ⟨by omega, by omega, .inr ⟨g, by rw [hlen], a2, setRow_heap w g _ _ 5 _ a3⟩⟩, ?_, hl, ?_, ?_, ?_, ?_⟩
   ·rw [List.take_append_of_le_length (by simp; omega)]
    exact List.take_of_length_le (by simp; omega)
   ·intro _
    refine ⟨rfl, hlen, ?_⟩
    rw [List.drop_append, List.drop_eq_nil_of_le (by simp; omega), List.nil_append, hl]
    have : n + m - (cur.take n ++ news).length = 0 := by simp; omega
    rw [this, List.drop_zero]
   ·exact below_setRow (Below.refl _ _) a2 _
   ·exact ⟨rfl, rfl, rfl, by simp, fun k _ hk => setRow_other w g k _ (fun e => hk (by rw [e]; rfl))⟩
   ·exact .inl rfl
 ·obtain ⟨v', w', e, hown, hg, _⟩ := run_append_own (P := Tryz.prog) w B 22 ty 5 i0 (.int .u8 0) 1 1 Tryz.underlying22 hi hz0 hz1 hz2 rfl (by decide) v n (cur.take n) hr.owns ad m c news (by omega) hnews h1 (by unfold maxLen; omega) (by omega) hB
  obtain ⟨cur', k1, k2⟩ := Rw.of hown
  refine ⟨w', v', cur', e, k1, k2, hl, fun h => absurd h hf, (Below.refl _ _).grown hg hB (fun j hj => (hr.owns.lt j hj).1), hg, .inr ?_⟩
  have hsrc : Src Tryz.prog i0.size 22 (.slice (some ad) m c) m news w := Src.ofSlice w Tryz.underlying22 ad m c news (by rw [hz1]; omega) hnews h1
  have hnew : ∃ G W, (Builtin.append_ #[22, 22] ty #[v, .slice (some ad) m c]).run Tryz.prog w = .ok (.slice (some ⟨w.heap.size, 0, none⟩) (n + m) G) W := by
   rcases r3 with ⟨rfl, rfl⟩ | ⟨g, rfl, a2, a3⟩
   ·have hn0 : n = 0 := by simpa using r1
    subst hn0
    exact ⟨_, _, run_append_grow_src w 22 22 ty 5 i0 (.int .u8 0) Tryz.underlying22 hi hz0 none 0 0 [] (run_firstCells_none _ _ _ _ _) _ m news hsrc (by omega) (by omega) (growslice_fits (by omega) (by rw [hz2]; omega))⟩
   ·refine ⟨_, _, run_append_grow_src w 22 22 ty 5 i0 (.int .u8 0) Tryz.underlying22 hi hz0 (some ⟨g, 0, none⟩) n cur.length (cur.take n) (run_firstCells_some _ _ _ _ _ _ _ (by rw [hz1, List.length_take]; omega) ?_) _ m news hsrc (by omega) (by omega) (growslice_fits (by omega) (by rw [hz2]; omega))⟩
    intro j u hj
    rw [Addr.add_lit]
    have hj' : cur[j]? = some u := by
     rw [List.getElem?_take] at hj
     split at hj
     ·exact hj
     ·simp at hj
    simp only [World.cell?, World.drew, a3, Nat.zero_add]
    simpa using hj'
  obtain ⟨G, W, e2⟩ := hnew
  rw [e] at e2
  cases e2
  intro g hg
  cases hg
  exact Nat.le_refl _
theorem wpList_append_rw (w : World) {ops : Array Oper} {rest : List Oper} {o : Oper} {a : Act} {Q : Exit → Act → World → Prop} (hgd : o.guard = none) (s x : Operand)
  (ho : o.op = .call { callee := .builtin .append, args := #[s, x], argTypes := #[22, 22] }) (B : Nat) (v : Value) (n : Nat) (cur : List Value) (hs : a.eval s = v) (hr : Rw B w v n cur) (hB : B ≤ w.heap.size) (ad : Addr) (m c : Nat) (news : List Value)
  (hx : a.eval x = .slice (some ad) m c) (hl : news.length = m) (hm : 0 < m) (hnews : ∀ j u, news[j]? = some u → w.cell? (ad.add j) = some u) (h1 : ∀ u ∈ news, u.oneCell' = true) (hn : n + m ≤ 1000000)
  (h : ∀ w' v' cur', Put B w v n cur w' v' m cur' news → wpList Tryz.prog ops Q rest (a.put o.dst v') w') : wpList Tryz.prog ops Q (o :: rest) a w := by
 refine wpList_plain hgd fun K hK => ?_
 obtain ⟨w', v', cur', hrun, hp⟩ := run_append_rw w o.type B v n cur hr hB ad m c news hl hm hnews h1 hn
 unfold Oper.wp
 simp [execOp, ho, resolve, invoke, builtin, hs, hx, hrun, Result.andThen]
 exact hK _ _ (h w' v' cur' hp)
theorem Put.post {B : Nat} {w : World} {v : Value} {n : Nat} {cur : List Value} {w' w2 : World} {v' : Value} {m : Nat} {cur' news : List Value} (h : Put B w v n cur w' v' m cur' news) (hB : B ≤ w'.heap.size) (hb : Below w'.heap.size w' w2) : Put B w v n cur w2 v' m cur' news :=
 ⟨h.rw.below hb, h.tk, h.len, h.fit, h.below.trans (hb.mono hB), ⟨hb.os.trans h.grown.os, hb.tape.trans h.grown.tape, hb.output.trans h.grown.output, Nat.le_trans h.grown.size hb.size, fun k hk hp => (hb.block k (Nat.lt_of_lt_of_le hk h.grown.size)).trans (h.grown.block k hk hp)⟩, h.blk⟩
theorem cells_at (w : World) (xs : List Value) (t : TypeId) : ∀ j u, xs[j]? = some u → (w.alloc (.cells xs.toArray t)).cell? ((⟨w.heap.size, 0, none⟩ : Addr).add j) = some u := by
 intro j u hj
 rw [Addr.add_lit, World.cell?_alloc_at _ _ _ _ rfl]
 simpa using hj
theorem one_bytes (l : List Int) : ∀ u ∈ bv l, u.oneCell' = true := Sl.one (f := bc) (fun _ => rfl) l
theorem Put.idle {B : Nat} {w : World} {v : Value} {n : Nat} {cur : List Value} (hr : Rw B w v n cur) : Put B w v n cur w v 0 cur (bv []) :=
 ⟨hr, by simp [bv_eq], rfl, fun _ => ⟨rfl, rfl, rfl⟩, Below.refl _ _, ⟨rfl, rfl, rfl, Nat.le_refl _, fun _ _ _ => rfl⟩, .inl rfl⟩
theorem run_append_sl (w : World) (ty : TypeId) (B : Nat) (v : Value) (n : Nat) (cur : List Value) (hr : Rw B w v n cur) (hB : B ≤ w.heap.size) (u : Value) (l : List Int) (hu : Sl bc w u l) (hn : n + l.length ≤ 1000000) :
  ∃ w' v' cur', (Builtin.append_ #[22, 22] ty #[v, u]).run Tryz.prog w = .ok v' w' ∧ Put B w v n cur w' v' l.length cur' (bv l) := by
 by_cases h0 : 0 < l.length
 ·rcases hu with ⟨ao, cap, rfl, rfl⟩ | ⟨b, o, cap, rfl, h2, h3⟩
  ·simp at h0
  ·exact run_append_rw w ty B v n cur hr hB ⟨b, o, none⟩ l.length cap (bv l) (by simp [bv_eq]) h0 (by rw [bv_eq]; exact Sl.news h3) (one_bytes l) hn
 ·obtain ⟨ao, cap, rfl⟩ := hu.form
  obtain rfl : l = [] := List.length_eq_zero_iff.1 (by omega)
  refine ⟨w, v, cur, ?_, Put.idle hr⟩
  obtain ⟨i0, hi, hz0, hz1, hz2⟩ := info_parts infoB
  have hl0 : ∀ a : Addr, (loadCells a 0).run Tryz.prog w = .ok #[] w := fun a => by simp [loadCells, loadCellsFrom]
  rcases hr.2.2 with ⟨rfl, rfl⟩ | ⟨g, rfl, _⟩
  ·cases ao <;> simp [Builtin.append_, run_underlying Tryz.underlying22, sizeOf, typeInfo, hi, Builtin.lenOf, Builtin.firstCells, hl0]
  ·have hle := hr.1
   cases ao <;> simp [Builtin.append_, run_underlying Tryz.underlying22, sizeOf, typeInfo, hi, Builtin.lenOf, Builtin.firstCells, hle, hl0, storeCells]
theorem wpList_append_sl (w : World) {ops : Array Oper} {rest : List Oper} {o : Oper} {a : Act} {Q : Exit → Act → World → Prop} (hgd : o.guard = none) (s x : Operand)
  (ho : o.op = .call { callee := .builtin .append, args := #[s, x], argTypes := #[22, 22] }) (B : Nat) (v : Value) (n : Nat) (cur : List Value) (hs : a.eval s = v) (hr : Rw B w v n cur) (hB : B ≤ w.heap.size) (u : Value) (l : List Int)
  (hx : a.eval x = u) (hu : Sl bc w u l) (hn : n + l.length ≤ 1000000)
  (h : ∀ w' v' cur', Put B w v n cur w' v' l.length cur' (bv l) → wpList Tryz.prog ops Q rest (a.put o.dst v') w') : wpList Tryz.prog ops Q (o :: rest) a w := by
 refine wpList_plain hgd fun K hK => ?_
 obtain ⟨w', v', cur', hrun, hp⟩ := run_append_sl w o.type B v n cur hr hB u l hu hn
 unfold Oper.wp
 simp [execOp, ho, resolve, invoke, builtin, hs, hx, hrun, Result.andThen]
 exact hK _ _ (h w' v' cur' hp)
theorem nilB_yes (n cap : Nat) (w : World) : (binOp .eql 22 (.slice none n cap) (.slice none 0 0)).run Tryz.prog w = .ok (.bool true) w := by kernel_rfl
theorem nilB_no (a : Addr) (n cap : Nat) (w : World) : (binOp .eql 22 (.slice (some a) n cap) (.slice none 0 0)).run Tryz.prog w = .ok (.bool false) w := by kernel_rfl
theorem clone_none (cap : Nat) (w : World) : Calls Tryz.prog 81 #[.slice none 0 cap] w fun e w' => (∃ ao c, e = .returned (.slice ao 0 c)) ∧ Below w.heap.size w w' := by
 have e1 := nilB_yes
 have e2 := nilB_no
 go_enter Tryz.func81, Tryz.ntmps81
 go_wp2
 go_ret
 exact ⟨⟨_, _, rfl⟩, Below.refl _ _⟩
theorem clone_zero (a : Addr) (cap : Nat) (w : World) : Calls Tryz.prog 81 #[.slice (some a) 0 cap] w fun e w' => (∃ ao c, e = .returned (.slice ao 0 c)) ∧ Below w.heap.size w w' := by
 have e1 := nilB_yes
 have e2 := nilB_no
 go_enter Tryz.func81, Tryz.ntmps81
 go_wp2
 go_ret
 exact ⟨⟨_, _, rfl⟩, (Below.refl _ _).alloc (Nat.le_refl _) _⟩
theorem clone_some (b o cap : Nat) (l : List Int) (w : World) (hl : l.length ≤ 100000) (h3 : ∀ i (h : i < l.length), w.cell? ⟨b, o + i, none⟩ = some (bc l[i])) :
  Calls Tryz.prog 81 #[.slice (some ⟨b, o, none⟩) l.length cap] w fun e w' => ∃ v, e = .returned v ∧ w'.ownsRow w.heap.size 5 1 v l.length (bv l) ∧ Below w.heap.size w w' := by
 obtain ⟨i0, hi, hz0, hz1, hz2⟩ := info_parts infoB
 have H3 := hide h3
 clear h3
 have hown := owns_new w [] 5 (by decide)
 have HN := hide (Sl.news (f := bc) (w := w.alloc (.cells #[] 5)) (b := b) (o := o) (l := l) fun i hi => by rw [World.cell?_alloc_lt _ _ _ (cell_block (H3.out i hi))]; exact H3.out i hi)
 have e2 := nilB_no
 go_enter Tryz.func81, Tryz.ntmps81
 go_wp2_with (first
  | (at_builtin; refine wpList_append_own _ rfl _ _ 22 rfl w.heap.size 5 i0 (.int .u8 0) 1 1 Tryz.underlying22 hi hz0 hz1 hz2 rfl (by decide) _ _ _ rfl hown ⟨b, o, none⟩ l.length cap (l.map bc) rfl (by simp) HN.out (Sl.one (fun _ => rfl) l) ?c3 ?c4 ?c5 ?_))
 case c3 => unfold maxLen; simp; omega
 case c4 => simp; omega
 case c5 => simp
 ·intro v' w2 hown' hgrow _
  have hB : Below w.heap.size w w2 := ((Below.refl _ _).alloc (Nat.le_refl _) _).grown hgrow (by simp) (fun j hj => (hown.lt j hj).1)
  have HO := hide hown'
  clear hown' hgrow hown
  go_wp2
  go_ret
  exact ⟨v', rfl, by simpa [bv_eq] using HO.out, hB⟩
def flagS (r : List Int) : Int × Nat × Bool := match r with
 | [] => (3, 0, false)
 | x :: _ => if 1 < x then (5, 0, false) else (0, 1, x == 1)
theorem rflag_err (p : Nat) (v : Value) (a : Int) (t : TypeId) (u : Value) (w : World) (hr : Rd w p v a (.iface t u)) :
  Calls Tryz.prog 51 #[.pointer (some ⟨p, 0, none⟩)] w fun x w' => x = .returned (.bool false) ∧ w' = w := by
 obtain ⟨c0, c1, c2, fz⟩ := hr
 go_enter Tryz.func51, Tryz.ntmps51
 go_wp2
 go_ret
 exact ⟨rfl, rfl⟩
theorem rflag_none (p : Nat) (ao : Option Addr) (L cap : Nat) (w : World) (hr : Rd w p (.slice ao L cap) L .nilIface) :
  Calls Tryz.prog 51 #[.pointer (some ⟨p, 0, none⟩)] w fun x w' => x = .returned (.bool false) ∧ Rd w' p (.slice ao L cap) L (ft ⟨#[102, 108, 97, 103]⟩ L 3) ∧ Bx p w w' := by
 obtain ⟨c0, c1, c2, fz⟩ := id hr
 have f1 := fz 1
 have HR := hide hr
 clear hr fz
 go_enter Tryz.func51, Tryz.ntmps51
 go_wp2_with fail
 go_quiet (fail)
 go_wp2_with (first | (go_at_call 55; refine (refuse_none p _ _ _ _ _ (HR.out.drewN _)).mono ?_; rintro e w' ⟨rfl, rfl⟩))
 go_ret
 exact ⟨rfl, (HR.out.drewN _).sete _, ((Bx.refl p w).drewN _).set _ _⟩
theorem rflag_kind (p b o L cap a : Nat) (x : Int) (w : World) (hr : Rd w p (.slice (some ⟨b, o, none⟩) L cap) a .nilIface) (ha : a < L) (hx : 1 < x) (hc : w.cell? ⟨b, o + a, none⟩ = some (.int .u8 x)) :
  Calls Tryz.prog 51 #[.pointer (some ⟨p, 0, none⟩)] w fun x w' => x = .returned (.bool false) ∧ Rd w' p (.slice (some ⟨b, o, none⟩) L cap) a (ft ⟨#[102, 108, 97, 103]⟩ a 5) ∧ Bx p w w' := by
 obtain ⟨c0, c1, c2, fz⟩ := id hr
 have f1 := fz 1
 have HR := hide hr
 clear hr fz
 have hne : ¬ a = L := by omega
 go_enter Tryz.func51, Tryz.ntmps51
 go_wp2_with fail
 go_quiet (fail)
 go_wp2_with fail
 go_quiet (fail)
 go_wp2_with (first | (go_at_call 55; refine (refuse_none p _ _ _ _ _ (HR.out.drewN _)).mono ?_; rintro e w' ⟨rfl, rfl⟩))
 go_ret
 exact ⟨rfl, (HR.out.drewN _).sete _, ((Bx.refl p w).drewN _).set _ _⟩
theorem rflag_ok (p b o L cap a : Nat) (x : Int) (w : World) (hr : Rd w p (.slice (some ⟨b, o, none⟩) L cap) a .nilIface) (hL : L ≤ 100000) (ha : a < L) (hx : ¬ 1 < x) (hc : w.cell? ⟨b, o + a, none⟩ = some (.int .u8 x)) :
  Calls Tryz.prog 51 #[.pointer (some ⟨p, 0, none⟩)] w fun y w' => y = .returned (.bool (x == 1)) ∧ Rd w' p (.slice (some ⟨b, o, none⟩) L cap) (a + 1 : Nat) .nilIface ∧ Bx p w w' := by
 obtain ⟨c0, c1, c2, fz⟩ := id hr
 have f1 := fz 1
 have HR := hide hr
 clear hr fz
 have hne : ¬ a = L := by omega
 go_enter Tryz.func51, Tryz.ntmps51
 go_wp2_with fail
 go_quiet (fail)
 go_wp2_with fail
 go_quiet (fail)
 go_wp2_with fail
 go_ret
 exact ⟨rfl, (HR.out.drewN _).seta _, ((Bx.refl p w).drewN _).set _ _⟩
theorem rflag_any (p : Nat) (v : Value) (l : List Int) (a : Nat) (w : World) (hr : Rd w p v a .nilIface) (hv : Sl bc w v l) (hl : l.length ≤ 100000) (ha : a ≤ l.length) :
  Calls Tryz.prog 51 #[.pointer (some ⟨p, 0, none⟩)] w fun x w' => x = .returned (.bool (flagS (l.drop a)).2.2) ∧ Rd w' p v (a + (flagS (l.drop a)).2.1 : Nat) (erN ⟨#[102, 108, 97, 103]⟩ a (flagS (l.drop a)).1) ∧ Bx p w w' := by
 generalize hd : l.drop a = r
 have hlen := drop_size hd
 rcases r with _ | ⟨x0, r⟩
 ·obtain rfl : a = l.length := by simp at hlen; omega
  rcases hv with ⟨ao, cap, rfl, rfl⟩ | ⟨b, o, cap, rfl, hc, _⟩
  ·exact rflag_none p ao 0 cap w hr
  ·exact rflag_none p (some ⟨b, o, none⟩) l.length cap w hr
 ·rcases hv with ⟨ao, cap, rfl, rfl⟩ | ⟨b, o, cap, rfl, hc, h3⟩
  ·simp at hd
  ·obtain ⟨h1, h2⟩ := drop_get (i := 0) hd rfl
   have h4 := h3 (a + 0) h1
   rw [h2] at h4
   by_cases hx : 1 < x0
   ·simp only [flagS, if_pos hx]
    exact rflag_kind p b o l.length cap a x0 w hr (by omega) hx h4
   ·simp only [flagS, if_neg hx]
    exact rflag_ok p b o l.length cap a x0 w hr hl (by omega) hx h4
theorem rend_err (p : Nat) (ao : Option Addr) (L cap : Nat) (a : Int) (t : TypeId) (u : Value) (w : World) (hr : Rd w p (.slice ao L cap) a (.iface t u)) :
  Calls Tryz.prog 18 #[.pointer (some ⟨p, 0, none⟩)] w fun x w' => x = .returned (.iface t u) ∧ Rd w' p (.slice ao L cap) a (.iface t u) ∧ Bx p w w' := by
 obtain ⟨c0, c1, c2, fz⟩ := id hr
 have f1 := fz 1
 have HR := hide hr
 clear hr fz
 by_cases ha : a < L
 ·go_enter Tryz.func18, Tryz.ntmps18
  go_wp2_with fail
  go_quiet (fail)
  go_wp2_with (first | (go_at_call 55; refine (refuse_some p _ _ _ _ _ _ _ (HR.out.drewN _)).mono ?_; rintro e w' ⟨rfl, rfl⟩))
  go_ret
  exact ⟨rfl, HR.out.drewN _, (Bx.refl p w).drewN _⟩
 ·go_enter Tryz.func18, Tryz.ntmps18
  go_wp2_with fail
  go_quiet (fail)
  go_wp2_with fail
  go_ret
  exact ⟨rfl, HR.out.drewN _, (Bx.refl p w).drewN _⟩
def endC (L a : Nat) : Int := if a < L then 5 else 0
theorem rend_any (p : Nat) (ao : Option Addr) (L cap a : Nat) (w : World) (hr : Rd w p (.slice ao L cap) a .nilIface) :
  Calls Tryz.prog 18 #[.pointer (some ⟨p, 0, none⟩)] w fun x w' => x = .returned (erN ⟨#[101, 110, 100]⟩ a (endC L a)) ∧ Rd w' p (.slice ao L cap) a (erN ⟨#[101, 110, 100]⟩ a (endC L a)) ∧ Bx p w w' := by
 obtain ⟨c0, c1, c2, fz⟩ := id hr
 have f1 := fz 1
 have HR := hide hr
 clear hr fz
 by_cases ha : a < L
 ·rw [endC, if_pos ha]
  have ha' : (a : Int) < (L : Int) := by omega
  go_enter Tryz.func18, Tryz.ntmps18
  go_wp2_with fail
  go_quiet (fail)
  go_wp2_with (first | (go_at_call 55; refine (refuse_none p _ _ _ _ _ (HR.out.drewN _)).mono ?_; rintro e w' ⟨rfl, rfl⟩))
  go_ret
  exact ⟨rfl, (HR.out.drewN _).sete _, ((Bx.refl p w).drewN _).set _ _⟩
 ·rw [endC, if_neg ha]
  have ha' : ¬ (a : Int) < (L : Int) := by omega
  go_enter Tryz.func18, Tryz.ntmps18
  go_wp2_with fail
  go_quiet (fail)
  go_wp2_with fail
  go_ret
  exact ⟨rfl, HR.out.drewN _, (Bx.refl p w).drewN _⟩
theorem rtext_bad (p : Nat) (V : Value) (a A m N : Int) (e0 : Value) (t : TypeId) (u : Value) (w : World) (hr : Rd w p V a e0)
  (HC : Hid (Calls Tryz.prog 50 #[.pointer (some ⟨p, 0, none⟩), .int .i64 m] w fun x w' => x = .returned (.int .i64 N) ∧ Rd w' p V A (.iface t u) ∧ Bx p w w')) :
  Calls Tryz.prog 53 #[.pointer (some ⟨p, 0, none⟩), .int .i64 m] w fun x w' => x = .returned (.slice none 0 0) ∧ Rd w' p V A (.iface t u) ∧ Bx p w w' := by
 obtain ⟨c0, c1, c2, fz⟩ := id hr
 clear hr fz
 go_enter Tryz.func53, Tryz.ntmps53
 go_wp2_with (first | (go_at_call 50; refine (HC.out).mono ?_; rintro e w1 ⟨rfl, hr1, hb1⟩; obtain ⟨d0, d1, d2, fz1⟩ := id hr1; have g1 := fz1 1; have g2 := fz1 2; clear fz1; have HR1 := hide hr1; have HB1 := hide hb1; clear hr1 hb1))
 go_ret
 exact ⟨rfl, HR1.out, HB1.out⟩
theorem rtext_short (p : Nat) (ao : Option Addr) (L cap A : Nat) (a m N : Int) (e0 : Value) (w : World) (hr : Rd w p (.slice ao L cap) a e0) (_hL : L ≤ 100000) (hc : L ≤ cap) (hA : A ≤ L) (hn : ((L - A : Nat) : Int) < N)
  (HC : Hid (Calls Tryz.prog 50 #[.pointer (some ⟨p, 0, none⟩), .int .i64 m] w fun x w' => x = .returned (.int .i64 N) ∧ Rd w' p (.slice ao L cap) A .nilIface ∧ Bx p w w')) :
  Calls Tryz.prog 53 #[.pointer (some ⟨p, 0, none⟩), .int .i64 m] w fun x w' => x = .returned (.slice none 0 0) ∧ Rd w' p (.slice ao L cap) a (ft ⟨#[116, 101, 120, 116]⟩ a 3) ∧ Bx p w w' := by
 by_cases hcl : cap = A
 ·subst hcl
  obtain ⟨c0, c1, c2, fz⟩ := id hr
  clear hr fz
  go_enter Tryz.func53, Tryz.ntmps53
  go_wp2_with (first | (go_at_call 50; refine (HC.out).mono ?_; rintro e w1 ⟨rfl, hr1, hb1⟩; obtain ⟨d0, d1, d2, fz1⟩ := id hr1; have g1 := fz1 1; have g2 := fz1 2; clear fz1; have HR1 := hide hr1; have HB1 := hide hb1; clear hr1 hb1))
  go_quiet (fail)
  go_wp2_with (first | (go_at_call 55; refine (refuse_none p _ _ _ _ _ ((HR1.out.drewN _).seta _)).mono ?_; rintro e w' ⟨rfl, rfl⟩))
  go_ret
  exact ⟨rfl, ((HR1.out.drewN _).seta _).sete _, ((HB1.out.drewN _).set _ _).set _ _⟩
 ·obtain ⟨c0, c1, c2, fz⟩ := id hr
  clear hr fz
  go_enter Tryz.func53, Tryz.ntmps53
  go_wp2_with (first | (go_at_call 50; refine (HC.out).mono ?_; rintro e w1 ⟨rfl, hr1, hb1⟩; obtain ⟨d0, d1, d2, fz1⟩ := id hr1; have g1 := fz1 1; have g2 := fz1 2; clear fz1; have HR1 := hide hr1; have HB1 := hide hb1; clear hr1 hb1))
  go_quiet (fail)
  go_wp2_with (first | (go_at_call 55; refine (refuse_none p _ _ _ _ _ ((HR1.out.drewN _).seta _)).mono ?_; rintro e w' ⟨rfl, rfl⟩))
  go_ret
  exact ⟨rfl, ((HR1.out.drewN _).seta _).sete _, ((HB1.out.drewN _).set _ _).set _ _⟩
theorem rtext_ok (p b o L cap A : Nat) (a m : Int) (e0 : Value) (l : List Int) (w : World) (hr : Rd w p (.slice (some ⟨b, o, none⟩) L cap) a e0) (hL : L ≤ 100000) (hc : L ≤ cap) (hk : 0 < l.length) (hn : A + l.length ≤ L) (hp : b ≠ p) (h3 : ∀ i (h : i < l.length), w.cell? ⟨b, o + A + i, none⟩ = some (bc l[i]))
  (HC : Hid (Calls Tryz.prog 50 #[.pointer (some ⟨p, 0, none⟩), .int .i64 m] w fun x w' => x = .returned (.int .i64 (l.length : Int)) ∧ Rd w' p (.slice (some ⟨b, o, none⟩) L cap) A .nilIface ∧ Bx p w w')) :
  Calls Tryz.prog 53 #[.pointer (some ⟨p, 0, none⟩), .int .i64 m] w fun x w' => ∃ v, x = .returned v ∧ Sl bc w' v l ∧ Rd w' p (.slice (some ⟨b, o, none⟩) L cap) (A + l.length : Nat) .nilIface ∧ Bx p w w' := by
 obtain ⟨c0, c1, c2, fz⟩ := id hr
 clear hr fz
 have hne : ¬ cap = A := by omega
 have H3 := hide h3
 clear h3
 go_enter Tryz.func53, Tryz.ntmps53
 go_wp2_with (first | (go_at_call 50; refine (HC.out).mono ?_; rintro e w1 ⟨rfl, hr1, hb1⟩; obtain ⟨d0, d1, d2, fz1⟩ := id hr1; have g1 := fz1 1; have g2 := fz1 2; clear fz1; have HR1 := hide hr1; have HB1 := hide hb1; clear hr1 hb1))
 go_quiet (fail)
 go_wp2_with fail
 refine (clone_some b (o + A) (cap - A) l _ (by omega) ?_).mono ?_
 ·intro i hi
  rw [World.cell?_setCell_other _ _ _ _ (by simp), World.cell?_drewN, HB1.out.cell (cell_block (H3.out i hi)) hp]
  exact H3.out i hi
 rintro e w2 ⟨v, rfl, hown, hb2⟩
 have hS := hide (sl_of_owns hown)
 have hR2 := hide (((HR1.out.drewN nq).seta (A + l.length)).below hb2)
 have hB2 := hide (((HB1.out.drewN nq).set 1 (.int .i64 (A + l.length))).call hb2)
 clear hown hb2
 go_wp2_with fail
 go_ret
 exact ⟨v, rfl, hS.out, by have := hR2.out; simpa using this, hB2.out⟩
theorem clone_nil (ao : Option Addr) (cap : Nat) (w : World) : Calls Tryz.prog 81 #[.slice ao 0 cap] w fun e w' => (∃ ao c, e = .returned (.slice ao 0 c)) ∧ Below w.heap.size w w' := by
 cases ao with
 | none => exact clone_none cap w
 | some a => exact clone_zero a cap w
theorem rtext_zero (p : Nat) (ao : Option Addr) (L cap A : Nat) (a m : Int) (e0 : Value) (w : World) (hr : Rd w p (.slice ao L cap) a e0) (hL : L ≤ 100000) (hc : L ≤ cap) (hn : A ≤ L)
  (HC : Hid (Calls Tryz.prog 50 #[.pointer (some ⟨p, 0, none⟩), .int .i64 m] w fun x w' => x = .returned (.int .i64 0) ∧ Rd w' p (.slice ao L cap) A .nilIface ∧ Bx p w w')) :
  Calls Tryz.prog 53 #[.pointer (some ⟨p, 0, none⟩), .int .i64 m] w fun x w' => ∃ v, x = .returned v ∧ Sl bc w' v [] ∧ Rd w' p (.slice ao L cap) A .nilIface ∧ Bx p w w' := by
 by_cases hcl : cap = A
 ·subst hcl
  obtain ⟨c0, c1, c2, fz⟩ := id hr
  clear hr fz
  go_enter Tryz.func53, Tryz.ntmps53
  go_wp2_with (first | (go_at_call 50; refine (HC.out).mono ?_; rintro e w1 ⟨rfl, hr1, hb1⟩; obtain ⟨d0, d1, d2, fz1⟩ := id hr1; have g1 := fz1 1; have g2 := fz1 2; clear fz1; have HR1 := hide hr1; have HB1 := hide hb1; clear hr1 hb1))
  go_quiet (fail)
  go_wp2_with fail
  refine (clone_nil _ _ _).mono ?_
  rintro e w2 ⟨⟨ao', c', rfl⟩, hb2⟩
  have hR2 := hide (((HR1.out.drewN nq).seta cap).below hb2)
  have hB2 := hide (((HB1.out.drewN nq).set 1 (.int .i64 cap)).call hb2)
  clear hb2
  go_wp2_with fail
  go_ret
  exact ⟨_, rfl, Sl.nil _ _ _ _, hR2.out, hB2.out⟩
 ·obtain ⟨c0, c1, c2, fz⟩ := id hr
  clear hr fz
  go_enter Tryz.func53, Tryz.ntmps53
  go_wp2_with (first | (go_at_call 50; refine (HC.out).mono ?_; rintro e w1 ⟨rfl, hr1, hb1⟩; obtain ⟨d0, d1, d2, fz1⟩ := id hr1; have g1 := fz1 1; have g2 := fz1 2; clear fz1; have HR1 := hide hr1; have HB1 := hide hb1; clear hr1 hb1))
  go_quiet (fail)
  go_wp2_with fail
  refine (clone_nil _ _ _).mono ?_
  rintro e w2 ⟨⟨ao', c', rfl⟩, hb2⟩
  have hR2 := hide (((HR1.out.drewN nq).seta A).below hb2)
  have hB2 := hide (((HB1.out.drewN nq).set 1 (.int .i64 A)).call hb2)
  clear hb2
  go_wp2_with fail
  go_ret
  exact ⟨_, rfl, Sl.nil _ _ _ _, hR2.out, hB2.out⟩
end Go.Proofs.YtjjpfajbljbelaaGreatDoor
