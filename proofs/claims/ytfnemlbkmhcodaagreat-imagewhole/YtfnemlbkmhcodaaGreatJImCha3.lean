/-
  WHAT IS ASKED OF METADATA (image.registered, Alive, Named, Answered). Conditions: an image in order, its lists no longer than a hundred thousand.
  ROOM FOR MORE: a row that was just grown out of nothing. Condition: no more than a million elements.
  MANY ROWS AS ONE (slices.Grow, slices.Concat). Conditions: their cells hold them, no more than two hundred thousand each.
-/
import Derived.Test.YtfnemlbkmhcodaaGreatJImCea3
import Derived.Test.YtfnemlbkmhcodaaGreatJImXa3
import Derived.Lib.AppendZerosOnto
import Derived.Deep.RegionWith
namespace Go.Proofs.YtfnemlbkmhcodaaGreat
open Go.RowKit

theorem IxP.find_no {α : Type} {p : α → Bool} {l : List α} {w w' : World} {e : Ending} (h : IxP p l w w' e) (hn : l.find? p = Option.none) : e = .returned (.int .i64 (-1)) ∧ Below w.heap.size w w' := by
  obtain ⟨⟨k, hk, hp, _, rfl⟩ | ⟨_, rfl⟩, hb⟩ := h
  · exact absurd hp (List.find?_eq_none.1 hn _ (List.getElem_mem hk))
  · exact ⟨rfl, hb⟩
theorem IxP.find_yes {α : Type} {p : α → Bool} {l : List α} {w w' : World} {e : Ending} (h : IxP p l w w' e) {y : α} (hn : l.find? p = some y) : ∃ (k : Nat) (hk : k < l.length), l[k] = y ∧ e = .returned (.int .i64 (k : Int)) ∧ Below w.heap.size w w' := by
  obtain ⟨⟨k, hk, hp, hj, rfl⟩ | ⟨hn', rfl⟩, hb⟩ := h
  · refine ⟨k, hk, ?_, rfl, hb⟩
    rw [← List.take_append_drop k l, List.find?_append, List.find?_eq_none.2 (fun x hx => by
      obtain ⟨j, hj1, rfl⟩ := List.getElem_of_mem hx
      rw [List.length_take] at hj1
      rw [List.getElem_take, hj j (by omega) (by omega)]
      simp), Option.none_or, List.drop_eq_getElem_cons hk, List.find?_cons_of_pos hp] at hn
    exact Option.some.inj hn
  · obtain ⟨h1, h2⟩ := List.find?_eq_some_iff_append.1 hn
    exact absurd h1 (by rw [hn' y (List.mem_of_find?_eq_some hn)]; simp)
set_option maxRecDepth 100000 in
theorem registered_any (m : Im) (p : Ip) (id : Int) (w : World) (hv : ImR w m p) (hw : Wf m 100000) : Calls Tryz.prog 149 #[imv m p, .int .i64 id] w fun e w' => e = .returned (.bool (fB m.br id).isSome) ∧ Below w.heap.size w w' := by
  cases hf : fB m.br id with
  | none =>
    have HC := hide (fun W (h' : Below w.heap.size w W) => findBroker_no m p id W (hv.below h') hw hf)
    clear hv hw hf
    unfold imv at *
    go_enter Tryz.func149, Tryz.ntmps149
    go_wp2_with (go_at_call 39; refine (HC.out _ (below_al1 _ _)).mono ?_; rintro e w1 ⟨i, _, _, rfl, hb1⟩; have HB := hide (bt (below_al1 _ _) hb1); clear hb1 HC)
    go_ret
    exact ⟨rfl, HB.out⟩
  | some b =>
    have HC := hide (fun W (h' : Below w.heap.size w W) => findBroker_yes m p id W (hv.below h') hw b hf)
    clear hv hw hf
    unfold imv at *
    go_enter Tryz.func149, Tryz.ntmps149
    go_wp2_with (go_at_call 39; refine (HC.out _ (below_al1 _ _)).mono ?_; rintro e w1 ⟨i, _, _, _, _, _, _, rfl, hb1⟩; have HB := hide (bt (below_al1 _ _) hb1); clear hb1 HC)
    go_ret
    exact ⟨rfl, HB.out⟩
set_option maxRecDepth 100000 in
theorem Alive_any (m : Im) (p : Ip) (id : Int) (w : World) (hv : ImR w m p) (hw : Wf m 100000) : Calls Tryz.prog 24 #[imv m p, .int .i64 id] w fun e w' => e = .returned (.bool (alive m.br id)) ∧ Below w.heap.size w w' := by
  unfold alive
  cases hf : fB m.br id with
  | none =>
    have HC := hide (fun W (h' : Below w.heap.size w W) => Broker_no m p id W (hv.below h') hw hf)
    clear hv hw hf
    unfold imv at *
    go_enter Tryz.func24, Tryz.ntmps24
    go_wp2_with (go_at_call 9; refine (HC.out _ (below_al1 _ _)).mono ?_; rintro e w1 ⟨rfl, hb1⟩; have HB := hide (bt (below_al1 _ _) hb1); clear hb1 HC)
    go_ret
    exact ⟨rfl, HB.out.alloc HB.out.size _⟩
  | some b =>
    have HC := hide (fun W (h' : Below w.heap.size w W) => Broker_yes m p id W (hv.below h') hw b hf)
    clear hv hw hf
    unfold imv bkc at *
    dsimp only
    generalize b.fe = F at *
    go_enter Tryz.func24, Tryz.ntmps24
    go_wp2_with (go_at_call 9; refine (HC.out _ (below_al1 _ _)).mono ?_; rintro e w1 ⟨rfl, hb1⟩; have HB := hide (bt (below_al1 _ _) hb1); clear hb1 HC)
    go_ret
    exact ⟨rfl, HB.out.alloc HB.out.size _⟩
def nmQ (S : List UInt8) (t : Tq) : Bool := t.nm == S
theorem ImR.fN {W : World} {m : Im} {p : Ip} (h : ImR W m p) (S : List UInt8) : fN m.ts S = (p.ts.find? (nmQ S)).map Tq.tp := by
  unfold Go.Proofs.YtfnemlbkmhcodaaGreat.fN
  rw [← h.e, List.find?_map]
  rfl
set_option maxRecDepth 100000 in
set_option maxHeartbeats 2000000 in
theorem Named_no (m : Im) (p : Ip) (S : List UInt8) (w : World) (hv : ImR w m p) (hw : Wf m 100000) (h : p.ts.find? (nmQ S) = none) : Calls Tryz.prog 13 #[imv m p, .string ⟨S.toArray⟩] w fun e w' => e = .returned (.tuple #[.agg #[.int .i64 0, .string ⟨#[]⟩, .slice none 0 0], .bool false]) ∧ Below w.heap.size w w' := by
  have HC := hide (fun W (h' : Below w.heap.size w W) (hB : W.cell? ⟨w.heap.size + 1, 0, none⟩ = some (.string ⟨S.toArray⟩)) => (ix_nam p.ts (nmQ S) p.aq _ p.cq (.pointer (some ⟨w.heap.size + 1, 0, none⟩)) W rfl (hv.t.below h') (by rw [hv.len]; exact hw.nt) (fun W' x hx h'' => cNam_any x S (w.heap.size + 1) W' ((h''.cell (p := ⟨w.heap.size + 1, 0, none⟩) (cell_block hB)).trans hB))).mono fun _ _ q => q.find_no h)
  have HA := hide (fun v i W => atT_no v i W)
  clear hv hw h
  unfold imv at *
  go_enter Tryz.func13, Tryz.ntmps13
  go_wp2_with (first
    | (go_at_call 43; refine (HC.out _ (below_al3 _ _ _ _) (al3_mid _ _ _ _ _)).mono ?_; rintro e w1 ⟨rfl, hb1⟩; obtain ⟨hI, hN, hR, hb⟩ := Bx.mk3 w (iml m p) [.string ⟨S.toArray⟩] _ _ _ _ hb1; obtain ⟨i0, i1, i2, i3, i4⟩ := hI.im; have HR := hide hR; have HB := hide hb; clear hI hN hR hb hb1 HC)
    | (go_at_call 42; refine (HA.out _ _ _).mono ?_; rintro e w2 ⟨rfl, hb2⟩; replace HR := hide (HR.out.below hb2); replace HB := hide (bt HB.out hb2); clear hb2 HA i0 i1 i2 i3 i4)
    | (refine wpList_set rfl _ _ _ rfl _ _ rfl HR.out _ rfl rfl (by kernel_rfl) rfl ?_; intro W3 hR3 _ hK3 _; have HR3 := hide hR3; have HB3 := hide (hK3 _ _ (by omega) HB.out); clear hR3 hK3 HR HB))
  obtain ⟨r0, r1, r2⟩ := HR3.out.c3
  exact bodyPost_ret (v := .tuple #[.agg #[.int .i64 0, .string ⟨#[]⟩, .slice none 0 0], .bool false]) (by simp [results, Tryz.results13, go_sem, r0, r1, r2]) rfl ⟨rfl, HB3.out⟩
set_option maxRecDepth 100000 in
set_option maxHeartbeats 2000000 in
theorem Named_yes (m : Im) (p : Ip) (S : List UInt8) (w : World) (hv : ImR w m p) (hw : Wf m 100000) (t : Tq) (h : p.ts.find? (nmQ S) = some t) : Calls Tryz.prog 13 #[imv m p, .string ⟨S.toArray⟩] w fun e w' => e = .returned (.tuple #[.agg (tpc t).toArray, .bool true]) ∧ Below w.heap.size w w' := by
  have HC := hide (fun W (h' : Below w.heap.size w W) (hB : W.cell? ⟨w.heap.size + 1, 0, none⟩ = some (.string ⟨S.toArray⟩)) => (ix_nam p.ts (nmQ S) p.aq _ p.cq (.pointer (some ⟨w.heap.size + 1, 0, none⟩)) W rfl (hv.t.below h') (by rw [hv.len]; exact hw.nt) (fun W' x hx h'' => cNam_any x S (w.heap.size + 1) W' ((h''.cell (p := ⟨w.heap.size + 1, 0, none⟩) (cell_block hB)).trans hB))).mono fun _ _ q => q.find_yes h)
  have HA := hide (fun W (h' : Below w.heap.size w W) i (hi : i < p.ts.length) => atT_yes p.ts _ _ _ i W rfl (hv.t.below h') hi)
  clear hv hw h
  unfold imv at *
  go_enter Tryz.func13, Tryz.ntmps13
  go_wp2_with (first
    | (go_at_call 43; refine (HC.out _ (below_al3 _ _ _ _) (al3_mid _ _ _ _ _)).mono ?_; rintro e w1 ⟨i, hi, hib, rfl, hb1⟩; obtain ⟨hI, hN, hR, hb⟩ := Bx.mk3 w (iml m p) [.string ⟨S.toArray⟩] _ _ _ _ hb1; obtain ⟨i0, i1, i2, i3, i4⟩ := hI.im; have HR := hide hR; have HB := hide hb; replace HA := hide (HA.out w1 hb i hi); rw [hib] at HA; clear hI hN hR hb hb1 HC hib hi)
    | (go_at_call 42; refine HA.out.mono ?_; rintro e w2 ⟨rfl, hb2⟩; replace HR := hide (HR.out.below hb2); replace HB := hide (bt HB.out hb2); clear hb2 HA i0 i1 i2 i3 i4)
    | (refine wpList_set rfl _ _ _ rfl _ _ rfl HR.out _ rfl rfl (by kernel_rfl) rfl ?_; intro W3 hR3 _ hK3 _; have HR3 := hide hR3; have HB3 := hide (hK3 _ _ (by omega) HB.out); clear hR3 hK3 HR HB))
  obtain ⟨r0, r1, r2⟩ := HR3.out.c3
  exact bodyPost_ret (v := .tuple #[.agg (tpc t).toArray, .bool true]) (by simp [results, Tryz.results13, go_sem, r0, r1, r2, tpc]) rfl ⟨rfl, HB3.out⟩
/-- What a client's serial was answered. -/
def ansV (o : Option Dn) : Value := match o with
  | some d => .tuple #[.int .i64 d.co, .bool true]
  | none => .tuple #[.int .i64 0, .bool false]
set_option maxRecDepth 100000 in
set_option maxHeartbeats 2000000 in
theorem Answered_any (m : Im) (p : Ip) (c s : Int) (w : World) (hv : ImR w m p) (hw : Wf m 100000) : Calls Tryz.prog 19 #[imv m p, .int .i64 c, .int .i64 s] w fun e w' => e = .returned (ansV (fD m.dn c s)) ∧ Below w.heap.size w w' := by
  have HX := hide (fun W (h' : Below w.heap.size w W) (hB : W.cell? ⟨w.heap.size + 1, 0, none⟩ = some (.int .i64 c)) (hC : W.cell? ⟨w.heap.size + 1 + 1, 0, none⟩ = some (.int .i64 s)) => ix_ans m.dn (idD c s) p.ad _ p.cd (.pointer (some ⟨w.heap.size + 1, 0, none⟩)) (.pointer (some ⟨w.heap.size + 1 + 1, 0, none⟩)) W rfl (hv.d.below h') hw.nd (fun W' x hx h'' => cAns_any x c s (w.heap.size + 1) (w.heap.size + 1 + 1) W' ((h''.cell (p := ⟨w.heap.size + 1, 0, none⟩) (cell_block hB)).trans hB) ((h''.cell (p := ⟨w.heap.size + 1 + 1, 0, none⟩) (cell_block hC)).trans hC)))
  cases hf : fD m.dn c s with
  | none =>
    have HC := hide (fun W h1 h2 h3 => (HX.out W h1 h2 h3).mono fun _ _ q => q.find_no hf)
    have HA := hide (fun v i W => atD_no v i W)
    clear hv hw hf HX
    unfold imv ansV at *
    dsimp only
    go_enter Tryz.func19, Tryz.ntmps19
    go_wp2_with (first
      | (go_at_call 48; refine (HC.out _ (below_al3 _ _ _ _) (al3_mid _ _ _ _ _) (al3_end _ _ _ _ _)).mono ?_; rintro e w1 ⟨rfl, hb1⟩; obtain ⟨hI, _, _, hb⟩ := Bx.mk3 w (iml m p) [.int .i64 c] [.int .i64 s] _ _ _ hb1; obtain ⟨i0, i1, i2, i3, i4⟩ := hI.im; have HB := hide hb; clear hI hb hb1 HC)
      | (go_at_call 50; refine (HA.out _ _ _).mono ?_; rintro e w2 ⟨rfl, hb2⟩; replace HB := hide (bt HB.out hb2); clear hb2 HA i0 i1 i2 i3 i4))
    go_ret2
    exact ⟨rfl, HB.out.alloc HB.out.size _⟩
  | some d =>
    have HC := hide (fun W h1 h2 h3 => (HX.out W h1 h2 h3).mono fun _ _ q => q.find_yes hf)
    have HA := hide (fun W (h' : Below w.heap.size w W) i (hi : i < m.dn.length) => atD_yes m.dn _ _ _ i W rfl (hv.d.below h') hi)
    clear hv hw hf HX
    unfold imv ansV dnc at *
    dsimp only
    go_enter Tryz.func19, Tryz.ntmps19
    go_wp2_with (first
      | (go_at_call 48; refine (HC.out _ (below_al3 _ _ _ _) (al3_mid _ _ _ _ _) (al3_end _ _ _ _ _)).mono ?_; rintro e w1 ⟨i, hi, hib, rfl, hb1⟩; obtain ⟨hI, _, _, hb⟩ := Bx.mk3 w (iml m p) [.int .i64 c] [.int .i64 s] _ _ _ hb1; obtain ⟨i0, i1, i2, i3, i4⟩ := hI.im; have HB := hide hb; replace HA := hide (HA.out w1 hb i hi); rw [hib] at HA; clear hI hb hb1 HC hib hi)
      | (go_at_call 50; refine HA.out.mono ?_; rintro e w2 ⟨rfl, hb2⟩; replace HB := hide (bt HB.out hb2); clear hb2 HA i0 i1 i2 i3 i4))
    go_ret2
    exact ⟨rfl, HB.out.alloc HB.out.size _⟩
end Go.Proofs.YtfnemlbkmhcodaaGreat
namespace Go.Proofs.YtfnemlbkmhcodaaGreat
open Go.RowKit

theorem grow_zeros {P : Program} {S T I : TypeId} {k : Nat} (hi : Tyi P S T k) (hk : 0 < k) (hI : P.underlying I = some (.int .i64)) (w : World) (n : Nat) (h0 : 0 < n) (hn : n ≤ 1000000) (ty : TypeId) : ∃ G c, (Builtin.append_ #[S, I] ty #[.slice none 0 0, .int .i64 (n : Int)]).run P w = .ok (.slice (some ⟨w.heap.size, 0, none⟩) n G) (w.drew.alloc (.cells c T)) ∧ n ≤ G ∧ G ≤ maxLen ∧ c.size = G * k := by
  obtain ⟨⟨i0, z, h1, h2, h3, h4, h5⟩, hu⟩ := hi
  have hb : n * i0.bytes ≤ 1000000 * 300 := Nat.mul_le_mul hn h4
  have h := Lib.run_append_grow_zeros (P := P) w S I ty T i0 z .i64 .i64 hu hI h1 h2 none 0 0 [] (run_firstCells_none w.drew i0.size 0 0 0) n h0 (by omega) (by omega) (by omega) (by omega)
    (by rw [Nat.zero_add]; exact growslice_fits (by omega) (by omega))
  rw [Nat.zero_add] at h
  refine ⟨_, _, h, grownCap_ge w _ _ _, grownCap_le_maxLen w n 0 T (by unfold maxLen; omega), ?_⟩
  have hg := grownCap_ge w n 0 T
  simp only [Array.size_append, size_zeroCells, h5]
  have : n * k + (grownCap w n 0 T - n) * k = grownCap w n 0 T * k := by rw [← Nat.add_mul]; congr 1; omega
  simpa using this
theorem ro_room {α : Type} (f : α → List Value) (k : Nat) (T : TypeId) (w : World) (G : Nat) (c : Array Value) (hG : G ≤ maxLen) (hc : c.size = G * k) : Ro f k T (w.drew.alloc (.cells c T)) w.heap.size (.slice (some ⟨w.heap.size, 0, none⟩) 0 G) [] :=
  ⟨by simp, .inr ⟨w.heap.size, G, c, rfl, Nat.le_refl _, Array.getElem?_push_size, Nat.zero_le _, hG, hc, by simp⟩⟩
theorem below_dal (w : World) (o : Obj) : Below w.heap.size w (w.drew.alloc o) := (Below.refl _ _).drew.alloc (Nat.le_refl _) _
/-- 'l[n:]' of elements of several cells. -/
theorem from_runR {P : Program} {S T : TypeId} {k : Nat} (hi : Tyi P S T k) (ao : Option Addr) (n cap i : Nat) (h : i ≤ n) (hn : ao = none → n = 0) : ∃ ao', (∀ W, (Instr.slice S (.slice ao n cap) (some (.int .i64 (i : Int))) none none).run P W = .ok (.slice ao' (n - i) (cap - i)) W) ∧ ∀ b o, ao = some ⟨b, o, none⟩ → i < n → n ≤ cap → ao' = some ⟨b, o + i * k, none⟩ := by
  obtain ⟨⟨i0, z, h1, h2, h3, h4, h5⟩, hu⟩ := hi
  have hinf := h1
  have h1 : (i : Int) ≤ (n : Int) := by omega
  cases ao with
  | none =>
    obtain rfl := hn rfl
    obtain rfl : i = 0 := by omega
    exact ⟨none, fun W => by simp [Instr.slice, go_sem, run_underlying hu, sizeOf, typeInfo, hinf], fun b o e => by cases e⟩
  | some a =>
    refine ⟨if cap = i then some a else some (a.add (i * k)), fun W => by simp [Instr.slice, go_sem, h1, run_underlying hu, sizeOf, typeInfo, hinf, h3], fun b o e hi hc => ?_⟩
    cases e
    rw [if_neg (by omega), Addr.add_mid]
/-- 'l[:n]' of elements of several cells. -/
theorem upto_run {P : Program} {S T : TypeId} {k : Nat} (hi : Tyi P S T k) (ao : Option Addr) (n cap i : Nat) (h : i ≤ n) (hc : n ≤ cap) (W : World) : (Instr.slice S (.slice ao n cap) none (some (.int .i64 (i : Int))) none).run P W = .ok (.slice ao i cap) W := by
  obtain ⟨⟨i0, z, h1, h2, h3, h4, h5⟩, hu⟩ := hi
  have hinf := h1
  have h1 : (i : Int) ≤ (cap : Int) := by omega
  cases ao with
  | none => simp [Instr.slice, go_sem, h1, run_underlying hu, sizeOf, typeInfo, hinf]
  | some a => simp [Instr.slice, go_sem, h1, run_underlying hu, sizeOf, typeInfo, hinf]
section
variable {α : Type} {f : α → List Value} {k : Nat}
theorem Rs.none0 {W : World} {ao : Option Addr} {n c : Nat} {l : List α} (h : Rs f W (.slice ao n c) l) (e : ao = none) : n = 0 := by
  rw [h.cap.1]
  rcases Nat.eq_zero_or_pos l.length with q | q
  · exact q
  · obtain ⟨b, o, e', _⟩ := h.rg q
    rw [e] at e'
    cases e'
/-- 'l[i:]'. -/
theorem Rs.from {P : Program} {S T : TypeId} (hi : Tyi P S T k) (hf : Enc f k) {w : World} {ao : Option Addr} {cap : Nat} {l : List α} (h : Rs f w (.slice ao l.length cap) l) (i : Nat) (hil : i ≤ l.length) : ∃ ao', (∀ W, (Instr.slice S (.slice ao l.length cap) (some (.int .i64 (i : Int))) none none).run P W = .ok (.slice ao' (l.length - i) (cap - i)) W) ∧ ∀ W, Below w.heap.size w W → Rs f W (.slice ao' (l.length - i) (cap - i)) (l.drop i) := by
  obtain ⟨ao', h1, h2⟩ := from_runR hi ao l.length cap i hil (fun e => h.none0 e)
  refine ⟨ao', h1, fun W hb => ?_⟩
  have := (h.below hb).part hf i l.length hil (Nat.le_refl _) ao' (fun q b o e => h2 b o e q h.cap.2)
  rwa [List.take_of_length_le (by rw [List.length_drop]; omega)] at this
/-- 'l[:i]'. -/
theorem Rs.upto {w : World} {ao : Option Addr} {cap : Nat} {l : List α} (hf : Enc f k) (h : Rs f w (.slice ao l.length cap) l) (i : Nat) (hil : i ≤ l.length) : Rs f w (.slice ao i cap) (l.take i) := by
  have := h.part hf 0 i (Nat.zero_le _) hil ao (fun q b o e => by rw [e, Nat.zero_mul, Nat.add_zero])
  simpa using this
/-- What lies there when three rows are to be one. -/
theorem put_frame (w : World) (o1 : Obj) (x : α) (T U : TypeId) (v1 v3 : Value) : Bx (((w.alloc o1).alloc (.cells (f x).toArray T)).alloc (.cells #[v1, .slice (some ⟨w.heap.size + 1, 0, none⟩) 1 1, v3] U)).drew (w.heap.size + 1 + 1) [v1, .slice (some ⟨w.heap.size + 1, 0, none⟩) 1 1, v3] ∧ Rs f (((w.alloc o1).alloc (.cells (f x).toArray T)).alloc (.cells #[v1, .slice (some ⟨w.heap.size + 1, 0, none⟩) 1 1, v3] U)).drew (.slice (some ⟨w.heap.size + 1, 0, none⟩) 1 1) [x] ∧ Below w.heap.size w (((w.alloc o1).alloc (.cells (f x).toArray T)).alloc (.cells #[v1, .slice (some ⟨w.heap.size + 1, 0, none⟩) 1 1, v3] U)).drew := by
  refine ⟨?_, ⟨_, _, rfl, Nat.le_refl _, fun _ => ⟨w.heap.size + 1, 0, rfl, ?_⟩⟩, (below_al3 _ _ _ _).drew⟩
  · have h := Bx.new ((w.alloc o1).alloc (.cells (f x).toArray T)) [v1, .slice (some ⟨w.heap.size + 1, 0, none⟩) 1 1, v3] U
    have h' : Bx (((w.alloc o1).alloc (.cells (f x).toArray T)).alloc (.cells #[v1, .slice (some ⟨w.heap.size + 1, 0, none⟩) 1 1, v3] U)) (w.heap.size + 1 + 1) [v1, .slice (some ⟨w.heap.size + 1, 0, none⟩) 1 1, v3] := by simpa using h
    exact ⟨h'.l, h'.c, h'.f⟩
  · have h := (Bx.new (w.alloc o1) (f x) T).alloc (.cells #[v1, .slice (some ⟨w.heap.size + 1, 0, none⟩) 1 1, v3] U)
    have h' : Bx (((w.alloc o1).alloc (.cells (f x).toArray T)).alloc (.cells #[v1, .slice (some ⟨w.heap.size + 1, 0, none⟩) 1 1, v3] U)) (w.heap.size + 1) (f x) := by simpa using h
    intro j u hu
    rw [List.flatMap_cons, List.flatMap_nil, List.append_nil] at hu
    exact h'.c j u hu
theorem wo_frame (w : World) (U : TypeId) (v1 v3 : Value) : Bx (w.alloc (.cells #[v1, v3] U)).drew w.heap.size [v1, v3] ∧ Below w.heap.size w (w.alloc (.cells #[v1, v3] U)).drew := by
  have h := Bx.new w [v1, v3] U
  exact ⟨⟨h.l, h.c, h.f⟩, (below_al1 _ _).drew⟩
theorem Bx.c2 {W : World} {n : Nat} {a b : Value} (h : Bx W n [a, b]) : W.cell? ⟨n, 0, none⟩ = some a ∧ W.cell? ⟨n, 1, none⟩ = some b := ⟨h.at 0 _ rfl, h.at 1 _ rfl⟩
end
end Go.Proofs.YtfnemlbkmhcodaaGreat
namespace Go.Proofs.YtfnemlbkmhcodaaGreat
open Go.RowKit


set_option maxRecDepth 100000 in
set_option maxHeartbeats 4000000 in
theorem growT_any (n : Nat) (w : World) (hn : n ≤ 1000000) : Calls Tryz.prog 159 #[.slice none 0 0, .int .i64 (n : Int)] w fun e w' => ∃ v, e = .returned v ∧ Ro tpc 3 38 w' w.heap.size v [] ∧ Below w.heap.size w w' := by
  have h2 : wrap64 ((0 : Int) - 0) = 0 := by unfold wrap64; omega
  have h1 : ¬ ((n : Int) < 0) := by omega
  rcases Nat.eq_zero_or_pos n with h0 | h0
  · subst h0
    clear hn h1
    go_enter Tryz.func159, Tryz.ntmps159
    go_wp2_with fail
    go_ret
    exact ⟨_, rfl, ro_nil _ _ _ _ _, Below.refl _ _⟩
  · have h3 : wrap64 ((n : Int) - 0) = (n : Int) := by unfold wrap64; omega
    have h4 : (n : Int) > 0 := by omega
    have hz := fun ty => grow_zeros (I := 3) tyiT (by decide) Tryz.underlying3 w n h0 hn ty
    obtain ⟨G, c, hG, hnG, hm, hc⟩ := hz 26
    have HU := hide (fun W => upto_run tyiT (some ⟨w.heap.size, 0, none⟩) n G 0 (Nat.zero_le _) hnG W)
    have HG := hide hG
    have HR := hide (ro_room tpc 3 38 w G c hm hc)
    clear hz hG hm hc
    go_enter Tryz.func159, Tryz.ntmps159
    go_wp2_with (at_builtin; refine Lib.wpList_append_run _ rfl _ _ _ _ rfl _ _ rfl rfl _ _ HG.out ?_)
    all_goals
      go_ret
      exact ⟨_, rfl, HR.out, below_dal _ _⟩

set_option maxRecDepth 100000 in
set_option maxHeartbeats 8000000 in
theorem concT_3 (v1 v2 v3 : Value) (l1 l2 l3 : List Tq) (B : Nat) (w : World) (hB : Bx w B [v1, v2, v3]) (h1 : Rs tpc w v1 l1) (h2 : Rs tpc w v2 l2) (h3 : Rs tpc w v3 l3) (hl1 : l1.length ≤ 200000) (hl2 : l2.length ≤ 200000) (hl3 : l3.length ≤ 200000) :
    Calls Tryz.prog 145 #[.slice (some ⟨B, 0, none⟩) 3 3] w fun e w' => ∃ v, e = .returned v ∧ Ro tpc 3 38 w' w.heap.size v (l1 ++ l2 ++ l3) ∧ Below w.heap.size w w' := by
  have HG := hide (fun n hn => growT_any n w hn)
  obtain ⟨a1, c1, rfl⟩ := h1.form
  obtain ⟨a2, c2, rfl⟩ := h2.form
  obtain ⟨a3, c3, rfl⟩ := h3.form
  have HB := hide (fun W (h : Below w.heap.size w W) => (hB.below h).c3)
  have H1 := hide (fun W (h : Below w.heap.size w W) => h1.below h)
  have H2 := hide (fun W (h : Below w.heap.size w W) => h2.below h)
  have H3 := hide (fun W (h : Below w.heap.size w W) => h3.below h)
  obtain ⟨b0, b1, b2⟩ := hB.c3
  have hbl := hB.l
  clear h1 h2 h3 hB
  go_enter Tryz.func145, Tryz.ntmps145
  go_wp2_with fail
  refine wp_loop_rounds 4 ?_
  rw [rounds_succ]
  go_wp2_with fail
  rw [rounds_succ]
  go_wp2_with fail
  rw [rounds_succ]
  go_wp2_with fail
  rw [rounds_succ]
  have HN : Hid (((l1.length : Int) + l2.length + l3.length) = ((l1.length + l2.length + l3.length : Nat) : Int)) := hide (by omega)
  have HK : Hid (l1.length + l2.length + l3.length ≤ 1000000) := hide (by omega)
  go_wp2_with (go_at_call 159; first | rw [HN.out] | skip; refine (HG.out _ HK.out).mono ?_; rintro e w1 ⟨v, rfl, hr, hb⟩; obtain ⟨d0, d1, d2⟩ := HB.out _ hb; have HR := hide hr; have HBl := hide hb; clear hr hb HG b0 b1 b2)
  refine wp_loop_rounds 4 ?_
  rw [rounds_succ]
  go_wp2_with (at_builtin; refine wpList_appR tyiT encT _ rfl _ _ rfl w.heap.size _ [] rfl HR.out HBl.out.size _ l1 rfl (H1.out _ HBl.out) (by rw [List.length_nil]; omega) ?_; intro v1 w2 hr _ hb; rw [List.nil_append] at hr; obtain ⟨d0, d1, d2⟩ := HB.out _ (HBl.out.trans hb); replace HR := hide hr; replace HBl := hide (HBl.out.trans hb); clear hr hb)
  rw [rounds_succ]
  go_wp2_with (at_builtin; refine wpList_appR tyiT encT _ rfl _ _ rfl w.heap.size _ l1 rfl HR.out HBl.out.size _ l2 rfl (H2.out _ HBl.out) (by omega) ?_; intro v2 w3 hr _ hb; obtain ⟨d0, d1, d2⟩ := HB.out _ (HBl.out.trans hb); replace HR := hide hr; replace HBl := hide (HBl.out.trans hb); clear hr hb)
  rw [rounds_succ]
  go_wp2_with (at_builtin; refine wpList_appR tyiT encT _ rfl _ _ rfl w.heap.size _ (l1 ++ l2) rfl HR.out HBl.out.size _ l3 rfl (H3.out _ HBl.out) (by rw [List.length_append]; omega) ?_; intro v3 w4 hr _ hb; obtain ⟨d0, d1, d2⟩ := HB.out _ (HBl.out.trans hb); replace HR := hide hr; replace HBl := hide (HBl.out.trans hb); clear hr hb)
  rw [rounds_succ]
  go_wp2_with fail
  go_ret
  exact ⟨_, rfl, HR.out, HBl.out⟩
end Go.Proofs.YtfnemlbkmhcodaaGreat
