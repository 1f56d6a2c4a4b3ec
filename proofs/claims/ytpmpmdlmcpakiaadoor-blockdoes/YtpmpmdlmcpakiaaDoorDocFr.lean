/-
  THE DOCUMENT's STORE OVER ONE STATE (castellanref08): a block is freed (Free). Condition: fewer than ninety thousand writes.
-/
import Derived.Test.YtpmpmdlmcpakiaaDoorDocAn
import Derived.Test.YtpmpmdlmcpakiaaDoorBlkFr
namespace Go.Proofs.YtpmpmdlmcpakiaaDoor
open Go.RowKit

/-- The document's store v is in the state s, in blocks of memory that P names. -/
def Dd (W : World) (P : Nat → Prop) (v : Value) (s : Dst) : Prop := ∃ vc vl qs ls, v = .agg #[.int .i64 s.room, vc, vl] ∧ Cl W P vc qs ∧ Ll W P vl ls ∧ csOf qs = s.cs ∧ loOf ls = s.lo
theorem Dd.keep {W W' : World} {P P' : Nat → Prop} {v : Value} {s : Dst} (h : Dd W P v s) (hP : ∀ k, P k → k < W.heap.size → P' k) (hk : ∀ k, P k → k < W.heap.size → W'.heap[k]? = W.heap[k]?) : Dd W' P' v s := by
  obtain ⟨vc, vl, qs, ls, e, h1, h2, h3, h4⟩ := h
  exact ⟨vc, vl, qs, ls, e, h1.keep hP hk, h2.keep hP hk, h3, h4⟩
theorem Dd.below {W W' : World} {P : Nat → Prop} {v : Value} {s : Dst} (h : Dd W P v s) (hb : Below W.heap.size W W') : Dd W' P v s := h.keep (fun _ p _ => p) (fun k _ hk => hb.block k hk)
theorem Dd.old {W : World} {P : Nat → Prop} {v : Value} {s : Dst} (h : Dd W P v s) : Dd W (fun k => P k ∧ k < W.heap.size) v s := h.keep (fun _ p q => ⟨p, q⟩) (fun _ _ _ => rfl)
theorem two_boxes (w : World) (x y z : Value) : B3 ((w.alloc (.cells #[x, y, z] 35)).alloc (.cells #[.int .i64 0, .slice none 0 0, .slice none 0 0] 35)) w.heap.size x y z ∧ B3 ((w.alloc (.cells #[x, y, z] 35)).alloc (.cells #[.int .i64 0, .slice none 0 0, .slice none 0 0] 35)) (w.heap.size + 1) (.int .i64 0) (.slice none 0 0) (.slice none 0 0) ∧ Below w.heap.size w ((w.alloc (.cells #[x, y, z] 35)).alloc (.cells #[.int .i64 0, .slice none 0 0, .slice none 0 0] 35)) := by
  have hr := b3_new (w.alloc (.cells #[x, y, z] 35)) (.int .i64 0) (.slice none 0 0) (.slice none 0 0) 35
  have s1 : (w.alloc (.cells #[x, y, z] 35)).heap.size = w.heap.size + 1 := by simp
  rw [s1] at hr
  exact ⟨(b3_new w x y z 35).below (al_d _ _), hr, bt (al_d w _) (al_d _ _)⟩
set_option maxRecDepth 100000 in
set_option maxHeartbeats 4000000 in
theorem rfree_ok {P : Nat → Prop} (v : Value) (a : Int) (s : Dst) (w : World) (h : Dd w P v s) (ha : Num a) (hn : s.lo.length < 90000) : Calls Tryd.prog 24 #[v, .int .i64 a] w fun e w' => ∃ v', e = .returned (.tuple #[v', .int .i64 0]) ∧ Dd w' (fun k => P k ∨ w.heap.size ≤ k) v' ⟨s.room, s.cs, s.lo ++ [⟨a, true, zer⟩]⟩ ∧ Below w.heap.size w w' := by
  obtain ⟨vc, vl, qs, ls, rfl, hc, hl, h3, h4⟩ := h.old
  obtain ⟨ca, cc, rfl⟩ := hc.fm
  obtain ⟨la, lc, rfl⟩ := hl.fm
  have hnl : ls.length < 90000 := by have := congrArg List.length h4; simp [loOf] at this; omega
  have HA := hide ha
  have HC := hide hc
  have HL := hide hl
  have H3 := hide h3
  have H4 := hide h4
  have HT := hide (two_boxes w (.int .i64 s.room) (.slice ca qs.length cc) (.slice la ls.length lc))
  clear ha hc hl h3 h4 h
  go_enter Tryd.func24, Tryd.ntmps24
  go_upto_region 3 with (first | (go_at_call 41; refine (right_ok _ _ HA.out).mono ?_; rintro e w9 ⟨rfl, hw9⟩; rw [hw9]; clear hw9 w9))
  generalize (w.alloc (.cells #[.int .i64 s.room, .slice ca qs.length cc, .slice la ls.length lc] 35)).alloc (.cells #[.int .i64 0, .slice none 0 0, .slice none 0 0] 35) = V at HT ⊢
  obtain ⟨d0, d1, d2, _⟩ := HT.out.1
  have HR := hide HT.out.2.1
  have HB := hide HT.out.2.2
  have HLV := hide (HL.out.below HT.out.2.2)
  have hwr : w.heap.size ≤ w.heap.size + 1 := by omega
  have HRV : Hid (w.heap.size + 1 < V.heap.size) := hide (cell_block HT.out.2.1.c0)
  clear HT
  generalize w.heap.size + 1 = R at HR hwr HRV ⊢
  go_wp2_with (first | (go_at_call 43; refine (and_any s.room (.slice ca qs.length cc) (.slice la ls.length lc) ls (⟨a, true, zer⟩, 0) _ ⟨_, _, _, rfl⟩ HLV.out (fun e => by cases e) hnl).mono ?_; rintro e W7 ⟨v7, rfl, hl7, hb7⟩; obtain ⟨a7, c7, rfl⟩ := hl7.fm; have HL7 := hide hl7; have HR7 := hide (HR.out.below hb7); have HB7 := hide (bt HB.out hb7); have e0 := HR7.out.c0; have e1 := HR7.out.c1; have e2 := HR7.out.c2; have f0 := HR7.out.fz 0; have f1 := HR7.out.fz 1; have f2 := HR7.out.fz 2; clear hl7 hb7))
  have hl7 := HL7.out
  have hlen : (ls ++ [(((⟨a, true, zer⟩ : Wr), (0 : Nat)) : Dw)]).length = ls.length + 1 := by simp
  rw [hlen] at hl7
  have hb9 := set3_below HB7.out hwr (.int .i64 s.room) (.slice ca qs.length cc) (.slice a7 (ls.length + 1) c7)
  refine bodyPost_ret (v := .tuple #[.agg #[_, _, _], .int .i64 0]) (res_two Tryd.results24 _ _ R [_, _, _] _ _ rfl rfl (HR7.out.all (.int .i64 s.room) (.slice ca qs.length cc) (.slice a7 (ls.length + 1) c7)).rg Tryd.underlying35 rfl infoDd) rfl ⟨_, rfl, ⟨_, _, qs, ls ++ [(⟨a, true, zer⟩, 0)], rfl, ?_, ?_, H3.out, by rw [loOf, List.map_append]; exact congrArg (· ++ [(⟨a, true, zer⟩ : Wr)]) H4.out⟩, hb9⟩
  · exact HC.out.keep (fun k h _ => .inl h.1) (fun k h hk => hb9.block k hk)
  · exact hl7.keep (fun k h _ => h.elim (fun q => .inl q.1) (fun q => .inr (by have := HB.out.size; omega))) (fun k h _ => set3_heap (h.elim (fun q => by have := q.2; omega) (fun q => by have := HRV.out; omega)) _ _ _)
end Go.Proofs.YtpmpmdlmcpakiaaDoor
