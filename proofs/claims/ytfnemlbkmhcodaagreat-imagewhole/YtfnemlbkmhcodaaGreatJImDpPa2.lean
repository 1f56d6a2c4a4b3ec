/-
  ONE THAT IS PUT AT A PLACE (image.put), ahead of what is there, or in its stead. Conditions: the cells hold them, no more than a hundred thousand.
  A PARTITION IS MADE, OR ANOTHER ONE (image.replicate). Conditions: an image in order, its lists no longer than a hundred thousand; a record of one of these kinds, its rows short, its numbers not too great.
-/
import Derived.Test.YtfnemlbkmhcodaaGreatJImGsa3
import Derived.Test.YtfnemlbkmhcodaaGreatJImXa3
import Derived.Test.YtfnemlbkmhcodaaGreatJImHa3
import Derived.Test.YtfnemlbkmhcodaaGreatJImDpTa3
namespace Go.Proofs.YtfnemlbkmhcodaaGreat
open Go.RowKit


set_option maxRecDepth 100000 in
set_option maxHeartbeats 8000000 in
theorem putP_new (l : List Pp) (ao : Option Addr) (n cap i : Nat) (x : Pp) (w : World) (hn : n = l.length) (hv : Rs ptc w (.slice ao n cap) l) (hi : i ≤ l.length) (hl : l.length ≤ 100000) :
    Calls Tryz.prog 131 #[.slice ao n cap, .int .i64 (i : Int), .bool false, .agg (ptc x).toArray] w fun e w' => ∃ v, e = .returned v ∧ Ro ptc 6 44 w' w.heap.size v (l.take i ++ x :: l.drop i) ∧ Below w.heap.size w w' := by
  subst hn
  obtain ⟨ao', hr, hd⟩ := hv.from tyiP encP i hi
  have hu := fun W => upto_run tyiP ao l.length cap i hi hv.cap.2 W
  have HP := hide (fun o1 T U => put_frame (f := ptc) w o1 x T U (.slice ao i cap) (.slice ao' (l.length - i) (cap - i)))
  have HC := hide (fun W (hb : Below w.heap.size w W) (hB : Bx W (w.heap.size + 1 + 1) [.slice ao i cap, .slice (some ⟨w.heap.size + 1, 0, none⟩) 1 1, .slice ao' (l.length - i) (cap - i)]) (hx : Rs ptc W (.slice (some ⟨w.heap.size + 1, 0, none⟩) 1 1) [x]) => concP_3 _ _ _ (l.take i) [x] (l.drop i) _ W hB ((hv.below hb).upto encP i hi) hx (hd W hb) (by rw [List.length_take]; omega) (by simp) (by rw [List.length_drop]; omega))
  have HE : Hid (l.take i ++ [x] ++ l.drop i = l.take i ++ x :: l.drop i) := hide (by simp)
  clear hv hd
  unfold ptc at *
  go_enter Tryz.func131, Tryz.ntmps131
  go_upto_region 4 with fail
  go_region_with (go_at_call 151; obtain ⟨p1, p2, p3⟩ := HP.out _ _ _; refine (HC.out _ p3 p1 p2).mono ?_; rintro e w1 ⟨v, rfl, hr, hb⟩; rw [HE.out] at hr; have HR := hide (hr.mono p3.size); have HB := hide (bt p3 hb); clear hr hb p1 p2 p3)
  all_goals
    go_wp2_with fail
    go_ret
    exact ⟨_, rfl, HR.out, HB.out⟩
set_option maxRecDepth 100000 in
set_option maxHeartbeats 8000000 in
theorem putP_old (l : List Pp) (ao : Option Addr) (n cap i : Nat) (x : Pp) (w : World) (hn : n = l.length) (hv : Rs ptc w (.slice ao n cap) l) (hi : i < l.length) (hl : l.length ≤ 100000) :
    Calls Tryz.prog 131 #[.slice ao n cap, .int .i64 (i : Int), .bool true, .agg (ptc x).toArray] w fun e w' => ∃ v, e = .returned v ∧ Ro ptc 6 44 w' w.heap.size v (l.take i ++ x :: l.drop (i + 1)) ∧ Below w.heap.size w w' := by
  subst hn
  obtain ⟨ao', hr, hd⟩ := hv.from tyiP encP i (Nat.le_of_lt hi)
  have hdl : (l.drop i).length = l.length - i := List.length_drop
  obtain ⟨ao2, hr2, hd2⟩ := (show Rs ptc w (.slice ao' (l.drop i).length (cap - i)) (l.drop i) from hdl ▸ hd w (Below.refl _ _)).from tyiP encP 1 (by omega)
  rw [hdl] at hr2 hd2
  have hdd : (l.drop i).drop 1 = l.drop (i + 1) := by rw [List.drop_drop]
  rw [hdd] at hd2
  have hu := fun W => upto_run tyiP ao l.length cap i (Nat.le_of_lt hi) hv.cap.2 W
  replace hr2 : ∀ W, (Instr.slice 36 (.slice ao' (l.length - i) (cap - i)) (some (.int .i64 1)) none none).run Tryz.prog W = .ok (.slice ao2 (l.length - i - 1) (cap - i - 1)) W := hr2
  have HP := hide (fun o1 T U => put_frame (f := ptc) w o1 x T U (.slice ao i cap) (.slice ao2 (l.length - i - 1) (cap - i - 1)))
  have HC := hide (fun W (hb : Below w.heap.size w W) (hB : Bx W (w.heap.size + 1 + 1) [.slice ao i cap, .slice (some ⟨w.heap.size + 1, 0, none⟩) 1 1, .slice ao2 (l.length - i - 1) (cap - i - 1)]) (hx : Rs ptc W (.slice (some ⟨w.heap.size + 1, 0, none⟩) 1 1) [x]) => concP_3 _ _ _ (l.take i) [x] (l.drop (i + 1)) _ W hB ((hv.below hb).upto encP i (Nat.le_of_lt hi)) hx (hd2 W hb) (by rw [List.length_take]; omega) (by simp) (by rw [List.length_drop]; omega))
  have HE : Hid (l.take i ++ [x] ++ l.drop (i + 1) = l.take i ++ x :: l.drop (i + 1)) := hide (by simp)
  clear hv hd hd2 hdl hdd
  unfold ptc at *
  go_enter Tryz.func131, Tryz.ntmps131
  go_upto_region 4 with fail
  go_region_with (go_at_call 151; obtain ⟨p1, p2, p3⟩ := HP.out _ _ _; refine (HC.out _ p3 p1 p2).mono ?_; rintro e w1 ⟨v, rfl, hr, hb⟩; rw [HE.out] at hr; have HR := hide (hr.mono p3.size); have HB := hide (bt p3 hb); clear hr hb p1 p2 p3)
  all_goals
    go_wp2_with fail
    go_ret
    exact ⟨_, rfl, HR.out, HB.out⟩
end Go.Proofs.YtfnemlbkmhcodaaGreat
namespace Go.Proofs.YtfnemlbkmhcodaaGreat
open Go.RowKit

theorem erc0 {E : Value} (h : Erc 0 E) : E = .nilIface := by
  rcases h with ⟨_, h⟩ | ⟨h, _⟩
  · exact h
  · exact absurd rfl h
theorem ercN {c : Int} {E : Value} (h : Erc c E) (hc : c ≠ 0) : ∃ ty v, E = .iface ty v := by
  rcases h with ⟨h, _⟩ | ⟨_, l, rfl⟩
  · exact absurd h hc
  · exact chn_form l c
theorem set_map {ts : List Tq} {i : Nat} (hi : i < ts.length) {t' : Tq} {id : Int} {Q : List Pt} (hid : (ts[i]).id = id) (hlo : ∀ x ∈ ts.take i, cmpN x.id id < 0) (hhi : ∀ x ∈ ts.drop (i + 1), 0 < cmpN x.id id) (ht : t'.tp = ⟨(ts[i]).id, (ts[i]).nm, Q⟩) : (ts.take i ++ t' :: ts.drop (i + 1)).map Tq.tp = setT (ts.map Tq.tp) id Q := by
  unfold setT
  conv => rhs; rw [← List.take_append_drop i ts, List.drop_eq_getElem_cons hi]
  simp only [List.map_append, List.map_cons, List.map_map]
  congr 1
  · refine List.map_congr_left fun x hx => ?_
    have := cmpN_lt.1 (hlo x hx)
    show x.tp = if x.tp.id = id then _ else x.tp
    rw [if_neg (show ¬ x.tp.id = id from fun e => by have e' : x.id = id := e; omega)]
  · congr 1
    · rw [ht, if_pos (by simpa [Tq.tp] using hid)]
      rfl
    · refine List.map_congr_left fun x hx => ?_
      have := cmpN_gt.1 (hhi x hx)
      show x.tp = if x.tp.id = id then _ else x.tp
      rw [if_neg (show ¬ x.tp.id = id from fun e => by have e' : x.id = id := e; omega)]
end Go.Proofs.YtfnemlbkmhcodaaGreat
