/-
  A PARTITION IS MADE, OR ANOTHER ONE (image.replicate).
-/
import Derived.Test.YtlggjgapdpkhiaaGreatJKImCba5
import Derived.Test.YtlggjgapdpkhiaaGreatJKImHa2
import Derived.Test.YtlggjgapdpkhiaaGreatJKImIa4
import Derived.Test.YtlggjgapdpkhiaaGreatJKImDgTa5
namespace Go.Proofs.YtlggjgapdpkhiaaGreat
open Go.RowKit
theorem erc0 {E : Value} (h : Erc 0 E) : E = .nilIface := by
 rcases h with ⟨_, h⟩ | ⟨h, _⟩
 ·exact h
 ·exact absurd rfl h
theorem ercN {c : Int} {E : Value} (h : Erc c E) (hc : c ≠ 0) : ∃ ty v, E = .iface ty v := by
 rcases h with ⟨h, _⟩ | ⟨_, l, rfl⟩
 ·exact absurd h hc
 ·exact chn_form l c
theorem set_map {ts : List Tq} {i : Nat} (hi : i < ts.length) {t' : Tq} {id : Int} {Q : List Pt} (hid : (ts[i]).id = id) (hlo : ∀ x ∈ ts.take i, cmpN x.id id < 0) (hhi : ∀ x ∈ ts.drop (i + 1), 0 < cmpN x.id id) (ht : t'.tp = ⟨(ts[i]).id, (ts[i]).nm, Q⟩) : (ts.take i ++ t' :: ts.drop (i + 1)).map Tq.tp = setT (ts.map Tq.tp) id Q := by
 unfold setT
 conv => rhs; rw [← List.take_append_drop i ts, List.drop_eq_getElem_cons hi]
 simp only [List.map_append, List.map_cons, List.map_map]
 congr 1
 ·refine List.map_congr_left fun x hx => ?_
  have := cmpN_lt.1 (hlo x hx)
  show x.tp = if x.tp.id = id then _ else x.tp
  rw [if_neg (show ¬ x.tp.id = id from fun e => by have e' : x.id = id := e; omega)]
 ·congr 1
  ·rw [ht, if_pos (by simpa [Tq.tp] using hid)]
   rfl
  ·refine List.map_congr_left fun x hx => ?_
   have := cmpN_gt.1 (hhi x hx)
   show x.tp = if x.tp.id = id then _ else x.tp
   rw [if_neg (show ¬ x.tp.id = id from fun e => by have e' : x.id = id := e; omega)]
end Go.Proofs.YtlggjgapdpkhiaaGreat
