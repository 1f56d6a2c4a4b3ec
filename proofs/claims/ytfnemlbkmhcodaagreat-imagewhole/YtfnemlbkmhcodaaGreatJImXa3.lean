/-
  BOXES: cells of a call's own, that may be written; that they stay. No condition.
  A STEP's FRAME: the three boxes that a step of package image lays first (the image, the record, the answer), and what it answers. No condition.
  WHERE SOMETHING STANDS (cmp.Compare, slices.BinarySearchFunc, image.find, findBroker, findTopic, findConfig): its place in a list that stands in order, and whether it is there. Conditions: the lists' cells hold them, no more than a hundred thousand, in order.
-/
import Derived.Test.YtfnemlbkmhcodaaGreatJImMa3
import Derived.Test.YtfnemlbkmhcodaaGreatJOutca3
import Derived.Test.YtfnemlbkmhcodaaGreatJRecVa3
import Derived.Deep.DeepCutAuto
import Derived.Deep.RegionWith
namespace Go.Proofs.YtfnemlbkmhcodaaGreat
open Go.RowKit

/-- In block n lie the cells cs, and they may be written. -/
structure Bx (W : World) (n : Nat) (cs : List Value) : Prop where
  l : n < W.heap.size
  c : W.rangeAt n 0 cs
  f : ∀ j, j < cs.length → W.frozen? ⟨n, j, none⟩ = false
theorem Bx.at {W : World} {n : Nat} {cs : List Value} (h : Bx W n cs) (j : Nat) (v : Value) (hj : cs[j]? = some v) : W.cell? ⟨n, j, none⟩ = some v := by
  have := h.c j v hj
  rwa [Nat.zero_add] at this
theorem Bx.new (w : World) (cs : List Value) (t : TypeId) : Bx (w.alloc (.cells cs.toArray t)) w.heap.size cs :=
  ⟨by simp, fun j v hv => by
    rw [Nat.zero_add, World.cell?_alloc_at _ _ _ _ rfl]
    simpa using hv, fun j hj => by simp⟩
theorem Bx.below {W W' : World} {n : Nat} {cs : List Value} (h : Bx W n cs) (hb : Below W.heap.size W W') : Bx W' n cs :=
  ⟨Nat.lt_of_lt_of_le h.l hb.size, rg_bel h.c hb, fun j hj => (hb.frozen (p := ⟨n, j, none⟩) h.l).trans (h.f j hj)⟩
theorem Bx.there {W : World} {n : Nat} {cs : List Value} (h : Bx W n cs) {m : Nat} (hm : m = cs.length) : W.there n 0 m := fun j hj => by
  subst hm
  obtain ⟨v, hv⟩ : ∃ v, cs[j]? = some v := ⟨_, List.getElem?_eq_getElem hj⟩
  rw [Nat.zero_add]
  exact ⟨by rw [h.at j v hv]; rfl, h.f j hj⟩
theorem fr_sets (n : Nat) : ∀ (ds : List Value) (o : Nat) (W : World) (q : Addr), (W.setCells n o ds).frozen? q = W.frozen? q
  | [], _, _, _ => rfl
  | d :: ds, o, W, q => by rw [World.setCells, fr_sets n ds]; simp
theorem sz_sets (n : Nat) : ∀ (ds : List Value) (o : Nat) (W : World), (W.setCells n o ds).heap.size = W.heap.size
  | [], _, _ => rfl
  | d :: ds, o, W => by rw [World.setCells, sz_sets n ds]; simp
theorem hp_sets {n g : Nat} (hg : ¬ g = n) : ∀ (ds : List Value) (o : Nat) (W : World), (W.setCells n o ds).heap[g]? = W.heap[g]?
  | [], _, _ => rfl
  | d :: ds, o, W => by rw [World.setCells, hp_sets hg ds]; exact Below.heap_setCell _ _ _ _ hg
theorem Ro.keepG {α : Type} {f : α → List Value} {k : Nat} {T : TypeId} {W W' : World} {B : Nat} {v : Value} {l : List α} (h : Ro f k T W B v l) (hk : ∀ g, B ≤ g → W'.heap[g]? = W.heap[g]?) : Ro f k T W' B v l := by
  refine ⟨h.1, ?_⟩
  rcases h.2 with h2 | ⟨g, cap, cur, a1, a2, a3, a4⟩
  · exact .inl h2
  · exact .inr ⟨g, cap, cur, a1, a2, by rw [hk g a2]; exact a3, a4⟩
theorem below_sets {B n : Nat} {w : World} (hn : B ≤ n) : ∀ (ds : List Value) (o : Nat) (W : World), Below B w W → Below B w (W.setCells n o ds)
  | [], _, _, h => h
  | d :: ds, o, W, h => by rw [World.setCells]; exact below_sets hn ds (o + 1) _ (h.setCell (p := ⟨n, o, none⟩) hn d)
theorem Bx.set {W : World} {n : Nat} {cs : List Value} (h : Bx W n cs) (ds : List Value) (hl : ds.length = cs.length) : Bx (W.setCells n 0 ds) n ds :=
  ⟨by rw [sz_sets]; exact h.l, World.rangeAt_setCells_same W n 0 ds (h.there hl), fun j hj => by rw [fr_sets]; exact h.f j (by omega)⟩
theorem Bx.apart {W : World} {n m : Nat} {cs : List Value} (h : Bx W n cs) (hm : ¬ n = m) (ds : List Value) (o : Nat) : Bx (W.setCells m o ds) n cs :=
  ⟨by rw [sz_sets]; exact h.l, fun j v hv => by rw [World.cell?_setCells_out _ _ _ _ _ (fun e _ => absurd e hm)]; exact h.c j v hv, fun j hj => by rw [fr_sets]; exact h.f j hj⟩
theorem Bx.drewN {W : World} {n : Nat} {cs : List Value} (h : Bx W n cs) (k : Nat) : Bx (W.drewN k) n cs := ⟨h.l, h.c, h.f⟩
theorem Bx.alloc {W : World} {n : Nat} {cs : List Value} (h : Bx W n cs) (o : Obj) : Bx (W.alloc o) n cs := h.below ((Below.refl _ _).alloc (Nat.le_refl _) _)
theorem Bx.c1 {W : World} {n : Nat} {a : Value} (h : Bx W n [a]) : W.cell? ⟨n, 0, none⟩ = some a := h.at 0 _ rfl
theorem Bx.c3 {W : World} {n : Nat} {a b c : Value} (h : Bx W n [a, b, c]) : W.cell? ⟨n, 0, none⟩ = some a ∧ W.cell? ⟨n, 1, none⟩ = some b ∧ W.cell? ⟨n, 2, none⟩ = some c := ⟨h.at 0 _ rfl, h.at 1 _ rfl, h.at 2 _ rfl⟩
theorem Bx.c5 {W : World} {n : Nat} {a b c d e : Value} (h : Bx W n [a, b, c, d, e]) : W.cell? ⟨n, 0, none⟩ = some a ∧ W.cell? ⟨n, 1, none⟩ = some b ∧ W.cell? ⟨n, 2, none⟩ = some c ∧ W.cell? ⟨n, 3, none⟩ = some d ∧ W.cell? ⟨n, 4, none⟩ = some e := ⟨h.at 0 _ rfl, h.at 1 _ rfl, h.at 2 _ rfl, h.at 3 _ rfl, h.at 4 _ rfl⟩
theorem Bx.c6 {W : World} {n : Nat} {a b c d e f : Value} (h : Bx W n [a, b, c, d, e, f]) : W.cell? ⟨n, 0, none⟩ = some a ∧ W.cell? ⟨n, 1, none⟩ = some b ∧ W.cell? ⟨n, 2, none⟩ = some c ∧ W.cell? ⟨n, 3, none⟩ = some d ∧ W.cell? ⟨n, 4, none⟩ = some e ∧ W.cell? ⟨n, 5, none⟩ = some f := ⟨h.at 0 _ rfl, h.at 1 _ rfl, h.at 2 _ rfl, h.at 3 _ rfl, h.at 4 _ rfl, h.at 5 _ rfl⟩
/-- An image's five values. -/
def iml (m : Im) (p : Ip) : List Value := [.slice p.ab m.br.length p.cb, .slice p.aq p.ts.length p.cq, .slice p.ac m.cf.length p.cc, .slice p.ad m.dn.length p.cd, .int .i64 m.la]
theorem imv_l (m : Im) (p : Ip) : imv m p = .agg (iml m p).toArray := rfl
theorem Bx.im {W : World} {n : Nat} {m : Im} {p : Ip} (h : Bx W n (iml m p)) : W.cell? ⟨n, 0, none⟩ = some (.slice p.ab m.br.length p.cb) ∧ W.cell? ⟨n, 1, none⟩ = some (.slice p.aq p.ts.length p.cq) ∧ W.cell? ⟨n, 2, none⟩ = some (.slice p.ac m.cf.length p.cc) ∧ W.cell? ⟨n, 3, none⟩ = some (.slice p.ad m.dn.length p.cd) ∧ W.cell? ⟨n, 4, none⟩ = some (.int .i64 m.la) := Bx.c5 h
theorem Bx.mk1 (w : World) (cs : List Value) (t : TypeId) {W : World} (hb : Below (w.alloc (.cells cs.toArray t)).heap.size (w.alloc (.cells cs.toArray t)) W) : Bx W w.heap.size cs := (Bx.new w cs t).below hb
/-- Two boxes, one behind the other, and what came behind them. -/
theorem Bx.mk2 (w : World) (cs ds : List Value) (t u : TypeId) {W : World} (hb : Below ((w.alloc (.cells cs.toArray t)).alloc (.cells ds.toArray u)).heap.size ((w.alloc (.cells cs.toArray t)).alloc (.cells ds.toArray u)) W) : Bx W w.heap.size cs ∧ Bx W (w.heap.size + 1) ds ∧ Below w.heap.size w W :=
  ⟨((Bx.new w cs t).alloc _).below hb, by have := (Bx.new (w.alloc (.cells cs.toArray t)) ds u).below hb; simpa using this, bt (((Below.refl _ _).alloc (Nat.le_refl _) _).alloc (by simp) _) hb⟩
theorem Bx.mk3 (w : World) (cs ds es : List Value) (t u x : TypeId) {W : World} (hb : Below (((w.alloc (.cells cs.toArray t)).alloc (.cells ds.toArray u)).alloc (.cells es.toArray x)).heap.size (((w.alloc (.cells cs.toArray t)).alloc (.cells ds.toArray u)).alloc (.cells es.toArray x)) W) : Bx W w.heap.size cs ∧ Bx W (w.heap.size + 1) ds ∧ Bx W (w.heap.size + 1 + 1) es ∧ Below w.heap.size w W :=
  ⟨(((Bx.new w cs t).alloc _).alloc _).below hb, by have := ((Bx.new (w.alloc (.cells cs.toArray t)) ds u).alloc _).below hb; simpa using this, by have := (Bx.new ((w.alloc (.cells cs.toArray t)).alloc (.cells ds.toArray u)) es x).below hb; simpa using this, bt ((((Below.refl _ _).alloc (Nat.le_refl _) _).alloc (by simp) _).alloc (by simp; omega) _) hb⟩
theorem below_al2 (w : World) (a b : Obj) : Below w.heap.size w ((w.alloc a).alloc b) := ((Below.refl _ _).alloc (Nat.le_refl _) _).alloc (by simp) _
theorem below_al3 (w : World) (a b c : Obj) : Below w.heap.size w (((w.alloc a).alloc b).alloc c) := (below_al2 w a b).alloc (by simp; omega) _
theorem below_al1 (w : World) (a : Obj) : Below w.heap.size w (w.alloc a) := (Below.refl _ _).alloc (Nat.le_refl _) _
theorem al3_mid (w : World) (a c : Obj) (v : Value) (t : TypeId) : (((w.alloc a).alloc (.cells #[v] t)).alloc c).cell? ⟨w.heap.size + 1, 0, none⟩ = some v := by
  have := ((Bx.new (w.alloc a) [v] t).alloc c).c1
  simpa using this
theorem al3_end (w : World) (a b : Obj) (v : Value) (t : TypeId) : (((w.alloc a).alloc b).alloc (.cells #[v] t)).cell? ⟨w.heap.size + 1 + 1, 0, none⟩ = some v := by
  have := (Bx.new ((w.alloc a).alloc b) [v] t).c1
  simpa using this
/-- A result that lies in cells. -/
theorem Bx.res {P : Program} {W : World} {n : Nat} {cs : List Value} (h : Bx W n cs) (ty : TypeId) (d : TypeDesc) (hu : P.underlying ty = some d) (hd : d.isRow = true) (hi : (P.info? ty).map (·.size) = some cs.length) : (loadVar ty ⟨n, 0, none⟩).run P W = .ok (.agg cs.toArray) W := run_loadVar_mid W n 0 ty cs d h.c hu hd hi
theorem wpList_set {P : Program} {ops : Array Oper} {rest : List Oper} {op : Oper} {a : Act} {w : World} {Q : Exit → Act → World → Prop} (hgd : op.guard = none) (ty : TypeId) (x y : Operand) (ho : op.op = .store ty x y)
    (n : Nat) (cs : List Value) (hx : a.eval x = .pointer (some ⟨n, 0, none⟩)) (hb : Bx w n cs) (ds : List Value) (hy : a.eval y = .agg ds.toArray) (hl : ds.length = cs.length) (hi : (P.info? ty).map (·.size) = some cs.length) (h1 : ds.all (·.oneCell') = true)
    (h : ∀ W, Bx W n ds → (∀ m xs, ¬ m = n → Bx w m xs → Bx W m xs) → (∀ B u, B ≤ n → Below B u w → Below B u W) → (∀ g, ¬ g = n → W.heap[g]? = w.heap[g]?) → wpList P ops Q rest (a.put op.dst undef) W) : wpList P ops Q (op :: rest) a w :=
  wpList_store_mid hgd ty x y ho n 0 ds.toArray hx hy (by simpa using hb.there hl) (by rw [hi]; simp [hl]) (all_oneCell_toArray (List.all_eq_true.1 h1)) (by
    rw [List.toList_toArray]
    exact h _ (hb.set ds hl) (fun m xs e q => q.apart e ds 0) (fun B u e q => below_sets e ds 0 _ q) (fun g hg => hp_sets hg ds 0 w))
end Go.Proofs.YtfnemlbkmhcodaaGreat
namespace Go.Proofs.YtfnemlbkmhcodaaGreat
open Go.RowKit

/-- An error of code c, however wrapped, or none. -/
def Erc (c : Int) (E : Value) : Prop := (c = 0 ∧ E = .nilIface) ∨ (c ≠ 0 ∧ ∃ l, E = chn l (bse c))
theorem erc_code {c : Int} (h : c ≠ 0) : Erc c (.iface 71 (.int .i64 c)) := .inr ⟨h, [], rfl⟩
theorem erc_nil : Erc 0 .nilIface := .inl ⟨rfl, rfl⟩
/-- Two worlds that agree but for the blocks from n0 up to n1. -/
def Agr (n0 : Nat → Prop) (n1 : Nat) (A W : World) : Prop := ∀ g, n0 g ∨ n1 ≤ g → W.heap[g]? = A.heap[g]?
/-- What a step answers: an image, whose rows lie below n0 or are new, and an error, or none. -/
def StP (n0 : Nat → Prop) (w w' : World) (m : Im) (c : Int) (e : Ending) : Prop := ∃ p E, e = .returned (.tuple #[imv m p, E]) ∧ (∀ W, Agr n0 w.heap.size w' W → ImR W m p) ∧ Erc c E ∧ Below w.heap.size w w'
def imz : List Value := [.slice none 0 0, .slice none 0 0, .slice none 0 0, .slice none 0 0, .int .i64 0]
/-- The image, the record, the answer, each in its box. -/
structure Fr (w : World) (m : Im) (p : Ip) (cs zs : List Value) (W : World) : Prop where
  i : Bx W w.heap.size (iml m p)
  r : Bx W (w.heap.size + 1) cs
  z : Bx W (w.heap.size + 1 + 1) zs
  b : Below w.heap.size w W
theorem Fr.mk0 (w : World) (m : Im) (p : Ip) (cs : List Value) (t u x : TypeId) {W : World} (hb : Below (((w.alloc (.cells (iml m p).toArray t)).alloc (.cells cs.toArray u)).alloc (.cells imz.toArray x)).heap.size (((w.alloc (.cells (iml m p).toArray t)).alloc (.cells cs.toArray u)).alloc (.cells imz.toArray x)) W) : Fr w m p cs imz W := by
  obtain ⟨h1, h2, h3, h4⟩ := Bx.mk3 w (iml m p) cs imz t u x hb
  exact ⟨h1, h2, h3, h4⟩
theorem Fr.below {w W W' : World} {m : Im} {p : Ip} {cs zs : List Value} (h : Fr w m p cs zs W) (hb : Below W.heap.size W W') : Fr w m p cs zs W' := ⟨h.i.below hb, h.r.below hb, h.z.below hb, bt h.b hb⟩
theorem Fr.drewN {w W : World} {m : Im} {p : Ip} {cs zs : List Value} (h : Fr w m p cs zs W) (n : Nat) : Fr w m p cs zs (W.drewN n) := ⟨h.i.drewN n, h.r.drewN n, h.z.drewN n, ⟨h.b.os, h.b.tape, h.b.output, h.b.size, h.b.block⟩⟩
theorem Bx.setCell {W : World} {n : Nat} {cs : List Value} (h : Bx W n cs) (j : Nat) (hj : j < cs.length) (v : Value) : Bx (W.setCell ⟨n, j, none⟩ v) n (cs.set j v) :=
  ⟨by simpa using h.l, fun q u hu => by
    rw [Nat.zero_add]
    by_cases e : q = j
    · subst e
      rw [List.getElem?_set_self hj] at hu
      cases hu
      exact World.cell?_setCell_same _ _ _ (u := cs[q]) (h.at q _ (List.getElem?_eq_getElem hj))
    · rw [List.getElem?_set_ne (fun q' => e q'.symm)] at hu
      rw [World.cell?_setCell_other _ _ _ _ (fun q' => e (congrArg Addr.off q').symm)]
      exact h.at q u hu, fun q hq => by
    rw [List.length_set] at hq
    simpa using h.f q hq⟩
theorem Bx.setOther {W : World} {n m : Nat} {cs : List Value} (h : Bx W n cs) (hm : ¬ n = m) (j : Nat) (v : Value) : Bx (W.setCell ⟨m, j, none⟩ v) n cs :=
  ⟨by simpa using h.l, fun q u hu => by
    rw [World.cell?_setCell_other _ _ _ _ (fun q' => hm (congrArg Addr.block q').symm)]
    exact h.c q u hu, fun q hq => by simpa using h.f q hq⟩
/-- A value is put into one of the image's cells. -/
theorem Fr.set {w W : World} {m : Im} {p : Ip} {cs zs : List Value} (h : Fr w m p cs zs W) (j : Nat) (v : Value) (m' : Im) (p' : Ip) (hj : j < 5) (he : (iml m p).set j v = iml m' p') : Fr w m' p' cs zs (W.setCell ⟨w.heap.size, j, none⟩ v) :=
  ⟨he ▸ h.i.setCell j hj v, h.r.setOther (by omega) j v, h.z.setOther (by omega) j v, h.b.setCell (p := ⟨w.heap.size, j, none⟩) (Nat.le_refl _) v⟩
theorem Fr.f {w W : World} {m : Im} {p : Ip} {cs zs : List Value} (h : Fr w m p cs zs W) (j : Nat) (hj : j < 5) : W.frozen? ⟨w.heap.size, j, none⟩ = false := h.i.f j hj
theorem Fr.sz {w W : World} {m : Im} {p : Ip} {cs zs : List Value} (h : Fr w m p cs zs W) : w.heap.size + 1 + 1 + 1 ≤ W.heap.size := h.z.l
theorem Bx.imx {W : World} {n : Nat} {m : Im} {ab aq ac ad : Option Addr} {cb cq cc cd : Nat} {ts : List Tq} (h : Bx W n (iml m ⟨ab, aq, ac, ad, cb, cq, cc, cd, ts⟩)) : W.cell? ⟨n, 0, none⟩ = some (.slice ab m.br.length cb) ∧ W.cell? ⟨n, 1, none⟩ = some (.slice aq ts.length cq) ∧ W.cell? ⟨n, 2, none⟩ = some (.slice ac m.cf.length cc) ∧ W.cell? ⟨n, 3, none⟩ = some (.slice ad m.dn.length cd) ∧ W.cell? ⟨n, 4, none⟩ = some (.int .i64 m.la) := Bx.c5 h
/-- What is answered: an image that is there. -/
theorem st_ret {n0 : Nat → Prop} {w W : World} {m : Im} {p : Ip} {cs : List Value} {c : Int} {E : Value} (h : Fr w m p cs (iml m p) W) (hv : ∀ W', Agr n0 w.heap.size W W' → ImR W' m p) (hE : Erc c E) : StP n0 w W m c (.returned (.tuple #[.agg (iml m p).toArray, E])) := ⟨_, _, rfl, hv, hE, h.b⟩
theorem Fr.out {w W W' : World} {m : Im} {p : Ip} {cs zs : List Value} (h : Fr w m p cs zs W) (hz : Bx W' (w.heap.size + 1 + 1) (iml m p)) (hk : ∀ q xs, ¬ q = w.heap.size + 1 + 1 → Bx W q xs → Bx W' q xs) (hb : ∀ B u, B ≤ w.heap.size + 1 + 1 → Below B u W → Below B u W') : Fr w m p cs (iml m p) W' := ⟨hk _ _ (by omega) h.i, hk _ _ (by omega) h.r, hz, hb _ _ (by omega) h.b⟩
theorem putB_ins {l : List Bk} {b : Bk} {id : Int} (h : b.id = id) : putB l b = insO (fun x : Bk => cmpN x.id id) b l := by
  subst h
  unfold putB insO
  congr 2
  · funext x; exact decide_eq_decide.2 cmpN_lt.symm
  · congr 1
    funext x; exact decide_eq_decide.2 cmpN_gt.symm
theorem remB_rem {l : List Bk} {id : Int} : remB l id = remO (fun x : Bk => cmpN x.id id) l := by
  unfold remB remO
  congr 1
  funext x
  by_cases h : x.id = id
  · rw [decide_eq_true (cmpN_zero.2 h)]; simp [idB, h]
  · rw [decide_eq_false (fun q => h (cmpN_zero.1 q))]; simp [idB, h]
end Go.Proofs.YtfnemlbkmhcodaaGreat
namespace Go.Proofs.YtfnemlbkmhcodaaGreat
open Go.RowKit

theorem nanI_any (a : Int) (w : World) : Calls Tryz.prog 120 #[.int .i64 a] w fun e w' => e = .returned (.bool false) ∧ w' = w := by
  have h1 : (a != a) = false := by simp
  go_enter Tryz.func120, Tryz.ntmps120
  go_wp2
  go_ret
  exact ⟨rfl, rfl⟩
theorem nanS_any (a : List UInt8) (w : World) : Calls Tryz.prog 121 #[.string ⟨a.toArray⟩] w fun e w' => e = .returned (.bool false) ∧ w' = w := by
  have h1 : ((⟨a.toArray⟩ : ByteArray).toList == (⟨a.toArray⟩ : ByteArray).toList) = true := by simp
  go_enter Tryz.func121, Tryz.ntmps121
  go_wp2
  go_ret
  exact ⟨rfl, rfl⟩
set_option maxRecDepth 100000 in
set_option maxHeartbeats 2000000 in
theorem cmpI_any (a b : Int) (w : World) : Calls Tryz.prog 85 #[.int .i64 a, .int .i64 b] w fun e w' => e = .returned (.int .i64 (cmpN a b)) ∧ w' = w := by
  unfold cmpN
  by_cases h1 : a < b
  · rw [if_pos h1]
    go_enter Tryz.func85, Tryz.ntmps85
    go_wp2_with (go_at_call 120; refine (nanI_any _ _).mono ?_; rintro e w' ⟨rfl, rfl⟩)
    go_ret
    exact ⟨rfl, rfl⟩
  · rw [if_neg h1]
    by_cases h2 : b < a
    · rw [if_pos h2]
      go_enter Tryz.func85, Tryz.ntmps85
      go_wp2_with (go_at_call 120; refine (nanI_any _ _).mono ?_; rintro e w' ⟨rfl, rfl⟩)
      go_ret
      exact ⟨rfl, rfl⟩
    · rw [if_neg h2]
      go_enter Tryz.func85, Tryz.ntmps85
      go_wp2_with (go_at_call 120; refine (nanI_any _ _).mono ?_; rintro e w' ⟨rfl, rfl⟩)
      go_ret
      exact ⟨rfl, rfl⟩
/-- A load of many cells whose guard says yes. -/
theorem wpl_want {P : Program} {ops : Array Oper} {rest : List Oper} {op : Oper} {a : Act} {w : World} {Q : Exit → Act → World → Prop} (hw : Region.wanted op (yielded ops a.tmps) = true) (ty : TypeId) (x : Operand) (ho : op.op = .load ty x)
    (b o : Nat) (hx : a.eval x = .pointer (some ⟨b, o, none⟩)) (cs : List Value) (d : TypeDesc) (hc : w.rangeAt b o cs) (hu : P.underlying ty = some d) (hd : d.isRow = true) (hi : (P.info? ty).map (·.size) = some cs.length)
    (h : wpList P ops Q rest (a.put op.dst (.agg cs.toArray)) w) : wpList P ops Q (op :: rest) a w :=
  BigFrame.wpList_want hw fun _ hK => wp_load_mid ty x ho b o hx cs d hc hu hd hi (hK _ _ h)
/-- What a search answers: a place, and whether it is there. -/
def BsP {α : Type} (c : α → Int) (l : List α) (w w' : World) (e : Ending) : Prop := ∃ i : Nat, Pla c l i ∧ e = .returned (.tuple #[.int .i64 (i : Int), .bool (decide (∃ h : i < l.length, c l[i] = 0))]) ∧ Below w.heap.size w w'
theorem BsP.mk {α : Type} {c : α → Int} {l : List α} {w w' : World} {e : Ending} (i : Nat) (h : Pla c l i) (he : e = .returned (.tuple #[.int .i64 (i : Int), .bool (decide (∃ h : i < l.length, c l[i] = 0))])) (hb : Below w.heap.size w w') : BsP c l w w' e := ⟨i, h, he, hb⟩
theorem pla_nil {α : Type} (c : α → Int) : Pla c [] 0 := ⟨Nat.le_refl _, fun x hx => by simp at hx, fun x hx => by simp at hx⟩
theorem BsP.none {α : Type} {c : α → Int} {w w' : World} {e : Ending} (he : e = .returned (.tuple #[.int .i64 0, .bool false])) (hb : Below w.heap.size w w') : BsP c [] w w' e :=
  .mk 0 (pla_nil c) (he.trans (by rw [decide_eq_false (fun q => absurd q.1 (Nat.lt_irrefl 0))]; rfl)) hb

theorem run_gtrT (a b : List UInt8) (t : TypeId) (W : World) : (binOp .gtr t (.string ⟨a.toArray⟩) (.string ⟨b.toArray⟩)).run Tryz.prog W = .ok (.bool (decide (0 < cmpT a b))) W := by
  have h : (!(Op.bytesLess a b || a == b)) = decide (0 < cmpT a b) := by
    rw [less_cmpT]
    have hz := @cmpT_zero a b
    by_cases e : a = b
    · rw [hz.2 e]; simp [e]
    · have e0 : ¬ cmpT a b = 0 := fun q => e (hz.1 q)
      have e2 : (a == b) = false := by simpa using e
      rw [e2, Bool.or_false]
      by_cases e1 : cmpT a b < 0
      · rw [decide_eq_true e1, decide_eq_false (by omega)]; rfl
      · rw [decide_eq_false e1, decide_eq_true (by omega)]; rfl
  rw [← h]
  simp [binOp, go_sem, Op.stringOp]
set_option maxRecDepth 100000 in
set_option maxHeartbeats 2000000 in
theorem cmpS_any (a b : List UInt8) (w : World) : Calls Tryz.prog 86 #[.string ⟨a.toArray⟩, .string ⟨b.toArray⟩] w fun e w' => e = .returned (.int .i64 (cmpT a b)) ∧ w' = w := by
  have hr := cmpT_range a b
  have HL := hide (less_cmpT a b)
  obtain ⟨c, hc⟩ : ∃ c, c = cmpT a b := ⟨_, rfl⟩
  have HG : Hid (cmpT a b = c) := hide hc.symm
  have HE : Hid (cmpT a b = -1 ∨ cmpT a b = 0 ∨ cmpT a b = 1) := hide (by omega)
  clear hr
  rw [← hc] at HL HE ⊢
  clear hc
  rcases HE.out with rfl | rfl | rfl
  · have h1 : Op.bytesLess a b = true := HL.out
    go_enter Tryz.func86, Tryz.ntmps86
    go_wp2_with (go_at_call 121; refine (nanS_any _ _).mono ?_; rintro e w' ⟨rfl, rfl⟩)
    go_ret
    exact ⟨rfl, rfl⟩
  · have h1 : Op.bytesLess a b = false := HL.out
    have h4 : ∀ W, (binOp .gtr 9 (.string ⟨a.toArray⟩) (.string ⟨b.toArray⟩)).run Tryz.prog W = .ok (.bool false) W := fun W => by rw [run_gtrT, HG.out]; rfl
    go_enter Tryz.func86, Tryz.ntmps86
    go_wp2_with (go_at_call 121; refine (nanS_any _ _).mono ?_; rintro e w' ⟨rfl, rfl⟩)
    go_ret
    exact ⟨rfl, rfl⟩
  · have h1 : Op.bytesLess a b = false := HL.out
    have h4 : ∀ W, (binOp .gtr 9 (.string ⟨a.toArray⟩) (.string ⟨b.toArray⟩)).run Tryz.prog W = .ok (.bool true) W := fun W => by rw [run_gtrT, HG.out]; rfl
    go_enter Tryz.func86, Tryz.ntmps86
    go_wp2_with (go_at_call 121; refine (nanS_any _ _).mono ?_; rintro e w' ⟨rfl, rfl⟩)
    go_ret
    exact ⟨rfl, rfl⟩
end Go.Proofs.YtfnemlbkmhcodaaGreat
