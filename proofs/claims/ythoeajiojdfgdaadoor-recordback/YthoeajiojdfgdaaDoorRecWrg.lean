/-
  WHAT IS WRONG WITH A RECORD FIRST (castellanref05.Check): as one function of its fields. Conditions: its rows' cells hold them, texts of no more than a thousand letters.
-/
import Derived.Test.YthoeajiojdfgdaaDoorRecChk
import Derived.Deep.MidRow
import Derived.Deep.DeepCutAuto
namespace Go.Proofs.YthoeajiojdfgdaaDoor
open Go.RowKit

/-- A record in its cells, and what is wrong, none yet. -/
structure Rx (W : World) (p q : Nat) (k br ep tp pa le cl se co : Int) (fl : Bool) (nm ky va rk : List UInt8) (a14 a15 a16 a17 : Option Addr) (n14 n15 n16 n17 c14 c15 c16 c17 : Nat) : Prop where
  c0 : W.cell? ⟨p, 0, none⟩ = some (.int .i64 k)
  c1 : W.cell? ⟨p, 1, none⟩ = some (.int .i64 br)
  c2 : W.cell? ⟨p, 2, none⟩ = some (.int .i64 ep)
  c3 : W.cell? ⟨p, 3, none⟩ = some (.int .i64 tp)
  c4 : W.cell? ⟨p, 4, none⟩ = some (.int .i64 pa)
  c5 : W.cell? ⟨p, 5, none⟩ = some (.int .i64 le)
  c6 : W.cell? ⟨p, 6, none⟩ = some (.int .i64 cl)
  c7 : W.cell? ⟨p, 7, none⟩ = some (.int .i64 se)
  c8 : W.cell? ⟨p, 8, none⟩ = some (.int .i64 co)
  c9 : W.cell? ⟨p, 9, none⟩ = some (.bool fl)
  c10 : W.cell? ⟨p, 10, none⟩ = some (.string ⟨nm.toArray⟩)
  c11 : W.cell? ⟨p, 11, none⟩ = some (.string ⟨ky.toArray⟩)
  c12 : W.cell? ⟨p, 12, none⟩ = some (.string ⟨va.toArray⟩)
  c13 : W.cell? ⟨p, 13, none⟩ = some (.string ⟨rk.toArray⟩)
  c14 : W.cell? ⟨p, 14, none⟩ = some (.slice a14 n14 c14)
  c15 : W.cell? ⟨p, 15, none⟩ = some (.slice a15 n15 c15)
  c16 : W.cell? ⟨p, 16, none⟩ = some (.slice a16 n16 c16)
  c17 : W.cell? ⟨p, 17, none⟩ = some (.slice a17 n17 c17)
  fr : Fr3 W q (.string ⟨#[]⟩) (.int .i64 0) (.int .i64 0)
section
variable {W W' : World} {p q : Nat} {k br ep tp pa le cl se co : Int} {fl : Bool} {nm ky va rk : List UInt8} {a14 a15 a16 a17 : Option Addr} {n14 n15 n16 n17 c14 c15 c16 c17 : Nat}
theorem Rx.drewN (h : Rx W p q k br ep tp pa le cl se co fl nm ky va rk a14 a15 a16 a17 n14 n15 n16 n17 c14 c15 c16 c17) (n : Nat) : Rx (W.drewN n) p q k br ep tp pa le cl se co fl nm ky va rk a14 a15 a16 a17 n14 n15 n16 n17 c14 c15 c16 c17 :=
  ⟨h.c0, h.c1, h.c2, h.c3, h.c4, h.c5, h.c6, h.c7, h.c8, h.c9, h.c10, h.c11, h.c12, h.c13, h.c14, h.c15, h.c16, h.c17, ⟨h.fr.c0, h.fr.c1, h.fr.c2, h.fr.f0, h.fr.f1, h.fr.f2⟩⟩
theorem Rx.below (h : Rx W p q k br ep tp pa le cl se co fl nm ky va rk a14 a15 a16 a17 n14 n15 n16 n17 c14 c15 c16 c17) (hb : Below W.heap.size W W') : Rx W' p q k br ep tp pa le cl se co fl nm ky va rk a14 a15 a16 a17 n14 n15 n16 n17 c14 c15 c16 c17 :=
  have hl : p < W.heap.size := cell_block h.c0
  ⟨(hb.cell (p := ⟨p, 0, none⟩) hl).trans h.c0, (hb.cell (p := ⟨p, 1, none⟩) hl).trans h.c1, (hb.cell (p := ⟨p, 2, none⟩) hl).trans h.c2, (hb.cell (p := ⟨p, 3, none⟩) hl).trans h.c3, (hb.cell (p := ⟨p, 4, none⟩) hl).trans h.c4, (hb.cell (p := ⟨p, 5, none⟩) hl).trans h.c5, (hb.cell (p := ⟨p, 6, none⟩) hl).trans h.c6, (hb.cell (p := ⟨p, 7, none⟩) hl).trans h.c7, (hb.cell (p := ⟨p, 8, none⟩) hl).trans h.c8, (hb.cell (p := ⟨p, 9, none⟩) hl).trans h.c9, (hb.cell (p := ⟨p, 10, none⟩) hl).trans h.c10, (hb.cell (p := ⟨p, 11, none⟩) hl).trans h.c11, (hb.cell (p := ⟨p, 12, none⟩) hl).trans h.c12, (hb.cell (p := ⟨p, 13, none⟩) hl).trans h.c13, (hb.cell (p := ⟨p, 14, none⟩) hl).trans h.c14, (hb.cell (p := ⟨p, 15, none⟩) hl).trans h.c15, (hb.cell (p := ⟨p, 16, none⟩) hl).trans h.c16, (hb.cell (p := ⟨p, 17, none⟩) hl).trans h.c17, h.fr.below hb⟩
theorem Rx.range (h : Rx W p q k br ep tp pa le cl se co fl nm ky va rk a14 a15 a16 a17 n14 n15 n16 n17 c14 c15 c16 c17) : W.rangeAt p 0 [.int .i64 k, .int .i64 br, .int .i64 ep, .int .i64 tp, .int .i64 pa, .int .i64 le, .int .i64 cl, .int .i64 se, .int .i64 co, .bool fl, .string ⟨nm.toArray⟩, .string ⟨ky.toArray⟩, .string ⟨va.toArray⟩, .string ⟨rk.toArray⟩, .slice a14 n14 c14, .slice a15 n15 c15, .slice a16 n16 c16, .slice a17 n17 c17] := fun j v hv => by
  match j, hv with
  | 0, hv => cases hv; exact h.c0
  | 1, hv => cases hv; exact h.c1
  | 2, hv => cases hv; exact h.c2
  | 3, hv => cases hv; exact h.c3
  | 4, hv => cases hv; exact h.c4
  | 5, hv => cases hv; exact h.c5
  | 6, hv => cases hv; exact h.c6
  | 7, hv => cases hv; exact h.c7
  | 8, hv => cases hv; exact h.c8
  | 9, hv => cases hv; exact h.c9
  | 10, hv => cases hv; exact h.c10
  | 11, hv => cases hv; exact h.c11
  | 12, hv => cases hv; exact h.c12
  | 13, hv => cases hv; exact h.c13
  | 14, hv => cases hv; exact h.c14
  | 15, hv => cases hv; exact h.c15
  | 16, hv => cases hv; exact h.c16
  | 17, hv => cases hv; exact h.c17
  | _ + 18, hv => cases hv
theorem Rx.load {P : Program} (h : Rx W p q k br ep tp pa le cl se co fl nm ky va rk a14 a15 a16 a17 n14 n15 n16 n17 c14 c15 c16 c17) (ty : TypeId) (d : TypeDesc) (hu : P.underlying ty = some d) (hd : d.isRow = true) (hi : (P.info? ty).map (·.size) = some 18) : (Instr.loadAt ty (.pointer (some ⟨p, 0, none⟩))).run P W = .ok (.agg #[.int .i64 k, .int .i64 br, .int .i64 ep, .int .i64 tp, .int .i64 pa, .int .i64 le, .int .i64 cl, .int .i64 se, .int .i64 co, .bool fl, .string ⟨nm.toArray⟩, .string ⟨ky.toArray⟩, .string ⟨va.toArray⟩, .string ⟨rk.toArray⟩, .slice a14 n14 c14, .slice a15 n15 c15, .slice a16 n16 c16, .slice a17 n17 c17]) W :=
  run_loadAt_mid W p 0 ty _ d h.range hu hd hi
end
/-- What is wrong with a record. -/
def checkR (k br ep tp pa le cl se co : Int) (fl : Bool) (nm ky va rk : List UInt8) (ids isr ad dr : List Int) : ByteArray × Int × Int :=
  if k < 1 ∨ 12 < k then (⟨#[107, 105, 110, 100]⟩, k, 5)
  else if (numsR k br ep tp pa le cl se co).2.2 ≠ 0 then numsR k br ep tp pa le cl se co
  else if fl = true ∧ hasL k 102 = false then (⟨#[102, 108, 97, 103]⟩, 1, 1)
  else if nameA nm (hasL k 110) = false ∨ nameA ky (hasL k 107) = false ∨ nameA rk (hasL k 114) = false then (⟨#[110, 97, 109, 101]⟩, nm.length, 1)
  else if 256 < va.length ∨ (va.isEmpty = false ∧ (fl = true ∨ hasL k 118 = false)) then (⟨#[118, 97, 108, 117, 101]⟩, va.length, 6)
  else if rowB ids (hasL k 105) = false ∨ rowB isr (hasL k 109) = false ∨ rowB ad (hasL k 120) = false ∨ rowB dr (hasL k 120) = false then (⟨#[114, 111, 119]⟩, ids.length, 18)
  else (⟨#[]⟩, 0, 0)
end Go.Proofs.YthoeajiojdfgdaaDoor
