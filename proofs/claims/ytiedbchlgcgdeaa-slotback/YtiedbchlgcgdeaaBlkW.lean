/-
  A BLOCK IS WRITTEN (block.Write): what is wrong, or a write more. Conditions: fewer than a hundred thousand blocks and writes.
-/
import Derived.Test.YtiedbchlgcgdeaaBlkB
import Derived.Laws.CopyOwn
import Derived.Laws.IdiomCopy
namespace Go.Proofs.Ytiedbchlgcgdeaa
open Go.RowKit Go.Maps

/-- Bytes, and noughts behind. -/
def padL (b : List Int) : List Int := b ++ zer.drop b.length
theorem padL_len {b : List Int} (h : b.length ≤ 64) : (padL b).length = 64 := by simp [padL, zer_len]; omega
theorem padL_blk {b : List Int} (h : b.length ≤ 64) (hb : Byt b) : Blk (padL b) := ⟨padL_len h, fun x hx => by
  rcases List.mem_append.1 hx with e | e
  · exact hb x e
  · have := List.mem_of_mem_drop e; exact blk_zer.2 x this⟩
theorem infoU : (Try.prog.info? 5).map (·.size) = some 1 := by kernel_rfl
theorem setRow_new (V : World) (c c' : Array Value) (t : TypeId) : (V.alloc (.cells c t)).setRow V.heap.size c' = V.alloc (.cells c' t) := by
  have e : ((V.heap.push (.cells c t)).modify V.heap.size fun
      | .cells _ elem frozen => .cells c' elem frozen
      | o => o) = V.heap.push (.cells c' t) := by
    apply Array.ext_getElem?
    intro i
    rw [Array.getElem?_modify]
    by_cases h : V.heap.size = i
    · rw [if_pos h, ← h, Array.getElem?_push_size, Array.getElem?_push_size]; rfl
    · rw [if_neg h, Array.getElem?_push, Array.getElem?_push, if_neg (fun e => h e.symm), if_neg (fun e => h e.symm)]
  show ({ V with heap := _ } : World) = { V with heap := _ }
  rw [← e]
  rfl
theorem pad_cells (a : Int) (z b : List Int) : (wcl ⟨a, false, z⟩).take 2 ++ bv b ++ (wcl ⟨a, false, z⟩).drop (2 + b.length) = wcl ⟨a, false, b ++ z.drop b.length⟩ := by
  rw [Nat.add_comm]
  simp [wcl, bv, List.map_drop]
theorem copyW (V : World) (a : Int) (v : Value) (b : List Int) (ty : TypeId) (hv : Sl bc V v b) (hb : b.length ≤ 64) :
    (Builtin.copy_ #[23, 23] ty #[.slice (some ⟨V.heap.size, 2, none⟩) 64 64, v]).run Try.prog (V.alloc (.cells (wcl ⟨a, false, zer⟩).toArray 70)) = .ok (.int .i64 b.length) (V.alloc (.cells (wcl ⟨a, false, padL b⟩).toArray 70)) := by
  by_cases h0 : 0 < b.length
  · rcases hv with ⟨_, _, rfl, _⟩ | ⟨g, o, cap, rfl, h2, h3⟩
    · simp at h0
    · have hmin : Nat.min b.length 64 = b.length := Nat.min_eq_left hb
      have := run_copy_row (P := Try.prog) (V.alloc (.cells (wcl ⟨a, false, zer⟩).toArray 70)) 23 23 ty 5 V.heap.size 2 64 64 ⟨g, o, none⟩ b.length cap (wcl ⟨a, false, zer⟩).toArray 70 (bv b) Try.underlying23 infoU Array.getElem?_push_size
        (by rw [bv_len, hmin]) (fun j u hu => by
          have hj : j < b.length := by simpa [bv_len] using (List.getElem?_eq_some_iff.1 hu).1
          have hlt : g < V.heap.size := cell_block (h3 j hj)
          rw [Addr.add_lit, World.cell?_of_block (Below.heap_alloc V _ g hlt)]
          rw [h3 j hj]
          rw [bv_eq, List.getElem?_map, List.getElem?_eq_getElem hj] at hu
          simpa using hu) (by simp [wcl, bv_len, zer_len]; omega) (bv_one b)
      rw [setRow_new] at this
      rw [this]
      rw [bv_len]
      have e := pad_cells a zer b
      rw [show (wcl ⟨a, false, zer⟩).toArray.toList = wcl ⟨a, false, zer⟩ from rfl, e]
      rfl
  · obtain ⟨ao, cap, rfl⟩ := hv.form
    obtain rfl : b = [] := List.length_eq_zero_iff.1 (by omega)
    have := run_copy_none (P := Try.prog) (V.alloc (.cells (wcl ⟨a, false, zer⟩).toArray 70)) 23 23 ty 5 (some ⟨V.heap.size, 2, none⟩) ao 64 64 0 cap Try.underlying23 infoU (by decide)
    simpa [padL, goInt] using this
theorem wpList_copyW {ops : Array Oper} {rest : List Oper} {o : Oper} {a : Act} {Q : Exit → Act → World → Prop} (V : World) (hg : o.guard = none) (x y : Operand) (ho : o.op = .call { callee := .builtin .copy, args := #[x, y], argTypes := #[23, 23] }) (n : Int) (v : Value) (b : List Int) (hx : a.eval x = .slice (some ⟨V.heap.size, 2, none⟩) 64 64) (hy : a.eval y = v) (hv : Sl bc V v b) (hb : b.length ≤ 64)
    (h : wpList Try.prog ops Q rest (a.put o.dst (.int .i64 b.length)) (V.alloc (.cells (wcl ⟨n, false, padL b⟩).toArray 70))) : wpList Try.prog ops Q (o :: rest) a (V.alloc (.cells (wcl ⟨n, false, zer⟩).toArray 70)) := by
  refine wpList_plain hg fun K hK => ?_
  unfold Oper.wp
  simp [execOp, ho, resolve, invoke, builtin, hx, hy, copyW V n v b o.type hv hb, Result.andThen]
  exact hK _ _ h
end Go.Proofs.Ytiedbchlgcgdeaa
