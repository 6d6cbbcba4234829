/-
  DISK: a write built of its parts.
-/
import Derived.Test.YtcbbklbjfknnlaaDoorDx0
import Derived.Great.FillDense
import Derived.Laws.Tables
set_option linter.unusedVariables false
set_option maxRecDepth 100000
namespace Go.Proofs.YtcbbklbjfknnlaaDoor
open Go.RowKit

theorem fill_one (off : Nat) (v : Value) (cs : Array Value) : (v.cells.zipIdx.foldl (fun cs (c, j) => cs.setIfInBounds (off + j) c) cs).size = cs.size ∧
    ∀ k, (v.cells.zipIdx.foldl (fun cs (c, j) => cs.setIfInBounds (off + j) c) cs)[k]? = if off ≤ k ∧ k < off + v.cells.size ∧ k < cs.size then v.cells[k - off]? else cs[k]? := by
  obtain ⟨h1, h2⟩ := Great.foldl_set off v.cells.toList 0 cs
  have e : v.cells.zipIdx.foldl (fun cs (c, j) => cs.setIfInBounds (off + j) c) cs = (v.cells.toList.zipIdx 0).foldl (fun cs (x : Value × Nat) => cs.setIfInBounds (off + x.2) x.1) cs := by
    rw [← Array.foldl_toList, Array.toList_zipIdx]
  rw [e]
  refine ⟨h1, fun k => ?_⟩
  rw [h2 k]
  simp only [Nat.add_zero, Array.length_toList, Array.getElem?_toList]

theorem write_parts : (match Tryd.prog.info? 84, Tryd.prog.underlying 84 with
    | some it, some (.struct fields) => (it.zero, fields.toList.mapM (fun f => (Tryd.prog.info? f.type).map fun i => (f.offset, i.size)))
    | _, _ => (none, none)) = (some (.agg (#[.int .i64 0] ++ Array.replicate 128 (.int .u8 0))), some [(0, 1), (1, 64), (65, 64)]) := by kernel_rfl

theorem built_write (z : Int) (A B : Array Value) (hA : A.size = 64) (hB : B.size = 64) : Tryd.prog.built 84 [(0, .int .i64 z), (1, .agg A), (2, .agg B)] = some (#[.int .i64 z] ++ (A ++ B)) := by
  have hp := write_parts
  unfold Program.built
  cases hi : Tryd.prog.info? 84 with
  | none => rw [hi] at hp; simp at hp
  | some it =>
    rw [hi] at hp
    cases hu : Tryd.prog.underlying 84 with
    | none => rw [hu] at hp; simp at hp
    | some d =>
      rw [hu] at hp
      cases d <;> try (simp at hp; done)
      rename_i fields
      simp only [Prod.mk.injEq] at hp
      obtain ⟨h1, h2⟩ := hp
      simp only [h1, h2]
      obtain ⟨Z, hZ⟩ : ∃ Z : Array Value, Z = #[.int .i64 0] ++ Array.replicate 128 (.int .u8 0) := ⟨_, rfl⟩
      have hZs : Z.size = 129 := by rw [hZ]; simp
      simp only [Value.cells, ← hZ]
      obtain ⟨s1, g1⟩ := fill_one 0 (.int .i64 z) Z
      have c1 : (Value.int .i64 z).cells = #[.int .i64 z] := rfl
      generalize hR1 : ((Value.int .i64 z).cells.zipIdx.foldl (fun cs (c, j) => cs.setIfInBounds (0 + j) c) Z) = R1 at s1 g1
      obtain ⟨s2, g2⟩ := fill_one 1 (.agg A) R1
      generalize hR2 : ((Value.agg A).cells.zipIdx.foldl (fun cs (c, j) => cs.setIfInBounds (1 + j) c) R1) = R2 at s2 g2
      obtain ⟨s3, g3⟩ := fill_one 65 (.agg B) R2
      generalize hR3 : ((Value.agg B).cells.zipIdx.foldl (fun cs (c, j) => cs.setIfInBounds (65 + j) c) R2) = R3 at s3 g3
      have cA : (Value.agg A).cells = A := rfl
      have cB : (Value.agg B).cells = B := rfl
      rw [cA] at g2
      rw [cB] at g3
      rw [c1] at g1
      have e1 : Instr.fill (([(0, 1), (1, 64), (65, 64)] : List (Nat × Nat)).toArray[·]?) Z [(0, .int .i64 z), (1, .agg A), (2, .agg B)] = some R3 := by
        unfold Instr.fill
        simp only [List.getElem?_toArray, List.getElem?_cons_zero]
        rw [hR1]
        rw [if_neg (by rw [c1]; simp [hZs])]
        unfold Instr.fill
        simp only [List.getElem?_toArray, List.getElem?_cons_succ, List.getElem?_cons_zero]
        rw [hR2]
        rw [if_neg (by rw [cA]; simp [hA, s1, hZs])]
        unfold Instr.fill
        simp only [List.getElem?_toArray, List.getElem?_cons_succ, List.getElem?_cons_zero]
        rw [hR3]
        rw [if_neg (by rw [cB]; simp [hB, s2, s1, hZs])]
        unfold Instr.fill
        rfl
      rw [e1]
      congr 1
      apply Array.ext_getElem?
      intro k
      rw [g3 k, g2 k, g1 k]
      rw [Array.getElem?_append, Array.getElem?_append]
      simp only [List.size_toArray, List.length_cons, List.length_nil]
      by_cases k0 : k = 0
      · subst k0; simp [hZs]
      · by_cases k1 : k < 65
        · rw [if_neg (by omega), if_pos (by omega), if_neg (by omega), if_pos (by omega)]
        · by_cases k2 : k < 129
          · rw [if_pos (by omega), if_neg (by omega), if_neg (by omega)]
            congr 1; omega
          · rw [if_neg (by omega), if_neg (by omega), if_neg (by omega), if_neg (by omega), if_neg (by omega), Array.getElem?_eq_none (by omega), Array.getElem?_eq_none (by omega)]
end Go.Proofs.YtcbbklbjfknnlaaDoor
