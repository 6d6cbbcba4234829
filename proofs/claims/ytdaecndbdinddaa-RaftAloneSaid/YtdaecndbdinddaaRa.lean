/-
  RAFT: a node in memory; the small functions.
-/
import Derived.Test.YtdaecndbdinddaaRw
set_option linter.unusedVariables false
set_option linter.unusedSimpArgs false
set_option maxRecDepth 100000
namespace Go.Proofs.Ytdaecndbdinddaa
open Go.RowKit Go.Deep

/-- The cells of a node of whose peers nothing is known, and that has nothing to send. -/
@[reducible] def ndc (id n : Int) (l : Lo) (role ld : Int) (cm : Nat) (tk : Int) (v : Bool) : Array Value :=
  #[.int .i64 id, .int .i64 n, .int .u64 (l.ht : Int), .int .i64 l.hv, .int .u64 (l.si : Int), .int .u64 (l.st : Int), .slice l.sd.a l.sd.b.length l.sd.c, .slice l.eo l.es.length l.ec, .int .i64 role, .int .i64 ld, .int .u64 (cm : Int), .int .i64 tk, .bool v, .bool false, .bool false, .bool false, .bool false, .int .u64 0, .int .u64 0, .bool false, .int .u64 0, .int .u64 0, .bool false, .int .u64 0, .int .u64 0, .bool false, .int .u64 0, .int .u64 0, .bool false, .int .u64 0, .int .u64 0, .bool false, .slice none 0 0]
def NdAt (w : World) (b : Nat) (id n : Int) (l : Lo) (role ld : Int) (cm : Nat) (tk : Int) (v : Bool) : Prop := w.heap[b]? = some (.cells (ndc id n l role ld cm tk v) 95 (0, 0))
section
variable {w w' : World} {b : Nat} {id n : Int} {l : Lo} {role ld : Int} {cm : Nat} {tk : Int} {v : Bool}
theorem NdAt.cells (h : NdAt w b id n l role ld cm tk v) :
    w.cell? ⟨b, 0, none⟩ = some (.int .i64 id) ∧ w.cell? ⟨b, 1, none⟩ = some (.int .i64 n) ∧ w.cell? ⟨b, 2, none⟩ = some (.int .u64 (l.ht : Int)) ∧ w.cell? ⟨b, 3, none⟩ = some (.int .i64 l.hv) ∧ w.cell? ⟨b, 4, none⟩ = some (.int .u64 (l.si : Int)) ∧ w.cell? ⟨b, 5, none⟩ = some (.int .u64 (l.st : Int)) ∧ w.cell? ⟨b, 6, none⟩ = some (.slice l.sd.a l.sd.b.length l.sd.c) ∧ w.cell? ⟨b, 7, none⟩ = some (.slice l.eo l.es.length l.ec) ∧ w.cell? ⟨b, 8, none⟩ = some (.int .i64 role) ∧ w.cell? ⟨b, 9, none⟩ = some (.int .i64 ld) ∧ w.cell? ⟨b, 10, none⟩ = some (.int .u64 (cm : Int)) ∧ w.cell? ⟨b, 11, none⟩ = some (.int .i64 tk) ∧ w.cell? ⟨b, 32, none⟩ = some (.slice none 0 0) := by
  unfold NdAt at h
  simp [World.cell?, h]
theorem NdAt.soft (h : NdAt w b id n l role ld cm tk v) (o : Nat) : w.frozen? ⟨b, o, none⟩ = false := by
  unfold NdAt at h
  simp [World.frozen?, h]
theorem NdAt.lt (h : NdAt w b id n l role ld cm tk v) : b < w.heap.size := lt_of_block h
theorem NdAt.old (h : NdAt w b id n l role ld cm tk v) (hb : Below w.heap.size w w') : NdAt w' b id n l role ld cm tk v := (hb.block _ (lt_of_block h)).trans h
theorem rnone_any (h : NdAt w b id n l role ld cm tk v) (hn : n ≠ 0) : Calls Try.prog 36 #[.pointer (some ⟨b, 0, none⟩)] w (fun e w' => e = .returned (.bool false) ∧ w' = w) := by
  obtain ⟨-, c1, -⟩ := h.cells
  have hnb : (n == 0) = false := by simp [hn]
  clear h
  go_enter Try.func36, Try.ntmps36
  go_wp2_with fail
  go_ret
  exact ⟨rfl, rfl⟩
theorem rnone_nil (w : World) : Calls Try.prog 36 #[.pointer none] w (fun e w' => e = .returned (.bool true) ∧ w' = w) := by
  go_enter Try.func36, Try.ntmps36
  go_wp2_with fail
  go_ret
  exact ⟨rfl, rfl⟩
theorem rfirst_any (h : NdAt w b id n l role ld cm tk v) (hs : l.si + 1 < 18446744073709551616) : Calls Try.prog 46 #[.pointer (some ⟨b, 0, none⟩)] w (fun e w' => e = .returned (.int .u64 ((l.si + 1 : Nat) : Int)) ∧ w' = w) := by
  obtain ⟨-, -, -, -, c4, -⟩ := h.cells
  have h2 : IntKind.u64.wrap ((l.si : Int) + 1) = ((l.si + 1 : Nat) : Int) := by rw [wrap_u64]; omega
  clear h
  go_enter Try.func46, Try.ntmps46
  go_wp2_with fail
  go_ret
  exact ⟨rfl, rfl⟩
theorem rlast_any (h : NdAt w b id n l role ld cm tk v) (hm : l.si + l.es.length < 18446744073709551616) : Calls Try.prog 37 #[.pointer (some ⟨b, 0, none⟩)] w (Draws w (.int .u64 ((l.si + l.es.length : Nat) : Int))) := by
  obtain ⟨-, -, -, -, c4, -, -, c7, -⟩ := h.cells
  obtain ⟨m, hme⟩ : ∃ m, m = l.es.length := ⟨_, rfl⟩
  rw [← hme] at c7 hm ⊢
  have hlen := fun W => run_len_slice (P := Try.prog) W 30 3 l.eo m l.ec Try.underlying30
  have h1 : IntKind.u64.wrap (m : Int) = (m : Int) := by rw [wrap_u64]; omega
  have h2 : IntKind.u64.wrap ((l.si : Int) + (m : Int)) = ((l.si + m : Nat) : Int) := by rw [wrap_u64]; omega
  clear h hme
  go_enter Try.func37, Try.ntmps37
  go_wp2_with fail
  go_quiet (fail)
  go_wp2_with fail
  go_ret
  exact ⟨rfl, _, rfl⟩
theorem majority1_any (h : NdAt w b id 1 l role ld cm tk v) : Calls Try.prog 80 #[.pointer (some ⟨b, 0, none⟩), .int .i64 1] w (fun e w' => e = .returned (.bool true) ∧ w' = w) := by
  obtain ⟨-, c1, -⟩ := h.cells
  clear h
  go_enter Try.func80, Try.ntmps80
  go_wp2_with fail
  go_ret
  exact ⟨rfl, rfl⟩
/-- A group of one: there are no others. -/
theorem others1_any (h : NdAt w b 0 1 l role ld cm tk v) (g : Value) : Calls Try.prog 40 #[.pointer (some ⟨b, 0, none⟩), g] w (fun e w' => e = .returned (.tuple #[]) ∧ w' = w) := by
  obtain ⟨c0, c1, -⟩ := h.cells
  clear h
  go_enter Try.func40, Try.ntmps40
  go_wp2_with fail
  go_loopw [9] (fun i wr => ∃ k : Nat, k ≤ 1 ∧ i = .int .i64 (k : Int) ∧ wr = w) (fun i _ => 1 - (intOf i).toNat)
  case atStart => exact ⟨0, by omega, rfl, rfl⟩
  case round =>
    obtain ⟨k, hk, rfl, rfl⟩ := hrel
    have hor : k = 0 ∨ k = 1 := by omega
    rcases hor with rfl | rfl
    · go_wp2_with fail
      exact ⟨⟨1, by omega, rfl, trivial⟩, by simp [intOf]⟩
    · go_wp2_with fail
      go_end0
      exact ⟨rfl, rfl⟩
end
end Go.Proofs.Ytdaecndbdinddaa
