/-
  THE LAW SchemaStates: the walk (made by src2/gen_sstates.py).
-/
import Derived.Test.YtkpeidhddicdmaaSqt
import Derived.Test.YtkpeidhddicdmaaSop
set_option linter.unusedVariables false
set_option linter.unusedSimpArgs false
set_option maxRecDepth 100000
namespace Go.Proofs.Ytkpeidhddicdmaa.schemaStates
open Go.RowKit Go.Deep

set_option maxHeartbeats 8000000 in
theorem walk {H : Type} {enc : TypeId × Value → H} (s : Int) (v1 : Value) (W : World) {base : Nat} {d1 : DataW H} {p1 : List MemPlace} (w0 : (Lit.int .i64 s).wf = true) (hw1 : Value.okWide Try.prog W .any base 37 v1)
    (h1 : DataW.Trod enc Try.prog W 0 (fun _ => true) true 37 v1 d1 p1) (hk1 : ∀ n ∈ d1.weights Try.prog 37, n ≤ reachBytes) :
    Calls Try.prog 5 #[.int .i64 s, v1] W (fun e w' => e = .returned (.bool true) ∧ Below W.heap.size W w') := by
  obtain ⟨cs, x, rfl, hx, -⟩ := index_open hw1 h1
  obtain ⟨xa, xc, rfl⟩ := idx_form hx
  clear hx hw1 h1 hk1 w0
  go_enter Try.func5, Try.ntmps5
  go_upto_region 1 with fail
  have hb := (Below.refl W.heap.size W).alloc (Nat.le_refl _) (.cells #[.int .i64 x.id, .int .i64 x.table, .string ⟨x.name.toArray⟩, .slice xa x.cols.length xc, .bool x.uniq, .int .i64 x.state, .bool x.bad] 37)
  have hz := heap_alloc_new W (.cells #[.int .i64 x.id, .int .i64 x.table, .string ⟨x.name.toArray⟩, .slice xa x.cols.length xc, .bool x.uniq, .int .i64 x.state, .bool x.bad] 37)
  generalize W.alloc (.cells #[.int .i64 x.id, .int .i64 x.table, .string ⟨x.name.toArray⟩, .slice xa x.cols.length xc, .bool x.uniq, .int .i64 x.state, .bool x.bad] 37) = w1 at *
  have HB := hid hb
  have HZ := hid hz
  clear hb hz
  have z5 := cell_in HZ.out 5 _ rfl
  have z5f := free_in HZ.out 5
  go_upto_region 2 with fail
  have HZ2 := hid (put_in HZ.out 5 (.int .i64 s))
  have HB2 : Hid (Below W.heap.size W (w1.setCell ⟨W.heap.size, 5, none⟩ (.int .i64 s))) := hid (HB.out.setCell (Nat.le_refl _) _)
  generalize w1.setCell ⟨W.heap.size, 5, none⟩ (.int .i64 s) = w2 at *
  clear z5 z5f
  have HKp : Hid (∀ V, Below w2.heap.size w2 V → V.heap[W.heap.size]? = some (.cells #[.int .i64 x.id, .int .i64 x.table, .string ⟨x.name.toArray⟩, .slice xa x.cols.length xc, .bool x.uniq, .int .i64 s, .bool x.bad] 37 (0, 0))) := hid (fun V hV => (hV.block _ (lt_of_block HZ2.out)).trans HZ2.out)
  refine wp_region_noPanic ?_
  refine wp_region_held_drew (S := fun V => Hid (Below w2.heap.size w2 V)) (by kernel_rfl) (hid (Below.drew (Below.refl _ _))) (fun hHeld => ?_)
  generalize w2.drew = Wd at *
  refine rdH 0 (by kernel_rfl) rfl fun K hK => ?_
  go_simp
  go_wp2_with (first | (go_at_call 10; refine (awake_any _).mono ?_; rintro en wb ⟨rfl, hb9⟩; have HB9 := hid (below_step hHeld.out hb9); clear hb9))
  clear hHeld
  refine hK.out _ _ HB9 (fun hHeld => ?_)
  clear HB9
  clear hK K
  try simp only [Act.put, jA, jB, jC, jD, jE, jF]
  refine tkH 1 (.bool true) rfl (by kernel_rfl) (fun _ _ _ => False.elim) hHeld (Or.inl ⟨by rfl, fun W9 hW => by clear hHeld hW; simp only [jA, jB, jC]; go_simp⟩) ?_
  simp only [Act.put, jA, jB, jC, jD, jE, jF]
  refine tkH 2 (.int .i64 s) rfl (by kernel_rfl) (fun _ _ _ => False.elim) hHeld (Or.inl ⟨by rfl, fun W9 hW => by clear hHeld hW; simp only [jA, jB, jC]; go_simp⟩) ?_
  simp only [Act.put, jA, jB, jC, jD, jE, jF]
  refine tkH 4 (.int .i64 s) rfl (by kernel_rfl) (fun _ _ _ => False.elim) hHeld (Or.inl ⟨by rfl, fun W9 hW => by clear hHeld hW; simp only [jA, jB, jC]; go_simp⟩) ?_
  simp only [Act.put, jA, jB, jC, jD, jE, jF]
  refine rdH 3 (by kernel_rfl) rfl fun K hK => ?_
  go_simp
  go_wp2_with (first | (go_at_call 33; refine (reads_any _ s).mono ?_; rintro en wb ⟨rfl, hb9⟩; have HB9 := hid (below_step hHeld.out hb9); clear hb9))
  clear hHeld
  refine hK.out _ _ HB9 (fun hHeld => ?_)
  clear HB9
  clear hK K
  try simp only [Act.put, jA, jB, jC, jD, jE, jF]
  refine rdH 5 (by kernel_rfl) rfl fun K hK => ?_
  go_simp
  go_wp2_with (first | (go_at_call 34; refine (rReads_any _ s).mono ?_; rintro en wb ⟨rfl, rfl⟩))
  refine hK.out _ _ hHeld (fun hHeld => ?_)
  clear hK K
  try simp only [Act.put, jA, jB, jC, jD, jE, jF]
  refine tkH 6 (.bool true) rfl (by kernel_rfl) (fun _ _ _ => False.elim) hHeld (Or.inl ⟨by rfl, fun W9 hW => by clear hHeld hW; simp only [jA, jB, jC]; go_simp⟩) ?_
  simp only [Act.put, jA, jB, jC, jD, jE, jF]
  refine tkH 7 (.bool true) rfl (by kernel_rfl) (fun _ _ _ => False.elim) hHeld (Or.inl ⟨by rfl, fun W9 hW => by clear hHeld hW; simp only [jA, jB, jC]; go_simp⟩) ?_
  simp only [Act.put, jA, jB, jC, jD, jE, jF]
  refine tkH 8 (.bool true) rfl (by kernel_rfl) (fun _ _ _ => False.elim) hHeld (Or.inl ⟨by rfl, fun W9 hW => by clear hHeld hW; simp only [jA, jB, jC]; go_simp⟩) ?_
  simp only [Act.put, jA, jB, jC, jD, jE, jF]
  refine tkH 9 (.int .i64 s) rfl (by kernel_rfl) (fun _ _ _ => False.elim) hHeld (Or.inl ⟨by rfl, fun W9 hW => by clear hHeld hW; simp only [jA, jB, jC]; go_simp⟩) ?_
  simp only [Act.put, jA, jB, jC, jD, jE, jF]
  refine tkH 11 (.int .i64 s) rfl (by kernel_rfl) (fun _ _ _ => False.elim) hHeld (Or.inl ⟨by rfl, fun W9 hW => by clear hHeld hW; simp only [jA, jB, jC]; go_simp⟩) ?_
  simp only [Act.put, jA, jB, jC, jD, jE, jF]
  refine rdH 10 (by kernel_rfl) rfl fun K hK => ?_
  go_simp
  go_wp2_with (first | (go_at_call 35; refine (writes_any _ s).mono ?_; rintro en wb ⟨rfl, hb9⟩; have HB9 := hid (below_step hHeld.out hb9); clear hb9))
  clear hHeld
  refine hK.out _ _ HB9 (fun hHeld => ?_)
  clear HB9
  clear hK K
  try simp only [Act.put, jA, jB, jC, jD, jE, jF]
  refine rdH 12 (by kernel_rfl) rfl fun K hK => ?_
  go_simp
  go_wp2_with (first | (go_at_call 36; refine (rWrites_any _ s).mono ?_; rintro en wb ⟨rfl, rfl⟩))
  refine hK.out _ _ hHeld (fun hHeld => ?_)
  clear hK K
  try simp only [Act.put, jA, jB, jC, jD, jE, jF]
  refine tkH 13 (.bool true) rfl (by kernel_rfl) (fun _ _ _ => False.elim) hHeld (Or.inl ⟨by rfl, fun W9 hW => by clear hHeld hW; simp only [jA, jB, jC]; go_simp⟩) ?_
  simp only [Act.put, jA, jB, jC, jD, jE, jF]
  refine tkH 14 (.bool true) rfl (by kernel_rfl) (fun _ _ _ => False.elim) hHeld (Or.inl ⟨by rfl, fun W9 hW => by clear hHeld hW; simp only [jA, jB, jC]; go_simp⟩) ?_
  simp only [Act.put, jA, jB, jC, jD, jE, jF]
  refine tkH 15 (.bool true) rfl (by kernel_rfl) (fun _ _ _ => False.elim) hHeld (Or.inl ⟨by rfl, fun W9 hW => by clear hHeld hW; simp only [jA, jB, jC]; go_simp⟩) ?_
  simp only [Act.put, jA, jB, jC, jD, jE, jF]
  refine tkH 16 (.int .i64 s) rfl (by kernel_rfl) (fun _ _ _ => False.elim) hHeld (Or.inl ⟨by rfl, fun W9 hW => by clear hHeld hW; simp only [jA, jB, jC]; go_simp⟩) ?_
  simp only [Act.put, jA, jB, jC, jD, jE, jF]
  refine tkH 18 (.int .i64 s) rfl (by kernel_rfl) (fun _ _ _ => False.elim) hHeld (Or.inl ⟨by rfl, fun W9 hW => by clear hHeld hW; simp only [jA, jB, jC]; go_simp⟩) ?_
  simp only [Act.put, jA, jB, jC, jD, jE, jF]
  refine rdH 17 (by kernel_rfl) rfl fun K hK => ?_
  go_simp
  go_wp2_with (first | (go_at_call 37; refine (deletes_any _ s).mono ?_; rintro en wb ⟨rfl, hb9⟩; have HB9 := hid (below_step hHeld.out hb9); clear hb9))
  clear hHeld
  refine hK.out _ _ HB9 (fun hHeld => ?_)
  clear HB9
  clear hK K
  try simp only [Act.put, jA, jB, jC, jD, jE, jF]
  refine rdH 19 (by kernel_rfl) rfl fun K hK => ?_
  go_simp
  go_wp2_with (first | (go_at_call 38; refine (rDeletes_any _ s).mono ?_; rintro en wb ⟨rfl, rfl⟩))
  refine hK.out _ _ hHeld (fun hHeld => ?_)
  clear hK K
  try simp only [Act.put, jA, jB, jC, jD, jE, jF]
  refine tkH 20 (.bool true) rfl (by kernel_rfl) (fun _ _ _ => False.elim) hHeld (Or.inl ⟨by rfl, fun W9 hW => by clear hHeld hW; simp only [jA, jB, jC]; go_simp⟩) ?_
  simp only [Act.put, jA, jB, jC, jD, jE, jF]
  refine tkH 21 (.bool true) rfl (by kernel_rfl) (fun _ _ _ => False.elim) hHeld (Or.inl ⟨by rfl, fun W9 hW => by clear hHeld hW; simp only [jA, jB, jC]; go_simp⟩) ?_
  simp only [Act.put, jA, jB, jC, jD, jE, jF]
  refine tkH 22 (.bool true) rfl (by kernel_rfl) (fun _ _ _ => False.elim) hHeld (Or.inl ⟨by rfl, fun W9 hW => by clear hHeld hW; simp only [jA, jB, jC]; go_simp⟩) ?_
  simp only [Act.put, jA, jB, jC, jD, jE, jF]
  refine tkH 23 (.agg #[.int .i64 x.id, .int .i64 x.table, .string ⟨x.name.toArray⟩, .slice xa x.cols.length xc, .bool x.uniq, .int .i64 s, .bool x.bad]) rfl (by kernel_rfl) (fun _ _ _ => False.elim) hHeld (Or.inl ⟨by rfl, fun W9 hW => by have h9 := HKp.out _ hW.out; clear hHeld hW; have q0 := cell_in h9 0 _ rfl; have q1 := cell_in h9 1 _ rfl; have q2 := cell_in h9 2 _ rfl; have q3 := cell_in h9 3 _ rfl; have q4 := cell_in h9 4 _ rfl; have q5 := cell_in h9 5 _ rfl; have q6 := cell_in h9 6 _ rfl; clear h9; simp only [jA, jB, jC]; go_simp⟩) ?_
  simp only [Act.put, jA, jB, jC, jD, jE, jF]
  refine tkH 25 (.agg #[.int .i64 x.id, .int .i64 x.table, .string ⟨x.name.toArray⟩, .slice xa x.cols.length xc, .bool x.uniq, .int .i64 s, .bool x.bad]) rfl (by kernel_rfl) (fun _ _ _ => False.elim) hHeld (Or.inl ⟨by rfl, fun W9 hW => by have h9 := HKp.out _ hW.out; clear hHeld hW; have q0 := cell_in h9 0 _ rfl; have q1 := cell_in h9 1 _ rfl; have q2 := cell_in h9 2 _ rfl; have q3 := cell_in h9 3 _ rfl; have q4 := cell_in h9 4 _ rfl; have q5 := cell_in h9 5 _ rfl; have q6 := cell_in h9 6 _ rfl; clear h9; simp only [jA, jB, jC]; go_simp⟩) ?_
  simp only [Act.put, jA, jB, jC, jD, jE, jF]
  refine rdH 24 (by kernel_rfl) rfl fun K hK => ?_
  go_simp
  go_wp2_with (first | (go_at_call 39; refine (next_any _ _ _ s _ _ _ _ rfl).mono ?_; rintro en wb ⟨rfl, hb9⟩; have HB9 := hid (below_step hHeld.out hb9); clear hb9))
  clear hHeld
  refine hK.out _ _ HB9 (fun hHeld => ?_)
  clear HB9
  clear hK K
  try simp only [Act.put, jA, jB, jC, jD, jE, jF]
  refine rdH 26 (by kernel_rfl) rfl fun K hK => ?_
  go_simp
  go_wp2_with (first | (go_at_call 24; refine (rNext_any _ _ _ s _ _ _ _ rfl).mono ?_; rintro en wb ⟨rfl, hb9⟩; have HB9 := hid (below_step hHeld.out hb9); clear hb9))
  clear hHeld
  refine hK.out _ _ HB9 (fun hHeld => ?_)
  clear HB9
  clear hK K
  try simp only [Act.put, jA, jB, jC, jD, jE, jF]
  refine tkH 27 (.bool true) rfl (by kernel_rfl) (fun _ _ _ => False.elim) hHeld (Or.inl ⟨by rfl, fun W9 hW => by clear hHeld hW; simp only [jA, jB, jC]; go_simp⟩) ?_
  simp only [Act.put, jA, jB, jC, jD, jE, jF]
  refine tkH 28 (.bool true) rfl (by kernel_rfl) (fun _ _ _ => False.elim) hHeld (Or.inl ⟨by rfl, fun W9 hW => by clear hHeld hW; simp only [jA, jB, jC]; go_simp⟩) ?_
  simp only [Act.put, jA, jB, jC, jD, jE, jF]
  refine tkH 29 (.bool true) rfl (by kernel_rfl) (fun _ _ _ => False.elim) hHeld (Or.inl ⟨by rfl, fun W9 hW => by clear hHeld hW; simp only [jA, jB, jC]; go_simp⟩) ?_
  simp only [Act.put, jA, jB, jC, jD, jE, jF]
  refine wpAnyH_done (by kernel_rfl) (NoPanic.normal ?_) _
  have HE := hid (below_step HB2.out hHeld.out)
  clear hHeld
  go_wp2_with fail
  go_ret
  exact ⟨rfl, HE.out⟩
end Go.Proofs.Ytkpeidhddicdmaa.schemaStates
