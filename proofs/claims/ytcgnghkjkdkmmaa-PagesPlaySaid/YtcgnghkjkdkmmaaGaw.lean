/-
  PAGES: awake.
-/
import Derived.Test.YtcgnghkjkdkmmaaGx
import Derived.Lib.SlBytesConst
set_option linter.unusedVariables false
namespace Go.Proofs.Ytcgnghkjkdkmmaa
open Go.RowKit Go.Shelf

theorem MapR.of {base : Nat} {w : World} {mb : Nat} {v : Value} {G : List Pg} (h : Mp base w mb v G) : MapR w (.pointer (some ⟨mb, 0, none⟩)) G := .inr ⟨base, mb, v, rfl, h⟩

theorem fit_nil : Fit [] := ⟨(fun g hg => by cases hg), List.Pairwise.nil, by simp [mls]⟩

theorem rd_one (W : World) (c : UInt8) (t : TypeId) {n : Nat} {fr : Nat × Nat} (h : W.heap[n]? = some (.cells #[bv c] t fr)) : Rd W (.slice (some ⟨n, 0, none⟩) 1 1) [c] :=
  ⟨some ⟨n, 0, none⟩, 1, rfl, by simp, by unfold maxLen; simp, (fun h => by cases h), fun a ha j u hu => by
    cases ha
    rw [WideShapes.add_plain, Nat.zero_add, cell_of_row W n j _ t fr h]
    simpa using hu⟩

set_option maxHeartbeats 4000000 in
set_option maxRecDepth 100000 in
theorem awake_any (w : World) : Calls Try.prog 10 #[] w (AnsP w (.bool true)) := by
  have CN := new_any w.heap.size w (Nat.le_refl _)
  go_enter Try.func10, Try.ntmps10
  go_wp2_with (first | (go_at_call 9; refine CN.mono ?_))
  rintro e w1 ⟨rfl, hM, hb1⟩
  have HM := hid hM
  have HB1 := hid hb1
  clear hM hb1
  have HB3 : Hid (Below w1.heap.size w1 ((w1.alloc (.cells #[.int .u8 98] 5 (1, 2))).alloc (.cells #[.int .u8 49] 5 (1, 2)))) := ((Below.refl _ _).alloc (Nat.le_refl _) _).alloc (by simp) _
  have HA : Hid (((w1.alloc (.cells #[.int .u8 98] 5 (1, 2))).alloc (.cells #[.int .u8 49] 5 (1, 2))).heap[w1.heap.size]? = some (.cells #[.int .u8 98] 5 (1, 2))) := (Below.heap_alloc _ _ _ (by simp)).trans (heap_alloc_new _ _)
  have HA2 : Hid (((w1.alloc (.cells #[.int .u8 98] 5 (1, 2))).alloc (.cells #[.int .u8 49] 5 (1, 2))).heap[w1.heap.size + 1]? = some (.cells #[.int .u8 49] 5 (1, 2))) := heap_alloc2_new _ _ _
  have CP : Hid (Calls Try.prog 20 #[.pointer (some ⟨w.heap.size, 0, none⟩), .agg #[.slice (some ⟨w1.heap.size, 0, none⟩) 1 1, .slice (some ⟨w1.heap.size + 1, 0, none⟩) 1 1, .int .i64 0]] ((w1.alloc (.cells #[.int .u8 98] 5 (1, 2))).alloc (.cells #[.int .u8 49] 5 (1, 2)))
      (fun e w' => e = .returned (.int .i64 0) ∧ ∃ m' v' G', Alike m' ⟨some ⟨w1.heap.size, 0, none⟩, 1, some ⟨w1.heap.size + 1, 0, none⟩, 1, [98], [49], 0⟩ ∧ Turned w.heap.size w.heap.size (.slice none 0 0) [] (putM (mls []).flatten m') ((w1.alloc (.cells #[.int .u8 98] 5 (1, 2))).alloc (.cells #[.int .u8 49] 5 (1, 2))) w' v' G')) :=
    put_any w.heap.size w.heap.size (.slice none 0 0) [] ⟨some ⟨w1.heap.size, 0, none⟩, 1, some ⟨w1.heap.size + 1, 0, none⟩, 1, [98], [49], 0⟩ _ (HM.out.old HB3.out) fit_nil ⟨rd_one _ 98 5 HA.out, rd_one _ 49 5 HA2.out⟩ (by simp [mayE]) (by simp [mls])
  have cv1 := Lib.run_convert_bytes_const (P := Try.prog) w1 23 5 #[.int .u8 98] 1 1 Try.underlying23 Try.underlying5
  have cv2 := Lib.run_convert_bytes_const (P := Try.prog) (w1.alloc (.cells #[.int .u8 98] 5 (1, 2))) 23 5 #[.int .u8 49] 1 1 Try.underlying23 Try.underlying5
  simp only [List.size_toArray, List.length_cons, List.length_nil, Nat.reduceAdd, World.size_alloc] at cv1 cv2
  go_wp2_with (first | (go_at_call 20; refine CP.out.mono ?_))
  rintro e w4 ⟨rfl, m', v', G', hal, ht⟩
  have HT := hid ht
  clear ht hal
  have hfl : total G' = 1 := by unfold total; rw [HT.out.flat]; rfl
  have CL := len_any (.pointer (some ⟨w.heap.size, 0, none⟩)) G' w4 (MapR.of HT.out.mp) (by omega) (by have := HT.out.fit.glen; omega)
  rw [hfl] at CL
  clear hfl
  go_wp2_with (first | (go_at_call 28; refine CL.mono ?_; rintro e w5 ⟨rfl, rfl⟩))
  go_ret
  refine ⟨rfl, HB1.out.trans ((HB3.out.mono HB1.out.size).trans (HT.out.keep.below (Nat.le_trans HB1.out.size HB3.out.size) (fun k hk => ?_)))⟩
  rcases hk with e | e
  · omega
  · cases e
end Go.Proofs.Ytcgnghkjkdkmmaa
