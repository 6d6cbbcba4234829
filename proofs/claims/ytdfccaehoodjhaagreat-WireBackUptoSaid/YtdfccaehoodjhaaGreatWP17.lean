import Derived.WalkKit
import Derived.OpenShut
import Derived.Test.YtdfccaehoodjhaaGreatRows
import Derived.WalkSpells
import Derived.WalkLawsBesides
import Derived.Laws.AppendOwnNone
import Derived.ProofKit
import Derived.ShutString
import Derived.ChangeOld
import Derived.Below
import Derived.SizedLaws
import Derived.Deep.Slices
import Derived.Deep.AppendLies
import Derived.Deep.Strs
import Derived.Deep.RegionHeld3
import Derived.Lib.ConvBytes
import Derived.Laws.AppendOwn
import Derived.Deep.CutRange
import Derived.Deep.MidRow
import Derived.Great.Walk
import Derived.Lib.SlBytesConst
import Derived.Test.YtdfccaehoodjhaaGreatWP1
import Derived.Test.YtdfccaehoodjhaaGreatWP2
import Derived.Test.YtdfccaehoodjhaaGreatWP3
import Derived.Test.YtdfccaehoodjhaaGreatWP4
import Derived.Test.YtdfccaehoodjhaaGreatWP15
import Derived.Test.YtdfccaehoodjhaaGreatWP16
set_option linter.unusedVariables false
set_option linter.unusedSimpArgs false
set_option linter.unusedVariables false
set_option linter.unusedSimpArgs false
set_option maxRecDepth 100000
namespace Go.Proofs.YtdfccaehoodjhaaGreat
open Go.RowKit Go.Deep

set_option maxHeartbeats 8000000 in
theorem wtopReply_any {W0 : World} {v0 v1 v2 v3 v4 v5 v6 v7 v8 v9 v10 v11 v12 v13 v14 : Value} {b0 b1 b2 b3 b4 b5 b6 b7 b8 b9 b10 b11 b12 b13 b14 : List UInt8} (e0 : Enc W0 .int [v0] b0) (e1 : Enc W0 .num [v1] b1) (e2 : Enc W0 .int [v2] b2) (e3 : Enc W0 .bool [v3] b3) (e4 : Enc W0 (.list sPair) [v4] b4) (e5 : Enc W0 (.list .num) [v5] b5) (e6 : Enc W0 .int [v6] b6) (e7 : Enc W0 .int [v7] b7) (e8 : Enc W0 (.list sTable) [v8] b8) (e9 : Enc W0 (.list sIndex) [v9] b9) (e10 : Enc W0 .int [v10] b10) (e11 : Enc W0 .int [v11] b11) (e12 : Enc W0 (.list sOwner) [v12] b12) (e13 : Enc W0 .int [v13] b13) (e14 : Enc W0 .data [v14] b14) (hl : (b0 ++ (b1 ++ (b2 ++ (b3 ++ (b4 ++ (b5 ++ (b6 ++ (b7 ++ (b8 ++ (b9 ++ (b10 ++ (b11 ++ (b12 ++ (b13 ++ b14)))))))))))))).length ≤ 1000000000000) :
    Calls Tryz.prog 27 #[.agg #[v0, v1, v2, v3, v4, v5, v6, v7, v8, v9, v10, v11, v12, v13, v14]] W0 (Gives 5 W0 (b0 ++ (b1 ++ (b2 ++ (b3 ++ (b4 ++ (b5 ++ (b6 ++ (b7 ++ (b8 ++ (b9 ++ (b10 ++ (b11 ++ (b12 ++ (b13 ++ b14))))))))))))))) := by
  have H0 := hid (St.begin W0 #[v0, v1, v2, v3, v4, v5, v6, v7, v8, v9, v10, v11, v12, v13, v14] 55 138)
  have C := fun (w0 : World) (a B : Nat) (h : St 138 W0 [(B, .cells #[v0, v1, v2, v3, v4, v5, v6, v7, v8, v9, v10, v11, v12, v13, v14] 55 (0, 0))] a w0 []) => wReply_any h e0 e1 e2 e3 e4 e5 e6 e7 e8 e9 e10 e11 e12 e13 e14 (by rw [List.length_nil, Nat.zero_add]; exact hl)
  have CH := hid C
  clear C hl e0 e1 e2 e3 e4 e5 e6 e7 e8 e9 e10 e11 e12 e13 e14
  go_enter Tryz.func27, Tryz.ntmps27
  go_upto_region 2 with fail
  generalize (W0.alloc (.cells #[v0, v1, v2, v3, v4, v5, v6, v7, v8, v9, v10, v11, v12, v13, v14] 55)).alloc (.cells #[.slice none 0 0] 138) = w0 at *
  obtain ⟨B, hB⟩ : ∃ B, B = W0.heap.size := ⟨_, rfl⟩
  obtain ⟨a, ha⟩ : ∃ a, a = W0.heap.size + 1 := ⟨_, rfl⟩
  rw [← ha, ← hB] at H0
  try rw [← ha]
  try rw [← hB]
  clear hB ha
  have CC := hid (CH.out _ _ _ H0.out)
  have LD := cells_load (box_cell H0.out) Tryz.underlying55 rfl (by kernel_rfl)
  have HLD := hid LD
  clear LD
  apply wp_region_lit
  refine Great.wpList_readTo rfl (some 4) rfl (.agg #[v0, v1, v2, v3, v4, v5, v6, v7, v8, v9, v10, v11, v12, v13, v14]) (exec_load rfl HLD.out) ?_
  simp only [Act.put, List.getElem_toArray, List.getElem_cons_succ, List.getElem_cons_zero, List.setIfInBounds_toArray, List.set_cons_succ, List.set_cons_zero]
  go_upto_region 3 with (first | (go_at_call 76; refine CC.out.mono ?_; rintro en w1 ⟨rfl, h1⟩; have H1 := hid h1; clear h1))
  obtain ⟨cx, hx, hg⟩ := St.ends (show St 138 W0 _ a _ (b0 ++ (b1 ++ (b2 ++ (b3 ++ (b4 ++ (b5 ++ (b6 ++ (b7 ++ (b8 ++ (b9 ++ (b10 ++ (b11 ++ (b12 ++ (b13 ++ b14)))))))))))))) from H1.out)
  obtain ⟨z0, z1⟩ := one_cell hx
  have HG := hid hg
  clear hx hg 
  go_wp2_with fail
  go_ret
  exact HG.out

end Go.Proofs.YtdfccaehoodjhaaGreat

set_option linter.unusedVariables false
set_option linter.unusedSimpArgs false
set_option maxRecDepth 100000
namespace Go.Proofs.YtdfccaehoodjhaaGreat
open Go.RowKit Go.Deep

set_option maxHeartbeats 8000000 in
theorem wtopAsk_any {W0 : World} {v0 v1 v2 v3 v4 v5 v6 v7 v8 v9 v10 v11 v12 v13 v14 v15 : Value} {b0 b1 b2 b3 b4 b5 b6 b7 b8 b9 b10 b11 b12 b13 b14 b15 : List UInt8} (e0 : Enc W0 .int [v0] b0) (e1 : Enc W0 (.list sOp) [v1] b1) (e2 : Enc W0 .int [v2] b2) (e3 : Enc W0 .name [v3] b3) (e4 : Enc W0 (.list sColumn) [v4] b4) (e5 : Enc W0 (.list .int) [v5] b5) (e6 : Enc W0 .int [v6] b6) (e7 : Enc W0 .int [v7] b7) (e8 : Enc W0 .name [v8] b8) (e9 : Enc W0 (.list .int) [v9] b9) (e10 : Enc W0 .bool [v10] b10) (e11 : Enc W0 .int [v11] b11) (e12 : Enc W0 .bool [v12] b12) (e13 : Enc W0 .name [v13] b13) (e14 : Enc W0 .int [v14] b14) (e15 : Enc W0 .data [v15] b15) (hl : (b0 ++ (b1 ++ (b2 ++ (b3 ++ (b4 ++ (b5 ++ (b6 ++ (b7 ++ (b8 ++ (b9 ++ (b10 ++ (b11 ++ (b12 ++ (b13 ++ (b14 ++ b15))))))))))))))).length ≤ 1000000000000) :
    Calls Tryz.prog 28 #[.agg #[v0, v1, v2, v3, v4, v5, v6, v7, v8, v9, v10, v11, v12, v13, v14, v15]] W0 (Gives 5 W0 (b0 ++ (b1 ++ (b2 ++ (b3 ++ (b4 ++ (b5 ++ (b6 ++ (b7 ++ (b8 ++ (b9 ++ (b10 ++ (b11 ++ (b12 ++ (b13 ++ (b14 ++ b15)))))))))))))))) := by
  have H0 := hid (St.begin W0 #[v0, v1, v2, v3, v4, v5, v6, v7, v8, v9, v10, v11, v12, v13, v14, v15] 62 138)
  have C := fun (w0 : World) (a B : Nat) (h : St 138 W0 [(B, .cells #[v0, v1, v2, v3, v4, v5, v6, v7, v8, v9, v10, v11, v12, v13, v14, v15] 62 (0, 0))] a w0 []) => wAsk_any h e0 e1 e2 e3 e4 e5 e6 e7 e8 e9 e10 e11 e12 e13 e14 e15 (by rw [List.length_nil, Nat.zero_add]; exact hl)
  have CH := hid C
  clear C hl e0 e1 e2 e3 e4 e5 e6 e7 e8 e9 e10 e11 e12 e13 e14 e15
  go_enter Tryz.func28, Tryz.ntmps28
  go_upto_region 2 with fail
  generalize (W0.alloc (.cells #[v0, v1, v2, v3, v4, v5, v6, v7, v8, v9, v10, v11, v12, v13, v14, v15] 62)).alloc (.cells #[.slice none 0 0] 138) = w0 at *
  obtain ⟨B, hB⟩ : ∃ B, B = W0.heap.size := ⟨_, rfl⟩
  obtain ⟨a, ha⟩ : ∃ a, a = W0.heap.size + 1 := ⟨_, rfl⟩
  rw [← ha, ← hB] at H0
  try rw [← ha]
  try rw [← hB]
  clear hB ha
  have x0 := box_cell H0.out 0 v0 rfl
  have x1 := box_cell H0.out 1 v1 rfl
  have x2 := box_cell H0.out 2 v2 rfl
  have x3 := box_cell H0.out 3 v3 rfl
  have x4 := box_cell H0.out 4 v4 rfl
  have x5 := box_cell H0.out 5 v5 rfl
  have x6 := box_cell H0.out 6 v6 rfl
  have x7 := box_cell H0.out 7 v7 rfl
  have x8 := box_cell H0.out 8 v8 rfl
  have x9 := box_cell H0.out 9 v9 rfl
  have x10 := box_cell H0.out 10 v10 rfl
  have x11 := box_cell H0.out 11 v11 rfl
  have x12 := box_cell H0.out 12 v12 rfl
  have x13 := box_cell H0.out 13 v13 rfl
  have x14 := box_cell H0.out 14 v14 rfl
  have x15 := box_cell H0.out 15 v15 rfl
  have CC := hid (CH.out _ _ _ H0.out)
  go_upto_region 3 with (first | (go_at_call 77; refine CC.out.mono ?_; rintro en w1 ⟨rfl, h1⟩; have H1 := hid h1; clear h1))
  obtain ⟨cx, hx, hg⟩ := St.ends (show St 138 W0 _ a _ (b0 ++ (b1 ++ (b2 ++ (b3 ++ (b4 ++ (b5 ++ (b6 ++ (b7 ++ (b8 ++ (b9 ++ (b10 ++ (b11 ++ (b12 ++ (b13 ++ (b14 ++ b15))))))))))))))) from H1.out)
  obtain ⟨z0, z1⟩ := one_cell hx
  have HG := hid hg
  clear hx hg x0 x1 x2 x3 x4 x5 x6 x7 x8 x9 x10 x11 x12 x13 x14 x15
  go_wp2_with fail
  go_ret
  exact HG.out

end Go.Proofs.YtdfccaehoodjhaaGreat

set_option linter.unusedVariables false
set_option linter.unusedSimpArgs false
set_option maxRecDepth 100000
namespace Go.Proofs.YtdfccaehoodjhaaGreat
open Go.RowKit Go.Deep

set_option maxHeartbeats 8000000 in
theorem command_any {W0 : World} {v0 v1 v2 v3 v4 v5 v6 v7 v8 v9 v10 v11 v12 v13 v14 v15 v16 v17 v18 v19 v20 v21 v22 v23 v24 : Value} {b0 b1 b2 b3 b4 b5 b6 b7 b8 b9 b10 b11 b12 b13 b14 b15 b16 b17 b18 b19 b20 b21 b22 b23 b24 : List UInt8} (e0 : Enc W0 .int [v0] b0) (e1 : Enc W0 .int [v1] b1) (e2 : Enc W0 .num [v2] b2) (e3 : Enc W0 .int [v3] b3) (e4 : Enc W0 .int [v4] b4) (e5 : Enc W0 .int [v5] b5) (e6 : Enc W0 .bool [v6] b6) (e7 : Enc W0 .data [v7] b7) (e8 : Enc W0 .data [v8] b8) (e9 : Enc W0 .data [v9] b9) (e10 : Enc W0 (.list sPair) [v10] b10) (e11 : Enc W0 (.list sSeen) [v11] b11) (e12 : Enc W0 (.list sWrite) [v12] b12) (e13 : Enc W0 .int [v13] b13) (e14 : Enc W0 .name [v14] b14) (e15 : Enc W0 (.list sColumn) [v15] b15) (e16 : Enc W0 (.list .int) [v16] b16) (e17 : Enc W0 .int [v17] b17) (e18 : Enc W0 .int [v18] b18) (e19 : Enc W0 .name [v19] b19) (e20 : Enc W0 (.list .int) [v20] b20) (e21 : Enc W0 .bool [v21] b21) (e22 : Enc W0 .int [v22] b22) (e23 : Enc W0 .bool [v23] b23) (e24 : Enc W0 .name [v24] b24) : ∃ q : Bool, ∀ w, Calls Tryz.prog 24 #[.agg #[v0, v1, v2, v3, v4, v5, v6, v7, v8, v9, v10, v11, v12, v13, v14, v15, v16, v17, v18, v19, v20, v21, v22, v23, v24]] w (fun e w' => e = .returned (.bool q) ∧ Below w.heap.size w w') := by
  obtain ⟨a10, n10, c10, rfl⟩ := form_list e10
  obtain ⟨hc10, hn10⟩ := list_len e10
  obtain ⟨a11, n11, c11, rfl⟩ := form_list e11
  obtain ⟨hc11, hn11⟩ := list_len e11
  obtain ⟨a12, n12, c12, rfl⟩ := form_list e12
  obtain ⟨hc12, hn12⟩ := list_len e12
  obtain ⟨a15, n15, c15, rfl⟩ := form_list e15
  obtain ⟨hc15, hn15⟩ := list_len e15
  obtain ⟨a16, n16, c16, rfl⟩ := form_list e16
  obtain ⟨hc16, hn16⟩ := list_len e16
  obtain ⟨a20, n20, c20, rfl⟩ := form_list e20
  obtain ⟨hc20, hn20⟩ := list_len e20
  clear e0 e1 e2 e3 e4 e5 e6 e7 e8 e9 e10 e11 e12 e13 e14 e15 e16 e17 e18 e19 e20 e21 e22 e23 e24
  by_cases q0 : (n10 : Int) < 300
  rotate_left
  · skip
    refine ⟨false, fun w => ?_⟩
    have hb : Below w.heap.size w (w.alloc (.cells #[v0, v1, v2, v3, v4, v5, v6, v7, v8, v9, .slice a10 n10 c10, .slice a11 n11 c11, .slice a12 n12 c12, v13, v14, .slice a15 n15 c15, .slice a16 n16 c16, v17, v18, v19, .slice a20 n20 c20, v21, v22, v23, v24] 43)) := (Below.refl _ _).alloc (Nat.le_refl _) _
    have hz := heap_alloc_new w (.cells #[v0, v1, v2, v3, v4, v5, v6, v7, v8, v9, .slice a10 n10 c10, .slice a11 n11 c11, .slice a12 n12 c12, v13, v14, .slice a15 n15 c15, .slice a16 n16 c16, v17, v18, v19, .slice a20 n20 c20, v21, v22, v23, v24] 43)
    have z10 : (w.alloc (.cells #[v0, v1, v2, v3, v4, v5, v6, v7, v8, v9, .slice a10 n10 c10, .slice a11 n11 c11, .slice a12 n12 c12, v13, v14, .slice a15 n15 c15, .slice a16 n16 c16, v17, v18, v19, .slice a20 n20 c20, v21, v22, v23, v24] 43)).cell? ⟨w.heap.size, 10, none⟩ = some (.slice a10 n10 c10) := by simp only [World.cell?, hz]; rfl
    have z11 : (w.alloc (.cells #[v0, v1, v2, v3, v4, v5, v6, v7, v8, v9, .slice a10 n10 c10, .slice a11 n11 c11, .slice a12 n12 c12, v13, v14, .slice a15 n15 c15, .slice a16 n16 c16, v17, v18, v19, .slice a20 n20 c20, v21, v22, v23, v24] 43)).cell? ⟨w.heap.size, 11, none⟩ = some (.slice a11 n11 c11) := by simp only [World.cell?, hz]; rfl
    have z12 : (w.alloc (.cells #[v0, v1, v2, v3, v4, v5, v6, v7, v8, v9, .slice a10 n10 c10, .slice a11 n11 c11, .slice a12 n12 c12, v13, v14, .slice a15 n15 c15, .slice a16 n16 c16, v17, v18, v19, .slice a20 n20 c20, v21, v22, v23, v24] 43)).cell? ⟨w.heap.size, 12, none⟩ = some (.slice a12 n12 c12) := by simp only [World.cell?, hz]; rfl
    have z15 : (w.alloc (.cells #[v0, v1, v2, v3, v4, v5, v6, v7, v8, v9, .slice a10 n10 c10, .slice a11 n11 c11, .slice a12 n12 c12, v13, v14, .slice a15 n15 c15, .slice a16 n16 c16, v17, v18, v19, .slice a20 n20 c20, v21, v22, v23, v24] 43)).cell? ⟨w.heap.size, 15, none⟩ = some (.slice a15 n15 c15) := by simp only [World.cell?, hz]; rfl
    have z16 : (w.alloc (.cells #[v0, v1, v2, v3, v4, v5, v6, v7, v8, v9, .slice a10 n10 c10, .slice a11 n11 c11, .slice a12 n12 c12, v13, v14, .slice a15 n15 c15, .slice a16 n16 c16, v17, v18, v19, .slice a20 n20 c20, v21, v22, v23, v24] 43)).cell? ⟨w.heap.size, 16, none⟩ = some (.slice a16 n16 c16) := by simp only [World.cell?, hz]; rfl
    have z20 : (w.alloc (.cells #[v0, v1, v2, v3, v4, v5, v6, v7, v8, v9, .slice a10 n10 c10, .slice a11 n11 c11, .slice a12 n12 c12, v13, v14, .slice a15 n15 c15, .slice a16 n16 c16, v17, v18, v19, .slice a20 n20 c20, v21, v22, v23, v24] 43)).cell? ⟨w.heap.size, 20, none⟩ = some (.slice a20 n20 c20) := by simp only [World.cell?, hz]; rfl
    clear hz
    go_enter Tryz.func24, Tryz.ntmps24
    go_upto_region 1 with fail
    generalize w.alloc (.cells #[v0, v1, v2, v3, v4, v5, v6, v7, v8, v9, .slice a10 n10 c10, .slice a11 n11 c11, .slice a12 n12 c12, v13, v14, .slice a15 n15 c15, .slice a16 n16 c16, v17, v18, v19, .slice a20 n20 c20, v21, v22, v23, v24] 43) = w1 at *
    go_wp2_with fail
    go_ret
    exact ⟨rfl, hb⟩
  · skip
    by_cases q1 : (n11 : Int) < 60
    rotate_left
    · skip
      refine ⟨false, fun w => ?_⟩
      have hb : Below w.heap.size w (w.alloc (.cells #[v0, v1, v2, v3, v4, v5, v6, v7, v8, v9, .slice a10 n10 c10, .slice a11 n11 c11, .slice a12 n12 c12, v13, v14, .slice a15 n15 c15, .slice a16 n16 c16, v17, v18, v19, .slice a20 n20 c20, v21, v22, v23, v24] 43)) := (Below.refl _ _).alloc (Nat.le_refl _) _
      have hz := heap_alloc_new w (.cells #[v0, v1, v2, v3, v4, v5, v6, v7, v8, v9, .slice a10 n10 c10, .slice a11 n11 c11, .slice a12 n12 c12, v13, v14, .slice a15 n15 c15, .slice a16 n16 c16, v17, v18, v19, .slice a20 n20 c20, v21, v22, v23, v24] 43)
      have z10 : (w.alloc (.cells #[v0, v1, v2, v3, v4, v5, v6, v7, v8, v9, .slice a10 n10 c10, .slice a11 n11 c11, .slice a12 n12 c12, v13, v14, .slice a15 n15 c15, .slice a16 n16 c16, v17, v18, v19, .slice a20 n20 c20, v21, v22, v23, v24] 43)).cell? ⟨w.heap.size, 10, none⟩ = some (.slice a10 n10 c10) := by simp only [World.cell?, hz]; rfl
      have z11 : (w.alloc (.cells #[v0, v1, v2, v3, v4, v5, v6, v7, v8, v9, .slice a10 n10 c10, .slice a11 n11 c11, .slice a12 n12 c12, v13, v14, .slice a15 n15 c15, .slice a16 n16 c16, v17, v18, v19, .slice a20 n20 c20, v21, v22, v23, v24] 43)).cell? ⟨w.heap.size, 11, none⟩ = some (.slice a11 n11 c11) := by simp only [World.cell?, hz]; rfl
      have z12 : (w.alloc (.cells #[v0, v1, v2, v3, v4, v5, v6, v7, v8, v9, .slice a10 n10 c10, .slice a11 n11 c11, .slice a12 n12 c12, v13, v14, .slice a15 n15 c15, .slice a16 n16 c16, v17, v18, v19, .slice a20 n20 c20, v21, v22, v23, v24] 43)).cell? ⟨w.heap.size, 12, none⟩ = some (.slice a12 n12 c12) := by simp only [World.cell?, hz]; rfl
      have z15 : (w.alloc (.cells #[v0, v1, v2, v3, v4, v5, v6, v7, v8, v9, .slice a10 n10 c10, .slice a11 n11 c11, .slice a12 n12 c12, v13, v14, .slice a15 n15 c15, .slice a16 n16 c16, v17, v18, v19, .slice a20 n20 c20, v21, v22, v23, v24] 43)).cell? ⟨w.heap.size, 15, none⟩ = some (.slice a15 n15 c15) := by simp only [World.cell?, hz]; rfl
      have z16 : (w.alloc (.cells #[v0, v1, v2, v3, v4, v5, v6, v7, v8, v9, .slice a10 n10 c10, .slice a11 n11 c11, .slice a12 n12 c12, v13, v14, .slice a15 n15 c15, .slice a16 n16 c16, v17, v18, v19, .slice a20 n20 c20, v21, v22, v23, v24] 43)).cell? ⟨w.heap.size, 16, none⟩ = some (.slice a16 n16 c16) := by simp only [World.cell?, hz]; rfl
      have z20 : (w.alloc (.cells #[v0, v1, v2, v3, v4, v5, v6, v7, v8, v9, .slice a10 n10 c10, .slice a11 n11 c11, .slice a12 n12 c12, v13, v14, .slice a15 n15 c15, .slice a16 n16 c16, v17, v18, v19, .slice a20 n20 c20, v21, v22, v23, v24] 43)).cell? ⟨w.heap.size, 20, none⟩ = some (.slice a20 n20 c20) := by simp only [World.cell?, hz]; rfl
      clear hz
      go_enter Tryz.func24, Tryz.ntmps24
      go_upto_region 1 with fail
      generalize w.alloc (.cells #[v0, v1, v2, v3, v4, v5, v6, v7, v8, v9, .slice a10 n10 c10, .slice a11 n11 c11, .slice a12 n12 c12, v13, v14, .slice a15 n15 c15, .slice a16 n16 c16, v17, v18, v19, .slice a20 n20 c20, v21, v22, v23, v24] 43) = w1 at *
      go_wp2_with fail
      go_ret
      exact ⟨rfl, hb⟩
    · skip
      by_cases q2 : (n12 : Int) < 300
      rotate_left
      · skip
        refine ⟨false, fun w => ?_⟩
        have hb : Below w.heap.size w (w.alloc (.cells #[v0, v1, v2, v3, v4, v5, v6, v7, v8, v9, .slice a10 n10 c10, .slice a11 n11 c11, .slice a12 n12 c12, v13, v14, .slice a15 n15 c15, .slice a16 n16 c16, v17, v18, v19, .slice a20 n20 c20, v21, v22, v23, v24] 43)) := (Below.refl _ _).alloc (Nat.le_refl _) _
        have hz := heap_alloc_new w (.cells #[v0, v1, v2, v3, v4, v5, v6, v7, v8, v9, .slice a10 n10 c10, .slice a11 n11 c11, .slice a12 n12 c12, v13, v14, .slice a15 n15 c15, .slice a16 n16 c16, v17, v18, v19, .slice a20 n20 c20, v21, v22, v23, v24] 43)
        have z10 : (w.alloc (.cells #[v0, v1, v2, v3, v4, v5, v6, v7, v8, v9, .slice a10 n10 c10, .slice a11 n11 c11, .slice a12 n12 c12, v13, v14, .slice a15 n15 c15, .slice a16 n16 c16, v17, v18, v19, .slice a20 n20 c20, v21, v22, v23, v24] 43)).cell? ⟨w.heap.size, 10, none⟩ = some (.slice a10 n10 c10) := by simp only [World.cell?, hz]; rfl
        have z11 : (w.alloc (.cells #[v0, v1, v2, v3, v4, v5, v6, v7, v8, v9, .slice a10 n10 c10, .slice a11 n11 c11, .slice a12 n12 c12, v13, v14, .slice a15 n15 c15, .slice a16 n16 c16, v17, v18, v19, .slice a20 n20 c20, v21, v22, v23, v24] 43)).cell? ⟨w.heap.size, 11, none⟩ = some (.slice a11 n11 c11) := by simp only [World.cell?, hz]; rfl
        have z12 : (w.alloc (.cells #[v0, v1, v2, v3, v4, v5, v6, v7, v8, v9, .slice a10 n10 c10, .slice a11 n11 c11, .slice a12 n12 c12, v13, v14, .slice a15 n15 c15, .slice a16 n16 c16, v17, v18, v19, .slice a20 n20 c20, v21, v22, v23, v24] 43)).cell? ⟨w.heap.size, 12, none⟩ = some (.slice a12 n12 c12) := by simp only [World.cell?, hz]; rfl
        have z15 : (w.alloc (.cells #[v0, v1, v2, v3, v4, v5, v6, v7, v8, v9, .slice a10 n10 c10, .slice a11 n11 c11, .slice a12 n12 c12, v13, v14, .slice a15 n15 c15, .slice a16 n16 c16, v17, v18, v19, .slice a20 n20 c20, v21, v22, v23, v24] 43)).cell? ⟨w.heap.size, 15, none⟩ = some (.slice a15 n15 c15) := by simp only [World.cell?, hz]; rfl
        have z16 : (w.alloc (.cells #[v0, v1, v2, v3, v4, v5, v6, v7, v8, v9, .slice a10 n10 c10, .slice a11 n11 c11, .slice a12 n12 c12, v13, v14, .slice a15 n15 c15, .slice a16 n16 c16, v17, v18, v19, .slice a20 n20 c20, v21, v22, v23, v24] 43)).cell? ⟨w.heap.size, 16, none⟩ = some (.slice a16 n16 c16) := by simp only [World.cell?, hz]; rfl
        have z20 : (w.alloc (.cells #[v0, v1, v2, v3, v4, v5, v6, v7, v8, v9, .slice a10 n10 c10, .slice a11 n11 c11, .slice a12 n12 c12, v13, v14, .slice a15 n15 c15, .slice a16 n16 c16, v17, v18, v19, .slice a20 n20 c20, v21, v22, v23, v24] 43)).cell? ⟨w.heap.size, 20, none⟩ = some (.slice a20 n20 c20) := by simp only [World.cell?, hz]; rfl
        clear hz
        go_enter Tryz.func24, Tryz.ntmps24
        go_upto_region 1 with fail
        generalize w.alloc (.cells #[v0, v1, v2, v3, v4, v5, v6, v7, v8, v9, .slice a10 n10 c10, .slice a11 n11 c11, .slice a12 n12 c12, v13, v14, .slice a15 n15 c15, .slice a16 n16 c16, v17, v18, v19, .slice a20 n20 c20, v21, v22, v23, v24] 43) = w1 at *
        go_wp2_with fail
        go_ret
        exact ⟨rfl, hb⟩
      · skip
        by_cases q3 : (n15 : Int) < 60
        rotate_left
        · skip
          refine ⟨false, fun w => ?_⟩
          have hb : Below w.heap.size w (w.alloc (.cells #[v0, v1, v2, v3, v4, v5, v6, v7, v8, v9, .slice a10 n10 c10, .slice a11 n11 c11, .slice a12 n12 c12, v13, v14, .slice a15 n15 c15, .slice a16 n16 c16, v17, v18, v19, .slice a20 n20 c20, v21, v22, v23, v24] 43)) := (Below.refl _ _).alloc (Nat.le_refl _) _
          have hz := heap_alloc_new w (.cells #[v0, v1, v2, v3, v4, v5, v6, v7, v8, v9, .slice a10 n10 c10, .slice a11 n11 c11, .slice a12 n12 c12, v13, v14, .slice a15 n15 c15, .slice a16 n16 c16, v17, v18, v19, .slice a20 n20 c20, v21, v22, v23, v24] 43)
          have z10 : (w.alloc (.cells #[v0, v1, v2, v3, v4, v5, v6, v7, v8, v9, .slice a10 n10 c10, .slice a11 n11 c11, .slice a12 n12 c12, v13, v14, .slice a15 n15 c15, .slice a16 n16 c16, v17, v18, v19, .slice a20 n20 c20, v21, v22, v23, v24] 43)).cell? ⟨w.heap.size, 10, none⟩ = some (.slice a10 n10 c10) := by simp only [World.cell?, hz]; rfl
          have z11 : (w.alloc (.cells #[v0, v1, v2, v3, v4, v5, v6, v7, v8, v9, .slice a10 n10 c10, .slice a11 n11 c11, .slice a12 n12 c12, v13, v14, .slice a15 n15 c15, .slice a16 n16 c16, v17, v18, v19, .slice a20 n20 c20, v21, v22, v23, v24] 43)).cell? ⟨w.heap.size, 11, none⟩ = some (.slice a11 n11 c11) := by simp only [World.cell?, hz]; rfl
          have z12 : (w.alloc (.cells #[v0, v1, v2, v3, v4, v5, v6, v7, v8, v9, .slice a10 n10 c10, .slice a11 n11 c11, .slice a12 n12 c12, v13, v14, .slice a15 n15 c15, .slice a16 n16 c16, v17, v18, v19, .slice a20 n20 c20, v21, v22, v23, v24] 43)).cell? ⟨w.heap.size, 12, none⟩ = some (.slice a12 n12 c12) := by simp only [World.cell?, hz]; rfl
          have z15 : (w.alloc (.cells #[v0, v1, v2, v3, v4, v5, v6, v7, v8, v9, .slice a10 n10 c10, .slice a11 n11 c11, .slice a12 n12 c12, v13, v14, .slice a15 n15 c15, .slice a16 n16 c16, v17, v18, v19, .slice a20 n20 c20, v21, v22, v23, v24] 43)).cell? ⟨w.heap.size, 15, none⟩ = some (.slice a15 n15 c15) := by simp only [World.cell?, hz]; rfl
          have z16 : (w.alloc (.cells #[v0, v1, v2, v3, v4, v5, v6, v7, v8, v9, .slice a10 n10 c10, .slice a11 n11 c11, .slice a12 n12 c12, v13, v14, .slice a15 n15 c15, .slice a16 n16 c16, v17, v18, v19, .slice a20 n20 c20, v21, v22, v23, v24] 43)).cell? ⟨w.heap.size, 16, none⟩ = some (.slice a16 n16 c16) := by simp only [World.cell?, hz]; rfl
          have z20 : (w.alloc (.cells #[v0, v1, v2, v3, v4, v5, v6, v7, v8, v9, .slice a10 n10 c10, .slice a11 n11 c11, .slice a12 n12 c12, v13, v14, .slice a15 n15 c15, .slice a16 n16 c16, v17, v18, v19, .slice a20 n20 c20, v21, v22, v23, v24] 43)).cell? ⟨w.heap.size, 20, none⟩ = some (.slice a20 n20 c20) := by simp only [World.cell?, hz]; rfl
          clear hz
          go_enter Tryz.func24, Tryz.ntmps24
          go_upto_region 1 with fail
          generalize w.alloc (.cells #[v0, v1, v2, v3, v4, v5, v6, v7, v8, v9, .slice a10 n10 c10, .slice a11 n11 c11, .slice a12 n12 c12, v13, v14, .slice a15 n15 c15, .slice a16 n16 c16, v17, v18, v19, .slice a20 n20 c20, v21, v22, v23, v24] 43) = w1 at *
          go_wp2_with fail
          go_ret
          exact ⟨rfl, hb⟩
        · skip
          by_cases q4 : (n16 : Int) < 60
          rotate_left
          · skip
            refine ⟨false, fun w => ?_⟩
            have hb : Below w.heap.size w (w.alloc (.cells #[v0, v1, v2, v3, v4, v5, v6, v7, v8, v9, .slice a10 n10 c10, .slice a11 n11 c11, .slice a12 n12 c12, v13, v14, .slice a15 n15 c15, .slice a16 n16 c16, v17, v18, v19, .slice a20 n20 c20, v21, v22, v23, v24] 43)) := (Below.refl _ _).alloc (Nat.le_refl _) _
            have hz := heap_alloc_new w (.cells #[v0, v1, v2, v3, v4, v5, v6, v7, v8, v9, .slice a10 n10 c10, .slice a11 n11 c11, .slice a12 n12 c12, v13, v14, .slice a15 n15 c15, .slice a16 n16 c16, v17, v18, v19, .slice a20 n20 c20, v21, v22, v23, v24] 43)
            have z10 : (w.alloc (.cells #[v0, v1, v2, v3, v4, v5, v6, v7, v8, v9, .slice a10 n10 c10, .slice a11 n11 c11, .slice a12 n12 c12, v13, v14, .slice a15 n15 c15, .slice a16 n16 c16, v17, v18, v19, .slice a20 n20 c20, v21, v22, v23, v24] 43)).cell? ⟨w.heap.size, 10, none⟩ = some (.slice a10 n10 c10) := by simp only [World.cell?, hz]; rfl
            have z11 : (w.alloc (.cells #[v0, v1, v2, v3, v4, v5, v6, v7, v8, v9, .slice a10 n10 c10, .slice a11 n11 c11, .slice a12 n12 c12, v13, v14, .slice a15 n15 c15, .slice a16 n16 c16, v17, v18, v19, .slice a20 n20 c20, v21, v22, v23, v24] 43)).cell? ⟨w.heap.size, 11, none⟩ = some (.slice a11 n11 c11) := by simp only [World.cell?, hz]; rfl
            have z12 : (w.alloc (.cells #[v0, v1, v2, v3, v4, v5, v6, v7, v8, v9, .slice a10 n10 c10, .slice a11 n11 c11, .slice a12 n12 c12, v13, v14, .slice a15 n15 c15, .slice a16 n16 c16, v17, v18, v19, .slice a20 n20 c20, v21, v22, v23, v24] 43)).cell? ⟨w.heap.size, 12, none⟩ = some (.slice a12 n12 c12) := by simp only [World.cell?, hz]; rfl
            have z15 : (w.alloc (.cells #[v0, v1, v2, v3, v4, v5, v6, v7, v8, v9, .slice a10 n10 c10, .slice a11 n11 c11, .slice a12 n12 c12, v13, v14, .slice a15 n15 c15, .slice a16 n16 c16, v17, v18, v19, .slice a20 n20 c20, v21, v22, v23, v24] 43)).cell? ⟨w.heap.size, 15, none⟩ = some (.slice a15 n15 c15) := by simp only [World.cell?, hz]; rfl
            have z16 : (w.alloc (.cells #[v0, v1, v2, v3, v4, v5, v6, v7, v8, v9, .slice a10 n10 c10, .slice a11 n11 c11, .slice a12 n12 c12, v13, v14, .slice a15 n15 c15, .slice a16 n16 c16, v17, v18, v19, .slice a20 n20 c20, v21, v22, v23, v24] 43)).cell? ⟨w.heap.size, 16, none⟩ = some (.slice a16 n16 c16) := by simp only [World.cell?, hz]; rfl
            have z20 : (w.alloc (.cells #[v0, v1, v2, v3, v4, v5, v6, v7, v8, v9, .slice a10 n10 c10, .slice a11 n11 c11, .slice a12 n12 c12, v13, v14, .slice a15 n15 c15, .slice a16 n16 c16, v17, v18, v19, .slice a20 n20 c20, v21, v22, v23, v24] 43)).cell? ⟨w.heap.size, 20, none⟩ = some (.slice a20 n20 c20) := by simp only [World.cell?, hz]; rfl
            clear hz
            go_enter Tryz.func24, Tryz.ntmps24
            go_upto_region 1 with fail
            generalize w.alloc (.cells #[v0, v1, v2, v3, v4, v5, v6, v7, v8, v9, .slice a10 n10 c10, .slice a11 n11 c11, .slice a12 n12 c12, v13, v14, .slice a15 n15 c15, .slice a16 n16 c16, v17, v18, v19, .slice a20 n20 c20, v21, v22, v23, v24] 43) = w1 at *
            go_wp2_with fail
            go_ret
            exact ⟨rfl, hb⟩
          · skip
            by_cases q5 : (n20 : Int) < 60
            rotate_left
            · skip
              refine ⟨false, fun w => ?_⟩
              have hb : Below w.heap.size w (w.alloc (.cells #[v0, v1, v2, v3, v4, v5, v6, v7, v8, v9, .slice a10 n10 c10, .slice a11 n11 c11, .slice a12 n12 c12, v13, v14, .slice a15 n15 c15, .slice a16 n16 c16, v17, v18, v19, .slice a20 n20 c20, v21, v22, v23, v24] 43)) := (Below.refl _ _).alloc (Nat.le_refl _) _
              have hz := heap_alloc_new w (.cells #[v0, v1, v2, v3, v4, v5, v6, v7, v8, v9, .slice a10 n10 c10, .slice a11 n11 c11, .slice a12 n12 c12, v13, v14, .slice a15 n15 c15, .slice a16 n16 c16, v17, v18, v19, .slice a20 n20 c20, v21, v22, v23, v24] 43)
              have z10 : (w.alloc (.cells #[v0, v1, v2, v3, v4, v5, v6, v7, v8, v9, .slice a10 n10 c10, .slice a11 n11 c11, .slice a12 n12 c12, v13, v14, .slice a15 n15 c15, .slice a16 n16 c16, v17, v18, v19, .slice a20 n20 c20, v21, v22, v23, v24] 43)).cell? ⟨w.heap.size, 10, none⟩ = some (.slice a10 n10 c10) := by simp only [World.cell?, hz]; rfl
              have z11 : (w.alloc (.cells #[v0, v1, v2, v3, v4, v5, v6, v7, v8, v9, .slice a10 n10 c10, .slice a11 n11 c11, .slice a12 n12 c12, v13, v14, .slice a15 n15 c15, .slice a16 n16 c16, v17, v18, v19, .slice a20 n20 c20, v21, v22, v23, v24] 43)).cell? ⟨w.heap.size, 11, none⟩ = some (.slice a11 n11 c11) := by simp only [World.cell?, hz]; rfl
              have z12 : (w.alloc (.cells #[v0, v1, v2, v3, v4, v5, v6, v7, v8, v9, .slice a10 n10 c10, .slice a11 n11 c11, .slice a12 n12 c12, v13, v14, .slice a15 n15 c15, .slice a16 n16 c16, v17, v18, v19, .slice a20 n20 c20, v21, v22, v23, v24] 43)).cell? ⟨w.heap.size, 12, none⟩ = some (.slice a12 n12 c12) := by simp only [World.cell?, hz]; rfl
              have z15 : (w.alloc (.cells #[v0, v1, v2, v3, v4, v5, v6, v7, v8, v9, .slice a10 n10 c10, .slice a11 n11 c11, .slice a12 n12 c12, v13, v14, .slice a15 n15 c15, .slice a16 n16 c16, v17, v18, v19, .slice a20 n20 c20, v21, v22, v23, v24] 43)).cell? ⟨w.heap.size, 15, none⟩ = some (.slice a15 n15 c15) := by simp only [World.cell?, hz]; rfl
              have z16 : (w.alloc (.cells #[v0, v1, v2, v3, v4, v5, v6, v7, v8, v9, .slice a10 n10 c10, .slice a11 n11 c11, .slice a12 n12 c12, v13, v14, .slice a15 n15 c15, .slice a16 n16 c16, v17, v18, v19, .slice a20 n20 c20, v21, v22, v23, v24] 43)).cell? ⟨w.heap.size, 16, none⟩ = some (.slice a16 n16 c16) := by simp only [World.cell?, hz]; rfl
              have z20 : (w.alloc (.cells #[v0, v1, v2, v3, v4, v5, v6, v7, v8, v9, .slice a10 n10 c10, .slice a11 n11 c11, .slice a12 n12 c12, v13, v14, .slice a15 n15 c15, .slice a16 n16 c16, v17, v18, v19, .slice a20 n20 c20, v21, v22, v23, v24] 43)).cell? ⟨w.heap.size, 20, none⟩ = some (.slice a20 n20 c20) := by simp only [World.cell?, hz]; rfl
              clear hz
              go_enter Tryz.func24, Tryz.ntmps24
              go_upto_region 1 with fail
              generalize w.alloc (.cells #[v0, v1, v2, v3, v4, v5, v6, v7, v8, v9, .slice a10 n10 c10, .slice a11 n11 c11, .slice a12 n12 c12, v13, v14, .slice a15 n15 c15, .slice a16 n16 c16, v17, v18, v19, .slice a20 n20 c20, v21, v22, v23, v24] 43) = w1 at *
              go_wp2_with fail
              go_ret
              exact ⟨rfl, hb⟩
            · skip
              refine ⟨true, fun w => ?_⟩
              have hb : Below w.heap.size w (w.alloc (.cells #[v0, v1, v2, v3, v4, v5, v6, v7, v8, v9, .slice a10 n10 c10, .slice a11 n11 c11, .slice a12 n12 c12, v13, v14, .slice a15 n15 c15, .slice a16 n16 c16, v17, v18, v19, .slice a20 n20 c20, v21, v22, v23, v24] 43)) := (Below.refl _ _).alloc (Nat.le_refl _) _
              have hz := heap_alloc_new w (.cells #[v0, v1, v2, v3, v4, v5, v6, v7, v8, v9, .slice a10 n10 c10, .slice a11 n11 c11, .slice a12 n12 c12, v13, v14, .slice a15 n15 c15, .slice a16 n16 c16, v17, v18, v19, .slice a20 n20 c20, v21, v22, v23, v24] 43)
              have z10 : (w.alloc (.cells #[v0, v1, v2, v3, v4, v5, v6, v7, v8, v9, .slice a10 n10 c10, .slice a11 n11 c11, .slice a12 n12 c12, v13, v14, .slice a15 n15 c15, .slice a16 n16 c16, v17, v18, v19, .slice a20 n20 c20, v21, v22, v23, v24] 43)).cell? ⟨w.heap.size, 10, none⟩ = some (.slice a10 n10 c10) := by simp only [World.cell?, hz]; rfl
              have z11 : (w.alloc (.cells #[v0, v1, v2, v3, v4, v5, v6, v7, v8, v9, .slice a10 n10 c10, .slice a11 n11 c11, .slice a12 n12 c12, v13, v14, .slice a15 n15 c15, .slice a16 n16 c16, v17, v18, v19, .slice a20 n20 c20, v21, v22, v23, v24] 43)).cell? ⟨w.heap.size, 11, none⟩ = some (.slice a11 n11 c11) := by simp only [World.cell?, hz]; rfl
              have z12 : (w.alloc (.cells #[v0, v1, v2, v3, v4, v5, v6, v7, v8, v9, .slice a10 n10 c10, .slice a11 n11 c11, .slice a12 n12 c12, v13, v14, .slice a15 n15 c15, .slice a16 n16 c16, v17, v18, v19, .slice a20 n20 c20, v21, v22, v23, v24] 43)).cell? ⟨w.heap.size, 12, none⟩ = some (.slice a12 n12 c12) := by simp only [World.cell?, hz]; rfl
              have z15 : (w.alloc (.cells #[v0, v1, v2, v3, v4, v5, v6, v7, v8, v9, .slice a10 n10 c10, .slice a11 n11 c11, .slice a12 n12 c12, v13, v14, .slice a15 n15 c15, .slice a16 n16 c16, v17, v18, v19, .slice a20 n20 c20, v21, v22, v23, v24] 43)).cell? ⟨w.heap.size, 15, none⟩ = some (.slice a15 n15 c15) := by simp only [World.cell?, hz]; rfl
              have z16 : (w.alloc (.cells #[v0, v1, v2, v3, v4, v5, v6, v7, v8, v9, .slice a10 n10 c10, .slice a11 n11 c11, .slice a12 n12 c12, v13, v14, .slice a15 n15 c15, .slice a16 n16 c16, v17, v18, v19, .slice a20 n20 c20, v21, v22, v23, v24] 43)).cell? ⟨w.heap.size, 16, none⟩ = some (.slice a16 n16 c16) := by simp only [World.cell?, hz]; rfl
              have z20 : (w.alloc (.cells #[v0, v1, v2, v3, v4, v5, v6, v7, v8, v9, .slice a10 n10 c10, .slice a11 n11 c11, .slice a12 n12 c12, v13, v14, .slice a15 n15 c15, .slice a16 n16 c16, v17, v18, v19, .slice a20 n20 c20, v21, v22, v23, v24] 43)).cell? ⟨w.heap.size, 20, none⟩ = some (.slice a20 n20 c20) := by simp only [World.cell?, hz]; rfl
              clear hz
              go_enter Tryz.func24, Tryz.ntmps24
              go_upto_region 1 with fail
              generalize w.alloc (.cells #[v0, v1, v2, v3, v4, v5, v6, v7, v8, v9, .slice a10 n10 c10, .slice a11 n11 c11, .slice a12 n12 c12, v13, v14, .slice a15 n15 c15, .slice a16 n16 c16, v17, v18, v19, .slice a20 n20 c20, v21, v22, v23, v24] 43) = w1 at *
              go_wp2_with fail
              go_ret
              exact ⟨rfl, hb⟩
end Go.Proofs.YtdfccaehoodjhaaGreat

set_option linter.unusedVariables false
set_option linter.unusedSimpArgs false
set_option maxRecDepth 100000
namespace Go.Proofs.YtdfccaehoodjhaaGreat
open Go.RowKit Go.Deep

theorem cmdq_any {W0 : World} {cs : List Value} {b : List UInt8} (h : Enc W0 sCommand cs b) : ∃ qc, ∀ w, Calls Tryz.prog 24 #[.agg cs.toArray] w (fun e w' => e = .returned (.bool qc) ∧ Below w.heap.size w w') := by
  obtain ⟨v0, v1, v2, v3, v4, v5, v6, v7, v8, v9, v10, v11, v12, v13, v14, v15, v16, v17, v18, v19, v20, v21, v22, v23, v24, b0, b1, b2, b3, b4, b5, b6, b7, b8, b9, b10, b11, b12, b13, b14, b15, b16, b17, b18, b19, b20, b21, b22, b23, b24, rfl, rfl, e0, e1, e2, e3, e4, e5, e6, e7, e8, e9, e10, e11, e12, e13, e14, e15, e16, e17, e18, e19, e20, e21, e22, e23, e24⟩ := Command_cells h
  exact command_any e0 e1 e2 e3 e4 e5 e6 e7 e8 e9 e10 e11 e12 e13 e14 e15 e16 e17 e18 e19 e20 e21 e22 e23 e24
theorem topCall_any {W : World} {cs : List Value} {b : List UInt8} (h : Enc W sCall cs b) (hl : b.length ≤ 1000000000000) : Calls Tryz.prog 25 #[.agg cs.toArray] W (Gives 5 W b) := by
  obtain ⟨v0, v1, v2, b0, b1, b2, rfl, rfl, e0, e1, e2⟩ := Call_cells h
  exact wtopCall_any e0 e1 e2 hl
theorem topCommand_any {W : World} {cs : List Value} {b : List UInt8} (h : Enc W sCommand cs b) (hl : b.length ≤ 1000000000000) : Calls Tryz.prog 26 #[.agg cs.toArray] W (Gives 5 W b) := by
  obtain ⟨v0, v1, v2, v3, v4, v5, v6, v7, v8, v9, v10, v11, v12, v13, v14, v15, v16, v17, v18, v19, v20, v21, v22, v23, v24, b0, b1, b2, b3, b4, b5, b6, b7, b8, b9, b10, b11, b12, b13, b14, b15, b16, b17, b18, b19, b20, b21, b22, b23, b24, rfl, rfl, e0, e1, e2, e3, e4, e5, e6, e7, e8, e9, e10, e11, e12, e13, e14, e15, e16, e17, e18, e19, e20, e21, e22, e23, e24⟩ := Command_cells h
  exact wtopCommand_any e0 e1 e2 e3 e4 e5 e6 e7 e8 e9 e10 e11 e12 e13 e14 e15 e16 e17 e18 e19 e20 e21 e22 e23 e24 hl
theorem topReply_any {W : World} {cs : List Value} {b : List UInt8} (h : Enc W sReply cs b) (hl : b.length ≤ 1000000000000) : Calls Tryz.prog 27 #[.agg cs.toArray] W (Gives 5 W b) := by
  obtain ⟨v0, v1, v2, v3, v4, v5, v6, v7, v8, v9, v10, v11, v12, v13, v14, b0, b1, b2, b3, b4, b5, b6, b7, b8, b9, b10, b11, b12, b13, b14, rfl, rfl, e0, e1, e2, e3, e4, e5, e6, e7, e8, e9, e10, e11, e12, e13, e14⟩ := Reply_cells h
  exact wtopReply_any e0 e1 e2 e3 e4 e5 e6 e7 e8 e9 e10 e11 e12 e13 e14 hl
theorem topAsk_any {W : World} {cs : List Value} {b : List UInt8} (h : Enc W sAsk cs b) (hl : b.length ≤ 1000000000000) : Calls Tryz.prog 28 #[.agg cs.toArray] W (Gives 5 W b) := by
  obtain ⟨v0, v1, v2, v3, v4, v5, v6, v7, v8, v9, v10, v11, v12, v13, v14, v15, b0, b1, b2, b3, b4, b5, b6, b7, b8, b9, b10, b11, b12, b13, b14, b15, rfl, rfl, e0, e1, e2, e3, e4, e5, e6, e7, e8, e9, e10, e11, e12, e13, e14, e15⟩ := Ask_cells h
  exact wtopAsk_any e0 e1 e2 e3 e4 e5 e6 e7 e8 e9 e10 e11 e12 e13 e14 e15 hl
end Go.Proofs.YtdfccaehoodjhaaGreat

set_option linter.unusedVariables false
set_option linter.unusedSimpArgs false
set_option maxRecDepth 100000
namespace Go.Proofs.YtdfccaehoodjhaaGreat
open Go.RowKit Go.Deep

theorem Value_twin {W : World} {c1 c2 : List Value} (h : Twin W sValue c1 c2) : ∃ (v0 v1 v2 u0 u1 u2 : Value), c1 = [v0, v1, v2] ∧ c2 = [u0, u1, u2] ∧ Twin W .int [v0] [u0] ∧ Twin W .int [v1] [u1] ∧ Twin W .name [v2] [u2] := by
  unfold sValue at h
  obtain ⟨x0, y0, p0, q0, rfl, rfl, f0, h0⟩ := h.cons
  obtain ⟨v0, u0, rfl, rfl, e0⟩ := f0.one rfl
  obtain ⟨x1, y1, p1, q1, rfl, rfl, f1, h1⟩ := h0.cons
  obtain ⟨v1, u1, rfl, rfl, e1⟩ := f1.one rfl
  obtain ⟨x2, y2, p2, q2, rfl, rfl, f2, h2⟩ := h1.cons
  obtain ⟨v2, u2, rfl, rfl, e2⟩ := f2.one rfl
  obtain ⟨rfl, rfl⟩ := h2.nil
  exact ⟨v0, v1, v2, u0, u1, u2, rfl, rfl, e0, e1, e2⟩

theorem Column_twin {W : World} {c1 c2 : List Value} (h : Twin W sColumn c1 c2) : ∃ (v0 v1 v2 u0 u1 u2 : Value), c1 = [v0, v1, v2] ∧ c2 = [u0, u1, u2] ∧ Twin W .name [v0] [u0] ∧ Twin W .int [v1] [u1] ∧ Twin W .bool [v2] [u2] := by
  unfold sColumn at h
  obtain ⟨x0, y0, p0, q0, rfl, rfl, f0, h0⟩ := h.cons
  obtain ⟨v0, u0, rfl, rfl, e0⟩ := f0.one rfl
  obtain ⟨x1, y1, p1, q1, rfl, rfl, f1, h1⟩ := h0.cons
  obtain ⟨v1, u1, rfl, rfl, e1⟩ := f1.one rfl
  obtain ⟨x2, y2, p2, q2, rfl, rfl, f2, h2⟩ := h1.cons
  obtain ⟨v2, u2, rfl, rfl, e2⟩ := f2.one rfl
  obtain ⟨rfl, rfl⟩ := h2.nil
  exact ⟨v0, v1, v2, u0, u1, u2, rfl, rfl, e0, e1, e2⟩

theorem Table_twin {W : World} {c1 c2 : List Value} (h : Twin W sTable c1 c2) : ∃ (v0 v1 v2 v3 u0 u1 u2 u3 : Value), c1 = [v0, v1, v2, v3] ∧ c2 = [u0, u1, u2, u3] ∧ Twin W .int [v0] [u0] ∧ Twin W .name [v1] [u1] ∧ Twin W (.list sColumn) [v2] [u2] ∧ Twin W (.list .int) [v3] [u3] := by
  unfold sTable at h
  obtain ⟨x0, y0, p0, q0, rfl, rfl, f0, h0⟩ := h.cons
  obtain ⟨v0, u0, rfl, rfl, e0⟩ := f0.one rfl
  obtain ⟨x1, y1, p1, q1, rfl, rfl, f1, h1⟩ := h0.cons
  obtain ⟨v1, u1, rfl, rfl, e1⟩ := f1.one rfl
  obtain ⟨x2, y2, p2, q2, rfl, rfl, f2, h2⟩ := h1.cons
  obtain ⟨v2, u2, rfl, rfl, e2⟩ := f2.one rfl
  obtain ⟨x3, y3, p3, q3, rfl, rfl, f3, h3⟩ := h2.cons
  obtain ⟨v3, u3, rfl, rfl, e3⟩ := f3.one rfl
  obtain ⟨rfl, rfl⟩ := h3.nil
  exact ⟨v0, v1, v2, v3, u0, u1, u2, u3, rfl, rfl, e0, e1, e2, e3⟩

theorem Index_twin {W : World} {c1 c2 : List Value} (h : Twin W sIndex c1 c2) : ∃ (v0 v1 v2 v3 v4 v5 v6 u0 u1 u2 u3 u4 u5 u6 : Value), c1 = [v0, v1, v2, v3, v4, v5, v6] ∧ c2 = [u0, u1, u2, u3, u4, u5, u6] ∧ Twin W .int [v0] [u0] ∧ Twin W .int [v1] [u1] ∧ Twin W .name [v2] [u2] ∧ Twin W (.list .int) [v3] [u3] ∧ Twin W .bool [v4] [u4] ∧ Twin W .int [v5] [u5] ∧ Twin W .bool [v6] [u6] := by
  unfold sIndex at h
  obtain ⟨x0, y0, p0, q0, rfl, rfl, f0, h0⟩ := h.cons
  obtain ⟨v0, u0, rfl, rfl, e0⟩ := f0.one rfl
  obtain ⟨x1, y1, p1, q1, rfl, rfl, f1, h1⟩ := h0.cons
  obtain ⟨v1, u1, rfl, rfl, e1⟩ := f1.one rfl
  obtain ⟨x2, y2, p2, q2, rfl, rfl, f2, h2⟩ := h1.cons
  obtain ⟨v2, u2, rfl, rfl, e2⟩ := f2.one rfl
  obtain ⟨x3, y3, p3, q3, rfl, rfl, f3, h3⟩ := h2.cons
  obtain ⟨v3, u3, rfl, rfl, e3⟩ := f3.one rfl
  obtain ⟨x4, y4, p4, q4, rfl, rfl, f4, h4⟩ := h3.cons
  obtain ⟨v4, u4, rfl, rfl, e4⟩ := f4.one rfl
  obtain ⟨x5, y5, p5, q5, rfl, rfl, f5, h5⟩ := h4.cons
  obtain ⟨v5, u5, rfl, rfl, e5⟩ := f5.one rfl
  obtain ⟨x6, y6, p6, q6, rfl, rfl, f6, h6⟩ := h5.cons
  obtain ⟨v6, u6, rfl, rfl, e6⟩ := f6.one rfl
  obtain ⟨rfl, rfl⟩ := h6.nil
  exact ⟨v0, v1, v2, v3, v4, v5, v6, u0, u1, u2, u3, u4, u5, u6, rfl, rfl, e0, e1, e2, e3, e4, e5, e6⟩

theorem Catalog_twin {W : World} {c1 c2 : List Value} (h : Twin W sCatalog c1 c2) : ∃ (v0 v1 v2 v3 u0 u1 u2 u3 : Value), c1 = [v0, v1, v2, v3] ∧ c2 = [u0, u1, u2, u3] ∧ Twin W .int [v0] [u0] ∧ Twin W .int [v1] [u1] ∧ Twin W (.list sTable) [v2] [u2] ∧ Twin W (.list sIndex) [v3] [u3] := by
  unfold sCatalog at h
  obtain ⟨x0, y0, p0, q0, rfl, rfl, f0, h0⟩ := h.cons
  obtain ⟨v0, u0, rfl, rfl, e0⟩ := f0.one rfl
  obtain ⟨x1, y1, p1, q1, rfl, rfl, f1, h1⟩ := h0.cons
  obtain ⟨v1, u1, rfl, rfl, e1⟩ := f1.one rfl
  obtain ⟨x2, y2, p2, q2, rfl, rfl, f2, h2⟩ := h1.cons
  obtain ⟨v2, u2, rfl, rfl, e2⟩ := f2.one rfl
  obtain ⟨x3, y3, p3, q3, rfl, rfl, f3, h3⟩ := h2.cons
  obtain ⟨v3, u3, rfl, rfl, e3⟩ := f3.one rfl
  obtain ⟨rfl, rfl⟩ := h3.nil
  exact ⟨v0, v1, v2, v3, u0, u1, u2, u3, rfl, rfl, e0, e1, e2, e3⟩

theorem Pair_twin {W : World} {c1 c2 : List Value} (h : Twin W sPair c1 c2) : ∃ (v0 v1 v2 u0 u1 u2 : Value), c1 = [v0, v1, v2] ∧ c2 = [u0, u1, u2] ∧ Twin W .data [v0] [u0] ∧ Twin W .data [v1] [u1] ∧ Twin W .int [v2] [u2] := by
  unfold sPair at h
  obtain ⟨x0, y0, p0, q0, rfl, rfl, f0, h0⟩ := h.cons
  obtain ⟨v0, u0, rfl, rfl, e0⟩ := f0.one rfl
  obtain ⟨x1, y1, p1, q1, rfl, rfl, f1, h1⟩ := h0.cons
  obtain ⟨v1, u1, rfl, rfl, e1⟩ := f1.one rfl
  obtain ⟨x2, y2, p2, q2, rfl, rfl, f2, h2⟩ := h1.cons
  obtain ⟨v2, u2, rfl, rfl, e2⟩ := f2.one rfl
  obtain ⟨rfl, rfl⟩ := h2.nil
  exact ⟨v0, v1, v2, u0, u1, u2, rfl, rfl, e0, e1, e2⟩

theorem Write_twin {W : World} {c1 c2 : List Value} (h : Twin W sWrite c1 c2) : ∃ (v0 v1 v2 u0 u1 u2 : Value), c1 = [v0, v1, v2] ∧ c2 = [u0, u1, u2] ∧ Twin W .data [v0] [u0] ∧ Twin W .data [v1] [u1] ∧ Twin W .bool [v2] [u2] := by
  unfold sWrite at h
  obtain ⟨x0, y0, p0, q0, rfl, rfl, f0, h0⟩ := h.cons
  obtain ⟨v0, u0, rfl, rfl, e0⟩ := f0.one rfl
  obtain ⟨x1, y1, p1, q1, rfl, rfl, f1, h1⟩ := h0.cons
  obtain ⟨v1, u1, rfl, rfl, e1⟩ := f1.one rfl
  obtain ⟨x2, y2, p2, q2, rfl, rfl, f2, h2⟩ := h1.cons
  obtain ⟨v2, u2, rfl, rfl, e2⟩ := f2.one rfl
  obtain ⟨rfl, rfl⟩ := h2.nil
  exact ⟨v0, v1, v2, u0, u1, u2, rfl, rfl, e0, e1, e2⟩

theorem Span_twin {W : World} {c1 c2 : List Value} (h : Twin W sSpan c1 c2) : ∃ (v0 v1 u0 u1 : Value), c1 = [v0, v1] ∧ c2 = [u0, u1] ∧ Twin W .data [v0] [u0] ∧ Twin W .data [v1] [u1] := by
  unfold sSpan at h
  obtain ⟨x0, y0, p0, q0, rfl, rfl, f0, h0⟩ := h.cons
  obtain ⟨v0, u0, rfl, rfl, e0⟩ := f0.one rfl
  obtain ⟨x1, y1, p1, q1, rfl, rfl, f1, h1⟩ := h0.cons
  obtain ⟨v1, u1, rfl, rfl, e1⟩ := f1.one rfl
  obtain ⟨rfl, rfl⟩ := h1.nil
  exact ⟨v0, v1, u0, u1, rfl, rfl, e0, e1⟩

theorem Seen_twin {W : World} {c1 c2 : List Value} (h : Twin W sSeen c1 c2) : ∃ (v0 v1 v2 u0 u1 u2 : Value), c1 = [v0, v1, v2] ∧ c2 = [u0, u1, u2] ∧ Twin W .data [v0] [u0] ∧ Twin W .data [v1] [u1] ∧ Twin W (.list sPair) [v2] [u2] := by
  unfold sSeen at h
  obtain ⟨x0, y0, p0, q0, rfl, rfl, f0, h0⟩ := h.cons
  obtain ⟨v0, v1, u0, u1, rfl, rfl, e0, e1⟩ := Span_twin f0
  obtain ⟨x2, y2, p2, q2, rfl, rfl, f2, h2⟩ := h0.cons
  obtain ⟨v2, u2, rfl, rfl, e2⟩ := f2.one rfl
  obtain ⟨rfl, rfl⟩ := h2.nil
  exact ⟨v0, v1, v2, u0, u1, u2, rfl, rfl, e0, e1, e2⟩

theorem Command_twin {W : World} {c1 c2 : List Value} (h : Twin W sCommand c1 c2) : ∃ (v0 v1 v2 v3 v4 v5 v6 v7 v8 v9 v10 v11 v12 v13 v14 v15 v16 v17 v18 v19 v20 v21 v22 v23 v24 u0 u1 u2 u3 u4 u5 u6 u7 u8 u9 u10 u11 u12 u13 u14 u15 u16 u17 u18 u19 u20 u21 u22 u23 u24 : Value), c1 = [v0, v1, v2, v3, v4, v5, v6, v7, v8, v9, v10, v11, v12, v13, v14, v15, v16, v17, v18, v19, v20, v21, v22, v23, v24] ∧ c2 = [u0, u1, u2, u3, u4, u5, u6, u7, u8, u9, u10, u11, u12, u13, u14, u15, u16, u17, u18, u19, u20, u21, u22, u23, u24] ∧ Twin W .int [v0] [u0] ∧ Twin W .int [v1] [u1] ∧ Twin W .num [v2] [u2] ∧ Twin W .int [v3] [u3] ∧ Twin W .int [v4] [u4] ∧ Twin W .int [v5] [u5] ∧ Twin W .bool [v6] [u6] ∧ Twin W .data [v7] [u7] ∧ Twin W .data [v8] [u8] ∧ Twin W .data [v9] [u9] ∧ Twin W (.list sPair) [v10] [u10] ∧ Twin W (.list sSeen) [v11] [u11] ∧ Twin W (.list sWrite) [v12] [u12] ∧ Twin W .int [v13] [u13] ∧ Twin W .name [v14] [u14] ∧ Twin W (.list sColumn) [v15] [u15] ∧ Twin W (.list .int) [v16] [u16] ∧ Twin W .int [v17] [u17] ∧ Twin W .int [v18] [u18] ∧ Twin W .name [v19] [u19] ∧ Twin W (.list .int) [v20] [u20] ∧ Twin W .bool [v21] [u21] ∧ Twin W .int [v22] [u22] ∧ Twin W .bool [v23] [u23] ∧ Twin W .name [v24] [u24] := by
  unfold sCommand at h
  obtain ⟨x0, y0, p0, q0, rfl, rfl, f0, h0⟩ := h.cons
  obtain ⟨v0, u0, rfl, rfl, e0⟩ := f0.one rfl
  obtain ⟨x1, y1, p1, q1, rfl, rfl, f1, h1⟩ := h0.cons
  obtain ⟨v1, u1, rfl, rfl, e1⟩ := f1.one rfl
  obtain ⟨x2, y2, p2, q2, rfl, rfl, f2, h2⟩ := h1.cons
  obtain ⟨v2, u2, rfl, rfl, e2⟩ := f2.one rfl
  obtain ⟨x3, y3, p3, q3, rfl, rfl, f3, h3⟩ := h2.cons
  obtain ⟨v3, u3, rfl, rfl, e3⟩ := f3.one rfl
  obtain ⟨x4, y4, p4, q4, rfl, rfl, f4, h4⟩ := h3.cons
  obtain ⟨v4, u4, rfl, rfl, e4⟩ := f4.one rfl
  obtain ⟨x5, y5, p5, q5, rfl, rfl, f5, h5⟩ := h4.cons
  obtain ⟨v5, u5, rfl, rfl, e5⟩ := f5.one rfl
  obtain ⟨x6, y6, p6, q6, rfl, rfl, f6, h6⟩ := h5.cons
  obtain ⟨v6, u6, rfl, rfl, e6⟩ := f6.one rfl
  obtain ⟨x7, y7, p7, q7, rfl, rfl, f7, h7⟩ := h6.cons
  obtain ⟨v7, u7, rfl, rfl, e7⟩ := f7.one rfl
  obtain ⟨x8, y8, p8, q8, rfl, rfl, f8, h8⟩ := h7.cons
  obtain ⟨v8, v9, u8, u9, rfl, rfl, e8, e9⟩ := Span_twin f8
  obtain ⟨x10, y10, p10, q10, rfl, rfl, f10, h10⟩ := h8.cons
  obtain ⟨v10, u10, rfl, rfl, e10⟩ := f10.one rfl
  obtain ⟨x11, y11, p11, q11, rfl, rfl, f11, h11⟩ := h10.cons
  obtain ⟨v11, u11, rfl, rfl, e11⟩ := f11.one rfl
  obtain ⟨x12, y12, p12, q12, rfl, rfl, f12, h12⟩ := h11.cons
  obtain ⟨v12, u12, rfl, rfl, e12⟩ := f12.one rfl
  obtain ⟨x13, y13, p13, q13, rfl, rfl, f13, h13⟩ := h12.cons
  obtain ⟨v13, v14, v15, v16, u13, u14, u15, u16, rfl, rfl, e13, e14, e15, e16⟩ := Table_twin f13
  obtain ⟨x17, y17, p17, q17, rfl, rfl, f17, h17⟩ := h13.cons
  obtain ⟨v17, v18, v19, v20, v21, v22, v23, u17, u18, u19, u20, u21, u22, u23, rfl, rfl, e17, e18, e19, e20, e21, e22, e23⟩ := Index_twin f17
  obtain ⟨x24, y24, p24, q24, rfl, rfl, f24, h24⟩ := h17.cons
  obtain ⟨v24, u24, rfl, rfl, e24⟩ := f24.one rfl
  obtain ⟨rfl, rfl⟩ := h24.nil
  exact ⟨v0, v1, v2, v3, v4, v5, v6, v7, v8, v9, v10, v11, v12, v13, v14, v15, v16, v17, v18, v19, v20, v21, v22, v23, v24, u0, u1, u2, u3, u4, u5, u6, u7, u8, u9, u10, u11, u12, u13, u14, u15, u16, u17, u18, u19, u20, u21, u22, u23, u24, rfl, rfl, e0, e1, e2, e3, e4, e5, e6, e7, e8, e9, e10, e11, e12, e13, e14, e15, e16, e17, e18, e19, e20, e21, e22, e23, e24⟩

theorem Owner_twin {W : World} {c1 c2 : List Value} (h : Twin W sOwner c1 c2) : ∃ (v0 v1 u0 u1 : Value), c1 = [v0, v1] ∧ c2 = [u0, u1] ∧ Twin W .int [v0] [u0] ∧ Twin W .data [v1] [u1] := by
  unfold sOwner at h
  obtain ⟨x0, y0, p0, q0, rfl, rfl, f0, h0⟩ := h.cons
  obtain ⟨v0, u0, rfl, rfl, e0⟩ := f0.one rfl
  obtain ⟨x1, y1, p1, q1, rfl, rfl, f1, h1⟩ := h0.cons
  obtain ⟨v1, u1, rfl, rfl, e1⟩ := f1.one rfl
  obtain ⟨rfl, rfl⟩ := h1.nil
  exact ⟨v0, v1, u0, u1, rfl, rfl, e0, e1⟩

theorem Routes_twin {W : World} {c1 c2 : List Value} (h : Twin W sRoutes c1 c2) : ∃ (v0 v1 v2 v3 v4 u0 u1 u2 u3 u4 : Value), c1 = [v0, v1, v2, v3, v4] ∧ c2 = [u0, u1, u2, u3, u4] ∧ Twin W .int [v0] [u0] ∧ Twin W .int [v1] [u1] ∧ Twin W (.list sOwner) [v2] [u2] ∧ Twin W .int [v3] [u3] ∧ Twin W .data [v4] [u4] := by
  unfold sRoutes at h
  obtain ⟨x0, y0, p0, q0, rfl, rfl, f0, h0⟩ := h.cons
  obtain ⟨v0, u0, rfl, rfl, e0⟩ := f0.one rfl
  obtain ⟨x1, y1, p1, q1, rfl, rfl, f1, h1⟩ := h0.cons
  obtain ⟨v1, u1, rfl, rfl, e1⟩ := f1.one rfl
  obtain ⟨x2, y2, p2, q2, rfl, rfl, f2, h2⟩ := h1.cons
  obtain ⟨v2, u2, rfl, rfl, e2⟩ := f2.one rfl
  obtain ⟨x3, y3, p3, q3, rfl, rfl, f3, h3⟩ := h2.cons
  obtain ⟨v3, u3, rfl, rfl, e3⟩ := f3.one rfl
  obtain ⟨x4, y4, p4, q4, rfl, rfl, f4, h4⟩ := h3.cons
  obtain ⟨v4, u4, rfl, rfl, e4⟩ := f4.one rfl
  obtain ⟨rfl, rfl⟩ := h4.nil
  exact ⟨v0, v1, v2, v3, v4, u0, u1, u2, u3, u4, rfl, rfl, e0, e1, e2, e3, e4⟩

theorem Reply_twin {W : World} {c1 c2 : List Value} (h : Twin W sReply c1 c2) : ∃ (v0 v1 v2 v3 v4 v5 v6 v7 v8 v9 v10 v11 v12 v13 v14 u0 u1 u2 u3 u4 u5 u6 u7 u8 u9 u10 u11 u12 u13 u14 : Value), c1 = [v0, v1, v2, v3, v4, v5, v6, v7, v8, v9, v10, v11, v12, v13, v14] ∧ c2 = [u0, u1, u2, u3, u4, u5, u6, u7, u8, u9, u10, u11, u12, u13, u14] ∧ Twin W .int [v0] [u0] ∧ Twin W .num [v1] [u1] ∧ Twin W .int [v2] [u2] ∧ Twin W .bool [v3] [u3] ∧ Twin W (.list sPair) [v4] [u4] ∧ Twin W (.list .num) [v5] [u5] ∧ Twin W .int [v6] [u6] ∧ Twin W .int [v7] [u7] ∧ Twin W (.list sTable) [v8] [u8] ∧ Twin W (.list sIndex) [v9] [u9] ∧ Twin W .int [v10] [u10] ∧ Twin W .int [v11] [u11] ∧ Twin W (.list sOwner) [v12] [u12] ∧ Twin W .int [v13] [u13] ∧ Twin W .data [v14] [u14] := by
  unfold sReply at h
  obtain ⟨x0, y0, p0, q0, rfl, rfl, f0, h0⟩ := h.cons
  obtain ⟨v0, u0, rfl, rfl, e0⟩ := f0.one rfl
  obtain ⟨x1, y1, p1, q1, rfl, rfl, f1, h1⟩ := h0.cons
  obtain ⟨v1, u1, rfl, rfl, e1⟩ := f1.one rfl
  obtain ⟨x2, y2, p2, q2, rfl, rfl, f2, h2⟩ := h1.cons
  obtain ⟨v2, u2, rfl, rfl, e2⟩ := f2.one rfl
  obtain ⟨x3, y3, p3, q3, rfl, rfl, f3, h3⟩ := h2.cons
  obtain ⟨v3, u3, rfl, rfl, e3⟩ := f3.one rfl
  obtain ⟨x4, y4, p4, q4, rfl, rfl, f4, h4⟩ := h3.cons
  obtain ⟨v4, u4, rfl, rfl, e4⟩ := f4.one rfl
  obtain ⟨x5, y5, p5, q5, rfl, rfl, f5, h5⟩ := h4.cons
  obtain ⟨v5, u5, rfl, rfl, e5⟩ := f5.one rfl
  obtain ⟨x6, y6, p6, q6, rfl, rfl, f6, h6⟩ := h5.cons
  obtain ⟨v6, v7, v8, v9, u6, u7, u8, u9, rfl, rfl, e6, e7, e8, e9⟩ := Catalog_twin f6
  obtain ⟨x10, y10, p10, q10, rfl, rfl, f10, h10⟩ := h6.cons
  obtain ⟨v10, v11, v12, v13, v14, u10, u11, u12, u13, u14, rfl, rfl, e10, e11, e12, e13, e14⟩ := Routes_twin f10
  obtain ⟨rfl, rfl⟩ := h10.nil
  exact ⟨v0, v1, v2, v3, v4, v5, v6, v7, v8, v9, v10, v11, v12, v13, v14, u0, u1, u2, u3, u4, u5, u6, u7, u8, u9, u10, u11, u12, u13, u14, rfl, rfl, e0, e1, e2, e3, e4, e5, e6, e7, e8, e9, e10, e11, e12, e13, e14⟩

theorem Set_twin {W : World} {c1 c2 : List Value} (h : Twin W sSet c1 c2) : ∃ (v0 v1 v2 v3 u0 u1 u2 u3 : Value), c1 = [v0, v1, v2, v3] ∧ c2 = [u0, u1, u2, u3] ∧ Twin W .int [v0] [u0] ∧ Twin W .int [v1] [u1] ∧ Twin W .int [v2] [u2] ∧ Twin W .name [v3] [u3] := by
  unfold sSet at h
  obtain ⟨x0, y0, p0, q0, rfl, rfl, f0, h0⟩ := h.cons
  obtain ⟨v0, u0, rfl, rfl, e0⟩ := f0.one rfl
  obtain ⟨x1, y1, p1, q1, rfl, rfl, f1, h1⟩ := h0.cons
  obtain ⟨v1, v2, v3, u1, u2, u3, rfl, rfl, e1, e2, e3⟩ := Value_twin f1
  obtain ⟨rfl, rfl⟩ := h1.nil
  exact ⟨v0, v1, v2, v3, u0, u1, u2, u3, rfl, rfl, e0, e1, e2, e3⟩

theorem Op_twin {W : World} {c1 c2 : List Value} (h : Twin W sOp c1 c2) : ∃ (v0 v1 v2 v3 v4 v5 v6 v7 v8 v9 v10 u0 u1 u2 u3 u4 u5 u6 u7 u8 u9 u10 : Value), c1 = [v0, v1, v2, v3, v4, v5, v6, v7, v8, v9, v10] ∧ c2 = [u0, u1, u2, u3, u4, u5, u6, u7, u8, u9, u10] ∧ Twin W .int [v0] [u0] ∧ Twin W .name [v1] [u1] ∧ Twin W .name [v2] [u2] ∧ Twin W (.list sValue) [v3] [u3] ∧ Twin W (.list sValue) [v4] [u4] ∧ Twin W (.list sSet) [v5] [u5] ∧ Twin W (.list sValue) [v6] [u6] ∧ Twin W (.list sValue) [v7] [u7] ∧ Twin W .int [v8] [u8] ∧ Twin W .bool [v9] [u9] ∧ Twin W (.list .data) [v10] [u10] := by
  unfold sOp at h
  obtain ⟨x0, y0, p0, q0, rfl, rfl, f0, h0⟩ := h.cons
  obtain ⟨v0, u0, rfl, rfl, e0⟩ := f0.one rfl
  obtain ⟨x1, y1, p1, q1, rfl, rfl, f1, h1⟩ := h0.cons
  obtain ⟨v1, u1, rfl, rfl, e1⟩ := f1.one rfl
  obtain ⟨x2, y2, p2, q2, rfl, rfl, f2, h2⟩ := h1.cons
  obtain ⟨v2, u2, rfl, rfl, e2⟩ := f2.one rfl
  obtain ⟨x3, y3, p3, q3, rfl, rfl, f3, h3⟩ := h2.cons
  obtain ⟨v3, u3, rfl, rfl, e3⟩ := f3.one rfl
  obtain ⟨x4, y4, p4, q4, rfl, rfl, f4, h4⟩ := h3.cons
  obtain ⟨v4, u4, rfl, rfl, e4⟩ := f4.one rfl
  obtain ⟨x5, y5, p5, q5, rfl, rfl, f5, h5⟩ := h4.cons
  obtain ⟨v5, u5, rfl, rfl, e5⟩ := f5.one rfl
  obtain ⟨x6, y6, p6, q6, rfl, rfl, f6, h6⟩ := h5.cons
  obtain ⟨v6, u6, rfl, rfl, e6⟩ := f6.one rfl
  obtain ⟨x7, y7, p7, q7, rfl, rfl, f7, h7⟩ := h6.cons
  obtain ⟨v7, u7, rfl, rfl, e7⟩ := f7.one rfl
  obtain ⟨x8, y8, p8, q8, rfl, rfl, f8, h8⟩ := h7.cons
  obtain ⟨v8, u8, rfl, rfl, e8⟩ := f8.one rfl
  obtain ⟨x9, y9, p9, q9, rfl, rfl, f9, h9⟩ := h8.cons
  obtain ⟨v9, u9, rfl, rfl, e9⟩ := f9.one rfl
  obtain ⟨x10, y10, p10, q10, rfl, rfl, f10, h10⟩ := h9.cons
  obtain ⟨v10, u10, rfl, rfl, e10⟩ := f10.one rfl
  obtain ⟨rfl, rfl⟩ := h10.nil
  exact ⟨v0, v1, v2, v3, v4, v5, v6, v7, v8, v9, v10, u0, u1, u2, u3, u4, u5, u6, u7, u8, u9, u10, rfl, rfl, e0, e1, e2, e3, e4, e5, e6, e7, e8, e9, e10⟩

theorem Ask_twin {W : World} {c1 c2 : List Value} (h : Twin W sAsk c1 c2) : ∃ (v0 v1 v2 v3 v4 v5 v6 v7 v8 v9 v10 v11 v12 v13 v14 v15 u0 u1 u2 u3 u4 u5 u6 u7 u8 u9 u10 u11 u12 u13 u14 u15 : Value), c1 = [v0, v1, v2, v3, v4, v5, v6, v7, v8, v9, v10, v11, v12, v13, v14, v15] ∧ c2 = [u0, u1, u2, u3, u4, u5, u6, u7, u8, u9, u10, u11, u12, u13, u14, u15] ∧ Twin W .int [v0] [u0] ∧ Twin W (.list sOp) [v1] [u1] ∧ Twin W .int [v2] [u2] ∧ Twin W .name [v3] [u3] ∧ Twin W (.list sColumn) [v4] [u4] ∧ Twin W (.list .int) [v5] [u5] ∧ Twin W .int [v6] [u6] ∧ Twin W .int [v7] [u7] ∧ Twin W .name [v8] [u8] ∧ Twin W (.list .int) [v9] [u9] ∧ Twin W .bool [v10] [u10] ∧ Twin W .int [v11] [u11] ∧ Twin W .bool [v12] [u12] ∧ Twin W .name [v13] [u13] ∧ Twin W .int [v14] [u14] ∧ Twin W .data [v15] [u15] := by
  unfold sAsk at h
  obtain ⟨x0, y0, p0, q0, rfl, rfl, f0, h0⟩ := h.cons
  obtain ⟨v0, u0, rfl, rfl, e0⟩ := f0.one rfl
  obtain ⟨x1, y1, p1, q1, rfl, rfl, f1, h1⟩ := h0.cons
  obtain ⟨v1, u1, rfl, rfl, e1⟩ := f1.one rfl
  obtain ⟨x2, y2, p2, q2, rfl, rfl, f2, h2⟩ := h1.cons
  obtain ⟨v2, v3, v4, v5, u2, u3, u4, u5, rfl, rfl, e2, e3, e4, e5⟩ := Table_twin f2
  obtain ⟨x6, y6, p6, q6, rfl, rfl, f6, h6⟩ := h2.cons
  obtain ⟨v6, v7, v8, v9, v10, v11, v12, u6, u7, u8, u9, u10, u11, u12, rfl, rfl, e6, e7, e8, e9, e10, e11, e12⟩ := Index_twin f6
  obtain ⟨x13, y13, p13, q13, rfl, rfl, f13, h13⟩ := h6.cons
  obtain ⟨v13, u13, rfl, rfl, e13⟩ := f13.one rfl
  obtain ⟨x14, y14, p14, q14, rfl, rfl, f14, h14⟩ := h13.cons
  obtain ⟨v14, u14, rfl, rfl, e14⟩ := f14.one rfl
  obtain ⟨x15, y15, p15, q15, rfl, rfl, f15, h15⟩ := h14.cons
  obtain ⟨v15, u15, rfl, rfl, e15⟩ := f15.one rfl
  obtain ⟨rfl, rfl⟩ := h15.nil
  exact ⟨v0, v1, v2, v3, v4, v5, v6, v7, v8, v9, v10, v11, v12, v13, v14, v15, u0, u1, u2, u3, u4, u5, u6, u7, u8, u9, u10, u11, u12, u13, u14, u15, rfl, rfl, e0, e1, e2, e3, e4, e5, e6, e7, e8, e9, e10, e11, e12, e13, e14, e15⟩

theorem Call_twin {W : World} {c1 c2 : List Value} (h : Twin W sCall c1 c2) : ∃ (v0 v1 v2 u0 u1 u2 : Value), c1 = [v0, v1, v2] ∧ c2 = [u0, u1, u2] ∧ Twin W .num [v0] [u0] ∧ Twin W .num [v1] [u1] ∧ Twin W .data [v2] [u2] := by
  unfold sCall at h
  obtain ⟨x0, y0, p0, q0, rfl, rfl, f0, h0⟩ := h.cons
  obtain ⟨v0, u0, rfl, rfl, e0⟩ := f0.one rfl
  obtain ⟨x1, y1, p1, q1, rfl, rfl, f1, h1⟩ := h0.cons
  obtain ⟨v1, u1, rfl, rfl, e1⟩ := f1.one rfl
  obtain ⟨x2, y2, p2, q2, rfl, rfl, f2, h2⟩ := h1.cons
  obtain ⟨v2, u2, rfl, rfl, e2⟩ := f2.one rfl
  obtain ⟨rfl, rfl⟩ := h2.nil
  exact ⟨v0, v1, v2, u0, u1, u2, rfl, rfl, e0, e1, e2⟩

end Go.Proofs.YtdfccaehoodjhaaGreat

