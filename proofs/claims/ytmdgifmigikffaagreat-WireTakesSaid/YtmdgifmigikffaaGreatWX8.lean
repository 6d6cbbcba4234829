import Derived.WalkKit
import Derived.OpenShut
import Derived.Test.YtmdgifmigikffaaGreatRows
import Derived.WalkSpells
import Derived.WalkLawsBesides
import Derived.Laws.AppendOwnNone
import Derived.ProofKit
import Derived.ShutString
import Derived.ChangeOld
import Derived.Below
import Derived.SizedLaws
import Derived.Deep.Slices
import Derived.Deep.AppendLies
import Derived.Deep.RegionHeld
import Derived.Deep.Strs
import Derived.Deep.RegionHeld3
import Derived.Lib.ConvBytes
import Derived.Laws.AppendOwn
import Derived.Deep.CutRange
import Derived.Deep.MidRow
import Derived.Great.Walk
import Derived.Great.BuildSlice
import Derived.Test.YtmdgifmigikffaaGreatWX1
import Derived.Test.YtmdgifmigikffaaGreatWX2
import Derived.Test.YtmdgifmigikffaaGreatWX3
import Derived.Test.YtmdgifmigikffaaGreatWX4
import Derived.Test.YtmdgifmigikffaaGreatWX5
import Derived.Test.YtmdgifmigikffaaGreatWX6
import Derived.Test.YtmdgifmigikffaaGreatWX7
set_option linter.unusedVariables false
set_option linter.unusedSimpArgs false
set_option maxRecDepth 100000
namespace Go.Proofs.YtmdgifmigikffaaGreat
open Go.RowKit Go.Deep
def AlAsk (R : Nat) (w : World) (st : Rst) (en : Ending) (w' : World) : Prop := ∃ cs : List Value, en = .returned (.tuple #[.agg cs.toArray, .int .i64 (endS (rdF sAsk st).2.1 (rdF sAsk st).2.2)]) ∧ ((endS (rdF sAsk st).2.1 (rdF sAsk st).2.2) = 0 → EncN (fun j => w.heap.size ≤ j ∧ j < w'.heap.size) w' sAsk cs (rdF sAsk st).1) ∧ ((endS (rdF sAsk st).2.1 (rdF sAsk st).2.2) ≠ 0 → cs = [.int .i64 0, .slice none 0 0, .int .i64 0, .string ⟨#[]⟩, .slice none 0 0, .slice none 0 0, .int .i64 0, .int .i64 0, .string ⟨#[]⟩, .slice none 0 0, .bool false, .int .i64 0, .bool false, .string ⟨#[]⟩, .int .i64 0, .slice none 0 0]) ∧ Keep (fun j => j = R) w w'
set_option maxHeartbeats 8000000 in
theorem aloneAsk_any {w : World} {R : Nat} {st : Rst} (h : RAt w R st.1 st.2) (hl : st.1.length ≤ 140737488355328) :
 Calls Tryz.prog 49 #[.agg #[.pointer (some ⟨R, 0, none⟩)], (.func (.func 50) #[.agg #[.pointer (some ⟨R, 0, none⟩)]] #[])] w (AlAsk R w st) := by
 have hb : Below w.heap.size w ((w.alloc (.cells #[.pointer (some ⟨R, 0, none⟩)] 79)).alloc (.cells #[.int .i64 0, .slice none 0 0, .int .i64 0, .string ⟨#[]⟩, .slice none 0 0, .slice none 0 0, .int .i64 0, .int .i64 0, .string ⟨#[]⟩, .slice none 0 0, .bool false, .int .i64 0, .bool false, .string ⟨#[]⟩, .int .i64 0, .slice none 0 0] 62)) := ((Below.refl _ _).alloc (Nat.le_refl _) _).alloc (by simp) _
 have hz := (Below.heap_alloc (w.alloc (.cells #[.pointer (some ⟨R, 0, none⟩)] 79)) (.cells #[.int .i64 0, .slice none 0 0, .int .i64 0, .string ⟨#[]⟩, .slice none 0 0, .slice none 0 0, .int .i64 0, .int .i64 0, .string ⟨#[]⟩, .slice none 0 0, .bool false, .int .i64 0, .bool false, .string ⟨#[]⟩, .int .i64 0, .slice none 0 0] 62) w.heap.size (by simp)).trans (heap_alloc_new w (.cells #[.pointer (some ⟨R, 0, none⟩)] 79))
 have hB := heap_alloc2_new w (.cells #[.pointer (some ⟨R, 0, none⟩)] 79) (.cells #[.int .i64 0, .slice none 0 0, .int .i64 0, .string ⟨#[]⟩, .slice none 0 0, .slice none 0 0, .int .i64 0, .int .i64 0, .string ⟨#[]⟩, .slice none 0 0, .bool false, .int .i64 0, .bool false, .string ⟨#[]⟩, .int .i64 0, .slice none 0 0] 62)
 obtain ⟨B, hBe⟩ : ∃ B, B = w.heap.size + 1 := ⟨_, rfl⟩
 have hRw := h.lt
 have hRB : R < B := by omega
 have HR0 := hid (h.old hb)
 rw [← hBe] at hB
 have HB0 := hid hB
 have HX0 := hid hz
 have HBW := hid hb
 have HL0 := hid hl
 clear h hb hz hB hl
 go_enter Tryz.func49, Tryz.ntmps49
 go_upto_region 1 with fail
 generalize (w.alloc (.cells #[.pointer (some ⟨R, 0, none⟩)] 79)).alloc (.cells #[.int .i64 0, .slice none 0 0, .int .i64 0, .string ⟨#[]⟩, .slice none 0 0, .slice none 0 0, .int .i64 0, .int .i64 0, .string ⟨#[]⟩, .slice none 0 0, .bool false, .int .i64 0, .bool false, .string ⟨#[]⟩, .int .i64 0, .slice none 0 0] 62) = w0 at *
 try rw [← hBe]
 have HBE := hid hBe
 clear hBe
 have CQ := hid (rAsk_any HR0.out HL0.out)
 go_upto_region 2 with (first | (go_at_call 50; refine CQ.out.mono ?_; rintro en w1 ⟨mc, rfl, hv⟩; obtain ⟨u0, u1, u2, u3, u4, u5, u6, u7, u8, u9, u10, u11, u12, u13, u14, u15, b0, b1, b2, b3, b4, b5, b6, b7, b8, b9, b10, b11, b12, b13, b14, b15, rfl, _, e0, e1, e2, e3, e4, e5, e6, e7, e8, e9, e10, e11, e12, e13, e14, e15⟩ := Ask_cells (EncN.enc _ hv.1); obtain ⟨y0, rfl⟩ := form_int e0; obtain ⟨y1, j1, c1, rfl⟩ := form_list e1; obtain ⟨y2, rfl⟩ := form_int e2; obtain ⟨y3, rfl⟩ := form_name e3; obtain ⟨y4, j4, c4, rfl⟩ := form_list e4; obtain ⟨y5, j5, c5, rfl⟩ := form_list e5; obtain ⟨y6, rfl⟩ := form_int e6; obtain ⟨y7, rfl⟩ := form_int e7; obtain ⟨y8, rfl⟩ := form_name e8; obtain ⟨y9, j9, c9, rfl⟩ := form_list e9; obtain ⟨y10, rfl⟩ := form_bool e10; obtain ⟨y11, rfl⟩ := form_int e11; obtain ⟨y12, rfl⟩ := form_bool e12; obtain ⟨y13, rfl⟩ := form_name e13; obtain ⟨y14, rfl⟩ := form_int e14; obtain ⟨y15, j15, c15, rfl⟩ := form_data e15; clear e0 e1 e2 e3 e4 e5 e6 e7 e8 e9 e10 e11 e12 e13 e14 e15; have HV := hid hv; clear hv))
 have hb2 : Below w1.heap.size w1 (w1.alloc (.cells #[(.int .i64 y0), (.slice y1 j1 c1), (.int .i64 y2), (.string y3), (.slice y4 j4 c4), (.slice y5 j5 c5), (.int .i64 y6), (.int .i64 y7), (.string y8), (.slice y9 j9 c9), (.bool y10), (.int .i64 y11), (.bool y12), (.string y13), (.int .i64 y14), (.slice y15 j15 c15)] 62)) := (Below.refl _ _).alloc (Nat.le_refl _) _
 have hx2 := heap_alloc_new w1 (.cells #[(.int .i64 y0), (.slice y1 j1 c1), (.int .i64 y2), (.string y3), (.slice y4 j4 c4), (.slice y5 j5 c5), (.int .i64 y6), (.int .i64 y7), (.string y8), (.slice y9 j9 c9), (.bool y10), (.int .i64 y11), (.bool y12), (.string y13), (.int .i64 y14), (.slice y15 j15 c15)] 62)
 have HV2 := hid (EncN.mono (fun j hj => (⟨hj.1, Nat.lt_of_lt_of_le hj.2 hb2.size⟩ : w0.heap.size ≤ j ∧ j < (w1.alloc (.cells #[(.int .i64 y0), (.slice y1 j1 c1), (.int .i64 y2), (.string y3), (.slice y4 j4 c4), (.slice y5 j5 c5), (.int .i64 y6), (.int .i64 y7), (.string y8), (.slice y9 j9 c9), (.bool y10), (.int .i64 y11), (.bool y12), (.string y13), (.int .i64 y14), (.slice y15 j15 c15)] 62)).heap.size)) _ (EncN.keep (Keep.of_below (X := fun _ => False) hb2) (fun _ _ e => e) _ HV.out.1))
 have HR2 := hid (HV.out.2.1.old hb2)
 have HB2 : Hid ((w1.alloc (.cells #[(.int .i64 y0), (.slice y1 j1 c1), (.int .i64 y2), (.string y3), (.slice y4 j4 c4), (.slice y5 j5 c5), (.int .i64 y6), (.int .i64 y7), (.string y8), (.slice y9 j9 c9), (.bool y10), (.int .i64 y11), (.bool y12), (.string y13), (.int .i64 y14), (.slice y15 j15 c15)] 62)).heap[B]? = some (.cells ([.int .i64 0, .slice none 0 0, .int .i64 0, .string ⟨#[]⟩, .slice none 0 0, .slice none 0 0, .int .i64 0, .int .i64 0, .string ⟨#[]⟩, .slice none 0 0, .bool false, .int .i64 0, .bool false, .string ⟨#[]⟩, .int .i64 0, .slice none 0 0] : List Value).toArray 62 (0, 0))) := hid ((hb2.block B (Nat.lt_of_lt_of_le (lt_of_block HB0.out) HV.out.2.2.size)).trans ((HV.out.2.2.block B (lt_of_block HB0.out) (fun e => by have e9 : B = R := e; omega)).trans HB0.out))
 have HX2 := hid ((hb2.block w.heap.size (Nat.lt_of_lt_of_le (lt_of_block HX0.out) HV.out.2.2.size)).trans ((HV.out.2.2.block w.heap.size (lt_of_block HX0.out) (fun e => by have e9 : w.heap.size = R := e; omega)).trans HX0.out))
 have HXX : Hid ((w1.alloc (.cells #[(.int .i64 y0), (.slice y1 j1 c1), (.int .i64 y2), (.string y3), (.slice y4 j4 c4), (.slice y5 j5 c5), (.int .i64 y6), (.int .i64 y7), (.string y8), (.slice y9 j9 c9), (.bool y10), (.int .i64 y11), (.bool y12), (.string y13), (.int .i64 y14), (.slice y15 j15 c15)] 62)).heap[w1.heap.size]? = some (.cells ([(.int .i64 y0), (.slice y1 j1 c1), (.int .i64 y2), (.string y3), (.slice y4 j4 c4), (.slice y5 j5 c5), (.int .i64 y6), (.int .i64 y7), (.string y8), (.slice y9 j9 c9), (.bool y10), (.int .i64 y11), (.bool y12), (.string y13), (.int .i64 y14), (.slice y15 j15 c15)] : List Value).toArray 62 (0, 0))) := hid hx2
 have HK2 : Hid (Keep (fun j => j = R) w0 (w1.alloc (.cells #[(.int .i64 y0), (.slice y1 j1 c1), (.int .i64 y2), (.string y3), (.slice y4 j4 c4), (.slice y5 j5 c5), (.int .i64 y6), (.int .i64 y7), (.string y8), (.slice y9 j9 c9), (.bool y10), (.int .i64 y11), (.bool y12), (.string y13), (.int .i64 y14), (.slice y15 j15 c15)] 62))) := hid (HV.out.2.2.trans (Keep.of_below hb2))
 have HS1 : Hid (B < w1.heap.size) := hid (Nat.lt_of_lt_of_le (lt_of_block HB0.out) HV.out.2.2.size)
 clear hb2 hx2 CQ
 obtain ⟨X, hX⟩ : ∃ X, X = w1.heap.size := ⟨_, rfl⟩
 rw [← hX] at HXX HS1
 generalize w1.alloc (.cells #[(.int .i64 y0), (.slice y1 j1 c1), (.int .i64 y2), (.string y3), (.slice y4 j4 c4), (.slice y5 j5 c5), (.int .i64 y6), (.int .i64 y7), (.string y8), (.slice y9 j9 c9), (.bool y10), (.int .i64 y11), (.bool y12), (.string y13), (.int .i64 y14), (.slice y15 j15 c15)] 62) = w2 at *
 try rw [← hX]
 clear hX
 obtain ⟨ev, hev⟩ : ∃ ev, ev = (endS (rdF sAsk st).2.1 (rdF sAsk st).2.2) := ⟨_, rfl⟩
 have CE : Hid (Calls Tryz.prog 71 #[.pointer (some ⟨R, 0, none⟩)] w2 (fun en w' => en = .returned (.int .i64 ev) ∧ w2 = w')) := hid (by rw [hev]; exact endR_any w2 R _ _ HR2.out)
 have HEV := hid hev
 clear hev
 have x0 := (one_cell HX2.out).1
 by_cases h0 : ev = 0
 · subst h0
   have LD := cells_load (cs := [(.int .i64 y0), (.slice y1 j1 c1), (.int .i64 y2), (.string y3), (.slice y4 j4 c4), (.slice y5 j5 c5), (.int .i64 y6), (.int .i64 y7), (.string y8), (.slice y9 j9 c9), (.bool y10), (.int .i64 y11), (.bool y12), (.string y13), (.int .i64 y14), (.slice y15 j15 c15)]) (fun i u hi => (row_at HXX.out hi).1) Tryz.underlying62 rfl (by kernel_rfl)
   have HLD := hid LD
   clear LD
   have HSF := hid (setRow_heap w2 B _ (#[(.int .i64 y0), (.slice y1 j1 c1), (.int .i64 y2), (.string y3), (.slice y4 j4 c4), (.slice y5 j5 c5), (.int .i64 y6), (.int .i64 y7), (.string y8), (.slice y9 j9 c9), (.bool y10), (.int .i64 y11), (.bool y12), (.string y13), (.int .i64 y14), (.slice y15 j15 c15)] : Array Value) _ _ HB2.out)
   have HKS := hid (setRow_keep w2 B (#[(.int .i64 y0), (.slice y1 j1 c1), (.int .i64 y2), (.string y3), (.slice y4 j4 c4), (.slice y5 j5 c5), (.int .i64 y6), (.int .i64 y7), (.string y8), (.slice y9 j9 c9), (.bool y10), (.int .i64 y11), (.bool y12), (.string y13), (.int .i64 y14), (.slice y15 j15 c15)] : Array Value))
   have HBB : Hid (w2.heap[B]? = some (.cells (#[(.int .i64 0), (.slice none 0 0), (.int .i64 0), (.string ⟨#[]⟩), (.slice none 0 0), (.slice none 0 0), (.int .i64 0), (.int .i64 0), (.string ⟨#[]⟩), (.slice none 0 0), (.bool false), (.int .i64 0), (.bool false), (.string ⟨#[]⟩), (.int .i64 0), (.slice none 0 0)] : Array Value) 62 (0, 0))) := HB2
   go_upto_region 6 with (first | (go_at_call 71; refine CE.out.mono ?_; rintro en w3 ⟨rfl, rfl⟩))
   apply wp_region_lit
   refine Great.wpList_readTo rfl (some 18) rfl (.agg #[(.int .i64 y0), (.slice y1 j1 c1), (.int .i64 y2), (.string y3), (.slice y4 j4 c4), (.slice y5 j5 c5), (.int .i64 y6), (.int .i64 y7), (.string y8), (.slice y9 j9 c9), (.bool y10), (.int .i64 y11), (.bool y12), (.string y13), (.int .i64 y14), (.slice y15 j15 c15)]) (exec_load rfl HLD.out) ?_
   simp only [Act.put, jA, jB, jC, jD, jE, jF]
   refine Go.wpList_store_rowTo rfl 62 _ _ rfl rfl B #[(.int .i64 y0), (.slice y1 j1 c1), (.int .i64 y2), (.string y3), (.slice y4 j4 c4), (.slice y5 j5 c5), (.int .i64 y6), (.int .i64 y7), (.string y8), (.slice y9 j9 c9), (.bool y10), (.int .i64 y11), (.bool y12), (.string y13), (.int .i64 y14), (.slice y15 j15 c15)] rfl rfl 62 #[(.int .i64 0), (.slice none 0 0), (.int .i64 0), (.string ⟨#[]⟩), (.slice none 0 0), (.slice none 0 0), (.int .i64 0), (.int .i64 0), (.string ⟨#[]⟩), (.slice none 0 0), (.bool false), (.int .i64 0), (.bool false), (.string ⟨#[]⟩), (.int .i64 0), (.slice none 0 0)] HBB.out (by as_aux_lemma => kernel_rfl) rfl (by simp [Value.oneCell']) ?_
   generalize w2.setRow B #[(.int .i64 y0), (.slice y1 j1 c1), (.int .i64 y2), (.string y3), (.slice y4 j4 c4), (.slice y5 j5 c5), (.int .i64 y6), (.int .i64 y7), (.string y8), (.slice y9 j9 c9), (.bool y10), (.int .i64 y11), (.bool y12), (.string y13), (.int .i64 y14), (.slice y15 j15 c15)] = w5 at *
   go_wp2_with fail
   refine bodyPost_ret (results_cell2 rfl _ _ B 62 _ (0, 0) _ rfl HSF.out Tryz.underlying62 rfl (by kernel_rfl)) rfl ?_
   refine ⟨[(.int .i64 y0), (.slice y1 j1 c1), (.int .i64 y2), (.string y3), (.slice y4 j4 c4), (.slice y5 j5 c5), (.int .i64 y6), (.int .i64 y7), (.string y8), (.slice y9 j9 c9), (.bool y10), (.int .i64 y11), (.bool y12), (.string y13), (.int .i64 y14), (.slice y15 j15 c15)], by rw [← HEV.out]; rfl, fun _ => EncN.mono (fun j hj => ⟨Nat.le_trans HBW.out.size hj.1, Nat.lt_of_lt_of_le hj.2 HKS.out.size⟩) _ (EncN.keep HKS.out (fun j hj e => by have e9 : j = B := e; have a9 := lt_of_block HB0.out; have := hj.1; omega) _ HV2.out), fun h9 => absurd HEV.out.symm h9, ?_⟩
   exact ((Keep.of_below HBW.out).trans HK2.out).trans2 HKS.out (fun j e => .inr (by have e9 : j = B := e; have := HBE.out; omega))
 · have hbe : (ev != 0) = true := by simp [h0]
   have hb3 : Below w2.heap.size w2 (w2.alloc (.cells #[(.int .i64 0), (.slice none 0 0), (.int .i64 0), (.string ⟨#[]⟩), (.slice none 0 0), (.slice none 0 0), (.int .i64 0), (.int .i64 0), (.string ⟨#[]⟩), (.slice none 0 0), (.bool false), (.int .i64 0), (.bool false), (.string ⟨#[]⟩), (.int .i64 0), (.slice none 0 0)] 62)) := (Below.refl _ _).alloc (Nat.le_refl _) _
   have hx3 : (w2.alloc (.cells #[(.int .i64 0), (.slice none 0 0), (.int .i64 0), (.string ⟨#[]⟩), (.slice none 0 0), (.slice none 0 0), (.int .i64 0), (.int .i64 0), (.string ⟨#[]⟩), (.slice none 0 0), (.bool false), (.int .i64 0), (.bool false), (.string ⟨#[]⟩), (.int .i64 0), (.slice none 0 0)] 62)).heap[w2.heap.size]? = some (.cells ([.int .i64 0, .slice none 0 0, .int .i64 0, .string ⟨#[]⟩, .slice none 0 0, .slice none 0 0, .int .i64 0, .int .i64 0, .string ⟨#[]⟩, .slice none 0 0, .bool false, .int .i64 0, .bool false, .string ⟨#[]⟩, .int .i64 0, .slice none 0 0] : List Value).toArray 62 (0, 0)) := heap_alloc_new w2 (.cells #[(.int .i64 0), (.slice none 0 0), (.int .i64 0), (.string ⟨#[]⟩), (.slice none 0 0), (.slice none 0 0), (.int .i64 0), (.int .i64 0), (.string ⟨#[]⟩), (.slice none 0 0), (.bool false), (.int .i64 0), (.bool false), (.string ⟨#[]⟩), (.int .i64 0), (.slice none 0 0)] 62)
   have hB3 := (hb3.block B (lt_of_block HB2.out)).trans HB2.out
   have LD := cells_load (cs := [.int .i64 0, .slice none 0 0, .int .i64 0, .string ⟨#[]⟩, .slice none 0 0, .slice none 0 0, .int .i64 0, .int .i64 0, .string ⟨#[]⟩, .slice none 0 0, .bool false, .int .i64 0, .bool false, .string ⟨#[]⟩, .int .i64 0, .slice none 0 0]) (fun i u hi => (row_at hx3 hi).1) Tryz.underlying62 rfl (by kernel_rfl)
   have HLD := hid LD
   clear LD hx3
   have HBB : Hid ((w2.alloc (.cells #[(.int .i64 0), (.slice none 0 0), (.int .i64 0), (.string ⟨#[]⟩), (.slice none 0 0), (.slice none 0 0), (.int .i64 0), (.int .i64 0), (.string ⟨#[]⟩), (.slice none 0 0), (.bool false), (.int .i64 0), (.bool false), (.string ⟨#[]⟩), (.int .i64 0), (.slice none 0 0)] 62)).heap[B]? = some (.cells (#[(.int .i64 0), (.slice none 0 0), (.int .i64 0), (.string ⟨#[]⟩), (.slice none 0 0), (.slice none 0 0), (.int .i64 0), (.int .i64 0), (.string ⟨#[]⟩), (.slice none 0 0), (.bool false), (.int .i64 0), (.bool false), (.string ⟨#[]⟩), (.int .i64 0), (.slice none 0 0)] : Array Value) 62 (0, 0))) := hid hB3
   have HB3 := hid hb3
   clear hb3 hB3
   go_upto_region 5 with (first | (go_at_call 71; refine CE.out.mono ?_; rintro en w3 ⟨rfl, rfl⟩))
   generalize w2.alloc (.cells #[(.int .i64 0), (.slice none 0 0), (.int .i64 0), (.string ⟨#[]⟩), (.slice none 0 0), (.slice none 0 0), (.int .i64 0), (.int .i64 0), (.string ⟨#[]⟩), (.slice none 0 0), (.bool false), (.int .i64 0), (.bool false), (.string ⟨#[]⟩), (.int .i64 0), (.slice none 0 0)] 62) = w4 at *
   apply wp_region_lit
   refine Great.wpList_readTo rfl (some 16) rfl (.agg #[(.int .i64 0), (.slice none 0 0), (.int .i64 0), (.string ⟨#[]⟩), (.slice none 0 0), (.slice none 0 0), (.int .i64 0), (.int .i64 0), (.string ⟨#[]⟩), (.slice none 0 0), (.bool false), (.int .i64 0), (.bool false), (.string ⟨#[]⟩), (.int .i64 0), (.slice none 0 0)]) (exec_load rfl HLD.out) ?_
   simp only [Act.put, jA, jB, jC, jD, jE, jF]
   refine Great.wpList_readTo rfl (some 17) rfl (.int .i64 ev) (by rfl) ?_
   simp only [Act.put, jA, jB, jC, jD, jE, jF]
   refine Go.wpList_store_rowTo rfl 62 _ _ rfl rfl B #[(.int .i64 0), (.slice none 0 0), (.int .i64 0), (.string ⟨#[]⟩), (.slice none 0 0), (.slice none 0 0), (.int .i64 0), (.int .i64 0), (.string ⟨#[]⟩), (.slice none 0 0), (.bool false), (.int .i64 0), (.bool false), (.string ⟨#[]⟩), (.int .i64 0), (.slice none 0 0)] rfl rfl 62 #[(.int .i64 0), (.slice none 0 0), (.int .i64 0), (.string ⟨#[]⟩), (.slice none 0 0), (.slice none 0 0), (.int .i64 0), (.int .i64 0), (.string ⟨#[]⟩), (.slice none 0 0), (.bool false), (.int .i64 0), (.bool false), (.string ⟨#[]⟩), (.int .i64 0), (.slice none 0 0)] HBB.out (by as_aux_lemma => kernel_rfl) rfl (by simp [Value.oneCell']) ?_
   rw [setRow_same HBB.out]
   go_wp2_with fail
   refine bodyPost_ret (results_cell2 rfl _ _ B 62 _ (0, 0) _ rfl HBB.out Tryz.underlying62 rfl (by kernel_rfl)) rfl ?_
   refine ⟨[.int .i64 0, .slice none 0 0, .int .i64 0, .string ⟨#[]⟩, .slice none 0 0, .slice none 0 0, .int .i64 0, .int .i64 0, .string ⟨#[]⟩, .slice none 0 0, .bool false, .int .i64 0, .bool false, .string ⟨#[]⟩, .int .i64 0, .slice none 0 0], by rw [← HEV.out]; rfl, fun h9 => absurd (HEV.out.trans h9) h0, fun _ => rfl, ?_⟩
   exact (((Keep.of_below HBW.out).trans HK2.out).trans (Keep.of_below HB3.out))
end Go.Proofs.YtmdgifmigikffaaGreat
namespace Go.Proofs.YtmdgifmigikffaaGreat
open Go.RowKit Go.Deep
theorem AlAsk_forms {E : Int} {N : Nat → Prop} {w : World} {cs : List Value} {bs : List UInt8} (h1 : E = 0 → EncN N w sAsk cs bs) (h2 : E ≠ 0 → cs = [.int .i64 0, .slice none 0 0, .int .i64 0, .string ⟨#[]⟩, .slice none 0 0, .slice none 0 0, .int .i64 0, .int .i64 0, .string ⟨#[]⟩, .slice none 0 0, .bool false, .int .i64 0, .bool false, .string ⟨#[]⟩, .int .i64 0, .slice none 0 0]) : ∃ (y0 : Int) (y1 : Option Addr) (j1 : Nat) (c1 : Nat) (y2 : Int) (y3 : ByteArray) (y4 : Option Addr) (j4 : Nat) (c4 : Nat) (y5 : Option Addr) (j5 : Nat) (c5 : Nat) (y6 : Int) (y7 : Int) (y8 : ByteArray) (y9 : Option Addr) (j9 : Nat) (c9 : Nat) (y10 : Bool) (y11 : Int) (y12 : Bool) (y13 : ByteArray) (y14 : Int) (y15 : Option Addr) (j15 : Nat) (c15 : Nat), cs = [.int .i64 y0, .slice y1 j1 c1, .int .i64 y2, .string y3, .slice y4 j4 c4, .slice y5 j5 c5, .int .i64 y6, .int .i64 y7, .string y8, .slice y9 j9 c9, .bool y10, .int .i64 y11, .bool y12, .string y13, .int .i64 y14, .slice y15 j15 c15] := by
 by_cases h : E = 0
 · obtain ⟨u0, u1, u2, u3, u4, u5, u6, u7, u8, u9, u10, u11, u12, u13, u14, u15, b0, b1, b2, b3, b4, b5, b6, b7, b8, b9, b10, b11, b12, b13, b14, b15, rfl, _, e0, e1, e2, e3, e4, e5, e6, e7, e8, e9, e10, e11, e12, e13, e14, e15⟩ := Ask_cells (EncN.enc _ (h1 h))
   obtain ⟨y0, rfl⟩ := form_int e0
   obtain ⟨y1, j1, c1, rfl⟩ := form_list e1
   obtain ⟨y2, rfl⟩ := form_int e2
   obtain ⟨y3, rfl⟩ := form_name e3
   obtain ⟨y4, j4, c4, rfl⟩ := form_list e4
   obtain ⟨y5, j5, c5, rfl⟩ := form_list e5
   obtain ⟨y6, rfl⟩ := form_int e6
   obtain ⟨y7, rfl⟩ := form_int e7
   obtain ⟨y8, rfl⟩ := form_name e8
   obtain ⟨y9, j9, c9, rfl⟩ := form_list e9
   obtain ⟨y10, rfl⟩ := form_bool e10
   obtain ⟨y11, rfl⟩ := form_int e11
   obtain ⟨y12, rfl⟩ := form_bool e12
   obtain ⟨y13, rfl⟩ := form_name e13
   obtain ⟨y14, rfl⟩ := form_int e14
   obtain ⟨y15, j15, c15, rfl⟩ := form_data e15
   exact ⟨y0, y1, j1, c1, y2, y3, y4, j4, c4, y5, j5, c5, y6, y7, y8, y9, j9, c9, y10, y11, y12, y13, y14, y15, j15, c15, rfl⟩
 · exact ⟨_, _, _, _, _, _, _, _, _, _, _, _, _, _, _, _, _, _, _, _, _, _, _, _, _, _, h2 h⟩
def TkAsk (w : World) (l : List UInt8) (en : Ending) (w' : World) : Prop := ∃ cs : List Value, en = .returned (.tuple #[.agg cs.toArray, .int .i64 (endS (rdF sAsk (l, 0)).2.1 (rdF sAsk (l, 0)).2.2)]) ∧ ((endS (rdF sAsk (l, 0)).2.1 (rdF sAsk (l, 0)).2.2) = 0 → EncN (fun j => w.heap.size ≤ j ∧ j < w'.heap.size) w' sAsk cs (rdF sAsk (l, 0)).1) ∧ ((endS (rdF sAsk (l, 0)).2.1 (rdF sAsk (l, 0)).2.2) ≠ 0 → cs = [.int .i64 0, .slice none 0 0, .int .i64 0, .string ⟨#[]⟩, .slice none 0 0, .slice none 0 0, .int .i64 0, .int .i64 0, .string ⟨#[]⟩, .slice none 0 0, .bool false, .int .i64 0, .bool false, .string ⟨#[]⟩, .int .i64 0, .slice none 0 0]) ∧ Below w.heap.size w w'
set_option maxHeartbeats 8000000 in
theorem takeAsk_any (x : Value) (l : List UInt8) (w : World) (hx : Rd w x l) (hl : l.length ≤ 140737488355328) : Calls Tryz.prog 14 #[x] w (TkAsk w l) := by
 have hb : Below w.heap.size w (w.alloc (.cells #[.int .i64 0, .slice none 0 0, .int .i64 0, .string ⟨#[]⟩, .slice none 0 0, .slice none 0 0, .int .i64 0, .int .i64 0, .string ⟨#[]⟩, .slice none 0 0, .bool false, .int .i64 0, .bool false, .string ⟨#[]⟩, .int .i64 0, .slice none 0 0] 62)) := (Below.refl _ _).alloc (Nat.le_refl _) _
 have hB : (w.alloc (.cells #[.int .i64 0, .slice none 0 0, .int .i64 0, .string ⟨#[]⟩, .slice none 0 0, .slice none 0 0, .int .i64 0, .int .i64 0, .string ⟨#[]⟩, .slice none 0 0, .bool false, .int .i64 0, .bool false, .string ⟨#[]⟩, .int .i64 0, .slice none 0 0] 62)).heap[w.heap.size]? = some (.cells ([.int .i64 0, .slice none 0 0, .int .i64 0, .string ⟨#[]⟩, .slice none 0 0, .slice none 0 0, .int .i64 0, .int .i64 0, .string ⟨#[]⟩, .slice none 0 0, .bool false, .int .i64 0, .bool false, .string ⟨#[]⟩, .int .i64 0, .slice none 0 0] : List Value).toArray 62 (0, 0)) := heap_alloc_new w (.cells #[.int .i64 0, .slice none 0 0, .int .i64 0, .string ⟨#[]⟩, .slice none 0 0, .slice none 0 0, .int .i64 0, .int .i64 0, .string ⟨#[]⟩, .slice none 0 0, .bool false, .int .i64 0, .bool false, .string ⟨#[]⟩, .int .i64 0, .slice none 0 0] 62)
 have CN := hid (new_any (w.alloc (.cells #[.int .i64 0, .slice none 0 0, .int .i64 0, .string ⟨#[]⟩, .slice none 0 0, .slice none 0 0, .int .i64 0, .int .i64 0, .string ⟨#[]⟩, .slice none 0 0, .bool false, .int .i64 0, .bool false, .string ⟨#[]⟩, .int .i64 0, .slice none 0 0] 62)) x l (hx.old hb) hl)
 have HB := hid hB
 have HBW := hid hb
 have HL := hid hl
 clear hb hB hx hl
 go_enter Tryz.func14, Tryz.ntmps14
 go_upto_region 1 with fail
 generalize w.alloc (.cells #[.int .i64 0, .slice none 0 0, .int .i64 0, .string ⟨#[]⟩, .slice none 0 0, .slice none 0 0, .int .i64 0, .int .i64 0, .string ⟨#[]⟩, .slice none 0 0, .bool false, .int .i64 0, .bool false, .string ⟨#[]⟩, .int .i64 0, .slice none 0 0] 62) = w1 at *
 go_upto_region 2 with (first | (go_at_call 24; refine CN.out.mono ?_; rintro en w2 ⟨R, rfl, hR1, hr, hb2⟩; have HR := hid hr; have HRB := hid (Nat.lt_of_lt_of_le (lt_of_block HB.out) hR1); have HB2 := hid ((hb2.block _ (lt_of_block HB.out)).trans HB.out); have HW2 := hid hb2; clear hr hR1 hb2))
 have hb3 : Below w2.heap.size w2 (w2.alloc (.cells #[.pointer (some ⟨R, 0, none⟩)] 79)) := (Below.refl _ _).alloc (Nat.le_refl _) _
 have HX3 := hid (heap_alloc_new w2 (.cells #[.pointer (some ⟨R, 0, none⟩)] 79))
 have HR3 := hid (HR.out.old hb3)
 have HB3 := hid ((hb3.block _ (lt_of_block HB2.out)).trans HB2.out)
 have HW3 := hid (HW2.out.trans (hb3.mono HW2.out.size))
 clear hb3
 obtain ⟨X, hX⟩ : ∃ X, X = w2.heap.size := ⟨_, rfl⟩
 rw [← hX] at HX3
 generalize w2.alloc (.cells #[.pointer (some ⟨R, 0, none⟩)] 79) = w3 at *
 try rw [← hX]
 clear hX
 have CA := hid (aloneAsk_any (st := (l, 0)) HR3.out HL.out)
 have z0 := (one_cell HX3.out).1
 go_wp2_with (first | (go_at_call 49; refine CA.out.mono ?_; rintro en w4 ⟨cs, rfl, h1, h2, hk⟩; obtain ⟨y0, y1, j1, c1, y2, y3, y4, j4, c4, y5, j5, c5, y6, y7, y8, y9, j9, c9, y10, y11, y12, y13, y14, y15, j15, c15, rfl⟩ := AlAsk_forms h1 h2; have H1 := hid h1; have H2 := hid h2; have HK := hid hk; have hB4 := (hk.block _ (lt_of_block HB3.out) (fun e => by have e9 : w.heap.size = R := e; have := HRB.out; omega)).trans HB3.out; obtain ⟨q0, r0⟩ := row_at hB4 (i := 0) rfl; obtain ⟨q1, r1⟩ := row_at hB4 (i := 1) rfl; obtain ⟨q2, r2⟩ := row_at hB4 (i := 2) rfl; obtain ⟨q3, r3⟩ := row_at hB4 (i := 3) rfl; obtain ⟨q4, r4⟩ := row_at hB4 (i := 4) rfl; obtain ⟨q5, r5⟩ := row_at hB4 (i := 5) rfl; obtain ⟨q6, r6⟩ := row_at hB4 (i := 6) rfl; obtain ⟨q7, r7⟩ := row_at hB4 (i := 7) rfl; obtain ⟨q8, r8⟩ := row_at hB4 (i := 8) rfl; obtain ⟨q9, r9⟩ := row_at hB4 (i := 9) rfl; obtain ⟨q10, r10⟩ := row_at hB4 (i := 10) rfl; obtain ⟨q11, r11⟩ := row_at hB4 (i := 11) rfl; obtain ⟨q12, r12⟩ := row_at hB4 (i := 12) rfl; obtain ⟨q13, r13⟩ := row_at hB4 (i := 13) rfl; obtain ⟨q14, r14⟩ := row_at hB4 (i := 14) rfl; obtain ⟨q15, r15⟩ := row_at hB4 (i := 15) rfl; have HB4 := hid hB4; clear h1 h2 hk hB4))
 have hs0 := HB4.out
 have hs1 := row_put hs0 0 (.int .i64 y0)
 have hs2 := row_put hs1 1 (.slice y1 j1 c1)
 have hs3 := row_put hs2 2 (.int .i64 y2)
 have hs4 := row_put hs3 3 (.string y3)
 have hs5 := row_put hs4 4 (.slice y4 j4 c4)
 have hs6 := row_put hs5 5 (.slice y5 j5 c5)
 have hs7 := row_put hs6 6 (.int .i64 y6)
 have hs8 := row_put hs7 7 (.int .i64 y7)
 have hs9 := row_put hs8 8 (.string y8)
 have hs10 := row_put hs9 9 (.slice y9 j9 c9)
 have hs11 := row_put hs10 10 (.bool y10)
 have hs12 := row_put hs11 11 (.int .i64 y11)
 have hs13 := row_put hs12 12 (.bool y12)
 have hs14 := row_put hs13 13 (.string y13)
 have hs15 := row_put hs14 14 (.int .i64 y14)
 have hs16 := row_put hs15 15 (.slice y15 j15 c15)
 have HSF : Hid (((((((((((((((((w4.setCell ⟨w.heap.size, 0, none⟩ (.int .i64 y0)).setCell ⟨w.heap.size, 1, none⟩ (.slice y1 j1 c1)).setCell ⟨w.heap.size, 2, none⟩ (.int .i64 y2)).setCell ⟨w.heap.size, 3, none⟩ (.string y3)).setCell ⟨w.heap.size, 4, none⟩ (.slice y4 j4 c4)).setCell ⟨w.heap.size, 5, none⟩ (.slice y5 j5 c5)).setCell ⟨w.heap.size, 6, none⟩ (.int .i64 y6)).setCell ⟨w.heap.size, 7, none⟩ (.int .i64 y7)).setCell ⟨w.heap.size, 8, none⟩ (.string y8)).setCell ⟨w.heap.size, 9, none⟩ (.slice y9 j9 c9)).setCell ⟨w.heap.size, 10, none⟩ (.bool y10)).setCell ⟨w.heap.size, 11, none⟩ (.int .i64 y11)).setCell ⟨w.heap.size, 12, none⟩ (.bool y12)).setCell ⟨w.heap.size, 13, none⟩ (.string y13)).setCell ⟨w.heap.size, 14, none⟩ (.int .i64 y14)).setCell ⟨w.heap.size, 15, none⟩ (.slice y15 j15 c15)).heap[w.heap.size]? = some (.cells #[.int .i64 y0, .slice y1 j1 c1, .int .i64 y2, .string y3, .slice y4 j4 c4, .slice y5 j5 c5, .int .i64 y6, .int .i64 y7, .string y8, .slice y9 j9 c9, .bool y10, .int .i64 y11, .bool y12, .string y13, .int .i64 y14, .slice y15 j15 c15] 62 (0, 0))) := hs16
 have HKS : Hid (Keep (fun j => j = w.heap.size) w4 ((((((((((((((((w4.setCell ⟨w.heap.size, 0, none⟩ (.int .i64 y0)).setCell ⟨w.heap.size, 1, none⟩ (.slice y1 j1 c1)).setCell ⟨w.heap.size, 2, none⟩ (.int .i64 y2)).setCell ⟨w.heap.size, 3, none⟩ (.string y3)).setCell ⟨w.heap.size, 4, none⟩ (.slice y4 j4 c4)).setCell ⟨w.heap.size, 5, none⟩ (.slice y5 j5 c5)).setCell ⟨w.heap.size, 6, none⟩ (.int .i64 y6)).setCell ⟨w.heap.size, 7, none⟩ (.int .i64 y7)).setCell ⟨w.heap.size, 8, none⟩ (.string y8)).setCell ⟨w.heap.size, 9, none⟩ (.slice y9 j9 c9)).setCell ⟨w.heap.size, 10, none⟩ (.bool y10)).setCell ⟨w.heap.size, 11, none⟩ (.int .i64 y11)).setCell ⟨w.heap.size, 12, none⟩ (.bool y12)).setCell ⟨w.heap.size, 13, none⟩ (.string y13)).setCell ⟨w.heap.size, 14, none⟩ (.int .i64 y14)).setCell ⟨w.heap.size, 15, none⟩ (.slice y15 j15 c15))) := hid (((((((((((((((((Keep.refl (fun j => j = w.heap.size) _).trans (Keep.set (X := fun j => j = w.heap.size) _ ⟨w.heap.size, 0, none⟩ (.int .i64 y0) rfl)).trans (Keep.set (X := fun j => j = w.heap.size) _ ⟨w.heap.size, 1, none⟩ (.slice y1 j1 c1) rfl)).trans (Keep.set (X := fun j => j = w.heap.size) _ ⟨w.heap.size, 2, none⟩ (.int .i64 y2) rfl)).trans (Keep.set (X := fun j => j = w.heap.size) _ ⟨w.heap.size, 3, none⟩ (.string y3) rfl)).trans (Keep.set (X := fun j => j = w.heap.size) _ ⟨w.heap.size, 4, none⟩ (.slice y4 j4 c4) rfl)).trans (Keep.set (X := fun j => j = w.heap.size) _ ⟨w.heap.size, 5, none⟩ (.slice y5 j5 c5) rfl)).trans (Keep.set (X := fun j => j = w.heap.size) _ ⟨w.heap.size, 6, none⟩ (.int .i64 y6) rfl)).trans (Keep.set (X := fun j => j = w.heap.size) _ ⟨w.heap.size, 7, none⟩ (.int .i64 y7) rfl)).trans (Keep.set (X := fun j => j = w.heap.size) _ ⟨w.heap.size, 8, none⟩ (.string y8) rfl)).trans (Keep.set (X := fun j => j = w.heap.size) _ ⟨w.heap.size, 9, none⟩ (.slice y9 j9 c9) rfl)).trans (Keep.set (X := fun j => j = w.heap.size) _ ⟨w.heap.size, 10, none⟩ (.bool y10) rfl)).trans (Keep.set (X := fun j => j = w.heap.size) _ ⟨w.heap.size, 11, none⟩ (.int .i64 y11) rfl)).trans (Keep.set (X := fun j => j = w.heap.size) _ ⟨w.heap.size, 12, none⟩ (.bool y12) rfl)).trans (Keep.set (X := fun j => j = w.heap.size) _ ⟨w.heap.size, 13, none⟩ (.string y13) rfl)).trans (Keep.set (X := fun j => j = w.heap.size) _ ⟨w.heap.size, 14, none⟩ (.int .i64 y14) rfl)).trans (Keep.set (X := fun j => j = w.heap.size) _ ⟨w.heap.size, 15, none⟩ (.slice y15 j15 c15) rfl))
 clear hs0 hs1 hs2 hs3 hs4 hs5 hs6 hs7 hs8 hs9 hs10 hs11 hs12 hs13 hs14 hs15 hs16
 refine bodyPost_ret (results_cell2 rfl _ _ w.heap.size 62 _ (0, 0) _ rfl HSF.out Tryz.underlying62 rfl (by kernel_rfl)) rfl ?_
 have a1 := HBW.out.size
 have a2 := lt_of_block HB.out
 have a3 := HW3.out.size
 refine ⟨_, rfl, fun h0 => EncN.mono (fun j hj => ⟨by have := hj.1; omega, Nat.lt_of_lt_of_le hj.2 HKS.out.size⟩) _ (EncN.keep HKS.out (fun j hj e => by have e9 : j = w.heap.size := e; have := hj.1; omega) _ (H1.out h0)), H2.out, ?_⟩
 exact (((Keep.of_below (X := fun _ => False) HBW.out).trans (Keep.of_below (X := fun _ => False) (HW3.out.mono (Nat.le_refl _)))).trans2 HK.out (fun j e => .inr (by have e9 : j = R := e; have := HRB.out; omega))).trans2 HKS.out (fun j e => .inr (by have e9 : j = w.heap.size := e; omega)) |>.below (Nat.le_refl _) (fun k e => e.elim)
end Go.Proofs.YtmdgifmigikffaaGreat
namespace Go.Proofs.YtmdgifmigikffaaGreat
open Go.RowKit Go.Deep
set_option maxHeartbeats 8000000 in
theorem rPair_any {w : World} {R : Nat} {st : Rst} (h : RAt w R st.1 st.2) (hl : st.1.length ≤ 140737488355328) :
 Calls Tryz.prog 87 #[.agg #[.pointer (some ⟨R, 0, none⟩)]] w (fun en w' => ∃ cs, en = .returned (.agg cs.toArray) ∧ RdP sPair R w st cs w') := by
 have hb : Below w.heap.size w ((w.alloc (.cells #[.pointer (some ⟨R, 0, none⟩)] 79)).alloc (.cells #[.slice none 0 0, .slice none 0 0, .int .i64 0] 72)) := ((Below.refl _ _).alloc (Nat.le_refl _) _).alloc (by simp) _
 have hz := (Below.heap_alloc (w.alloc (.cells #[.pointer (some ⟨R, 0, none⟩)] 79)) (.cells #[.slice none 0 0, .slice none 0 0, .int .i64 0] 72) w.heap.size (by simp)).trans (heap_alloc_new w (.cells #[.pointer (some ⟨R, 0, none⟩)] 79))
 have hB := heap_alloc2_new w (.cells #[.pointer (some ⟨R, 0, none⟩)] 79) (.cells #[.slice none 0 0, .slice none 0 0, .int .i64 0] 72)
 obtain ⟨B, hBe⟩ : ∃ B, B = w.heap.size + 1 := ⟨_, rfl⟩
 have hRw := h.lt
 have hRB : R < B := by omega
 have HR0 := hid (h.old hb)
 rw [← hBe] at hB
 have HB0 := hid hB
 have HX0 := hid hz
 have HBW := hid hb
 have HL0 := hid hl
 clear h hb hz hB hl
 go_enter Tryz.func87, Tryz.ntmps87
 go_upto_region 1 with fail
 generalize (w.alloc (.cells #[.pointer (some ⟨R, 0, none⟩)] 79)).alloc (.cells #[.slice none 0 0, .slice none 0 0, .int .i64 0] 72) = w0 at *
 try rw [← hBe]
 have HK0 : Hid (Keep (fun j => j = R ∨ j = B) w0 w0) := hid (Keep.refl _ _)
 have HBE := hid hBe
 clear hBe
 have y0 := (one_cell HX0.out).1
 have CQ := hid (rtake_data 0 HR0.out HL0.out HB0.out rfl hRB)
 go_upto_region 2 with (first | (go_at_call 74; refine CQ.out.mono ?_; rintro en w1 ⟨rfl, v0, hv⟩; have HV0 := hid hv; clear hv))
 clear CQ y0
 have HB1 : Hid (w1.heap[B]? = some (.cells #[v0, .slice none 0 0, .int .i64 0] 72 (0, 0))) := HV0.out.2.1
 have HR1 : Hid (RAt w1 R (rdF .data st).2.1 (rdF .data st).2.2) := HV0.out.2.2.1
 have HL1 : Hid ((rdF .data st).2.1.length ≤ 140737488355328) := hid (Nat.le_trans (rd_len _ _) HL0.out)
 have HX1 := hid ((HV0.out.2.2.2.block w.heap.size (lt_of_block HX0.out) (fun e => by have e9 : w.heap.size = R ∨ w.heap.size = B := e; have := HBE.out; omega)).trans HX0.out)
 have HK1 := hid (HK0.out.trans HV0.out.2.2.2)
 have HE0_1 := hid (EncN.top HB0.out HV0.out.1)
 have y0 := (one_cell HX1.out).1
 have CQ := hid (rtake_data 1 HR1.out HL1.out HB1.out rfl hRB)
 go_upto_region 3 with (first | (go_at_call 74; refine CQ.out.mono ?_; rintro en w2 ⟨rfl, v1, hv⟩; have HV1 := hid hv; clear hv))
 clear CQ y0
 have HB2 : Hid (w2.heap[B]? = some (.cells #[v0, v1, .int .i64 0] 72 (0, 0))) := HV1.out.2.1
 have HR2 : Hid (RAt w2 R (rdF .data (rdF .data st).2).2.1 (rdF .data (rdF .data st).2).2.2) := HV1.out.2.2.1
 have HL2 : Hid ((rdF .data (rdF .data st).2).2.1.length ≤ 140737488355328) := hid (Nat.le_trans (rd_len _ _) HL1.out)
 have HX2 := hid ((HV1.out.2.2.2.block w.heap.size (lt_of_block HX1.out) (fun e => by have e9 : w.heap.size = R ∨ w.heap.size = B := e; have := HBE.out; omega)).trans HX1.out)
 have HK2 := hid (HK1.out.trans HV1.out.2.2.2)
 have HE1_2 := hid (EncN.top HB1.out HV1.out.1)
 have HE0_2 := hid (EncN.hopc hRB HV1.out.2.2.2 HE0_1.out)
 clear HE0_1
 have y0 := (one_cell HX2.out).1
 have CQ := hid (rtake_whole 2 HR2.out HL2.out HB2.out rfl hRB)
 go_upto_region 4 with (first | (go_at_call 80; refine CQ.out.mono ?_; rintro en w3 ⟨rfl, v2, hv⟩; have HV2 := hid hv; clear hv))
 clear CQ y0
 have HB3 : Hid (w3.heap[B]? = some (.cells #[v0, v1, v2] 72 (0, 0))) := HV2.out.2.1
 have HR3 : Hid (RAt w3 R (rdF .int (rdF .data (rdF .data st).2).2).2.1 (rdF .int (rdF .data (rdF .data st).2).2).2.2) := HV2.out.2.2.1
 have HL3 : Hid ((rdF .int (rdF .data (rdF .data st).2).2).2.1.length ≤ 140737488355328) := hid (Nat.le_trans (rd_len _ _) HL2.out)
 have HX3 := hid ((HV2.out.2.2.2.block w.heap.size (lt_of_block HX2.out) (fun e => by have e9 : w.heap.size = R ∨ w.heap.size = B := e; have := HBE.out; omega)).trans HX2.out)
 have HK3 := hid (HK2.out.trans HV2.out.2.2.2)
 have HE2_3 := hid (EncN.top HB2.out HV2.out.1)
 have HE0_3 := hid (EncN.hopc hRB HV2.out.2.2.2 HE0_2.out)
 have HE1_3 := hid (EncN.hopc hRB HV2.out.2.2.2 HE1_2.out)
 clear HE0_2 HE1_2
 obtain ⟨y0, j0, c0, rfl⟩ := form_data (EncN.enc _ HE0_3.out)
 obtain ⟨y1, j1, c1, rfl⟩ := form_data (EncN.enc _ HE1_3.out)
 obtain ⟨y2, rfl⟩ := form_int (EncN.enc _ HE2_3.out)
 obtain ⟨q0, r0⟩ := row_at (cs := [(.slice y0 j0 c0), (.slice y1 j1 c1), (.int .i64 y2)]) HB3.out (i := 0) rfl
 obtain ⟨q1, r1⟩ := row_at (cs := [(.slice y0 j0 c0), (.slice y1 j1 c1), (.int .i64 y2)]) HB3.out (i := 1) rfl
 obtain ⟨q2, r2⟩ := row_at (cs := [(.slice y0 j0 c0), (.slice y1 j1 c1), (.int .i64 y2)]) HB3.out (i := 2) rfl
 have hs0 : w3.heap[B]? = some (.cells ([(.slice y0 j0 c0), (.slice y1 j1 c1), (.int .i64 y2)] : List Value).toArray 72 (0, 0)) := HB3.out
 have hs1 := row_put hs0 0 (.slice y0 j0 c0)
 have hs2 := row_put hs1 1 (.slice y1 j1 c1)
 have hs3 := row_put hs2 2 (.int .i64 y2)
 have hks : Keep (fun j => j = B) w3 (((w3.setCell ⟨B, 0, none⟩ (.slice y0 j0 c0)).setCell ⟨B, 1, none⟩ (.slice y1 j1 c1)).setCell ⟨B, 2, none⟩ (.int .i64 y2)) := (((Keep.refl (fun j => j = B) _).trans (Keep.set (X := fun j => j = B) _ ⟨B, 0, none⟩ (.slice y0 j0 c0) rfl)).trans (Keep.set (X := fun j => j = B) _ ⟨B, 1, none⟩ (.slice y1 j1 c1) rfl)).trans (Keep.set (X := fun j => j = B) _ ⟨B, 2, none⟩ (.int .i64 y2) rfl)
 have HSF : Hid ((((w3.setCell ⟨B, 0, none⟩ (.slice y0 j0 c0)).setCell ⟨B, 1, none⟩ (.slice y1 j1 c1)).setCell ⟨B, 2, none⟩ (.int .i64 y2)).heap[B]? = some (.cells #[(.slice y0 j0 c0), (.slice y1 j1 c1), (.int .i64 y2)] 72 (0, 0))) := hs3
 have HKS := hid hks
 clear hks hs0 hs1 hs2 hs3
 go_wp2_with fail
 refine bodyPost_ret (results_cell_row rfl _ _ B 72 _ (0, 0) _ rfl HSF.out Tryz.underlying72 rfl (by kernel_rfl)) rfl ?_
 have hfin : ∀ (s : Sh) (cs : List Value) (bs : List UInt8), EncN (fun j => B < j ∧ j < w3.heap.size) w3 s cs bs → EncN (fun j => w.heap.size ≤ j ∧ j < (((w3.setCell ⟨B, 0, none⟩ (.slice y0 j0 c0)).setCell ⟨B, 1, none⟩ (.slice y1 j1 c1)).setCell ⟨B, 2, none⟩ (.int .i64 y2)).heap.size) (((w3.setCell ⟨B, 0, none⟩ (.slice y0 j0 c0)).setCell ⟨B, 1, none⟩ (.slice y1 j1 c1)).setCell ⟨B, 2, none⟩ (.int .i64 y2)) s cs bs := fun s cs bs h => EncN.mono (fun j hj => ⟨by have := HBE.out; omega, Nat.lt_of_lt_of_le hj.2 HKS.out.size⟩) s (EncN.keep HKS.out (fun j hj e => by have e9 : j = B := e; have := hj.1; omega) s h)
 refine ⟨[(.slice y0 j0 c0), (.slice y1 j1 c1), (.int .i64 y2)], rfl, ?_, HR3.out.keepK HKS.out (fun j e => by have e9 : j = B := e; omega), ?_⟩
 · exact ⟨[(.slice y0 j0 c0)], [(.slice y1 j1 c1), (.int .i64 y2)], _, _, rfl, rfl, hfin _ _ _ HE0_3.out, ⟨[(.slice y1 j1 c1)], [(.int .i64 y2)], _, _, rfl, rfl, hfin _ _ _ HE1_3.out, ⟨[(.int .i64 y2)], [], _, _, rfl, rfl, hfin _ _ _ HE2_3.out, ⟨rfl, rfl⟩⟩⟩⟩
 · exact (Keep.of_below HBW.out).trans2 (HK3.out.trans (HKS.out.mono (fun j _ e => .inr e))) (fun j e => by rcases e with e | e <;> first | exact .inl e | exact .inr (by have := HBE.out; omega))
set_option maxHeartbeats 8000000 in
theorem rlist_Pair {w : World} {R B : Nat} {st : Rst} {cs : List Value} {t : TypeId} (i : Nat) (h : RAt w R st.1 st.2) (hl : st.1.length ≤ 140737488355328) (hB : w.heap[B]? = some (.cells cs.toArray t (0, 0))) (hi : cs[i]? = some (.slice none 0 0)) (hRB : R < B) :
 Calls Tryz.prog 86 #[.agg #[.pointer (some ⟨R, 0, none⟩)], .pointer (some ⟨B, i, none⟩), (.func (.func 87) #[.agg #[.pointer (some ⟨R, 0, none⟩)]] #[])] w (fun en w' => en = .returned (.tuple #[]) ∧ ∃ v, TkP (.list sPair) R B w st cs t i v w') := by
 obtain ⟨i0, hi0, hz0, hz1, hz2⟩ : ∃ i0, Tryz.prog.info? 72 = some i0 ∧ i0.zero = some (.agg #[.slice none 0 0, .slice none 0 0, .int .i64 0]) ∧ i0.size = 3 ∧ i0.bytes = 56 := by
  have h9 : (Tryz.prog.info? 72).map (fun i => (i.zero, i.size, i.bytes)) = some (some (.agg #[.slice none 0 0, .slice none 0 0, .int .i64 0]), 3, 56) := by kernel_rfl
  cases hq : Tryz.prog.info? 72 with
  | none => rw [hq] at h9; cases h9
  | some q => rw [hq] at h9; simp at h9; exact ⟨q, rfl, h9⟩
 have HI0 := hid (And.intro hi0 (And.intro hz0 (And.intro hz1 hz2)))
 clear hi0 hz0 hz1 hz2
 have hb : Below w.heap.size w (w.alloc (.cells #[.pointer (some ⟨R, 0, none⟩)] 79)) := (Below.refl _ _).alloc (Nat.le_refl _) _
 have hz := heap_alloc_new w (.cells #[.pointer (some ⟨R, 0, none⟩)] 79)
 have hRw := h.lt
 have hBw := lt_of_block hB
 have HRW := hid hRw
 have HBW := hid hBw
 have H := hid (h.old hb)
 have HB := hid hb
 have HF := hid ((hb.block _ hBw).trans hB)
 have HI := hid hi
 have HZ := hid hz
 have HLE := hid hl
 clear h hB hi hb hz hl
 go_enter Tryz.func86, Tryz.ntmps86
 go_upto_region 1 with fail
 generalize w.alloc (.cells #[.pointer (some ⟨R, 0, none⟩)] 79) = w1 at *
 obtain ⟨z0, z1⟩ := one_cell HZ.out
 obtain ⟨n, hn⟩ : ∃ n, n = (lookS 5000 st.1 st.2).1 := ⟨_, rfl⟩
 obtain ⟨s1, hs1⟩ : ∃ s1 : Rst, s1 = (st.1.drop (lookS 5000 st.1 st.2).2.1, (lookS 5000 st.1 st.2).2.2) := ⟨_, rfl⟩
 have HN := hid (And.intro hn hs1)
 have hn5 : n ≤ 5000 := by rw [hn]; exact lookS_most _ _ _
 have C0 : Hid (Calls Tryz.prog 140 #[.pointer (some ⟨R, 0, none⟩), .int .i64 5000] w1 (fun en w' => en = .returned (.int .i64 (n : Int)) ∧ RAt w' R s1.1 s1.2 ∧ w1.grownBy w' (some R))) := hid ((smallR_any w1 R st.1 st.2 5000 (by decide) H.out).mono (fun en w9 h9 => by rw [hn, hs1]; exact h9))
 have HS1 : Hid (s1.1.length ≤ st.1.length) := hid (by rw [hs1]; simp)
 clear hn hs1
 go_wp2_with (first | (go_at_call 140; refine C0.out.mono ?_; rintro en w2 ⟨rfl, h2, g2⟩; have H2 := hid h2; have K2 := hid (show Keep (fun j => j = R ∨ j = B) w w2 from (Keep.of_below HB.out).trans ((Keep.of_grown (X := fun j => j = R) g2 (fun j e => by cases e; rfl)).mono (fun j _ e => .inl e))); have HF2 := hid ((g2.block B (lt_of_block HF.out) (fun e => by cases e; omega)).trans HF.out); have HZ2 := hid ((g2.block w.heap.size (lt_of_block HZ.out) (fun e => by cases e; omega)).trans HZ.out); clear h2 g2))
 clear z0 z1 C0
 go_loopw [9] (fun ix wr => ∃ (k : Nat) (M : List (List Value × List UInt8)) (ao : Option Addr) (c : Nat) (sk : Rst), ix = .int .i64 (k : Int) ∧ wr.heap[w.heap.size]? = some (.cells #[.pointer (some ⟨R, 0, none⟩)] 79 (0, 0)) ∧ TLp sPair 72 R B i w cs t n s1 wr k M ao c sk) (fun ix _ => n - (intOf ix).toNat)
 case atStart => exact ⟨0, [], none, 0, s1, rfl, HZ2.out, TLp.begin HI.out HF2.out H2.out K2.out⟩
 case round =>
  obtain ⟨k, M, ao, c, sk, rfl, hzr, ht⟩ := hrel
  have hk := ht.le
  have HT := hid ht
  have HZR := hid hzr
  clear ht hzr
  by_cases hlt : k < n
  · have hki : (k : Int) < (n : Int) := by omega
    go_upto_region 3 with fail
    have hWd : Below wr.heap.size wr wr.drew := ⟨rfl, rfl, rfl, Nat.le_refl _, fun _ _ => rfl⟩
    have HLk : Hid (sk.1.length ≤ 140737488355328) := hid (by have := HT.out.small; have := HS1.out; have := HLE.out; omega)
    have HTd : Hid (RAt wr.drew R sk.1 sk.2) := hid (HT.out.rat.old hWd)
    have HFd : Hid (wr.drew.heap[B]? = some (.cells (cs.set i (.slice ao k c)).toArray t (0, 0))) := HT.out.field
    have HLI := hid (List.getElem?_set_self (a := .slice ao k c) (List.getElem?_eq_some_iff.1 HI.out).1)
    have CN := hid (rPair_any HTd.out HLk.out)
    have HUD : Hid (∀ mc w9, RdP sPair R wr.drew sk mc w9 → RdP sPair R wr sk mc w9) := hid fun _ _ h => h.undrew
    have HZd : Hid (wr.drew.heap[w.heap.size]? = some (.cells #[.pointer (some ⟨R, 0, none⟩)] 79 (0, 0))) := HZR.out
    clear hWd
    refine wp_region_noPanic ?_
    refine wp_region_L (S := fun W => Hid (W.cell? ⟨B, i, none⟩ = some (.slice ao k c))) 9 (by kernel_rfl) ?_
    have HD0 := hid (row_at HFd.out HLI.out).1
    generalize wr.drew = Wd at *
    refine tkV 0 (.pointer (some ⟨B, i, none⟩)) rfl (by kernel_rfl) (fun _ _ _ => False.elim) (Or.inl ⟨by rfl, fun W9 _ => by simp only [jA, jB, jC]; go_simp⟩) (fun _ => HD0) ?_
    simp only [Act.put, jA, jB, jC, jD, jE, jF]
    refine tkV 1 (.pointer (some ⟨B, i, none⟩)) rfl (by kernel_rfl) (fun _ _ _ => False.elim) (Or.inl ⟨by rfl, fun W9 _ => by simp only [jA, jB, jC]; go_simp⟩) (fun _ => HD0) ?_
    simp only [Act.put, jA, jB, jC, jD, jE, jF]
    refine tkV 2 (.pointer (some ⟨B, i, none⟩)) rfl (by kernel_rfl) (fun _ _ _ => False.elim) (Or.inl ⟨by rfl, fun W9 _ => by simp only [jA, jB, jC]; go_simp⟩) (fun _ => HD0) ?_
    simp only [Act.put, jA, jB, jC, jD, jE, jF]
    refine tkV 4 (.func (.func 87) #[.agg #[.pointer (some ⟨R, 0, none⟩)]] #[]) rfl (by kernel_rfl) (fun _ _ _ => False.elim) (Or.inl ⟨by rfl, fun W9 _ => by simp only [jA, jB, jC]; go_simp⟩) (fun _ => HD0) ?_
    simp only [Act.put, jA, jB, jC, jD, jE, jF]
    refine tkL 3 (.slice ao k c) [3, 7, 9] rfl (by kernel_rfl) (fun _ _ _ => False.elim) HD0 (Or.inl ⟨by rfl, fun W9 hW => by have d9 := hW.out; clear hW; simp only [jA, jB, jC]; go_simp⟩) ?_
    simp only [Act.put, jA, jB, jC, jD, jE, jF]
    refine rdL 5 (by kernel_rfl) rfl fun K hK => ?_
    go_simp
    go_wp2_with (first | (go_at_call 87; refine CN.out.mono ?_; rintro en wT ⟨mc, rfl, hv⟩; obtain ⟨v0, v1, v2, b0, b1, b2, rfl, _, e0, e1, e2⟩ := Pair_cells (EncN.enc _ hv.1); obtain ⟨y0, j0, c0, rfl⟩ := form_data e0; obtain ⟨y1, j1, c1, rfl⟩ := form_data e1; obtain ⟨y2, rfl⟩ := form_int e2; clear e0 e1 e2; have HV := hid (HUD.out _ _ hv); have HZT := hid ((hv.2.2.block w.heap.size (lt_of_block HZd.out) (fun e => by have e9 : w.heap.size = R := e; omega)).trans HZd.out); have HFT := hid ((hv.2.2.block B (lt_of_block HFd.out) (fun e => by have e9 : B = R := e; omega)).trans HFd.out); clear hv))
    refine hK.out _ _ (hid (row_at HFT.out HLI.out).1) fun _ => ?_
    clear hK K
    have H3 : Hid (Below wT.heap.size wT (wT.alloc (.cells #[.slice y0 j0 c0, .slice y1 j1 c1, .int .i64 y2] 72))) := hid ((Below.refl _ _).alloc (Nat.le_refl _) _)
    have HR3 := hid (heap_alloc_new wT (.cells #[.slice y0 j0 c0, .slice y1 j1 c1, .int .i64 y2] 72))
    have HF3 := hid ((H3.out.block B (lt_of_block HFT.out)).trans HFT.out)
    have HOW := hid (own_old (own_keep (X := fun j => j = R) HT.out.own (show Keep _ wr wT from HV.out.2.2) (fun j e e9 => by have e8 : j = R := e9; have := (HT.out.own.lt j e).1; omega)) H3.out)
    have HSZ : Hid (w.heap.size + 1 ≤ (wT.alloc (.cells #[.slice y0 j0 c0, .slice y1 j1 c1, .int .i64 y2] 72)).heap.size) := hid (by have := lt_of_block HZT.out; have := H3.out.size; show _ ≤ _; omega)
    refine rdL 6 (by kernel_rfl) rfl fun K hK => ?_
    go_simp
    refine hK.out _ _ (hid (row_at HF3.out HLI.out).1) fun _ => ?_
    clear hK K
    refine rdL 7 (by kernel_rfl) rfl fun K hK => ?_
    refine step_app1 (by rfl) (.tmp 14) (.tmp 17) 33 (by rfl) (w.heap.size + 1) 72 Tryz.underlying33 HI0.out.1 HI0.out.2.1 HI0.out.2.2.1 HI0.out.2.2.2 (by simp [Value.cells]) (by decide) _ k _ (by rfl) HOW.out wT.heap.size [.slice y0 j0 c0, .slice y1 j1 c1, .int .i64 y2] (by rfl) HR3.out rfl (fun u hu => by simp only [List.mem_cons, List.not_mem_nil, or_false] at hu; rcases hu with rfl | rfl | rfl <;> rfl) (by omega) (by decide) HSZ.out (fun g cap w' o5 g5 gg5 => ?_)
    have HF4 := hid (heap_kept g5 HF3.out (fun e => by have := (HT.out.own.lt B e.symm).1; omega))
    have HZ5 : Hid ((w'.setCell ⟨B, i, none⟩ (.slice (some ⟨g, 0, none⟩) (k + 1) cap)).heap[w.heap.size]? = some (.cells #[.pointer (some ⟨R, 0, none⟩)] 79 (0, 0))) := hid (heap_kept (grown_set w' ⟨B, i, none⟩ _) (heap_kept g5 ((H3.out.block _ (lt_of_block HZT.out)).trans HZT.out) (fun e => by have := (HT.out.own.lt _ e.symm).1; omega)) (fun e => by have e9 : w.heap.size = B := (by simpa using e); have := HBW.out; omega))
    have HNX := hid (HT.out.next HRW.out HBW.out hRB hlt (show RdP sPair R wr sk [.slice y0 j0 c0, .slice y1 j1 c1, .int .i64 y2] wT from HV.out) H3.out o5 g5 gg5)
    clear o5 g5 gg5
    refine hK.out _ _ (hid (row_at HF4.out HLI.out).1) fun _ => ?_
    clear hK K
    simp only [Act.put, jA, jB, jC, jD, jE, jF]
    refine tkV 8 (.pointer (some ⟨B, i, none⟩)) rfl (by kernel_rfl) (fun _ _ _ => False.elim) (Or.inl ⟨by rfl, fun W9 _ => by simp only [jA, jB, jC]; go_simp⟩) (fun _ => hid (row_at HF4.out HLI.out).1) ?_
    simp only [Act.put, jA, jB, jC, jD, jE, jF]
    obtain ⟨q0, q1⟩ := row_at HF4.out HLI.out
    refine rdS (by kernel_rfl) rfl fun K hK => ?_
    go_simp
    refine hK.out _ _ ?_
    clear hK K q0 q1
    refine doneL (by kernel_rfl) (NoPanic.normal ?_) _
    generalize w'.setCell ⟨B, i, none⟩ (.slice (some ⟨g, 0, none⟩) (k + 1) cap) = w5 at *
    obtain ⟨p0, p1⟩ := one_cell HZ5.out
    have CE := hid (err_any w5 R _ _ HNX.out.1)
    obtain ⟨ev, hev⟩ : ∃ ev, ev = (rdF sPair sk).2.2 := ⟨_, rfl⟩
    rw [← hev] at CE
    by_cases h0 : ev = 0
    · have HNE := hid (HNX.out.2.1 (by rw [← hev]; exact h0))
      subst h0
      clear hev
      go_wp2_with (first | (go_at_call 132; refine CE.out.mono ?_; rintro en w6 ⟨rfl, rfl⟩))
      go_roundw
      case rel => exact ⟨k + 1, _, _, _, _, by go_num, HZ5.out, HNE.out⟩
      case measure => simp [intOf]; omega
    · have HNE := hid (HNX.out.2.2 (by rw [← hev]; exact h0) hn5)
      have hbe : (ev != 0) = true := by simp [h0]
      clear hev
      go_wp2_with (first | (go_at_call 132; refine CE.out.mono ?_; rintro en w6 ⟨rfl, rfl⟩))
      (try simp only [Exit.inBlock, Exit.then]); refine bodyPost_ret (results_none rfl _ _ _) rfl ?_
      obtain ⟨m1, m2, m3, m4⟩ := HNE.out
      refine ⟨rfl, .slice (some ⟨g, 0, none⟩) (k + 1) cap, ?_, m2, ?_, m4⟩
      · simp only [rdF]; rw [← HN.out.1, ← HN.out.2]; exact m1
      · simp only [rdF]; rw [← HN.out.1, ← HN.out.2]; exact m3
  · obtain rfl : n = k := by omega
    have hki : ¬ (n : Int) < (n : Int) := by omega
    go_wp2_with fail
    go_end0
    obtain ⟨p1, p2⟩ := HT.out.done hn5
    refine ⟨rfl, .slice ao n c, ?_, HT.out.field, ?_, HT.out.keep⟩
    · simp only [rdF]; rw [← HN.out.1, ← HN.out.2]; exact p1
    · simp only [rdF]; rw [← HN.out.1, ← HN.out.2]; exact p2
end Go.Proofs.YtmdgifmigikffaaGreat
namespace Go.Proofs.YtmdgifmigikffaaGreat
open Go.RowKit Go.Deep
set_option maxHeartbeats 8000000 in
theorem rOwner_any {w : World} {R : Nat} {st : Rst} (h : RAt w R st.1 st.2) (hl : st.1.length ≤ 140737488355328) :
 Calls Tryz.prog 147 #[.agg #[.pointer (some ⟨R, 0, none⟩)]] w (fun en w' => ∃ cs, en = .returned (.agg cs.toArray) ∧ RdP sOwner R w st cs w') := by
 have hb : Below w.heap.size w ((w.alloc (.cells #[.pointer (some ⟨R, 0, none⟩)] 79)).alloc (.cells #[.int .i64 0, .slice none 0 0] 196)) := ((Below.refl _ _).alloc (Nat.le_refl _) _).alloc (by simp) _
 have hz := (Below.heap_alloc (w.alloc (.cells #[.pointer (some ⟨R, 0, none⟩)] 79)) (.cells #[.int .i64 0, .slice none 0 0] 196) w.heap.size (by simp)).trans (heap_alloc_new w (.cells #[.pointer (some ⟨R, 0, none⟩)] 79))
 have hB := heap_alloc2_new w (.cells #[.pointer (some ⟨R, 0, none⟩)] 79) (.cells #[.int .i64 0, .slice none 0 0] 196)
 obtain ⟨B, hBe⟩ : ∃ B, B = w.heap.size + 1 := ⟨_, rfl⟩
 have hRw := h.lt
 have hRB : R < B := by omega
 have HR0 := hid (h.old hb)
 rw [← hBe] at hB
 have HB0 := hid hB
 have HX0 := hid hz
 have HBW := hid hb
 have HL0 := hid hl
 clear h hb hz hB hl
 go_enter Tryz.func147, Tryz.ntmps147
 go_upto_region 1 with fail
 generalize (w.alloc (.cells #[.pointer (some ⟨R, 0, none⟩)] 79)).alloc (.cells #[.int .i64 0, .slice none 0 0] 196) = w0 at *
 try rw [← hBe]
 have HK0 : Hid (Keep (fun j => j = R ∨ j = B) w0 w0) := hid (Keep.refl _ _)
 have HBE := hid hBe
 clear hBe
 have y0 := (one_cell HX0.out).1
 have CQ := hid (rtake_whole 0 HR0.out HL0.out HB0.out rfl hRB)
 go_upto_region 2 with (first | (go_at_call 80; refine CQ.out.mono ?_; rintro en w1 ⟨rfl, v0, hv⟩; have HV0 := hid hv; clear hv))
 clear CQ y0
 have HB1 : Hid (w1.heap[B]? = some (.cells #[v0, .slice none 0 0] 196 (0, 0))) := HV0.out.2.1
 have HR1 : Hid (RAt w1 R (rdF .int st).2.1 (rdF .int st).2.2) := HV0.out.2.2.1
 have HL1 : Hid ((rdF .int st).2.1.length ≤ 140737488355328) := hid (Nat.le_trans (rd_len _ _) HL0.out)
 have HX1 := hid ((HV0.out.2.2.2.block w.heap.size (lt_of_block HX0.out) (fun e => by have e9 : w.heap.size = R ∨ w.heap.size = B := e; have := HBE.out; omega)).trans HX0.out)
 have HK1 := hid (HK0.out.trans HV0.out.2.2.2)
 have HE0_1 := hid (EncN.top HB0.out HV0.out.1)
 have y0 := (one_cell HX1.out).1
 have CQ := hid (rtake_data 1 HR1.out HL1.out HB1.out rfl hRB)
 go_upto_region 3 with (first | (go_at_call 74; refine CQ.out.mono ?_; rintro en w2 ⟨rfl, v1, hv⟩; have HV1 := hid hv; clear hv))
 clear CQ y0
 have HB2 : Hid (w2.heap[B]? = some (.cells #[v0, v1] 196 (0, 0))) := HV1.out.2.1
 have HR2 : Hid (RAt w2 R (rdF .data (rdF .int st).2).2.1 (rdF .data (rdF .int st).2).2.2) := HV1.out.2.2.1
 have HL2 : Hid ((rdF .data (rdF .int st).2).2.1.length ≤ 140737488355328) := hid (Nat.le_trans (rd_len _ _) HL1.out)
 have HX2 := hid ((HV1.out.2.2.2.block w.heap.size (lt_of_block HX1.out) (fun e => by have e9 : w.heap.size = R ∨ w.heap.size = B := e; have := HBE.out; omega)).trans HX1.out)
 have HK2 := hid (HK1.out.trans HV1.out.2.2.2)
 have HE1_2 := hid (EncN.top HB1.out HV1.out.1)
 have HE0_2 := hid (EncN.hopc hRB HV1.out.2.2.2 HE0_1.out)
 clear HE0_1
 obtain ⟨y0, rfl⟩ := form_int (EncN.enc _ HE0_2.out)
 obtain ⟨y1, j1, c1, rfl⟩ := form_data (EncN.enc _ HE1_2.out)
 obtain ⟨q0, r0⟩ := row_at (cs := [(.int .i64 y0), (.slice y1 j1 c1)]) HB2.out (i := 0) rfl
 obtain ⟨q1, r1⟩ := row_at (cs := [(.int .i64 y0), (.slice y1 j1 c1)]) HB2.out (i := 1) rfl
 have hs0 : w2.heap[B]? = some (.cells ([(.int .i64 y0), (.slice y1 j1 c1)] : List Value).toArray 196 (0, 0)) := HB2.out
 have hs1 := row_put hs0 0 (.int .i64 y0)
 have hs2 := row_put hs1 1 (.slice y1 j1 c1)
 have hks : Keep (fun j => j = B) w2 ((w2.setCell ⟨B, 0, none⟩ (.int .i64 y0)).setCell ⟨B, 1, none⟩ (.slice y1 j1 c1)) := ((Keep.refl (fun j => j = B) _).trans (Keep.set (X := fun j => j = B) _ ⟨B, 0, none⟩ (.int .i64 y0) rfl)).trans (Keep.set (X := fun j => j = B) _ ⟨B, 1, none⟩ (.slice y1 j1 c1) rfl)
 have HSF : Hid (((w2.setCell ⟨B, 0, none⟩ (.int .i64 y0)).setCell ⟨B, 1, none⟩ (.slice y1 j1 c1)).heap[B]? = some (.cells #[(.int .i64 y0), (.slice y1 j1 c1)] 196 (0, 0))) := hs2
 have HKS := hid hks
 clear hks hs0 hs1 hs2
 go_wp2_with fail
 refine bodyPost_ret (results_cell_row rfl _ _ B 196 _ (0, 0) _ rfl HSF.out Tryz.underlying196 rfl (by kernel_rfl)) rfl ?_
 have hfin : ∀ (s : Sh) (cs : List Value) (bs : List UInt8), EncN (fun j => B < j ∧ j < w2.heap.size) w2 s cs bs → EncN (fun j => w.heap.size ≤ j ∧ j < ((w2.setCell ⟨B, 0, none⟩ (.int .i64 y0)).setCell ⟨B, 1, none⟩ (.slice y1 j1 c1)).heap.size) ((w2.setCell ⟨B, 0, none⟩ (.int .i64 y0)).setCell ⟨B, 1, none⟩ (.slice y1 j1 c1)) s cs bs := fun s cs bs h => EncN.mono (fun j hj => ⟨by have := HBE.out; omega, Nat.lt_of_lt_of_le hj.2 HKS.out.size⟩) s (EncN.keep HKS.out (fun j hj e => by have e9 : j = B := e; have := hj.1; omega) s h)
 refine ⟨[(.int .i64 y0), (.slice y1 j1 c1)], rfl, ?_, HR2.out.keepK HKS.out (fun j e => by have e9 : j = B := e; omega), ?_⟩
 · exact ⟨[(.int .i64 y0)], [(.slice y1 j1 c1)], _, _, rfl, rfl, hfin _ _ _ HE0_2.out, ⟨[(.slice y1 j1 c1)], [], _, _, rfl, rfl, hfin _ _ _ HE1_2.out, ⟨rfl, rfl⟩⟩⟩
 · exact (Keep.of_below HBW.out).trans2 (HK2.out.trans (HKS.out.mono (fun j _ e => .inr e))) (fun j e => by rcases e with e | e <;> first | exact .inl e | exact .inr (by have := HBE.out; omega))
set_option maxHeartbeats 8000000 in
theorem rlist_Owner {w : World} {R B : Nat} {st : Rst} {cs : List Value} {t : TypeId} (i : Nat) (h : RAt w R st.1 st.2) (hl : st.1.length ≤ 140737488355328) (hB : w.heap[B]? = some (.cells cs.toArray t (0, 0))) (hi : cs[i]? = some (.slice none 0 0)) (hRB : R < B) :
 Calls Tryz.prog 146 #[.agg #[.pointer (some ⟨R, 0, none⟩)], .pointer (some ⟨B, i, none⟩), (.func (.func 147) #[.agg #[.pointer (some ⟨R, 0, none⟩)]] #[])] w (fun en w' => en = .returned (.tuple #[]) ∧ ∃ v, TkP (.list sOwner) R B w st cs t i v w') := by
 obtain ⟨i0, hi0, hz0, hz1, hz2⟩ : ∃ i0, Tryz.prog.info? 196 = some i0 ∧ i0.zero = some (.agg #[.int .i64 0, .slice none 0 0]) ∧ i0.size = 2 ∧ i0.bytes = 32 := by
  have h9 : (Tryz.prog.info? 196).map (fun i => (i.zero, i.size, i.bytes)) = some (some (.agg #[.int .i64 0, .slice none 0 0]), 2, 32) := by kernel_rfl
  cases hq : Tryz.prog.info? 196 with
  | none => rw [hq] at h9; cases h9
  | some q => rw [hq] at h9; simp at h9; exact ⟨q, rfl, h9⟩
 have HI0 := hid (And.intro hi0 (And.intro hz0 (And.intro hz1 hz2)))
 clear hi0 hz0 hz1 hz2
 have hb : Below w.heap.size w (w.alloc (.cells #[.pointer (some ⟨R, 0, none⟩)] 79)) := (Below.refl _ _).alloc (Nat.le_refl _) _
 have hz := heap_alloc_new w (.cells #[.pointer (some ⟨R, 0, none⟩)] 79)
 have hRw := h.lt
 have hBw := lt_of_block hB
 have HRW := hid hRw
 have HBW := hid hBw
 have H := hid (h.old hb)
 have HB := hid hb
 have HF := hid ((hb.block _ hBw).trans hB)
 have HI := hid hi
 have HZ := hid hz
 have HLE := hid hl
 clear h hB hi hb hz hl
 go_enter Tryz.func146, Tryz.ntmps146
 go_upto_region 1 with fail
 generalize w.alloc (.cells #[.pointer (some ⟨R, 0, none⟩)] 79) = w1 at *
 obtain ⟨z0, z1⟩ := one_cell HZ.out
 obtain ⟨n, hn⟩ : ∃ n, n = (lookS 5000 st.1 st.2).1 := ⟨_, rfl⟩
 obtain ⟨s1, hs1⟩ : ∃ s1 : Rst, s1 = (st.1.drop (lookS 5000 st.1 st.2).2.1, (lookS 5000 st.1 st.2).2.2) := ⟨_, rfl⟩
 have HN := hid (And.intro hn hs1)
 have hn5 : n ≤ 5000 := by rw [hn]; exact lookS_most _ _ _
 have C0 : Hid (Calls Tryz.prog 140 #[.pointer (some ⟨R, 0, none⟩), .int .i64 5000] w1 (fun en w' => en = .returned (.int .i64 (n : Int)) ∧ RAt w' R s1.1 s1.2 ∧ w1.grownBy w' (some R))) := hid ((smallR_any w1 R st.1 st.2 5000 (by decide) H.out).mono (fun en w9 h9 => by rw [hn, hs1]; exact h9))
 have HS1 : Hid (s1.1.length ≤ st.1.length) := hid (by rw [hs1]; simp)
 clear hn hs1
 go_wp2_with (first | (go_at_call 140; refine C0.out.mono ?_; rintro en w2 ⟨rfl, h2, g2⟩; have H2 := hid h2; have K2 := hid (show Keep (fun j => j = R ∨ j = B) w w2 from (Keep.of_below HB.out).trans ((Keep.of_grown (X := fun j => j = R) g2 (fun j e => by cases e; rfl)).mono (fun j _ e => .inl e))); have HF2 := hid ((g2.block B (lt_of_block HF.out) (fun e => by cases e; omega)).trans HF.out); have HZ2 := hid ((g2.block w.heap.size (lt_of_block HZ.out) (fun e => by cases e; omega)).trans HZ.out); clear h2 g2))
 clear z0 z1 C0
 go_loopw [9] (fun ix wr => ∃ (k : Nat) (M : List (List Value × List UInt8)) (ao : Option Addr) (c : Nat) (sk : Rst), ix = .int .i64 (k : Int) ∧ wr.heap[w.heap.size]? = some (.cells #[.pointer (some ⟨R, 0, none⟩)] 79 (0, 0)) ∧ TLp sOwner 196 R B i w cs t n s1 wr k M ao c sk) (fun ix _ => n - (intOf ix).toNat)
 case atStart => exact ⟨0, [], none, 0, s1, rfl, HZ2.out, TLp.begin HI.out HF2.out H2.out K2.out⟩
 case round =>
  obtain ⟨k, M, ao, c, sk, rfl, hzr, ht⟩ := hrel
  have hk := ht.le
  have HT := hid ht
  have HZR := hid hzr
  clear ht hzr
  by_cases hlt : k < n
  · have hki : (k : Int) < (n : Int) := by omega
    go_upto_region 3 with fail
    have hWd : Below wr.heap.size wr wr.drew := ⟨rfl, rfl, rfl, Nat.le_refl _, fun _ _ => rfl⟩
    have HLk : Hid (sk.1.length ≤ 140737488355328) := hid (by have := HT.out.small; have := HS1.out; have := HLE.out; omega)
    have HTd : Hid (RAt wr.drew R sk.1 sk.2) := hid (HT.out.rat.old hWd)
    have HFd : Hid (wr.drew.heap[B]? = some (.cells (cs.set i (.slice ao k c)).toArray t (0, 0))) := HT.out.field
    have HLI := hid (List.getElem?_set_self (a := .slice ao k c) (List.getElem?_eq_some_iff.1 HI.out).1)
    have CN := hid (rOwner_any HTd.out HLk.out)
    have HUD : Hid (∀ mc w9, RdP sOwner R wr.drew sk mc w9 → RdP sOwner R wr sk mc w9) := hid fun _ _ h => h.undrew
    have HZd : Hid (wr.drew.heap[w.heap.size]? = some (.cells #[.pointer (some ⟨R, 0, none⟩)] 79 (0, 0))) := HZR.out
    clear hWd
    refine wp_region_noPanic ?_
    refine wp_region_L (S := fun W => Hid (W.cell? ⟨B, i, none⟩ = some (.slice ao k c))) 9 (by kernel_rfl) ?_
    have HD0 := hid (row_at HFd.out HLI.out).1
    generalize wr.drew = Wd at *
    refine tkV 0 (.pointer (some ⟨B, i, none⟩)) rfl (by kernel_rfl) (fun _ _ _ => False.elim) (Or.inl ⟨by rfl, fun W9 _ => by simp only [jA, jB, jC]; go_simp⟩) (fun _ => HD0) ?_
    simp only [Act.put, jA, jB, jC, jD, jE, jF]
    refine tkV 1 (.pointer (some ⟨B, i, none⟩)) rfl (by kernel_rfl) (fun _ _ _ => False.elim) (Or.inl ⟨by rfl, fun W9 _ => by simp only [jA, jB, jC]; go_simp⟩) (fun _ => HD0) ?_
    simp only [Act.put, jA, jB, jC, jD, jE, jF]
    refine tkV 2 (.pointer (some ⟨B, i, none⟩)) rfl (by kernel_rfl) (fun _ _ _ => False.elim) (Or.inl ⟨by rfl, fun W9 _ => by simp only [jA, jB, jC]; go_simp⟩) (fun _ => HD0) ?_
    simp only [Act.put, jA, jB, jC, jD, jE, jF]
    refine tkV 4 (.func (.func 147) #[.agg #[.pointer (some ⟨R, 0, none⟩)]] #[]) rfl (by kernel_rfl) (fun _ _ _ => False.elim) (Or.inl ⟨by rfl, fun W9 _ => by simp only [jA, jB, jC]; go_simp⟩) (fun _ => HD0) ?_
    simp only [Act.put, jA, jB, jC, jD, jE, jF]
    refine tkL 3 (.slice ao k c) [3, 7, 9] rfl (by kernel_rfl) (fun _ _ _ => False.elim) HD0 (Or.inl ⟨by rfl, fun W9 hW => by have d9 := hW.out; clear hW; simp only [jA, jB, jC]; go_simp⟩) ?_
    simp only [Act.put, jA, jB, jC, jD, jE, jF]
    refine rdL 5 (by kernel_rfl) rfl fun K hK => ?_
    go_simp
    go_wp2_with (first | (go_at_call 147; refine CN.out.mono ?_; rintro en wT ⟨mc, rfl, hv⟩; obtain ⟨v0, v1, b0, b1, rfl, _, e0, e1⟩ := Owner_cells (EncN.enc _ hv.1); obtain ⟨y0, rfl⟩ := form_int e0; obtain ⟨y1, j1, c1, rfl⟩ := form_data e1; clear e0 e1; have HV := hid (HUD.out _ _ hv); have HZT := hid ((hv.2.2.block w.heap.size (lt_of_block HZd.out) (fun e => by have e9 : w.heap.size = R := e; omega)).trans HZd.out); have HFT := hid ((hv.2.2.block B (lt_of_block HFd.out) (fun e => by have e9 : B = R := e; omega)).trans HFd.out); clear hv))
    refine hK.out _ _ (hid (row_at HFT.out HLI.out).1) fun _ => ?_
    clear hK K
    have H3 : Hid (Below wT.heap.size wT (wT.alloc (.cells #[.int .i64 y0, .slice y1 j1 c1] 196))) := hid ((Below.refl _ _).alloc (Nat.le_refl _) _)
    have HR3 := hid (heap_alloc_new wT (.cells #[.int .i64 y0, .slice y1 j1 c1] 196))
    have HF3 := hid ((H3.out.block B (lt_of_block HFT.out)).trans HFT.out)
    have HOW := hid (own_old (own_keep (X := fun j => j = R) HT.out.own (show Keep _ wr wT from HV.out.2.2) (fun j e e9 => by have e8 : j = R := e9; have := (HT.out.own.lt j e).1; omega)) H3.out)
    have HSZ : Hid (w.heap.size + 1 ≤ (wT.alloc (.cells #[.int .i64 y0, .slice y1 j1 c1] 196)).heap.size) := hid (by have := lt_of_block HZT.out; have := H3.out.size; show _ ≤ _; omega)
    refine rdL 6 (by kernel_rfl) rfl fun K hK => ?_
    go_simp
    refine hK.out _ _ (hid (row_at HF3.out HLI.out).1) fun _ => ?_
    clear hK K
    refine rdL 7 (by kernel_rfl) rfl fun K hK => ?_
    refine step_app1 (by rfl) (.tmp 14) (.tmp 17) 51 (by rfl) (w.heap.size + 1) 196 Tryz.underlying51 HI0.out.1 HI0.out.2.1 HI0.out.2.2.1 HI0.out.2.2.2 (by simp [Value.cells]) (by decide) _ k _ (by rfl) HOW.out wT.heap.size [.int .i64 y0, .slice y1 j1 c1] (by rfl) HR3.out rfl (fun u hu => by simp only [List.mem_cons, List.not_mem_nil, or_false] at hu; rcases hu with rfl | rfl <;> rfl) (by omega) (by decide) HSZ.out (fun g cap w' o5 g5 gg5 => ?_)
    have HF4 := hid (heap_kept g5 HF3.out (fun e => by have := (HT.out.own.lt B e.symm).1; omega))
    have HZ5 : Hid ((w'.setCell ⟨B, i, none⟩ (.slice (some ⟨g, 0, none⟩) (k + 1) cap)).heap[w.heap.size]? = some (.cells #[.pointer (some ⟨R, 0, none⟩)] 79 (0, 0))) := hid (heap_kept (grown_set w' ⟨B, i, none⟩ _) (heap_kept g5 ((H3.out.block _ (lt_of_block HZT.out)).trans HZT.out) (fun e => by have := (HT.out.own.lt _ e.symm).1; omega)) (fun e => by have e9 : w.heap.size = B := (by simpa using e); have := HBW.out; omega))
    have HNX := hid (HT.out.next HRW.out HBW.out hRB hlt (show RdP sOwner R wr sk [.int .i64 y0, .slice y1 j1 c1] wT from HV.out) H3.out o5 g5 gg5)
    clear o5 g5 gg5
    refine hK.out _ _ (hid (row_at HF4.out HLI.out).1) fun _ => ?_
    clear hK K
    simp only [Act.put, jA, jB, jC, jD, jE, jF]
    refine tkV 8 (.pointer (some ⟨B, i, none⟩)) rfl (by kernel_rfl) (fun _ _ _ => False.elim) (Or.inl ⟨by rfl, fun W9 _ => by simp only [jA, jB, jC]; go_simp⟩) (fun _ => hid (row_at HF4.out HLI.out).1) ?_
    simp only [Act.put, jA, jB, jC, jD, jE, jF]
    obtain ⟨q0, q1⟩ := row_at HF4.out HLI.out
    refine rdS (by kernel_rfl) rfl fun K hK => ?_
    go_simp
    refine hK.out _ _ ?_
    clear hK K q0 q1
    refine doneL (by kernel_rfl) (NoPanic.normal ?_) _
    generalize w'.setCell ⟨B, i, none⟩ (.slice (some ⟨g, 0, none⟩) (k + 1) cap) = w5 at *
    obtain ⟨p0, p1⟩ := one_cell HZ5.out
    have CE := hid (err_any w5 R _ _ HNX.out.1)
    obtain ⟨ev, hev⟩ : ∃ ev, ev = (rdF sOwner sk).2.2 := ⟨_, rfl⟩
    rw [← hev] at CE
    by_cases h0 : ev = 0
    · have HNE := hid (HNX.out.2.1 (by rw [← hev]; exact h0))
      subst h0
      clear hev
      go_wp2_with (first | (go_at_call 132; refine CE.out.mono ?_; rintro en w6 ⟨rfl, rfl⟩))
      go_roundw
      case rel => exact ⟨k + 1, _, _, _, _, by go_num, HZ5.out, HNE.out⟩
      case measure => simp [intOf]; omega
    · have HNE := hid (HNX.out.2.2 (by rw [← hev]; exact h0) hn5)
      have hbe : (ev != 0) = true := by simp [h0]
      clear hev
      go_wp2_with (first | (go_at_call 132; refine CE.out.mono ?_; rintro en w6 ⟨rfl, rfl⟩))
      (try simp only [Exit.inBlock, Exit.then]); refine bodyPost_ret (results_none rfl _ _ _) rfl ?_
      obtain ⟨m1, m2, m3, m4⟩ := HNE.out
      refine ⟨rfl, .slice (some ⟨g, 0, none⟩) (k + 1) cap, ?_, m2, ?_, m4⟩
      · simp only [rdF]; rw [← HN.out.1, ← HN.out.2]; exact m1
      · simp only [rdF]; rw [← HN.out.1, ← HN.out.2]; exact m3
  · obtain rfl : n = k := by omega
    have hki : ¬ (n : Int) < (n : Int) := by omega
    go_wp2_with fail
    go_end0
    obtain ⟨p1, p2⟩ := HT.out.done hn5
    refine ⟨rfl, .slice ao n c, ?_, HT.out.field, ?_, HT.out.keep⟩
    · simp only [rdF]; rw [← HN.out.1, ← HN.out.2]; exact p1
    · simp only [rdF]; rw [← HN.out.1, ← HN.out.2]; exact p2
end Go.Proofs.YtmdgifmigikffaaGreat
namespace Go.Proofs.YtmdgifmigikffaaGreat
open Go.RowKit Go.Deep
theorem Routes_forms {W : World} {v0 v1 v2 v3 v4 : Value} {b : List UInt8} (h : Enc W sRoutes [v0, v1, v2, v3, v4] b) : (∃ y0 : Int, v0 = .int .i64 y0) ∧ (∃ y1 : Int, v1 = .int .i64 y1) ∧ (∃ (y2 : Option Addr) (j2 c2 : Nat), v2 = .slice y2 j2 c2) ∧ (∃ y3 : Int, v3 = .int .i64 y3) ∧ (∃ (y4 : Option Addr) (j4 c4 : Nat), v4 = .slice y4 j4 c4) := by
 obtain ⟨a0, a1, a2, a3, a4, b0, b1, b2, b3, b4, hc, _, e0, e1, e2, e3, e4⟩ := Routes_cells h
 simp only [List.cons.injEq, and_true] at hc
 obtain ⟨rfl, rfl, rfl, rfl, rfl⟩ := hc
 exact ⟨form_int e0, form_int e1, form_list e2, form_int e3, form_data e4⟩
set_option maxHeartbeats 8000000 in
theorem rRoutes_any {w : World} {R : Nat} {st : Rst} (h : RAt w R st.1 st.2) (hl : st.1.length ≤ 140737488355328) :
 Calls Tryz.prog 110 #[.agg #[.pointer (some ⟨R, 0, none⟩)]] w (fun en w' => ∃ cs, en = .returned (.agg cs.toArray) ∧ RdP sRoutes R w st cs w') := by
 have hb : Below w.heap.size w ((w.alloc (.cells #[.pointer (some ⟨R, 0, none⟩)] 79)).alloc (.cells #[.int .i64 0, .int .i64 0, .slice none 0 0, .int .i64 0, .slice none 0 0] 53)) := ((Below.refl _ _).alloc (Nat.le_refl _) _).alloc (by simp) _
 have hz := (Below.heap_alloc (w.alloc (.cells #[.pointer (some ⟨R, 0, none⟩)] 79)) (.cells #[.int .i64 0, .int .i64 0, .slice none 0 0, .int .i64 0, .slice none 0 0] 53) w.heap.size (by simp)).trans (heap_alloc_new w (.cells #[.pointer (some ⟨R, 0, none⟩)] 79))
 have hB := heap_alloc2_new w (.cells #[.pointer (some ⟨R, 0, none⟩)] 79) (.cells #[.int .i64 0, .int .i64 0, .slice none 0 0, .int .i64 0, .slice none 0 0] 53)
 obtain ⟨B, hBe⟩ : ∃ B, B = w.heap.size + 1 := ⟨_, rfl⟩
 have hRw := h.lt
 have hRB : R < B := by omega
 have HR0 := hid (h.old hb)
 rw [← hBe] at hB
 have HB0 := hid hB
 have HX0 := hid hz
 have HBW := hid hb
 have HL0 := hid hl
 clear h hb hz hB hl
 go_enter Tryz.func110, Tryz.ntmps110
 go_upto_region 1 with fail
 generalize (w.alloc (.cells #[.pointer (some ⟨R, 0, none⟩)] 79)).alloc (.cells #[.int .i64 0, .int .i64 0, .slice none 0 0, .int .i64 0, .slice none 0 0] 53) = w0 at *
 try rw [← hBe]
 have HK0 : Hid (Keep (fun j => j = R ∨ j = B) w0 w0) := hid (Keep.refl _ _)
 have HBE := hid hBe
 clear hBe
 have y0 := (one_cell HX0.out).1
 have CQ := hid (rtake_whole 0 HR0.out HL0.out HB0.out rfl hRB)
 go_upto_region 2 with (first | (go_at_call 80; refine CQ.out.mono ?_; rintro en w1 ⟨rfl, v0, hv⟩; have HV0 := hid hv; clear hv))
 clear CQ y0
 have HB1 : Hid (w1.heap[B]? = some (.cells #[v0, .int .i64 0, .slice none 0 0, .int .i64 0, .slice none 0 0] 53 (0, 0))) := HV0.out.2.1
 have HR1 : Hid (RAt w1 R (rdF .int st).2.1 (rdF .int st).2.2) := HV0.out.2.2.1
 have HL1 : Hid ((rdF .int st).2.1.length ≤ 140737488355328) := hid (Nat.le_trans (rd_len _ _) HL0.out)
 have HX1 := hid ((HV0.out.2.2.2.block w.heap.size (lt_of_block HX0.out) (fun e => by have e9 : w.heap.size = R ∨ w.heap.size = B := e; have := HBE.out; omega)).trans HX0.out)
 have HK1 := hid (HK0.out.trans HV0.out.2.2.2)
 have HE0_1 := hid (EncN.top HB0.out HV0.out.1)
 have y0 := (one_cell HX1.out).1
 have CQ := hid (rtake_whole 1 HR1.out HL1.out HB1.out rfl hRB)
 go_upto_region 3 with (first | (go_at_call 80; refine CQ.out.mono ?_; rintro en w2 ⟨rfl, v1, hv⟩; have HV1 := hid hv; clear hv))
 clear CQ y0
 have HB2 : Hid (w2.heap[B]? = some (.cells #[v0, v1, .slice none 0 0, .int .i64 0, .slice none 0 0] 53 (0, 0))) := HV1.out.2.1
 have HR2 : Hid (RAt w2 R (rdF .int (rdF .int st).2).2.1 (rdF .int (rdF .int st).2).2.2) := HV1.out.2.2.1
 have HL2 : Hid ((rdF .int (rdF .int st).2).2.1.length ≤ 140737488355328) := hid (Nat.le_trans (rd_len _ _) HL1.out)
 have HX2 := hid ((HV1.out.2.2.2.block w.heap.size (lt_of_block HX1.out) (fun e => by have e9 : w.heap.size = R ∨ w.heap.size = B := e; have := HBE.out; omega)).trans HX1.out)
 have HK2 := hid (HK1.out.trans HV1.out.2.2.2)
 have HE1_2 := hid (EncN.top HB1.out HV1.out.1)
 have HE0_2 := hid (EncN.hopc hRB HV1.out.2.2.2 HE0_1.out)
 clear HE0_1
 have y0 := (one_cell HX2.out).1
 have CQ := hid (rlist_Owner 2 HR2.out HL2.out HB2.out rfl hRB)
 go_upto_region 4 with (first | (go_at_call 146; refine CQ.out.mono ?_; rintro en w3 ⟨rfl, v2, hv⟩; have HV2 := hid hv; clear hv))
 clear CQ y0
 have HB3 : Hid (w3.heap[B]? = some (.cells #[v0, v1, v2, .int .i64 0, .slice none 0 0] 53 (0, 0))) := HV2.out.2.1
 have HR3 : Hid (RAt w3 R (rdF (.list sOwner) (rdF .int (rdF .int st).2).2).2.1 (rdF (.list sOwner) (rdF .int (rdF .int st).2).2).2.2) := HV2.out.2.2.1
 have HL3 : Hid ((rdF (.list sOwner) (rdF .int (rdF .int st).2).2).2.1.length ≤ 140737488355328) := hid (Nat.le_trans (rd_len _ _) HL2.out)
 have HX3 := hid ((HV2.out.2.2.2.block w.heap.size (lt_of_block HX2.out) (fun e => by have e9 : w.heap.size = R ∨ w.heap.size = B := e; have := HBE.out; omega)).trans HX2.out)
 have HK3 := hid (HK2.out.trans HV2.out.2.2.2)
 have HE2_3 := hid (EncN.top HB2.out HV2.out.1)
 have HE0_3 := hid (EncN.hopc hRB HV2.out.2.2.2 HE0_2.out)
 have HE1_3 := hid (EncN.hopc hRB HV2.out.2.2.2 HE1_2.out)
 clear HE0_2 HE1_2
 have y0 := (one_cell HX3.out).1
 have CQ := hid (rtake_whole 3 HR3.out HL3.out HB3.out rfl hRB)
 go_upto_region 5 with (first | (go_at_call 80; refine CQ.out.mono ?_; rintro en w4 ⟨rfl, v3, hv⟩; have HV3 := hid hv; clear hv))
 clear CQ y0
 have HB4 : Hid (w4.heap[B]? = some (.cells #[v0, v1, v2, v3, .slice none 0 0] 53 (0, 0))) := HV3.out.2.1
 have HR4 : Hid (RAt w4 R (rdF .int (rdF (.list sOwner) (rdF .int (rdF .int st).2).2).2).2.1 (rdF .int (rdF (.list sOwner) (rdF .int (rdF .int st).2).2).2).2.2) := HV3.out.2.2.1
 have HL4 : Hid ((rdF .int (rdF (.list sOwner) (rdF .int (rdF .int st).2).2).2).2.1.length ≤ 140737488355328) := hid (Nat.le_trans (rd_len _ _) HL3.out)
 have HX4 := hid ((HV3.out.2.2.2.block w.heap.size (lt_of_block HX3.out) (fun e => by have e9 : w.heap.size = R ∨ w.heap.size = B := e; have := HBE.out; omega)).trans HX3.out)
 have HK4 := hid (HK3.out.trans HV3.out.2.2.2)
 have HE3_4 := hid (EncN.top HB3.out HV3.out.1)
 have HE0_4 := hid (EncN.hopc hRB HV3.out.2.2.2 HE0_3.out)
 have HE1_4 := hid (EncN.hopc hRB HV3.out.2.2.2 HE1_3.out)
 have HE2_4 := hid (EncN.hopc hRB HV3.out.2.2.2 HE2_3.out)
 clear HE0_3 HE1_3 HE2_3
 have y0 := (one_cell HX4.out).1
 have CQ := hid (rtake_data 4 HR4.out HL4.out HB4.out rfl hRB)
 go_upto_region 6 with (first | (go_at_call 74; refine CQ.out.mono ?_; rintro en w5 ⟨rfl, v4, hv⟩; have HV4 := hid hv; clear hv))
 clear CQ y0
 have HB5 : Hid (w5.heap[B]? = some (.cells #[v0, v1, v2, v3, v4] 53 (0, 0))) := HV4.out.2.1
 have HR5 : Hid (RAt w5 R (rdF .data (rdF .int (rdF (.list sOwner) (rdF .int (rdF .int st).2).2).2).2).2.1 (rdF .data (rdF .int (rdF (.list sOwner) (rdF .int (rdF .int st).2).2).2).2).2.2) := HV4.out.2.2.1
 have HL5 : Hid ((rdF .data (rdF .int (rdF (.list sOwner) (rdF .int (rdF .int st).2).2).2).2).2.1.length ≤ 140737488355328) := hid (Nat.le_trans (rd_len _ _) HL4.out)
 have HX5 := hid ((HV4.out.2.2.2.block w.heap.size (lt_of_block HX4.out) (fun e => by have e9 : w.heap.size = R ∨ w.heap.size = B := e; have := HBE.out; omega)).trans HX4.out)
 have HK5 := hid (HK4.out.trans HV4.out.2.2.2)
 have HE4_5 := hid (EncN.top HB4.out HV4.out.1)
 have HE0_5 := hid (EncN.hopc hRB HV4.out.2.2.2 HE0_4.out)
 have HE1_5 := hid (EncN.hopc hRB HV4.out.2.2.2 HE1_4.out)
 have HE2_5 := hid (EncN.hopc hRB HV4.out.2.2.2 HE2_4.out)
 have HE3_5 := hid (EncN.hopc hRB HV4.out.2.2.2 HE3_4.out)
 clear HE0_4 HE1_4 HE2_4 HE3_4
 obtain ⟨y0, rfl⟩ := form_int (EncN.enc _ HE0_5.out)
 obtain ⟨y1, rfl⟩ := form_int (EncN.enc _ HE1_5.out)
 obtain ⟨y2, j2, c2, rfl⟩ := form_list (EncN.enc _ HE2_5.out)
 obtain ⟨y3, rfl⟩ := form_int (EncN.enc _ HE3_5.out)
 obtain ⟨y4, j4, c4, rfl⟩ := form_data (EncN.enc _ HE4_5.out)
 obtain ⟨q0, r0⟩ := row_at (cs := [(.int .i64 y0), (.int .i64 y1), (.slice y2 j2 c2), (.int .i64 y3), (.slice y4 j4 c4)]) HB5.out (i := 0) rfl
 obtain ⟨q1, r1⟩ := row_at (cs := [(.int .i64 y0), (.int .i64 y1), (.slice y2 j2 c2), (.int .i64 y3), (.slice y4 j4 c4)]) HB5.out (i := 1) rfl
 obtain ⟨q2, r2⟩ := row_at (cs := [(.int .i64 y0), (.int .i64 y1), (.slice y2 j2 c2), (.int .i64 y3), (.slice y4 j4 c4)]) HB5.out (i := 2) rfl
 obtain ⟨q3, r3⟩ := row_at (cs := [(.int .i64 y0), (.int .i64 y1), (.slice y2 j2 c2), (.int .i64 y3), (.slice y4 j4 c4)]) HB5.out (i := 3) rfl
 obtain ⟨q4, r4⟩ := row_at (cs := [(.int .i64 y0), (.int .i64 y1), (.slice y2 j2 c2), (.int .i64 y3), (.slice y4 j4 c4)]) HB5.out (i := 4) rfl
 have hs0 : w5.heap[B]? = some (.cells ([(.int .i64 y0), (.int .i64 y1), (.slice y2 j2 c2), (.int .i64 y3), (.slice y4 j4 c4)] : List Value).toArray 53 (0, 0)) := HB5.out
 have hs1 := row_put hs0 0 (.int .i64 y0)
 have hs2 := row_put hs1 1 (.int .i64 y1)
 have hs3 := row_put hs2 2 (.slice y2 j2 c2)
 have hs4 := row_put hs3 3 (.int .i64 y3)
 have hs5 := row_put hs4 4 (.slice y4 j4 c4)
 have hks : Keep (fun j => j = B) w5 (((((w5.setCell ⟨B, 0, none⟩ (.int .i64 y0)).setCell ⟨B, 1, none⟩ (.int .i64 y1)).setCell ⟨B, 2, none⟩ (.slice y2 j2 c2)).setCell ⟨B, 3, none⟩ (.int .i64 y3)).setCell ⟨B, 4, none⟩ (.slice y4 j4 c4)) := (((((Keep.refl (fun j => j = B) _).trans (Keep.set (X := fun j => j = B) _ ⟨B, 0, none⟩ (.int .i64 y0) rfl)).trans (Keep.set (X := fun j => j = B) _ ⟨B, 1, none⟩ (.int .i64 y1) rfl)).trans (Keep.set (X := fun j => j = B) _ ⟨B, 2, none⟩ (.slice y2 j2 c2) rfl)).trans (Keep.set (X := fun j => j = B) _ ⟨B, 3, none⟩ (.int .i64 y3) rfl)).trans (Keep.set (X := fun j => j = B) _ ⟨B, 4, none⟩ (.slice y4 j4 c4) rfl)
 have HSF : Hid ((((((w5.setCell ⟨B, 0, none⟩ (.int .i64 y0)).setCell ⟨B, 1, none⟩ (.int .i64 y1)).setCell ⟨B, 2, none⟩ (.slice y2 j2 c2)).setCell ⟨B, 3, none⟩ (.int .i64 y3)).setCell ⟨B, 4, none⟩ (.slice y4 j4 c4)).heap[B]? = some (.cells #[(.int .i64 y0), (.int .i64 y1), (.slice y2 j2 c2), (.int .i64 y3), (.slice y4 j4 c4)] 53 (0, 0))) := hs5
 have HKS := hid hks
 clear hks hs0 hs1 hs2 hs3 hs4 hs5
 go_wp2_with fail
 refine bodyPost_ret (results_cell_row rfl _ _ B 53 _ (0, 0) _ rfl HSF.out Tryz.underlying53 rfl (by kernel_rfl)) rfl ?_
 have hfin : ∀ (s : Sh) (cs : List Value) (bs : List UInt8), EncN (fun j => B < j ∧ j < w5.heap.size) w5 s cs bs → EncN (fun j => w.heap.size ≤ j ∧ j < (((((w5.setCell ⟨B, 0, none⟩ (.int .i64 y0)).setCell ⟨B, 1, none⟩ (.int .i64 y1)).setCell ⟨B, 2, none⟩ (.slice y2 j2 c2)).setCell ⟨B, 3, none⟩ (.int .i64 y3)).setCell ⟨B, 4, none⟩ (.slice y4 j4 c4)).heap.size) (((((w5.setCell ⟨B, 0, none⟩ (.int .i64 y0)).setCell ⟨B, 1, none⟩ (.int .i64 y1)).setCell ⟨B, 2, none⟩ (.slice y2 j2 c2)).setCell ⟨B, 3, none⟩ (.int .i64 y3)).setCell ⟨B, 4, none⟩ (.slice y4 j4 c4)) s cs bs := fun s cs bs h => EncN.mono (fun j hj => ⟨by have := HBE.out; omega, Nat.lt_of_lt_of_le hj.2 HKS.out.size⟩) s (EncN.keep HKS.out (fun j hj e => by have e9 : j = B := e; have := hj.1; omega) s h)
 refine ⟨[(.int .i64 y0), (.int .i64 y1), (.slice y2 j2 c2), (.int .i64 y3), (.slice y4 j4 c4)], rfl, ?_, HR5.out.keepK HKS.out (fun j e => by have e9 : j = B := e; omega), ?_⟩
 · exact ⟨[(.int .i64 y0)], [(.int .i64 y1), (.slice y2 j2 c2), (.int .i64 y3), (.slice y4 j4 c4)], _, _, rfl, rfl, hfin _ _ _ HE0_5.out, ⟨[(.int .i64 y1)], [(.slice y2 j2 c2), (.int .i64 y3), (.slice y4 j4 c4)], _, _, rfl, rfl, hfin _ _ _ HE1_5.out, ⟨[(.slice y2 j2 c2)], [(.int .i64 y3), (.slice y4 j4 c4)], _, _, rfl, rfl, hfin _ _ _ HE2_5.out, ⟨[(.int .i64 y3)], [(.slice y4 j4 c4)], _, _, rfl, rfl, hfin _ _ _ HE3_5.out, ⟨[(.slice y4 j4 c4)], [], _, _, rfl, rfl, hfin _ _ _ HE4_5.out, ⟨rfl, rfl⟩⟩⟩⟩⟩⟩
 · exact (Keep.of_below HBW.out).trans2 (HK5.out.trans (HKS.out.mono (fun j _ e => .inr e))) (fun j e => by rcases e with e | e <;> first | exact .inl e | exact .inr (by have := HBE.out; omega))
set_option maxHeartbeats 4000000 in
theorem stake_Routes_10 {w : World} {R B : Nat} {st : Rst} {cs : List Value} {t : TypeId} {u0 u1 u2 u3 u4 : Value} (h : RAt w R st.1 st.2) (hl : st.1.length ≤ 140737488355328) (hB : w.heap[B]? = some (.cells cs.toArray t (0, 0))) (hi0 : cs[10]? = some u0) (hi1 : cs[11]? = some u1) (hi2 : cs[12]? = some u2) (hi3 : cs[13]? = some u3) (hi4 : cs[14]? = some u4) (hRB : R < B) :
 Calls Tryz.prog 109 #[.pointer (some ⟨B, 10, none⟩), (.func (.func 110) #[.agg #[.pointer (some ⟨R, 0, none⟩)]] #[])] w (fun en w' => en = .returned (.tuple #[]) ∧ ∃ v0 v1 v2 v3 v4, TkS sRoutes R B w st cs t 10 [v0, v1, v2, v3, v4] w') := by
 have C := hid (rRoutes_any h hl)
 have HB := hid hB
 have HI0 := hid hi0
 have HI1 := hid hi1
 have HI2 := hid hi2
 have HI3 := hid hi3
 have HI4 := hid hi4
 clear hB h hi0 hi1 hi2 hi3 hi4
 go_enter Tryz.func109, Tryz.ntmps109
 go_wp2_with (first | (go_at_call 110; refine C.out.mono ?_; rintro en w2 ⟨mc, rfl, hv⟩; obtain ⟨k0, k1, k2, k3, k4, b0, b1, b2, b3, b4, rfl, _, e0, e1, e2, e3, e4⟩ := Routes_cells (EncN.enc _ hv.1); obtain ⟨y0, rfl⟩ := form_int e0; obtain ⟨y1, rfl⟩ := form_int e1; obtain ⟨y2, j2, c2, rfl⟩ := form_list e2; obtain ⟨y3, rfl⟩ := form_int e3; obtain ⟨y4, j4, c4, rfl⟩ := form_data e4; clear e0 e1 e2 e3 e4; have HV := hid hv; have hB2 := (hv.2.2.block B (lt_of_block HB.out) (fun e => by have e9 : B = R := e; omega)).trans HB.out; clear hv; obtain ⟨z0, x0⟩ := row_at hB2 HI0.out; obtain ⟨z1, x1⟩ := row_at hB2 HI1.out; obtain ⟨z2, x2⟩ := row_at hB2 HI2.out; obtain ⟨z3, x3⟩ := row_at hB2 HI3.out; obtain ⟨z4, x4⟩ := row_at hB2 HI4.out; clear hB2))
 go_end0
 exact ⟨rfl, _, _, _, _, _, HV.out.storeS HB.out hRB 10⟩
end Go.Proofs.YtmdgifmigikffaaGreat
namespace Go.Proofs.YtmdgifmigikffaaGreat
open Go.RowKit Go.Deep
theorem Catalog_forms {W : World} {v0 v1 v2 v3 : Value} {b : List UInt8} (h : Enc W sCatalog [v0, v1, v2, v3] b) : (∃ y0 : Int, v0 = .int .i64 y0) ∧ (∃ y1 : Int, v1 = .int .i64 y1) ∧ (∃ (y2 : Option Addr) (j2 c2 : Nat), v2 = .slice y2 j2 c2) ∧ (∃ (y3 : Option Addr) (j3 c3 : Nat), v3 = .slice y3 j3 c3) := by
 obtain ⟨a0, a1, a2, a3, b0, b1, b2, b3, hc, _, e0, e1, e2, e3⟩ := Catalog_cells h
 simp only [List.cons.injEq, and_true] at hc
 obtain ⟨rfl, rfl, rfl, rfl⟩ := hc
 exact ⟨form_int e0, form_int e1, form_list e2, form_list e3⟩
set_option maxHeartbeats 4000000 in
theorem stake_Catalog_6 {w : World} {R B : Nat} {st : Rst} {cs : List Value} {t : TypeId} {u0 u1 u2 u3 : Value} (h : RAt w R st.1 st.2) (hl : st.1.length ≤ 140737488355328) (hB : w.heap[B]? = some (.cells cs.toArray t (0, 0))) (hi0 : cs[6]? = some u0) (hi1 : cs[7]? = some u1) (hi2 : cs[8]? = some u2) (hi3 : cs[9]? = some u3) (hRB : R < B) :
 Calls Tryz.prog 108 #[.pointer (some ⟨B, 6, none⟩), (.func (.func 48) #[.agg #[.pointer (some ⟨R, 0, none⟩)]] #[])] w (fun en w' => en = .returned (.tuple #[]) ∧ ∃ v0 v1 v2 v3, TkS sCatalog R B w st cs t 6 [v0, v1, v2, v3] w') := by
 have C := hid (rCatalog_any h hl)
 have HB := hid hB
 have HI0 := hid hi0
 have HI1 := hid hi1
 have HI2 := hid hi2
 have HI3 := hid hi3
 clear hB h hi0 hi1 hi2 hi3
 go_enter Tryz.func108, Tryz.ntmps108
 go_wp2_with (first | (go_at_call 48; refine C.out.mono ?_; rintro en w2 ⟨mc, rfl, hv⟩; obtain ⟨k0, k1, k2, k3, b0, b1, b2, b3, rfl, _, e0, e1, e2, e3⟩ := Catalog_cells (EncN.enc _ hv.1); obtain ⟨y0, rfl⟩ := form_int e0; obtain ⟨y1, rfl⟩ := form_int e1; obtain ⟨y2, j2, c2, rfl⟩ := form_list e2; obtain ⟨y3, j3, c3, rfl⟩ := form_list e3; clear e0 e1 e2 e3; have HV := hid hv; have hB2 := (hv.2.2.block B (lt_of_block HB.out) (fun e => by have e9 : B = R := e; omega)).trans HB.out; clear hv; obtain ⟨z0, x0⟩ := row_at hB2 HI0.out; obtain ⟨z1, x1⟩ := row_at hB2 HI1.out; obtain ⟨z2, x2⟩ := row_at hB2 HI2.out; obtain ⟨z3, x3⟩ := row_at hB2 HI3.out; clear hB2))
 go_end0
 exact ⟨rfl, _, _, _, _, HV.out.storeS HB.out hRB 6⟩
end Go.Proofs.YtmdgifmigikffaaGreat
