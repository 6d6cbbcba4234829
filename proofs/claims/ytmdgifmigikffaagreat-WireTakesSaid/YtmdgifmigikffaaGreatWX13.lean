import Derived.WalkKit
import Derived.OpenShut
import Derived.Test.YtmdgifmigikffaaGreatRows
import Derived.WalkSpells
import Derived.WalkLawsBesides
import Derived.Laws.AppendOwnNone
import Derived.ProofKit
import Derived.ShutString
import Derived.ChangeOld
import Derived.Below
import Derived.SizedLaws
import Derived.BigQuiet
import Derived.Deep.QuietTactic
import Derived.Deep.RegionHeld3
import Derived.StillTailTactics
import Derived.Deep.Slices
import Derived.Deep.AppendLies
import Derived.Deep.RegionHeld
import Derived.Deep.Strs
import Derived.Lib.ConvBytes
import Derived.Laws.AppendOwn
import Derived.Deep.CutRange
import Derived.Deep.MidRow
import Derived.Great.Walk
import Derived.Great.BuildSlice
import Derived.Test.YtmdgifmigikffaaGreatWX1
import Derived.Test.YtmdgifmigikffaaGreatWX2
import Derived.Test.YtmdgifmigikffaaGreatWX3
import Derived.Test.YtmdgifmigikffaaGreatWX4
import Derived.Test.YtmdgifmigikffaaGreatWX5
import Derived.Test.YtmdgifmigikffaaGreatWX6
import Derived.Test.YtmdgifmigikffaaGreatWX7
import Derived.Test.YtmdgifmigikffaaGreatWX8
import Derived.Test.YtmdgifmigikffaaGreatWX9
import Derived.Test.YtmdgifmigikffaaGreatWX10
import Derived.Test.YtmdgifmigikffaaGreatWX11
import Derived.Test.YtmdgifmigikffaaGreatWX12
set_option linter.unusedVariables false
set_option linter.unusedSimpArgs false
set_option maxRecDepth 100000
namespace Go.Proofs.YtmdgifmigikffaaGreat
open Go.RowKit Go.Deep
set_option maxHeartbeats 8000000 in
theorem itkCommand_any {w : World} {x : Value} {l : List UInt8} (hx : Rd w x l) (hl : l.length ≤ 1000000) :
 Calls Tryz.prog 9 #[x] w (TkR sCommand zCommand w l) := by
 have hb : Below w.heap.size w (w.alloc (.cells #[(.int .i64 0), (.int .i64 0), (.int .u64 0), (.int .i64 0), (.int .i64 0), (.int .i64 0), (.bool false), (.slice none 0 0), (.slice none 0 0), (.slice none 0 0), (.slice none 0 0), (.slice none 0 0), (.slice none 0 0), (.int .i64 0), (.string ⟨#[]⟩), (.slice none 0 0), (.slice none 0 0), (.int .i64 0), (.int .i64 0), (.string ⟨#[]⟩), (.slice none 0 0), (.bool false), (.int .i64 0), (.bool false), (.string ⟨#[]⟩)] 43)) := (Below.refl _ _).alloc (Nat.le_refl _) _
 have hz := heap_alloc_new w (.cells #[(.int .i64 0), (.int .i64 0), (.int .u64 0), (.int .i64 0), (.int .i64 0), (.int .i64 0), (.bool false), (.slice none 0 0), (.slice none 0 0), (.slice none 0 0), (.slice none 0 0), (.slice none 0 0), (.slice none 0 0), (.int .i64 0), (.string ⟨#[]⟩), (.slice none 0 0), (.slice none 0 0), (.int .i64 0), (.int .i64 0), (.string ⟨#[]⟩), (.slice none 0 0), (.bool false), (.int .i64 0), (.bool false), (.string ⟨#[]⟩)] 43)
 have hx0 := hx.old hb
 obtain ⟨B, hB⟩ : ∃ B, B = w.heap.size := ⟨_, rfl⟩
 rw [← hB] at hz
 have HL := hid hl
 clear hx hl
 go_enter Tryz.func9, Tryz.ntmps9
 go_upto_region 1 with fail
 generalize w.alloc (.cells #[(.int .i64 0), (.int .i64 0), (.int .u64 0), (.int .i64 0), (.int .i64 0), (.int .i64 0), (.bool false), (.slice none 0 0), (.slice none 0 0), (.slice none 0 0), (.slice none 0 0), (.slice none 0 0), (.slice none 0 0), (.int .i64 0), (.string ⟨#[]⟩), (.slice none 0 0), (.slice none 0 0), (.int .i64 0), (.int .i64 0), (.string ⟨#[]⟩), (.slice none 0 0), (.bool false), (.int .i64 0), (.bool false), (.string ⟨#[]⟩)] 43) = wz at *
 try rw [← hB]
 have HBE := hid hB
 clear hB
 have CO := hid (iopen_any hx0 HL.out)
 have HZz := hid hz
 have HBz := hid hb
 clear hx0 hz hb
 go_upto_region 2 with (first | (go_at_call 27; refine CO.out.mono ?_; rintro en w0 ⟨Q, rfl, hQ, hR, hbo⟩; have HQ := hid hQ; have HR0 := hid hR; have HBO := hid hbo; clear hQ hR hbo))
 have hlz := lt_of_block HZz.out
 have hQB : B < Q := Nat.lt_of_lt_of_le hlz HQ.out
 have HZ0 := hid ((HBO.out.block B hlz).trans HZz.out)
 have HBW : Hid (Below w.heap.size w w0) := hid (HBz.out.trans (HBO.out.mono HBz.out.size))
 have HQs := hid (show w0.heap.size ≤ w0.heap.size from Nat.le_refl _)
 clear CO HZz HBz HBO HQ hlz
 have CQ := hid (iint9_any HR0.out)
 apply wp_region_lit
 refine Great.wpList_readTo rfl (some 9) rfl (.pointer (some ⟨Q, 0, none⟩)) (by as_aux_lemma => kernel_rfl) ?_
 simp only [Act.put, jA, jB, jC, jD, jE, jF]
 refine wpList_callAny rfl (some 10) rfl 33 #[.pointer (some ⟨Q, 0, none⟩)] (by as_aux_lemma => kernel_rfl) CQ.out ?_
 rintro en w1 ⟨v, rfl, bb0, E0, o0, r0, k0⟩; obtain ⟨y0, rfl⟩ := form_int (EncN.enc _ E0)
 have HE0 := hid E0; have HO0 := hid o0; have HRr := hid r0; have HKk := hid k0; clear E0 o0 r0 k0
 refine ⟨_, rfl, ?_⟩
 simp only [Act.put, jA, jB, jC, jD, jE, jF]
 refine Great.wpList_readTo rfl (some 11) rfl (.agg #[(.int .i64 y0), (.int .i64 0), (.int .u64 0), (.int .i64 0), (.int .i64 0), (.int .i64 0), (.bool false), (.slice none 0 0), (.slice none 0 0), (.slice none 0 0), (.slice none 0 0), (.slice none 0 0), (.slice none 0 0), (.int .i64 0), (.string ⟨#[]⟩), (.slice none 0 0), (.slice none 0 0), (.int .i64 0), (.int .i64 0), (.string ⟨#[]⟩), (.slice none 0 0), (.bool false), (.int .i64 0), (.bool false), (.string ⟨#[]⟩)]) (by as_aux_lemma => kernel_rfl) ?_
 simp only [Act.put, jA, jB, jC, jD, jE, jF]
 refine Great.wpList_allocTo rfl (some 5) rfl _ _ (alloc_Command _ w1 _ _ _ _) ?_
 simp only [Act.put, jA, jB, jC, jD, jE, jF]
 have hx1 := heap_alloc_new w1 (.cells zCommand.toArray 43)
 refine Go.wpList_store_rowTo rfl 43 _ _ rfl rfl w1.heap.size #[(.int .i64 y0), (.int .i64 0), (.int .u64 0), (.int .i64 0), (.int .i64 0), (.int .i64 0), (.bool false), (.slice none 0 0), (.slice none 0 0), (.slice none 0 0), (.slice none 0 0), (.slice none 0 0), (.slice none 0 0), (.int .i64 0), (.string ⟨#[]⟩), (.slice none 0 0), (.slice none 0 0), (.int .i64 0), (.int .i64 0), (.string ⟨#[]⟩), (.slice none 0 0), (.bool false), (.int .i64 0), (.bool false), (.string ⟨#[]⟩)] rfl rfl 43 zCommand.toArray hx1 (by as_aux_lemma => kernel_rfl) zCommand_row.1 (by simp [Value.oneCell']) ?_
 have hba : Below w1.heap.size w1 (w1.alloc (.cells zCommand.toArray 43)) := (Below.refl _ _).alloc (Nat.le_refl _) _
 have hb1 : Below w1.heap.size w1 ((w1.alloc (.cells zCommand.toArray 43)).setRow w1.heap.size (#[(.int .i64 y0), (.int .i64 0), (.int .u64 0), (.int .i64 0), (.int .i64 0), (.int .i64 0), (.bool false), (.slice none 0 0), (.slice none 0 0), (.slice none 0 0), (.slice none 0 0), (.slice none 0 0), (.slice none 0 0), (.int .i64 0), (.string ⟨#[]⟩), (.slice none 0 0), (.slice none 0 0), (.int .i64 0), (.int .i64 0), (.string ⟨#[]⟩), (.slice none 0 0), (.bool false), (.int .i64 0), (.bool false), (.string ⟨#[]⟩)] : Array Value)) := ((Keep.of_below (X := fun j => j = w1.heap.size) hba).trans (setRow_keep _ _ _)).below (Nat.le_refl _) (fun k e => by have e9 : k = w1.heap.size := e; omega)
 have hp1 := setRow_heap (w1.alloc (.cells zCommand.toArray 43)) w1.heap.size _ (#[(.int .i64 y0), (.int .i64 0), (.int .u64 0), (.int .i64 0), (.int .i64 0), (.int .i64 0), (.bool false), (.slice none 0 0), (.slice none 0 0), (.slice none 0 0), (.slice none 0 0), (.slice none 0 0), (.slice none 0 0), (.int .i64 0), (.string ⟨#[]⟩), (.slice none 0 0), (.slice none 0 0), (.int .i64 0), (.int .i64 0), (.string ⟨#[]⟩), (.slice none 0 0), (.bool false), (.int .i64 0), (.bool false), (.string ⟨#[]⟩)] : Array Value) _ _ hx1
 clear hx1 hba
 go_upto_region 3 with fail
 have hPz : B < w1.heap.size := Nat.lt_of_lt_of_le (lt_of_block HZ0.out) HKk.out.size
 have HE0 := hid (EncN.keep (X := fun _ => False) (Keep.of_below hb1) (fun _ _ e => e) _ (EncN.mono (N' := fun k => Q < k ∧ k ≠ w1.heap.size ∧ k < w1.heap.size + 1) (fun k hk => ⟨Nat.lt_of_lt_of_le (HR0.out.lt) hk.1, by omega, by omega⟩) _ HE0.out))
 have HR1 := hid (HRr.out.keep (X := fun _ => False) (Keep.of_below hb1) (fun _ e => e.elim))
 have HK1 := hid (((Keep.of_below (X := fun k => k = Q) HBW.out).trans HKk.out).trans (Keep.of_below hb1))
 have HZ1 := hid ((hb1.block B hPz).trans ((HKk.out.block B (lt_of_block HZ0.out) (fun e => by have e9 : B = Q := e; omega)).trans HZ0.out))
 have hQP : Q < w1.heap.size := Nat.lt_of_lt_of_le HR0.out.lt HKk.out.size
 generalize (w1.alloc (.cells zCommand.toArray 43)).setRow w1.heap.size (#[(.int .i64 y0), (.int .i64 0), (.int .u64 0), (.int .i64 0), (.int .i64 0), (.int .i64 0), (.bool false), (.slice none 0 0), (.slice none 0 0), (.slice none 0 0), (.slice none 0 0), (.slice none 0 0), (.slice none 0 0), (.int .i64 0), (.string ⟨#[]⟩), (.slice none 0 0), (.slice none 0 0), (.int .i64 0), (.int .i64 0), (.string ⟨#[]⟩), (.slice none 0 0), (.bool false), (.int .i64 0), (.bool false), (.string ⟨#[]⟩)] : Array Value) = u1 at *
 obtain ⟨P, hP⟩ : ∃ P, P = w1.heap.size := ⟨_, rfl⟩
 rw [← hP] at hp1 hPz HE0 hQP ⊢
 have HP1 := hid hp1
 have hsz1 := lt_of_block hp1
 clear hb1 hp1 hP HRr HKk CQ HZ0 HR0
 have HE0 : Hid (EncN (fun k => Q < k ∧ k ≠ P ∧ k < u1.heap.size) u1 .int [(.int .i64 y0)] bb0) := hid (EncN.mono (fun k hk => ⟨hk.1, hk.2.1, by have := hk.2.2; omega⟩) _ HE0.out)
 clear hsz1
 have CQ := hid (iint9_any HR1.out)
 go_upto_region 4 with (first | (go_at_call 33; refine CQ.out.mono ?_; rintro en w2 ⟨v, rfl, bb1, E1, o1, r1, k1⟩; obtain ⟨y1, rfl⟩ := form_int (EncN.enc _ E1); have hPx := (k1.block P (lt_of_block HP1.out) (fun e => by have e9 : P = Q := e; omega)).trans HP1.out; obtain ⟨qq1, rr1⟩ := row_at (cs := [(.int .i64 y0), (.int .i64 0), (.int .u64 0), (.int .i64 0), (.int .i64 0), (.int .i64 0), (.bool false), (.slice none 0 0), (.slice none 0 0), (.slice none 0 0), (.slice none 0 0), (.slice none 0 0), (.slice none 0 0), (.int .i64 0), (.string ⟨#[]⟩), (.slice none 0 0), (.slice none 0 0), (.int .i64 0), (.int .i64 0), (.string ⟨#[]⟩), (.slice none 0 0), (.bool false), (.int .i64 0), (.bool false), (.string ⟨#[]⟩)]) hPx (i := 1) rfl; have HPx := hid hPx; clear hPx; have HE1 := hid E1; have HO1 := hid o1; have HRr := hid r1; have HKk := hid k1; clear E1 o1 r1 k1))
 have hs0 := HPx.out
 have hs1 := row_put (cs := [(.int .i64 y0), (.int .i64 0), (.int .u64 0), (.int .i64 0), (.int .i64 0), (.int .i64 0), (.bool false), (.slice none 0 0), (.slice none 0 0), (.slice none 0 0), (.slice none 0 0), (.slice none 0 0), (.slice none 0 0), (.int .i64 0), (.string ⟨#[]⟩), (.slice none 0 0), (.slice none 0 0), (.int .i64 0), (.int .i64 0), (.string ⟨#[]⟩), (.slice none 0 0), (.bool false), (.int .i64 0), (.bool false), (.string ⟨#[]⟩)]) hs0 1 (.int .i64 y1)
 have HP2 : Hid ((w2.setCell ⟨P, 1, none⟩ (.int .i64 y1)).heap[P]? = some (.cells #[(.int .i64 y0), (.int .i64 y1), (.int .u64 0), (.int .i64 0), (.int .i64 0), (.int .i64 0), (.bool false), (.slice none 0 0), (.slice none 0 0), (.slice none 0 0), (.slice none 0 0), (.slice none 0 0), (.slice none 0 0), (.int .i64 0), (.string ⟨#[]⟩), (.slice none 0 0), (.slice none 0 0), (.int .i64 0), (.int .i64 0), (.string ⟨#[]⟩), (.slice none 0 0), (.bool false), (.int .i64 0), (.bool false), (.string ⟨#[]⟩)] 43 (0, 0))) := hs1
 have hks : Keep (fun k => k = P) w2 (w2.setCell ⟨P, 1, none⟩ (.int .i64 y1)) := (Keep.refl (fun k => k = P) _).trans (Keep.set (X := fun k => k = P) _ ⟨P, 1, none⟩ (.int .i64 y1) rfl)
 have HR2 := hid (HRr.out.keep hks (fun k e => by have e9 : k = P := e; omega))
 have HK2 := hid ((HK1.out.trans HKk.out).trans2 hks (fun k e => .inr (by have e9 : k = P := e; have := HBE.out; omega)))
 have hkk : Keep (fun k => k = Q ∨ k = P) u1 (w2.setCell ⟨P, 1, none⟩ (.int .i64 y1)) := (HKk.out.mono (fun k _ e => .inl e)).trans (hks.mono (fun k _ e => .inr e))
 have hzz := (hkk.block B (lt_of_block HZ1.out) (fun e => by have e9 : B = Q ∨ B = P := e; omega)).trans HZ1.out
 have HZ2 := hid hzz
 clear hzz
 have HE0 := hid (EncN.hop (Nat.le_refl _) hkk HE0.out)
 have HE1 := hid (EncN.mono (N' := fun k => Q < k ∧ k ≠ P ∧ k < (w2.setCell ⟨P, 1, none⟩ (.int .i64 y1)).heap.size) (fun k hk => ⟨by have := hk.1; have := HR1.out.lt; omega, by have := lt_of_block HP1.out; omega, Nat.lt_of_lt_of_le hk.2 hks.size⟩) _ (EncN.keep hks (fun k hk e => by have e9 : k = P := e; have := lt_of_block HP1.out; have := hk.1; omega) _ HE1.out))
 clear hs0 hs1 hks hkk HRr HKk HPx HP1 HR1 HK1 HZ1 CQ
 generalize w2.setCell ⟨P, 1, none⟩ (.int .i64 y1) = u2 at *
 have CQ := hid (inum9_any HR2.out)
 go_upto_region 5 with (first | (go_at_call 28; refine CQ.out.mono ?_; rintro en w3 ⟨v, rfl, bb2, E2, o2, r2, k2⟩; obtain ⟨y2, rfl⟩ := form_num (EncN.enc _ E2); have hPx := (k2.block P (lt_of_block HP2.out) (fun e => by have e9 : P = Q := e; omega)).trans HP2.out; obtain ⟨qq2, rr2⟩ := row_at (cs := [(.int .i64 y0), (.int .i64 y1), (.int .u64 0), (.int .i64 0), (.int .i64 0), (.int .i64 0), (.bool false), (.slice none 0 0), (.slice none 0 0), (.slice none 0 0), (.slice none 0 0), (.slice none 0 0), (.slice none 0 0), (.int .i64 0), (.string ⟨#[]⟩), (.slice none 0 0), (.slice none 0 0), (.int .i64 0), (.int .i64 0), (.string ⟨#[]⟩), (.slice none 0 0), (.bool false), (.int .i64 0), (.bool false), (.string ⟨#[]⟩)]) hPx (i := 2) rfl; have HPx := hid hPx; clear hPx; have HE2 := hid E2; have HO2 := hid o2; have HRr := hid r2; have HKk := hid k2; clear E2 o2 r2 k2))
 have hs0 := HPx.out
 have hs1 := row_put (cs := [(.int .i64 y0), (.int .i64 y1), (.int .u64 0), (.int .i64 0), (.int .i64 0), (.int .i64 0), (.bool false), (.slice none 0 0), (.slice none 0 0), (.slice none 0 0), (.slice none 0 0), (.slice none 0 0), (.slice none 0 0), (.int .i64 0), (.string ⟨#[]⟩), (.slice none 0 0), (.slice none 0 0), (.int .i64 0), (.int .i64 0), (.string ⟨#[]⟩), (.slice none 0 0), (.bool false), (.int .i64 0), (.bool false), (.string ⟨#[]⟩)]) hs0 2 (.int .u64 (y2 : Int))
 have HP3 : Hid ((w3.setCell ⟨P, 2, none⟩ (.int .u64 (y2 : Int))).heap[P]? = some (.cells #[(.int .i64 y0), (.int .i64 y1), (.int .u64 (y2 : Int)), (.int .i64 0), (.int .i64 0), (.int .i64 0), (.bool false), (.slice none 0 0), (.slice none 0 0), (.slice none 0 0), (.slice none 0 0), (.slice none 0 0), (.slice none 0 0), (.int .i64 0), (.string ⟨#[]⟩), (.slice none 0 0), (.slice none 0 0), (.int .i64 0), (.int .i64 0), (.string ⟨#[]⟩), (.slice none 0 0), (.bool false), (.int .i64 0), (.bool false), (.string ⟨#[]⟩)] 43 (0, 0))) := hs1
 have hks : Keep (fun k => k = P) w3 (w3.setCell ⟨P, 2, none⟩ (.int .u64 (y2 : Int))) := (Keep.refl (fun k => k = P) _).trans (Keep.set (X := fun k => k = P) _ ⟨P, 2, none⟩ (.int .u64 (y2 : Int)) rfl)
 have HR3 := hid (HRr.out.keep hks (fun k e => by have e9 : k = P := e; omega))
 have HK3 := hid ((HK2.out.trans HKk.out).trans2 hks (fun k e => .inr (by have e9 : k = P := e; have := HBE.out; omega)))
 have hkk : Keep (fun k => k = Q ∨ k = P) u2 (w3.setCell ⟨P, 2, none⟩ (.int .u64 (y2 : Int))) := (HKk.out.mono (fun k _ e => .inl e)).trans (hks.mono (fun k _ e => .inr e))
 have hzz := (hkk.block B (lt_of_block HZ2.out) (fun e => by have e9 : B = Q ∨ B = P := e; omega)).trans HZ2.out
 have HZ3 := hid hzz
 clear hzz
 have HE0 := hid (EncN.hop (Nat.le_refl _) hkk HE0.out)
 have HE1 := hid (EncN.hop (Nat.le_refl _) hkk HE1.out)
 have HE2 := hid (EncN.mono (N' := fun k => Q < k ∧ k ≠ P ∧ k < (w3.setCell ⟨P, 2, none⟩ (.int .u64 (y2 : Int))).heap.size) (fun k hk => ⟨by have := hk.1; have := HR2.out.lt; omega, by have := lt_of_block HP2.out; omega, Nat.lt_of_lt_of_le hk.2 hks.size⟩) _ (EncN.keep hks (fun k hk e => by have e9 : k = P := e; have := lt_of_block HP2.out; have := hk.1; omega) _ HE2.out))
 clear hs0 hs1 hks hkk HRr HKk HPx HP2 HR2 HK2 HZ2 CQ
 generalize w3.setCell ⟨P, 2, none⟩ (.int .u64 (y2 : Int)) = u3 at *
 have CQ := hid (iint9_any HR3.out)
 go_upto_region 6 with (first | (go_at_call 33; refine CQ.out.mono ?_; rintro en w4 ⟨v, rfl, bb3, E3, o3, r3, k3⟩; obtain ⟨y3, rfl⟩ := form_int (EncN.enc _ E3); have hPx := (k3.block P (lt_of_block HP3.out) (fun e => by have e9 : P = Q := e; omega)).trans HP3.out; obtain ⟨qq3, rr3⟩ := row_at (cs := [(.int .i64 y0), (.int .i64 y1), (.int .u64 (y2 : Int)), (.int .i64 0), (.int .i64 0), (.int .i64 0), (.bool false), (.slice none 0 0), (.slice none 0 0), (.slice none 0 0), (.slice none 0 0), (.slice none 0 0), (.slice none 0 0), (.int .i64 0), (.string ⟨#[]⟩), (.slice none 0 0), (.slice none 0 0), (.int .i64 0), (.int .i64 0), (.string ⟨#[]⟩), (.slice none 0 0), (.bool false), (.int .i64 0), (.bool false), (.string ⟨#[]⟩)]) hPx (i := 3) rfl; have HPx := hid hPx; clear hPx; have HE3 := hid E3; have HO3 := hid o3; have HRr := hid r3; have HKk := hid k3; clear E3 o3 r3 k3))
 have hs0 := HPx.out
 have hs1 := row_put (cs := [(.int .i64 y0), (.int .i64 y1), (.int .u64 (y2 : Int)), (.int .i64 0), (.int .i64 0), (.int .i64 0), (.bool false), (.slice none 0 0), (.slice none 0 0), (.slice none 0 0), (.slice none 0 0), (.slice none 0 0), (.slice none 0 0), (.int .i64 0), (.string ⟨#[]⟩), (.slice none 0 0), (.slice none 0 0), (.int .i64 0), (.int .i64 0), (.string ⟨#[]⟩), (.slice none 0 0), (.bool false), (.int .i64 0), (.bool false), (.string ⟨#[]⟩)]) hs0 3 (.int .i64 y3)
 have HP4 : Hid ((w4.setCell ⟨P, 3, none⟩ (.int .i64 y3)).heap[P]? = some (.cells #[(.int .i64 y0), (.int .i64 y1), (.int .u64 (y2 : Int)), (.int .i64 y3), (.int .i64 0), (.int .i64 0), (.bool false), (.slice none 0 0), (.slice none 0 0), (.slice none 0 0), (.slice none 0 0), (.slice none 0 0), (.slice none 0 0), (.int .i64 0), (.string ⟨#[]⟩), (.slice none 0 0), (.slice none 0 0), (.int .i64 0), (.int .i64 0), (.string ⟨#[]⟩), (.slice none 0 0), (.bool false), (.int .i64 0), (.bool false), (.string ⟨#[]⟩)] 43 (0, 0))) := hs1
 have hks : Keep (fun k => k = P) w4 (w4.setCell ⟨P, 3, none⟩ (.int .i64 y3)) := (Keep.refl (fun k => k = P) _).trans (Keep.set (X := fun k => k = P) _ ⟨P, 3, none⟩ (.int .i64 y3) rfl)
 have HR4 := hid (HRr.out.keep hks (fun k e => by have e9 : k = P := e; omega))
 have HK4 := hid ((HK3.out.trans HKk.out).trans2 hks (fun k e => .inr (by have e9 : k = P := e; have := HBE.out; omega)))
 have hkk : Keep (fun k => k = Q ∨ k = P) u3 (w4.setCell ⟨P, 3, none⟩ (.int .i64 y3)) := (HKk.out.mono (fun k _ e => .inl e)).trans (hks.mono (fun k _ e => .inr e))
 have hzz := (hkk.block B (lt_of_block HZ3.out) (fun e => by have e9 : B = Q ∨ B = P := e; omega)).trans HZ3.out
 have HZ4 := hid hzz
 clear hzz
 have HE0 := hid (EncN.hop (Nat.le_refl _) hkk HE0.out)
 have HE1 := hid (EncN.hop (Nat.le_refl _) hkk HE1.out)
 have HE2 := hid (EncN.hop (Nat.le_refl _) hkk HE2.out)
 have HE3 := hid (EncN.mono (N' := fun k => Q < k ∧ k ≠ P ∧ k < (w4.setCell ⟨P, 3, none⟩ (.int .i64 y3)).heap.size) (fun k hk => ⟨by have := hk.1; have := HR3.out.lt; omega, by have := lt_of_block HP3.out; omega, Nat.lt_of_lt_of_le hk.2 hks.size⟩) _ (EncN.keep hks (fun k hk e => by have e9 : k = P := e; have := lt_of_block HP3.out; have := hk.1; omega) _ HE3.out))
 clear hs0 hs1 hks hkk HRr HKk HPx HP3 HR3 HK3 HZ3 CQ
 generalize w4.setCell ⟨P, 3, none⟩ (.int .i64 y3) = u4 at *
 as_aux_lemma =>
  have CQ := hid (iint9_any HR4.out)
  go_upto_region 7 with (first | (go_at_call 33; refine CQ.out.mono ?_; rintro en w5 ⟨v, rfl, bb4, E4, o4, r4, k4⟩; obtain ⟨y4, rfl⟩ := form_int (EncN.enc _ E4); have hPx := (k4.block P (lt_of_block HP4.out) (fun e => by have e9 : P = Q := e; omega)).trans HP4.out; obtain ⟨qq4, rr4⟩ := row_at (cs := [(.int .i64 y0), (.int .i64 y1), (.int .u64 (y2 : Int)), (.int .i64 y3), (.int .i64 0), (.int .i64 0), (.bool false), (.slice none 0 0), (.slice none 0 0), (.slice none 0 0), (.slice none 0 0), (.slice none 0 0), (.slice none 0 0), (.int .i64 0), (.string ⟨#[]⟩), (.slice none 0 0), (.slice none 0 0), (.int .i64 0), (.int .i64 0), (.string ⟨#[]⟩), (.slice none 0 0), (.bool false), (.int .i64 0), (.bool false), (.string ⟨#[]⟩)]) hPx (i := 4) rfl; have HPx := hid hPx; clear hPx; have HE4 := hid E4; have HO4 := hid o4; have HRr := hid r4; have HKk := hid k4; clear E4 o4 r4 k4))
  have hs0 := HPx.out
  have hs1 := row_put (cs := [(.int .i64 y0), (.int .i64 y1), (.int .u64 (y2 : Int)), (.int .i64 y3), (.int .i64 0), (.int .i64 0), (.bool false), (.slice none 0 0), (.slice none 0 0), (.slice none 0 0), (.slice none 0 0), (.slice none 0 0), (.slice none 0 0), (.int .i64 0), (.string ⟨#[]⟩), (.slice none 0 0), (.slice none 0 0), (.int .i64 0), (.int .i64 0), (.string ⟨#[]⟩), (.slice none 0 0), (.bool false), (.int .i64 0), (.bool false), (.string ⟨#[]⟩)]) hs0 4 (.int .i64 y4)
  have HP5 : Hid ((w5.setCell ⟨P, 4, none⟩ (.int .i64 y4)).heap[P]? = some (.cells #[(.int .i64 y0), (.int .i64 y1), (.int .u64 (y2 : Int)), (.int .i64 y3), (.int .i64 y4), (.int .i64 0), (.bool false), (.slice none 0 0), (.slice none 0 0), (.slice none 0 0), (.slice none 0 0), (.slice none 0 0), (.slice none 0 0), (.int .i64 0), (.string ⟨#[]⟩), (.slice none 0 0), (.slice none 0 0), (.int .i64 0), (.int .i64 0), (.string ⟨#[]⟩), (.slice none 0 0), (.bool false), (.int .i64 0), (.bool false), (.string ⟨#[]⟩)] 43 (0, 0))) := hs1
  have hks : Keep (fun k => k = P) w5 (w5.setCell ⟨P, 4, none⟩ (.int .i64 y4)) := (Keep.refl (fun k => k = P) _).trans (Keep.set (X := fun k => k = P) _ ⟨P, 4, none⟩ (.int .i64 y4) rfl)
  have HR5 := hid (HRr.out.keep hks (fun k e => by have e9 : k = P := e; omega))
  have HK5 := hid ((HK4.out.trans HKk.out).trans2 hks (fun k e => .inr (by have e9 : k = P := e; have := HBE.out; omega)))
  have hkk : Keep (fun k => k = Q ∨ k = P) u4 (w5.setCell ⟨P, 4, none⟩ (.int .i64 y4)) := (HKk.out.mono (fun k _ e => .inl e)).trans (hks.mono (fun k _ e => .inr e))
  have hzz := (hkk.block B (lt_of_block HZ4.out) (fun e => by have e9 : B = Q ∨ B = P := e; omega)).trans HZ4.out
  have HZ5 := hid hzz
  clear hzz
  have HE0 := hid (EncN.hop (Nat.le_refl _) hkk HE0.out)
  have HE1 := hid (EncN.hop (Nat.le_refl _) hkk HE1.out)
  have HE2 := hid (EncN.hop (Nat.le_refl _) hkk HE2.out)
  have HE3 := hid (EncN.hop (Nat.le_refl _) hkk HE3.out)
  have HE4 := hid (EncN.mono (N' := fun k => Q < k ∧ k ≠ P ∧ k < (w5.setCell ⟨P, 4, none⟩ (.int .i64 y4)).heap.size) (fun k hk => ⟨by have := hk.1; have := HR4.out.lt; omega, by have := lt_of_block HP4.out; omega, Nat.lt_of_lt_of_le hk.2 hks.size⟩) _ (EncN.keep hks (fun k hk e => by have e9 : k = P := e; have := lt_of_block HP4.out; have := hk.1; omega) _ HE4.out))
  clear hs0 hs1 hks hkk HRr HKk HPx HP4 HR4 HK4 HZ4 CQ
  generalize w5.setCell ⟨P, 4, none⟩ (.int .i64 y4) = u5 at *
  have CQ := hid (iint9_any HR5.out)
  go_upto_region 8 with (first | (go_at_call 33; refine CQ.out.mono ?_; rintro en w6 ⟨v, rfl, bb5, E5, o5, r5, k5⟩; obtain ⟨y5, rfl⟩ := form_int (EncN.enc _ E5); have hPx := (k5.block P (lt_of_block HP5.out) (fun e => by have e9 : P = Q := e; omega)).trans HP5.out; obtain ⟨qq5, rr5⟩ := row_at (cs := [(.int .i64 y0), (.int .i64 y1), (.int .u64 (y2 : Int)), (.int .i64 y3), (.int .i64 y4), (.int .i64 0), (.bool false), (.slice none 0 0), (.slice none 0 0), (.slice none 0 0), (.slice none 0 0), (.slice none 0 0), (.slice none 0 0), (.int .i64 0), (.string ⟨#[]⟩), (.slice none 0 0), (.slice none 0 0), (.int .i64 0), (.int .i64 0), (.string ⟨#[]⟩), (.slice none 0 0), (.bool false), (.int .i64 0), (.bool false), (.string ⟨#[]⟩)]) hPx (i := 5) rfl; have HPx := hid hPx; clear hPx; have HE5 := hid E5; have HO5 := hid o5; have HRr := hid r5; have HKk := hid k5; clear E5 o5 r5 k5))
  have hs0 := HPx.out
  have hs1 := row_put (cs := [(.int .i64 y0), (.int .i64 y1), (.int .u64 (y2 : Int)), (.int .i64 y3), (.int .i64 y4), (.int .i64 0), (.bool false), (.slice none 0 0), (.slice none 0 0), (.slice none 0 0), (.slice none 0 0), (.slice none 0 0), (.slice none 0 0), (.int .i64 0), (.string ⟨#[]⟩), (.slice none 0 0), (.slice none 0 0), (.int .i64 0), (.int .i64 0), (.string ⟨#[]⟩), (.slice none 0 0), (.bool false), (.int .i64 0), (.bool false), (.string ⟨#[]⟩)]) hs0 5 (.int .i64 y5)
  have HP6 : Hid ((w6.setCell ⟨P, 5, none⟩ (.int .i64 y5)).heap[P]? = some (.cells #[(.int .i64 y0), (.int .i64 y1), (.int .u64 (y2 : Int)), (.int .i64 y3), (.int .i64 y4), (.int .i64 y5), (.bool false), (.slice none 0 0), (.slice none 0 0), (.slice none 0 0), (.slice none 0 0), (.slice none 0 0), (.slice none 0 0), (.int .i64 0), (.string ⟨#[]⟩), (.slice none 0 0), (.slice none 0 0), (.int .i64 0), (.int .i64 0), (.string ⟨#[]⟩), (.slice none 0 0), (.bool false), (.int .i64 0), (.bool false), (.string ⟨#[]⟩)] 43 (0, 0))) := hs1
  have hks : Keep (fun k => k = P) w6 (w6.setCell ⟨P, 5, none⟩ (.int .i64 y5)) := (Keep.refl (fun k => k = P) _).trans (Keep.set (X := fun k => k = P) _ ⟨P, 5, none⟩ (.int .i64 y5) rfl)
  have HR6 := hid (HRr.out.keep hks (fun k e => by have e9 : k = P := e; omega))
  have HK6 := hid ((HK5.out.trans HKk.out).trans2 hks (fun k e => .inr (by have e9 : k = P := e; have := HBE.out; omega)))
  have hkk : Keep (fun k => k = Q ∨ k = P) u5 (w6.setCell ⟨P, 5, none⟩ (.int .i64 y5)) := (HKk.out.mono (fun k _ e => .inl e)).trans (hks.mono (fun k _ e => .inr e))
  have hzz := (hkk.block B (lt_of_block HZ5.out) (fun e => by have e9 : B = Q ∨ B = P := e; omega)).trans HZ5.out
  have HZ6 := hid hzz
  clear hzz
  have HE0 := hid (EncN.hop (Nat.le_refl _) hkk HE0.out)
  have HE1 := hid (EncN.hop (Nat.le_refl _) hkk HE1.out)
  have HE2 := hid (EncN.hop (Nat.le_refl _) hkk HE2.out)
  have HE3 := hid (EncN.hop (Nat.le_refl _) hkk HE3.out)
  have HE4 := hid (EncN.hop (Nat.le_refl _) hkk HE4.out)
  have HE5 := hid (EncN.mono (N' := fun k => Q < k ∧ k ≠ P ∧ k < (w6.setCell ⟨P, 5, none⟩ (.int .i64 y5)).heap.size) (fun k hk => ⟨by have := hk.1; have := HR5.out.lt; omega, by have := lt_of_block HP5.out; omega, Nat.lt_of_lt_of_le hk.2 hks.size⟩) _ (EncN.keep hks (fun k hk e => by have e9 : k = P := e; have := lt_of_block HP5.out; have := hk.1; omega) _ HE5.out))
  clear hs0 hs1 hks hkk HRr HKk HPx HP5 HR5 HK5 HZ5 CQ
  generalize w6.setCell ⟨P, 5, none⟩ (.int .i64 y5) = u6 at *
  have CQ := hid (ibool9_any HR6.out)
  go_upto_region 9 with (first | (go_at_call 34; refine CQ.out.mono ?_; rintro en w7 ⟨v, rfl, bb6, E6, o6, r6, k6⟩; obtain ⟨y6, rfl⟩ := form_bool (EncN.enc _ E6); have hPx := (k6.block P (lt_of_block HP6.out) (fun e => by have e9 : P = Q := e; omega)).trans HP6.out; obtain ⟨qq6, rr6⟩ := row_at (cs := [(.int .i64 y0), (.int .i64 y1), (.int .u64 (y2 : Int)), (.int .i64 y3), (.int .i64 y4), (.int .i64 y5), (.bool false), (.slice none 0 0), (.slice none 0 0), (.slice none 0 0), (.slice none 0 0), (.slice none 0 0), (.slice none 0 0), (.int .i64 0), (.string ⟨#[]⟩), (.slice none 0 0), (.slice none 0 0), (.int .i64 0), (.int .i64 0), (.string ⟨#[]⟩), (.slice none 0 0), (.bool false), (.int .i64 0), (.bool false), (.string ⟨#[]⟩)]) hPx (i := 6) rfl; have HPx := hid hPx; clear hPx; have HE6 := hid E6; have HO6 := hid o6; have HRr := hid r6; have HKk := hid k6; clear E6 o6 r6 k6))
  have hs0 := HPx.out
  have hs1 := row_put (cs := [(.int .i64 y0), (.int .i64 y1), (.int .u64 (y2 : Int)), (.int .i64 y3), (.int .i64 y4), (.int .i64 y5), (.bool false), (.slice none 0 0), (.slice none 0 0), (.slice none 0 0), (.slice none 0 0), (.slice none 0 0), (.slice none 0 0), (.int .i64 0), (.string ⟨#[]⟩), (.slice none 0 0), (.slice none 0 0), (.int .i64 0), (.int .i64 0), (.string ⟨#[]⟩), (.slice none 0 0), (.bool false), (.int .i64 0), (.bool false), (.string ⟨#[]⟩)]) hs0 6 (.bool y6)
  have HP7 : Hid ((w7.setCell ⟨P, 6, none⟩ (.bool y6)).heap[P]? = some (.cells #[(.int .i64 y0), (.int .i64 y1), (.int .u64 (y2 : Int)), (.int .i64 y3), (.int .i64 y4), (.int .i64 y5), (.bool y6), (.slice none 0 0), (.slice none 0 0), (.slice none 0 0), (.slice none 0 0), (.slice none 0 0), (.slice none 0 0), (.int .i64 0), (.string ⟨#[]⟩), (.slice none 0 0), (.slice none 0 0), (.int .i64 0), (.int .i64 0), (.string ⟨#[]⟩), (.slice none 0 0), (.bool false), (.int .i64 0), (.bool false), (.string ⟨#[]⟩)] 43 (0, 0))) := hs1
  have hks : Keep (fun k => k = P) w7 (w7.setCell ⟨P, 6, none⟩ (.bool y6)) := (Keep.refl (fun k => k = P) _).trans (Keep.set (X := fun k => k = P) _ ⟨P, 6, none⟩ (.bool y6) rfl)
  have HR7 := hid (HRr.out.keep hks (fun k e => by have e9 : k = P := e; omega))
  have HK7 := hid ((HK6.out.trans HKk.out).trans2 hks (fun k e => .inr (by have e9 : k = P := e; have := HBE.out; omega)))
  have hkk : Keep (fun k => k = Q ∨ k = P) u6 (w7.setCell ⟨P, 6, none⟩ (.bool y6)) := (HKk.out.mono (fun k _ e => .inl e)).trans (hks.mono (fun k _ e => .inr e))
  have hzz := (hkk.block B (lt_of_block HZ6.out) (fun e => by have e9 : B = Q ∨ B = P := e; omega)).trans HZ6.out
  have HZ7 := hid hzz
  clear hzz
  have HE0 := hid (EncN.hop (Nat.le_refl _) hkk HE0.out)
  have HE1 := hid (EncN.hop (Nat.le_refl _) hkk HE1.out)
  have HE2 := hid (EncN.hop (Nat.le_refl _) hkk HE2.out)
  have HE3 := hid (EncN.hop (Nat.le_refl _) hkk HE3.out)
  have HE4 := hid (EncN.hop (Nat.le_refl _) hkk HE4.out)
  have HE5 := hid (EncN.hop (Nat.le_refl _) hkk HE5.out)
  have HE6 := hid (EncN.mono (N' := fun k => Q < k ∧ k ≠ P ∧ k < (w7.setCell ⟨P, 6, none⟩ (.bool y6)).heap.size) (fun k hk => ⟨by have := hk.1; have := HR6.out.lt; omega, by have := lt_of_block HP6.out; omega, Nat.lt_of_lt_of_le hk.2 hks.size⟩) _ (EncN.keep hks (fun k hk e => by have e9 : k = P := e; have := lt_of_block HP6.out; have := hk.1; omega) _ HE6.out))
  clear hs0 hs1 hks hkk HRr HKk HPx HP6 HR6 HK6 HZ6 CQ
  generalize w7.setCell ⟨P, 6, none⟩ (.bool y6) = u7 at *
  as_aux_lemma =>
   have CQ := hid (ibytes9_any HR7.out)
   go_upto_region 10 with (first | (go_at_call 29; refine CQ.out.mono ?_; rintro en w8 ⟨v, rfl, bb7, E7, o7, r7, k7⟩; obtain ⟨y7, j7, c7, rfl⟩ := form_data (EncN.enc _ E7); have hPx := (k7.block P (lt_of_block HP7.out) (fun e => by have e9 : P = Q := e; omega)).trans HP7.out; obtain ⟨qq7, rr7⟩ := row_at (cs := [(.int .i64 y0), (.int .i64 y1), (.int .u64 (y2 : Int)), (.int .i64 y3), (.int .i64 y4), (.int .i64 y5), (.bool y6), (.slice none 0 0), (.slice none 0 0), (.slice none 0 0), (.slice none 0 0), (.slice none 0 0), (.slice none 0 0), (.int .i64 0), (.string ⟨#[]⟩), (.slice none 0 0), (.slice none 0 0), (.int .i64 0), (.int .i64 0), (.string ⟨#[]⟩), (.slice none 0 0), (.bool false), (.int .i64 0), (.bool false), (.string ⟨#[]⟩)]) hPx (i := 7) rfl; have HPx := hid hPx; clear hPx; have HE7 := hid E7; have HO7 := hid o7; have HRr := hid r7; have HKk := hid k7; clear E7 o7 r7 k7))
   have hs0 := HPx.out
   have hs1 := row_put (cs := [(.int .i64 y0), (.int .i64 y1), (.int .u64 (y2 : Int)), (.int .i64 y3), (.int .i64 y4), (.int .i64 y5), (.bool y6), (.slice none 0 0), (.slice none 0 0), (.slice none 0 0), (.slice none 0 0), (.slice none 0 0), (.slice none 0 0), (.int .i64 0), (.string ⟨#[]⟩), (.slice none 0 0), (.slice none 0 0), (.int .i64 0), (.int .i64 0), (.string ⟨#[]⟩), (.slice none 0 0), (.bool false), (.int .i64 0), (.bool false), (.string ⟨#[]⟩)]) hs0 7 (.slice y7 j7 c7)
   have HP8 : Hid ((w8.setCell ⟨P, 7, none⟩ (.slice y7 j7 c7)).heap[P]? = some (.cells #[(.int .i64 y0), (.int .i64 y1), (.int .u64 (y2 : Int)), (.int .i64 y3), (.int .i64 y4), (.int .i64 y5), (.bool y6), (.slice y7 j7 c7), (.slice none 0 0), (.slice none 0 0), (.slice none 0 0), (.slice none 0 0), (.slice none 0 0), (.int .i64 0), (.string ⟨#[]⟩), (.slice none 0 0), (.slice none 0 0), (.int .i64 0), (.int .i64 0), (.string ⟨#[]⟩), (.slice none 0 0), (.bool false), (.int .i64 0), (.bool false), (.string ⟨#[]⟩)] 43 (0, 0))) := hs1
   have hks : Keep (fun k => k = P) w8 (w8.setCell ⟨P, 7, none⟩ (.slice y7 j7 c7)) := (Keep.refl (fun k => k = P) _).trans (Keep.set (X := fun k => k = P) _ ⟨P, 7, none⟩ (.slice y7 j7 c7) rfl)
   have HR8 := hid (HRr.out.keep hks (fun k e => by have e9 : k = P := e; omega))
   have HK8 := hid ((HK7.out.trans HKk.out).trans2 hks (fun k e => .inr (by have e9 : k = P := e; have := HBE.out; omega)))
   have hkk : Keep (fun k => k = Q ∨ k = P) u7 (w8.setCell ⟨P, 7, none⟩ (.slice y7 j7 c7)) := (HKk.out.mono (fun k _ e => .inl e)).trans (hks.mono (fun k _ e => .inr e))
   have hzz := (hkk.block B (lt_of_block HZ7.out) (fun e => by have e9 : B = Q ∨ B = P := e; omega)).trans HZ7.out
   have HZ8 := hid hzz
   clear hzz
   have HE0 := hid (EncN.hop (Nat.le_refl _) hkk HE0.out)
   have HE1 := hid (EncN.hop (Nat.le_refl _) hkk HE1.out)
   have HE2 := hid (EncN.hop (Nat.le_refl _) hkk HE2.out)
   have HE3 := hid (EncN.hop (Nat.le_refl _) hkk HE3.out)
   have HE4 := hid (EncN.hop (Nat.le_refl _) hkk HE4.out)
   have HE5 := hid (EncN.hop (Nat.le_refl _) hkk HE5.out)
   have HE6 := hid (EncN.hop (Nat.le_refl _) hkk HE6.out)
   have HE7 := hid (EncN.mono (N' := fun k => Q < k ∧ k ≠ P ∧ k < (w8.setCell ⟨P, 7, none⟩ (.slice y7 j7 c7)).heap.size) (fun k hk => ⟨by have := hk.1; have := HR7.out.lt; omega, by have := lt_of_block HP7.out; omega, Nat.lt_of_lt_of_le hk.2 hks.size⟩) _ (EncN.keep hks (fun k hk e => by have e9 : k = P := e; have := lt_of_block HP7.out; have := hk.1; omega) _ HE7.out))
   clear hs0 hs1 hks hkk HRr HKk HPx HP7 HR7 HK7 HZ7 CQ
   generalize w8.setCell ⟨P, 7, none⟩ (.slice y7 j7 c7) = u8 at *
   have CQ := hid (istSpan_any HR8.out)
   go_upto_region 11 with (first | (go_at_call 35; refine CQ.out.mono ?_; rintro en w9 ⟨mc, rfl, bb8, E8, o8, r8, k8⟩; obtain ⟨vv8, vv9, bv8, bv9, rfl, _, ev8, ev9⟩ := Span_cells (EncN.enc _ E8); obtain ⟨y8, j8, c8, rfl⟩ := form_data ev8; obtain ⟨y9, j9, c9, rfl⟩ := form_data ev9; clear ev8 ev9; have hPx := (k8.block P (lt_of_block HP8.out) (fun e => by have e9 : P = Q := e; omega)).trans HP8.out; obtain ⟨qq8, rr8⟩ := row_at (cs := [(.int .i64 y0), (.int .i64 y1), (.int .u64 (y2 : Int)), (.int .i64 y3), (.int .i64 y4), (.int .i64 y5), (.bool y6), (.slice y7 j7 c7), (.slice none 0 0), (.slice none 0 0), (.slice none 0 0), (.slice none 0 0), (.slice none 0 0), (.int .i64 0), (.string ⟨#[]⟩), (.slice none 0 0), (.slice none 0 0), (.int .i64 0), (.int .i64 0), (.string ⟨#[]⟩), (.slice none 0 0), (.bool false), (.int .i64 0), (.bool false), (.string ⟨#[]⟩)]) hPx (i := 8) rfl; obtain ⟨qq9, rr9⟩ := row_at (cs := [(.int .i64 y0), (.int .i64 y1), (.int .u64 (y2 : Int)), (.int .i64 y3), (.int .i64 y4), (.int .i64 y5), (.bool y6), (.slice y7 j7 c7), (.slice none 0 0), (.slice none 0 0), (.slice none 0 0), (.slice none 0 0), (.slice none 0 0), (.int .i64 0), (.string ⟨#[]⟩), (.slice none 0 0), (.slice none 0 0), (.int .i64 0), (.int .i64 0), (.string ⟨#[]⟩), (.slice none 0 0), (.bool false), (.int .i64 0), (.bool false), (.string ⟨#[]⟩)]) hPx (i := 9) rfl; have HPx := hid hPx; clear hPx; have HE8 := hid E8; have HO8 := hid o8; have HRr := hid r8; have HKk := hid k8; clear E8 o8 r8 k8))
   have hs0 := HPx.out
   have hs1 := row_put (cs := [(.int .i64 y0), (.int .i64 y1), (.int .u64 (y2 : Int)), (.int .i64 y3), (.int .i64 y4), (.int .i64 y5), (.bool y6), (.slice y7 j7 c7), (.slice none 0 0), (.slice none 0 0), (.slice none 0 0), (.slice none 0 0), (.slice none 0 0), (.int .i64 0), (.string ⟨#[]⟩), (.slice none 0 0), (.slice none 0 0), (.int .i64 0), (.int .i64 0), (.string ⟨#[]⟩), (.slice none 0 0), (.bool false), (.int .i64 0), (.bool false), (.string ⟨#[]⟩)]) hs0 8 (.slice y8 j8 c8)
   have hs2 := row_put (cs := [(.int .i64 y0), (.int .i64 y1), (.int .u64 (y2 : Int)), (.int .i64 y3), (.int .i64 y4), (.int .i64 y5), (.bool y6), (.slice y7 j7 c7), (.slice y8 j8 c8), (.slice none 0 0), (.slice none 0 0), (.slice none 0 0), (.slice none 0 0), (.int .i64 0), (.string ⟨#[]⟩), (.slice none 0 0), (.slice none 0 0), (.int .i64 0), (.int .i64 0), (.string ⟨#[]⟩), (.slice none 0 0), (.bool false), (.int .i64 0), (.bool false), (.string ⟨#[]⟩)]) hs1 9 (.slice y9 j9 c9)
   have HP9 : Hid (((w9.setCell ⟨P, 8, none⟩ (.slice y8 j8 c8)).setCell ⟨P, 9, none⟩ (.slice y9 j9 c9)).heap[P]? = some (.cells #[(.int .i64 y0), (.int .i64 y1), (.int .u64 (y2 : Int)), (.int .i64 y3), (.int .i64 y4), (.int .i64 y5), (.bool y6), (.slice y7 j7 c7), (.slice y8 j8 c8), (.slice y9 j9 c9), (.slice none 0 0), (.slice none 0 0), (.slice none 0 0), (.int .i64 0), (.string ⟨#[]⟩), (.slice none 0 0), (.slice none 0 0), (.int .i64 0), (.int .i64 0), (.string ⟨#[]⟩), (.slice none 0 0), (.bool false), (.int .i64 0), (.bool false), (.string ⟨#[]⟩)] 43 (0, 0))) := hs2
   have hks : Keep (fun k => k = P) w9 ((w9.setCell ⟨P, 8, none⟩ (.slice y8 j8 c8)).setCell ⟨P, 9, none⟩ (.slice y9 j9 c9)) := ((Keep.refl (fun k => k = P) _).trans (Keep.set (X := fun k => k = P) _ ⟨P, 8, none⟩ (.slice y8 j8 c8) rfl)).trans (Keep.set (X := fun k => k = P) _ ⟨P, 9, none⟩ (.slice y9 j9 c9) rfl)
   have HR9 := hid (HRr.out.keep hks (fun k e => by have e9 : k = P := e; omega))
   have HK9 := hid ((HK8.out.trans HKk.out).trans2 hks (fun k e => .inr (by have e9 : k = P := e; have := HBE.out; omega)))
   have hkk : Keep (fun k => k = Q ∨ k = P) u8 ((w9.setCell ⟨P, 8, none⟩ (.slice y8 j8 c8)).setCell ⟨P, 9, none⟩ (.slice y9 j9 c9)) := (HKk.out.mono (fun k _ e => .inl e)).trans (hks.mono (fun k _ e => .inr e))
   have hzz := (hkk.block B (lt_of_block HZ8.out) (fun e => by have e9 : B = Q ∨ B = P := e; omega)).trans HZ8.out
   have HZ9 := hid hzz
   clear hzz
   have HE0 := hid (EncN.hop (Nat.le_refl _) hkk HE0.out)
   have HE1 := hid (EncN.hop (Nat.le_refl _) hkk HE1.out)
   have HE2 := hid (EncN.hop (Nat.le_refl _) hkk HE2.out)
   have HE3 := hid (EncN.hop (Nat.le_refl _) hkk HE3.out)
   have HE4 := hid (EncN.hop (Nat.le_refl _) hkk HE4.out)
   have HE5 := hid (EncN.hop (Nat.le_refl _) hkk HE5.out)
   have HE6 := hid (EncN.hop (Nat.le_refl _) hkk HE6.out)
   have HE7 := hid (EncN.hop (Nat.le_refl _) hkk HE7.out)
   have HE8 := hid (EncN.mono (N' := fun k => Q < k ∧ k ≠ P ∧ k < ((w9.setCell ⟨P, 8, none⟩ (.slice y8 j8 c8)).setCell ⟨P, 9, none⟩ (.slice y9 j9 c9)).heap.size) (fun k hk => ⟨by have := hk.1; have := HR8.out.lt; omega, by have := lt_of_block HP8.out; omega, Nat.lt_of_lt_of_le hk.2 hks.size⟩) _ (EncN.keep hks (fun k hk e => by have e9 : k = P := e; have := lt_of_block HP8.out; have := hk.1; omega) _ HE8.out))
   clear hs0 hs1 hs2 hks hkk HRr HKk HPx HP8 HR8 HK8 HZ8 CQ
   generalize (w9.setCell ⟨P, 8, none⟩ (.slice y8 j8 c8)).setCell ⟨P, 9, none⟩ (.slice y9 j9 c9) = u9 at *
   have CQ := hid (ilPair_any HR9.out)
   go_upto_region 12 with (first | (go_at_call 36; refine CQ.out.mono ?_; rintro en w10 ⟨v, rfl, bb9, E9, o9, r9, k9⟩; obtain ⟨y10, j10, c10, rfl⟩ := form_list (EncN.enc _ E9); have hPx := (k9.block P (lt_of_block HP9.out) (fun e => by have e9 : P = Q := e; omega)).trans HP9.out; obtain ⟨qq10, rr10⟩ := row_at (cs := [(.int .i64 y0), (.int .i64 y1), (.int .u64 (y2 : Int)), (.int .i64 y3), (.int .i64 y4), (.int .i64 y5), (.bool y6), (.slice y7 j7 c7), (.slice y8 j8 c8), (.slice y9 j9 c9), (.slice none 0 0), (.slice none 0 0), (.slice none 0 0), (.int .i64 0), (.string ⟨#[]⟩), (.slice none 0 0), (.slice none 0 0), (.int .i64 0), (.int .i64 0), (.string ⟨#[]⟩), (.slice none 0 0), (.bool false), (.int .i64 0), (.bool false), (.string ⟨#[]⟩)]) hPx (i := 10) rfl; have HPx := hid hPx; clear hPx; have HE9 := hid E9; have HO9 := hid o9; have HRr := hid r9; have HKk := hid k9; clear E9 o9 r9 k9))
   have hs0 := HPx.out
   have hs1 := row_put (cs := [(.int .i64 y0), (.int .i64 y1), (.int .u64 (y2 : Int)), (.int .i64 y3), (.int .i64 y4), (.int .i64 y5), (.bool y6), (.slice y7 j7 c7), (.slice y8 j8 c8), (.slice y9 j9 c9), (.slice none 0 0), (.slice none 0 0), (.slice none 0 0), (.int .i64 0), (.string ⟨#[]⟩), (.slice none 0 0), (.slice none 0 0), (.int .i64 0), (.int .i64 0), (.string ⟨#[]⟩), (.slice none 0 0), (.bool false), (.int .i64 0), (.bool false), (.string ⟨#[]⟩)]) hs0 10 (.slice y10 j10 c10)
   have HP10 : Hid ((w10.setCell ⟨P, 10, none⟩ (.slice y10 j10 c10)).heap[P]? = some (.cells #[(.int .i64 y0), (.int .i64 y1), (.int .u64 (y2 : Int)), (.int .i64 y3), (.int .i64 y4), (.int .i64 y5), (.bool y6), (.slice y7 j7 c7), (.slice y8 j8 c8), (.slice y9 j9 c9), (.slice y10 j10 c10), (.slice none 0 0), (.slice none 0 0), (.int .i64 0), (.string ⟨#[]⟩), (.slice none 0 0), (.slice none 0 0), (.int .i64 0), (.int .i64 0), (.string ⟨#[]⟩), (.slice none 0 0), (.bool false), (.int .i64 0), (.bool false), (.string ⟨#[]⟩)] 43 (0, 0))) := hs1
   have hks : Keep (fun k => k = P) w10 (w10.setCell ⟨P, 10, none⟩ (.slice y10 j10 c10)) := (Keep.refl (fun k => k = P) _).trans (Keep.set (X := fun k => k = P) _ ⟨P, 10, none⟩ (.slice y10 j10 c10) rfl)
   have HR10 := hid (HRr.out.keep hks (fun k e => by have e9 : k = P := e; omega))
   have HK10 := hid ((HK9.out.trans HKk.out).trans2 hks (fun k e => .inr (by have e9 : k = P := e; have := HBE.out; omega)))
   have hkk : Keep (fun k => k = Q ∨ k = P) u9 (w10.setCell ⟨P, 10, none⟩ (.slice y10 j10 c10)) := (HKk.out.mono (fun k _ e => .inl e)).trans (hks.mono (fun k _ e => .inr e))
   have hzz := (hkk.block B (lt_of_block HZ9.out) (fun e => by have e9 : B = Q ∨ B = P := e; omega)).trans HZ9.out
   have HZ10 := hid hzz
   clear hzz
   have HE0 := hid (EncN.hop (Nat.le_refl _) hkk HE0.out)
   have HE1 := hid (EncN.hop (Nat.le_refl _) hkk HE1.out)
   have HE2 := hid (EncN.hop (Nat.le_refl _) hkk HE2.out)
   have HE3 := hid (EncN.hop (Nat.le_refl _) hkk HE3.out)
   have HE4 := hid (EncN.hop (Nat.le_refl _) hkk HE4.out)
   have HE5 := hid (EncN.hop (Nat.le_refl _) hkk HE5.out)
   have HE6 := hid (EncN.hop (Nat.le_refl _) hkk HE6.out)
   have HE7 := hid (EncN.hop (Nat.le_refl _) hkk HE7.out)
   have HE8 := hid (EncN.hop (Nat.le_refl _) hkk HE8.out)
   have HE9 := hid (EncN.mono (N' := fun k => Q < k ∧ k ≠ P ∧ k < (w10.setCell ⟨P, 10, none⟩ (.slice y10 j10 c10)).heap.size) (fun k hk => ⟨by have := hk.1; have := HR9.out.lt; omega, by have := lt_of_block HP9.out; omega, Nat.lt_of_lt_of_le hk.2 hks.size⟩) _ (EncN.keep hks (fun k hk e => by have e9 : k = P := e; have := lt_of_block HP9.out; have := hk.1; omega) _ HE9.out))
   clear hs0 hs1 hks hkk HRr HKk HPx HP9 HR9 HK9 HZ9 CQ
   generalize w10.setCell ⟨P, 10, none⟩ (.slice y10 j10 c10) = u10 at *
   as_aux_lemma =>
    have CQ := hid (ilSeen_any HR10.out)
    go_upto_region 13 with (first | (go_at_call 37; refine CQ.out.mono ?_; rintro en w11 ⟨v, rfl, bb10, E10, o10, r10, k10⟩; obtain ⟨y11, j11, c11, rfl⟩ := form_list (EncN.enc _ E10); have hPx := (k10.block P (lt_of_block HP10.out) (fun e => by have e9 : P = Q := e; omega)).trans HP10.out; obtain ⟨qq11, rr11⟩ := row_at (cs := [(.int .i64 y0), (.int .i64 y1), (.int .u64 (y2 : Int)), (.int .i64 y3), (.int .i64 y4), (.int .i64 y5), (.bool y6), (.slice y7 j7 c7), (.slice y8 j8 c8), (.slice y9 j9 c9), (.slice y10 j10 c10), (.slice none 0 0), (.slice none 0 0), (.int .i64 0), (.string ⟨#[]⟩), (.slice none 0 0), (.slice none 0 0), (.int .i64 0), (.int .i64 0), (.string ⟨#[]⟩), (.slice none 0 0), (.bool false), (.int .i64 0), (.bool false), (.string ⟨#[]⟩)]) hPx (i := 11) rfl; have HPx := hid hPx; clear hPx; have HE10 := hid E10; have HO10 := hid o10; have HRr := hid r10; have HKk := hid k10; clear E10 o10 r10 k10))
    have hs0 := HPx.out
    have hs1 := row_put (cs := [(.int .i64 y0), (.int .i64 y1), (.int .u64 (y2 : Int)), (.int .i64 y3), (.int .i64 y4), (.int .i64 y5), (.bool y6), (.slice y7 j7 c7), (.slice y8 j8 c8), (.slice y9 j9 c9), (.slice y10 j10 c10), (.slice none 0 0), (.slice none 0 0), (.int .i64 0), (.string ⟨#[]⟩), (.slice none 0 0), (.slice none 0 0), (.int .i64 0), (.int .i64 0), (.string ⟨#[]⟩), (.slice none 0 0), (.bool false), (.int .i64 0), (.bool false), (.string ⟨#[]⟩)]) hs0 11 (.slice y11 j11 c11)
    have HP11 : Hid ((w11.setCell ⟨P, 11, none⟩ (.slice y11 j11 c11)).heap[P]? = some (.cells #[(.int .i64 y0), (.int .i64 y1), (.int .u64 (y2 : Int)), (.int .i64 y3), (.int .i64 y4), (.int .i64 y5), (.bool y6), (.slice y7 j7 c7), (.slice y8 j8 c8), (.slice y9 j9 c9), (.slice y10 j10 c10), (.slice y11 j11 c11), (.slice none 0 0), (.int .i64 0), (.string ⟨#[]⟩), (.slice none 0 0), (.slice none 0 0), (.int .i64 0), (.int .i64 0), (.string ⟨#[]⟩), (.slice none 0 0), (.bool false), (.int .i64 0), (.bool false), (.string ⟨#[]⟩)] 43 (0, 0))) := hs1
    have hks : Keep (fun k => k = P) w11 (w11.setCell ⟨P, 11, none⟩ (.slice y11 j11 c11)) := (Keep.refl (fun k => k = P) _).trans (Keep.set (X := fun k => k = P) _ ⟨P, 11, none⟩ (.slice y11 j11 c11) rfl)
    have HR11 := hid (HRr.out.keep hks (fun k e => by have e9 : k = P := e; omega))
    have HK11 := hid ((HK10.out.trans HKk.out).trans2 hks (fun k e => .inr (by have e9 : k = P := e; have := HBE.out; omega)))
    have hkk : Keep (fun k => k = Q ∨ k = P) u10 (w11.setCell ⟨P, 11, none⟩ (.slice y11 j11 c11)) := (HKk.out.mono (fun k _ e => .inl e)).trans (hks.mono (fun k _ e => .inr e))
    have hzz := (hkk.block B (lt_of_block HZ10.out) (fun e => by have e9 : B = Q ∨ B = P := e; omega)).trans HZ10.out
    have HZ11 := hid hzz
    clear hzz
    have HE0 := hid (EncN.hop (Nat.le_refl _) hkk HE0.out)
    have HE1 := hid (EncN.hop (Nat.le_refl _) hkk HE1.out)
    have HE2 := hid (EncN.hop (Nat.le_refl _) hkk HE2.out)
    have HE3 := hid (EncN.hop (Nat.le_refl _) hkk HE3.out)
    have HE4 := hid (EncN.hop (Nat.le_refl _) hkk HE4.out)
    have HE5 := hid (EncN.hop (Nat.le_refl _) hkk HE5.out)
    have HE6 := hid (EncN.hop (Nat.le_refl _) hkk HE6.out)
    have HE7 := hid (EncN.hop (Nat.le_refl _) hkk HE7.out)
    have HE8 := hid (EncN.hop (Nat.le_refl _) hkk HE8.out)
    have HE9 := hid (EncN.hop (Nat.le_refl _) hkk HE9.out)
    have HE10 := hid (EncN.mono (N' := fun k => Q < k ∧ k ≠ P ∧ k < (w11.setCell ⟨P, 11, none⟩ (.slice y11 j11 c11)).heap.size) (fun k hk => ⟨by have := hk.1; have := HR10.out.lt; omega, by have := lt_of_block HP10.out; omega, Nat.lt_of_lt_of_le hk.2 hks.size⟩) _ (EncN.keep hks (fun k hk e => by have e9 : k = P := e; have := lt_of_block HP10.out; have := hk.1; omega) _ HE10.out))
    clear hs0 hs1 hks hkk HRr HKk HPx HP10 HR10 HK10 HZ10 CQ
    generalize w11.setCell ⟨P, 11, none⟩ (.slice y11 j11 c11) = u11 at *
    have CQ := hid (ilWrite_any HR11.out)
    go_upto_region 14 with (first | (go_at_call 38; refine CQ.out.mono ?_; rintro en w12 ⟨v, rfl, bb11, E11, o11, r11, k11⟩; obtain ⟨y12, j12, c12, rfl⟩ := form_list (EncN.enc _ E11); have hPx := (k11.block P (lt_of_block HP11.out) (fun e => by have e9 : P = Q := e; omega)).trans HP11.out; obtain ⟨qq12, rr12⟩ := row_at (cs := [(.int .i64 y0), (.int .i64 y1), (.int .u64 (y2 : Int)), (.int .i64 y3), (.int .i64 y4), (.int .i64 y5), (.bool y6), (.slice y7 j7 c7), (.slice y8 j8 c8), (.slice y9 j9 c9), (.slice y10 j10 c10), (.slice y11 j11 c11), (.slice none 0 0), (.int .i64 0), (.string ⟨#[]⟩), (.slice none 0 0), (.slice none 0 0), (.int .i64 0), (.int .i64 0), (.string ⟨#[]⟩), (.slice none 0 0), (.bool false), (.int .i64 0), (.bool false), (.string ⟨#[]⟩)]) hPx (i := 12) rfl; have HPx := hid hPx; clear hPx; have HE11 := hid E11; have HO11 := hid o11; have HRr := hid r11; have HKk := hid k11; clear E11 o11 r11 k11))
    have hs0 := HPx.out
    have hs1 := row_put (cs := [(.int .i64 y0), (.int .i64 y1), (.int .u64 (y2 : Int)), (.int .i64 y3), (.int .i64 y4), (.int .i64 y5), (.bool y6), (.slice y7 j7 c7), (.slice y8 j8 c8), (.slice y9 j9 c9), (.slice y10 j10 c10), (.slice y11 j11 c11), (.slice none 0 0), (.int .i64 0), (.string ⟨#[]⟩), (.slice none 0 0), (.slice none 0 0), (.int .i64 0), (.int .i64 0), (.string ⟨#[]⟩), (.slice none 0 0), (.bool false), (.int .i64 0), (.bool false), (.string ⟨#[]⟩)]) hs0 12 (.slice y12 j12 c12)
    have HP12 : Hid ((w12.setCell ⟨P, 12, none⟩ (.slice y12 j12 c12)).heap[P]? = some (.cells #[(.int .i64 y0), (.int .i64 y1), (.int .u64 (y2 : Int)), (.int .i64 y3), (.int .i64 y4), (.int .i64 y5), (.bool y6), (.slice y7 j7 c7), (.slice y8 j8 c8), (.slice y9 j9 c9), (.slice y10 j10 c10), (.slice y11 j11 c11), (.slice y12 j12 c12), (.int .i64 0), (.string ⟨#[]⟩), (.slice none 0 0), (.slice none 0 0), (.int .i64 0), (.int .i64 0), (.string ⟨#[]⟩), (.slice none 0 0), (.bool false), (.int .i64 0), (.bool false), (.string ⟨#[]⟩)] 43 (0, 0))) := hs1
    have hks : Keep (fun k => k = P) w12 (w12.setCell ⟨P, 12, none⟩ (.slice y12 j12 c12)) := (Keep.refl (fun k => k = P) _).trans (Keep.set (X := fun k => k = P) _ ⟨P, 12, none⟩ (.slice y12 j12 c12) rfl)
    have HR12 := hid (HRr.out.keep hks (fun k e => by have e9 : k = P := e; omega))
    have HK12 := hid ((HK11.out.trans HKk.out).trans2 hks (fun k e => .inr (by have e9 : k = P := e; have := HBE.out; omega)))
    have hkk : Keep (fun k => k = Q ∨ k = P) u11 (w12.setCell ⟨P, 12, none⟩ (.slice y12 j12 c12)) := (HKk.out.mono (fun k _ e => .inl e)).trans (hks.mono (fun k _ e => .inr e))
    have hzz := (hkk.block B (lt_of_block HZ11.out) (fun e => by have e9 : B = Q ∨ B = P := e; omega)).trans HZ11.out
    have HZ12 := hid hzz
    clear hzz
    have HE0 := hid (EncN.hop (Nat.le_refl _) hkk HE0.out)
    have HE1 := hid (EncN.hop (Nat.le_refl _) hkk HE1.out)
    have HE2 := hid (EncN.hop (Nat.le_refl _) hkk HE2.out)
    have HE3 := hid (EncN.hop (Nat.le_refl _) hkk HE3.out)
    have HE4 := hid (EncN.hop (Nat.le_refl _) hkk HE4.out)
    have HE5 := hid (EncN.hop (Nat.le_refl _) hkk HE5.out)
    have HE6 := hid (EncN.hop (Nat.le_refl _) hkk HE6.out)
    have HE7 := hid (EncN.hop (Nat.le_refl _) hkk HE7.out)
    have HE8 := hid (EncN.hop (Nat.le_refl _) hkk HE8.out)
    have HE9 := hid (EncN.hop (Nat.le_refl _) hkk HE9.out)
    have HE10 := hid (EncN.hop (Nat.le_refl _) hkk HE10.out)
    have HE11 := hid (EncN.mono (N' := fun k => Q < k ∧ k ≠ P ∧ k < (w12.setCell ⟨P, 12, none⟩ (.slice y12 j12 c12)).heap.size) (fun k hk => ⟨by have := hk.1; have := HR11.out.lt; omega, by have := lt_of_block HP11.out; omega, Nat.lt_of_lt_of_le hk.2 hks.size⟩) _ (EncN.keep hks (fun k hk e => by have e9 : k = P := e; have := lt_of_block HP11.out; have := hk.1; omega) _ HE11.out))
    clear hs0 hs1 hks hkk HRr HKk HPx HP11 HR11 HK11 HZ11 CQ
    generalize w12.setCell ⟨P, 12, none⟩ (.slice y12 j12 c12) = u12 at *
    have CQ := hid (istTable_any HR12.out)
    go_upto_region 15 with (first | (go_at_call 39; refine CQ.out.mono ?_; rintro en w13 ⟨mc, rfl, bb12, E12, o12, r12, k12⟩; obtain ⟨vv13, vv14, vv15, vv16, bv13, bv14, bv15, bv16, rfl, _, ev13, ev14, ev15, ev16⟩ := Table_cells (EncN.enc _ E12); obtain ⟨y13, rfl⟩ := form_int ev13; obtain ⟨y14, rfl⟩ := form_name ev14; obtain ⟨y15, j15, c15, rfl⟩ := form_list ev15; obtain ⟨y16, j16, c16, rfl⟩ := form_list ev16; clear ev13 ev14 ev15 ev16; have hPx := (k12.block P (lt_of_block HP12.out) (fun e => by have e9 : P = Q := e; omega)).trans HP12.out; obtain ⟨qq13, rr13⟩ := row_at (cs := [(.int .i64 y0), (.int .i64 y1), (.int .u64 (y2 : Int)), (.int .i64 y3), (.int .i64 y4), (.int .i64 y5), (.bool y6), (.slice y7 j7 c7), (.slice y8 j8 c8), (.slice y9 j9 c9), (.slice y10 j10 c10), (.slice y11 j11 c11), (.slice y12 j12 c12), (.int .i64 0), (.string ⟨#[]⟩), (.slice none 0 0), (.slice none 0 0), (.int .i64 0), (.int .i64 0), (.string ⟨#[]⟩), (.slice none 0 0), (.bool false), (.int .i64 0), (.bool false), (.string ⟨#[]⟩)]) hPx (i := 13) rfl; obtain ⟨qq14, rr14⟩ := row_at (cs := [(.int .i64 y0), (.int .i64 y1), (.int .u64 (y2 : Int)), (.int .i64 y3), (.int .i64 y4), (.int .i64 y5), (.bool y6), (.slice y7 j7 c7), (.slice y8 j8 c8), (.slice y9 j9 c9), (.slice y10 j10 c10), (.slice y11 j11 c11), (.slice y12 j12 c12), (.int .i64 0), (.string ⟨#[]⟩), (.slice none 0 0), (.slice none 0 0), (.int .i64 0), (.int .i64 0), (.string ⟨#[]⟩), (.slice none 0 0), (.bool false), (.int .i64 0), (.bool false), (.string ⟨#[]⟩)]) hPx (i := 14) rfl; obtain ⟨qq15, rr15⟩ := row_at (cs := [(.int .i64 y0), (.int .i64 y1), (.int .u64 (y2 : Int)), (.int .i64 y3), (.int .i64 y4), (.int .i64 y5), (.bool y6), (.slice y7 j7 c7), (.slice y8 j8 c8), (.slice y9 j9 c9), (.slice y10 j10 c10), (.slice y11 j11 c11), (.slice y12 j12 c12), (.int .i64 0), (.string ⟨#[]⟩), (.slice none 0 0), (.slice none 0 0), (.int .i64 0), (.int .i64 0), (.string ⟨#[]⟩), (.slice none 0 0), (.bool false), (.int .i64 0), (.bool false), (.string ⟨#[]⟩)]) hPx (i := 15) rfl; obtain ⟨qq16, rr16⟩ := row_at (cs := [(.int .i64 y0), (.int .i64 y1), (.int .u64 (y2 : Int)), (.int .i64 y3), (.int .i64 y4), (.int .i64 y5), (.bool y6), (.slice y7 j7 c7), (.slice y8 j8 c8), (.slice y9 j9 c9), (.slice y10 j10 c10), (.slice y11 j11 c11), (.slice y12 j12 c12), (.int .i64 0), (.string ⟨#[]⟩), (.slice none 0 0), (.slice none 0 0), (.int .i64 0), (.int .i64 0), (.string ⟨#[]⟩), (.slice none 0 0), (.bool false), (.int .i64 0), (.bool false), (.string ⟨#[]⟩)]) hPx (i := 16) rfl; have HPx := hid hPx; clear hPx; have HE12 := hid E12; have HO12 := hid o12; have HRr := hid r12; have HKk := hid k12; clear E12 o12 r12 k12))
    have hs0 := HPx.out
    have hs1 := row_put (cs := [(.int .i64 y0), (.int .i64 y1), (.int .u64 (y2 : Int)), (.int .i64 y3), (.int .i64 y4), (.int .i64 y5), (.bool y6), (.slice y7 j7 c7), (.slice y8 j8 c8), (.slice y9 j9 c9), (.slice y10 j10 c10), (.slice y11 j11 c11), (.slice y12 j12 c12), (.int .i64 0), (.string ⟨#[]⟩), (.slice none 0 0), (.slice none 0 0), (.int .i64 0), (.int .i64 0), (.string ⟨#[]⟩), (.slice none 0 0), (.bool false), (.int .i64 0), (.bool false), (.string ⟨#[]⟩)]) hs0 13 (.int .i64 y13)
    have hs2 := row_put (cs := [(.int .i64 y0), (.int .i64 y1), (.int .u64 (y2 : Int)), (.int .i64 y3), (.int .i64 y4), (.int .i64 y5), (.bool y6), (.slice y7 j7 c7), (.slice y8 j8 c8), (.slice y9 j9 c9), (.slice y10 j10 c10), (.slice y11 j11 c11), (.slice y12 j12 c12), (.int .i64 y13), (.string ⟨#[]⟩), (.slice none 0 0), (.slice none 0 0), (.int .i64 0), (.int .i64 0), (.string ⟨#[]⟩), (.slice none 0 0), (.bool false), (.int .i64 0), (.bool false), (.string ⟨#[]⟩)]) hs1 14 (.string y14)
    have hs3 := row_put (cs := [(.int .i64 y0), (.int .i64 y1), (.int .u64 (y2 : Int)), (.int .i64 y3), (.int .i64 y4), (.int .i64 y5), (.bool y6), (.slice y7 j7 c7), (.slice y8 j8 c8), (.slice y9 j9 c9), (.slice y10 j10 c10), (.slice y11 j11 c11), (.slice y12 j12 c12), (.int .i64 y13), (.string y14), (.slice none 0 0), (.slice none 0 0), (.int .i64 0), (.int .i64 0), (.string ⟨#[]⟩), (.slice none 0 0), (.bool false), (.int .i64 0), (.bool false), (.string ⟨#[]⟩)]) hs2 15 (.slice y15 j15 c15)
    have hs4 := row_put (cs := [(.int .i64 y0), (.int .i64 y1), (.int .u64 (y2 : Int)), (.int .i64 y3), (.int .i64 y4), (.int .i64 y5), (.bool y6), (.slice y7 j7 c7), (.slice y8 j8 c8), (.slice y9 j9 c9), (.slice y10 j10 c10), (.slice y11 j11 c11), (.slice y12 j12 c12), (.int .i64 y13), (.string y14), (.slice y15 j15 c15), (.slice none 0 0), (.int .i64 0), (.int .i64 0), (.string ⟨#[]⟩), (.slice none 0 0), (.bool false), (.int .i64 0), (.bool false), (.string ⟨#[]⟩)]) hs3 16 (.slice y16 j16 c16)
    have HP13 : Hid (((((w13.setCell ⟨P, 13, none⟩ (.int .i64 y13)).setCell ⟨P, 14, none⟩ (.string y14)).setCell ⟨P, 15, none⟩ (.slice y15 j15 c15)).setCell ⟨P, 16, none⟩ (.slice y16 j16 c16)).heap[P]? = some (.cells #[(.int .i64 y0), (.int .i64 y1), (.int .u64 (y2 : Int)), (.int .i64 y3), (.int .i64 y4), (.int .i64 y5), (.bool y6), (.slice y7 j7 c7), (.slice y8 j8 c8), (.slice y9 j9 c9), (.slice y10 j10 c10), (.slice y11 j11 c11), (.slice y12 j12 c12), (.int .i64 y13), (.string y14), (.slice y15 j15 c15), (.slice y16 j16 c16), (.int .i64 0), (.int .i64 0), (.string ⟨#[]⟩), (.slice none 0 0), (.bool false), (.int .i64 0), (.bool false), (.string ⟨#[]⟩)] 43 (0, 0))) := hs4
    have hks : Keep (fun k => k = P) w13 ((((w13.setCell ⟨P, 13, none⟩ (.int .i64 y13)).setCell ⟨P, 14, none⟩ (.string y14)).setCell ⟨P, 15, none⟩ (.slice y15 j15 c15)).setCell ⟨P, 16, none⟩ (.slice y16 j16 c16)) := ((((Keep.refl (fun k => k = P) _).trans (Keep.set (X := fun k => k = P) _ ⟨P, 13, none⟩ (.int .i64 y13) rfl)).trans (Keep.set (X := fun k => k = P) _ ⟨P, 14, none⟩ (.string y14) rfl)).trans (Keep.set (X := fun k => k = P) _ ⟨P, 15, none⟩ (.slice y15 j15 c15) rfl)).trans (Keep.set (X := fun k => k = P) _ ⟨P, 16, none⟩ (.slice y16 j16 c16) rfl)
    have HR13 := hid (HRr.out.keep hks (fun k e => by have e9 : k = P := e; omega))
    have HK13 := hid ((HK12.out.trans HKk.out).trans2 hks (fun k e => .inr (by have e9 : k = P := e; have := HBE.out; omega)))
    have hkk : Keep (fun k => k = Q ∨ k = P) u12 ((((w13.setCell ⟨P, 13, none⟩ (.int .i64 y13)).setCell ⟨P, 14, none⟩ (.string y14)).setCell ⟨P, 15, none⟩ (.slice y15 j15 c15)).setCell ⟨P, 16, none⟩ (.slice y16 j16 c16)) := (HKk.out.mono (fun k _ e => .inl e)).trans (hks.mono (fun k _ e => .inr e))
    have hzz := (hkk.block B (lt_of_block HZ12.out) (fun e => by have e9 : B = Q ∨ B = P := e; omega)).trans HZ12.out
    have HZ13 := hid hzz
    clear hzz
    have HE0 := hid (EncN.hop (Nat.le_refl _) hkk HE0.out)
    have HE1 := hid (EncN.hop (Nat.le_refl _) hkk HE1.out)
    have HE2 := hid (EncN.hop (Nat.le_refl _) hkk HE2.out)
    have HE3 := hid (EncN.hop (Nat.le_refl _) hkk HE3.out)
    have HE4 := hid (EncN.hop (Nat.le_refl _) hkk HE4.out)
    have HE5 := hid (EncN.hop (Nat.le_refl _) hkk HE5.out)
    have HE6 := hid (EncN.hop (Nat.le_refl _) hkk HE6.out)
    have HE7 := hid (EncN.hop (Nat.le_refl _) hkk HE7.out)
    have HE8 := hid (EncN.hop (Nat.le_refl _) hkk HE8.out)
    have HE9 := hid (EncN.hop (Nat.le_refl _) hkk HE9.out)
    have HE10 := hid (EncN.hop (Nat.le_refl _) hkk HE10.out)
    have HE11 := hid (EncN.hop (Nat.le_refl _) hkk HE11.out)
    have HE12 := hid (EncN.mono (N' := fun k => Q < k ∧ k ≠ P ∧ k < ((((w13.setCell ⟨P, 13, none⟩ (.int .i64 y13)).setCell ⟨P, 14, none⟩ (.string y14)).setCell ⟨P, 15, none⟩ (.slice y15 j15 c15)).setCell ⟨P, 16, none⟩ (.slice y16 j16 c16)).heap.size) (fun k hk => ⟨by have := hk.1; have := HR12.out.lt; omega, by have := lt_of_block HP12.out; omega, Nat.lt_of_lt_of_le hk.2 hks.size⟩) _ (EncN.keep hks (fun k hk e => by have e9 : k = P := e; have := lt_of_block HP12.out; have := hk.1; omega) _ HE12.out))
    clear hs0 hs1 hs2 hs3 hs4 hks hkk HRr HKk HPx HP12 HR12 HK12 HZ12 CQ
    generalize (((w13.setCell ⟨P, 13, none⟩ (.int .i64 y13)).setCell ⟨P, 14, none⟩ (.string y14)).setCell ⟨P, 15, none⟩ (.slice y15 j15 c15)).setCell ⟨P, 16, none⟩ (.slice y16 j16 c16) = u13 at *
    as_aux_lemma =>
     have CQ := hid (istIndex_any HR13.out)
     go_upto_region 16 with (first | (go_at_call 40; refine CQ.out.mono ?_; rintro en w14 ⟨mc, rfl, bb13, E13, o13, r13, k13⟩; obtain ⟨vv17, vv18, vv19, vv20, vv21, vv22, vv23, bv17, bv18, bv19, bv20, bv21, bv22, bv23, rfl, _, ev17, ev18, ev19, ev20, ev21, ev22, ev23⟩ := Index_cells (EncN.enc _ E13); obtain ⟨y17, rfl⟩ := form_int ev17; obtain ⟨y18, rfl⟩ := form_int ev18; obtain ⟨y19, rfl⟩ := form_name ev19; obtain ⟨y20, j20, c20, rfl⟩ := form_list ev20; obtain ⟨y21, rfl⟩ := form_bool ev21; obtain ⟨y22, rfl⟩ := form_int ev22; obtain ⟨y23, rfl⟩ := form_bool ev23; clear ev17 ev18 ev19 ev20 ev21 ev22 ev23; have hPx := (k13.block P (lt_of_block HP13.out) (fun e => by have e9 : P = Q := e; omega)).trans HP13.out; obtain ⟨qq17, rr17⟩ := row_at (cs := [(.int .i64 y0), (.int .i64 y1), (.int .u64 (y2 : Int)), (.int .i64 y3), (.int .i64 y4), (.int .i64 y5), (.bool y6), (.slice y7 j7 c7), (.slice y8 j8 c8), (.slice y9 j9 c9), (.slice y10 j10 c10), (.slice y11 j11 c11), (.slice y12 j12 c12), (.int .i64 y13), (.string y14), (.slice y15 j15 c15), (.slice y16 j16 c16), (.int .i64 0), (.int .i64 0), (.string ⟨#[]⟩), (.slice none 0 0), (.bool false), (.int .i64 0), (.bool false), (.string ⟨#[]⟩)]) hPx (i := 17) rfl; obtain ⟨qq18, rr18⟩ := row_at (cs := [(.int .i64 y0), (.int .i64 y1), (.int .u64 (y2 : Int)), (.int .i64 y3), (.int .i64 y4), (.int .i64 y5), (.bool y6), (.slice y7 j7 c7), (.slice y8 j8 c8), (.slice y9 j9 c9), (.slice y10 j10 c10), (.slice y11 j11 c11), (.slice y12 j12 c12), (.int .i64 y13), (.string y14), (.slice y15 j15 c15), (.slice y16 j16 c16), (.int .i64 0), (.int .i64 0), (.string ⟨#[]⟩), (.slice none 0 0), (.bool false), (.int .i64 0), (.bool false), (.string ⟨#[]⟩)]) hPx (i := 18) rfl; obtain ⟨qq19, rr19⟩ := row_at (cs := [(.int .i64 y0), (.int .i64 y1), (.int .u64 (y2 : Int)), (.int .i64 y3), (.int .i64 y4), (.int .i64 y5), (.bool y6), (.slice y7 j7 c7), (.slice y8 j8 c8), (.slice y9 j9 c9), (.slice y10 j10 c10), (.slice y11 j11 c11), (.slice y12 j12 c12), (.int .i64 y13), (.string y14), (.slice y15 j15 c15), (.slice y16 j16 c16), (.int .i64 0), (.int .i64 0), (.string ⟨#[]⟩), (.slice none 0 0), (.bool false), (.int .i64 0), (.bool false), (.string ⟨#[]⟩)]) hPx (i := 19) rfl; obtain ⟨qq20, rr20⟩ := row_at (cs := [(.int .i64 y0), (.int .i64 y1), (.int .u64 (y2 : Int)), (.int .i64 y3), (.int .i64 y4), (.int .i64 y5), (.bool y6), (.slice y7 j7 c7), (.slice y8 j8 c8), (.slice y9 j9 c9), (.slice y10 j10 c10), (.slice y11 j11 c11), (.slice y12 j12 c12), (.int .i64 y13), (.string y14), (.slice y15 j15 c15), (.slice y16 j16 c16), (.int .i64 0), (.int .i64 0), (.string ⟨#[]⟩), (.slice none 0 0), (.bool false), (.int .i64 0), (.bool false), (.string ⟨#[]⟩)]) hPx (i := 20) rfl; obtain ⟨qq21, rr21⟩ := row_at (cs := [(.int .i64 y0), (.int .i64 y1), (.int .u64 (y2 : Int)), (.int .i64 y3), (.int .i64 y4), (.int .i64 y5), (.bool y6), (.slice y7 j7 c7), (.slice y8 j8 c8), (.slice y9 j9 c9), (.slice y10 j10 c10), (.slice y11 j11 c11), (.slice y12 j12 c12), (.int .i64 y13), (.string y14), (.slice y15 j15 c15), (.slice y16 j16 c16), (.int .i64 0), (.int .i64 0), (.string ⟨#[]⟩), (.slice none 0 0), (.bool false), (.int .i64 0), (.bool false), (.string ⟨#[]⟩)]) hPx (i := 21) rfl; obtain ⟨qq22, rr22⟩ := row_at (cs := [(.int .i64 y0), (.int .i64 y1), (.int .u64 (y2 : Int)), (.int .i64 y3), (.int .i64 y4), (.int .i64 y5), (.bool y6), (.slice y7 j7 c7), (.slice y8 j8 c8), (.slice y9 j9 c9), (.slice y10 j10 c10), (.slice y11 j11 c11), (.slice y12 j12 c12), (.int .i64 y13), (.string y14), (.slice y15 j15 c15), (.slice y16 j16 c16), (.int .i64 0), (.int .i64 0), (.string ⟨#[]⟩), (.slice none 0 0), (.bool false), (.int .i64 0), (.bool false), (.string ⟨#[]⟩)]) hPx (i := 22) rfl; obtain ⟨qq23, rr23⟩ := row_at (cs := [(.int .i64 y0), (.int .i64 y1), (.int .u64 (y2 : Int)), (.int .i64 y3), (.int .i64 y4), (.int .i64 y5), (.bool y6), (.slice y7 j7 c7), (.slice y8 j8 c8), (.slice y9 j9 c9), (.slice y10 j10 c10), (.slice y11 j11 c11), (.slice y12 j12 c12), (.int .i64 y13), (.string y14), (.slice y15 j15 c15), (.slice y16 j16 c16), (.int .i64 0), (.int .i64 0), (.string ⟨#[]⟩), (.slice none 0 0), (.bool false), (.int .i64 0), (.bool false), (.string ⟨#[]⟩)]) hPx (i := 23) rfl; have HPx := hid hPx; clear hPx; have HE13 := hid E13; have HO13 := hid o13; have HRr := hid r13; have HKk := hid k13; clear E13 o13 r13 k13))
     have hs0 := HPx.out
     have hs1 := row_put (cs := [(.int .i64 y0), (.int .i64 y1), (.int .u64 (y2 : Int)), (.int .i64 y3), (.int .i64 y4), (.int .i64 y5), (.bool y6), (.slice y7 j7 c7), (.slice y8 j8 c8), (.slice y9 j9 c9), (.slice y10 j10 c10), (.slice y11 j11 c11), (.slice y12 j12 c12), (.int .i64 y13), (.string y14), (.slice y15 j15 c15), (.slice y16 j16 c16), (.int .i64 0), (.int .i64 0), (.string ⟨#[]⟩), (.slice none 0 0), (.bool false), (.int .i64 0), (.bool false), (.string ⟨#[]⟩)]) hs0 17 (.int .i64 y17)
     have hs2 := row_put (cs := [(.int .i64 y0), (.int .i64 y1), (.int .u64 (y2 : Int)), (.int .i64 y3), (.int .i64 y4), (.int .i64 y5), (.bool y6), (.slice y7 j7 c7), (.slice y8 j8 c8), (.slice y9 j9 c9), (.slice y10 j10 c10), (.slice y11 j11 c11), (.slice y12 j12 c12), (.int .i64 y13), (.string y14), (.slice y15 j15 c15), (.slice y16 j16 c16), (.int .i64 y17), (.int .i64 0), (.string ⟨#[]⟩), (.slice none 0 0), (.bool false), (.int .i64 0), (.bool false), (.string ⟨#[]⟩)]) hs1 18 (.int .i64 y18)
     have hs3 := row_put (cs := [(.int .i64 y0), (.int .i64 y1), (.int .u64 (y2 : Int)), (.int .i64 y3), (.int .i64 y4), (.int .i64 y5), (.bool y6), (.slice y7 j7 c7), (.slice y8 j8 c8), (.slice y9 j9 c9), (.slice y10 j10 c10), (.slice y11 j11 c11), (.slice y12 j12 c12), (.int .i64 y13), (.string y14), (.slice y15 j15 c15), (.slice y16 j16 c16), (.int .i64 y17), (.int .i64 y18), (.string ⟨#[]⟩), (.slice none 0 0), (.bool false), (.int .i64 0), (.bool false), (.string ⟨#[]⟩)]) hs2 19 (.string y19)
     have hs4 := row_put (cs := [(.int .i64 y0), (.int .i64 y1), (.int .u64 (y2 : Int)), (.int .i64 y3), (.int .i64 y4), (.int .i64 y5), (.bool y6), (.slice y7 j7 c7), (.slice y8 j8 c8), (.slice y9 j9 c9), (.slice y10 j10 c10), (.slice y11 j11 c11), (.slice y12 j12 c12), (.int .i64 y13), (.string y14), (.slice y15 j15 c15), (.slice y16 j16 c16), (.int .i64 y17), (.int .i64 y18), (.string y19), (.slice none 0 0), (.bool false), (.int .i64 0), (.bool false), (.string ⟨#[]⟩)]) hs3 20 (.slice y20 j20 c20)
     have hs5 := row_put (cs := [(.int .i64 y0), (.int .i64 y1), (.int .u64 (y2 : Int)), (.int .i64 y3), (.int .i64 y4), (.int .i64 y5), (.bool y6), (.slice y7 j7 c7), (.slice y8 j8 c8), (.slice y9 j9 c9), (.slice y10 j10 c10), (.slice y11 j11 c11), (.slice y12 j12 c12), (.int .i64 y13), (.string y14), (.slice y15 j15 c15), (.slice y16 j16 c16), (.int .i64 y17), (.int .i64 y18), (.string y19), (.slice y20 j20 c20), (.bool false), (.int .i64 0), (.bool false), (.string ⟨#[]⟩)]) hs4 21 (.bool y21)
     have hs6 := row_put (cs := [(.int .i64 y0), (.int .i64 y1), (.int .u64 (y2 : Int)), (.int .i64 y3), (.int .i64 y4), (.int .i64 y5), (.bool y6), (.slice y7 j7 c7), (.slice y8 j8 c8), (.slice y9 j9 c9), (.slice y10 j10 c10), (.slice y11 j11 c11), (.slice y12 j12 c12), (.int .i64 y13), (.string y14), (.slice y15 j15 c15), (.slice y16 j16 c16), (.int .i64 y17), (.int .i64 y18), (.string y19), (.slice y20 j20 c20), (.bool y21), (.int .i64 0), (.bool false), (.string ⟨#[]⟩)]) hs5 22 (.int .i64 y22)
     have hs7 := row_put (cs := [(.int .i64 y0), (.int .i64 y1), (.int .u64 (y2 : Int)), (.int .i64 y3), (.int .i64 y4), (.int .i64 y5), (.bool y6), (.slice y7 j7 c7), (.slice y8 j8 c8), (.slice y9 j9 c9), (.slice y10 j10 c10), (.slice y11 j11 c11), (.slice y12 j12 c12), (.int .i64 y13), (.string y14), (.slice y15 j15 c15), (.slice y16 j16 c16), (.int .i64 y17), (.int .i64 y18), (.string y19), (.slice y20 j20 c20), (.bool y21), (.int .i64 y22), (.bool false), (.string ⟨#[]⟩)]) hs6 23 (.bool y23)
     have HP14 : Hid ((((((((w14.setCell ⟨P, 17, none⟩ (.int .i64 y17)).setCell ⟨P, 18, none⟩ (.int .i64 y18)).setCell ⟨P, 19, none⟩ (.string y19)).setCell ⟨P, 20, none⟩ (.slice y20 j20 c20)).setCell ⟨P, 21, none⟩ (.bool y21)).setCell ⟨P, 22, none⟩ (.int .i64 y22)).setCell ⟨P, 23, none⟩ (.bool y23)).heap[P]? = some (.cells #[(.int .i64 y0), (.int .i64 y1), (.int .u64 (y2 : Int)), (.int .i64 y3), (.int .i64 y4), (.int .i64 y5), (.bool y6), (.slice y7 j7 c7), (.slice y8 j8 c8), (.slice y9 j9 c9), (.slice y10 j10 c10), (.slice y11 j11 c11), (.slice y12 j12 c12), (.int .i64 y13), (.string y14), (.slice y15 j15 c15), (.slice y16 j16 c16), (.int .i64 y17), (.int .i64 y18), (.string y19), (.slice y20 j20 c20), (.bool y21), (.int .i64 y22), (.bool y23), (.string ⟨#[]⟩)] 43 (0, 0))) := hs7
     have hks : Keep (fun k => k = P) w14 (((((((w14.setCell ⟨P, 17, none⟩ (.int .i64 y17)).setCell ⟨P, 18, none⟩ (.int .i64 y18)).setCell ⟨P, 19, none⟩ (.string y19)).setCell ⟨P, 20, none⟩ (.slice y20 j20 c20)).setCell ⟨P, 21, none⟩ (.bool y21)).setCell ⟨P, 22, none⟩ (.int .i64 y22)).setCell ⟨P, 23, none⟩ (.bool y23)) := (((((((Keep.refl (fun k => k = P) _).trans (Keep.set (X := fun k => k = P) _ ⟨P, 17, none⟩ (.int .i64 y17) rfl)).trans (Keep.set (X := fun k => k = P) _ ⟨P, 18, none⟩ (.int .i64 y18) rfl)).trans (Keep.set (X := fun k => k = P) _ ⟨P, 19, none⟩ (.string y19) rfl)).trans (Keep.set (X := fun k => k = P) _ ⟨P, 20, none⟩ (.slice y20 j20 c20) rfl)).trans (Keep.set (X := fun k => k = P) _ ⟨P, 21, none⟩ (.bool y21) rfl)).trans (Keep.set (X := fun k => k = P) _ ⟨P, 22, none⟩ (.int .i64 y22) rfl)).trans (Keep.set (X := fun k => k = P) _ ⟨P, 23, none⟩ (.bool y23) rfl)
     have HR14 := hid (HRr.out.keep hks (fun k e => by have e9 : k = P := e; omega))
     have HK14 := hid ((HK13.out.trans HKk.out).trans2 hks (fun k e => .inr (by have e9 : k = P := e; have := HBE.out; omega)))
     have hkk : Keep (fun k => k = Q ∨ k = P) u13 (((((((w14.setCell ⟨P, 17, none⟩ (.int .i64 y17)).setCell ⟨P, 18, none⟩ (.int .i64 y18)).setCell ⟨P, 19, none⟩ (.string y19)).setCell ⟨P, 20, none⟩ (.slice y20 j20 c20)).setCell ⟨P, 21, none⟩ (.bool y21)).setCell ⟨P, 22, none⟩ (.int .i64 y22)).setCell ⟨P, 23, none⟩ (.bool y23)) := (HKk.out.mono (fun k _ e => .inl e)).trans (hks.mono (fun k _ e => .inr e))
     have hzz := (hkk.block B (lt_of_block HZ13.out) (fun e => by have e9 : B = Q ∨ B = P := e; omega)).trans HZ13.out
     have HZ14 := hid hzz
     clear hzz
     have HE0 := hid (EncN.hop (Nat.le_refl _) hkk HE0.out)
     have HE1 := hid (EncN.hop (Nat.le_refl _) hkk HE1.out)
     have HE2 := hid (EncN.hop (Nat.le_refl _) hkk HE2.out)
     have HE3 := hid (EncN.hop (Nat.le_refl _) hkk HE3.out)
     have HE4 := hid (EncN.hop (Nat.le_refl _) hkk HE4.out)
     have HE5 := hid (EncN.hop (Nat.le_refl _) hkk HE5.out)
     have HE6 := hid (EncN.hop (Nat.le_refl _) hkk HE6.out)
     have HE7 := hid (EncN.hop (Nat.le_refl _) hkk HE7.out)
     have HE8 := hid (EncN.hop (Nat.le_refl _) hkk HE8.out)
     have HE9 := hid (EncN.hop (Nat.le_refl _) hkk HE9.out)
     have HE10 := hid (EncN.hop (Nat.le_refl _) hkk HE10.out)
     have HE11 := hid (EncN.hop (Nat.le_refl _) hkk HE11.out)
     have HE12 := hid (EncN.hop (Nat.le_refl _) hkk HE12.out)
     have HE13 := hid (EncN.mono (N' := fun k => Q < k ∧ k ≠ P ∧ k < (((((((w14.setCell ⟨P, 17, none⟩ (.int .i64 y17)).setCell ⟨P, 18, none⟩ (.int .i64 y18)).setCell ⟨P, 19, none⟩ (.string y19)).setCell ⟨P, 20, none⟩ (.slice y20 j20 c20)).setCell ⟨P, 21, none⟩ (.bool y21)).setCell ⟨P, 22, none⟩ (.int .i64 y22)).setCell ⟨P, 23, none⟩ (.bool y23)).heap.size) (fun k hk => ⟨by have := hk.1; have := HR13.out.lt; omega, by have := lt_of_block HP13.out; omega, Nat.lt_of_lt_of_le hk.2 hks.size⟩) _ (EncN.keep hks (fun k hk e => by have e9 : k = P := e; have := lt_of_block HP13.out; have := hk.1; omega) _ HE13.out))
     clear hs0 hs1 hs2 hs3 hs4 hs5 hs6 hs7 hks hkk HRr HKk HPx HP13 HR13 HK13 HZ13 CQ
     generalize ((((((w14.setCell ⟨P, 17, none⟩ (.int .i64 y17)).setCell ⟨P, 18, none⟩ (.int .i64 y18)).setCell ⟨P, 19, none⟩ (.string y19)).setCell ⟨P, 20, none⟩ (.slice y20 j20 c20)).setCell ⟨P, 21, none⟩ (.bool y21)).setCell ⟨P, 22, none⟩ (.int .i64 y22)).setCell ⟨P, 23, none⟩ (.bool y23) = u14 at *
     have CQ := hid (itext9_any HR14.out)
     go_upto_region 17 with (first | (go_at_call 41; refine CQ.out.mono ?_; rintro en w15 ⟨v, rfl, bb14, E14, o14, r14, k14⟩; obtain ⟨y24, rfl⟩ := form_name (EncN.enc _ E14); have hPx := (k14.block P (lt_of_block HP14.out) (fun e => by have e9 : P = Q := e; omega)).trans HP14.out; obtain ⟨qq24, rr24⟩ := row_at (cs := [(.int .i64 y0), (.int .i64 y1), (.int .u64 (y2 : Int)), (.int .i64 y3), (.int .i64 y4), (.int .i64 y5), (.bool y6), (.slice y7 j7 c7), (.slice y8 j8 c8), (.slice y9 j9 c9), (.slice y10 j10 c10), (.slice y11 j11 c11), (.slice y12 j12 c12), (.int .i64 y13), (.string y14), (.slice y15 j15 c15), (.slice y16 j16 c16), (.int .i64 y17), (.int .i64 y18), (.string y19), (.slice y20 j20 c20), (.bool y21), (.int .i64 y22), (.bool y23), (.string ⟨#[]⟩)]) hPx (i := 24) rfl; have HPx := hid hPx; clear hPx; have HE14 := hid E14; have HO14 := hid o14; have HRr := hid r14; have HKk := hid k14; clear E14 o14 r14 k14))
     have hs0 := HPx.out
     have hs1 := row_put (cs := [(.int .i64 y0), (.int .i64 y1), (.int .u64 (y2 : Int)), (.int .i64 y3), (.int .i64 y4), (.int .i64 y5), (.bool y6), (.slice y7 j7 c7), (.slice y8 j8 c8), (.slice y9 j9 c9), (.slice y10 j10 c10), (.slice y11 j11 c11), (.slice y12 j12 c12), (.int .i64 y13), (.string y14), (.slice y15 j15 c15), (.slice y16 j16 c16), (.int .i64 y17), (.int .i64 y18), (.string y19), (.slice y20 j20 c20), (.bool y21), (.int .i64 y22), (.bool y23), (.string ⟨#[]⟩)]) hs0 24 (.string y24)
     have HP15 : Hid ((w15.setCell ⟨P, 24, none⟩ (.string y24)).heap[P]? = some (.cells #[(.int .i64 y0), (.int .i64 y1), (.int .u64 (y2 : Int)), (.int .i64 y3), (.int .i64 y4), (.int .i64 y5), (.bool y6), (.slice y7 j7 c7), (.slice y8 j8 c8), (.slice y9 j9 c9), (.slice y10 j10 c10), (.slice y11 j11 c11), (.slice y12 j12 c12), (.int .i64 y13), (.string y14), (.slice y15 j15 c15), (.slice y16 j16 c16), (.int .i64 y17), (.int .i64 y18), (.string y19), (.slice y20 j20 c20), (.bool y21), (.int .i64 y22), (.bool y23), (.string y24)] 43 (0, 0))) := hs1
     have hks : Keep (fun k => k = P) w15 (w15.setCell ⟨P, 24, none⟩ (.string y24)) := (Keep.refl (fun k => k = P) _).trans (Keep.set (X := fun k => k = P) _ ⟨P, 24, none⟩ (.string y24) rfl)
     have HR15 := hid (HRr.out.keep hks (fun k e => by have e9 : k = P := e; omega))
     have HK15 := hid ((HK14.out.trans HKk.out).trans2 hks (fun k e => .inr (by have e9 : k = P := e; have := HBE.out; omega)))
     have hkk : Keep (fun k => k = Q ∨ k = P) u14 (w15.setCell ⟨P, 24, none⟩ (.string y24)) := (HKk.out.mono (fun k _ e => .inl e)).trans (hks.mono (fun k _ e => .inr e))
     have hzz := (hkk.block B (lt_of_block HZ14.out) (fun e => by have e9 : B = Q ∨ B = P := e; omega)).trans HZ14.out
     have HZ15 := hid hzz
     clear hzz
     have HE0 := hid (EncN.hop (Nat.le_refl _) hkk HE0.out)
     have HE1 := hid (EncN.hop (Nat.le_refl _) hkk HE1.out)
     have HE2 := hid (EncN.hop (Nat.le_refl _) hkk HE2.out)
     have HE3 := hid (EncN.hop (Nat.le_refl _) hkk HE3.out)
     have HE4 := hid (EncN.hop (Nat.le_refl _) hkk HE4.out)
     have HE5 := hid (EncN.hop (Nat.le_refl _) hkk HE5.out)
     have HE6 := hid (EncN.hop (Nat.le_refl _) hkk HE6.out)
     have HE7 := hid (EncN.hop (Nat.le_refl _) hkk HE7.out)
     have HE8 := hid (EncN.hop (Nat.le_refl _) hkk HE8.out)
     have HE9 := hid (EncN.hop (Nat.le_refl _) hkk HE9.out)
     have HE10 := hid (EncN.hop (Nat.le_refl _) hkk HE10.out)
     have HE11 := hid (EncN.hop (Nat.le_refl _) hkk HE11.out)
     have HE12 := hid (EncN.hop (Nat.le_refl _) hkk HE12.out)
     have HE13 := hid (EncN.hop (Nat.le_refl _) hkk HE13.out)
     have HE14 := hid (EncN.mono (N' := fun k => Q < k ∧ k ≠ P ∧ k < (w15.setCell ⟨P, 24, none⟩ (.string y24)).heap.size) (fun k hk => ⟨by have := hk.1; have := HR14.out.lt; omega, by have := lt_of_block HP14.out; omega, Nat.lt_of_lt_of_le hk.2 hks.size⟩) _ (EncN.keep hks (fun k hk e => by have e9 : k = P := e; have := lt_of_block HP14.out; have := hk.1; omega) _ HE14.out))
     clear hs0 hs1 hks hkk HRr HKk HPx HP14 HR14 HK14 HZ14 CQ
     generalize w15.setCell ⟨P, 24, none⟩ (.string y24) = u15 at *
     as_aux_lemma =>
      have CE := hid (iend9_any HR15.out)
      have LD := cells_load (cs := [(.int .i64 y0), (.int .i64 y1), (.int .u64 (y2 : Int)), (.int .i64 y3), (.int .i64 y4), (.int .i64 y5), (.bool y6), (.slice y7 j7 c7), (.slice y8 j8 c8), (.slice y9 j9 c9), (.slice y10 j10 c10), (.slice y11 j11 c11), (.slice y12 j12 c12), (.int .i64 y13), (.string y14), (.slice y15 j15 c15), (.slice y16 j16 c16), (.int .i64 y17), (.int .i64 y18), (.string y19), (.slice y20 j20 c20), (.bool y21), (.int .i64 y22), (.bool y23), (.string y24)]) (fun i u hi => (row_at HP15.out hi).1) Tryz.underlying43 rfl (by kernel_rfl)
      have HLD := hid LD
      clear LD
      obtain ⟨E, hE⟩ : ∃ E, E = endS (rdF sCommand (l, 0)).2.1 (rdF sCommand (l, 0)).2.2 := ⟨_, rfl⟩
      have hfin : ∀ (s : Sh) (cs : List Value) (bs : List UInt8), EncN (fun k => Q < k ∧ k ≠ P ∧ k < u15.heap.size) u15 s cs bs → EncN (fun k => B < k ∧ k < u15.heap.size) u15 s cs bs := fun s cs bs h9 => EncN.mono (fun k hk => ⟨by have := hk.1; omega, hk.2.2⟩) s h9
      have hF : FinI (fun k => B < k ∧ k < u15.heap.size) u15 sCommand (l, 0) [(.int .i64 y0), (.int .i64 y1), (.int .u64 (y2 : Int)), (.int .i64 y3), (.int .i64 y4), (.int .i64 y5), (.bool y6), (.slice y7 j7 c7), (.slice y8 j8 c8), (.slice y9 j9 c9), (.slice y10 j10 c10), (.slice y11 j11 c11), (.slice y12 j12 c12), (.int .i64 y13), (.string y14), (.slice y15 j15 c15), (.slice y16 j16 c16), (.int .i64 y17), (.int .i64 y18), (.string y19), (.slice y20 j20 c20), (.bool y21), (.int .i64 y22), (.bool y23), (.string y24)] _ := FinI.cons (hfin _ _ _ HE0.out) HO0.out (FinI.cons (hfin _ _ _ HE1.out) HO1.out (FinI.cons (hfin _ _ _ HE2.out) HO2.out (FinI.cons (hfin _ _ _ HE3.out) HO3.out (FinI.cons (hfin _ _ _ HE4.out) HO4.out (FinI.cons (hfin _ _ _ HE5.out) HO5.out (FinI.cons (hfin _ _ _ HE6.out) HO6.out (FinI.cons (hfin _ _ _ HE7.out) HO7.out (FinI.cons (hfin _ _ _ HE8.out) HO8.out (FinI.cons (hfin _ _ _ HE9.out) HO9.out (FinI.cons (hfin _ _ _ HE10.out) HO10.out (FinI.cons (hfin _ _ _ HE11.out) HO11.out (FinI.cons (hfin _ _ _ HE12.out) HO12.out (FinI.cons (hfin _ _ _ HE13.out) HO13.out (FinI.cons (hfin _ _ _ HE14.out) HO14.out FinI.nil))))))))))))))
      obtain ⟨bf, g1, g2, g3⟩ := hF
      rw [← g3, ← hE] at CE
      have HF := hid (And.intro g1 g2)
      clear g1 g2 g3
      have hEb : E = 0 → (rdF sCommand (l, 0)).2.2 = 0 := fun e => by rw [hE] at e; exact Classical.byContradiction fun h9 => h9 (by unfold endS at e; rw [if_pos h9] at e; exact e)
      have HEb := hid hEb
      have HEE := hid hE
      clear hEb hE hfin HE0 HO0 HE1 HO1 HE2 HO2 HE3 HO3 HE4 HO4 HE5 HO5 HE6 HO6 HE7 HO7 HE8 HO8 HE9 HO9 HE10 HO10 HE11 HO11 HE12 HO12 HE13 HO13 HE14 HO14
      go_upto_region 18 with (first | (go_at_call 30; refine CE.out.mono ?_; rintro en we hde; have HD := hid hde.2; obtain ⟨rfl, -⟩ := hde))
      have hbe : Below u15.heap.size u15 we := by obtain ⟨nd, rfl⟩ := HD.out; exact ⟨rfl, rfl, rfl, Nat.le_refl _, fun _ _ => rfl⟩
      have hze : we.heap[B]? = some (.cells (#[(.int .i64 0), (.int .i64 0), (.int .u64 0), (.int .i64 0), (.int .i64 0), (.int .i64 0), (.bool false), (.slice none 0 0), (.slice none 0 0), (.slice none 0 0), (.slice none 0 0), (.slice none 0 0), (.slice none 0 0), (.int .i64 0), (.string ⟨#[]⟩), (.slice none 0 0), (.slice none 0 0), (.int .i64 0), (.int .i64 0), (.string ⟨#[]⟩), (.slice none 0 0), (.bool false), (.int .i64 0), (.bool false), (.string ⟨#[]⟩)] : Array Value) 43 (0, 0)) := (hbe.block _ (lt_of_block HZ15.out)).trans HZ15.out
      have hle : (Instr.loadAt 43 (.pointer (some ⟨P, 0, none⟩))).run Tryz.prog we = .ok (.agg #[(.int .i64 y0), (.int .i64 y1), (.int .u64 (y2 : Int)), (.int .i64 y3), (.int .i64 y4), (.int .i64 y5), (.bool y6), (.slice y7 j7 c7), (.slice y8 j8 c8), (.slice y9 j9 c9), (.slice y10 j10 c10), (.slice y11 j11 c11), (.slice y12 j12 c12), (.int .i64 y13), (.string y14), (.slice y15 j15 c15), (.slice y16 j16 c16), (.int .i64 y17), (.int .i64 y18), (.string y19), (.slice y20 j20 c20), (.bool y21), (.int .i64 y22), (.bool y23), (.string y24)]) we := cells_load (cs := [(.int .i64 y0), (.int .i64 y1), (.int .u64 (y2 : Int)), (.int .i64 y3), (.int .i64 y4), (.int .i64 y5), (.bool y6), (.slice y7 j7 c7), (.slice y8 j8 c8), (.slice y9 j9 c9), (.slice y10 j10 c10), (.slice y11 j11 c11), (.slice y12 j12 c12), (.int .i64 y13), (.string y14), (.slice y15 j15 c15), (.slice y16 j16 c16), (.int .i64 y17), (.int .i64 y18), (.string y19), (.slice y20 j20 c20), (.bool y21), (.int .i64 y22), (.bool y23), (.string y24)]) (fun i u hi => (row_at ((hbe.block _ (lt_of_block HP15.out)).trans HP15.out) hi).1) Tryz.underlying43 rfl (by kernel_rfl)
      have hke : Keep (fun k => k = Q) w we := HK15.out.trans (Keep.of_below hbe)
      have HKE : Hid (Below w.heap.size w we) := hid (hke.below (Nat.le_refl _) (fun k e => by have e9 : k = Q := e; have := HBE.out; omega))
      have HBe := hid hbe
      have HLe := hid hle
      have HZe := hid hze
      clear hbe hze hle hke CE HD HLD
      by_cases he : E = 0
      · subst he
        have HE : Hid ((0 : Int) = 0) := hid rfl
        go_upto_region 20 with fail
        have HSF := hid (setRow_heap we B _ (#[(.int .i64 y0), (.int .i64 y1), (.int .u64 (y2 : Int)), (.int .i64 y3), (.int .i64 y4), (.int .i64 y5), (.bool y6), (.slice y7 j7 c7), (.slice y8 j8 c8), (.slice y9 j9 c9), (.slice y10 j10 c10), (.slice y11 j11 c11), (.slice y12 j12 c12), (.int .i64 y13), (.string y14), (.slice y15 j15 c15), (.slice y16 j16 c16), (.int .i64 y17), (.int .i64 y18), (.string y19), (.slice y20 j20 c20), (.bool y21), (.int .i64 y22), (.bool y23), (.string y24)] : Array Value) _ _ HZe.out)
        have HKS := hid (setRow_keep we B (#[(.int .i64 y0), (.int .i64 y1), (.int .u64 (y2 : Int)), (.int .i64 y3), (.int .i64 y4), (.int .i64 y5), (.bool y6), (.slice y7 j7 c7), (.slice y8 j8 c8), (.slice y9 j9 c9), (.slice y10 j10 c10), (.slice y11 j11 c11), (.slice y12 j12 c12), (.int .i64 y13), (.string y14), (.slice y15 j15 c15), (.slice y16 j16 c16), (.int .i64 y17), (.int .i64 y18), (.string y19), (.slice y20 j20 c20), (.bool y21), (.int .i64 y22), (.bool y23), (.string y24)] : Array Value))
        apply wp_region_lit
        refine Great.wpList_readTo rfl (some 60) rfl (.agg #[(.int .i64 y0), (.int .i64 y1), (.int .u64 (y2 : Int)), (.int .i64 y3), (.int .i64 y4), (.int .i64 y5), (.bool y6), (.slice y7 j7 c7), (.slice y8 j8 c8), (.slice y9 j9 c9), (.slice y10 j10 c10), (.slice y11 j11 c11), (.slice y12 j12 c12), (.int .i64 y13), (.string y14), (.slice y15 j15 c15), (.slice y16 j16 c16), (.int .i64 y17), (.int .i64 y18), (.string y19), (.slice y20 j20 c20), (.bool y21), (.int .i64 y22), (.bool y23), (.string y24)]) (exec_load rfl HLe.out) ?_
        simp only [Act.put, jA, jB, jC, jD, jE, jF]
        refine Go.wpList_store_rowTo rfl 43 _ _ rfl rfl B #[(.int .i64 y0), (.int .i64 y1), (.int .u64 (y2 : Int)), (.int .i64 y3), (.int .i64 y4), (.int .i64 y5), (.bool y6), (.slice y7 j7 c7), (.slice y8 j8 c8), (.slice y9 j9 c9), (.slice y10 j10 c10), (.slice y11 j11 c11), (.slice y12 j12 c12), (.int .i64 y13), (.string y14), (.slice y15 j15 c15), (.slice y16 j16 c16), (.int .i64 y17), (.int .i64 y18), (.string y19), (.slice y20 j20 c20), (.bool y21), (.int .i64 y22), (.bool y23), (.string y24)] rfl rfl 43 #[(.int .i64 0), (.int .i64 0), (.int .u64 0), (.int .i64 0), (.int .i64 0), (.int .i64 0), (.bool false), (.slice none 0 0), (.slice none 0 0), (.slice none 0 0), (.slice none 0 0), (.slice none 0 0), (.slice none 0 0), (.int .i64 0), (.string ⟨#[]⟩), (.slice none 0 0), (.slice none 0 0), (.int .i64 0), (.int .i64 0), (.string ⟨#[]⟩), (.slice none 0 0), (.bool false), (.int .i64 0), (.bool false), (.string ⟨#[]⟩)] HZe.out (by as_aux_lemma => kernel_rfl) rfl (by simp [Value.oneCell']) ?_
        generalize we.setRow B #[(.int .i64 y0), (.int .i64 y1), (.int .u64 (y2 : Int)), (.int .i64 y3), (.int .i64 y4), (.int .i64 y5), (.bool y6), (.slice y7 j7 c7), (.slice y8 j8 c8), (.slice y9 j9 c9), (.slice y10 j10 c10), (.slice y11 j11 c11), (.slice y12 j12 c12), (.int .i64 y13), (.string y14), (.slice y15 j15 c15), (.slice y16 j16 c16), (.int .i64 y17), (.int .i64 y18), (.string y19), (.slice y20 j20 c20), (.bool y21), (.int .i64 y22), (.bool y23), (.string y24)] = uZ at *
        go_wp2_with fail
        refine bodyPost_ret (results_cell2 rfl _ _ B 43 _ (0, 0) _ rfl HSF.out Tryz.underlying43 rfl (by kernel_rfl)) rfl ?_
        have hkb : Below w.heap.size w uZ := ((Keep.of_below (X := fun k => k = B) HKE.out).trans HKS.out).below (Nat.le_refl _) (fun k e => by have e9 : k = B := e; have := HBE.out; omega)
        refine ⟨[(.int .i64 y0), (.int .i64 y1), (.int .u64 (y2 : Int)), (.int .i64 y3), (.int .i64 y4), (.int .i64 y5), (.bool y6), (.slice y7 j7 c7), (.slice y8 j8 c8), (.slice y9 j9 c9), (.slice y10 j10 c10), (.slice y11 j11 c11), (.slice y12 j12 c12), (.int .i64 y13), (.string y14), (.slice y15 j15 c15), (.slice y16 j16 c16), (.int .i64 y17), (.int .i64 y18), (.string y19), (.slice y20 j20 c20), (.bool y21), (.int .i64 y22), (.bool y23), (.string y24)], by rw [← HEE.out]; rfl, fun e => ?_, fun e => absurd HEE.out.symm e, hkb⟩
        have hfz := HF.out.2 (HEb.out (by simp))
        rw [← hfz]
        have hku : Keep (fun k => k = B) u15 uZ := (Keep.of_below HBe.out).trans HKS.out
        exact EncN.mono (fun k hk => ⟨by have := HBE.out; have := hk.1; omega, Nat.lt_of_lt_of_le hk.2 hku.size⟩) _ (EncN.keep hku (fun k hk e => by have e9 : k = B := e; have := hk.1; omega) _ HF.out.1)
      · have HE := hid he
        have hne : (E != 0) = true := by simp [he]
        clear HLe
        go_upto_region 19 with fail
        have HSF := hid (setRow_heap we B _ (#[(.int .i64 0), (.int .i64 0), (.int .u64 0), (.int .i64 0), (.int .i64 0), (.int .i64 0), (.bool false), (.slice none 0 0), (.slice none 0 0), (.slice none 0 0), (.slice none 0 0), (.slice none 0 0), (.slice none 0 0), (.int .i64 0), (.string ⟨#[]⟩), (.slice none 0 0), (.slice none 0 0), (.int .i64 0), (.int .i64 0), (.string ⟨#[]⟩), (.slice none 0 0), (.bool false), (.int .i64 0), (.bool false), (.string ⟨#[]⟩)] : Array Value) _ _ HZe.out)
        have HKS := hid (setRow_keep we B (#[(.int .i64 0), (.int .i64 0), (.int .u64 0), (.int .i64 0), (.int .i64 0), (.int .i64 0), (.bool false), (.slice none 0 0), (.slice none 0 0), (.slice none 0 0), (.slice none 0 0), (.slice none 0 0), (.slice none 0 0), (.int .i64 0), (.string ⟨#[]⟩), (.slice none 0 0), (.slice none 0 0), (.int .i64 0), (.int .i64 0), (.string ⟨#[]⟩), (.slice none 0 0), (.bool false), (.int .i64 0), (.bool false), (.string ⟨#[]⟩)] : Array Value))
        apply wp_region_lit
        refine Great.wpList_readTo rfl (some 58) rfl (.agg #[(.int .i64 0), (.int .i64 0), (.int .u64 0), (.int .i64 0), (.int .i64 0), (.int .i64 0), (.bool false), (.slice none 0 0), (.slice none 0 0), (.slice none 0 0), (.slice none 0 0), (.slice none 0 0), (.slice none 0 0), (.int .i64 0), (.string ⟨#[]⟩), (.slice none 0 0), (.slice none 0 0), (.int .i64 0), (.int .i64 0), (.string ⟨#[]⟩), (.slice none 0 0), (.bool false), (.int .i64 0), (.bool false), (.string ⟨#[]⟩)]) (by as_aux_lemma => kernel_rfl) ?_
        simp only [Act.put, jA, jB, jC, jD, jE, jF]
        refine Great.wpList_readTo rfl (some 59) rfl (.int .i64 E) (by as_aux_lemma => kernel_rfl) ?_
        simp only [Act.put, jA, jB, jC, jD, jE, jF]
        refine Go.wpList_store_rowTo rfl 43 _ _ rfl rfl B #[(.int .i64 0), (.int .i64 0), (.int .u64 0), (.int .i64 0), (.int .i64 0), (.int .i64 0), (.bool false), (.slice none 0 0), (.slice none 0 0), (.slice none 0 0), (.slice none 0 0), (.slice none 0 0), (.slice none 0 0), (.int .i64 0), (.string ⟨#[]⟩), (.slice none 0 0), (.slice none 0 0), (.int .i64 0), (.int .i64 0), (.string ⟨#[]⟩), (.slice none 0 0), (.bool false), (.int .i64 0), (.bool false), (.string ⟨#[]⟩)] rfl rfl 43 #[(.int .i64 0), (.int .i64 0), (.int .u64 0), (.int .i64 0), (.int .i64 0), (.int .i64 0), (.bool false), (.slice none 0 0), (.slice none 0 0), (.slice none 0 0), (.slice none 0 0), (.slice none 0 0), (.slice none 0 0), (.int .i64 0), (.string ⟨#[]⟩), (.slice none 0 0), (.slice none 0 0), (.int .i64 0), (.int .i64 0), (.string ⟨#[]⟩), (.slice none 0 0), (.bool false), (.int .i64 0), (.bool false), (.string ⟨#[]⟩)] HZe.out (by as_aux_lemma => kernel_rfl) rfl (by simp [Value.oneCell']) ?_
        generalize we.setRow B #[(.int .i64 0), (.int .i64 0), (.int .u64 0), (.int .i64 0), (.int .i64 0), (.int .i64 0), (.bool false), (.slice none 0 0), (.slice none 0 0), (.slice none 0 0), (.slice none 0 0), (.slice none 0 0), (.slice none 0 0), (.int .i64 0), (.string ⟨#[]⟩), (.slice none 0 0), (.slice none 0 0), (.int .i64 0), (.int .i64 0), (.string ⟨#[]⟩), (.slice none 0 0), (.bool false), (.int .i64 0), (.bool false), (.string ⟨#[]⟩)] = uZ at *
        go_wp2_with fail
        refine bodyPost_ret (results_cell2 rfl _ _ B 43 _ (0, 0) _ rfl HSF.out Tryz.underlying43 rfl (by kernel_rfl)) rfl ?_
        have hkb : Below w.heap.size w uZ := ((Keep.of_below (X := fun k => k = B) HKE.out).trans HKS.out).below (Nat.le_refl _) (fun k e => by have e9 : k = B := e; have := HBE.out; omega)
        refine ⟨[(.int .i64 0), (.int .i64 0), (.int .u64 0), (.int .i64 0), (.int .i64 0), (.int .i64 0), (.bool false), (.slice none 0 0), (.slice none 0 0), (.slice none 0 0), (.slice none 0 0), (.slice none 0 0), (.slice none 0 0), (.int .i64 0), (.string ⟨#[]⟩), (.slice none 0 0), (.slice none 0 0), (.int .i64 0), (.int .i64 0), (.string ⟨#[]⟩), (.slice none 0 0), (.bool false), (.int .i64 0), (.bool false), (.string ⟨#[]⟩)], by rw [← HEE.out]; rfl, fun e => absurd (HEE.out.trans e) HE.out, fun _ => rfl, hkb⟩
end Go.Proofs.YtmdgifmigikffaaGreat
