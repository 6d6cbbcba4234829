import Derived.WalkKit
import Derived.OpenShut
import Derived.Test.YtmdgifmigikffaaGreatRows
import Derived.WalkSpells
import Derived.WalkLawsBesides
import Derived.Laws.AppendOwnNone
import Derived.ProofKit
import Derived.ShutString
import Derived.ChangeOld
import Derived.Below
import Derived.SizedLaws
import Derived.BigQuiet
import Derived.Deep.QuietTactic
import Derived.Deep.RegionHeld3
import Derived.StillTailTactics
import Derived.Deep.Slices
import Derived.Deep.AppendLies
import Derived.Deep.RegionHeld
import Derived.Deep.Strs
import Derived.Lib.ConvBytes
import Derived.Laws.AppendOwn
import Derived.Deep.CutRange
import Derived.Deep.MidRow
import Derived.Great.Walk
import Derived.Great.BuildSlice
import Derived.Test.YtmdgifmigikffaaGreatWX1
import Derived.Test.YtmdgifmigikffaaGreatWX2
import Derived.Test.YtmdgifmigikffaaGreatWX3
import Derived.Test.YtmdgifmigikffaaGreatWX4
import Derived.Test.YtmdgifmigikffaaGreatWX5
import Derived.Test.YtmdgifmigikffaaGreatWX6
import Derived.Test.YtmdgifmigikffaaGreatWX7
import Derived.Test.YtmdgifmigikffaaGreatWX8
import Derived.Test.YtmdgifmigikffaaGreatWX9
import Derived.Test.YtmdgifmigikffaaGreatWX10
import Derived.Test.YtmdgifmigikffaaGreatWX11
import Derived.Test.YtmdgifmigikffaaGreatWX12
import Derived.Test.YtmdgifmigikffaaGreatWX15
set_option linter.unusedVariables false
set_option linter.unusedSimpArgs false
set_option maxRecDepth 100000
namespace Go.Proofs.YtmdgifmigikffaaGreat
open Go.RowKit Go.Deep
set_option maxHeartbeats 8000000 in
theorem itkAsk_any {w : World} {x : Value} {l : List UInt8} (hx : Rd w x l) (hl : l.length ≤ 1000000) :
 Calls Tryz.prog 15 #[x] w (TkR sAsk zAsk w l) := by
 have hb : Below w.heap.size w (w.alloc (.cells #[(.int .i64 0), (.slice none 0 0), (.int .i64 0), (.string ⟨#[]⟩), (.slice none 0 0), (.slice none 0 0), (.int .i64 0), (.int .i64 0), (.string ⟨#[]⟩), (.slice none 0 0), (.bool false), (.int .i64 0), (.bool false), (.string ⟨#[]⟩), (.int .i64 0), (.slice none 0 0)] 62)) := (Below.refl _ _).alloc (Nat.le_refl _) _
 have hz := heap_alloc_new w (.cells #[(.int .i64 0), (.slice none 0 0), (.int .i64 0), (.string ⟨#[]⟩), (.slice none 0 0), (.slice none 0 0), (.int .i64 0), (.int .i64 0), (.string ⟨#[]⟩), (.slice none 0 0), (.bool false), (.int .i64 0), (.bool false), (.string ⟨#[]⟩), (.int .i64 0), (.slice none 0 0)] 62)
 have hx0 := hx.old hb
 obtain ⟨B, hB⟩ : ∃ B, B = w.heap.size := ⟨_, rfl⟩
 rw [← hB] at hz
 have HL := hid hl
 clear hx hl
 go_enter Tryz.func15, Tryz.ntmps15
 go_upto_region 1 with fail
 generalize w.alloc (.cells #[(.int .i64 0), (.slice none 0 0), (.int .i64 0), (.string ⟨#[]⟩), (.slice none 0 0), (.slice none 0 0), (.int .i64 0), (.int .i64 0), (.string ⟨#[]⟩), (.slice none 0 0), (.bool false), (.int .i64 0), (.bool false), (.string ⟨#[]⟩), (.int .i64 0), (.slice none 0 0)] 62) = wz at *
 try rw [← hB]
 have HBE := hid hB
 clear hB
 have CO := hid (iopen_any hx0 HL.out)
 have HZz := hid hz
 have HBz := hid hb
 clear hx0 hz hb
 go_upto_region 2 with (first | (go_at_call 27; refine CO.out.mono ?_; rintro en w0 ⟨Q, rfl, hQ, hR, hbo⟩; have HQ := hid hQ; have HR0 := hid hR; have HBO := hid hbo; clear hQ hR hbo))
 have hlz := lt_of_block HZz.out
 have hQB : B < Q := Nat.lt_of_lt_of_le hlz HQ.out
 have HZ0 := hid ((HBO.out.block B hlz).trans HZz.out)
 have HBW : Hid (Below w.heap.size w w0) := hid (HBz.out.trans (HBO.out.mono HBz.out.size))
 have HQs := hid (show w0.heap.size ≤ w0.heap.size from Nat.le_refl _)
 clear CO HZz HBz HBO HQ hlz
 have CQ := hid (iint9_any HR0.out)
 go_upto_region 3 with (first | (go_at_call 33; refine CQ.out.mono ?_; rintro en w1 ⟨v, rfl, bb0, E0, o0, r0, k0⟩; obtain ⟨y0, rfl⟩ := form_int (EncN.enc _ E0); have HE0 := hid E0; have HO0 := hid o0; have HRr := hid r0; have HKk := hid k0; clear E0 o0 r0 k0))
 have hb1 : Below w1.heap.size w1 (w1.alloc (.cells #[(.int .i64 y0), (.slice none 0 0), (.int .i64 0), (.string ⟨#[]⟩), (.slice none 0 0), (.slice none 0 0), (.int .i64 0), (.int .i64 0), (.string ⟨#[]⟩), (.slice none 0 0), (.bool false), (.int .i64 0), (.bool false), (.string ⟨#[]⟩), (.int .i64 0), (.slice none 0 0)] 62)) := (Below.refl _ _).alloc (Nat.le_refl _) _
 have hp1 := heap_alloc_new w1 (.cells #[(.int .i64 y0), (.slice none 0 0), (.int .i64 0), (.string ⟨#[]⟩), (.slice none 0 0), (.slice none 0 0), (.int .i64 0), (.int .i64 0), (.string ⟨#[]⟩), (.slice none 0 0), (.bool false), (.int .i64 0), (.bool false), (.string ⟨#[]⟩), (.int .i64 0), (.slice none 0 0)] 62)
 have hPz : B < w1.heap.size := Nat.lt_of_lt_of_le (lt_of_block HZ0.out) HKk.out.size
 have HE0 := hid (EncN.keep (X := fun _ => False) (Keep.of_below hb1) (fun _ _ e => e) _ (EncN.mono (N' := fun k => Q < k ∧ k ≠ w1.heap.size ∧ k < w1.heap.size + 1) (fun k hk => ⟨Nat.lt_of_lt_of_le (HR0.out.lt) hk.1, by omega, by omega⟩) _ HE0.out))
 have HR1 := hid (HRr.out.keep (X := fun _ => False) (Keep.of_below hb1) (fun _ e => e.elim))
 have HK1 := hid (((Keep.of_below (X := fun k => k = Q) HBW.out).trans HKk.out).trans (Keep.of_below hb1))
 have HZ1 := hid ((hb1.block B hPz).trans ((HKk.out.block B (lt_of_block HZ0.out) (fun e => by have e9 : B = Q := e; omega)).trans HZ0.out))
 have hQP : Q < w1.heap.size := Nat.lt_of_lt_of_le HR0.out.lt HKk.out.size
 obtain ⟨P, hP⟩ : ∃ P, P = w1.heap.size := ⟨_, rfl⟩
 rw [← hP] at hp1 hPz HE0 hQP ⊢
 have HP1 := hid hp1
 have hsz1 := lt_of_block hp1
 clear hb1 hp1 hP HRr HKk CQ HZ0 HR0
 generalize w1.alloc (.cells #[(.int .i64 y0), (.slice none 0 0), (.int .i64 0), (.string ⟨#[]⟩), (.slice none 0 0), (.slice none 0 0), (.int .i64 0), (.int .i64 0), (.string ⟨#[]⟩), (.slice none 0 0), (.bool false), (.int .i64 0), (.bool false), (.string ⟨#[]⟩), (.int .i64 0), (.slice none 0 0)] 62) = u1 at *
 have HE0 : Hid (EncN (fun k => Q < k ∧ k ≠ P ∧ k < u1.heap.size) u1 .int [(.int .i64 y0)] bb0) := hid (EncN.mono (fun k hk => ⟨hk.1, hk.2.1, by have := hk.2.2; omega⟩) _ HE0.out)
 clear hsz1
 have CQ := hid (ilOp_any HR1.out)
 go_upto_region 4 with (first | (go_at_call 51; refine CQ.out.mono ?_; rintro en w2 ⟨v, rfl, bb1, E1, o1, r1, k1⟩; obtain ⟨y1, j1, c1, rfl⟩ := form_list (EncN.enc _ E1); have hPx := (k1.block P (lt_of_block HP1.out) (fun e => by have e9 : P = Q := e; omega)).trans HP1.out; obtain ⟨qq1, rr1⟩ := row_at (cs := [(.int .i64 y0), (.slice none 0 0), (.int .i64 0), (.string ⟨#[]⟩), (.slice none 0 0), (.slice none 0 0), (.int .i64 0), (.int .i64 0), (.string ⟨#[]⟩), (.slice none 0 0), (.bool false), (.int .i64 0), (.bool false), (.string ⟨#[]⟩), (.int .i64 0), (.slice none 0 0)]) hPx (i := 1) rfl; have HPx := hid hPx; clear hPx; have HE1 := hid E1; have HO1 := hid o1; have HRr := hid r1; have HKk := hid k1; clear E1 o1 r1 k1))
 have hs0 := HPx.out
 have hs1 := row_put (cs := [(.int .i64 y0), (.slice none 0 0), (.int .i64 0), (.string ⟨#[]⟩), (.slice none 0 0), (.slice none 0 0), (.int .i64 0), (.int .i64 0), (.string ⟨#[]⟩), (.slice none 0 0), (.bool false), (.int .i64 0), (.bool false), (.string ⟨#[]⟩), (.int .i64 0), (.slice none 0 0)]) hs0 1 (.slice y1 j1 c1)
 have HP2 : Hid ((w2.setCell ⟨P, 1, none⟩ (.slice y1 j1 c1)).heap[P]? = some (.cells #[(.int .i64 y0), (.slice y1 j1 c1), (.int .i64 0), (.string ⟨#[]⟩), (.slice none 0 0), (.slice none 0 0), (.int .i64 0), (.int .i64 0), (.string ⟨#[]⟩), (.slice none 0 0), (.bool false), (.int .i64 0), (.bool false), (.string ⟨#[]⟩), (.int .i64 0), (.slice none 0 0)] 62 (0, 0))) := hs1
 have hks : Keep (fun k => k = P) w2 (w2.setCell ⟨P, 1, none⟩ (.slice y1 j1 c1)) := (Keep.refl (fun k => k = P) _).trans (Keep.set (X := fun k => k = P) _ ⟨P, 1, none⟩ (.slice y1 j1 c1) rfl)
 have HR2 := hid (HRr.out.keep hks (fun k e => by have e9 : k = P := e; omega))
 have HK2 := hid ((HK1.out.trans HKk.out).trans2 hks (fun k e => .inr (by have e9 : k = P := e; have := HBE.out; omega)))
 have hkk : Keep (fun k => k = Q ∨ k = P) u1 (w2.setCell ⟨P, 1, none⟩ (.slice y1 j1 c1)) := (HKk.out.mono (fun k _ e => .inl e)).trans (hks.mono (fun k _ e => .inr e))
 have hzz := (hkk.block B (lt_of_block HZ1.out) (fun e => by have e9 : B = Q ∨ B = P := e; omega)).trans HZ1.out
 have HZ2 := hid hzz
 clear hzz
 have HE0 := hid (EncN.hop (Nat.le_refl _) hkk HE0.out)
 have HE1 := hid (EncN.mono (N' := fun k => Q < k ∧ k ≠ P ∧ k < (w2.setCell ⟨P, 1, none⟩ (.slice y1 j1 c1)).heap.size) (fun k hk => ⟨by have := hk.1; have := HR1.out.lt; omega, by have := lt_of_block HP1.out; omega, Nat.lt_of_lt_of_le hk.2 hks.size⟩) _ (EncN.keep hks (fun k hk e => by have e9 : k = P := e; have := lt_of_block HP1.out; have := hk.1; omega) _ HE1.out))
 clear hs0 hs1 hks hkk HRr HKk HPx HP1 HR1 HK1 HZ1 CQ
 generalize w2.setCell ⟨P, 1, none⟩ (.slice y1 j1 c1) = u2 at *
 have CQ := hid (istTable_any HR2.out)
 go_upto_region 5 with (first | (go_at_call 39; refine CQ.out.mono ?_; rintro en w3 ⟨mc, rfl, bb2, E2, o2, r2, k2⟩; obtain ⟨vv2, vv3, vv4, vv5, bv2, bv3, bv4, bv5, rfl, _, ev2, ev3, ev4, ev5⟩ := Table_cells (EncN.enc _ E2); obtain ⟨y2, rfl⟩ := form_int ev2; obtain ⟨y3, rfl⟩ := form_name ev3; obtain ⟨y4, j4, c4, rfl⟩ := form_list ev4; obtain ⟨y5, j5, c5, rfl⟩ := form_list ev5; clear ev2 ev3 ev4 ev5; have hPx := (k2.block P (lt_of_block HP2.out) (fun e => by have e9 : P = Q := e; omega)).trans HP2.out; obtain ⟨qq2, rr2⟩ := row_at (cs := [(.int .i64 y0), (.slice y1 j1 c1), (.int .i64 0), (.string ⟨#[]⟩), (.slice none 0 0), (.slice none 0 0), (.int .i64 0), (.int .i64 0), (.string ⟨#[]⟩), (.slice none 0 0), (.bool false), (.int .i64 0), (.bool false), (.string ⟨#[]⟩), (.int .i64 0), (.slice none 0 0)]) hPx (i := 2) rfl; obtain ⟨qq3, rr3⟩ := row_at (cs := [(.int .i64 y0), (.slice y1 j1 c1), (.int .i64 0), (.string ⟨#[]⟩), (.slice none 0 0), (.slice none 0 0), (.int .i64 0), (.int .i64 0), (.string ⟨#[]⟩), (.slice none 0 0), (.bool false), (.int .i64 0), (.bool false), (.string ⟨#[]⟩), (.int .i64 0), (.slice none 0 0)]) hPx (i := 3) rfl; obtain ⟨qq4, rr4⟩ := row_at (cs := [(.int .i64 y0), (.slice y1 j1 c1), (.int .i64 0), (.string ⟨#[]⟩), (.slice none 0 0), (.slice none 0 0), (.int .i64 0), (.int .i64 0), (.string ⟨#[]⟩), (.slice none 0 0), (.bool false), (.int .i64 0), (.bool false), (.string ⟨#[]⟩), (.int .i64 0), (.slice none 0 0)]) hPx (i := 4) rfl; obtain ⟨qq5, rr5⟩ := row_at (cs := [(.int .i64 y0), (.slice y1 j1 c1), (.int .i64 0), (.string ⟨#[]⟩), (.slice none 0 0), (.slice none 0 0), (.int .i64 0), (.int .i64 0), (.string ⟨#[]⟩), (.slice none 0 0), (.bool false), (.int .i64 0), (.bool false), (.string ⟨#[]⟩), (.int .i64 0), (.slice none 0 0)]) hPx (i := 5) rfl; have HPx := hid hPx; clear hPx; have HE2 := hid E2; have HO2 := hid o2; have HRr := hid r2; have HKk := hid k2; clear E2 o2 r2 k2))
 have hs0 := HPx.out
 have hs1 := row_put (cs := [(.int .i64 y0), (.slice y1 j1 c1), (.int .i64 0), (.string ⟨#[]⟩), (.slice none 0 0), (.slice none 0 0), (.int .i64 0), (.int .i64 0), (.string ⟨#[]⟩), (.slice none 0 0), (.bool false), (.int .i64 0), (.bool false), (.string ⟨#[]⟩), (.int .i64 0), (.slice none 0 0)]) hs0 2 (.int .i64 y2)
 have hs2 := row_put (cs := [(.int .i64 y0), (.slice y1 j1 c1), (.int .i64 y2), (.string ⟨#[]⟩), (.slice none 0 0), (.slice none 0 0), (.int .i64 0), (.int .i64 0), (.string ⟨#[]⟩), (.slice none 0 0), (.bool false), (.int .i64 0), (.bool false), (.string ⟨#[]⟩), (.int .i64 0), (.slice none 0 0)]) hs1 3 (.string y3)
 have hs3 := row_put (cs := [(.int .i64 y0), (.slice y1 j1 c1), (.int .i64 y2), (.string y3), (.slice none 0 0), (.slice none 0 0), (.int .i64 0), (.int .i64 0), (.string ⟨#[]⟩), (.slice none 0 0), (.bool false), (.int .i64 0), (.bool false), (.string ⟨#[]⟩), (.int .i64 0), (.slice none 0 0)]) hs2 4 (.slice y4 j4 c4)
 have hs4 := row_put (cs := [(.int .i64 y0), (.slice y1 j1 c1), (.int .i64 y2), (.string y3), (.slice y4 j4 c4), (.slice none 0 0), (.int .i64 0), (.int .i64 0), (.string ⟨#[]⟩), (.slice none 0 0), (.bool false), (.int .i64 0), (.bool false), (.string ⟨#[]⟩), (.int .i64 0), (.slice none 0 0)]) hs3 5 (.slice y5 j5 c5)
 have HP3 : Hid (((((w3.setCell ⟨P, 2, none⟩ (.int .i64 y2)).setCell ⟨P, 3, none⟩ (.string y3)).setCell ⟨P, 4, none⟩ (.slice y4 j4 c4)).setCell ⟨P, 5, none⟩ (.slice y5 j5 c5)).heap[P]? = some (.cells #[(.int .i64 y0), (.slice y1 j1 c1), (.int .i64 y2), (.string y3), (.slice y4 j4 c4), (.slice y5 j5 c5), (.int .i64 0), (.int .i64 0), (.string ⟨#[]⟩), (.slice none 0 0), (.bool false), (.int .i64 0), (.bool false), (.string ⟨#[]⟩), (.int .i64 0), (.slice none 0 0)] 62 (0, 0))) := hs4
 have hks : Keep (fun k => k = P) w3 ((((w3.setCell ⟨P, 2, none⟩ (.int .i64 y2)).setCell ⟨P, 3, none⟩ (.string y3)).setCell ⟨P, 4, none⟩ (.slice y4 j4 c4)).setCell ⟨P, 5, none⟩ (.slice y5 j5 c5)) := ((((Keep.refl (fun k => k = P) _).trans (Keep.set (X := fun k => k = P) _ ⟨P, 2, none⟩ (.int .i64 y2) rfl)).trans (Keep.set (X := fun k => k = P) _ ⟨P, 3, none⟩ (.string y3) rfl)).trans (Keep.set (X := fun k => k = P) _ ⟨P, 4, none⟩ (.slice y4 j4 c4) rfl)).trans (Keep.set (X := fun k => k = P) _ ⟨P, 5, none⟩ (.slice y5 j5 c5) rfl)
 have HR3 := hid (HRr.out.keep hks (fun k e => by have e9 : k = P := e; omega))
 have HK3 := hid ((HK2.out.trans HKk.out).trans2 hks (fun k e => .inr (by have e9 : k = P := e; have := HBE.out; omega)))
 have hkk : Keep (fun k => k = Q ∨ k = P) u2 ((((w3.setCell ⟨P, 2, none⟩ (.int .i64 y2)).setCell ⟨P, 3, none⟩ (.string y3)).setCell ⟨P, 4, none⟩ (.slice y4 j4 c4)).setCell ⟨P, 5, none⟩ (.slice y5 j5 c5)) := (HKk.out.mono (fun k _ e => .inl e)).trans (hks.mono (fun k _ e => .inr e))
 have hzz := (hkk.block B (lt_of_block HZ2.out) (fun e => by have e9 : B = Q ∨ B = P := e; omega)).trans HZ2.out
 have HZ3 := hid hzz
 clear hzz
 have HE0 := hid (EncN.hop (Nat.le_refl _) hkk HE0.out)
 have HE1 := hid (EncN.hop (Nat.le_refl _) hkk HE1.out)
 have HE2 := hid (EncN.mono (N' := fun k => Q < k ∧ k ≠ P ∧ k < ((((w3.setCell ⟨P, 2, none⟩ (.int .i64 y2)).setCell ⟨P, 3, none⟩ (.string y3)).setCell ⟨P, 4, none⟩ (.slice y4 j4 c4)).setCell ⟨P, 5, none⟩ (.slice y5 j5 c5)).heap.size) (fun k hk => ⟨by have := hk.1; have := HR2.out.lt; omega, by have := lt_of_block HP2.out; omega, Nat.lt_of_lt_of_le hk.2 hks.size⟩) _ (EncN.keep hks (fun k hk e => by have e9 : k = P := e; have := lt_of_block HP2.out; have := hk.1; omega) _ HE2.out))
 clear hs0 hs1 hs2 hs3 hs4 hks hkk HRr HKk HPx HP2 HR2 HK2 HZ2 CQ
 generalize (((w3.setCell ⟨P, 2, none⟩ (.int .i64 y2)).setCell ⟨P, 3, none⟩ (.string y3)).setCell ⟨P, 4, none⟩ (.slice y4 j4 c4)).setCell ⟨P, 5, none⟩ (.slice y5 j5 c5) = u3 at *
 have CQ := hid (istIndex_any HR3.out)
 go_upto_region 6 with (first | (go_at_call 40; refine CQ.out.mono ?_; rintro en w4 ⟨mc, rfl, bb3, E3, o3, r3, k3⟩; obtain ⟨vv6, vv7, vv8, vv9, vv10, vv11, vv12, bv6, bv7, bv8, bv9, bv10, bv11, bv12, rfl, _, ev6, ev7, ev8, ev9, ev10, ev11, ev12⟩ := Index_cells (EncN.enc _ E3); obtain ⟨y6, rfl⟩ := form_int ev6; obtain ⟨y7, rfl⟩ := form_int ev7; obtain ⟨y8, rfl⟩ := form_name ev8; obtain ⟨y9, j9, c9, rfl⟩ := form_list ev9; obtain ⟨y10, rfl⟩ := form_bool ev10; obtain ⟨y11, rfl⟩ := form_int ev11; obtain ⟨y12, rfl⟩ := form_bool ev12; clear ev6 ev7 ev8 ev9 ev10 ev11 ev12; have hPx := (k3.block P (lt_of_block HP3.out) (fun e => by have e9 : P = Q := e; omega)).trans HP3.out; obtain ⟨qq6, rr6⟩ := row_at (cs := [(.int .i64 y0), (.slice y1 j1 c1), (.int .i64 y2), (.string y3), (.slice y4 j4 c4), (.slice y5 j5 c5), (.int .i64 0), (.int .i64 0), (.string ⟨#[]⟩), (.slice none 0 0), (.bool false), (.int .i64 0), (.bool false), (.string ⟨#[]⟩), (.int .i64 0), (.slice none 0 0)]) hPx (i := 6) rfl; obtain ⟨qq7, rr7⟩ := row_at (cs := [(.int .i64 y0), (.slice y1 j1 c1), (.int .i64 y2), (.string y3), (.slice y4 j4 c4), (.slice y5 j5 c5), (.int .i64 0), (.int .i64 0), (.string ⟨#[]⟩), (.slice none 0 0), (.bool false), (.int .i64 0), (.bool false), (.string ⟨#[]⟩), (.int .i64 0), (.slice none 0 0)]) hPx (i := 7) rfl; obtain ⟨qq8, rr8⟩ := row_at (cs := [(.int .i64 y0), (.slice y1 j1 c1), (.int .i64 y2), (.string y3), (.slice y4 j4 c4), (.slice y5 j5 c5), (.int .i64 0), (.int .i64 0), (.string ⟨#[]⟩), (.slice none 0 0), (.bool false), (.int .i64 0), (.bool false), (.string ⟨#[]⟩), (.int .i64 0), (.slice none 0 0)]) hPx (i := 8) rfl; obtain ⟨qq9, rr9⟩ := row_at (cs := [(.int .i64 y0), (.slice y1 j1 c1), (.int .i64 y2), (.string y3), (.slice y4 j4 c4), (.slice y5 j5 c5), (.int .i64 0), (.int .i64 0), (.string ⟨#[]⟩), (.slice none 0 0), (.bool false), (.int .i64 0), (.bool false), (.string ⟨#[]⟩), (.int .i64 0), (.slice none 0 0)]) hPx (i := 9) rfl; obtain ⟨qq10, rr10⟩ := row_at (cs := [(.int .i64 y0), (.slice y1 j1 c1), (.int .i64 y2), (.string y3), (.slice y4 j4 c4), (.slice y5 j5 c5), (.int .i64 0), (.int .i64 0), (.string ⟨#[]⟩), (.slice none 0 0), (.bool false), (.int .i64 0), (.bool false), (.string ⟨#[]⟩), (.int .i64 0), (.slice none 0 0)]) hPx (i := 10) rfl; obtain ⟨qq11, rr11⟩ := row_at (cs := [(.int .i64 y0), (.slice y1 j1 c1), (.int .i64 y2), (.string y3), (.slice y4 j4 c4), (.slice y5 j5 c5), (.int .i64 0), (.int .i64 0), (.string ⟨#[]⟩), (.slice none 0 0), (.bool false), (.int .i64 0), (.bool false), (.string ⟨#[]⟩), (.int .i64 0), (.slice none 0 0)]) hPx (i := 11) rfl; obtain ⟨qq12, rr12⟩ := row_at (cs := [(.int .i64 y0), (.slice y1 j1 c1), (.int .i64 y2), (.string y3), (.slice y4 j4 c4), (.slice y5 j5 c5), (.int .i64 0), (.int .i64 0), (.string ⟨#[]⟩), (.slice none 0 0), (.bool false), (.int .i64 0), (.bool false), (.string ⟨#[]⟩), (.int .i64 0), (.slice none 0 0)]) hPx (i := 12) rfl; have HPx := hid hPx; clear hPx; have HE3 := hid E3; have HO3 := hid o3; have HRr := hid r3; have HKk := hid k3; clear E3 o3 r3 k3))
 have hs0 := HPx.out
 have hs1 := row_put (cs := [(.int .i64 y0), (.slice y1 j1 c1), (.int .i64 y2), (.string y3), (.slice y4 j4 c4), (.slice y5 j5 c5), (.int .i64 0), (.int .i64 0), (.string ⟨#[]⟩), (.slice none 0 0), (.bool false), (.int .i64 0), (.bool false), (.string ⟨#[]⟩), (.int .i64 0), (.slice none 0 0)]) hs0 6 (.int .i64 y6)
 have hs2 := row_put (cs := [(.int .i64 y0), (.slice y1 j1 c1), (.int .i64 y2), (.string y3), (.slice y4 j4 c4), (.slice y5 j5 c5), (.int .i64 y6), (.int .i64 0), (.string ⟨#[]⟩), (.slice none 0 0), (.bool false), (.int .i64 0), (.bool false), (.string ⟨#[]⟩), (.int .i64 0), (.slice none 0 0)]) hs1 7 (.int .i64 y7)
 have hs3 := row_put (cs := [(.int .i64 y0), (.slice y1 j1 c1), (.int .i64 y2), (.string y3), (.slice y4 j4 c4), (.slice y5 j5 c5), (.int .i64 y6), (.int .i64 y7), (.string ⟨#[]⟩), (.slice none 0 0), (.bool false), (.int .i64 0), (.bool false), (.string ⟨#[]⟩), (.int .i64 0), (.slice none 0 0)]) hs2 8 (.string y8)
 have hs4 := row_put (cs := [(.int .i64 y0), (.slice y1 j1 c1), (.int .i64 y2), (.string y3), (.slice y4 j4 c4), (.slice y5 j5 c5), (.int .i64 y6), (.int .i64 y7), (.string y8), (.slice none 0 0), (.bool false), (.int .i64 0), (.bool false), (.string ⟨#[]⟩), (.int .i64 0), (.slice none 0 0)]) hs3 9 (.slice y9 j9 c9)
 have hs5 := row_put (cs := [(.int .i64 y0), (.slice y1 j1 c1), (.int .i64 y2), (.string y3), (.slice y4 j4 c4), (.slice y5 j5 c5), (.int .i64 y6), (.int .i64 y7), (.string y8), (.slice y9 j9 c9), (.bool false), (.int .i64 0), (.bool false), (.string ⟨#[]⟩), (.int .i64 0), (.slice none 0 0)]) hs4 10 (.bool y10)
 have hs6 := row_put (cs := [(.int .i64 y0), (.slice y1 j1 c1), (.int .i64 y2), (.string y3), (.slice y4 j4 c4), (.slice y5 j5 c5), (.int .i64 y6), (.int .i64 y7), (.string y8), (.slice y9 j9 c9), (.bool y10), (.int .i64 0), (.bool false), (.string ⟨#[]⟩), (.int .i64 0), (.slice none 0 0)]) hs5 11 (.int .i64 y11)
 have hs7 := row_put (cs := [(.int .i64 y0), (.slice y1 j1 c1), (.int .i64 y2), (.string y3), (.slice y4 j4 c4), (.slice y5 j5 c5), (.int .i64 y6), (.int .i64 y7), (.string y8), (.slice y9 j9 c9), (.bool y10), (.int .i64 y11), (.bool false), (.string ⟨#[]⟩), (.int .i64 0), (.slice none 0 0)]) hs6 12 (.bool y12)
 have HP4 : Hid ((((((((w4.setCell ⟨P, 6, none⟩ (.int .i64 y6)).setCell ⟨P, 7, none⟩ (.int .i64 y7)).setCell ⟨P, 8, none⟩ (.string y8)).setCell ⟨P, 9, none⟩ (.slice y9 j9 c9)).setCell ⟨P, 10, none⟩ (.bool y10)).setCell ⟨P, 11, none⟩ (.int .i64 y11)).setCell ⟨P, 12, none⟩ (.bool y12)).heap[P]? = some (.cells #[(.int .i64 y0), (.slice y1 j1 c1), (.int .i64 y2), (.string y3), (.slice y4 j4 c4), (.slice y5 j5 c5), (.int .i64 y6), (.int .i64 y7), (.string y8), (.slice y9 j9 c9), (.bool y10), (.int .i64 y11), (.bool y12), (.string ⟨#[]⟩), (.int .i64 0), (.slice none 0 0)] 62 (0, 0))) := hs7
 have hks : Keep (fun k => k = P) w4 (((((((w4.setCell ⟨P, 6, none⟩ (.int .i64 y6)).setCell ⟨P, 7, none⟩ (.int .i64 y7)).setCell ⟨P, 8, none⟩ (.string y8)).setCell ⟨P, 9, none⟩ (.slice y9 j9 c9)).setCell ⟨P, 10, none⟩ (.bool y10)).setCell ⟨P, 11, none⟩ (.int .i64 y11)).setCell ⟨P, 12, none⟩ (.bool y12)) := (((((((Keep.refl (fun k => k = P) _).trans (Keep.set (X := fun k => k = P) _ ⟨P, 6, none⟩ (.int .i64 y6) rfl)).trans (Keep.set (X := fun k => k = P) _ ⟨P, 7, none⟩ (.int .i64 y7) rfl)).trans (Keep.set (X := fun k => k = P) _ ⟨P, 8, none⟩ (.string y8) rfl)).trans (Keep.set (X := fun k => k = P) _ ⟨P, 9, none⟩ (.slice y9 j9 c9) rfl)).trans (Keep.set (X := fun k => k = P) _ ⟨P, 10, none⟩ (.bool y10) rfl)).trans (Keep.set (X := fun k => k = P) _ ⟨P, 11, none⟩ (.int .i64 y11) rfl)).trans (Keep.set (X := fun k => k = P) _ ⟨P, 12, none⟩ (.bool y12) rfl)
 have HR4 := hid (HRr.out.keep hks (fun k e => by have e9 : k = P := e; omega))
 have HK4 := hid ((HK3.out.trans HKk.out).trans2 hks (fun k e => .inr (by have e9 : k = P := e; have := HBE.out; omega)))
 have hkk : Keep (fun k => k = Q ∨ k = P) u3 (((((((w4.setCell ⟨P, 6, none⟩ (.int .i64 y6)).setCell ⟨P, 7, none⟩ (.int .i64 y7)).setCell ⟨P, 8, none⟩ (.string y8)).setCell ⟨P, 9, none⟩ (.slice y9 j9 c9)).setCell ⟨P, 10, none⟩ (.bool y10)).setCell ⟨P, 11, none⟩ (.int .i64 y11)).setCell ⟨P, 12, none⟩ (.bool y12)) := (HKk.out.mono (fun k _ e => .inl e)).trans (hks.mono (fun k _ e => .inr e))
 have hzz := (hkk.block B (lt_of_block HZ3.out) (fun e => by have e9 : B = Q ∨ B = P := e; omega)).trans HZ3.out
 have HZ4 := hid hzz
 clear hzz
 have HE0 := hid (EncN.hop (Nat.le_refl _) hkk HE0.out)
 have HE1 := hid (EncN.hop (Nat.le_refl _) hkk HE1.out)
 have HE2 := hid (EncN.hop (Nat.le_refl _) hkk HE2.out)
 have HE3 := hid (EncN.mono (N' := fun k => Q < k ∧ k ≠ P ∧ k < (((((((w4.setCell ⟨P, 6, none⟩ (.int .i64 y6)).setCell ⟨P, 7, none⟩ (.int .i64 y7)).setCell ⟨P, 8, none⟩ (.string y8)).setCell ⟨P, 9, none⟩ (.slice y9 j9 c9)).setCell ⟨P, 10, none⟩ (.bool y10)).setCell ⟨P, 11, none⟩ (.int .i64 y11)).setCell ⟨P, 12, none⟩ (.bool y12)).heap.size) (fun k hk => ⟨by have := hk.1; have := HR3.out.lt; omega, by have := lt_of_block HP3.out; omega, Nat.lt_of_lt_of_le hk.2 hks.size⟩) _ (EncN.keep hks (fun k hk e => by have e9 : k = P := e; have := lt_of_block HP3.out; have := hk.1; omega) _ HE3.out))
 clear hs0 hs1 hs2 hs3 hs4 hs5 hs6 hs7 hks hkk HRr HKk HPx HP3 HR3 HK3 HZ3 CQ
 generalize ((((((w4.setCell ⟨P, 6, none⟩ (.int .i64 y6)).setCell ⟨P, 7, none⟩ (.int .i64 y7)).setCell ⟨P, 8, none⟩ (.string y8)).setCell ⟨P, 9, none⟩ (.slice y9 j9 c9)).setCell ⟨P, 10, none⟩ (.bool y10)).setCell ⟨P, 11, none⟩ (.int .i64 y11)).setCell ⟨P, 12, none⟩ (.bool y12) = u4 at *
 have CQ := hid (itext9_any HR4.out)
 go_upto_region 7 with (first | (go_at_call 41; refine CQ.out.mono ?_; rintro en w5 ⟨v, rfl, bb4, E4, o4, r4, k4⟩; obtain ⟨y13, rfl⟩ := form_name (EncN.enc _ E4); have hPx := (k4.block P (lt_of_block HP4.out) (fun e => by have e9 : P = Q := e; omega)).trans HP4.out; obtain ⟨qq13, rr13⟩ := row_at (cs := [(.int .i64 y0), (.slice y1 j1 c1), (.int .i64 y2), (.string y3), (.slice y4 j4 c4), (.slice y5 j5 c5), (.int .i64 y6), (.int .i64 y7), (.string y8), (.slice y9 j9 c9), (.bool y10), (.int .i64 y11), (.bool y12), (.string ⟨#[]⟩), (.int .i64 0), (.slice none 0 0)]) hPx (i := 13) rfl; have HPx := hid hPx; clear hPx; have HE4 := hid E4; have HO4 := hid o4; have HRr := hid r4; have HKk := hid k4; clear E4 o4 r4 k4))
 have hs0 := HPx.out
 have hs1 := row_put (cs := [(.int .i64 y0), (.slice y1 j1 c1), (.int .i64 y2), (.string y3), (.slice y4 j4 c4), (.slice y5 j5 c5), (.int .i64 y6), (.int .i64 y7), (.string y8), (.slice y9 j9 c9), (.bool y10), (.int .i64 y11), (.bool y12), (.string ⟨#[]⟩), (.int .i64 0), (.slice none 0 0)]) hs0 13 (.string y13)
 have HP5 : Hid ((w5.setCell ⟨P, 13, none⟩ (.string y13)).heap[P]? = some (.cells #[(.int .i64 y0), (.slice y1 j1 c1), (.int .i64 y2), (.string y3), (.slice y4 j4 c4), (.slice y5 j5 c5), (.int .i64 y6), (.int .i64 y7), (.string y8), (.slice y9 j9 c9), (.bool y10), (.int .i64 y11), (.bool y12), (.string y13), (.int .i64 0), (.slice none 0 0)] 62 (0, 0))) := hs1
 have hks : Keep (fun k => k = P) w5 (w5.setCell ⟨P, 13, none⟩ (.string y13)) := (Keep.refl (fun k => k = P) _).trans (Keep.set (X := fun k => k = P) _ ⟨P, 13, none⟩ (.string y13) rfl)
 have HR5 := hid (HRr.out.keep hks (fun k e => by have e9 : k = P := e; omega))
 have HK5 := hid ((HK4.out.trans HKk.out).trans2 hks (fun k e => .inr (by have e9 : k = P := e; have := HBE.out; omega)))
 have hkk : Keep (fun k => k = Q ∨ k = P) u4 (w5.setCell ⟨P, 13, none⟩ (.string y13)) := (HKk.out.mono (fun k _ e => .inl e)).trans (hks.mono (fun k _ e => .inr e))
 have hzz := (hkk.block B (lt_of_block HZ4.out) (fun e => by have e9 : B = Q ∨ B = P := e; omega)).trans HZ4.out
 have HZ5 := hid hzz
 clear hzz
 have HE0 := hid (EncN.hop (Nat.le_refl _) hkk HE0.out)
 have HE1 := hid (EncN.hop (Nat.le_refl _) hkk HE1.out)
 have HE2 := hid (EncN.hop (Nat.le_refl _) hkk HE2.out)
 have HE3 := hid (EncN.hop (Nat.le_refl _) hkk HE3.out)
 have HE4 := hid (EncN.mono (N' := fun k => Q < k ∧ k ≠ P ∧ k < (w5.setCell ⟨P, 13, none⟩ (.string y13)).heap.size) (fun k hk => ⟨by have := hk.1; have := HR4.out.lt; omega, by have := lt_of_block HP4.out; omega, Nat.lt_of_lt_of_le hk.2 hks.size⟩) _ (EncN.keep hks (fun k hk e => by have e9 : k = P := e; have := lt_of_block HP4.out; have := hk.1; omega) _ HE4.out))
 clear hs0 hs1 hks hkk HRr HKk HPx HP4 HR4 HK4 HZ4 CQ
 generalize w5.setCell ⟨P, 13, none⟩ (.string y13) = u5 at *
 have CQ := hid (iint9_any HR5.out)
 go_upto_region 8 with (first | (go_at_call 33; refine CQ.out.mono ?_; rintro en w6 ⟨v, rfl, bb5, E5, o5, r5, k5⟩; obtain ⟨y14, rfl⟩ := form_int (EncN.enc _ E5); have hPx := (k5.block P (lt_of_block HP5.out) (fun e => by have e9 : P = Q := e; omega)).trans HP5.out; obtain ⟨qq14, rr14⟩ := row_at hPx (i := 14) rfl; have HPx := hid hPx; clear hPx; have HE5 := hid E5; have HO5 := hid o5; have HRr := hid r5; have HKk := hid k5; clear E5 o5 r5 k5))
 have hs0 := HPx.out
 have hs1 := row_put hs0 14 (.int .i64 y14)
 have HP6 : Hid ((w6.setCell ⟨P, 14, none⟩ (.int .i64 y14)).heap[P]? = some (.cells #[(.int .i64 y0), (.slice y1 j1 c1), (.int .i64 y2), (.string y3), (.slice y4 j4 c4), (.slice y5 j5 c5), (.int .i64 y6), (.int .i64 y7), (.string y8), (.slice y9 j9 c9), (.bool y10), (.int .i64 y11), (.bool y12), (.string y13), (.int .i64 y14), (.slice none 0 0)] 62 (0, 0))) := hs1
 have hks : Keep (fun k => k = P) w6 (w6.setCell ⟨P, 14, none⟩ (.int .i64 y14)) := (Keep.refl (fun k => k = P) _).trans (Keep.set (X := fun k => k = P) _ ⟨P, 14, none⟩ (.int .i64 y14) rfl)
 have HR6 := hid (HRr.out.keep hks (fun k e => by have e9 : k = P := e; omega))
 have HK6 := hid ((HK5.out.trans HKk.out).trans2 hks (fun k e => .inr (by have e9 : k = P := e; have := HBE.out; omega)))
 have hkk : Keep (fun k => k = Q ∨ k = P) u5 (w6.setCell ⟨P, 14, none⟩ (.int .i64 y14)) := (HKk.out.mono (fun k _ e => .inl e)).trans (hks.mono (fun k _ e => .inr e))
 have hzz := (hkk.block B (lt_of_block HZ5.out) (fun e => by have e9 : B = Q ∨ B = P := e; omega)).trans HZ5.out
 have HZ6 := hid hzz
 clear hzz
 have HE0 := hid (EncN.hop (Nat.le_refl _) hkk HE0.out)
 have HE1 := hid (EncN.hop (Nat.le_refl _) hkk HE1.out)
 have HE2 := hid (EncN.hop (Nat.le_refl _) hkk HE2.out)
 have HE3 := hid (EncN.hop (Nat.le_refl _) hkk HE3.out)
 have HE4 := hid (EncN.hop (Nat.le_refl _) hkk HE4.out)
 have HE5 := hid (EncN.mono (N' := fun k => Q < k ∧ k ≠ P ∧ k < (w6.setCell ⟨P, 14, none⟩ (.int .i64 y14)).heap.size) (fun k hk => ⟨by have := hk.1; have := HR5.out.lt; omega, by have := lt_of_block HP5.out; omega, Nat.lt_of_lt_of_le hk.2 hks.size⟩) _ (EncN.keep hks (fun k hk e => by have e9 : k = P := e; have := lt_of_block HP5.out; have := hk.1; omega) _ HE5.out))
 clear hs0 hs1 hks hkk HRr HKk HPx HP5 HR5 HK5 HZ5 CQ
 generalize w6.setCell ⟨P, 14, none⟩ (.int .i64 y14) = u6 at *
 have CQ := hid (ibytes9_any HR6.out)
 go_upto_region 9 with (first | (go_at_call 29; refine CQ.out.mono ?_; rintro en w7 ⟨v, rfl, bb6, E6, o6, r6, k6⟩; obtain ⟨y15, j15, c15, rfl⟩ := form_data (EncN.enc _ E6); have hPx := (k6.block P (lt_of_block HP6.out) (fun e => by have e9 : P = Q := e; omega)).trans HP6.out; obtain ⟨qq15, rr15⟩ := row_at hPx (i := 15) rfl; have HPx := hid hPx; clear hPx; have HE6 := hid E6; have HO6 := hid o6; have HRr := hid r6; have HKk := hid k6; clear E6 o6 r6 k6))
 have hs0 := HPx.out
 have hs1 := row_put hs0 15 (.slice y15 j15 c15)
 have HP7 : Hid ((w7.setCell ⟨P, 15, none⟩ (.slice y15 j15 c15)).heap[P]? = some (.cells #[(.int .i64 y0), (.slice y1 j1 c1), (.int .i64 y2), (.string y3), (.slice y4 j4 c4), (.slice y5 j5 c5), (.int .i64 y6), (.int .i64 y7), (.string y8), (.slice y9 j9 c9), (.bool y10), (.int .i64 y11), (.bool y12), (.string y13), (.int .i64 y14), (.slice y15 j15 c15)] 62 (0, 0))) := hs1
 have hks : Keep (fun k => k = P) w7 (w7.setCell ⟨P, 15, none⟩ (.slice y15 j15 c15)) := (Keep.refl (fun k => k = P) _).trans (Keep.set (X := fun k => k = P) _ ⟨P, 15, none⟩ (.slice y15 j15 c15) rfl)
 have HR7 := hid (HRr.out.keep hks (fun k e => by have e9 : k = P := e; omega))
 have HK7 := hid ((HK6.out.trans HKk.out).trans2 hks (fun k e => .inr (by have e9 : k = P := e; have := HBE.out; omega)))
 have hkk : Keep (fun k => k = Q ∨ k = P) u6 (w7.setCell ⟨P, 15, none⟩ (.slice y15 j15 c15)) := (HKk.out.mono (fun k _ e => .inl e)).trans (hks.mono (fun k _ e => .inr e))
 have hzz := (hkk.block B (lt_of_block HZ6.out) (fun e => by have e9 : B = Q ∨ B = P := e; omega)).trans HZ6.out
 have HZ7 := hid hzz
 clear hzz
 have HE0 := hid (EncN.hop (Nat.le_refl _) hkk HE0.out)
 have HE1 := hid (EncN.hop (Nat.le_refl _) hkk HE1.out)
 have HE2 := hid (EncN.hop (Nat.le_refl _) hkk HE2.out)
 have HE3 := hid (EncN.hop (Nat.le_refl _) hkk HE3.out)
 have HE4 := hid (EncN.hop (Nat.le_refl _) hkk HE4.out)
 have HE5 := hid (EncN.hop (Nat.le_refl _) hkk HE5.out)
 have HE6 := hid (EncN.mono (N' := fun k => Q < k ∧ k ≠ P ∧ k < (w7.setCell ⟨P, 15, none⟩ (.slice y15 j15 c15)).heap.size) (fun k hk => ⟨by have := hk.1; have := HR6.out.lt; omega, by have := lt_of_block HP6.out; omega, Nat.lt_of_lt_of_le hk.2 hks.size⟩) _ (EncN.keep hks (fun k hk e => by have e9 : k = P := e; have := lt_of_block HP6.out; have := hk.1; omega) _ HE6.out))
 clear hs0 hs1 hks hkk HRr HKk HPx HP6 HR6 HK6 HZ6 CQ
 generalize w7.setCell ⟨P, 15, none⟩ (.slice y15 j15 c15) = u7 at *
 have CE := hid (iend9_any HR7.out)
 have LD := cells_load (cs := [(.int .i64 y0), (.slice y1 j1 c1), (.int .i64 y2), (.string y3), (.slice y4 j4 c4), (.slice y5 j5 c5), (.int .i64 y6), (.int .i64 y7), (.string y8), (.slice y9 j9 c9), (.bool y10), (.int .i64 y11), (.bool y12), (.string y13), (.int .i64 y14), (.slice y15 j15 c15)]) (fun i u hi => (row_at HP7.out hi).1) Tryz.underlying62 rfl (by kernel_rfl)
 have HLD := hid LD
 clear LD
 obtain ⟨E, hE⟩ : ∃ E, E = endS (rdF sAsk (l, 0)).2.1 (rdF sAsk (l, 0)).2.2 := ⟨_, rfl⟩
 have hfin : ∀ (s : Sh) (cs : List Value) (bs : List UInt8), EncN (fun k => Q < k ∧ k ≠ P ∧ k < u7.heap.size) u7 s cs bs → EncN (fun k => B < k ∧ k < u7.heap.size) u7 s cs bs := fun s cs bs h9 => EncN.mono (fun k hk => ⟨by have := hk.1; omega, hk.2.2⟩) s h9
 have hF : FinI (fun k => B < k ∧ k < u7.heap.size) u7 sAsk (l, 0) [(.int .i64 y0), (.slice y1 j1 c1), (.int .i64 y2), (.string y3), (.slice y4 j4 c4), (.slice y5 j5 c5), (.int .i64 y6), (.int .i64 y7), (.string y8), (.slice y9 j9 c9), (.bool y10), (.int .i64 y11), (.bool y12), (.string y13), (.int .i64 y14), (.slice y15 j15 c15)] _ := FinI.cons (hfin _ _ _ HE0.out) HO0.out (FinI.cons (hfin _ _ _ HE1.out) HO1.out (FinI.cons (hfin _ _ _ HE2.out) HO2.out (FinI.cons (hfin _ _ _ HE3.out) HO3.out (FinI.cons (hfin _ _ _ HE4.out) HO4.out (FinI.cons (hfin _ _ _ HE5.out) HO5.out (FinI.cons (hfin _ _ _ HE6.out) HO6.out FinI.nil))))))
 obtain ⟨bf, g1, g2, g3⟩ := hF
 rw [← g3, ← hE] at CE
 have HF := hid (And.intro g1 g2)
 clear g1 g2 g3
 have hEb : E = 0 → (rdF sAsk (l, 0)).2.2 = 0 := fun e => by rw [hE] at e; exact Classical.byContradiction fun h9 => h9 (by unfold endS at e; rw [if_pos h9] at e; exact e)
 have HEb := hid hEb
 have HEE := hid hE
 clear hEb hE hfin HE0 HO0 HE1 HO1 HE2 HO2 HE3 HO3 HE4 HO4 HE5 HO5 HE6 HO6
 go_upto_region 10 with (first | (go_at_call 30; refine CE.out.mono ?_; rintro en we hde; have HD := hid hde.2; obtain ⟨rfl, -⟩ := hde))
 have hbe : Below u7.heap.size u7 we := by obtain ⟨nd, rfl⟩ := HD.out; exact ⟨rfl, rfl, rfl, Nat.le_refl _, fun _ _ => rfl⟩
 have hze : we.heap[B]? = some (.cells (#[(.int .i64 0), (.slice none 0 0), (.int .i64 0), (.string ⟨#[]⟩), (.slice none 0 0), (.slice none 0 0), (.int .i64 0), (.int .i64 0), (.string ⟨#[]⟩), (.slice none 0 0), (.bool false), (.int .i64 0), (.bool false), (.string ⟨#[]⟩), (.int .i64 0), (.slice none 0 0)] : Array Value) 62 (0, 0)) := (hbe.block _ (lt_of_block HZ7.out)).trans HZ7.out
 have hle : (Instr.loadAt 62 (.pointer (some ⟨P, 0, none⟩))).run Tryz.prog we = .ok (.agg #[(.int .i64 y0), (.slice y1 j1 c1), (.int .i64 y2), (.string y3), (.slice y4 j4 c4), (.slice y5 j5 c5), (.int .i64 y6), (.int .i64 y7), (.string y8), (.slice y9 j9 c9), (.bool y10), (.int .i64 y11), (.bool y12), (.string y13), (.int .i64 y14), (.slice y15 j15 c15)]) we := cells_load (cs := [(.int .i64 y0), (.slice y1 j1 c1), (.int .i64 y2), (.string y3), (.slice y4 j4 c4), (.slice y5 j5 c5), (.int .i64 y6), (.int .i64 y7), (.string y8), (.slice y9 j9 c9), (.bool y10), (.int .i64 y11), (.bool y12), (.string y13), (.int .i64 y14), (.slice y15 j15 c15)]) (fun i u hi => (row_at ((hbe.block _ (lt_of_block HP7.out)).trans HP7.out) hi).1) Tryz.underlying62 rfl (by kernel_rfl)
 have hke : Keep (fun k => k = Q) w we := HK7.out.trans (Keep.of_below hbe)
 have HKE : Hid (Below w.heap.size w we) := hid (hke.below (Nat.le_refl _) (fun k e => by have e9 : k = Q := e; have := HBE.out; omega))
 have HBe := hid hbe
 have HLe := hid hle
 have HZe := hid hze
 clear hbe hze hle hke CE HD HLD
 by_cases he : E = 0
 · subst he
   have HE : Hid ((0 : Int) = 0) := hid rfl
   go_upto_region 12 with fail
   have HSF := hid (setRow_heap we B _ (#[(.int .i64 y0), (.slice y1 j1 c1), (.int .i64 y2), (.string y3), (.slice y4 j4 c4), (.slice y5 j5 c5), (.int .i64 y6), (.int .i64 y7), (.string y8), (.slice y9 j9 c9), (.bool y10), (.int .i64 y11), (.bool y12), (.string y13), (.int .i64 y14), (.slice y15 j15 c15)] : Array Value) _ _ HZe.out)
   have HKS := hid (setRow_keep we B (#[(.int .i64 y0), (.slice y1 j1 c1), (.int .i64 y2), (.string y3), (.slice y4 j4 c4), (.slice y5 j5 c5), (.int .i64 y6), (.int .i64 y7), (.string y8), (.slice y9 j9 c9), (.bool y10), (.int .i64 y11), (.bool y12), (.string y13), (.int .i64 y14), (.slice y15 j15 c15)] : Array Value))
   apply wp_region_lit
   refine Great.wpList_readTo rfl (some 36) rfl (.agg #[(.int .i64 y0), (.slice y1 j1 c1), (.int .i64 y2), (.string y3), (.slice y4 j4 c4), (.slice y5 j5 c5), (.int .i64 y6), (.int .i64 y7), (.string y8), (.slice y9 j9 c9), (.bool y10), (.int .i64 y11), (.bool y12), (.string y13), (.int .i64 y14), (.slice y15 j15 c15)]) (exec_load rfl HLe.out) ?_
   simp only [Act.put, jA, jB, jC, jD, jE, jF]
   refine Go.wpList_store_rowTo rfl 62 _ _ rfl rfl B #[(.int .i64 y0), (.slice y1 j1 c1), (.int .i64 y2), (.string y3), (.slice y4 j4 c4), (.slice y5 j5 c5), (.int .i64 y6), (.int .i64 y7), (.string y8), (.slice y9 j9 c9), (.bool y10), (.int .i64 y11), (.bool y12), (.string y13), (.int .i64 y14), (.slice y15 j15 c15)] rfl rfl 62 #[(.int .i64 0), (.slice none 0 0), (.int .i64 0), (.string ⟨#[]⟩), (.slice none 0 0), (.slice none 0 0), (.int .i64 0), (.int .i64 0), (.string ⟨#[]⟩), (.slice none 0 0), (.bool false), (.int .i64 0), (.bool false), (.string ⟨#[]⟩), (.int .i64 0), (.slice none 0 0)] HZe.out (by as_aux_lemma => kernel_rfl) rfl (by simp [Value.oneCell']) ?_
   generalize we.setRow B #[(.int .i64 y0), (.slice y1 j1 c1), (.int .i64 y2), (.string y3), (.slice y4 j4 c4), (.slice y5 j5 c5), (.int .i64 y6), (.int .i64 y7), (.string y8), (.slice y9 j9 c9), (.bool y10), (.int .i64 y11), (.bool y12), (.string y13), (.int .i64 y14), (.slice y15 j15 c15)] = uZ at *
   go_wp2_with fail
   refine bodyPost_ret (results_cell2 rfl _ _ B 62 _ (0, 0) _ rfl HSF.out Tryz.underlying62 rfl (by kernel_rfl)) rfl ?_
   have hkb : Below w.heap.size w uZ := ((Keep.of_below (X := fun k => k = B) HKE.out).trans HKS.out).below (Nat.le_refl _) (fun k e => by have e9 : k = B := e; have := HBE.out; omega)
   refine ⟨[(.int .i64 y0), (.slice y1 j1 c1), (.int .i64 y2), (.string y3), (.slice y4 j4 c4), (.slice y5 j5 c5), (.int .i64 y6), (.int .i64 y7), (.string y8), (.slice y9 j9 c9), (.bool y10), (.int .i64 y11), (.bool y12), (.string y13), (.int .i64 y14), (.slice y15 j15 c15)], by rw [← HEE.out]; rfl, fun e => ?_, fun e => absurd HEE.out.symm e, hkb⟩
   have hfz := HF.out.2 (HEb.out (by simp))
   rw [← hfz]
   have hku : Keep (fun k => k = B) u7 uZ := (Keep.of_below HBe.out).trans HKS.out
   exact EncN.mono (fun k hk => ⟨by have := HBE.out; have := hk.1; omega, Nat.lt_of_lt_of_le hk.2 hku.size⟩) _ (EncN.keep hku (fun k hk e => by have e9 : k = B := e; have := hk.1; omega) _ HF.out.1)
 · have HE := hid he
   have hne : (E != 0) = true := by simp [he]
   clear HLe
   go_upto_region 11 with fail
   have HSF := hid (setRow_heap we B _ (#[(.int .i64 0), (.slice none 0 0), (.int .i64 0), (.string ⟨#[]⟩), (.slice none 0 0), (.slice none 0 0), (.int .i64 0), (.int .i64 0), (.string ⟨#[]⟩), (.slice none 0 0), (.bool false), (.int .i64 0), (.bool false), (.string ⟨#[]⟩), (.int .i64 0), (.slice none 0 0)] : Array Value) _ _ HZe.out)
   have HKS := hid (setRow_keep we B (#[(.int .i64 0), (.slice none 0 0), (.int .i64 0), (.string ⟨#[]⟩), (.slice none 0 0), (.slice none 0 0), (.int .i64 0), (.int .i64 0), (.string ⟨#[]⟩), (.slice none 0 0), (.bool false), (.int .i64 0), (.bool false), (.string ⟨#[]⟩), (.int .i64 0), (.slice none 0 0)] : Array Value))
   apply wp_region_lit
   refine Great.wpList_readTo rfl (some 34) rfl (.agg #[(.int .i64 0), (.slice none 0 0), (.int .i64 0), (.string ⟨#[]⟩), (.slice none 0 0), (.slice none 0 0), (.int .i64 0), (.int .i64 0), (.string ⟨#[]⟩), (.slice none 0 0), (.bool false), (.int .i64 0), (.bool false), (.string ⟨#[]⟩), (.int .i64 0), (.slice none 0 0)]) (by as_aux_lemma => kernel_rfl) ?_
   simp only [Act.put, jA, jB, jC, jD, jE, jF]
   refine Great.wpList_readTo rfl (some 35) rfl (.int .i64 E) (by as_aux_lemma => kernel_rfl) ?_
   simp only [Act.put, jA, jB, jC, jD, jE, jF]
   refine Go.wpList_store_rowTo rfl 62 _ _ rfl rfl B #[(.int .i64 0), (.slice none 0 0), (.int .i64 0), (.string ⟨#[]⟩), (.slice none 0 0), (.slice none 0 0), (.int .i64 0), (.int .i64 0), (.string ⟨#[]⟩), (.slice none 0 0), (.bool false), (.int .i64 0), (.bool false), (.string ⟨#[]⟩), (.int .i64 0), (.slice none 0 0)] rfl rfl 62 #[(.int .i64 0), (.slice none 0 0), (.int .i64 0), (.string ⟨#[]⟩), (.slice none 0 0), (.slice none 0 0), (.int .i64 0), (.int .i64 0), (.string ⟨#[]⟩), (.slice none 0 0), (.bool false), (.int .i64 0), (.bool false), (.string ⟨#[]⟩), (.int .i64 0), (.slice none 0 0)] HZe.out (by as_aux_lemma => kernel_rfl) rfl (by simp [Value.oneCell']) ?_
   generalize we.setRow B #[(.int .i64 0), (.slice none 0 0), (.int .i64 0), (.string ⟨#[]⟩), (.slice none 0 0), (.slice none 0 0), (.int .i64 0), (.int .i64 0), (.string ⟨#[]⟩), (.slice none 0 0), (.bool false), (.int .i64 0), (.bool false), (.string ⟨#[]⟩), (.int .i64 0), (.slice none 0 0)] = uZ at *
   go_wp2_with fail
   refine bodyPost_ret (results_cell2 rfl _ _ B 62 _ (0, 0) _ rfl HSF.out Tryz.underlying62 rfl (by kernel_rfl)) rfl ?_
   have hkb : Below w.heap.size w uZ := ((Keep.of_below (X := fun k => k = B) HKE.out).trans HKS.out).below (Nat.le_refl _) (fun k e => by have e9 : k = B := e; have := HBE.out; omega)
   refine ⟨[(.int .i64 0), (.slice none 0 0), (.int .i64 0), (.string ⟨#[]⟩), (.slice none 0 0), (.slice none 0 0), (.int .i64 0), (.int .i64 0), (.string ⟨#[]⟩), (.slice none 0 0), (.bool false), (.int .i64 0), (.bool false), (.string ⟨#[]⟩), (.int .i64 0), (.slice none 0 0)], by rw [← HEE.out]; rfl, fun e => absurd (HEE.out.trans e) HE.out, fun _ => rfl, hkb⟩
end Go.Proofs.YtmdgifmigikffaaGreat
namespace Go.Proofs.YtmdgifmigikffaaGreat
open Go.RowKit Go.Deep
def SpS (w w' : World) : Prop := ∀ a u, w.cell? a = some u → w'.cell? a = some u ∨ ((∃ c, u = bv c) ∧ ∃ c', w'.cell? a = some (bv c'))
theorem SpS.refl (w : World) : SpS w w := fun a u h => .inl h
theorem SpS.trans {a b c : World} (h : SpS a b) (k : SpS b c) : SpS a c := by
 intro x u hx
 rcases h x u hx with h1 | ⟨h1, c1, h2⟩
 · exact k x u h1
 · rcases k x _ h2 with h3 | ⟨-, c3, h3⟩
   · exact .inr ⟨h1, c1, h3⟩
   · exact .inr ⟨h1, c3, h3⟩
theorem SpS.stay {w w' : World} (h : SpS w w') {a : Addr} {u : Value} (ha : w.cell? a = some u) (hu : ∀ c, u ≠ bv c) : w'.cell? a = some u := by
 rcases h a u ha with h1 | ⟨⟨c, h1⟩, -⟩
 · exact h1
 · exact absurd h1 (hu c)
theorem SpS.rd {w w' : World} (h : SpS w w') {x : Value} {l : List UInt8} (hx : Rd w x l) : ∃ l', Rd w' x l' ∧ l'.length = l.length := by
 obtain ⟨ao, c, rfl, h1, h2, h3, h4⟩ := hx
 cases ao with
 | none => exact ⟨l, ⟨none, c, rfl, h1, h2, h3, fun a e => by cases e⟩, rfl⟩
 | some a =>
  have hj : ∀ j : Nat, j < l.length → ∃ c', w'.cell? (a.add j) = some (bv c') := fun j hj => by
   have h5 := h4 a rfl j (bv l[j]) (by simp [hj])
   rcases h _ _ h5 with h6 | ⟨-, h6⟩
   · exact ⟨_, h6⟩
   · exact h6
  have hk : ∀ n : Nat, n ≤ l.length → ∃ l' : List UInt8, l'.length = n ∧ ∀ (j : Nat) u, (l'.map bv)[j]? = some u → w'.cell? (a.add j) = some u := by
   intro n
   induction n with
   | zero => intro _; exact ⟨[], rfl, fun j u e => by simp at e⟩
   | succ n ih =>
    intro hn
    obtain ⟨l', g1, g2⟩ := ih (by omega)
    obtain ⟨c', g3⟩ := hj n (by omega)
    refine ⟨l' ++ [c'], by simp [g1], fun j u e => ?_⟩
    rw [List.map_append] at e
    by_cases hjn : j < n
    · rw [List.getElem?_append_left (by simp [g1, hjn])] at e; exact g2 j u e
    · rw [List.getElem?_append_right (by simp [g1]; omega)] at e
      have : j - (l'.map bv).length = 0 := by
       by_cases h0 : j - (l'.map bv).length = 0
       · exact h0
       · rw [List.getElem?_eq_none (by simp at h0 ⊢; omega)] at e; cases e
      rw [this] at e
      obtain rfl : j = n := by simp [g1] at this; omega
      have e9 : bv c' = u := Option.some.inj e
      rw [← e9]; exact g3
  obtain ⟨l', g1, g2⟩ := hk l.length (Nat.le_refl _)
  exact ⟨l', ⟨some a, c, by rw [g1], by omega, h2, h3, fun b e => by cases e; exact g2⟩, g1⟩
theorem SpS.set {w : World} {a : Addr} {c : UInt8} (h : w.cell? a = some (bv c)) (c' : UInt8) : SpS w (w.setCell a (bv c')) := by
 intro b u hb
 by_cases e : b = a
 · subst e
   rw [h] at hb
   exact .inr ⟨⟨c, (Option.some.inj hb).symm⟩, c', World.cell?_setCell_same w _ _ h⟩
 · exact .inl ((World.cell?_setCell_other _ _ _ _ (fun h9 => e h9.symm)).trans hb)
theorem Thaw.set {w : World} {b o : Nat} {v : Value} {k : Nat} (h : Thaw w k) : Thaw (w.setCell ⟨b, o, none⟩ v) k := by
 obtain ⟨cs, t, h⟩ := h
 by_cases e : k = b
 · subst e
   refine ⟨cs.setIfInBounds o v, t, ?_⟩
   have hlt := lt_of_block h
   have h' : w.heap[k] = .cells cs t (0, 0) := by simpa [Array.getElem?_eq_getElem hlt] using h
   show (w.heap.modify k _)[k]? = _
   rw [Array.getElem?_eq_getElem (by simpa using hlt), Array.getElem_modify_self, h']
   rfl
 · exact ⟨cs, t, (Below.heap_setCell w ⟨b, o, none⟩ v k e).trans h⟩
theorem Thaw.frozen {w : World} {a : Addr} (h : Thaw w a.block) : w.frozen? a = false := by
 obtain ⟨cs, t, h⟩ := h; simp [World.frozen?, h]
def SpoilR (w : World) (x : Value) (en : Ending) (w' : World) : Prop := en = .returned (.tuple #[]) ∧ SpS w w' ∧ w.grownBy w' (blk x) ∧ ∀ k, Thaw w k → Thaw w' k
theorem xor_byte (c : UInt8) : ∃ c' : UInt8, Value.int .u8 (bits BinOp.xor IntKind.u8 (c.toNat : Int) 85) = bv c' := by
 have h : ∀ n : Fin 256, 0 ≤ bits BinOp.xor IntKind.u8 (n.val : Int) 85 ∧ bits BinOp.xor IntKind.u8 (n.val : Int) 85 < 256 := by decide +kernel
 have h1 := h ⟨c.toNat, UInt8.toNat_lt c⟩
 simp only at h1
 refine ⟨UInt8.ofNat (bits BinOp.xor IntKind.u8 (c.toNat : Int) 85).toNat, ?_⟩
 unfold bv
 rw [UInt8.toNat_ofNat']
 congr 1
 omega
set_option maxHeartbeats 2000000 in
theorem spoil_rd {w : World} {x : Value} {l : List UInt8} (hx : Rd w x l) (hz : ∀ k, blk x = some k → Thaw w k) :
 Calls Tryz.prog 21 #[x] w (SpoilR w x) := by
 by_cases hl : l = []
 · subst hl
   obtain ⟨ao, c, rfl, -⟩ := hx
   clear hz
   go_enter Tryz.func21, Tryz.ntmps21
   go_wp2_with fail
   refine wp_loop_rounds 1 ?_
   rw [rounds_succ]
   go_wp2_with fail
   go_end0
   exact ⟨rfl, SpS.refl _, World.grownBy.refl _ _, fun k h => h⟩
 · have hlen : 0 < l.length := List.length_pos_iff.2 hl
   have hx9 := hx
   obtain ⟨b, off, cp, rfl, h1, h2, hc⟩ := hx9.at hlen
   have hz1 := hz b rfl
   have HX := hid hx
   have HZ := hid hz1
   have H2 := hid h2
   clear hc hx hz hz1 hl hx9
   go_enter Tryz.func21, Tryz.ntmps21
   go_wp2_with fail
   go_loopw [2] (fun i wr => ∃ (k : Nat) (lr : List UInt8), k ≤ l.length ∧ i = .int .i64 (k : Int) ∧ lr.length = l.length ∧ Rd wr (.slice (some ⟨b, off, none⟩) lr.length cp) lr ∧ SpS w wr ∧ w.grownBy wr (some b) ∧ (∀ k, Thaw w k → Thaw wr k))
    (fun i _ => l.length - (intOf i).toNat)
   case atStart => exact ⟨0, l, by omega, rfl, rfl, HX.out, SpS.refl _, World.grownBy.refl _ _, fun k h => h⟩
   case round =>
    obtain ⟨k, lr, hk, rfl, hlr, hrd, hsp, hg, ht⟩ := hrel
    by_cases hlt : k < l.length
    · obtain ⟨b', off', cp', e9, -, -, hc⟩ := hrd.at (by omega)
      obtain ⟨rfl, rfl, -, rfl⟩ : b = b' ∧ off = off' ∧ True ∧ cp = cp' := by injection e9 with e1 e2 e3; injection e1 with e1; injection e1 with e4 e5; exact ⟨e4, e5, trivial, e3⟩
      have hc1 := hc k (by omega)
      generalize lr[k]'(by omega) = cc at *
      have hf1 : wr.frozen? ⟨b, off + k, none⟩ = false := (ht b HZ.out).frozen
      obtain ⟨c', hc'⟩ := xor_byte cc
      have hsw := SpS.set (show wr.cell? ⟨b, off + k, none⟩ = some (bv cc) from hc1) c'
      have HS := hid (hsp.trans hsw)
      obtain ⟨l9, hl9, hl9e⟩ := hsw.rd hrd
      have HL9 := hid hl9
      have HLE := hid (hl9e.trans hlr)
      have HG := hid (grown_trans hg (grown_set wr ⟨b, off + k, none⟩ (bv c')))
      have HT := hid (fun j (hj : Thaw w j) => Thaw.set (b := b) (o := off + k) (v := bv c') (ht j hj))
      have HC := hid hc'
      clear hc hrd hsp hg ht hsw hl9 hl9e e9 hc'
      go_wp2_with fail
      rw [HC.out]
      have h7 : lr.length = l9.length := hlr.trans HLE.out.symm
      have h8 := HL9.out
      rw [h7] at h8
      have h6 : (k : Int) + 1 ≤ 9223372036854775807 := by have h5 := H2.out; unfold maxLen at h5; omega
      have h4 : (l.length : Int) ≤ 9223372036854775807 := by have h5 := H2.out; unfold maxLen at h5; omega
      have h5 : Value.int .i64 (wrap64 ((k : Int) + 1)) = .int .i64 ((k + 1 : Nat) : Int) := by
       have h3 : wrap64 ((k : Int) + 1) = (k : Int) + 1 := by simp only [wrap64]; omega
       rw [h3]; rfl
      rw [h5]
      exact ⟨⟨k + 1, l9, hlt, rfl, HLE.out, h8, HS.out, HG.out, HT.out⟩, Nat.sub_lt_sub_left hlt (Nat.lt_succ_self k)⟩
    · have hg' := hid hg
      have hs' := hid hsp
      have ht' := hid ht
      clear hrd hg hsp ht
      go_wp2_with fail
      go_end0
      exact ⟨rfl, hs'.out, hg'.out, ht'.out⟩
end Go.Proofs.YtmdgifmigikffaaGreat
namespace Go.Proofs.YtmdgifmigikffaaGreat
open Go.RowKit Go.Deep
theorem Value_twin {W : World} {c1 c2 : List Value} (h : Twin W sValue c1 c2) : ∃ (v0 v1 v2 u0 u1 u2 : Value), c1 = [v0, v1, v2] ∧ c2 = [u0, u1, u2] ∧ Twin W .int [v0] [u0] ∧ Twin W .int [v1] [u1] ∧ Twin W .name [v2] [u2] := by
 unfold sValue at h
 obtain ⟨x0, y0, p0, q0, rfl, rfl, f0, h0⟩ := h.cons
 obtain ⟨v0, u0, rfl, rfl, e0⟩ := f0.one rfl
 obtain ⟨x1, y1, p1, q1, rfl, rfl, f1, h1⟩ := h0.cons
 obtain ⟨v1, u1, rfl, rfl, e1⟩ := f1.one rfl
 obtain ⟨x2, y2, p2, q2, rfl, rfl, f2, h2⟩ := h1.cons
 obtain ⟨v2, u2, rfl, rfl, e2⟩ := f2.one rfl
 obtain ⟨rfl, rfl⟩ := h2.nil
 exact ⟨v0, v1, v2, u0, u1, u2, rfl, rfl, e0, e1, e2⟩
theorem Column_twin {W : World} {c1 c2 : List Value} (h : Twin W sColumn c1 c2) : ∃ (v0 v1 v2 u0 u1 u2 : Value), c1 = [v0, v1, v2] ∧ c2 = [u0, u1, u2] ∧ Twin W .name [v0] [u0] ∧ Twin W .int [v1] [u1] ∧ Twin W .bool [v2] [u2] := by
 unfold sColumn at h
 obtain ⟨x0, y0, p0, q0, rfl, rfl, f0, h0⟩ := h.cons
 obtain ⟨v0, u0, rfl, rfl, e0⟩ := f0.one rfl
 obtain ⟨x1, y1, p1, q1, rfl, rfl, f1, h1⟩ := h0.cons
 obtain ⟨v1, u1, rfl, rfl, e1⟩ := f1.one rfl
 obtain ⟨x2, y2, p2, q2, rfl, rfl, f2, h2⟩ := h1.cons
 obtain ⟨v2, u2, rfl, rfl, e2⟩ := f2.one rfl
 obtain ⟨rfl, rfl⟩ := h2.nil
 exact ⟨v0, v1, v2, u0, u1, u2, rfl, rfl, e0, e1, e2⟩
theorem Table_twin {W : World} {c1 c2 : List Value} (h : Twin W sTable c1 c2) : ∃ (v0 v1 v2 v3 u0 u1 u2 u3 : Value), c1 = [v0, v1, v2, v3] ∧ c2 = [u0, u1, u2, u3] ∧ Twin W .int [v0] [u0] ∧ Twin W .name [v1] [u1] ∧ Twin W (.list sColumn) [v2] [u2] ∧ Twin W (.list .int) [v3] [u3] := by
 unfold sTable at h
 obtain ⟨x0, y0, p0, q0, rfl, rfl, f0, h0⟩ := h.cons
 obtain ⟨v0, u0, rfl, rfl, e0⟩ := f0.one rfl
 obtain ⟨x1, y1, p1, q1, rfl, rfl, f1, h1⟩ := h0.cons
 obtain ⟨v1, u1, rfl, rfl, e1⟩ := f1.one rfl
 obtain ⟨x2, y2, p2, q2, rfl, rfl, f2, h2⟩ := h1.cons
 obtain ⟨v2, u2, rfl, rfl, e2⟩ := f2.one rfl
 obtain ⟨x3, y3, p3, q3, rfl, rfl, f3, h3⟩ := h2.cons
 obtain ⟨v3, u3, rfl, rfl, e3⟩ := f3.one rfl
 obtain ⟨rfl, rfl⟩ := h3.nil
 exact ⟨v0, v1, v2, v3, u0, u1, u2, u3, rfl, rfl, e0, e1, e2, e3⟩
theorem Index_twin {W : World} {c1 c2 : List Value} (h : Twin W sIndex c1 c2) : ∃ (v0 v1 v2 v3 v4 v5 v6 u0 u1 u2 u3 u4 u5 u6 : Value), c1 = [v0, v1, v2, v3, v4, v5, v6] ∧ c2 = [u0, u1, u2, u3, u4, u5, u6] ∧ Twin W .int [v0] [u0] ∧ Twin W .int [v1] [u1] ∧ Twin W .name [v2] [u2] ∧ Twin W (.list .int) [v3] [u3] ∧ Twin W .bool [v4] [u4] ∧ Twin W .int [v5] [u5] ∧ Twin W .bool [v6] [u6] := by
 unfold sIndex at h
 obtain ⟨x0, y0, p0, q0, rfl, rfl, f0, h0⟩ := h.cons
 obtain ⟨v0, u0, rfl, rfl, e0⟩ := f0.one rfl
 obtain ⟨x1, y1, p1, q1, rfl, rfl, f1, h1⟩ := h0.cons
 obtain ⟨v1, u1, rfl, rfl, e1⟩ := f1.one rfl
 obtain ⟨x2, y2, p2, q2, rfl, rfl, f2, h2⟩ := h1.cons
 obtain ⟨v2, u2, rfl, rfl, e2⟩ := f2.one rfl
 obtain ⟨x3, y3, p3, q3, rfl, rfl, f3, h3⟩ := h2.cons
 obtain ⟨v3, u3, rfl, rfl, e3⟩ := f3.one rfl
 obtain ⟨x4, y4, p4, q4, rfl, rfl, f4, h4⟩ := h3.cons
 obtain ⟨v4, u4, rfl, rfl, e4⟩ := f4.one rfl
 obtain ⟨x5, y5, p5, q5, rfl, rfl, f5, h5⟩ := h4.cons
 obtain ⟨v5, u5, rfl, rfl, e5⟩ := f5.one rfl
 obtain ⟨x6, y6, p6, q6, rfl, rfl, f6, h6⟩ := h5.cons
 obtain ⟨v6, u6, rfl, rfl, e6⟩ := f6.one rfl
 obtain ⟨rfl, rfl⟩ := h6.nil
 exact ⟨v0, v1, v2, v3, v4, v5, v6, u0, u1, u2, u3, u4, u5, u6, rfl, rfl, e0, e1, e2, e3, e4, e5, e6⟩
theorem Catalog_twin {W : World} {c1 c2 : List Value} (h : Twin W sCatalog c1 c2) : ∃ (v0 v1 v2 v3 u0 u1 u2 u3 : Value), c1 = [v0, v1, v2, v3] ∧ c2 = [u0, u1, u2, u3] ∧ Twin W .int [v0] [u0] ∧ Twin W .int [v1] [u1] ∧ Twin W (.list sTable) [v2] [u2] ∧ Twin W (.list sIndex) [v3] [u3] := by
 unfold sCatalog at h
 obtain ⟨x0, y0, p0, q0, rfl, rfl, f0, h0⟩ := h.cons
 obtain ⟨v0, u0, rfl, rfl, e0⟩ := f0.one rfl
 obtain ⟨x1, y1, p1, q1, rfl, rfl, f1, h1⟩ := h0.cons
 obtain ⟨v1, u1, rfl, rfl, e1⟩ := f1.one rfl
 obtain ⟨x2, y2, p2, q2, rfl, rfl, f2, h2⟩ := h1.cons
 obtain ⟨v2, u2, rfl, rfl, e2⟩ := f2.one rfl
 obtain ⟨x3, y3, p3, q3, rfl, rfl, f3, h3⟩ := h2.cons
 obtain ⟨v3, u3, rfl, rfl, e3⟩ := f3.one rfl
 obtain ⟨rfl, rfl⟩ := h3.nil
 exact ⟨v0, v1, v2, v3, u0, u1, u2, u3, rfl, rfl, e0, e1, e2, e3⟩
theorem Pair_twin {W : World} {c1 c2 : List Value} (h : Twin W sPair c1 c2) : ∃ (v0 v1 v2 u0 u1 u2 : Value), c1 = [v0, v1, v2] ∧ c2 = [u0, u1, u2] ∧ Twin W .data [v0] [u0] ∧ Twin W .data [v1] [u1] ∧ Twin W .int [v2] [u2] := by
 unfold sPair at h
 obtain ⟨x0, y0, p0, q0, rfl, rfl, f0, h0⟩ := h.cons
 obtain ⟨v0, u0, rfl, rfl, e0⟩ := f0.one rfl
 obtain ⟨x1, y1, p1, q1, rfl, rfl, f1, h1⟩ := h0.cons
 obtain ⟨v1, u1, rfl, rfl, e1⟩ := f1.one rfl
 obtain ⟨x2, y2, p2, q2, rfl, rfl, f2, h2⟩ := h1.cons
 obtain ⟨v2, u2, rfl, rfl, e2⟩ := f2.one rfl
 obtain ⟨rfl, rfl⟩ := h2.nil
 exact ⟨v0, v1, v2, u0, u1, u2, rfl, rfl, e0, e1, e2⟩
theorem Write_twin {W : World} {c1 c2 : List Value} (h : Twin W sWrite c1 c2) : ∃ (v0 v1 v2 u0 u1 u2 : Value), c1 = [v0, v1, v2] ∧ c2 = [u0, u1, u2] ∧ Twin W .data [v0] [u0] ∧ Twin W .data [v1] [u1] ∧ Twin W .bool [v2] [u2] := by
 unfold sWrite at h
 obtain ⟨x0, y0, p0, q0, rfl, rfl, f0, h0⟩ := h.cons
 obtain ⟨v0, u0, rfl, rfl, e0⟩ := f0.one rfl
 obtain ⟨x1, y1, p1, q1, rfl, rfl, f1, h1⟩ := h0.cons
 obtain ⟨v1, u1, rfl, rfl, e1⟩ := f1.one rfl
 obtain ⟨x2, y2, p2, q2, rfl, rfl, f2, h2⟩ := h1.cons
 obtain ⟨v2, u2, rfl, rfl, e2⟩ := f2.one rfl
 obtain ⟨rfl, rfl⟩ := h2.nil
 exact ⟨v0, v1, v2, u0, u1, u2, rfl, rfl, e0, e1, e2⟩
theorem Span_twin {W : World} {c1 c2 : List Value} (h : Twin W sSpan c1 c2) : ∃ (v0 v1 u0 u1 : Value), c1 = [v0, v1] ∧ c2 = [u0, u1] ∧ Twin W .data [v0] [u0] ∧ Twin W .data [v1] [u1] := by
 unfold sSpan at h
 obtain ⟨x0, y0, p0, q0, rfl, rfl, f0, h0⟩ := h.cons
 obtain ⟨v0, u0, rfl, rfl, e0⟩ := f0.one rfl
 obtain ⟨x1, y1, p1, q1, rfl, rfl, f1, h1⟩ := h0.cons
 obtain ⟨v1, u1, rfl, rfl, e1⟩ := f1.one rfl
 obtain ⟨rfl, rfl⟩ := h1.nil
 exact ⟨v0, v1, u0, u1, rfl, rfl, e0, e1⟩
theorem Seen_twin {W : World} {c1 c2 : List Value} (h : Twin W sSeen c1 c2) : ∃ (v0 v1 v2 u0 u1 u2 : Value), c1 = [v0, v1, v2] ∧ c2 = [u0, u1, u2] ∧ Twin W .data [v0] [u0] ∧ Twin W .data [v1] [u1] ∧ Twin W (.list sPair) [v2] [u2] := by
 unfold sSeen at h
 obtain ⟨x0, y0, p0, q0, rfl, rfl, f0, h0⟩ := h.cons
 obtain ⟨v0, v1, u0, u1, rfl, rfl, e0, e1⟩ := Span_twin f0
 obtain ⟨x2, y2, p2, q2, rfl, rfl, f2, h2⟩ := h0.cons
 obtain ⟨v2, u2, rfl, rfl, e2⟩ := f2.one rfl
 obtain ⟨rfl, rfl⟩ := h2.nil
 exact ⟨v0, v1, v2, u0, u1, u2, rfl, rfl, e0, e1, e2⟩
theorem Command_twin {W : World} {c1 c2 : List Value} (h : Twin W sCommand c1 c2) : ∃ (v0 v1 v2 v3 v4 v5 v6 v7 v8 v9 v10 v11 v12 v13 v14 v15 v16 v17 v18 v19 v20 v21 v22 v23 v24 u0 u1 u2 u3 u4 u5 u6 u7 u8 u9 u10 u11 u12 u13 u14 u15 u16 u17 u18 u19 u20 u21 u22 u23 u24 : Value), c1 = [v0, v1, v2, v3, v4, v5, v6, v7, v8, v9, v10, v11, v12, v13, v14, v15, v16, v17, v18, v19, v20, v21, v22, v23, v24] ∧ c2 = [u0, u1, u2, u3, u4, u5, u6, u7, u8, u9, u10, u11, u12, u13, u14, u15, u16, u17, u18, u19, u20, u21, u22, u23, u24] ∧ Twin W .int [v0] [u0] ∧ Twin W .int [v1] [u1] ∧ Twin W .num [v2] [u2] ∧ Twin W .int [v3] [u3] ∧ Twin W .int [v4] [u4] ∧ Twin W .int [v5] [u5] ∧ Twin W .bool [v6] [u6] ∧ Twin W .data [v7] [u7] ∧ Twin W .data [v8] [u8] ∧ Twin W .data [v9] [u9] ∧ Twin W (.list sPair) [v10] [u10] ∧ Twin W (.list sSeen) [v11] [u11] ∧ Twin W (.list sWrite) [v12] [u12] ∧ Twin W .int [v13] [u13] ∧ Twin W .name [v14] [u14] ∧ Twin W (.list sColumn) [v15] [u15] ∧ Twin W (.list .int) [v16] [u16] ∧ Twin W .int [v17] [u17] ∧ Twin W .int [v18] [u18] ∧ Twin W .name [v19] [u19] ∧ Twin W (.list .int) [v20] [u20] ∧ Twin W .bool [v21] [u21] ∧ Twin W .int [v22] [u22] ∧ Twin W .bool [v23] [u23] ∧ Twin W .name [v24] [u24] := by
 unfold sCommand at h
 obtain ⟨x0, y0, p0, q0, rfl, rfl, f0, h0⟩ := h.cons
 obtain ⟨v0, u0, rfl, rfl, e0⟩ := f0.one rfl
 obtain ⟨x1, y1, p1, q1, rfl, rfl, f1, h1⟩ := h0.cons
 obtain ⟨v1, u1, rfl, rfl, e1⟩ := f1.one rfl
 obtain ⟨x2, y2, p2, q2, rfl, rfl, f2, h2⟩ := h1.cons
 obtain ⟨v2, u2, rfl, rfl, e2⟩ := f2.one rfl
 obtain ⟨x3, y3, p3, q3, rfl, rfl, f3, h3⟩ := h2.cons
 obtain ⟨v3, u3, rfl, rfl, e3⟩ := f3.one rfl
 obtain ⟨x4, y4, p4, q4, rfl, rfl, f4, h4⟩ := h3.cons
 obtain ⟨v4, u4, rfl, rfl, e4⟩ := f4.one rfl
 obtain ⟨x5, y5, p5, q5, rfl, rfl, f5, h5⟩ := h4.cons
 obtain ⟨v5, u5, rfl, rfl, e5⟩ := f5.one rfl
 obtain ⟨x6, y6, p6, q6, rfl, rfl, f6, h6⟩ := h5.cons
 obtain ⟨v6, u6, rfl, rfl, e6⟩ := f6.one rfl
 obtain ⟨x7, y7, p7, q7, rfl, rfl, f7, h7⟩ := h6.cons
 obtain ⟨v7, u7, rfl, rfl, e7⟩ := f7.one rfl
 obtain ⟨x8, y8, p8, q8, rfl, rfl, f8, h8⟩ := h7.cons
 obtain ⟨v8, v9, u8, u9, rfl, rfl, e8, e9⟩ := Span_twin f8
 obtain ⟨x10, y10, p10, q10, rfl, rfl, f10, h10⟩ := h8.cons
 obtain ⟨v10, u10, rfl, rfl, e10⟩ := f10.one rfl
 obtain ⟨x11, y11, p11, q11, rfl, rfl, f11, h11⟩ := h10.cons
 obtain ⟨v11, u11, rfl, rfl, e11⟩ := f11.one rfl
 obtain ⟨x12, y12, p12, q12, rfl, rfl, f12, h12⟩ := h11.cons
 obtain ⟨v12, u12, rfl, rfl, e12⟩ := f12.one rfl
 obtain ⟨x13, y13, p13, q13, rfl, rfl, f13, h13⟩ := h12.cons
 obtain ⟨v13, v14, v15, v16, u13, u14, u15, u16, rfl, rfl, e13, e14, e15, e16⟩ := Table_twin f13
 obtain ⟨x17, y17, p17, q17, rfl, rfl, f17, h17⟩ := h13.cons
 obtain ⟨v17, v18, v19, v20, v21, v22, v23, u17, u18, u19, u20, u21, u22, u23, rfl, rfl, e17, e18, e19, e20, e21, e22, e23⟩ := Index_twin f17
 obtain ⟨x24, y24, p24, q24, rfl, rfl, f24, h24⟩ := h17.cons
 obtain ⟨v24, u24, rfl, rfl, e24⟩ := f24.one rfl
 obtain ⟨rfl, rfl⟩ := h24.nil
 exact ⟨v0, v1, v2, v3, v4, v5, v6, v7, v8, v9, v10, v11, v12, v13, v14, v15, v16, v17, v18, v19, v20, v21, v22, v23, v24, u0, u1, u2, u3, u4, u5, u6, u7, u8, u9, u10, u11, u12, u13, u14, u15, u16, u17, u18, u19, u20, u21, u22, u23, u24, rfl, rfl, e0, e1, e2, e3, e4, e5, e6, e7, e8, e9, e10, e11, e12, e13, e14, e15, e16, e17, e18, e19, e20, e21, e22, e23, e24⟩
theorem Owner_twin {W : World} {c1 c2 : List Value} (h : Twin W sOwner c1 c2) : ∃ (v0 v1 u0 u1 : Value), c1 = [v0, v1] ∧ c2 = [u0, u1] ∧ Twin W .int [v0] [u0] ∧ Twin W .data [v1] [u1] := by
 unfold sOwner at h
 obtain ⟨x0, y0, p0, q0, rfl, rfl, f0, h0⟩ := h.cons
 obtain ⟨v0, u0, rfl, rfl, e0⟩ := f0.one rfl
 obtain ⟨x1, y1, p1, q1, rfl, rfl, f1, h1⟩ := h0.cons
 obtain ⟨v1, u1, rfl, rfl, e1⟩ := f1.one rfl
 obtain ⟨rfl, rfl⟩ := h1.nil
 exact ⟨v0, v1, u0, u1, rfl, rfl, e0, e1⟩
theorem Routes_twin {W : World} {c1 c2 : List Value} (h : Twin W sRoutes c1 c2) : ∃ (v0 v1 v2 v3 v4 u0 u1 u2 u3 u4 : Value), c1 = [v0, v1, v2, v3, v4] ∧ c2 = [u0, u1, u2, u3, u4] ∧ Twin W .int [v0] [u0] ∧ Twin W .int [v1] [u1] ∧ Twin W (.list sOwner) [v2] [u2] ∧ Twin W .int [v3] [u3] ∧ Twin W .data [v4] [u4] := by
 unfold sRoutes at h
 obtain ⟨x0, y0, p0, q0, rfl, rfl, f0, h0⟩ := h.cons
 obtain ⟨v0, u0, rfl, rfl, e0⟩ := f0.one rfl
 obtain ⟨x1, y1, p1, q1, rfl, rfl, f1, h1⟩ := h0.cons
 obtain ⟨v1, u1, rfl, rfl, e1⟩ := f1.one rfl
 obtain ⟨x2, y2, p2, q2, rfl, rfl, f2, h2⟩ := h1.cons
 obtain ⟨v2, u2, rfl, rfl, e2⟩ := f2.one rfl
 obtain ⟨x3, y3, p3, q3, rfl, rfl, f3, h3⟩ := h2.cons
 obtain ⟨v3, u3, rfl, rfl, e3⟩ := f3.one rfl
 obtain ⟨x4, y4, p4, q4, rfl, rfl, f4, h4⟩ := h3.cons
 obtain ⟨v4, u4, rfl, rfl, e4⟩ := f4.one rfl
 obtain ⟨rfl, rfl⟩ := h4.nil
 exact ⟨v0, v1, v2, v3, v4, u0, u1, u2, u3, u4, rfl, rfl, e0, e1, e2, e3, e4⟩
theorem Reply_twin {W : World} {c1 c2 : List Value} (h : Twin W sReply c1 c2) : ∃ (v0 v1 v2 v3 v4 v5 v6 v7 v8 v9 v10 v11 v12 v13 v14 u0 u1 u2 u3 u4 u5 u6 u7 u8 u9 u10 u11 u12 u13 u14 : Value), c1 = [v0, v1, v2, v3, v4, v5, v6, v7, v8, v9, v10, v11, v12, v13, v14] ∧ c2 = [u0, u1, u2, u3, u4, u5, u6, u7, u8, u9, u10, u11, u12, u13, u14] ∧ Twin W .int [v0] [u0] ∧ Twin W .num [v1] [u1] ∧ Twin W .int [v2] [u2] ∧ Twin W .bool [v3] [u3] ∧ Twin W (.list sPair) [v4] [u4] ∧ Twin W (.list .num) [v5] [u5] ∧ Twin W .int [v6] [u6] ∧ Twin W .int [v7] [u7] ∧ Twin W (.list sTable) [v8] [u8] ∧ Twin W (.list sIndex) [v9] [u9] ∧ Twin W .int [v10] [u10] ∧ Twin W .int [v11] [u11] ∧ Twin W (.list sOwner) [v12] [u12] ∧ Twin W .int [v13] [u13] ∧ Twin W .data [v14] [u14] := by
 unfold sReply at h
 obtain ⟨x0, y0, p0, q0, rfl, rfl, f0, h0⟩ := h.cons
 obtain ⟨v0, u0, rfl, rfl, e0⟩ := f0.one rfl
 obtain ⟨x1, y1, p1, q1, rfl, rfl, f1, h1⟩ := h0.cons
 obtain ⟨v1, u1, rfl, rfl, e1⟩ := f1.one rfl
 obtain ⟨x2, y2, p2, q2, rfl, rfl, f2, h2⟩ := h1.cons
 obtain ⟨v2, u2, rfl, rfl, e2⟩ := f2.one rfl
 obtain ⟨x3, y3, p3, q3, rfl, rfl, f3, h3⟩ := h2.cons
 obtain ⟨v3, u3, rfl, rfl, e3⟩ := f3.one rfl
 obtain ⟨x4, y4, p4, q4, rfl, rfl, f4, h4⟩ := h3.cons
 obtain ⟨v4, u4, rfl, rfl, e4⟩ := f4.one rfl
 obtain ⟨x5, y5, p5, q5, rfl, rfl, f5, h5⟩ := h4.cons
 obtain ⟨v5, u5, rfl, rfl, e5⟩ := f5.one rfl
 obtain ⟨x6, y6, p6, q6, rfl, rfl, f6, h6⟩ := h5.cons
 obtain ⟨v6, v7, v8, v9, u6, u7, u8, u9, rfl, rfl, e6, e7, e8, e9⟩ := Catalog_twin f6
 obtain ⟨x10, y10, p10, q10, rfl, rfl, f10, h10⟩ := h6.cons
 obtain ⟨v10, v11, v12, v13, v14, u10, u11, u12, u13, u14, rfl, rfl, e10, e11, e12, e13, e14⟩ := Routes_twin f10
 obtain ⟨rfl, rfl⟩ := h10.nil
 exact ⟨v0, v1, v2, v3, v4, v5, v6, v7, v8, v9, v10, v11, v12, v13, v14, u0, u1, u2, u3, u4, u5, u6, u7, u8, u9, u10, u11, u12, u13, u14, rfl, rfl, e0, e1, e2, e3, e4, e5, e6, e7, e8, e9, e10, e11, e12, e13, e14⟩
theorem Set_twin {W : World} {c1 c2 : List Value} (h : Twin W sSet c1 c2) : ∃ (v0 v1 v2 v3 u0 u1 u2 u3 : Value), c1 = [v0, v1, v2, v3] ∧ c2 = [u0, u1, u2, u3] ∧ Twin W .int [v0] [u0] ∧ Twin W .int [v1] [u1] ∧ Twin W .int [v2] [u2] ∧ Twin W .name [v3] [u3] := by
 unfold sSet at h
 obtain ⟨x0, y0, p0, q0, rfl, rfl, f0, h0⟩ := h.cons
 obtain ⟨v0, u0, rfl, rfl, e0⟩ := f0.one rfl
 obtain ⟨x1, y1, p1, q1, rfl, rfl, f1, h1⟩ := h0.cons
 obtain ⟨v1, v2, v3, u1, u2, u3, rfl, rfl, e1, e2, e3⟩ := Value_twin f1
 obtain ⟨rfl, rfl⟩ := h1.nil
 exact ⟨v0, v1, v2, v3, u0, u1, u2, u3, rfl, rfl, e0, e1, e2, e3⟩
theorem Op_twin {W : World} {c1 c2 : List Value} (h : Twin W sOp c1 c2) : ∃ (v0 v1 v2 v3 v4 v5 v6 v7 v8 v9 v10 u0 u1 u2 u3 u4 u5 u6 u7 u8 u9 u10 : Value), c1 = [v0, v1, v2, v3, v4, v5, v6, v7, v8, v9, v10] ∧ c2 = [u0, u1, u2, u3, u4, u5, u6, u7, u8, u9, u10] ∧ Twin W .int [v0] [u0] ∧ Twin W .name [v1] [u1] ∧ Twin W .name [v2] [u2] ∧ Twin W (.list sValue) [v3] [u3] ∧ Twin W (.list sValue) [v4] [u4] ∧ Twin W (.list sSet) [v5] [u5] ∧ Twin W (.list sValue) [v6] [u6] ∧ Twin W (.list sValue) [v7] [u7] ∧ Twin W .int [v8] [u8] ∧ Twin W .bool [v9] [u9] ∧ Twin W (.list .data) [v10] [u10] := by
 unfold sOp at h
 obtain ⟨x0, y0, p0, q0, rfl, rfl, f0, h0⟩ := h.cons
 obtain ⟨v0, u0, rfl, rfl, e0⟩ := f0.one rfl
 obtain ⟨x1, y1, p1, q1, rfl, rfl, f1, h1⟩ := h0.cons
 obtain ⟨v1, u1, rfl, rfl, e1⟩ := f1.one rfl
 obtain ⟨x2, y2, p2, q2, rfl, rfl, f2, h2⟩ := h1.cons
 obtain ⟨v2, u2, rfl, rfl, e2⟩ := f2.one rfl
 obtain ⟨x3, y3, p3, q3, rfl, rfl, f3, h3⟩ := h2.cons
 obtain ⟨v3, u3, rfl, rfl, e3⟩ := f3.one rfl
 obtain ⟨x4, y4, p4, q4, rfl, rfl, f4, h4⟩ := h3.cons
 obtain ⟨v4, u4, rfl, rfl, e4⟩ := f4.one rfl
 obtain ⟨x5, y5, p5, q5, rfl, rfl, f5, h5⟩ := h4.cons
 obtain ⟨v5, u5, rfl, rfl, e5⟩ := f5.one rfl
 obtain ⟨x6, y6, p6, q6, rfl, rfl, f6, h6⟩ := h5.cons
 obtain ⟨v6, u6, rfl, rfl, e6⟩ := f6.one rfl
 obtain ⟨x7, y7, p7, q7, rfl, rfl, f7, h7⟩ := h6.cons
 obtain ⟨v7, u7, rfl, rfl, e7⟩ := f7.one rfl
 obtain ⟨x8, y8, p8, q8, rfl, rfl, f8, h8⟩ := h7.cons
 obtain ⟨v8, u8, rfl, rfl, e8⟩ := f8.one rfl
 obtain ⟨x9, y9, p9, q9, rfl, rfl, f9, h9⟩ := h8.cons
 obtain ⟨v9, u9, rfl, rfl, e9⟩ := f9.one rfl
 obtain ⟨x10, y10, p10, q10, rfl, rfl, f10, h10⟩ := h9.cons
 obtain ⟨v10, u10, rfl, rfl, e10⟩ := f10.one rfl
 obtain ⟨rfl, rfl⟩ := h10.nil
 exact ⟨v0, v1, v2, v3, v4, v5, v6, v7, v8, v9, v10, u0, u1, u2, u3, u4, u5, u6, u7, u8, u9, u10, rfl, rfl, e0, e1, e2, e3, e4, e5, e6, e7, e8, e9, e10⟩
theorem Ask_twin {W : World} {c1 c2 : List Value} (h : Twin W sAsk c1 c2) : ∃ (v0 v1 v2 v3 v4 v5 v6 v7 v8 v9 v10 v11 v12 v13 v14 v15 u0 u1 u2 u3 u4 u5 u6 u7 u8 u9 u10 u11 u12 u13 u14 u15 : Value), c1 = [v0, v1, v2, v3, v4, v5, v6, v7, v8, v9, v10, v11, v12, v13, v14, v15] ∧ c2 = [u0, u1, u2, u3, u4, u5, u6, u7, u8, u9, u10, u11, u12, u13, u14, u15] ∧ Twin W .int [v0] [u0] ∧ Twin W (.list sOp) [v1] [u1] ∧ Twin W .int [v2] [u2] ∧ Twin W .name [v3] [u3] ∧ Twin W (.list sColumn) [v4] [u4] ∧ Twin W (.list .int) [v5] [u5] ∧ Twin W .int [v6] [u6] ∧ Twin W .int [v7] [u7] ∧ Twin W .name [v8] [u8] ∧ Twin W (.list .int) [v9] [u9] ∧ Twin W .bool [v10] [u10] ∧ Twin W .int [v11] [u11] ∧ Twin W .bool [v12] [u12] ∧ Twin W .name [v13] [u13] ∧ Twin W .int [v14] [u14] ∧ Twin W .data [v15] [u15] := by
 unfold sAsk at h
 obtain ⟨x0, y0, p0, q0, rfl, rfl, f0, h0⟩ := h.cons
 obtain ⟨v0, u0, rfl, rfl, e0⟩ := f0.one rfl
 obtain ⟨x1, y1, p1, q1, rfl, rfl, f1, h1⟩ := h0.cons
 obtain ⟨v1, u1, rfl, rfl, e1⟩ := f1.one rfl
 obtain ⟨x2, y2, p2, q2, rfl, rfl, f2, h2⟩ := h1.cons
 obtain ⟨v2, v3, v4, v5, u2, u3, u4, u5, rfl, rfl, e2, e3, e4, e5⟩ := Table_twin f2
 obtain ⟨x6, y6, p6, q6, rfl, rfl, f6, h6⟩ := h2.cons
 obtain ⟨v6, v7, v8, v9, v10, v11, v12, u6, u7, u8, u9, u10, u11, u12, rfl, rfl, e6, e7, e8, e9, e10, e11, e12⟩ := Index_twin f6
 obtain ⟨x13, y13, p13, q13, rfl, rfl, f13, h13⟩ := h6.cons
 obtain ⟨v13, u13, rfl, rfl, e13⟩ := f13.one rfl
 obtain ⟨x14, y14, p14, q14, rfl, rfl, f14, h14⟩ := h13.cons
 obtain ⟨v14, u14, rfl, rfl, e14⟩ := f14.one rfl
 obtain ⟨x15, y15, p15, q15, rfl, rfl, f15, h15⟩ := h14.cons
 obtain ⟨v15, u15, rfl, rfl, e15⟩ := f15.one rfl
 obtain ⟨rfl, rfl⟩ := h15.nil
 exact ⟨v0, v1, v2, v3, v4, v5, v6, v7, v8, v9, v10, v11, v12, v13, v14, v15, u0, u1, u2, u3, u4, u5, u6, u7, u8, u9, u10, u11, u12, u13, u14, u15, rfl, rfl, e0, e1, e2, e3, e4, e5, e6, e7, e8, e9, e10, e11, e12, e13, e14, e15⟩
theorem Call_twin {W : World} {c1 c2 : List Value} (h : Twin W sCall c1 c2) : ∃ (v0 v1 v2 u0 u1 u2 : Value), c1 = [v0, v1, v2] ∧ c2 = [u0, u1, u2] ∧ Twin W .num [v0] [u0] ∧ Twin W .num [v1] [u1] ∧ Twin W .data [v2] [u2] := by
 unfold sCall at h
 obtain ⟨x0, y0, p0, q0, rfl, rfl, f0, h0⟩ := h.cons
 obtain ⟨v0, u0, rfl, rfl, e0⟩ := f0.one rfl
 obtain ⟨x1, y1, p1, q1, rfl, rfl, f1, h1⟩ := h0.cons
 obtain ⟨v1, u1, rfl, rfl, e1⟩ := f1.one rfl
 obtain ⟨x2, y2, p2, q2, rfl, rfl, f2, h2⟩ := h1.cons
 obtain ⟨v2, u2, rfl, rfl, e2⟩ := f2.one rfl
 obtain ⟨rfl, rfl⟩ := h2.nil
 exact ⟨v0, v1, v2, u0, u1, u2, rfl, rfl, e0, e1, e2⟩
end Go.Proofs.YtmdgifmigikffaaGreat
