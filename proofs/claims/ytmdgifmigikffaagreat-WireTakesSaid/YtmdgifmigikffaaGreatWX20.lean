/-
  WHAT IS PROVED: for every bytes b that are handed in, the law WireTakes of armoirelaw09 returns and answers true: what the bytes are taken as, of each kind (call, command, reply, catalog, a client's call), or why they are none, is what the document says; what is handed in stays, and nobody writes into what is told. The full form; no condition.
-/
import Derived.WalkKit
import Derived.OpenShut
import Derived.Test.YtmdgifmigikffaaGreatRows
import Derived.WalkSpells
import Derived.WalkLawsBesides
import Derived.Laws.AppendOwnNone
import Derived.ProofKit
import Derived.ShutString
import Derived.ChangeOld
import Derived.Below
import Derived.SizedLaws
import Derived.BigQuiet
import Derived.Deep.QuietTactic
import Derived.Deep.RegionHeld3
import Derived.StillTailTactics
import Derived.Deep.Slices
import Derived.Deep.AppendLies
import Derived.Deep.RegionHeld
import Derived.Deep.Strs
import Derived.Lib.ConvBytes
import Derived.Laws.AppendOwn
import Derived.Deep.CutRange
import Derived.Lib.SlBytesConst
import Derived.Deep.MidRow
import Derived.Great.Walk
import Derived.Great.BuildSlice
import Derived.Test.YtmdgifmigikffaaGreatWX1
import Derived.Test.YtmdgifmigikffaaGreatWX2
import Derived.Test.YtmdgifmigikffaaGreatWX3
import Derived.Test.YtmdgifmigikffaaGreatWX4
import Derived.Test.YtmdgifmigikffaaGreatWX5
import Derived.Test.YtmdgifmigikffaaGreatWX6
import Derived.Test.YtmdgifmigikffaaGreatWX7
import Derived.Test.YtmdgifmigikffaaGreatWX8
import Derived.Test.YtmdgifmigikffaaGreatWX9
import Derived.Test.YtmdgifmigikffaaGreatWX10
import Derived.Test.YtmdgifmigikffaaGreatWX11
import Derived.Test.YtmdgifmigikffaaGreatWX12
import Derived.Test.YtmdgifmigikffaaGreatWX13
import Derived.Test.YtmdgifmigikffaaGreatWX14
import Derived.Test.YtmdgifmigikffaaGreatWX15
import Derived.Test.YtmdgifmigikffaaGreatWX16
import Derived.Test.YtmdgifmigikffaaGreatWX17
import Derived.Test.YtmdgifmigikffaaGreatWX18
import Derived.Test.YtmdgifmigikffaaGreatWX19
set_option linter.unusedVariables false
set_option linter.unusedSimpArgs false
set_option maxRecDepth 100000
namespace Go.Proofs.YtmdgifmigikffaaGreat
open Go.RowKit Go.Deep Go.ChangeShapes Go.WideShapes Go.ChangeAt
namespace wireTakes
set_option maxHeartbeats 16000000 in
theorem walk (x : Value) (l : List UInt8) (W : World) (hx : Rd W x l) :
 Calls Tryz.prog 3 #[x] W (fun e w' => e = .returned (.bool true) ∧ Below W.heap.size W w') := by
 have hx9 := hx
 obtain ⟨ao, c, rfl, h1, h2, -⟩ := hx9
 have HX := hid hx
 clear hx h1 h2
 by_cases hq : (20000 : Int) < (l.length : Int)
 · go_enter Tryz.func3, Tryz.ntmps3
   go_wp2_with (first | (go_at_call 4; refine (xawake_any _).mono ?_; rintro en w2 ⟨rfl, hb2⟩; have HB2 := hid hb2; clear hb2))
   go_ret
   exact ⟨rfl, HB2.out⟩
 have HLB : Hid (l.length ≤ 140737488355328) := hid (by omega)
 have HLC : Hid (l.length ≤ 1000000) := hid (by omega)
 have CO : Hid (Calls Tryz.prog 5 #[.slice ao l.length c, .int .u8 71] W (OwnIs W l 71)) := hid (own_any _ l 71 W HX.out HLB.out)
 go_enter Tryz.func3, Tryz.ntmps3
 go_upto_region 3 with fail
 go_upto_region 4 with (first | (go_at_call 5; refine CO.out.mono ?_; rintro en w1 ⟨g, rfl, hg, ho, hb⟩; have HO := hid ho; have HB0 := hid hb; clear hg ho hb))
 clear hq CO
 have HRi_0 := hid (show Rd w1 (.slice (some ⟨g, 0, none⟩) l.length (l.length + 3)) l from Rd.of_full HO.out (by omega) (by simp) rfl)
 have HRb_0 := hid (HX.out.old HB0.out)
 have HQ0 : Hid (Below w1.heap.size w1 w1) := hid (Below.refl _ _)
 have CTa := hid (tkCall_any (.slice (some ⟨g, 0, none⟩) l.length (l.length + 3)) l w1 HRi_0.out HLB.out)
 apply wp_region_lit
 refine Great.wpList_readTo rfl (some 32) rfl (.slice (some ⟨g, 0, none⟩) l.length (l.length + 3)) (by as_aux_lemma => kernel_rfl) ?_
 simp only [Act.put, jA, jB, jC, jD, jE, jF]
 refine wpList_callAny rfl (some 33) rfl 6 #[.slice (some ⟨g, 0, none⟩) l.length (l.length + 3)] (by as_aux_lemma => kernel_rfl) CTa.out ?_
 rintro en wTa hta
 obtain ⟨Va, eva, rfl, hea, hva, hoa, hoka, hbada, hba⟩ := TkR.any zCall_wide hta
 refine ⟨_, rfl, ?_⟩
 simp only [Act.put, jA, jB, jC, jD, jE, jF]
 clear hta
 refine Great.wpList_readTo rfl (some 31) rfl (.tuple #[.agg Va, .int .i64 eva]) (by as_aux_lemma => kernel_rfl) ?_
 simp only [Act.put, jA, jB, jC, jD, jE, jF]
 refine Great.wpList_readTo rfl (some 34) rfl (.agg Va) (by as_aux_lemma => kernel_rfl) ?_
 simp only [Act.put, jA, jB, jC, jD, jE, jF]
 refine Great.wpList_readTo rfl (some 35) rfl (.int .i64 eva) (by as_aux_lemma => kernel_rfl) ?_
 simp only [Act.put, jA, jB, jC, jD, jE, jF]
 refine Great.wpList_allocTo rfl (some 4) rfl _ _ (alloc_Call _ wTa _ _ _ _) ?_
 simp only [Act.put, jA, jB, jC, jD, jE, jF]
 have hxa := heap_alloc_new wTa (.cells zCall.toArray 27)
 have hbba : Below wTa.heap.size wTa (wTa.alloc (.cells zCall.toArray 27)) := (Below.refl _ _).alloc (Nat.le_refl _) _
 have HIVa : Hid ((Tryz.prog.info? 27).map (·.size) = some Va.size) := hid (by rw [hva]; exact info_Call)
 refine Go.wpList_store_rowTo rfl 27 _ _ rfl rfl wTa.heap.size Va rfl rfl 27 zCall.toArray hxa HIVa.out (zCall_row.1.trans (show 3 = Va.size from hva.symm)) hoa ?_
 have hbKa : Below wTa.heap.size wTa ((wTa.alloc (.cells zCall.toArray 27)).setRow wTa.heap.size Va) := ((Keep.of_below (X := fun j => j = wTa.heap.size) hbba).trans (setRow_keep _ _ _)).below (Nat.le_refl _) (fun k e => by have e9 : k = wTa.heap.size := e; omega)
 have hxxa := setRow_heap (wTa.alloc (.cells zCall.toArray 27)) wTa.heap.size _ Va _ _ hxa
 obtain ⟨Xa, hXa⟩ : ∃ X, X = wTa.heap.size := ⟨_, rfl⟩
 rw [← hXa] at hxxa hbKa ⊢
 generalize (wTa.alloc (.cells zCall.toArray 27)).setRow Xa Va = wEa at *
 rw [hXa] at hbKa
 have hbEa := hba.trans (hbKa.mono hba.size)
 have HQa := hid (HQ0.out.trans (hbEa.mono HQ0.out.size))
 have HXa_a := hid hxxa
 have HOKa_a : Hid (eva = 0 → EncN (fun j => w1.heap.size ≤ j) wEa sCall Va.toList (rdF sCall (l, 0)).1) := hid fun e => EncN.keep (X := fun _ => False) (Keep.of_below hbKa) (fun _ _ e => e) _ (EncN.mono (fun j hj => Nat.le_trans HQ0.out.size hj.1) _ (hoka e))
 have HEVa := hid hea
 have HBDa := hid hbada
 have HRi_a := hid (HRi_0.out.old hbEa)
 have HRb_a := hid (HRb_0.out.old hbEa)
 refine Great.wpList_readTo rfl (some 5) rfl (.int .i64 eva) (by as_aux_lemma => kernel_rfl) ?_
 simp only [Act.put, jA, jB, jC, jD, jE, jF]
 clear hxa hbba hbKa hxxa hXa hba hbEa hoka hbada hva hoa hea CTa
 clear HRi_0 HRb_0
 go_upto_region 5 with fail
 have CTb := hid (itkCall_any HRb_a.out HLC.out)
 apply wp_region_lit
 refine Great.wpList_readTo rfl (some 37) rfl (.slice ao l.length c) (by as_aux_lemma => kernel_rfl) ?_
 simp only [Act.put, jA, jB, jC, jD, jE, jF]
 refine wpList_callAny rfl (some 38) rfl 7 #[.slice ao l.length c] (by as_aux_lemma => kernel_rfl) CTb.out ?_
 rintro en wTb htb
 obtain ⟨Vb, evb, rfl, heb, hvb, hob, hokb, hbadb, hbb⟩ := TkR.any zCall_wide htb
 refine ⟨_, rfl, ?_⟩
 simp only [Act.put, jA, jB, jC, jD, jE, jF]
 clear htb
 refine Great.wpList_readTo rfl (some 36) rfl (.tuple #[.agg Vb, .int .i64 evb]) (by as_aux_lemma => kernel_rfl) ?_
 simp only [Act.put, jA, jB, jC, jD, jE, jF]
 refine Great.wpList_readTo rfl (some 39) rfl (.agg Vb) (by as_aux_lemma => kernel_rfl) ?_
 simp only [Act.put, jA, jB, jC, jD, jE, jF]
 refine Great.wpList_readTo rfl (some 40) rfl (.int .i64 evb) (by as_aux_lemma => kernel_rfl) ?_
 simp only [Act.put, jA, jB, jC, jD, jE, jF]
 refine Great.wpList_allocTo rfl (some 6) rfl _ _ (alloc_Call _ wTb _ _ _ _) ?_
 simp only [Act.put, jA, jB, jC, jD, jE, jF]
 have hxb := heap_alloc_new wTb (.cells zCall.toArray 27)
 have hbbb : Below wTb.heap.size wTb (wTb.alloc (.cells zCall.toArray 27)) := (Below.refl _ _).alloc (Nat.le_refl _) _
 have HIVb : Hid ((Tryz.prog.info? 27).map (·.size) = some Vb.size) := hid (by rw [hvb]; exact info_Call)
 refine Go.wpList_store_rowTo rfl 27 _ _ rfl rfl wTb.heap.size Vb rfl rfl 27 zCall.toArray hxb HIVb.out (zCall_row.1.trans (show 3 = Vb.size from hvb.symm)) hob ?_
 have hbKb : Below wTb.heap.size wTb ((wTb.alloc (.cells zCall.toArray 27)).setRow wTb.heap.size Vb) := ((Keep.of_below (X := fun j => j = wTb.heap.size) hbbb).trans (setRow_keep _ _ _)).below (Nat.le_refl _) (fun k e => by have e9 : k = wTb.heap.size := e; omega)
 have hxxb := setRow_heap (wTb.alloc (.cells zCall.toArray 27)) wTb.heap.size _ Vb _ _ hxb
 obtain ⟨Xb, hXb⟩ : ∃ X, X = wTb.heap.size := ⟨_, rfl⟩
 rw [← hXb] at hxxb hbKb ⊢
 generalize (wTb.alloc (.cells zCall.toArray 27)).setRow Xb Vb = wEb at *
 rw [hXb] at hbKb
 have hbEb := hbb.trans (hbKb.mono hbb.size)
 have HQb := hid (HQa.out.trans (hbEb.mono HQa.out.size))
 have HXb_b := hid hxxb
 have HOKb_b : Hid (evb = 0 → EncN (fun j => w1.heap.size ≤ j) wEb sCall Vb.toList (rdF sCall (l, 0)).1) := hid fun e => EncN.keep (X := fun _ => False) (Keep.of_below hbKb) (fun _ _ e => e) _ (EncN.mono (fun j hj => Nat.le_trans HQa.out.size hj.1) _ (hokb e))
 have HEVb := hid heb
 have HBDb := hid hbadb
 have HRi_b := hid (HRi_a.out.old hbEb)
 have HRb_b := hid (HRb_a.out.old hbEb)
 have HOKa_b := hid (fun e => EncN.keep (X := fun _ => False) (Keep.of_below hbEb) (fun _ _ e => e) _ (HOKa_a.out e))
 have HXa_b := hid ((hbEb.block _ (lt_of_block HXa_a.out)).trans HXa_a.out)
 refine Great.wpList_readTo rfl (some 7) rfl (.int .i64 evb) (by as_aux_lemma => kernel_rfl) ?_
 simp only [Act.put, jA, jB, jC, jD, jE, jF]
 clear hxb hbbb hbKb hxxb hXb hbb hbEb hokb hbadb hvb hob heb CTb
 clear HRi_a HRb_a HOKa_a HXa_a
 go_upto_region 6 with fail
 have CTc := hid (tkCommand_any (.slice (some ⟨g, 0, none⟩) l.length (l.length + 3)) l wEb HRi_b.out HLB.out)
 apply wp_region_lit
 refine Great.wpList_readTo rfl (some 42) rfl (.slice (some ⟨g, 0, none⟩) l.length (l.length + 3)) (by as_aux_lemma => kernel_rfl) ?_
 simp only [Act.put, jA, jB, jC, jD, jE, jF]
 refine wpList_callAny rfl (some 43) rfl 8 #[.slice (some ⟨g, 0, none⟩) l.length (l.length + 3)] (by as_aux_lemma => kernel_rfl) CTc.out ?_
 rintro en wTc htc
 obtain ⟨Vc, evc, rfl, hec, hvc, hoc, hokc, hbadc, hbc⟩ := TkR.any zCommand_wide htc
 refine ⟨_, rfl, ?_⟩
 simp only [Act.put, jA, jB, jC, jD, jE, jF]
 clear htc
 refine Great.wpList_readTo rfl (some 41) rfl (.tuple #[.agg Vc, .int .i64 evc]) (by as_aux_lemma => kernel_rfl) ?_
 simp only [Act.put, jA, jB, jC, jD, jE, jF]
 refine Great.wpList_readTo rfl (some 44) rfl (.agg Vc) (by as_aux_lemma => kernel_rfl) ?_
 simp only [Act.put, jA, jB, jC, jD, jE, jF]
 refine Great.wpList_readTo rfl (some 45) rfl (.int .i64 evc) (by as_aux_lemma => kernel_rfl) ?_
 simp only [Act.put, jA, jB, jC, jD, jE, jF]
 refine Great.wpList_allocTo rfl (some 8) rfl _ _ (alloc_Command _ wTc _ _ _ _) ?_
 simp only [Act.put, jA, jB, jC, jD, jE, jF]
 have hxc := heap_alloc_new wTc (.cells zCommand.toArray 43)
 have hbbc : Below wTc.heap.size wTc (wTc.alloc (.cells zCommand.toArray 43)) := (Below.refl _ _).alloc (Nat.le_refl _) _
 have HIVc : Hid ((Tryz.prog.info? 43).map (·.size) = some Vc.size) := hid (by rw [hvc]; exact info_Command)
 refine Go.wpList_store_rowTo rfl 43 _ _ rfl rfl wTc.heap.size Vc rfl rfl 43 zCommand.toArray hxc HIVc.out (zCommand_row.1.trans (show 25 = Vc.size from hvc.symm)) hoc ?_
 have hbKc : Below wTc.heap.size wTc ((wTc.alloc (.cells zCommand.toArray 43)).setRow wTc.heap.size Vc) := ((Keep.of_below (X := fun j => j = wTc.heap.size) hbbc).trans (setRow_keep _ _ _)).below (Nat.le_refl _) (fun k e => by have e9 : k = wTc.heap.size := e; omega)
 have hxxc := setRow_heap (wTc.alloc (.cells zCommand.toArray 43)) wTc.heap.size _ Vc _ _ hxc
 obtain ⟨Xc, hXc⟩ : ∃ X, X = wTc.heap.size := ⟨_, rfl⟩
 rw [← hXc] at hxxc hbKc ⊢
 generalize (wTc.alloc (.cells zCommand.toArray 43)).setRow Xc Vc = wEc at *
 rw [hXc] at hbKc
 have hbEc := hbc.trans (hbKc.mono hbc.size)
 have HQc := hid (HQb.out.trans (hbEc.mono HQb.out.size))
 have HXc_c := hid hxxc
 have HOKc_c : Hid (evc = 0 → EncN (fun j => w1.heap.size ≤ j) wEc sCommand Vc.toList (rdF sCommand (l, 0)).1) := hid fun e => EncN.keep (X := fun _ => False) (Keep.of_below hbKc) (fun _ _ e => e) _ (EncN.mono (fun j hj => Nat.le_trans HQb.out.size hj.1) _ (hokc e))
 have HEVc := hid hec
 have HBDc := hid hbadc
 have HRi_c := hid (HRi_b.out.old hbEc)
 have HRb_c := hid (HRb_b.out.old hbEc)
 have HOKa_c := hid (fun e => EncN.keep (X := fun _ => False) (Keep.of_below hbEc) (fun _ _ e => e) _ (HOKa_b.out e))
 have HXa_c := hid ((hbEc.block _ (lt_of_block HXa_b.out)).trans HXa_b.out)
 have HOKb_c := hid (fun e => EncN.keep (X := fun _ => False) (Keep.of_below hbEc) (fun _ _ e => e) _ (HOKb_b.out e))
 have HXb_c := hid ((hbEc.block _ (lt_of_block HXb_b.out)).trans HXb_b.out)
 refine Great.wpList_readTo rfl (some 9) rfl (.int .i64 evc) (by as_aux_lemma => kernel_rfl) ?_
 simp only [Act.put, jA, jB, jC, jD, jE, jF]
 clear hxc hbbc hbKc hxxc hXc hbc hbEc hokc hbadc hvc hoc hec CTc
 clear HRi_b HRb_b HOKa_b HXa_b HOKb_b HXb_b
 go_upto_region 7 with fail
 have CTd := hid (itkCommand_any HRb_c.out HLC.out)
 apply wp_region_lit
 refine Great.wpList_readTo rfl (some 47) rfl (.slice ao l.length c) (by as_aux_lemma => kernel_rfl) ?_
 simp only [Act.put, jA, jB, jC, jD, jE, jF]
 refine wpList_callAny rfl (some 48) rfl 9 #[.slice ao l.length c] (by as_aux_lemma => kernel_rfl) CTd.out ?_
 rintro en wTd htd
 obtain ⟨Vd, evd, rfl, hed, hvd, hod, hokd, hbadd, hbd⟩ := TkR.any zCommand_wide htd
 refine ⟨_, rfl, ?_⟩
 simp only [Act.put, jA, jB, jC, jD, jE, jF]
 clear htd
 refine Great.wpList_readTo rfl (some 46) rfl (.tuple #[.agg Vd, .int .i64 evd]) (by as_aux_lemma => kernel_rfl) ?_
 simp only [Act.put, jA, jB, jC, jD, jE, jF]
 refine Great.wpList_readTo rfl (some 49) rfl (.agg Vd) (by as_aux_lemma => kernel_rfl) ?_
 simp only [Act.put, jA, jB, jC, jD, jE, jF]
 refine Great.wpList_readTo rfl (some 50) rfl (.int .i64 evd) (by as_aux_lemma => kernel_rfl) ?_
 simp only [Act.put, jA, jB, jC, jD, jE, jF]
 refine Great.wpList_allocTo rfl (some 10) rfl _ _ (alloc_Command _ wTd _ _ _ _) ?_
 simp only [Act.put, jA, jB, jC, jD, jE, jF]
 have hxd := heap_alloc_new wTd (.cells zCommand.toArray 43)
 have hbbd : Below wTd.heap.size wTd (wTd.alloc (.cells zCommand.toArray 43)) := (Below.refl _ _).alloc (Nat.le_refl _) _
 have HIVd : Hid ((Tryz.prog.info? 43).map (·.size) = some Vd.size) := hid (by rw [hvd]; exact info_Command)
 refine Go.wpList_store_rowTo rfl 43 _ _ rfl rfl wTd.heap.size Vd rfl rfl 43 zCommand.toArray hxd HIVd.out (zCommand_row.1.trans (show 25 = Vd.size from hvd.symm)) hod ?_
 have hbKd : Below wTd.heap.size wTd ((wTd.alloc (.cells zCommand.toArray 43)).setRow wTd.heap.size Vd) := ((Keep.of_below (X := fun j => j = wTd.heap.size) hbbd).trans (setRow_keep _ _ _)).below (Nat.le_refl _) (fun k e => by have e9 : k = wTd.heap.size := e; omega)
 have hxxd := setRow_heap (wTd.alloc (.cells zCommand.toArray 43)) wTd.heap.size _ Vd _ _ hxd
 obtain ⟨Xd, hXd⟩ : ∃ X, X = wTd.heap.size := ⟨_, rfl⟩
 rw [← hXd] at hxxd hbKd ⊢
 generalize (wTd.alloc (.cells zCommand.toArray 43)).setRow Xd Vd = wEd at *
 rw [hXd] at hbKd
 have hbEd := hbd.trans (hbKd.mono hbd.size)
 have HQd := hid (HQc.out.trans (hbEd.mono HQc.out.size))
 have HXd_d := hid hxxd
 have HOKd_d : Hid (evd = 0 → EncN (fun j => w1.heap.size ≤ j) wEd sCommand Vd.toList (rdF sCommand (l, 0)).1) := hid fun e => EncN.keep (X := fun _ => False) (Keep.of_below hbKd) (fun _ _ e => e) _ (EncN.mono (fun j hj => Nat.le_trans HQc.out.size hj.1) _ (hokd e))
 have HEVd := hid hed
 have HBDd := hid hbadd
 have HRi_d := hid (HRi_c.out.old hbEd)
 have HRb_d := hid (HRb_c.out.old hbEd)
 have HOKa_d := hid (fun e => EncN.keep (X := fun _ => False) (Keep.of_below hbEd) (fun _ _ e => e) _ (HOKa_c.out e))
 have HXa_d := hid ((hbEd.block _ (lt_of_block HXa_c.out)).trans HXa_c.out)
 have HOKb_d := hid (fun e => EncN.keep (X := fun _ => False) (Keep.of_below hbEd) (fun _ _ e => e) _ (HOKb_c.out e))
 have HXb_d := hid ((hbEd.block _ (lt_of_block HXb_c.out)).trans HXb_c.out)
 have HOKc_d := hid (fun e => EncN.keep (X := fun _ => False) (Keep.of_below hbEd) (fun _ _ e => e) _ (HOKc_c.out e))
 have HXc_d := hid ((hbEd.block _ (lt_of_block HXc_c.out)).trans HXc_c.out)
 refine Great.wpList_readTo rfl (some 11) rfl (.int .i64 evd) (by as_aux_lemma => kernel_rfl) ?_
 simp only [Act.put, jA, jB, jC, jD, jE, jF]
 clear hxd hbbd hbKd hxxd hXd hbd hbEd hokd hbadd hvd hod hed CTd
 clear HRi_c HRb_c HOKa_c HXa_c HOKb_c HXb_c HOKc_c HXc_c
 go_upto_region 8 with fail
 have CTe := hid (tkReply_any (.slice (some ⟨g, 0, none⟩) l.length (l.length + 3)) l wEd HRi_d.out HLB.out)
 apply wp_region_lit
 refine Great.wpList_readTo rfl (some 52) rfl (.slice (some ⟨g, 0, none⟩) l.length (l.length + 3)) (by as_aux_lemma => kernel_rfl) ?_
 simp only [Act.put, jA, jB, jC, jD, jE, jF]
 refine wpList_callAny rfl (some 53) rfl 10 #[.slice (some ⟨g, 0, none⟩) l.length (l.length + 3)] (by as_aux_lemma => kernel_rfl) CTe.out ?_
 rintro en wTe hte
 obtain ⟨Ve, eve, rfl, hee, hve, hoe, hoke, hbade, hbe⟩ := TkR.any zReply_wide hte
 refine ⟨_, rfl, ?_⟩
 simp only [Act.put, jA, jB, jC, jD, jE, jF]
 clear hte
 refine Great.wpList_readTo rfl (some 51) rfl (.tuple #[.agg Ve, .int .i64 eve]) (by as_aux_lemma => kernel_rfl) ?_
 simp only [Act.put, jA, jB, jC, jD, jE, jF]
 refine Great.wpList_readTo rfl (some 54) rfl (.agg Ve) (by as_aux_lemma => kernel_rfl) ?_
 simp only [Act.put, jA, jB, jC, jD, jE, jF]
 refine Great.wpList_readTo rfl (some 55) rfl (.int .i64 eve) (by as_aux_lemma => kernel_rfl) ?_
 simp only [Act.put, jA, jB, jC, jD, jE, jF]
 refine Great.wpList_allocTo rfl (some 12) rfl _ _ (alloc_Reply _ wTe _ _ _ _) ?_
 simp only [Act.put, jA, jB, jC, jD, jE, jF]
 have hxe := heap_alloc_new wTe (.cells zReply.toArray 55)
 have hbbe : Below wTe.heap.size wTe (wTe.alloc (.cells zReply.toArray 55)) := (Below.refl _ _).alloc (Nat.le_refl _) _
 have HIVe : Hid ((Tryz.prog.info? 55).map (·.size) = some Ve.size) := hid (by rw [hve]; exact info_Reply)
 refine Go.wpList_store_rowTo rfl 55 _ _ rfl rfl wTe.heap.size Ve rfl rfl 55 zReply.toArray hxe HIVe.out (zReply_row.1.trans (show 15 = Ve.size from hve.symm)) hoe ?_
 have hbKe : Below wTe.heap.size wTe ((wTe.alloc (.cells zReply.toArray 55)).setRow wTe.heap.size Ve) := ((Keep.of_below (X := fun j => j = wTe.heap.size) hbbe).trans (setRow_keep _ _ _)).below (Nat.le_refl _) (fun k e => by have e9 : k = wTe.heap.size := e; omega)
 have hxxe := setRow_heap (wTe.alloc (.cells zReply.toArray 55)) wTe.heap.size _ Ve _ _ hxe
 obtain ⟨Xe, hXe⟩ : ∃ X, X = wTe.heap.size := ⟨_, rfl⟩
 rw [← hXe] at hxxe hbKe ⊢
 generalize (wTe.alloc (.cells zReply.toArray 55)).setRow Xe Ve = wEe at *
 rw [hXe] at hbKe
 have hbEe := hbe.trans (hbKe.mono hbe.size)
 have HQe := hid (HQd.out.trans (hbEe.mono HQd.out.size))
 have HXe_e := hid hxxe
 have HOKe_e : Hid (eve = 0 → EncN (fun j => w1.heap.size ≤ j) wEe sReply Ve.toList (rdF sReply (l, 0)).1) := hid fun e => EncN.keep (X := fun _ => False) (Keep.of_below hbKe) (fun _ _ e => e) _ (EncN.mono (fun j hj => Nat.le_trans HQd.out.size hj.1) _ (hoke e))
 have HEVe := hid hee
 have HBDe := hid hbade
 have HRi_e := hid (HRi_d.out.old hbEe)
 have HRb_e := hid (HRb_d.out.old hbEe)
 have HOKa_e := hid (fun e => EncN.keep (X := fun _ => False) (Keep.of_below hbEe) (fun _ _ e => e) _ (HOKa_d.out e))
 have HXa_e := hid ((hbEe.block _ (lt_of_block HXa_d.out)).trans HXa_d.out)
 have HOKb_e := hid (fun e => EncN.keep (X := fun _ => False) (Keep.of_below hbEe) (fun _ _ e => e) _ (HOKb_d.out e))
 have HXb_e := hid ((hbEe.block _ (lt_of_block HXb_d.out)).trans HXb_d.out)
 have HOKc_e := hid (fun e => EncN.keep (X := fun _ => False) (Keep.of_below hbEe) (fun _ _ e => e) _ (HOKc_d.out e))
 have HXc_e := hid ((hbEe.block _ (lt_of_block HXc_d.out)).trans HXc_d.out)
 have HOKd_e := hid (fun e => EncN.keep (X := fun _ => False) (Keep.of_below hbEe) (fun _ _ e => e) _ (HOKd_d.out e))
 have HXd_e := hid ((hbEe.block _ (lt_of_block HXd_d.out)).trans HXd_d.out)
 refine Great.wpList_readTo rfl (some 13) rfl (.int .i64 eve) (by as_aux_lemma => kernel_rfl) ?_
 simp only [Act.put, jA, jB, jC, jD, jE, jF]
 clear hxe hbbe hbKe hxxe hXe hbe hbEe hoke hbade hve hoe hee CTe
 clear HRi_d HRb_d HOKa_d HXa_d HOKb_d HXb_d HOKc_d HXc_d HOKd_d HXd_d
 go_upto_region 9 with fail
 have CTf := hid (itkReply_any HRb_e.out HLC.out)
 apply wp_region_lit
 refine Great.wpList_readTo rfl (some 57) rfl (.slice ao l.length c) (by as_aux_lemma => kernel_rfl) ?_
 simp only [Act.put, jA, jB, jC, jD, jE, jF]
 refine wpList_callAny rfl (some 58) rfl 11 #[.slice ao l.length c] (by as_aux_lemma => kernel_rfl) CTf.out ?_
 rintro en wTf htf
 obtain ⟨Vf, evf, rfl, hef, hvf, hof, hokf, hbadf, hbf⟩ := TkR.any zReply_wide htf
 refine ⟨_, rfl, ?_⟩
 simp only [Act.put, jA, jB, jC, jD, jE, jF]
 clear htf
 refine Great.wpList_readTo rfl (some 56) rfl (.tuple #[.agg Vf, .int .i64 evf]) (by as_aux_lemma => kernel_rfl) ?_
 simp only [Act.put, jA, jB, jC, jD, jE, jF]
 refine Great.wpList_readTo rfl (some 59) rfl (.agg Vf) (by as_aux_lemma => kernel_rfl) ?_
 simp only [Act.put, jA, jB, jC, jD, jE, jF]
 refine Great.wpList_readTo rfl (some 60) rfl (.int .i64 evf) (by as_aux_lemma => kernel_rfl) ?_
 simp only [Act.put, jA, jB, jC, jD, jE, jF]
 refine Great.wpList_allocTo rfl (some 14) rfl _ _ (alloc_Reply _ wTf _ _ _ _) ?_
 simp only [Act.put, jA, jB, jC, jD, jE, jF]
 have hxf := heap_alloc_new wTf (.cells zReply.toArray 55)
 have hbbf : Below wTf.heap.size wTf (wTf.alloc (.cells zReply.toArray 55)) := (Below.refl _ _).alloc (Nat.le_refl _) _
 have HIVf : Hid ((Tryz.prog.info? 55).map (·.size) = some Vf.size) := hid (by rw [hvf]; exact info_Reply)
 refine Go.wpList_store_rowTo rfl 55 _ _ rfl rfl wTf.heap.size Vf rfl rfl 55 zReply.toArray hxf HIVf.out (zReply_row.1.trans (show 15 = Vf.size from hvf.symm)) hof ?_
 have hbKf : Below wTf.heap.size wTf ((wTf.alloc (.cells zReply.toArray 55)).setRow wTf.heap.size Vf) := ((Keep.of_below (X := fun j => j = wTf.heap.size) hbbf).trans (setRow_keep _ _ _)).below (Nat.le_refl _) (fun k e => by have e9 : k = wTf.heap.size := e; omega)
 have hxxf := setRow_heap (wTf.alloc (.cells zReply.toArray 55)) wTf.heap.size _ Vf _ _ hxf
 obtain ⟨Xf, hXf⟩ : ∃ X, X = wTf.heap.size := ⟨_, rfl⟩
 rw [← hXf] at hxxf hbKf ⊢
 generalize (wTf.alloc (.cells zReply.toArray 55)).setRow Xf Vf = wEf at *
 rw [hXf] at hbKf
 have hbEf := hbf.trans (hbKf.mono hbf.size)
 have HQf := hid (HQe.out.trans (hbEf.mono HQe.out.size))
 have HXf_f := hid hxxf
 have HOKf_f : Hid (evf = 0 → EncN (fun j => w1.heap.size ≤ j) wEf sReply Vf.toList (rdF sReply (l, 0)).1) := hid fun e => EncN.keep (X := fun _ => False) (Keep.of_below hbKf) (fun _ _ e => e) _ (EncN.mono (fun j hj => Nat.le_trans HQe.out.size hj.1) _ (hokf e))
 have HEVf := hid hef
 have HBDf := hid hbadf
 have HRi_f := hid (HRi_e.out.old hbEf)
 have HRb_f := hid (HRb_e.out.old hbEf)
 have HOKa_f := hid (fun e => EncN.keep (X := fun _ => False) (Keep.of_below hbEf) (fun _ _ e => e) _ (HOKa_e.out e))
 have HXa_f := hid ((hbEf.block _ (lt_of_block HXa_e.out)).trans HXa_e.out)
 have HOKb_f := hid (fun e => EncN.keep (X := fun _ => False) (Keep.of_below hbEf) (fun _ _ e => e) _ (HOKb_e.out e))
 have HXb_f := hid ((hbEf.block _ (lt_of_block HXb_e.out)).trans HXb_e.out)
 have HOKc_f := hid (fun e => EncN.keep (X := fun _ => False) (Keep.of_below hbEf) (fun _ _ e => e) _ (HOKc_e.out e))
 have HXc_f := hid ((hbEf.block _ (lt_of_block HXc_e.out)).trans HXc_e.out)
 have HOKd_f := hid (fun e => EncN.keep (X := fun _ => False) (Keep.of_below hbEf) (fun _ _ e => e) _ (HOKd_e.out e))
 have HXd_f := hid ((hbEf.block _ (lt_of_block HXd_e.out)).trans HXd_e.out)
 have HOKe_f := hid (fun e => EncN.keep (X := fun _ => False) (Keep.of_below hbEf) (fun _ _ e => e) _ (HOKe_e.out e))
 have HXe_f := hid ((hbEf.block _ (lt_of_block HXe_e.out)).trans HXe_e.out)
 refine Great.wpList_readTo rfl (some 15) rfl (.int .i64 evf) (by as_aux_lemma => kernel_rfl) ?_
 simp only [Act.put, jA, jB, jC, jD, jE, jF]
 clear hxf hbbf hbKf hxxf hXf hbf hbEf hokf hbadf hvf hof hef CTf
 clear HRi_e HRb_e HOKa_e HXa_e HOKb_e HXb_e HOKc_e HXc_e HOKd_e HXd_e HOKe_e HXe_e
 go_upto_region 10 with fail
 have CTg := hid (tkCatalog_any (.slice (some ⟨g, 0, none⟩) l.length (l.length + 3)) l wEf HRi_f.out HLB.out)
 apply wp_region_lit
 refine Great.wpList_readTo rfl (some 62) rfl (.slice (some ⟨g, 0, none⟩) l.length (l.length + 3)) (by as_aux_lemma => kernel_rfl) ?_
 simp only [Act.put, jA, jB, jC, jD, jE, jF]
 refine wpList_callAny rfl (some 63) rfl 12 #[.slice (some ⟨g, 0, none⟩) l.length (l.length + 3)] (by as_aux_lemma => kernel_rfl) CTg.out ?_
 rintro en wTg htg
 obtain ⟨Vg, evg, rfl, heg, hvg, hog, hokg, hbadg, hbg⟩ := TkR.any zCatalog_wide htg
 refine ⟨_, rfl, ?_⟩
 simp only [Act.put, jA, jB, jC, jD, jE, jF]
 clear htg
 refine Great.wpList_readTo rfl (some 61) rfl (.tuple #[.agg Vg, .int .i64 evg]) (by as_aux_lemma => kernel_rfl) ?_
 simp only [Act.put, jA, jB, jC, jD, jE, jF]
 refine Great.wpList_readTo rfl (some 64) rfl (.agg Vg) (by as_aux_lemma => kernel_rfl) ?_
 simp only [Act.put, jA, jB, jC, jD, jE, jF]
 refine Great.wpList_readTo rfl (some 65) rfl (.int .i64 evg) (by as_aux_lemma => kernel_rfl) ?_
 simp only [Act.put, jA, jB, jC, jD, jE, jF]
 refine Great.wpList_allocTo rfl (some 16) rfl _ _ (alloc_Catalog _ wTg _ _ _ _) ?_
 simp only [Act.put, jA, jB, jC, jD, jE, jF]
 have hxg := heap_alloc_new wTg (.cells zCatalog.toArray 50)
 have hbbg : Below wTg.heap.size wTg (wTg.alloc (.cells zCatalog.toArray 50)) := (Below.refl _ _).alloc (Nat.le_refl _) _
 have HIVg : Hid ((Tryz.prog.info? 50).map (·.size) = some Vg.size) := hid (by rw [hvg]; exact info_Catalog)
 refine Go.wpList_store_rowTo rfl 50 _ _ rfl rfl wTg.heap.size Vg rfl rfl 50 zCatalog.toArray hxg HIVg.out (zCatalog_row.1.trans (show 4 = Vg.size from hvg.symm)) hog ?_
 have hbKg : Below wTg.heap.size wTg ((wTg.alloc (.cells zCatalog.toArray 50)).setRow wTg.heap.size Vg) := ((Keep.of_below (X := fun j => j = wTg.heap.size) hbbg).trans (setRow_keep _ _ _)).below (Nat.le_refl _) (fun k e => by have e9 : k = wTg.heap.size := e; omega)
 have hxxg := setRow_heap (wTg.alloc (.cells zCatalog.toArray 50)) wTg.heap.size _ Vg _ _ hxg
 obtain ⟨Xg, hXg⟩ : ∃ X, X = wTg.heap.size := ⟨_, rfl⟩
 rw [← hXg] at hxxg hbKg ⊢
 generalize (wTg.alloc (.cells zCatalog.toArray 50)).setRow Xg Vg = wEg at *
 rw [hXg] at hbKg
 have hbEg := hbg.trans (hbKg.mono hbg.size)
 have HQg := hid (HQf.out.trans (hbEg.mono HQf.out.size))
 have HXg_g := hid hxxg
 have HOKg_g : Hid (evg = 0 → EncN (fun j => w1.heap.size ≤ j) wEg sCatalog Vg.toList (rdF sCatalog (l, 0)).1) := hid fun e => EncN.keep (X := fun _ => False) (Keep.of_below hbKg) (fun _ _ e => e) _ (EncN.mono (fun j hj => Nat.le_trans HQf.out.size hj.1) _ (hokg e))
 have HEVg := hid heg
 have HBDg := hid hbadg
 have HRi_g := hid (HRi_f.out.old hbEg)
 have HRb_g := hid (HRb_f.out.old hbEg)
 have HOKa_g := hid (fun e => EncN.keep (X := fun _ => False) (Keep.of_below hbEg) (fun _ _ e => e) _ (HOKa_f.out e))
 have HXa_g := hid ((hbEg.block _ (lt_of_block HXa_f.out)).trans HXa_f.out)
 have HOKb_g := hid (fun e => EncN.keep (X := fun _ => False) (Keep.of_below hbEg) (fun _ _ e => e) _ (HOKb_f.out e))
 have HXb_g := hid ((hbEg.block _ (lt_of_block HXb_f.out)).trans HXb_f.out)
 have HOKc_g := hid (fun e => EncN.keep (X := fun _ => False) (Keep.of_below hbEg) (fun _ _ e => e) _ (HOKc_f.out e))
 have HXc_g := hid ((hbEg.block _ (lt_of_block HXc_f.out)).trans HXc_f.out)
 have HOKd_g := hid (fun e => EncN.keep (X := fun _ => False) (Keep.of_below hbEg) (fun _ _ e => e) _ (HOKd_f.out e))
 have HXd_g := hid ((hbEg.block _ (lt_of_block HXd_f.out)).trans HXd_f.out)
 have HOKe_g := hid (fun e => EncN.keep (X := fun _ => False) (Keep.of_below hbEg) (fun _ _ e => e) _ (HOKe_f.out e))
 have HXe_g := hid ((hbEg.block _ (lt_of_block HXe_f.out)).trans HXe_f.out)
 have HOKf_g := hid (fun e => EncN.keep (X := fun _ => False) (Keep.of_below hbEg) (fun _ _ e => e) _ (HOKf_f.out e))
 have HXf_g := hid ((hbEg.block _ (lt_of_block HXf_f.out)).trans HXf_f.out)
 refine Great.wpList_readTo rfl (some 17) rfl (.int .i64 evg) (by as_aux_lemma => kernel_rfl) ?_
 simp only [Act.put, jA, jB, jC, jD, jE, jF]
 clear hxg hbbg hbKg hxxg hXg hbg hbEg hokg hbadg hvg hog heg CTg
 clear HRi_f HRb_f HOKa_f HXa_f HOKb_f HXb_f HOKc_f HXc_f HOKd_f HXd_f HOKe_f HXe_f HOKf_f HXf_f
 go_upto_region 11 with fail
 have CTh := hid (itkCatalog_any HRb_g.out HLC.out)
 apply wp_region_lit
 refine Great.wpList_readTo rfl (some 67) rfl (.slice ao l.length c) (by as_aux_lemma => kernel_rfl) ?_
 simp only [Act.put, jA, jB, jC, jD, jE, jF]
 refine wpList_callAny rfl (some 68) rfl 13 #[.slice ao l.length c] (by as_aux_lemma => kernel_rfl) CTh.out ?_
 rintro en wTh hth
 obtain ⟨Vh, evh, rfl, heh, hvh, hoh, hokh, hbadh, hbh⟩ := TkR.any zCatalog_wide hth
 refine ⟨_, rfl, ?_⟩
 simp only [Act.put, jA, jB, jC, jD, jE, jF]
 clear hth
 refine Great.wpList_readTo rfl (some 66) rfl (.tuple #[.agg Vh, .int .i64 evh]) (by as_aux_lemma => kernel_rfl) ?_
 simp only [Act.put, jA, jB, jC, jD, jE, jF]
 refine Great.wpList_readTo rfl (some 69) rfl (.agg Vh) (by as_aux_lemma => kernel_rfl) ?_
 simp only [Act.put, jA, jB, jC, jD, jE, jF]
 refine Great.wpList_readTo rfl (some 70) rfl (.int .i64 evh) (by as_aux_lemma => kernel_rfl) ?_
 simp only [Act.put, jA, jB, jC, jD, jE, jF]
 refine Great.wpList_allocTo rfl (some 18) rfl _ _ (alloc_Catalog _ wTh _ _ _ _) ?_
 simp only [Act.put, jA, jB, jC, jD, jE, jF]
 have hxh := heap_alloc_new wTh (.cells zCatalog.toArray 50)
 have hbbh : Below wTh.heap.size wTh (wTh.alloc (.cells zCatalog.toArray 50)) := (Below.refl _ _).alloc (Nat.le_refl _) _
 have HIVh : Hid ((Tryz.prog.info? 50).map (·.size) = some Vh.size) := hid (by rw [hvh]; exact info_Catalog)
 refine Go.wpList_store_rowTo rfl 50 _ _ rfl rfl wTh.heap.size Vh rfl rfl 50 zCatalog.toArray hxh HIVh.out (zCatalog_row.1.trans (show 4 = Vh.size from hvh.symm)) hoh ?_
 have hbKh : Below wTh.heap.size wTh ((wTh.alloc (.cells zCatalog.toArray 50)).setRow wTh.heap.size Vh) := ((Keep.of_below (X := fun j => j = wTh.heap.size) hbbh).trans (setRow_keep _ _ _)).below (Nat.le_refl _) (fun k e => by have e9 : k = wTh.heap.size := e; omega)
 have hxxh := setRow_heap (wTh.alloc (.cells zCatalog.toArray 50)) wTh.heap.size _ Vh _ _ hxh
 obtain ⟨Xh, hXh⟩ : ∃ X, X = wTh.heap.size := ⟨_, rfl⟩
 rw [← hXh] at hxxh hbKh ⊢
 generalize (wTh.alloc (.cells zCatalog.toArray 50)).setRow Xh Vh = wEh at *
 rw [hXh] at hbKh
 have hbEh := hbh.trans (hbKh.mono hbh.size)
 have HQh := hid (HQg.out.trans (hbEh.mono HQg.out.size))
 have HXh_h := hid hxxh
 have HOKh_h : Hid (evh = 0 → EncN (fun j => w1.heap.size ≤ j) wEh sCatalog Vh.toList (rdF sCatalog (l, 0)).1) := hid fun e => EncN.keep (X := fun _ => False) (Keep.of_below hbKh) (fun _ _ e => e) _ (EncN.mono (fun j hj => Nat.le_trans HQg.out.size hj.1) _ (hokh e))
 have HEVh := hid heh
 have HBDh := hid hbadh
 have HRi_h := hid (HRi_g.out.old hbEh)
 have HRb_h := hid (HRb_g.out.old hbEh)
 have HOKa_h := hid (fun e => EncN.keep (X := fun _ => False) (Keep.of_below hbEh) (fun _ _ e => e) _ (HOKa_g.out e))
 have HXa_h := hid ((hbEh.block _ (lt_of_block HXa_g.out)).trans HXa_g.out)
 have HOKb_h := hid (fun e => EncN.keep (X := fun _ => False) (Keep.of_below hbEh) (fun _ _ e => e) _ (HOKb_g.out e))
 have HXb_h := hid ((hbEh.block _ (lt_of_block HXb_g.out)).trans HXb_g.out)
 have HOKc_h := hid (fun e => EncN.keep (X := fun _ => False) (Keep.of_below hbEh) (fun _ _ e => e) _ (HOKc_g.out e))
 have HXc_h := hid ((hbEh.block _ (lt_of_block HXc_g.out)).trans HXc_g.out)
 have HOKd_h := hid (fun e => EncN.keep (X := fun _ => False) (Keep.of_below hbEh) (fun _ _ e => e) _ (HOKd_g.out e))
 have HXd_h := hid ((hbEh.block _ (lt_of_block HXd_g.out)).trans HXd_g.out)
 have HOKe_h := hid (fun e => EncN.keep (X := fun _ => False) (Keep.of_below hbEh) (fun _ _ e => e) _ (HOKe_g.out e))
 have HXe_h := hid ((hbEh.block _ (lt_of_block HXe_g.out)).trans HXe_g.out)
 have HOKf_h := hid (fun e => EncN.keep (X := fun _ => False) (Keep.of_below hbEh) (fun _ _ e => e) _ (HOKf_g.out e))
 have HXf_h := hid ((hbEh.block _ (lt_of_block HXf_g.out)).trans HXf_g.out)
 have HOKg_h := hid (fun e => EncN.keep (X := fun _ => False) (Keep.of_below hbEh) (fun _ _ e => e) _ (HOKg_g.out e))
 have HXg_h := hid ((hbEh.block _ (lt_of_block HXg_g.out)).trans HXg_g.out)
 refine Great.wpList_readTo rfl (some 19) rfl (.int .i64 evh) (by as_aux_lemma => kernel_rfl) ?_
 simp only [Act.put, jA, jB, jC, jD, jE, jF]
 clear hxh hbbh hbKh hxxh hXh hbh hbEh hokh hbadh hvh hoh heh CTh
 clear HRi_g HRb_g HOKa_g HXa_g HOKb_g HXb_g HOKc_g HXc_g HOKd_g HXd_g HOKe_g HXe_g HOKf_g HXf_g HOKg_g HXg_g
 go_upto_region 12 with fail
 have CTi := hid (tkAsk_any (.slice (some ⟨g, 0, none⟩) l.length (l.length + 3)) l wEh HRi_h.out HLB.out)
 apply wp_region_lit
 refine Great.wpList_readTo rfl (some 72) rfl (.slice (some ⟨g, 0, none⟩) l.length (l.length + 3)) (by as_aux_lemma => kernel_rfl) ?_
 simp only [Act.put, jA, jB, jC, jD, jE, jF]
 refine wpList_callAny rfl (some 73) rfl 14 #[.slice (some ⟨g, 0, none⟩) l.length (l.length + 3)] (by as_aux_lemma => kernel_rfl) CTi.out ?_
 rintro en wTi hti
 obtain ⟨Vi, evi, rfl, hei, hvi, hoi, hoki, hbadi, hbi⟩ := TkR.any zAsk_wide hti
 refine ⟨_, rfl, ?_⟩
 simp only [Act.put, jA, jB, jC, jD, jE, jF]
 clear hti
 refine Great.wpList_readTo rfl (some 71) rfl (.tuple #[.agg Vi, .int .i64 evi]) (by as_aux_lemma => kernel_rfl) ?_
 simp only [Act.put, jA, jB, jC, jD, jE, jF]
 refine Great.wpList_readTo rfl (some 74) rfl (.agg Vi) (by as_aux_lemma => kernel_rfl) ?_
 simp only [Act.put, jA, jB, jC, jD, jE, jF]
 refine Great.wpList_readTo rfl (some 75) rfl (.int .i64 evi) (by as_aux_lemma => kernel_rfl) ?_
 simp only [Act.put, jA, jB, jC, jD, jE, jF]
 refine Great.wpList_allocTo rfl (some 20) rfl _ _ (alloc_Ask _ wTi _ _ _ _) ?_
 simp only [Act.put, jA, jB, jC, jD, jE, jF]
 have hxi := heap_alloc_new wTi (.cells zAsk.toArray 62)
 have hbbi : Below wTi.heap.size wTi (wTi.alloc (.cells zAsk.toArray 62)) := (Below.refl _ _).alloc (Nat.le_refl _) _
 have HIVi : Hid ((Tryz.prog.info? 62).map (·.size) = some Vi.size) := hid (by rw [hvi]; exact info_Ask)
 refine Go.wpList_store_rowTo rfl 62 _ _ rfl rfl wTi.heap.size Vi rfl rfl 62 zAsk.toArray hxi HIVi.out (zAsk_row.1.trans (show 16 = Vi.size from hvi.symm)) hoi ?_
 have hbKi : Below wTi.heap.size wTi ((wTi.alloc (.cells zAsk.toArray 62)).setRow wTi.heap.size Vi) := ((Keep.of_below (X := fun j => j = wTi.heap.size) hbbi).trans (setRow_keep _ _ _)).below (Nat.le_refl _) (fun k e => by have e9 : k = wTi.heap.size := e; omega)
 have hxxi := setRow_heap (wTi.alloc (.cells zAsk.toArray 62)) wTi.heap.size _ Vi _ _ hxi
 obtain ⟨Xi, hXi⟩ : ∃ X, X = wTi.heap.size := ⟨_, rfl⟩
 rw [← hXi] at hxxi hbKi ⊢
 generalize (wTi.alloc (.cells zAsk.toArray 62)).setRow Xi Vi = wEi at *
 rw [hXi] at hbKi
 have hbEi := hbi.trans (hbKi.mono hbi.size)
 have HQi := hid (HQh.out.trans (hbEi.mono HQh.out.size))
 have HXi_i := hid hxxi
 have HOKi_i : Hid (evi = 0 → EncN (fun j => w1.heap.size ≤ j) wEi sAsk Vi.toList (rdF sAsk (l, 0)).1) := hid fun e => EncN.keep (X := fun _ => False) (Keep.of_below hbKi) (fun _ _ e => e) _ (EncN.mono (fun j hj => Nat.le_trans HQh.out.size hj.1) _ (hoki e))
 have HEVi := hid hei
 have HBDi := hid hbadi
 have HRi_i := hid (HRi_h.out.old hbEi)
 have HRb_i := hid (HRb_h.out.old hbEi)
 have HOKa_i := hid (fun e => EncN.keep (X := fun _ => False) (Keep.of_below hbEi) (fun _ _ e => e) _ (HOKa_h.out e))
 have HXa_i := hid ((hbEi.block _ (lt_of_block HXa_h.out)).trans HXa_h.out)
 have HOKb_i := hid (fun e => EncN.keep (X := fun _ => False) (Keep.of_below hbEi) (fun _ _ e => e) _ (HOKb_h.out e))
 have HXb_i := hid ((hbEi.block _ (lt_of_block HXb_h.out)).trans HXb_h.out)
 have HOKc_i := hid (fun e => EncN.keep (X := fun _ => False) (Keep.of_below hbEi) (fun _ _ e => e) _ (HOKc_h.out e))
 have HXc_i := hid ((hbEi.block _ (lt_of_block HXc_h.out)).trans HXc_h.out)
 have HOKd_i := hid (fun e => EncN.keep (X := fun _ => False) (Keep.of_below hbEi) (fun _ _ e => e) _ (HOKd_h.out e))
 have HXd_i := hid ((hbEi.block _ (lt_of_block HXd_h.out)).trans HXd_h.out)
 have HOKe_i := hid (fun e => EncN.keep (X := fun _ => False) (Keep.of_below hbEi) (fun _ _ e => e) _ (HOKe_h.out e))
 have HXe_i := hid ((hbEi.block _ (lt_of_block HXe_h.out)).trans HXe_h.out)
 have HOKf_i := hid (fun e => EncN.keep (X := fun _ => False) (Keep.of_below hbEi) (fun _ _ e => e) _ (HOKf_h.out e))
 have HXf_i := hid ((hbEi.block _ (lt_of_block HXf_h.out)).trans HXf_h.out)
 have HOKg_i := hid (fun e => EncN.keep (X := fun _ => False) (Keep.of_below hbEi) (fun _ _ e => e) _ (HOKg_h.out e))
 have HXg_i := hid ((hbEi.block _ (lt_of_block HXg_h.out)).trans HXg_h.out)
 have HOKh_i := hid (fun e => EncN.keep (X := fun _ => False) (Keep.of_below hbEi) (fun _ _ e => e) _ (HOKh_h.out e))
 have HXh_i := hid ((hbEi.block _ (lt_of_block HXh_h.out)).trans HXh_h.out)
 refine Great.wpList_readTo rfl (some 21) rfl (.int .i64 evi) (by as_aux_lemma => kernel_rfl) ?_
 simp only [Act.put, jA, jB, jC, jD, jE, jF]
 clear hxi hbbi hbKi hxxi hXi hbi hbEi hoki hbadi hvi hoi hei CTi
 clear HRi_h HRb_h HOKa_h HXa_h HOKb_h HXb_h HOKc_h HXc_h HOKd_h HXd_h HOKe_h HXe_h HOKf_h HXf_h HOKg_h HXg_h HOKh_h HXh_h
 go_upto_region 13 with fail
 have CTj := hid (itkAsk_any HRb_i.out HLC.out)
 apply wp_region_lit
 refine Great.wpList_readTo rfl (some 77) rfl (.slice ao l.length c) (by as_aux_lemma => kernel_rfl) ?_
 simp only [Act.put, jA, jB, jC, jD, jE, jF]
 refine wpList_callAny rfl (some 78) rfl 15 #[.slice ao l.length c] (by as_aux_lemma => kernel_rfl) CTj.out ?_
 rintro en wTj htj
 obtain ⟨Vj, evj, rfl, hej, hvj, hoj, hokj, hbadj, hbj⟩ := TkR.any zAsk_wide htj
 refine ⟨_, rfl, ?_⟩
 simp only [Act.put, jA, jB, jC, jD, jE, jF]
 clear htj
 refine Great.wpList_readTo rfl (some 76) rfl (.tuple #[.agg Vj, .int .i64 evj]) (by as_aux_lemma => kernel_rfl) ?_
 simp only [Act.put, jA, jB, jC, jD, jE, jF]
 refine Great.wpList_readTo rfl (some 79) rfl (.agg Vj) (by as_aux_lemma => kernel_rfl) ?_
 simp only [Act.put, jA, jB, jC, jD, jE, jF]
 refine Great.wpList_readTo rfl (some 80) rfl (.int .i64 evj) (by as_aux_lemma => kernel_rfl) ?_
 simp only [Act.put, jA, jB, jC, jD, jE, jF]
 refine Great.wpList_allocTo rfl (some 22) rfl _ _ (alloc_Ask _ wTj _ _ _ _) ?_
 simp only [Act.put, jA, jB, jC, jD, jE, jF]
 have hxj := heap_alloc_new wTj (.cells zAsk.toArray 62)
 have hbbj : Below wTj.heap.size wTj (wTj.alloc (.cells zAsk.toArray 62)) := (Below.refl _ _).alloc (Nat.le_refl _) _
 have HIVj : Hid ((Tryz.prog.info? 62).map (·.size) = some Vj.size) := hid (by rw [hvj]; exact info_Ask)
 refine Go.wpList_store_rowTo rfl 62 _ _ rfl rfl wTj.heap.size Vj rfl rfl 62 zAsk.toArray hxj HIVj.out (zAsk_row.1.trans (show 16 = Vj.size from hvj.symm)) hoj ?_
 have hbKj : Below wTj.heap.size wTj ((wTj.alloc (.cells zAsk.toArray 62)).setRow wTj.heap.size Vj) := ((Keep.of_below (X := fun j => j = wTj.heap.size) hbbj).trans (setRow_keep _ _ _)).below (Nat.le_refl _) (fun k e => by have e9 : k = wTj.heap.size := e; omega)
 have hxxj := setRow_heap (wTj.alloc (.cells zAsk.toArray 62)) wTj.heap.size _ Vj _ _ hxj
 obtain ⟨Xj, hXj⟩ : ∃ X, X = wTj.heap.size := ⟨_, rfl⟩
 rw [← hXj] at hxxj hbKj ⊢
 generalize (wTj.alloc (.cells zAsk.toArray 62)).setRow Xj Vj = wEj at *
 rw [hXj] at hbKj
 have hbEj := hbj.trans (hbKj.mono hbj.size)
 have HQj := hid (HQi.out.trans (hbEj.mono HQi.out.size))
 have HXj_j := hid hxxj
 have HOKj_j : Hid (evj = 0 → EncN (fun j => w1.heap.size ≤ j) wEj sAsk Vj.toList (rdF sAsk (l, 0)).1) := hid fun e => EncN.keep (X := fun _ => False) (Keep.of_below hbKj) (fun _ _ e => e) _ (EncN.mono (fun j hj => Nat.le_trans HQi.out.size hj.1) _ (hokj e))
 have HEVj := hid hej
 have HBDj := hid hbadj
 have HRi_j := hid (HRi_i.out.old hbEj)
 have HRb_j := hid (HRb_i.out.old hbEj)
 have HOKa_j := hid (fun e => EncN.keep (X := fun _ => False) (Keep.of_below hbEj) (fun _ _ e => e) _ (HOKa_i.out e))
 have HXa_j := hid ((hbEj.block _ (lt_of_block HXa_i.out)).trans HXa_i.out)
 have HOKb_j := hid (fun e => EncN.keep (X := fun _ => False) (Keep.of_below hbEj) (fun _ _ e => e) _ (HOKb_i.out e))
 have HXb_j := hid ((hbEj.block _ (lt_of_block HXb_i.out)).trans HXb_i.out)
 have HOKc_j := hid (fun e => EncN.keep (X := fun _ => False) (Keep.of_below hbEj) (fun _ _ e => e) _ (HOKc_i.out e))
 have HXc_j := hid ((hbEj.block _ (lt_of_block HXc_i.out)).trans HXc_i.out)
 have HOKd_j := hid (fun e => EncN.keep (X := fun _ => False) (Keep.of_below hbEj) (fun _ _ e => e) _ (HOKd_i.out e))
 have HXd_j := hid ((hbEj.block _ (lt_of_block HXd_i.out)).trans HXd_i.out)
 have HOKe_j := hid (fun e => EncN.keep (X := fun _ => False) (Keep.of_below hbEj) (fun _ _ e => e) _ (HOKe_i.out e))
 have HXe_j := hid ((hbEj.block _ (lt_of_block HXe_i.out)).trans HXe_i.out)
 have HOKf_j := hid (fun e => EncN.keep (X := fun _ => False) (Keep.of_below hbEj) (fun _ _ e => e) _ (HOKf_i.out e))
 have HXf_j := hid ((hbEj.block _ (lt_of_block HXf_i.out)).trans HXf_i.out)
 have HOKg_j := hid (fun e => EncN.keep (X := fun _ => False) (Keep.of_below hbEj) (fun _ _ e => e) _ (HOKg_i.out e))
 have HXg_j := hid ((hbEj.block _ (lt_of_block HXg_i.out)).trans HXg_i.out)
 have HOKh_j := hid (fun e => EncN.keep (X := fun _ => False) (Keep.of_below hbEj) (fun _ _ e => e) _ (HOKh_i.out e))
 have HXh_j := hid ((hbEj.block _ (lt_of_block HXh_i.out)).trans HXh_i.out)
 have HOKi_j := hid (fun e => EncN.keep (X := fun _ => False) (Keep.of_below hbEj) (fun _ _ e => e) _ (HOKi_i.out e))
 have HXi_j := hid ((hbEj.block _ (lt_of_block HXi_i.out)).trans HXi_i.out)
 refine Great.wpList_readTo rfl (some 23) rfl (.int .i64 evj) (by as_aux_lemma => kernel_rfl) ?_
 simp only [Act.put, jA, jB, jC, jD, jE, jF]
 clear hxj hbbj hbKj hxxj hXj hbj hbEj hokj hbadj hvj hoj hej CTj
 clear HRi_i HRb_i HOKa_i HXa_i HOKb_i HXb_i HOKc_i HXc_i HOKd_i HXd_i HOKe_i HXe_i HOKf_i HXf_i HOKg_i HXg_i HOKh_i HXh_i HOKi_i HXi_i
 go_upto_region 14 with fail
 have hab0 : evb = eva := HEVb.out.trans HEVa.out.symm
 subst hab0
 have hab1 : evd = evc := HEVd.out.trans HEVc.out.symm
 subst hab1
 have hab2 : evf = eve := HEVf.out.trans HEVe.out.symm
 subst hab2
 have hab3 : evh = evg := HEVh.out.trans HEVg.out.symm
 subst hab3
 have hab4 : evj = evi := HEVj.out.trans HEVi.out.symm
 subst hab4
 have HST0 : Hid (∀ V, Below wEj.heap.size wEj V → Calls Tryz.prog 16 #[.agg Va, .agg Vb] V (fun e w' => e = .returned (.bool true) ∧ Below V.heap.size V w')) := hid fun V hV => pairCall (fun e => (EncN.enc _ (HOKa_j.out e)).old hV) (fun e => (EncN.enc _ (HOKb_j.out e)).old hV) HBDa.out HBDb.out
 have LVa : Hid (∀ V, Below wEj.heap.size wEj V → (Instr.loadAt 27 (.pointer (some ⟨Xa, 0, none⟩))).run Tryz.prog V = .ok (.agg Va) V) := hid fun V hV => row_load ((hV.block _ (lt_of_block HXa_j.out)).trans HXa_j.out) Tryz.underlying27 rfl HIVa.out
 have LVb : Hid (∀ V, Below wEj.heap.size wEj V → (Instr.loadAt 27 (.pointer (some ⟨Xb, 0, none⟩))).run Tryz.prog V = .ok (.agg Vb) V) := hid fun V hV => row_load ((hV.block _ (lt_of_block HXb_j.out)).trans HXb_j.out) Tryz.underlying27 rfl HIVb.out
 have HST1 : Hid (∀ V, Below wEj.heap.size wEj V → Calls Tryz.prog 17 #[.agg Vc, .agg Vd] V (fun e w' => e = .returned (.bool true) ∧ Below V.heap.size V w')) := hid fun V hV => pairCommand (fun e => (EncN.enc _ (HOKc_j.out e)).old hV) (fun e => (EncN.enc _ (HOKd_j.out e)).old hV) HBDc.out HBDd.out
 have LVc : Hid (∀ V, Below wEj.heap.size wEj V → (Instr.loadAt 43 (.pointer (some ⟨Xc, 0, none⟩))).run Tryz.prog V = .ok (.agg Vc) V) := hid fun V hV => row_load ((hV.block _ (lt_of_block HXc_j.out)).trans HXc_j.out) Tryz.underlying43 rfl HIVc.out
 have LVd : Hid (∀ V, Below wEj.heap.size wEj V → (Instr.loadAt 43 (.pointer (some ⟨Xd, 0, none⟩))).run Tryz.prog V = .ok (.agg Vd) V) := hid fun V hV => row_load ((hV.block _ (lt_of_block HXd_j.out)).trans HXd_j.out) Tryz.underlying43 rfl HIVd.out
 have HST2 : Hid (∀ V, Below wEj.heap.size wEj V → Calls Tryz.prog 18 #[.agg Ve, .agg Vf] V (fun e w' => e = .returned (.bool true) ∧ Below V.heap.size V w')) := hid fun V hV => pairReply (fun e => (EncN.enc _ (HOKe_j.out e)).old hV) (fun e => (EncN.enc _ (HOKf_j.out e)).old hV) HBDe.out HBDf.out
 have LVe : Hid (∀ V, Below wEj.heap.size wEj V → (Instr.loadAt 55 (.pointer (some ⟨Xe, 0, none⟩))).run Tryz.prog V = .ok (.agg Ve) V) := hid fun V hV => row_load ((hV.block _ (lt_of_block HXe_j.out)).trans HXe_j.out) Tryz.underlying55 rfl HIVe.out
 have LVf : Hid (∀ V, Below wEj.heap.size wEj V → (Instr.loadAt 55 (.pointer (some ⟨Xf, 0, none⟩))).run Tryz.prog V = .ok (.agg Vf) V) := hid fun V hV => row_load ((hV.block _ (lt_of_block HXf_j.out)).trans HXf_j.out) Tryz.underlying55 rfl HIVf.out
 have HST3 : Hid (∀ V, Below wEj.heap.size wEj V → Calls Tryz.prog 19 #[.agg Vg, .agg Vh] V (fun e w' => e = .returned (.bool true) ∧ Below V.heap.size V w')) := hid fun V hV => pairCatalog (fun e => (EncN.enc _ (HOKg_j.out e)).old hV) (fun e => (EncN.enc _ (HOKh_j.out e)).old hV) HBDg.out HBDh.out
 have LVg : Hid (∀ V, Below wEj.heap.size wEj V → (Instr.loadAt 50 (.pointer (some ⟨Xg, 0, none⟩))).run Tryz.prog V = .ok (.agg Vg) V) := hid fun V hV => row_load ((hV.block _ (lt_of_block HXg_j.out)).trans HXg_j.out) Tryz.underlying50 rfl HIVg.out
 have LVh : Hid (∀ V, Below wEj.heap.size wEj V → (Instr.loadAt 50 (.pointer (some ⟨Xh, 0, none⟩))).run Tryz.prog V = .ok (.agg Vh) V) := hid fun V hV => row_load ((hV.block _ (lt_of_block HXh_j.out)).trans HXh_j.out) Tryz.underlying50 rfl HIVh.out
 have HST4 : Hid (∀ V, Below wEj.heap.size wEj V → Calls Tryz.prog 20 #[.agg Vi, .agg Vj] V (fun e w' => e = .returned (.bool true) ∧ Below V.heap.size V w')) := hid fun V hV => pairAsk (fun e => (EncN.enc _ (HOKi_j.out e)).old hV) (fun e => (EncN.enc _ (HOKj_j.out e)).old hV) HBDi.out HBDj.out
 have LVi : Hid (∀ V, Below wEj.heap.size wEj V → (Instr.loadAt 62 (.pointer (some ⟨Xi, 0, none⟩))).run Tryz.prog V = .ok (.agg Vi) V) := hid fun V hV => row_load ((hV.block _ (lt_of_block HXi_j.out)).trans HXi_j.out) Tryz.underlying62 rfl HIVi.out
 have LVj : Hid (∀ V, Below wEj.heap.size wEj V → (Instr.loadAt 62 (.pointer (some ⟨Xj, 0, none⟩))).run Tryz.prog V = .ok (.agg Vj) V) := hid fun V hV => row_load ((hV.block _ (lt_of_block HXj_j.out)).trans HXj_j.out) Tryz.underlying62 rfl HIVj.out
 apply wp_region_lit
 refine wpList_callG (by rfl) (some 81) rfl 4 #[] (by as_aux_lemma => kernel_rfl) (xawake_any _) ?_
 rintro en wf ⟨rfl, hbf⟩
 refine ⟨_, rfl, ?_⟩
 simp only [Act.put, jA, jB, jC, jD, jE, jF]
 have HSf := hid hbf
 clear hbf
 refine wpList_readG (by rfl) (some 82) rfl (.bool false) (by as_aux_lemma => kernel_rfl) ?_
 simp only [Act.put, jA, jB, jC, jD, jE, jF]
 refine wpList_readG (by rfl) (some 83) rfl (.bool false) (by as_aux_lemma => kernel_rfl) ?_
 simp only [Act.put, jA, jB, jC, jD, jE, jF]
 refine wpList_readG (by rfl) (some 84) rfl (.agg Va) (exec_load rfl (LVa.out _ HSf.out)) ?_
 simp only [Act.put, jA, jB, jC, jD, jE, jF]
 refine wpList_readG (by rfl) (some 85) rfl (.agg Vb) (exec_load rfl (LVb.out _ HSf.out)) ?_
 simp only [Act.put, jA, jB, jC, jD, jE, jF]
 refine wpList_callG (by rfl) (some 86) rfl 16 #[.agg Va, .agg Vb] (by as_aux_lemma => kernel_rfl) (HST0.out _ HSf.out) ?_
 rintro en wS0 ⟨rfl, hbS0⟩
 refine ⟨_, rfl, ?_⟩
 simp only [Act.put, jA, jB, jC, jD, jE, jF]
 have HS0 := hid (HSf.out.trans (hbS0.mono HSf.out.size))
 clear hbS0
 refine wpList_readG (by rfl) (some 87) rfl (.bool false) (by as_aux_lemma => kernel_rfl) ?_
 simp only [Act.put, jA, jB, jC, jD, jE, jF]
 refine wpList_readG (by rfl) (some 88) rfl (.bool false) (by as_aux_lemma => kernel_rfl) ?_
 simp only [Act.put, jA, jB, jC, jD, jE, jF]
 refine wpList_readG (by rfl) (some 89) rfl (.bool false) (by as_aux_lemma => kernel_rfl) ?_
 simp only [Act.put, jA, jB, jC, jD, jE, jF]
 refine wpList_readG (by rfl) (some 90) rfl (.int .i64 evb) (by as_aux_lemma => kernel_rfl) ?_
 simp only [Act.put, jA, jB, jC, jD, jE, jF]
 refine wpList_readG (by rfl) (some 91) rfl (.int .i64 evb) (by as_aux_lemma => kernel_rfl) ?_
 simp only [Act.put, jA, jB, jC, jD, jE, jF]
 refine wpList_readG (by rfl) (some 92) rfl (.bool false) (by go_simp) ?_
 simp only [Act.put, jA, jB, jC, jD, jE, jF]
 refine wpList_readG (by rfl) (some 93) rfl (.bool false) (by as_aux_lemma => kernel_rfl) ?_
 simp only [Act.put, jA, jB, jC, jD, jE, jF]
 refine wpList_readG (by rfl) (some 94) rfl (.bool false) (by as_aux_lemma => kernel_rfl) ?_
 simp only [Act.put, jA, jB, jC, jD, jE, jF]
 refine wpList_readG (by rfl) (some 95) rfl (.agg Vc) (exec_load rfl (LVc.out _ HS0.out)) ?_
 simp only [Act.put, jA, jB, jC, jD, jE, jF]
 refine wpList_readG (by rfl) (some 96) rfl (.agg Vd) (exec_load rfl (LVd.out _ HS0.out)) ?_
 simp only [Act.put, jA, jB, jC, jD, jE, jF]
 refine wpList_callG (by rfl) (some 97) rfl 17 #[.agg Vc, .agg Vd] (by as_aux_lemma => kernel_rfl) (HST1.out _ HS0.out) ?_
 rintro en wS1 ⟨rfl, hbS1⟩
 refine ⟨_, rfl, ?_⟩
 simp only [Act.put, jA, jB, jC, jD, jE, jF]
 have HS1 := hid (HS0.out.trans (hbS1.mono HS0.out.size))
 clear hbS1
 refine wpList_readG (by rfl) (some 98) rfl (.bool false) (by as_aux_lemma => kernel_rfl) ?_
 simp only [Act.put, jA, jB, jC, jD, jE, jF]
 refine wpList_readG (by rfl) (some 99) rfl (.bool false) (by as_aux_lemma => kernel_rfl) ?_
 simp only [Act.put, jA, jB, jC, jD, jE, jF]
 refine wpList_readG (by rfl) (some 100) rfl (.bool false) (by as_aux_lemma => kernel_rfl) ?_
 simp only [Act.put, jA, jB, jC, jD, jE, jF]
 refine wpList_readG (by rfl) (some 101) rfl (.int .i64 evd) (by as_aux_lemma => kernel_rfl) ?_
 simp only [Act.put, jA, jB, jC, jD, jE, jF]
 refine wpList_readG (by rfl) (some 102) rfl (.int .i64 evd) (by as_aux_lemma => kernel_rfl) ?_
 simp only [Act.put, jA, jB, jC, jD, jE, jF]
 refine wpList_readG (by rfl) (some 103) rfl (.bool false) (by go_simp) ?_
 simp only [Act.put, jA, jB, jC, jD, jE, jF]
 refine wpList_readG (by rfl) (some 104) rfl (.bool false) (by as_aux_lemma => kernel_rfl) ?_
 simp only [Act.put, jA, jB, jC, jD, jE, jF]
 refine wpList_readG (by rfl) (some 105) rfl (.bool false) (by as_aux_lemma => kernel_rfl) ?_
 simp only [Act.put, jA, jB, jC, jD, jE, jF]
 refine wpList_readG (by rfl) (some 106) rfl (.agg Ve) (exec_load rfl (LVe.out _ HS1.out)) ?_
 simp only [Act.put, jA, jB, jC, jD, jE, jF]
 refine wpList_readG (by rfl) (some 107) rfl (.agg Vf) (exec_load rfl (LVf.out _ HS1.out)) ?_
 simp only [Act.put, jA, jB, jC, jD, jE, jF]
 refine wpList_callG (by rfl) (some 108) rfl 18 #[.agg Ve, .agg Vf] (by as_aux_lemma => kernel_rfl) (HST2.out _ HS1.out) ?_
 rintro en wS2 ⟨rfl, hbS2⟩
 refine ⟨_, rfl, ?_⟩
 simp only [Act.put, jA, jB, jC, jD, jE, jF]
 have HS2 := hid (HS1.out.trans (hbS2.mono HS1.out.size))
 clear hbS2
 refine wpList_readG (by rfl) (some 109) rfl (.bool false) (by as_aux_lemma => kernel_rfl) ?_
 simp only [Act.put, jA, jB, jC, jD, jE, jF]
 refine wpList_readG (by rfl) (some 110) rfl (.bool false) (by as_aux_lemma => kernel_rfl) ?_
 simp only [Act.put, jA, jB, jC, jD, jE, jF]
 refine wpList_readG (by rfl) (some 111) rfl (.bool false) (by as_aux_lemma => kernel_rfl) ?_
 simp only [Act.put, jA, jB, jC, jD, jE, jF]
 refine wpList_readG (by rfl) (some 112) rfl (.int .i64 evf) (by as_aux_lemma => kernel_rfl) ?_
 simp only [Act.put, jA, jB, jC, jD, jE, jF]
 refine wpList_readG (by rfl) (some 113) rfl (.int .i64 evf) (by as_aux_lemma => kernel_rfl) ?_
 simp only [Act.put, jA, jB, jC, jD, jE, jF]
 refine wpList_readG (by rfl) (some 114) rfl (.bool false) (by go_simp) ?_
 simp only [Act.put, jA, jB, jC, jD, jE, jF]
 refine wpList_readG (by rfl) (some 115) rfl (.bool false) (by as_aux_lemma => kernel_rfl) ?_
 simp only [Act.put, jA, jB, jC, jD, jE, jF]
 refine wpList_readG (by rfl) (some 116) rfl (.bool false) (by as_aux_lemma => kernel_rfl) ?_
 simp only [Act.put, jA, jB, jC, jD, jE, jF]
 refine wpList_readG (by rfl) (some 117) rfl (.agg Vg) (exec_load rfl (LVg.out _ HS2.out)) ?_
 simp only [Act.put, jA, jB, jC, jD, jE, jF]
 refine wpList_readG (by rfl) (some 118) rfl (.agg Vh) (exec_load rfl (LVh.out _ HS2.out)) ?_
 simp only [Act.put, jA, jB, jC, jD, jE, jF]
 refine wpList_callG (by rfl) (some 119) rfl 19 #[.agg Vg, .agg Vh] (by as_aux_lemma => kernel_rfl) (HST3.out _ HS2.out) ?_
 rintro en wS3 ⟨rfl, hbS3⟩
 refine ⟨_, rfl, ?_⟩
 simp only [Act.put, jA, jB, jC, jD, jE, jF]
 have HS3 := hid (HS2.out.trans (hbS3.mono HS2.out.size))
 clear hbS3
 refine wpList_readG (by rfl) (some 120) rfl (.bool false) (by as_aux_lemma => kernel_rfl) ?_
 simp only [Act.put, jA, jB, jC, jD, jE, jF]
 refine wpList_readG (by rfl) (some 121) rfl (.bool false) (by as_aux_lemma => kernel_rfl) ?_
 simp only [Act.put, jA, jB, jC, jD, jE, jF]
 refine wpList_readG (by rfl) (some 122) rfl (.bool false) (by as_aux_lemma => kernel_rfl) ?_
 simp only [Act.put, jA, jB, jC, jD, jE, jF]
 refine wpList_readG (by rfl) (some 123) rfl (.int .i64 evh) (by as_aux_lemma => kernel_rfl) ?_
 simp only [Act.put, jA, jB, jC, jD, jE, jF]
 refine wpList_readG (by rfl) (some 124) rfl (.int .i64 evh) (by as_aux_lemma => kernel_rfl) ?_
 simp only [Act.put, jA, jB, jC, jD, jE, jF]
 refine wpList_readG (by rfl) (some 125) rfl (.bool false) (by go_simp) ?_
 simp only [Act.put, jA, jB, jC, jD, jE, jF]
 refine wpList_readG (by rfl) (some 126) rfl (.bool false) (by as_aux_lemma => kernel_rfl) ?_
 simp only [Act.put, jA, jB, jC, jD, jE, jF]
 refine wpList_readG (by rfl) (some 127) rfl (.bool false) (by as_aux_lemma => kernel_rfl) ?_
 simp only [Act.put, jA, jB, jC, jD, jE, jF]
 refine wpList_readG (by rfl) (some 128) rfl (.agg Vi) (exec_load rfl (LVi.out _ HS3.out)) ?_
 simp only [Act.put, jA, jB, jC, jD, jE, jF]
 refine wpList_readG (by rfl) (some 129) rfl (.agg Vj) (exec_load rfl (LVj.out _ HS3.out)) ?_
 simp only [Act.put, jA, jB, jC, jD, jE, jF]
 refine wpList_callG (by rfl) (some 130) rfl 20 #[.agg Vi, .agg Vj] (by as_aux_lemma => kernel_rfl) (HST4.out _ HS3.out) ?_
 rintro en wS4 ⟨rfl, hbS4⟩
 refine ⟨_, rfl, ?_⟩
 simp only [Act.put, jA, jB, jC, jD, jE, jF]
 have HS4 := hid (HS3.out.trans (hbS4.mono HS3.out.size))
 clear hbS4
 refine wpList_readG (by rfl) (some 131) rfl (.bool false) (by as_aux_lemma => kernel_rfl) ?_
 simp only [Act.put, jA, jB, jC, jD, jE, jF]
 refine wpList_readG (by rfl) (some 132) rfl (.bool false) (by as_aux_lemma => kernel_rfl) ?_
 simp only [Act.put, jA, jB, jC, jD, jE, jF]
 refine wpList_readG (by rfl) (some 133) rfl (.bool false) (by as_aux_lemma => kernel_rfl) ?_
 simp only [Act.put, jA, jB, jC, jD, jE, jF]
 refine wpList_readG (by rfl) (some 134) rfl (.int .i64 evj) (by as_aux_lemma => kernel_rfl) ?_
 simp only [Act.put, jA, jB, jC, jD, jE, jF]
 refine wpList_readG (by rfl) (some 135) rfl (.int .i64 evj) (by as_aux_lemma => kernel_rfl) ?_
 simp only [Act.put, jA, jB, jC, jD, jE, jF]
 refine wpList_readG (by rfl) (some 136) rfl (.bool false) (by go_simp) ?_
 simp only [Act.put, jA, jB, jC, jD, jE, jF]
 refine wpList_readG (by rfl) (some 137) rfl (.bool false) (by as_aux_lemma => kernel_rfl) ?_
 simp only [Act.put, jA, jB, jC, jD, jE, jF]
 go_upto_region 16 with fail
 obtain ⟨ya, hya, hta⟩ := call_told2 HOKa_j.out HBDa.out
 obtain ⟨yc, qc, hyc, hqc, htc, hpc⟩ := command_told2 HOKc_j.out HBDc.out
 have hn0 : w1.heap.size ≤ wEj.heap.size := HQj.out.size
 have HP0 := hid (Spo.below hn0 HS4.out)
 have ht2 := htc.spo HP0.out
 have hp2 := hpc.spo HP0.out
 have ht1 := hta.spo HP0.out
 have hxa := (HS4.out.block _ (lt_of_block HXa_j.out)).trans HXa_j.out
 have hxc := (HS4.out.block _ (lt_of_block HXc_j.out)).trans HXc_j.out
 have hca : wS4.cell? ⟨Xa, 2, none⟩ = some ya := by simp only [World.cell?, hxa]; exact hya
 have hcc : wS4.cell? ⟨Xc, 7, none⟩ = some yc := by simp only [World.cell?, hxc]; exact hyc
 have hcq : wS4.cell? ⟨Xc, 10, none⟩ = some qc := by simp only [World.cell?, hxc]; exact hqc
 have HBA : Hid (Below w1.heap.size w1 wS4) := hid (HQj.out.trans (HS4.out.mono HQj.out.size))
 obtain ⟨aa, na, ca, rfl⟩ := hta.form
 obtain ⟨ac, nc, cc, rfl⟩ := htc.form
 obtain ⟨K0, ⟨aq, cq, rfl⟩, hK0⟩ := hpc
 obtain ⟨n, hn⟩ : ∃ n, n = K0.length := ⟨_, rfl⟩
 rw [← hn] at hp2 hcq
 have hnm : n ≤ 9223372036854775807 := by obtain ⟨_, _, e9, h9, h8, _⟩ := hK0.1; unfold maxLen at h8; omega
 have HNM := hid hnm
 have HT1 := hid ht1
 have HT2 := hid ht2
 have HP2 := hid hp2
 have HCC := hid hcc
 have HCQ := hid hcq
 have CS := hid (told_spoil HT1.out HBA.out.size)
 clear hta htc hn0 ht1 ht2 hp2 hxa hxc hya hyc hqc hK0 hcc hcq hn hnm
 clear HOKa_j HXa_j HEVa HBDa HIVa LVa HOKb_j HXb_j HEVb HBDb HIVb LVb HOKc_j HXc_j HEVc HBDc HIVc LVc HOKd_j HXd_j HEVd HBDd HIVd LVd HOKe_j HXe_j HEVe HBDe HIVe LVe HOKf_j HXf_j HEVf HBDf HIVf LVf HOKg_j HXg_j HEVg HBDg HIVg LVg HOKh_j HXh_j HEVh HBDh HIVh LVh HOKi_j HXi_j HEVi HBDi HIVi LVi HOKj_j HXj_j HEVj HBDj HIVj LVj
 go_upto_region 17 with (first | (go_at_call 21; refine CS.out.mono ?_; rintro en wa ⟨rfl, hs⟩; have HSA := hid hs; clear hs))
 clear hca CS
 have hcc := HSA.out.1.stay HCC.out (fun c e => by cases e)
 have hcq := HSA.out.1.stay HCQ.out (fun c e => by cases e)
 have HT2 := hid (HT2.out.spo HSA.out)
 have HP2 := hid (HP2.out.spo HSA.out)
 have HBA := hid (HBA.out.trans HSA.out.2.1)
 have HCQ := hid hcq
 have CS := hid (told_spoil HT2.out HBA.out.size)
 clear hcq HSA
 go_upto_region 18 with (first | (go_at_call 21; refine CS.out.mono ?_; rintro en wb ⟨rfl, hs⟩; have HSB := hid hs; clear hs))
 clear hcc CS
 have hcq := HSB.out.1.stay HCQ.out (fun c e => by cases e)
 have HP2 := hid (HP2.out.spo HSB.out)
 have HBA := hid (HBA.out.trans HSB.out.2.1)
 have HCQ := hid hcq
 clear HSB HT2
 go_upto_region 19 with fail
 clear hcq
 go_loopw [147] (fun i wr => ∃ k : Nat, k ≤ n ∧ i = .int .i64 (k : Int) ∧ Spo w1.heap.size wb wr) (fun i _ => n - (intOf i).toNat)
 case atStart => exact ⟨0, Nat.zero_le _, rfl, Spo.refl _ _⟩
 case round =>
  obtain ⟨k, hk, rfl, hsp⟩ := hrel
  have HSP := hid hsp
  have HBR := hid (HBA.out.trans hsp.2.1)
  by_cases hlt : k < n
  · have hcq := hsp.1.stay HCQ.out (fun c e => by cases e)
    obtain ⟨K, ⟨a2, c2, e9⟩, hr, hkk⟩ := HP2.out.spo hsp
    obtain ⟨rfl, rfl, rfl⟩ : aq = a2 ∧ n = K.length ∧ cq = c2 := by injection e9 with e1 e2 e3; exact ⟨e1, e2, e3⟩
    have hki : K[k]? = some K[k] := List.getElem?_eq_getElem hlt
    obtain ⟨a1, n1, c1, a3, n3, c3, z, hre, htk⟩ := hkk K[k] (List.getElem_mem hlt)
    obtain ⟨bq, oq, rfl, hcell⟩ := hr.get (by decide) hki
    have hc0 := hcell 0 (.slice a1 n1 c1) (by rw [hre]; rfl)
    have hc00 : wr.cell? ⟨bq, oq + k * 3, none⟩ = some (.slice a1 n1 c1) := hc0
    have CS := hid (told_spoil htk HBR.out.size)
    have hki2 : (k : Int) < (K.length : Int) := by omega
    have h4 : (k : Int) + 1 ≤ 9223372036854775807 := by have h5 := HNM.out; omega
    clear hsp e9 hr hkk hki hre htk hcell hc0
    go_wp2_with (first | (go_at_call 21; refine CS.out.mono ?_; rintro en wc ⟨rfl, hs⟩; have HSC := hid hs; clear hs))
    go_roundw
    case rel => exact ⟨k + 1, hlt, by go_num, HSP.out.trans HSC.out⟩
    case measure => simp [intOf]; omega
  · have hki2 : ¬ (k : Int) < (n : Int) := by omega
    have CK : Hid (Calls Tryz.prog 22 #[.slice (some ⟨g, 0, none⟩) l.length (l.length + 3), .slice ao l.length c, .int .u8 71] wr (Draws wr (.bool true))) := hid (kept_any _ l 71 wr g W.heap.size (HX.out.old (HB0.out.trans (HBR.out.mono HB0.out.size))) HLB.out (own_old HO.out HBR.out))
    clear hsp
    go_wp2_with (first | (go_at_call 22; refine CK.out.mono ?_; rintro en wd hd; have HD := hid (Draws.below hd); obtain ⟨rfl, -⟩ := hd))
    go_ret
    have hbw := HB0.out.trans (HBR.out.mono HB0.out.size)
    exact ⟨rfl, hbw.trans (HD.out.mono hbw.size)⟩
end wireTakes
end Go.Proofs.YtmdgifmigikffaaGreat
namespace Go.Proofs.YtmdgifmigikffaaGreat.wireTakes
open Go.ChangeShapes Go.WideShapes Go.ChangeAt Go.RowKit
open Go.ChangeMaps (open_string shut_string)
theorem own : ownKnob Tryz.prog.godebug = none := by kernel_rfl
theorem laidOut : laidOutB Tryz.prog = true := by kernel_rfl
set_option maxRecDepth 100000 in
theorem contract (H : Type) (enc : TypeId × Value → H) (W : World) (base : Nat) (args : Array Value) (ds gs : List (DataW H)) (before : List MemPlace)
 (hval0 : ∀ (j : Nat) t v, Tryz.f3.params[j]? = some t → args[j]? = some v → Value.okWide Tryz.prog W .any base t v)
 (hW : DataW.Whole enc Tryz.prog Tryz.f3.params.toList Rows.wireTakesSpec.vars false W args.toList ds gs before)
 (hsz0 : (DataW.weightsEach Tryz.prog (Tryz.f3.params.toList ++ Rows.wireTakesSpec.plain.varTypes Tryz.prog) (ds ++ gs)).all (· ≤ reachBytes) = true) :
 Calls Tryz.prog 3 args W fun e W' => ∃ v, e = .returned v ∧ Rows.wireTakesSpec.post enc Tryz.prog Tryz.f3 false true false false W args v W' := by
 have hval : ∀ (j : Nat) t v, Tryz.f3.params[j]? = some t → args[j]? = some v → Value.okWide Tryz.prog W .any base t v := hval0
 have hW' := hW
 obtain ⟨p, q, hA0, hV, rfl, hfz, hnd⟩ := hW
 have hA : DataW.TrodAll enc Tryz.prog W 0 (fun _ => true) true Tryz.f3.params.toList args.toList ds p := hA0
 have hsz : (DataW.weightsEach Tryz.prog (Tryz.f3.params.toList ++ Rows.wireTakesSpec.plain.varTypes Tryz.prog) (ds ++ gs)).all (· ≤ reachBytes) = true := hsz0
 rw [Tryz.params3] at hA hval hsz
 obtain ⟨v0, vs0, d0, ds0, p0, q0, hargs, rfl, rfl, h0, r0⟩ := trodAll_cons hA
 obtain ⟨rfl, rfl, rfl⟩ := trodAll_nil r0
 obtain rfl : args = #[v0] := by cases args; simp_all
 obtain ⟨rfl, rfl⟩ := trodVars_none hV
 have k0 := h0
 have lt0 : ∀ x ∈ p0, x.block < W.heap.size := by obtain ⟨m, hm⟩ := k0; exact DataW.trod_lt m _ _ _ hm
 obtain ⟨a0, len0, cap0, rfl⟩ := okWide_slice Tryz.underlying22 (hval 0 22 v0 rfl rfl)
 obtain ⟨z0, w0, s0⟩ := isRow_open Tryz.underlying22 Tryz.underlying5 (by kernel_rfl) h0
 have b0 := s0 hsz (j := 0) rfl rfl
 rw [show Tryz.prog.bytesOf 5 = 1 from by kernel_rfl] at b0
 clear hA0 hval0 hsz0
 obtain ⟨l0, hl0, hr0⟩ := rd_of_row w0
 refine (walk (.slice a0 len0 cap0) l0 W hr0).mono fun e W' ⟨he, bel⟩ => ?_
 subst he
 exact ⟨_, rfl, _, _, _, [], _, [], hW', trodAll_mk1 (shut_bool Tryz.underlying4 _), (trodAll_cons_mk (Below.trod laidOut (by kernel_rfl) (of_decide_eq_true (by kernel_rfl)) k0 bel lt0) trodAll_mk0), rfl, bel.frame _, fun h => by cases h⟩
set_option maxRecDepth 100000 in
theorem lifted (os : Os) (started : os.Started) (H : Type) (enc : TypeId × Value → H) :
 ReturnsInHanded {} Tryz.checked os 3 .any (Rows.wireTakesSpec.pre6 enc Tryz.prog Tryz.f3 Rows.wireTakesRow.domain false) (Rows.wireTakesSpec.post enc Tryz.prog Tryz.f3 false true false false) := by
 refine returnsInHanded_of_change_sized (C := Tryz.checked) own started (by kernel_rfl) Tryz.func3
  (ChangeSpec.witness6 (enc := enc) (C := Tryz.checked) false ⟨#[], #[.slice none 0 0], []⟩ 8 (by kernel_rfl) (by kernel_rfl) (by kernel_rfl) (by kernel_rfl)) ?_
 intro W base args ds gs before hval0 hW _ hsz _
 exact contract H enc W base args ds gs before hval0 hW hsz
theorem over : Rows.wireTakesRow.holds Tryz.pinned (OpenSpec.ofChange Rows.wireTakesSpec) :=
 OpenClaim.holds_of_wide 3 Tryz.f3 rfl rfl rfl rfl rfl rfl rfl ⟨rfl, rfl, rfl, rfl, rfl⟩ rfl rfl rfl rfl rfl (by kernel_rfl) Tryz.func3 (by kernel_rfl)
  (of_decide_eq_true (by kernel_rfl)) (by unfold Func.isWrapper; first | (rw [if_pos (by decide +kernel)]; kernel_rfl) | (rw [if_neg (by decide +kernel)]; exact ⟨rfl, rfl⟩))
  (fun os started H enc _ => lifted os started H enc)
theorem proved : Rows.WireTakesSaid := over
end Go.Proofs.YtmdgifmigikffaaGreat.wireTakes
