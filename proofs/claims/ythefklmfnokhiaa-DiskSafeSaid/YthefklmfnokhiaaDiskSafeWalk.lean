/-
  THE LAW DiskSafe: its walk.
-/
import Derived.Test.YthefklmfnokhiaaDiskApartWalk
import Derived.Test.YthefklmfnokhiaaDsf
import Derived.Deep.RegionWith
import Derived.Deep.RegionLaw
import Derived.Deep.RegionHeldLaw
import Derived.Deep.CutBlock
import Derived.ArgAppend
import Derived.Deep.Upon
set_option linter.unusedVariables false
set_option maxRecDepth 100000
namespace Go.Proofs.Ythefklmfnokhiaa
open Go.RowKit

theorem four_number (z : Int) : ∃ n : Nat, n < 4 ∧ wrap64 ((IntKind.u64.wrap z).tmod 4) = (n : Int) := by
  have e : IntKind.u64.wrap z = (((z % 18446744073709551616).toNat : Nat) : Int) := by rw [IntKind.wrap_u64]; omega
  generalize (z % 18446744073709551616).toNat = u at e
  have h1 : (u : Int).tmod 4 = ((u % 4 : Nat) : Int) := rfl
  refine ⟨u % 4, Nat.mod_lt _ (by omega), ?_⟩
  rw [e, h1]
  simp only [wrap64]
  omega

namespace diskSafe
set_option maxHeartbeats 16000000 in
theorem walk0 (va vb : Value) (la lb : List UInt8) (za zk : Int) (w : World) (ha : Rd w va la) (hb : Rd w vb lb) :
    Calls Try.prog 4 #[va, vb, .int .i64 za, .int .i64 zk] w (AnsP w (.bool true)) := by
  obtain ⟨ao, ac, rfl, -⟩ := id ha
  obtain ⟨bo, bc, rfl, -⟩ := id hb
  obtain ⟨x, hx4, hxe⟩ := four_number za
  have HA := hid ha
  have HB := hid hb
  clear ha hb
  have CN : Hid (Calls Try.prog 7 #[.int .i64 4] w (NewA 4 w)) := new_any 4 (by omega) (by omega) w
  go_enter Try.func4, Try.ntmps4
  go_wp2_with (first | (go_at_call 7; refine CN.out.mono ?_))
  rintro e w1 ⟨db, sb, rfl, hD1, hb1⟩
  have HD1 : Hid (Dk w.heap.size w1 db sb (.slice none 0 0) (List.replicate 4 z64) [] false 0) := hD1
  have HB1 := hid hb1
  clear hD1 hb1
  go_wp2_with (first | (go_at_call 8; refine (awake_any w1).mono ?_))
  rintro e w2 ⟨rfl, hb2⟩
  have HDS1 : Hid (Dk w.heap.size w2 db sb (.slice none 0 0) (List.replicate 4 z64) [] false 0) := HD1.out.old hb2
  have HBS1 : Hid (Below w.heap.size w w2) := HB1.out.trans (hb2.mono HB1.out.size)
  clear hb2
  have hr4 : (List.replicate 4 z64)[x]? = some z64 := by rw [List.getElem?_replicate, if_pos hx4]
  have CS1 : Hid (Calls Try.prog 25 #[.slice ao la.length ac] w2 (Gives 5 w2 (secOf la))) := sector_any _ _ la (HA.out.old HBS1.out)
  go_wp2_with (first | (go_at_call 25; refine CS1.out.mono ?_))
  rintro e u1 ⟨v1, rfl, hv1, hbu1⟩
  obtain ⟨vo1, vc1, rfl⟩ := own_form hv1
  have hvr1 := Rd.own hv1
  rw [sec_len] at hvr1 ⊢
  have CW1 := hid (write_any (HDS1.out.old hbu1) _ (secOf la) x z64 hr4 hvr1 (sec_len _) (by simp))
  have HBU1 : Hid (Below w.heap.size w u1) := HBS1.out.trans (hbu1.mono HBS1.out.size)
  clear hv1 hvr1 hbu1
  go_wp2_with (first | (go_at_call 24; refine CW1.out.mono ?_))
  rintro e t1 ⟨rfl, vw1, hD1x, hb1x⟩
  have CF := hid (flush0 hD1x)
  have HBT1 : Hid (Below w.heap.size w t1) := HBU1.out.trans hb1x
  clear hD1x hb1x
  go_wp2_with (first | (go_at_call 14; refine CF.out.mono ?_))
  rintro e t2 ⟨rfl, hD2, hb2⟩
  obtain ⟨S1, hS1⟩ : ∃ S1, S1 = (List.replicate 4 z64).set x (secOf la) := ⟨_, rfl⟩
  rw [← hS1] at hD2
  have hS1x : S1[x]? = some (secOf la) := by rw [hS1, List.getElem?_set_self (by simpa using hx4)]
  have hS1l : S1.length = 4 := by rw [hS1]; simp
  have HDS2 := hid hD2
  have HBS2 : Hid (Below w.heap.size w t2) := HBT1.out.trans hb2
  clear hD2 hb2 hS1 hr4
  have CS2 : Hid (Calls Try.prog 25 #[.slice bo lb.length bc] t2 (Gives 5 t2 (secOf lb))) := sector_any _ _ lb (HB.out.old HBS2.out)
  go_wp2_with (first | (go_at_call 25; refine CS2.out.mono ?_))
  rintro e u2 ⟨v2, rfl, hv2, hbu2⟩
  obtain ⟨vo2, vc2, rfl⟩ := own_form hv2
  have hvr2 := Rd.own hv2
  rw [sec_len] at hvr2 ⊢
  have CW2 := hid (write_any (HDS2.out.old hbu2) _ (secOf lb) x (secOf la) hS1x hvr2 (sec_len _) (by simp))
  have HBU2 : Hid (Below w.heap.size w u2) := HBS2.out.trans (hbu2.mono HBS2.out.size)
  clear hv2 hvr2 hbu2
  go_wp2_with (first | (go_at_call 24; refine CW2.out.mono ?_))
  rintro e t3 ⟨rfl, vw3, hD3, hb3⟩
  have CWA := hid (waiting_any hD3)
  have HD3 := hid hD3
  have HB3 : Hid (Below w.heap.size w t3) := HBU2.out.trans hb3
  clear hD3 hb3
  go_wp2_with (first | (go_at_call 30; refine CWA.out.mono ?_))
  rintro e t4 ⟨rfl, rfl⟩
  have hb5 : Below t4.heap.size t4 (t4.alloc (.cells #[.int .i64 zk] 3)) := (Below.refl _ _).alloc (Nat.le_refl _) _
  have hr5 : Rws 1 (t4.alloc (.cells #[.int .i64 zk] 3)) (.slice (some ⟨t4.heap.size, 0, none⟩) 1 1) (([zk] : List Int).map fun z => [.int .i64 z]) :=
    Rws.own (base := t4.heap.size) (e := 3) ⟨rfl, .inr ⟨t4.heap.size, 1, _, rfl, Nat.le_refl _, heap_alloc_new _ _, Nat.le_refl _, by decide, rfl, rfl⟩⟩ (fun r hr => by
      obtain rfl : r = [.int .i64 zk] := by simpa using hr
      exact ⟨rfl, fun u hu => by obtain rfl : u = .int .i64 zk := by simpa using hu
                                 rfl⟩)
  have CC := crash_any (HD3.out.old hb5) _ [zk] hr5 (by simp)
  obtain ⟨S6, hS6⟩ : ∃ S6, S6 = layM (tbM (S1.set x (secOf lb)) ([] ++ [⟨x, secOf la, secOf lb⟩] : List Wr).reverse) ([] ++ [⟨x, secOf la, secOf lb⟩]) [zk] := ⟨_, rfl⟩
  rw [← hS6] at CC
  have h6x : S6[x]? = some ((secOf lb).take (cl zk) ++ (secOf la).drop (cl zk)) := by
    rw [hS6]
    show (lay1 ((S1.set x (secOf lb)).set x (secOf la)) ⟨x, secOf la, secOf lb⟩ zk)[x]? = _
    unfold lay1
    rw [List.getElem?_set_self (by simp [hS1l]; exact hx4)]
    congr 3
    rw [List.getD, List.getElem?_set_self (by simp [hS1l]; exact hx4)]
    rfl
  have HCC := hid CC
  have HB5 := hid hb5
  have H6X := hid h6x
  clear CC hS6 h6x hb5 hr5
  go_wp2_with (first | (go_at_call 19; refine HCC.out.mono ?_))
  rintro e w6 ⟨rfl, hD6, hb6⟩
  have CST := hid (start_down hD6 hD6.few)
  have HB6 : Hid (Below w.heap.size w w6) := (HB3.out.trans (HB5.out.mono HB3.out.size)).trans hb6
  clear hD6 hb6
  go_wp2_with (first | (go_at_call 22; refine CST.out.mono ?_))
  rintro e w7 ⟨rfl, hD7, hb7⟩
  obtain ⟨X, hX⟩ : ∃ X, X = (secOf lb).take (cl zk) ++ (secOf la).drop (cl zk) := ⟨_, rfl⟩
  rw [← hX] at H6X
  have hXl : X.length = 64 := by rw [hX, List.length_append, List.length_take, List.length_drop, sec_len, sec_len]; have := cl_le zk; omega
  have CR := hid (read_any hD7 x X H6X.out)
  have HD7 := hid hD7
  have HB7 : Hid (Below w.heap.size w w7) := HB6.out.trans hb7
  clear hD7 hb7
  go_wp2_with (first | (go_at_call 10; refine CR.out.mono ?_))
  rintro e w8 ⟨y, rfl, hy, hb8⟩
  obtain ⟨yo, yc, rfl⟩ := own_form hy
  have hyr := Rd.own hy
  rw [hXl] at hyr ⊢
  have HY := hid hyr
  have HD8 := hid (HD7.out.old hb8)
  have HB8 : Hid (Below w.heap.size w w8) := HB7.out.trans (hb8.mono HB7.out.size)
  have HX := hid hX
  clear hyr hy hb8 hX
  go_upto_region 6 with fail
  go_cut [13] from 76 to 78 (fun v wx => v = .int .i64 (cl zk : Int) ∧ wx = w8)
  case first =>
    have hcl := cl_int zk
    go_wp2_with fail
    all_goals go_meet
    all_goals (refine ⟨?_, rfl⟩; congr 1; omega)
  case rest =>
    obtain ⟨rfl, hwc⟩ := hcut
    rw [hwc]
    clear hwc
    go_upto_region 7 with fail
    have HYD : Hid (∀ W, Below w8.heap.size w8 W → Rd W (.slice yo 64 yc) X) := hid (fun W h => HY.out.old h)
    have HCL := hid (cl_le zk)
    have WT := hid (fun W (h : Below w8.heap.size w8 W) => waiting_any (HD8.out.old h))
    have SB := hid (fun W (h : Below w8.heap.size w8 W) => sector_any _ _ lb ((HB.out.old HB8.out).old h))
    have SA := hid (fun W (h : Below w8.heap.size w8 W) => sector_any _ _ la ((HA.out.old HB8.out).old h))
    have hS0 : Below w8.heap.size w8 w8 := Below.refl _ _
    go_region_held_law (fun W => Below w8.heap.size w8 W)
      (first | assumption | exact hS0.drew)
      (first
      | (go_at_call 30
         refine (WT.out _ (by first | assumption | exact hS0.drew)).mono ?_
         rintro e w9 ⟨rfl, rfl⟩)
      | (go_at_call_of 25 lb
         refine (SB.out _ (by first | assumption | exact hS0.drew)).mono ?_
         rintro e y1 ⟨p1, rfl, hp1, hbp1⟩
         have hS1 : Below w8.heap.size w8 y1 := by first | exact below_on (by assumption) hbp1 | exact below_on hS0.drew hbp1
         obtain ⟨g1, c1, rfl, hc1, hr1⟩ := own64 hp1 (sec_len _)
         have HR1 := hid hr1
         have HC1 := hid hc1
         have HS1 := hid hS1
         have s1 := cut_both (P := Try.prog) 30 5 Try.underlying30 (by kernel_rfl) (some ⟨g1, 0, none⟩) 64 c1 (cl zk) (by have := cl_le zk; omega)
         clear hp1 hbp1 hr1 hc1)
      | (go_at_call_of 25 la
         refine (SA.out _ (by assumption)).mono ?_
         rintro e y2 ⟨p2, rfl, hp2, hbp2⟩
         have hS2 : Below w8.heap.size w8 y2 := below_on HS1.out hbp2
         obtain ⟨g2, c2, rfl, hc2, hr2⟩ := own64 hp2 (sec_len _)
         obtain ⟨ao3, c3, s3, hr3, -⟩ := hr2.cut 30 5 Try.underlying30 (by kernel_rfl) (cl zk) (by rw [sec_len]; exact HCL.out)
         rw [sec_len] at s3 hr3
         have HR3 := hid hr3
         have HR4 := hid (HR1.out.old hbp2)
         have HS2 := hid hS2
         clear hp2 hbp2 hr2 hc2 hr3)
      | (go_at_call 12
         refine (bytes_any _ _ _ _ _ (HYD.out _ (by assumption)) HR5.out).mono ?_
         rintro e w10 ⟨rfl, rfl⟩
         rw [← HX.out, beq_self_eq_true])
      | (obtain ⟨o4, c4, y4, hrun, hr4, hb4⟩ := app_cut (n := cl zk) (m := 64 - cl zk) HR4.out (sec_len _) (by have := HCL.out; omega) HR3.out (by rw [List.length_drop, sec_len])
         refine step_known (.tmp 92) (.tmp 96) 30 (by rfl) (by rfl) _ _ _ (by rfl) (by rfl) hrun (by first | rfl | (simp [Region.wanted, yielded]; done)) ?_
         have hS4 : Below w8.heap.size w8 y4 := below_on HS2.out hb4
         have HR5 := hid hr4
         clear hrun hr4 hb4)
      | fail)
    all_goals
      go_wp2_with fail
      go_ret
      exact ⟨rfl, HB8.out.trans (hS4.mono HB8.out.size)⟩

theorem walk {H : Type} {enc : TypeId × Value → H} {base : Nat} {d0 d1 : DataW H} {p0 p1 : List MemPlace} (v0 v1 : Value) (a2 a3 : Int) (w : World)
    (k0 : Value.okWide Try.prog w .any base 30 v0) (t0 : DataW.Trod enc Try.prog w 0 (fun _ => true) true 30 v0 d0 p0)
    (k1 : Value.okWide Try.prog w .any base 30 v1) (t1 : DataW.Trod enc Try.prog w 0 (fun _ => true) true 30 v1 d1 p1)
    (w2 : (Lit.int .i64 a2).wf = true) (w3 : (Lit.int .i64 a3).wf = true) :
    Calls Try.prog 4 #[v0, v1, .int .i64 a2, .int .i64 a3] w fun e w' => e = .returned (.bool true) ∧ Below w.heap.size w w' := by
  obtain ⟨xa, xl, xc, rfl⟩ := WideShapes.okWide_slice Try.underlying30 k0
  obtain ⟨ya, yl, yc, rfl⟩ := WideShapes.okWide_slice Try.underlying30 k1
  obtain ⟨l0, rfl, h0⟩ := bytes_open t0
  obtain ⟨l1, rfl, h1⟩ := bytes_open t1
  exact walk0 _ _ l0 l1 a2 a3 w h0 h1
end diskSafe
end Go.Proofs.Ythefklmfnokhiaa
