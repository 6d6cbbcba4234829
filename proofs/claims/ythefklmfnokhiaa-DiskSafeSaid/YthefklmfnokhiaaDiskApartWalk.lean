/-
  THE LAW DiskApart: its walk.
-/
import Derived.LoopN
import Derived.Test.YthefklmfnokhiaaDa
import Derived.Test.YthefklmfnokhiaaLaw
import Derived.Deep.Slices
import Derived.Deep.CutRange
set_option linter.unusedVariables false
set_option maxRecDepth 100000
namespace Go.Proofs.Ythefklmfnokhiaa
open Go.RowKit Go.ChangeShapes Go.WideShapes Go.ChangeAt Go.Deep

set_option maxHeartbeats 1000000 in
theorem bytes_any (x y : Value) (l m : List UInt8) (w : World) (hx : Rd w x l) (hy : Rd w y m) :
    Calls Try.prog 12 #[x, y] w fun e w' => e = .returned (.bool (l == m)) ∧ w' = w := by
  have c1 := hx.conv (P := Try.prog) 30 9 5 Try.underlying30 Try.underlying5 Try.underlying9
  have c2 := hy.conv (P := Try.prog) 30 9 5 Try.underlying30 Try.underlying5 Try.underlying9
  clear hx hy
  go_enter Try.func12, Try.ntmps12
  go_wp2_with fail
  go_ret
  exact ⟨rfl, rfl⟩

theorem bytes_open {H : Type} {enc : TypeId × Value → H} {W : World} {a : Option Addr} {len cap : Nat} {d : DataW H} {p : List MemPlace} (h : DataW.Trod enc Try.prog W 0 (fun _ => true) true 30 (.slice a len cap) d p) : ∃ l : List UInt8, l.length = len ∧ Rd W (.slice a len cap) l := by
  obtain ⟨fuel, hf⟩ := h
  rcases open_ints Try.underlying30 Try.underlying5 (by kernel_rfl) hf with ⟨hcs, hx⟩ | ⟨x, l, c, zs, hcs, _, hl, hm, hz, hx, hcell, hwz⟩
  · simp [Value.cells] at hcs
    obtain ⟨rfl, rfl, rfl⟩ := hcs
    exact ⟨[], rfl, Rd.nil W⟩
  · simp [Value.cells] at hcs
    obtain ⟨rfl, rfl, rfl⟩ := hcs
    have hz' : zs.length = cap := by simpa using hz
    obtain ⟨b, hb, hr⟩ := rd_of_row (w := W) (a := some x) (len := len) (cap := cap) (zs := zs) (.inr ⟨_, rfl, hl, hm, hz', hcell, hwz⟩)
    exact ⟨b, hb, hr⟩

theorem z64_len : z64.length = 64 := by kernel_rfl
theorem eight_number (z : Int) : ∃ n : Nat, n < 8 ∧ wrap64 ((IntKind.u64.wrap z).tmod 8) = (n : Int) := by
  have e : IntKind.u64.wrap z = (((z % 18446744073709551616).toNat : Nat) : Int) := by rw [IntKind.wrap_u64]; omega
  generalize (z % 18446744073709551616).toNat = u at e
  have h1 : (u : Int).tmod 8 = ((u % 8 : Nat) : Int) := rfl
  refine ⟨u % 8, Nat.mod_lt _ (by omega), ?_⟩
  rw [e, h1]
  simp only [wrap64]
  omega

namespace diskApart
set_option maxHeartbeats 16000000 in
theorem walk0 (va vb vc : Value) (la lb lc : List UInt8) (zx zy : Int) (w : World) (ha : Rd w va la) (hb : Rd w vb lb) (hc : Rd w vc lc) :
    Calls Try.prog 6 #[va, vb, vc, .int .i64 zx, .int .i64 zy] w (AnsP w (.bool true)) := by
  obtain ⟨ao, ac, rfl, -⟩ := id ha
  obtain ⟨bo, bc, rfl, -⟩ := id hb
  obtain ⟨co, cc, rfl, -⟩ := id hc
  obtain ⟨x, hx8, hxe⟩ := eight_number zx
  obtain ⟨y, hy8, hye⟩ := eight_number zy
  have HA := hid ha
  have HB := hid hb
  have HC := hid hc
  clear ha hb hc
  have CN : Hid (Calls Try.prog 7 #[.int .i64 8] w (NewA 8 w)) := new_any 8 (by omega) (by omega) w
  go_enter Try.func6, Try.ntmps6
  go_wp2_with (first | (go_at_call 7; refine CN.out.mono ?_))
  rintro e w1 ⟨db, sb, rfl, hD1, hb1⟩
  have HD1 : Hid (Dk w.heap.size w1 db sb (.slice none 0 0) (List.replicate 8 z64) [] false 0) := hD1
  have HB1 := hid hb1
  clear hD1 hb1
  go_wp2_with (first | (go_at_call 8; refine (awake_any w1).mono ?_))
  rintro e w2 ⟨rfl, hb2⟩
  have HD2 : Hid (Dk w.heap.size w2 db sb (.slice none 0 0) (List.replicate 8 z64) [] false 0) := HD1.out.old hb2
  have HB2 : Hid (Below w.heap.size w w2) := HB1.out.trans (hb2.mono HB1.out.size)
  clear hb2
  by_cases hxy : x = y
  · subst hxy
    go_wp2_with (first | (go_at_call 8; refine (awake_any w2).mono ?_))
    rintro e w3 ⟨rfl, hb3⟩
    go_wp2_with fail
    go_ret
    exact ⟨rfl, HB2.out.trans (hb3.mono HB2.out.size)⟩
  · have hxyi : ¬ ((x : Int) = (y : Int)) := by omega
    have hxyb : ((x : Int) == (y : Int)) = false := by simpa using hxyi
    have CS : Hid (Calls Try.prog 25 #[.slice ao la.length ac] w2 (Gives 5 w2 (secOf la))) := sector_any _ _ la (HA.out.old HB2.out)
    have HDS1 := HD2
    have HBS1 := HB2
    have CS1 := CS
    have hr8 : ∀ j, j < 8 → (List.replicate 8 z64)[j]? = some z64 := fun j hj => by rw [List.getElem?_replicate, if_pos hj]
    have hk2 : ((List.replicate 8 z64).set x (secOf la))[y]? = some z64 := by rw [List.getElem?_set_ne hxy]; exact hr8 y hy8
    have hk3 : (((List.replicate 8 z64).set x (secOf la)).set y (secOf lb))[x]? = some (secOf la) := by
      rw [List.getElem?_set_ne (fun e => hxy e.symm), List.getElem?_set_self (by simpa using hx8)]
    go_wp2_with (first | (go_at_call 25; refine CS1.out.mono ?_))
    rintro e u1 ⟨v1, rfl, hv1, hbu1⟩
    obtain ⟨vo1, vc1, rfl⟩ := own_form hv1
    have hvr1 := Rd.own hv1
    rw [sec_len] at hvr1 ⊢
    have CW1 := hid (write_any (HDS1.out.old hbu1) _ (secOf la) x z64 (hr8 x hx8) hvr1 (sec_len _) (by simp))
    have HBU1 : Hid (Below w.heap.size w u1) := HBS1.out.trans (hbu1.mono HBS1.out.size)
    clear hv1 hvr1 hbu1
    go_wp2_with (first | (go_at_call 24; refine CW1.out.mono ?_))
    rintro e t1 ⟨rfl, vw1, hD1x, hb1x⟩
    have HDS2 := hid hD1x
    have HBS2 : Hid (Below w.heap.size w t1) := HBU1.out.trans hb1x
    clear hD1x hb1x
    have CS2 : Hid (Calls Try.prog 25 #[.slice bo lb.length bc] t1 (Gives 5 t1 (secOf lb))) := sector_any _ _ lb (HB.out.old HBS2.out)
    go_wp2_with (first | (go_at_call 25; refine CS2.out.mono ?_))
    rintro e u2 ⟨v2, rfl, hv2, hbu2⟩
    obtain ⟨vo2, vc2, rfl⟩ := own_form hv2
    have hvr2 := Rd.own hv2
    rw [sec_len] at hvr2 ⊢
    have CW2 := hid (write_any (HDS2.out.old hbu2) _ (secOf lb) y z64 hk2 hvr2 (sec_len _) (by simp))
    have HBU2 : Hid (Below w.heap.size w u2) := HBS2.out.trans (hbu2.mono HBS2.out.size)
    clear hv2 hvr2 hbu2
    go_wp2_with (first | (go_at_call 24; refine CW2.out.mono ?_))
    rintro e t2 ⟨rfl, vw2, hD2x, hb2x⟩
    have HDS3 := hid hD2x
    have HBS3 : Hid (Below w.heap.size w t2) := HBU2.out.trans hb2x
    clear hD2x hb2x
    have CS3 : Hid (Calls Try.prog 25 #[.slice co lc.length cc] t2 (Gives 5 t2 (secOf lc))) := sector_any _ _ lc (HC.out.old HBS3.out)
    go_wp2_with (first | (go_at_call 25; refine CS3.out.mono ?_))
    rintro e u3 ⟨v3, rfl, hv3, hbu3⟩
    obtain ⟨vo3, vc3, rfl⟩ := own_form hv3
    have hvr3 := Rd.own hv3
    rw [sec_len] at hvr3 ⊢
    have CW3 := hid (write_any (HDS3.out.old hbu3) _ (secOf lc) x (secOf la) hk3 hvr3 (sec_len _) (by simp))
    have HBU3 : Hid (Below w.heap.size w u3) := HBS3.out.trans (hbu3.mono HBS3.out.size)
    clear hv3 hvr3 hbu3
    go_wp2_with (first | (go_at_call 24; refine CW3.out.mono ?_))
    rintro e t3 ⟨rfl, vw3, hD3x, hb3x⟩
    have HDS4 := hid hD3x
    have HBS4 : Hid (Below w.heap.size w t3) := HBU3.out.trans hb3x
    clear hD3x hb3x
    obtain ⟨S3, hS3⟩ : ∃ S3, S3 = (((List.replicate 8 z64).set x (secOf la)).set y (secOf lb)).set x (secOf lc) := ⟨_, rfl⟩
    have hwant : ∀ j, j < 8 → S3[j]? = some (if j = y then secOf lb else if j = x then secOf lc else z64) := fun j hj => by
      rw [hS3]
      by_cases e1 : j = y
      · subst e1
        rw [if_pos rfl, List.getElem?_set_ne hxy, List.getElem?_set_self (by simpa using hj)]
      · rw [if_neg e1]
        by_cases e2 : j = x
        · subst e2
          rw [if_pos rfl, List.getElem?_set_self (by simpa using hj)]
        · rw [if_neg e2, List.getElem?_set_ne (fun e => e2 e.symm), List.getElem?_set_ne (fun e => e1 e.symm), List.getElem?_set_ne (fun e => e2 e.symm)]
          exact hr8 j hj
    rw [← hS3] at HDS4
    have HW := hid hwant
    have hmk := run_make_row' (P := Try.prog) 30 5 (.int .u8 0) 1 Try.underlying30 info_u8 rfl .i64 .i64 64 (by decide) (by decide)
    have hmk2 : ∀ W, (Instr.makeSlice 30 (.int .i64 64) (.int .i64 64)).run Try.prog W = .ok (.slice (some ⟨W.heap.size, 0, none⟩) 64 64) (W.alloc (.cells (madeCells #[.int .u8 0] 64) 5)) := hmk
    obtain ⟨mc, hmc⟩ : ∃ mc, mc = madeCells #[Value.int .u8 0] 64 := ⟨_, rfl⟩
    rw [← hmc] at hmk2
    have HMC := hid hmc
    clear hmc hmk hS3 hwant hk2 hk3 hr8 CS CS1 CS2 CS3 CW1 CW2 CW3 HDS1 HDS2 HDS3
    go_wp2_with fail
    go_loopw [13] (fun k W => ∃ (n : Nat) (vw : Value) (Q : List Wr), n ≤ 2 ∧ k = .int .i64 (n : Int) ∧ Hid (Dk w.heap.size W db sb vw S3 Q false 0 ∧ Below w.heap.size w W)) (fun k _ => 2 - (intOf k).toNat)
    case atStart => exact ⟨0, _, _, by omega, rfl, HDS4.out, HBS4.out⟩
    case round =>
      obtain ⟨n, vw, Q, hn, rfl, HR⟩ := hrel
      by_cases hn2 : n < 2
      · have hn3 : (n : Int) < 2 := by omega
        go_wp2_with fail
        go_loopw [14] (fun k W => ∃ j : Nat, j ≤ 8 ∧ k = .int .i64 (j : Int) ∧ Hid (Dk w.heap.size W db sb vw S3 Q false 0 ∧ Below w.heap.size w W)) (fun k _ => 8 - (intOf k).toNat)
        case atStart => exact ⟨0, by omega, rfl, HR⟩
        case round =>
          obtain ⟨j, hj, rfl, HI⟩ := hrel
          by_cases hj8 : j < 8
          · have hj9 : (j : Int) < 8 := by omega
            by_cases ey : j = y
            · subst ey
              have ey2 : ¬ ((j : Int) = (x : Int)) := by omega
              have hwn := HW.out j hj8
              rw [if_pos rfl] at hwn
              have CR := hid (read_any HI.out.1 j _ hwn)
              clear hwn
              go_wp2_with (first | (go_at_call 10; refine CR.out.mono ?_))
              rintro e w5 ⟨v, rfl, hv, hb5⟩
              obtain ⟨vo, vcc, rfl⟩ := own_form hv
              have hvr := Rd.own hv
              rw [sec_len] at hvr ⊢
              have HI5 : Hid (Dk w.heap.size w5 db sb vw S3 Q false 0 ∧ Below w.heap.size w w5) := ⟨HI.out.1.old hb5, HI.out.2.trans (hb5.mono HI.out.2.size)⟩
              have HV := hid hvr
              have hbm : Below w5.heap.size w5 (w5.alloc (.cells mc 5)) := (Below.refl _ _).alloc (Nat.le_refl _) _
              have HBM := hid hbm
              have HI6 : Hid (Below w.heap.size w (w5.alloc (.cells mc 5))) := HI5.out.2.trans (hbm.mono HI5.out.2.size)
              clear hv hvr hb5 hbm
              have CS : Hid (Calls Try.prog 25 #[.slice bo lb.length bc] (w5.alloc (.cells mc 5)) (Gives 5 (w5.alloc (.cells mc 5)) (secOf lb))) := sector_any _ _ lb (HB.out.old HI6.out)
              go_wp2_with (first | (go_at_call 25; refine CS.out.mono ?_))
              rintro e w6 ⟨q, rfl, hq, hb6⟩
              obtain ⟨qo, qc, rfl⟩ := own_form hq
              have hqr := Rd.own hq
              rw [sec_len] at hqr ⊢
              have CB : Hid (Calls Try.prog 12 #[.slice vo 64 vcc, .slice qo 64 qc] w6 (fun e w' => e = .returned (.bool true) ∧ w' = w6)) := by
                have h := bytes_any _ _ _ _ w6 ((HV.out.old HBM.out).old hb6) hqr
                rw [beq_self_eq_true] at h
                exact h
              have HI7 : Hid (Dk w.heap.size w6 db sb vw S3 Q false 0 ∧ Below w.heap.size w w6) := ⟨(HI5.out.1.old HBM.out).old hb6, HI6.out.trans (hb6.mono HI6.out.size)⟩
              clear hq hqr hb6
              go_wp2_with (first | (go_at_call 12; refine CB.out.mono ?_; rintro e w7 ⟨rfl, rfl⟩))
              go_roundw
              case rel => exact ⟨j + 1, by omega, by go_num, HI7⟩
              case measure => simp [intOf]; omega
            · by_cases ex : j = x
              · subst ex
                have ex2 : ¬ ((j : Int) = (y : Int)) := by omega
                have hwn := HW.out j hj8
                rw [if_neg ey, if_pos rfl] at hwn
                have CR := hid (read_any HI.out.1 j _ hwn)
                clear hwn
                go_wp2_with (first | (go_at_call 10; refine CR.out.mono ?_))
                rintro e w5 ⟨v, rfl, hv, hb5⟩
                obtain ⟨vo, vcc, rfl⟩ := own_form hv
                have hvr := Rd.own hv
                rw [sec_len] at hvr ⊢
                have HI5 : Hid (Dk w.heap.size w5 db sb vw S3 Q false 0 ∧ Below w.heap.size w w5) := ⟨HI.out.1.old hb5, HI.out.2.trans (hb5.mono HI.out.2.size)⟩
                have HV := hid hvr
                have hbm : Below w5.heap.size w5 (w5.alloc (.cells mc 5)) := (Below.refl _ _).alloc (Nat.le_refl _) _
                have HBM := hid hbm
                have HI6 : Hid (Below w.heap.size w (w5.alloc (.cells mc 5))) := HI5.out.2.trans (hbm.mono HI5.out.2.size)
                clear hv hvr hb5 hbm
                have CS : Hid (Calls Try.prog 25 #[.slice co lc.length cc] (w5.alloc (.cells mc 5)) (Gives 5 (w5.alloc (.cells mc 5)) (secOf lc))) := sector_any _ _ lc (HC.out.old HI6.out)
                go_wp2_with (first | (go_at_call 25; refine CS.out.mono ?_))
                rintro e w6 ⟨q, rfl, hq, hb6⟩
                obtain ⟨qo, qc, rfl⟩ := own_form hq
                have hqr := Rd.own hq
                rw [sec_len] at hqr ⊢
                have CB : Hid (Calls Try.prog 12 #[.slice vo 64 vcc, .slice qo 64 qc] w6 (fun e w' => e = .returned (.bool true) ∧ w' = w6)) := by
                  have h := bytes_any _ _ _ _ w6 ((HV.out.old HBM.out).old hb6) hqr
                  rw [beq_self_eq_true] at h
                  exact h
                have HI7 : Hid (Dk w.heap.size w6 db sb vw S3 Q false 0 ∧ Below w.heap.size w w6) := ⟨(HI5.out.1.old HBM.out).old hb6, HI6.out.trans (hb6.mono HI6.out.size)⟩
                clear hq hqr hb6
                go_wp2_with (first | (go_at_call 12; refine CB.out.mono ?_; rintro e w7 ⟨rfl, rfl⟩))
                go_roundw
                case rel => exact ⟨j + 1, by omega, by go_num, HI7⟩
                case measure => simp [intOf]; omega
              · have ex1 : ¬ ((j : Int) = (x : Int)) := by omega
                have ex2 : ¬ ((j : Int) = (y : Int)) := by omega
                have hwn := HW.out j hj8
                rw [if_neg ey, if_neg ex] at hwn
                have CR := hid (read_any HI.out.1 j _ hwn)
                clear hwn
                go_wp2_with (first | (go_at_call 10; refine CR.out.mono ?_))
                rintro e w5 ⟨v, rfl, hv, hb5⟩
                obtain ⟨vo, vcc, rfl⟩ := own_form hv
                have hvr := Rd.own hv
                rw [z64_len] at hvr ⊢
                have HI5 : Hid (Dk w.heap.size w5 db sb vw S3 Q false 0 ∧ Below w.heap.size w w5) := ⟨HI.out.1.old hb5, HI.out.2.trans (hb5.mono HI.out.2.size)⟩
                have HV := hid hvr
                have hbm : Below w5.heap.size w5 (w5.alloc (.cells mc 5)) := (Below.refl _ _).alloc (Nat.le_refl _) _
                have HBM := hid hbm
                have HI6 : Hid (Below w.heap.size w (w5.alloc (.cells mc 5))) := HI5.out.2.trans (hbm.mono HI5.out.2.size)
                clear hv hvr hb5 hbm
                have hzr : Rd (w5.alloc (.cells mc 5)) (.slice (some ⟨w5.heap.size, 0, none⟩) 64 64) z64 := by
                  rw [HMC.out]
                  exact Rd.own (row_own (base := w5.heap.size) (l := z64) (World.rowIs_made w5 (.int .u8 0) 64 5) (Nat.le_refl _) z64_len (by decide) (fun i hi => ⟨0, by unfold z64; rw [List.getElem?_replicate, if_pos hi], rfl⟩))
                have CB : Hid (Calls Try.prog 12 #[.slice vo 64 vcc, .slice (some ⟨w5.heap.size, 0, none⟩) 64 64] (w5.alloc (.cells mc 5)) (fun e w' => e = .returned (.bool true) ∧ w' = (w5.alloc (.cells mc 5)))) := by
                  have h := bytes_any _ _ _ _ (w5.alloc (.cells mc 5)) (HV.out.old HBM.out) hzr
                  rw [beq_self_eq_true] at h
                  exact h
                have HI7 : Hid (Dk w.heap.size (w5.alloc (.cells mc 5)) db sb vw S3 Q false 0 ∧ Below w.heap.size w (w5.alloc (.cells mc 5))) := ⟨HI5.out.1.old HBM.out, HI6.out⟩
                clear hzr
                go_wp2_with (first | (go_at_call 12; refine CB.out.mono ?_; rintro e w7 ⟨rfl, rfl⟩))
                go_roundw
                case rel => exact ⟨j + 1, by omega, by go_num, HI7⟩
                case measure => simp [intOf]; omega
          · obtain rfl : j = 8 := by omega
            have CF := hid (flush0 HI.out.1)
            go_wp2_with (first | (go_at_call 14; refine CF.out.mono ?_))
            rintro e w5 ⟨rfl, hD5, hb5⟩
            have CW := hid (waiting_any hD5)
            have HI5 : Hid (Dk w.heap.size w5 db sb (.slice none 0 0) S3 [] false 0 ∧ Below w.heap.size w w5) := ⟨hD5, HI.out.2.trans hb5⟩
            clear hD5 hb5
            go_wp2_with (first | (go_at_call 30; refine CW.out.mono ?_; rintro e w6 ⟨rfl, rfl⟩))
            go_roundw
            case rel => exact ⟨n + 1, _, _, by omega, by go_num, HI5⟩
            case measure => simp [intOf]; omega
      · obtain rfl : n = 2 := by omega
        go_wp2_with fail
        go_ret
        exact ⟨rfl, HR.out.2⟩

theorem walk {H : Type} {enc : TypeId × Value → H} {base : Nat} {d0 d1 d2 : DataW H} {p0 p1 p2 : List MemPlace} (v0 v1 v2 : Value) (a3 a4 : Int) (w : World)
    (k0 : Value.okWide Try.prog w .any base 30 v0) (t0 : DataW.Trod enc Try.prog w 0 (fun _ => true) true 30 v0 d0 p0)
    (k1 : Value.okWide Try.prog w .any base 30 v1) (t1 : DataW.Trod enc Try.prog w 0 (fun _ => true) true 30 v1 d1 p1)
    (k2 : Value.okWide Try.prog w .any base 30 v2) (t2 : DataW.Trod enc Try.prog w 0 (fun _ => true) true 30 v2 d2 p2)
    (w3 : (Lit.int .i64 a3).wf = true) (w4 : (Lit.int .i64 a4).wf = true) :
    Calls Try.prog 6 #[v0, v1, v2, .int .i64 a3, .int .i64 a4] w fun e w' => e = .returned (.bool true) ∧ Below w.heap.size w w' := by
  obtain ⟨xa, xl, xc, rfl⟩ := WideShapes.okWide_slice Try.underlying30 k0
  obtain ⟨ya, yl, yc, rfl⟩ := WideShapes.okWide_slice Try.underlying30 k1
  obtain ⟨za, zl, zc, rfl⟩ := WideShapes.okWide_slice Try.underlying30 k2
  obtain ⟨l0, rfl, h0⟩ := bytes_open t0
  obtain ⟨l1, rfl, h1⟩ := bytes_open t1
  obtain ⟨l2, rfl, h2⟩ := bytes_open t2
  exact walk0 _ _ _ l0 l1 l2 a3 a4 w h0 h1 h2
end diskApart
end Go.Proofs.Ythefklmfnokhiaa
