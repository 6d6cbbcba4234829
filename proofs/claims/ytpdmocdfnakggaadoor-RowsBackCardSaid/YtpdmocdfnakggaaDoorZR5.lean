import Derived.Test.YtpdmocdfnakggaaDoorRows
import Derived.WalkKit
import Derived.WalkSpells
import Derived.WalkLawsBesides
import Derived.Laws.AppendOwnNone
import Derived.Deep.Slices
import GoSem.Op.String
import Derived.Lib.Bytealg
import Derived.Deep.Strs
import Derived.ProofKit
import Derived.OpenShut
import Derived.ShutString
import Derived.ChangeOld
import Derived.Below
import Derived.SizedLaws
import Derived.Deep.RegionHeld3
import Derived.BigQuiet
import Derived.Deep.QuietTactic
import Derived.Deep.AppendLies
import Derived.Deep.RegionWith
import Derived.Test.YtpdmocdfnakggaaDoorProg
import Derived.LaidEql
import Derived.Stop.Asserts
import Derived.RowKitTokens
import Derived.Deep.CutRange
import Derived.Lib.Bytes
import Derived.Deep.OwnRows
import Derived.OwnWalk
import Derived.Lib.AppendZeros
import Derived.Deep.RegionHeld
import Derived.Test.YtpdmocdfnakggaaDoorZR1
import Derived.Test.YtpdmocdfnakggaaDoorZR2
import Derived.Test.YtpdmocdfnakggaaDoorZR3
import Derived.Test.YtpdmocdfnakggaaDoorZR4
set_option linter.unusedVariables false
set_option linter.unusedSimpArgs false
namespace Go.Proofs.YtpdmocdfnakggaaDoor
open Go.RowKit

theorem rstep {w wr w1 : World} {base : Nat} {acc : List UInt8} {x x' : Value} {o : Obj} {c : UInt8} (hb : base ≤ w.heap.size) (hbb : Below base w wr) (hown : wr.ownsRow base 5 1 x acc.length (acc.map bv))
    (hown' : w1.ownsRow base 5 1 x' (acc.length + 1) (acc.map bv ++ [bv c])) (hg : (wr.alloc o).grownBy w1 x.ownBlock) :
    Hid (w1.ownsRow base 5 1 x' (acc ++ [c]).length ((acc ++ [c]).map bv)) ∧ Hid (Below base w w1) := put_step hbb hb hown hown' hg

set_option maxHeartbeats 4000000 in
set_option maxRecDepth 100000 in
theorem rbytes_any (x : Value) (l : List Vl) (w : World) (hx : Vs w x l) (hin : ∀ v ∈ l, inV v) (hok : ∀ v ∈ l, okV v) (hl : l.length ≤ 16) :
    Calls Tryd.prog 37 #[x] w (Gives 5 w (encL l)) := by
  obtain ⟨i0, hi, hz0, hz1, hz2⟩ := info_parts Tryd.info_u8
  obtain ⟨ao, c, rfl, -⟩ := hx.form
  have HX := hid hx
  have HI := hid hin
  have HK := hid hok
  clear hx hin hok
  go_enter Tryd.func37, Tryd.ntmps37
  go_wp2_with fail
  go_loopw [3, 4] (fun y i wr => ∃ k, k ≤ l.length ∧ i = .int .i64 (k : Int) ∧ wr.ownsRow w.heap.size 5 1 y (encL (l.take k)).length ((encL (l.take k)).map bv) ∧ Below w.heap.size w wr) (fun _ i _ => l.length - (intOf i).toNat)
  case atStart => exact ⟨0, by omega, rfl, World.ownsRow_nil _ _ _ _, Below.refl _ _⟩
  case round =>
    obtain ⟨k, hk, rfl, hown, hb⟩ := hrel
    have HB := hid hb
    clear hb
    by_cases hlt : k < l.length
    · have hv := List.getElem?_eq_getElem hlt
      have hmem := List.mem_of_getElem? hv
      generalize l[k] = v at *
      have hok := HK.out v hmem
      have hin := HI.out v hmem
      obtain ⟨b, off, rfl, d1, d2, d3⟩ := (HX.out.old HB.out).get hv
      have hlen : (encL (l.take k)).length ≤ 90000 := by
        have := encL_len (l := l.take k) (fun u hu => HK.out u (List.mem_of_mem_take hu))
        rw [List.length_take] at this
        omega
      have HE := hid (encL_take hv)
      have HV := hid hv
      have hss : v.k = 2 → v.s.length ≤ 20 := fun h => by rcases hok with ⟨h1, -⟩ | ⟨h1, -⟩ | ⟨-, -, h2⟩; omega; omega; exact h2
      have hkk : v.k = 0 ∨ v.k = 1 ∨ v.k = 2 := by rcases hok with ⟨h, -⟩ | ⟨h, -⟩ | ⟨h, -⟩ <;> simp [h]
      have HIN := hid hin
      have HSS := hid hss
      have HBW : Hid (w.heap.size ≤ wr.heap.size) := HB.out.size
      clear hv hmem hok hin hss
      obtain ⟨vk, vi, vs⟩ := v
      simp only at d1 d2 d3 hkk
      generalize hacc : encL (l.take k) = acc at *
      have HOWN := hid hown
      rcases hkk with rfl | rfl | rfl
      · go_wp2_with (first
            | (at_builtin; refine wpList_append_own _ rfl _ _ 32 rfl w.heap.size 5 i0 (.int .u8 0) 1 1 Tryd.underlying32 hi hz0 hz1 hz2 rfl (by decide) _ _ _ rfl (hown.alloc _) ⟨wr.heap.size, 0, none⟩ 1 1 [bv 1] rfl rfl ?c1 ?c2 ?c3 ?c4 ?c5 ?_))
        case c1 => first | exact (cell_one_new _ _ _) | exact (cells_two_new _ _ _ _) | exact fun j u h => h
        case c2 => first | exact bv_one _ | rfl | (intro u hu; simp at hu; rcases hu with rfl | rfl <;> rfl)
        case c3 => first | (unfold maxLen; omega) | (unfold maxLen; simp; omega)
        case c4 => first | omega | (simp; omega)
        case c5 => first | (have := HBW.out; omega) | (have := HBW.out; simp; omega)
        intro x1 w1 hown1 hg1 _
        obtain ⟨R1, R2⟩ := rstep (c := 1) (Nat.le_refl _) HB.out hown hown1 hg1
        obtain ⟨b2, off2, hbo, e1, e2, e3⟩ := (HX.out.old R2.out).get HV.out
        simp only [Option.some.injEq, Addr.mk.injEq, and_true] at hbo
        obtain ⟨rfl, rfl⟩ := hbo
        simp only at e1 e2 e3
        clear hown1 hg1 hown d1 d2 d3
        go_wp2_with fail
        go_roundw
        case rel => exact ⟨k + 1, by omega, by go_num, by rw [HE.out]; exact R1.out, R2.out⟩
        case measure => simp [intOf]; omega
      · go_wp2_with (first
            | (at_builtin; refine wpList_append_own _ rfl _ _ 32 rfl w.heap.size 5 i0 (.int .u8 0) 1 1 Tryd.underlying32 hi hz0 hz1 hz2 rfl (by decide) _ _ _ rfl (hown.alloc _) ⟨wr.heap.size, 0, none⟩ 1 1 [bv 2] rfl rfl ?c1 ?c2 ?c3 ?c4 ?c5 ?_))
        case c1 => first | exact (cell_one_new _ _ _) | exact (cells_two_new _ _ _ _) | exact fun j u h => h
        case c2 => first | exact bv_one _ | rfl | (intro u hu; simp at hu; rcases hu with rfl | rfl <;> rfl)
        case c3 => first | (unfold maxLen; omega) | (unfold maxLen; simp; omega)
        case c4 => first | omega | (simp; omega)
        case c5 => first | (have := HBW.out; omega) | (have := HBW.out; simp; omega)
        intro x1 w1 hown1 hg1 _
        obtain ⟨R1, R2⟩ := rstep (c := 2) (Nat.le_refl _) HB.out hown hown1 hg1
        obtain ⟨b2, off2, hbo, e1, e2, e3⟩ := (HX.out.old R2.out).get HV.out
        simp only [Option.some.injEq, Addr.mk.injEq, and_true] at hbo
        obtain ⟨rfl, rfl⟩ := hbo
        simp only at e1 e2 e3
        clear hown1 hg1 hown d1 d2 d3
        have hin := HIN.out
        unfold inV at hin
        simp only at hin
        have hs := sign_in hin.1 hin.2
        have hu : (vi + 9223372036854775808).toNat < 18446744073709551616 := by omega
        have HVAL : Hid (valB ⟨1, vi, vs⟩ = 2 :: be 8 (vi + 9223372036854775808).toNat) := rfl
        generalize (vi + 9223372036854775808).toNat = u at *
        have HU := hid hu
        clear hin hu
        go_wp2_with fail
        clear hs
        go_loopw [3, 6] (fun y j wi => ∃ (m : Nat) (a2 : List UInt8), m ≤ 8 ∧ j = .int .i64 ((m : Int) - 1) ∧ a2 ++ be m u = acc ++ valB ⟨1, vi, vs⟩ ∧ wi.ownsRow w.heap.size 5 1 y a2.length (a2.map bv) ∧ Below w.heap.size w wi)
          (fun _ j _ => (intOf j + 1).toNat)
        case atStart => exact ⟨8, acc ++ [2], by omega, rfl, by rw [HVAL.out]; simp, R1.out, R2.out⟩
        case round =>
          obtain ⟨m, a2, hm, rfl, ha2, hown2, hb2⟩ := hrel
          have HA2 := hid ha2
          have hal : a2.length ≤ 90100 := by
            have := congrArg List.length ha2
            rw [HVAL.out] at this
            simp only [List.length_append, List.length_cons, be_len] at this
            omega
          have HB2 := hid hb2
          clear ha2 hb2
          cases m with
          | zero =>
            have HO2 := hid hown2
            clear hown2 hal
            go_wp2_with fail
            go_roundw
            case rel => exact ⟨k + 1, by omega, by go_num, by rw [HE.out, ← HA2.out]; simpa [be] using HO2.out, HB2.out⟩
            case measure => simp [intOf]; omega
          | succ m =>
            have e1 : ((m + 1 : Nat) : Int) - 1 = (m : Int) := by omega
            rw [e1]
            have hm8 : m < 8 := by omega
            have HQ : Hid (w.heap.size ≤ wr.heap.size) := HB2.out.size
            go_wp2_with (first
                | (at_builtin; refine wpList_append_own _ rfl _ _ 32 rfl w.heap.size 5 i0 (.int .u8 0) 1 1 Tryd.underlying32 hi hz0 hz1 hz2 rfl (by decide) _ _ _ rfl (hown2.alloc _) ⟨wr.heap.size, 0, none⟩ 1 1 [bv (UInt8.ofNat (u / 256 ^ m))] rfl rfl ?c1 ?c2 ?c3 ?c4 ?c5 ?_))
            case c1 => first | (rw [← byte_at]; exact (cell_one_new _ _ _)) | exact (cells_two_new _ _ _ _) | exact fun j u h => h
            case c2 => first | exact bv_one _ | rfl | (intro u hu; simp at hu; rcases hu with rfl | rfl <;> rfl)
            case c3 => first | (unfold maxLen; omega) | (unfold maxLen; simp; omega)
            case c4 => first | omega | (simp; omega)
            case c5 => first | (have := HQ.out; omega) | (have := HQ.out; simp; omega)
            intro x2 w2 hown3 hg3 _
            obtain ⟨q1, q2⟩ := rstep (Nat.le_refl _) HB2.out hown2 hown3 hg3
            have HN := hid (by rw [← HA2.out]; simp [be] : (a2 ++ [UInt8.ofNat (u / 256 ^ m)]) ++ be m u = acc ++ valB ⟨1, vi, vs⟩)
            clear hown3 hg3 hown2
            go_wp2_with fail
            go_roundw
            case rel => exact ⟨m, a2 ++ [UInt8.ofNat (u / 256 ^ m)], by omega, by go_num, HN.out, q1.out, q2.out⟩
            case measure => simp [intOf]
      · go_wp2_with (first
            | (at_builtin; refine wpList_append_own _ rfl _ _ 32 rfl w.heap.size 5 i0 (.int .u8 0) 1 1 Tryd.underlying32 hi hz0 hz1 hz2 rfl (by decide) _ _ _ rfl (hown.alloc _) ⟨wr.heap.size, 0, none⟩ 1 1 [bv 3] rfl rfl ?c1 ?c2 ?c3 ?c4 ?c5 ?_))
        case c1 => first | exact (cell_one_new _ _ _) | exact (cells_two_new _ _ _ _) | exact fun j u h => h
        case c2 => first | exact bv_one _ | rfl | (intro u hu; simp at hu; rcases hu with rfl | rfl <;> rfl)
        case c3 => first | (unfold maxLen; omega) | (unfold maxLen; simp; omega)
        case c4 => first | omega | (simp; omega)
        case c5 => first | (have := HBW.out; omega) | (have := HBW.out; simp; omega)
        intro x1 w1 hown1 hg1 _
        obtain ⟨R1, R2⟩ := rstep (c := 3) (Nat.le_refl _) HB.out hown hown1 hg1
        obtain ⟨b2, off2, hbo, e1, e2, e3⟩ := (HX.out.old R2.out).get HV.out
        simp only [Option.some.injEq, Addr.mk.injEq, and_true] at hbo
        obtain ⟨rfl, rfl⟩ := hbo
        simp only at e1 e2 e3
        clear hown1 hg1 hown d1 d2 d3
        have hsl : vs.length ≤ 20 := HSS.out trivial
        have hsz := str_len vs
        have HVAL : Hid (valB ⟨2, vi, vs⟩ = 3 :: (escL vs ++ [0, 1])) := rfl
        go_wp2_with fail
        clear e1 e2 e3
        go_loopw [3, 7] (fun y j wi => ∃ (m : Nat) (a2 : List UInt8), m ≤ vs.length ∧ j = .int .i64 (m : Int) ∧ a2 = acc ++ [3] ++ escL (vs.take m) ∧ wi.ownsRow w.heap.size 5 1 y a2.length (a2.map bv) ∧ Below w.heap.size w wi)
          (fun _ j _ => vs.length - (intOf j).toNat)
        case atStart => exact ⟨0, acc ++ [3], by omega, rfl, by simp [escL], R1.out, R2.out⟩
        case round =>
          obtain ⟨m, a2, hm, rfl, ha2, hown2, hb2⟩ := hrel
          have HA2 := hid ha2
          have hal : a2.length ≤ 90100 := by
            have := escL_len (vs.take m)
            rw [ha2]
            simp only [List.length_append, List.length_cons, List.length_nil, List.length_take] at *
            omega
          have HB2 := hid hb2
          clear ha2 hb2
          obtain ⟨b2, off2, hbo, e1, e2, e3⟩ := (HX.out.old HB2.out).get HV.out
          simp only [Option.some.injEq, Addr.mk.injEq, and_true] at hbo
          obtain ⟨rfl, rfl⟩ := hbo
          simp only at e1 e2 e3
          have HQ : Hid (w.heap.size ≤ wr.heap.size) := HB2.out.size
          by_cases hmt : m < vs.length
          · have HET := hid (escL_take hmt)
            have hidx := idx_at (P := Tryd.prog) 9 Tryd.underlying9 vs m hmt
            have hc256 := UInt8.toNat_lt vs[m]
            have hcz : (vs[m] = 0) ↔ vs[m].toNat = 0 := by rw [← UInt8.toNat_inj]; rfl
            generalize vs[m] = c at *
            have HC := hid hcz
            clear hcz
            by_cases hc0 : c.toNat = 0
            · have HE2 : Hid (escL (vs.take (m + 1)) = escL (vs.take m) ++ [c, 255]) := by rw [Hid, HET.out, if_pos (HC.out.2 hc0)]
              have HCC : Hid (Value.int .u8 (0 : Int) = bv c) := by rw [Hid, bv, hc0]; rfl
              rw [hc0] at hidx
              clear HET HC
              go_wp2_with (first
                  | (at_builtin; refine wpList_append_own _ rfl _ _ 32 rfl w.heap.size 5 i0 (.int .u8 0) 1 1 Tryd.underlying32 hi hz0 hz1 hz2 rfl (by decide) _ _ _ rfl (hown2.alloc _) ⟨wr.heap.size, 0, none⟩ 1 1 [bv c] rfl rfl ?c1 ?c2 ?c3 ?c4 ?c5 ?_))
              case c1 => first | (rw [← HCC.out]; exact (cell_one_new _ _ _)) | exact (cells_two_new _ _ _ _) | exact fun j u h => h
              case c2 => first | exact bv_one _ | rfl | (intro u hu; simp at hu; rcases hu with rfl | rfl <;> rfl)
              case c3 => first | (unfold maxLen; omega) | (unfold maxLen; simp; omega)
              case c4 => first | omega | (simp; omega)
              case c5 => first | (have := HQ.out; omega) | (have := HQ.out; simp; omega)
              intro x2 w2 hown3 hg3 _
              obtain ⟨q1, q2⟩ := rstep (Nat.le_refl _) HB2.out hown2 hown3 hg3
              clear hown3 hg3 hown2 e1 e2 e3
              have hown2 := q1.out
              have HB2 := q2
              obtain ⟨b2, off2, hbo, e1, e2, e3⟩ := (HX.out.old HB2.out).get HV.out
              simp only [Option.some.injEq, Addr.mk.injEq, and_true] at hbo
              obtain ⟨rfl, rfl⟩ := hbo
              simp only at e1 e2 e3
              have HQ2 : Hid (w.heap.size ≤ w2.heap.size) := q2.out.size
              have hal2 : (a2 ++ [c]).length ≤ 90101 := by simp; omega
              go_wp2_with (first
                  | (at_builtin; refine wpList_append_own _ rfl _ _ 32 rfl w.heap.size 5 i0 (.int .u8 0) 1 1 Tryd.underlying32 hi hz0 hz1 hz2 rfl (by decide) _ _ _ rfl (hown2.alloc _) ⟨w2.heap.size, 0, none⟩ 1 1 [bv 255] rfl rfl ?c1 ?c2 ?c3 ?c4 ?c5 ?_))
              case c1 => first | exact (cell_one_new _ _ _) | exact (cells_two_new _ _ _ _) | exact fun j u h => h
              case c2 => first | exact bv_one _ | rfl | (intro u hu; simp at hu; rcases hu with rfl | rfl <;> rfl)
              case c3 => first | (unfold maxLen; omega) | (unfold maxLen; simp; omega)
              case c4 => first | omega | (simp; omega)
              case c5 => first | (have := HQ2.out; omega) | (have := HQ2.out; simp; omega)
              intro x3 w3 hown3 hg3 _
              obtain ⟨q3, q4⟩ := rstep (acc := a2 ++ [c]) (c := 255) (Nat.le_refl _) HB2.out hown2 (by simpa using hown3) hg3
              clear hown3 hg3 hown2 e1 e2 e3
              go_wp2_with fail
              go_roundw
              case rel => exact ⟨m + 1, a2 ++ [c] ++ [255], by omega, by go_num, by rw [HE2.out, HA2.out]; simp, q3.out, q4.out⟩
              case measure => simp [intOf]; omega
            · have HE2 : Hid (escL (vs.take (m + 1)) = escL (vs.take m) ++ [c]) := by rw [Hid, HET.out, if_neg (fun e => hc0 (HC.out.1 e))]
              have hc1 : ¬ (c.toNat : Int) = 0 := by omega
              clear HET HC
              go_wp2_with (first
                  | (at_builtin; refine wpList_append_own _ rfl _ _ 32 rfl w.heap.size 5 i0 (.int .u8 0) 1 1 Tryd.underlying32 hi hz0 hz1 hz2 rfl (by decide) _ _ _ rfl (hown2.alloc _) ⟨wr.heap.size, 0, none⟩ 1 1 [bv c] rfl rfl ?c1 ?c2 ?c3 ?c4 ?c5 ?_))
              case c1 => first | exact (cell_one_new _ _ _) | exact (cells_two_new _ _ _ _) | exact fun j u h => h
              case c2 => first | exact bv_one _ | rfl | (intro u hu; simp at hu; rcases hu with rfl | rfl <;> rfl)
              case c3 => first | (unfold maxLen; omega) | (unfold maxLen; simp; omega)
              case c4 => first | omega | (simp; omega)
              case c5 => first | (have := HQ.out; omega) | (have := HQ.out; simp; omega)
              intro x2 w2 hown3 hg3 _
              obtain ⟨q1, q2⟩ := rstep (Nat.le_refl _) HB2.out hown2 hown3 hg3
              clear hown3 hg3 hown2 e1 e2 e3
              have HB2 := q2
              obtain ⟨b2, off2, hbo, e1, e2, e3⟩ := (HX.out.old HB2.out).get HV.out
              simp only [Option.some.injEq, Addr.mk.injEq, and_true] at hbo
              obtain ⟨rfl, rfl⟩ := hbo
              simp only at e1 e2 e3
              go_wp2_with fail
              go_roundw
              case rel => exact ⟨m + 1, a2 ++ [c], by omega, by go_num, by rw [HE2.out, HA2.out]; simp, q1.out, q2.out⟩
              case measure => simp [intOf]; omega
          · obtain rfl : m = vs.length := by omega
            go_wp2_with (first
                | (at_builtin; refine wpList_append_own _ rfl _ _ 32 rfl w.heap.size 5 i0 (.int .u8 0) 1 1 Tryd.underlying32 hi hz0 hz1 hz2 rfl (by decide) _ _ _ rfl (hown2.alloc _) ⟨wr.heap.size, 0, none⟩ 2 2 [bv 0, bv 1] rfl rfl ?c1 ?c2 ?c3 ?c4 ?c5 ?_))
            case c1 => first | exact (cell_one_new _ _ _) | exact (cells_two_new _ _ _ _) | exact fun j u h => h
            case c2 => first | exact bv_one _ | rfl | (intro u hu; simp at hu; rcases hu with rfl | rfl <;> rfl)
            case c3 => first | (unfold maxLen; omega) | (unfold maxLen; simp; omega)
            case c4 => first | omega | (simp; omega)
            case c5 => first | (have := HQ.out; omega) | (have := HQ.out; simp; omega)
            intro x2 w2 hown3 hg3 _
            have q := put_step2 (c := 0) (d := 1) HB2.out (Nat.le_refl _) hown2 hown3 hg3
            have Q1 := hid q.1
            have Q2 := hid q.2
            clear hown3 hg3 hown2 q e1 e2 e3
            go_wp2_with fail
            go_roundw
            case rel => exact ⟨k + 1, by omega, by go_num, by
              have e : acc ++ valB ⟨2, vi, vs⟩ = a2 ++ [0, 1] := by rw [HVAL.out, HA2.out, List.take_length]; simp
              rw [HE.out, e]; exact Q1.out, Q2.out⟩
            case measure => simp [intOf]; omega
    · obtain rfl : k = l.length := by omega
      rw [List.take_length] at hown
      go_wp2_with fail
      go_ret
      exact ⟨_, rfl, hown, HB.out⟩

set_option maxHeartbeats 2000000 in
set_option maxRecDepth 100000 in
theorem renc_any (x : Value) (l : List Vl) (w : World) (hx : Vs w x l) (hin : ∀ v ∈ l, inV v) (hl : l.length ≤ 140737488355328) :
    Calls Tryd.prog 19 #[x] w (EncIs l w) := by
  obtain ⟨ao, c, rfl, -⟩ := hx.form
  have HX := hid hx
  have HI := hid hin
  clear hx hin
  go_enter Tryd.func19, Tryd.ntmps19
  go_wp2_with fail
  go_loopw [4] (fun i wr => ∃ k, k ≤ l.length ∧ i = .int .i64 (k : Int) ∧ (∀ j v, j < k → l[j]? = some v → okV v) ∧ Below w.heap.size w wr) (fun i _ => l.length - (intOf i).toNat)
  case atStart => exact ⟨0, by omega, rfl, fun j v h => by omega, Below.refl _ _⟩
  case round =>
    obtain ⟨k, hk, rfl, hok, hb⟩ := hrel
    have HO := hid hok
    have HB := hid hb
    clear hok hb
    by_cases hlt : k < l.length
    · have hv := List.getElem?_eq_getElem hlt
      generalize l[k] = v at *
      obtain ⟨b, off, rfl, d1, d2, d3⟩ := (HX.out.old HB.out).get hv
      have HV := hid hv
      clear hv
      have C := fun W => rright_any v W
      unfold sv at C
      by_cases ho : okV v
      · rw [decide_eq_true ho] at C
        go_wp2_with (first | (go_at_call 36; refine (C _).mono ?_; rintro e w2 ⟨rfl, hb2⟩))
        have HB2 := hid (HB.out.trans (hb2.mono HB.out.size))
        clear hb2
        go_roundw
        case rel =>
          refine ⟨k + 1, by omega, by go_num, fun j u hj hu => ?_, HB2.out⟩
          by_cases hjk : j < k
          · exact HO.out j u hjk hu
          · obtain rfl : j = k := by omega
            rw [HV.out] at hu
            cases hu
            exact ho
        case measure => simp [intOf]; omega
      · have HE := hid (encE_bad HV.out ho)
        rw [decide_eq_false ho] at C
        go_wp2_with (first | (go_at_call 36; refine (C _).mono ?_; rintro e w2 ⟨rfl, hb2⟩))
        have HB2 := hid (HB.out.trans (hb2.mono HB.out.size))
        go_ret2
        obtain ⟨h1, h2⟩ := HE.out
        unfold EncIs
        rw [h1, h2]
        exact ⟨_, rfl, World.ownsRow_nil _ _ _ _, HB2.out⟩
    · have HA : Hid (∀ v ∈ l, okV v) := all_of (fun j v hj => HO.out j v (by have := (List.getElem?_eq_some_iff.1 hj).1; omega) hj)
      by_cases h16 : 16 < l.length
      · have HE := hid (encE_long HA.out h16)
        go_wp2_with fail
        go_ret2
        obtain ⟨h1, h2⟩ := HE.out
        unfold EncIs
        rw [h1, h2]
        exact ⟨_, rfl, World.ownsRow_nil _ _ _ _, HB.out⟩
      · have HE := hid (encE_ok HA.out h16)
        have C := rbytes_any _ l wr (HX.out.old HB.out) HI.out HA.out (by omega)
        go_wp2_with (first | (go_at_call 37; refine C.mono ?_; rintro e w2 ⟨y, rfl, o2, b2⟩))
        have HB2 := hid (HB.out.trans (b2.mono HB.out.size))
        have HO2 := hid (ownsRow_base o2 HB.out.size)
        clear o2 b2
        go_ret2
        obtain ⟨h1, h2⟩ := HE.out
        unfold EncIs
        rw [h1, h2]
        exact ⟨_, rfl, HO2.out, HB2.out⟩
end Go.Proofs.YtpdmocdfnakggaaDoor

set_option maxRecDepth 100000
namespace Go.Proofs.YtpdmocdfnakggaaDoor
open Go.RowKit Go.ChangeShapes Go.WideShapes Go.ChangeAt Go.Deep

theorem ba_eta (s : ByteArray) : (⟨s.data.toList.toArray⟩ : ByteArray) = s := by
  cases s; simp

theorem Vs.mk {w : World} {ao : Option Addr} {c : Nat} {l : List Vl} (h1 : l.length ≤ c) (h2 : c ≤ maxLen) (h3 : ao = none → c = 0)
    (h : ∀ a, ao = some a → ∀ i v, l[i]? = some v → w.cell? (a.add (i * 3)) = some (.int .i64 v.k) ∧ w.cell? (a.add (i * 3 + 1)) = some (.int .i64 v.i) ∧ w.cell? (a.add (i * 3 + 2)) = some (.string ⟨v.s.toArray⟩)) : Vs w (.slice ao l.length c) l := by
  refine ⟨ao, c, rfl, h1, h2, h3, fun a ha j u hu => ?_⟩
  have hj : j < l.length * 3 := by
    have := (List.getElem?_eq_some_iff.1 hu).1
    rwa [cellsL_len] at this
  have hi : j / 3 < l.length := by omega
  obtain ⟨p1, p2, p3⟩ := h a ha (j / 3) l[j / 3] (List.getElem?_eq_getElem hi)
  obtain ⟨q1, q2, q3⟩ := cellsL_at (List.getElem?_eq_getElem hi)
  have hr : j % 3 = 0 ∨ j % 3 = 1 ∨ j % 3 = 2 := by omega
  rcases hr with hr | hr | hr
  · have e : j / 3 * 3 = j := by omega
    rw [e] at p1 q1
    rw [p1]; rw [hu] at q1; exact q1.symm
  · have e : j / 3 * 3 + 1 = j := by omega
    rw [e] at p2 q2
    rw [p2]; rw [hu] at q2; exact q2.symm
  · have e : j / 3 * 3 + 2 = j := by omega
    rw [e] at p3 q3
    rw [p3]; rw [hu] at q3; exact q3.symm

instance vlInh : Inhabited Vl := ⟨⟨0, 0, []⟩⟩

/-- What three cells are, read as a value. -/
theorem val_cells {H : Type} {enc : TypeId × Value → H} {W : World} {base : Nat} {spare : Nat → Bool} {held : Bool} {m : Nat} {cs : List Value} {y : DataW H × List MemPlace}
    (h : DataW.trod enc Tryd.prog W base spare held m 44 cs = some y) : ∃ v : Vl, cs = [.int .i64 v.k, .int .i64 v.i, .string ⟨v.s.toArray⟩] ∧ inV v := by
  have hc1 : Tryd.prog.cellsOf 3 = 1 := by kernel_rfl
  have hc2 : Tryd.prog.cellsOf 2 = 1 := by kernel_rfl
  have hc3 : Tryd.prog.cellsOf 9 = 1 := by kernel_rfl
  have hcv : Tryd.prog.cellsOf 44 = 3 := by kernel_rfl
  obtain ⟨y0, y1, y2, n', hy, hlen, t0, t1, t2⟩ := trod_struct3 Tryd.underlying44 h
  have t0' : DataW.trod enc Tryd.prog W base spare held n' 3 ((cs.drop 0).take 1) = some y0 := by rw [← hc1]; exact t0
  have t1' : DataW.trod enc Tryd.prog W base spare held n' 2 ((cs.drop 1).take 1) = some y1 := by rw [← hc2]; exact t1
  have t2' : DataW.trod enc Tryd.prog W base spare held n' 9 ((cs.drop 2).take 1) = some y2 := by rw [← hc3]; exact t2
  obtain ⟨k, hk, -, -⟩ := DataW.trod_int Tryd.underlying3 t0'
  obtain ⟨i, hi, -, hw⟩ := DataW.trod_int Tryd.underlying2 t1'
  obtain ⟨s, hs, -, -⟩ := DataW.trod_string Tryd.underlying9 t2'
  rw [hcv] at hlen
  match cs, hlen with
  | [u0, u1, u2], _ =>
    simp at hk hi hs
    subst hk; subst hi; subst hs
    refine ⟨⟨k, i, s.data.toList⟩, by rw [ba_eta], ?_⟩
    have := bounds_i64 hw
    exact ⟨this.1, this.2⟩

/-- A slice of values that came in. -/
theorem vals_open {H : Type} {enc : TypeId × Value → H} {W : World} {a : Option Addr} {len cap : Nat} {d : DataW H} {p : List MemPlace}
    (h : DataW.Trod enc Tryd.prog W 0 (fun _ => true) true 28 (.slice a len cap) d p) : ∃ l : List Vl, l.length = len ∧ Vs W (.slice a len cap) l ∧ ∀ v ∈ l, inV v := by
  obtain ⟨fuel, hf⟩ := h
  rcases open_slice Tryd.underlying28 hf with ⟨hcs, hx⟩ | ⟨x, l, c, m, n, D, Pl, hcs, _, hl, hm, hmm, hx, hcell⟩
  · simp [Value.cells] at hcs
    obtain ⟨rfl, rfl, rfl⟩ := hcs
    exact ⟨[], rfl, Vs.nil W, fun v hv => by cases hv⟩
  · simp [Value.cells] at hcs
    obtain ⟨rfl, rfl, rfl⟩ := hcs
    have hcv : Tryd.prog.cellsOf 44 = 3 := by kernel_rfl
    rw [hcv] at hcell
    have key : ∀ i, i < len → ∃ v : Vl, (W.cell? (x.add (i * 3)) = some (.int .i64 v.k) ∧ W.cell? (x.add (i * 3 + 1)) = some (.int .i64 v.i) ∧ W.cell? (x.add (i * 3 + 2)) = some (.string ⟨v.s.toArray⟩)) ∧ inV v := by
      intro i hi
      obtain ⟨cs', h1, h2⟩ := hcell i (by rw [hmm]; simp; omega)
      obtain ⟨v, rfl, hv⟩ := val_cells h2
      obtain ⟨_, hl2, hc⟩ := World.cells?_some h1
      have c0 := hc 0 (by omega)
      have c1 := hc 1 (by omega)
      have c2 := hc 2 (by omega)
      rw [add_add] at c0 c1 c2
      exact ⟨v, ⟨c0, c1, c2⟩, hv⟩
    obtain ⟨f, hf2⟩ := choose_lt key
    have hlen : ((List.range len).map f).length = len := by simp
    have hget : ∀ i v, ((List.range len).map f)[i]? = some v → i < len ∧ v = f i := by
      intro i v hv
      have hi : i < len := by have := (List.getElem?_eq_some_iff.1 hv).1; simpa using this
      rw [List.getElem?_map, List.getElem?_range hi] at hv
      simp at hv
      exact ⟨hi, hv.symm⟩
    refine ⟨(List.range len).map f, hlen, ?_, fun v hv => ?_⟩
    · have := Vs.mk (w := W) (ao := some x) (c := cap) (l := (List.range len).map f) (by rw [hlen]; exact hl) hm (fun h => by cases h) (fun a ha i v hv => by
        cases ha
        obtain ⟨hi, rfl⟩ := hget i v hv
        exact (hf2 i hi).1)
      rw [hlen] at this
      exact this
    · obtain ⟨i, hi, rfl⟩ := List.mem_map.1 hv
      exact (hf2 i (List.mem_range.1 hi)).2

end Go.Proofs.YtpdmocdfnakggaaDoor

namespace Go.Proofs.YtpdmocdfnakggaaDoor
open Go.RowKit

theorem cmpI_lt {a b : Int} (h : a < b) : cmpI a b = -1 := by unfold cmpI; rw [if_pos h]
theorem cmpI_gt {a b : Int} (h : b < a) : cmpI a b = 1 := by unfold cmpI; rw [if_neg (by omega), if_pos h]

end Go.Proofs.YtpdmocdfnakggaaDoor

namespace Go.Proofs.YtpdmocdfnakggaaDoor
open Go.RowKit

theorem cmpVs_cons {a b : List Vl} {k : Nat} {v u : Vl} (ha : a[k]? = some v) (hb : b[k]? = some u) : cmpVs (a.drop k) (b.drop k) = if cmpV v u ≠ 0 then cmpV v u else cmpVs (a.drop (k + 1)) (b.drop (k + 1)) := by
  obtain ⟨h1, e1⟩ := List.getElem?_eq_some_iff.1 ha
  obtain ⟨h2, e2⟩ := List.getElem?_eq_some_iff.1 hb
  rw [List.drop_eq_getElem_cons h1, List.drop_eq_getElem_cons h2, e1, e2]
  rfl

theorem cmpVs_end1 {a b : List Vl} {k : Nat} (h1 : k < a.length) (h2 : b.length ≤ k) : cmpVs (a.drop k) (b.drop k) = 1 := by
  rw [List.drop_eq_getElem_cons h1, List.drop_eq_nil_of_le h2]; rfl

theorem cmpVs_end2 {a b : List Vl} {k : Nat} (h1 : k < b.length) (h2 : a.length ≤ k) : cmpVs (a.drop k) (b.drop k) = -1 := by
  rw [List.drop_eq_getElem_cons h1, List.drop_eq_nil_of_le h2]; rfl

theorem cmpVs_end3 {a b : List Vl} {k : Nat} (h1 : b.length ≤ k) (h2 : a.length ≤ k) : cmpVs (a.drop k) (b.drop k) = 0 := by
  rw [List.drop_eq_nil_of_le h1, List.drop_eq_nil_of_le h2]; rfl

end Go.Proofs.YtpdmocdfnakggaaDoor

namespace Go.Proofs.YtpdmocdfnakggaaDoor
open Go.RowKit

theorem cmpV_kind {v u : Vl} (h : v.k < u.k) : cmpV v u = -1 := by unfold cmpV; rw [cmpI_lt h]; rfl
theorem cmpV_kind2 {v u : Vl} (h : u.k < v.k) : cmpV v u = 1 := by unfold cmpV; rw [cmpI_gt h]; rfl
theorem cmpV_int {v u : Vl} (hk : v.k = u.k) (h : v.i < u.i) : cmpV v u = -1 := by unfold cmpV; rw [hk, cmpI_self, cmpI_lt h]; rfl
theorem cmpV_int2 {v u : Vl} (hk : v.k = u.k) (h : u.i < v.i) : cmpV v u = 1 := by unfold cmpV; rw [hk, cmpI_self, cmpI_gt h]; rfl
theorem cmpV_text {v u : Vl} (hk : v.k = u.k) (hi : v.i = u.i) : cmpV v u = Lib.compareBytes v.s u.s := by unfold cmpV; rw [hk, hi, cmpI_self, cmpI_self]; rfl

theorem less_val {v u : Vl} (h : cmpV v u = Lib.compareBytes v.s u.s) (hs : v.s ≠ u.s) : cmpV v u = if Op.bytesLess v.s u.s then -1 else 1 := by
  rw [h, less_eq]
  rcases cb_tri v.s u.s with h1 | h1 | h1
  · rw [h1]; rfl
  · exact absurd (cb_eq _ _ h1) hs
  · rw [h1]; rfl

theorem drew_alloc2 {w wr : World} {o o' : Obj} (h : Below w.heap.size w wr) : Below w.heap.size w ((wr.drew.alloc o).alloc o') := by
  have h1 : Below w.heap.size w wr.drew := ⟨h.os, h.tape, h.output, h.size, h.block⟩
  exact (h1.alloc h1.size o).alloc (h1.alloc h1.size o).size o'

set_option maxHeartbeats 16000000 in
set_option maxRecDepth 100000 in
theorem rcmp_any (x y : Value) (a b : List Vl) (w : World) (hx : Vs w x a) (hy : Vs w y b) (ha : ∀ v ∈ a, okV v) (hb : ∀ v ∈ b, okV v) :
    Calls Tryd.prog 17 #[x, y] w (Ans w (.int .i64 (cmpVs a b))) := by
  obtain ⟨ax, cx, rfl, hma⟩ := hx.form
  obtain ⟨ay, cy, rfl, hmb⟩ := hy.form
  unfold maxLen at hma hmb
  have HX := hid hx
  have HY := hid hy
  have HA := hid ha
  have HBO := hid hb
  clear hx hy ha hb
  go_enter Tryd.func17, Tryd.ntmps17
  go_wp2_with fail
  go_loopw [5] (fun i wr => ∃ k : Nat, k ≤ a.length ∧ k ≤ b.length ∧ i = .int .i64 k ∧ cmpVs (a.drop k) (b.drop k) = cmpVs a b ∧ Below w.heap.size w wr) (fun i _ => a.length - (intOf i).toNat)
  case atStart => exact ⟨0, by omega, by omega, rfl, rfl, Below.refl _ _⟩
  case round =>
    obtain ⟨k, hk, hkb, rfl, hc, hb⟩ := hrel
    have HB := hid hb
    have HC := hid hc
    clear hb hc
    by_cases hlt : k < a.length
    · by_cases hlb : k < b.length
      · have hv := List.getElem?_eq_getElem hlt
        generalize a[k] = v at *
        obtain ⟨b1, off1, rfl, d1, d2, d3⟩ := (HX.out.old HB.out).get hv
        have hu := List.getElem?_eq_getElem hlb
        generalize b[k] = u at *
        obtain ⟨b2, off2, rfl, e1, e2, e3⟩ := (HY.out.old HB.out).get hu
        have HS := hid (cmpVs_cons hv hu)
        have okv := HA.out v (List.mem_of_getElem? hv)
        have oku := HBO.out u (List.mem_of_getElem? hu)
        obtain ⟨vk, vi, vs⟩ := v
        obtain ⟨uk, ui, us⟩ := u
        simp only at d1 d2 d3 e1 e2 e3
        have f1 := fun o : Obj => (Below.refl wr.heap.size wr).alloc (Nat.le_refl _) o
        have f2 := fun o o' : Obj => (f1 o).alloc (f1 o).size o'
        have low : ∀ (p : Addr) (z : Value), wr.cell? p = some z → (∀ o, (wr.alloc o).cell? p = some z) ∧ (∀ o o', ((wr.alloc o).alloc o').cell? p = some z) := fun p z h =>
          ⟨fun o => by rw [← h]; exact (f1 o).cell (p := p) (World.block_lt_of_cell? _ _ h), fun o o' => by rw [← h]; exact (f2 o o').cell (p := p) (World.block_lt_of_cell? _ _ h)⟩
        obtain ⟨da1, db1⟩ := low _ _ d1
        obtain ⟨da2, db2⟩ := low _ _ d2
        obtain ⟨da3, db3⟩ := low _ _ d3
        obtain ⟨ea1, eb1⟩ := low _ _ e1
        obtain ⟨ea2, eb2⟩ := low _ _ e2
        obtain ⟨ea3, eb3⟩ := low _ _ e3
        clear low f1 f2
        have HNN : Hid (cmpV ⟨vk, vi, vs⟩ ⟨uk, ui, us⟩ ≠ 0 → cmpVs a b = cmpV ⟨vk, vi, vs⟩ ⟨uk, ui, us⟩) := fun hz => by rw [← HC.out, HS.out, if_pos hz]
        clear hv hu
        by_cases hkk : vk = uk
        · subst hkk
          by_cases hii : vi = ui
          · subst hii
            by_cases hss : vs = us
            · subst hss
              have HN : Hid (cmpVs (a.drop (k + 1)) (b.drop (k + 1)) = cmpVs a b) := by show _ = _; rw [← HC.out, HS.out, if_neg (by simp [cmpV_self])]
              clear okv oku HNN
              go_wp2_with fail
              go_region
              all_goals
                go_wp2_with fail
                go_roundw
                · exact ⟨k + 1, by omega, by omega, by go_num, HN.out, drew_alloc2 HB.out⟩
                · simp [intOf]; omega
            · have hk2 : vk = 2 := by
                rcases okv with ⟨-, -, h1⟩ | ⟨h1, h2⟩ | ⟨h1, -, -⟩
                · rcases oku with ⟨-, -, h3⟩ | ⟨h3, h4⟩ | ⟨h3, -, -⟩
                  · exact absurd (h1.trans h3.symm) hss
                  · exact absurd (h1.trans h4.symm) hss
                  · exact h3
                · rcases oku with ⟨-, -, h3⟩ | ⟨h3, h4⟩ | ⟨h3, -, -⟩
                  · exact absurd (h2.trans h3.symm) hss
                  · exact absurd (h2.trans h4.symm) hss
                  · exact h3
                · exact h1
              subst hk2
              have hss' : (vs == us) = false := by simp [hss]
              have hlv := less_val (cmpV_text (v := ⟨2, vi, vs⟩) (u := ⟨2, vi, us⟩) rfl rfl) hss
              simp only at hlv
              clear okv oku
              cases hle : Op.bytesLess vs us with
              | true =>
                have HN : Hid (cmpVs a b = -1) := by
                  rw [hle] at hlv
                  show _ = _
                  rw [HNN.out (by rw [hlv]; decide), hlv]; rfl
                clear hlv HNN
                go_wp2_with fail
                go_region
                all_goals
                  go_wp2_with fail
                  go_ret
                  unfold Ans
                  rw [HN.out]
                  exact ⟨rfl, drew_alloc2 HB.out⟩
              | false =>
                have HN : Hid (cmpVs a b = 1) := by
                  rw [hle] at hlv
                  show _ = _
                  rw [HNN.out (by rw [hlv]; decide), hlv]; rfl
                clear hlv HNN
                go_wp2_with fail
                go_region
                all_goals
                  go_wp2_with fail
                  go_ret
                  unfold Ans
                  rw [HN.out]
                  exact ⟨rfl, drew_alloc2 HB.out⟩
          · have hk1 : vk = 1 := by
              rcases okv with ⟨h0, h1, -⟩ | ⟨h1, h2⟩ | ⟨h0, h1, -⟩
              · rcases oku with ⟨h2, h3, -⟩ | ⟨h3, -⟩ | ⟨h2, h3, -⟩
                · exact absurd (h1.trans h3.symm) hii
                · exact h3
                · exact absurd (h1.trans h3.symm) hii
              · exact h1
              · rcases oku with ⟨h2, h3, -⟩ | ⟨h3, -⟩ | ⟨h2, h3, -⟩
                · exact absurd (h1.trans h3.symm) hii
                · exact h3
                · exact absurd (h1.trans h3.symm) hii
            subst hk1
            have hii' : (vi == ui) = false := by simp [hii]
            clear okv oku
            by_cases hlo : vi < ui
            · have HN : Hid (cmpVs a b = -1) := by
                have e := cmpV_int (v := ⟨1, vi, vs⟩) (u := ⟨1, ui, us⟩) rfl hlo
                show _ = _
                rw [HNN.out (by rw [e]; decide), e]
              clear HNN
              go_wp2_with fail
              go_region
              all_goals
                go_wp2_with fail
                go_ret
                unfold Ans
                rw [HN.out]
                exact ⟨rfl, drew_alloc2 HB.out⟩
            · have HN : Hid (cmpVs a b = 1) := by
                have e := cmpV_int2 (v := ⟨1, vi, vs⟩) (u := ⟨1, ui, us⟩) rfl (show ui < vi by omega)
                show _ = _
                rw [HNN.out (by rw [e]; decide), e]
              clear HNN
              go_wp2_with fail
              go_region
              all_goals
                go_wp2_with fail
                go_ret
                unfold Ans
                rw [HN.out]
                exact ⟨rfl, drew_alloc2 HB.out⟩
        · have hkk' : (vk == uk) = false := by simp [hkk]
          clear okv oku
          by_cases hlo : vk < uk
          · have HN : Hid (cmpVs a b = -1) := by
              have e := cmpV_kind (v := ⟨vk, vi, vs⟩) (u := ⟨uk, ui, us⟩) hlo
              show _ = _
              rw [HNN.out (by rw [e]; decide), e]
            clear HNN
            go_wp2_with fail
            go_region
            all_goals
              go_wp2_with fail
              go_ret
              unfold Ans
              rw [HN.out]
              exact ⟨rfl, drew_alloc2 HB.out⟩
          · have HN : Hid (cmpVs a b = 1) := by
              have e := cmpV_kind2 (v := ⟨vk, vi, vs⟩) (u := ⟨uk, ui, us⟩) (show uk < vk by omega)
              show _ = _
              rw [HNN.out (by rw [e]; decide), e]
            clear HNN
            go_wp2_with fail
            go_region
            all_goals
              go_wp2_with fail
              go_ret
              unfold Ans
              rw [HN.out]
              exact ⟨rfl, drew_alloc2 HB.out⟩
      · have HN : Hid (cmpVs a b = 1) := by show _ = _; rw [← HC.out, cmpVs_end1 hlt (by omega)]
        go_wp2_with fail
        go_ret
        unfold Ans
        rw [HN.out]
        exact ⟨rfl, HB.out⟩
    · by_cases hlb : k < b.length
      · have HN : Hid (cmpVs a b = -1) := by show _ = _; rw [← HC.out, cmpVs_end2 hlb (by omega)]
        go_wp2_with fail
        go_ret
        unfold Ans
        rw [HN.out]
        exact ⟨rfl, HB.out⟩
      · have HN : Hid (cmpVs a b = 0) := by show _ = _; rw [← HC.out, cmpVs_end3 (by omega) (by omega)]
        go_wp2_with fail
        go_ret
        unfold Ans
        rw [HN.out]
        exact ⟨rfl, HB.out⟩
end Go.Proofs.YtpdmocdfnakggaaDoor

set_option linter.unusedVariables false
set_option linter.unusedSimpArgs false
set_option maxRecDepth 100000
namespace Go.Proofs.YtpdmocdfnakggaaDoor
open Go.RowKit Go.Deep

def mayB (c : Col) (v : Vl) : Bool := decide (okV v) && (v.k == c.kind || (v.k == 0 && c.null))
theorem mayB_iff (c : Col) (v : Vl) : mayB c v = true ↔ mayV c v := by
  unfold mayB mayV; simp

set_option maxHeartbeats 4000000 in
theorem rmay_any (w : World) (c : Col) (v : Vl) : Calls Tryd.prog 23 #[.agg #[.string ⟨c.name.toArray⟩, .int .i64 c.kind, .bool c.null], .agg #[.int .i64 v.k, .int .i64 v.i, .string ⟨v.s.toArray⟩]] w (Ans w (.bool (mayB c v))) := by
  go_enter Tryd.func23, Tryd.ntmps23
  go_upto_region 1 with fail
  have hb := (Below.refl w.heap.size w).alloc (Nat.le_refl _) (.cells #[.string ⟨c.name.toArray⟩, .int .i64 c.kind, .bool c.null] 58)
  have hz := heap_alloc_new w (.cells #[.string ⟨c.name.toArray⟩, .int .i64 c.kind, .bool c.null] 58)
  have hs : (w.alloc (.cells #[.string ⟨c.name.toArray⟩, .int .i64 c.kind, .bool c.null] 58)).heap.size = w.heap.size + 1 := by simp
  generalize w.alloc (.cells #[.string ⟨c.name.toArray⟩, .int .i64 c.kind, .bool c.null] 58) = w1 at *
  have hb2 := (Below.refl w1.heap.size w1).alloc (Nat.le_refl _) (.cells #[.int .i64 v.k, .int .i64 v.i, .string ⟨v.s.toArray⟩] 44)
  have hx2 := heap_alloc_new w1 (.cells #[.int .i64 v.k, .int .i64 v.i, .string ⟨v.s.toArray⟩] 44)
  generalize w1.alloc (.cells #[.int .i64 v.k, .int .i64 v.i, .string ⟨v.s.toArray⟩] 44) = w2 at *
  have HZ := hid ((hb2.block _ (lt_of_block hz)).trans hz)
  rw [hs] at hx2
  have HV := hid hx2
  have HB := hid (below_step hb hb2)
  have v0 := cell_in hx2 0 _ rfl
  have v1 := cell_in hx2 1 _ rfl
  have v2 := cell_in hx2 2 _ rfl
  clear hb hb2 hz hx2 hs
  have CR := hid (rright_any v w2)
  simp only [sv] at CR
  cases hq : decide (okV v) with
  | false =>
    rw [hq] at CR
    have HF : Hid (mayB c v = false) := hid (by unfold mayB; rw [hq]; rfl)
    clear hq
    go_wp2_with (first | (go_at_call 36; refine CR.out.mono ?_; rintro en w3 ⟨rfl, hb3⟩; have HB3 := hid (below_step HB.out hb3); clear v0 v1 v2 hb3))
    go_ret
    exact ⟨by rw [HF.out]; rfl, HB3.out⟩
  | true =>
    rw [hq] at CR
    have HM : Hid (mayB c v = (v.k == c.kind || (v.k == 0 && c.null))) := hid (by unfold mayB; rw [hq]; rfl)
    clear hq
    go_upto_region 1 with fail
    cases h1 : (v.k == c.kind) with
    | true =>
      go_wp2_with (first | (go_at_call 36; refine CR.out.mono ?_; rintro en w3 ⟨rfl, hb3⟩; have HB3 := hid (below_step HB.out hb3); clear v0 v1 v2; have q0 := cell_in ((hb3.block _ (lt_of_block HV.out)).trans HV.out) 0 _ rfl; have q1 := cell_in ((hb3.block _ (lt_of_block HZ.out)).trans HZ.out) 1 _ rfl; have q2 := cell_in ((hb3.block _ (lt_of_block HZ.out)).trans HZ.out) 2 _ rfl; clear hb3))
      go_ret
      exact ⟨by rw [HM.out, h1]; rfl, HB3.out⟩
    | false =>
      cases h2 : (v.k == 0) with
      | true =>
        go_wp2_with (first | (go_at_call 36; refine CR.out.mono ?_; rintro en w3 ⟨rfl, hb3⟩; have HB3 := hid (below_step HB.out hb3); clear v0 v1 v2; have q0 := cell_in ((hb3.block _ (lt_of_block HV.out)).trans HV.out) 0 _ rfl; have q1 := cell_in ((hb3.block _ (lt_of_block HZ.out)).trans HZ.out) 1 _ rfl; have q2 := cell_in ((hb3.block _ (lt_of_block HZ.out)).trans HZ.out) 2 _ rfl; clear hb3))
        go_ret
        exact ⟨by rw [HM.out, h1, h2]; rfl, HB3.out⟩
      | false =>
        go_wp2_with (first | (go_at_call 36; refine CR.out.mono ?_; rintro en w3 ⟨rfl, hb3⟩; have HB3 := hid (below_step HB.out hb3); clear v0 v1 v2; have q0 := cell_in ((hb3.block _ (lt_of_block HV.out)).trans HV.out) 0 _ rfl; have q1 := cell_in ((hb3.block _ (lt_of_block HZ.out)).trans HZ.out) 1 _ rfl; have q2 := cell_in ((hb3.block _ (lt_of_block HZ.out)).trans HZ.out) 2 _ rfl; clear hb3))
        go_ret
        exact ⟨by rw [HM.out, h1, h2]; rfl, HB3.out⟩

set_option maxHeartbeats 4000000 in
theorem refRight_any {N : Nat → Prop} {w : World} {cs : List Value} {T : Tab} (h : TabN N w cs T) {x : Value} {r : List Vl} (hx : Vs w x r) :
    Calls Tryd.prog 7 #[.agg cs.toArray, x] w (fun e w' => ∃ b : Bool, e = .returned (.bool b) ∧ (b = true ↔ RowOk T r) ∧ Below w.heap.size w w') := by
  obtain ⟨x2, y2, rfl, ⟨hx2, -⟩, ⟨hy2, -⟩, -, -⟩ := h
  obtain ⟨a1, e1, rfl, p1, p2, pc⟩ := cl_cells hx2
  obtain ⟨a3, e3, rfl, -, -, -⟩ := zs_cells hy2
  obtain ⟨a2, e2, rfl, hm⟩ := hx.form
  unfold maxLen at hm p2
  have HC := hid pc
  have HX := hid hx
  clear hx2 hy2 pc hx
  go_enter Tryd.func7, Tryd.ntmps7
  go_upto_region 1 with fail
  have hb := (Below.refl w.heap.size w).alloc (Nat.le_refl _) (.cells #[.int .i64 T.id, .string ⟨T.name.toArray⟩, .slice a1 T.cols.length e1, .slice a3 T.key.length e3] 25)
  have hz := heap_alloc_new w (.cells #[.int .i64 T.id, .string ⟨T.name.toArray⟩, .slice a1 T.cols.length e1, .slice a3 T.key.length e3] 25)
  generalize w.alloc (.cells #[.int .i64 T.id, .string ⟨T.name.toArray⟩, .slice a1 T.cols.length e1, .slice a3 T.key.length e3] 25) = w1 at *
  have HB := hid hb
  have HZ := hid hz
  have z2 := cell_in hz 2 _ rfl
  clear hb hz
  by_cases hl : r.length = T.cols.length
  · rw [hl]
    rw [hl] at HX
    have HL := hid hl
    clear hl
    go_wp2_with fail
    clear z2
    go_loopw [5] (fun j wr => ∃ k : Nat, k ≤ T.cols.length ∧ j = .int .i64 (k : Int) ∧ Hid (Below w1.heap.size w1 wr) ∧ Hid (∀ (i : Nat) c v, i < k → T.cols[i]? = some c → r[i]? = some v → mayV c v))
      (fun j _ => T.cols.length - (intOf j).toNat)
    case atStart => exact ⟨0, by omega, rfl, Below.refl _ _, fun i c v hi => by omega⟩
    case round =>
      obtain ⟨k, hk, rfl, HBr, HA⟩ := hrel
      have HZr := hid ((HBr.out.block _ (lt_of_block HZ.out)).trans HZ.out)
      by_cases hlt : k < T.cols.length
      · obtain ⟨c, hc⟩ : ∃ c, T.cols[k]? = some c := ⟨_, List.getElem?_eq_getElem hlt⟩
        obtain ⟨v, hv⟩ : ∃ v, r[k]? = some v := ⟨_, List.getElem?_eq_getElem (by have := HL.out; omega)⟩
        obtain ⟨b, off, rfl, c0, c1, c2⟩ := HC.out k c hc
        obtain ⟨b2, off2, rfl, d0, d1, d2⟩ := HX.out.get hv
        have hki : (k : Int) < (T.cols.length : Int) := by omega
        have HBW := hid (below_step HB.out HBr.out)
        have k0 := (HBW.out.cell (block_cell c0)).trans c0
        have k1 := (HBW.out.cell (block_cell c1)).trans c1
        have k2 := (HBW.out.cell (block_cell c2)).trans c2
        have q0 := (HBW.out.cell (block_cell d0)).trans d0
        have q1 := (HBW.out.cell (block_cell d1)).trans d1
        have q2 := (HBW.out.cell (block_cell d2)).trans d2
        have z2 := cell_in HZr.out 2 _ rfl
        have HCV := hid (And.intro hc hv)
        clear c0 c1 c2 d0 d1 d2 hc hv
        have CM := hid (rmay_any wr.drew c v)
        cases hq : mayB c v with
        | true =>
          have HNX : Hid (∀ (i : Nat) c v, i < k + 1 → T.cols[i]? = some c → r[i]? = some v → mayV c v) := hid (fun i c' v' hi h1 h2 => by
            by_cases e : i = k
            · subst e
              rw [HCV.out.1] at h1
              rw [HCV.out.2] at h2
              cases h1; cases h2
              exact (mayB_iff _ _).1 hq
            · exact HA.out i c' v' (by omega) h1 h2)
          rw [hq] at CM
          clear hq
          go_upto_region 6 with fail
          go_region_with (first | (go_at_call 23; refine CM.out.mono ?_; rintro en w4 ⟨rfl, hb4⟩))
          all_goals
            have HB4 : Hid (Below w1.heap.size w1 w4) := hid (below_step HBr.out.drew hb4)
            clear hb4
            go_wp2_with fail
            go_roundw
            · exact ⟨k + 1, by omega, by go_num, HB4, HNX⟩
            · simp [intOf]; omega
        | false =>
          have HNO : Hid (¬ RowOk T r) := hid (fun h => by
            have := (mayB_iff _ _).2 (h.2 k c v HCV.out.1 HCV.out.2)
            rw [hq] at this; cases this)
          rw [hq] at CM
          clear hq
          go_upto_region 6 with fail
          go_region_with (first | (go_at_call 23; refine CM.out.mono ?_; rintro en w4 ⟨rfl, hb4⟩))
          all_goals
            have HB4 : Hid (Below w1.heap.size w1 w4) := hid (below_step HBr.out.drew hb4)
            clear hb4
            go_wp2_with fail
            go_ret
            exact ⟨false, rfl, ⟨(fun h => by cases h), fun h => absurd h HNO.out⟩, below_step HB.out HB4.out⟩
      · obtain rfl : k = T.cols.length := by omega
        go_wp2_with fail
        go_ret
        exact ⟨true, rfl, ⟨fun _ => ⟨HL.out, fun i c v h1 h2 => HA.out i c v (List.getElem?_eq_some_iff.1 h1).1 h1 h2⟩, fun _ => rfl⟩, below_step HB.out HBr.out⟩
  · have hl2 : ¬ (r.length : Int) = (T.cols.length : Int) := by omega
    have hl3 : ((r.length : Int) == (T.cols.length : Int)) = false := by simpa using hl2
    go_wp2_with fail
    go_ret
    exact ⟨false, rfl, ⟨(fun h => by cases h), fun h => absurd h.1 hl⟩, HB.out⟩

set_option maxHeartbeats 4000000 in
theorem rpick_ok {w : World} {x y : Value} {r : List Vl} {L : List Int} (hx : Vs w x r) (hy : Rws 1 w y (L.map zRow)) (hp : PlOk L r.length) (hl : L.length ≤ 1000) :
    Calls Tryd.prog 32 #[x, y] w (fun e w' => ∃ v, e = .returned v ∧ w'.ownsRow w.heap.size 44 3 v L.length (cellsL (pickL r L)) ∧ Below w.heap.size w w') := by
  obtain ⟨a1, e1, rfl, hm⟩ := hx.form
  obtain ⟨a2, e2, rfl, p1, p2, pc⟩ := zs_cells hy
  unfold maxLen at hm
  have HC := hid pc
  have HX := hid hx
  have HP := hid hp
  clear hx hy pc hp
  go_enter Tryd.func32, Tryd.ntmps32
  go_wp2_with fail
  go_loopw [5, 6] (fun o j wr => ∃ k : Nat, k ≤ L.length ∧ j = .int .i64 (k : Int) ∧ Hid (wr.ownsRow w.heap.size 44 3 o k (cellsL (pickL r (L.take k)))) ∧ Hid (Below w.heap.size w wr))
    (fun _ j _ => L.length - (intOf j).toNat)
  case atStart => exact ⟨0, by omega, rfl, World.ownsRow_nil _ _ _ _, Below.refl _ _⟩
  case round =>
    obtain ⟨k, hk, rfl, HO, HB⟩ := hrel
    by_cases hlt : k < L.length
    · obtain ⟨z, hz⟩ : ∃ z, L[k]? = some z := ⟨_, List.getElem?_eq_getElem hlt⟩
      obtain ⟨hz1, hz2⟩ := HP.out z (List.mem_of_getElem? hz)
      obtain ⟨m, rfl⟩ : ∃ m : Nat, z = (m : Int) := ⟨z.toNat, by omega⟩
      obtain ⟨v, hv⟩ : ∃ v, r[m]? = some v := ⟨_, List.getElem?_eq_getElem (by omega)⟩
      have HT := hid (pickL_take hz hv)
      obtain ⟨b, off, rfl, c0⟩ := HC.out k m hz
      obtain ⟨b2, off2, rfl, d0, d1, d2⟩ := (HX.out.old HB.out).get hv
      have hki : (k : Int) < (L.length : Int) := by omega
      have k0 := (HB.out.cell (block_cell c0)).trans c0
      clear c0 hz hv hz1
      have HAO := hid (HO.out.alloc (.cells #[.int .i64 v.k, .int .i64 v.i, .string ⟨v.s.toArray⟩] 44))
      have HV1 := hid (Vs.one (t := 44) (heap_alloc_new wr (.cells #[.int .i64 v.k, .int .i64 v.i, .string ⟨v.s.toArray⟩] 44)))
      go_wp2_with (first
        | (at_builtin; refine wp_vapp rfl _ _ 28 rfl w.heap.size 44 Tryd.underlying28 _ info_val (by decide) _ _ _ rfl HAO.out _ [v] rfl HV1.out ?c1 ?c2 ?_))
      case c1 => show k + 1 ≤ 1000000; omega
      case c2 => exact (HB.out.alloc HB.out.size _).size
      intro x4 w4 o4 g4
      have HB4 := hid (HB.out.trans (vown_below HO.out HB.out.size g4))
      have HO4 : Hid (w4.ownsRow w.heap.size 44 3 x4 (k + 1) (cellsL (pickL r (L.take (k + 1))))) := hid (by rw [HT.out, cellsL_app]; exact o4)
      clear o4 g4
      go_wp2_with fail
      go_roundw
      case rel => exact ⟨k + 1, by omega, by go_num, HO4, HB4⟩
      case measure => simp [intOf]; omega
    · obtain rfl : k = L.length := by omega
      rw [List.take_length] at HO
      go_wp2_with fail
      go_ret
      exact ⟨_, rfl, HO.out, HB.out⟩

set_option maxHeartbeats 2000000 in
theorem rkey_ok {N : Nat → Prop} {w : World} {cs : List Value} {T : Tab} (h : TabN N w cs T) (hp : PlOk T.key T.cols.length) (hl : T.key.length ≤ 1000) {x : Value} {r : List Vl} (hx : Vs w x r) (hok : RowOk T r) :
    Calls Tryd.prog 15 #[.agg cs.toArray, x] w (fun e w' => ∃ a c, e = .returned (.slice a T.key.length c) ∧ Vs w' (.slice a T.key.length c) (pickL r T.key) ∧ Below w.heap.size w w') := by
  have H0 := hid h
  have HX := hid hx
  obtain ⟨x2, y2, rfl, ⟨hx2, -⟩, ⟨hy2, -⟩, -, -⟩ := h
  have HY2 := hid hy2
  obtain ⟨a1, e1, rfl, p1, p2, -⟩ := cl_cells hx2
  obtain ⟨a3, e3, rfl, -, -, -⟩ := zs_cells hy2
  obtain ⟨a2, e2, rfl, hm⟩ := hx.form
  clear hx2 hy2 hx
  have HPL : Hid (PlOk T.key r.length) := hid (by rw [hok.1]; exact hp)
  have HOK := hid hok
  clear hok
  go_enter Tryd.func15, Tryd.ntmps15
  go_upto_region 1 with fail
  have hb := (Below.refl w.heap.size w).alloc (Nat.le_refl _) (.cells #[.int .i64 T.id, .string ⟨T.name.toArray⟩, .slice a1 T.cols.length e1, .slice a3 T.key.length e3] 25)
  have hz := heap_alloc_new w (.cells #[.int .i64 T.id, .string ⟨T.name.toArray⟩, .slice a1 T.cols.length e1, .slice a3 T.key.length e3] 25)
  generalize w.alloc (.cells #[.int .i64 T.id, .string ⟨T.name.toArray⟩, .slice a1 T.cols.length e1, .slice a3 T.key.length e3] 25) = w1 at *
  have HB := hid hb
  have HZ := hid hz
  have z0 := cell_in hz 0 _ rfl
  have z1 := cell_in hz 1 _ rfl
  have z2 := cell_in hz 2 _ rfl
  have z3 := cell_in hz 3 _ rfl
  clear hb hz
  have CR := hid (refRight_any (H0.out.old HB.out) (HX.out.old HB.out))
  go_upto_region 3 with (first
    | (go_at_call 7; refine CR.out.mono ?_; rintro en w2 ⟨b2, rfl, hb2, hbw⟩; obtain rfl : b2 = true := hb2.2 HOK.out; have HB2 := hid (below_step HB.out hbw); have q3 := cell_in ((hbw.block _ (lt_of_block HZ.out)).trans HZ.out) 3 _ rfl; clear z0 z1 z2 z3 hb2 hbw CR))
  have CP := hid (rpick_ok (HX.out.old HB2.out) (HY2.out.old HB2.out) HPL.out hl)
  go_wp2_with (first
    | (go_at_call 32; refine CP.out.mono ?_; rintro en w3 ⟨v3, rfl, ho3, hb3⟩; have HB3 := hid (below_step HB2.out hb3); have HO3 := hid ho3; clear q3 ho3 hb3))
  go_ret
  have hv : Vs w3 v3 (pickL r T.key) := Vs.own (by rw [pickL_len]; exact HO3.out)
  obtain ⟨a, c, rfl, -⟩ := hv.form
  rw [pickL_len] at hv ⊢
  exact ⟨a, c, rfl, hv, HB3.out⟩
end Go.Proofs.YtpdmocdfnakggaaDoor

namespace Go.Proofs.YtpdmocdfnakggaaDoor
open Go.RowKit Go.Extern.Stop Go.Stop Go.Extern

theorem methodComparable (h : Value) (w : World) : (Go.method 295 141 (.agg #[h]) "Comparable").run Tryd.prog w = .ok (114, .agg #[h]) w := by kernel_rfl

theorem noIsC (v : Value) (xT : TypeId) (w : World) : (Instr.typeAssert (.iface 50 v) xT 143 true).run Tryd.prog w = .ok (.tuple #[.nilIface, .bool false]) w := run_typeAssert_lacksB Tryd.underlying143 (by kernel_rfl) (by kernel_rfl) v xT w
theorem noUnC (v : Value) (xT : TypeId) (w : World) : (Instr.typeAssert (.iface 50 v) xT 146 true).run Tryd.prog w = .ok (.tuple #[.nilIface, .bool false]) w := run_typeAssert_lacksB Tryd.underlying146 (by kernel_rfl) (by kernel_rfl) v xT w
theorem noUsC (v : Value) (xT : TypeId) (w : World) : (Instr.typeAssert (.iface 50 v) xT 148 true).run Tryd.prog w = .ok (.tuple #[.nilIface, .bool false]) w := run_typeAssert_lacksB Tryd.underlying148 (by kernel_rfl) (by kernel_rfl) v xT w
end Go.Proofs.YtpdmocdfnakggaaDoor

set_option linter.unusedVariables false

set_option linter.unusedVariables false

set_option linter.unusedVariables false

set_option linter.unusedVariables false
namespace Go.Proofs.YtpdmocdfnakggaaDoor
open Go.RowKit Go.Extern.Stop Go.Stop Go.Extern

/-- The entry of (rtype).Comparable. -/
def compEntry : Array Value → Sem Value := ReflectliteType.method fun t => do Rtype.noPackHeld "Comparable" t; pure (.bool (← typeInfo t).comparable)
theorem compC' (w : World) : (compEntry #[.agg #[.pointer (some ⟨1, 50, none⟩)]]).run Tryd.prog w = .ok (.bool true) w := by kernel_rfl
theorem run_equalIn_ints {P : Program} (w : World) (d : Nat) {ti tn : TypeId} {ms : Array (String × TypeId)} {i : TypeInfo} {k : IntKind} (a b : Int)
    (hi : P.underlying ti = some (.interface ms)) (hn : P.underlying tn = some (.int k)) (hinfo : P.info? tn = some i) (hcomp : i.comparable = true) :
    (Op.equalIn (d + 2) ti (.iface tn (.int k a)) (.iface tn (.int k b))).run P w = .ok (a == b) w := by
  simp [Op.equalIn, run_underlying hi, run_underlying hn, typeInfo, hinfo, hcomp]
/-- '==' between two errors of one integer type. -/
theorem run_eql_ints {P : Program} {ti tn : TypeId} {ms : Array (String × TypeId)} {i : TypeInfo} {k : IntKind} (a b : Int)
    (hi : P.underlying ti = some (.interface ms)) (hn : P.underlying tn = some (.int k)) (hinfo : P.info? tn = some i) (hcomp : i.comparable = true) (w : World) :
    (binOp .eql ti (.iface tn (.int k a)) (.iface tn (.int k b))).run P w = .ok (.bool (a == b)) w := by
  simp only [binOp]
  simp [Op.equal, Op.maxDepth, run_equalIn_ints w 9998 a b hi hn hinfo hcomp]
theorem compErrno : (Tryd.prog.info? 50).map (·.comparable) = some true := by kernel_rfl
theorem eqlErrno (a b : Int) (w : World) : (binOp .eql 66 (.iface 50 (.int .i64 a)) (.iface 50 (.int .i64 b))).run Tryd.prog w = .ok (.bool (a == b)) w := by
  obtain ⟨i, hi, hcmp⟩ := Option.map_eq_some_iff.1 compErrno
  exact run_eql_ints a b Tryd.underlying66 Tryd.underlying50 hi hcmp w

set_option maxHeartbeats 1000000 in
/-- Two codes. -/
theorem is_codes (a b : Int) (w : World) : Calls Tryd.prog 53 #[.iface 50 (.int .i64 a), .iface 50 (.int .i64 b)] w fun ev w' => ev = .returned (.bool (a == b)) ∧ w' = w := by
  have h10 := @run_callFunc_extern Tryd.prog 65 _ ReflectliteType.typeOf Tryd.func65 (by kernel_rfl) (by kernel_rfl) (by kernel_rfl) (by kernel_rfl)
  have h64 := @run_callFunc_extern Tryd.prog 114 _ compEntry Tryd.func114 (by kernel_rfl) (by kernel_rfl) (by kernel_rfl) (by kernel_rfl)
  have tC := typeOfC
  have mC := methodComparable
  have cC := compC'
  have nI := noIsC
  have nU := noUnC
  have nS := noUsC
  have eq := eqlErrno a b
  by_cases hab : a = b
  · have hd : (a == b) = true := by simp [hab]
    rw [hd] at eq
    rw [hd]
    clear hab
    go_enter Tryd.func53, Tryd.ntmps53
    go_wp2
    refine wp_loop_rounds 1 ?_
    rw [rounds_succ]
    go_wp2
    go_ret
    exact ⟨rfl, rfl⟩
  · have hd : (a == b) = false := by simp [hab]
    rw [hd] at eq
    rw [hd]
    clear hab
    go_enter Tryd.func53, Tryd.ntmps53
    go_wp2
    refine wp_loop_rounds 1 ?_
    rw [rounds_succ]
    go_wp2
    go_ret
    exact ⟨rfl, rfl⟩

theorem fis_nil (m : Int) (w : World) : Calls Tryd.prog 26 #[.nilIface, .int .i64 m] w fun ev w' => ev = .returned (.bool (0 == m)) ∧ w' = w := by
  go_enter Tryd.func26, Tryd.ntmps26
  go_wp2_with (first
    | (go_at_call 35; refine (code_nil _).mono ?_; rintro ev w1 ⟨rfl, rfl⟩)
    | (go_at_call 53; refine (is_codes _ _ _).mono ?_; rintro ev w2 ⟨rfl, rfl⟩))
  go_ret
  exact ⟨rfl, rfl⟩
end Go.Proofs.YtpdmocdfnakggaaDoor

set_option linter.unusedVariables false
set_option linter.unusedSimpArgs false
set_option maxRecDepth 100000
namespace Go.Proofs.YtpdmocdfnakggaaDoor
open Go.RowKit Go.Deep

set_option maxHeartbeats 1000000 in
theorem zright_ok {N : Nat → Prop} {w : World} {cs : List Value} {T : Tab} (h : TabN N w cs T) {x : Value} {r : List Vl} (hx : Vs w x r) (hok : RowOk T r) :
    Calls Tryd.prog 21 #[.agg cs.toArray, x] w (Ans w (.bool true)) := by
  have H0 := hid h
  have HX := hid hx
  obtain ⟨a1, e1, a3, e3, rfl⟩ := tab_form h
  obtain ⟨a2, e2, rfl, hm⟩ := hx.form
  clear h hx
  go_enter Tryd.func21, Tryd.ntmps21
  go_upto_region 1 with fail
  have hb := (Below.refl w.heap.size w).alloc (Nat.le_refl _) (.cells #[.int .i64 T.id, .string ⟨T.name.toArray⟩, .slice a1 T.cols.length e1, .slice a3 T.key.length e3] 25)
  have hz := heap_alloc_new w (.cells #[.int .i64 T.id, .string ⟨T.name.toArray⟩, .slice a1 T.cols.length e1, .slice a3 T.key.length e3] 25)
  generalize w.alloc (.cells #[.int .i64 T.id, .string ⟨T.name.toArray⟩, .slice a1 T.cols.length e1, .slice a3 T.key.length e3] 25) = w1 at *
  have HB := hid hb
  have z0 := cell_in hz 0 _ rfl
  have z1 := cell_in hz 1 _ rfl
  have z2 := cell_in hz 2 _ rfl
  have z3 := cell_in hz 3 _ rfl
  clear hb hz
  have CC := hid (checkRow_ok (H0.out.old HB.out) (HX.out.old HB.out) hok)
  clear hok
  go_wp2_with (first
    | (go_at_call 38; refine CC.out.mono ?_; rintro en w2 ⟨rfl, hb2⟩; have HB2 := hid (below_step HB.out hb2); clear z0 z1 z2 z3 hb2)
    | (go_at_call 26; refine (fis_nil 0 _).mono ?_; rintro en w3 ⟨rfl, rfl⟩))
  go_ret
  exact ⟨rfl, HB2.out⟩

def inSpan (K L H : List UInt8) : Bool := !(Op.bytesLess K L) && (decide (H = []) || Op.bytesLess K H)

set_option maxHeartbeats 2000000 in
theorem within_any {w : World} {a1 a2 : Option Addr} {c1 c2 : Nat} {x : Value} {K L H : List UInt8} (h1 : Rd w (.slice a1 L.length c1) L) (h2 : Rd w (.slice a2 H.length c2) H) (hx : Rd w x K) :
    Calls Tryd.prog 20 #[.agg #[.slice a1 L.length c1, .slice a2 H.length c2], x] w (Ans w (.bool (inSpan K L H))) := by
  have H1 := hid h1
  have H2 := hid h2
  have HX := hid hx
  obtain ⟨a3, c3, rfl⟩ := zrd_form hx
  clear h1 h2 hx
  go_enter Tryd.func20, Tryd.ntmps20
  go_upto_region 1 with fail
  have hb := (Below.refl w.heap.size w).alloc (Nat.le_refl _) (.cells #[.slice a1 L.length c1, .slice a2 H.length c2] 49)
  have hz := heap_alloc_new w (.cells #[.slice a1 L.length c1, .slice a2 H.length c2] 49)
  generalize w.alloc (.cells #[.slice a1 L.length c1, .slice a2 H.length c2] 49) = w1 at *
  have HB := hid hb
  have z0 := cell_in hz 0 _ rfl
  have z1 := cell_in hz 1 _ rfl
  have t1 := (H1.out.old hb).conv (P := Tryd.prog) 32 9 5 Tryd.underlying32 Tryd.underlying5 Tryd.underlying9
  have t2 := (H2.out.old hb).conv (P := Tryd.prog) 32 9 5 Tryd.underlying32 Tryd.underlying5 Tryd.underlying9
  have t3 := (HX.out.old hb).conv (P := Tryd.prog) 32 9 5 Tryd.underlying32 Tryd.underlying5 Tryd.underlying9
  clear hb hz
  have HI : Hid (inSpan K L H = (!(Op.bytesLess K L) && (decide (H = []) || Op.bytesLess K H))) := hid rfl
  generalize inSpan K L H = b at *
  cases q1 : Op.bytesLess K L with
  | true =>
    rw [q1] at HI
    obtain rfl : b = false := HI.out
    clear HI
    go_wp2_with fail
    go_ret
    exact ⟨by simp [ByteArray.toList_eq, q1], HB.out⟩
  | false =>
    by_cases h0 : H = []
    · subst h0
      rw [q1] at HI
      obtain rfl : b = true := HI.out
      clear HI
      go_wp2_with fail
      go_ret
      exact ⟨rfl, HB.out⟩
    · rw [q1, decide_eq_false h0] at HI
      obtain rfl : b = Op.bytesLess K H := by have := HI.out; simpa using this
      have hk0 : ¬ (H.length : Int) = 0 := by
        have : 0 < H.length := List.length_pos_iff.2 h0
        omega
      have hk1 : ((H.length : Int) == 0) = false := by simpa using hk0
      clear HI h0
      go_wp2_with fail
      go_ret
      exact ⟨rfl, HB.out⟩

set_option maxHeartbeats 2000000 in
theorem values2_any {w : World} {g : Nat} {a1 a2 : Option Addr} {n1 n2 c1 c2 : Nat} {t : TypeId} (h : w.heap[g]? = some (.cells #[.slice a1 n1 c1, .slice a2 n2 c2] t (0, 0))) :
    Calls Tryd.prog 16 #[.slice (some ⟨g, 0, none⟩) 2 2] w (fun e w' => e = .returned (.bool (decide (n1 ≤ 40) && decide (n2 ≤ 40))) ∧ w' = w) := by
  have z0 := cell_in h 0 _ rfl
  have z1 := cell_in h 1 _ rfl
  have z0 : w.cell? ⟨g, 0, none⟩ = some (.slice a1 n1 c1) := z0
  have z1 : w.cell? ⟨g, 1, none⟩ = some (.slice a2 n2 c2) := z1
  go_enter Tryd.func16, Tryd.ntmps16
  go_wp2_with fail
  go_loop [3] (fun j => ∃ k : Nat, k ≤ 2 ∧ j = .int .i64 (k : Int) ∧ (1 ≤ k → n1 ≤ 40) ∧ (2 ≤ k → n2 ≤ 40)) (fun j => 2 - (intOf j).toNat)
  case atStart => exact ⟨0, by omega, rfl, fun h => by omega, fun h => by omega⟩
  case round =>
    obtain ⟨k, hk, rfl, h1, h2⟩ := hrel
    obtain rfl | rfl | rfl : k = 0 ∨ k = 1 ∨ k = 2 := by omega
    · by_cases q : (40 : Int) < (n1 : Int)
      · have HF : Hid (decide (n1 ≤ 40) = false) := hid (decide_eq_false (by omega))
        go_wp2_with fail
        go_ret
        exact ⟨by rw [HF.out]; rfl, rfl⟩
      · go_wp2_with fail
        go_round
        case rel => exact ⟨1, by omega, by go_num, fun _ => by omega, fun h => by omega⟩
        case measure => simp [intOf]
    · by_cases q : (40 : Int) < (n2 : Int)
      · have HF : Hid (decide (n2 ≤ 40) = false) := hid (decide_eq_false (by omega))
        go_wp2_with fail
        go_ret
        refine ⟨?_, rfl⟩
        first | rfl | (rw [HF.out, Bool.and_false]; rfl) | (simp [HF.out]; done)
      · go_wp2_with fail
        go_round
        case rel => exact ⟨2, by omega, by go_num, fun _ => h1 (by omega), fun _ => by omega⟩
        case measure => simp [intOf]
    · have HF : Hid ((decide (n1 ≤ 40) && decide (n2 ≤ 40)) = true) := hid (by simp [h1 (by omega), h2 (by omega)])
      go_wp2_with fail
      go_ret
      exact ⟨rfl, rfl⟩
end Go.Proofs.YtpdmocdfnakggaaDoor

set_option linter.unusedVariables false
set_option linter.unusedSimpArgs false
set_option maxRecDepth 100000
namespace Go.Proofs.YtpdmocdfnakggaaDoor
open Go.RowKit Go.Deep

def OwnL {α : Type} (R : World → List Value → α → Prop) (n : Nat) (e : TypeId) (base : Nat) (w : World) (v : Value) (l : List α) : Prop :=
  ∃ M : List (List Value), M.length = l.length ∧ w.ownsRow base e n v l.length M.flatten ∧ Wide n M ∧ ∀ (i : Nat) r a, M[i]? = some r → l[i]? = some a → R w r a

theorem OwnL.nil {α : Type} (R : World → List Value → α → Prop) (n : Nat) (e : TypeId) (base : Nat) (w : World) : OwnL R n e base w (.slice none 0 0) [] :=
  ⟨[], rfl, ⟨(by simp), .inl ⟨rfl, rfl⟩⟩, (fun r (hr : r ∈ []) => nomatch hr), fun i r a h => by simp at h⟩
theorem OwnL.lt {α : Type} {R : World → List Value → α → Prop} {n : Nat} {e : TypeId} {base : Nat} {w : World} {v : Value} {l : List α} (h : OwnL R n e base w v l) : ∀ k, v.ownBlock = some k → base ≤ k ∧ k < w.heap.size := by
  obtain ⟨M, -, h2, -⟩ := h
  exact h2.lt
theorem OwnL.mono {α : Type} {R R' : World → List Value → α → Prop} {n : Nat} {e : TypeId} {base : Nat} {X : Nat → Prop} {w w' : World} {v : Value} {l : List α} (h : OwnL R n e base w v l) (hk : Keep X w w') (hx : ∀ k, v.ownBlock = some k → ¬ X k)
    (hR : ∀ r a, R w r a → R' w' r a) : OwnL R' n e base w' v l := by
  obtain ⟨M, h1, h2, h3, h4⟩ := h
  exact ⟨M, h1, own_keep h2 hk hx, h3, fun i r a p q => hR r a (h4 i r a p q)⟩

/-- 'append(l, x)': x one row, built anew at g. -/
theorem wp_lapp {α : Type} {R : World → List Value → α → Prop} {P : Program} {w : World} {ops : Array Oper} {rest : List Oper} {o : Oper} {a : Act} {Q : Exit → Act → World → Prop} (hgd : Region.wanted o (yielded ops a.tmps) = true) (s x : Operand) (t : TypeId)
    (ho : o.op = .call { callee := .builtin .append, args := #[s, x], argTypes := #[t, t] })
    (base n bytes : Nat) (e : TypeId) (ht : P.underlying t = some (.slice e)) (z : Value) (hinfo : (P.info? e).map (fun i => (i.zero, i.size, i.bytes)) = some (some z, n, bytes)) (hzs : z.cells.size = n) (hsz : 0 < n)
    (v : Value) (l : List α) (hs : a.eval s = v) (hown : OwnL R n e base w v l)
    (g : Nat) (r : List Value) (hx : a.eval x = .slice (some ⟨g, 0, none⟩) 1 1) (hr : ∀ (j : Nat) u, r[j]? = some u → w.cell? ⟨g, j, none⟩ = some u) (hrl : r.length = n) (h1 : ∀ u ∈ r, u.oneCell' = true)
    (hm : l.length + 1 ≤ maxLen) (hn : (l.length + 1) * bytes ≤ 140737488355328) (hbase : base ≤ w.heap.size)
    (h : ∀ v' w', (∀ (R' : World → List Value → α → Prop) b, (∀ q c, R w q c → R' w' q c) → R' w' r b → OwnL R' n e base w' v' (l ++ [b])) → w.grownBy w' v.ownBlock → (∀ k, v'.ownBlock = some k → v.ownBlock = some k ∨ w.heap.size ≤ k) →
      wpList P ops Q rest (a.put o.dst v') w') : wpList P ops Q (o :: rest) a w := by
  obtain ⟨i0, hi, hz0, hz1, hz2⟩ : ∃ i, P.info? e = some i ∧ i.zero = some z ∧ i.size = n ∧ i.bytes = bytes := by
    cases hq : P.info? e with
    | none => rw [hq] at hinfo; cases hinfo
    | some i => rw [hq] at hinfo; simp at hinfo; exact ⟨i, rfl, hinfo⟩
  obtain ⟨M, m1, m2, m3, m4⟩ := hown
  have hnews : ∀ (j : Nat) u, r[j]? = some u → w.cell? ((⟨g, 0, none⟩ : Addr).add j) = some u := fun j u hu => by rw [WideShapes.add_plain, Nat.zero_add]; exact hr j u hu
  obtain ⟨v', w', hrun, b1, b2, b3⟩ := run_append_own (P := P) w base t o.type e i0 z n bytes ht hi hz0 hz1 hz2 hzs hsz v l.length M.flatten m2 ⟨g, 0, none⟩ 1 1 r (by rw [hrl, Nat.one_mul]) hnews h1 hm hn hbase
  have hfr := app_fresh (ty := o.type) ht hi hz0 hz1 hz2 hzs hsz m2 (a := ⟨g, 0, none⟩) (m := 1) (c := 1) (news := r) (by rw [hrl, Nat.one_mul]) hnews h1 hm hn hrun
  refine wpList_step fun K hK => ?_
  rw [if_pos hgd]
  unfold Oper.wp execOp
  simp only [ho, resolve, invoke, builtin, Sem.run_bind, Sem.run_pure, Result.andThen_ok, List.map_toArray, List.map_cons, List.map_nil, hs, hx, hrun]
  refine hK _ _ (h v' w' (fun R' b hR hb => ⟨M ++ [r], by simp [m1], ?_, m3.app (fun q hq => by simp at hq; subst hq; exact ⟨hrl, h1⟩), fun i q c hi hc => ?_⟩) b2 hfr)
  · rw [List.length_append, List.length_singleton, List.flatten_append]
    simpa using b1
  · rcases Nat.lt_trichotomy i M.length with hlt | heq | hgt
    · rw [List.getElem?_append_left hlt] at hi
      rw [List.getElem?_append_left (by omega)] at hc
      exact hR q c (m4 i q c hi hc)
    · subst heq
      rw [List.getElem?_append_right (Nat.le_refl _)] at hi
      rw [m1, List.getElem?_append_right (Nat.le_refl _)] at hc
      simp at hi hc
      subst hi hc
      exact hb
    · rw [List.getElem?_append_right (by omega)] at hi
      have : i - M.length ≠ 0 := by omega
      simp [this] at hi
end Go.Proofs.YtpdmocdfnakggaaDoor

namespace Go.Proofs.YtpdmocdfnakggaaDoor
open Go
set_option linter.unusedVariables false

theorem jA {α : Type _} {xs : List α} {i : Nat} (h : i < xs.toArray.size) : xs.toArray[i] = xs[i] := rfl
theorem jB {α : Type _} (a : α) (xs : List α) (i : Nat) (h : i + 1 < (a :: xs).length) : (a :: xs)[i + 1] = xs[i]'(Nat.lt_of_succ_lt_succ h) := rfl
theorem jC {α : Type _} (a : α) (xs : List α) (h : 0 < (a :: xs).length) : (a :: xs)[0] = a := rfl
theorem jD {α : Type _} (l : List α) (i : Nat) (a : α) : l.toArray.setIfInBounds i a = (l.set i a).toArray := List.setIfInBounds_toArray l i a
theorem jE {α : Type _} {x : α} {xs : List α} {i : Nat} {a : α} : (x :: xs).set (i + 1) a = x :: xs.set i a := rfl
theorem jF {α : Type _} {x : α} {xs : List α} {a : α} : (x :: xs).set 0 a = a :: xs := rfl

section
variable {P : Program} {ops : Array Oper} {Q : Exit → Act → World → Prop} {md : Region.Mode} {S : World → Prop}

/-- Number 'i' first: its three tests as one. -/
theorem tkH (i : Nat) (v : Value) {oi : Oper} {fuel : Nat} {listed : Array Bool} {a : Act} {w : World} (hi : ops[i]? = some oi)
    (hb : (Region.noSelect ops && Region.free md ops listed i && (Region.ready md ops listed).contains i) = true)
    (hQ : ∀ c a w, Q (.panic c) (a.put oi.dst v) w → Q (.panic c) a w) (hS : S w) (hy : YieldsIf P ops S oi v a)
    (h : wpAnyH P md ops Q S fuel (listed.setIfInBounds i true) (a.put oi.dst v) w) : wpAnyH P md ops Q S (fuel + 1) listed a w := by
  simp only [Bool.and_eq_true] at hb
  exact wpAnyH_take hi hb.1.1 hb.1.2 hb.2 hQ hy hS h

/-- One alone is ready. -/
theorem rdH (i : Nat) {o : Oper} {fuel : Nat} {listed : Array Bool} {a : Act} {w : World} (hr : Region.ready md ops listed = [i]) (ho : ops[i]? = some o)
    (h : ∀ K' : Act → World → Prop, Shut (∀ a w, S w → (S w → wpAnyH P md ops Q S fuel (listed.setIfInBounds i true) a w) → K' a w) → if Region.wanted o (yielded ops a.tmps) = true then Oper.wp P o a w K' Q else K' (a.put o.dst undef) w) :
    wpAnyH P md ops Q S (fuel + 1) listed a w :=
  wpAnyH_ready hr (by simp) (AllReadyH.cons ho h AllReadyH.nil)

end
end Go.Proofs.YtpdmocdfnakggaaDoor

set_option linter.unusedVariables false
set_option linter.unusedSimpArgs false
set_option maxRecDepth 100000
namespace Go.Proofs.YtpdmocdfnakggaaDoor
open Go.RowKit Go.Deep

theorem ZsN.mono {N N' : Nat → Prop} {w : World} {x : Value} {l : List Int} (h : ZsN N w x l) (hN : ∀ k, N k → N' k) : ZsN N' w x l := ⟨h.1, fun e k hk => hN k (h.2 e k hk)⟩
theorem ClsN.mono {N N' : Nat → Prop} {w : World} {x : Value} {l : List Col} (h : ClsN N w x l) (hN : ∀ k, N k → N' k) : ClsN N' w x l := ⟨h.1, fun e k hk => hN k (h.2 e k hk)⟩
theorem TabN.mono {N N' : Nat → Prop} {w : World} {cs : List Value} {t : Tab} (h : TabN N w cs t) (hN : ∀ k, N k → N' k) : TabN N' w cs t := by
  obtain ⟨x, y, h1, h2, h3, h4, h5⟩ := h
  exact ⟨x, y, h1, h2.mono hN, h3.mono hN, h4, h5⟩
theorem IdxN.mono {N N' : Nat → Prop} {w : World} {cs : List Value} {t : Idx} (h : IdxN N w cs t) (hN : ∀ k, N k → N' k) : IdxN N' w cs t := by
  obtain ⟨y, h1, h2, h3⟩ := h
  exact ⟨y, h1, h2.mono hN, h3⟩
theorem LstN.mono {α : Type} {R R' : World → List Value → α → Prop} {n : Nat} {N N' : Nat → Prop} {w : World} {x : Value} {l : List α} (h : LstN R n N w x l) (hN : ∀ k, N k → N' k) (hR : ∀ r a, R w r a → R' w r a) : LstN R' n N' w x l := by
  obtain ⟨M, h1, h2, h3, h4⟩ := h
  exact ⟨M, h1, h2, fun i r a p q => hR _ _ (h3 i r a p q), fun e k hk => hN k (h4 e k hk)⟩
theorem CatN.mono {N N' : Nat → Prop} {w : World} {cs : List Value} {C : Cat} (h : CatN N w cs C) (hN : ∀ k, N k → N' k) : CatN N' w cs C := by
  obtain ⟨x, y, h1, h2, h3, h4, h5⟩ := h
  exact ⟨x, y, h1, h2.mono hN (fun _ _ h => h.mono hN), h3.mono hN (fun _ _ h => h.mono hN), h4, h5⟩

/-- Not too much. -/
def Cat.S (C : Cat) : Prop := C.tabs.length ≤ 100 ∧ C.idxs.length ≤ 100 ∧ (∀ t ∈ C.tabs, t.cols.length ≤ 100 ∧ t.key.length ≤ 100) ∧ ∀ x ∈ C.idxs, x.cols.length ≤ 100

theorem OwnL.base {α : Type} {R : World → List Value → α → Prop} {n : Nat} {e : TypeId} {base base' : Nat} {w : World} {v : Value} {l : List α} (h : OwnL R n e base w v l) (hb : base' ≤ base) : OwnL R n e base' w v l := by
  obtain ⟨M, h1, h2, h3, h4⟩ := h
  refine ⟨M, h1, ⟨h2.1, ?_⟩, h3, h4⟩
  rcases h2.2 with hn | ⟨g, cap, cur, hv, hbg, rest⟩
  · exact .inl hn
  · exact .inr ⟨g, cap, cur, hv, Nat.le_trans hb hbg, rest⟩
end Go.Proofs.YtpdmocdfnakggaaDoor

set_option linter.unusedVariables false
set_option linter.unusedSimpArgs false
set_option maxRecDepth 100000
namespace Go.Proofs.YtpdmocdfnakggaaDoor
open Go.RowKit Go.Deep

theorem take_at {α : Type} {l : List α} {k : Nat} {a : α} (h : l[k]? = some a) : l.take (k + 1) = l.take k ++ [a] := by
  rw [List.take_add_one, h]; rfl

end Go.Proofs.YtpdmocdfnakggaaDoor

