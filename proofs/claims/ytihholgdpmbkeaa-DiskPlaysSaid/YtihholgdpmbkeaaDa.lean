/-
  DISK: armoirelaw05.awake.
-/
import Derived.Test.YtihholgdpmbkeaaDc
set_option linter.unusedVariables false
set_option maxRecDepth 100000
namespace Go.Proofs.Ytihholgdpmbkeaa
open Go.RowKit

def z64 : List UInt8 := List.replicate 64 0
def s3 : List UInt8 := (secOf [7]).take 3 ++ z64.drop 3

theorem awake_sec : (layM (tbM ((List.replicate 2 z64).set 0 (secOf [7])) ([⟨0, z64, secOf [7]⟩] : List Wr).reverse) [⟨0, z64, secOf [7]⟩] [3])[0]? = some s3 := by kernel_rfl
theorem s3_at2 : s3[2]? = some 7 := by kernel_rfl
theorem s3_at3 : s3[3]? = some 0 := by kernel_rfl
theorem s3_len : s3.length = 64 := by kernel_rfl
theorem z_at : (List.replicate 2 z64)[0]? = some z64 := by kernel_rfl

set_option maxHeartbeats 8000000 in
theorem awake_any (w : World) : Calls Try.prog 8 #[] w (AnsP w (.bool true)) := by
  have CN : Hid (Calls Try.prog 7 #[.int .i64 2] w (NewA 2 w)) := new_any 2 (by omega) (by omega) w
  go_enter Try.func8, Try.ntmps8
  go_wp2_with (first | (go_at_call 7; refine CN.out.mono ?_))
  rintro e w1 ⟨db, sb, rfl, hD1, hb1⟩
  have hDz : Dk w.heap.size w1 db sb 2 (.slice none 0 0) (List.replicate 2 z64) [] false 0 := hD1
  have HD1 := hid hDz
  have HB1 := hid hb1
  have hb2 : Below w1.heap.size w1 (w1.alloc (.cells #[.int .u8 7] 5)) := (Below.refl _ _).alloc (Nat.le_refl _) _
  have hr2 : Rd (w1.alloc (.cells #[.int .u8 7] 5)) (.slice (some ⟨w1.heap.size, 0, none⟩) 1 1) [7] := Rd.own (base := w1.heap.size) (e := 5) (l := [7]) ⟨rfl, .inr ⟨w1.heap.size, 1, _, rfl, Nat.le_refl _, heap_alloc_new _ _, Nat.le_refl _, by decide, rfl, rfl⟩⟩
  have CS : Hid (Calls Try.prog 25 #[.slice (some ⟨w1.heap.size, 0, none⟩) 1 1] (w1.alloc (.cells #[.int .u8 7] 5)) (Gives 5 (w1.alloc (.cells #[.int .u8 7] 5)) (secOf [7]))) := sector_any _ _ [7] hr2
  have HB2 := hid hb2
  clear hD1 hDz hb1 hb2 hr2
  go_wp2_with (first | (go_at_call 25; refine CS.out.mono ?_))
  rintro e w3 ⟨x, rfl, hx, hb3⟩
  obtain ⟨xo, xc, rfl⟩ := own_form hx
  have HD3 : Hid (Dk w.heap.size w3 db sb 2 (.slice none 0 0) (List.replicate 2 z64) [] false 0) := (HD1.out.old HB2.out).old hb3
  have hxr := Rd.own hx
  rw [sec_len] at hxr ⊢
  have CW : Hid (Calls Try.prog 24 #[.pointer (some ⟨db, 0, none⟩), .int .i64 0, .slice xo 64 xc] w3 (fun e w' => e = .returned (.int .i64 0) ∧ ∃ vw', Dk w.heap.size w' db sb 2 vw' ((List.replicate 2 z64).set 0 (secOf [7])) ([] ++ [⟨0, z64, secOf [7]⟩]) false 0 ∧ Below w.heap.size w3 w')) :=
    write_any HD3.out _ (secOf [7]) 0 z64 z_at (by decide) hxr (sec_len _) (by simp)
  have HB3 : Hid (Below w.heap.size w w3) := (HB1.out.trans (HB2.out.mono HB1.out.size)).trans (hb3.mono (Nat.le_trans HB1.out.size HB2.out.size))
  clear hx hxr hb3
  go_wp2_with (first | (go_at_call 24; refine CW.out.mono ?_))
  rintro e w4 ⟨rfl, vw4, hD4, hb4⟩
  have hb5 : Below w4.heap.size w4 (w4.alloc (.cells #[.int .i64 3] 3)) := (Below.refl _ _).alloc (Nat.le_refl _) _
  have hr5 : Rws 1 (w4.alloc (.cells #[.int .i64 3] 3)) (.slice (some ⟨w4.heap.size, 0, none⟩) 1 1) (([3] : List Int).map fun z => [.int .i64 z]) :=
    Rws.own (base := w4.heap.size) (e := 3) ⟨rfl, .inr ⟨w4.heap.size, 1, _, rfl, Nat.le_refl _, heap_alloc_new _ _, Nat.le_refl _, by decide, rfl, rfl⟩⟩ (fun r hr => by
      obtain rfl : r = [.int .i64 3] := by simpa using hr
      exact ⟨rfl, fun u hu => by obtain rfl : u = .int .i64 3 := by simpa using hu
                                 rfl⟩)
  have HB4 : Hid (Below w.heap.size w w4) := HB3.out.trans hb4
  have CC := crash_any (hD4.old hb5) _ [3] hr5 (by simp)
  obtain ⟨S6, hS6⟩ : ∃ S6, S6 = layM (tbM ((List.replicate 2 z64).set 0 (secOf [7])) ([] ++ [⟨0, z64, secOf [7]⟩] : List Wr).reverse) ([] ++ [⟨0, z64, secOf [7]⟩]) [3] := ⟨_, rfl⟩
  rw [← hS6] at CC
  have h60 : S6[0]? = some s3 := by rw [hS6]; exact awake_sec
  have HCC := hid CC
  have HB5 := hid hb5
  have H60 := hid h60
  clear CC hS6 h60 hD4 hb4 hb5 hr5
  go_wp2_with (first | (go_at_call 19; refine HCC.out.mono ?_))
  rintro e w6 ⟨rfl, hD6, hb6⟩
  have CST := hid (start_down hD6)
  have HB6 : Hid (Below w.heap.size w w6) := (HB4.out.trans (HB5.out.mono HB4.out.size)).trans hb6
  clear hD6 hb6
  go_wp2_with (first | (go_at_call 22; refine CST.out.mono ?_))
  rintro e w7 ⟨rfl, hD7, hb7⟩
  have CR : Hid (Calls Try.prog 10 #[.pointer (some ⟨db, 0, none⟩), .int .i64 0] w7 (ReadA w7 s3)) := read_any hD7 0 s3 H60.out (by decide)
  have HB7 : Hid (Below w.heap.size w w7) := HB6.out.trans hb7
  clear hD7 hb7
  go_wp2_with (first | (go_at_call 10; refine CR.out.mono ?_))
  rintro e w8 ⟨y, rfl, hy, hb8⟩
  obtain ⟨yo, yc, rfl⟩ := own_form hy
  have hyr := Rd.own hy
  rw [s3_len] at hyr ⊢
  obtain ⟨yb, yoff, hyo, q2⟩ := rd_get hyr s3_at2
  subst hyo
  obtain ⟨yb2, yoff2, hyo2, q3⟩ := rd_get hyr s3_at3
  simp only [Option.some.injEq, Addr.mk.injEq, and_true] at hyo2
  obtain ⟨rfl, rfl⟩ := hyo2
  have hl := fun V => run_len_slice (P := Try.prog) V 30 3 (some ⟨yb, yoff, none⟩) 64 yc Try.underlying30
  have p2 : w8.cell? ⟨yb, yoff + 2, none⟩ = some (.int .u8 7) := q2
  have p3 : w8.cell? ⟨yb, yoff + 3, none⟩ = some (.int .u8 0) := q3
  have HB8 : Hid (Below w.heap.size w w8) := HB7.out.trans (hb8.mono HB7.out.size)
  clear q2 q3 hyr hy hb8
  go_wp2_with fail
  go_ret
  exact ⟨rfl, HB8.out⟩
end Go.Proofs.Ytihholgdpmbkeaa
