import Derived.WalkKit
import Derived.OpenShut
import Derived.Test.YtddnleofflobhaaGreatDoorRows
import Derived.WalkSpells
import Derived.WalkLawsBesides
import Derived.Laws.AppendOwnNone
import Derived.BigQuiet
import Derived.Deep.QuietTactic
import Derived.Deep.MidRow
import Derived.Laws.MakeOwn
import Derived.Deep.CutBlock
import Derived.Deep.CutRange
import Derived.Sort.CutIn
import Derived.RangeFuncNested
import Derived.RangeFuncBound
import Derived.RangeFuncCalls
import Derived.RangeFuncLeaves
import Derived.RangeFuncBox
import Derived.Shelf.Abstract
import Derived.Shelf.RegionOpen
import Derived.OwnWalkIn
import Derived.TacticsInMore
import Derived.LoopNIn
import Derived.LoopIn
import Derived.OrdersIn
import Derived.LaidEql
import Derived.Stop.Asserts
import Derived.RowKitTokens
import Derived.Lib.Bytes
import Derived.Deep.RegionHeld3
import Derived.Deep.WholeRow
import Derived.BigRegion
import Derived.Great.BuildSlice
import Derived.Deep.AppendLies
import Derived.StillTailTactics
import Derived.Deep.RegionLaw
import Derived.Great.FillDense
import Derived.Laws.Tables
import Derived.LoopN
import Derived.Deep.OwnRows
import Derived.OwnWalk
import Derived.Deep.Slices
import Derived.Lib.AppendZeros
import Derived.Deep.LoopGhost
import Derived.Deep.RegionWith
import Derived.ArgAppend
import Derived.Lib.SliceRun
import Derived.Deep.RegionHeldLaw
import Derived.ProofKit
import Derived.Deep.Matrix
import Derived.Deep.Grids
import Derived.Test.YtddnleofflobhaaGreatDoorVG1
import Derived.Test.YtddnleofflobhaaGreatDoorVG2
import Derived.Test.YtddnleofflobhaaGreatDoorVG3
import Derived.Test.YtddnleofflobhaaGreatDoorVG4
import Derived.Test.YtddnleofflobhaaGreatDoorVG5
import Derived.Test.YtddnleofflobhaaGreatDoorVG6
import Derived.Test.YtddnleofflobhaaGreatDoorVG7
import Derived.Test.YtddnleofflobhaaGreatDoorVG8
import Derived.Test.YtddnleofflobhaaGreatDoorVG9
import Derived.Test.YtddnleofflobhaaGreatDoorVG10
import Derived.Test.YtddnleofflobhaaGreatDoorVG11
import Derived.Test.YtddnleofflobhaaGreatDoorVG12
import Derived.Test.YtddnleofflobhaaGreatDoorVG13
import Derived.Test.YtddnleofflobhaaGreatDoorVG14
import Derived.Test.YtddnleofflobhaaGreatDoorVG15
import Derived.Test.YtddnleofflobhaaGreatDoorVG16
import Derived.Test.YtddnleofflobhaaGreatDoorVG17
import Derived.Test.YtddnleofflobhaaGreatDoorVG18
import Derived.Test.YtddnleofflobhaaGreatDoorVG19
set_option linter.unusedVariables false
set_option linter.unusedSimpArgs false
set_option linter.unusedVariables false
set_option linter.unusedSimpArgs false
set_option maxRecDepth 100000
namespace Go.Proofs.YtddnleofflobhaaGreatDoor
open Go.RowKit Go.Deep

def lo0 : Lo := ⟨0, 0, 0, 0, ⟨none, 0, []⟩, none, 0, []⟩
theorem lo0_at (w : World) : LoAt w lo0 := ⟨Rd.nil w, ⟨Rws.nil 3 w, fun e h => (by cases h)⟩, by decide, by decide, by decide, by decide, by decide, by decide⟩
theorem lo0_off (X : Nat → Prop) : LoOff lo0 X := ⟨fun h => absurd rfl h, fun _ h => (by cases h), fun h => absurd rfl h⟩

section
variable {base : Nat} {w w' : World} {vb lb db sb n t q T m third used : Nat} {vw rv vw' rv' : Value} {R : List Rc} {l : Lo}
set_option maxHeartbeats 8000000 in
theorem vload0_any (h : Vt base w vb lb db sb n vw rv [] t q T m third 0 lo0) : Calls Tryz.prog 37 #[.pointer (some ⟨vb, 0, none⟩)] w (fun e w' => e = .returned .nilIface ∧ Vt base w' vb lb db sb n vw rv [] t q T m third 0 lo0 ∧ Keep (fun k => k = vb) w w') := by
  have HV := hid h
  have hlr := fun W a n c => run_len_slice (P := Tryz.prog) W 60 3 a n c Tryz.underlying60
  have c0 : w.cell? ⟨vb, 0, none⟩ = some (.pointer (some ⟨lb, 0, none⟩)) := by have h9 := h.v; simp [World.cell?, h9]
  have c8 : w.cell? ⟨vb, 8, none⟩ = some (.int .u64 0) := by have h9 := h.v; simp [World.cell?, h9]
  have f8 : w.frozen? ⟨vb, 8, none⟩ = false := by have h9 := h.v; simp [World.frozen?, h9]
  have CF := hid (first_live h.log.live)
  have hv3 := h.store 8 (.int .u64 0) 0 (set_at (k := 8) (.int .u64 0) h.v)
  have hk3 := Keep.set (X := fun j => j = vb) w ⟨vb, 8, none⟩ (.int .u64 0) rfl
  clear h
  go_enter Tryz.func37, Tryz.ntmps37
  go_upto_region 2 with (first | (go_at_call 49; refine CF.out.mono ?_; rintro en w2 ⟨rfl, hw2⟩; subst hw2))
  generalize w2.setCell ⟨vb, 8, none⟩ (.int .u64 0) = w3 at *
  have HV3 := hid hv3
  have HK3 := hid hk3
  have c0 : w3.cell? ⟨vb, 0, none⟩ = some (.pointer (some ⟨lb, 0, none⟩)) := by have h9 := HV3.out.v; simp [World.cell?, h9]
  have c8 : w3.cell? ⟨vb, 8, none⟩ = some (.int .u64 0) := by have h9 := HV3.out.v; simp [World.cell?, h9]
  clear hv3 hk3 f8
  go_upto_region 4 with fail
  have hb4 : Below w3.heap.size w3 (w3.alloc (.cells #[.int .i64 0, .int .i64 0, .slice none 0 0, .slice none 0 0] 97)) := (Below.refl _ _).alloc (Nat.le_refl _) _
  have h4 := heap_alloc_new w3 (.cells #[.int .i64 0, .int .i64 0, .slice none 0 0, .slice none 0 0] 97)
  generalize w3.alloc (.cells #[.int .i64 0, .int .i64 0, .slice none 0 0, .slice none 0 0] 97) = w4 at *
  have HB4 := hid hb4
  have H4 := hid h4
  have HV4 := hid (HV3.out.old hb4)
  have CR := hid (records_live HV4.out.log.live (by simp))
  have c0' : w4.cell? ⟨vb, 0, none⟩ = some (.pointer (some ⟨lb, 0, none⟩)) := by have h9 := HV4.out.v; simp [World.cell?, h9]
  clear hb4 h4 c0 c8
  go_wp2_with (first | (go_at_call 50; refine CR.out.mono ?_; rintro en w5 ⟨y, R', rfl, hR', hm, hb5⟩; have hn9 : R' = [] := List.map_eq_nil_iff.1 hm; subst hn9; have HB5 := hid hb5; have hy := own_form hR'.row; obtain ⟨yo, yc, rfl⟩ := hy; clear hR' hm hb5))
  have HV5 := hid (HV4.out.old HB5.out)
  have r1 : w5.cell? ⟨w3.heap.size, 1, none⟩ = some (.int .i64 0) := by have h9 := (HB5.out.block _ (lt_of_block H4.out)).trans H4.out; simp [World.cell?, h9]
  clear c0'
  go_loopw [3, 28] (fun kn i wr => kn = .bool true ∧ i = .int .i64 0 ∧ wr = w5) (fun _ _ _ => 0)
  case atStart => exact ⟨rfl, rfl, rfl⟩
  case round =>
    obtain ⟨rfl, rfl, rfl⟩ := hrel
    go_wp2_with fail
    go_ret
    exact ⟨rfl, HV5.out, (HK3.out.trans (Keep.of_below HB4.out)).trans (Keep.of_below HB5.out)⟩

theorem vfresh {t f T : Nat} (h : LiveD base lb db sb n vw rv [] t f 0 T w) : LiveC base lb db sb n vw rv [] t f 0 T 0 w := by
  obtain ⟨S, Q, L, h, hd, hT⟩ := h
  have hQ : Q.length = 0 := by have := h.ql; omega
  have hu : L.used = 0 := h.us
  have hs : L.h.su ≤ 0 := by
    rcases hd with ⟨e, -⟩ | hd
    · rw [e]; exact Nat.le_refl _
    · exact hd.su
  refine ⟨S, Q, L, 0, h, hd, hT, Nat.le_refl _, Nat.zero_le _, ⟨hs, ?_, fun i x hx => ?_⟩⟩
  · rw [hu, hQ]; rfl
  · have := (List.getElem?_eq_some_iff.1 hx).1
    omega

/-- What Open of a new disk comes to. -/
def VOpn (base db sb n : Nat) (vw : Value) (w : World) (en : Ending) (w' : World) : Prop :=
  ∃ vb lb, en = .returned (.tuple #[.pointer (some ⟨vb, 0, none⟩), .nilIface]) ∧ Vt base w' vb lb db sb n vw (.slice none 0 0) [] 0 0 0 0 ((n / 2 - 8) / 3) 0 lo0 ∧ w.heap.size ≤ vb ∧ Below w.heap.size w w'
set_option maxHeartbeats 8000000 in
theorem vopen0_any (hD : Dk base w db sb n vw (List.replicate n (List.replicate 64 0)) [] false 0) (hn : 16 ≤ n) : Calls Tryz.prog 15 #[.pointer (some ⟨db, 0, none⟩)] w (VOpn base db sb n vw w) := by
  have HD := hid hD
  have hn2 := hD.few.2.1
  have CO := hid (open_newD hD (by omega))
  obtain ⟨th, hth⟩ : ∃ th, th = (n / 2 - 8) / 3 := ⟨_, rfl⟩
  have HTH := hid hth
  have CT : Hid (∀ W, Calls Tryz.prog 35 #[.int .i64 (n : Int)] W (fun e w' => e = .returned (.int .i64 (th : Int)) ∧ w' = W)) := hid fun W => by rw [hth]; exact third_any n hn (by omega) W
  have CSz : Hid (∀ W, Below w.heap.size w W → Calls Tryz.prog 36 #[.pointer (some ⟨db, 0, none⟩)] W (fun e w' => e = .returned (.int .i64 (n : Int)) ∧ w' = W)) := hid fun W hW => size_any (hD.old hW)
  clear hD hth
  go_enter Tryz.func15, Tryz.ntmps15
  go_upto_region 5 with (first
    | (go_at_call 32; refine CO.out.mono ?_; rintro en w2 ⟨lb, rfl, hL, hlb, hb2⟩; have HL := hid hL; have HLB := hid hlb; have HB2 := hid hb2; have CS2 := hid (CSz.out _ hb2); clear hL hlb hb2)
    | (go_at_call 36; refine CS2.out.mono ?_; rintro en w3 ⟨rfl, hw3⟩; subst hw3)
    | (go_at_call 35; refine (CT.out _).mono ?_; rintro en w4 ⟨rfl, hw4⟩; subst hw4))
  have hb5 : Below w4.heap.size w4 (w4.alloc (.cells #[.pointer (some ⟨lb, 0, none⟩), .int .i64 (th : Int), .int .u64 0, .int .i64 0, .int .u64 0, .int .u64 0, .slice none 0 0, .slice none 0 0, .int .u64 0, .int .i64 0, .slice none 0 0, .bool false] 81)) := (Below.refl _ _).alloc (Nat.le_refl _) _
  have h5 := heap_alloc_new w4 (.cells #[.pointer (some ⟨lb, 0, none⟩), .int .i64 (th : Int), .int .u64 0, .int .i64 0, .int .u64 0, .int .u64 0, .slice none 0 0, .slice none 0 0, .int .u64 0, .int .i64 0, .slice none 0 0, .bool false] 81)
  generalize w4.alloc (.cells #[.pointer (some ⟨lb, 0, none⟩), .int .i64 (th : Int), .int .u64 0, .int .i64 0, .int .u64 0, .int .u64 0, .slice none 0 0, .slice none 0 0, .int .u64 0, .int .i64 0, .slice none 0 0, .bool false] 81) = w5 at *
  have HV : Hid (Vt base w5 w4.heap.size lb db sb n vw (.slice none 0 0) [] 0 0 0 0 th 0 lo0) := hid ⟨vfresh (HL.out.old hb5), h5, lo0_at _, fun e => by
    obtain ⟨S, Q, L, h9, -⟩ := HL.out
    have := h9.g.lt _ e
    omega, lo0_off _, lo0_off _, fun r hr => (by cases hr)⟩
  have CL := hid (vload0_any HV.out)
  have HB5 := hid (HB2.out.trans (hb5.mono HB2.out.size))
  clear hb5 h5
  go_wp2_with (first | (go_at_call 37; refine CL.out.mono ?_; rintro en w6 ⟨rfl, hV6, hK6⟩; have HV6 := hid hV6; have HK6 := hid hK6; clear hV6 hK6))
  go_ret2
  have hb9 := HB5.out
  have hvb : w.heap.size ≤ w4.heap.size := HB2.out.size
  exact ⟨_, lb, rfl, by rw [← HTH.out]; exact HV6.out, hvb, hb9.trans (HK6.out.below hb9.size (fun j e => by omega))⟩
end
end Go.Proofs.YtddnleofflobhaaGreatDoor

