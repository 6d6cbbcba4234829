import Derived.LaidEql
import Derived.Stop.Asserts
import Derived.RowKitTokens
import Derived.Test.YtddnleofflobhaaGreatDoorRows
import Derived.WalkKit
import Derived.WalkSpells
import Derived.WalkLawsBesides
import Derived.Laws.AppendOwnNone
import Derived.BigQuiet
import Derived.Deep.QuietTactic
import Derived.Deep.MidRow
import Derived.Laws.MakeOwn
import Derived.Deep.Slices
import Derived.Deep.AppendLies
import Derived.Deep.CutBlock
import Derived.Deep.CutRange
import Derived.Sort.CutIn
import Derived.RangeFuncNested
import Derived.RangeFuncBound
import Derived.RangeFuncCalls
import Derived.RangeFuncLeaves
import Derived.RangeFuncBox
import Derived.Shelf.Abstract
import Derived.Shelf.RegionOpen
import Derived.OwnWalkIn
import Derived.TacticsInMore
import Derived.LoopNIn
import Derived.LoopIn
import Derived.OrdersIn
import Derived.Lib.Bytes
import Derived.Deep.RegionHeld3
import Derived.Deep.WholeRow
import Derived.BigRegion
import Derived.Great.BuildSlice
import Derived.StillTailTactics
import Derived.Deep.RegionLaw
import Derived.Great.FillDense
import Derived.Laws.Tables
import Derived.LoopN
import Derived.Deep.OwnRows
import Derived.OwnWalk
import Derived.OpenShut
import Derived.Deep.RegionWith
import Derived.Test.YtddnleofflobhaaGreatDoorVG1
import Derived.Test.YtddnleofflobhaaGreatDoorVG2
import Derived.Test.YtddnleofflobhaaGreatDoorVG3
import Derived.Test.YtddnleofflobhaaGreatDoorVG4
import Derived.Test.YtddnleofflobhaaGreatDoorVG5
import Derived.Test.YtddnleofflobhaaGreatDoorVG6
set_option linter.unusedVariables false
set_option linter.unusedSimpArgs false
set_option linter.unusedVariables false
namespace Go.Proofs.YtddnleofflobhaaGreatDoor
open Go.RowKit Go.Extern.Stop Go.Stop Go.Extern

def compEntry : Array Value → Sem Value := ReflectliteType.method fun t => do Rtype.noPackHeld "Comparable" t; pure (.bool (← typeInfo t).comparable)
theorem methodComparable (h : Value) (w : World) : (Go.method 332 144 (.agg #[h]) "Comparable").run Tryz.prog w = .ok (176, .agg #[h]) w := by kernel_rfl
theorem typeOfC (v : Value) (w : World) : (ReflectliteType.typeOf #[.iface 38 v]).run Tryz.prog w = .ok (.iface 144 (.agg #[.pointer (some ⟨4, 38, none⟩)])) w := by kernel_rfl
theorem noIsC (v : Value) (xT : TypeId) (w : World) : (Instr.typeAssert (.iface 38 v) xT 165 true).run Tryz.prog w = .ok (.tuple #[.nilIface, .bool false]) w := run_typeAssert_lacksB Tryz.underlying165 (by kernel_rfl) (by kernel_rfl) v xT w
theorem noUnC (v : Value) (xT : TypeId) (w : World) : (Instr.typeAssert (.iface 38 v) xT 151 true).run Tryz.prog w = .ok (.tuple #[.nilIface, .bool false]) w := run_typeAssert_lacksB Tryz.underlying151 (by kernel_rfl) (by kernel_rfl) v xT w
theorem noUsC (v : Value) (xT : TypeId) (w : World) : (Instr.typeAssert (.iface 38 v) xT 152 true).run Tryz.prog w = .ok (.tuple #[.nilIface, .bool false]) w := run_typeAssert_lacksB Tryz.underlying152 (by kernel_rfl) (by kernel_rfl) v xT w
theorem compC' (w : World) : (compEntry #[.agg #[.pointer (some ⟨4, 38, none⟩)]]).run Tryz.prog w = .ok (.bool true) w := by kernel_rfl
theorem run_equalIn_ints {P : Program} (w : World) (d : Nat) {ti tn : TypeId} {ms : Array (String × TypeId)} {i : TypeInfo} {k : IntKind} (a b : Int)
    (hi : P.underlying ti = some (.interface ms)) (hn : P.underlying tn = some (.int k)) (hinfo : P.info? tn = some i) (hcomp : i.comparable = true) :
    (Op.equalIn (d + 2) ti (.iface tn (.int k a)) (.iface tn (.int k b))).run P w = .ok (a == b) w := by
  simp [Op.equalIn, run_underlying hi, run_underlying hn, typeInfo, hinfo, hcomp]
/-- '==' between two errors of one integer type. -/
theorem run_eql_ints {P : Program} {ti tn : TypeId} {ms : Array (String × TypeId)} {i : TypeInfo} {k : IntKind} (a b : Int)
    (hi : P.underlying ti = some (.interface ms)) (hn : P.underlying tn = some (.int k)) (hinfo : P.info? tn = some i) (hcomp : i.comparable = true) (w : World) :
    (binOp .eql ti (.iface tn (.int k a)) (.iface tn (.int k b))).run P w = .ok (.bool (a == b)) w := by
  simp only [binOp]
  simp [Op.equal, Op.maxDepth, run_equalIn_ints w 9998 a b hi hn hinfo hcomp]
theorem compErrno : (Tryz.prog.info? 38).map (·.comparable) = some true := by kernel_rfl
theorem eqlErrno (a b : Int) (w : World) : (binOp .eql 43 (.iface 38 (.int .i64 a)) (.iface 38 (.int .i64 b))).run Tryz.prog w = .ok (.bool (a == b)) w := by
  obtain ⟨i, hi, hcmp⟩ := Option.map_eq_some_iff.1 compErrno
  exact run_eql_ints a b Tryz.underlying43 Tryz.underlying38 hi hcmp w

set_option maxHeartbeats 1000000 in
/-- Two codes. -/
theorem is_codes (a b : Int) (w : World) : Calls Tryz.prog 44 #[.iface 38 (.int .i64 a), .iface 38 (.int .i64 b)] w fun ev w' => ev = .returned (.bool (a == b)) ∧ w' = w := by
  have h10 := @run_callFunc_extern Tryz.prog 72 _ ReflectliteType.typeOf Tryz.func72 (by kernel_rfl) (by kernel_rfl) (by kernel_rfl) (by kernel_rfl)
  have h64 := @run_callFunc_extern Tryz.prog 176 _ compEntry Tryz.func176 (by kernel_rfl) (by kernel_rfl) (by kernel_rfl) (by kernel_rfl)
  have tC := typeOfC
  have mC := methodComparable
  have cC := compC'
  have nI := noIsC
  have nU := noUnC
  have nS := noUsC
  have eq := eqlErrno a b
  by_cases hab : a = b
  · have hd : (a == b) = true := by simp [hab]
    rw [hd] at eq
    rw [hd]
    clear hab
    go_enter Tryz.func44, Tryz.ntmps44
    go_wp2
    refine wp_loop_rounds 1 ?_
    rw [rounds_succ]
    go_wp2
    go_ret
    exact ⟨rfl, rfl⟩
  · have hd : (a == b) = false := by simp [hab]
    rw [hd] at eq
    rw [hd]
    clear hab
    go_enter Tryz.func44, Tryz.ntmps44
    go_wp2
    refine wp_loop_rounds 1 ?_
    rw [rounds_succ]
    go_wp2
    go_ret
    exact ⟨rfl, rfl⟩

theorem down_any {base : Nat} {w : World} {db sb n : Nat} {vw : Value} {S : List (List UInt8)} {Q : List Wr} {dn : Bool} {lf : Nat} (h : Dk base w db sb n vw S Q dn lf) :
    Calls Tryz.prog 24 #[.pointer (some ⟨db, 0, none⟩)] w (fun e w' => e = .returned (.bool dn) ∧ w' = w) := by
  have CA := able_any h
  cases dn
  · have CI : Hid (Calls Tryz.prog 44 #[.iface 38 (.int .i64 0), .iface 38 (.int .i64 3)] w (fun e w' => e = .returned (.bool false) ∧ w' = w)) := is_codes 0 3 w
    have CA2 : Hid (Calls Tryz.prog 45 #[.pointer (some ⟨db, 0, none⟩)] w (fun e w' => e = .returned (.int .i64 0) ∧ w' = w)) := CA
    clear CA h
    go_enter Tryz.func24, Tryz.ntmps24
    go_wp2_with (first
      | (go_at_call 45; refine CA2.out.mono ?_; rintro e w2 ⟨rfl, rfl⟩)
      | (go_at_call 44; refine CI.out.mono ?_; rintro e w3 ⟨rfl, rfl⟩))
    go_ret
    exact ⟨rfl, rfl⟩
  · have CI : Hid (Calls Tryz.prog 44 #[.iface 38 (.int .i64 3), .iface 38 (.int .i64 3)] w (fun e w' => e = .returned (.bool true) ∧ w' = w)) := is_codes 3 3 w
    have CA2 : Hid (Calls Tryz.prog 45 #[.pointer (some ⟨db, 0, none⟩)] w (fun e w' => e = .returned (.int .i64 3) ∧ w' = w)) := CA
    clear CA h
    go_enter Tryz.func24, Tryz.ntmps24
    go_wp2_with (first
      | (go_at_call 45; refine CA2.out.mono ?_; rintro e w2 ⟨rfl, rfl⟩)
      | (go_at_call 44; refine CI.out.mono ?_; rintro e w3 ⟨rfl, rfl⟩))
    go_ret
    exact ⟨rfl, rfl⟩
end Go.Proofs.YtddnleofflobhaaGreatDoor

set_option linter.unusedVariables false
set_option maxRecDepth 100000
namespace Go.Proofs.YtddnleofflobhaaGreatDoor
open Go.RowKit

section
variable {base : Nat} {w : World} {db sb n : Nat} {vw : Value} {S : List (List UInt8)} {Q : List Wr} {dn : Bool} {lf : Nat}

theorem size_any (h : Dk base w db sb n vw S Q dn lf) : Calls Tryz.prog 36 #[.pointer (some ⟨db, 0, none⟩)] w (fun e w' => e = .returned (.int .i64 (n : Int)) ∧ w' = w) := by
  obtain ⟨c0, c1, c2, c3, f0, f1, f2, f3⟩ := four_cells h.hd
  have hlen := fun W => run_len_slice (P := Tryz.prog) W 69 3 (some ⟨sb, 0, none⟩) n S.length Tryz.underlying69
  clear h
  go_enter Tryz.func36, Tryz.ntmps36
  go_wp2_with fail
  go_ret
  exact ⟨rfl, rfl⟩
end
end Go.Proofs.YtddnleofflobhaaGreatDoor

set_option linter.unusedVariables false
set_option maxRecDepth 100000
namespace Go.Proofs.YtddnleofflobhaaGreatDoor
open Go.RowKit

/-- A log's own state. -/
structure Ls where
  h : Hd
  used : Nat
  ours : Bool
  waits : Nat
  down : Bool

/-- A log in memory. -/
def Lk (w : World) (lb db : Nat) (rv : Value) (L : Ls) : Prop :=
  w.heap[lb]? = some (.cells #[.pointer (some ⟨db, 0, none⟩), .int .u64 (L.h.tn : Int), .int .u64 (L.h.fi : Int), .int .i64 (L.h.fr : Int), .int .i64 (L.h.su : Int), rv, .int .i64 (L.used : Int), .bool L.ours, .int .i64 (L.waits : Int), .bool L.down] 91 (0, 0))

theorem Lk.cells {w : World} {lb db : Nat} {rv : Value} {L : Ls} (h : Lk w lb db rv L) :
    w.cell? ⟨lb, 0, none⟩ = some (.pointer (some ⟨db, 0, none⟩)) ∧ w.cell? ⟨lb, 1, none⟩ = some (.int .u64 (L.h.tn : Int)) ∧ w.cell? ⟨lb, 2, none⟩ = some (.int .u64 (L.h.fi : Int)) ∧ w.cell? ⟨lb, 3, none⟩ = some (.int .i64 (L.h.fr : Int)) ∧ w.cell? ⟨lb, 4, none⟩ = some (.int .i64 (L.h.su : Int)) ∧
    w.cell? ⟨lb, 5, none⟩ = some rv ∧ w.cell? ⟨lb, 6, none⟩ = some (.int .i64 (L.used : Int)) ∧ w.cell? ⟨lb, 7, none⟩ = some (.bool L.ours) ∧ w.cell? ⟨lb, 8, none⟩ = some (.int .i64 (L.waits : Int)) ∧ w.cell? ⟨lb, 9, none⟩ = some (.bool L.down) := by
  unfold Lk at h
  simp [World.cell?, h]
theorem Lk.soft {w : World} {lb db : Nat} {rv : Value} {L : Ls} (h : Lk w lb db rv L) (o : Nat) : w.frozen? ⟨lb, o, none⟩ = false := by
  unfold Lk at h
  simp [World.frozen?, h]
theorem Lk.lt {w : World} {lb db : Nat} {rv : Value} {L : Ls} (h : Lk w lb db rv L) : lb < w.heap.size := lt_of_block h
theorem Lk.old {w w' : World} {lb db : Nat} {rv : Value} {L : Ls} (h : Lk w lb db rv L) (hb : Below w.heap.size w w') : Lk w' lb db rv L := (hb.block _ h.lt).trans h
theorem Lk.kept {w w' : World} {lb db : Nat} {rv : Value} {L : Ls} {X : Nat → Prop} (h : Lk w lb db rv L) (hk : Keep X w w') (hx : ¬ X lb) : Lk w' lb db rv L := (hk.block _ h.lt hx).trans h
theorem Lk.setWaits {w : World} {lb db : Nat} {rv : Value} {L : Ls} (h : Lk w lb db rv L) (m : Nat) : Lk (w.setCell ⟨lb, 8, none⟩ (.int .i64 (m : Int))) lb db rv { L with waits := m } := set_at (k := 8) (.int .i64 (m : Int)) h

section
variable {base : Nat} {w : World} {lb db sb n : Nat} {vw rv : Value} {S : List (List UInt8)} {Q : List Wr} {dn : Bool} {lf : Nat} {L : Ls}

theorem none_any (h : Lk w lb db rv L) : Calls Tryz.prog 113 #[.pointer (some ⟨lb, 0, none⟩)] w (fun e w' => e = .returned (.bool false) ∧ w' = w) := by
  obtain ⟨c0, -⟩ := h.cells
  clear h
  go_enter Tryz.func113, Tryz.ntmps113
  go_wp2_with fail
  go_ret
  exact ⟨rfl, rfl⟩
theorem first_any (h : Lk w lb db rv L) : Calls Tryz.prog 49 #[.pointer (some ⟨lb, 0, none⟩)] w (fun e w' => e = .returned (.int .u64 (L.h.fi : Int)) ∧ w' = w) := by
  obtain ⟨c0, c1, c2, -⟩ := h.cells
  clear h
  go_enter Tryz.func49, Tryz.ntmps49
  go_wp2_with fail
  go_ret
  exact ⟨rfl, rfl⟩
theorem next_any (h : Lk w lb db rv L) (m : Nat) (hr : ∃ ao c, rv = .slice ao m c) (hm : L.h.fi + m < 18446744073709551616) : Calls Tryz.prog 98 #[.pointer (some ⟨lb, 0, none⟩)] w (Draws w (.int .u64 ((L.h.fi + m : Nat) : Int))) := by
  obtain ⟨c0, c1, c2, c3, c4, c5, -⟩ := h.cells
  obtain ⟨ao, c, rfl⟩ := hr
  have hlen := fun W => run_len_slice (P := Tryz.prog) W 60 3 ao m c Tryz.underlying60
  have h1 : IntKind.u64.wrap (m : Int) = (m : Int) := by rw [wrap_u64]; omega
  have h2 : IntKind.u64.wrap ((L.h.fi : Int) + (m : Int)) = ((L.h.fi + m : Nat) : Int) := by rw [wrap_u64]; omega
  clear h
  go_enter Tryz.func98, Tryz.ntmps98
  go_wp2_with fail
  go_quiet (fail)
  go_wp2_with fail
  go_ret
  exact ⟨rfl, _, rfl⟩

theorem ring_any (h : Lk w lb db rv L) (hD : Dk base w db sb n vw S Q dn lf) : Calls Tryz.prog 117 #[.pointer (some ⟨lb, 0, none⟩)] w (fun e w' => e = .returned (.int .i64 ((n - 2 : Nat) : Int)) ∧ w' = w) := by
  obtain ⟨c0, -⟩ := h.cells
  have CS := hid (size_any hD)
  have hn := hD.few.2.1
  clear h hD
  have hor : (n < 2 ∧ n - 2 = 0) ∨ 2 ≤ n := by omega
  rcases hor with ⟨h2, h3⟩ | h2
  · have hw : IntKind.i64.wrap ((n : Int) - 2) = (n : Int) - 2 := by rw [IntKind.wrap_i64]; omega
    have hm : max ((n : Int) - 2) 0 = 0 := by omega
    have hm2 : ¬ (0 ≤ (n : Int) - 2) := by omega
    have hm3 : (n : Int) - 2 < 0 := by omega
    rw [h3]
    go_enter Tryz.func117, Tryz.ntmps117
    go_wp2_with (first | (go_at_call 36; refine CS.out.mono ?_; rintro e w2 ⟨rfl, rfl⟩))
    all_goals go_ret
    all_goals first | exact ⟨rfl, rfl⟩ | (refine ⟨?_, rfl⟩; congr 2; omega)
  · obtain ⟨m, rfl⟩ : ∃ m, n = m + 2 := ⟨n - 2, by omega⟩
    have hw : IntKind.i64.wrap (((m + 2 : Nat) : Int) - 2) = (m : Int) := by rw [IntKind.wrap_i64]; omega
    have hm : max (m : Int) 0 = (m : Int) := by omega
    have hm2 : ¬ ((m : Int) < 0) := by omega
    rw [show m + 2 - 2 = m from rfl]
    go_enter Tryz.func117, Tryz.ntmps117
    go_wp2_with (first | (go_at_call 36; refine CS.out.mono ?_; rintro e w2 ⟨rfl, rfl⟩))
    all_goals go_ret
    all_goals first | exact ⟨rfl, rfl⟩ | (refine ⟨?_, rfl⟩; congr 2; omega)

theorem ringN (h : Lk w lb db rv L) (hD : Dk base w db sb n vw S Q dn lf) (a : Nat) : Calls Tryz.prog 117 #[.pointer (some ⟨lb, 0, none⟩)] (w.drewN a) (fun e w' => e = .returned (.int .i64 ((n - 2 : Nat) : Int)) ∧ ∃ m, w' = w.drewN m) :=
  (ring_any (w := w.drewN a) (h.old ⟨rfl, rfl, rfl, Nat.le_refl _, fun _ _ => rfl⟩) (hD.old ⟨rfl, rfl, rfl, Nat.le_refl _, fun _ _ => rfl⟩)).mono fun _ _ h => ⟨h.1, a, h.2⟩

/-- Where the i-th sector from the head's place on lies. -/
def plc (n : Nat) (h : Hd) (i : Nat) : Nat := 2 + (h.fr + i) % (n - 2)
theorem place_any (h : Lk w lb db rv L) (hD : Dk base w db sb n vw S Q dn lf) (i : Nat) (hn : 3 ≤ n) (hf : L.h.fr ≤ 65536) (hi : i ≤ 131072) : Calls Tryz.prog 123 #[.pointer (some ⟨lb, 0, none⟩), .int .i64 (i : Int)] w (Draws w (.int .i64 (plc n L.h i : Int))) := by
  obtain ⟨c0, c1, c2, c3, -⟩ := h.cells
  have CR := ringN h hD
  have hn2 := hD.few.2.1
  obtain ⟨m, rfl⟩ : ∃ m, n = m + 2 := ⟨n - 2, by omega⟩
  rw [show m + 2 - 2 = m from rfl] at CR
  have h1 : IntKind.i64.wrap ((L.h.fr : Int) + (i : Int)) = ((L.h.fr + i : Nat) : Int) := by rw [IntKind.wrap_i64]; omega
  have h2 : (((L.h.fr + i : Nat) : Int)).tmod (m : Int) = (((L.h.fr + i) % m : Nat) : Int) := rfl
  have h2' : ((L.h.fr : Int) + (i : Int)).tmod (m : Int) = (((L.h.fr + i) % m : Nat) : Int) := h2
  have hlt : (L.h.fr + i) % m < m := Nat.mod_lt _ (by omega)
  have h3 : IntKind.i64.wrap (((L.h.fr + i) % m : Nat) : Int) = (((L.h.fr + i) % m : Nat) : Int) := by rw [IntKind.wrap_i64]; omega
  have h4 : Hid (wrap64 ((2 : Int) + ((L.h.fr : Int) + (i : Int)) % (m : Int)) = ((plc (m + 2) L.h i : Nat) : Int)) := by
    show _ = _
    have e1 : ((L.h.fr : Int) + (i : Int)) % (m : Int) = (((L.h.fr + i) % m : Nat) : Int) := by rw [Int.natCast_emod, Int.natCast_add]
    rw [e1]
    unfold plc
    rw [show m + 2 - 2 = m from rfl]
    generalize (L.h.fr + i) % m = q at *
    unfold wrap64
    omega
  have hm0 : ¬ ((m : Int) = 0) := by omega
  have hm1 : (0 : Int) < (m : Int) := by omega
  clear h hD hn hn2
  go_enter Tryz.func123, Tryz.ntmps123
  go_wp2_with fail
  go_quiet ((go_at_call 117; exact CR _))
  go_wp2_with fail
  go_ret
  exact ⟨congrArg (fun z => Ending.returned (Value.int .i64 z)) h4.out, _, rfl⟩

/-- The number at the end of the i-th sector from the head's place on. -/
def nmb (n : Nat) (h : Hd) (i : Nat) : Nat := h.tn * (n - 2) + (i - h.su)
theorem number_any (h : Lk w lb db rv L) (hD : Dk base w db sb n vw S Q dn lf) (i : Nat) (hs : L.h.su ≤ i) (hi : i ≤ 131072) (ht : nmb n L.h i < 18446744073709551616) : Calls Tryz.prog 124 #[.pointer (some ⟨lb, 0, none⟩), .int .i64 (i : Int)] w (Draws w (.int .u64 (nmb n L.h i : Int))) := by
  obtain ⟨c0, c1, c2, c3, c4, -⟩ := h.cells
  have CR := ringN h hD
  have hn2 := hD.few.2.1
  obtain ⟨m, hm⟩ : ∃ m, m = n - 2 := ⟨_, rfl⟩
  have hmn : m ≤ 65536 := by omega
  obtain ⟨j, rfl⟩ : ∃ j, i = L.h.su + j := ⟨i - L.h.su, by omega⟩
  have hnb : nmb n L.h (L.h.su + j) = L.h.tn * m + j := by unfold nmb; rw [← hm]; congr 1; omega
  rw [hnb] at ht ⊢
  rw [← hm] at CR
  have h1 : IntKind.u64.wrap (m : Int) = (m : Int) := by rw [wrap_u64]; omega
  have h2 : IntKind.u64.wrap ((L.h.tn : Int) * (m : Int)) = ((L.h.tn * m : Nat) : Int) := by
    rw [wrap_u64, ← Int.natCast_mul]; omega
  have h3 : IntKind.i64.wrap (((L.h.su + j : Nat) : Int) - (L.h.su : Int)) = (j : Int) := by rw [IntKind.wrap_i64]; omega
  have h4 : IntKind.u64.wrap (j : Int) = (j : Int) := by rw [wrap_u64]; omega
  have h5 : IntKind.u64.wrap (((L.h.tn * m : Nat) : Int) + (j : Int)) = ((L.h.tn * m + j : Nat) : Int) := by rw [wrap_u64]; omega
  have h6 : Hid (IntKind.u64.wrap ((L.h.tn : Int) * (m : Int) + IntKind.u64.wrap (wrap64 ((L.h.su : Int) + (j : Int) - (L.h.su : Int)))) = ((L.h.tn * m + j : Nat) : Int)) := by
    show _ = _
    have e1 : wrap64 ((L.h.su : Int) + (j : Int) - (L.h.su : Int)) = (j : Int) := by unfold wrap64; omega
    rw [e1, h4, ← Int.natCast_mul, h5]
  clear h hD hs hi hnb hn2 ht hm
  go_enter Tryz.func124, Tryz.ntmps124
  go_wp2_with fail
  go_quiet ((go_at_call 117; exact CR _))
  go_wp2_with fail
  go_ret
  exact ⟨congrArg (fun z => Ending.returned (Value.int .u64 z)) h6.out, _, rfl⟩

theorem new_ok (x : ByteArray) (w : World) : Calls Tryz.prog 34 #[.int .i64 0, .string x] w (fun e w' => e = .returned .nilIface ∧ w' = w) := by
  go_enter Tryz.func34, Tryz.ntmps34
  go_wp2_with fail
  go_ret
  exact ⟨rfl, rfl⟩

/-- What read gives. -/
def LReadA (s : List UInt8) (w : World) (e : Ending) (w' : World) : Prop := ∃ x, e = .returned (.tuple #[x, .nilIface]) ∧ w'.ownsRow w.heap.size 5 1 x s.length (s.map bv) ∧ Below w.heap.size w w'
theorem lread_ok (h : Lk w lb db rv L) (hD : Dk base w db sb n vw S Q false lf) (k : Nat) (s : List UInt8) (hk : S[k]? = some s) (hkn : k < n) : Calls Tryz.prog 105 #[.pointer (some ⟨lb, 0, none⟩), .int .i64 (k : Int)] w (LReadA s w) := by
  obtain ⟨c0, -⟩ := h.cells
  have CR := hid (read_any hD k s hk hkn)
  clear h hD hk
  go_enter Tryz.func105, Tryz.ntmps105
  go_wp2_with (first | (go_at_call 121; refine CR.out.mono ?_))
  rintro e w2 ⟨x, rfl, hx, hb⟩
  obtain ⟨xo, xc, rfl⟩ := own_form hx
  have HX := hid hx
  have HB := hid hb
  clear hx hb
  go_wp2_with (first | (go_at_call 34; refine (new_ok _ _).mono ?_; rintro e w3 ⟨rfl, rfl⟩))
  go_ret2
  exact ⟨_, rfl, HX.out, HB.out⟩

/-- A disk's and a log's blocks. -/
def DL (db sb : Nat) (vw : Value) (lb : Nat) : Nat → Prop := fun k => k = lb ∨ DX db sb vw k
/-- What a call leaves alone that writes to the disk and to the log's block. -/
structure Lfr (db sb : Nat) (vw vw' : Value) (lb : Nat) (w w' : World) : Prop where
  keep : Keep (DL db sb vw lb) w w'
  new : ∀ k, vw'.ownBlock = some k → vw.ownBlock = some k ∨ w.heap.size ≤ k
theorem Lfr.refl (db sb : Nat) (vw : Value) (lb : Nat) (w : World) : Lfr db sb vw vw lb w w := ⟨Keep.refl _ _, fun _ h => .inl h⟩
theorem Lfr.trans {db sb lb : Nat} {v v' v'' : Value} {a b c : World} (h : Lfr db sb v v' lb a b) (k : Lfr db sb v' v'' lb b c) : Lfr db sb v v'' lb a c :=
  ⟨h.keep.trans2 k.keep (fun i hi => by
    rcases hi with hi | hi | hi | hi
    · exact .inl (.inl hi)
    · exact .inl (.inr (.inl hi))
    · exact .inl (.inr (.inr (.inl hi)))
    · exact (h.new i hi).imp (fun h => .inr (.inr (.inr h))) id), fun i hi => by
    rcases k.new i hi with hi | hi
    · exact h.new i hi
    · exact .inr (Nat.le_trans h.keep.size hi)⟩
theorem Lfr.of_below {db sb lb : Nat} {v : Value} {a b : World} (h : Below a.heap.size a b) : Lfr db sb v v lb a b := ⟨Keep.of_below h, fun _ h => .inl h⟩
theorem Lfr.of_d {db sb lb : Nat} {v v' : Value} {a b : World} (h : Dfr db sb v v' a b) : Lfr db sb v v' lb a b := ⟨h.keep.mono (fun _ _ h => .inr h), h.new⟩
theorem Lfr.set (db sb : Nat) (v : Value) (lb : Nat) (w : World) (o : Nat) (x : Value) : Lfr db sb v v lb w (w.setCell ⟨lb, o, none⟩ x) := ⟨Keep.set w _ x (.inl rfl), fun _ h => .inl h⟩

set_option maxHeartbeats 1000000 in
theorem lwrite_ok (h : Lk w lb db rv L) (hD : Dk base w db sb n vw S Q false 0) (hlb : ¬ DX db sb vw lb) (x : Value) (l : List UInt8) (k : Nat) (s : List UInt8) (hk : S[k]? = some s) (hkn : k < n) (hx : Rd w x l) (hl : l.length = 64) (hq : Q.length ≤ 100000) :
    Calls Tryz.prog 133 #[.pointer (some ⟨lb, 0, none⟩), .int .i64 (k : Int), x] w (fun e w' => e = .returned .nilIface ∧ ∃ vw', Dk base w' db sb n vw' (S.set k l) (Q ++ [⟨k, s, l⟩]) false 0 ∧ Lk w' lb db rv { L with waits := Q.length + 1 } ∧ ¬ DX db sb vw' lb ∧ Lfr db sb vw vw' lb w w') := by
  obtain ⟨c0, -⟩ := h.cells
  have CW0 : (Calls Tryz.prog 144 #[.pointer (some ⟨db, 0, none⟩), .int .i64 (k : Int), x] w (fun e w' => e = .returned (.int .i64 0) ∧ ∃ vw', Dk base w' db sb n vw' (S.set k l) (Q ++ [⟨k, s, l⟩]) false 0 ∧ Dfr db sb vw vw' w w')) := write_gen hD (by omega) x l k s hk hkn hx hl hq
  obtain ⟨xo, xc, rfl, -⟩ := id hx
  rw [hl] at CW0 ⊢
  have CW := hid CW0
  have H := hid h
  have HN := hid hlb
  have HLT := hid h.lt
  clear h hD hk hlb hx hl CW0
  go_enter Tryz.func133, Tryz.ntmps133
  go_wp2_with (first | (go_at_call 144; refine CW.out.mono ?_))
  rintro e w2 ⟨rfl, vw2, hD2, hF2⟩
  have h2 := H.out.kept hF2.keep HN.out
  have hn2 : ¬ DX db sb vw2 lb := fun hj => by
    rcases hj with hj | hj | hj
    · exact HN.out (.inl hj)
    · exact HN.out (.inr (.inl hj))
    · rcases hF2.new _ hj with hj | hj
      · exact HN.out (.inr (.inr hj))
      · have := HLT.out; omega
  have CQ := hid (waiting_any hD2)
  obtain ⟨d0, -⟩ := h2.cells
  have hs8 := h2.soft 8
  have hc8 := h2.cells.2.2.2.2.2.2.2.2.1
  have HD2 := hid hD2
  have HF2 := hid hF2
  have HN2 := hid hn2
  have H2 := hid h2
  rw [List.length_append, List.length_singleton] at CQ
  clear hD2 hF2 hn2 h2 c0
  go_wp2_with (first
    | (go_at_call 46; refine CQ.out.mono ?_; rintro e w3 ⟨rfl, rfl⟩)
    | (go_at_call 34; refine (new_ok _ _).mono ?_; rintro e w4 ⟨rfl, rfl⟩))
  go_ret
  refine ⟨rfl, vw2, HD2.out.kept (Keep.set (X := fun k => k = lb) _ ⟨lb, 8, none⟩ _ rfl) (fun k hk e => HN2.out (by rw [← e]; exact hk)), ?_, HN2.out, (Lfr.of_d HF2.out).trans (Lfr.set _ _ _ _ _ 8 _)⟩
  have := H2.out.setWaits (Q.length + 1)
  exact this

theorem lflush_ok (h : Lk w lb db rv L) (hD : Dk base w db sb n vw S Q false 0) (hlb : ¬ DX db sb vw lb) :
    Calls Tryz.prog 135 #[.pointer (some ⟨lb, 0, none⟩)] w (fun e w' => e = .returned .nilIface ∧ ∃ vw', Dk base w' db sb n vw' S [] false 0 ∧ Lk w' lb db rv { L with waits := 0 } ∧ ¬ DX db sb vw' lb ∧ Lfr db sb vw vw' lb w w') := by
  obtain ⟨c0, -⟩ := h.cells
  have CW : Hid (Calls Tryz.prog 145 #[.pointer (some ⟨db, 0, none⟩)] w (fun e w' => e = .returned (.int .i64 0) ∧ ∃ vw', Dk base w' db sb n vw' S [] false 0 ∧ Dfr db sb vw vw' w w')) := flush_gen hD (by omega)
  have H := hid h
  have HN := hid hlb
  have HLT := hid h.lt
  clear h hD hlb
  go_enter Tryz.func135, Tryz.ntmps135
  go_wp2_with (first | (go_at_call 145; refine CW.out.mono ?_))
  rintro e w2 ⟨rfl, vw2, hD2, hF2⟩
  have h2 := H.out.kept hF2.keep HN.out
  have hn2 : ¬ DX db sb vw2 lb := fun hj => by
    rcases hj with hj | hj | hj
    · exact HN.out (.inl hj)
    · exact HN.out (.inr (.inl hj))
    · rcases hF2.new _ hj with hj | hj
      · exact HN.out (.inr (.inr hj))
      · have := HLT.out; omega
  have CQ : Hid (Calls Tryz.prog 46 #[.pointer (some ⟨db, 0, none⟩)] w2 (fun e w' => e = .returned (.int .i64 0) ∧ w' = w2)) := waiting_any hD2
  obtain ⟨d0, -⟩ := h2.cells
  have hs8 := h2.soft 8
  have hc8 := h2.cells.2.2.2.2.2.2.2.2.1
  have HD2 := hid hD2
  have HF2 := hid hF2
  have HN2 := hid hn2
  have H2 := hid h2
  clear hD2 hF2 hn2 h2 c0
  go_wp2_with (first
    | (go_at_call 46; refine CQ.out.mono ?_; rintro e w3 ⟨rfl, rfl⟩)
    | (go_at_call 34; refine (new_ok _ _).mono ?_; rintro e w4 ⟨rfl, rfl⟩))
  go_ret
  refine ⟨rfl, vw2, HD2.out.kept (Keep.set (X := fun k => k = lb) _ ⟨lb, 8, none⟩ _ rfl) (fun k hk e => HN2.out (by rw [← e]; exact hk)), ?_, HN2.out, (Lfr.of_d HF2.out).trans (Lfr.set _ _ _ _ _ 8 _)⟩
  have := H2.out.setWaits 0
  exact this
end
end Go.Proofs.YtddnleofflobhaaGreatDoor

set_option linter.unusedVariables false
set_option maxRecDepth 100000
namespace Go.Proofs.YtddnleofflobhaaGreatDoor
open Go.RowKit

/-- The newest head of the first k sectors. -/
def newK (S : List (List UInt8)) (h0 : Hd) : Nat → Hd
  | 0 => h0
  | k + 1 => if (hdOf (S.getD k [])).tn > (newK S h0 k).tn then hdOf (S.getD k []) else newK S h0 k

theorem newK_ok {S : List (List UInt8)} {h0 : Hd} (hS : ∀ s ∈ S, s.length = 64) (h : h0.Ok) : ∀ k, k ≤ S.length → (newK S h0 k).Ok
  | 0, _ => h
  | k + 1, hk => by
    unfold newK
    split
    · refine hdOf_ok _ ?_
      rw [List.getD, List.getElem?_eq_getElem (by omega)]
      exact hS _ (List.getElem_mem _)
    · exact newK_ok hS h k (by omega)

theorem Lk.setHead {w : World} {lb db : Nat} {rv : Value} {L : Ls} (h : Lk w lb db rv L) (g : Hd) : Lk ((((w.setCell ⟨lb, 1, none⟩ (.int .u64 (g.tn : Int))).setCell ⟨lb, 2, none⟩ (.int .u64 (g.fi : Int))).setCell ⟨lb, 3, none⟩ (.int .i64 (g.fr : Int))).setCell ⟨lb, 4, none⟩ (.int .i64 (g.su : Int))) lb db rv { L with h := g } :=
  set_at (k := 4) _ (set_at (k := 3) _ (set_at (k := 2) _ (set_at (k := 1) _ h)))
theorem Keep.set4 {X : Nat → Prop} {w0 w : World} {b : Nat} (h : Keep X w0 w) (hx : X b) (o1 o2 o3 o4 : Nat) (x y z u : Value) : Keep X w0 ((((w.setCell ⟨b, o1, none⟩ x).setCell ⟨b, o2, none⟩ y).setCell ⟨b, o3, none⟩ z).setCell ⟨b, o4, none⟩ u) :=
  (((h.trans (Keep.set w _ x hx)).trans (Keep.set _ _ y hx)).trans (Keep.set _ _ z hx)).trans (Keep.set _ _ u hx)

section
variable {base : Nat} {w : World} {lb db sb n : Nat} {vw rv : Value} {S : List (List UInt8)} {Q : List Wr} {dn : Bool} {lf : Nat} {L : Ls}

set_option maxHeartbeats 8000000 in
theorem newest_ok (h : Lk w lb db rv L) (hD : Dk base w db sb n vw S Q false lf) (hlb : ¬ DX db sb vw lb) (hn : 2 ≤ n) :
    Calls Tryz.prog 74 #[.pointer (some ⟨lb, 0, none⟩)] w (fun e w' => e = .returned .nilIface ∧ Lk w' lb db rv { L with h := newK S L.h 2 } ∧ Keep (fun k => k = lb) w w') := by
  obtain ⟨c0, -⟩ := h.cells
  have CS := hid (size_any hD)
  have hm : min (2 : Int) (n : Int) = 2 := by omega
  have hm2 : ¬ ((n : Int) < 2) := by omega
  have hm3 : (2 : Int) ≤ (n : Int) := by omega
  have H := hid h
  have HD := hid hD
  have HN := hid hlb
  clear h hD hlb
  go_enter Tryz.func74, Tryz.ntmps74
  go_wp2_with (first | (go_at_call 36; refine CS.out.mono ?_; rintro e w2 ⟨rfl, rfl⟩))
  clear c0
  go_loopw [13] (fun i wr => ∃ k : Nat, k ≤ 2 ∧ i = .int .i64 (k : Int) ∧ Hid (Lk wr lb db rv { L with h := newK S L.h k }) ∧ Hid (Keep (fun k => k = lb) w2 wr)) (fun i _ => 2 - (intOf i).toNat)
  case atStart => exact ⟨0, by omega, rfl, H, Keep.refl _ _⟩
  case round =>
    obtain ⟨k, hk, rfl, HL, HK⟩ := hrel
    by_cases hlt : k < 2
    · have hki : (k : Int) < 2 := by omega
      have hkS : k < S.length := by have := HD.out.few.1; omega
      have hs := List.getElem?_eq_getElem hkS
      have hsl := HD.out.len _ (List.getElem_mem hkS)
      have hD2 := HD.out.kept HK.out (fun j hj e => HN.out (by rw [← e]; exact hj))
      have CR := hid (lread_ok HL.out hD2 k _ hs (by omega))
      have hgd : S.getD k [] = S[k] := by rw [List.getD, hs]; rfl
      have HGD := hid hgd
      generalize S[k] = s at *
      have HSL := hid hsl
      clear hs hD2 hgd hsl
      go_wp2_with (first | (go_at_call 105; refine CR.out.mono ?_))
      rintro e w4 ⟨x, rfl, hx, hb4⟩
      obtain ⟨xo, xc, rfl⟩ := own_form hx
      have CH := hid (headOf_any w4 _ s (Rd.own hx) HSL.out)
      have HL4 := hid (HL.out.old hb4)
      have HK4 := hid (HK.out.trans (Keep.of_below hb4))
      clear hx hb4
      go_wp2_with (first | (go_at_call 106; refine CH.out.mono ?_))
      rintro e w5 ⟨rfl, hb5⟩
      have HL5 := hid (HL4.out.old hb5)
      have HK5 := hid (HK4.out.trans (Keep.of_below hb5))
      obtain ⟨g, hg⟩ : ∃ g, g = hdOf s := ⟨_, rfl⟩
      rw [← hg]
      have HG := hid hg
      clear hb5 hg
      unfold hv
      go_upto_region 8 with fail
      have hba : Below w5.heap.size w5 (w5.alloc (.cells #[.int .u64 (g.tn : Int), .int .u64 (g.fi : Int), .int .i64 (g.fr : Int), .int .i64 (g.su : Int)] 89)) := (Below.refl _ _).alloc (Nat.le_refl _) _
      have hxa : (w5.alloc (.cells #[.int .u64 (g.tn : Int), .int .u64 (g.fi : Int), .int .i64 (g.fr : Int), .int .i64 (g.su : Int)] 89)).heap[w5.heap.size]? = some (.cells #[.int .u64 (g.tn : Int), .int .u64 (g.fi : Int), .int .i64 (g.fr : Int), .int .i64 (g.su : Int)] 89 (0, 0)) := heap_alloc_new _ _
      generalize w5.alloc (.cells #[.int .u64 (g.tn : Int), .int .u64 (g.fi : Int), .int .i64 (g.fr : Int), .int .i64 (g.su : Int)] 89) = w6 at *
      have hL6 := HL5.out.old hba
      obtain ⟨d0, d1, d2, d3, -, -, -, -⟩ := four_cells hxa
      obtain ⟨c0, c1, c2, c3, c4, -⟩ := hL6.cells
      have f1 := hL6.soft 1
      have f2 := hL6.soft 2
      have f3 := hL6.soft 3
      have f4 := hL6.soft 4
      have HL6 := hid hL6
      have HK6 := hid (HK5.out.trans (Keep.of_below hba))
      have hneq : w5.heap.size ≠ lb := by have := HL5.out.lt; omega
      clear hba hL6
      have HXA : Hid (∀ a, (w6.drewN a).heap[w5.heap.size]? = some (.cells #[.int .u64 (g.tn : Int), .int .u64 (g.fi : Int), .int .i64 (g.fr : Int), .int .i64 (g.su : Int)] 89 (0, 0))) := fun _ => hxa
      clear hxa
      by_cases hgt : (newK S L.h k).tn < g.tn
      · have hgi : ((newK S L.h k).tn : Int) < (g.tn : Int) := by omega
        have HNX : Hid (newK S L.h (k + 1) = g) := by
          show (if _ then _ else _) = _
          rw [HGD.out, ← HG.out, if_pos hgt]
        go_quiet (fail)
        have hL7 : Lk (w6.drewN nq) lb db rv { L with h := newK S L.h k } := HL6.out.old ⟨rfl, rfl, rfl, Nat.le_refl _, fun _ _ => rfl⟩
        have hx7 := HXA.out nq
        have HK7 := hid (HK6.out.trans (Keep.of_below (⟨rfl, rfl, rfl, Nat.le_refl _, fun _ _ => rfl⟩ : Below w6.heap.size w6 (w6.drewN nq))))
        clear d0 d1 d2 d3 c0 c1 c2 c3 c4 f1 f2 f3 f4
        generalize w6.drewN nq = w7 at *
        obtain ⟨d0, d1, d2, d3, -, -, -, -⟩ := four_cells hx7
        obtain ⟨c0, c1, c2, c3, c4, -⟩ := hL7.cells
        have f1 := hL7.soft 1
        have f2 := hL7.soft 2
        have f3 := hL7.soft 3
        have f4 := hL7.soft 4
        have HL8 := hid (hL7.setHead g)
        have HK8 := hid (HK7.out.set4 (b := lb) rfl 1 2 3 4 (.int .u64 (g.tn : Int)) (.int .u64 (g.fi : Int)) (.int .i64 (g.fr : Int)) (.int .i64 (g.su : Int)))
        clear hL7 hx7
        go_wp2_with fail
        go_roundw
        case rel => exact ⟨k + 1, by omega, by go_num, by rw [HNX.out]; exact HL8, HK8⟩
        case measure => first | (simp [intOf]; done) | (simp [intOf]; omega)
      · have hgi : (g.tn : Int) ≤ ((newK S L.h k).tn : Int) := by omega
        have HNX : Hid (newK S L.h (k + 1) = newK S L.h k) := by
          show (if _ then _ else _) = _
          rw [HGD.out, ← HG.out, if_neg hgt]
        go_quiet (fail)
        have HL7 : Hid (Lk (w6.drewN nq) lb db rv { L with h := newK S L.h k }) := HL6.out.old ⟨rfl, rfl, rfl, Nat.le_refl _, fun _ _ => rfl⟩
        have HK7 := hid (HK6.out.trans (Keep.of_below (⟨rfl, rfl, rfl, Nat.le_refl _, fun _ _ => rfl⟩ : Below w6.heap.size w6 (w6.drewN nq))))
        clear d0 d1 d2 d3 c0 c1 c2 c3 c4 f1 f2 f3 f4
        generalize w6.drewN nq = w7 at *
        go_wp2_with fail
        go_roundw
        case rel => exact ⟨k + 1, by omega, by go_num, by rw [HNX.out]; exact HL7, HK7⟩
        case measure => first | (simp [intOf]; done) | (simp [intOf]; omega)
    · obtain rfl : k = 2 := by omega
      go_wp2_with fail
      go_ret
      exact ⟨rfl, HL.out, HK.out⟩
end
end Go.Proofs.YtddnleofflobhaaGreatDoor

set_option linter.unusedVariables false
set_option maxRecDepth 100000
namespace Go.Proofs.YtddnleofflobhaaGreatDoor
open Go.RowKit

theorem eql_nil (m : Int) (W : World) : (binOp .eql 43 .nilIface (.iface 38 (.int .i64 m))).run Tryz.prog W = .ok (.bool false) W := by kernel_rfl
theorem eis_nil (m : Int) (w : World) : Calls Tryz.prog 44 #[.nilIface, .iface 38 (.int .i64 m)] w (fun e w' => e = .returned (.bool false) ∧ w' = w) := by
  have he := eql_nil m
  go_enter Tryz.func44, Tryz.ntmps44
  go_wp2_with fail
  go_ret
  exact ⟨rfl, rfl⟩
theorem code_nil (w : World) : Calls Tryz.prog 18 #[.nilIface] w (fun e w' => e = .returned (.int .i64 0) ∧ w' = w) := by
  go_enter Tryz.func18, Tryz.ntmps18
  go_wp2_with fail
  go_ret
  exact ⟨rfl, rfl⟩
theorem told_ok (lb : Nat) (w : World) : Calls Tryz.prog 47 #[.pointer (some ⟨lb, 0, none⟩), .nilIface] w (fun e w' => e = .returned (.int .i64 0) ∧ w' = w) := by
  go_enter Tryz.func47, Tryz.ntmps47
  go_wp2_with (first
    | (go_at_call 44; refine (eis_nil 3 _).mono ?_; rintro e w2 ⟨rfl, rfl⟩)
    | (go_at_call 18; refine (code_nil _).mono ?_; rintro e w3 ⟨rfl, rfl⟩))
  go_ret
  exact ⟨rfl, rfl⟩

section
variable {base : Nat} {w : World} {lb db sb n : Nat} {vw rv : Value} {S : List (List UInt8)} {Q : List Wr} {dn : Bool} {lf : Nat} {L : Ls}

theorem fell_no (h : Lk w lb db rv L) (hD : Dk base w db sb n vw S Q false lf) (hq : L.waits = Q.length) : Calls Tryz.prog 131 #[.pointer (some ⟨lb, 0, none⟩)] w (Draws w (.bool false)) := by
  have c0 := h.cells.1
  have c8 := h.cells.2.2.2.2.2.2.2.2.1
  rw [hq] at c8
  have CW : ∀ a, Calls Tryz.prog 46 #[.pointer (some ⟨db, 0, none⟩)] (w.drewN a) (fun e w' => e = .returned (.int .i64 (Q.length : Int)) ∧ ∃ m, w' = w.drewN m) := fun a => (waiting_any (hD.old (w' := w.drewN a) ⟨rfl, rfl, rfl, Nat.le_refl _, fun _ _ => rfl⟩)).mono fun _ _ h => ⟨h.1, a, h.2⟩
  clear h hD
  go_enter Tryz.func131, Tryz.ntmps131
  go_wp2_with fail
  go_quiet ((go_at_call 46; exact CW _))
  go_wp2_with fail
  go_ret
  exact ⟨rfl, _, rfl⟩

theorem ready_ok (h : Lk w lb db rv L) (hD : Dk base w db sb n vw S Q false lf) (hq : L.waits = Q.length) (hd : L.down = false) : Calls Tryz.prog 116 #[.pointer (some ⟨lb, 0, none⟩)] w (Draws w .nilIface) := by
  have c0 := h.cells.1
  have c9 := h.cells.2.2.2.2.2.2.2.2.2
  rw [hd] at c9
  have CF := hid (fell_no h hD hq)
  have CD := hid (down_any hD)
  clear h hD hq
  go_enter Tryz.func116, Tryz.ntmps116
  go_wp2_with (first
    | (go_at_call 24; refine CD.out.mono ?_; rintro e w2 ⟨rfl, rfl⟩)
    | (go_at_call 131; refine CF.out.mono ?_; rintro e w3 ⟨rfl, m3, rfl⟩))
  go_ret
  exact ⟨rfl, m3, rfl⟩

/-- The body of the i-th sector from the head's place on, if it is the log's. -/
def pieceM (S : List (List UInt8)) (n : Nat) (h : Hd) (i : Nat) : Option (List UInt8) :=
  if n - 2 ≤ i ∨ h.tn = 0 then none else if h.su ≤ i ∧ sealN (S.getD (plc n h i) []) ≠ nmb n h i then none else some ((S.getD (plc n h i) []).take 56)

/-- What piece gives. -/
def PieceA (p : Option (List UInt8)) (w : World) (e : Ending) (w' : World) : Prop :=
  Below w.heap.size w w' ∧ ((p = none ∧ e = .returned (.tuple #[.slice none 0 0, .nilIface])) ∨ ∃ b g c, p = some b ∧ b.length = 56 ∧ e = .returned (.tuple #[.slice (some ⟨g, 0, none⟩) 56 c, .nilIface]) ∧ w'.ownsRow w.heap.size 5 1 (.slice (some ⟨g, 0, none⟩) 56 c) 56 (b.map bv))

theorem own_take {w : World} {base : Nat} {e : TypeId} {g n c : Nat} {xs : List Value} (h : w.ownsRow base e 1 (.slice (some ⟨g, 0, none⟩) n c) n xs) (m : Nat) (hm : m ≤ n) : w.ownsRow base e 1 (.slice (some ⟨g, 0, none⟩) m c) m (xs.take m) := by
  obtain ⟨h1, h2⟩ := h
  rcases h2 with ⟨h2, _⟩ | ⟨g', cap, cur, hv, hb, hg, hc, hm2, hs, ht⟩
  · cases h2
  · simp only [Value.slice.injEq, Option.some.injEq, Addr.mk.injEq, and_true, true_and] at hv
    obtain ⟨rfl, rfl⟩ := hv
    refine ⟨by rw [List.length_take]; omega, .inr ⟨g, c, cur, rfl, hb, hg, by omega, hm2, hs, ?_⟩⟩
    rw [← ht, List.take_take]
    congr 1
    omega

set_option maxHeartbeats 4000000 in
theorem piece_any (h : Lk w lb db rv L) (hD : Dk base w db sb n vw S Q false lf) (hk : L.h.Ok) (i : Nat) (hi : i ≤ 131072) (hn : 3 ≤ n) (ht : ∀ j, j ≤ 131072 → nmb n L.h j < 18446744073709551616) :
    Calls Tryz.prog 107 #[.pointer (some ⟨lb, 0, none⟩), .int .i64 (i : Int)] w (PieceA (pieceM S n L.h i) w) := by
  obtain ⟨c0, c1, c2, c3, c4, -⟩ := h.cells
  have CR := hid (ring_any h hD)
  by_cases h0 : n - 2 ≤ i ∨ L.h.tn = 0
  · have HE : Hid (pieceM S n L.h i = none) := if_pos h0
    have hor : ((n - 2 : Nat) : Int) ≤ (i : Int) ∨ (¬ ((n - 2 : Nat) : Int) ≤ (i : Int) ∧ (L.h.tn : Int) = 0) := by omega
    generalize n - 2 = m at *
    clear h hD ht
    rcases hor with h1 | ⟨h1, h2⟩
    · clear h0
      go_enter Tryz.func107, Tryz.ntmps107
      go_wp2_with (first | (go_at_call 117; refine CR.out.mono ?_; rintro e w2 ⟨rfl, rfl⟩))
      go_ret2
      exact ⟨Below.refl _ _, .inl ⟨HE.out, rfl⟩⟩
    · have h3 : (i : Int) < (m : Int) := by omega
      clear h0
      go_enter Tryz.func107, Tryz.ntmps107
      go_wp2_with (first | (go_at_call 117; refine CR.out.mono ?_; rintro e w2 ⟨rfl, rfl⟩))
      go_ret2
      exact ⟨Below.refl _ _, .inl ⟨HE.out, rfl⟩⟩
  · have h1 : (i : Int) < ((n - 2 : Nat) : Int) := by omega
    have h2 : ¬ ((L.h.tn : Int) = 0) := by omega
    have hlt : plc n L.h i < n := by unfold plc; have := Nat.mod_lt (L.h.fr + i) (show 0 < n - 2 by omega); omega
    have hs := List.getElem?_eq_getElem (Nat.lt_of_lt_of_le hlt hD.few.1)
    have hsl := hD.len _ (List.mem_of_getElem? hs)
    have hgd : S.getD (plc n L.h i) [] = S[plc n L.h i]'(Nat.lt_of_lt_of_le hlt hD.few.1) := by rw [List.getD, hs]; rfl
    have CP := hid (place_any h hD i hn hk.fr hi)
    have HE : Hid (pieceM S n L.h i = if L.h.su ≤ i ∧ sealN (S[plc n L.h i]'(Nat.lt_of_lt_of_le hlt hD.few.1)) ≠ nmb n L.h i then none else some ((S[plc n L.h i]'(Nat.lt_of_lt_of_le hlt hD.few.1)).take 56)) := by
      show _ = _
      unfold pieceM
      rw [if_neg h0, hgd]
    generalize S[plc n L.h i]'_ = s at *
    have HS := hid hs
    have HSL := hid hsl
    have H := hid h
    have HD := hid hD
    have HT := hid ht
    have CRD : Hid (∀ m, Calls Tryz.prog 105 #[.pointer (some ⟨lb, 0, none⟩), .int .i64 (plc n L.h i : Int)] (w.drewN m) (LReadA s (w.drewN m))) := fun m => lread_ok (h.old (w' := w.drewN m) ⟨rfl, rfl, rfl, Nat.le_refl _, fun _ _ => rfl⟩) (hD.old (w' := w.drewN m) ⟨rfl, rfl, rfl, Nat.le_refl _, fun _ _ => rfl⟩) _ s hs hlt
    clear h0 hs hsl hgd h hD ht
    generalize hpp : plc n L.h i = pp at *
    clear hpp
    obtain ⟨mm, hmm⟩ : ∃ mm, mm = n - 2 := ⟨_, rfl⟩
    rw [← hmm] at CR h1
    have h1' : ¬ (mm ≤ i) := by omega
    have h1'' : decide (mm ≤ i) = false := decide_eq_false h1'
    have h2' : ((L.h.tn : Int) == 0) = false := by simpa using h2
    clear hmm h2
    go_enter Tryz.func107, Tryz.ntmps107
    go_wp2_with (first
      | (go_at_call 117; refine CR.out.mono ?_; rintro e w2 ⟨rfl, rfl⟩)
      | (go_at_call 123; refine CP.out.mono ?_; rintro e w3 ⟨rfl, m3, rfl⟩)
      | (go_at_call 105; refine (CRD.out m3).mono ?_))
    rintro e w4 ⟨x, rfl, hx, hb4⟩
    rw [HSL.out] at hx
    obtain ⟨gx, xc, rfl, hc64⟩ : ∃ g c, x = .slice (some ⟨g, 0, none⟩) 64 c ∧ 64 ≤ c := by
      rcases hx.2 with ⟨_, h0⟩ | ⟨g, cap, cur, hv, _, _, h1, _⟩
      · cases h0
      · exact ⟨g, cap, hv, h1⟩
    have hc56 : 56 ≤ xc := by omega
    have hb24 : Below w2.heap.size w2 w4 := below_on2 (⟨rfl, rfl, rfl, Nat.le_refl _, fun _ _ => rfl⟩ : Below w2.heap.size w2 (w2.drewN m3)) hb4
    have hx2 : w4.ownsRow w2.heap.size 5 1 (.slice (some ⟨gx, 0, none⟩) 64 xc) 64 (s.map bv) := hx
    have HX := hid hx2
    have HB := hid hb24
    obtain ⟨d0, d1, d2, d3, d4, -⟩ := (H.out.old hb24).cells
    have hr4 : Rd w4 (.slice (some ⟨gx, 0, none⟩) 64 xc) s := by
      have := Rd.own (l := s) (by rw [HSL.out]; exact hx2)
      exact this
    have HR4 := hid hr4
    clear hx hx2 hb4 hb24 hr4 c0 c1 c2 c3 c4
    have HOK : ∀ a : Nat, Hid (PieceA (some (s.take 56)) w2 (.returned (.tuple #[.slice (some ⟨gx, 0, none⟩) 56 xc, .nilIface])) (w4.drewN a)) := fun a => by
      refine ⟨below_on2 HB.out ⟨rfl, rfl, rfl, Nat.le_refl _, fun _ _ => rfl⟩, .inr ⟨_, gx, xc, rfl, by rw [List.length_take, HSL.out]; rfl, rfl, ?_⟩⟩
      have := own_take HX.out 56 (by decide)
      rw [← List.map_take] at this
      exact own_old this ⟨rfl, rfl, rfl, Nat.le_refl _, fun _ _ => rfl⟩
    have HNO : ∀ a : Nat, Hid (PieceA none w2 (.returned (.tuple #[.slice none 0 0, .nilIface])) (w4.drewN a)) := fun a => ⟨below_on2 HB.out ⟨rfl, rfl, rfl, Nat.le_refl _, fun _ _ => rfl⟩, .inl ⟨rfl, rfl⟩⟩
    by_cases hsu : L.h.su ≤ i
    · have hsI : (L.h.su : Int) ≤ (i : Int) := by omega
      have hsd : decide (L.h.su ≤ i) = true := decide_eq_true hsu
      have CSL := hid (seal_any w4 _ s HR4.out HSL.out)
      have CN := hid (number_any (H.out.old HB.out) (HD.out.old HB.out) i hsu hi (HT.out i hi))
      by_cases heq : sealN s = nmb n L.h i
      · have HE2 : Hid (pieceM S n L.h i = some (s.take 56)) := by
          show _ = _
          rw [HE.out, if_neg (by rintro ⟨_, h⟩; exact h heq)]
        have CSL2 : Hid (Calls Tryz.prog 122 #[.slice (some ⟨gx, 0, none⟩) 64 xc] w4 (fun e w' => e = .returned (.int .u64 (nmb n L.h i : Int)) ∧ w' = w4)) := by rw [← heq]; exact CSL
        generalize nmb n L.h i = nm at *
        clear heq CSL
        go_wp2_with (first
          | (go_at_call 122; refine CSL2.out.mono ?_; rintro e w5 ⟨rfl, rfl⟩)
          | (go_at_call 124; refine CN.out.mono ?_; rintro e w6 ⟨rfl, m6, rfl⟩))
        go_ret2
        rw [HE2.out]
        exact (HOK m6).out
      · have HE2 : Hid (pieceM S n L.h i = none) := by
          show _ = _
          rw [HE.out, if_pos ⟨hsu, heq⟩]
        have heI : (((sealN s : Nat) : Int) == ((nmb n L.h i : Nat) : Int)) = false := by simp; omega
        generalize nmb n L.h i = nm at *
        generalize sealN s = sn at *
        clear heq
        go_wp2_with (first
          | (go_at_call 122; refine CSL.out.mono ?_; rintro e w5 ⟨rfl, rfl⟩)
          | (go_at_call 124; refine CN.out.mono ?_; rintro e w6 ⟨rfl, m6, rfl⟩))
        go_ret2
        rw [HE2.out]
        exact (HNO m6).out
    · have hsI : (i : Int) < (L.h.su : Int) := by omega
      have hsd : decide (L.h.su ≤ i) = false := decide_eq_false hsu
      have HE2 : Hid (pieceM S n L.h i = some (s.take 56)) := by
        show _ = _
        rw [HE.out, if_neg (by rintro ⟨h, _⟩; exact hsu h)]
      go_wp2_with fail
      go_ret2
      rw [HE2.out]
      exact (HOK 0).out
end
end Go.Proofs.YtddnleofflobhaaGreatDoor

