/-
  DISK: errors.Is at two codes; Down.
-/
import Derived.Test.YtcbbklbjfknnlaaDoorDs
import Derived.LaidEql
import Derived.Stop.Asserts
import Derived.RowKitTokens
set_option linter.unusedVariables false
namespace Go.Proofs.YtcbbklbjfknnlaaDoor
open Go.RowKit Go.Extern.Stop Go.Stop Go.Extern

def compEntry : Array Value → Sem Value := ReflectliteType.method fun t => do Rtype.noPackHeld "Comparable" t; pure (.bool (← typeInfo t).comparable)
theorem methodComparable (h : Value) (w : World) : (Go.method 261 100 (.agg #[h]) "Comparable").run Tryd.prog w = .ok (97, .agg #[h]) w := by kernel_rfl
theorem typeOfC (v : Value) (w : World) : (ReflectliteType.typeOf #[.iface 25 v]).run Tryd.prog w = .ok (.iface 100 (.agg #[.pointer (some ⟨1, 25, none⟩)])) w := by kernel_rfl
theorem noIsC (v : Value) (xT : TypeId) (w : World) : (Instr.typeAssert (.iface 25 v) xT 102 true).run Tryd.prog w = .ok (.tuple #[.nilIface, .bool false]) w := run_typeAssert_lacksB Tryd.underlying102 (by kernel_rfl) (by kernel_rfl) v xT w
theorem noUnC (v : Value) (xT : TypeId) (w : World) : (Instr.typeAssert (.iface 25 v) xT 105 true).run Tryd.prog w = .ok (.tuple #[.nilIface, .bool false]) w := run_typeAssert_lacksB Tryd.underlying105 (by kernel_rfl) (by kernel_rfl) v xT w
theorem noUsC (v : Value) (xT : TypeId) (w : World) : (Instr.typeAssert (.iface 25 v) xT 106 true).run Tryd.prog w = .ok (.tuple #[.nilIface, .bool false]) w := run_typeAssert_lacksB Tryd.underlying106 (by kernel_rfl) (by kernel_rfl) v xT w
theorem compC' (w : World) : (compEntry #[.agg #[.pointer (some ⟨1, 25, none⟩)]]).run Tryd.prog w = .ok (.bool true) w := by kernel_rfl
theorem run_equalIn_ints {P : Program} (w : World) (d : Nat) {ti tn : TypeId} {ms : Array (String × TypeId)} {i : TypeInfo} {k : IntKind} (a b : Int)
    (hi : P.underlying ti = some (.interface ms)) (hn : P.underlying tn = some (.int k)) (hinfo : P.info? tn = some i) (hcomp : i.comparable = true) :
    (Op.equalIn (d + 2) ti (.iface tn (.int k a)) (.iface tn (.int k b))).run P w = .ok (a == b) w := by
  simp [Op.equalIn, run_underlying hi, run_underlying hn, typeInfo, hinfo, hcomp]
/-- '==' between two errors of one integer type. -/
theorem run_eql_ints {P : Program} {ti tn : TypeId} {ms : Array (String × TypeId)} {i : TypeInfo} {k : IntKind} (a b : Int)
    (hi : P.underlying ti = some (.interface ms)) (hn : P.underlying tn = some (.int k)) (hinfo : P.info? tn = some i) (hcomp : i.comparable = true) (w : World) :
    (binOp .eql ti (.iface tn (.int k a)) (.iface tn (.int k b))).run P w = .ok (.bool (a == b)) w := by
  simp only [binOp]
  simp [Op.equal, Op.maxDepth, run_equalIn_ints w 9998 a b hi hn hinfo hcomp]
theorem compErrno : (Tryd.prog.info? 25).map (·.comparable) = some true := by kernel_rfl
theorem eqlErrno (a b : Int) (w : World) : (binOp .eql 60 (.iface 25 (.int .i64 a)) (.iface 25 (.int .i64 b))).run Tryd.prog w = .ok (.bool (a == b)) w := by
  obtain ⟨i, hi, hcmp⟩ := Option.map_eq_some_iff.1 compErrno
  exact run_eql_ints a b Tryd.underlying60 Tryd.underlying25 hi hcmp w

set_option maxHeartbeats 1000000 in
/-- Two codes. -/
theorem is_codes (a b : Int) (w : World) : Calls Tryd.prog 34 #[.iface 25 (.int .i64 a), .iface 25 (.int .i64 b)] w fun ev w' => ev = .returned (.bool (a == b)) ∧ w' = w := by
  have h10 := @run_callFunc_extern Tryd.prog 50 _ ReflectliteType.typeOf Tryd.func50 (by kernel_rfl) (by kernel_rfl) (by kernel_rfl) (by kernel_rfl)
  have h64 := @run_callFunc_extern Tryd.prog 97 _ compEntry Tryd.func97 (by kernel_rfl) (by kernel_rfl) (by kernel_rfl) (by kernel_rfl)
  have tC := typeOfC
  have mC := methodComparable
  have cC := compC'
  have nI := noIsC
  have nU := noUnC
  have nS := noUsC
  have eq := eqlErrno a b
  by_cases hab : a = b
  · have hd : (a == b) = true := by simp [hab]
    rw [hd] at eq
    rw [hd]
    clear hab
    go_enter Tryd.func34, Tryd.ntmps34
    go_wp2
    refine wp_loop_rounds 1 ?_
    rw [rounds_succ]
    go_wp2
    go_ret
    exact ⟨rfl, rfl⟩
  · have hd : (a == b) = false := by simp [hab]
    rw [hd] at eq
    rw [hd]
    clear hab
    go_enter Tryd.func34, Tryd.ntmps34
    go_wp2
    refine wp_loop_rounds 1 ?_
    rw [rounds_succ]
    go_wp2
    go_ret
    exact ⟨rfl, rfl⟩

theorem down_nil (w : World) : Calls Tryd.prog 21 #[.pointer none] w (fun e w' => e = .returned (.bool false) ∧ w' = w) := by
  have CI : Hid (Calls Tryd.prog 34 #[.iface 25 (.int .i64 2), .iface 25 (.int .i64 3)] w (fun e w' => e = .returned (.bool false) ∧ w' = w)) := is_codes 2 3 w
  go_enter Tryd.func21, Tryd.ntmps21
  go_wp2_with (first
    | (go_at_call 35; refine (able_nil w).mono ?_; rintro e w2 ⟨rfl, rfl⟩)
    | (go_at_call 34; refine CI.out.mono ?_; rintro e w3 ⟨rfl, rfl⟩))
  go_ret
  exact ⟨rfl, rfl⟩

theorem down_any {base : Nat} {w : World} {db sb n : Nat} {vw : Value} {S : List (List UInt8)} {Q : List Wr} {dn : Bool} {lf : Nat} (h : Dk base w db sb n vw S Q dn lf) :
    Calls Tryd.prog 21 #[.pointer (some ⟨db, 0, none⟩)] w (fun e w' => e = .returned (.bool dn) ∧ w' = w) := by
  have CA := able_any h
  cases dn
  · have CI : Hid (Calls Tryd.prog 34 #[.iface 25 (.int .i64 0), .iface 25 (.int .i64 3)] w (fun e w' => e = .returned (.bool false) ∧ w' = w)) := is_codes 0 3 w
    have CA2 : Hid (Calls Tryd.prog 35 #[.pointer (some ⟨db, 0, none⟩)] w (fun e w' => e = .returned (.int .i64 0) ∧ w' = w)) := CA
    clear CA h
    go_enter Tryd.func21, Tryd.ntmps21
    go_wp2_with (first
      | (go_at_call 35; refine CA2.out.mono ?_; rintro e w2 ⟨rfl, rfl⟩)
      | (go_at_call 34; refine CI.out.mono ?_; rintro e w3 ⟨rfl, rfl⟩))
    go_ret
    exact ⟨rfl, rfl⟩
  · have CI : Hid (Calls Tryd.prog 34 #[.iface 25 (.int .i64 3), .iface 25 (.int .i64 3)] w (fun e w' => e = .returned (.bool true) ∧ w' = w)) := is_codes 3 3 w
    have CA2 : Hid (Calls Tryd.prog 35 #[.pointer (some ⟨db, 0, none⟩)] w (fun e w' => e = .returned (.int .i64 3) ∧ w' = w)) := CA
    clear CA h
    go_enter Tryd.func21, Tryd.ntmps21
    go_wp2_with (first
      | (go_at_call 35; refine CA2.out.mono ?_; rintro e w2 ⟨rfl, rfl⟩)
      | (go_at_call 34; refine CI.out.mono ?_; rintro e w3 ⟨rfl, rfl⟩))
    go_ret
    exact ⟨rfl, rfl⟩
end Go.Proofs.YtcbbklbjfknnlaaDoor
