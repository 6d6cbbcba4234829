/-
  DISK: its small functions; a nil disk.
-/
import Derived.Test.YtcbbklbjfknnlaaDoorDb
set_option linter.unusedVariables false
set_option maxRecDepth 100000
namespace Go.Proofs.YtcbbklbjfknnlaaDoor
open Go.RowKit

theorem able_nil (w : World) : Calls Tryd.prog 35 #[.pointer none] w (fun e w' => e = .returned (.int .i64 2) ∧ w' = w) := by
  go_enter Tryd.func35, Tryd.ntmps35
  go_wp2_with fail
  go_ret
  exact ⟨rfl, rfl⟩

section
variable {base : Nat} {w : World} {db sb n : Nat} {vw : Value} {S : List (List UInt8)} {Q : List Wr} {dn : Bool} {lf : Nat}

theorem able_any (h : Dk base w db sb n vw S Q dn lf) : Calls Tryd.prog 35 #[.pointer (some ⟨db, 0, none⟩)] w (fun e w' => e = .returned (.int .i64 (if dn then 3 else 0)) ∧ w' = w) := by
  obtain ⟨c0, c1, c2, c3, -, -, -, -⟩ := four_cells h.hd
  clear h
  cases dn
  · go_enter Tryd.func35, Tryd.ntmps35
    go_wp2_with fail
    go_ret
    exact ⟨rfl, rfl⟩
  · go_enter Tryd.func35, Tryd.ntmps35
    go_wp2_with fail
    go_ret
    exact ⟨rfl, rfl⟩

theorem has_any (h : Dk base w db sb n vw S Q dn lf) (z : Int) : Calls Tryd.prog 73 #[.pointer (some ⟨db, 0, none⟩), .int .i64 z] w (fun e w' => e = .returned (.bool (decide (0 ≤ z ∧ z < (n : Int)))) ∧ w' = w) := by
  obtain ⟨c0, c1, c2, c3, -, -, -, -⟩ := four_cells h.hd
  have hlen := fun W => run_len_slice (P := Tryd.prog) W 49 3 (some ⟨sb, 0, none⟩) n S.length Tryd.underlying49
  clear h
  by_cases h0 : 0 ≤ z
  · by_cases h1 : z < (n : Int)
    · go_enter Tryd.func73, Tryd.ntmps73
      go_wp2_with fail
      go_ret
      exact ⟨by simp [h0, h1], rfl⟩
    · go_enter Tryd.func73, Tryd.ntmps73
      go_wp2_with fail
      go_ret
      exact ⟨by simp [h0, h1], rfl⟩
  · go_enter Tryd.func73, Tryd.ntmps73
    go_wp2_with fail
    go_ret
    exact ⟨by simp; omega, rfl⟩

theorem counted0 (h : Dk base w db sb n vw S Q dn 0) : Calls Tryd.prog 74 #[.pointer (some ⟨db, 0, none⟩)] w (fun e w' => e = .returned (.int .i64 0) ∧ w' = w) := by
  obtain ⟨c0, c1, c2, c3, -, -, -, -⟩ := four_cells h.hd
  clear h
  go_enter Tryd.func74, Tryd.ntmps74
  go_wp2_with fail
  go_ret
  exact ⟨rfl, rfl⟩

theorem wait_form (h : Dk base w db sb n vw S Q dn lf) : ∃ ao c, vw = .slice ao Q.length c := by
  rcases h.wa.2 with ⟨rfl, h0⟩ | ⟨g, cap, cur, rfl, _⟩
  · rw [h0]; exact ⟨_, _, rfl⟩
  · exact ⟨_, _, rfl⟩

theorem waiting_any (h : Dk base w db sb n vw S Q dn lf) : Calls Tryd.prog 22 #[.pointer (some ⟨db, 0, none⟩)] w (fun e w' => e = .returned (.int .i64 (Q.length : Int)) ∧ w' = w) := by
  obtain ⟨ao, c, rfl⟩ := wait_form h
  obtain ⟨c0, c1, c2, c3, -, -, -, -⟩ := four_cells h.hd
  have hlen := fun W => run_len_slice (P := Tryd.prog) W 50 3 ao Q.length c Tryd.underlying50
  clear h
  go_enter Tryd.func22, Tryd.ntmps22
  go_wp2_with fail
  go_ret
  exact ⟨rfl, rfl⟩

theorem flush0 (h : Dk base w db sb n vw S Q false 0) : Calls Tryd.prog 64 #[.pointer (some ⟨db, 0, none⟩)] w (fun e w' => e = .returned (.int .i64 0) ∧ Dk base w' db sb n (.slice none 0 0) S [] false 0 ∧ Below base w w') := by
  obtain ⟨c0, c1, c2, c3, f0, f1, f2, f3⟩ := four_cells h.hd
  have CA : Hid (Calls Tryd.prog 35 #[.pointer (some ⟨db, 0, none⟩)] w (fun e w' => e = .returned (.int .i64 0) ∧ w' = w)) := able_any h
  have CC : Hid (Calls Tryd.prog 74 #[.pointer (some ⟨db, 0, none⟩)] w (fun e w' => e = .returned (.int .i64 0) ∧ w' = w)) := counted0 h
  have H := hid h
  clear h
  go_enter Tryd.func64, Tryd.ntmps64
  go_wp2_with (first
    | (go_at_call 35; refine CA.out.mono ?_; rintro e w2 ⟨rfl, rfl⟩)
    | (go_at_call 74; refine CC.out.mono ?_; rintro e w2 ⟨rfl, rfl⟩))
  go_ret
  refine ⟨rfl, ⟨H.out.lo, set_at _ H.out.hd, (Below.heap_setCell _ ⟨db, 1, none⟩ _ sb (by exact fun e => H.out.apart.1 e.symm)).trans H.out.sh, World.ownsRow_nil _ _ _ _, H.out.len, (fun x hx => by cases hx), H.out.few⟩, (Below.refl _ _).setCell H.out.lo.1 _⟩
end

/-! A nil disk. -/
theorem read_nil (z : Int) (w : World) : Calls Tryd.prog 70 #[.pointer none, .int .i64 z] w (fun e w' => e = .returned (.tuple #[.slice none 0 0, .int .i64 2]) ∧ w' = w) := by
  go_enter Tryd.func70, Tryd.ntmps70
  go_wp2_with (first | (go_at_call 35; refine (able_nil w).mono ?_; rintro e w2 ⟨rfl, rfl⟩))
  go_ret2
  exact ⟨rfl, rfl⟩
theorem write_nil (z : Int) (x : Value) (w : World) : Calls Tryd.prog 63 #[.pointer none, .int .i64 z, x] w (fun e w' => e = .returned (.int .i64 2) ∧ w' = w) := by
  go_enter Tryd.func63, Tryd.ntmps63
  go_wp2_with (first | (go_at_call 35; refine (able_nil w).mono ?_; rintro e w2 ⟨rfl, rfl⟩))
  go_ret
  exact ⟨rfl, rfl⟩
theorem flush_nil (w : World) : Calls Tryd.prog 64 #[.pointer none] w (fun e w' => e = .returned (.int .i64 2) ∧ w' = w) := by
  go_enter Tryd.func64, Tryd.ntmps64
  go_wp2_with (first | (go_at_call 35; refine (able_nil w).mono ?_; rintro e w2 ⟨rfl, rfl⟩))
  go_ret
  exact ⟨rfl, rfl⟩
theorem crash_nil (x : Value) (w : World) : Calls Tryd.prog 13 #[.pointer none, x] w (fun e w' => e = .returned (.int .i64 2) ∧ w' = w) := by
  go_enter Tryd.func13, Tryd.ntmps13
  go_wp2_with fail
  go_ret
  exact ⟨rfl, rfl⟩
theorem start_nil (w : World) : Calls Tryd.prog 14 #[.pointer none] w (fun e w' => e = .returned (.int .i64 2) ∧ w' = w) := by
  go_enter Tryd.func14, Tryd.ntmps14
  go_wp2_with fail
  go_ret
  exact ⟨rfl, rfl⟩
theorem waiting_nil (w : World) : Calls Tryd.prog 22 #[.pointer none] w (fun e w' => e = .returned (.int .i64 0) ∧ w' = w) := by
  go_enter Tryd.func22, Tryd.ntmps22
  go_wp2_with fail
  go_ret
  exact ⟨rfl, rfl⟩
theorem size_nil (w : World) : Calls Tryd.prog 41 #[.pointer none] w (fun e w' => e = .returned (.int .i64 0) ∧ w' = w) := by
  go_enter Tryd.func41, Tryd.ntmps41
  go_wp2_with fail
  go_ret
  exact ⟨rfl, rfl⟩
end Go.Proofs.YtcbbklbjfknnlaaDoor
