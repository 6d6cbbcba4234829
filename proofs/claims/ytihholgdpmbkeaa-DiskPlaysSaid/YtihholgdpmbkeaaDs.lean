/-
  DISK: its small functions; a nil disk.
-/
import Derived.Test.YtihholgdpmbkeaaDb
set_option linter.unusedVariables false
set_option maxRecDepth 100000
namespace Go.Proofs.Ytihholgdpmbkeaa
open Go.RowKit

theorem able_nil (w : World) : Calls Try.prog 32 #[.pointer none] w (fun e w' => e = .returned (.int .i64 2) ∧ w' = w) := by
  go_enter Try.func32, Try.ntmps32
  go_wp2_with fail
  go_ret
  exact ⟨rfl, rfl⟩

section
variable {base : Nat} {w : World} {db sb n : Nat} {vw : Value} {S : List (List UInt8)} {Q : List Wr} {dn : Bool} {lf : Nat}

theorem able_any (h : Dk base w db sb n vw S Q dn lf) : Calls Try.prog 32 #[.pointer (some ⟨db, 0, none⟩)] w (fun e w' => e = .returned (.int .i64 (if dn then 3 else 0)) ∧ w' = w) := by
  obtain ⟨c0, c1, c2, c3, -, -, -, -⟩ := four_cells h.hd
  clear h
  cases dn
  · go_enter Try.func32, Try.ntmps32
    go_wp2_with fail
    go_ret
    exact ⟨rfl, rfl⟩
  · go_enter Try.func32, Try.ntmps32
    go_wp2_with fail
    go_ret
    exact ⟨rfl, rfl⟩

theorem has_any (h : Dk base w db sb n vw S Q dn lf) (z : Int) : Calls Try.prog 33 #[.pointer (some ⟨db, 0, none⟩), .int .i64 z] w (fun e w' => e = .returned (.bool (decide (0 ≤ z ∧ z < (n : Int)))) ∧ w' = w) := by
  obtain ⟨c0, c1, c2, c3, -, -, -, -⟩ := four_cells h.hd
  have hlen := fun W => run_len_slice (P := Try.prog) W 59 3 (some ⟨sb, 0, none⟩) n S.length Try.underlying59
  clear h
  by_cases h0 : 0 ≤ z
  · by_cases h1 : z < (n : Int)
    · go_enter Try.func33, Try.ntmps33
      go_wp2_with fail
      go_ret
      exact ⟨by simp [h0, h1], rfl⟩
    · go_enter Try.func33, Try.ntmps33
      go_wp2_with fail
      go_ret
      exact ⟨by simp [h0, h1], rfl⟩
  · go_enter Try.func33, Try.ntmps33
    go_wp2_with fail
    go_ret
    exact ⟨by simp; omega, rfl⟩

theorem counted0 (h : Dk base w db sb n vw S Q dn 0) : Calls Try.prog 36 #[.pointer (some ⟨db, 0, none⟩)] w (fun e w' => e = .returned (.int .i64 0) ∧ w' = w) := by
  obtain ⟨c0, c1, c2, c3, -, -, -, -⟩ := four_cells h.hd
  clear h
  go_enter Try.func36, Try.ntmps36
  go_wp2_with fail
  go_ret
  exact ⟨rfl, rfl⟩

theorem wait_form (h : Dk base w db sb n vw S Q dn lf) : ∃ ao c, vw = .slice ao Q.length c := by
  rcases h.wa.2 with ⟨rfl, h0⟩ | ⟨g, cap, cur, rfl, _⟩
  · rw [h0]; exact ⟨_, _, rfl⟩
  · exact ⟨_, _, rfl⟩

theorem waiting_any (h : Dk base w db sb n vw S Q dn lf) : Calls Try.prog 30 #[.pointer (some ⟨db, 0, none⟩)] w (fun e w' => e = .returned (.int .i64 (Q.length : Int)) ∧ w' = w) := by
  obtain ⟨ao, c, rfl⟩ := wait_form h
  obtain ⟨c0, c1, c2, c3, -, -, -, -⟩ := four_cells h.hd
  have hlen := fun W => run_len_slice (P := Try.prog) W 60 3 ao Q.length c Try.underlying60
  clear h
  go_enter Try.func30, Try.ntmps30
  go_wp2_with fail
  go_ret
  exact ⟨rfl, rfl⟩

theorem flush0 (h : Dk base w db sb n vw S Q false 0) : Calls Try.prog 14 #[.pointer (some ⟨db, 0, none⟩)] w (fun e w' => e = .returned (.int .i64 0) ∧ Dk base w' db sb n (.slice none 0 0) S [] false 0 ∧ Below base w w') := by
  obtain ⟨c0, c1, c2, c3, f0, f1, f2, f3⟩ := four_cells h.hd
  have CA : Hid (Calls Try.prog 32 #[.pointer (some ⟨db, 0, none⟩)] w (fun e w' => e = .returned (.int .i64 0) ∧ w' = w)) := able_any h
  have CC : Hid (Calls Try.prog 36 #[.pointer (some ⟨db, 0, none⟩)] w (fun e w' => e = .returned (.int .i64 0) ∧ w' = w)) := counted0 h
  have H := hid h
  clear h
  go_enter Try.func14, Try.ntmps14
  go_wp2_with (first
    | (go_at_call 32; refine CA.out.mono ?_; rintro e w2 ⟨rfl, rfl⟩)
    | (go_at_call 36; refine CC.out.mono ?_; rintro e w2 ⟨rfl, rfl⟩))
  go_ret
  refine ⟨rfl, ⟨H.out.lo, set_at _ H.out.hd, (Below.heap_setCell _ ⟨db, 1, none⟩ _ sb (by exact fun e => H.out.apart.1 e.symm)).trans H.out.sh, World.ownsRow_nil _ _ _ _, H.out.len, (fun x hx => by cases hx), H.out.few⟩, (Below.refl _ _).setCell H.out.lo.1 _⟩
end

/-! A nil disk. -/
theorem read_nil (z : Int) (w : World) : Calls Try.prog 10 #[.pointer none, .int .i64 z] w (fun e w' => e = .returned (.tuple #[.slice none 0 0, .int .i64 2]) ∧ w' = w) := by
  go_enter Try.func10, Try.ntmps10
  go_wp2_with (first | (go_at_call 32; refine (able_nil w).mono ?_; rintro e w2 ⟨rfl, rfl⟩))
  go_ret2
  exact ⟨rfl, rfl⟩
theorem write_nil (z : Int) (x : Value) (w : World) : Calls Try.prog 24 #[.pointer none, .int .i64 z, x] w (fun e w' => e = .returned (.int .i64 2) ∧ w' = w) := by
  go_enter Try.func24, Try.ntmps24
  go_wp2_with (first | (go_at_call 32; refine (able_nil w).mono ?_; rintro e w2 ⟨rfl, rfl⟩))
  go_ret
  exact ⟨rfl, rfl⟩
theorem flush_nil (w : World) : Calls Try.prog 14 #[.pointer none] w (fun e w' => e = .returned (.int .i64 2) ∧ w' = w) := by
  go_enter Try.func14, Try.ntmps14
  go_wp2_with (first | (go_at_call 32; refine (able_nil w).mono ?_; rintro e w2 ⟨rfl, rfl⟩))
  go_ret
  exact ⟨rfl, rfl⟩
theorem arm_nil (z : Int) (w : World) : Calls Try.prog 16 #[.pointer none, .int .i64 z] w (fun e w' => e = .returned (.int .i64 2) ∧ w' = w) := by
  go_enter Try.func16, Try.ntmps16
  go_wp2_with fail
  go_ret
  exact ⟨rfl, rfl⟩
theorem crash_nil (x : Value) (w : World) : Calls Try.prog 19 #[.pointer none, x] w (fun e w' => e = .returned (.int .i64 2) ∧ w' = w) := by
  go_enter Try.func19, Try.ntmps19
  go_wp2_with fail
  go_ret
  exact ⟨rfl, rfl⟩
theorem start_nil (w : World) : Calls Try.prog 22 #[.pointer none] w (fun e w' => e = .returned (.int .i64 2) ∧ w' = w) := by
  go_enter Try.func22, Try.ntmps22
  go_wp2_with fail
  go_ret
  exact ⟨rfl, rfl⟩
theorem waiting_nil (w : World) : Calls Try.prog 30 #[.pointer none] w (fun e w' => e = .returned (.int .i64 0) ∧ w' = w) := by
  go_enter Try.func30, Try.ntmps30
  go_wp2_with fail
  go_ret
  exact ⟨rfl, rfl⟩
theorem size_nil (w : World) : Calls Try.prog 31 #[.pointer none] w (fun e w' => e = .returned (.int .i64 0) ∧ w' = w) := by
  go_enter Try.func31, Try.ntmps31
  go_wp2_with fail
  go_ret
  exact ⟨rfl, rfl⟩
theorem fork_nil (w : World) : Calls Try.prog 23 #[.pointer none] w (fun e w' => e = .returned (.pointer none) ∧ w' = w) := by
  go_enter Try.func23, Try.ntmps23
  go_wp2_with fail
  go_ret
  exact ⟨rfl, rfl⟩
end Go.Proofs.Ytihholgdpmbkeaa
