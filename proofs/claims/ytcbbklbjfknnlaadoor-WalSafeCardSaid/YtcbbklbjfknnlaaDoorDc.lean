/-
  DISK: Crash, Start.
-/
import Derived.Test.YtcbbklbjfknnlaaDoorDf
import Derived.Test.YtcbbklbjfknnlaaDoorDi
import Derived.Test.YtcbbklbjfknnlaaDoorDp
set_option linter.unusedVariables false
set_option maxRecDepth 100000
namespace Go.Proofs.YtcbbklbjfknnlaaDoor
open Go.RowKit

section
variable {base : Nat} {w : World} {db sb n : Nat} {vw : Value} {S : List (List UInt8)} {Q : List Wr} {dn : Bool} {lf : Nat}

set_option maxHeartbeats 4000000 in
theorem crash_gen (h : Dk base w db sb n vw S Q dn lf) (x : Value) (ks : List Int) (hx : Rws 1 w x (ks.map fun z => [.int .i64 z])) (hq : Q.length ≤ 100000) :
    Calls Tryd.prog 13 #[.pointer (some ⟨db, 0, none⟩), x] w (fun e w' => e = .returned (.int .i64 0) ∧ Dk base w' db sb n (.slice none 0 0) (layM (tbM S Q.reverse) Q ks) [] true lf ∧ Dfr db sb vw (.slice none 0 0) w w') := by
  have CF0 := fall_gen h x ks hx hq
  generalize layM (tbM S Q.reverse) Q ks = SL at *
  have CF := hid CF0
  clear CF0
  have H := hid h
  obtain ⟨xo, xc, hxe, -⟩ := hx.form
  rw [List.length_map] at hxe
  subst hxe
  clear h hx
  go_enter Tryd.func13, Tryd.ntmps13
  go_wp2_with (first | (go_at_call 31; refine CF.out.mono ?_))
  rintro e w2 ⟨rfl, hD, hb⟩
  have HD := hid hD
  have HB := hid hb
  obtain ⟨c0, c1, c2, c3, f0, f1, f2, f3⟩ := four_cells hD.hd
  clear hD hb
  go_wp2_with fail
  go_ret
  exact ⟨rfl, HD.out.set2 true, HB.out.trans (Dfr.set _ _ _ _ 2 _)⟩

theorem crash_any (h : Dk base w db sb n vw S Q dn lf) (x : Value) (ks : List Int) (hx : Rws 1 w x (ks.map fun z => [.int .i64 z])) (hq : Q.length ≤ 100000) :
    Calls Tryd.prog 13 #[.pointer (some ⟨db, 0, none⟩), x] w (fun e w' => e = .returned (.int .i64 0) ∧ Dk base w' db sb n (.slice none 0 0) (layM (tbM S Q.reverse) Q ks) [] true lf ∧ Below base w w') := by
  refine (crash_gen h x ks hx hq).mono ?_
  rintro e w' ⟨rfl, hD, hF⟩
  exact ⟨rfl, hD, h.below hF⟩

theorem lay_nil (S : List (List UInt8)) (Q : List Wr) : layM S Q [] = S := by unfold layM; rw [List.zip_nil_right]; rfl

/-- What Start makes of a disk. -/
def stS (dn : Bool) (S : List (List UInt8)) (Q : List Wr) : List (List UInt8) := if dn then tbM S Q.reverse else S
def stQ (dn : Bool) (Q : List Wr) : List Wr := if dn then [] else Q

set_option maxHeartbeats 4000000 in
theorem start_gen (h : Dk base w db sb n vw S Q dn lf) (hq : Q.length ≤ 100000) :
    Calls Tryd.prog 14 #[.pointer (some ⟨db, 0, none⟩)] w (fun e w' => e = .returned (.int .i64 0) ∧ ∃ vw', (dn = true → vw' = .slice none 0 0) ∧ Dk base w' db sb n vw' (stS dn S Q) (stQ dn Q) false 0 ∧ Dfr db sb vw vw' w w') := by
  cases dn
  · have CD := hid (down_any h)
    have H := hid h
    obtain ⟨c0, c1, c2, c3, f0, f1, f2, f3⟩ := four_cells h.hd
    have hD2 := h.set2 false
    obtain ⟨g0, g1, g2, g3, k0, k1, k2, k3⟩ := four_cells hD2.hd
    have HD2 := hid hD2
    clear h hD2
    go_enter Tryd.func14, Tryd.ntmps14
    go_wp2_with (first
      | (go_at_call 21; refine CD.out.mono ?_; rintro e w2 ⟨rfl, rfl⟩))
    go_ret
    exact ⟨rfl, _, (fun h => by cases h), HD2.out.set3 0, (Dfr.set _ _ _ _ 2 _).trans (Dfr.set _ _ _ _ 3 _)⟩
  · have CD := hid (down_any h)
    have CF0 := fall_gen h (.slice none 0 0) [] (Rws.nil 1 w) hq
    rw [lay_nil] at CF0
    show Calls _ _ _ _ (fun e w' => e = .returned (.int .i64 0) ∧ ∃ vw', (true = true → vw' = .slice none 0 0) ∧ Dk base w' db sb n vw' (tbM S Q.reverse) [] false 0 ∧ Dfr db sb vw vw' w w')
    generalize tbM S Q.reverse = SL at *
    have CF := hid CF0
    clear h CF0
    go_enter Tryd.func14, Tryd.ntmps14
    go_wp2_with (first
      | (go_at_call 21; refine CD.out.mono ?_; rintro e w2 ⟨rfl, rfl⟩)
      | (go_at_call 31; refine CF.out.mono ?_))
    rintro e w2 ⟨rfl, hD, hb⟩
    have HD := hid hD
    have HB := hid hb
    obtain ⟨c0, c1, c2, c3, f0, f1, f2, f3⟩ := four_cells hD.hd
    have hD2 := hD.set2 false
    obtain ⟨g0, g1, g2, g3, k0, k1, k2, k3⟩ := four_cells hD2.hd
    have HD2 := hid hD2
    clear hD hb hD2
    go_wp2_with fail
    go_ret
    exact ⟨rfl, _, (fun _ => rfl), HD2.out.set3 0, HB.out.trans ((Dfr.set _ _ _ _ 2 _).trans (Dfr.set _ _ _ _ 3 _))⟩

theorem start_down (h : Dk base w db sb n (.slice none 0 0) S [] true lf) :
    Calls Tryd.prog 14 #[.pointer (some ⟨db, 0, none⟩)] w (fun e w' => e = .returned (.int .i64 0) ∧ Dk base w' db sb n (.slice none 0 0) S [] false 0 ∧ Below base w w') := by
  refine (start_gen h (by simp)).mono ?_
  rintro e w' ⟨rfl, vw', hv, hD, hF⟩
  obtain rfl := hv rfl
  exact ⟨rfl, hD, h.below hF⟩

theorem size_any (h : Dk base w db sb n vw S Q dn lf) : Calls Tryd.prog 41 #[.pointer (some ⟨db, 0, none⟩)] w (fun e w' => e = .returned (.int .i64 (n : Int)) ∧ w' = w) := by
  obtain ⟨c0, c1, c2, c3, f0, f1, f2, f3⟩ := four_cells h.hd
  have hlen := fun W => run_len_slice (P := Tryd.prog) W 49 3 (some ⟨sb, 0, none⟩) n S.length Tryd.underlying49
  clear h
  go_enter Tryd.func41, Tryd.ntmps41
  go_wp2_with fail
  go_ret
  exact ⟨rfl, rfl⟩
end
end Go.Proofs.YtcbbklbjfknnlaaDoor
