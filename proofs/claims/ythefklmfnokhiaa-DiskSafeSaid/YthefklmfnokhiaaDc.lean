/-
  DISK: Crash, Start.
-/
import Derived.Test.YthefklmfnokhiaaDf
import Derived.Test.YthefklmfnokhiaaDi
set_option linter.unusedVariables false
set_option maxRecDepth 100000
namespace Go.Proofs.Ythefklmfnokhiaa
open Go.RowKit

section
variable {base : Nat} {w : World} {db sb : Nat} {vw : Value} {S : List (List UInt8)} {Q : List Wr} {dn : Bool} {lf : Nat}

/-- Two of a disk's cells turned. -/
theorem Dk.put2 (h : Dk base w db sb vw S Q dn lf) (b : Bool) : Dk base (w.setCell ⟨db, 2, none⟩ (.bool b)) db sb vw S Q b lf := by
  have h1 := set_at (k := 2) (.bool b) h.hd
  refine ⟨h.lo, h1, (Below.heap_setCell _ ⟨db, 2, none⟩ _ sb (fun e => h.apart.1 e.symm)).trans h.sh, h.wa.kept (grown_set w ⟨db, 2, none⟩ (.bool b)) (.inr h.apart.2.1), h.len, h.ok, h.few⟩
theorem Dk.put3 (h : Dk base w db sb vw S Q dn lf) : Dk base (w.setCell ⟨db, 3, none⟩ (.int .i64 0)) db sb vw S Q dn 0 := by
  have h1 := set_at (k := 3) (.int .i64 0) h.hd
  refine ⟨h.lo, h1, (Below.heap_setCell _ ⟨db, 3, none⟩ _ sb (fun e => h.apart.1 e.symm)).trans h.sh, h.wa.kept (grown_set w ⟨db, 3, none⟩ (.int .i64 0)) (.inr h.apart.2.1), h.len, h.ok, h.few⟩

set_option maxHeartbeats 4000000 in
theorem crash_any (h : Dk base w db sb vw S Q dn lf) (x : Value) (ks : List Int) (hx : Rws 1 w x (ks.map fun z => [.int .i64 z])) (hq : Q.length ≤ 100000) :
    Calls Try.prog 19 #[.pointer (some ⟨db, 0, none⟩), x] w (fun e w' => e = .returned (.int .i64 0) ∧ Dk base w' db sb (.slice none 0 0) (layM (tbM S Q.reverse) Q ks) [] true lf ∧ Below base w w') := by
  have CF0 := fall_any h x ks hx hq
  generalize layM (tbM S Q.reverse) Q ks = SL at *
  have CF := hid CF0
  clear CF0
  have H := hid h
  obtain ⟨xo, xc, hxe, -⟩ := hx.form
  rw [List.length_map] at hxe
  subst hxe
  clear h hx
  go_enter Try.func19, Try.ntmps19
  go_wp2_with (first | (go_at_call 38; refine CF.out.mono ?_))
  rintro e w2 ⟨rfl, hD, hb⟩
  have HD := hid hD
  have HB := hid hb
  obtain ⟨c0, c1, c2, c3, f0, f1, f2, f3⟩ := four_cells hD.hd
  clear hD hb
  go_wp2_with fail
  go_ret
  exact ⟨rfl, HD.out.put2 true, HB.out.setCell H.out.lo.1 _⟩

set_option maxHeartbeats 4000000 in
theorem start_down (h : Dk base w db sb (.slice none 0 0) S [] true lf) (hS : S.length ≤ 65536) :
    Calls Try.prog 22 #[.pointer (some ⟨db, 0, none⟩)] w (fun e w' => e = .returned (.int .i64 0) ∧ Dk base w' db sb (.slice none 0 0) S [] false 0 ∧ Below base w w') := by
  have CD := hid (down_any h)
  have CF : Hid (Calls Try.prog 38 #[.pointer (some ⟨db, 0, none⟩), .slice none 0 0] w (fun e w' => e = .returned (.tuple #[]) ∧ Dk base w' db sb (.slice none 0 0) S [] true lf ∧ Below base w w')) :=
    fall_any h (.slice none 0 0) [] (Rws.nil 1 w) (by simp)
  have H := hid h
  clear h
  go_enter Try.func22, Try.ntmps22
  go_wp2_with (first
    | (go_at_call 29; refine CD.out.mono ?_; rintro e w2 ⟨rfl, rfl⟩)
    | (go_at_call 38; refine CF.out.mono ?_))
  rintro e w2 ⟨rfl, hD, hb⟩
  have HD := hid hD
  have HB := hid hb
  obtain ⟨c0, c1, c2, c3, f0, f1, f2, f3⟩ := four_cells hD.hd
  have hD2 := hD.put2 false
  obtain ⟨g0, g1, g2, g3, k0, k1, k2, k3⟩ := four_cells hD2.hd
  have HD2 := hid hD2
  clear hD hb hD2
  go_wp2_with fail
  go_ret
  exact ⟨rfl, HD2.out.put3, (HB.out.setCell H.out.lo.1 _).setCell H.out.lo.1 _⟩
end
end Go.Proofs.Ythefklmfnokhiaa
