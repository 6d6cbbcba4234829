/-
  LAYER 12, THE HELPER's In at numbers; THE DOCUMENT's places.
-/
import Derived.Test.YtafcbelkhhjcoaaSb
set_option linter.unusedVariables false
set_option linter.unusedSimpArgs false
set_option maxRecDepth 100000
namespace Go.Proofs.Ytafcbelkhhjcoaa
open Go.RowKit Go.Deep

theorem zs_cells {w : World} {x : Value} {l : List Int} (h : Rws 1 w x (l.map zRow)) : ∃ ao c, x = .slice ao l.length c ∧ l.length ≤ c ∧ c ≤ maxLen ∧ ∀ (k : Nat) z, l[k]? = some z → ∃ b off, ao = some ⟨b, off, none⟩ ∧ w.cell? ⟨b, off + k, none⟩ = some (.int .i64 z) := by
  obtain ⟨ao, c, rfl, h1, h2⟩ := h.form
  rw [List.length_map] at h h1
  refine ⟨ao, c, by rw [List.length_map], h1, h2, fun k z hk => ?_⟩
  obtain ⟨b, off, rfl, h3⟩ := h.get (by decide) (k := k) (r := zRow z) (by rw [List.getElem?_map, hk]; rfl)
  refine ⟨b, off, rfl, ?_⟩
  have := h3 0 (.int .i64 z) rfl
  rwa [Nat.mul_one, Nat.add_zero] at this

theorem contains_take {l : List Int} {k : Nat} {z u : Int} (h : l[k]? = some u) (h0 : (l.take k).contains z = false) : (l.take (k + 1)).contains z = (u == z) := by
  rw [List.take_add_one, h]
  show (l.take k ++ [u]).contains z = _
  rw [List.contains_eq_any_beq] at h0 ⊢
  rw [List.any_append, h0]
  simp only [List.any_cons, List.any_nil, Bool.or_false, Bool.false_or]
  rw [Bool.eq_iff_iff, beq_iff_eq, beq_iff_eq]
  exact ⟨Eq.symm, Eq.symm⟩

set_option maxHeartbeats 2000000 in
theorem inInt_any (w : World) {x : Value} {l : List Int} (hx : Rws 1 w x (l.map zRow)) (z : Int) : Calls Try.prog 63 #[x, .int .i64 z] w (fun e w' => e = .returned (.bool (l.contains z)) ∧ w' = w) := by
  obtain ⟨ao, c, rfl, h1, h2, hc⟩ := zs_cells hx
  have hlm : l.length ≤ 9223372036854775807 := by unfold maxLen at h2; omega
  have HC := hid hc
  clear hx hc
  go_enter Try.func63, Try.ntmps63
  go_wp2
  go_loopw [5] (fun j wr => ∃ k : Nat, k ≤ l.length ∧ j = .int .i64 (k : Int) ∧ wr = w ∧ (l.take k).contains z = false)
    (fun j _ => l.length - (intOf j).toNat)
  case atStart => exact ⟨0, by omega, rfl, rfl, by simp⟩
  case round =>
    obtain ⟨k, hk, rfl, rfl, ha⟩ := hrel
    have HA := hid ha
    clear ha
    by_cases hlt : k < l.length
    · obtain ⟨u, hu⟩ : ∃ u, l[k]? = some u := ⟨_, List.getElem?_eq_getElem hlt⟩
      obtain ⟨b, off, rfl, hcell⟩ := HC.out k u hu
      have HT := hid (contains_take hu HA.out)
      have HU := hid hu
      clear hu
      have HM : Hid (u = z → l.contains z = true) := hid (fun e => by subst e; simp only [List.contains_eq_mem, decide_eq_true_eq]; exact List.mem_of_getElem? HU.out)
      by_cases huz : u = z
      · have HR := hid (HM.out huz)
        subst huz
        clear HM HT
        go_wp2_with fail
        go_ret
        exact ⟨by rw [HR.out]; rfl, rfl⟩
      · have hb : (u == z) = false := by simp [huz]
        rw [hb] at HT
        go_wp2_with fail
        go_roundw
        case rel => exact ⟨k + 1, by omega, by go_num, trivial, HT.out⟩
        case measure => simp [intOf]; omega
    · obtain rfl : k = l.length := by omega
      rw [List.take_length] at HA
      go_wp2_with fail
      go_ret
      exact ⟨by rw [HA.out]; rfl, rfl⟩

theorem plcs_at {n : Int} {l : List Int} {k : Nat} {z : Int} (h : l[k]? = some z) : plcs n (l.take k) (l.drop k) = (!(decide (z < 0) || decide (n ≤ z) || (l.take k).contains z) && plcs n (l.take (k + 1)) (l.drop (k + 1))) := by
  obtain ⟨hk, rfl⟩ := List.getElem?_eq_some_iff.1 h
  rw [List.drop_eq_getElem_cons hk, plcs, List.take_add_one, List.getElem?_eq_getElem hk]
  rfl

theorem drew_more {w wr : World} (h : ∃ q, wr = w.drewN q) (n : Nat) : ∃ q, wr.drewN n = w.drewN q := by
  obtain ⟨q, rfl⟩ := h
  exact ⟨q + n, by simp [World.drewN, Nat.add_assoc]⟩

set_option maxHeartbeats 4000000 in
theorem rPlaces_quiet (w : World) {x : Value} {l : List Int} (hx : Rws 1 w x (l.map zRow)) (n : Int) : Calls Try.prog 100 #[x, .int .i64 n] w (fun e w' => e = .returned (.bool (placesB l n)) ∧ ∃ q, w' = w.drewN q) := by
  obtain ⟨ao, c, rfl, h1, h2, hc⟩ := zs_cells hx
  have hlm : l.length ≤ 9223372036854775807 := by unfold maxLen at h2; omega
  have HC := hid hc
  have HX := hid hx
  clear hx hc
  go_enter Try.func100, Try.ntmps100
  go_wp2
  go_loopw [5] (fun j wr => ∃ k : Nat, k ≤ l.length ∧ j = .int .i64 (k : Int) ∧ (∃ q, wr = w.drewN q) ∧ plcs n (l.take k) (l.drop k) = plcs n [] l)
    (fun j _ => l.length - (intOf j).toNat)
  case atStart => exact ⟨0, by omega, rfl, ⟨0, rfl⟩, rfl⟩
  case round =>
    obtain ⟨k, hk, rfl, hb, ha⟩ := hrel
    have HA := hid ha
    have HQW := hid hb
    have HB : Hid (Below w.heap.size w wr) := hid (by obtain ⟨q, rfl⟩ := hb; exact ⟨rfl, rfl, rfl, Nat.le_refl _, fun _ _ => rfl⟩)
    clear ha hb
    by_cases hlt : k < l.length
    · obtain ⟨u, hu⟩ : ∃ u, l[k]? = some u := ⟨_, List.getElem?_eq_getElem hlt⟩
      obtain ⟨b, off, rfl, hcell⟩ := HC.out k u hu
      have hcl : wr.cell? ⟨b, off + k, none⟩ = some (.int .i64 u) := by
        rw [← hcell]; exact HB.out.cell (World.block_lt_of_cell? w _ hcell)
      have hkl : (k : Int) < (l.length : Int) := by omega
      obtain ⟨ao2, c2, hsl, hr2, -⟩ := HX.out.head (P := Try.prog) 31 3 Try.underlying31 (by kernel_rfl) k (by rw [List.length_map]; omega)
      have hslk : ∀ W, (Instr.slice 31 (.slice (some ⟨b, off, none⟩) l.length c) none (some (.int .i64 (k : Int))) none).run Try.prog W = .ok (.slice ao2 k c2) W := fun W => hsl _ W
      have hr3 : ∀ W, Below w.heap.size w W → Rws 1 W (.slice ao2 k c2) ((l.take k).map zRow) := fun W hW => by rw [List.map_take]; exact hr2.old hW
      clear hsl hr2
      have HIN : Hid (∀ q, Calls Try.prog 63 #[.slice ao2 k c2, .int .i64 u] (wr.drewN q) (fun e w' => e = .returned (.bool ((l.take k).contains u)) ∧ w' = wr.drewN q)) :=
        hid fun q => inInt_any (wr.drewN q) (hr3 _ ⟨HB.out.os, HB.out.tape, HB.out.output, HB.out.size, HB.out.block⟩) u
      clear hr3
      have HP := hid (plcs_at (n := n) hu)
      rw [HA.out] at HP
      generalize hq0 : (l.take k).contains u = q0 at *
      have HQ0 := hid hq0
      clear hq0 hcell hu
      go_upto_region 4 with fail
      cases hb1 : decide (u < 0) with
      | true =>
        have HF : Hid (placesB l n = false) := hid (by unfold placesB; rw [HP.out, hb1]; rfl)
        go_quiet (fail)
        go_wp2_with fail
        go_ret
        exact ⟨by rw [HF.out]; rfl, drew_more HQW.out _⟩
      | false =>
        cases hb2 : decide (n ≤ u) with
        | true =>
          have HF : Hid (placesB l n = false) := hid (by unfold placesB; rw [HP.out, hb1, hb2]; rfl)
          go_quiet (fail)
          go_wp2_with fail
          go_ret
          exact ⟨by rw [HF.out]; rfl, drew_more HQW.out _⟩
        | false =>
          cases q0 with
          | true =>
            have HF : Hid (placesB l n = false) := hid (by unfold placesB; rw [HP.out, hb1, hb2]; rfl)
            go_quiet ((go_at_call 63; exact Calls.quiet_of_same (HIN.out _)))
            go_wp2_with fail
            go_ret
            exact ⟨by rw [HF.out]; rfl, drew_more HQW.out _⟩
          | false =>
            rw [hb1, hb2] at HP
            go_quiet ((go_at_call 63; exact Calls.quiet_of_same (HIN.out _)))
            go_wp2_with fail
            go_roundw
            case rel => exact ⟨k + 1, by omega, by go_num, drew_more HQW.out _, by rw [HP.out]; rfl⟩
            case measure => simp [intOf]; omega
    · obtain rfl : k = l.length := by omega
      rw [List.take_length, List.drop_length] at HA
      have HP : Hid (placesB l n = (decide (1 ≤ l.length) && decide (l.length ≤ 6))) := hid (by unfold placesB; rw [← HA.out]; rfl)
      clear HA
      by_cases h1 : 1 ≤ l.length
      · by_cases h2 : l.length ≤ 6
        · have h3 : (l.length : Int) ≤ 6 := by omega
          have HR : Hid (placesB l n = true) := hid (by rw [HP.out]; simp [h1, h2])
          go_wp2_with fail
          go_ret
          exact ⟨by rw [HR.out]; rfl, HQW.out⟩
        · have h3 : ¬ (l.length : Int) ≤ 6 := by omega
          have HR : Hid (placesB l n = false) := hid (by rw [HP.out]; simp [h1, h2])
          go_wp2_with fail
          go_ret
          exact ⟨by rw [HR.out]; rfl, HQW.out⟩
      · have h3 : l.length = 0 := by omega
        have h4 : ¬ 1 ≤ (l.length : Int) := by omega
        have HR : Hid (placesB l n = false) := hid (by rw [HP.out]; simp [h1])
        go_wp2_with fail
        go_ret
        exact ⟨by rw [HR.out]; rfl, HQW.out⟩
theorem rPlaces_any (w : World) {x : Value} {l : List Int} (hx : Rws 1 w x (l.map zRow)) (n : Int) : Calls Try.prog 100 #[x, .int .i64 n] w (fun e w' => e = .returned (.bool (placesB l n)) ∧ Below w.heap.size w w') :=
  (rPlaces_quiet w hx n).mono fun e w' ⟨h1, q, h2⟩ => ⟨h1, by subst h2; exact ⟨rfl, rfl, rfl, Nat.le_refl _, fun _ _ => rfl⟩⟩
end Go.Proofs.Ytafcbelkhhjcoaa
