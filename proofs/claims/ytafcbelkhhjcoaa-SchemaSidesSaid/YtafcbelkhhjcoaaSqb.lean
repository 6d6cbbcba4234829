/-
  LAYER 12, THE CODE's: mayBe, unlike, rise, and what these call.
-/
import Derived.Test.YtafcbelkhhjcoaaSqa
import Derived.Test.YtafcbelkhhjcoaaSc
set_option linter.unusedVariables false
set_option linter.unusedSimpArgs false
set_option maxRecDepth 100000
namespace Go.Proofs.Ytafcbelkhhjcoaa
open Go.RowKit Go.Deep

set_option maxHeartbeats 2000000 in
theorem mayBe_any (w : World) (s : List UInt8) (hs : s.length ≤ 140737488355328) : Calls Try.prog 190 #[.string ⟨s.toArray⟩] w (fun e w' => e = .returned (.bool (nameB s)) ∧ w' = w) := by
  have hsz := size_str s
  go_enter Try.func190, Try.ntmps190
  by_cases h1 : (s.length : Int) < 1
  · have HB : Hid (nameB s = false) := hid (by unfold nameB; rw [decide_eq_false (by omega : ¬ 1 ≤ s.length)]; simp)
    go_wp2_with fail
    go_ret
    exact ⟨by rw [HB.out]; rfl, rfl⟩
  by_cases h2 : (20 : Int) < s.length
  · have HB : Hid (nameB s = false) := hid (by unfold nameB; rw [decide_eq_false (by omega : ¬ s.length ≤ 20)]; simp)
    go_wp2_with fail
    go_ret
    exact ⟨by rw [HB.out]; rfl, rfl⟩
  go_wp2_with fail
  go_loopw [15] (fun j wr => ∃ k : Nat, k ≤ s.length ∧ j = .int .i64 (k : Int) ∧ wr = w ∧ (s.take k).all (fun c => okByte c.toNat) = true)
    (fun j _ => s.length - (intOf j).toNat)
  case atStart => exact ⟨0, by omega, rfl, rfl, rfl⟩
  case round =>
    obtain ⟨k, hk, rfl, rfl, ha⟩ := hrel
    have HA := hid ha
    clear ha
    by_cases hlt : k < s.length
    · have hidx := idx_str (P := Try.prog) 9 Try.underlying9 s k hlt
      have HT := hid (all_take hlt HA.out)
      have hc256 := UInt8.toNat_lt s[k]
      have HN : Hid (okByte s[k].toNat = false → nameB s = false) := hid (fun h => by
        have h9 : s.all (fun c => okByte c.toNat) = false := by
          rw [List.all_eq_false]; exact ⟨s[k], List.getElem_mem hlt, by simpa using h⟩
        unfold nameB; rw [h9]; rfl)
      generalize s[k].toNat = c at *
      have go : ∀ (b1 b2 b3 b4 b5 : Bool), decide ((c : Int) < 97) = b1 → decide ((122 : Int) < c) = b2 → decide ((c : Int) < 48) = b3 → decide ((57 : Int) < c) = b4 → ((c : Int) == 95) = b5 → Hid (okByte c = (!b1 && !b2 || !b3 && !b4 || b5)) := by
        rintro _ _ _ _ _ rfl rfl rfl rfl rfl
        refine hid ?_
        unfold okByte
        have e1 : (!decide ((c : Int) < 97)) = decide (97 ≤ c) := by rw [← decide_not]; congr 1; simp; omega
        have e2 : (!decide ((122 : Int) < c)) = decide (c ≤ 122) := by rw [← decide_not]; congr 1; simp; omega
        have e3 : (!decide ((c : Int) < 48)) = decide (48 ≤ c) := by rw [← decide_not]; congr 1; simp; omega
        have e4 : (!decide ((57 : Int) < c)) = decide (c ≤ 57) := by rw [← decide_not]; congr 1; simp; omega
        have e5 : ((c : Int) == 95) = decide (c = 95) := by rw [Bool.eq_iff_iff]; simp; omega
        rw [e1, e2, e3, e4, e5]
      cases hb1 : decide ((c : Int) < 97) <;> cases hb2 : decide ((122 : Int) < c) <;> cases hb3 : decide ((c : Int) < 48) <;> cases hb4 : decide ((57 : Int) < c) <;> cases hb5 : ((c : Int) == 95)
      all_goals
        have HG := go _ _ _ _ _ hb1 hb2 hb3 hb4 hb5
        clear go
        first
        | (exfalso; simp only [decide_eq_true_eq, decide_eq_false_iff_not, beq_iff_eq, beq_eq_false_iff_ne] at hb1 hb2 hb3 hb4 hb5; omega)
        | (go_wp2_with fail
           go_roundw
           case rel => exact ⟨k + 1, by omega, by go_num, trivial, by rw [HT.out]; exact HG.out⟩
           case measure => simp [intOf]; omega)
        | (go_wp2_with fail
           go_ret
           exact ⟨by rw [HN.out HG.out]; rfl, rfl⟩)
    · obtain rfl : k = s.length := by omega
      rw [List.take_length] at HA
      have HB : Hid (nameB s = true) := hid (by unfold nameB; rw [HA.out, decide_eq_true (by omega : 1 ≤ s.length), decide_eq_true (by omega : s.length ≤ 20)]; rfl)
      clear HA
      go_wp2_with fail
      go_ret
      exact ⟨by rw [HB.out]; rfl, rfl⟩

def sRow (s : List UInt8) : List Value := [.string ⟨s.toArray⟩]
theorem ss_cells {w : World} {x : Value} {l : List (List UInt8)} (h : Rws 1 w x (l.map sRow)) : ∃ ao c, x = .slice ao l.length c ∧ l.length ≤ c ∧ c ≤ maxLen ∧ ∀ (k : Nat) z, l[k]? = some z → ∃ b off, ao = some ⟨b, off, none⟩ ∧ w.cell? ⟨b, off + k, none⟩ = some (.string ⟨z.toArray⟩) := by
  obtain ⟨ao, c, rfl, h1, h2⟩ := h.form
  rw [List.length_map] at h h1
  refine ⟨ao, c, by rw [List.length_map], h1, h2, fun k z hk => ?_⟩
  obtain ⟨b, off, rfl, h3⟩ := h.get (by decide) (k := k) (r := sRow z) (by rw [List.getElem?_map, hk]; rfl)
  refine ⟨b, off, rfl, ?_⟩
  have := h3 0 (.string ⟨z.toArray⟩) rfl
  rwa [Nat.mul_one, Nat.add_zero] at this

theorem contains_take2 {α : Type} [BEq α] [LawfulBEq α] {l : List α} {k : Nat} {z u : α} (h : l[k]? = some u) (h0 : (l.take k).contains z = false) : (l.take (k + 1)).contains z = (z == u) := by
  rw [List.take_add_one, h]
  show (l.take k ++ [u]).contains z = _
  rw [List.contains_eq_any_beq] at h0 ⊢
  rw [List.any_append, h0]
  simp only [List.any_cons, List.any_nil, Bool.or_false, Bool.false_or]
theorem contains_mem2 {α : Type} [BEq α] [LawfulBEq α] {l : List α} {k : Nat} {u : α} (h : l[k]? = some u) : l.contains u = true := by
  rw [List.contains_iff_mem]; exact List.mem_of_getElem? h
theorem unl_at {α : Type} [BEq α] {l : List α} {k : Nat} {z : α} (h : l[k]? = some z) : unl (l.take k) (l.drop k) = (!(l.take k).contains z && unl (l.take (k + 1)) (l.drop (k + 1))) := by
  obtain ⟨hk, rfl⟩ := List.getElem?_eq_some_iff.1 h
  rw [List.drop_eq_getElem_cons hk, unl, List.take_add_one, List.getElem?_eq_getElem hk]
  rfl
theorem rs_at {e a : Int} {l : List Int} {k : Nat} {z : Int} (h : l[k]? = some z) : rsB e a (l.drop k) = (!(decide (z ≤ a) || decide (e ≤ z)) && rsB e z (l.drop (k + 1))) := by
  obtain ⟨hk, rfl⟩ := List.getElem?_eq_some_iff.1 h
  rw [List.drop_eq_getElem_cons hk, rsB]

set_option maxHeartbeats 2000000 in
theorem idxInt_any (w : World) {x : Value} {l : List Int} (hx : Rws 1 w x (l.map zRow)) (z : Int) : Calls Try.prog 255 #[x, .int .i64 z] w (fun e w' => ∃ i : Int, e = .returned (.int .i64 i) ∧ decide (0 ≤ i) = l.contains z ∧ w' = w) := by
  obtain ⟨ao, c, rfl, h1, h2, hc⟩ := zs_cells hx
  have hlm : l.length ≤ 9223372036854775807 := by unfold maxLen at h2; omega
  have HC := hid hc
  clear hx hc
  go_enter Try.func255, Try.ntmps255
  go_wp2
  go_loopw [8] (fun j wr => ∃ k : Nat, k ≤ l.length ∧ j = .int .i64 (k : Int) ∧ wr = w ∧ (l.take k).contains z = false)
    (fun j _ => l.length - (intOf j).toNat)
  case atStart => exact ⟨0, by omega, rfl, rfl, by simp⟩
  case round =>
    obtain ⟨k, hk, rfl, rfl, ha⟩ := hrel
    have HA := hid ha
    clear ha
    by_cases hlt : k < l.length
    · obtain ⟨u, hu⟩ : ∃ u, l[k]? = some u := ⟨_, List.getElem?_eq_getElem hlt⟩
      obtain ⟨b, off, rfl, hcell⟩ := HC.out k u hu
      have HT := hid (contains_take2 hu HA.out)
      have HM := hid (contains_mem2 hu)
      clear hu
      cases hb : (z == u) with
      | true =>
        obtain rfl : z = u := by simpa using hb
        clear hb HT
        go_wp2_with fail
        go_ret
        exact ⟨k, rfl, by rw [HM.out]; simp, rfl⟩
      | false =>
        rw [hb] at HT
        go_wp2_with fail
        go_roundw
        case rel => exact ⟨k + 1, by omega, by go_num, trivial, HT.out⟩
        case measure => simp [intOf]; omega
    · obtain rfl : k = l.length := by omega
      rw [List.take_length] at HA
      go_wp2_with fail
      go_ret
      exact ⟨-1, rfl, by rw [HA.out]; rfl, rfl⟩

set_option maxHeartbeats 2000000 in
theorem hasInt_any (w : World) {x : Value} {l : List Int} (hx : Rws 1 w x (l.map zRow)) (z : Int) : Calls Try.prog 225 #[x, .int .i64 z] w (fun e w' => e = .returned (.bool (l.contains z)) ∧ w' = w) := by
  have C := hid (idxInt_any w hx z)
  clear hx
  go_enter Try.func225, Try.ntmps225
  go_wp2_with (first | (go_at_call 255; refine C.out.mono ?_; rintro en w2 ⟨i, rfl, hi, rfl⟩; have HI := hid hi; clear hi))
  go_ret
  exact ⟨by rw [← HI.out]; rfl, rfl⟩

set_option maxHeartbeats 2000000 in
theorem idxStr_any (w : World) {x : Value} {l : List (List UInt8)} (hx : Rws 1 w x (l.map sRow)) (z : List UInt8) : Calls Try.prog 256 #[x, .string ⟨z.toArray⟩] w (fun e w' => ∃ i : Int, e = .returned (.int .i64 i) ∧ decide (0 ≤ i) = l.contains z ∧ w' = w) := by
  obtain ⟨ao, c, rfl, h1, h2, hc⟩ := ss_cells hx
  have hlm : l.length ≤ 9223372036854775807 := by unfold maxLen at h2; omega
  have HC := hid hc
  clear hx hc
  go_enter Try.func256, Try.ntmps256
  go_wp2
  go_loopw [8] (fun j wr => ∃ k : Nat, k ≤ l.length ∧ j = .int .i64 (k : Int) ∧ wr = w ∧ (l.take k).contains z = false)
    (fun j _ => l.length - (intOf j).toNat)
  case atStart => exact ⟨0, by omega, rfl, rfl, by simp⟩
  case round =>
    obtain ⟨k, hk, rfl, rfl, ha⟩ := hrel
    have HA := hid ha
    clear ha
    by_cases hlt : k < l.length
    · obtain ⟨u, hu⟩ : ∃ u, l[k]? = some u := ⟨_, List.getElem?_eq_getElem hlt⟩
      obtain ⟨b, off, rfl, hcell⟩ := HC.out k u hu
      have HT := hid (contains_take2 hu HA.out)
      have HM := hid (contains_mem2 hu)
      clear hu
      cases hb : (z == u) with
      | true =>
        obtain rfl : z = u := by simpa using hb
        clear hb HT
        go_wp2_with fail
        go_ret
        exact ⟨k, rfl, by rw [HM.out]; simp, rfl⟩
      | false =>
        rw [hb] at HT
        go_wp2_with fail
        go_roundw
        case rel => exact ⟨k + 1, by omega, by go_num, trivial, HT.out⟩
        case measure => simp [intOf]; omega
    · obtain rfl : k = l.length := by omega
      rw [List.take_length] at HA
      go_wp2_with fail
      go_ret
      exact ⟨-1, rfl, by rw [HA.out]; rfl, rfl⟩

set_option maxHeartbeats 2000000 in
theorem hasStr_any (w : World) {x : Value} {l : List (List UInt8)} (hx : Rws 1 w x (l.map sRow)) (z : List UInt8) : Calls Try.prog 227 #[x, .string ⟨z.toArray⟩] w (fun e w' => e = .returned (.bool (l.contains z)) ∧ w' = w) := by
  have C := hid (idxStr_any w hx z)
  clear hx
  go_enter Try.func227, Try.ntmps227
  go_wp2_with (first | (go_at_call 256; refine C.out.mono ?_; rintro en w2 ⟨i, rfl, hi, rfl⟩; have HI := hid hi; clear hi))
  go_ret
  exact ⟨by rw [← HI.out]; rfl, rfl⟩

set_option maxHeartbeats 2000000 in
theorem unlInt_any (w : World) {x : Value} {l : List Int} (hx : Rws 1 w x (l.map zRow)) : Calls Try.prog 173 #[x] w (fun e w' => e = .returned (.bool (unl [] l)) ∧ w' = w) := by
  obtain ⟨ao, c, rfl, h1, h2, hc⟩ := zs_cells hx
  have hlm : l.length ≤ 9223372036854775807 := by unfold maxLen at h2; omega
  have HC := hid hc
  have HX := hid hx
  clear hx hc
  go_enter Try.func173, Try.ntmps173
  go_wp2
  go_loopw [7] (fun j wr => ∃ k : Nat, k ≤ l.length ∧ j = .int .i64 (k : Int) ∧ wr = w ∧ unl (l.take k) (l.drop k) = unl [] l)
    (fun j _ => l.length - (intOf j).toNat)
  case atStart => exact ⟨0, by omega, rfl, rfl, rfl⟩
  case round =>
    obtain ⟨k, hk, rfl, rfl, ha⟩ := hrel
    have HA := hid ha
    clear ha
    by_cases hlt : k < l.length
    · obtain ⟨u, hu⟩ : ∃ u, l[k]? = some u := ⟨_, List.getElem?_eq_getElem hlt⟩
      obtain ⟨b, off, rfl, hcell⟩ := HC.out k u hu
      obtain ⟨ao2, c2, hsl, hr2, -⟩ := HX.out.head (P := Try.prog) 31 3 Try.underlying31 (by kernel_rfl) k (by rw [List.length_map]; omega)
      have hslk : ∀ W, (Instr.slice 31 (.slice (some ⟨b, off, none⟩) l.length c) none (some (.int .i64 (k : Int))) none).run Try.prog W = .ok (.slice ao2 k c2) W := fun W => hsl _ W
      have HCC := hid (hasInt_any wr (x := .slice ao2 k c2) (l := l.take k) (by rw [List.map_take]; exact hr2) u)
      have HP := hid (unl_at hu)
      rw [HA.out] at HP
      clear hsl hr2 hu
      generalize (l.take k).contains u = q0 at *
      cases q0 with
      | true =>
        have HP' : Hid (unl [] l = false) := hid (by rw [HP.out]; rfl)
        clear HP
        go_wp2_with (first | (go_at_call 225; refine HCC.out.mono ?_; rintro en w2 ⟨rfl, rfl⟩))
        go_ret
        exact ⟨by rw [HP'.out]; rfl, rfl⟩
      | false =>
        go_wp2_with (first | (go_at_call 225; refine HCC.out.mono ?_; rintro en w2 ⟨rfl, rfl⟩))
        go_roundw
        case rel => exact ⟨k + 1, by omega, by go_num, trivial, by rw [HP.out]; rfl⟩
        case measure => simp [intOf]; omega
    · obtain rfl : k = l.length := by omega
      have HB : Hid (unl [] l = true) := hid (by rw [← HA.out, List.drop_length]; rfl)
      go_wp2_with fail
      go_ret
      exact ⟨by rw [HB.out]; rfl, rfl⟩

set_option maxHeartbeats 2000000 in
theorem unlStr_any (w : World) {x : Value} {l : List (List UInt8)} (hx : Rws 1 w x (l.map sRow)) : Calls Try.prog 179 #[x] w (fun e w' => e = .returned (.bool (unl [] l)) ∧ w' = w) := by
  obtain ⟨ao, c, rfl, h1, h2, hc⟩ := ss_cells hx
  have hlm : l.length ≤ 9223372036854775807 := by unfold maxLen at h2; omega
  have HC := hid hc
  have HX := hid hx
  clear hx hc
  go_enter Try.func179, Try.ntmps179
  go_wp2
  go_loopw [7] (fun j wr => ∃ k : Nat, k ≤ l.length ∧ j = .int .i64 (k : Int) ∧ wr = w ∧ unl (l.take k) (l.drop k) = unl [] l)
    (fun j _ => l.length - (intOf j).toNat)
  case atStart => exact ⟨0, by omega, rfl, rfl, rfl⟩
  case round =>
    obtain ⟨k, hk, rfl, rfl, ha⟩ := hrel
    have HA := hid ha
    clear ha
    by_cases hlt : k < l.length
    · obtain ⟨u, hu⟩ : ∃ u, l[k]? = some u := ⟨_, List.getElem?_eq_getElem hlt⟩
      obtain ⟨b, off, rfl, hcell⟩ := HC.out k u hu
      obtain ⟨ao2, c2, hsl, hr2, -⟩ := HX.out.head (P := Try.prog) 182 9 Try.underlying182 (by kernel_rfl) k (by rw [List.length_map]; omega)
      have hslk : ∀ W, (Instr.slice 182 (.slice (some ⟨b, off, none⟩) l.length c) none (some (.int .i64 (k : Int))) none).run Try.prog W = .ok (.slice ao2 k c2) W := fun W => hsl _ W
      have HCC := hid (hasStr_any wr (x := .slice ao2 k c2) (l := l.take k) (by rw [List.map_take]; exact hr2) u)
      have HP := hid (unl_at hu)
      rw [HA.out] at HP
      clear hsl hr2 hu
      generalize (l.take k).contains u = q0 at *
      cases q0 with
      | true =>
        have HP' : Hid (unl [] l = false) := hid (by rw [HP.out]; rfl)
        clear HP
        go_wp2_with (first | (go_at_call 227; refine HCC.out.mono ?_; rintro en w2 ⟨rfl, rfl⟩))
        go_ret
        exact ⟨by rw [HP'.out]; rfl, rfl⟩
      | false =>
        go_wp2_with (first | (go_at_call 227; refine HCC.out.mono ?_; rintro en w2 ⟨rfl, rfl⟩))
        go_roundw
        case rel => exact ⟨k + 1, by omega, by go_num, trivial, by rw [HP.out]; rfl⟩
        case measure => simp [intOf]; omega
    · obtain rfl : k = l.length := by omega
      have HB : Hid (unl [] l = true) := hid (by rw [← HA.out, List.drop_length]; rfl)
      go_wp2_with fail
      go_ret
      exact ⟨by rw [HB.out]; rfl, rfl⟩

set_option maxHeartbeats 2000000 in
theorem rise_any (w : World) {x : Value} {l : List Int} (hx : Rws 1 w x (l.map zRow)) (z : Int) : Calls Try.prog 172 #[x, .int .i64 z] w (fun e w' => e = .returned (.bool (rsB z 0 l)) ∧ w' = w) := by
  obtain ⟨ao, c, rfl, h1, h2, hc⟩ := zs_cells hx
  have hlm : l.length ≤ 9223372036854775807 := by unfold maxLen at h2; omega
  have HC := hid hc
  clear hx hc
  go_enter Try.func172, Try.ntmps172
  go_wp2
  go_loopw [5, 10] (fun v j wr => ∃ (k : Nat) (a : Int), k ≤ l.length ∧ j = .int .i64 (k : Int) ∧ v = .int .i64 a ∧ wr = w ∧ rsB z a (l.drop k) = rsB z 0 l)
    (fun _ j _ => l.length - (intOf j).toNat)
  case atStart => exact ⟨0, 0, by omega, rfl, rfl, rfl, rfl⟩
  case round =>
    obtain ⟨k, a, hk, rfl, rfl, rfl, ha⟩ := hrel
    have HA := hid ha
    clear ha
    by_cases hlt : k < l.length
    · obtain ⟨u, hu⟩ : ∃ u, l[k]? = some u := ⟨_, List.getElem?_eq_getElem hlt⟩
      obtain ⟨b, off, rfl, hcell⟩ := HC.out k u hu
      have HP := hid (rs_at (e := z) (a := a) hu)
      rw [HA.out] at HP
      clear hu
      by_cases hb1 : u ≤ a
      · have HP' : Hid (rsB z 0 l = false) := hid (by rw [HP.out, decide_eq_true hb1]; rfl)
        clear HP
        go_wp2_with fail
        go_ret
        exact ⟨by rw [HP'.out]; rfl, rfl⟩
      by_cases hb2 : z ≤ u
      · have HP' : Hid (rsB z 0 l = false) := hid (by rw [HP.out, decide_eq_true hb2, decide_eq_false hb1]; rfl)
        clear HP
        go_wp2_with fail
        go_ret
        exact ⟨by rw [HP'.out]; rfl, rfl⟩
      have HP' : Hid (rsB z 0 l = rsB z u (l.drop (k + 1))) := hid (by rw [HP.out, decide_eq_false hb2, decide_eq_false hb1]; rfl)
      clear HP
      go_wp2_with fail
      go_roundw
      case rel => exact ⟨k + 1, u, by omega, by go_num, rfl, by first | trivial | rfl, by rw [HP'.out]⟩
      case measure => simp [intOf]; omega
    · obtain rfl : k = l.length := by omega
      have HB : Hid (rsB z 0 l = true) := hid (by rw [← HA.out, List.drop_length]; rfl)
      go_wp2_with fail
      go_ret
      exact ⟨by rw [HB.out]; rfl, rfl⟩
end Go.Proofs.Ytafcbelkhhjcoaa
