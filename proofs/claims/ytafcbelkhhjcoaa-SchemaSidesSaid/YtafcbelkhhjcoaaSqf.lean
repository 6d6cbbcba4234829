/-
  LAYER 12, THE CODE's: columnsFit, keyFits, tableFits, indexFits.
-/
import Derived.Test.YtafcbelkhhjcoaaSqe
set_option linter.unusedVariables false
set_option linter.unusedSimpArgs false
set_option maxRecDepth 100000
namespace Go.Proofs.Ytafcbelkhhjcoaa
open Go.RowKit Go.Deep

theorem all_no {α : Type} {p : α → Bool} {l : List α} {k : Nat} {c : α} (h : l[k]? = some c) (hp : p c = false) : l.all p = false := by
  rw [List.all_eq_false]; exact ⟨c, List.mem_of_getElem? h, by simpa using hp⟩

set_option maxHeartbeats 4000000 in
theorem colsFit_any (w : World) {x : Value} {l : List Col} (hx : Rws 3 w x (l.map colRow)) (hn : ∀ c ∈ l, nmW c.name ∧ i64 c.kind) : Calls Try.prog 193 #[x] w (fun e w' => e = .returned (.bool (fitCols l)) ∧ Below w.heap.size w w') := by
  obtain ⟨ao, c, rfl, h1, h2, hc⟩ := cl_cells hx
  have hlm : l.length ≤ 9223372036854775807 := by unfold maxLen at h2; omega
  have HC := hid hc
  have HX := hid hx
  have HN := hid hn
  clear hx hc hn
  go_enter Try.func193, Try.ntmps193
  by_cases q1 : (l.length : Int) < 1
  · have HP : Hid (fitCols l = false) := hid (by unfold fitCols; rw [decide_eq_false (by omega : ¬ 1 ≤ l.length)]; simp)
    go_wp2_with fail
    go_ret
    exact ⟨by rw [HP.out]; rfl, Below.refl _ _⟩
  by_cases q2 : (6 : Int) < (l.length : Int)
  · have HP : Hid (fitCols l = false) := hid (by unfold fitCols; rw [decide_eq_false (by omega : ¬ l.length ≤ 6)]; simp)
    go_wp2_with fail
    go_ret
    exact ⟨by rw [HP.out]; rfl, Below.refl _ _⟩
  have HP : Hid (fitCols l = (l.all colF && unl [] (l.map (·.name)))) := hid (by unfold fitCols; rw [decide_eq_true (by omega : 1 ≤ l.length), decide_eq_true (by omega : l.length ≤ 6)]; rfl)
  go_wp2_with fail
  go_loopw [15] (fun j wr => ∃ k : Nat, k ≤ l.length ∧ j = .int .i64 (k : Int) ∧ Below w.heap.size w wr ∧ (l.take k).all colF = true)
    (fun j _ => l.length - (intOf j).toNat)
  case atStart => exact ⟨0, by omega, rfl, Below.refl _ _, rfl⟩
  case round =>
    obtain ⟨k, hk, rfl, hb, ha⟩ := hrel
    have HB := hid hb
    have HA := hid ha
    clear hb ha
    by_cases hlt : k < l.length
    · obtain ⟨u, hu⟩ : ∃ u, l[k]? = some u := ⟨_, List.getElem?_eq_getElem hlt⟩
      obtain ⟨b, off, rfl, c0, c1, c2⟩ := HC.out k u hu
      have hki : (k : Int) < (l.length : Int) := by omega
      have k0 := (HB.out.cell (block_cell c0)).trans c0
      have k1 := (HB.out.cell (block_cell c1)).trans c1
      have k2 := (HB.out.cell (block_cell c2)).trans c2
      have hun := (HN.out u (List.mem_of_getElem? hu)).1
      have HT := hid (all_take' (p := colF) hu HA.out)
      have HF : Hid (colF u = false → fitCols l = false) := hid (fun h => by rw [HP.out, all_no hu h]; rfl)
      clear c0 c1 c2 hu
      go_upto_region 6 with fail
      have hb3 := (Below.refl wr.heap.size wr).alloc (Nat.le_refl _) (.cells #[.string ⟨u.name.toArray⟩, .int .i64 u.kind, .bool u.null] 123)
      have hz3 := heap_alloc_new wr (.cells #[.string ⟨u.name.toArray⟩, .int .i64 u.kind, .bool u.null] 123)
      generalize wr.alloc (.cells #[.string ⟨u.name.toArray⟩, .int .i64 u.kind, .bool u.null] 123) = w3 at *
      have HB3 := hid (below_step HB.out hb3)
      have z0 := cell_in hz3 0 _ rfl
      have z1 := cell_in hz3 1 _ rfl
      have z2 := cell_in hz3 2 _ rfl
      clear hb3 hz3
      have CM := hid (mayBe_any w3 u.name hun)
      have HCF : Hid (colF u = (nameB u.name && (decide (u.kind = 1) || decide (u.kind = 2)))) := hid rfl
      generalize nameB u.name = nb at *
      cases nb with
      | false =>
        have HF2 := hid (HF.out (by rw [HCF.out]; rfl))
        clear HF
        go_wp2_with (first | (go_at_call 190; refine CM.out.mono ?_; rintro en w4 ⟨rfl, rfl⟩))
        go_ret
        exact ⟨by rw [HF2.out]; rfl, HB3.out⟩
      | true =>
        cases q3 : (u.kind != 1) with
        | false =>
          have HT2 : Hid ((l.take (k + 1)).all colF = true) := hid (by rw [HT.out, HCF.out, show u.kind = 1 by simpa using q3]; rfl)
          clear HF HT HCF
          go_wp2_with (first | (go_at_call 190; refine CM.out.mono ?_; rintro en w4 ⟨rfl, rfl⟩))
          go_roundw
          case rel => exact ⟨k + 1, by omega, by go_num, HB3.out, HT2.out⟩
          case measure => simp [intOf]; omega
        | true =>
          cases q4 : (u.kind != 2) with
          | false =>
            have HT2 : Hid ((l.take (k + 1)).all colF = true) := hid (by rw [HT.out, HCF.out, show u.kind = 2 by simpa using q4]; rfl)
            clear HF HT HCF
            go_wp2_with (first | (go_at_call 190; refine CM.out.mono ?_; rintro en w4 ⟨rfl, rfl⟩))
            go_roundw
            case rel => exact ⟨k + 1, by omega, by go_num, HB3.out, HT2.out⟩
            case measure => simp [intOf]; omega
          | true =>
            have HF2 := hid (HF.out (by rw [HCF.out]; simp at q3 q4; simp [q3, q4]))
            clear HF HT HCF
            go_wp2_with (first | (go_at_call 190; refine CM.out.mono ?_; rintro en w4 ⟨rfl, rfl⟩))
            go_ret
            exact ⟨by rw [HF2.out]; rfl, HB3.out⟩
    · obtain rfl : k = l.length := by omega
      rw [List.take_length] at HA
      rw [HA.out, Bool.true_and] at HP
      have CE := hid (eachCol_any wr (HX.out.old HB.out) (by omega))
      clear HC
      go_wp2_with (first
        | (go_at_call 230; refine CE.out.mono ?_; rintro en w4 ⟨v4, rfl, hb4, hr4⟩
           have HB4 := hid (below_step HB.out hb4)
           have CU := hid (unlStr_any w4 hr4)
           clear hb4 hr4)
        | (go_at_call 179; refine CU.out.mono ?_; rintro en w5 ⟨rfl, rfl⟩))
      go_ret
      exact ⟨by rw [HP.out]; rfl, HB4.out⟩

theorem plB_in {l : List Int} {n : Int} (h : placesB l n = true) : ∀ z ∈ l, 0 ≤ z ∧ z < n := by
  unfold placesB at h
  simp only [Bool.and_eq_true] at h
  exact plcs_in h.1.1

set_option maxHeartbeats 4000000 in
theorem keyFits_any {N : Nat → Prop} {w : World} {cs : List Value} {t : Tab} (h : TabN N w cs t) (hp : placesB t.key t.cols.length = true) : Calls Try.prog 194 #[.agg cs.toArray] w (fun e w' => e = .returned (.bool (keyF t)) ∧ Below w.heap.size w w') := by
  obtain ⟨x2, y2, rfl, ⟨hx2, -⟩, ⟨hy2, -⟩, -, -⟩ := h
  obtain ⟨a1, e1, rfl, p1, p2, pc⟩ := cl_cells hx2
  obtain ⟨a2, e2, rfl, h1, h2, hc⟩ := zs_cells hy2
  have hlm : t.key.length ≤ 9223372036854775807 := by unfold maxLen at h2; omega
  have HC := hid hc
  have HPC := hid pc
  have HIN := hid (plB_in hp)
  clear hx2 hy2 hc pc hp
  go_enter Try.func194, Try.ntmps194
  go_upto_region 1 with fail
  have hb := (Below.refl w.heap.size w).alloc (Nat.le_refl _) (.cells #[.int .i64 t.id, .string ⟨t.name.toArray⟩, .slice a1 t.cols.length e1, .slice a2 t.key.length e2] 33)
  have hz := heap_alloc_new w (.cells #[.int .i64 t.id, .string ⟨t.name.toArray⟩, .slice a1 t.cols.length e1, .slice a2 t.key.length e2] 33)
  generalize w.alloc (.cells #[.int .i64 t.id, .string ⟨t.name.toArray⟩, .slice a1 t.cols.length e1, .slice a2 t.key.length e2] 33) = w1 at *
  have HB := hid hb
  have z2 := cell_in hz 2 _ rfl
  have z3 := cell_in hz 3 _ rfl
  clear hb hz
  go_wp2_with fail
  go_loopw [8] (fun j wr => ∃ k : Nat, k ≤ t.key.length ∧ j = .int .i64 (k : Int) ∧ wr = w1 ∧ (t.key.take k).all (fun z => !(colAt t.cols z).null) = true)
    (fun j _ => t.key.length - (intOf j).toNat)
  case atStart => exact ⟨0, by omega, rfl, rfl, rfl⟩
  case round =>
    obtain ⟨k, hk, rfl, rfl, ha⟩ := hrel
    have HA := hid ha
    clear ha
    by_cases hlt : k < t.key.length
    · obtain ⟨u, hu⟩ : ∃ u, t.key[k]? = some u := ⟨_, List.getElem?_eq_getElem hlt⟩
      obtain ⟨b, off, rfl, c0⟩ := HC.out k u hu
      have hki : (k : Int) < (t.key.length : Int) := by omega
      have k0 := (HB.out.cell (block_cell c0)).trans c0
      obtain ⟨hu1, hu2⟩ := HIN.out u (List.mem_of_getElem? hu)
      obtain ⟨m, rfl⟩ : ∃ m : Nat, u = (m : Int) := ⟨u.toNat, by omega⟩
      have hm : m < t.cols.length := by omega
      obtain ⟨d, hd⟩ : ∃ d, t.cols[m]? = some d := ⟨_, List.getElem?_eq_getElem hm⟩
      obtain ⟨b2, off2, rfl, -, -, d2⟩ := HPC.out m d hd
      have k2 := (HB.out.cell (block_cell d2)).trans d2
      have hcd : colAt t.cols (m : Int) = d := by unfold colAt; rw [show ((m : Int)).toNat = m by omega, List.getD_eq_getElem?_getD, hd]; rfl
      have HT := hid (all_take' (p := fun z => !(colAt t.cols z).null) hu HA.out)
      have HF : Hid (d.null = true → keyF t = false) := hid (fun h => all_no hu (by rw [hcd, h]; rfl))
      rw [hcd] at HT
      clear c0 d2 hu hd hcd
      cases hq : d.null with
      | true =>
        have HF2 := hid (HF.out hq)
        rw [hq] at k2
        clear HF HT hq
        go_wp2_with fail
        go_ret
        exact ⟨by rw [HF2.out]; rfl, HB.out⟩
      | false =>
        rw [hq] at k2 HT
        clear HF hq
        go_wp2_with fail
        go_roundw
        case rel => exact ⟨k + 1, by omega, by go_num, by first | trivial | rfl, HT.out⟩
        case measure => simp [intOf]; omega
    · obtain rfl : k = t.key.length := by omega
      rw [List.take_length] at HA
      have HF2 : Hid (keyF t = true) := hid HA.out
      clear HA
      go_wp2_with fail
      go_ret
      exact ⟨by rw [HF2.out]; rfl, HB.out⟩
end Go.Proofs.Ytafcbelkhhjcoaa
