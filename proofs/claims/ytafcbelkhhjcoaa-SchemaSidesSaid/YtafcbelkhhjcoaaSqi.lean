/-
  LAYER 12, THE CODE's: slices.IndexFunc (made by src2/gen_sidxf.py); tableAt, indexAt.
-/
import Derived.Test.YtafcbelkhhjcoaaSqg
import Derived.Test.YtafcbelkhhjcoaaSqh
set_option linter.unusedVariables false
set_option linter.unusedSimpArgs false
set_option maxRecDepth 100000
namespace Go.Proofs.Ytafcbelkhhjcoaa
open Go.RowKit Go.Deep

/-- The place of the first; -1, if there is none. -/
def fidx {α : Type} (p : α → Bool) (l : List α) : Int := match l.findIdx? p with | some k => (k : Int) | none => -1
theorem fidx_no {α : Type} {p : α → Bool} {l : List α} (h : l.any p = false) : fidx p l = -1 := by
  have : l.findIdx? p = none := by rw [List.findIdx?_eq_none_iff]; intro x hx; rw [List.any_eq_false] at h; simpa using h x hx
  unfold fidx; rw [this]
theorem any_lt {α : Type} {p : α → Bool} {l : List α} {k j : Nat} {d : α} (ha : (l.take k).any p = false) (hj : j < k) (hd : l[j]? = some d) : p d = false := by
  rw [List.any_eq_false] at ha
  simpa using ha d (List.mem_of_getElem? (by rw [getElem?_taken hj]; exact hd))
theorem fidx_at {α : Type} {p : α → Bool} {l : List α} {k : Nat} {c : α} (h : l[k]? = some c) (ha : (l.take k).any p = false) (hp : p c = true) : fidx p l = (k : Int) := by
  obtain ⟨hk, rfl⟩ := List.getElem?_eq_some_iff.1 h
  have : l.findIdx? p = some k := by
    rw [List.findIdx?_eq_some_iff_getElem]
    refine ⟨hk, hp, fun j hj => ?_⟩
    rw [any_lt ha hj (List.getElem?_eq_getElem (by omega))]; simp
  unfold fidx; rw [this]
theorem fidx_cases {α : Type} (p : α → Bool) (l : List α) : (fidx p l = -1 ∧ l.find? p = none ∧ l.any p = false) ∨ ∃ (k : Nat) (c : α), fidx p l = (k : Int) ∧ l[k]? = some c ∧ l.find? p = some c ∧ p c = true ∧ (l.take k).any p = false := by
  cases hf : l.findIdx? p with
  | none =>
    refine .inl ⟨by unfold fidx; rw [hf], ?_, ?_⟩
    · rw [List.findIdx?_eq_none_iff] at hf; rw [List.find?_eq_none]; intro x hx; simp [hf x hx]
    · rw [List.findIdx?_eq_none_iff] at hf; rw [List.any_eq_false]; intro x hx; simp [hf x hx]
  | some k =>
    have h := hf
    rw [List.findIdx?_eq_some_iff_getElem] at h
    obtain ⟨hk, hp, hlt⟩ := h
    have ha : (l.take k).any p = false := by
      rw [List.any_eq_false]; intro x hx
      obtain ⟨j, hj, rfl⟩ := List.mem_take_iff_getElem.1 hx
      exact hlt j (by omega)
    exact .inr ⟨k, l[k], by unfold fidx; rw [hf], List.getElem?_eq_getElem hk, find_at (List.getElem?_eq_getElem hk) ha hp, hp, ha⟩

set_option maxHeartbeats 2000000 in
theorem tableAt1_any (w : World) (u : Tab) (a1 a2 : Option Addr) (e1 e2 : Nat) (s : List UInt8) (g : Nat) (hg : w.cell? ⟨g, 0, none⟩ = some (.string ⟨s.toArray⟩)) : Calls Try.prog 182 #[.agg #[.int .i64 u.id, .string ⟨u.name.toArray⟩, .slice a1 u.cols.length e1, .slice a2 u.key.length e2], .pointer (some ⟨g, 0, none⟩)] w (fun e w' => e = .returned (.bool (u.name == s)) ∧ Below w.heap.size w w') := by
  go_enter Try.func182, Try.ntmps182
  go_upto_region 1 with fail
  have hb := (Below.refl w.heap.size w).alloc (Nat.le_refl _) (.cells #[.int .i64 u.id, .string ⟨u.name.toArray⟩, .slice a1 u.cols.length e1, .slice a2 u.key.length e2] 33)
  have hz := heap_alloc_new w (.cells #[.int .i64 u.id, .string ⟨u.name.toArray⟩, .slice a1 u.cols.length e1, .slice a2 u.key.length e2] 33)
  generalize w.alloc (.cells #[.int .i64 u.id, .string ⟨u.name.toArray⟩, .slice a1 u.cols.length e1, .slice a2 u.key.length e2] 33) = w1 at *
  have HB := hid hb
  have hg1 := (HB.out.cell (block_cell hg)).trans hg
  have z0 := cell_in hz 1 _ rfl
  clear hb hz hg
  go_wp2_with fail
  go_ret
  exact ⟨rfl, HB.out⟩

set_option maxHeartbeats 4000000 in
theorem tableAtF_any {N : Nat → Prop} (w : World) {x : Value} {l : List Tab} (hx : LstN (TabN N) 4 N w x l) (s : List UInt8) (g : Nat) (hg : w.cell? ⟨g, 0, none⟩ = some (.string ⟨s.toArray⟩)) : Calls Try.prog 180 #[x, .func (.func 182) #[] #[.pointer (some ⟨g, 0, none⟩)]] w
    (fun e w' => e = .returned (.int .i64 (fidx (fun t => decide (t.name = s)) l)) ∧ Below w.heap.size w w') := by
  obtain ⟨ao, c, rfl, h1, h2, hc⟩ := tb_cells hx
  have hlm : l.length ≤ 9223372036854775807 := by unfold maxLen at h2; omega
  have HC := hid hc
  have HG := hid hg
  clear hx hc hg
  go_enter Try.func180, Try.ntmps180
  go_wp2_with fail
  go_loopw [8] (fun j wr => ∃ k : Nat, k ≤ l.length ∧ j = .int .i64 (k : Int) ∧ Below w.heap.size w wr ∧ (l.take k).any (fun t => decide (t.name = s)) = false)
    (fun j _ => l.length - (intOf j).toNat)
  case atStart => exact ⟨0, by omega, rfl, Below.refl _ _, rfl⟩
  case round =>
    obtain ⟨k, hk, rfl, hb, ha⟩ := hrel
    have HB := hid hb
    have HA := hid ha
    clear hb ha
    by_cases hlt : k < l.length
    · obtain ⟨u, hu⟩ : ∃ u, l[k]? = some u := ⟨_, List.getElem?_eq_getElem hlt⟩
      obtain ⟨b, off, a1, e1, a2, e2, rfl, ht, c0, c1, c2, c3⟩ := HC.out k u hu
      have hki : (k : Int) < (l.length : Int) := by omega
      have k0 := (HB.out.cell (block_cell c0)).trans c0
      have k1 := (HB.out.cell (block_cell c1)).trans c1
      have k2 := (HB.out.cell (block_cell c2)).trans c2
      have k3 := (HB.out.cell (block_cell c3)).trans c3
      clear c0 c1 c2 c3 ht
      have HT := hid (any_take (p := (fun t => decide (t.name = s))) hu HA.out)
      have CF := hid (tableAt1_any wr u a1 a2 e1 e2 s g ((HB.out.cell (block_cell HG.out)).trans HG.out))
      cases hq : (u.name == s) with
      | true =>
        have HR := hid (fidx_at (p := (fun t => decide (t.name = s))) hu HA.out (by simpa using hq))
        rw [hq] at CF
        clear HT hu hq
        go_wp2_with (first
          | (go_at_call 182; refine CF.out.mono ?_; rintro en w4 ⟨rfl, hb4⟩
             have HB4 := hid (below_step HB.out hb4)
             clear hb4))
        go_ret
        exact ⟨by rw [HR.out]; rfl, HB4.out⟩
      | false =>
        have HT2 : Hid ((l.take (k + 1)).any (fun t => decide (t.name = s)) = false) := hid (by rw [HT.out]; simpa using hq)
        rw [hq] at CF
        clear HT hu hq
        go_wp2_with (first
          | (go_at_call 182; refine CF.out.mono ?_; rintro en w4 ⟨rfl, hb4⟩
             have HB4 := hid (below_step HB.out hb4)
             clear hb4))
        go_roundw
        case rel => exact ⟨k + 1, by omega, by go_num, HB4.out, HT2.out⟩
        case measure => simp [intOf]; omega
    · obtain rfl : k = l.length := by omega
      rw [List.take_length] at HA
      have HR := hid (fidx_no HA.out)
      go_wp2_with fail
      go_ret
      exact ⟨by rw [HR.out]; rfl, HB.out⟩


set_option maxHeartbeats 2000000 in
theorem rightIndexes1_any (w : World) (u : Tab) (a1 a2 : Option Addr) (e1 e2 : Nat) (s : Int) (g : Nat) (hg : w.cell? ⟨g, 1, none⟩ = some (.int .i64 s)) : Calls Try.prog 181 #[.agg #[.int .i64 u.id, .string ⟨u.name.toArray⟩, .slice a1 u.cols.length e1, .slice a2 u.key.length e2], .pointer (some ⟨g, 0, none⟩)] w (fun e w' => e = .returned (.bool (u.id == s)) ∧ Below w.heap.size w w') := by
  go_enter Try.func181, Try.ntmps181
  go_upto_region 1 with fail
  have hb := (Below.refl w.heap.size w).alloc (Nat.le_refl _) (.cells #[.int .i64 u.id, .string ⟨u.name.toArray⟩, .slice a1 u.cols.length e1, .slice a2 u.key.length e2] 33)
  have hz := heap_alloc_new w (.cells #[.int .i64 u.id, .string ⟨u.name.toArray⟩, .slice a1 u.cols.length e1, .slice a2 u.key.length e2] 33)
  generalize w.alloc (.cells #[.int .i64 u.id, .string ⟨u.name.toArray⟩, .slice a1 u.cols.length e1, .slice a2 u.key.length e2] 33) = w1 at *
  have HB := hid hb
  have hg1 := (HB.out.cell (block_cell hg)).trans hg
  have z0 := cell_in hz 0 _ rfl
  clear hb hz hg
  go_wp2_with fail
  go_ret
  exact ⟨rfl, HB.out⟩

set_option maxHeartbeats 4000000 in
theorem rightIndexesF_any {N : Nat → Prop} (w : World) {x : Value} {l : List Tab} (hx : LstN (TabN N) 4 N w x l) (s : Int) (g : Nat) (hg : w.cell? ⟨g, 1, none⟩ = some (.int .i64 s)) : Calls Try.prog 180 #[x, .func (.func 181) #[] #[.pointer (some ⟨g, 0, none⟩)]] w
    (fun e w' => e = .returned (.int .i64 (fidx (fun t => decide (t.id = s)) l)) ∧ Below w.heap.size w w') := by
  obtain ⟨ao, c, rfl, h1, h2, hc⟩ := tb_cells hx
  have hlm : l.length ≤ 9223372036854775807 := by unfold maxLen at h2; omega
  have HC := hid hc
  have HG := hid hg
  clear hx hc hg
  go_enter Try.func180, Try.ntmps180
  go_wp2_with fail
  go_loopw [8] (fun j wr => ∃ k : Nat, k ≤ l.length ∧ j = .int .i64 (k : Int) ∧ Below w.heap.size w wr ∧ (l.take k).any (fun t => decide (t.id = s)) = false)
    (fun j _ => l.length - (intOf j).toNat)
  case atStart => exact ⟨0, by omega, rfl, Below.refl _ _, rfl⟩
  case round =>
    obtain ⟨k, hk, rfl, hb, ha⟩ := hrel
    have HB := hid hb
    have HA := hid ha
    clear hb ha
    by_cases hlt : k < l.length
    · obtain ⟨u, hu⟩ : ∃ u, l[k]? = some u := ⟨_, List.getElem?_eq_getElem hlt⟩
      obtain ⟨b, off, a1, e1, a2, e2, rfl, ht, c0, c1, c2, c3⟩ := HC.out k u hu
      have hki : (k : Int) < (l.length : Int) := by omega
      have k0 := (HB.out.cell (block_cell c0)).trans c0
      have k1 := (HB.out.cell (block_cell c1)).trans c1
      have k2 := (HB.out.cell (block_cell c2)).trans c2
      have k3 := (HB.out.cell (block_cell c3)).trans c3
      clear c0 c1 c2 c3 ht
      have HT := hid (any_take (p := (fun t => decide (t.id = s))) hu HA.out)
      have CF := hid (rightIndexes1_any wr u a1 a2 e1 e2 s g ((HB.out.cell (block_cell HG.out)).trans HG.out))
      cases hq : (u.id == s) with
      | true =>
        have HR := hid (fidx_at (p := (fun t => decide (t.id = s))) hu HA.out (by simpa using hq))
        rw [hq] at CF
        clear HT hu hq
        go_wp2_with (first
          | (go_at_call 181; refine CF.out.mono ?_; rintro en w4 ⟨rfl, hb4⟩
             have HB4 := hid (below_step HB.out hb4)
             clear hb4))
        go_ret
        exact ⟨by rw [HR.out]; rfl, HB4.out⟩
      | false =>
        have HT2 : Hid ((l.take (k + 1)).any (fun t => decide (t.id = s)) = false) := hid (by rw [HT.out]; simpa using hq)
        rw [hq] at CF
        clear HT hu hq
        go_wp2_with (first
          | (go_at_call 181; refine CF.out.mono ?_; rintro en w4 ⟨rfl, hb4⟩
             have HB4 := hid (below_step HB.out hb4)
             clear hb4))
        go_roundw
        case rel => exact ⟨k + 1, by omega, by go_num, HB4.out, HT2.out⟩
        case measure => simp [intOf]; omega
    · obtain rfl : k = l.length := by omega
      rw [List.take_length] at HA
      have HR := hid (fidx_no HA.out)
      go_wp2_with fail
      go_ret
      exact ⟨by rw [HR.out]; rfl, HB.out⟩


set_option maxHeartbeats 2000000 in
theorem indexAt1_any (w : World) (u : Idx) (a1 : Option Addr) (e1 : Nat) (s : List UInt8) (g : Nat) (hg : w.cell? ⟨g, 0, none⟩ = some (.string ⟨s.toArray⟩)) : Calls Try.prog 185 #[.agg #[.int .i64 u.id, .int .i64 u.table, .string ⟨u.name.toArray⟩, .slice a1 u.cols.length e1, .bool u.uniq, .int .i64 u.state, .bool u.bad], .pointer (some ⟨g, 0, none⟩)] w (fun e w' => e = .returned (.bool (u.name == s)) ∧ Below w.heap.size w w') := by
  go_enter Try.func185, Try.ntmps185
  go_upto_region 1 with fail
  have hb := (Below.refl w.heap.size w).alloc (Nat.le_refl _) (.cells #[.int .i64 u.id, .int .i64 u.table, .string ⟨u.name.toArray⟩, .slice a1 u.cols.length e1, .bool u.uniq, .int .i64 u.state, .bool u.bad] 37)
  have hz := heap_alloc_new w (.cells #[.int .i64 u.id, .int .i64 u.table, .string ⟨u.name.toArray⟩, .slice a1 u.cols.length e1, .bool u.uniq, .int .i64 u.state, .bool u.bad] 37)
  generalize w.alloc (.cells #[.int .i64 u.id, .int .i64 u.table, .string ⟨u.name.toArray⟩, .slice a1 u.cols.length e1, .bool u.uniq, .int .i64 u.state, .bool u.bad] 37) = w1 at *
  have HB := hid hb
  have hg1 := (HB.out.cell (block_cell hg)).trans hg
  have z0 := cell_in hz 2 _ rfl
  clear hb hz hg
  go_wp2_with fail
  go_ret
  exact ⟨rfl, HB.out⟩

set_option maxHeartbeats 4000000 in
theorem indexAtF_any {N : Nat → Prop} (w : World) {x : Value} {l : List Idx} (hx : LstN (IdxN N) 7 N w x l) (s : List UInt8) (g : Nat) (hg : w.cell? ⟨g, 0, none⟩ = some (.string ⟨s.toArray⟩)) : Calls Try.prog 110 #[x, .func (.func 185) #[] #[.pointer (some ⟨g, 0, none⟩)]] w
    (fun e w' => e = .returned (.int .i64 (fidx (fun t => decide (t.name = s)) l)) ∧ Below w.heap.size w w') := by
  obtain ⟨ao, c, rfl, h1, h2, hc⟩ := ix_cells hx
  have hlm : l.length ≤ 9223372036854775807 := by unfold maxLen at h2; omega
  have HC := hid hc
  have HG := hid hg
  clear hx hc hg
  go_enter Try.func110, Try.ntmps110
  go_wp2_with fail
  go_loopw [8] (fun j wr => ∃ k : Nat, k ≤ l.length ∧ j = .int .i64 (k : Int) ∧ Below w.heap.size w wr ∧ (l.take k).any (fun t => decide (t.name = s)) = false)
    (fun j _ => l.length - (intOf j).toNat)
  case atStart => exact ⟨0, by omega, rfl, Below.refl _ _, rfl⟩
  case round =>
    obtain ⟨k, hk, rfl, hb, ha⟩ := hrel
    have HB := hid hb
    have HA := hid ha
    clear hb ha
    by_cases hlt : k < l.length
    · obtain ⟨u, hu⟩ : ∃ u, l[k]? = some u := ⟨_, List.getElem?_eq_getElem hlt⟩
      obtain ⟨b, off, a1, e1, rfl, ht, c0, c1, c2, c3, c4, c5, c6⟩ := HC.out k u hu
      have hki : (k : Int) < (l.length : Int) := by omega
      have k0 := (HB.out.cell (block_cell c0)).trans c0
      have k1 := (HB.out.cell (block_cell c1)).trans c1
      have k2 := (HB.out.cell (block_cell c2)).trans c2
      have k3 := (HB.out.cell (block_cell c3)).trans c3
      have k4 := (HB.out.cell (block_cell c4)).trans c4
      have k5 := (HB.out.cell (block_cell c5)).trans c5
      have k6 := (HB.out.cell (block_cell c6)).trans c6
      clear c0 c1 c2 c3 c4 c5 c6 ht
      have HT := hid (any_take (p := (fun t => decide (t.name = s))) hu HA.out)
      have CF := hid (indexAt1_any wr u a1 e1 s g ((HB.out.cell (block_cell HG.out)).trans HG.out))
      cases hq : (u.name == s) with
      | true =>
        have HR := hid (fidx_at (p := (fun t => decide (t.name = s))) hu HA.out (by simpa using hq))
        rw [hq] at CF
        clear HT hu hq
        go_wp2_with (first
          | (go_at_call 185; refine CF.out.mono ?_; rintro en w4 ⟨rfl, hb4⟩
             have HB4 := hid (below_step HB.out hb4)
             clear hb4))
        go_ret
        exact ⟨by rw [HR.out]; rfl, HB4.out⟩
      | false =>
        have HT2 : Hid ((l.take (k + 1)).any (fun t => decide (t.name = s)) = false) := hid (by rw [HT.out]; simpa using hq)
        rw [hq] at CF
        clear HT hu hq
        go_wp2_with (first
          | (go_at_call 185; refine CF.out.mono ?_; rintro en w4 ⟨rfl, hb4⟩
             have HB4 := hid (below_step HB.out hb4)
             clear hb4))
        go_roundw
        case rel => exact ⟨k + 1, by omega, by go_num, HB4.out, HT2.out⟩
        case measure => simp [intOf]; omega
    · obtain rfl : k = l.length := by omega
      rw [List.take_length] at HA
      have HR := hid (fidx_no HA.out)
      go_wp2_with fail
      go_ret
      exact ⟨by rw [HR.out]; rfl, HB.out⟩


set_option maxHeartbeats 2000000 in
theorem Step1_any (w : World) (u : Idx) (a1 : Option Addr) (e1 : Nat) (s : Int) (g : Nat) (hg : w.cell? ⟨g, 0, none⟩ = some (.int .i64 s)) : Calls Try.prog 111 #[.agg #[.int .i64 u.id, .int .i64 u.table, .string ⟨u.name.toArray⟩, .slice a1 u.cols.length e1, .bool u.uniq, .int .i64 u.state, .bool u.bad], .pointer (some ⟨g, 0, none⟩)] w (fun e w' => e = .returned (.bool (u.id == s)) ∧ Below w.heap.size w w') := by
  go_enter Try.func111, Try.ntmps111
  go_upto_region 1 with fail
  have hb := (Below.refl w.heap.size w).alloc (Nat.le_refl _) (.cells #[.int .i64 u.id, .int .i64 u.table, .string ⟨u.name.toArray⟩, .slice a1 u.cols.length e1, .bool u.uniq, .int .i64 u.state, .bool u.bad] 37)
  have hz := heap_alloc_new w (.cells #[.int .i64 u.id, .int .i64 u.table, .string ⟨u.name.toArray⟩, .slice a1 u.cols.length e1, .bool u.uniq, .int .i64 u.state, .bool u.bad] 37)
  generalize w.alloc (.cells #[.int .i64 u.id, .int .i64 u.table, .string ⟨u.name.toArray⟩, .slice a1 u.cols.length e1, .bool u.uniq, .int .i64 u.state, .bool u.bad] 37) = w1 at *
  have HB := hid hb
  have hg1 := (HB.out.cell (block_cell hg)).trans hg
  have z0 := cell_in hz 0 _ rfl
  clear hb hz hg
  go_wp2_with fail
  go_ret
  exact ⟨rfl, HB.out⟩

set_option maxHeartbeats 4000000 in
theorem StepF_any {N : Nat → Prop} (w : World) {x : Value} {l : List Idx} (hx : LstN (IdxN N) 7 N w x l) (s : Int) (g : Nat) (hg : w.cell? ⟨g, 0, none⟩ = some (.int .i64 s)) : Calls Try.prog 110 #[x, .func (.func 111) #[] #[.pointer (some ⟨g, 0, none⟩)]] w
    (fun e w' => e = .returned (.int .i64 (fidx (fun t => decide (t.id = s)) l)) ∧ Below w.heap.size w w') := by
  obtain ⟨ao, c, rfl, h1, h2, hc⟩ := ix_cells hx
  have hlm : l.length ≤ 9223372036854775807 := by unfold maxLen at h2; omega
  have HC := hid hc
  have HG := hid hg
  clear hx hc hg
  go_enter Try.func110, Try.ntmps110
  go_wp2_with fail
  go_loopw [8] (fun j wr => ∃ k : Nat, k ≤ l.length ∧ j = .int .i64 (k : Int) ∧ Below w.heap.size w wr ∧ (l.take k).any (fun t => decide (t.id = s)) = false)
    (fun j _ => l.length - (intOf j).toNat)
  case atStart => exact ⟨0, by omega, rfl, Below.refl _ _, rfl⟩
  case round =>
    obtain ⟨k, hk, rfl, hb, ha⟩ := hrel
    have HB := hid hb
    have HA := hid ha
    clear hb ha
    by_cases hlt : k < l.length
    · obtain ⟨u, hu⟩ : ∃ u, l[k]? = some u := ⟨_, List.getElem?_eq_getElem hlt⟩
      obtain ⟨b, off, a1, e1, rfl, ht, c0, c1, c2, c3, c4, c5, c6⟩ := HC.out k u hu
      have hki : (k : Int) < (l.length : Int) := by omega
      have k0 := (HB.out.cell (block_cell c0)).trans c0
      have k1 := (HB.out.cell (block_cell c1)).trans c1
      have k2 := (HB.out.cell (block_cell c2)).trans c2
      have k3 := (HB.out.cell (block_cell c3)).trans c3
      have k4 := (HB.out.cell (block_cell c4)).trans c4
      have k5 := (HB.out.cell (block_cell c5)).trans c5
      have k6 := (HB.out.cell (block_cell c6)).trans c6
      clear c0 c1 c2 c3 c4 c5 c6 ht
      have HT := hid (any_take (p := (fun t => decide (t.id = s))) hu HA.out)
      have CF := hid (Step1_any wr u a1 e1 s g ((HB.out.cell (block_cell HG.out)).trans HG.out))
      cases hq : (u.id == s) with
      | true =>
        have HR := hid (fidx_at (p := (fun t => decide (t.id = s))) hu HA.out (by simpa using hq))
        rw [hq] at CF
        clear HT hu hq
        go_wp2_with (first
          | (go_at_call 111; refine CF.out.mono ?_; rintro en w4 ⟨rfl, hb4⟩
             have HB4 := hid (below_step HB.out hb4)
             clear hb4))
        go_ret
        exact ⟨by rw [HR.out]; rfl, HB4.out⟩
      | false =>
        have HT2 : Hid ((l.take (k + 1)).any (fun t => decide (t.id = s)) = false) := hid (by rw [HT.out]; simpa using hq)
        rw [hq] at CF
        clear HT hu hq
        go_wp2_with (first
          | (go_at_call 111; refine CF.out.mono ?_; rintro en w4 ⟨rfl, hb4⟩
             have HB4 := hid (below_step HB.out hb4)
             clear hb4))
        go_roundw
        case rel => exact ⟨k + 1, by omega, by go_num, HB4.out, HT2.out⟩
        case measure => simp [intOf]; omega
    · obtain rfl : k = l.length := by omega
      rw [List.take_length] at HA
      have HR := hid (fidx_no HA.out)
      go_wp2_with fail
      go_ret
      exact ⟨by rw [HR.out]; rfl, HB.out⟩

end Go.Proofs.Ytafcbelkhhjcoaa
