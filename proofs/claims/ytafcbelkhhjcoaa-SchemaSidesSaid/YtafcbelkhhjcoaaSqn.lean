/-
  LAYER 12, THE CODE's: slices.Clone of numbers, of columns; copiedTable, copiedIndex.
-/
import Derived.Test.YtafcbelkhhjcoaaSqm
import Derived.Test.YtafcbelkhhjcoaaSl
set_option linter.unusedVariables false
set_option linter.unusedSimpArgs false
set_option maxRecDepth 100000
namespace Go.Proofs.Ytafcbelkhhjcoaa
open Go.RowKit Go.Deep

/-- New memory. -/
def New (w w' : World) (k : Nat) : Prop := w.heap.size ≤ k ∧ k < w'.heap.size

theorem nil_rws {n : Nat} {w : World} {m c : Nat} {L : List (List Value)} (h : Rws n w (.slice none m c) L) : L = [] ∧ m = 0 ∧ c = 0 := by
  obtain ⟨ao', c', he, h1, h2, h3, -⟩ := h
  simp only [Value.slice.injEq] at he
  have h4 := h3 he.1.symm
  have h5 : L.length = 0 := by omega
  exact ⟨List.eq_nil_of_length_eq_zero h5, by omega, by omega⟩

set_option maxHeartbeats 4000000 in
theorem cloneZ_any (w : World) {x : Value} {l : List Int} (hx : Rws 1 w x (l.map zRow)) (hl : l.length ≤ 100) : Calls Try.prog 184 #[x] w (fun e w' => ∃ a c, e = .returned (.slice a l.length c) ∧ Below w.heap.size w w' ∧ ZsN (New w w') w' (.slice a l.length c) l) := by
  obtain ⟨ao, c, rfl, h1, h2⟩ := hx.form
  rw [List.length_map] at *
  have hql := fun W => Lib.run_eql_slice_nil (P := Try.prog) W 31 3 ao l.length c 0 0 Try.underlying31
  cases heq : ao with
  | none =>
    subst heq
    obtain ⟨hn, h0, rfl⟩ := nil_rws hx
    have hl0 : l = [] := by simpa using hn
    subst hl0
    simp only [List.length_nil] at hql ⊢
    clear hx
    go_enter Try.func184, Try.ntmps184
    go_wp2_with fail
    go_ret
    exact ⟨_, _, rfl, Below.refl _ _, ZsN.nil _ _⟩
  | some ad =>
    subst heq
    have HR := hid (hx.old ((Below.refl w.heap.size w).alloc (Nat.le_refl _) (.cells #[] 3)))
    have hown : (w.alloc (.cells #[] 3)).ownsRow w.heap.size 3 1 (.slice (some ⟨w.heap.size, 0, none⟩) 0 0) 0 [] := World.ownsRow_made w #[] 0 (Nat.le_refl _) (by decide) rfl
    have HO := hid hown
    clear hx hown
    go_enter Try.func184, Try.ntmps184
    go_wp2_with (first
      | (at_builtin; refine wp_rapp rfl _ _ 31 rfl w.heap.size 1 8 3 Try.underlying31 (.int .i64 0) (by kernel_rfl) (by simp [Value.cells]) (by decide) _ _ _ rfl HO.out _ (l.map zRow) rfl HR.out ?cj1 ?cj2 ?cj3 (fun v1 w1 o1 g1 => ?_)))
    case cj1 => rw [List.length_map]; omega
    case cj2 => rw [List.length_map]; unfold maxLen; omega
    case cj3 => simp
    have HB1 : Hid (Below w.heap.size w w1) := ((Below.refl _ _).alloc (Nat.le_refl _) _).grown g1 (by simp) (fun k hk => (HO.out.lt k hk).1)
    obtain ⟨hk1, f1, q1, rfl⟩ := zs_made (w := w) (l := l) (by simpa using o1) (by simp)
    have HK1 := hid hk1
    clear o1 g1 hk1
    go_wp2_with fail
    go_ret
    exact ⟨_, _, rfl, HB1.out, HK1.out⟩

set_option maxHeartbeats 4000000 in
theorem cloneC_any (w : World) {x : Value} {l : List Col} (hx : Rws 3 w x (l.map colRow)) (hl : l.length ≤ 100) : Calls Try.prog 183 #[x] w (fun e w' => ∃ a c, e = .returned (.slice a l.length c) ∧ Below w.heap.size w w' ∧ ClsN (New w w') w' (.slice a l.length c) l) := by
  obtain ⟨ao, c, rfl, h1, h2⟩ := hx.form
  rw [List.length_map] at *
  have hql := fun W => Lib.run_eql_slice_nil (P := Try.prog) W 30 123 ao l.length c 0 0 Try.underlying30
  cases heq : ao with
  | none =>
    subst heq
    obtain ⟨hn, h0, rfl⟩ := nil_rws hx
    have hl0 : l = [] := by simpa using hn
    subst hl0
    simp only [List.length_nil] at hql ⊢
    clear hx
    go_enter Try.func183, Try.ntmps183
    go_wp2_with fail
    go_ret
    exact ⟨_, _, rfl, Below.refl _ _, ClsN.nil _ _⟩
  | some ad =>
    subst heq
    have HR := hid (hx.old ((Below.refl w.heap.size w).alloc (Nat.le_refl _) (.cells #[] 123)))
    have hown : (w.alloc (.cells #[] 123)).ownsRow w.heap.size 123 3 (.slice (some ⟨w.heap.size, 0, none⟩) 0 0) 0 [] := World.ownsRow_made w #[] 0 (Nat.le_refl _) (by decide) rfl
    have HO := hid hown
    clear hx hown
    go_enter Try.func183, Try.ntmps183
    go_wp2_with (first
      | (at_builtin; refine wp_rapp rfl _ _ 30 rfl w.heap.size 3 32 123 Try.underlying30 (.agg #[.string ⟨#[]⟩, .int .i64 0, .bool false]) (by kernel_rfl) (by simp [Value.cells]) (by decide) _ _ _ rfl HO.out _ (l.map colRow) rfl HR.out ?cj1 ?cj2 ?cj3 (fun v1 w1 o1 g1 => ?_)))
    case cj1 => rw [List.length_map]; omega
    case cj2 => rw [List.length_map]; unfold maxLen; omega
    case cj3 => simp
    have HB1 : Hid (Below w.heap.size w w1) := ((Below.refl _ _).alloc (Nat.le_refl _) _).grown g1 (by simp) (fun k hk => (HO.out.lt k hk).1)
    obtain ⟨hk1, f1, q1, rfl⟩ := cls_made (w := w) (l := l) (by simpa using o1) (by simp)
    have HK1 := hid hk1
    clear o1 g1 hk1
    go_wp2_with fail
    go_ret
    exact ⟨_, _, rfl, HB1.out, HK1.out⟩

theorem put7 {w : World} {b : Nat} {a0 a1 a2 a3 a4 a5 a6 : Value} {t : TypeId} (h : w.heap[b]? = some (.cells #[a0, a1, a2, a3, a4, a5, a6] t (0, 0))) (v0 v1 v2 v3 v4 v5 v6 : Value) :
    (((((((w.setCell ⟨b, 0, none⟩ v0).setCell ⟨b, 1, none⟩ v1).setCell ⟨b, 2, none⟩ v2).setCell ⟨b, 3, none⟩ v3).setCell ⟨b, 4, none⟩ v4).setCell ⟨b, 5, none⟩ v5).setCell ⟨b, 6, none⟩ v6).heap[b]? = some (.cells #[v0, v1, v2, v3, v4, v5, v6] t (0, 0)) ∧
    Keep (fun k => k = b) w (((((((w.setCell ⟨b, 0, none⟩ v0).setCell ⟨b, 1, none⟩ v1).setCell ⟨b, 2, none⟩ v2).setCell ⟨b, 3, none⟩ v3).setCell ⟨b, 4, none⟩ v4).setCell ⟨b, 5, none⟩ v5).setCell ⟨b, 6, none⟩ v6) := by
  have h1 := put_in (cs := [a0, a1, a2, a3, a4, a5, a6]) h 0 v0
  have k1 : Keep (fun k => k = b) w (w.setCell ⟨b, 0, none⟩ v0) := Keep.set _ _ _ rfl
  generalize w.setCell ⟨b, 0, none⟩ v0 = w1 at *
  have h2 := put_in h1 1 v1
  have k2 : Keep (fun k => k = b) w (w1.setCell ⟨b, 1, none⟩ v1) := k1.trans (Keep.set _ _ _ rfl)
  generalize w1.setCell ⟨b, 1, none⟩ v1 = w2 at *
  have h3 := put_in h2 2 v2
  have k3 : Keep (fun k => k = b) w (w2.setCell ⟨b, 2, none⟩ v2) := k2.trans (Keep.set _ _ _ rfl)
  generalize w2.setCell ⟨b, 2, none⟩ v2 = w3 at *
  have h4 := put_in h3 3 v3
  have k4 : Keep (fun k => k = b) w (w3.setCell ⟨b, 3, none⟩ v3) := k3.trans (Keep.set _ _ _ rfl)
  generalize w3.setCell ⟨b, 3, none⟩ v3 = w4 at *
  have h5 := put_in h4 4 v4
  have k5 : Keep (fun k => k = b) w (w4.setCell ⟨b, 4, none⟩ v4) := k4.trans (Keep.set _ _ _ rfl)
  generalize w4.setCell ⟨b, 4, none⟩ v4 = w5 at *
  have h6 := put_in h5 5 v5
  have k6 : Keep (fun k => k = b) w (w5.setCell ⟨b, 5, none⟩ v5) := k5.trans (Keep.set _ _ _ rfl)
  generalize w5.setCell ⟨b, 5, none⟩ v5 = w6 at *
  have h7 := put_in h6 6 v6
  exact ⟨h7, k6.trans (Keep.set _ _ _ rfl)⟩

set_option maxHeartbeats 8000000 in
theorem cpTab_any {N : Nat → Prop} {w : World} {cs : List Value} {t : Tab} (h : TabN N w cs t) (hl : t.cols.length ≤ 100 ∧ t.key.length ≤ 100) :
    Calls Try.prog 102 #[.agg cs.toArray] w (fun e w' => ∃ vs : List Value, e = .returned (.agg vs.toArray) ∧ Below w.heap.size w w' ∧ TabN (New w w') w' vs t) := by
  obtain ⟨x2, y2, rfl, ⟨hx2, -⟩, ⟨hy2, -⟩, -, -⟩ := h
  obtain ⟨a1, e1, rfl, p1, p2, -⟩ := cl_cells hx2
  obtain ⟨a2, e2, rfl, h1, h2, -⟩ := zs_cells hy2
  have HX := hid hx2
  have HY := hid hy2
  have HL := hid hl
  clear hx2 hy2 hl
  go_enter Try.func102, Try.ntmps102
  go_upto_region 1 with fail
  have hb := (Below.refl w.heap.size w).alloc (Nat.le_refl _) (.cells #[.int .i64 t.id, .string ⟨t.name.toArray⟩, .slice a1 t.cols.length e1, .slice a2 t.key.length e2] 33)
  have hz := heap_alloc_new w (.cells #[.int .i64 t.id, .string ⟨t.name.toArray⟩, .slice a1 t.cols.length e1, .slice a2 t.key.length e2] 33)
  have hsz : (w.alloc (.cells #[.int .i64 t.id, .string ⟨t.name.toArray⟩, .slice a1 t.cols.length e1, .slice a2 t.key.length e2] 33)).heap.size = w.heap.size + 1 := by simp
  generalize w.alloc (.cells #[.int .i64 t.id, .string ⟨t.name.toArray⟩, .slice a1 t.cols.length e1, .slice a2 t.key.length e2] 33) = w1 at *
  have hz2 := heap_alloc_new w1 (.cells #[.int .i64 0, .string ⟨#[]⟩, .slice none 0 0, .slice none 0 0] 33)
  have hb2 := hb.alloc hb.size (.cells #[.int .i64 0, .string ⟨#[]⟩, .slice none 0 0, .slice none 0 0] 33)
  have hzk := (((Below.refl _ w1).alloc (Nat.le_refl _) (.cells #[.int .i64 0, .string ⟨#[]⟩, .slice none 0 0, .slice none 0 0] 33)).block _ (lt_of_block hz)).trans hz
  have hsz2 : (w1.alloc (.cells #[.int .i64 0, .string ⟨#[]⟩, .slice none 0 0, .slice none 0 0] 33)).heap.size = w.heap.size + 2 := by simp [hsz]
  rw [hsz] at hz2
  generalize w1.alloc (.cells #[.int .i64 0, .string ⟨#[]⟩, .slice none 0 0, .slice none 0 0] 33) = w2 at *
  have HB := hid hb2
  have HZ := hid hzk
  have HZ2 := hid hz2
  have HSZ := hid hsz2
  clear hb hb2 hz hz2 hzk hsz hsz2
  have z2 := cell_in HZ.out 2 _ rfl
  have CC := hid (cloneC_any w2 (HX.out.old HB.out) HL.out.1)
  go_upto_region 2 with (first | (go_at_call 183; refine CC.out.mono ?_; rintro en w3 ⟨f1, q1, rfl, hb3, hk3⟩; have HB23 := hid hb3; have HB3 := hid (below_step HB.out hb3); have HK3 := hid hk3; have HZ3 := hid ((hb3.block _ (lt_of_block HZ.out)).trans HZ.out); have HZ23 := hid ((hb3.block _ (lt_of_block HZ2.out)).trans HZ2.out); clear hb3 hk3 z2; have z2 := cell_in HZ3.out 2 _ rfl; have z2f := free_in HZ3.out 2))
  have HZ4 := hid (put_in HZ3.out 2 (.slice f1 t.cols.length q1))
  have HKe4 : Hid (Keep (fun k => k = w.heap.size) w3 (w3.setCell ⟨w.heap.size, 2, none⟩ (.slice f1 t.cols.length q1))) := hid (Keep.set _ _ _ rfl)
  have HB4 : Hid (Below w.heap.size w (w3.setCell ⟨w.heap.size, 2, none⟩ (.slice f1 t.cols.length q1))) := hid (HB3.out.setCell (Nat.le_refl _) _)
  generalize w3.setCell ⟨w.heap.size, 2, none⟩ (.slice f1 t.cols.length q1) = w4 at *
  clear z2 z2f
  have z3 := cell_in HZ4.out 3 _ rfl
  have CZ := hid (cloneZ_any w4 (HY.out.old HB4.out) HL.out.2)
  go_upto_region 3 with (first | (go_at_call 184; refine CZ.out.mono ?_; rintro en w5 ⟨f2, q2, rfl, hb5, hk5⟩; have HB45 := hid hb5; have HB5 := hid (below_step HB4.out hb5); have HK5 := hid hk5; have HZ5 := hid ((hb5.block _ (lt_of_block HZ4.out)).trans HZ4.out); clear hb5 hk5 z3; have z3 := cell_in HZ5.out 3 _ rfl; have z3f := free_in HZ5.out 3))
  have HZ6 := hid (put_in HZ5.out 3 (.slice f2 t.key.length q2))
  have HKe6 : Hid (Keep (fun k => k = w.heap.size) w5 (w5.setCell ⟨w.heap.size, 3, none⟩ (.slice f2 t.key.length q2))) := hid (Keep.set _ _ _ rfl)
  have HB6 : Hid (Below w.heap.size w (w5.setCell ⟨w.heap.size, 3, none⟩ (.slice f2 t.key.length q2))) := hid (HB5.out.setCell (Nat.le_refl _) _)
  generalize w5.setCell ⟨w.heap.size, 3, none⟩ (.slice f2 t.key.length q2) = w6 at *
  clear z3 z3f
  have HR6 := hid ((HKe6.out.block _ (by have := HB45.out.size; have := HKe4.out.size; have := HB23.out.size; have := HSZ.out; omega) (by omega)).trans ((HB45.out.block _ (by have := HKe4.out.size; have := HB23.out.size; have := HSZ.out; omega)).trans ((HKe4.out.block _ (by have := HB23.out.size; have := HSZ.out; omega) (by omega)).trans HZ23.out)))
  have z0 := cell_in HZ6.out 0 _ rfl
  have z1 := cell_in HZ6.out 1 _ rfl
  have z2 := cell_in HZ6.out 2 _ rfl
  have z3 := cell_in HZ6.out 3 _ rfl
  have r0 := cell_in HR6.out 0 _ rfl
  have r1 := cell_in HR6.out 1 _ rfl
  have r2 := cell_in HR6.out 2 _ rfl
  have r3 := cell_in HR6.out 3 _ rfl
  have r0f := free_in HR6.out 0
  have r1f := free_in HR6.out 1
  have r2f := free_in HR6.out 2
  have r3f := free_in HR6.out 3
  go_wp2_with fail
  obtain ⟨p1, p2⟩ := put4 HR6.out (.int .i64 t.id) (.string ⟨t.name.toArray⟩) (.slice f1 t.cols.length q1) (.slice f2 t.key.length q2)
  generalize (((w6.setCell ⟨w.heap.size + 1, 0, none⟩ (.int .i64 t.id)).setCell ⟨w.heap.size + 1, 1, none⟩ (.string ⟨t.name.toArray⟩)).setCell ⟨w.heap.size + 1, 2, none⟩ (.slice f1 t.cols.length q1)).setCell ⟨w.heap.size + 1, 3, none⟩ (.slice f2 t.key.length q2) = s4 at *
  refine bodyPost_ret (results_cell_row rfl _ _ (w.heap.size + 1) 33 _ (0, 0) _ rfl p1 Try.underlying33 rfl (by kernel_rfl)) rfl ?_
  have e1 := HSZ.out
  have e2 := HB23.out.size
  have e3 := HKe4.out.size
  have e4 := HB45.out.size
  have e5 := HKe6.out.size
  have e6 := p2.size
  have k34 : Keep (fun k => k = w.heap.size ∨ k = w.heap.size + 1) w3 s4 := (HKe4.out.mono (fun k _ e => Or.inl e)).trans ((Keep.of_below HB45.out).trans ((HKe6.out.mono (fun k _ e => Or.inl e)).trans (p2.mono (fun k _ e => Or.inr e))))
  have k54 : Keep (fun k => k = w.heap.size ∨ k = w.heap.size + 1) w5 s4 := (HKe6.out.mono (fun k _ e => Or.inl e)).trans (p2.mono (fun k _ e => Or.inr e))
  refine ⟨_, rfl, HB6.out.trans (p2.below (by omega) (fun k e => by omega)), _, _, rfl, ?_, ?_, rfl, rfl⟩
  · exact (HK3.out.keep k34 (fun k e e9 => by have := e.1; omega)).mono (fun k e => ⟨by have := e.1; omega, by have := e.2; omega⟩)
  · exact (HK5.out.keep k54 (fun k e e9 => by have := e.1; omega)).mono (fun k e => ⟨by have := e.1; omega, by have := e.2; omega⟩)
end Go.Proofs.Ytafcbelkhhjcoaa
