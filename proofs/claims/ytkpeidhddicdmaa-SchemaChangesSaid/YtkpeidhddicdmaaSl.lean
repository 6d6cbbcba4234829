/-
  LAYER 12, THE DOCUMENT's: Drop.
-/
import Derived.Test.YtkpeidhddicdmaaSk
set_option linter.unusedVariables false
set_option linter.unusedSimpArgs false
set_option maxRecDepth 100000
namespace Go.Proofs.Ytkpeidhddicdmaa
open Go.RowKit Go.Deep

/-- Four cells of a block, written one by one. -/
theorem put4 {w : World} {b : Nat} {a0 a1 a2 a3 : Value} {t : TypeId} (h : w.heap[b]? = some (.cells #[a0, a1, a2, a3] t (0, 0))) (v0 v1 v2 v3 : Value) :
    ((((w.setCell ⟨b, 0, none⟩ v0).setCell ⟨b, 1, none⟩ v1).setCell ⟨b, 2, none⟩ v2).setCell ⟨b, 3, none⟩ v3).heap[b]? = some (.cells #[v0, v1, v2, v3] t (0, 0)) ∧
    Keep (fun k => k = b) w ((((w.setCell ⟨b, 0, none⟩ v0).setCell ⟨b, 1, none⟩ v1).setCell ⟨b, 2, none⟩ v2).setCell ⟨b, 3, none⟩ v3) := by
  have h1 := put_in (cs := [a0, a1, a2, a3]) h 0 v0
  have k1 : Keep (fun k => k = b) w (w.setCell ⟨b, 0, none⟩ v0) := Keep.set _ _ _ rfl
  generalize w.setCell ⟨b, 0, none⟩ v0 = w1 at *
  have h2 := put_in h1 1 v1
  have k2 : Keep (fun k => k = b) w (w1.setCell ⟨b, 1, none⟩ v1) := k1.trans (Keep.set _ _ _ rfl)
  generalize w1.setCell ⟨b, 1, none⟩ v1 = w2 at *
  have h3 := put_in h2 2 v2
  have k3 : Keep (fun k => k = b) w (w2.setCell ⟨b, 2, none⟩ v2) := k2.trans (Keep.set _ _ _ rfl)
  generalize w2.setCell ⟨b, 2, none⟩ v2 = w3 at *
  have h4 := put_in h3 3 v3
  have k4 : Keep (fun k => k = b) w (w3.setCell ⟨b, 3, none⟩ v3) := k3.trans (Keep.set _ _ _ rfl)
  exact ⟨h4, k4⟩
/-- The memory of N, and what is new. -/
def Old (N : Nat → Prop) (w w' : World) (k : Nat) : Prop := N k ∨ (w.heap.size ≤ k ∧ k < w'.heap.size)
theorem cat_form {N : Nat → Prop} {w : World} {cs : List Value} {C : Cat} (h : CatN N w cs C) : ∃ a c a' c', cs = [.int .i64 C.ver, .int .i64 C.nxt, .slice a C.tabs.length c, .slice a' C.idxs.length c'] := by
  obtain ⟨x, y, rfl, ⟨M, m1, m2, -⟩, ⟨M', n1, n2, -⟩, -⟩ := h
  obtain ⟨a, c, rfl, -⟩ := m2.form
  obtain ⟨a', c', rfl, -⟩ := n2.form
  exact ⟨a, c, a', c', by rw [m1, n1]⟩
theorem idx_form {N : Nat → Prop} {w : World} {cs : List Value} {x : Idx} (h : IdxN N w cs x) : ∃ a c, cs = [.int .i64 x.id, .int .i64 x.table, .string ⟨x.name.toArray⟩, .slice a x.cols.length c, .bool x.uniq, .int .i64 x.state, .bool x.bad] := by
  obtain ⟨y, rfl, ⟨h1, -⟩, -⟩ := h
  obtain ⟨a, c, rfl, -⟩ := h1.form
  exact ⟨a, c, by rw [List.length_map]⟩
theorem tab_form {N : Nat → Prop} {w : World} {cs : List Value} {t : Tab} (h : TabN N w cs t) : ∃ a c a' c', cs = [.int .i64 t.id, .string ⟨t.name.toArray⟩, .slice a t.cols.length c, .slice a' t.key.length c'] := by
  obtain ⟨x, y, rfl, ⟨h1, -⟩, ⟨h2, -⟩, -⟩ := h
  obtain ⟨a, c, rfl, -⟩ := h1.form
  obtain ⟨a', c', rfl, -⟩ := h2.form
  exact ⟨a, c, a', c', by rw [List.length_map, List.length_map]⟩

def dropM (C : Cat) (s : List UInt8) : Cat × Int :=
  match C.idxs.find? (fun t => decide (t.name = s)) with
  | none => (C, 5)
  | some x => if 4 < x.state then (C, 7) else (setM C x.id (if x.state = 4 then 5 else 6) x.bad, 0)

/-- What a change tells. -/
def ChP (N : Nat → Prop) (w : World) (R : Cat × Int) (e : Ending) (w' : World) : Prop :=
  ∃ vs : List Value, e = .returned (.tuple #[.agg vs.toArray, .int .i64 R.2]) ∧ Below w.heap.size w w' ∧ CatN (Old N w w') w' vs R.1

set_option maxHeartbeats 8000000 in
theorem rDrop_any {N : Nat → Prop} {w : World} {cs : List Value} {C : Cat} (h : CatN N w cs C) (hN : ∀ k, N k → k < w.heap.size) (hS : C.S) (hv : -9223372036854775808 ≤ C.ver ∧ C.ver < 9223372036854775807) (s : List UInt8) :
    Calls Try.prog 28 #[.agg cs.toArray, .string ⟨s.toArray⟩] w (ChP N w (dropM C s)) := by
  have HH := hid h
  obtain ⟨ao, c, ko, d, rfl⟩ := cat_form h
  have HNK := hid hN
  have HS := hid hS
  have HV := hid hv
  clear h hN hS hv
  go_enter Try.func28, Try.ntmps28
  go_upto_region 1 with fail
  have hb := (Below.refl w.heap.size w).alloc (Nat.le_refl _) (.cells #[.int .i64 C.ver, .int .i64 C.nxt, .slice ao C.tabs.length c, .slice ko C.idxs.length d] 25)
  have hz := heap_alloc_new w (.cells #[.int .i64 C.ver, .int .i64 C.nxt, .slice ao C.tabs.length c, .slice ko C.idxs.length d] 25)
  have hsz : (w.alloc (.cells #[.int .i64 C.ver, .int .i64 C.nxt, .slice ao C.tabs.length c, .slice ko C.idxs.length d] 25)).heap.size = w.heap.size + 1 := by simp
  generalize w.alloc (.cells #[.int .i64 C.ver, .int .i64 C.nxt, .slice ao C.tabs.length c, .slice ko C.idxs.length d] 25) = w1 at *
  have hz2 := heap_alloc_new w1 (.cells #[.int .i64 0, .int .i64 0, .slice none 0 0, .slice none 0 0] 25)
  have HB := hid (hb.alloc hb.size (.cells #[.int .i64 0, .int .i64 0, .slice none 0 0, .slice none 0 0] 25))
  have HZ := hid (((Below.refl _ w1).alloc (Nat.le_refl _) (.cells #[.int .i64 0, .int .i64 0, .slice none 0 0, .slice none 0 0] 25)).block _ (lt_of_block hz) |>.trans hz)
  have hsz2 : (w1.alloc (.cells #[.int .i64 0, .int .i64 0, .slice none 0 0, .slice none 0 0] 25)).heap.size = w.heap.size + 2 := by simp [hsz]
  rw [hsz] at hz2
  generalize w1.alloc (.cells #[.int .i64 0, .int .i64 0, .slice none 0 0, .slice none 0 0] 25) = w2 at *
  have HZ2 := hid hz2
  have HSZ := hid hsz2
  clear hz2 hb hz hsz hsz2
  have z0 := cell_in HZ.out 0 _ rfl
  have z1 := cell_in HZ.out 1 _ rfl
  have z2 := cell_in HZ.out 2 _ rfl
  have z3 := cell_in HZ.out 3 _ rfl
  have CI := hid (rIndex_any (HH.out.old HB.out) s)
  go_upto_region 2 with (first | (go_at_call 18; refine CI.out.mono ?_; rintro en w3 ⟨vs, rfl, hb3, hi3⟩; obtain ⟨xa, xc, rfl⟩ := idx_form hi3; have HB3 := hid hb3; clear hb3 hi3))
  generalize hx : (C.idxs.find? fun t => decide (t.name = s)).getD idx0 = x at *
  have hb4 := (Below.refl w3.heap.size w3).alloc (Nat.le_refl _) (.cells #[.int .i64 x.id, .int .i64 x.table, .string ⟨x.name.toArray⟩, .slice xa x.cols.length xc, .bool x.uniq, .int .i64 x.state, .bool x.bad] 37)
  have hz4 := heap_alloc_new w3 (.cells #[.int .i64 x.id, .int .i64 x.table, .string ⟨x.name.toArray⟩, .slice xa x.cols.length xc, .bool x.uniq, .int .i64 x.state, .bool x.bad] 37)
  generalize w3.alloc (.cells #[.int .i64 x.id, .int .i64 x.table, .string ⟨x.name.toArray⟩, .slice xa x.cols.length xc, .bool x.uniq, .int .i64 x.state, .bool x.bad] 37) = w4 at *
  have HZ4 := hid hz4
  have HB24 := hid (below_step HB3.out hb4)
  have HBA := hid (below_step HB.out HB24.out)
  have HZB := hid ((HB24.out.block _ (lt_of_block HZ.out)).trans HZ.out)
  have HR0 := hid ((HB24.out.block _ (lt_of_block HZ2.out)).trans HZ2.out)
  clear hb4 hz4 z0 z1 z2 z3
  have z0 := cell_in HZB.out 0 _ rfl
  have z1 := cell_in HZB.out 1 _ rfl
  have z2 := cell_in HZB.out 2 _ rfl
  have z3 := cell_in HZB.out 3 _ rfl
  have r0 := cell_in HR0.out 0 _ rfl
  have r1 := cell_in HR0.out 1 _ rfl
  have r2 := cell_in HR0.out 2 _ rfl
  have r3 := cell_in HR0.out 3 _ rfl
  have r0f := free_in HR0.out 0
  have r1f := free_in HR0.out 1
  have r2f := free_in HR0.out 2
  have r3f := free_in HR0.out 3
  have x0 := cell_in HZ4.out 0 _ rfl
  have x5 := cell_in HZ4.out 5 _ rfl
  have x6 := cell_in HZ4.out 6 _ rfl
  have HSAME : Hid (∀ R, dropM C s = R → R.1 = C → ∀ s4 : World, s4.heap[w.heap.size + 1]? = some (.cells #[.int .i64 C.ver, .int .i64 C.nxt, .slice ao C.tabs.length c, .slice ko C.idxs.length d] 25 (0, 0)) → Keep (fun k => k = w.heap.size + 1) w4 s4 →
      Below w.heap.size w s4 ∧ CatN (Old N w s4) s4 [.int .i64 C.ver, .int .i64 C.nxt, .slice ao C.tabs.length c, .slice ko C.idxs.length d] R.1) := hid (fun R _ hR s4 h1 h2 => by
    have hb9 : Below w.heap.size w s4 := HBA.out.trans (h2.below (by have := HBA.out.size; omega) (fun k e => by omega))
    rw [hR]
    exact ⟨hb9, (HH.out.old hb9).mono (fun k e => .inl e)⟩)
  cases hf : (C.idxs.find? fun t => decide (t.name = s)) with
  | none =>
    have HD : Hid (dropM C s = (C, 5)) := hid (by unfold dropM; rw [hf])
    go_wp2_with fail
    obtain ⟨p1, p2⟩ := put4 HR0.out (.int .i64 C.ver) (.int .i64 C.nxt) (.slice ao C.tabs.length c) (.slice ko C.idxs.length d)
    generalize (((w4.setCell ⟨w.heap.size + 1, 0, none⟩ (.int .i64 C.ver)).setCell ⟨w.heap.size + 1, 1, none⟩ (.int .i64 C.nxt)).setCell ⟨w.heap.size + 1, 2, none⟩ (.slice ao C.tabs.length c)).setCell ⟨w.heap.size + 1, 3, none⟩ (.slice ko C.idxs.length d) = s4 at *
    refine bodyPost_ret (results_cell2 rfl _ _ (w.heap.size + 1) 25 _ (0, 0) _ rfl p1 Try.underlying25 rfl (by kernel_rfl)) rfl ?_
    have hh := HSAME.out (C, 5) HD.out rfl s4 p1 p2
    rw [HD.out]
    exact ⟨_, rfl, hh.1, hh.2⟩
  | some x9 =>
    obtain rfl : x9 = x := by rw [hf] at hx; exact hx
    clear hx
    generalize x9 = x at *
    by_cases h4 : 4 < x.state
    · have HD : Hid (dropM C s = (C, 7)) := hid (by unfold dropM; rw [hf]; show (if 4 < x.state then _ else _) = _; rw [if_pos h4])
      go_wp2_with fail
      obtain ⟨p1, p2⟩ := put4 HR0.out (.int .i64 C.ver) (.int .i64 C.nxt) (.slice ao C.tabs.length c) (.slice ko C.idxs.length d)
      generalize (((w4.setCell ⟨w.heap.size + 1, 0, none⟩ (.int .i64 C.ver)).setCell ⟨w.heap.size + 1, 1, none⟩ (.int .i64 C.nxt)).setCell ⟨w.heap.size + 1, 2, none⟩ (.slice ao C.tabs.length c)).setCell ⟨w.heap.size + 1, 3, none⟩ (.slice ko C.idxs.length d) = s4 at *
      refine bodyPost_ret (results_cell2 rfl _ _ (w.heap.size + 1) 25 _ (0, 0) _ rfl p1 Try.underlying25 rfl (by kernel_rfl)) rfl ?_
      have hh := HSAME.out (C, 7) HD.out rfl s4 p1 p2
      rw [HD.out]
      exact ⟨_, rfl, hh.1, hh.2⟩
    · by_cases h5 : x.state = 4
      · have h5' : (x.state == 4) = true := by simp [h5]
        have HD : Hid (dropM C s = (setM C x.id 5 x.bad, 0)) := hid (by unfold dropM; rw [hf]; show (if 4 < x.state then _ else _) = _; rw [if_neg h4]; rw [if_pos h5])
        have CS := hid (rSet_any (HH.out.old HBA.out) (fun k hk => Nat.lt_of_lt_of_le (HNK.out k hk) HBA.out.size) HS.out HV.out x.id 5 x.bad)
        generalize setM C x.id 5 x.bad = m at HD CS
        clear hf
        go_wp2_with (first | (go_at_call 62; refine CS.out.mono ?_; rintro en w5 ⟨vs, rfl, hb5, hc5⟩; obtain ⟨sa, sc, ka, kc, rfl⟩ := cat_form hc5; have HB5 := hid hb5; have HC5 := hid hc5; have HR5 := hid ((HB5.out.block _ (lt_of_block HR0.out)).trans HR0.out); clear r0 r1 r2 r3 r0f r1f r2f r3f hb5 hc5; have r0 := cell_in HR5.out 0 _ rfl; have r1 := cell_in HR5.out 1 _ rfl; have r2 := cell_in HR5.out 2 _ rfl; have r3 := cell_in HR5.out 3 _ rfl; have r0f := free_in HR5.out 0; have r1f := free_in HR5.out 1; have r2f := free_in HR5.out 2; have r3f := free_in HR5.out 3))
        obtain ⟨p1, p2⟩ := put4 HR5.out (.int .i64 m.ver) (.int .i64 m.nxt) (.slice sa m.tabs.length sc) (.slice ka m.idxs.length kc)
        generalize (((w5.setCell ⟨w.heap.size + 1, 0, none⟩ (.int .i64 m.ver)).setCell ⟨w.heap.size + 1, 1, none⟩ (.int .i64 m.nxt)).setCell ⟨w.heap.size + 1, 2, none⟩ (.slice sa m.tabs.length sc)).setCell ⟨w.heap.size + 1, 3, none⟩ (.slice ka m.idxs.length kc) = s4 at *
        refine bodyPost_ret (results_cell2 rfl _ _ (w.heap.size + 1) 25 _ (0, 0) _ rfl p1 Try.underlying25 rfl (by kernel_rfl)) rfl ?_
        rw [HD.out]
        have hsz := HSZ.out
        have hs24 := HB24.out.size
        have hba := HBA.out.size
        have hsk := p2.size
        have hb9 : Below w.heap.size w s4 := (below_step HBA.out HB5.out).trans (p2.below (by have := HB5.out.size; omega) (fun k e => by omega))
        have hc9 : CatN (Old N w s4) s4 [.int .i64 m.ver, .int .i64 m.nxt, .slice sa m.tabs.length sc, .slice ka m.idxs.length kc] m :=
          (HC5.out.keep p2 (fun k e e9 => by have e8 : k = w.heap.size + 1 := e9; have := e.1; omega)).mono (fun k e => Or.inr ⟨by have := e.1; omega, by have := e.2; omega⟩)
        exact ⟨_, rfl, hb9, hc9⟩
      · have h5' : (x.state == 4) = false := by simp [h5]
        have HD : Hid (dropM C s = (setM C x.id 6 x.bad, 0)) := hid (by unfold dropM; rw [hf]; show (if 4 < x.state then _ else _) = _; rw [if_neg h4]; rw [if_neg h5])
        have CS := hid (rSet_any (HH.out.old HBA.out) (fun k hk => Nat.lt_of_lt_of_le (HNK.out k hk) HBA.out.size) HS.out HV.out x.id 6 x.bad)
        generalize setM C x.id 6 x.bad = m at HD CS
        clear hf
        go_wp2_with (first | (go_at_call 62; refine CS.out.mono ?_; rintro en w5 ⟨vs, rfl, hb5, hc5⟩; obtain ⟨sa, sc, ka, kc, rfl⟩ := cat_form hc5; have HB5 := hid hb5; have HC5 := hid hc5; have HR5 := hid ((HB5.out.block _ (lt_of_block HR0.out)).trans HR0.out); clear r0 r1 r2 r3 r0f r1f r2f r3f hb5 hc5; have r0 := cell_in HR5.out 0 _ rfl; have r1 := cell_in HR5.out 1 _ rfl; have r2 := cell_in HR5.out 2 _ rfl; have r3 := cell_in HR5.out 3 _ rfl; have r0f := free_in HR5.out 0; have r1f := free_in HR5.out 1; have r2f := free_in HR5.out 2; have r3f := free_in HR5.out 3))
        obtain ⟨p1, p2⟩ := put4 HR5.out (.int .i64 m.ver) (.int .i64 m.nxt) (.slice sa m.tabs.length sc) (.slice ka m.idxs.length kc)
        generalize (((w5.setCell ⟨w.heap.size + 1, 0, none⟩ (.int .i64 m.ver)).setCell ⟨w.heap.size + 1, 1, none⟩ (.int .i64 m.nxt)).setCell ⟨w.heap.size + 1, 2, none⟩ (.slice sa m.tabs.length sc)).setCell ⟨w.heap.size + 1, 3, none⟩ (.slice ka m.idxs.length kc) = s4 at *
        refine bodyPost_ret (results_cell2 rfl _ _ (w.heap.size + 1) 25 _ (0, 0) _ rfl p1 Try.underlying25 rfl (by kernel_rfl)) rfl ?_
        rw [HD.out]
        have hsz := HSZ.out
        have hs24 := HB24.out.size
        have hba := HBA.out.size
        have hsk := p2.size
        have hb9 : Below w.heap.size w s4 := (below_step HBA.out HB5.out).trans (p2.below (by have := HB5.out.size; omega) (fun k e => by omega))
        have hc9 : CatN (Old N w s4) s4 [.int .i64 m.ver, .int .i64 m.nxt, .slice sa m.tabs.length sc, .slice ka m.idxs.length kc] m :=
          (HC5.out.keep p2 (fun k e e9 => by have e8 : k = w.heap.size + 1 := e9; have := e.1; omega)).mono (fun k e => Or.inr ⟨by have := e.1; omega, by have := e.2; omega⟩)
        exact ⟨_, rfl, hb9, hc9⟩
end Go.Proofs.Ytkpeidhddicdmaa
