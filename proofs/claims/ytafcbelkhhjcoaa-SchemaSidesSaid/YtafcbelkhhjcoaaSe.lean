/-
  LAYER 12, THE DOCUMENT's: ByID, Table, Index; the law's stateOf. (Made by src2/gen_sfind.py.)
-/
import Derived.Test.YtafcbelkhhjcoaaSd
set_option linter.unusedVariables false
set_option linter.unusedSimpArgs false
set_option maxRecDepth 100000
namespace Go.Proofs.Ytafcbelkhhjcoaa
open Go.RowKit Go.Deep

theorem results_cell2 {P : Program} {fn : Func} {p u : Tmp} {ty : TypeId} (h : fn.results = #[.cell p ty, .tmp u]) (tmps : Array Value) (w : World) (g : Nat) (t : TypeId) (cs : Array Value) (fr : Nat × Nat) (d : TypeDesc)
    (hp : tmps.getD p undef = .pointer (some ⟨g, 0, none⟩)) (hg : w.heap[g]? = some (.cells cs t fr))
    (hu : P.underlying ty = some d) (hd : (match d with | .struct _ | .array _ _ => true | _ => false) = true) (hi : (P.info? ty).map (·.size) = some cs.size) :
    (results fn tmps).run P w = .ok (.tuple #[.agg cs, tmps.getD u undef]) w := by
  have hp' : tmps[p]?.getD undef = .pointer (some ⟨g, 0, none⟩) := by simpa using hp
  simp [results, h, hp', asAddr, run_loadVar_row w g t ty cs fr d hg hu hd hi]
theorem put_in {w : World} {b : Nat} {cs : List Value} {t : TypeId} (h : w.heap[b]? = some (.cells cs.toArray t (0, 0))) (i : Nat) (v : Value) : (w.setCell ⟨b, i, none⟩ v).heap[b]? = some (.cells (cs.set i v).toArray t (0, 0)) := by
  have hlt := lt_of_block h
  have h' : w.heap[b] = .cells cs.toArray t (0, 0) := by simpa [Array.getElem?_eq_getElem hlt] using h
  show (w.heap.modify b _)[b]? = _
  rw [Array.getElem?_eq_getElem (by simpa using hlt), Array.getElem_modify_self, h']
  simp
theorem free_in {w : World} {b : Nat} {cs : Array Value} {t : TypeId} (h : w.heap[b]? = some (.cells cs t (0, 0))) (i : Nat) : w.frozen? ⟨b, i, none⟩ = false := by
  simp [World.frozen?, h]

def tab0 : Tab := ⟨0, [], [], []⟩
def idx0 : Idx := ⟨0, 0, [], [], false, 0, false⟩
theorem ZsN.nil (N : Nat → Prop) (w : World) : ZsN N w (.slice none 0 0) [] := ⟨Rws.nil 1 w, fun h => absurd rfl h⟩
theorem ClsN.nil (N : Nat → Prop) (w : World) : ClsN N w (.slice none 0 0) [] := ⟨Rws.nil 3 w, fun h => absurd rfl h⟩
theorem TabN.zero (N : Nat → Prop) (w : World) : TabN N w [.int .i64 0, .string ⟨#[]⟩, .slice none 0 0, .slice none 0 0] tab0 := ⟨_, _, rfl, ClsN.nil N w, ZsN.nil N w, rfl, rfl⟩
theorem IdxN.zero (N : Nat → Prop) (w : World) : IdxN N w [.int .i64 0, .int .i64 0, .string ⟨#[]⟩, .slice none 0 0, .bool false, .int .i64 0, .bool false] idx0 := ⟨_, rfl, ZsN.nil N w, rfl⟩

theorem tb_cells {N : Nat → Prop} {w : World} {x : Value} {l : List Tab} (h : LstN (TabN N) 4 N w x l) : ∃ ao c, x = .slice ao l.length c ∧ l.length ≤ c ∧ c ≤ maxLen ∧ ∀ (k : Nat) t, l[k]? = some t → ∃ b off a1 c1 a2 c2, ao = some ⟨b, off, none⟩ ∧
    TabN N w [.int .i64 t.id, .string ⟨t.name.toArray⟩, .slice a1 t.cols.length c1, .slice a2 t.key.length c2] t ∧ w.cell? ⟨b, off + k * 4, none⟩ = some (.int .i64 t.id) ∧ w.cell? ⟨b, off + k * 4 + 1, none⟩ = some (.string ⟨t.name.toArray⟩) ∧
    w.cell? ⟨b, off + k * 4 + 2, none⟩ = some (.slice a1 t.cols.length c1) ∧ w.cell? ⟨b, off + k * 4 + 3, none⟩ = some (.slice a2 t.key.length c2) := by
  obtain ⟨M, hl, hr, hall, -⟩ := h
  obtain ⟨ao, c, rfl, h1, h2⟩ := hr.form
  rw [hl] at hr h1
  refine ⟨ao, c, by rw [hl], h1, h2, fun k t hk => ?_⟩
  obtain ⟨r, hM⟩ : ∃ r, M[k]? = some r := ⟨_, List.getElem?_eq_getElem (by have := (List.getElem?_eq_some_iff.1 hk).1; omega)⟩
  have ht := hall k r t hM hk
  obtain ⟨x', y', rfl, q1, q2, o1, o2⟩ := ht
  obtain ⟨a1, c1, rfl, -⟩ := q1.1.form
  obtain ⟨a2, c2, rfl, -⟩ := q2.1.form
  obtain ⟨b, off, rfl, h3⟩ := hr.get (by decide) hM
  rw [List.length_map] at *
  rw [List.length_map] at *
  exact ⟨b, off, a1, c1, a2, c2, rfl, ⟨_, _, rfl, q1, q2, rfl, rfl⟩, h3 0 _ rfl, h3 1 _ rfl, h3 2 _ rfl, h3 3 _ rfl⟩
theorem ix_cells {N : Nat → Prop} {w : World} {x : Value} {l : List Idx} (h : LstN (IdxN N) 7 N w x l) : ∃ ao c, x = .slice ao l.length c ∧ l.length ≤ c ∧ c ≤ maxLen ∧ ∀ (k : Nat) t, l[k]? = some t → ∃ b off a1 c1, ao = some ⟨b, off, none⟩ ∧
    IdxN N w [.int .i64 t.id, .int .i64 t.table, .string ⟨t.name.toArray⟩, .slice a1 t.cols.length c1, .bool t.uniq, .int .i64 t.state, .bool t.bad] t ∧ w.cell? ⟨b, off + k * 7, none⟩ = some (.int .i64 t.id) ∧ w.cell? ⟨b, off + k * 7 + 1, none⟩ = some (.int .i64 t.table) ∧ w.cell? ⟨b, off + k * 7 + 2, none⟩ = some (.string ⟨t.name.toArray⟩) ∧
    w.cell? ⟨b, off + k * 7 + 3, none⟩ = some (.slice a1 t.cols.length c1) ∧ w.cell? ⟨b, off + k * 7 + 4, none⟩ = some (.bool t.uniq) ∧ w.cell? ⟨b, off + k * 7 + 5, none⟩ = some (.int .i64 t.state) ∧ w.cell? ⟨b, off + k * 7 + 6, none⟩ = some (.bool t.bad) := by
  obtain ⟨M, hl, hr, hall, -⟩ := h
  obtain ⟨ao, c, rfl, h1, h2⟩ := hr.form
  rw [hl] at hr h1
  refine ⟨ao, c, by rw [hl], h1, h2, fun k t hk => ?_⟩
  obtain ⟨r, hM⟩ : ∃ r, M[k]? = some r := ⟨_, List.getElem?_eq_getElem (by have := (List.getElem?_eq_some_iff.1 hk).1; omega)⟩
  have ht := hall k r t hM hk
  obtain ⟨y', rfl, q1, o1⟩ := ht
  obtain ⟨a1, c1, rfl, -⟩ := q1.1.form
  obtain ⟨b, off, rfl, h3⟩ := hr.get (by decide) hM
  rw [List.length_map] at *
  exact ⟨b, off, a1, c1, rfl, ⟨_, rfl, q1, rfl⟩, h3 0 _ rfl, h3 1 _ rfl, h3 2 _ rfl, h3 3 _ rfl, h3 4 _ rfl, h3 5 _ rfl, h3 6 _ rfl⟩
theorem find_none {α : Type} {p : α → Bool} {l : List α} (h : l.any p = false) : l.find? p = none := by
  rw [List.find?_eq_none]; intro x hx hp
  have : l.any p = true := List.any_eq_true.2 ⟨x, hx, hp⟩
  rw [h] at this; cases this
theorem find_at {α : Type} {p : α → Bool} {l : List α} {k : Nat} {c : α} (h : l[k]? = some c) (ha : (l.take k).any p = false) (hp : p c = true) : l.find? p = some c := by
  have h1 : l = l.take k ++ c :: l.drop (k + 1) := by
    conv => lhs; rw [← List.take_append_drop k l]
    obtain ⟨hk, rfl⟩ := List.getElem?_eq_some_iff.1 h
    rw [List.drop_eq_getElem_cons hk]
  rw [h1, List.find?_append, find_none ha]
  simp [List.find?_cons, hp]
theorem str_comm (a b : List UInt8) : decide (a = b) = (a == b) := by rw [Bool.eq_iff_iff]; simp

set_option maxHeartbeats 4000000 in
theorem rByID_any {N : Nat → Prop} {w : World} {cs : List Value} {C : Cat} (h : CatN N w cs C) (s : Int) : Calls Try.prog 98 #[.agg cs.toArray, .int .i64 s] w (fun e w' => ∃ vs : List Value, e = .returned (.tuple #[.agg vs.toArray, .bool (C.tabs.find? (fun t => decide (t.id = s))).isSome]) ∧ Below w.heap.size w w' ∧ TabN N w' vs ((C.tabs.find? (fun t => decide (t.id = s))).getD tab0)) := by
  obtain ⟨x, y, rfl, hx, hy, -, -⟩ := h
  obtain ⟨ao, c, rfl, h1, h2, hc⟩ := tb_cells hx
  obtain ⟨ko, d, rfl, g1, g2, gc⟩ := ix_cells hy
  have hlm : C.tabs.length ≤ 9223372036854775807 := by unfold maxLen at h2; omega
  have hkm : C.idxs.length ≤ 9223372036854775807 := by unfold maxLen at g2; omega
  have HC := hid hc
  clear hx hy hc gc
  go_enter Try.func98, Try.ntmps98
  go_upto_region 1 with fail
  have hb := (Below.refl w.heap.size w).alloc (Nat.le_refl _) (.cells #[.int .i64 C.ver, .int .i64 C.nxt, .slice ao C.tabs.length c, .slice ko C.idxs.length d] 25)
  have hz := heap_alloc_new w (.cells #[.int .i64 C.ver, .int .i64 C.nxt, .slice ao C.tabs.length c, .slice ko C.idxs.length d] 25)
  have hsz : (w.alloc (.cells #[.int .i64 C.ver, .int .i64 C.nxt, .slice ao C.tabs.length c, .slice ko C.idxs.length d] 25)).heap.size = w.heap.size + 1 := by simp
  generalize w.alloc (.cells #[.int .i64 C.ver, .int .i64 C.nxt, .slice ao C.tabs.length c, .slice ko C.idxs.length d] 25) = w1 at *
  have hz2 := heap_alloc_new w1 (.cells #[.int .i64 0, .string ⟨#[]⟩, .slice none 0 0, .slice none 0 0] 33)
  have HB := hid (hb.alloc hb.size (.cells #[.int .i64 0, .string ⟨#[]⟩, .slice none 0 0, .slice none 0 0] 33))
  have HZ := hid (((Below.refl _ w1).alloc (Nat.le_refl _) (.cells #[.int .i64 0, .string ⟨#[]⟩, .slice none 0 0, .slice none 0 0] 33)).block _ (lt_of_block hz) |>.trans hz)
  rw [hsz] at hz2
  generalize w1.alloc (.cells #[.int .i64 0, .string ⟨#[]⟩, .slice none 0 0, .slice none 0 0] 33) = w2 at *
  have HZ2 := hid hz2
  clear hz2
  clear hb hz hsz
  have z1 := cell_in HZ.out 2 _ rfl
  go_wp2_with fail
  go_loopw [6] (fun j wr => ∃ k : Nat, k ≤ C.tabs.length ∧ j = .int .i64 (k : Int) ∧ wr = w2 ∧ (C.tabs.take k).any (fun t => decide (t.id = s)) = false)
    (fun j _ => C.tabs.length - (intOf j).toNat)
  case atStart => exact ⟨0, by omega, rfl, rfl, by simp⟩
  case round =>
    obtain ⟨k, hk, rfl, rfl, ha⟩ := hrel
    have HA := hid ha
    clear ha
    by_cases hlt : k < C.tabs.length
    · obtain ⟨u, hu⟩ : ∃ u, C.tabs[k]? = some u := ⟨_, List.getElem?_eq_getElem hlt⟩
      obtain ⟨b, off, a1, e1, a2, e2, rfl, ht, c0, c1, c2, c3⟩ := HC.out k u hu
      have hki : (k : Int) < (C.tabs.length : Int) := by omega
      have k0 := (HB.out.cell (block_cell c0)).trans c0
      have k1 := (HB.out.cell (block_cell c1)).trans c1
      have k2 := (HB.out.cell (block_cell c2)).trans c2
      have k3 := (HB.out.cell (block_cell c3)).trans c3
      clear c0 c1 c2 c3
      have HT := hid ht
      clear ht
      have HU := hid (any_take (p := fun t => decide (t.id = s)) hu HA.out)
      have HF := hid (find_at (p := fun t => decide (t.id = s)) hu HA.out)
      have q0 := cell_in HZ2.out 0 _ rfl
      have f0 := free_in HZ2.out 0
      have q1 := cell_in HZ2.out 1 _ rfl
      have f1 := free_in HZ2.out 1
      have q2 := cell_in HZ2.out 2 _ rfl
      have f2 := free_in HZ2.out 2
      have q3 := cell_in HZ2.out 3 _ rfl
      have f3 := free_in HZ2.out 3
      cases hq : (u.id == s) with
      | true =>
        have HFF := hid (HF.out (by simpa using hq))
        clear HF HU
        go_wp2_with fail
        (try simp only [Exit.inBlock, Exit.then]); refine bodyPost_ret (results_cell2 rfl _ _ (w.heap.size + 1) 33 _ (0, 0) _ rfl (put_in (put_in (put_in (put_in HZ2.out 0 _) 1 _) 2 _) 3 _) Try.underlying33 rfl (by kernel_rfl)) rfl ?_
        rw [HFF.out]
        refine ⟨_, rfl, ((((HB.out.setCell (by simp) _).setCell (by simp) _).setCell (by simp) _).setCell (by simp) _), ?_⟩
        exact HT.out.old ((((HB.out.setCell (by simp) _).setCell (by simp) _).setCell (by simp) _).setCell (by simp) _)
      | false =>
        have HQ := hid hq
        go_wp2_with fail
        go_roundw
        case rel => exact ⟨k + 1, by omega, by go_num, trivial, by rw [HU.out]; simpa using HQ.out⟩
        case measure => simp [intOf]; omega
    · obtain rfl : k = C.tabs.length := by omega
      rw [List.take_length] at HA
      have HFF := hid (find_none HA.out)
      have q0 := cell_in HZ2.out 0 _ rfl
      have f0 := free_in HZ2.out 0
      have q1 := cell_in HZ2.out 1 _ rfl
      have f1 := free_in HZ2.out 1
      have q2 := cell_in HZ2.out 2 _ rfl
      have f2 := free_in HZ2.out 2
      have q3 := cell_in HZ2.out 3 _ rfl
      have f3 := free_in HZ2.out 3
      go_wp2_with fail
      (try simp only [Exit.inBlock, Exit.then]); refine bodyPost_ret (results_cell2 rfl _ _ (w.heap.size + 1) 33 _ (0, 0) _ rfl (put_in (put_in (put_in (put_in HZ2.out 0 _) 1 _) 2 _) 3 _) Try.underlying33 rfl (by kernel_rfl)) rfl ?_
      rw [HFF.out]
      exact ⟨_, rfl, ((((HB.out.setCell (by simp) _).setCell (by simp) _).setCell (by simp) _).setCell (by simp) _), TabN.zero _ _⟩

set_option maxHeartbeats 4000000 in
theorem rTable_any {N : Nat → Prop} {w : World} {cs : List Value} {C : Cat} (h : CatN N w cs C) (s : List UInt8) : Calls Try.prog 20 #[.agg cs.toArray, .string ⟨s.toArray⟩] w (fun e w' => ∃ vs : List Value, e = .returned (.tuple #[.agg vs.toArray, .bool (C.tabs.find? (fun t => decide (t.name = s))).isSome]) ∧ Below w.heap.size w w' ∧ TabN N w' vs ((C.tabs.find? (fun t => decide (t.name = s))).getD tab0)) := by
  obtain ⟨x, y, rfl, hx, hy, -, -⟩ := h
  obtain ⟨ao, c, rfl, h1, h2, hc⟩ := tb_cells hx
  obtain ⟨ko, d, rfl, g1, g2, gc⟩ := ix_cells hy
  have hlm : C.tabs.length ≤ 9223372036854775807 := by unfold maxLen at h2; omega
  have hkm : C.idxs.length ≤ 9223372036854775807 := by unfold maxLen at g2; omega
  have HC := hid hc
  clear hx hy hc gc
  go_enter Try.func20, Try.ntmps20
  go_upto_region 1 with fail
  have hb := (Below.refl w.heap.size w).alloc (Nat.le_refl _) (.cells #[.int .i64 C.ver, .int .i64 C.nxt, .slice ao C.tabs.length c, .slice ko C.idxs.length d] 25)
  have hz := heap_alloc_new w (.cells #[.int .i64 C.ver, .int .i64 C.nxt, .slice ao C.tabs.length c, .slice ko C.idxs.length d] 25)
  have hsz : (w.alloc (.cells #[.int .i64 C.ver, .int .i64 C.nxt, .slice ao C.tabs.length c, .slice ko C.idxs.length d] 25)).heap.size = w.heap.size + 1 := by simp
  generalize w.alloc (.cells #[.int .i64 C.ver, .int .i64 C.nxt, .slice ao C.tabs.length c, .slice ko C.idxs.length d] 25) = w1 at *
  have hz2 := heap_alloc_new w1 (.cells #[.int .i64 0, .string ⟨#[]⟩, .slice none 0 0, .slice none 0 0] 33)
  have HB := hid (hb.alloc hb.size (.cells #[.int .i64 0, .string ⟨#[]⟩, .slice none 0 0, .slice none 0 0] 33))
  have HZ := hid (((Below.refl _ w1).alloc (Nat.le_refl _) (.cells #[.int .i64 0, .string ⟨#[]⟩, .slice none 0 0, .slice none 0 0] 33)).block _ (lt_of_block hz) |>.trans hz)
  rw [hsz] at hz2
  generalize w1.alloc (.cells #[.int .i64 0, .string ⟨#[]⟩, .slice none 0 0, .slice none 0 0] 33) = w2 at *
  have HZ2 := hid hz2
  clear hz2
  clear hb hz hsz
  have z1 := cell_in HZ.out 2 _ rfl
  go_wp2_with fail
  go_loopw [6] (fun j wr => ∃ k : Nat, k ≤ C.tabs.length ∧ j = .int .i64 (k : Int) ∧ wr = w2 ∧ (C.tabs.take k).any (fun t => decide (t.name = s)) = false)
    (fun j _ => C.tabs.length - (intOf j).toNat)
  case atStart => exact ⟨0, by omega, rfl, rfl, by simp⟩
  case round =>
    obtain ⟨k, hk, rfl, rfl, ha⟩ := hrel
    have HA := hid ha
    clear ha
    by_cases hlt : k < C.tabs.length
    · obtain ⟨u, hu⟩ : ∃ u, C.tabs[k]? = some u := ⟨_, List.getElem?_eq_getElem hlt⟩
      obtain ⟨b, off, a1, e1, a2, e2, rfl, ht, c0, c1, c2, c3⟩ := HC.out k u hu
      have hki : (k : Int) < (C.tabs.length : Int) := by omega
      have k0 := (HB.out.cell (block_cell c0)).trans c0
      have k1 := (HB.out.cell (block_cell c1)).trans c1
      have k2 := (HB.out.cell (block_cell c2)).trans c2
      have k3 := (HB.out.cell (block_cell c3)).trans c3
      clear c0 c1 c2 c3
      have HT := hid ht
      clear ht
      have HU := hid (any_take (p := fun t => decide (t.name = s)) hu HA.out)
      have HF := hid (find_at (p := fun t => decide (t.name = s)) hu HA.out)
      have q0 := cell_in HZ2.out 0 _ rfl
      have f0 := free_in HZ2.out 0
      have q1 := cell_in HZ2.out 1 _ rfl
      have f1 := free_in HZ2.out 1
      have q2 := cell_in HZ2.out 2 _ rfl
      have f2 := free_in HZ2.out 2
      have q3 := cell_in HZ2.out 3 _ rfl
      have f3 := free_in HZ2.out 3
      cases hq : (u.name == s) with
      | true =>
        have HFF := hid (HF.out (by simpa using hq))
        clear HF HU
        go_wp2_with fail
        (try simp only [Exit.inBlock, Exit.then]); refine bodyPost_ret (results_cell2 rfl _ _ (w.heap.size + 1) 33 _ (0, 0) _ rfl (put_in (put_in (put_in (put_in HZ2.out 0 _) 1 _) 2 _) 3 _) Try.underlying33 rfl (by kernel_rfl)) rfl ?_
        rw [HFF.out]
        refine ⟨_, rfl, ((((HB.out.setCell (by simp) _).setCell (by simp) _).setCell (by simp) _).setCell (by simp) _), ?_⟩
        exact HT.out.old ((((HB.out.setCell (by simp) _).setCell (by simp) _).setCell (by simp) _).setCell (by simp) _)
      | false =>
        have HQ := hid hq
        go_wp2_with fail
        go_roundw
        case rel => exact ⟨k + 1, by omega, by go_num, trivial, by rw [HU.out]; simpa using HQ.out⟩
        case measure => simp [intOf]; omega
    · obtain rfl : k = C.tabs.length := by omega
      rw [List.take_length] at HA
      have HFF := hid (find_none HA.out)
      have q0 := cell_in HZ2.out 0 _ rfl
      have f0 := free_in HZ2.out 0
      have q1 := cell_in HZ2.out 1 _ rfl
      have f1 := free_in HZ2.out 1
      have q2 := cell_in HZ2.out 2 _ rfl
      have f2 := free_in HZ2.out 2
      have q3 := cell_in HZ2.out 3 _ rfl
      have f3 := free_in HZ2.out 3
      go_wp2_with fail
      (try simp only [Exit.inBlock, Exit.then]); refine bodyPost_ret (results_cell2 rfl _ _ (w.heap.size + 1) 33 _ (0, 0) _ rfl (put_in (put_in (put_in (put_in HZ2.out 0 _) 1 _) 2 _) 3 _) Try.underlying33 rfl (by kernel_rfl)) rfl ?_
      rw [HFF.out]
      exact ⟨_, rfl, ((((HB.out.setCell (by simp) _).setCell (by simp) _).setCell (by simp) _).setCell (by simp) _), TabN.zero _ _⟩

set_option maxHeartbeats 4000000 in
theorem rIndex_any {N : Nat → Prop} {w : World} {cs : List Value} {C : Cat} (h : CatN N w cs C) (s : List UInt8) : Calls Try.prog 22 #[.agg cs.toArray, .string ⟨s.toArray⟩] w (fun e w' => ∃ vs : List Value, e = .returned (.tuple #[.agg vs.toArray, .bool (C.idxs.find? (fun t => decide (t.name = s))).isSome]) ∧ Below w.heap.size w w' ∧ IdxN N w' vs ((C.idxs.find? (fun t => decide (t.name = s))).getD idx0)) := by
  obtain ⟨x, y, rfl, hx, hy, -, -⟩ := h
  obtain ⟨ao, c, rfl, h1, h2, hc⟩ := tb_cells hx
  obtain ⟨ko, d, rfl, g1, g2, gc⟩ := ix_cells hy
  have hlm : C.tabs.length ≤ 9223372036854775807 := by unfold maxLen at h2; omega
  have hkm : C.idxs.length ≤ 9223372036854775807 := by unfold maxLen at g2; omega
  have HC := hid gc
  clear hx hy hc gc
  go_enter Try.func22, Try.ntmps22
  go_upto_region 1 with fail
  have hb := (Below.refl w.heap.size w).alloc (Nat.le_refl _) (.cells #[.int .i64 C.ver, .int .i64 C.nxt, .slice ao C.tabs.length c, .slice ko C.idxs.length d] 25)
  have hz := heap_alloc_new w (.cells #[.int .i64 C.ver, .int .i64 C.nxt, .slice ao C.tabs.length c, .slice ko C.idxs.length d] 25)
  have hsz : (w.alloc (.cells #[.int .i64 C.ver, .int .i64 C.nxt, .slice ao C.tabs.length c, .slice ko C.idxs.length d] 25)).heap.size = w.heap.size + 1 := by simp
  generalize w.alloc (.cells #[.int .i64 C.ver, .int .i64 C.nxt, .slice ao C.tabs.length c, .slice ko C.idxs.length d] 25) = w1 at *
  have hz2 := heap_alloc_new w1 (.cells #[.int .i64 0, .int .i64 0, .string ⟨#[]⟩, .slice none 0 0, .bool false, .int .i64 0, .bool false] 37)
  have HB := hid (hb.alloc hb.size (.cells #[.int .i64 0, .int .i64 0, .string ⟨#[]⟩, .slice none 0 0, .bool false, .int .i64 0, .bool false] 37))
  have HZ := hid (((Below.refl _ w1).alloc (Nat.le_refl _) (.cells #[.int .i64 0, .int .i64 0, .string ⟨#[]⟩, .slice none 0 0, .bool false, .int .i64 0, .bool false] 37)).block _ (lt_of_block hz) |>.trans hz)
  rw [hsz] at hz2
  generalize w1.alloc (.cells #[.int .i64 0, .int .i64 0, .string ⟨#[]⟩, .slice none 0 0, .bool false, .int .i64 0, .bool false] 37) = w2 at *
  have HZ2 := hid hz2
  clear hz2
  clear hb hz hsz
  have z1 := cell_in HZ.out 3 _ rfl
  go_wp2_with fail
  go_loopw [6] (fun j wr => ∃ k : Nat, k ≤ C.idxs.length ∧ j = .int .i64 (k : Int) ∧ wr = w2 ∧ (C.idxs.take k).any (fun t => decide (t.name = s)) = false)
    (fun j _ => C.idxs.length - (intOf j).toNat)
  case atStart => exact ⟨0, by omega, rfl, rfl, by simp⟩
  case round =>
    obtain ⟨k, hk, rfl, rfl, ha⟩ := hrel
    have HA := hid ha
    clear ha
    by_cases hlt : k < C.idxs.length
    · obtain ⟨u, hu⟩ : ∃ u, C.idxs[k]? = some u := ⟨_, List.getElem?_eq_getElem hlt⟩
      obtain ⟨b, off, a1, e1, rfl, ht, c0, c1, c2, c3, c4, c5, c6⟩ := HC.out k u hu
      have hki : (k : Int) < (C.idxs.length : Int) := by omega
      have k0 := (HB.out.cell (block_cell c0)).trans c0
      have k1 := (HB.out.cell (block_cell c1)).trans c1
      have k2 := (HB.out.cell (block_cell c2)).trans c2
      have k3 := (HB.out.cell (block_cell c3)).trans c3
      have k4 := (HB.out.cell (block_cell c4)).trans c4
      have k5 := (HB.out.cell (block_cell c5)).trans c5
      have k6 := (HB.out.cell (block_cell c6)).trans c6
      clear c0 c1 c2 c3 c4 c5 c6
      have HT := hid ht
      clear ht
      have HU := hid (any_take (p := fun t => decide (t.name = s)) hu HA.out)
      have HF := hid (find_at (p := fun t => decide (t.name = s)) hu HA.out)
      have q0 := cell_in HZ2.out 0 _ rfl
      have f0 := free_in HZ2.out 0
      have q1 := cell_in HZ2.out 1 _ rfl
      have f1 := free_in HZ2.out 1
      have q2 := cell_in HZ2.out 2 _ rfl
      have f2 := free_in HZ2.out 2
      have q3 := cell_in HZ2.out 3 _ rfl
      have f3 := free_in HZ2.out 3
      have q4 := cell_in HZ2.out 4 _ rfl
      have f4 := free_in HZ2.out 4
      have q5 := cell_in HZ2.out 5 _ rfl
      have f5 := free_in HZ2.out 5
      have q6 := cell_in HZ2.out 6 _ rfl
      have f6 := free_in HZ2.out 6
      cases hq : (u.name == s) with
      | true =>
        have HFF := hid (HF.out (by simpa using hq))
        clear HF HU
        go_wp2_with fail
        (try simp only [Exit.inBlock, Exit.then]); refine bodyPost_ret (results_cell2 rfl _ _ (w.heap.size + 1) 37 _ (0, 0) _ rfl (put_in (put_in (put_in (put_in (put_in (put_in (put_in HZ2.out 0 _) 1 _) 2 _) 3 _) 4 _) 5 _) 6 _) Try.underlying37 rfl (by kernel_rfl)) rfl ?_
        rw [HFF.out]
        refine ⟨_, rfl, (((((((HB.out.setCell (by simp) _).setCell (by simp) _).setCell (by simp) _).setCell (by simp) _).setCell (by simp) _).setCell (by simp) _).setCell (by simp) _), ?_⟩
        exact HT.out.old (((((((HB.out.setCell (by simp) _).setCell (by simp) _).setCell (by simp) _).setCell (by simp) _).setCell (by simp) _).setCell (by simp) _).setCell (by simp) _)
      | false =>
        have HQ := hid hq
        go_wp2_with fail
        go_roundw
        case rel => exact ⟨k + 1, by omega, by go_num, trivial, by rw [HU.out]; simpa using HQ.out⟩
        case measure => simp [intOf]; omega
    · obtain rfl : k = C.idxs.length := by omega
      rw [List.take_length] at HA
      have HFF := hid (find_none HA.out)
      have q0 := cell_in HZ2.out 0 _ rfl
      have f0 := free_in HZ2.out 0
      have q1 := cell_in HZ2.out 1 _ rfl
      have f1 := free_in HZ2.out 1
      have q2 := cell_in HZ2.out 2 _ rfl
      have f2 := free_in HZ2.out 2
      have q3 := cell_in HZ2.out 3 _ rfl
      have f3 := free_in HZ2.out 3
      have q4 := cell_in HZ2.out 4 _ rfl
      have f4 := free_in HZ2.out 4
      have q5 := cell_in HZ2.out 5 _ rfl
      have f5 := free_in HZ2.out 5
      have q6 := cell_in HZ2.out 6 _ rfl
      have f6 := free_in HZ2.out 6
      go_wp2_with fail
      (try simp only [Exit.inBlock, Exit.then]); refine bodyPost_ret (results_cell2 rfl _ _ (w.heap.size + 1) 37 _ (0, 0) _ rfl (put_in (put_in (put_in (put_in (put_in (put_in (put_in HZ2.out 0 _) 1 _) 2 _) 3 _) 4 _) 5 _) 6 _) Try.underlying37 rfl (by kernel_rfl)) rfl ?_
      rw [HFF.out]
      exact ⟨_, rfl, (((((((HB.out.setCell (by simp) _).setCell (by simp) _).setCell (by simp) _).setCell (by simp) _).setCell (by simp) _).setCell (by simp) _).setCell (by simp) _), IdxN.zero _ _⟩

set_option maxHeartbeats 4000000 in
theorem stateOf_any {N : Nat → Prop} {w : World} {cs : List Value} {C : Cat} (h : CatN N w cs C) (s : Int) : Calls Try.prog 33 #[.agg cs.toArray, .int .i64 s] w (fun e w' => e = .returned (.int .i64 ((C.idxs.find? (fun t => decide (t.id = s))).elim 0 Idx.state)) ∧ Below w.heap.size w w') := by
  obtain ⟨x, y, rfl, hx, hy, -, -⟩ := h
  obtain ⟨ao, c, rfl, h1, h2, hc⟩ := tb_cells hx
  obtain ⟨ko, d, rfl, g1, g2, gc⟩ := ix_cells hy
  have hlm : C.tabs.length ≤ 9223372036854775807 := by unfold maxLen at h2; omega
  have hkm : C.idxs.length ≤ 9223372036854775807 := by unfold maxLen at g2; omega
  have HC := hid gc
  clear hx hy hc gc
  go_enter Try.func33, Try.ntmps33
  go_upto_region 1 with fail
  have hb := (Below.refl w.heap.size w).alloc (Nat.le_refl _) (.cells #[.int .i64 C.ver, .int .i64 C.nxt, .slice ao C.tabs.length c, .slice ko C.idxs.length d] 25)
  have hz := heap_alloc_new w (.cells #[.int .i64 C.ver, .int .i64 C.nxt, .slice ao C.tabs.length c, .slice ko C.idxs.length d] 25)
  have hsz : (w.alloc (.cells #[.int .i64 C.ver, .int .i64 C.nxt, .slice ao C.tabs.length c, .slice ko C.idxs.length d] 25)).heap.size = w.heap.size + 1 := by simp
  generalize w.alloc (.cells #[.int .i64 C.ver, .int .i64 C.nxt, .slice ao C.tabs.length c, .slice ko C.idxs.length d] 25) = w1 at *
  have HB := hid hb
  have HZ := hid hz
  clear hb hz hsz
  have z1 := cell_in HZ.out 3 _ rfl
  go_wp2_with fail
  go_loopw [5] (fun j wr => ∃ k : Nat, k ≤ C.idxs.length ∧ j = .int .i64 (k : Int) ∧ wr = w1 ∧ (C.idxs.take k).any (fun t => decide (t.id = s)) = false)
    (fun j _ => C.idxs.length - (intOf j).toNat)
  case atStart => exact ⟨0, by omega, rfl, rfl, by simp⟩
  case round =>
    obtain ⟨k, hk, rfl, rfl, ha⟩ := hrel
    have HA := hid ha
    clear ha
    by_cases hlt : k < C.idxs.length
    · obtain ⟨u, hu⟩ : ∃ u, C.idxs[k]? = some u := ⟨_, List.getElem?_eq_getElem hlt⟩
      obtain ⟨b, off, a1, e1, rfl, ht, c0, c1, c2, c3, c4, c5, c6⟩ := HC.out k u hu
      have hki : (k : Int) < (C.idxs.length : Int) := by omega
      have k0 := (HB.out.cell (block_cell c0)).trans c0
      have k1 := (HB.out.cell (block_cell c1)).trans c1
      have k2 := (HB.out.cell (block_cell c2)).trans c2
      have k3 := (HB.out.cell (block_cell c3)).trans c3
      have k4 := (HB.out.cell (block_cell c4)).trans c4
      have k5 := (HB.out.cell (block_cell c5)).trans c5
      have k6 := (HB.out.cell (block_cell c6)).trans c6
      clear c0 c1 c2 c3 c4 c5 c6
      have HT := hid ht
      clear ht
      have HU := hid (any_take (p := fun t => decide (t.id = s)) hu HA.out)
      have HF := hid (find_at (p := fun t => decide (t.id = s)) hu HA.out)
      cases hq : (u.id == s) with
      | true =>
        have HFF := hid (HF.out (by simpa using hq))
        clear HF HU
        go_wp2_with fail
        go_ret
        exact ⟨by rw [HFF.out]; rfl, HB.out⟩
      | false =>
        have HQ := hid hq
        go_wp2_with fail
        go_roundw
        case rel => exact ⟨k + 1, by omega, by go_num, trivial, by rw [HU.out]; simpa using HQ.out⟩
        case measure => simp [intOf]; omega
    · obtain rfl : k = C.idxs.length := by omega
      rw [List.take_length] at HA
      have HFF := hid (find_none HA.out)
      go_wp2_with fail
      go_ret
      exact ⟨by rw [HFF.out]; rfl, HB.out⟩

end Go.Proofs.Ytafcbelkhhjcoaa
