/-
  LAYER 12, THE DOCUMENT's: Of.
-/
import Derived.Test.YtafcbelkhhjcoaaSg
set_option linter.unusedVariables false
set_option linter.unusedSimpArgs false
set_option maxRecDepth 100000
namespace Go.Proofs.Ytafcbelkhhjcoaa
open Go.RowKit Go.Deep

theorem filter_take {α : Type} {p : α → Bool} {s : List α} {k : Nat} {c : α} (h : s[k]? = some c) : (s.take (k + 1)).filter p = (s.take k).filter p ++ (if p c = true then [c] else []) := by
  rw [List.take_add_one, h, List.filter_append]
  cases hp : p c <;> simp [hp]

set_option maxHeartbeats 4000000 in
theorem rOf_any {N : Nat → Prop} {w : World} {cs : List Value} {C : Cat} (h : CatN N w cs C) (hN : ∀ k, N k → k < w.heap.size) (hl : C.idxs.length ≤ 100) (s : Int) :
    Calls Try.prog 27 #[.agg cs.toArray, .int .i64 s] w (fun e w' => ∃ v, e = .returned v ∧ Below w.heap.size w w' ∧ LstN (IdxN N) 7 (fun k => w.heap.size ≤ k) w' v (C.idxs.filter fun t => decide (t.table = s))) := by
  obtain ⟨x, y, rfl, hx, hy, -, -⟩ := h
  obtain ⟨ao, c, rfl, h1, h2, hc⟩ := tb_cells hx
  obtain ⟨ko, d, rfl, g1, g2, gc⟩ := ix_cells hy
  have hkm : C.idxs.length ≤ 9223372036854775807 := by omega
  have HC := hid gc
  have HNK := hid hN
  have HL := hid hl
  clear hx hy hc gc hN
  go_enter Try.func27, Try.ntmps27
  go_upto_region 1 with fail
  have hb := (Below.refl w.heap.size w).alloc (Nat.le_refl _) (.cells #[.int .i64 C.ver, .int .i64 C.nxt, .slice ao C.tabs.length c, .slice ko C.idxs.length d] 25)
  have hz := heap_alloc_new w (.cells #[.int .i64 C.ver, .int .i64 C.nxt, .slice ao C.tabs.length c, .slice ko C.idxs.length d] 25)
  have hsz : (w.alloc (.cells #[.int .i64 C.ver, .int .i64 C.nxt, .slice ao C.tabs.length c, .slice ko C.idxs.length d] 25)).heap.size = w.heap.size + 1 := by simp
  generalize w.alloc (.cells #[.int .i64 C.ver, .int .i64 C.nxt, .slice ao C.tabs.length c, .slice ko C.idxs.length d] 25) = w1 at *
  have HB := hid hb
  have HZ := hid hz
  have HSZ := hid hsz
  clear hb hz hsz
  go_wp2_with fail
  go_loopw [5, 6] (fun v j wr => ∃ k : Nat, k ≤ C.idxs.length ∧ j = .int .i64 (k : Int) ∧ Below w1.heap.size w1 wr ∧ OwnL (IdxN N) 7 37 w1.heap.size wr v ((C.idxs.take k).filter fun t => decide (t.table = s)))
    (fun _ j _ => C.idxs.length - (intOf j).toNat)
  case atStart => exact ⟨0, by omega, rfl, Below.refl _ _, OwnL.nil _ _ _ _ _⟩
  case round =>
    obtain ⟨k, hk, rfl, hbr, hown⟩ := hrel
    have HBR := hid hbr
    have HBA := hid (below_step HB.out hbr)
    have HOW := hid hown
    clear hbr hown
    have z3 := cell_in ((HBR.out.block _ (lt_of_block HZ.out)).trans HZ.out) 3 _ rfl
    by_cases hlt : k < C.idxs.length
    · obtain ⟨u, hu⟩ : ∃ u, C.idxs[k]? = some u := ⟨_, List.getElem?_eq_getElem hlt⟩
      obtain ⟨b, off, a1, e1, rfl, ht, c0, c1, c2, c3, c4, c5, c6⟩ := HC.out k u hu
      have hki : (k : Int) < (C.idxs.length : Int) := by omega
      have k0 := (HBA.out.cell (block_cell c0)).trans c0
      have k1 := (HBA.out.cell (block_cell c1)).trans c1
      have k2 := (HBA.out.cell (block_cell c2)).trans c2
      have k3 := (HBA.out.cell (block_cell c3)).trans c3
      have k4 := (HBA.out.cell (block_cell c4)).trans c4
      have k5 := (HBA.out.cell (block_cell c5)).trans c5
      have k6 := (HBA.out.cell (block_cell c6)).trans c6
      clear c0 c1 c2 c3 c4 c5 c6
      have HT := hid ht
      clear ht
      have HF := hid (filter_take (p := fun t => decide (t.table = s)) hu)
      have HU := hid hu
      clear hu
      cases hq : (u.table == s) with
      | true =>
        have hq' : decide (u.table = s) = true := by simpa using hq
        have HFF : Hid (((C.idxs.take (k + 1)).filter fun t => decide (t.table = s)) = ((C.idxs.take k).filter fun t => decide (t.table = s)) ++ [u]) := hid (by rw [HF.out, if_pos hq'])
        have HLF : Hid (((C.idxs.take k).filter fun t => decide (t.table = s)).length ≤ 100) := hid (by
          have := List.length_filter_le (fun t : Idx => decide (t.table = s)) (C.idxs.take k); rw [List.length_take] at this; have := HL.out; omega)
        clear HF hq'
        have H3 : Hid (Below wr.heap.size wr (wr.alloc (.cells #[.int .i64 u.id, .int .i64 u.table, .string ⟨u.name.toArray⟩, .slice a1 u.cols.length e1, .bool u.uniq, .int .i64 u.state, .bool u.bad] 37))) := hid ((Below.refl _ _).alloc (Nat.le_refl _) _)
        have HR3 := hid (heap_alloc_new wr (.cells #[.int .i64 u.id, .int .i64 u.table, .string ⟨u.name.toArray⟩, .slice a1 u.cols.length e1, .bool u.uniq, .int .i64 u.state, .bool u.bad] 37))
        have HO3 := hid (HOW.out.mono (R' := IdxN N) (Keep.of_below (X := fun _ => False) H3.out) (fun _ _ e => e) (fun r a h => h.old H3.out))
        go_wp2_with (first
          | (at_builtin; refine wp_lapp (by rfl) _ _ 23 rfl w1.heap.size 7 80 37 Try.underlying23 (.agg #[.int .i64 0, .int .i64 0, .string ⟨#[]⟩, .slice none 0 0, .bool false, .int .i64 0, .bool false]) (by kernel_rfl) (by simp [Value.cells]) (by decide) _ _ rfl HO3.out wr.heap.size [.int .i64 u.id, .int .i64 u.table, .string ⟨u.name.toArray⟩, .slice a1 u.cols.length e1, .bool u.uniq, .int .i64 u.state, .bool u.bad] rfl (fun j q hj => cell_in HR3.out j q (by simpa using hj)) rfl ?q1 ?q2 ?q3 ?q4 (fun v' w' f1 f2 f3 => ?_)))
        case q1 => intro q hq9; simp only [List.mem_cons, List.not_mem_nil, or_false] at hq9; rcases hq9 with rfl | rfl | rfl | rfl | rfl | rfl | rfl <;> rfl
        case q2 => unfold maxLen; have := HLF.out; omega
        case q3 => have := HLF.out; omega
        case q4 => have := HBR.out.size; have := H3.out.size; omega
        have HB4 : Hid (Below w1.heap.size w1 w') := hid (Below.grown (below_step HBR.out H3.out) f2 (by have := HBR.out.size; have := H3.out.size; omega) (fun q hq9 => (HO3.out.lt q hq9).1))
        have HO4 := hid (f1 (IdxN N) u (fun q a h => h.keep (Keep.of_grown (X := fun k => w.heap.size ≤ k) f2 (fun k hk9 => by have := (HO3.out.lt k hk9).1; have := HSZ.out; omega)) (fun k hk9 e => by have := HNK.out k hk9; omega))
          ((HT.out.old (below_step HBA.out H3.out)).keep (Keep.of_grown (X := fun k => w.heap.size ≤ k) f2 (fun k hk9 => by have := (HO3.out.lt k hk9).1; have := HSZ.out; omega)) (fun k hk9 e => by have := HNK.out k hk9; omega)))
        clear f1 f2 f3
        go_wp2_with fail
        go_roundw
        case rel => exact ⟨k + 1, by omega, by go_num, HB4.out, by rw [HFF.out]; exact HO4.out⟩
        case measure => simp [intOf]; omega
      | false =>
        have HQ := hid hq
        go_wp2_with fail
        go_roundw
        case rel => exact ⟨k + 1, by omega, by go_num, HBR.out, by rw [HF.out, if_neg (by have := HQ.out; simpa using this), List.append_nil]; exact HOW.out⟩
        case measure => simp [intOf]; omega
    · obtain rfl : k = C.idxs.length := by omega
      rw [List.take_length] at HOW
      go_wp2_with fail
      go_ret
      exact ⟨_, rfl, HBA.out, HOW.out.lst _ (fun q hq => by have := (HOW.out.lt q hq).1; have := HSZ.out; omega)⟩
end Go.Proofs.Ytafcbelkhhjcoaa
