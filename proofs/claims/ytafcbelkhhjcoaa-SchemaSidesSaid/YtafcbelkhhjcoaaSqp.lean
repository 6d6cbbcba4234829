/-
  LAYER 12, THE CODE's: each of a list copied (made by src2/gen_seach2.py); copied.
-/
import Derived.Test.YtafcbelkhhjcoaaSqo
import Derived.Test.YtafcbelkhhjcoaaSj
set_option linter.unusedVariables false
set_option linter.unusedSimpArgs false
set_option maxRecDepth 100000
namespace Go.Proofs.Ytafcbelkhhjcoaa
open Go.RowKit Go.Deep

set_option maxHeartbeats 8000000 in
theorem eachTab_any {N : Nat → Prop} (w : World) {x : Value} {l : List Tab} (hx : LstN (TabN N) 4 N w x l) (hl : l.length ≤ 100) (hs : ∀ t ∈ l, t.cols.length ≤ 100 ∧ t.key.length ≤ 100) : Calls Try.prog 188 #[x, .func (.func 102) #[] #[]] w
    (fun e w' => ∃ v, e = .returned v ∧ Below w.heap.size w w' ∧ OwnL (TabN (NewQ w.heap.size w' v)) 4 33 w.heap.size w' v l) := by
  obtain ⟨ao, c, rfl, h1, h2, hc⟩ := tb_cells hx
  have hlm : l.length ≤ 9223372036854775807 := by omega
  have HC := hid hc
  have HS := hid hs
  have HL1 := hid hl
  clear hx hc hs
  go_enter Try.func188, Try.ntmps188
  go_wp2_with fail
  go_loopw [5, 10] (fun v j wr => ∃ k : Nat, k ≤ l.length ∧ j = .int .i64 (k : Int) ∧ Below w.heap.size w wr ∧ Hid (OwnL (TabN (NewQ w.heap.size wr v)) 4 33 w.heap.size wr v (l.take k)))
    (fun _ j _ => l.length - (intOf j).toNat)
  case atStart => exact ⟨0, by omega, rfl, Below.refl _ _, hid (OwnL.nil _ _ _ _ _)⟩
  case round =>
    obtain ⟨k, hk, rfl, hb, HOW⟩ := hrel
    have HB := hid hb
    have HSR := hid hb.size
    clear hb
    by_cases hlt : k < l.length
    · obtain ⟨u, hu⟩ : ∃ u, l[k]? = some u := ⟨_, List.getElem?_eq_getElem hlt⟩
      obtain ⟨b, off, a1, e1, a2, e2, rfl, ht, c0, c1, c2, c3⟩ := HC.out k u hu
      have hki : (k : Int) < (l.length : Int) := by omega
      have k0 := (HB.out.cell (block_cell c0)).trans c0
      have k1 := (HB.out.cell (block_cell c1)).trans c1
      have k2 := (HB.out.cell (block_cell c2)).trans c2
      have k3 := (HB.out.cell (block_cell c3)).trans c3
      have HTU := hid ht
      have HSU := hid (HS.out u (List.mem_of_getElem? hu))
      have HTK := hid (take_at hu)
      clear c0 c1 c2 c3 ht hu
      go_upto_region 5 with fail
      have hb3 := (Below.refl wr.heap.size wr).alloc (Nat.le_refl _) (.cells #[.int .i64 u.id, .string ⟨u.name.toArray⟩, .slice a1 u.cols.length e1, .slice a2 u.key.length e2] 33)
      have hz3 := heap_alloc_new wr (.cells #[.int .i64 u.id, .string ⟨u.name.toArray⟩, .slice a1 u.cols.length e1, .slice a2 u.key.length e2] 33)
      generalize wr.alloc (.cells #[.int .i64 u.id, .string ⟨u.name.toArray⟩, .slice a1 u.cols.length e1, .slice a2 u.key.length e2] 33) = w3 at *
      have HB3 := hid hb3
      have HBW := hid (below_step HB.out hb3)
      have z0 := cell_in hz3 0 _ rfl
      have z1 := cell_in hz3 1 _ rfl
      have z2 := cell_in hz3 2 _ rfl
      have z3 := cell_in hz3 3 _ rfl
      clear hb3 hz3
      have CF := hid (cpTab_any (HTU.out.old HBW.out) HSU.out)
      go_wp2_with (first
        | (go_at_call 102; refine CF.out.mono ?_; rintro en wc ⟨vs, rfl, hb4, hk4⟩
           obtain ⟨f1, q1, f2, q2, rfl⟩ := tab_form hk4
           have HBX := hid (below_step HB3.out hb4)
           have HK4 := hid hk4
           have H5 : Hid (Below wc.heap.size wc (wc.alloc (.cells #[.int .i64 u.id, .string ⟨u.name.toArray⟩, .slice f1 u.cols.length q1, .slice f2 u.key.length q2] 33))) := hid ((Below.refl _ _).alloc (Nat.le_refl _) _)
           have HR5 := hid (heap_alloc_new wc (.cells #[.int .i64 u.id, .string ⟨u.name.toArray⟩, .slice f1 u.cols.length q1, .slice f2 u.key.length q2] 33))
           have HB5 := hid (below_step HBX.out H5.out)
           have HO5 := hid (HOW.out.mono (R' := TabN (NewQ w.heap.size wr u5)) (Keep.of_below (X := fun _ => False) HB5.out) (fun _ _ e => e) (fun r a h => h.old HB5.out))
           clear hb4 hk4)
        | (at_builtin; refine wp_lapp (by rfl) _ _ 22 rfl w.heap.size 4 72 33 Try.underlying22 (.agg #[.int .i64 0, .string ⟨#[]⟩, .slice none 0 0, .slice none 0 0]) (by kernel_rfl) (by simp [Value.cells]) (by decide) _ _ rfl HO5.out wc.heap.size [.int .i64 u.id, .string ⟨u.name.toArray⟩, .slice f1 u.cols.length q1, .slice f2 u.key.length q2] rfl (fun j q hj => cell_in HR5.out j q (by simpa using hj)) rfl ?cj1 ?cj2 ?cj3 ?cj4 (fun v' w' p1 p2 p3 => ?_)))
      case cj1 => intro q hq9; simp only [List.mem_cons, List.not_mem_nil, or_false] at hq9; rcases hq9 with rfl | rfl | rfl | rfl <;> rfl
      case cj2 => unfold maxLen; rw [List.length_take]; have := HL1.out; omega
      case cj3 => rw [List.length_take]; have := HL1.out; omega
      case cj4 => have := HSR.out; have := HB5.out.size; omega
      have hlv := HOW.out.lt
      have hbe : Below w.heap.size w w' := Below.grown (below_step HB.out HB5.out) p2 (by have := HSR.out; have := HB5.out.size; omega) (fun q hq9 => (hlv q hq9).1)
      have hsz5 := H5.out.size
      have hsx := HBX.out.size
      have hs3 := HB3.out.size
      have hsr := HSR.out
      have hsg : wc.heap.size ≤ w'.heap.size := Nat.le_trans hsz5 p2.size
      have hv : ∀ q, w.heap.size ≤ q → q < wc.heap.size → u5.ownBlock ≠ some q → NewQ w.heap.size w' v' q := fun q ha hb9 hc9 => ⟨ha, by omega, fun e => (p3 q e).elim hc9 (fun h => Nat.lt_irrefl _ (Nat.lt_of_lt_of_le hb9 (Nat.le_trans hsz5 h)))⟩
      have hkg := Keep.of_grown (X := fun q => u5.ownBlock = some q) p2 (fun k hk9 => hk9)
      have HBE := hid hbe
      have HO6 := hid (p1 (TabN (NewQ w.heap.size w' v')) u (fun q a h => (h.keep hkg (fun k e => e.2.2)).mono (fun k e => hv k e.1 (by have := e.2.1; omega) e.2.2))
        (((HK4.out.keep (Keep.of_below (X := fun _ => False) H5.out) (fun _ _ e => e)).keep hkg (fun k e e9 => by have := (hlv k e9).2; have := e.1; omega)).mono (fun k e => hv k (by have := e.1; omega) e.2 (fun e9 => by have := (hlv k e9).2; have := e.1; omega))))
      clear p1 p2 p3 hlv hbe hsz5 hsx hsg hv hkg hsr hs3
      go_wp2_with fail
      go_roundw
      case rel => exact ⟨k + 1, by omega, by go_num, HBE.out, by rw [HTK.out]; exact HO6⟩
      case measure => simp [intOf]; omega
    · obtain rfl : k = l.length := by omega
      rw [List.take_length] at HOW
      go_wp2_with fail
      go_ret
      exact ⟨_, rfl, HB.out, HOW.out⟩


set_option maxHeartbeats 8000000 in
theorem eachIdx_any {N : Nat → Prop} (w : World) {x : Value} {l : List Idx} (hx : LstN (IdxN N) 7 N w x l) (hl : l.length ≤ 100) (hs : ∀ t ∈ l, t.cols.length ≤ 100) : Calls Try.prog 189 #[x, .func (.func 104) #[] #[]] w
    (fun e w' => ∃ v, e = .returned v ∧ Below w.heap.size w w' ∧ OwnL (IdxN (NewQ w.heap.size w' v)) 7 37 w.heap.size w' v l) := by
  obtain ⟨ao, c, rfl, h1, h2, hc⟩ := ix_cells hx
  have hlm : l.length ≤ 9223372036854775807 := by omega
  have HC := hid hc
  have HS := hid hs
  have HL1 := hid hl
  clear hx hc hs
  go_enter Try.func189, Try.ntmps189
  go_wp2_with fail
  go_loopw [5, 10] (fun v j wr => ∃ k : Nat, k ≤ l.length ∧ j = .int .i64 (k : Int) ∧ Below w.heap.size w wr ∧ Hid (OwnL (IdxN (NewQ w.heap.size wr v)) 7 37 w.heap.size wr v (l.take k)))
    (fun _ j _ => l.length - (intOf j).toNat)
  case atStart => exact ⟨0, by omega, rfl, Below.refl _ _, hid (OwnL.nil _ _ _ _ _)⟩
  case round =>
    obtain ⟨k, hk, rfl, hb, HOW⟩ := hrel
    have HB := hid hb
    have HSR := hid hb.size
    clear hb
    by_cases hlt : k < l.length
    · obtain ⟨u, hu⟩ : ∃ u, l[k]? = some u := ⟨_, List.getElem?_eq_getElem hlt⟩
      obtain ⟨b, off, a1, e1, rfl, ht, c0, c1, c2, c3, c4, c5, c6⟩ := HC.out k u hu
      have hki : (k : Int) < (l.length : Int) := by omega
      have k0 := (HB.out.cell (block_cell c0)).trans c0
      have k1 := (HB.out.cell (block_cell c1)).trans c1
      have k2 := (HB.out.cell (block_cell c2)).trans c2
      have k3 := (HB.out.cell (block_cell c3)).trans c3
      have k4 := (HB.out.cell (block_cell c4)).trans c4
      have k5 := (HB.out.cell (block_cell c5)).trans c5
      have k6 := (HB.out.cell (block_cell c6)).trans c6
      have HTU := hid ht
      have HSU := hid (HS.out u (List.mem_of_getElem? hu))
      have HTK := hid (take_at hu)
      clear c0 c1 c2 c3 c4 c5 c6 ht hu
      go_upto_region 5 with fail
      have hb3 := (Below.refl wr.heap.size wr).alloc (Nat.le_refl _) (.cells #[.int .i64 u.id, .int .i64 u.table, .string ⟨u.name.toArray⟩, .slice a1 u.cols.length e1, .bool u.uniq, .int .i64 u.state, .bool u.bad] 37)
      have hz3 := heap_alloc_new wr (.cells #[.int .i64 u.id, .int .i64 u.table, .string ⟨u.name.toArray⟩, .slice a1 u.cols.length e1, .bool u.uniq, .int .i64 u.state, .bool u.bad] 37)
      generalize wr.alloc (.cells #[.int .i64 u.id, .int .i64 u.table, .string ⟨u.name.toArray⟩, .slice a1 u.cols.length e1, .bool u.uniq, .int .i64 u.state, .bool u.bad] 37) = w3 at *
      have HB3 := hid hb3
      have HBW := hid (below_step HB.out hb3)
      have z0 := cell_in hz3 0 _ rfl
      have z1 := cell_in hz3 1 _ rfl
      have z2 := cell_in hz3 2 _ rfl
      have z3 := cell_in hz3 3 _ rfl
      have z4 := cell_in hz3 4 _ rfl
      have z5 := cell_in hz3 5 _ rfl
      have z6 := cell_in hz3 6 _ rfl
      clear hb3 hz3
      have CF := hid (cpIdx_any (HTU.out.old HBW.out) HSU.out)
      go_wp2_with (first
        | (go_at_call 104; refine CF.out.mono ?_; rintro en wc ⟨vs, rfl, hb4, hk4⟩
           obtain ⟨f1, q1, rfl⟩ := idx_form hk4
           have HBX := hid (below_step HB3.out hb4)
           have HK4 := hid hk4
           have H5 : Hid (Below wc.heap.size wc (wc.alloc (.cells #[.int .i64 u.id, .int .i64 u.table, .string ⟨u.name.toArray⟩, .slice f1 u.cols.length q1, .bool u.uniq, .int .i64 u.state, .bool u.bad] 37))) := hid ((Below.refl _ _).alloc (Nat.le_refl _) _)
           have HR5 := hid (heap_alloc_new wc (.cells #[.int .i64 u.id, .int .i64 u.table, .string ⟨u.name.toArray⟩, .slice f1 u.cols.length q1, .bool u.uniq, .int .i64 u.state, .bool u.bad] 37))
           have HB5 := hid (below_step HBX.out H5.out)
           have HO5 := hid (HOW.out.mono (R' := IdxN (NewQ w.heap.size wr u5)) (Keep.of_below (X := fun _ => False) HB5.out) (fun _ _ e => e) (fun r a h => h.old HB5.out))
           clear hb4 hk4)
        | (at_builtin; refine wp_lapp (by rfl) _ _ 23 rfl w.heap.size 7 80 37 Try.underlying23 (.agg #[.int .i64 0, .int .i64 0, .string ⟨#[]⟩, .slice none 0 0, .bool false, .int .i64 0, .bool false]) (by kernel_rfl) (by simp [Value.cells]) (by decide) _ _ rfl HO5.out wc.heap.size [.int .i64 u.id, .int .i64 u.table, .string ⟨u.name.toArray⟩, .slice f1 u.cols.length q1, .bool u.uniq, .int .i64 u.state, .bool u.bad] rfl (fun j q hj => cell_in HR5.out j q (by simpa using hj)) rfl ?cj1 ?cj2 ?cj3 ?cj4 (fun v' w' p1 p2 p3 => ?_)))
      case cj1 => intro q hq9; simp only [List.mem_cons, List.not_mem_nil, or_false] at hq9; rcases hq9 with rfl | rfl | rfl | rfl | rfl | rfl | rfl <;> rfl
      case cj2 => unfold maxLen; rw [List.length_take]; have := HL1.out; omega
      case cj3 => rw [List.length_take]; have := HL1.out; omega
      case cj4 => have := HSR.out; have := HB5.out.size; omega
      have hlv := HOW.out.lt
      have hbe : Below w.heap.size w w' := Below.grown (below_step HB.out HB5.out) p2 (by have := HSR.out; have := HB5.out.size; omega) (fun q hq9 => (hlv q hq9).1)
      have hsz5 := H5.out.size
      have hsx := HBX.out.size
      have hs3 := HB3.out.size
      have hsr := HSR.out
      have hsg : wc.heap.size ≤ w'.heap.size := Nat.le_trans hsz5 p2.size
      have hv : ∀ q, w.heap.size ≤ q → q < wc.heap.size → u5.ownBlock ≠ some q → NewQ w.heap.size w' v' q := fun q ha hb9 hc9 => ⟨ha, by omega, fun e => (p3 q e).elim hc9 (fun h => Nat.lt_irrefl _ (Nat.lt_of_lt_of_le hb9 (Nat.le_trans hsz5 h)))⟩
      have hkg := Keep.of_grown (X := fun q => u5.ownBlock = some q) p2 (fun k hk9 => hk9)
      have HBE := hid hbe
      have HO6 := hid (p1 (IdxN (NewQ w.heap.size w' v')) u (fun q a h => (h.keep hkg (fun k e => e.2.2)).mono (fun k e => hv k e.1 (by have := e.2.1; omega) e.2.2))
        (((HK4.out.keep (Keep.of_below (X := fun _ => False) H5.out) (fun _ _ e => e)).keep hkg (fun k e e9 => by have := (hlv k e9).2; have := e.1; omega)).mono (fun k e => hv k (by have := e.1; omega) e.2 (fun e9 => by have := (hlv k e9).2; have := e.1; omega))))
      clear p1 p2 p3 hlv hbe hsz5 hsx hsg hv hkg hsr hs3
      go_wp2_with fail
      go_roundw
      case rel => exact ⟨k + 1, by omega, by go_num, HBE.out, by rw [HTK.out]; exact HO6⟩
      case measure => simp [intOf]; omega
    · obtain rfl : k = l.length := by omega
      rw [List.take_length] at HOW
      go_wp2_with fail
      go_ret
      exact ⟨_, rfl, HB.out, HOW.out⟩

end Go.Proofs.Ytafcbelkhhjcoaa
