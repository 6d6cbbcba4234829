/-
  THE LAW SchemaChanges: the walk (made by src2/gen_schanges.py).
-/
import Derived.Test.YtkpeidhddicdmaaSrd
import Derived.Test.YtkpeidhddicdmaaSrb
import Derived.Test.YtkpeidhddicdmaaSqu
import Derived.Test.YtkpeidhddicdmaaSp
import Derived.Laws.Tables
set_option linter.unusedVariables false
set_option linter.unusedSimpArgs false
set_option maxRecDepth 100000
namespace Go.Proofs.Ytkpeidhddicdmaa.schemaChanges
open Go.RowKit Go.Deep

def opRow (o : OpL) (ta : Option Addr) (tc : Nat) (tb : Option Addr) (td : Nat) (xa : Option Addr) (xc : Nat) : List Value := [.int .i64 o.kind, .int .i64 o.t.id, .string ⟨o.t.name.toArray⟩, .slice ta o.t.cols.length tc, .slice tb o.t.key.length td, .int .i64 o.x.id, .int .i64 o.x.table, .string ⟨o.x.name.toArray⟩, .slice xa o.x.cols.length xc, .bool o.x.uniq, .int .i64 o.x.state, .bool o.x.bad, .string ⟨o.name.toArray⟩, .int .i64 o.id, .int .i64 o.fr, .int .i64 o.st, .bool o.bad]
theorem op_cells {N : Nat → Prop} {w : World} {x : Value} {l : List OpL} (h : LstN OpN 17 N w x l) : ∃ ao c, x = .slice ao l.length c ∧ l.length ≤ c ∧ c ≤ maxLen ∧ ∀ (k : Nat) o, l[k]? = some o → ∃ b off ta tc tb td xa xc, ao = some ⟨b, off, none⟩ ∧
    TabN (Low w) w [.int .i64 o.t.id, .string ⟨o.t.name.toArray⟩, .slice ta o.t.cols.length tc, .slice tb o.t.key.length td] o.t ∧ IdxN (Low w) w [.int .i64 o.x.id, .int .i64 o.x.table, .string ⟨o.x.name.toArray⟩, .slice xa o.x.cols.length xc, .bool o.x.uniq, .int .i64 o.x.state, .bool o.x.bad] o.x ∧ ∀ (j : Nat) u, (opRow o ta tc tb td xa xc)[j]? = some u → w.cell? ⟨b, off + k * 17 + j, none⟩ = some u := by
  obtain ⟨M, m1, m2, m3, -⟩ := h
  obtain ⟨ao, c, rfl, h1, h2⟩ := m2.form
  refine ⟨ao, c, by rw [m1], by omega, h2, fun k o hk => ?_⟩
  have hkl := (List.getElem?_eq_some_iff.1 hk).1
  have hr : M[k]? = some (M[k]'(by omega)) := List.getElem?_eq_getElem (by omega)
  obtain ⟨ta, tc, tb, td, xa, xc, h3, h4, h5⟩ := m3 k _ o hr hk
  obtain ⟨b, off, rfl, h6⟩ := m2.get (by decide) hr
  rw [h3] at h6
  exact ⟨b, off, ta, tc, tb, td, xa, xc, rfl, h4, h5, h6⟩
theorem setRow_keep (w : World) (B : Nat) (cs : Array Value) : Keep (fun k => k = B) w (w.setRow B cs) := by
  refine ⟨rfl, rfl, rfl, ?_, ?_⟩
  · show w.heap.size ≤ (w.heap.modify B _).size
    simp
  · intro k hk hx
    show (w.heap.modify B _)[k]? = _
    rw [Array.getElem?_modify, if_neg (fun e => hx e.symm)]
def NB (b : Nat) (w : World) (k : Nat) : Prop := k ≠ b ∧ k < w.heap.size
theorem wrap_u64 (z : Int) : IntKind.u64.wrap z = z % 18446744073709551616 := by simp [IntKind.wrap, IntKind.bits, IntKind.signed]

set_option maxHeartbeats 32000000 in
theorem walk {H : Type} {enc : TypeId × Value → H} (v0 v1 : Value) (W : World) {base : Nat} {d0 d1 : DataW H} {p0 p1 : List MemPlace} (hw0 : Value.okWide Try.prog W .any base 25 v0) (h0 : DataW.Trod enc Try.prog W 0 (fun _ => true) true 25 v0 d0 p0) (hk0 : ∀ n ∈ d0.weights Try.prog 25, n ≤ reachBytes)
    (hw1 : Value.okWide Try.prog W .any base 45 v1) (h1 : DataW.Trod enc Try.prog W 0 (fun _ => true) true 45 v1 d1 p1) (hk1 : ∀ n ∈ d1.weights Try.prog 45, n ≤ reachBytes) :
    Calls Try.prog 4 #[v0, v1] W (fun e w' => e = .returned (.bool true) ∧ Below W.heap.size W w') := by
  obtain ⟨cs0, C0, rfl, hc0, hW0⟩ := catalog_open hw0 h0
  obtain ⟨l, hl, hlW⟩ := script_open hw1 h1
  have HW0 := hid (hW0 hk0)
  have HLW := hid (hlW hk1)
  have HC00 := hid hc0
  obtain ⟨a, c, a', c', rfl, -, -, -, -⟩ := cat_open hc0
  obtain ⟨so, sc, rfl, hs1, hs2, hop⟩ := op_cells hl
  have HOP := hid hop
  have hlm : l.length ≤ 9223372036854775807 := by unfold maxLen at hs2; omega
  clear hc0 hW0 hl hlW hop hw0 h0 hk0 hw1 h1 hk1
  go_enter Try.func4, Try.ntmps4
  go_upto_region 1 with fail
  have hb := (Below.refl W.heap.size W).alloc (Nat.le_refl _) (.cells #[.int .i64 C0.ver, .int .i64 C0.nxt, .slice a C0.tabs.length c, .slice a' C0.idxs.length c'] 25)
  have hz := heap_alloc_new W (.cells #[.int .i64 C0.ver, .int .i64 C0.nxt, .slice a C0.tabs.length c, .slice a' C0.idxs.length c'] 25)
  generalize W.alloc (.cells #[.int .i64 C0.ver, .int .i64 C0.nxt, .slice a C0.tabs.length c, .slice a' C0.idxs.length c'] 25) = w1 at *
  have HB1 := hid hb
  have HZ1 := hid hz
  clear hb hz
  have CA1 := hid (awake_any w1)
  have z0 := cell_in HZ1.out 0 _ rfl
  have z0f := free_in HZ1.out 0
  have z1 := cell_in HZ1.out 1 _ rfl
  have z1f := free_in HZ1.out 1
  have z2 := cell_in HZ1.out 2 _ rfl
  have z2f := free_in HZ1.out 2
  have z3 := cell_in HZ1.out 3 _ rfl
  have z3f := free_in HZ1.out 3
  cases hs : smallB C0 with
  | false =>
    go_wp2_with (first | (go_at_call 10; refine CA1.out.mono ?_; rintro en w2 ⟨rfl, hb2⟩; have HB2 := hid (below_step HB1.out hb2); have HSS2 := hid hb2.size; have HZ2 := hid ((hb2.block _ (lt_of_block HZ1.out)).trans HZ1.out); clear z0 z0f z1 z1f z2 z2f z3 z3f; have z0 := cell_in HZ2.out 0 _ rfl; have z0f := free_in HZ2.out 0; have z1 := cell_in HZ2.out 1 _ rfl; have z1f := free_in HZ2.out 1; have z2 := cell_in HZ2.out 2 _ rfl; have z2f := free_in HZ2.out 2; have z3 := cell_in HZ2.out 3 _ rfl; have z3f := free_in HZ2.out 3; have CSM := hid (small_any (HC00.out.old HB2.out)); rw [hs] at CSM; clear hb2 CA1) | (go_at_call 9; refine CSM.out.mono ?_; rintro en w3 ⟨rfl, hb3⟩; have HB3 := hid (below_step HB2.out hb3); have HSS3 := hid hb3.size; have HZ3 := hid ((hb3.block _ (lt_of_block HZ2.out)).trans HZ2.out); clear z0 z0f z1 z1f z2 z2f z3 z3f; have z0 := cell_in HZ3.out 0 _ rfl; have z0f := free_in HZ3.out 0; have z1 := cell_in HZ3.out 1 _ rfl; have z1f := free_in HZ3.out 1; have z2 := cell_in HZ3.out 2 _ rfl; have z2f := free_in HZ3.out 2; have z3 := cell_in HZ3.out 3 _ rfl; have z3f := free_in HZ3.out 3; have CA2 := hid (awake_any w3); clear hb3) | (go_at_call 10; refine CA2.out.mono ?_; rintro en w4 ⟨rfl, hb4⟩; have HB4 := hid (below_step HB3.out hb4); clear hb4))
    go_ret
    exact ⟨rfl, HB4.out⟩
  | true =>
  have HSM := hid (small_S hs)
  go_upto_region 3 with (first | (go_at_call 10; refine CA1.out.mono ?_; rintro en w2 ⟨rfl, hb2⟩; have HB2 := hid (below_step HB1.out hb2); have HSS2 := hid hb2.size; have HZ2 := hid ((hb2.block _ (lt_of_block HZ1.out)).trans HZ1.out); clear z0 z0f z1 z1f z2 z2f z3 z3f; have z0 := cell_in HZ2.out 0 _ rfl; have z0f := free_in HZ2.out 0; have z1 := cell_in HZ2.out 1 _ rfl; have z1f := free_in HZ2.out 1; have z2 := cell_in HZ2.out 2 _ rfl; have z2f := free_in HZ2.out 2; have z3 := cell_in HZ2.out 3 _ rfl; have z3f := free_in HZ2.out 3; have CSM := hid (small_any (HC00.out.old HB2.out)); rw [hs] at CSM; clear hb2 CA1) | (go_at_call 9; refine CSM.out.mono ?_; rintro en w3 ⟨rfl, hb3⟩; have HB3 := hid (below_step HB2.out hb3); have HSS3 := hid hb3.size; have HZ3 := hid ((hb3.block _ (lt_of_block HZ2.out)).trans HZ2.out); clear z0 z0f z1 z1f z2 z2f z3 z3f; have z0 := cell_in HZ3.out 0 _ rfl; have z0f := free_in HZ3.out 0; have z1 := cell_in HZ3.out 1 _ rfl; have z1f := free_in HZ3.out 1; have z2 := cell_in HZ3.out 2 _ rfl; have z2f := free_in HZ3.out 2; have z3 := cell_in HZ3.out 3 _ rfl; have z3f := free_in HZ3.out 3; have CA2 := hid (awake_any w3); clear hb3))
  clear hs CA2
  have CR := hid (rRight_any (HC00.out.old HB3.out) HW0.out)
  go_cut [28] from 21 to 28 (fun s wx => ∃ q : Bool, s = .bool q ∧ Below w3.heap.size w3 wx ∧ Hid (q = false → catB C0 = true ∧ C0.ver ≤ 1099511627776))
  case first =>
    as_aux_lemma =>
      cases hq : catB C0 with
      | false =>
        rw [hq] at CR
        go_wp2_with (first | (go_at_call 13; refine CR.out.mono ?_; rintro en w4 ⟨rfl, hb4⟩; have HB4 := hid (below_step HB3.out hb4); have HSS4 := hid hb4.size; have HZ4 := hid ((hb4.block _ (lt_of_block HZ3.out)).trans HZ3.out); clear z0 z0f z1 z1f z2 z2f z3 z3f; have z0 := cell_in HZ4.out 0 _ rfl; have z0f := free_in HZ4.out 0; have z1 := cell_in HZ4.out 1 _ rfl; have z1f := free_in HZ4.out 1; have z2 := cell_in HZ4.out 2 _ rfl; have z2f := free_in HZ4.out 2; have z3 := cell_in HZ4.out 3 _ rfl; have z3f := free_in HZ4.out 3; have HX4 := hid hb4; clear hb4))
        go_meet
        exact ⟨true, rfl, HX4.out, hid (fun e => by cases e)⟩
      | true =>
        rw [hq] at CR
        by_cases hv : (1099511627776 : Int) < C0.ver
        · go_wp2_with (first | (go_at_call 13; refine CR.out.mono ?_; rintro en w4 ⟨rfl, hb4⟩; have HB4 := hid (below_step HB3.out hb4); have HSS4 := hid hb4.size; have HZ4 := hid ((hb4.block _ (lt_of_block HZ3.out)).trans HZ3.out); clear z0 z0f z1 z1f z2 z2f z3 z3f; have z0 := cell_in HZ4.out 0 _ rfl; have z0f := free_in HZ4.out 0; have z1 := cell_in HZ4.out 1 _ rfl; have z1f := free_in HZ4.out 1; have z2 := cell_in HZ4.out 2 _ rfl; have z2f := free_in HZ4.out 2; have z3 := cell_in HZ4.out 3 _ rfl; have z3f := free_in HZ4.out 3; have HX4 := hid hb4; clear hb4))
          go_meet
          exact ⟨true, rfl, HX4.out, hid (fun e => by cases e)⟩
        · go_wp2_with (first | (go_at_call 13; refine CR.out.mono ?_; rintro en w4 ⟨rfl, hb4⟩; have HB4 := hid (below_step HB3.out hb4); have HSS4 := hid hb4.size; have HZ4 := hid ((hb4.block _ (lt_of_block HZ3.out)).trans HZ3.out); clear z0 z0f z1 z1f z2 z2f z3 z3f; have z0 := cell_in HZ4.out 0 _ rfl; have z0f := free_in HZ4.out 0; have z1 := cell_in HZ4.out 1 _ rfl; have z1f := free_in HZ4.out 1; have z2 := cell_in HZ4.out 2 _ rfl; have z2f := free_in HZ4.out 2; have z3 := cell_in HZ4.out 3 _ rfl; have z3f := free_in HZ4.out 3; have HX4 := hid hb4; clear hb4))
          go_meet
          exact ⟨false, congrArg Value.bool (decide_eq_false (by omega)), HX4.out, hid (fun _ => ⟨hq, by omega⟩)⟩
  case rest =>
  obtain ⟨q, rfl, hbq, HQ⟩ := hcut
  generalize wc = w4 at *
  have HB4 := hid (below_step HB3.out hbq)
  have HSS4 := hid hbq.size
  have HZ4 := hid ((hbq.block _ (lt_of_block HZ3.out)).trans HZ3.out)
  clear hbq
  clear z0 z0f z1 z1f z2 z2f z3 z3f
  have z0 := cell_in HZ4.out 0 _ rfl
  have z0f := free_in HZ4.out 0
  have z1 := cell_in HZ4.out 1 _ rfl
  have z1f := free_in HZ4.out 1
  have z2 := cell_in HZ4.out 2 _ rfl
  have z2f := free_in HZ4.out 2
  have z3 := cell_in HZ4.out 3 _ rfl
  have z3f := free_in HZ4.out 3
  go_upto_if 28 with fail
  go_cut [] from 28 to 30 (fun wx => ∃ a c a' c' C, Hid (wx.heap[W.heap.size]? = some (.cells #[.int .i64 C.ver, .int .i64 C.nxt, .slice a C.tabs.length c, .slice a' C.idxs.length c'] 25 (0, 0))) ∧ Hid (Below W.heap.size W wx) ∧ Hid (CatN (NB W.heap.size wx) wx [.int .i64 C.ver, .int .i64 C.nxt, .slice a C.tabs.length c, .slice a' C.idxs.length c'] C) ∧ Hid (CatOk C ∧ C.ver ≤ 1099511627776))
  case first =>
    as_aux_lemma =>
      cases q with
      | false =>
        have hcx := HQ.out rfl
        have HCX := hid hcx
        clear hcx
        go_wp2_with fail
        go_meet
        exact ⟨a, c, a', c', C0, HZ4, HB4, hid ((HC00.out.old HB4.out).mono (fun k e => ⟨by have e9 : k < W.heap.size := e; omega, by have e9 : k < W.heap.size := e; have := HB4.out.size; omega⟩)), hid ⟨(catR_iff C0).1 HCX.out.1, HCX.out.2⟩⟩
      | true =>
        go_wp2_with fail
        obtain ⟨p1, p2⟩ := put4 HZ4.out (.int .i64 0) (.int .i64 1) (.slice none 0 0) (.slice none 0 0)
        generalize (((w4.setCell ⟨W.heap.size, 0, none⟩ (.int .i64 0)).setCell ⟨W.heap.size, 1, none⟩ (.int .i64 1)).setCell ⟨W.heap.size, 2, none⟩ (.slice none 0 0)).setCell ⟨W.heap.size, 3, none⟩ (.slice none 0 0) = s4 at *
        go_meet
        exact ⟨none, 0, none, 0, cat1, hid p1, hid (HB4.out.trans (p2.below HB4.out.size (fun k e => by have e9 : k = W.heap.size := e; omega))), hid ⟨_, _, rfl, LstN.nil _ _ _ _, LstN.nil _ _ _ _, rfl, rfl⟩, hid ⟨(catR_iff cat1).1 (by decide), by decide⟩⟩
  case rest =>
  obtain ⟨a, c, a', c', C, HZ5, HB5, HC5, HOK5⟩ := hcut
  generalize wc = w5 at *
  clear z0 z1 z2 z3 z0f z1f z2f z3f
  go_wp2_with fail
  go_loopw [5] (fun j wr => ∃ k a c a' c' C, k ≤ l.length ∧ j = .int .i64 (k : Int) ∧ k ≤ 60 ∧ Hid (wr.heap[W.heap.size]? = some (.cells #[.int .i64 C.ver, .int .i64 C.nxt, .slice a C.tabs.length c, .slice a' C.idxs.length c'] 25 (0, 0))) ∧ Hid (Below W.heap.size W wr) ∧ Hid (CatN (NB W.heap.size wr) wr [.int .i64 C.ver, .int .i64 C.nxt, .slice a C.tabs.length c, .slice a' C.idxs.length c'] C) ∧ Hid (CatOk C ∧ C.ver ≤ 1099511627776 + (k : Int)))
    (fun j _ => l.length - (intOf j).toNat)
  case atStart => exact ⟨0, a, c, a', c', C, by omega, rfl, by omega, HZ5, HB5, HC5, hid ⟨HOK5.out.1, by have := HOK5.out.2; omega⟩⟩
  case round =>
  clear HZ5 HB5 HC5 HOK5 HQ HZ4 HB4 HZ3 HB3 HZ2 HB2 HZ1 HB1 HSS2 HSS3 HSS4
  obtain ⟨k, a, c, a', c', C, hk, rfl, hk60, HZr, HBr, HCr, HOKr⟩ := hrel
  by_cases hlt : k < l.length
  case neg =>
    as_aux_lemma =>
      have hki : ¬ (k : Int) < (l.length : Int) := by omega
      go_wp2_with fail
      go_ret
      exact ⟨rfl, HBr.out⟩
  have hki : (k : Int) < (l.length : Int) := by omega
  by_cases h60 : k < 60
  case neg =>
    as_aux_lemma =>
      have hk6 : ¬ (k : Int) < 60 := by omega
      go_wp2_with fail
      go_ret
      exact ⟨rfl, HBr.out⟩
  have hk6 : (k : Int) < 60 := by omega
  obtain ⟨o, ho⟩ : ∃ o, l[k]? = some o := ⟨_, List.getElem?_eq_getElem hlt⟩
  have HLO := hid (HLW.out o (List.mem_of_getElem? ho))
  obtain ⟨ob, off, ta, tc, tb, td, xa, xc, rfl, hT, hX, hcl⟩ := HOP.out k o ho
  have HT := hid hT
  have HX := hid hX
  have HBL : Hid (W.heap.size < wr.heap.size) := hid (lt_of_block HZr.out)
  have k0 := (HBr.out.cell (block_cell (hcl 0 _ rfl))).trans (hcl 0 _ rfl)
  rw [Nat.add_zero] at k0
  have k1 := (HBr.out.cell (block_cell (hcl 1 _ rfl))).trans (hcl 1 _ rfl)
  have k2 := (HBr.out.cell (block_cell (hcl 2 _ rfl))).trans (hcl 2 _ rfl)
  have k3 := (HBr.out.cell (block_cell (hcl 3 _ rfl))).trans (hcl 3 _ rfl)
  have k4 := (HBr.out.cell (block_cell (hcl 4 _ rfl))).trans (hcl 4 _ rfl)
  have k5 := (HBr.out.cell (block_cell (hcl 5 _ rfl))).trans (hcl 5 _ rfl)
  have k6 := (HBr.out.cell (block_cell (hcl 6 _ rfl))).trans (hcl 6 _ rfl)
  have k7 := (HBr.out.cell (block_cell (hcl 7 _ rfl))).trans (hcl 7 _ rfl)
  have k8 := (HBr.out.cell (block_cell (hcl 8 _ rfl))).trans (hcl 8 _ rfl)
  have k9 := (HBr.out.cell (block_cell (hcl 9 _ rfl))).trans (hcl 9 _ rfl)
  have k10 := (HBr.out.cell (block_cell (hcl 10 _ rfl))).trans (hcl 10 _ rfl)
  have k11 := (HBr.out.cell (block_cell (hcl 11 _ rfl))).trans (hcl 11 _ rfl)
  have k12 := (HBr.out.cell (block_cell (hcl 12 _ rfl))).trans (hcl 12 _ rfl)
  have k13 := (HBr.out.cell (block_cell (hcl 13 _ rfl))).trans (hcl 13 _ rfl)
  have k14 := (HBr.out.cell (block_cell (hcl 14 _ rfl))).trans (hcl 14 _ rfl)
  have k15 := (HBr.out.cell (block_cell (hcl 15 _ rfl))).trans (hcl 15 _ rfl)
  have k16 := (HBr.out.cell (block_cell (hcl 16 _ rfl))).trans (hcl 16 _ rfl)
  clear hcl hT hX ho
  go_upto_region 9 with fail
  have hb5 := (Below.refl wr.heap.size wr).alloc (Nat.le_refl _) (.cells #[.int .i64 o.kind, .int .i64 o.t.id, .string ⟨o.t.name.toArray⟩, .slice ta o.t.cols.length tc, .slice tb o.t.key.length td, .int .i64 o.x.id, .int .i64 o.x.table, .string ⟨o.x.name.toArray⟩, .slice xa o.x.cols.length xc, .bool o.x.uniq, .int .i64 o.x.state, .bool o.x.bad, .string ⟨o.name.toArray⟩, .int .i64 o.id, .int .i64 o.fr, .int .i64 o.st, .bool o.bad] 47)
  have hz5 := heap_alloc_new wr (.cells #[.int .i64 o.kind, .int .i64 o.t.id, .string ⟨o.t.name.toArray⟩, .slice ta o.t.cols.length tc, .slice tb o.t.key.length td, .int .i64 o.x.id, .int .i64 o.x.table, .string ⟨o.x.name.toArray⟩, .slice xa o.x.cols.length xc, .bool o.x.uniq, .int .i64 o.x.state, .bool o.x.bad, .string ⟨o.name.toArray⟩, .int .i64 o.id, .int .i64 o.fr, .int .i64 o.st, .bool o.bad] 47)
  have hs5 : (wr.alloc (.cells #[.int .i64 o.kind, .int .i64 o.t.id, .string ⟨o.t.name.toArray⟩, .slice ta o.t.cols.length tc, .slice tb o.t.key.length td, .int .i64 o.x.id, .int .i64 o.x.table, .string ⟨o.x.name.toArray⟩, .slice xa o.x.cols.length xc, .bool o.x.uniq, .int .i64 o.x.state, .bool o.x.bad, .string ⟨o.name.toArray⟩, .int .i64 o.id, .int .i64 o.fr, .int .i64 o.st, .bool o.bad] 47)).heap.size = wr.heap.size + 1 := by simp
  generalize wr.alloc (.cells #[.int .i64 o.kind, .int .i64 o.t.id, .string ⟨o.t.name.toArray⟩, .slice ta o.t.cols.length tc, .slice tb o.t.key.length td, .int .i64 o.x.id, .int .i64 o.x.table, .string ⟨o.x.name.toArray⟩, .slice xa o.x.cols.length xc, .bool o.x.uniq, .int .i64 o.x.state, .bool o.x.bad, .string ⟨o.name.toArray⟩, .int .i64 o.id, .int .i64 o.fr, .int .i64 o.st, .bool o.bad] 47) = w5 at *
  have HB5 := hid (below_step HBr.out hb5)
  have HSS5 := hid hb5.size
  have HZ5 := hid ((hb5.block _ (lt_of_block HZr.out)).trans HZr.out)
  have HC5 := hid (HCr.out.old hb5)
  have HO5 := hid hz5
  have HS5 := hid hs5
  clear hb5 hz5 hs5 k0 k1 k2 k3 k4 k5 k6 k7 k8 k9 k10 k11 k12 k13 k14 k15 k16
  have HCM : Hid (CatN (NB W.heap.size w5) w5 [.int .i64 C.ver, .int .i64 C.nxt, .slice a C.tabs.length c, .slice a' C.idxs.length c'] C) := hid (HC5.out.mono (fun k e => ⟨e.1, by have := e.2; have := HS5.out; omega⟩))
  have o3 := cell_in HO5.out 3 _ rfl
  have o4 := cell_in HO5.out 4 _ rfl
  have o8 := cell_in HO5.out 8 _ rfl
  by_cases g1 : (30 : Int) < (o.t.cols.length : Int)
  case pos =>
    as_aux_lemma =>
      go_wp2_with fail
      go_roundw
      case rel => exact ⟨k + 1, a, c, a', c', C, by omega, by go_num, by omega, HZ5, HB5, HCM, hid ⟨HOKr.out.1, by have := HOKr.out.2; omega⟩⟩
      case measure => simp [intOf]; omega
  by_cases g2 : (30 : Int) < (o.t.key.length : Int)
  case pos =>
    as_aux_lemma =>
      go_wp2_with fail
      go_roundw
      case rel => exact ⟨k + 1, a, c, a', c', C, by omega, by go_num, by omega, HZ5, HB5, HCM, hid ⟨HOKr.out.1, by have := HOKr.out.2; omega⟩⟩
      case measure => simp [intOf]; omega
  by_cases g3 : (30 : Int) < (o.x.cols.length : Int)
  case pos =>
    as_aux_lemma =>
      go_wp2_with fail
      go_roundw
      case rel => exact ⟨k + 1, a, c, a', c', C, by omega, by go_num, by omega, HZ5, HB5, HCM, hid ⟨HOKr.out.1, by have := HOKr.out.2; omega⟩⟩
      case measure => simp [intOf]; omega
  clear HCM
  go_upto_region 10 with fail
  clear o3 o4 o8
  have o0 := cell_in HO5.out 0 _ rfl
  have z3 := cell_in HZ5.out 3 _ rfl
  go_cut [71] from 63 to 71 (fun s wx => ∃ q : Bool, s = .bool q ∧ wx = w5 ∧ Hid (q = true → 0 < C.idxs.length))
  case first =>
    as_aux_lemma =>
      cases hq4 : (o.kind == 4) with
      | false =>
        go_wp2_with fail
        go_meet
        exact ⟨false, rfl, rfl, hid (fun e => by cases e)⟩
      | true =>
        by_cases hl0 : 0 < C.idxs.length
        · go_wp2_with fail
          go_meet
          exact ⟨true, rfl, rfl, hid (fun _ => hl0)⟩
        · go_wp2_with fail
          go_meet
          exact ⟨false, rfl, rfl, hid (fun e => by cases e)⟩
  case rest =>
  obtain ⟨q, rfl, rfl, HQ⟩ := hcut
  generalize wc = w5 at *
  clear o0 z3
  go_upto_if 71 with fail
  go_cut [] from 71 to 95 (fun wx => ∃ kd id fr st, Hid (wx.heap[wr.heap.size]? = some (.cells #[.int .i64 kd, .int .i64 o.t.id, .string ⟨o.t.name.toArray⟩, .slice ta o.t.cols.length tc, .slice tb o.t.key.length td, .int .i64 o.x.id, .int .i64 o.x.table, .string ⟨o.x.name.toArray⟩, .slice xa o.x.cols.length xc, .bool o.x.uniq, .int .i64 o.x.state, .bool o.x.bad, .string ⟨o.name.toArray⟩, .int .i64 id, .int .i64 fr, .int .i64 st, .bool o.bad] 47 (0, 0))) ∧ Hid (Keep (fun k => k = wr.heap.size) w5 wx))
  case first =>
    as_aux_lemma =>
      cases q with
      | false =>
        go_wp2_with fail
        go_meet
        exact ⟨_, _, _, _, HO5, hid (Keep.refl _ _)⟩
      | true =>
        have hl0 := HQ.out rfl
        have hl10 := HOKr.out.1.len.2
        obtain ⟨u, hu⟩ : ∃ u : Nat, IntKind.u64.wrap o.id = (u : Int) := by rw [wrap_u64]; exact ⟨(o.id % 18446744073709551616).toNat, by omega⟩
        obtain ⟨m, hm⟩ : ∃ m, m = u % C.idxs.length := ⟨_, rfl⟩
        have hml : m < C.idxs.length := by rw [hm]; exact Nat.mod_lt _ hl0
        have hkt : (u : Int).tmod (C.idxs.length : Int) = (m : Int) := by rw [hm]; rfl
        have hln : IntKind.u64.wrap (C.idxs.length : Int) = (C.idxs.length : Int) := by rw [wrap_u64]; omega
        have hkw : IntKind.i64.wrap (m : Int) = (m : Int) := by rw [IntKind.wrap_i64]; omega
        have hn0 : ¬ C.idxs.length = 0 := by omega
        have hmi : (m : Int) < (C.idxs.length : Int) := by omega
        clear hm
        obtain ⟨x, hx⟩ : ∃ x, C.idxs[m]? = some x := ⟨_, List.getElem?_eq_getElem hml⟩
        have HXX := hid hx
        clear hx
        obtain ⟨g, goff, ya, yc, hka, c0, c1, c2, c3, c4, c5, c6⟩ : ∃ g goff ya yc, a' = some ⟨g, goff, none⟩ ∧ w5.cell? ⟨g, goff + m * 7, none⟩ = some (.int .i64 x.id) ∧ w5.cell? ⟨g, goff + m * 7 + 1, none⟩ = some (.int .i64 x.table) ∧ w5.cell? ⟨g, goff + m * 7 + 2, none⟩ = some (.string ⟨x.name.toArray⟩) ∧ w5.cell? ⟨g, goff + m * 7 + 3, none⟩ = some (.slice ya x.cols.length yc) ∧ w5.cell? ⟨g, goff + m * 7 + 4, none⟩ = some (.bool x.uniq) ∧ w5.cell? ⟨g, goff + m * 7 + 5, none⟩ = some (.int .i64 x.state) ∧ w5.cell? ⟨g, goff + m * 7 + 6, none⟩ = some (.bool x.bad) := by
          obtain ⟨vx, vy, e9, -, ho2, -, -⟩ := HC5.out
          simp only [List.cons.injEq, and_true, true_and] at e9
          obtain ⟨rfl, rfl⟩ := e9
          obtain ⟨ao9, c9, e8, -, -, hc9⟩ := ix_cells ho2
          obtain ⟨b9, o9, q1, q2, e7, -, r2⟩ := hc9 m x HXX.out
          simp only [Value.slice.injEq] at e8
          exact ⟨b9, o9, q1, q2, by rw [e8.1, e7], r2⟩
        subst hka
        have z3 := cell_in HZ5.out 3 _ rfl
        have o13 := cell_in HO5.out 13 _ rfl
        have HKp : Hid (∀ V, Below w5.heap.size w5 V → V.cell? ⟨W.heap.size, 3, none⟩ = some (.slice (some ⟨g, goff, none⟩) C.idxs.length c') ∧ V.cell? ⟨wr.heap.size, 13, none⟩ = some (.int .i64 o.id) ∧ V.cell? ⟨g, goff + m * 7, none⟩ = some (.int .i64 x.id) ∧ V.cell? ⟨g, goff + m * 7 + 1, none⟩ = some (.int .i64 x.table) ∧ V.cell? ⟨g, goff + m * 7 + 2, none⟩ = some (.string ⟨x.name.toArray⟩) ∧ V.cell? ⟨g, goff + m * 7 + 3, none⟩ = some (.slice ya x.cols.length yc) ∧ V.cell? ⟨g, goff + m * 7 + 4, none⟩ = some (.bool x.uniq) ∧ V.cell? ⟨g, goff + m * 7 + 5, none⟩ = some (.int .i64 x.state) ∧ V.cell? ⟨g, goff + m * 7 + 6, none⟩ = some (.bool x.bad)) := hid (fun V hV => ⟨(hV.cell (block_cell z3)).trans z3, (hV.cell (block_cell o13)).trans o13, (hV.cell (block_cell c0)).trans c0, (hV.cell (block_cell c1)).trans c1, (hV.cell (block_cell c2)).trans c2, (hV.cell (block_cell c3)).trans c3, (hV.cell (block_cell c4)).trans c4, (hV.cell (block_cell c5)).trans c5, (hV.cell (block_cell c6)).trans c6⟩)
        clear c0 c1 c2 c3 c4 c5 c6 z3 o13
        go_upto_region 11 with fail
        refine wp_region_noPanic ?_
        refine wp_region_held_drew (S := fun V => Hid (Below w5.heap.size w5 V)) (by kernel_rfl) (hid (Below.drew (Below.refl _ _))) (fun hHeld => ?_)
        generalize w5.drew = Wd at *
        refine tkH 0 (.pointer (some ⟨W.heap.size, 3, none⟩)) rfl (by kernel_rfl) (fun _ _ _ => False.elim) hHeld (Or.inl ⟨by rfl, fun W9 hW => by clear hHeld hW; simp only [jA, jB, jC]; go_simp⟩) ?_
        simp only [Act.put, jA, jB, jC, jD, jE, jF]
        refine tkH 1 (.slice (some ⟨g, goff, none⟩) C.idxs.length c') rfl (by kernel_rfl) (fun _ _ _ => False.elim) hHeld (Or.inl ⟨by rfl, fun W9 hW => by obtain ⟨q0, q1, q2, q3, q4, q5, q6, q7, q8⟩ := HKp.out _ hW.out; clear hHeld hW; simp only [jA, jB, jC]; go_simp⟩) ?_
        simp only [Act.put, jA, jB, jC, jD, jE, jF]
        refine tkH 2 (.pointer (some ⟨wr.heap.size, 13, none⟩)) rfl (by kernel_rfl) (fun _ _ _ => False.elim) hHeld (Or.inl ⟨by rfl, fun W9 hW => by clear hHeld hW; simp only [jA, jB, jC]; go_simp⟩) ?_
        simp only [Act.put, jA, jB, jC, jD, jE, jF]
        refine tkH 3 (.int .i64 o.id) rfl (by kernel_rfl) (fun _ _ _ => False.elim) hHeld (Or.inl ⟨by rfl, fun W9 hW => by obtain ⟨q0, q1, q2, q3, q4, q5, q6, q7, q8⟩ := HKp.out _ hW.out; clear hHeld hW; simp only [jA, jB, jC]; go_simp⟩) ?_
        simp only [Act.put, jA, jB, jC, jD, jE, jF]
        refine tkH 4 (.int .u64 (u : Int)) rfl (by kernel_rfl) (fun _ _ _ => False.elim) hHeld (Or.inl ⟨by rfl, fun W9 hW => by clear hHeld hW; simp only [jA, jB, jC]; go_simp⟩) ?_
        simp only [Act.put, jA, jB, jC, jD, jE, jF]
        refine tkH 5 (.pointer (some ⟨W.heap.size, 3, none⟩)) rfl (by kernel_rfl) (fun _ _ _ => False.elim) hHeld (Or.inl ⟨by rfl, fun W9 hW => by clear hHeld hW; simp only [jA, jB, jC]; go_simp⟩) ?_
        simp only [Act.put, jA, jB, jC, jD, jE, jF]
        refine tkH 6 (.slice (some ⟨g, goff, none⟩) C.idxs.length c') rfl (by kernel_rfl) (fun _ _ _ => False.elim) hHeld (Or.inl ⟨by rfl, fun W9 hW => by obtain ⟨q0, q1, q2, q3, q4, q5, q6, q7, q8⟩ := HKp.out _ hW.out; clear hHeld hW; simp only [jA, jB, jC]; go_simp⟩) ?_
        simp only [Act.put, jA, jB, jC, jD, jE, jF]
        refine tkH 7 (.int .i64 (C.idxs.length : Int)) rfl (by kernel_rfl) (fun _ _ _ => False.elim) hHeld (Or.inl ⟨by rfl, fun W9 hW => by clear hHeld hW; simp only [jA, jB, jC]; go_simp⟩) ?_
        simp only [Act.put, jA, jB, jC, jD, jE, jF]
        refine tkH 8 (.int .u64 (C.idxs.length : Int)) rfl (by kernel_rfl) (fun _ _ _ => False.elim) hHeld (Or.inl ⟨by rfl, fun W9 hW => by clear hHeld hW; simp only [jA, jB, jC]; go_simp⟩) ?_
        simp only [Act.put, jA, jB, jC, jD, jE, jF]
        refine tkH 9 (.int .u64 (m : Int)) rfl (by kernel_rfl) (fun _ _ _ => False.elim) hHeld (Or.inl ⟨by rfl, fun W9 hW => by clear hHeld hW; simp only [jA, jB, jC]; go_simp⟩) ?_
        simp only [Act.put, jA, jB, jC, jD, jE, jF]
        refine tkH 10 (.int .i64 (m : Int)) rfl (by kernel_rfl) (fun _ _ _ => False.elim) hHeld (Or.inl ⟨by rfl, fun W9 hW => by clear hHeld hW; simp only [jA, jB, jC]; go_simp⟩) ?_
        simp only [Act.put, jA, jB, jC, jD, jE, jF]
        refine tkH 11 (.pointer (some ⟨g, goff + m * 7, none⟩)) rfl (by kernel_rfl) (fun _ _ _ => False.elim) hHeld (Or.inl ⟨by rfl, fun W9 hW => by clear hHeld hW; simp only [jA, jB, jC]; go_simp⟩) ?_
        simp only [Act.put, jA, jB, jC, jD, jE, jF]
        refine tkH 12 (.agg #[.int .i64 x.id, .int .i64 x.table, .string ⟨x.name.toArray⟩, .slice ya x.cols.length yc, .bool x.uniq, .int .i64 x.state, .bool x.bad]) rfl (by kernel_rfl) (fun _ _ _ => False.elim) hHeld (Or.inl ⟨by rfl, fun W9 hW => by obtain ⟨q0, q1, q2, q3, q4, q5, q6, q7, q8⟩ := HKp.out _ hW.out; clear hHeld hW; simp only [jA, jB, jC]; go_simp⟩) ?_
        simp only [Act.put, jA, jB, jC, jD, jE, jF]
        refine rdH 13 (by kernel_rfl) rfl fun K hK => ?_
        go_simp
        have hza := heap_alloc_new Wd (.cells #[.int .i64 0, .int .i64 0, .string ⟨#[]⟩, .slice none 0 0, .bool false, .int .i64 0, .bool false] 37)
        refine hK.out _ _ (hid (hHeld.out.alloc hHeld.out.size (.cells #[.int .i64 0, .int .i64 0, .string ⟨#[]⟩, .slice none 0 0, .bool false, .int .i64 0, .bool false] 37))) (fun hHeld2 => ?_)
        clear hK K
        try simp only [Act.put, jA, jB, jC, jD, jE, jF]
        have hbx0 := hHeld.out.size
        generalize Wd.alloc (.cells #[.int .i64 0, .int .i64 0, .string ⟨#[]⟩, .slice none 0 0, .bool false, .int .i64 0, .bool false] 37) = Wa at *
        generalize Wd.heap.size = bx at *
        clear hHeld
        have HZA := hid hza
        clear hza
        refine rdH 14 (by kernel_rfl) rfl fun K hK => ?_
        rw [if_pos (by rfl)]
        refine Go.wp_store_row _ _ _ rfl bx #[.int .i64 x.id, .int .i64 x.table, .string ⟨x.name.toArray⟩, .slice ya x.cols.length yc, .bool x.uniq, .int .i64 x.state, .bool x.bad] rfl rfl _ _ HZA.out (by kernel_rfl) rfl (by simp [Value.oneCell']) ?_
        have p1 := setRow_heap Wa bx _ #[.int .i64 x.id, .int .i64 x.table, .string ⟨x.name.toArray⟩, .slice ya x.cols.length yc, .bool x.uniq, .int .i64 x.state, .bool x.bad] _ _ HZA.out
        have p2 := setRow_keep Wa bx #[.int .i64 x.id, .int .i64 x.table, .string ⟨x.name.toArray⟩, .slice ya x.cols.length yc, .bool x.uniq, .int .i64 x.state, .bool x.bad]
        generalize Wa.setRow bx #[.int .i64 x.id, .int .i64 x.table, .string ⟨x.name.toArray⟩, .slice ya x.cols.length yc, .bool x.uniq, .int .i64 x.state, .bool x.bad] = Wb at *
        have HXb := hid p1
        have HBb : Hid (Below w5.heap.size w5 Wb) := hid (hHeld2.out.trans (p2.below hHeld2.out.size (fun k e => by have e9 : k = bx := e; omega)))
        refine hK.out _ _ HBb (fun hHeld => ?_)
        clear hK K p1 p2 hHeld2
        try simp only [Act.put, jA, jB, jC, jD, jE, jF]
        refine wpAnyH_done (by kernel_rfl) (NoPanic.normal ?_) _
        clear hHeld
        go_upto_region 12 with fail
        have hne : ¬ bx = wr.heap.size := by have := HS5.out; omega
        have HKq : Hid (∀ V, Keep (fun k => k = wr.heap.size) Wb V → V.heap[bx]? = some (.cells #[.int .i64 x.id, .int .i64 x.table, .string ⟨x.name.toArray⟩, .slice ya x.cols.length yc, .bool x.uniq, .int .i64 x.state, .bool x.bad] 37 (0, 0))) := hid (fun V hV => (hV.block _ (lt_of_block HXb.out) hne).trans HXb.out)
        have HOb := hid ((HBb.out.block _ (lt_of_block HO5.out)).trans HO5.out)
        refine wp_region_noPanic ?_
        refine wp_region_held_drew (S := fun V => Hid (Keep (fun k => k = wr.heap.size) Wb V)) (by kernel_rfl) (hid ⟨rfl, rfl, rfl, Nat.le_refl _, fun _ _ _ => rfl⟩) (fun hHeld => ?_)
        have HOd : Hid (Wb.drew.heap[wr.heap.size]? = some (.cells #[.int .i64 o.kind, .int .i64 o.t.id, .string ⟨o.t.name.toArray⟩, .slice ta o.t.cols.length tc, .slice tb o.t.key.length td, .int .i64 o.x.id, .int .i64 o.x.table, .string ⟨o.x.name.toArray⟩, .slice xa o.x.cols.length xc, .bool o.x.uniq, .int .i64 o.x.state, .bool o.x.bad, .string ⟨o.name.toArray⟩, .int .i64 o.id, .int .i64 o.fr, .int .i64 o.st, .bool o.bad] 47 (0, 0))) := hid HOb.out
        generalize Wb.drew = Wd2 at *
        refine tkH 0 (.pointer (some ⟨bx, 0, none⟩)) rfl (by kernel_rfl) (fun _ _ _ => False.elim) hHeld (Or.inl ⟨by rfl, fun W9 hW => by clear hHeld hW; simp only [jA, jB, jC]; go_simp⟩) ?_
        simp only [Act.put, jA, jB, jC, jD, jE, jF]
        refine tkH 1 (.int .i64 x.id) rfl (by kernel_rfl) (fun _ _ _ => False.elim) hHeld (Or.inl ⟨by rfl, fun W9 hW => by have h9 := HKq.out _ hW.out; clear hHeld hW; have q0 := cell_in h9 0 _ rfl; have q1 := cell_in h9 1 _ rfl; have q2 := cell_in h9 2 _ rfl; have q3 := cell_in h9 3 _ rfl; have q4 := cell_in h9 4 _ rfl; have q5 := cell_in h9 5 _ rfl; have q6 := cell_in h9 6 _ rfl; clear h9; simp only [jA, jB, jC]; go_simp⟩) ?_
        simp only [Act.put, jA, jB, jC, jD, jE, jF]
        refine tkH 2 (.pointer (some ⟨bx, 5, none⟩)) rfl (by kernel_rfl) (fun _ _ _ => False.elim) hHeld (Or.inl ⟨by rfl, fun W9 hW => by clear hHeld hW; simp only [jA, jB, jC]; go_simp⟩) ?_
        simp only [Act.put, jA, jB, jC, jD, jE, jF]
        refine tkH 3 (.int .i64 x.state) rfl (by kernel_rfl) (fun _ _ _ => False.elim) hHeld (Or.inl ⟨by rfl, fun W9 hW => by have h9 := HKq.out _ hW.out; clear hHeld hW; have q0 := cell_in h9 0 _ rfl; have q1 := cell_in h9 1 _ rfl; have q2 := cell_in h9 2 _ rfl; have q3 := cell_in h9 3 _ rfl; have q4 := cell_in h9 4 _ rfl; have q5 := cell_in h9 5 _ rfl; have q6 := cell_in h9 6 _ rfl; clear h9; simp only [jA, jB, jC]; go_simp⟩) ?_
        simp only [Act.put, jA, jB, jC, jD, jE, jF]
        refine tkH 4 (.agg #[.int .i64 x.id, .int .i64 x.table, .string ⟨x.name.toArray⟩, .slice ya x.cols.length yc, .bool x.uniq, .int .i64 x.state, .bool x.bad]) rfl (by kernel_rfl) (fun _ _ _ => False.elim) hHeld (Or.inl ⟨by rfl, fun W9 hW => by have h9 := HKq.out _ hW.out; clear hHeld hW; have q0 := cell_in h9 0 _ rfl; have q1 := cell_in h9 1 _ rfl; have q2 := cell_in h9 2 _ rfl; have q3 := cell_in h9 3 _ rfl; have q4 := cell_in h9 4 _ rfl; have q5 := cell_in h9 5 _ rfl; have q6 := cell_in h9 6 _ rfl; clear h9; simp only [jA, jB, jC]; go_simp⟩) ?_
        simp only [Act.put, jA, jB, jC, jD, jE, jF]
        refine tkH 6 (.pointer (some ⟨wr.heap.size, 0, none⟩)) rfl (by kernel_rfl) (fun _ _ _ => False.elim) hHeld (Or.inl ⟨by rfl, fun W9 hW => by clear hHeld hW; simp only [jA, jB, jC]; go_simp⟩) ?_
        simp only [Act.put, jA, jB, jC, jD, jE, jF]
        refine rdH 5 (by kernel_rfl) rfl fun K hK => ?_
        go_simp
        go_wp2_with (first | (go_at_call 24; refine (rNext_any Wd2 x.id x.table x.state ⟨x.name.toArray⟩ (.slice ya x.cols.length yc) x.uniq x.bad rfl).mono ?_; rintro en wE ⟨rfl, hbE⟩; have HKE := hid (hHeld.out.trans (Keep.of_below hbE)); have HOe := hid ((hbE.block _ (lt_of_block HOd.out)).trans HOd.out); clear hbE))
        refine hK.out _ _ HKE (fun hHeld => ?_)
        clear hK K
        try simp only [Act.put, jA, jB, jC, jD, jE, jF]
        have d0 := cell_in HOe.out 0 _ rfl
        have d0f := free_in HOe.out 0
        refine rdH 7 (by kernel_rfl) rfl fun K hK => ?_
        go_simp
        have HOs0 := hid (put_in HOe.out 0 (.int .i64 3))
        have HKs0 := hid (HKE.out.trans (keepS1 wE (wr.heap.size) 0 (.int .i64 3)))
        refine hK.out _ _ HKs0 (fun hHeld => ?_)
        clear hK K d0 d0f
        try simp only [Act.put, jA, jB, jC, jD, jE, jF]
        generalize wE.setCell ⟨wr.heap.size, 0, none⟩ (.int .i64 3) = wS0 at *
        refine tkH 8 (.pointer (some ⟨wr.heap.size, 13, none⟩)) rfl (by kernel_rfl) (fun _ _ _ => False.elim) hHeld (Or.inl ⟨by rfl, fun W9 hW => by clear hHeld hW; simp only [jA, jB, jC]; go_simp⟩) ?_
        simp only [Act.put, jA, jB, jC, jD, jE, jF]
        have d0 := cell_in HOs0.out 13 _ rfl
        have d0f := free_in HOs0.out 13
        refine rdH 9 (by kernel_rfl) rfl fun K hK => ?_
        go_simp
        have HOs1 := hid (put_in HOs0.out 13 (.int .i64 x.id))
        have HKs1 := hid (HKs0.out.trans (keepS1 wS0 (wr.heap.size) 13 (.int .i64 x.id)))
        refine hK.out _ _ HKs1 (fun hHeld => ?_)
        clear hK K d0 d0f
        try simp only [Act.put, jA, jB, jC, jD, jE, jF]
        generalize wS0.setCell ⟨wr.heap.size, 13, none⟩ (.int .i64 x.id) = wS1 at *
        refine tkH 10 (.pointer (some ⟨wr.heap.size, 14, none⟩)) rfl (by kernel_rfl) (fun _ _ _ => False.elim) hHeld (Or.inl ⟨by rfl, fun W9 hW => by clear hHeld hW; simp only [jA, jB, jC]; go_simp⟩) ?_
        simp only [Act.put, jA, jB, jC, jD, jE, jF]
        have d0 := cell_in HOs1.out 14 _ rfl
        have d0f := free_in HOs1.out 14
        refine rdH 11 (by kernel_rfl) rfl fun K hK => ?_
        go_simp
        have HOs2 := hid (put_in HOs1.out 14 (.int .i64 x.state))
        have HKs2 := hid (HKs1.out.trans (keepS1 wS1 (wr.heap.size) 14 (.int .i64 x.state)))
        refine hK.out _ _ HKs2 (fun hHeld => ?_)
        clear hK K d0 d0f
        try simp only [Act.put, jA, jB, jC, jD, jE, jF]
        generalize wS1.setCell ⟨wr.heap.size, 14, none⟩ (.int .i64 x.state) = wS2 at *
        refine tkH 12 (.pointer (some ⟨wr.heap.size, 15, none⟩)) rfl (by kernel_rfl) (fun _ _ _ => False.elim) hHeld (Or.inl ⟨by rfl, fun W9 hW => by clear hHeld hW; simp only [jA, jB, jC]; go_simp⟩) ?_
        simp only [Act.put, jA, jB, jC, jD, jE, jF]
        have d0 := cell_in HOs2.out 15 _ rfl
        have d0f := free_in HOs2.out 15
        refine rdH 13 (by kernel_rfl) rfl fun K hK => ?_
        go_simp
        have HOs3 := hid (put_in HOs2.out 15 (.int .i64 (nextI x.state)))
        have HKs3 := hid (HKs2.out.trans (keepS1 wS2 (wr.heap.size) 15 (.int .i64 (nextI x.state))))
        refine hK.out _ _ HKs3 (fun hHeld => ?_)
        clear hK K d0 d0f
        try simp only [Act.put, jA, jB, jC, jD, jE, jF]
        generalize wS2.setCell ⟨wr.heap.size, 15, none⟩ (.int .i64 (nextI x.state)) = wS3 at *
        refine wpAnyH_done (by kernel_rfl) (NoPanic.normal ?_) _
        clear hHeld
        go_wp2_with fail
        go_meet
        exact ⟨3, x.id, x.state, nextI x.state, HOs3, hid ((Keep.of_below HBb.out).trans HKs3.out)⟩
  case rest =>
  as_aux_lemma =>
    obtain ⟨kd, id, fr, st, HO6, HK6⟩ := hcut
    generalize wc = w6 at *
    have HZ6 := hid ((HK6.out.block _ (lt_of_block HZ5.out) (fun e => by have e9 : W.heap.size = wr.heap.size := e; have := HBL.out; omega)).trans HZ5.out)
    have HB6 : Hid (Below W.heap.size W w6) := hid (HB5.out.trans (HK6.out.below HB5.out.size (fun k e => by have e9 : k = wr.heap.size := e; have := HBL.out; omega)))
    have HC6 := hid (HC5.out.keep HK6.out (fun k e e9 => by have e8 : k = wr.heap.size := e9; have := e.2; omega))
    have HSS6 : Hid (w5.heap.size ≤ w6.heap.size) := hid HK6.out.size
    clear HO5
    have z0 := cell_in HZ6.out 0 _ rfl
    have z1 := cell_in HZ6.out 1 _ rfl
    have z2 := cell_in HZ6.out 2 _ rfl
    have z3 := cell_in HZ6.out 3 _ rfl
    have HSC := hid (catR_S HOKr.out.1)
    have CC := hid (rCopy_any HC6.out (fun k hk => by have := hk.2; have := HSS6.out; have := HS5.out; omega) HSC.out)
    go_upto_region 14 with (first | (go_at_call 11; refine CC.out.mono ?_; rintro en w7 ⟨vs, rfl, hb7, hc7⟩; obtain ⟨ia, ic, ib, id2, rfl⟩ := cat_form hc7.cat; have HB7 := hid (below_step HB6.out hb7); have HSS7 := hid hb7.size; have HZ7 := hid ((hb7.block _ (lt_of_block HZ6.out)).trans HZ6.out); have HO7 := hid ((hb7.block _ (lt_of_block HO6.out)).trans HO6.out); have HC7 := hid (HC6.out.old hb7); have HIN7 := hid hc7.cat; clear hb7 hc7))
    have hb8 := (Below.refl w7.heap.size w7).alloc (Nat.le_refl _) (.cells #[.int .i64 C.ver, .int .i64 C.nxt, .slice ia C.tabs.length ic, .slice ib C.idxs.length id2] 25)
    have hz8 := heap_alloc_new w7 (.cells #[.int .i64 C.ver, .int .i64 C.nxt, .slice ia C.tabs.length ic, .slice ib C.idxs.length id2] 25)
    have hs8 : (w7.alloc (.cells #[.int .i64 C.ver, .int .i64 C.nxt, .slice ia C.tabs.length ic, .slice ib C.idxs.length id2] 25)).heap.size = w7.heap.size + 1 := by simp
    generalize w7.alloc (.cells #[.int .i64 C.ver, .int .i64 C.nxt, .slice ia C.tabs.length ic, .slice ib C.idxs.length id2] 25) = w8 at *
    have HB8 := hid (below_step HB7.out hb8)
    have HSS8 := hid hb8.size
    have HZ8 := hid ((hb8.block _ (lt_of_block HZ7.out)).trans HZ7.out)
    have HO8 := hid ((hb8.block _ (lt_of_block HO7.out)).trans HO7.out)
    have HC8 := hid (HC7.out.old hb8)
    have HIN8 := hid (HIN7.out.old hb8)
    have HI8 := hid hz8
    have HS8 := hid hs8
    clear hb8 hz8 hs8 z0 z1 z2 z3
    go_upto_region 15 with fail
    have hb9 := (Below.refl w8.heap.size w8).alloc (Nat.le_refl _) (.cells #[.int .i64 0, .int .i64 0, .slice none 0 0, .slice none 0 0] 25)
    have hz9 := heap_alloc_new w8 (.cells #[.int .i64 0, .int .i64 0, .slice none 0 0, .slice none 0 0] 25)
    have hs9 : (w8.alloc (.cells #[.int .i64 0, .int .i64 0, .slice none 0 0, .slice none 0 0] 25)).heap.size = w8.heap.size + 1 := by simp
    generalize w8.alloc (.cells #[.int .i64 0, .int .i64 0, .slice none 0 0, .slice none 0 0] 25) = w9 at *
    have HB9 := hid (below_step HB8.out hb9)
    have HSS9 := hid hb9.size
    have HZ9 := hid ((hb9.block _ (lt_of_block HZ8.out)).trans HZ8.out)
    have HO9 := hid ((hb9.block _ (lt_of_block HO8.out)).trans HO8.out)
    have HI9 := hid ((hb9.block _ (lt_of_block HI8.out)).trans HI8.out)
    have HC9 := hid (HC8.out.old hb9)
    have HIN9 := hid (HIN8.out.old hb9)
    have HN9 := hid hz9
    have HS9 := hid hs9
    clear hb9 hz9 hs9
    have hb10 := (Below.refl w9.heap.size w9).alloc (Nat.le_refl _) (.cells #[.int .i64 0, .int .i64 0, .slice none 0 0, .slice none 0 0] 25)
    have hz10 := heap_alloc_new w9 (.cells #[.int .i64 0, .int .i64 0, .slice none 0 0, .slice none 0 0] 25)
    have hs10 : (w9.alloc (.cells #[.int .i64 0, .int .i64 0, .slice none 0 0, .slice none 0 0] 25)).heap.size = w9.heap.size + 1 := by simp
    rw [HS9.out] at hz10
    generalize w9.alloc (.cells #[.int .i64 0, .int .i64 0, .slice none 0 0, .slice none 0 0] 25) = w10 at *
    have HB10 := hid (below_step HB9.out hb10)
    have HSS10 := hid hb10.size
    have HZ10 := hid ((hb10.block _ (lt_of_block HZ9.out)).trans HZ9.out)
    have HO10 := hid ((hb10.block _ (lt_of_block HO9.out)).trans HO9.out)
    have HI10 := hid ((hb10.block _ (lt_of_block HI9.out)).trans HI9.out)
    have HN10 := hid ((hb10.block _ (lt_of_block HN9.out)).trans HN9.out)
    have HC10 := hid (HC9.out.old hb10)
    have HIN10 := hid (HIN9.out.old hb10)
    have HM10 := hid hz10
    have HS10 := hid hs10
    clear hb10 hz10 hs10
    have HVB := hid (show -9223372036854775808 ≤ C.ver ∧ C.ver < 9223372036854775807 from ⟨by have := HOKr.out.1.ver; omega, by have := HOKr.out.2; omega⟩)
    have HNB := hid (show -9223372036854775808 ≤ C.nxt by have := HOKr.out.1.nxt; omega)
    have HCB := hid ((catR_iff C).2 HOKr.out.1)
    have HSy := hid (show W.heap.size < wr.heap.size ∧ wr.heap.size < w7.heap.size ∧ w8.heap.size = w7.heap.size + 1 ∧ w10.heap.size = w8.heap.size + 2 from by have := HBL.out; have := HS5.out; have := HSS6.out; have := HSS7.out; have := HS8.out; have := HS9.out; have := HS10.out; omega)
    have o0 := cell_in HO10.out 0 _ rfl
    have o1 := cell_in HO10.out 1 _ rfl
    have o2 := cell_in HO10.out 2 _ rfl
    have o3 := cell_in HO10.out 3 _ rfl
    have o4 := cell_in HO10.out 4 _ rfl
    have o5 := cell_in HO10.out 5 _ rfl
    have o6 := cell_in HO10.out 6 _ rfl
    have o7 := cell_in HO10.out 7 _ rfl
    have o8 := cell_in HO10.out 8 _ rfl
    have o9 := cell_in HO10.out 9 _ rfl
    have o10 := cell_in HO10.out 10 _ rfl
    have o11 := cell_in HO10.out 11 _ rfl
    have o12 := cell_in HO10.out 12 _ rfl
    have o13 := cell_in HO10.out 13 _ rfl
    have o14 := cell_in HO10.out 14 _ rfl
    have o15 := cell_in HO10.out 15 _ rfl
    have o16 := cell_in HO10.out 16 _ rfl
    have i0 := cell_in HI10.out 0 _ rfl
    have i1 := cell_in HI10.out 1 _ rfl
    have i2 := cell_in HI10.out 2 _ rfl
    have i3 := cell_in HI10.out 3 _ rfl
    have z0 := cell_in HZ10.out 0 _ rfl
    have z1 := cell_in HZ10.out 1 _ rfl
    have z2 := cell_in HZ10.out 2 _ rfl
    have z3 := cell_in HZ10.out 3 _ rfl
    cases hk1 : (kd == 1) with
    | true =>
      as_aux_lemma =>
          have HOKR := hid (addIndexM_ok HOKr.out.1 o.x o.name)
          have CD := hid (addIndex_any HIN10.out HSC.out HVB.out HNB.out (HX.out.old HB10.out) HLO.out.2.1 (by omega) o.name)
          have CRF : Hid (∀ V, Below W.heap.size W V → w10.heap.size ≤ V.heap.size → CatN (NB W.heap.size wr) V [.int .i64 C.ver, .int .i64 C.nxt, .slice a C.tabs.length c, .slice a' C.idxs.length c'] C → Calls Try.prog 26 #[.agg #[.int .i64 C.ver, .int .i64 C.nxt, .slice a C.tabs.length c, .slice a' C.idxs.length c'], .agg #[.int .i64 o.x.id, .int .i64 o.x.table, .string ⟨o.x.name.toArray⟩, .slice xa o.x.cols.length xc, .bool o.x.uniq, .int .i64 o.x.state, .bool o.x.bad], .string ⟨o.name.toArray⟩] V (ChP (NB W.heap.size wr) V (addIndexM C o.x o.name))) := hid (fun V hV hVs hC => rAddIndex_any hC (fun k hk => by have := hk.2; have := HSy.out; omega) HSC.out HVB.out HNB.out (HX.out.old hV) (fun k hk => by have e9 : k < W.heap.size := hk; have := hV.size; omega) HLO.out.2.1.2.2.1 (by omega) o.name)
          generalize addIndexM C o.x o.name = R at *
          go_upto_region 21 with (first | (go_at_call 25; refine CD.out.mono ?_; rintro en w11 ⟨vs, rfl, hb11, hc11⟩; obtain ⟨na, nc, nb, nd, rfl⟩ := cat_form hc11; have HB11 := hid (below_step HB10.out hb11); have HSS11 := hid hb11.size; have HZ11 := hid ((hb11.block _ (lt_of_block HZ10.out)).trans HZ10.out); have HO11 := hid ((hb11.block _ (lt_of_block HO10.out)).trans HO10.out); have HI11 := hid ((hb11.block _ (lt_of_block HI10.out)).trans HI10.out); have HN11 := hid ((hb11.block _ (lt_of_block HN10.out)).trans HN10.out); have HM11 := hid ((hb11.block _ (lt_of_block HM10.out)).trans HM10.out); have HC11 := hid (HC10.out.old hb11); have HIN11 := hid (HIN10.out.old hb11); have HNN11 := hid hc11; clear o0 o1 o2 o3 o4 o5 o6 o7 o8 o9 o10 o11 o12 o13 o14 o15 o16; clear i0 i1 i2 i3; clear z0 z1 z2 z3; have n0 := cell_in HN11.out 0 _ rfl; have n0f := free_in HN11.out 0; have n1 := cell_in HN11.out 1 _ rfl; have n1f := free_in HN11.out 1; have n2 := cell_in HN11.out 2 _ rfl; have n2f := free_in HN11.out 2; have n3 := cell_in HN11.out 3 _ rfl; have n3f := free_in HN11.out 3; clear hb11 hc11))
          obtain ⟨p1, p2⟩ := put4 HN11.out (.int .i64 R.1.ver) (.int .i64 R.1.nxt) (.slice na R.1.tabs.length nc) (.slice nb R.1.idxs.length nd)
          generalize (((w11.setCell ⟨w8.heap.size, 0, none⟩ (.int .i64 R.1.ver)).setCell ⟨w8.heap.size, 1, none⟩ (.int .i64 R.1.nxt)).setCell ⟨w8.heap.size, 2, none⟩ (.slice na R.1.tabs.length nc)).setCell ⟨w8.heap.size, 3, none⟩ (.slice nb R.1.idxs.length nd) = w12 at *
          have HN12 := hid p1
          have HK12 := hid p2
          clear p1 p2
          clear n0 n0f n1 n1f n2 n2f n3 n3f
          have HZ12 := hid ((HK12.out.block _ (lt_of_block HZ11.out) (fun e => by have e9 : W.heap.size = w8.heap.size := e; have := HSy.out; omega)).trans HZ11.out)
          have HO12 := hid ((HK12.out.block _ (lt_of_block HO11.out) (fun e => by have e9 : wr.heap.size = w8.heap.size := e; have := HSy.out; omega)).trans HO11.out)
          have HI12 := hid ((HK12.out.block _ (lt_of_block HI11.out) (fun e => by have e9 : w7.heap.size = w8.heap.size := e; have := HSy.out; omega)).trans HI11.out)
          have HM12 := hid ((HK12.out.block _ (lt_of_block HM11.out) (fun e => by have e9 : w8.heap.size + 1 = w8.heap.size := e; have := HSy.out; omega)).trans HM11.out)
          have HB12 : Hid (Below W.heap.size W w12) := hid (HB11.out.trans (HK12.out.below HB11.out.size (fun k e => by have e9 : k = w8.heap.size := e; have := HSy.out; omega)))
          have HC12 := hid (HC11.out.keep HK12.out (fun k e e9 => by have e8 : k = w8.heap.size := e9; have := e.2; have := HSy.out; omega))
          have HIN12 := hid (HIN11.out.keep HK12.out (fun k e e9 => by have e8 : k = w8.heap.size := e9; have := e.2; have := HSy.out; omega))
          have HNN12 := hid (HNN11.out.keep HK12.out (fun k e e9 => by have e8 : k = w8.heap.size := e9; have := e.1; have := HSy.out; omega))
          have CF := hid (CRF.out w12 HB12.out (by have := HSS11.out; have := HK12.out.size; omega) HC12.out)
          have o0 := cell_in HO12.out 0 _ rfl
          have o1 := cell_in HO12.out 1 _ rfl
          have o2 := cell_in HO12.out 2 _ rfl
          have o3 := cell_in HO12.out 3 _ rfl
          have o4 := cell_in HO12.out 4 _ rfl
          have o5 := cell_in HO12.out 5 _ rfl
          have o6 := cell_in HO12.out 6 _ rfl
          have o7 := cell_in HO12.out 7 _ rfl
          have o8 := cell_in HO12.out 8 _ rfl
          have o9 := cell_in HO12.out 9 _ rfl
          have o10 := cell_in HO12.out 10 _ rfl
          have o11 := cell_in HO12.out 11 _ rfl
          have o12 := cell_in HO12.out 12 _ rfl
          have o13 := cell_in HO12.out 13 _ rfl
          have o14 := cell_in HO12.out 14 _ rfl
          have o15 := cell_in HO12.out 15 _ rfl
          have o16 := cell_in HO12.out 16 _ rfl
          have z0 := cell_in HZ12.out 0 _ rfl
          have z1 := cell_in HZ12.out 1 _ rfl
          have z2 := cell_in HZ12.out 2 _ rfl
          have z3 := cell_in HZ12.out 3 _ rfl
          go_upto_region 28 with (first | (go_at_call 26; refine CF.out.mono ?_; rintro en w13 ⟨vs, rfl, hb13, hc13⟩; obtain ⟨ma, mc, mb, md, rfl⟩ := cat_form hc13; have HB13 := hid (below_step HB12.out hb13); have HSS13 := hid hb13.size; have HZ13 := hid ((hb13.block _ (lt_of_block HZ12.out)).trans HZ12.out); have HO13 := hid ((hb13.block _ (lt_of_block HO12.out)).trans HO12.out); have HI13 := hid ((hb13.block _ (lt_of_block HI12.out)).trans HI12.out); have HN13 := hid ((hb13.block _ (lt_of_block HN12.out)).trans HN12.out); have HM13 := hid ((hb13.block _ (lt_of_block HM12.out)).trans HM12.out); have HC13 := hid (HC12.out.old hb13); have HIN13 := hid (HIN12.out.old hb13); have HNN13 := hid (HNN12.out.old hb13); have HMM13 := hid hc13; clear o0 o1 o2 o3 o4 o5 o6 o7 o8 o9 o10 o11 o12 o13 o14 o15 o16; clear z0 z1 z2 z3; have m0 := cell_in HM13.out 0 _ rfl; have m0f := free_in HM13.out 0; have m1 := cell_in HM13.out 1 _ rfl; have m1f := free_in HM13.out 1; have m2 := cell_in HM13.out 2 _ rfl; have m2f := free_in HM13.out 2; have m3 := cell_in HM13.out 3 _ rfl; have m3f := free_in HM13.out 3; clear hb13 hc13))
          obtain ⟨p1, p2⟩ := put4 HM13.out (.int .i64 R.1.ver) (.int .i64 R.1.nxt) (.slice ma R.1.tabs.length mc) (.slice mb R.1.idxs.length md)
          generalize (((w13.setCell ⟨w8.heap.size + 1, 0, none⟩ (.int .i64 R.1.ver)).setCell ⟨w8.heap.size + 1, 1, none⟩ (.int .i64 R.1.nxt)).setCell ⟨w8.heap.size + 1, 2, none⟩ (.slice ma R.1.tabs.length mc)).setCell ⟨w8.heap.size + 1, 3, none⟩ (.slice mb R.1.idxs.length md) = w14 at *
          have HM14 := hid p1
          have HK14 := hid p2
          clear p1 p2
          clear m0 m0f m1 m1f m2 m2f m3 m3f
          have HSz := hid (show W.heap.size < wr.heap.size ∧ wr.heap.size < w7.heap.size ∧ w8.heap.size = w7.heap.size + 1 ∧ w10.heap.size = w8.heap.size + 2 ∧ w10.heap.size ≤ w11.heap.size ∧ w11.heap.size ≤ w12.heap.size ∧ w12.heap.size ≤ w13.heap.size from by have := HSy.out; have := HSS11.out; have := HK12.out.size; have := HSS13.out; omega)
          have HZ14 := hid ((HK14.out.block _ (lt_of_block HZ13.out) (fun e => by have e9 : W.heap.size = w8.heap.size + 1 := e; have := HSz.out; omega)).trans HZ13.out)
          have HI14 := hid ((HK14.out.block _ (lt_of_block HI13.out) (fun e => by have e9 : w7.heap.size = w8.heap.size + 1 := e; have := HSz.out; omega)).trans HI13.out)
          have HN14 := hid ((HK14.out.block _ (lt_of_block HN13.out) (fun e => by have e9 : w8.heap.size = w8.heap.size + 1 := e; have := HSz.out; omega)).trans HN13.out)
          have HB14 : Hid (Below W.heap.size W w14) := hid (HB13.out.trans (HK14.out.below HB13.out.size (fun k e => by have e9 : k = w8.heap.size + 1 := e; have := HSz.out; omega)))
          have HC14 := hid (HC13.out.keep HK14.out (fun k e e9 => by have e8 : k = w8.heap.size + 1 := e9; have := e.2; have := HSz.out; omega))
          have HIN14 := hid (HIN13.out.keep HK14.out (fun k e e9 => by have e8 : k = w8.heap.size + 1 := e9; have := e.2; have := HSz.out; omega))
          have HNN14 := hid (HNN13.out.keep HK14.out (fun k e e9 => by have e8 : k = w8.heap.size + 1 := e9; have := e.1; have := HSz.out; omega))
          have HMM14 := hid (HMM13.out.keep HK14.out (fun k e e9 => by have e8 : k = w8.heap.size + 1 := e9; have h9 := HSz.out; exact e.elim (fun e => by have := e.2; omega) (fun e => by have := e.1; omega)))
          have hne : (R.2 != R.2) = false := by simp
          have CQ1 := hid (cat_same HNN14.out HMM14.out)
          have z0 := cell_in HZ14.out 0 _ rfl
          have z1 := cell_in HZ14.out 1 _ rfl
          have z2 := cell_in HZ14.out 2 _ rfl
          have z3 := cell_in HZ14.out 3 _ rfl
          have i0 := cell_in HI14.out 0 _ rfl
          have i1 := cell_in HI14.out 1 _ rfl
          have i2 := cell_in HI14.out 2 _ rfl
          have i3 := cell_in HI14.out 3 _ rfl
          have n0 := cell_in HN14.out 0 _ rfl
          have n1 := cell_in HN14.out 1 _ rfl
          have n2 := cell_in HN14.out 2 _ rfl
          have n3 := cell_in HN14.out 3 _ rfl
          have m0 := cell_in HM14.out 0 _ rfl
          have m1 := cell_in HM14.out 1 _ rfl
          have m2 := cell_in HM14.out 2 _ rfl
          have m3 := cell_in HM14.out 3 _ rfl
          go_upto_region 7 with (first
            | (go_at_call 14; refine CQ1.out.mono ?_; rintro en w15 ⟨rfl, hb15⟩; have HB15 := hid (below_step HB14.out hb15); have HSS15 := hid hb15.size; have HZ15 := hid ((hb15.block _ (lt_of_block HZ14.out)).trans HZ14.out); have HI15 := hid ((hb15.block _ (lt_of_block HI14.out)).trans HI14.out); have HN15 := hid ((hb15.block _ (lt_of_block HN14.out)).trans HN14.out); have HM15 := hid ((hb15.block _ (lt_of_block HM14.out)).trans HM14.out); have HC15 := hid (HC14.out.old hb15); have HIN15 := hid (HIN14.out.old hb15); have HNN15 := hid (HNN14.out.old hb15); have HMM15 := hid (HMM14.out.old hb15); clear z0 z1 z2 z3; clear i0 i1 i2 i3; clear n0 n1 n2 n3; clear m0 m1 m2 m3; have z0 := cell_in HZ15.out 0 _ rfl; have z1 := cell_in HZ15.out 1 _ rfl; have z2 := cell_in HZ15.out 2 _ rfl; have z3 := cell_in HZ15.out 3 _ rfl; have i0 := cell_in HI15.out 0 _ rfl; have i1 := cell_in HI15.out 1 _ rfl; have i2 := cell_in HI15.out 2 _ rfl; have i3 := cell_in HI15.out 3 _ rfl; have n0 := cell_in HN15.out 0 _ rfl; have n1 := cell_in HN15.out 1 _ rfl; have n2 := cell_in HN15.out 2 _ rfl; have n3 := cell_in HN15.out 3 _ rfl; have m0 := cell_in HM15.out 0 _ rfl; have m1 := cell_in HM15.out 1 _ rfl; have m2 := cell_in HM15.out 2 _ rfl; have m3 := cell_in HM15.out 3 _ rfl; have CQ2 := hid (cat_same HIN15.out HC15.out); clear CQ1; clear hb15)
            | (go_at_call 14; refine CQ2.out.mono ?_; rintro en w16 ⟨rfl, hb16⟩; have HB16 := hid (below_step HB15.out hb16); have HSS16 := hid hb16.size; have HZ16 := hid ((hb16.block _ (lt_of_block HZ15.out)).trans HZ15.out); have HI16 := hid ((hb16.block _ (lt_of_block HI15.out)).trans HI15.out); have HN16 := hid ((hb16.block _ (lt_of_block HN15.out)).trans HN15.out); have HM16 := hid ((hb16.block _ (lt_of_block HM15.out)).trans HM15.out); have HC16 := hid (HC15.out.old hb16); have HIN16 := hid (HIN15.out.old hb16); have HNN16 := hid (HNN15.out.old hb16); have HMM16 := hid (HMM15.out.old hb16); clear z0 z1 z2 z3; clear i0 i1 i2 i3; clear n0 n1 n2 n3; clear m0 m1 m2 m3; have z0 := cell_in HZ16.out 0 _ rfl; have z1 := cell_in HZ16.out 1 _ rfl; have z2 := cell_in HZ16.out 2 _ rfl; have z3 := cell_in HZ16.out 3 _ rfl; have i0 := cell_in HI16.out 0 _ rfl; have i1 := cell_in HI16.out 1 _ rfl; have i2 := cell_in HI16.out 2 _ rfl; have i3 := cell_in HI16.out 3 _ rfl; have n0 := cell_in HN16.out 0 _ rfl; have n1 := cell_in HN16.out 1 _ rfl; have n2 := cell_in HN16.out 2 _ rfl; have n3 := cell_in HN16.out 3 _ rfl; have m0 := cell_in HM16.out 0 _ rfl; have m1 := cell_in HM16.out 1 _ rfl; have m2 := cell_in HM16.out 2 _ rfl; have m3 := cell_in HM16.out 3 _ rfl; have CQ3 := hid (right_any HNN16.out (catR_W HOKR.out.1 (by have := HOKR.out.2; have := HOKr.out.2; omega))); rw [(catR_iff R.1).2 HOKR.out.1] at CQ3; clear hb16)
            | (go_at_call 12; refine CQ3.out.mono ?_; rintro en w17 ⟨rfl, hb17⟩; have HB17 := hid (below_step HB16.out hb17); have HSS17 := hid hb17.size; have HZ17 := hid ((hb17.block _ (lt_of_block HZ16.out)).trans HZ16.out); have HI17 := hid ((hb17.block _ (lt_of_block HI16.out)).trans HI16.out); have HN17 := hid ((hb17.block _ (lt_of_block HN16.out)).trans HN16.out); have HM17 := hid ((hb17.block _ (lt_of_block HM16.out)).trans HM16.out); have HC17 := hid (HC16.out.old hb17); have HIN17 := hid (HIN16.out.old hb17); have HNN17 := hid (HNN16.out.old hb17); have HMM17 := hid (HMM16.out.old hb17); clear z0 z1 z2 z3; clear i0 i1 i2 i3; clear n0 n1 n2 n3; clear m0 m1 m2 m3; have z0 := cell_in HZ17.out 0 _ rfl; have z1 := cell_in HZ17.out 1 _ rfl; have z2 := cell_in HZ17.out 2 _ rfl; have z3 := cell_in HZ17.out 3 _ rfl; have i0 := cell_in HI17.out 0 _ rfl; have i1 := cell_in HI17.out 1 _ rfl; have i2 := cell_in HI17.out 2 _ rfl; have i3 := cell_in HI17.out 3 _ rfl; have n0 := cell_in HN17.out 0 _ rfl; have n1 := cell_in HN17.out 1 _ rfl; have n2 := cell_in HN17.out 2 _ rfl; have n3 := cell_in HN17.out 3 _ rfl; have m0 := cell_in HM17.out 0 _ rfl; have m1 := cell_in HM17.out 1 _ rfl; have m2 := cell_in HM17.out 2 _ rfl; have m3 := cell_in HM17.out 3 _ rfl; have CQ4 := hid (rCopy_any HMM17.out (fun k hk => by have h1 := HSz.out; have h2 := HK14.out.size; have h3 := HSS15.out; have h4 := HSS16.out; have h5 := HSS17.out; exact hk.elim (fun e => by have := e.2; omega) (fun e => by have := e.2; omega)) (catR_S HOKR.out.1)); clear hb17)
            | (go_at_call 11; refine CQ4.out.mono ?_; rintro en w18 ⟨vs, rfl, hb18, hc18⟩; obtain ⟨qa, qc, qb, qd, rfl⟩ := cat_form hc18.cat; have HB18 := hid (below_step HB17.out hb18); have HSS18 := hid hb18.size; have HZ18 := hid ((hb18.block _ (lt_of_block HZ17.out)).trans HZ17.out); have HR18 := hid hc18.cat; clear z0 z1 z2 z3; clear i0 i1 i2 i3; clear n0 n1 n2 n3; clear m0 m1 m2 m3; have z0 := cell_in HZ18.out 0 _ rfl; have z0f := free_in HZ18.out 0; have z1 := cell_in HZ18.out 1 _ rfl; have z1f := free_in HZ18.out 1; have z2 := cell_in HZ18.out 2 _ rfl; have z2f := free_in HZ18.out 2; have z3 := cell_in HZ18.out 3 _ rfl; have z3f := free_in HZ18.out 3; clear hb18 hc18))
          obtain ⟨p1, p2⟩ := put4 HZ18.out (.int .i64 R.1.ver) (.int .i64 R.1.nxt) (.slice qa R.1.tabs.length qc) (.slice qb R.1.idxs.length qd)
          generalize (((w18.setCell ⟨W.heap.size, 0, none⟩ (.int .i64 R.1.ver)).setCell ⟨W.heap.size, 1, none⟩ (.int .i64 R.1.nxt)).setCell ⟨W.heap.size, 2, none⟩ (.slice qa R.1.tabs.length qc)).setCell ⟨W.heap.size, 3, none⟩ (.slice qb R.1.idxs.length qd) = w19 at *
          clear z0 z0f z1 z1f z2 z2f z3 z3f
          go_wp2_with fail
          go_roundw
          case rel => exact ⟨k + 1, qa, qc, qb, qd, R.1, by omega, by go_num, by omega, hid p1, hid (HB18.out.trans (p2.below HB18.out.size (fun k e => by have e9 : k = W.heap.size := e; omega))), hid ((HR18.out.keep p2 (fun k e e9 => by have e8 : k = W.heap.size := e9; have := e.1; have := HSz.out; have := HK14.out.size; have := HSS15.out; have := HSS16.out; have := HSS17.out; omega)).mono (fun k e => ⟨by have := e.1; have := HSz.out; have := HK14.out.size; have := HSS15.out; have := HSS16.out; have := HSS17.out; omega, by have := e.2; have := p2.size; omega⟩)), hid ⟨HOKR.out.1, by have := HOKR.out.2; have := HOKr.out.2; omega⟩⟩
          case measure => simp [intOf]; omega
    | false =>
    cases hk2 : (kd == 2) with
    | true =>
      as_aux_lemma =>
          have HOKR := hid (dropM_ok HOKr.out.1 o.name)
          have CD := hid (drop_any HIN10.out HSC.out HVB.out HCB.out o.name)
          have CRF : Hid (∀ V, Below W.heap.size W V → w10.heap.size ≤ V.heap.size → CatN (NB W.heap.size wr) V [.int .i64 C.ver, .int .i64 C.nxt, .slice a C.tabs.length c, .slice a' C.idxs.length c'] C → Calls Try.prog 28 #[.agg #[.int .i64 C.ver, .int .i64 C.nxt, .slice a C.tabs.length c, .slice a' C.idxs.length c'], .string ⟨o.name.toArray⟩] V (ChP (NB W.heap.size wr) V (dropM C o.name))) := hid (fun V hV hVs hC => rDrop_any hC (fun k hk => by have := hk.2; have := HSy.out; omega) HSC.out HVB.out o.name)
          generalize dropM C o.name = R at *
          go_upto_region 24 with (first | (go_at_call 27; refine CD.out.mono ?_; rintro en w11 ⟨vs, rfl, hb11, hc11⟩; obtain ⟨na, nc, nb, nd, rfl⟩ := cat_form hc11; have HB11 := hid (below_step HB10.out hb11); have HSS11 := hid hb11.size; have HZ11 := hid ((hb11.block _ (lt_of_block HZ10.out)).trans HZ10.out); have HO11 := hid ((hb11.block _ (lt_of_block HO10.out)).trans HO10.out); have HI11 := hid ((hb11.block _ (lt_of_block HI10.out)).trans HI10.out); have HN11 := hid ((hb11.block _ (lt_of_block HN10.out)).trans HN10.out); have HM11 := hid ((hb11.block _ (lt_of_block HM10.out)).trans HM10.out); have HC11 := hid (HC10.out.old hb11); have HIN11 := hid (HIN10.out.old hb11); have HNN11 := hid hc11; clear o0 o1 o2 o3 o4 o5 o6 o7 o8 o9 o10 o11 o12 o13 o14 o15 o16; clear i0 i1 i2 i3; clear z0 z1 z2 z3; have n0 := cell_in HN11.out 0 _ rfl; have n0f := free_in HN11.out 0; have n1 := cell_in HN11.out 1 _ rfl; have n1f := free_in HN11.out 1; have n2 := cell_in HN11.out 2 _ rfl; have n2f := free_in HN11.out 2; have n3 := cell_in HN11.out 3 _ rfl; have n3f := free_in HN11.out 3; clear hb11 hc11))
          obtain ⟨p1, p2⟩ := put4 HN11.out (.int .i64 R.1.ver) (.int .i64 R.1.nxt) (.slice na R.1.tabs.length nc) (.slice nb R.1.idxs.length nd)
          generalize (((w11.setCell ⟨w8.heap.size, 0, none⟩ (.int .i64 R.1.ver)).setCell ⟨w8.heap.size, 1, none⟩ (.int .i64 R.1.nxt)).setCell ⟨w8.heap.size, 2, none⟩ (.slice na R.1.tabs.length nc)).setCell ⟨w8.heap.size, 3, none⟩ (.slice nb R.1.idxs.length nd) = w12 at *
          have HN12 := hid p1
          have HK12 := hid p2
          clear p1 p2
          clear n0 n0f n1 n1f n2 n2f n3 n3f
          have HZ12 := hid ((HK12.out.block _ (lt_of_block HZ11.out) (fun e => by have e9 : W.heap.size = w8.heap.size := e; have := HSy.out; omega)).trans HZ11.out)
          have HO12 := hid ((HK12.out.block _ (lt_of_block HO11.out) (fun e => by have e9 : wr.heap.size = w8.heap.size := e; have := HSy.out; omega)).trans HO11.out)
          have HI12 := hid ((HK12.out.block _ (lt_of_block HI11.out) (fun e => by have e9 : w7.heap.size = w8.heap.size := e; have := HSy.out; omega)).trans HI11.out)
          have HM12 := hid ((HK12.out.block _ (lt_of_block HM11.out) (fun e => by have e9 : w8.heap.size + 1 = w8.heap.size := e; have := HSy.out; omega)).trans HM11.out)
          have HB12 : Hid (Below W.heap.size W w12) := hid (HB11.out.trans (HK12.out.below HB11.out.size (fun k e => by have e9 : k = w8.heap.size := e; have := HSy.out; omega)))
          have HC12 := hid (HC11.out.keep HK12.out (fun k e e9 => by have e8 : k = w8.heap.size := e9; have := e.2; have := HSy.out; omega))
          have HIN12 := hid (HIN11.out.keep HK12.out (fun k e e9 => by have e8 : k = w8.heap.size := e9; have := e.2; have := HSy.out; omega))
          have HNN12 := hid (HNN11.out.keep HK12.out (fun k e e9 => by have e8 : k = w8.heap.size := e9; have := e.1; have := HSy.out; omega))
          have CF := hid (CRF.out w12 HB12.out (by have := HSS11.out; have := HK12.out.size; omega) HC12.out)
          have o0 := cell_in HO12.out 0 _ rfl
          have o1 := cell_in HO12.out 1 _ rfl
          have o2 := cell_in HO12.out 2 _ rfl
          have o3 := cell_in HO12.out 3 _ rfl
          have o4 := cell_in HO12.out 4 _ rfl
          have o5 := cell_in HO12.out 5 _ rfl
          have o6 := cell_in HO12.out 6 _ rfl
          have o7 := cell_in HO12.out 7 _ rfl
          have o8 := cell_in HO12.out 8 _ rfl
          have o9 := cell_in HO12.out 9 _ rfl
          have o10 := cell_in HO12.out 10 _ rfl
          have o11 := cell_in HO12.out 11 _ rfl
          have o12 := cell_in HO12.out 12 _ rfl
          have o13 := cell_in HO12.out 13 _ rfl
          have o14 := cell_in HO12.out 14 _ rfl
          have o15 := cell_in HO12.out 15 _ rfl
          have o16 := cell_in HO12.out 16 _ rfl
          have z0 := cell_in HZ12.out 0 _ rfl
          have z1 := cell_in HZ12.out 1 _ rfl
          have z2 := cell_in HZ12.out 2 _ rfl
          have z3 := cell_in HZ12.out 3 _ rfl
          go_upto_region 28 with (first | (go_at_call 28; refine CF.out.mono ?_; rintro en w13 ⟨vs, rfl, hb13, hc13⟩; obtain ⟨ma, mc, mb, md, rfl⟩ := cat_form hc13; have HB13 := hid (below_step HB12.out hb13); have HSS13 := hid hb13.size; have HZ13 := hid ((hb13.block _ (lt_of_block HZ12.out)).trans HZ12.out); have HO13 := hid ((hb13.block _ (lt_of_block HO12.out)).trans HO12.out); have HI13 := hid ((hb13.block _ (lt_of_block HI12.out)).trans HI12.out); have HN13 := hid ((hb13.block _ (lt_of_block HN12.out)).trans HN12.out); have HM13 := hid ((hb13.block _ (lt_of_block HM12.out)).trans HM12.out); have HC13 := hid (HC12.out.old hb13); have HIN13 := hid (HIN12.out.old hb13); have HNN13 := hid (HNN12.out.old hb13); have HMM13 := hid hc13; clear o0 o1 o2 o3 o4 o5 o6 o7 o8 o9 o10 o11 o12 o13 o14 o15 o16; clear z0 z1 z2 z3; have m0 := cell_in HM13.out 0 _ rfl; have m0f := free_in HM13.out 0; have m1 := cell_in HM13.out 1 _ rfl; have m1f := free_in HM13.out 1; have m2 := cell_in HM13.out 2 _ rfl; have m2f := free_in HM13.out 2; have m3 := cell_in HM13.out 3 _ rfl; have m3f := free_in HM13.out 3; clear hb13 hc13))
          obtain ⟨p1, p2⟩ := put4 HM13.out (.int .i64 R.1.ver) (.int .i64 R.1.nxt) (.slice ma R.1.tabs.length mc) (.slice mb R.1.idxs.length md)
          generalize (((w13.setCell ⟨w8.heap.size + 1, 0, none⟩ (.int .i64 R.1.ver)).setCell ⟨w8.heap.size + 1, 1, none⟩ (.int .i64 R.1.nxt)).setCell ⟨w8.heap.size + 1, 2, none⟩ (.slice ma R.1.tabs.length mc)).setCell ⟨w8.heap.size + 1, 3, none⟩ (.slice mb R.1.idxs.length md) = w14 at *
          have HM14 := hid p1
          have HK14 := hid p2
          clear p1 p2
          clear m0 m0f m1 m1f m2 m2f m3 m3f
          have HSz := hid (show W.heap.size < wr.heap.size ∧ wr.heap.size < w7.heap.size ∧ w8.heap.size = w7.heap.size + 1 ∧ w10.heap.size = w8.heap.size + 2 ∧ w10.heap.size ≤ w11.heap.size ∧ w11.heap.size ≤ w12.heap.size ∧ w12.heap.size ≤ w13.heap.size from by have := HSy.out; have := HSS11.out; have := HK12.out.size; have := HSS13.out; omega)
          have HZ14 := hid ((HK14.out.block _ (lt_of_block HZ13.out) (fun e => by have e9 : W.heap.size = w8.heap.size + 1 := e; have := HSz.out; omega)).trans HZ13.out)
          have HI14 := hid ((HK14.out.block _ (lt_of_block HI13.out) (fun e => by have e9 : w7.heap.size = w8.heap.size + 1 := e; have := HSz.out; omega)).trans HI13.out)
          have HN14 := hid ((HK14.out.block _ (lt_of_block HN13.out) (fun e => by have e9 : w8.heap.size = w8.heap.size + 1 := e; have := HSz.out; omega)).trans HN13.out)
          have HB14 : Hid (Below W.heap.size W w14) := hid (HB13.out.trans (HK14.out.below HB13.out.size (fun k e => by have e9 : k = w8.heap.size + 1 := e; have := HSz.out; omega)))
          have HC14 := hid (HC13.out.keep HK14.out (fun k e e9 => by have e8 : k = w8.heap.size + 1 := e9; have := e.2; have := HSz.out; omega))
          have HIN14 := hid (HIN13.out.keep HK14.out (fun k e e9 => by have e8 : k = w8.heap.size + 1 := e9; have := e.2; have := HSz.out; omega))
          have HNN14 := hid (HNN13.out.keep HK14.out (fun k e e9 => by have e8 : k = w8.heap.size + 1 := e9; have := e.1; have := HSz.out; omega))
          have HMM14 := hid (HMM13.out.keep HK14.out (fun k e e9 => by have e8 : k = w8.heap.size + 1 := e9; have h9 := HSz.out; exact e.elim (fun e => by have := e.2; omega) (fun e => by have := e.1; omega)))
          have hne : (R.2 != R.2) = false := by simp
          have CQ1 := hid (cat_same HNN14.out HMM14.out)
          have z0 := cell_in HZ14.out 0 _ rfl
          have z1 := cell_in HZ14.out 1 _ rfl
          have z2 := cell_in HZ14.out 2 _ rfl
          have z3 := cell_in HZ14.out 3 _ rfl
          have i0 := cell_in HI14.out 0 _ rfl
          have i1 := cell_in HI14.out 1 _ rfl
          have i2 := cell_in HI14.out 2 _ rfl
          have i3 := cell_in HI14.out 3 _ rfl
          have n0 := cell_in HN14.out 0 _ rfl
          have n1 := cell_in HN14.out 1 _ rfl
          have n2 := cell_in HN14.out 2 _ rfl
          have n3 := cell_in HN14.out 3 _ rfl
          have m0 := cell_in HM14.out 0 _ rfl
          have m1 := cell_in HM14.out 1 _ rfl
          have m2 := cell_in HM14.out 2 _ rfl
          have m3 := cell_in HM14.out 3 _ rfl
          go_upto_region 7 with (first
            | (go_at_call 14; refine CQ1.out.mono ?_; rintro en w15 ⟨rfl, hb15⟩; have HB15 := hid (below_step HB14.out hb15); have HSS15 := hid hb15.size; have HZ15 := hid ((hb15.block _ (lt_of_block HZ14.out)).trans HZ14.out); have HI15 := hid ((hb15.block _ (lt_of_block HI14.out)).trans HI14.out); have HN15 := hid ((hb15.block _ (lt_of_block HN14.out)).trans HN14.out); have HM15 := hid ((hb15.block _ (lt_of_block HM14.out)).trans HM14.out); have HC15 := hid (HC14.out.old hb15); have HIN15 := hid (HIN14.out.old hb15); have HNN15 := hid (HNN14.out.old hb15); have HMM15 := hid (HMM14.out.old hb15); clear z0 z1 z2 z3; clear i0 i1 i2 i3; clear n0 n1 n2 n3; clear m0 m1 m2 m3; have z0 := cell_in HZ15.out 0 _ rfl; have z1 := cell_in HZ15.out 1 _ rfl; have z2 := cell_in HZ15.out 2 _ rfl; have z3 := cell_in HZ15.out 3 _ rfl; have i0 := cell_in HI15.out 0 _ rfl; have i1 := cell_in HI15.out 1 _ rfl; have i2 := cell_in HI15.out 2 _ rfl; have i3 := cell_in HI15.out 3 _ rfl; have n0 := cell_in HN15.out 0 _ rfl; have n1 := cell_in HN15.out 1 _ rfl; have n2 := cell_in HN15.out 2 _ rfl; have n3 := cell_in HN15.out 3 _ rfl; have m0 := cell_in HM15.out 0 _ rfl; have m1 := cell_in HM15.out 1 _ rfl; have m2 := cell_in HM15.out 2 _ rfl; have m3 := cell_in HM15.out 3 _ rfl; have CQ2 := hid (cat_same HIN15.out HC15.out); clear CQ1; clear hb15)
            | (go_at_call 14; refine CQ2.out.mono ?_; rintro en w16 ⟨rfl, hb16⟩; have HB16 := hid (below_step HB15.out hb16); have HSS16 := hid hb16.size; have HZ16 := hid ((hb16.block _ (lt_of_block HZ15.out)).trans HZ15.out); have HI16 := hid ((hb16.block _ (lt_of_block HI15.out)).trans HI15.out); have HN16 := hid ((hb16.block _ (lt_of_block HN15.out)).trans HN15.out); have HM16 := hid ((hb16.block _ (lt_of_block HM15.out)).trans HM15.out); have HC16 := hid (HC15.out.old hb16); have HIN16 := hid (HIN15.out.old hb16); have HNN16 := hid (HNN15.out.old hb16); have HMM16 := hid (HMM15.out.old hb16); clear z0 z1 z2 z3; clear i0 i1 i2 i3; clear n0 n1 n2 n3; clear m0 m1 m2 m3; have z0 := cell_in HZ16.out 0 _ rfl; have z1 := cell_in HZ16.out 1 _ rfl; have z2 := cell_in HZ16.out 2 _ rfl; have z3 := cell_in HZ16.out 3 _ rfl; have i0 := cell_in HI16.out 0 _ rfl; have i1 := cell_in HI16.out 1 _ rfl; have i2 := cell_in HI16.out 2 _ rfl; have i3 := cell_in HI16.out 3 _ rfl; have n0 := cell_in HN16.out 0 _ rfl; have n1 := cell_in HN16.out 1 _ rfl; have n2 := cell_in HN16.out 2 _ rfl; have n3 := cell_in HN16.out 3 _ rfl; have m0 := cell_in HM16.out 0 _ rfl; have m1 := cell_in HM16.out 1 _ rfl; have m2 := cell_in HM16.out 2 _ rfl; have m3 := cell_in HM16.out 3 _ rfl; have CQ3 := hid (right_any HNN16.out (catR_W HOKR.out.1 (by have := HOKR.out.2; have := HOKr.out.2; omega))); rw [(catR_iff R.1).2 HOKR.out.1] at CQ3; clear hb16)
            | (go_at_call 12; refine CQ3.out.mono ?_; rintro en w17 ⟨rfl, hb17⟩; have HB17 := hid (below_step HB16.out hb17); have HSS17 := hid hb17.size; have HZ17 := hid ((hb17.block _ (lt_of_block HZ16.out)).trans HZ16.out); have HI17 := hid ((hb17.block _ (lt_of_block HI16.out)).trans HI16.out); have HN17 := hid ((hb17.block _ (lt_of_block HN16.out)).trans HN16.out); have HM17 := hid ((hb17.block _ (lt_of_block HM16.out)).trans HM16.out); have HC17 := hid (HC16.out.old hb17); have HIN17 := hid (HIN16.out.old hb17); have HNN17 := hid (HNN16.out.old hb17); have HMM17 := hid (HMM16.out.old hb17); clear z0 z1 z2 z3; clear i0 i1 i2 i3; clear n0 n1 n2 n3; clear m0 m1 m2 m3; have z0 := cell_in HZ17.out 0 _ rfl; have z1 := cell_in HZ17.out 1 _ rfl; have z2 := cell_in HZ17.out 2 _ rfl; have z3 := cell_in HZ17.out 3 _ rfl; have i0 := cell_in HI17.out 0 _ rfl; have i1 := cell_in HI17.out 1 _ rfl; have i2 := cell_in HI17.out 2 _ rfl; have i3 := cell_in HI17.out 3 _ rfl; have n0 := cell_in HN17.out 0 _ rfl; have n1 := cell_in HN17.out 1 _ rfl; have n2 := cell_in HN17.out 2 _ rfl; have n3 := cell_in HN17.out 3 _ rfl; have m0 := cell_in HM17.out 0 _ rfl; have m1 := cell_in HM17.out 1 _ rfl; have m2 := cell_in HM17.out 2 _ rfl; have m3 := cell_in HM17.out 3 _ rfl; have CQ4 := hid (rCopy_any HMM17.out (fun k hk => by have h1 := HSz.out; have h2 := HK14.out.size; have h3 := HSS15.out; have h4 := HSS16.out; have h5 := HSS17.out; exact hk.elim (fun e => by have := e.2; omega) (fun e => by have := e.2; omega)) (catR_S HOKR.out.1)); clear hb17)
            | (go_at_call 11; refine CQ4.out.mono ?_; rintro en w18 ⟨vs, rfl, hb18, hc18⟩; obtain ⟨qa, qc, qb, qd, rfl⟩ := cat_form hc18.cat; have HB18 := hid (below_step HB17.out hb18); have HSS18 := hid hb18.size; have HZ18 := hid ((hb18.block _ (lt_of_block HZ17.out)).trans HZ17.out); have HR18 := hid hc18.cat; clear z0 z1 z2 z3; clear i0 i1 i2 i3; clear n0 n1 n2 n3; clear m0 m1 m2 m3; have z0 := cell_in HZ18.out 0 _ rfl; have z0f := free_in HZ18.out 0; have z1 := cell_in HZ18.out 1 _ rfl; have z1f := free_in HZ18.out 1; have z2 := cell_in HZ18.out 2 _ rfl; have z2f := free_in HZ18.out 2; have z3 := cell_in HZ18.out 3 _ rfl; have z3f := free_in HZ18.out 3; clear hb18 hc18))
          obtain ⟨p1, p2⟩ := put4 HZ18.out (.int .i64 R.1.ver) (.int .i64 R.1.nxt) (.slice qa R.1.tabs.length qc) (.slice qb R.1.idxs.length qd)
          generalize (((w18.setCell ⟨W.heap.size, 0, none⟩ (.int .i64 R.1.ver)).setCell ⟨W.heap.size, 1, none⟩ (.int .i64 R.1.nxt)).setCell ⟨W.heap.size, 2, none⟩ (.slice qa R.1.tabs.length qc)).setCell ⟨W.heap.size, 3, none⟩ (.slice qb R.1.idxs.length qd) = w19 at *
          clear z0 z0f z1 z1f z2 z2f z3 z3f
          go_wp2_with fail
          go_roundw
          case rel => exact ⟨k + 1, qa, qc, qb, qd, R.1, by omega, by go_num, by omega, hid p1, hid (HB18.out.trans (p2.below HB18.out.size (fun k e => by have e9 : k = W.heap.size := e; omega))), hid ((HR18.out.keep p2 (fun k e e9 => by have e8 : k = W.heap.size := e9; have := e.1; have := HSz.out; have := HK14.out.size; have := HSS15.out; have := HSS16.out; have := HSS17.out; omega)).mono (fun k e => ⟨by have := e.1; have := HSz.out; have := HK14.out.size; have := HSS15.out; have := HSS16.out; have := HSS17.out; omega, by have := e.2; have := p2.size; omega⟩)), hid ⟨HOKR.out.1, by have := HOKR.out.2; have := HOKr.out.2; omega⟩⟩
          case measure => simp [intOf]; omega
    | false =>
    cases hk3 : (kd == 3) with
    | true =>
      as_aux_lemma =>
          have HOKR := hid (stepM_ok HOKr.out.1 id fr st o.bad)
          have CD := hid (step_any HIN10.out HSC.out HVB.out HCB.out id fr st o.bad)
          have CRF : Hid (∀ V, Below W.heap.size W V → w10.heap.size ≤ V.heap.size → CatN (NB W.heap.size wr) V [.int .i64 C.ver, .int .i64 C.nxt, .slice a C.tabs.length c, .slice a' C.idxs.length c'] C → Calls Try.prog 30 #[.agg #[.int .i64 C.ver, .int .i64 C.nxt, .slice a C.tabs.length c, .slice a' C.idxs.length c'], .int .i64 id, .int .i64 fr, .int .i64 st, .bool o.bad] V (ChP (NB W.heap.size wr) V (stepM C id fr st o.bad))) := hid (fun V hV hVs hC => rStep_any hC (fun k hk => by have := hk.2; have := HSy.out; omega) HSC.out HVB.out id fr st o.bad)
          generalize stepM C id fr st o.bad = R at *
          go_upto_region 27 with (first | (go_at_call 29; refine CD.out.mono ?_; rintro en w11 ⟨vs, rfl, hb11, hc11⟩; obtain ⟨na, nc, nb, nd, rfl⟩ := cat_form hc11; have HB11 := hid (below_step HB10.out hb11); have HSS11 := hid hb11.size; have HZ11 := hid ((hb11.block _ (lt_of_block HZ10.out)).trans HZ10.out); have HO11 := hid ((hb11.block _ (lt_of_block HO10.out)).trans HO10.out); have HI11 := hid ((hb11.block _ (lt_of_block HI10.out)).trans HI10.out); have HN11 := hid ((hb11.block _ (lt_of_block HN10.out)).trans HN10.out); have HM11 := hid ((hb11.block _ (lt_of_block HM10.out)).trans HM10.out); have HC11 := hid (HC10.out.old hb11); have HIN11 := hid (HIN10.out.old hb11); have HNN11 := hid hc11; clear o0 o1 o2 o3 o4 o5 o6 o7 o8 o9 o10 o11 o12 o13 o14 o15 o16; clear i0 i1 i2 i3; clear z0 z1 z2 z3; have n0 := cell_in HN11.out 0 _ rfl; have n0f := free_in HN11.out 0; have n1 := cell_in HN11.out 1 _ rfl; have n1f := free_in HN11.out 1; have n2 := cell_in HN11.out 2 _ rfl; have n2f := free_in HN11.out 2; have n3 := cell_in HN11.out 3 _ rfl; have n3f := free_in HN11.out 3; clear hb11 hc11))
          obtain ⟨p1, p2⟩ := put4 HN11.out (.int .i64 R.1.ver) (.int .i64 R.1.nxt) (.slice na R.1.tabs.length nc) (.slice nb R.1.idxs.length nd)
          generalize (((w11.setCell ⟨w8.heap.size, 0, none⟩ (.int .i64 R.1.ver)).setCell ⟨w8.heap.size, 1, none⟩ (.int .i64 R.1.nxt)).setCell ⟨w8.heap.size, 2, none⟩ (.slice na R.1.tabs.length nc)).setCell ⟨w8.heap.size, 3, none⟩ (.slice nb R.1.idxs.length nd) = w12 at *
          have HN12 := hid p1
          have HK12 := hid p2
          clear p1 p2
          clear n0 n0f n1 n1f n2 n2f n3 n3f
          have HZ12 := hid ((HK12.out.block _ (lt_of_block HZ11.out) (fun e => by have e9 : W.heap.size = w8.heap.size := e; have := HSy.out; omega)).trans HZ11.out)
          have HO12 := hid ((HK12.out.block _ (lt_of_block HO11.out) (fun e => by have e9 : wr.heap.size = w8.heap.size := e; have := HSy.out; omega)).trans HO11.out)
          have HI12 := hid ((HK12.out.block _ (lt_of_block HI11.out) (fun e => by have e9 : w7.heap.size = w8.heap.size := e; have := HSy.out; omega)).trans HI11.out)
          have HM12 := hid ((HK12.out.block _ (lt_of_block HM11.out) (fun e => by have e9 : w8.heap.size + 1 = w8.heap.size := e; have := HSy.out; omega)).trans HM11.out)
          have HB12 : Hid (Below W.heap.size W w12) := hid (HB11.out.trans (HK12.out.below HB11.out.size (fun k e => by have e9 : k = w8.heap.size := e; have := HSy.out; omega)))
          have HC12 := hid (HC11.out.keep HK12.out (fun k e e9 => by have e8 : k = w8.heap.size := e9; have := e.2; have := HSy.out; omega))
          have HIN12 := hid (HIN11.out.keep HK12.out (fun k e e9 => by have e8 : k = w8.heap.size := e9; have := e.2; have := HSy.out; omega))
          have HNN12 := hid (HNN11.out.keep HK12.out (fun k e e9 => by have e8 : k = w8.heap.size := e9; have := e.1; have := HSy.out; omega))
          have CF := hid (CRF.out w12 HB12.out (by have := HSS11.out; have := HK12.out.size; omega) HC12.out)
          have o0 := cell_in HO12.out 0 _ rfl
          have o1 := cell_in HO12.out 1 _ rfl
          have o2 := cell_in HO12.out 2 _ rfl
          have o3 := cell_in HO12.out 3 _ rfl
          have o4 := cell_in HO12.out 4 _ rfl
          have o5 := cell_in HO12.out 5 _ rfl
          have o6 := cell_in HO12.out 6 _ rfl
          have o7 := cell_in HO12.out 7 _ rfl
          have o8 := cell_in HO12.out 8 _ rfl
          have o9 := cell_in HO12.out 9 _ rfl
          have o10 := cell_in HO12.out 10 _ rfl
          have o11 := cell_in HO12.out 11 _ rfl
          have o12 := cell_in HO12.out 12 _ rfl
          have o13 := cell_in HO12.out 13 _ rfl
          have o14 := cell_in HO12.out 14 _ rfl
          have o15 := cell_in HO12.out 15 _ rfl
          have o16 := cell_in HO12.out 16 _ rfl
          have z0 := cell_in HZ12.out 0 _ rfl
          have z1 := cell_in HZ12.out 1 _ rfl
          have z2 := cell_in HZ12.out 2 _ rfl
          have z3 := cell_in HZ12.out 3 _ rfl
          go_upto_region 28 with (first | (go_at_call 30; refine CF.out.mono ?_; rintro en w13 ⟨vs, rfl, hb13, hc13⟩; obtain ⟨ma, mc, mb, md, rfl⟩ := cat_form hc13; have HB13 := hid (below_step HB12.out hb13); have HSS13 := hid hb13.size; have HZ13 := hid ((hb13.block _ (lt_of_block HZ12.out)).trans HZ12.out); have HO13 := hid ((hb13.block _ (lt_of_block HO12.out)).trans HO12.out); have HI13 := hid ((hb13.block _ (lt_of_block HI12.out)).trans HI12.out); have HN13 := hid ((hb13.block _ (lt_of_block HN12.out)).trans HN12.out); have HM13 := hid ((hb13.block _ (lt_of_block HM12.out)).trans HM12.out); have HC13 := hid (HC12.out.old hb13); have HIN13 := hid (HIN12.out.old hb13); have HNN13 := hid (HNN12.out.old hb13); have HMM13 := hid hc13; clear o0 o1 o2 o3 o4 o5 o6 o7 o8 o9 o10 o11 o12 o13 o14 o15 o16; clear z0 z1 z2 z3; have m0 := cell_in HM13.out 0 _ rfl; have m0f := free_in HM13.out 0; have m1 := cell_in HM13.out 1 _ rfl; have m1f := free_in HM13.out 1; have m2 := cell_in HM13.out 2 _ rfl; have m2f := free_in HM13.out 2; have m3 := cell_in HM13.out 3 _ rfl; have m3f := free_in HM13.out 3; clear hb13 hc13))
          obtain ⟨p1, p2⟩ := put4 HM13.out (.int .i64 R.1.ver) (.int .i64 R.1.nxt) (.slice ma R.1.tabs.length mc) (.slice mb R.1.idxs.length md)
          generalize (((w13.setCell ⟨w8.heap.size + 1, 0, none⟩ (.int .i64 R.1.ver)).setCell ⟨w8.heap.size + 1, 1, none⟩ (.int .i64 R.1.nxt)).setCell ⟨w8.heap.size + 1, 2, none⟩ (.slice ma R.1.tabs.length mc)).setCell ⟨w8.heap.size + 1, 3, none⟩ (.slice mb R.1.idxs.length md) = w14 at *
          have HM14 := hid p1
          have HK14 := hid p2
          clear p1 p2
          clear m0 m0f m1 m1f m2 m2f m3 m3f
          have HSz := hid (show W.heap.size < wr.heap.size ∧ wr.heap.size < w7.heap.size ∧ w8.heap.size = w7.heap.size + 1 ∧ w10.heap.size = w8.heap.size + 2 ∧ w10.heap.size ≤ w11.heap.size ∧ w11.heap.size ≤ w12.heap.size ∧ w12.heap.size ≤ w13.heap.size from by have := HSy.out; have := HSS11.out; have := HK12.out.size; have := HSS13.out; omega)
          have HZ14 := hid ((HK14.out.block _ (lt_of_block HZ13.out) (fun e => by have e9 : W.heap.size = w8.heap.size + 1 := e; have := HSz.out; omega)).trans HZ13.out)
          have HI14 := hid ((HK14.out.block _ (lt_of_block HI13.out) (fun e => by have e9 : w7.heap.size = w8.heap.size + 1 := e; have := HSz.out; omega)).trans HI13.out)
          have HN14 := hid ((HK14.out.block _ (lt_of_block HN13.out) (fun e => by have e9 : w8.heap.size = w8.heap.size + 1 := e; have := HSz.out; omega)).trans HN13.out)
          have HB14 : Hid (Below W.heap.size W w14) := hid (HB13.out.trans (HK14.out.below HB13.out.size (fun k e => by have e9 : k = w8.heap.size + 1 := e; have := HSz.out; omega)))
          have HC14 := hid (HC13.out.keep HK14.out (fun k e e9 => by have e8 : k = w8.heap.size + 1 := e9; have := e.2; have := HSz.out; omega))
          have HIN14 := hid (HIN13.out.keep HK14.out (fun k e e9 => by have e8 : k = w8.heap.size + 1 := e9; have := e.2; have := HSz.out; omega))
          have HNN14 := hid (HNN13.out.keep HK14.out (fun k e e9 => by have e8 : k = w8.heap.size + 1 := e9; have := e.1; have := HSz.out; omega))
          have HMM14 := hid (HMM13.out.keep HK14.out (fun k e e9 => by have e8 : k = w8.heap.size + 1 := e9; have h9 := HSz.out; exact e.elim (fun e => by have := e.2; omega) (fun e => by have := e.1; omega)))
          have hne : (R.2 != R.2) = false := by simp
          have CQ1 := hid (cat_same HNN14.out HMM14.out)
          have z0 := cell_in HZ14.out 0 _ rfl
          have z1 := cell_in HZ14.out 1 _ rfl
          have z2 := cell_in HZ14.out 2 _ rfl
          have z3 := cell_in HZ14.out 3 _ rfl
          have i0 := cell_in HI14.out 0 _ rfl
          have i1 := cell_in HI14.out 1 _ rfl
          have i2 := cell_in HI14.out 2 _ rfl
          have i3 := cell_in HI14.out 3 _ rfl
          have n0 := cell_in HN14.out 0 _ rfl
          have n1 := cell_in HN14.out 1 _ rfl
          have n2 := cell_in HN14.out 2 _ rfl
          have n3 := cell_in HN14.out 3 _ rfl
          have m0 := cell_in HM14.out 0 _ rfl
          have m1 := cell_in HM14.out 1 _ rfl
          have m2 := cell_in HM14.out 2 _ rfl
          have m3 := cell_in HM14.out 3 _ rfl
          go_upto_region 7 with (first
            | (go_at_call 14; refine CQ1.out.mono ?_; rintro en w15 ⟨rfl, hb15⟩; have HB15 := hid (below_step HB14.out hb15); have HSS15 := hid hb15.size; have HZ15 := hid ((hb15.block _ (lt_of_block HZ14.out)).trans HZ14.out); have HI15 := hid ((hb15.block _ (lt_of_block HI14.out)).trans HI14.out); have HN15 := hid ((hb15.block _ (lt_of_block HN14.out)).trans HN14.out); have HM15 := hid ((hb15.block _ (lt_of_block HM14.out)).trans HM14.out); have HC15 := hid (HC14.out.old hb15); have HIN15 := hid (HIN14.out.old hb15); have HNN15 := hid (HNN14.out.old hb15); have HMM15 := hid (HMM14.out.old hb15); clear z0 z1 z2 z3; clear i0 i1 i2 i3; clear n0 n1 n2 n3; clear m0 m1 m2 m3; have z0 := cell_in HZ15.out 0 _ rfl; have z1 := cell_in HZ15.out 1 _ rfl; have z2 := cell_in HZ15.out 2 _ rfl; have z3 := cell_in HZ15.out 3 _ rfl; have i0 := cell_in HI15.out 0 _ rfl; have i1 := cell_in HI15.out 1 _ rfl; have i2 := cell_in HI15.out 2 _ rfl; have i3 := cell_in HI15.out 3 _ rfl; have n0 := cell_in HN15.out 0 _ rfl; have n1 := cell_in HN15.out 1 _ rfl; have n2 := cell_in HN15.out 2 _ rfl; have n3 := cell_in HN15.out 3 _ rfl; have m0 := cell_in HM15.out 0 _ rfl; have m1 := cell_in HM15.out 1 _ rfl; have m2 := cell_in HM15.out 2 _ rfl; have m3 := cell_in HM15.out 3 _ rfl; have CQ2 := hid (cat_same HIN15.out HC15.out); clear CQ1; clear hb15)
            | (go_at_call 14; refine CQ2.out.mono ?_; rintro en w16 ⟨rfl, hb16⟩; have HB16 := hid (below_step HB15.out hb16); have HSS16 := hid hb16.size; have HZ16 := hid ((hb16.block _ (lt_of_block HZ15.out)).trans HZ15.out); have HI16 := hid ((hb16.block _ (lt_of_block HI15.out)).trans HI15.out); have HN16 := hid ((hb16.block _ (lt_of_block HN15.out)).trans HN15.out); have HM16 := hid ((hb16.block _ (lt_of_block HM15.out)).trans HM15.out); have HC16 := hid (HC15.out.old hb16); have HIN16 := hid (HIN15.out.old hb16); have HNN16 := hid (HNN15.out.old hb16); have HMM16 := hid (HMM15.out.old hb16); clear z0 z1 z2 z3; clear i0 i1 i2 i3; clear n0 n1 n2 n3; clear m0 m1 m2 m3; have z0 := cell_in HZ16.out 0 _ rfl; have z1 := cell_in HZ16.out 1 _ rfl; have z2 := cell_in HZ16.out 2 _ rfl; have z3 := cell_in HZ16.out 3 _ rfl; have i0 := cell_in HI16.out 0 _ rfl; have i1 := cell_in HI16.out 1 _ rfl; have i2 := cell_in HI16.out 2 _ rfl; have i3 := cell_in HI16.out 3 _ rfl; have n0 := cell_in HN16.out 0 _ rfl; have n1 := cell_in HN16.out 1 _ rfl; have n2 := cell_in HN16.out 2 _ rfl; have n3 := cell_in HN16.out 3 _ rfl; have m0 := cell_in HM16.out 0 _ rfl; have m1 := cell_in HM16.out 1 _ rfl; have m2 := cell_in HM16.out 2 _ rfl; have m3 := cell_in HM16.out 3 _ rfl; have CQ3 := hid (right_any HNN16.out (catR_W HOKR.out.1 (by have := HOKR.out.2; have := HOKr.out.2; omega))); rw [(catR_iff R.1).2 HOKR.out.1] at CQ3; clear hb16)
            | (go_at_call 12; refine CQ3.out.mono ?_; rintro en w17 ⟨rfl, hb17⟩; have HB17 := hid (below_step HB16.out hb17); have HSS17 := hid hb17.size; have HZ17 := hid ((hb17.block _ (lt_of_block HZ16.out)).trans HZ16.out); have HI17 := hid ((hb17.block _ (lt_of_block HI16.out)).trans HI16.out); have HN17 := hid ((hb17.block _ (lt_of_block HN16.out)).trans HN16.out); have HM17 := hid ((hb17.block _ (lt_of_block HM16.out)).trans HM16.out); have HC17 := hid (HC16.out.old hb17); have HIN17 := hid (HIN16.out.old hb17); have HNN17 := hid (HNN16.out.old hb17); have HMM17 := hid (HMM16.out.old hb17); clear z0 z1 z2 z3; clear i0 i1 i2 i3; clear n0 n1 n2 n3; clear m0 m1 m2 m3; have z0 := cell_in HZ17.out 0 _ rfl; have z1 := cell_in HZ17.out 1 _ rfl; have z2 := cell_in HZ17.out 2 _ rfl; have z3 := cell_in HZ17.out 3 _ rfl; have i0 := cell_in HI17.out 0 _ rfl; have i1 := cell_in HI17.out 1 _ rfl; have i2 := cell_in HI17.out 2 _ rfl; have i3 := cell_in HI17.out 3 _ rfl; have n0 := cell_in HN17.out 0 _ rfl; have n1 := cell_in HN17.out 1 _ rfl; have n2 := cell_in HN17.out 2 _ rfl; have n3 := cell_in HN17.out 3 _ rfl; have m0 := cell_in HM17.out 0 _ rfl; have m1 := cell_in HM17.out 1 _ rfl; have m2 := cell_in HM17.out 2 _ rfl; have m3 := cell_in HM17.out 3 _ rfl; have CQ4 := hid (rCopy_any HMM17.out (fun k hk => by have h1 := HSz.out; have h2 := HK14.out.size; have h3 := HSS15.out; have h4 := HSS16.out; have h5 := HSS17.out; exact hk.elim (fun e => by have := e.2; omega) (fun e => by have := e.2; omega)) (catR_S HOKR.out.1)); clear hb17)
            | (go_at_call 11; refine CQ4.out.mono ?_; rintro en w18 ⟨vs, rfl, hb18, hc18⟩; obtain ⟨qa, qc, qb, qd, rfl⟩ := cat_form hc18.cat; have HB18 := hid (below_step HB17.out hb18); have HSS18 := hid hb18.size; have HZ18 := hid ((hb18.block _ (lt_of_block HZ17.out)).trans HZ17.out); have HR18 := hid hc18.cat; clear z0 z1 z2 z3; clear i0 i1 i2 i3; clear n0 n1 n2 n3; clear m0 m1 m2 m3; have z0 := cell_in HZ18.out 0 _ rfl; have z0f := free_in HZ18.out 0; have z1 := cell_in HZ18.out 1 _ rfl; have z1f := free_in HZ18.out 1; have z2 := cell_in HZ18.out 2 _ rfl; have z2f := free_in HZ18.out 2; have z3 := cell_in HZ18.out 3 _ rfl; have z3f := free_in HZ18.out 3; clear hb18 hc18))
          obtain ⟨p1, p2⟩ := put4 HZ18.out (.int .i64 R.1.ver) (.int .i64 R.1.nxt) (.slice qa R.1.tabs.length qc) (.slice qb R.1.idxs.length qd)
          generalize (((w18.setCell ⟨W.heap.size, 0, none⟩ (.int .i64 R.1.ver)).setCell ⟨W.heap.size, 1, none⟩ (.int .i64 R.1.nxt)).setCell ⟨W.heap.size, 2, none⟩ (.slice qa R.1.tabs.length qc)).setCell ⟨W.heap.size, 3, none⟩ (.slice qb R.1.idxs.length qd) = w19 at *
          clear z0 z0f z1 z1f z2 z2f z3 z3f
          go_wp2_with fail
          go_roundw
          case rel => exact ⟨k + 1, qa, qc, qb, qd, R.1, by omega, by go_num, by omega, hid p1, hid (HB18.out.trans (p2.below HB18.out.size (fun k e => by have e9 : k = W.heap.size := e; omega))), hid ((HR18.out.keep p2 (fun k e e9 => by have e8 : k = W.heap.size := e9; have := e.1; have := HSz.out; have := HK14.out.size; have := HSS15.out; have := HSS16.out; have := HSS17.out; omega)).mono (fun k e => ⟨by have := e.1; have := HSz.out; have := HK14.out.size; have := HSS15.out; have := HSS16.out; have := HSS17.out; omega, by have := e.2; have := p2.size; omega⟩)), hid ⟨HOKR.out.1, by have := HOKR.out.2; have := HOKr.out.2; omega⟩⟩
          case measure => simp [intOf]; omega
    | false =>
    as_aux_lemma =>
      have HOKR := hid (addTableM_ok HOKr.out.1 o.t)
      have CD := hid (addTable_any HIN10.out HSC.out HVB.out HNB.out (HT.out.old HB10.out) HLO.out.1 ⟨by omega, by omega⟩)
      have CRF : Hid (∀ V, Below W.heap.size W V → w10.heap.size ≤ V.heap.size → CatN (NB W.heap.size wr) V [.int .i64 C.ver, .int .i64 C.nxt, .slice a C.tabs.length c, .slice a' C.idxs.length c'] C → Calls Try.prog 32 #[.agg #[.int .i64 C.ver, .int .i64 C.nxt, .slice a C.tabs.length c, .slice a' C.idxs.length c'], .agg #[.int .i64 o.t.id, .string ⟨o.t.name.toArray⟩, .slice ta o.t.cols.length tc, .slice tb o.t.key.length td]] V (ChP (NB W.heap.size wr) V (addTableM C o.t))) := hid (fun V hV hVs hC => rAddTable_any hC (fun k hk => by have := hk.2; have := HSy.out; omega) HSC.out HVB.out HNB.out (HT.out.old hV) (fun k hk => by have e9 : k < W.heap.size := hk; have := hV.size; omega) HLO.out.1 ⟨by omega, by omega⟩)
      generalize addTableM C o.t = R at *
      go_upto_region 18 with (first | (go_at_call 31; refine CD.out.mono ?_; rintro en w11 ⟨vs, rfl, hb11, hc11⟩; obtain ⟨na, nc, nb, nd, rfl⟩ := cat_form hc11; have HB11 := hid (below_step HB10.out hb11); have HSS11 := hid hb11.size; have HZ11 := hid ((hb11.block _ (lt_of_block HZ10.out)).trans HZ10.out); have HO11 := hid ((hb11.block _ (lt_of_block HO10.out)).trans HO10.out); have HI11 := hid ((hb11.block _ (lt_of_block HI10.out)).trans HI10.out); have HN11 := hid ((hb11.block _ (lt_of_block HN10.out)).trans HN10.out); have HM11 := hid ((hb11.block _ (lt_of_block HM10.out)).trans HM10.out); have HC11 := hid (HC10.out.old hb11); have HIN11 := hid (HIN10.out.old hb11); have HNN11 := hid hc11; clear o0 o1 o2 o3 o4 o5 o6 o7 o8 o9 o10 o11 o12 o13 o14 o15 o16; clear i0 i1 i2 i3; clear z0 z1 z2 z3; have n0 := cell_in HN11.out 0 _ rfl; have n0f := free_in HN11.out 0; have n1 := cell_in HN11.out 1 _ rfl; have n1f := free_in HN11.out 1; have n2 := cell_in HN11.out 2 _ rfl; have n2f := free_in HN11.out 2; have n3 := cell_in HN11.out 3 _ rfl; have n3f := free_in HN11.out 3; clear hb11 hc11))
      obtain ⟨p1, p2⟩ := put4 HN11.out (.int .i64 R.1.ver) (.int .i64 R.1.nxt) (.slice na R.1.tabs.length nc) (.slice nb R.1.idxs.length nd)
      generalize (((w11.setCell ⟨w8.heap.size, 0, none⟩ (.int .i64 R.1.ver)).setCell ⟨w8.heap.size, 1, none⟩ (.int .i64 R.1.nxt)).setCell ⟨w8.heap.size, 2, none⟩ (.slice na R.1.tabs.length nc)).setCell ⟨w8.heap.size, 3, none⟩ (.slice nb R.1.idxs.length nd) = w12 at *
      have HN12 := hid p1
      have HK12 := hid p2
      clear p1 p2
      clear n0 n0f n1 n1f n2 n2f n3 n3f
      have HZ12 := hid ((HK12.out.block _ (lt_of_block HZ11.out) (fun e => by have e9 : W.heap.size = w8.heap.size := e; have := HSy.out; omega)).trans HZ11.out)
      have HO12 := hid ((HK12.out.block _ (lt_of_block HO11.out) (fun e => by have e9 : wr.heap.size = w8.heap.size := e; have := HSy.out; omega)).trans HO11.out)
      have HI12 := hid ((HK12.out.block _ (lt_of_block HI11.out) (fun e => by have e9 : w7.heap.size = w8.heap.size := e; have := HSy.out; omega)).trans HI11.out)
      have HM12 := hid ((HK12.out.block _ (lt_of_block HM11.out) (fun e => by have e9 : w8.heap.size + 1 = w8.heap.size := e; have := HSy.out; omega)).trans HM11.out)
      have HB12 : Hid (Below W.heap.size W w12) := hid (HB11.out.trans (HK12.out.below HB11.out.size (fun k e => by have e9 : k = w8.heap.size := e; have := HSy.out; omega)))
      have HC12 := hid (HC11.out.keep HK12.out (fun k e e9 => by have e8 : k = w8.heap.size := e9; have := e.2; have := HSy.out; omega))
      have HIN12 := hid (HIN11.out.keep HK12.out (fun k e e9 => by have e8 : k = w8.heap.size := e9; have := e.2; have := HSy.out; omega))
      have HNN12 := hid (HNN11.out.keep HK12.out (fun k e e9 => by have e8 : k = w8.heap.size := e9; have := e.1; have := HSy.out; omega))
      have CF := hid (CRF.out w12 HB12.out (by have := HSS11.out; have := HK12.out.size; omega) HC12.out)
      have o0 := cell_in HO12.out 0 _ rfl
      have o1 := cell_in HO12.out 1 _ rfl
      have o2 := cell_in HO12.out 2 _ rfl
      have o3 := cell_in HO12.out 3 _ rfl
      have o4 := cell_in HO12.out 4 _ rfl
      have o5 := cell_in HO12.out 5 _ rfl
      have o6 := cell_in HO12.out 6 _ rfl
      have o7 := cell_in HO12.out 7 _ rfl
      have o8 := cell_in HO12.out 8 _ rfl
      have o9 := cell_in HO12.out 9 _ rfl
      have o10 := cell_in HO12.out 10 _ rfl
      have o11 := cell_in HO12.out 11 _ rfl
      have o12 := cell_in HO12.out 12 _ rfl
      have o13 := cell_in HO12.out 13 _ rfl
      have o14 := cell_in HO12.out 14 _ rfl
      have o15 := cell_in HO12.out 15 _ rfl
      have o16 := cell_in HO12.out 16 _ rfl
      have z0 := cell_in HZ12.out 0 _ rfl
      have z1 := cell_in HZ12.out 1 _ rfl
      have z2 := cell_in HZ12.out 2 _ rfl
      have z3 := cell_in HZ12.out 3 _ rfl
      go_upto_region 28 with (first | (go_at_call 32; refine CF.out.mono ?_; rintro en w13 ⟨vs, rfl, hb13, hc13⟩; obtain ⟨ma, mc, mb, md, rfl⟩ := cat_form hc13; have HB13 := hid (below_step HB12.out hb13); have HSS13 := hid hb13.size; have HZ13 := hid ((hb13.block _ (lt_of_block HZ12.out)).trans HZ12.out); have HO13 := hid ((hb13.block _ (lt_of_block HO12.out)).trans HO12.out); have HI13 := hid ((hb13.block _ (lt_of_block HI12.out)).trans HI12.out); have HN13 := hid ((hb13.block _ (lt_of_block HN12.out)).trans HN12.out); have HM13 := hid ((hb13.block _ (lt_of_block HM12.out)).trans HM12.out); have HC13 := hid (HC12.out.old hb13); have HIN13 := hid (HIN12.out.old hb13); have HNN13 := hid (HNN12.out.old hb13); have HMM13 := hid hc13; clear o0 o1 o2 o3 o4 o5 o6 o7 o8 o9 o10 o11 o12 o13 o14 o15 o16; clear z0 z1 z2 z3; have m0 := cell_in HM13.out 0 _ rfl; have m0f := free_in HM13.out 0; have m1 := cell_in HM13.out 1 _ rfl; have m1f := free_in HM13.out 1; have m2 := cell_in HM13.out 2 _ rfl; have m2f := free_in HM13.out 2; have m3 := cell_in HM13.out 3 _ rfl; have m3f := free_in HM13.out 3; clear hb13 hc13))
      obtain ⟨p1, p2⟩ := put4 HM13.out (.int .i64 R.1.ver) (.int .i64 R.1.nxt) (.slice ma R.1.tabs.length mc) (.slice mb R.1.idxs.length md)
      generalize (((w13.setCell ⟨w8.heap.size + 1, 0, none⟩ (.int .i64 R.1.ver)).setCell ⟨w8.heap.size + 1, 1, none⟩ (.int .i64 R.1.nxt)).setCell ⟨w8.heap.size + 1, 2, none⟩ (.slice ma R.1.tabs.length mc)).setCell ⟨w8.heap.size + 1, 3, none⟩ (.slice mb R.1.idxs.length md) = w14 at *
      have HM14 := hid p1
      have HK14 := hid p2
      clear p1 p2
      clear m0 m0f m1 m1f m2 m2f m3 m3f
      have HSz := hid (show W.heap.size < wr.heap.size ∧ wr.heap.size < w7.heap.size ∧ w8.heap.size = w7.heap.size + 1 ∧ w10.heap.size = w8.heap.size + 2 ∧ w10.heap.size ≤ w11.heap.size ∧ w11.heap.size ≤ w12.heap.size ∧ w12.heap.size ≤ w13.heap.size from by have := HSy.out; have := HSS11.out; have := HK12.out.size; have := HSS13.out; omega)
      have HZ14 := hid ((HK14.out.block _ (lt_of_block HZ13.out) (fun e => by have e9 : W.heap.size = w8.heap.size + 1 := e; have := HSz.out; omega)).trans HZ13.out)
      have HI14 := hid ((HK14.out.block _ (lt_of_block HI13.out) (fun e => by have e9 : w7.heap.size = w8.heap.size + 1 := e; have := HSz.out; omega)).trans HI13.out)
      have HN14 := hid ((HK14.out.block _ (lt_of_block HN13.out) (fun e => by have e9 : w8.heap.size = w8.heap.size + 1 := e; have := HSz.out; omega)).trans HN13.out)
      have HB14 : Hid (Below W.heap.size W w14) := hid (HB13.out.trans (HK14.out.below HB13.out.size (fun k e => by have e9 : k = w8.heap.size + 1 := e; have := HSz.out; omega)))
      have HC14 := hid (HC13.out.keep HK14.out (fun k e e9 => by have e8 : k = w8.heap.size + 1 := e9; have := e.2; have := HSz.out; omega))
      have HIN14 := hid (HIN13.out.keep HK14.out (fun k e e9 => by have e8 : k = w8.heap.size + 1 := e9; have := e.2; have := HSz.out; omega))
      have HNN14 := hid (HNN13.out.keep HK14.out (fun k e e9 => by have e8 : k = w8.heap.size + 1 := e9; have := e.1; have := HSz.out; omega))
      have HMM14 := hid (HMM13.out.keep HK14.out (fun k e e9 => by have e8 : k = w8.heap.size + 1 := e9; have h9 := HSz.out; exact e.elim (fun e => by have := e.2; omega) (fun e => by have := e.1; omega)))
      have hne : (R.2 != R.2) = false := by simp
      have CQ1 := hid (cat_same HNN14.out HMM14.out)
      have z0 := cell_in HZ14.out 0 _ rfl
      have z1 := cell_in HZ14.out 1 _ rfl
      have z2 := cell_in HZ14.out 2 _ rfl
      have z3 := cell_in HZ14.out 3 _ rfl
      have i0 := cell_in HI14.out 0 _ rfl
      have i1 := cell_in HI14.out 1 _ rfl
      have i2 := cell_in HI14.out 2 _ rfl
      have i3 := cell_in HI14.out 3 _ rfl
      have n0 := cell_in HN14.out 0 _ rfl
      have n1 := cell_in HN14.out 1 _ rfl
      have n2 := cell_in HN14.out 2 _ rfl
      have n3 := cell_in HN14.out 3 _ rfl
      have m0 := cell_in HM14.out 0 _ rfl
      have m1 := cell_in HM14.out 1 _ rfl
      have m2 := cell_in HM14.out 2 _ rfl
      have m3 := cell_in HM14.out 3 _ rfl
      go_upto_region 7 with (first
        | (go_at_call 14; refine CQ1.out.mono ?_; rintro en w15 ⟨rfl, hb15⟩; have HB15 := hid (below_step HB14.out hb15); have HSS15 := hid hb15.size; have HZ15 := hid ((hb15.block _ (lt_of_block HZ14.out)).trans HZ14.out); have HI15 := hid ((hb15.block _ (lt_of_block HI14.out)).trans HI14.out); have HN15 := hid ((hb15.block _ (lt_of_block HN14.out)).trans HN14.out); have HM15 := hid ((hb15.block _ (lt_of_block HM14.out)).trans HM14.out); have HC15 := hid (HC14.out.old hb15); have HIN15 := hid (HIN14.out.old hb15); have HNN15 := hid (HNN14.out.old hb15); have HMM15 := hid (HMM14.out.old hb15); clear z0 z1 z2 z3; clear i0 i1 i2 i3; clear n0 n1 n2 n3; clear m0 m1 m2 m3; have z0 := cell_in HZ15.out 0 _ rfl; have z1 := cell_in HZ15.out 1 _ rfl; have z2 := cell_in HZ15.out 2 _ rfl; have z3 := cell_in HZ15.out 3 _ rfl; have i0 := cell_in HI15.out 0 _ rfl; have i1 := cell_in HI15.out 1 _ rfl; have i2 := cell_in HI15.out 2 _ rfl; have i3 := cell_in HI15.out 3 _ rfl; have n0 := cell_in HN15.out 0 _ rfl; have n1 := cell_in HN15.out 1 _ rfl; have n2 := cell_in HN15.out 2 _ rfl; have n3 := cell_in HN15.out 3 _ rfl; have m0 := cell_in HM15.out 0 _ rfl; have m1 := cell_in HM15.out 1 _ rfl; have m2 := cell_in HM15.out 2 _ rfl; have m3 := cell_in HM15.out 3 _ rfl; have CQ2 := hid (cat_same HIN15.out HC15.out); clear CQ1; clear hb15)
        | (go_at_call 14; refine CQ2.out.mono ?_; rintro en w16 ⟨rfl, hb16⟩; have HB16 := hid (below_step HB15.out hb16); have HSS16 := hid hb16.size; have HZ16 := hid ((hb16.block _ (lt_of_block HZ15.out)).trans HZ15.out); have HI16 := hid ((hb16.block _ (lt_of_block HI15.out)).trans HI15.out); have HN16 := hid ((hb16.block _ (lt_of_block HN15.out)).trans HN15.out); have HM16 := hid ((hb16.block _ (lt_of_block HM15.out)).trans HM15.out); have HC16 := hid (HC15.out.old hb16); have HIN16 := hid (HIN15.out.old hb16); have HNN16 := hid (HNN15.out.old hb16); have HMM16 := hid (HMM15.out.old hb16); clear z0 z1 z2 z3; clear i0 i1 i2 i3; clear n0 n1 n2 n3; clear m0 m1 m2 m3; have z0 := cell_in HZ16.out 0 _ rfl; have z1 := cell_in HZ16.out 1 _ rfl; have z2 := cell_in HZ16.out 2 _ rfl; have z3 := cell_in HZ16.out 3 _ rfl; have i0 := cell_in HI16.out 0 _ rfl; have i1 := cell_in HI16.out 1 _ rfl; have i2 := cell_in HI16.out 2 _ rfl; have i3 := cell_in HI16.out 3 _ rfl; have n0 := cell_in HN16.out 0 _ rfl; have n1 := cell_in HN16.out 1 _ rfl; have n2 := cell_in HN16.out 2 _ rfl; have n3 := cell_in HN16.out 3 _ rfl; have m0 := cell_in HM16.out 0 _ rfl; have m1 := cell_in HM16.out 1 _ rfl; have m2 := cell_in HM16.out 2 _ rfl; have m3 := cell_in HM16.out 3 _ rfl; have CQ3 := hid (right_any HNN16.out (catR_W HOKR.out.1 (by have := HOKR.out.2; have := HOKr.out.2; omega))); rw [(catR_iff R.1).2 HOKR.out.1] at CQ3; clear hb16)
        | (go_at_call 12; refine CQ3.out.mono ?_; rintro en w17 ⟨rfl, hb17⟩; have HB17 := hid (below_step HB16.out hb17); have HSS17 := hid hb17.size; have HZ17 := hid ((hb17.block _ (lt_of_block HZ16.out)).trans HZ16.out); have HI17 := hid ((hb17.block _ (lt_of_block HI16.out)).trans HI16.out); have HN17 := hid ((hb17.block _ (lt_of_block HN16.out)).trans HN16.out); have HM17 := hid ((hb17.block _ (lt_of_block HM16.out)).trans HM16.out); have HC17 := hid (HC16.out.old hb17); have HIN17 := hid (HIN16.out.old hb17); have HNN17 := hid (HNN16.out.old hb17); have HMM17 := hid (HMM16.out.old hb17); clear z0 z1 z2 z3; clear i0 i1 i2 i3; clear n0 n1 n2 n3; clear m0 m1 m2 m3; have z0 := cell_in HZ17.out 0 _ rfl; have z1 := cell_in HZ17.out 1 _ rfl; have z2 := cell_in HZ17.out 2 _ rfl; have z3 := cell_in HZ17.out 3 _ rfl; have i0 := cell_in HI17.out 0 _ rfl; have i1 := cell_in HI17.out 1 _ rfl; have i2 := cell_in HI17.out 2 _ rfl; have i3 := cell_in HI17.out 3 _ rfl; have n0 := cell_in HN17.out 0 _ rfl; have n1 := cell_in HN17.out 1 _ rfl; have n2 := cell_in HN17.out 2 _ rfl; have n3 := cell_in HN17.out 3 _ rfl; have m0 := cell_in HM17.out 0 _ rfl; have m1 := cell_in HM17.out 1 _ rfl; have m2 := cell_in HM17.out 2 _ rfl; have m3 := cell_in HM17.out 3 _ rfl; have CQ4 := hid (rCopy_any HMM17.out (fun k hk => by have h1 := HSz.out; have h2 := HK14.out.size; have h3 := HSS15.out; have h4 := HSS16.out; have h5 := HSS17.out; exact hk.elim (fun e => by have := e.2; omega) (fun e => by have := e.2; omega)) (catR_S HOKR.out.1)); clear hb17)
        | (go_at_call 11; refine CQ4.out.mono ?_; rintro en w18 ⟨vs, rfl, hb18, hc18⟩; obtain ⟨qa, qc, qb, qd, rfl⟩ := cat_form hc18.cat; have HB18 := hid (below_step HB17.out hb18); have HSS18 := hid hb18.size; have HZ18 := hid ((hb18.block _ (lt_of_block HZ17.out)).trans HZ17.out); have HR18 := hid hc18.cat; clear z0 z1 z2 z3; clear i0 i1 i2 i3; clear n0 n1 n2 n3; clear m0 m1 m2 m3; have z0 := cell_in HZ18.out 0 _ rfl; have z0f := free_in HZ18.out 0; have z1 := cell_in HZ18.out 1 _ rfl; have z1f := free_in HZ18.out 1; have z2 := cell_in HZ18.out 2 _ rfl; have z2f := free_in HZ18.out 2; have z3 := cell_in HZ18.out 3 _ rfl; have z3f := free_in HZ18.out 3; clear hb18 hc18))
      obtain ⟨p1, p2⟩ := put4 HZ18.out (.int .i64 R.1.ver) (.int .i64 R.1.nxt) (.slice qa R.1.tabs.length qc) (.slice qb R.1.idxs.length qd)
      generalize (((w18.setCell ⟨W.heap.size, 0, none⟩ (.int .i64 R.1.ver)).setCell ⟨W.heap.size, 1, none⟩ (.int .i64 R.1.nxt)).setCell ⟨W.heap.size, 2, none⟩ (.slice qa R.1.tabs.length qc)).setCell ⟨W.heap.size, 3, none⟩ (.slice qb R.1.idxs.length qd) = w19 at *
      clear z0 z0f z1 z1f z2 z2f z3 z3f
      go_wp2_with fail
      go_roundw
      case rel => exact ⟨k + 1, qa, qc, qb, qd, R.1, by omega, by go_num, by omega, hid p1, hid (HB18.out.trans (p2.below HB18.out.size (fun k e => by have e9 : k = W.heap.size := e; omega))), hid ((HR18.out.keep p2 (fun k e e9 => by have e8 : k = W.heap.size := e9; have := e.1; have := HSz.out; have := HK14.out.size; have := HSS15.out; have := HSS16.out; have := HSS17.out; omega)).mono (fun k e => ⟨by have := e.1; have := HSz.out; have := HK14.out.size; have := HSS15.out; have := HSS16.out; have := HSS17.out; omega, by have := e.2; have := p2.size; omega⟩)), hid ⟨HOKR.out.1, by have := HOKR.out.2; have := HOKr.out.2; omega⟩⟩
      case measure => simp [intOf]; omega
end Go.Proofs.Ytkpeidhddicdmaa.schemaChanges
