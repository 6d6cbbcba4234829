/-
  THE LAW SchemaSides: the walk (made by src2/gen_ssides.py).
-/
import Derived.Test.YtafcbelkhhjcoaaSwc
import Derived.Deep.CutRange
import Derived.Deep.CutBlock
import Derived.Test.YtafcbelkhhjcoaaSrb
import Derived.Test.YtafcbelkhhjcoaaSqu
import Derived.Test.YtafcbelkhhjcoaaSp
import Derived.Laws.Tables
set_option linter.unusedVariables false
set_option linter.unusedSimpArgs false
set_option maxRecDepth 100000
namespace Go.Proofs.Ytafcbelkhhjcoaa.schemaSides
open Go.RowKit Go.Deep

def opRow (o : OpL) (ta : Option Addr) (tc : Nat) (tb : Option Addr) (td : Nat) (xa : Option Addr) (xc : Nat) : List Value := [.int .i64 o.kind, .int .i64 o.t.id, .string ⟨o.t.name.toArray⟩, .slice ta o.t.cols.length tc, .slice tb o.t.key.length td, .int .i64 o.x.id, .int .i64 o.x.table, .string ⟨o.x.name.toArray⟩, .slice xa o.x.cols.length xc, .bool o.x.uniq, .int .i64 o.x.state, .bool o.x.bad, .string ⟨o.name.toArray⟩, .int .i64 o.id, .int .i64 o.fr, .int .i64 o.st, .bool o.bad]
theorem op_cells {N : Nat → Prop} {w : World} {x : Value} {l : List OpL} (h : LstN OpN 17 N w x l) : ∃ ao c, x = .slice ao l.length c ∧ l.length ≤ c ∧ c ≤ maxLen ∧ ∀ (k : Nat) o, l[k]? = some o → ∃ b off ta tc tb td xa xc, ao = some ⟨b, off, none⟩ ∧
    TabN (Low w) w [.int .i64 o.t.id, .string ⟨o.t.name.toArray⟩, .slice ta o.t.cols.length tc, .slice tb o.t.key.length td] o.t ∧ IdxN (Low w) w [.int .i64 o.x.id, .int .i64 o.x.table, .string ⟨o.x.name.toArray⟩, .slice xa o.x.cols.length xc, .bool o.x.uniq, .int .i64 o.x.state, .bool o.x.bad] o.x ∧ ∀ (j : Nat) u, (opRow o ta tc tb td xa xc)[j]? = some u → w.cell? ⟨b, off + k * 17 + j, none⟩ = some u := by
  obtain ⟨M, m1, m2, m3, -⟩ := h
  obtain ⟨ao, c, rfl, h1, h2⟩ := m2.form
  refine ⟨ao, c, by rw [m1], by omega, h2, fun k o hk => ?_⟩
  have hkl := (List.getElem?_eq_some_iff.1 hk).1
  have hr : M[k]? = some (M[k]'(by omega)) := List.getElem?_eq_getElem (by omega)
  obtain ⟨ta, tc, tb, td, xa, xc, h3, h4, h5⟩ := m3 k _ o hr hk
  obtain ⟨b, off, rfl, h6⟩ := m2.get (by decide) hr
  rw [h3] at h6
  exact ⟨b, off, ta, tc, tb, td, xa, xc, rfl, h4, h5, h6⟩
theorem setRow_keep (w : World) (B : Nat) (cs : Array Value) : Keep (fun k => k = B) w (w.setRow B cs) := by
  refine ⟨rfl, rfl, rfl, ?_, ?_⟩
  · show w.heap.size ≤ (w.heap.modify B _).size
    simp
  · intro k hk hx
    show (w.heap.modify B _)[k]? = _
    rw [Array.getElem?_modify, if_neg (fun e => hx e.symm)]
def NB (b : Nat) (w : World) (k : Nat) : Prop := k ≠ b ∧ k < w.heap.size
theorem wrap_u64 (z : Int) : IntKind.u64.wrap z = z % 18446744073709551616 := by simp [IntKind.wrap, IntKind.bits, IntKind.signed]

set_option maxHeartbeats 32000000 in
theorem walk {H : Type} {enc : TypeId × Value → H} (v0 v1 : Value) (W : World) {base : Nat} {d0 d1 : DataW H} {p0 p1 : List MemPlace} (hw0 : Value.okWide Try.prog W .any base 25 v0) (h0 : DataW.Trod enc Try.prog W 0 (fun _ => true) true 25 v0 d0 p0) (hk0 : ∀ n ∈ d0.weights Try.prog 25, n ≤ reachBytes)
    (hw1 : Value.okWide Try.prog W .any base 45 v1) (h1 : DataW.Trod enc Try.prog W 0 (fun _ => true) true 45 v1 d1 p1) (hk1 : ∀ n ∈ d1.weights Try.prog 45, n ≤ reachBytes) :
    Calls Try.prog 4 #[v0, v1] W (fun e w' => e = .returned (.bool true) ∧ Below W.heap.size W w') := by
  obtain ⟨cs0, C0, rfl, hc0, hW0⟩ := catalog_open hw0 h0
  obtain ⟨l, hl, hlW⟩ := script_open hw1 h1
  have HW0 := hid (hW0 hk0)
  have HLW := hid (hlW hk1)
  have HC00 := hid hc0
  obtain ⟨a, c, a', c', rfl, -, -, -, -⟩ := cat_open hc0
  obtain ⟨so, sc, rfl, hs1, hs2, hop⟩ := op_cells hl
  have HOP := hid hop
  have hlm : l.length ≤ 9223372036854775807 := by unfold maxLen at hs2; omega
  clear hc0 hW0 hl hlW hop hw0 h0 hk0 hw1 h1 hk1
  go_enter Try.func4, Try.ntmps4
  go_upto_region 1 with fail
  have hb := (Below.refl W.heap.size W).alloc (Nat.le_refl _) (.cells #[.int .i64 C0.ver, .int .i64 C0.nxt, .slice a C0.tabs.length c, .slice a' C0.idxs.length c'] 25)
  have hz := heap_alloc_new W (.cells #[.int .i64 C0.ver, .int .i64 C0.nxt, .slice a C0.tabs.length c, .slice a' C0.idxs.length c'] 25)
  generalize W.alloc (.cells #[.int .i64 C0.ver, .int .i64 C0.nxt, .slice a C0.tabs.length c, .slice a' C0.idxs.length c'] 25) = w1 at *
  have HB1 := hid hb
  have HZ1 := hid hz
  clear hb hz
  have CA1 := hid (awake_any w1)
  have z0 := cell_in HZ1.out 0 _ rfl
  have z0f := free_in HZ1.out 0
  have z1 := cell_in HZ1.out 1 _ rfl
  have z1f := free_in HZ1.out 1
  have z2 := cell_in HZ1.out 2 _ rfl
  have z2f := free_in HZ1.out 2
  have z3 := cell_in HZ1.out 3 _ rfl
  have z3f := free_in HZ1.out 3
  cases hs : smallB C0 with
  | false =>
    go_wp2_with (first | (go_at_call 14; refine CA1.out.mono ?_; rintro en w2 ⟨rfl, hb2⟩; have HB2 := hid (below_step HB1.out hb2); have HSS2 := hid hb2.size; have HZ2 := hid ((hb2.block _ (lt_of_block HZ1.out)).trans HZ1.out); clear z0 z0f z1 z1f z2 z2f z3 z3f; have z0 := cell_in HZ2.out 0 _ rfl; have z0f := free_in HZ2.out 0; have z1 := cell_in HZ2.out 1 _ rfl; have z1f := free_in HZ2.out 1; have z2 := cell_in HZ2.out 2 _ rfl; have z2f := free_in HZ2.out 2; have z3 := cell_in HZ2.out 3 _ rfl; have z3f := free_in HZ2.out 3; have CSM := hid (small_any (HC00.out.old HB2.out)); rw [hs] at CSM; clear hb2 CA1) | (go_at_call 13; refine CSM.out.mono ?_; rintro en w3 ⟨rfl, hb3⟩; have HB3 := hid (below_step HB2.out hb3); have HSS3 := hid hb3.size; have HZ3 := hid ((hb3.block _ (lt_of_block HZ2.out)).trans HZ2.out); clear z0 z0f z1 z1f z2 z2f z3 z3f; have z0 := cell_in HZ3.out 0 _ rfl; have z0f := free_in HZ3.out 0; have z1 := cell_in HZ3.out 1 _ rfl; have z1f := free_in HZ3.out 1; have z2 := cell_in HZ3.out 2 _ rfl; have z2f := free_in HZ3.out 2; have z3 := cell_in HZ3.out 3 _ rfl; have z3f := free_in HZ3.out 3; have CA2 := hid (awake_any w3); clear hb3) | (go_at_call 14; refine CA2.out.mono ?_; rintro en w4 ⟨rfl, hb4⟩; have HB4 := hid (below_step HB3.out hb4); clear hb4))
    go_ret
    exact ⟨rfl, HB4.out⟩
  | true =>
  have HSM := hid (small_S hs)
  go_upto_region 3 with (first | (go_at_call 14; refine CA1.out.mono ?_; rintro en w2 ⟨rfl, hb2⟩; have HB2 := hid (below_step HB1.out hb2); have HSS2 := hid hb2.size; have HZ2 := hid ((hb2.block _ (lt_of_block HZ1.out)).trans HZ1.out); clear z0 z0f z1 z1f z2 z2f z3 z3f; have z0 := cell_in HZ2.out 0 _ rfl; have z0f := free_in HZ2.out 0; have z1 := cell_in HZ2.out 1 _ rfl; have z1f := free_in HZ2.out 1; have z2 := cell_in HZ2.out 2 _ rfl; have z2f := free_in HZ2.out 2; have z3 := cell_in HZ2.out 3 _ rfl; have z3f := free_in HZ2.out 3; have CSM := hid (small_any (HC00.out.old HB2.out)); rw [hs] at CSM; clear hb2 CA1) | (go_at_call 13; refine CSM.out.mono ?_; rintro en w3 ⟨rfl, hb3⟩; have HB3 := hid (below_step HB2.out hb3); have HSS3 := hid hb3.size; have HZ3 := hid ((hb3.block _ (lt_of_block HZ2.out)).trans HZ2.out); clear z0 z0f z1 z1f z2 z2f z3 z3f; have z0 := cell_in HZ3.out 0 _ rfl; have z0f := free_in HZ3.out 0; have z1 := cell_in HZ3.out 1 _ rfl; have z1f := free_in HZ3.out 1; have z2 := cell_in HZ3.out 2 _ rfl; have z2f := free_in HZ3.out 2; have z3 := cell_in HZ3.out 3 _ rfl; have z3f := free_in HZ3.out 3; have CA2 := hid (awake_any w3); clear hb3))
  clear hs CA2
  have CR := hid (rRight_any (HC00.out.old HB3.out) HW0.out)
  go_cut [28] from 21 to 28 (fun s wx => ∃ q : Bool, s = .bool q ∧ Below w3.heap.size w3 wx ∧ Hid (q = false → catB C0 = true ∧ C0.ver ≤ 1099511627776))
  case first =>
    as_aux_lemma =>
      cases hq : catB C0 with
      | false =>
        rw [hq] at CR
        go_wp2_with (first | (go_at_call 17; refine CR.out.mono ?_; rintro en w4 ⟨rfl, hb4⟩; have HB4 := hid (below_step HB3.out hb4); have HSS4 := hid hb4.size; have HZ4 := hid ((hb4.block _ (lt_of_block HZ3.out)).trans HZ3.out); clear z0 z0f z1 z1f z2 z2f z3 z3f; have z0 := cell_in HZ4.out 0 _ rfl; have z0f := free_in HZ4.out 0; have z1 := cell_in HZ4.out 1 _ rfl; have z1f := free_in HZ4.out 1; have z2 := cell_in HZ4.out 2 _ rfl; have z2f := free_in HZ4.out 2; have z3 := cell_in HZ4.out 3 _ rfl; have z3f := free_in HZ4.out 3; have HX4 := hid hb4; clear hb4))
        go_meet
        exact ⟨true, rfl, HX4.out, hid (fun e => by cases e)⟩
      | true =>
        rw [hq] at CR
        by_cases hv : (1099511627776 : Int) < C0.ver
        · go_wp2_with (first | (go_at_call 17; refine CR.out.mono ?_; rintro en w4 ⟨rfl, hb4⟩; have HB4 := hid (below_step HB3.out hb4); have HSS4 := hid hb4.size; have HZ4 := hid ((hb4.block _ (lt_of_block HZ3.out)).trans HZ3.out); clear z0 z0f z1 z1f z2 z2f z3 z3f; have z0 := cell_in HZ4.out 0 _ rfl; have z0f := free_in HZ4.out 0; have z1 := cell_in HZ4.out 1 _ rfl; have z1f := free_in HZ4.out 1; have z2 := cell_in HZ4.out 2 _ rfl; have z2f := free_in HZ4.out 2; have z3 := cell_in HZ4.out 3 _ rfl; have z3f := free_in HZ4.out 3; have HX4 := hid hb4; clear hb4))
          go_meet
          exact ⟨true, rfl, HX4.out, hid (fun e => by cases e)⟩
        · go_wp2_with (first | (go_at_call 17; refine CR.out.mono ?_; rintro en w4 ⟨rfl, hb4⟩; have HB4 := hid (below_step HB3.out hb4); have HSS4 := hid hb4.size; have HZ4 := hid ((hb4.block _ (lt_of_block HZ3.out)).trans HZ3.out); clear z0 z0f z1 z1f z2 z2f z3 z3f; have z0 := cell_in HZ4.out 0 _ rfl; have z0f := free_in HZ4.out 0; have z1 := cell_in HZ4.out 1 _ rfl; have z1f := free_in HZ4.out 1; have z2 := cell_in HZ4.out 2 _ rfl; have z2f := free_in HZ4.out 2; have z3 := cell_in HZ4.out 3 _ rfl; have z3f := free_in HZ4.out 3; have HX4 := hid hb4; clear hb4))
          go_meet
          exact ⟨false, congrArg Value.bool (decide_eq_false (by omega)), HX4.out, hid (fun _ => ⟨hq, by omega⟩)⟩
  case rest =>
  obtain ⟨q, rfl, hbq, HQ⟩ := hcut
  generalize wc = w4 at *
  have HB4 := hid (below_step HB3.out hbq)
  have HSS4 := hid hbq.size
  have HZ4 := hid ((hbq.block _ (lt_of_block HZ3.out)).trans HZ3.out)
  clear hbq
  clear z0 z0f z1 z1f z2 z2f z3 z3f
  have z0 := cell_in HZ4.out 0 _ rfl
  have z0f := free_in HZ4.out 0
  have z1 := cell_in HZ4.out 1 _ rfl
  have z1f := free_in HZ4.out 1
  have z2 := cell_in HZ4.out 2 _ rfl
  have z2f := free_in HZ4.out 2
  have z3 := cell_in HZ4.out 3 _ rfl
  have z3f := free_in HZ4.out 3
  go_upto_if 28 with fail
  go_cut [] from 28 to 30 (fun wx => ∃ a c a' c' C, Hid (wx.heap[W.heap.size]? = some (.cells #[.int .i64 C.ver, .int .i64 C.nxt, .slice a C.tabs.length c, .slice a' C.idxs.length c'] 25 (0, 0))) ∧ Hid (Below W.heap.size W wx) ∧ Hid (CatN (NB W.heap.size wx) wx [.int .i64 C.ver, .int .i64 C.nxt, .slice a C.tabs.length c, .slice a' C.idxs.length c'] C) ∧ Hid (CatOk C ∧ C.ver ≤ 1099511627776))
  case first =>
    as_aux_lemma =>
      cases q with
      | false =>
        have hcx := HQ.out rfl
        have HCX := hid hcx
        clear hcx
        go_wp2_with fail
        go_meet
        exact ⟨a, c, a', c', C0, HZ4, HB4, hid ((HC00.out.old HB4.out).mono (fun k e => ⟨by have e9 : k < W.heap.size := e; omega, by have e9 : k < W.heap.size := e; have := HB4.out.size; omega⟩)), hid ⟨(catR_iff C0).1 HCX.out.1, HCX.out.2⟩⟩
      | true =>
        go_wp2_with fail
        obtain ⟨p1, p2⟩ := put4 HZ4.out (.int .i64 0) (.int .i64 1) (.slice none 0 0) (.slice none 0 0)
        generalize (((w4.setCell ⟨W.heap.size, 0, none⟩ (.int .i64 0)).setCell ⟨W.heap.size, 1, none⟩ (.int .i64 1)).setCell ⟨W.heap.size, 2, none⟩ (.slice none 0 0)).setCell ⟨W.heap.size, 3, none⟩ (.slice none 0 0) = s4 at *
        go_meet
        exact ⟨none, 0, none, 0, cat1, hid p1, hid (HB4.out.trans (p2.below HB4.out.size (fun k e => by have e9 : k = W.heap.size := e; omega))), hid ⟨_, _, rfl, LstN.nil _ _ _ _, LstN.nil _ _ _ _, rfl, rfl⟩, hid ⟨(catR_iff cat1).1 (by decide), by decide⟩⟩
  case rest =>
  obtain ⟨a, c, a', c', C, HZ5, HB5, HC5, HOK5⟩ := hcut
  generalize wc = w5 at *
  clear z0 z1 z2 z3 z0f z1f z2f z3f
  go_wp2_with fail
  go_loopw [5] (fun j wr => ∃ k a c a' c' C, k ≤ l.length ∧ j = .int .i64 (k : Int) ∧ k ≤ 60 ∧ Hid (wr.heap[W.heap.size]? = some (.cells #[.int .i64 C.ver, .int .i64 C.nxt, .slice a C.tabs.length c, .slice a' C.idxs.length c'] 25 (0, 0))) ∧ Hid (Below W.heap.size W wr) ∧ Hid (CatN (NB W.heap.size wr) wr [.int .i64 C.ver, .int .i64 C.nxt, .slice a C.tabs.length c, .slice a' C.idxs.length c'] C) ∧ Hid (CatOk C ∧ C.ver ≤ 1099511627776 + (k : Int)))
    (fun j _ => l.length - (intOf j).toNat)
  case atStart => exact ⟨0, a, c, a', c', C, by omega, rfl, by omega, HZ5, HB5, HC5, hid ⟨HOK5.out.1, by have := HOK5.out.2; omega⟩⟩
  case round =>
  clear HZ5 HB5 HC5 HOK5 HQ HZ4 HB4 HZ3 HB3 HZ2 HB2 HZ1 HB1 HSS2 HSS3 HSS4
  obtain ⟨k, a, c, a', c', C, hk, rfl, hk60, HZr, HBr, HCr, HOKr⟩ := hrel
  generalize wr = wo at *
  by_cases hlt : k < l.length
  case neg =>
    as_aux_lemma =>
      have hki : ¬ (k : Int) < (l.length : Int) := by omega
      go_wp2_with fail
      go_ret
      exact ⟨rfl, HBr.out⟩
  have hki : (k : Int) < (l.length : Int) := by omega
  by_cases h60 : k < 60
  case neg =>
    as_aux_lemma =>
      have hk6 : ¬ (k : Int) < 60 := by omega
      go_wp2_with fail
      go_ret
      exact ⟨rfl, HBr.out⟩
  have hk6 : (k : Int) < 60 := by omega
  obtain ⟨o, ho⟩ : ∃ o, l[k]? = some o := ⟨_, List.getElem?_eq_getElem hlt⟩
  have HLO := hid (HLW.out o (List.mem_of_getElem? ho))
  obtain ⟨ob, off, ta, tc, tb, td, xa, xc, rfl, hT, hX, hcl⟩ := HOP.out k o ho
  have HT := hid hT
  have HX := hid hX
  have HBL : Hid (W.heap.size < wo.heap.size) := hid (lt_of_block HZr.out)
  have k0 := (HBr.out.cell (block_cell (hcl 0 _ rfl))).trans (hcl 0 _ rfl)
  rw [Nat.add_zero] at k0
  have k1 := (HBr.out.cell (block_cell (hcl 1 _ rfl))).trans (hcl 1 _ rfl)
  have k2 := (HBr.out.cell (block_cell (hcl 2 _ rfl))).trans (hcl 2 _ rfl)
  have k3 := (HBr.out.cell (block_cell (hcl 3 _ rfl))).trans (hcl 3 _ rfl)
  have k4 := (HBr.out.cell (block_cell (hcl 4 _ rfl))).trans (hcl 4 _ rfl)
  have k5 := (HBr.out.cell (block_cell (hcl 5 _ rfl))).trans (hcl 5 _ rfl)
  have k6 := (HBr.out.cell (block_cell (hcl 6 _ rfl))).trans (hcl 6 _ rfl)
  have k7 := (HBr.out.cell (block_cell (hcl 7 _ rfl))).trans (hcl 7 _ rfl)
  have k8 := (HBr.out.cell (block_cell (hcl 8 _ rfl))).trans (hcl 8 _ rfl)
  have k9 := (HBr.out.cell (block_cell (hcl 9 _ rfl))).trans (hcl 9 _ rfl)
  have k10 := (HBr.out.cell (block_cell (hcl 10 _ rfl))).trans (hcl 10 _ rfl)
  have k11 := (HBr.out.cell (block_cell (hcl 11 _ rfl))).trans (hcl 11 _ rfl)
  have k12 := (HBr.out.cell (block_cell (hcl 12 _ rfl))).trans (hcl 12 _ rfl)
  have k13 := (HBr.out.cell (block_cell (hcl 13 _ rfl))).trans (hcl 13 _ rfl)
  have k14 := (HBr.out.cell (block_cell (hcl 14 _ rfl))).trans (hcl 14 _ rfl)
  have k15 := (HBr.out.cell (block_cell (hcl 15 _ rfl))).trans (hcl 15 _ rfl)
  have k16 := (HBr.out.cell (block_cell (hcl 16 _ rfl))).trans (hcl 16 _ rfl)
  clear hcl hT hX ho
  go_upto_region 9 with fail
  have hb5 := (Below.refl wo.heap.size wo).alloc (Nat.le_refl _) (.cells #[.int .i64 o.kind, .int .i64 o.t.id, .string ⟨o.t.name.toArray⟩, .slice ta o.t.cols.length tc, .slice tb o.t.key.length td, .int .i64 o.x.id, .int .i64 o.x.table, .string ⟨o.x.name.toArray⟩, .slice xa o.x.cols.length xc, .bool o.x.uniq, .int .i64 o.x.state, .bool o.x.bad, .string ⟨o.name.toArray⟩, .int .i64 o.id, .int .i64 o.fr, .int .i64 o.st, .bool o.bad] 47)
  have hz5 := heap_alloc_new wo (.cells #[.int .i64 o.kind, .int .i64 o.t.id, .string ⟨o.t.name.toArray⟩, .slice ta o.t.cols.length tc, .slice tb o.t.key.length td, .int .i64 o.x.id, .int .i64 o.x.table, .string ⟨o.x.name.toArray⟩, .slice xa o.x.cols.length xc, .bool o.x.uniq, .int .i64 o.x.state, .bool o.x.bad, .string ⟨o.name.toArray⟩, .int .i64 o.id, .int .i64 o.fr, .int .i64 o.st, .bool o.bad] 47)
  have hs5 : (wo.alloc (.cells #[.int .i64 o.kind, .int .i64 o.t.id, .string ⟨o.t.name.toArray⟩, .slice ta o.t.cols.length tc, .slice tb o.t.key.length td, .int .i64 o.x.id, .int .i64 o.x.table, .string ⟨o.x.name.toArray⟩, .slice xa o.x.cols.length xc, .bool o.x.uniq, .int .i64 o.x.state, .bool o.x.bad, .string ⟨o.name.toArray⟩, .int .i64 o.id, .int .i64 o.fr, .int .i64 o.st, .bool o.bad] 47)).heap.size = wo.heap.size + 1 := by simp
  generalize wo.alloc (.cells #[.int .i64 o.kind, .int .i64 o.t.id, .string ⟨o.t.name.toArray⟩, .slice ta o.t.cols.length tc, .slice tb o.t.key.length td, .int .i64 o.x.id, .int .i64 o.x.table, .string ⟨o.x.name.toArray⟩, .slice xa o.x.cols.length xc, .bool o.x.uniq, .int .i64 o.x.state, .bool o.x.bad, .string ⟨o.name.toArray⟩, .int .i64 o.id, .int .i64 o.fr, .int .i64 o.st, .bool o.bad] 47) = w5 at *
  have HB5 := hid (below_step HBr.out hb5)
  have HSS5 := hid hb5.size
  have HZ5 := hid ((hb5.block _ (lt_of_block HZr.out)).trans HZr.out)
  have HC5 := hid (HCr.out.old hb5)
  have HO5 := hid hz5
  have HS5 := hid hs5
  clear hb5 hz5 hs5 k0 k1 k2 k3 k4 k5 k6 k7 k8 k9 k10 k11 k12 k13 k14 k15 k16
  have o0 := cell_in HO5.out 0 _ rfl
  have z3 := cell_in HZ5.out 3 _ rfl
  go_cut [52] from 44 to 52 (fun s wx => ∃ q : Bool, s = .bool q ∧ wx = w5 ∧ Hid (q = true → 0 < C.idxs.length))
  case first =>
    as_aux_lemma =>
      cases hq4 : (o.kind == 4) with
      | false =>
        go_wp2_with fail
        go_meet
        exact ⟨false, rfl, rfl, hid (fun e => by cases e)⟩
      | true =>
        by_cases hl0 : 0 < C.idxs.length
        · go_wp2_with fail
          go_meet
          exact ⟨true, rfl, rfl, hid (fun _ => hl0)⟩
        · go_wp2_with fail
          go_meet
          exact ⟨false, rfl, rfl, hid (fun e => by cases e)⟩
  case rest =>
  obtain ⟨q, rfl, rfl, HQ⟩ := hcut
  generalize wc = w5 at *
  clear o0 z3
  go_upto_if 52 with fail
  go_cut [] from 52 to 76 (fun wx => ∃ kd id fr st, Hid (wx.heap[wo.heap.size]? = some (.cells #[.int .i64 kd, .int .i64 o.t.id, .string ⟨o.t.name.toArray⟩, .slice ta o.t.cols.length tc, .slice tb o.t.key.length td, .int .i64 o.x.id, .int .i64 o.x.table, .string ⟨o.x.name.toArray⟩, .slice xa o.x.cols.length xc, .bool o.x.uniq, .int .i64 o.x.state, .bool o.x.bad, .string ⟨o.name.toArray⟩, .int .i64 id, .int .i64 fr, .int .i64 st, .bool o.bad] 47 (0, 0))) ∧ Hid (Keep (fun k => k = wo.heap.size) w5 wx))
  case first =>
    as_aux_lemma =>
      cases q with
      | false =>
        go_wp2_with fail
        go_meet
        exact ⟨_, _, _, _, HO5, hid (Keep.refl _ _)⟩
      | true =>
      have hl0 := HQ.out rfl
      have hl10 := HOKr.out.1.len.2
      obtain ⟨u, hu⟩ : ∃ u : Nat, IntKind.u64.wrap o.id = (u : Int) := by rw [wrap_u64]; exact ⟨(o.id % 18446744073709551616).toNat, by omega⟩
      obtain ⟨m, hm⟩ : ∃ m, m = u % C.idxs.length := ⟨_, rfl⟩
      have hml : m < C.idxs.length := by rw [hm]; exact Nat.mod_lt _ hl0
      have hkt : (u : Int).tmod (C.idxs.length : Int) = (m : Int) := by rw [hm]; rfl
      have hln : IntKind.u64.wrap (C.idxs.length : Int) = (C.idxs.length : Int) := by rw [wrap_u64]; omega
      have hkw : IntKind.i64.wrap (m : Int) = (m : Int) := by rw [IntKind.wrap_i64]; omega
      have hn0 : ¬ C.idxs.length = 0 := by omega
      have hmi : (m : Int) < (C.idxs.length : Int) := by omega
      clear hm
      obtain ⟨x, hx⟩ : ∃ x, C.idxs[m]? = some x := ⟨_, List.getElem?_eq_getElem hml⟩
      have HXX := hid hx
      clear hx
      obtain ⟨g, goff, ya, yc, hka, c0, c1, c2, c3, c4, c5, c6⟩ : ∃ g goff ya yc, a' = some ⟨g, goff, none⟩ ∧ w5.cell? ⟨g, goff + m * 7, none⟩ = some (.int .i64 x.id) ∧ w5.cell? ⟨g, goff + m * 7 + 1, none⟩ = some (.int .i64 x.table) ∧ w5.cell? ⟨g, goff + m * 7 + 2, none⟩ = some (.string ⟨x.name.toArray⟩) ∧ w5.cell? ⟨g, goff + m * 7 + 3, none⟩ = some (.slice ya x.cols.length yc) ∧ w5.cell? ⟨g, goff + m * 7 + 4, none⟩ = some (.bool x.uniq) ∧ w5.cell? ⟨g, goff + m * 7 + 5, none⟩ = some (.int .i64 x.state) ∧ w5.cell? ⟨g, goff + m * 7 + 6, none⟩ = some (.bool x.bad) := by
        obtain ⟨vx, vy, e9, -, ho2, -, -⟩ := HC5.out
        simp only [List.cons.injEq, and_true, true_and] at e9
        obtain ⟨rfl, rfl⟩ := e9
        obtain ⟨ao9, c9, e8, -, -, hc9⟩ := ix_cells ho2
        obtain ⟨b9, o9, q1, q2, e7, -, r2⟩ := hc9 m x HXX.out
        simp only [Value.slice.injEq] at e8
        exact ⟨b9, o9, q1, q2, by rw [e8.1, e7], r2⟩
      subst hka
      have z3 := cell_in HZ5.out 3 _ rfl
      have o13 := cell_in HO5.out 13 _ rfl
      have HKp : Hid (∀ V, Below w5.heap.size w5 V → V.cell? ⟨W.heap.size, 3, none⟩ = some (.slice (some ⟨g, goff, none⟩) C.idxs.length c') ∧ V.cell? ⟨wo.heap.size, 13, none⟩ = some (.int .i64 o.id) ∧ V.cell? ⟨g, goff + m * 7, none⟩ = some (.int .i64 x.id) ∧ V.cell? ⟨g, goff + m * 7 + 1, none⟩ = some (.int .i64 x.table) ∧ V.cell? ⟨g, goff + m * 7 + 2, none⟩ = some (.string ⟨x.name.toArray⟩) ∧ V.cell? ⟨g, goff + m * 7 + 3, none⟩ = some (.slice ya x.cols.length yc) ∧ V.cell? ⟨g, goff + m * 7 + 4, none⟩ = some (.bool x.uniq) ∧ V.cell? ⟨g, goff + m * 7 + 5, none⟩ = some (.int .i64 x.state) ∧ V.cell? ⟨g, goff + m * 7 + 6, none⟩ = some (.bool x.bad)) := hid (fun V hV => ⟨(hV.cell (block_cell z3)).trans z3, (hV.cell (block_cell o13)).trans o13, (hV.cell (block_cell c0)).trans c0, (hV.cell (block_cell c1)).trans c1, (hV.cell (block_cell c2)).trans c2, (hV.cell (block_cell c3)).trans c3, (hV.cell (block_cell c4)).trans c4, (hV.cell (block_cell c5)).trans c5, (hV.cell (block_cell c6)).trans c6⟩)
      clear c0 c1 c2 c3 c4 c5 c6 z3 o13
      go_upto_region 10 with fail
      refine wp_region_noPanic ?_
      refine wp_region_held_drew (S := fun V => Hid (Below w5.heap.size w5 V)) (by kernel_rfl) (hid (Below.drew (Below.refl _ _))) (fun hHeld => ?_)
      generalize w5.drew = Wd at *
      refine tkH 0 (.pointer (some ⟨W.heap.size, 3, none⟩)) rfl (by kernel_rfl) (fun _ _ _ => False.elim) hHeld (Or.inl ⟨by rfl, fun W9 hW => by clear hHeld hW; simp only [jA, jB, jC]; go_simp⟩) ?_
      simp only [Act.put, jA, jB, jC, jD, jE, jF]
      refine tkH 1 (.slice (some ⟨g, goff, none⟩) C.idxs.length c') rfl (by kernel_rfl) (fun _ _ _ => False.elim) hHeld (Or.inl ⟨by rfl, fun W9 hW => by obtain ⟨q0, q1, q2, q3, q4, q5, q6, q7, q8⟩ := HKp.out _ hW.out; clear hHeld hW; simp only [jA, jB, jC]; go_simp⟩) ?_
      simp only [Act.put, jA, jB, jC, jD, jE, jF]
      refine tkH 2 (.pointer (some ⟨wo.heap.size, 13, none⟩)) rfl (by kernel_rfl) (fun _ _ _ => False.elim) hHeld (Or.inl ⟨by rfl, fun W9 hW => by clear hHeld hW; simp only [jA, jB, jC]; go_simp⟩) ?_
      simp only [Act.put, jA, jB, jC, jD, jE, jF]
      refine tkH 3 (.int .i64 o.id) rfl (by kernel_rfl) (fun _ _ _ => False.elim) hHeld (Or.inl ⟨by rfl, fun W9 hW => by obtain ⟨q0, q1, q2, q3, q4, q5, q6, q7, q8⟩ := HKp.out _ hW.out; clear hHeld hW; simp only [jA, jB, jC]; go_simp⟩) ?_
      simp only [Act.put, jA, jB, jC, jD, jE, jF]
      refine tkH 4 (.int .u64 (u : Int)) rfl (by kernel_rfl) (fun _ _ _ => False.elim) hHeld (Or.inl ⟨by rfl, fun W9 hW => by clear hHeld hW; simp only [jA, jB, jC]; go_simp⟩) ?_
      simp only [Act.put, jA, jB, jC, jD, jE, jF]
      refine tkH 5 (.pointer (some ⟨W.heap.size, 3, none⟩)) rfl (by kernel_rfl) (fun _ _ _ => False.elim) hHeld (Or.inl ⟨by rfl, fun W9 hW => by clear hHeld hW; simp only [jA, jB, jC]; go_simp⟩) ?_
      simp only [Act.put, jA, jB, jC, jD, jE, jF]
      refine tkH 6 (.slice (some ⟨g, goff, none⟩) C.idxs.length c') rfl (by kernel_rfl) (fun _ _ _ => False.elim) hHeld (Or.inl ⟨by rfl, fun W9 hW => by obtain ⟨q0, q1, q2, q3, q4, q5, q6, q7, q8⟩ := HKp.out _ hW.out; clear hHeld hW; simp only [jA, jB, jC]; go_simp⟩) ?_
      simp only [Act.put, jA, jB, jC, jD, jE, jF]
      refine tkH 7 (.int .i64 (C.idxs.length : Int)) rfl (by kernel_rfl) (fun _ _ _ => False.elim) hHeld (Or.inl ⟨by rfl, fun W9 hW => by clear hHeld hW; simp only [jA, jB, jC]; go_simp⟩) ?_
      simp only [Act.put, jA, jB, jC, jD, jE, jF]
      refine tkH 8 (.int .u64 (C.idxs.length : Int)) rfl (by kernel_rfl) (fun _ _ _ => False.elim) hHeld (Or.inl ⟨by rfl, fun W9 hW => by clear hHeld hW; simp only [jA, jB, jC]; go_simp⟩) ?_
      simp only [Act.put, jA, jB, jC, jD, jE, jF]
      refine tkH 9 (.int .u64 (m : Int)) rfl (by kernel_rfl) (fun _ _ _ => False.elim) hHeld (Or.inl ⟨by rfl, fun W9 hW => by clear hHeld hW; simp only [jA, jB, jC]; go_simp⟩) ?_
      simp only [Act.put, jA, jB, jC, jD, jE, jF]
      refine tkH 10 (.int .i64 (m : Int)) rfl (by kernel_rfl) (fun _ _ _ => False.elim) hHeld (Or.inl ⟨by rfl, fun W9 hW => by clear hHeld hW; simp only [jA, jB, jC]; go_simp⟩) ?_
      simp only [Act.put, jA, jB, jC, jD, jE, jF]
      refine tkH 11 (.pointer (some ⟨g, goff + m * 7, none⟩)) rfl (by kernel_rfl) (fun _ _ _ => False.elim) hHeld (Or.inl ⟨by rfl, fun W9 hW => by clear hHeld hW; simp only [jA, jB, jC]; go_simp⟩) ?_
      simp only [Act.put, jA, jB, jC, jD, jE, jF]
      refine tkH 12 (.agg #[.int .i64 x.id, .int .i64 x.table, .string ⟨x.name.toArray⟩, .slice ya x.cols.length yc, .bool x.uniq, .int .i64 x.state, .bool x.bad]) rfl (by kernel_rfl) (fun _ _ _ => False.elim) hHeld (Or.inl ⟨by rfl, fun W9 hW => by obtain ⟨q0, q1, q2, q3, q4, q5, q6, q7, q8⟩ := HKp.out _ hW.out; clear hHeld hW; simp only [jA, jB, jC]; go_simp⟩) ?_
      simp only [Act.put, jA, jB, jC, jD, jE, jF]
      refine rdH 13 (by kernel_rfl) rfl fun K hK => ?_
      go_simp
      have hza := heap_alloc_new Wd (.cells #[.int .i64 0, .int .i64 0, .string ⟨#[]⟩, .slice none 0 0, .bool false, .int .i64 0, .bool false] 37)
      refine hK.out _ _ (hid (hHeld.out.alloc hHeld.out.size (.cells #[.int .i64 0, .int .i64 0, .string ⟨#[]⟩, .slice none 0 0, .bool false, .int .i64 0, .bool false] 37))) (fun hHeld2 => ?_)
      clear hK K
      try simp only [Act.put, jA, jB, jC, jD, jE, jF]
      have hbx0 := hHeld.out.size
      generalize Wd.alloc (.cells #[.int .i64 0, .int .i64 0, .string ⟨#[]⟩, .slice none 0 0, .bool false, .int .i64 0, .bool false] 37) = Wa at *
      generalize Wd.heap.size = bx at *
      clear hHeld
      have HZA := hid hza
      clear hza
      refine rdH 14 (by kernel_rfl) rfl fun K hK => ?_
      rw [if_pos (by rfl)]
      refine Go.wp_store_row _ _ _ rfl bx #[.int .i64 x.id, .int .i64 x.table, .string ⟨x.name.toArray⟩, .slice ya x.cols.length yc, .bool x.uniq, .int .i64 x.state, .bool x.bad] rfl rfl _ _ HZA.out (by kernel_rfl) rfl (by simp [Value.oneCell']) ?_
      have p1 := setRow_heap Wa bx _ #[.int .i64 x.id, .int .i64 x.table, .string ⟨x.name.toArray⟩, .slice ya x.cols.length yc, .bool x.uniq, .int .i64 x.state, .bool x.bad] _ _ HZA.out
      have p2 := setRow_keep Wa bx #[.int .i64 x.id, .int .i64 x.table, .string ⟨x.name.toArray⟩, .slice ya x.cols.length yc, .bool x.uniq, .int .i64 x.state, .bool x.bad]
      generalize Wa.setRow bx #[.int .i64 x.id, .int .i64 x.table, .string ⟨x.name.toArray⟩, .slice ya x.cols.length yc, .bool x.uniq, .int .i64 x.state, .bool x.bad] = Wb at *
      have HXb := hid p1
      have HBb : Hid (Below w5.heap.size w5 Wb) := hid (hHeld2.out.trans (p2.below hHeld2.out.size (fun k e => by have e9 : k = bx := e; omega)))
      refine hK.out _ _ HBb (fun hHeld => ?_)
      clear hK K p1 p2 hHeld2
      try simp only [Act.put, jA, jB, jC, jD, jE, jF]
      refine wpAnyH_done (by kernel_rfl) (NoPanic.normal ?_) _
      clear hHeld
      go_upto_region 11 with fail
      have hne : ¬ bx = wo.heap.size := by have := HS5.out; omega
      have HKq : Hid (∀ V, Keep (fun k => k = wo.heap.size) Wb V → V.heap[bx]? = some (.cells #[.int .i64 x.id, .int .i64 x.table, .string ⟨x.name.toArray⟩, .slice ya x.cols.length yc, .bool x.uniq, .int .i64 x.state, .bool x.bad] 37 (0, 0))) := hid (fun V hV => (hV.block _ (lt_of_block HXb.out) hne).trans HXb.out)
      have HOb := hid ((HBb.out.block _ (lt_of_block HO5.out)).trans HO5.out)
      refine wp_region_noPanic ?_
      refine wp_region_held_drew (S := fun V => Hid (Keep (fun k => k = wo.heap.size) Wb V)) (by kernel_rfl) (hid ⟨rfl, rfl, rfl, Nat.le_refl _, fun _ _ _ => rfl⟩) (fun hHeld => ?_)
      have HOd : Hid (Wb.drew.heap[wo.heap.size]? = some (.cells #[.int .i64 o.kind, .int .i64 o.t.id, .string ⟨o.t.name.toArray⟩, .slice ta o.t.cols.length tc, .slice tb o.t.key.length td, .int .i64 o.x.id, .int .i64 o.x.table, .string ⟨o.x.name.toArray⟩, .slice xa o.x.cols.length xc, .bool o.x.uniq, .int .i64 o.x.state, .bool o.x.bad, .string ⟨o.name.toArray⟩, .int .i64 o.id, .int .i64 o.fr, .int .i64 o.st, .bool o.bad] 47 (0, 0))) := hid HOb.out
      generalize Wb.drew = Wd2 at *
      refine tkH 0 (.pointer (some ⟨bx, 0, none⟩)) rfl (by kernel_rfl) (fun _ _ _ => False.elim) hHeld (Or.inl ⟨by rfl, fun W9 hW => by clear hHeld hW; simp only [jA, jB, jC]; go_simp⟩) ?_
      simp only [Act.put, jA, jB, jC, jD, jE, jF]
      refine tkH 1 (.int .i64 x.id) rfl (by kernel_rfl) (fun _ _ _ => False.elim) hHeld (Or.inl ⟨by rfl, fun W9 hW => by have h9 := HKq.out _ hW.out; clear hHeld hW; have q0 := cell_in h9 0 _ rfl; have q1 := cell_in h9 1 _ rfl; have q2 := cell_in h9 2 _ rfl; have q3 := cell_in h9 3 _ rfl; have q4 := cell_in h9 4 _ rfl; have q5 := cell_in h9 5 _ rfl; have q6 := cell_in h9 6 _ rfl; clear h9; simp only [jA, jB, jC]; go_simp⟩) ?_
      simp only [Act.put, jA, jB, jC, jD, jE, jF]
      refine tkH 2 (.pointer (some ⟨bx, 5, none⟩)) rfl (by kernel_rfl) (fun _ _ _ => False.elim) hHeld (Or.inl ⟨by rfl, fun W9 hW => by clear hHeld hW; simp only [jA, jB, jC]; go_simp⟩) ?_
      simp only [Act.put, jA, jB, jC, jD, jE, jF]
      refine tkH 3 (.int .i64 x.state) rfl (by kernel_rfl) (fun _ _ _ => False.elim) hHeld (Or.inl ⟨by rfl, fun W9 hW => by have h9 := HKq.out _ hW.out; clear hHeld hW; have q0 := cell_in h9 0 _ rfl; have q1 := cell_in h9 1 _ rfl; have q2 := cell_in h9 2 _ rfl; have q3 := cell_in h9 3 _ rfl; have q4 := cell_in h9 4 _ rfl; have q5 := cell_in h9 5 _ rfl; have q6 := cell_in h9 6 _ rfl; clear h9; simp only [jA, jB, jC]; go_simp⟩) ?_
      simp only [Act.put, jA, jB, jC, jD, jE, jF]
      refine tkH 4 (.agg #[.int .i64 x.id, .int .i64 x.table, .string ⟨x.name.toArray⟩, .slice ya x.cols.length yc, .bool x.uniq, .int .i64 x.state, .bool x.bad]) rfl (by kernel_rfl) (fun _ _ _ => False.elim) hHeld (Or.inl ⟨by rfl, fun W9 hW => by have h9 := HKq.out _ hW.out; clear hHeld hW; have q0 := cell_in h9 0 _ rfl; have q1 := cell_in h9 1 _ rfl; have q2 := cell_in h9 2 _ rfl; have q3 := cell_in h9 3 _ rfl; have q4 := cell_in h9 4 _ rfl; have q5 := cell_in h9 5 _ rfl; have q6 := cell_in h9 6 _ rfl; clear h9; simp only [jA, jB, jC]; go_simp⟩) ?_
      simp only [Act.put, jA, jB, jC, jD, jE, jF]
      refine tkH 6 (.pointer (some ⟨wo.heap.size, 0, none⟩)) rfl (by kernel_rfl) (fun _ _ _ => False.elim) hHeld (Or.inl ⟨by rfl, fun W9 hW => by clear hHeld hW; simp only [jA, jB, jC]; go_simp⟩) ?_
      simp only [Act.put, jA, jB, jC, jD, jE, jF]
      refine rdH 5 (by kernel_rfl) rfl fun K hK => ?_
      go_simp
      go_wp2_with (first | (go_at_call 28; refine (next_any Wd2 x.id x.table x.state ⟨x.name.toArray⟩ (.slice ya x.cols.length yc) x.uniq x.bad rfl).mono ?_; rintro en wE ⟨rfl, hbE⟩; have HKE := hid (hHeld.out.trans (Keep.of_below hbE)); have HOe := hid ((hbE.block _ (lt_of_block HOd.out)).trans HOd.out); clear hbE))
      refine hK.out _ _ HKE (fun hHeld => ?_)
      clear hK K
      try simp only [Act.put, jA, jB, jC, jD, jE, jF]
      have d0 := cell_in HOe.out 0 _ rfl
      have d0f := free_in HOe.out 0
      refine rdH 7 (by kernel_rfl) rfl fun K hK => ?_
      go_simp
      have HOs0 := hid (put_in HOe.out 0 (.int .i64 3))
      have HKs0 := hid (HKE.out.trans (keepS1 wE (wo.heap.size) 0 (.int .i64 3)))
      refine hK.out _ _ HKs0 (fun hHeld => ?_)
      clear hK K d0 d0f
      try simp only [Act.put, jA, jB, jC, jD, jE, jF]
      generalize wE.setCell ⟨wo.heap.size, 0, none⟩ (.int .i64 3) = wS0 at *
      refine tkH 8 (.pointer (some ⟨wo.heap.size, 13, none⟩)) rfl (by kernel_rfl) (fun _ _ _ => False.elim) hHeld (Or.inl ⟨by rfl, fun W9 hW => by clear hHeld hW; simp only [jA, jB, jC]; go_simp⟩) ?_
      simp only [Act.put, jA, jB, jC, jD, jE, jF]
      have d0 := cell_in HOs0.out 13 _ rfl
      have d0f := free_in HOs0.out 13
      refine rdH 9 (by kernel_rfl) rfl fun K hK => ?_
      go_simp
      have HOs1 := hid (put_in HOs0.out 13 (.int .i64 x.id))
      have HKs1 := hid (HKs0.out.trans (keepS1 wS0 (wo.heap.size) 13 (.int .i64 x.id)))
      refine hK.out _ _ HKs1 (fun hHeld => ?_)
      clear hK K d0 d0f
      try simp only [Act.put, jA, jB, jC, jD, jE, jF]
      generalize wS0.setCell ⟨wo.heap.size, 13, none⟩ (.int .i64 x.id) = wS1 at *
      refine tkH 10 (.pointer (some ⟨wo.heap.size, 14, none⟩)) rfl (by kernel_rfl) (fun _ _ _ => False.elim) hHeld (Or.inl ⟨by rfl, fun W9 hW => by clear hHeld hW; simp only [jA, jB, jC]; go_simp⟩) ?_
      simp only [Act.put, jA, jB, jC, jD, jE, jF]
      have d0 := cell_in HOs1.out 14 _ rfl
      have d0f := free_in HOs1.out 14
      refine rdH 11 (by kernel_rfl) rfl fun K hK => ?_
      go_simp
      have HOs2 := hid (put_in HOs1.out 14 (.int .i64 x.state))
      have HKs2 := hid (HKs1.out.trans (keepS1 wS1 (wo.heap.size) 14 (.int .i64 x.state)))
      refine hK.out _ _ HKs2 (fun hHeld => ?_)
      clear hK K d0 d0f
      try simp only [Act.put, jA, jB, jC, jD, jE, jF]
      generalize wS1.setCell ⟨wo.heap.size, 14, none⟩ (.int .i64 x.state) = wS2 at *
      refine tkH 12 (.pointer (some ⟨wo.heap.size, 15, none⟩)) rfl (by kernel_rfl) (fun _ _ _ => False.elim) hHeld (Or.inl ⟨by rfl, fun W9 hW => by clear hHeld hW; simp only [jA, jB, jC]; go_simp⟩) ?_
      simp only [Act.put, jA, jB, jC, jD, jE, jF]
      have d0 := cell_in HOs2.out 15 _ rfl
      have d0f := free_in HOs2.out 15
      refine rdH 13 (by kernel_rfl) rfl fun K hK => ?_
      go_simp
      have HOs3 := hid (put_in HOs2.out 15 (.int .i64 (nextI x.state)))
      have HKs3 := hid (HKs2.out.trans (keepS1 wS2 (wo.heap.size) 15 (.int .i64 (nextI x.state))))
      refine hK.out _ _ HKs3 (fun hHeld => ?_)
      clear hK K d0 d0f
      try simp only [Act.put, jA, jB, jC, jD, jE, jF]
      generalize wS2.setCell ⟨wo.heap.size, 15, none⟩ (.int .i64 (nextI x.state)) = wS3 at *
      refine wpAnyH_done (by kernel_rfl) (NoPanic.normal ?_) _
      clear hHeld
      go_wp2_with fail
      go_meet
      exact ⟨3, x.id, x.state, nextI x.state, HOs3, hid ((Keep.of_below HBb.out).trans HKs3.out)⟩
  case rest =>
  obtain ⟨kd, id, fr, st, HO6, HK6⟩ := hcut
  generalize wc = w6 at *
  have HZ6 := hid ((HK6.out.block _ (lt_of_block HZ5.out) (fun e => by have e9 : W.heap.size = wo.heap.size := e; have := HBL.out; omega)).trans HZ5.out)
  have HB6 : Hid (Below W.heap.size W w6) := hid (HB5.out.trans (HK6.out.below HB5.out.size (fun k e => by have e9 : k = wo.heap.size := e; have := HBL.out; omega)))
  have HC6 := hid (HC5.out.keep HK6.out (fun k e e9 => by have e8 : k = wo.heap.size := e9; have := e.2; omega))
  have HSS6 : Hid (w5.heap.size ≤ w6.heap.size) := hid HK6.out.size
  clear HO5 HK6
  have z0 := cell_in HZ6.out 0 _ rfl
  have z1 := cell_in HZ6.out 1 _ rfl
  have z2 := cell_in HZ6.out 2 _ rfl
  have z3 := cell_in HZ6.out 3 _ rfl
  go_upto_region 13 with fail
  have hb7 := (Below.refl w6.heap.size w6).alloc (Nat.le_refl _) (.cells #[.int .i64 C.ver, .int .i64 C.nxt, .slice a C.tabs.length c, .slice a' C.idxs.length c'] 25)
  have hz7 := heap_alloc_new w6 (.cells #[.int .i64 C.ver, .int .i64 C.nxt, .slice a C.tabs.length c, .slice a' C.idxs.length c'] 25)
  have hs7 : (w6.alloc (.cells #[.int .i64 C.ver, .int .i64 C.nxt, .slice a C.tabs.length c, .slice a' C.idxs.length c'] 25)).heap.size = w6.heap.size + 1 := by simp
  generalize w6.alloc (.cells #[.int .i64 C.ver, .int .i64 C.nxt, .slice a C.tabs.length c, .slice a' C.idxs.length c'] 25) = w7 at *
  have HX7 := hid hb7
  have HB7 := hid (below_step HB6.out hb7)
  have HSS7 := hid hb7.size
  have HZ7 := hid ((hb7.block _ (lt_of_block HZ6.out)).trans HZ6.out)
  have HO7 := hid ((hb7.block _ (lt_of_block HO6.out)).trans HO6.out)
  have HC7 := hid (HC6.out.old hb7)
  have HN7 := hid hz7
  have HS7 := hid hs7
  clear hb7 hz7 hs7 z0 z1 z2 z3
  have HSC := hid (catR_S HOKr.out.1)
  have HVB := hid (show -9223372036854775808 ≤ C.ver ∧ C.ver < 9223372036854775807 from ⟨by have := HOKr.out.1.ver; omega, by have := HOKr.out.2; omega⟩)
  have HNB := hid (show -9223372036854775808 ≤ C.nxt by have := HOKr.out.1.nxt; omega)
  have HCB := hid ((catR_iff C).2 HOKr.out.1)
  have HSy := hid (show W.heap.size < wo.heap.size ∧ wo.heap.size < w6.heap.size ∧ w7.heap.size = w6.heap.size + 1 from by have := HBL.out; have := HS5.out; have := HSS6.out; have := HS7.out; omega)
  have o0 := cell_in HO7.out 0 _ rfl
  have o1 := cell_in HO7.out 1 _ rfl
  have o2 := cell_in HO7.out 2 _ rfl
  have o3 := cell_in HO7.out 3 _ rfl
  have o4 := cell_in HO7.out 4 _ rfl
  have o5 := cell_in HO7.out 5 _ rfl
  have o6 := cell_in HO7.out 6 _ rfl
  have o7 := cell_in HO7.out 7 _ rfl
  have o8 := cell_in HO7.out 8 _ rfl
  have o9 := cell_in HO7.out 9 _ rfl
  have o10 := cell_in HO7.out 10 _ rfl
  have o11 := cell_in HO7.out 11 _ rfl
  have o12 := cell_in HO7.out 12 _ rfl
  have o13 := cell_in HO7.out 13 _ rfl
  have o14 := cell_in HO7.out 14 _ rfl
  have o15 := cell_in HO7.out 15 _ rfl
  have o16 := cell_in HO7.out 16 _ rfl
  have z0 := cell_in HZ7.out 0 _ rfl
  have z1 := cell_in HZ7.out 1 _ rfl
  have z2 := cell_in HZ7.out 2 _ rfl
  have z3 := cell_in HZ7.out 3 _ rfl
  have n0 := cell_in HN7.out 0 _ rfl
  have n0f := free_in HN7.out 0
  have n1 := cell_in HN7.out 1 _ rfl
  have n1f := free_in HN7.out 1
  have n2 := cell_in HN7.out 2 _ rfl
  have n2f := free_in HN7.out 2
  have n3 := cell_in HN7.out 3 _ rfl
  have n3f := free_in HN7.out 3
  go_upto_block 2 with (fail)
  go_cut [] from 79 to 121 (fun wx => ∃ na nc nb nd R, Hid (wx.heap[w6.heap.size]? = some (.cells #[.int .i64 R.ver, .int .i64 R.nxt, .slice na R.tabs.length nc, .slice nb R.idxs.length nd] 25 (0, 0))) ∧ Hid (Below w6.heap.size w6 wx) ∧ Hid (CatN (fun k => w7.heap.size ≤ k ∧ k < wx.heap.size) wx [.int .i64 R.ver, .int .i64 R.nxt, .slice na R.tabs.length nc, .slice nb R.idxs.length nd] R) ∧ Hid (SdOk C R))
  case first =>
    as_aux_lemma =>
      cases hk1 : (kd == 1) with
      | true =>
        have CD := hid (addIndex_free HC7.out HSC.out HVB.out HNB.out (HX.out.old HB7.out) HLO.out.2.1 o.name)
        go_wp2_with (first | (go_at_call 29; refine CD.out.mono ?_; rintro en w8 ⟨vs, rfl, hb8, hc8⟩; obtain ⟨na, nc, nb, nd, rfl⟩ := cat_form hc8; have HX8 := hid (HX7.out.trans (hb8.mono HX7.out.size)); have HN8 := hid ((hb8.block _ (lt_of_block HN7.out)).trans HN7.out); have HCC8 := hid hc8; have HSS8 := hid hb8.size; clear hb8 hc8 o0 o1 o2 o3 o4 o5 o6 o7 o8 o9 o10 o11 o12 o13 o14 o15 o16 z0 z1 z2 z3 n0 n0f n1 n1f n2 n2f n3 n3f; have n0 := cell_in HN8.out 0 _ rfl; have n0f := free_in HN8.out 0; have n1 := cell_in HN8.out 1 _ rfl; have n1f := free_in HN8.out 1; have n2 := cell_in HN8.out 2 _ rfl; have n2f := free_in HN8.out 2; have n3 := cell_in HN8.out 3 _ rfl; have n3f := free_in HN8.out 3))
        obtain ⟨p1, p2⟩ := put4 HN8.out (.int .i64 (addIndexM C o.x o.name).1.ver) (.int .i64 (addIndexM C o.x o.name).1.nxt) (.slice na (addIndexM C o.x o.name).1.tabs.length nc) (.slice nb (addIndexM C o.x o.name).1.idxs.length nd)
        generalize (((w8.setCell ⟨w6.heap.size, 0, none⟩ (.int .i64 (addIndexM C o.x o.name).1.ver)).setCell ⟨w6.heap.size, 1, none⟩ (.int .i64 (addIndexM C o.x o.name).1.nxt)).setCell ⟨w6.heap.size, 2, none⟩ (.slice na (addIndexM C o.x o.name).1.tabs.length nc)).setCell ⟨w6.heap.size, 3, none⟩ (.slice nb (addIndexM C o.x o.name).1.idxs.length nd) = w9 at *
        go_meet
        exact ⟨na, nc, nb, nd, _, hid p1, hid (HX8.out.trans (p2.below HX8.out.size (fun k e => by have e9 : k = w6.heap.size := e; omega))), hid ((HCC8.out.keep p2 (fun k e e9 => by have e8 : k = w6.heap.size := e9; have := e.1; have := HSy.out; omega)).mono (fun k e => ⟨e.1, by have := e.2; have := p2.size; omega⟩)), hid (sd_index HOKr.out.1 o.x o.name)⟩
      | false =>
      cases hk2 : (kd == 2) with
      | true =>
        have CD := hid (drop_any HC7.out HSC.out HVB.out HCB.out o.name)
        go_wp2_with (first | (go_at_call 30; refine CD.out.mono ?_; rintro en w8 ⟨vs, rfl, hb8, hc8⟩; obtain ⟨na, nc, nb, nd, rfl⟩ := cat_form hc8; have HX8 := hid (HX7.out.trans (hb8.mono HX7.out.size)); have HN8 := hid ((hb8.block _ (lt_of_block HN7.out)).trans HN7.out); have HCC8 := hid hc8; have HSS8 := hid hb8.size; clear hb8 hc8 o0 o1 o2 o3 o4 o5 o6 o7 o8 o9 o10 o11 o12 o13 o14 o15 o16 z0 z1 z2 z3 n0 n0f n1 n1f n2 n2f n3 n3f; have n0 := cell_in HN8.out 0 _ rfl; have n0f := free_in HN8.out 0; have n1 := cell_in HN8.out 1 _ rfl; have n1f := free_in HN8.out 1; have n2 := cell_in HN8.out 2 _ rfl; have n2f := free_in HN8.out 2; have n3 := cell_in HN8.out 3 _ rfl; have n3f := free_in HN8.out 3))
        obtain ⟨p1, p2⟩ := put4 HN8.out (.int .i64 (dropM C o.name).1.ver) (.int .i64 (dropM C o.name).1.nxt) (.slice na (dropM C o.name).1.tabs.length nc) (.slice nb (dropM C o.name).1.idxs.length nd)
        generalize (((w8.setCell ⟨w6.heap.size, 0, none⟩ (.int .i64 (dropM C o.name).1.ver)).setCell ⟨w6.heap.size, 1, none⟩ (.int .i64 (dropM C o.name).1.nxt)).setCell ⟨w6.heap.size, 2, none⟩ (.slice na (dropM C o.name).1.tabs.length nc)).setCell ⟨w6.heap.size, 3, none⟩ (.slice nb (dropM C o.name).1.idxs.length nd) = w9 at *
        go_meet
        exact ⟨na, nc, nb, nd, _, hid p1, hid (HX8.out.trans (p2.below HX8.out.size (fun k e => by have e9 : k = w6.heap.size := e; omega))), hid ((HCC8.out.keep p2 (fun k e e9 => by have e8 : k = w6.heap.size := e9; have := e.1; have := HSy.out; omega)).mono (fun k e => ⟨e.1, by have := e.2; have := p2.size; omega⟩)), hid (sd_drop HOKr.out.1 o.name)⟩
      | false =>
      cases hk3 : (kd == 3) with
      | true =>
        have CD := hid (step_any HC7.out HSC.out HVB.out HCB.out id fr st o.bad)
        go_wp2_with (first | (go_at_call 31; refine CD.out.mono ?_; rintro en w8 ⟨vs, rfl, hb8, hc8⟩; obtain ⟨na, nc, nb, nd, rfl⟩ := cat_form hc8; have HX8 := hid (HX7.out.trans (hb8.mono HX7.out.size)); have HN8 := hid ((hb8.block _ (lt_of_block HN7.out)).trans HN7.out); have HCC8 := hid hc8; have HSS8 := hid hb8.size; clear hb8 hc8 o0 o1 o2 o3 o4 o5 o6 o7 o8 o9 o10 o11 o12 o13 o14 o15 o16 z0 z1 z2 z3 n0 n0f n1 n1f n2 n2f n3 n3f; have n0 := cell_in HN8.out 0 _ rfl; have n0f := free_in HN8.out 0; have n1 := cell_in HN8.out 1 _ rfl; have n1f := free_in HN8.out 1; have n2 := cell_in HN8.out 2 _ rfl; have n2f := free_in HN8.out 2; have n3 := cell_in HN8.out 3 _ rfl; have n3f := free_in HN8.out 3))
        obtain ⟨p1, p2⟩ := put4 HN8.out (.int .i64 (stepM C id fr st o.bad).1.ver) (.int .i64 (stepM C id fr st o.bad).1.nxt) (.slice na (stepM C id fr st o.bad).1.tabs.length nc) (.slice nb (stepM C id fr st o.bad).1.idxs.length nd)
        generalize (((w8.setCell ⟨w6.heap.size, 0, none⟩ (.int .i64 (stepM C id fr st o.bad).1.ver)).setCell ⟨w6.heap.size, 1, none⟩ (.int .i64 (stepM C id fr st o.bad).1.nxt)).setCell ⟨w6.heap.size, 2, none⟩ (.slice na (stepM C id fr st o.bad).1.tabs.length nc)).setCell ⟨w6.heap.size, 3, none⟩ (.slice nb (stepM C id fr st o.bad).1.idxs.length nd) = w9 at *
        go_meet
        exact ⟨na, nc, nb, nd, _, hid p1, hid (HX8.out.trans (p2.below HX8.out.size (fun k e => by have e9 : k = w6.heap.size := e; omega))), hid ((HCC8.out.keep p2 (fun k e e9 => by have e8 : k = w6.heap.size := e9; have := e.1; have := HSy.out; omega)).mono (fun k e => ⟨e.1, by have := e.2; have := p2.size; omega⟩)), hid (sd_step HOKr.out.1 id fr st o.bad)⟩
      | false =>
      have CD := hid (addTable_free HC7.out HSC.out HVB.out HNB.out (HT.out.old HB7.out) HLO.out.1)
      go_wp2_with (first | (go_at_call 32; refine CD.out.mono ?_; rintro en w8 ⟨vs, rfl, hb8, hc8⟩; obtain ⟨na, nc, nb, nd, rfl⟩ := cat_form hc8; have HX8 := hid (HX7.out.trans (hb8.mono HX7.out.size)); have HN8 := hid ((hb8.block _ (lt_of_block HN7.out)).trans HN7.out); have HCC8 := hid hc8; have HSS8 := hid hb8.size; clear hb8 hc8 o0 o1 o2 o3 o4 o5 o6 o7 o8 o9 o10 o11 o12 o13 o14 o15 o16 z0 z1 z2 z3 n0 n0f n1 n1f n2 n2f n3 n3f; have n0 := cell_in HN8.out 0 _ rfl; have n0f := free_in HN8.out 0; have n1 := cell_in HN8.out 1 _ rfl; have n1f := free_in HN8.out 1; have n2 := cell_in HN8.out 2 _ rfl; have n2f := free_in HN8.out 2; have n3 := cell_in HN8.out 3 _ rfl; have n3f := free_in HN8.out 3))
      obtain ⟨p1, p2⟩ := put4 HN8.out (.int .i64 (addTableM C o.t).1.ver) (.int .i64 (addTableM C o.t).1.nxt) (.slice na (addTableM C o.t).1.tabs.length nc) (.slice nb (addTableM C o.t).1.idxs.length nd)
      generalize (((w8.setCell ⟨w6.heap.size, 0, none⟩ (.int .i64 (addTableM C o.t).1.ver)).setCell ⟨w6.heap.size, 1, none⟩ (.int .i64 (addTableM C o.t).1.nxt)).setCell ⟨w6.heap.size, 2, none⟩ (.slice na (addTableM C o.t).1.tabs.length nc)).setCell ⟨w6.heap.size, 3, none⟩ (.slice nb (addTableM C o.t).1.idxs.length nd) = w9 at *
      go_meet
      exact ⟨na, nc, nb, nd, _, hid p1, hid (HX8.out.trans (p2.below HX8.out.size (fun k e => by have e9 : k = w6.heap.size := e; omega))), hid ((HCC8.out.keep p2 (fun k e e9 => by have e8 : k = w6.heap.size := e9; have := e.1; have := HSy.out; omega)).mono (fun k e => ⟨e.1, by have := e.2; have := p2.size; omega⟩)), hid (sd_table HOKr.out.1 o.t)⟩
  case rest =>
  obtain ⟨na, nc, nb, nd, R, HN8, HX8, HR8, HSD⟩ := hcut
  generalize wc = w8 at *
  clear o0 o1 o2 o3 o4 o5 o6 o7 o8 o9 o10 o11 o12 o13 o14 o15 o16 z0 z1 z2 z3 n0 n0f n1 n1f n2 n2f n3 n3f
  have HZ8 := hid ((HX8.out.block _ (lt_of_block HZ6.out)).trans HZ6.out)
  have HB8 := hid (below_step HB6.out HX8.out)
  have HC8 := hid (HC6.out.old HX8.out)
  clear HZ7 HB7 HC7 HO7 HN7 HO6 HZ6 HC6
  have HRW := hid (catR_W HSD.out.ok (by have := HSD.out.ver; have := HVB.out; omega))
  have CR := rRight_any HR8.out HRW.out
  rw [(catR_iff R).2 HSD.out.ok] at CR
  have hvw : IntKind.i64.wrap (C.ver + 1) = C.ver + 1 := by rw [IntKind.wrap_i64]; have := HVB.out; omega
  go_upto_region 21 with fail
  have z0 := cell_in HZ8.out 0 _ rfl
  have z1 := cell_in HZ8.out 1 _ rfl
  have z2 := cell_in HZ8.out 2 _ rfl
  have z3 := cell_in HZ8.out 3 _ rfl
  have n0 := cell_in HN8.out 0 _ rfl
  have n1 := cell_in HN8.out 1 _ rfl
  have n2 := cell_in HN8.out 2 _ rfl
  have n3 := cell_in HN8.out 3 _ rfl
  go_cut [138] from 121 to 138 (fun s wx => s = .bool false ∧ Hid (Below w8.heap.size w8 wx))
  case first =>
    as_aux_lemma =>
      rcases HSD.out.ver with hv | hv
      · have e1 : (R.ver == C.ver) = true := by simpa using hv
        have HV := hid hv
        clear hv
        go_wp2_with (first | (go_at_call 17; refine CR.mono ?_; rintro en w9 ⟨rfl, hbE⟩; have HX9 := hid hbE; clear CR hbE n0 n1 n2 n3 z0 z1 z2 z3; have HZ9 := hid ((HX9.out.block _ (lt_of_block HZ8.out)).trans HZ8.out); have HN9 := hid ((HX9.out.block _ (lt_of_block HN8.out)).trans HN8.out); have z0 := cell_in HZ9.out 0 _ rfl; have n0 := cell_in HN9.out 0 _ rfl))
        go_meet
        exact ⟨rfl, HX9⟩
      · have hv2 : ¬ R.ver = C.ver := by omega
        have e1 : (R.ver == C.ver) = false := by simpa using hv2
        have e2 : (R.ver == C.ver + 1) = true := by simpa using hv
        have HV := hid hv
        clear hv
        go_wp2_with (first | (go_at_call 17; refine CR.mono ?_; rintro en w9 ⟨rfl, hbE⟩; have HX9 := hid hbE; clear CR hbE n0 n1 n2 n3 z0 z1 z2 z3; have HZ9 := hid ((HX9.out.block _ (lt_of_block HZ8.out)).trans HZ8.out); have HN9 := hid ((HX9.out.block _ (lt_of_block HN8.out)).trans HN8.out); have z0 := cell_in HZ9.out 0 _ rfl; have n0 := cell_in HN9.out 0 _ rfl))
        go_meet
        exact ⟨congrArg Value.bool (by rw [HV.out]; simp), HX9⟩
  case rest =>
    as_aux_lemma =>
      obtain ⟨rfl, HX9⟩ := hcut
      generalize wc = w9 at *
      clear n0 n1 n2 n3 z0 z1 z2 z3 hvw CR
      have HZ9 := hid ((HX9.out.block _ (lt_of_block HZ8.out)).trans HZ8.out)
      have HN9 := hid ((HX9.out.block _ (lt_of_block HN8.out)).trans HN8.out)
      have HB9 := hid (below_step HB8.out HX9.out)
      have HC9 := hid (HC8.out.old HX9.out)
      have HR9 := hid (HR8.out.old HX9.out)
      have HSS9 := hid HX9.out.size
      have HSS8 := hid HX8.out.size
      have HLB := hid (lt_of_block HN8.out)
      clear HZ8 HN8 HB8 HC8 HX8 HX9
      obtain ⟨vt, vi, e, -, hlr, -, -⟩ := HR9.out
      injection e with e1 e; injection e with e2 e; injection e with e3 e; injection e with e4 e
      subst e3 e4
      obtain ⟨vt2, vi2, e, -, hlc, -, -⟩ := HC9.out
      injection e with e1 e; injection e with e2 e; injection e with e3 e; injection e with e4 e
      subst e3 e4
      obtain ⟨rao, rcc, e5, -, -, hrx⟩ := ix_cells hlr
      injection e5 with e6 e7 e8
      subst e6 e8
      obtain ⟨cao, ccc, e5, -, -, hcx⟩ := ix_cells hlc
      injection e5 with e6 e7 e8
      subst e6 e8
      have HRX := hid hrx
      have HCX := hid hcx
      have HRL := hid HSD.out.ok.len.2
      have HCL := hid HOKr.out.1.len.2
      clear e e1 e2 e7 hrx hcx hlr hlc
      go_wp2_with fail
      go_loopw [9] (fun j wr => ∃ q : Nat, q ≤ 20 ∧ j = .int .i64 (q : Int) ∧ Hid (Below w9.heap.size w9 wr)) (fun j _ => 20 - (intOf j).toNat)
      case atStart => exact ⟨0, by omega, rfl, hid (Below.refl _ _)⟩
      case round =>
      obtain ⟨q, hq20, rfl, HBQ⟩ := hrel
      have HZW := hid ((HBQ.out.block _ (lt_of_block HZ9.out)).trans HZ9.out)
      have HNW := hid ((HBQ.out.block _ (lt_of_block HN9.out)).trans HN9.out)
      by_cases hlt : q < 20
      case neg =>
        as_aux_lemma =>
          obtain rfl : q = 20 := by omega
          have n0 := cell_in HNW.out 0 _ rfl
          have n1 := cell_in HNW.out 1 _ rfl
          have n2 := cell_in HNW.out 2 _ rfl
          have n3 := cell_in HNW.out 3 _ rfl
          have z0 := cell_in HZW.out 0 _ rfl
          have z0f := free_in HZW.out 0
          have z1 := cell_in HZW.out 1 _ rfl
          have z1f := free_in HZW.out 1
          have z2 := cell_in HZW.out 2 _ rfl
          have z2f := free_in HZW.out 2
          have z3 := cell_in HZW.out 3 _ rfl
          have z3f := free_in HZW.out 3
          have hk59 : k ≤ 60 := hk60
          go_wp2_with fail
          obtain ⟨p1, p2⟩ := put4 HZW.out (.int .i64 R.ver) (.int .i64 R.nxt) (.slice na R.tabs.length nc) (.slice nb R.idxs.length nd)
          generalize (((wr.setCell ⟨W.heap.size, 0, none⟩ (.int .i64 R.ver)).setCell ⟨W.heap.size, 1, none⟩ (.int .i64 R.nxt)).setCell ⟨W.heap.size, 2, none⟩ (.slice na R.tabs.length nc)).setCell ⟨W.heap.size, 3, none⟩ (.slice nb R.idxs.length nd) = w10 at *
          go_roundw
          case rel => exact ⟨k + 1, na, nc, nb, nd, R, by omega, by go_num, by omega, hid p1, hid ((below_step HB9.out HBQ.out).trans (p2.below (below_step HB9.out HBQ.out).size (fun k e => by have e9 : k = W.heap.size := e; omega))), hid (((HR9.out.old HBQ.out).keep p2 (fun k e e9 => by have e8 : k = W.heap.size := e9; have := e.1; have := HSy.out; omega)).mono (fun k e => ⟨by have := e.1; have := HSy.out; omega, by have := e.2; have := HSS9.out; have := HBQ.out.size; have := p2.size; omega⟩)), hid ⟨HSD.out.ok, by have := HSD.out.ver; have := HOKr.out.2; omega⟩⟩
          case measure => simp [intOf]; omega
      case pos  =>
      have hqi : (q : Int) < 20 := by omega
      have z3 := cell_in HZW.out 3 _ rfl
      have n3 := cell_in HNW.out 3 _ rfl
      have hr10 := HRL.out
      have hc10 := HCL.out
      go_upto_block 5 with (fail)
      go_cut [10] from 143 to 173 (fun s wx => ∃ z : Int, s = .int .i64 z ∧ wx = wr)
      case first =>
        as_aux_lemma =>
          by_cases ha : q < R.idxs.length
          · obtain ⟨u, hu⟩ : ∃ u, R.idxs[q]? = some u := ⟨_, List.getElem?_eq_getElem ha⟩
            obtain ⟨b, off, ub, uc, hnb, -, g0, -⟩ := HRX.out q u hu
            have g0 := (HBQ.out.cell (block_cell g0)).trans g0
            subst hnb
            have hai : (q : Int) < (R.idxs.length : Int) := by omega
            go_wp2_with fail
            go_meet
            exact ⟨_, rfl, rfl⟩
          · have hai : ¬ (q : Int) < (R.idxs.length : Int) := by omega
            by_cases hb : 10 ≤ q
            · obtain ⟨m, hm⟩ : ∃ m, m + 10 = q := ⟨q - 10, by omega⟩
              have hqm : IntKind.i64.wrap ((q : Int) - 10) = (m : Int) := by rw [IntKind.wrap_i64]; omega
              have hbi : (10 : Int) ≤ (q : Int) := by omega
              by_cases hc : m < C.idxs.length
              · obtain ⟨u, hu⟩ : ∃ u, C.idxs[m]? = some u := ⟨_, List.getElem?_eq_getElem hc⟩
                obtain ⟨b, off, ub, uc, hnb, -, g0, -⟩ := HCX.out m u hu
                have g0 := (HBQ.out.cell (block_cell g0)).trans g0
                subst hnb
                have hci : (m : Int) < (C.idxs.length : Int) := by omega
                have HM := hid hm
                clear hm
                go_wp2_with fail
                go_meet
                exact ⟨_, rfl, rfl⟩
              · have hci : ¬ (m : Int) < (C.idxs.length : Int) := by omega
                have HM := hid hm
                clear hm
                go_wp2_with fail
                go_roundw
                · exact ⟨q + 1, by omega, by go_num, HBQ⟩
                · simp [intOf]; omega
            · have hbi : ¬ (10 : Int) ≤ (q : Int) := by omega
              go_wp2_with fail
              go_roundw
              · exact ⟨q + 1, by omega, by go_num, HBQ⟩
              · simp [intOf]; omega
      case rest =>
        as_aux_lemma =>
          obtain ⟨zid, rfl, hwc⟩ := hcut
          rw [hwc]
          clear hwc z3 n3 hr10 hc10
          have HKS : Hid (∀ V, Below wr.heap.size wr V → V.cell? ⟨W.heap.size, 0, none⟩ = some (.int .i64 C.ver) ∧ V.cell? ⟨W.heap.size, 1, none⟩ = some (.int .i64 C.nxt) ∧ V.cell? ⟨W.heap.size, 2, none⟩ = some (.slice a C.tabs.length c) ∧ V.cell? ⟨W.heap.size, 3, none⟩ = some (.slice a' C.idxs.length c') ∧ V.cell? ⟨w6.heap.size, 0, none⟩ = some (.int .i64 R.ver) ∧ V.cell? ⟨w6.heap.size, 1, none⟩ = some (.int .i64 R.nxt) ∧ V.cell? ⟨w6.heap.size, 2, none⟩ = some (.slice na R.tabs.length nc) ∧ V.cell? ⟨w6.heap.size, 3, none⟩ = some (.slice nb R.idxs.length nd)) := hid (fun V hV => by
            have h1 := (hV.block _ (lt_of_block HZW.out)).trans HZW.out
            have h2 := (hV.block _ (lt_of_block HNW.out)).trans HNW.out
            exact ⟨cell_in h1 0 _ rfl, cell_in h1 1 _ rfl, cell_in h1 2 _ rfl, cell_in h1 3 _ rfl, cell_in h2 0 _ rfl, cell_in h2 1 _ rfl, cell_in h2 2 _ rfl, cell_in h2 3 _ rfl⟩)
          have CS1 : Hid (∀ V, Below wr.heap.size wr V → Calls Try.prog 33 #[.agg #[.int .i64 C.ver, .int .i64 C.nxt, .slice a C.tabs.length c, .slice a' C.idxs.length c'], .int .i64 zid] V (fun e w' => e = .returned (.int .i64 (stC C zid)) ∧ Below V.heap.size V w')) := hid (fun V hV => stateOf_any (HC9.out.old (HBQ.out.trans (hV.mono HBQ.out.size))) zid)
          have CS2 : Hid (∀ V, Below wr.heap.size wr V → Calls Try.prog 33 #[.agg #[.int .i64 R.ver, .int .i64 R.nxt, .slice na R.tabs.length nc, .slice nb R.idxs.length nd], .int .i64 zid] V (fun e w' => e = .returned (.int .i64 (stC R zid)) ∧ Below V.heap.size V w')) := hid (fun V hV => stateOf_any (HR9.out.old (HBQ.out.trans (hV.mono HBQ.out.size))) zid)
          have HTR := hid (HSD.out.tr zid)
          generalize stC C zid = s1 at *
          generalize stC R zid = s2 at *
          go_upto_region 31 with fail
          refine wp_region_noPanic ?_
          refine wp_region_held_drew (S := fun V => Hid (Below wr.heap.size wr V)) (by kernel_rfl) (hid (Below.drew (Below.refl _ _))) (fun hHeld => ?_)
          generalize wr.drew = Wd at *
          refine tkH 0 (.agg #[.int .i64 C.ver, .int .i64 C.nxt, .slice a C.tabs.length c, .slice a' C.idxs.length c']) rfl (by kernel_rfl) (fun _ _ _ => False.elim) hHeld (Or.inl ⟨by rfl, fun W9 hW => by obtain ⟨q0, q1, q2, q3, q4, q5, q6, q7⟩ := HKS.out _ hW.out; clear hHeld hW; simp only [jA, jB, jC]; go_simp⟩) ?_
          simp only [Act.put, jA, jB, jC, jD, jE, jF]
          refine tkH 1 (.int .i64 zid) rfl (by kernel_rfl) (fun _ _ _ => False.elim) hHeld (Or.inl ⟨by rfl, fun W9 hW => by clear hHeld hW; simp only [jA, jB, jC]; go_simp⟩) ?_
          simp only [Act.put, jA, jB, jC, jD, jE, jF]
          refine tkH 3 (.agg #[.int .i64 R.ver, .int .i64 R.nxt, .slice na R.tabs.length nc, .slice nb R.idxs.length nd]) rfl (by kernel_rfl) (fun _ _ _ => False.elim) hHeld (Or.inl ⟨by rfl, fun W9 hW => by obtain ⟨q0, q1, q2, q3, q4, q5, q6, q7⟩ := HKS.out _ hW.out; clear hHeld hW; simp only [jA, jB, jC]; go_simp⟩) ?_
          simp only [Act.put, jA, jB, jC, jD, jE, jF]
          refine tkH 4 (.int .i64 zid) rfl (by kernel_rfl) (fun _ _ _ => False.elim) hHeld (Or.inl ⟨by rfl, fun W9 hW => by clear hHeld hW; simp only [jA, jB, jC]; go_simp⟩) ?_
          simp only [Act.put, jA, jB, jC, jD, jE, jF]
          refine rdH 2 (by kernel_rfl) rfl fun K hK => ?_
          go_simp
          go_wp2_with (first | (go_at_call 33; refine (CS1.out _ hHeld.out).mono ?_; rintro en ws1 ⟨rfl, hbE⟩; have HBE := hid (below_step hHeld.out hbE); clear hbE))
          clear hHeld
          refine hK.out _ _ HBE (fun hHeld => ?_)
          clear hK K HBE
          try simp only [Act.put, jA, jB, jC, jD, jE, jF]
          refine rdH 5 (by kernel_rfl) rfl fun K hK => ?_
          go_simp
          go_wp2_with (first | (go_at_call 33; refine (CS2.out _ hHeld.out).mono ?_; rintro en ws2 ⟨rfl, hbE⟩; have HBE := hid (below_step hHeld.out hbE); clear hbE))
          clear hHeld
          refine hK.out _ _ HBE (fun hHeld => ?_)
          clear hK K HBE
          try simp only [Act.put, jA, jB, jC, jD, jE, jF]
          refine tkH 6 (.int .i64 s1) rfl (by kernel_rfl) (fun _ _ _ => False.elim) hHeld (Or.inl ⟨by rfl, fun W9 hW => by clear hHeld hW; simp only [jA, jB, jC]; go_simp⟩) ?_
          simp only [Act.put, jA, jB, jC, jD, jE, jF]
          refine tkH 7 (.int .i64 s2) rfl (by kernel_rfl) (fun _ _ _ => False.elim) hHeld (Or.inl ⟨by rfl, fun W9 hW => by clear hHeld hW; simp only [jA, jB, jC]; go_simp⟩) ?_
          simp only [Act.put, jA, jB, jC, jD, jE, jF]
          refine wpAnyH_done (by kernel_rfl) (NoPanic.normal ?_) _
          have HXQ := hid hHeld.out
          clear hHeld HKS CS1 CS2
          have fr0 : readsI 0 = false := by decide
          have fr1 : readsI 1 = false := by decide
          have fr2 : readsI 2 = false := by decide
          have fr3 : readsI 3 = false := by decide
          have fr4 : readsI 4 = true := by decide
          have fr5 : readsI 5 = false := by decide
          have fr6 : readsI 6 = false := by decide
          have fr7 : readsI 7 = false := by decide
          have fw0 : writesI 0 = false := by decide
          have fw1 : writesI 1 = false := by decide
          have fw2 : writesI 2 = true := by decide
          have fw3 : writesI 3 = true := by decide
          have fw4 : writesI 4 = true := by decide
          have fw5 : writesI 5 = true := by decide
          have fw6 : writesI 6 = false := by decide
          have fw7 : writesI 7 = false := by decide
          have fd0 : deletesI 0 = false := by decide
          have fd1 : deletesI 1 = true := by decide
          have fd2 : deletesI 2 = true := by decide
          have fd3 : deletesI 3 = true := by decide
          have fd4 : deletesI 4 = true := by decide
          have fd5 : deletesI 5 = true := by decide
          have fd6 : deletesI 6 = true := by decide
          have fd7 : deletesI 7 = true := by decide
          have htr := HTR.out
          unfold TrI trL at htr
          simp only [List.mem_cons, List.not_mem_nil, or_false, Prod.mk.injEq] at htr
          clear HTR
          rcases htr with ⟨rfl, rfl⟩ | ⟨rfl, rfl⟩ | ⟨rfl, rfl⟩ | ⟨rfl, rfl⟩ | ⟨rfl, rfl⟩ | ⟨rfl, rfl⟩ | ⟨rfl, rfl⟩ | ⟨rfl, rfl⟩ | ⟨rfl, rfl⟩ | ⟨rfl, rfl⟩ | ⟨rfl, rfl⟩ | ⟨rfl, rfl⟩ | ⟨rfl, rfl⟩ | ⟨rfl, rfl⟩ | ⟨rfl, rfl⟩ | ⟨rfl, rfl⟩ | ⟨rfl, rfl⟩ | ⟨rfl, rfl⟩ | ⟨rfl, rfl⟩
          all_goals
            go_wp2_with (first | (go_at_call 34; refine (reads_any _ _).mono ?_; rintro en wq ⟨rfl, hbE⟩; have HXP := hid (below_step HXQ.out hbE); clear HXQ hbE; have HXQ := hid HXP.out; clear HXP) | (go_at_call 35; refine (writes_any _ _).mono ?_; rintro en wq ⟨rfl, hbE⟩; have HXP := hid (below_step HXQ.out hbE); clear HXQ hbE; have HXQ := hid HXP.out; clear HXP) | (go_at_call 36; refine (deletes_any _ _).mono ?_; rintro en wq ⟨rfl, hbE⟩; have HXP := hid (below_step HXQ.out hbE); clear HXQ hbE; have HXQ := hid HXP.out; clear HXP))
            go_roundw
            · exact ⟨q + 1, by omega, by go_num, hid (HBQ.out.trans (HXQ.out.mono HBQ.out.size))⟩
            · simp [intOf]; omega
end Go.Proofs.Ytafcbelkhhjcoaa.schemaSides
