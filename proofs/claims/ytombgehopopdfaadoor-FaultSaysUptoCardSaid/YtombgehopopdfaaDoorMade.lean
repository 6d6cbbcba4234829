/-
  THE LAWS' OWN 'made'.
-/
import Derived.Test.YtombgehopopdfaaDoorWhere
import Derived.Deep.RegionHeld3
import Derived.Deep.AppendLies
import Derived.BigRegion
import Derived.Deep.CutRange
import Derived.Deep.CutBlock
set_option linter.unusedVariables false
namespace Go.Proofs.YtombgehopopdfaaDoor
open Go.RowKit Go.Extern.Stop Go.Stop Go.Extern

/-- 'x[:m]'. -/
theorem Strs.head {w : World} {ao : Option Addr} {n c : Nat} {l : List ByteArray} (h : Strs w (.slice ao n c) l) (m : Nat) (hm : m ≤ n) : Strs w (.slice ao m c) (l.take m) := by
  obtain ⟨ao', c', he, h1, h2⟩ := h
  simp only [Value.slice.injEq] at he
  obtain ⟨rfl, rfl, rfl⟩ := he
  refine ⟨ao, c, by rw [List.length_take, Nat.min_eq_left hm], fun h => by rw [h1 h]; simp, fun a ha j s hs => h2 a ha j s ?_⟩
  rw [List.getElem?_take] at hs
  split at hs
  · exact hs
  · cases hs

def firstName : ByteArray := ⟨#[102, 105, 114, 115, 116]⟩

theorem alloc_at' {w : World} {n : Nat} (o : Obj) (h : n = w.heap.size) : (w.alloc o).heap[n]? = some o := by subst h; exact alloc_at w o
theorem one_own {w : World} {g base : Nat} {s : ByteArray} (h : w.heap[g]? = some (.cells #[.string s] 9 (0, 0))) (hb : base ≤ g) : w.ownsRow base 9 1 (.slice (some ⟨g, 0, none⟩) 1 1) 1 [.string s] :=
  ⟨rfl, .inr ⟨g, 1, #[.string s], rfl, hb, h, Nat.le_refl _, by decide, rfl, rfl⟩⟩
theorem four_cells {w : World} {b : Nat} {p q r s : Value} {t : TypeId} (h : w.heap[b]? = some (.cells #[p, q, r, s] t (0, 0))) :
    w.cell? ⟨b, 0, none⟩ = some p ∧ w.cell? ⟨b, 1, none⟩ = some q ∧ w.cell? ⟨b, 2, none⟩ = some r ∧ w.cell? ⟨b, 3, none⟩ = some s ∧ (∀ j, w.frozen? ⟨b, j, none⟩ = false) := by
  simp [World.cell?, World.frozen?, h]
theorem four_set3 {w : World} {b : Nat} {p q r s x : Value} {t : TypeId} (h : w.heap[b]? = some (.cells #[p, q, r, s] t (0, 0))) : (w.setCell ⟨b, 3, none⟩ x).heap[b]? = some (.cells #[p, q, r, x] t (0, 0)) := by
  have hlt := lt_of_block h
  have h' : w.heap[b] = .cells #[p, q, r, s] t (0, 0) := by simpa [Array.getElem?_eq_getElem hlt] using h
  show (w.heap.modify b _)[b]? = _
  rw [Array.getElem?_eq_getElem (by simpa using hlt), Array.getElem_modify_self, h']
  rfl
theorem four_set0 {w : World} {b : Nat} {p q r s x : Value} {t : TypeId} (h : w.heap[b]? = some (.cells #[p, q, r, s] t (0, 0))) : (w.setCell ⟨b, 0, none⟩ x).heap[b]? = some (.cells #[x, q, r, s] t (0, 0)) := by
  have hlt := lt_of_block h
  have h' : w.heap[b] = .cells #[p, q, r, s] t (0, 0) := by simpa [Array.getElem?_eq_getElem hlt] using h
  show (w.heap.modify b _)[b]? = _
  rw [Array.getElem?_eq_getElem (by simpa using hlt), Array.getElem_modify_self, h']
  rfl

theorem four_set1 {w : World} {b : Nat} {p q r s x : Value} {t : TypeId} (h : w.heap[b]? = some (.cells #[p, q, r, s] t (0, 0))) : (w.setCell ⟨b, 1, none⟩ x).heap[b]? = some (.cells #[p, x, r, s] t (0, 0)) := by
  have hlt := lt_of_block h
  have h' : w.heap[b] = .cells #[p, q, r, s] t (0, 0) := by simpa [Array.getElem?_eq_getElem hlt] using h
  show (w.heap.modify b _)[b]? = _
  rw [Array.getElem?_eq_getElem (by simpa using hlt), Array.getElem_modify_self, h']
  rfl
theorem four_set2 {w : World} {b : Nat} {p q r s x : Value} {t : TypeId} (h : w.heap[b]? = some (.cells #[p, q, r, s] t (0, 0))) : (w.setCell ⟨b, 2, none⟩ x).heap[b]? = some (.cells #[p, q, x, s] t (0, 0)) := by
  have hlt := lt_of_block h
  have h' : w.heap[b] = .cells #[p, q, r, s] t (0, 0) := by simpa [Array.getElem?_eq_getElem hlt] using h
  show (w.heap.modify b _)[b]? = _
  rw [Array.getElem?_eq_getElem (by simpa using hlt), Array.getElem_modify_self, h']
  rfl
/-- All four cells are written. -/
def put4 (w : World) (b : Nat) (p q r s : Value) : World := (((w.setCell ⟨b, 0, none⟩ p).setCell ⟨b, 1, none⟩ q).setCell ⟨b, 2, none⟩ r).setCell ⟨b, 3, none⟩ s
theorem put4_at {w : World} {b : Nat} {p q r s p' q' r' s' : Value} {t : TypeId} (h : w.heap[b]? = some (.cells #[p, q, r, s] t (0, 0))) : (put4 w b p' q' r' s').heap[b]? = some (.cells #[p', q', r', s'] t (0, 0)) :=
  four_set3 (four_set2 (four_set1 (four_set0 h)))
theorem put4_below {w0 w : World} {B b : Nat} (h : Below B w0 w) (hb : B ≤ b) (p q r s : Value) : Below B w0 (put4 w b p q r s) :=
  (((h.setCell (p := ⟨b, 0, none⟩) hb p).setCell (p := ⟨b, 1, none⟩) hb q).setCell (p := ⟨b, 2, none⟩) hb r).setCell (p := ⟨b, 3, none⟩) hb s
theorem put4_grown (w : World) (b : Nat) (p q r s : Value) : w.grownBy (put4 w b p q r s) (some b) :=
  grown_trans (grown_trans (grown_trans (grown_set w ⟨b, 0, none⟩ p) (grown_set _ ⟨b, 1, none⟩ q)) (grown_set _ ⟨b, 2, none⟩ r)) (grown_set _ ⟨b, 3, none⟩ s)

/-- What stands in 'e' and 'c' ahead of the loop. -/
def Begun (w wx : World) (e : Value) (code : Int) (o : ByteArray) : Prop :=
  (e = .nilIface ∧ ∃ kk, wx.heap[w.heap.size + 1]? = some (.cells #[.slice none 0 0, .int .i64 code, .string o, .int .i64 kk] 27 (0, 0))) ∨
  ∃ (l0 : List ByteArray) (d : End) (kk : Int) (xv : Value), Chain wx l0 d e ∧ wx.heap[w.heap.size + 1]? = some (.cells #[xv, .int .i64 code, .string o, .int .i64 kk] 27 (0, 0)) ∧
    wx.ownsRow (w.heap.size + 2) 9 1 xv l0.length (l0.map Value.string) ∧ l0.length ≤ 1 ∧ (∀ s ∈ l0, s = firstName) ∧ (xv = .slice none 0 0 ∨ 0 < l0.length) ∧ (kk = 1 ∧ d = .code code ∧ code ≠ 0 ∨ kk = 2 ∧ d = .text o)

/-- 'append(v, x...)' at a step of a region that draws, v and x the call's own rows of strings. -/
theorem step_app {w : World} {ops : Array Oper} {o : Oper} {a : Act} {K : Act → World → Prop} {Q : Exit → Act → World → Prop} {E : Prop} (hgd : o.guard = none) (s x : Operand)
    (ho : o.op = .call { callee := .builtin .append, args := #[s, x], argTypes := #[23, 23] })
    (base : Nat) (v : Value) (n : Nat) (xs : List Value) (hs : a.eval s = v) (hown : w.ownsRow base 9 1 v n xs) (hn : 0 < n)
    (b2 : Nat) (xv : Value) (l : List ByteArray) (hx : a.eval x = xv) (hxo : w.ownsRow b2 9 1 xv l.length (l.map Value.string)) (hxn : xv = .slice none 0 0 ∨ 0 < l.length) (h63 : n + l.length ≤ 1000) (hbase : base ≤ w.heap.size)
    (h : ∀ g cap w', w'.ownsRow base 9 1 (.slice (some ⟨g, 0, none⟩) (n + l.length) cap) (n + l.length) (xs ++ l.map Value.string) → w.grownBy w' v.ownBlock → K (a.put o.dst (.slice (some ⟨g, 0, none⟩) (n + l.length) cap)) w') :
    if Region.wanted o (yielded ops a.tmps) = true then Oper.wp Tryd.prog o a w K Q else E := by
  obtain ⟨i0, hi, hz0, hz1, hz2⟩ := info_parts strInfo
  rcases hxo.2 with ⟨rfl, hl0⟩ | ⟨g', cap', cur, rfl, hb, hg, hnc, hc, hsz, ht⟩
  · obtain rfl : l = [] := List.eq_nil_of_length_eq_zero hl0
    have hw : Region.wanted o (yielded ops a.tmps) = true := by simp [Region.wanted, hgd]
    rw [if_pos hw]
    obtain ⟨g, cap, rfl, hbg, hlt⟩ := hown.form hn
    have hrun := run_append_owned_none (P := Tryd.prog) (w := w) base 23 o.type 9 i0 1 Tryd.underlying23 hi _ n xs hown
    unfold Oper.wp execOp
    simp only [ho, resolve, invoke, builtin, Sem.run_bind, Sem.run_pure, Result.andThen_ok, List.map_toArray, List.map_cons, List.map_nil, hs, hx, hrun]
    exact h g cap w (by simpa using hown) (World.grownBy.refl _ _)
  · have hl : 0 < l.length := by
      rcases hxn with h | h
      · cases h
      · exact h
    refine step_append_lies w hgd s x 23 ho base 9 i0 (.string .empty) 1 16 Tryd.underlying23 hi hz0 hz1 hz2 rfl (by decide) v n xs hs hown ⟨g', 0, none⟩ l.length cap' (l.map Value.string) hx (by simp) ?_ ?_ hl (by unfold maxLen; omega) (by omega) hbase _ rfl ?_
    · intro j u hj
      rw [WideShapes.add_plain, Nat.zero_add, cell_of_row w g' j cur 9 (0, 0) hg]
      rw [← ht, List.getElem?_take] at hj
      split at hj
      · simpa using hj
      · cases hj
    · intro u hu
      obtain ⟨_, _, rfl⟩ := List.mem_map.1 hu
      rfl
    · intro g cap w' h1 h2 h3 h4
      exact h g cap w' h1 h2

theorem grown_undrew {w w' : World} {row : Option Nat} (h : w.drew.grownBy w' row) : w.grownBy w' row := ⟨h.os, h.tape, h.output, h.size, h.block⟩

/-- What 'made' gives. -/
def MadeIs (w : World) (code : Int) (o : ByteArray) (l : List ByteArray) (e : Ending) (w' : World) : Prop :=
  Below w.heap.size w w' ∧ (e = .returned (.tuple #[.nilIface, chainV (.slice none 0 0) code o 0]) ∨
    ∃ (l' : List ByteArray) (d : End) (kk : Int) (v xv : Value), e = .returned (.tuple #[v, chainV xv code o kk]) ∧ Chain w' l' d v ∧ Strs w' xv l' ∧ l'.length ≤ 13 ∧ (∀ s ∈ l', s = firstName ∨ s ∈ l) ∧
      (kk = 1 ∧ d = .code code ∧ code ≠ 0 ∨ kk = 2 ∧ d = .text o))

theorem Chain.drew {w w' : World} {l : List ByteArray} {d : End} {v : Value} (h : Chain w l d v) (hk : Keeps w w') : Chain w' l d v := h.kept hk

set_option maxHeartbeats 4000000 in
set_option maxRecDepth 100000 in
theorem made_any (K code : Int) (o : ByteArray) (x : Value) (l : List ByteArray) (w : World) (hw0 : 0 < w.heap.size) (hx : Strs w x l) (hcap : ∀ ao n c, x = .slice ao n c → n ≤ c) :
    Calls Tryd.prog 8 #[.int .i64 K, .int .i64 code, .string o, x] w (MadeIs w code o l) := by
  have HX := hid hx
  obtain ⟨ao, c, rfl, hn, hc⟩ := hx
  have hlc := hcap _ _ _ rfl
  clear hn hc hcap
  have hs12 : ∀ W, 12 ≤ l.length → (Instr.slice 23 (.slice ao l.length c) none (some (.int .i64 12)) none).run Tryd.prog W = .ok (.slice ao 12 c) W := by
    intro W hl
    obtain ⟨i0, hi, hz0, hz1, hz2⟩ := info_parts strInfo
    have ht' : Tryd.prog.underlying 23 = some (.slice (Tryd.prog.elem 23)) := by simp [Program.elem, Tryd.underlying23]
    have he : Tryd.prog.elem 23 = 9 := by simp [Program.elem, Tryd.underlying23]
    have hs : ∀ W, (sizeOf 9).run Tryd.prog W = .ok 1 W := fun W => by simp [sizeOf, typeInfo, hi, hz1]
    have hsame : (if c = 0 then ao else ao.map (·.add (0 * 1))) = ao := by
      split
      · rfl
      · cases ao <;> simp [Addr.add]
    rw [run_slice_h W 23 _ _ _ ht' .i64 _ (by omega) (by omega), he, hs]
    simp only [Result.andThen, sliced]
    rw [hsame]
    simp
  go_enter Tryd.func8, Tryd.ntmps8
  go_upto_if 15 with (fail)
  go_cut [3] from 13 to 17 (fun s wx => ∃ m, m = min l.length 12 ∧ s = .slice ao m c ∧ wx = w.alloc (.cells #[.slice none 0 0, .int .i64 0, .string .empty, .int .i64 0] 27))
  case first =>
    by_cases hl : l.length > 12
    · have h1 : ((l.length : Int) > 12) := by omega
      have h2 := fun W => hs12 W (by omega)
      have hm : Hid (min l.length 12 = 12) := Nat.min_eq_right (by omega)
      clear hl hs12
      go_wp2_with fail
      go_meet
      exact ⟨12, hm.out.symm, rfl, rfl⟩
    · have h1 : ¬ ((l.length : Int) > 12) := by omega
      have hm : Hid (min l.length 12 = l.length) := Nat.min_eq_left (by omega)
      clear hl
      go_wp2_with fail
      go_meet
      exact ⟨_, hm.out.symm, rfl, rfl⟩
  case rest =>
    obtain ⟨m, hm, rfl, rfl⟩ := hcut
    have HM := hid hm
    clear hm hs12
    go_upto_block 0 with (fail)
    go_cut [11] from 27 to 39 (fun e wx => Begun w wx e code o ∧ wx.heap[w.heap.size]? = some (.cells #[.slice none 0 0, .int .i64 0, .string .empty, .int .i64 0] 27 (0, 0)) ∧ Below w.heap.size w wx)
    case first =>
      have HB1 := hid ((Below.refl w.heap.size w).alloc (Nat.le_refl _) (.cells #[.slice none 0 0, .int .i64 0, .string .empty, .int .i64 0] 27))
      have HZ := hid (alloc_at w (.cells #[.slice none 0 0, .int .i64 0, .string .empty, .int .i64 0] 27))
      generalize wrap64 ((IntKind.u64.wrap K).tmod 3) = kk at *
      by_cases h1 : kk = 1
      · subst h1
        by_cases h0 : code = 0
        · subst h0
          go_wp2_with fail
          go_meet
          refine ⟨.inl ⟨rfl, _, alloc_at' _ (by simp)⟩, alloc_old HZ.out, HB1.out.alloc HB1.out.size _⟩
        · have d0 : (code == 0) = false := by simp [h0]
          go_wp2_with (first | (go_at_call 17; refine (new_any code h0 _ _).mono ?_; rintro e w' ⟨rfl, rfl⟩))
          go_meet
          refine ⟨.inr ⟨[firstName], .code code, 1, _, ?_, alloc_old (alloc_old (alloc_at' _ (by simp))), one_own (s := firstName) (alloc_at' _ (by simp)) (by omega), Nat.le_refl _, by simp, .inr (by decide), .inl ⟨rfl, rfl, h0⟩⟩, alloc_old (alloc_old (alloc_old (alloc_at _ _))), (((((Below.refl w.heap.size w).alloc (by simp <;> omega) _).alloc (by simp <;> omega) _).alloc (by simp <;> omega) _).alloc (by simp <;> omega) _)⟩
          exact ⟨w.heap.size + 1 + 1, .iface 22 (.int .i64 code), rfl, alloc_old (alloc_at' _ (by simp)), Nat.zero_le _, rfl⟩
      · have d1 : (kk == 1) = false := by simp [h1]
        by_cases h2 : kk = 2
        · subst h2
          go_wp2_with (first | (go_at_call 20; refine (enew_any o _).mono ?_; rintro e w' ⟨rfl, rfl⟩))
          go_meet
          refine ⟨.inr ⟨[], .text o, 2, .slice none 0 0, ⟨w.heap.size + 1 + 1, rfl, alloc_at' _ (by simp)⟩, alloc_old (alloc_at' _ (by simp)), World.ownsRow_nil _ _ _ _, by simp, by simp, .inl rfl, .inr ⟨rfl, rfl⟩⟩, alloc_old (alloc_old (alloc_at _ _)), ((((Below.refl w.heap.size w).alloc (by simp <;> omega) _).alloc (by simp <;> omega) _).alloc (by simp <;> omega) _)⟩
        · have d2 : (kk == 2) = false := by simp [h2]
          go_wp2_with fail
          go_meet
          refine ⟨.inl ⟨rfl, _, alloc_at' _ (by simp)⟩, alloc_old HZ.out, HB1.out.alloc HB1.out.size _⟩
    case rest =>
      obtain ⟨hbg, hz, hb⟩ := hcut
      have HZ := hid hz
      have HB := hid hb
      clear hz hb
      rcases hbg with ⟨rfl, kk, hk⟩ | ⟨l0, d, kk, xv, hch, hk, hown, hl0, hf0, hxn, hkd⟩
      · have c3 := (four_cells hk).2.2.2.1
        have f3 := (four_cells hk).2.2.2.2 3
        have HK := hid hk
        clear hk
        have hk1 : (wc.setCell ⟨w.heap.size + 1, 3, none⟩ (.int .i64 0)).heap[w.heap.size + 1]? = some (.cells #[.slice none 0 0, .int .i64 code, .string o, .int .i64 0] 27 (0, 0)) := four_set3 HK.out
        have hz1 : (wc.setCell ⟨w.heap.size + 1, 3, none⟩ (.int .i64 0)).heap[w.heap.size]? = some (.cells #[.slice none 0 0, .int .i64 0, .string .empty, .int .i64 0] 27 (0, 0)) := by
          rw [Below.heap_setCell _ _ _ _ (by simp)]; exact HZ.out
        have hb1 := HB.out.setCell (p := ⟨w.heap.size + 1, 3, none⟩) (by simp) (.int .i64 0)
        have hx1 : Strs (wc.setCell ⟨w.heap.size + 1, 3, none⟩ (.int .i64 0)) (.slice ao m c) (l.take m) := (HX.out.head m (by rw [HM.out]; omega)).old hb1
        have HK1 := hid hk1
        have HZ1 := hid hz1
        have HB1 := hid hb1
        have HX1 := hid hx1
        clear hk1 hz1 hb1 hx1
        go_wp2_with fail
        generalize wc.setCell ⟨w.heap.size + 1, 3, none⟩ (.int .i64 0) = W1 at *
        clear c3 f3 HK HZ HB HX
        have HM12 : Hid (m ≤ 12) := by rw [HM.out]; unfold Hid; omega
        go_loopw [11, 12] (fun e i wr => ∃ k : Nat, k ≤ m ∧ e = .nilIface ∧ i = .int .i64 k ∧ wr = W1) (fun _ i _ => m - (intOf i).toNat)
        case atStart => exact ⟨0, Nat.zero_le _, rfl, rfl, rfl⟩
        case round =>
          obtain ⟨k, hkm, rfl, rfl, rfl⟩ := hrel
          by_cases hlt : k < m
          · have hw : wrap64 ((k : Int) + 1) = ((k + 1 : Nat) : Int) := by have := HM12.out; simp only [wrap64]; omega
            obtain ⟨ao', c', he, hn, hc⟩ := HX1.out
            simp only [Value.slice.injEq] at he
            obtain ⟨rfl, hml, rfl⟩ := he
            obtain ⟨a, rfl⟩ : ∃ a, ao = some a := by
              cases ao with
              | none => have h9 := hn rfl; rw [h9] at hml; simp at hml; omega
              | some a => exact ⟨a, rfl⟩
            have hcell := hc a rfl k _ (List.getElem?_eq_getElem (by omega))
            have c3 := (four_cells HK1.out).2.2.2.1
            generalize (List.take m l)[k] = t at *
            have HW := hid hw
            clear hn hc hml hw
            go_wp2_with (first | (go_at_call 18; refine (wrap_nil _ _).mono ?_; rintro e w' ⟨rfl, rfl⟩))
            rw [HW.out]
            go_roundw
            case rel => exact ⟨k + 1, by omega, rfl, rfl, trivial⟩
            case measure => simp [intOf]; omega
          · obtain ⟨c0, c1, c2, c3, -⟩ := four_cells HK1.out
            obtain ⟨d0, d1, d2, d3, f⟩ := four_cells HZ1.out
            have f0 := f 0
            have f1 := f 1
            have f2 := f 2
            have f3 := f 3
            clear f
            go_wp2_with fail
            go_region
            go_wp2_with fail
            change bodyPost _ _ _ _ _ (World.drew (put4 wr w.heap.size (.slice none 0 0) (.int .i64 code) (.string o) (.int .i64 0)))
            obtain ⟨q0, q1, q2, q3, -⟩ := four_cells (put4_at (p' := .slice none 0 0) (q' := .int .i64 code) (r' := .string o) (s' := .int .i64 0) HZ1.out)
            have HB2 := hid (put4_below HB1.out (Nat.le_refl _) (.slice none 0 0) (.int .i64 code) (.string o) (.int .i64 0)).drew
            generalize put4 wr w.heap.size (.slice none 0 0) (.int .i64 code) (.string o) (.int .i64 0) = W2 at *
            refine bodyPost_ret (v := .tuple #[.nilIface, chainV (.slice none 0 0) code o 0]) (by simp [results, Tryd.results8, chainV, go_sem, q0, q1, q2, q3]) rfl ⟨HB2.out, .inl rfl⟩
      · obtain ⟨T, x, rfl⟩ := hch.shape
        have HCh := hid hch
        have HK := hid hk
        have HO := hid hown
        have HL0 := hid hl0
        have HF0 := hid hf0
        have HXn := hid hxn
        have HKd := hid hkd
        have HM12 : Hid (m ≤ 12) := by rw [HM.out]; unfold Hid; omega
        have hk0 : (kk == 0) = false := by rcases hkd with ⟨rfl, _⟩ | ⟨rfl, _⟩ <;> rfl
        have hk0' : (kk != 0) = true := by rcases hkd with ⟨rfl, _⟩ | ⟨rfl, _⟩ <;> rfl
        clear hch hk hown hl0 hf0 hxn hkd
        go_wp2_with fail
        go_loopw [11, 12] (fun e i wr => ∃ (k : Nat) (xv : Value), k ≤ m ∧ i = .int .i64 k ∧ Chain wr ((l.take k).reverse ++ l0) d e ∧ wr.heap[w.heap.size + 1]? = some (.cells #[xv, .int .i64 code, .string o, .int .i64 kk] 27 (0, 0)) ∧
          wr.ownsRow (w.heap.size + 2) 9 1 xv ((l.take k).reverse ++ l0).length (((l.take k).reverse ++ l0).map Value.string) ∧ (xv = .slice none 0 0 ∨ 0 < ((l.take k).reverse ++ l0).length) ∧
          wr.heap[w.heap.size]? = some (.cells #[.slice none 0 0, .int .i64 0, .string .empty, .int .i64 0] 27 (0, 0)) ∧ Below w.heap.size w wr) (fun _ i _ => m - (intOf i).toNat)
        case atStart => exact ⟨0, xv, Nat.zero_le _, rfl, HCh.out, HK.out, HO.out, HXn.out, HZ.out, HB.out⟩
        case round =>
          obtain ⟨k, xv', hkm, rfl, hch, hk, hown, hxn, hz, hb⟩ := hrel
          obtain ⟨T', x', rfl⟩ := hch.shape
          have hll : ((l.take k).reverse ++ l0).length ≤ 13 := by
            have h1 := HM12.out; have h2 := HL0.out
            rw [List.length_append, List.length_reverse, List.length_take]; omega
          obtain ⟨L, hL⟩ : ∃ L, L = (l.take k).reverse ++ l0 := ⟨_, rfl⟩
          rw [← hL] at hch hown hxn hll
          have HLe := hid hL
          have HC1 := hid hch
          have HK1 := hid hk
          have HO1 := hid hown
          have HX1 := hid hxn
          clear hL
          have HZ1 := hid hz
          have HB1 := hid hb
          have HLL := hid hll
          clear hch hk hown hxn hz hb hll
          by_cases hlt : k < m
          · have hw : wrap64 ((k : Int) + 1) = ((k + 1 : Nat) : Int) := by have := HM12.out; simp only [wrap64]; omega
            have hS := (HX.out.head m (by rw [HM.out]; omega)).old HB1.out
            obtain ⟨ao', c', he, hn, hc⟩ := hS
            simp only [Value.slice.injEq] at he
            obtain ⟨rfl, hml, rfl⟩ := he
            obtain ⟨a, rfl⟩ : ∃ a, ao = some a := by
              cases ao with
              | none => have h9 := hn rfl; rw [h9] at hml; simp at hml; omega
              | some a => exact ⟨a, rfl⟩
            have hcell := hc a rfl k _ (List.getElem?_eq_getElem (by omega))
            have HT : Hid ((l.take (k + 1)).reverse = (List.take m l)[k] :: (l.take k).reverse) := by
              have h8 : k < l.length := by rw [HM.out] at hlt; omega
              rw [List.take_add_one, List.getElem?_eq_getElem h8]
              simp [Hid]
            generalize (List.take m l)[k] = t at *
            have HW := hid hw
            have ht1 : (wr.alloc (.cells #[.string t, .iface T' x'] 55)).cell? (a.add k) = some (.string t) := by rw [World.cell?_alloc_lt _ _ _ (World.block_lt_of_cell? _ _ hcell)]; exact hcell
            have hk1 := alloc_old (o := .cells #[.string t, .iface T' x'] 55) HK1.out
            obtain ⟨c0, c1, c2, c3, -⟩ := four_cells hk1
            have hk2 := alloc_old (o := .cells #[.string t] 9) hk1
            obtain ⟨e0, -, -, -, -⟩ := four_cells hk2
            have HKK := hid hk2
            have HO2 := hid (own_old HO1.out (((Below.refl _ _).alloc (Nat.le_refl _) (.cells #[.string t, .iface T' x'] 55)).alloc (by simp) (.cells #[.string t] 9)))
            have HKp := hid (Keeps.below (((Below.refl _ _).alloc (Nat.le_refl _) (.cells #[.string t, .iface T' x'] 55)).alloc (by simp) (.cells #[.string t] 9)) (Nat.lt_of_lt_of_le hw0 HB1.out.size))
            have HSz : Hid (w.heap.size + 2 ≤ wr.heap.size) := lt_of_block HK1.out
            clear hk2
            clear hn hc hml hw hk1
            go_wp2_with (first | (go_at_call 18; refine (wrap_any _ _ _ _).mono ?_; rintro e w' ⟨rfl, rfl⟩))
            go_region_law (first | (refine step_app (by rfl) _ _ (by rfl) (w.heap.size + 2) (.slice (some ⟨wr.heap.size + 1, 0, none⟩) 1 1) 1 [.string t] (by rfl) (one_own (alloc_at' _ (by simp)) (Nat.le_succ_of_le HSz.out)) (by decide) (w.heap.size + 2) xv' _ (by rfl) HO2.out HX1.out (by have := HLL.out; omega) (by have := HSz.out; simp; omega) ?_; intro g cap w2 hown2 hgrow; have hk3 := heap_kept hgrow HKK.out (by have := HSz.out; simp [Value.ownBlock]; omega); have q0 := (four_cells hk3).1; have qf := (four_cells hk3).2.2.2.2 0; have HK3 := hid hk3; have HG := hid hgrow; have HO3 := hid hown2; clear hk3 hgrow hown2))
            all_goals
              have HR : Hid (∃ (k' : Nat) (xv'' : Value), k' ≤ m ∧ Value.int .i64 ((k + 1 : Nat) : Int) = .int .i64 k' ∧
                  Chain (w2.setCell ⟨w.heap.size + 1, 0, none⟩ (.slice (some ⟨g, 0, none⟩) (1 + L.length) cap)) ((l.take k').reverse ++ l0) d (.iface 43 (.pointer (some ⟨wr.heap.size, 0, none⟩))) ∧
                  (w2.setCell ⟨w.heap.size + 1, 0, none⟩ (.slice (some ⟨g, 0, none⟩) (1 + L.length) cap)).heap[w.heap.size + 1]? = some (.cells #[xv'', .int .i64 code, .string o, .int .i64 kk] 27 (0, 0)) ∧
                  (w2.setCell ⟨w.heap.size + 1, 0, none⟩ (.slice (some ⟨g, 0, none⟩) (1 + L.length) cap)).ownsRow (w.heap.size + 2) 9 1 xv'' ((l.take k').reverse ++ l0).length (((l.take k').reverse ++ l0).map Value.string) ∧
                  (xv'' = .slice none 0 0 ∨ 0 < ((l.take k').reverse ++ l0).length) ∧
                  (w2.setCell ⟨w.heap.size + 1, 0, none⟩ (.slice (some ⟨g, 0, none⟩) (1 + L.length) cap)).heap[w.heap.size]? = some (.cells #[.slice none 0 0, .int .i64 0, .string .empty, .int .i64 0] 27 (0, 0)) ∧
                  Below w.heap.size w (w2.setCell ⟨w.heap.size + 1, 0, none⟩ (.slice (some ⟨g, 0, none⟩) (1 + L.length) cap))) := by
                have hs2 := HSz.out
                have hgr : ((wr.alloc (.cells #[.string t, .iface T' x'] 55)).alloc (.cells #[.string t] 9)).grownBy w2 (some (wr.heap.size + 1)) := grown_undrew HG.out
                have e1 : (l.take (k + 1)).reverse ++ l0 = t :: L := by rw [HT.out, HLe.out]; exact rfl
                have e2 : (t :: L).length = 1 + L.length := by simp; omega
                have hk4 : Keeps ((wr.alloc (.cells #[.string t, .iface T' x'] 55)).alloc (.cells #[.string t] 9)) w2 :=
                  Keeps.grown (t := wr.heap.size + 1) hgr (alloc_at' (w := wr.alloc (.cells #[.string t, .iface T' x'] 55)) (.cells #[.string t] 9) (by simp)) (by decide) (by omega)
                have hk5 : Keeps w2 (w2.setCell ⟨w.heap.size + 1, 0, none⟩ (.slice (some ⟨g, 0, none⟩) (1 + L.length) cap)) := Keeps.grown (t := w.heap.size + 1) (grown_set w2 ⟨w.heap.size + 1, 0, none⟩ _) HK3.out (by decide) (by omega)
                have hwr0 : 0 < wr.heap.size := by omega
                have hch : Chain _ (t :: L) d _ := (HC1.out.cons hwr0 t).kept (((Keeps.below ((Below.refl _ _).alloc (Nat.le_refl _) (.cells #[.string t] 9)) (by simp)).trans hk4).trans hk5)
                refine ⟨k + 1, .slice (some ⟨g, 0, none⟩) (1 + L.length) cap, by omega, rfl, by rw [e1]; exact hch, four_set0 HK3.out, ?_, .inr (by rw [e1]; simp), ?_, ?_⟩
                · rw [e1, e2]
                  exact ownsRow_setCell_below HO3.out (by simp) _
                · rw [Below.heap_setCell _ _ _ _ (by simp)]
                  exact heap_kept hgr (alloc_old (alloc_old HZ1.out)) (by simp; omega)
                · exact ((((HB1.out.alloc HB1.out.size (.cells #[.string t, .iface T' x'] 55)).alloc (by have := HB1.out.size; simp; omega) (.cells #[.string t] 9)).grown hgr (by have := HB1.out.size; simp; omega) (fun k hk => by cases hk; omega))).setCell (p := ⟨w.heap.size + 1, 0, none⟩) (by simp) _
            all_goals (go_wp2_with fail)
            all_goals (rw [HW.out])
            all_goals (go_roundw)
            all_goals (first | exact HR.out | (simp [intOf]; omega))
          · obtain ⟨ao', n', c', he⟩ : ∃ ao' n' c', xv' = .slice ao' n' c' := by
              rcases HO1.out.2 with ⟨hv, _⟩ | ⟨g, cap, cur, hv, _⟩
              · exact ⟨_, _, _, hv⟩
              · exact ⟨_, _, _, hv⟩
            subst he
            obtain ⟨c0, c1, c2, c3, -⟩ := four_cells HK1.out
            obtain ⟨d0, d1, d2, d3, f⟩ := four_cells HZ1.out
            have f0 := f 0
            have f1 := f 1
            have f2 := f 2
            have f3 := f 3
            clear f
            go_wp2_with fail
            go_region
            go_wp2_with fail
            change bodyPost _ _ _ _ _ (World.drew (put4 wr w.heap.size (.slice ao' n' c') (.int .i64 code) (.string o) (.int .i64 kk)))
            obtain ⟨q0, q1, q2, q3, -⟩ := four_cells (put4_at (p' := .slice ao' n' c') (q' := .int .i64 code) (r' := .string o) (s' := .int .i64 kk) HZ1.out)
            have HB2 := hid (put4_below HB1.out (Nat.le_refl _) (.slice ao' n' c') (.int .i64 code) (.string o) (.int .i64 kk)).drew
            have hkp : Keeps wr (put4 wr w.heap.size (.slice ao' n' c') (.int .i64 code) (.string o) (.int .i64 kk)) := Keeps.grown (put4_grown _ _ _ _ _ _) HZ1.out (by decide) (by omega)
            have HCh2 := hid (HC1.out.kept (hkp.drew 1))
            have HS2 := hid (strs_of_own (HO1.out.kept (put4_grown wr w.heap.size (.slice ao' n' c') (.int .i64 code) (.string o) (.int .i64 kk)) (.inr (own_ne HO1.out (k := w.heap.size) (by omega)).symm)))
            clear hkp
            generalize put4 wr w.heap.size (.slice ao' n' c') (.int .i64 code) (.string o) (.int .i64 kk) = W2 at *
            refine bodyPost_ret (v := .tuple #[.iface T' x', chainV (.slice ao' n' c') code o kk]) (by simp [results, Tryd.results8, chainV, go_sem, q0, q1, q2, q3]) rfl ⟨HB2.out, .inr ⟨L, d, kk, _, _, rfl, HCh2.out, HS2.out, HLL.out, ?_, HKd.out⟩⟩
            rw [HLe.out]
            intro s hs
            rcases List.mem_append.1 hs with h | h
            · exact .inr (List.mem_of_mem_take (List.mem_reverse.1 h))
            · exact .inl (HF0.out s h)
end Go.Proofs.YtombgehopopdfaaDoor
