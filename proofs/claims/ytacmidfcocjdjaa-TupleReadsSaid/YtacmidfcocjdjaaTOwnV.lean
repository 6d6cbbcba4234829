/-
  THE HELPERS' OWN, KEPT, PLAIN, over values.
-/
import Derived.Test.YtacmidfcocjdjaaTAwake
import Derived.BigQuiet
import Derived.Deep.QuietTactic
import Derived.Deep.RegionWith
namespace Go.Proofs.Ytacmidfcocjdjaa
open Go.RowKit

theorem info_val : (Try.prog.info? 24).map (fun i => (i.zero, i.size, i.bytes)) = some (some (.agg #[.int .i64 0, .int .i64 0, .string ⟨#[]⟩]), 3, 32) := by kernel_rfl

theorem info3 {P : Program} {e : TypeId} {z : Value} (h : (P.info? e).map (fun i => (i.zero, i.size, i.bytes)) = some (some z, 3, 32)) : ∃ i, P.info? e = some i ∧ i.zero = some z ∧ i.size = 3 ∧ i.bytes = 32 := by
  cases hq : P.info? e with
  | none => rw [hq] at h; cases h
  | some i => rw [hq] at h; simp at h; exact ⟨i, rfl, h⟩

/-- 'append(out, x...)' within the capacity. -/
theorem wp_vapp_fits {P : Program} {w : World} {ops : Array Oper} {rest : List Oper} {o : Oper} {a : Act} {Q : Exit → Act → World → Prop} (hgd : o.guard = none) (s x : Operand) (t : TypeId)
    (ho : o.op = .call { callee := .builtin .append, args := #[s, x], argTypes := #[t, t] })
    (base : Nat) (e : TypeId) (ht : P.underlying t = some (.slice e)) (z : Value) (hinfo : (P.info? e).map (fun i => (i.zero, i.size, i.bytes)) = some (some z, 3, 32))
    (g k cap : Nat) (xs : List Value) (hs : a.eval s = .slice (some ⟨g, 0, none⟩) k cap) (hown : w.ownsRow base e 3 (.slice (some ⟨g, 0, none⟩) k cap) k xs)
    (y : Value) (l : List Vl) (hx : a.eval x = y) (hr : Vs w y l) (hfit : k + l.length ≤ cap)
    (h : ∀ w', w'.ownsRow base e 3 (.slice (some ⟨g, 0, none⟩) (k + l.length) cap) (k + l.length) (xs ++ cellsL l) → w.grownBy w' (some g) → wpList P ops Q rest (a.put o.dst (.slice (some ⟨g, 0, none⟩) (k + l.length) cap)) w') : wpList P ops Q (o :: rest) a w := by
  obtain ⟨i0, hi, hz0, hz1, hz2⟩ := info3 hinfo
  obtain ⟨ao, c, rfl, h1, h2, h3, h4⟩ := hr
  refine wpList_append_fits_any w hgd s x t ho base e i0 3 ht hi hz1 g k cap xs hs hown ao l.length c (cellsL l) hx (cellsL_len l) (fun hn => ?_) (fun ad had => h4 ad had) (cellsL_one l) hfit h
  have := h3 hn
  omega

/-- A row wholly owned: what its head reads as. -/
theorem Vs.of_full {w : World} {base g n k : Nat} {e : TypeId} {xs : List Value} {l : List Vl} (h : w.ownsRow base e 3 (.slice (some ⟨g, 0, none⟩) n n) n xs) (hk : l.length ≤ n) (ht : xs.take (l.length * 3) = cellsL l) (hkk : k = l.length) : Vs w (.slice (some ⟨g, 0, none⟩) k n) l := by
  subst hkk
  have hxl := h.1
  rcases h.2 with ⟨h', _⟩ | ⟨g', cap', cur, h', hb, hg, hnc, hcm, hcs, htake⟩
  · simp at h'
  · simp only [Value.slice.injEq, Option.some.injEq, Addr.mk.injEq, and_true, true_and] at h'
    obtain ⟨rfl, rfl⟩ := h'
    refine ⟨_, _, rfl, hk, hcm, (fun h => by cases h), fun a ha j u hu => ?_⟩
    cases ha
    have hj : j < l.length * 3 := by
      have := (List.getElem?_eq_some_iff.1 hu).1
      rwa [cellsL_len] at this
    rw [WideShapes.add_plain, Nat.zero_add, h.cellAt j (by omega)]
    rw [← ht, List.getElem?_take_of_lt hj] at hu
    exact hu

/-- A row of which a part is used: the whole of it. -/
theorem vown_full {w : World} {base g n cap : Nat} {e : TypeId} {xs : List Value} (h : w.ownsRow base e 3 (.slice (some ⟨g, 0, none⟩) n cap) n xs) :
    ∃ ys, w.ownsRow base e 3 (.slice (some ⟨g, 0, none⟩) cap cap) cap ys ∧ ys.take (n * 3) = xs := by
  rcases h.2 with ⟨h', _⟩ | ⟨g', cap', cur, h', hb, hg, hnc, hcm, hcs, htake⟩
  · simp at h'
  · simp only [Value.slice.injEq, Option.some.injEq, Addr.mk.injEq, and_true, true_and] at h'
    obtain ⟨rfl, rfl⟩ := h'
    refine ⟨cur.toList, ⟨by rw [Array.length_toList]; exact hcs, .inr ⟨g, cap, cur, rfl, hb, hg, Nat.le_refl _, hcm, hcs, ?_⟩⟩, htake⟩
    exact List.take_of_length_le (by rw [Array.length_toList, hcs]; exact Nat.le_refl _)

theorem vown_base {w : World} {base base' : Nat} {e : TypeId} {v : Value} {n : Nat} {xs : List Value} (h : w.ownsRow base e 3 v n xs) (hb : base' ≤ base) : w.ownsRow base' e 3 v n xs := ownsRow_base h hb

/-- A copy of its own, with three values behind it. -/
def OwnVIs (w : World) (l : List Vl) (f : Vl) (en : Ending) (w' : World) : Prop :=
  ∃ g, en = .returned (.slice (some ⟨g, 0, none⟩) l.length (l.length + 3)) ∧ w.heap.size ≤ g ∧
    w'.ownsRow w.heap.size 24 3 (.slice (some ⟨g, 0, none⟩) (l.length + 3) (l.length + 3)) (l.length + 3) (cellsL (l ++ List.replicate 3 f)) ∧ Below w.heap.size w w'

theorem set3_take {xs : List Value} {p : Nat} {a b c : Value} (h : p + 3 ≤ xs.length) : (((xs.set p a).set (p + 1) b).set (p + 2) c).take (p + 3) = xs.take p ++ [a, b, c] := by
  have e1 : (((xs.set p a).set (p + 1) b).set (p + 2) c).take (p + 3) = (((xs.set p a).set (p + 1) b).set (p + 2) c).take (p + 2) ++ [c] := by
    rw [List.take_succ_eq_append_getElem (by simp; omega)]
    simp
  have e2 : ((xs.set p a).set (p + 1) b).take (p + 2) = ((xs.set p a).set (p + 1) b).take (p + 1) ++ [b] := by
    rw [List.take_succ_eq_append_getElem (by simp; omega)]
    simp
  have e3 : (xs.set p a).take (p + 1) = (xs.set p a).take p ++ [a] := by
    rw [List.take_succ_eq_append_getElem (by simp; omega)]
    simp
  rw [e1, List.take_set_of_le (Nat.le_refl _), e2, List.take_set_of_le (Nat.le_refl _), e3, List.take_set_of_le (Nat.le_refl _)]
  simp

theorem vown_round {xs : List Value} {l : List Vl} {k : Nat} {f : Vl} (hx : xs.take ((l.length + k) * 3) = cellsL (l ++ List.replicate k f)) (hlt : (l.length + k) * 3 + 3 ≤ xs.length) :
    (((xs.set ((l.length + k) * 3) (.int .i64 f.k)).set ((l.length + k) * 3 + 1) (.int .i64 f.i)).set ((l.length + k) * 3 + 2) (.string ⟨f.s.toArray⟩)).take ((l.length + (k + 1)) * 3) = cellsL (l ++ List.replicate (k + 1) f) := by
  have e : (l.length + (k + 1)) * 3 = (l.length + k) * 3 + 3 := by omega
  rw [e, set3_take hlt, hx, List.replicate_succ', ← List.append_assoc, cellsL_app (l ++ List.replicate k f)]
  rfl

set_option maxHeartbeats 2000000 in
set_option maxRecDepth 100000 in
theorem vown_any (x : Value) (l : List Vl) (f : Vl) (w : World) (hx : Vs w x l) (hl : l.length ≤ 1000000) :
    Calls Try.prog 11 #[x, sv f] w (OwnVIs w l f) := by
  have hlen := hx.len (P := Try.prog) 22 24
  obtain ⟨i0, hi, hz0, hz1, hz2⟩ := info3 info_val
  have BA := (Below.refl w.heap.size w).alloc (Nat.le_refl _) (.cells #[.int .i64 f.k, .int .i64 f.i, .string ⟨f.s.toArray⟩] 24)
  have hxA := hx.old BA
  have hbx : Hid ((w.alloc (.cells #[.int .i64 f.k, .int .i64 f.i, .string ⟨f.s.toArray⟩] 24)).heap[w.heap.size]? = some (.cells #[.int .i64 f.k, .int .i64 f.i, .string ⟨f.s.toArray⟩] 24 (0, 0))) := heap_alloc_new _ _
  have hsz : Hid ((w.alloc (.cells #[.int .i64 f.k, .int .i64 f.i, .string ⟨f.s.toArray⟩] 24)).heap.size = w.heap.size + 1) := by simp [Hid]
  unfold sv
  go_enter Try.func11, Try.ntmps11
  go_wp2_with (first
    | (at_make; refine wpList_make_own _ rfl _ _ 22 rfl (w.alloc (.cells #[.int .i64 f.k, .int .i64 f.i, .string ⟨f.s.toArray⟩] 24)).heap.size 24 i0 _ 3 Try.underlying22 hi hz0 hz1 _ _ _ (l.length + 3) rfl rfl ?m1 ?m2 ?m3 ?m4 ?_))
  case m1 => simp
  case m2 => rw [hz2]; omega
  case m3 => unfold maxLen; omega
  case m4 => exact Nat.le_refl _
  intro w1 o1 g1
  have B1 : Below (w.heap.size + 1) (w.alloc (.cells #[.int .i64 f.k, .int .i64 f.i, .string ⟨f.s.toArray⟩] 24)) w1 := (Below.refl _ _).grown g1 (by rw [hsz.out]; exact Nat.le_refl _) (fun k hk => by cases hk)
  have B1' : Below (w.alloc (.cells #[.int .i64 f.k, .int .i64 f.i, .string ⟨f.s.toArray⟩] 24)).heap.size (w.alloc (.cells #[.int .i64 f.k, .int .i64 f.i, .string ⟨f.s.toArray⟩] 24)) w1 := by rw [hsz.out]; exact B1
  have hx1 := hid (hxA.old B1')
  clear hxA B1'
  go_wp2_with (first
    | (at_builtin; refine wp_vapp_fits rfl _ _ 22 rfl (w.heap.size + 1) 24 Try.underlying22 _ info_val (w.heap.size + 1) 0 (l.length + 3) [] rfl o1 _ l rfl hx1.out ?c1 ?_))
  case c1 => omega
  intro w2 o2 g2
  have B2 := hid (B1.grown g2 (by have := B1.size; rw [hsz.out] at this; exact this) (fun k hk => by simp at hk; omega))
  obtain ⟨ys, hfull, htk⟩ := vown_full o2
  have h0 : Hid (w2.ownsRow (w.heap.size + 1) 24 3 (.slice (some ⟨w.heap.size + 1, 0, none⟩) (l.length + 3) (l.length + 3)) (l.length + 3) ys ∧ ys.take ((l.length + 0) * 3) = cellsL (l ++ List.replicate 0 f)) := by
    refine ⟨hfull, ?_⟩
    simpa using htk
  clear o1 g1 o2 g2 hx1 hfull htk B1 hz0 hz1 hz2 hi
  have BA' := hid BA
  clear BA
  go_wp2_with fail
  go_loopw [7] (fun i wr => ∃ (k : Nat) (ys : List Value), k ≤ 3 ∧ i = .int .i64 ((l.length + k : Nat) : Int) ∧ wr.ownsRow (w.heap.size + 1) 24 3 (.slice (some ⟨w.heap.size + 1, 0, none⟩) (l.length + 3) (l.length + 3)) (l.length + 3) ys ∧ ys.take ((l.length + k) * 3) = cellsL (l ++ List.replicate k f) ∧ Below (w.heap.size + 1) (w.alloc (.cells #[.int .i64 f.k, .int .i64 f.i, .string ⟨f.s.toArray⟩] 24)) wr)
    (fun i _ => l.length + 3 - (intOf i).toNat)
  case atStart => exact ⟨0, ys, by omega, rfl, h0.out.1, h0.out.2, B2.out⟩
  case round =>
    obtain ⟨k, ys, hk, rfl, hown, htake, hb⟩ := hrel
    clear h0
    have hyl : ys.length = (l.length + 3) * 3 := hown.1
    by_cases hlt : k < 3
    · have hc1 : wr.cell? ⟨w.heap.size + 1, (l.length + k) * 3, none⟩ = some (ys[(l.length + k) * 3]'(by omega)) := by
        rw [hown.cellAt _ (by omega)]; exact List.getElem?_eq_getElem _
      have hc2 : wr.cell? ⟨w.heap.size + 1, (l.length + k) * 3 + 1, none⟩ = some (ys[(l.length + k) * 3 + 1]'(by omega)) := by
        rw [hown.cellAt _ (by omega)]; exact List.getElem?_eq_getElem _
      have hc3 : wr.cell? ⟨w.heap.size + 1, (l.length + k) * 3 + 2, none⟩ = some (ys[(l.length + k) * 3 + 2]'(by omega)) := by
        rw [hown.cellAt _ (by omega)]; exact List.getElem?_eq_getElem _
      have hf1 := hown.frozenAt ((l.length + k) * 3)
      have hf2 := hown.frozenAt ((l.length + k) * 3 + 1)
      have hf3 := hown.frozenAt ((l.length + k) * 3 + 2)
      have hst := hown.stored ((l.length + k) * 3) (.int .i64 f.k)
      have hst2 := hst.1.stored ((l.length + k) * 3 + 1) (.int .i64 f.i)
      have hst3 := hid (hst2.1.stored ((l.length + k) * 3 + 2) (.string ⟨f.s.toArray⟩))
      have hr := hid (vown_round htake (by omega))
      have hbx2 : wr.heap[w.heap.size]? = some (.cells #[.int .i64 f.k, .int .i64 f.i, .string ⟨f.s.toArray⟩] 24 (0, 0)) := (hb.block w.heap.size (Nat.lt_succ_self _)).trans hbx.out
      have HG := hid (And.intro hst.2 hst2.2)
      obtain ⟨d1, d2, d3⟩ := three_cells hbx2
      have hb' := hid hb
      have HBS : Hid (w.heap.size + 1 ≤ wr.heap.size) := by have := hb.size; rw [hsz.out] at this; exact this
      generalize ys[(l.length + k) * 3]'(by omega) = old1 at *
      generalize ys[(l.length + k) * 3 + 1]'(by omega) = old2 at *
      generalize ys[(l.length + k) * 3 + 2]'(by omega) = old3 at *
      clear hown htake hyl hb B2 hlen hst hst2 hbx2
      go_wp2_with fail
      go_roundw
      case rel => exact ⟨k + 1, _, by omega, by go_num, hst3.out.1, hr.out, ((hb'.out.grown HG.out.1 HBS.out (fun k hk => by simp at hk; omega)).grown HG.out.2 (Nat.le_trans HBS.out HG.out.1.size) (fun k hk => by simp at hk; omega)).grown hst3.out.2 (Nat.le_trans (Nat.le_trans HBS.out HG.out.1.size) HG.out.2.size) (fun k hk => by simp at hk; omega)⟩
      case measure => simp [intOf]; omega
    · obtain rfl : k = 3 := by omega
      have hh := hid (And.intro hown (And.intro htake hb))
      clear hown htake hb
      go_wp2_with fail
      go_ret
      refine ⟨w.heap.size + 1, rfl, Nat.le_succ _, ?_, ?_⟩
      · have := hh.out.2.1
        rw [List.take_of_length_le (by omega)] at this
        rw [← this]
        exact vown_base hh.out.1 (Nat.le_succ _)
      · exact BA'.out.trans (hh.out.2.2.mono (Nat.le_succ _))

theorem veq (v : Vl) : (v.k == v.k) = true ∧ (v.i == v.i) = true := by simp

set_option maxHeartbeats 1000000 in
set_option maxRecDepth 100000 in
theorem vplain1_any (v : Vl) (w : World) :
    Calls Try.prog 36 #[sv v, sv v] w (Ans w (.bool true)) := by
  have B1 := hid (((Below.refl w.heap.size w).alloc (Nat.le_refl _) (.cells #[.int .i64 v.k, .int .i64 v.i, .string ⟨v.s.toArray⟩] 24)).alloc (by simp) (.cells #[.int .i64 v.k, .int .i64 v.i, .string ⟨v.s.toArray⟩] 24))
  unfold sv
  go_enter Try.func36, Try.ntmps36
  go_wp2
  go_ret
  exact ⟨rfl, B1.out⟩

theorem drew_below' {w wr : World} (h : Below w.heap.size w wr) (n : Nat) : Below w.heap.size w (wr.drewN n) := ⟨h.os, h.tape, h.output, h.size, h.block⟩

theorem below_drew {w wr w2 : World} (h : Below w.heap.size w wr) (g : Below wr.drew.heap.size wr.drew w2) : Below w.heap.size w w2 :=
  h.trans ((⟨g.os, g.tape, g.output, g.size, g.block⟩ : Below wr.heap.size wr w2).mono h.size)

set_option maxHeartbeats 2000000 in
set_option maxRecDepth 100000 in
theorem vsame_eq (x y : Value) (l : List Vl) (w : World) (hx : Vs w x l) (hy : Vs w y l) :
    Calls Try.prog 35 #[x, y, .func (.func 36) #[] #[]] w (Ans w (.bool true)) := by
  obtain ⟨ax, cx, rfl, hm⟩ := hx.form
  obtain ⟨ay, cy, rfl, -⟩ := hy.form
  unfold maxLen at hm
  have HX := hid hx
  have HY := hid hy
  clear hx hy
  go_enter Try.func35, Try.ntmps35
  go_wp2_with fail
  go_loopw [7] (fun i wr => ∃ k : Nat, k ≤ l.length ∧ i = .int .i64 k ∧ Below w.heap.size w wr) (fun i _ => l.length - (intOf i).toNat)
  case atStart => exact ⟨0, by omega, rfl, Below.refl _ _⟩
  case round =>
    obtain ⟨k, hk, rfl, hb⟩ := hrel
    have HB := hid hb
    clear hb
    by_cases hlt : k < l.length
    · have hv := List.getElem?_eq_getElem hlt
      generalize l[k] = v at *
      obtain ⟨b, off, rfl, d1, d2, d3⟩ := (HX.out.old HB.out).get hv
      obtain ⟨b2, off2, rfl, e1, e2, e3⟩ := (HY.out.old HB.out).get hv
      clear hv
      have C := fun W => vplain1_any v W
      unfold sv at C
      go_wp2_with fail
      go_region_with (first | (go_at_call 36; refine (C _).mono ?_; rintro e w2 ⟨rfl, hb2⟩))
      all_goals
        have HB2 : Hid (Below w.heap.size w w2) := below_drew HB.out hb2
        clear hb2
        go_wp2_with fail
        go_roundw
        · exact ⟨k + 1, by omega, by go_num, HB2.out⟩
        · simp [intOf]; omega
    · go_wp2_with fail
      go_ret
      exact ⟨rfl, HB.out⟩

set_option maxHeartbeats 1000000 in
set_option maxRecDepth 100000 in
theorem vplain_eq (x y : Value) (l : List Vl) (w : World) (hx : Vs w x l) (hy : Vs w y l) :
    Calls Try.prog 22 #[x, y] w (Ans w (.bool true)) := by
  go_enter Try.func22, Try.ntmps22
  go_wp2_with fail
  refine (vsame_eq x y l w hx hy).mono ?_
  rintro en w1 ⟨rfl, hb⟩
  go_wp2_with fail
  go_ret
  exact ⟨rfl, hb⟩

theorem cellsL_rep {l : List Vl} {f : Vl} {k : Nat} (hk : k < 3) : (l ++ List.replicate 3 f)[l.length + k]? = some f := by
  rw [List.getElem?_append_right (by omega), Nat.add_sub_cancel_left, List.getElem?_replicate, if_pos hk]

set_option maxHeartbeats 2000000 in
set_option maxRecDepth 100000 in
/-- The copy is as it was, with what is behind it. -/
theorem vkept_any (x : Value) (l : List Vl) (f : Vl) (w : World) (g base : Nat) (hx : Vs w x l) (hl : l.length ≤ 1000000)
    (ho : w.ownsRow base 24 3 (.slice (some ⟨g, 0, none⟩) (l.length + 3) (l.length + 3)) (l.length + 3) (cellsL (l ++ List.replicate 3 f))) :
    Calls Try.prog 17 #[.slice (some ⟨g, 0, none⟩) l.length (l.length + 3), x, sv f] w (Ans w (.bool true)) := by
  have hlen := hx.len (P := Try.prog) 22 24
  have hr : Vs w (.slice (some ⟨g, 0, none⟩) l.length (l.length + 3)) l := Vs.of_full ho (by omega) (by rw [cellsL_app, List.take_left' (cellsL_len l)]) rfl
  have BA := (Below.refl w.heap.size w).alloc (Nat.le_refl _) (.cells #[.int .i64 f.k, .int .i64 f.i, .string ⟨f.s.toArray⟩] 24)
  have C := vplain_eq _ x l _ (hr.old BA) (hx.old BA)
  have hbx : Hid ((w.alloc (.cells #[.int .i64 f.k, .int .i64 f.i, .string ⟨f.s.toArray⟩] 24)).heap[w.heap.size]? = some (.cells #[.int .i64 f.k, .int .i64 f.i, .string ⟨f.s.toArray⟩] 24 (0, 0))) := heap_alloc_new _ _
  have hsz : Hid ((w.alloc (.cells #[.int .i64 f.k, .int .i64 f.i, .string ⟨f.s.toArray⟩] 24)).heap.size = w.heap.size + 1) := by simp [Hid]
  have HO := hid ho
  have HBA := hid BA
  have hgl : g < w.heap.size := (ho.lt g rfl).2
  unfold sv
  clear hr hx ho BA
  go_enter Try.func17, Try.ntmps17
  go_wp2_with (first | (go_at_call 22; refine C.mono ?_; rintro en w1 ⟨rfl, hb1⟩))
  have HB1 := hid (HBA.out.trans (hb1.mono HBA.out.size))
  have hbx1 : w1.heap[w.heap.size]? = some (.cells #[.int .i64 f.k, .int .i64 f.i, .string ⟨f.s.toArray⟩] 24 (0, 0)) := (hb1.block w.heap.size (by rw [hsz.out]; exact Nat.lt_succ_self _)).trans hbx.out
  have HO1 := hid (own_old HO.out HB1.out)
  obtain ⟨d1, d2, d3⟩ := three_cells hbx1
  clear hb1 hbx1 C HO hlen
  go_loopw [8] (fun i wr => ∃ m n : Nat, l.length ≤ m ∧ m ≤ l.length + 3 ∧ i = .int .i64 (m : Int) ∧ wr = w1.drewN n) (fun i _ => l.length + 3 - (intOf i).toNat)
  case atStart => exact ⟨l.length, 0, by omega, by omega, rfl, rfl⟩
  case round =>
    obtain ⟨m, n, hm1, hm2, rfl, rfl⟩ := hrel
    by_cases hlt : m < l.length + 3
    · obtain ⟨q1, q2, q3⟩ := cellsL_at (cellsL_rep (l := l) (f := f) (k := m - l.length) (by omega))
      have em : l.length + (m - l.length) = m := by omega
      rw [em] at q1 q2 q3
      have c1 : w1.cell? ⟨g, m * 3, none⟩ = some (.int .i64 f.k) := by
        rw [HO1.out.cellAt _ (by omega)]; exact q1
      have c2 : w1.cell? ⟨g, m * 3 + 1, none⟩ = some (.int .i64 f.i) := by
        rw [HO1.out.cellAt _ (by omega)]; exact q2
      have c3 : w1.cell? ⟨g, m * 3 + 2, none⟩ = some (.string ⟨f.s.toArray⟩) := by
        rw [HO1.out.cellAt _ (by omega)]; exact q3
      clear q1 q2 q3 em
      go_wp2_with fail
      go_quiet (fail)
      go_wp2_with fail
      go_roundw
      case rel => exact ⟨m + 1, _, by omega, by omega, by go_num, rfl⟩
      case measure => simp [intOf]; omega
    · obtain rfl : m = l.length + 3 := by omega
      go_wp2_with fail
      go_ret
      exact ⟨rfl, drew_below' HB1.out n⟩
end Go.Proofs.Ytacmidfcocjdjaa
