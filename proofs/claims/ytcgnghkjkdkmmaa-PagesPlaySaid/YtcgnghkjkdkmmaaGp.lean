/-
  PAGES: part: where a span begins and ends.
-/
import Derived.Test.YtcgnghkjkdkmmaaGn
set_option linter.unusedVariables false
namespace Go.Proofs.Ytcgnghkjkdkmmaa
open Go.RowKit Go.Shelf

theorem results_cells22 {P : Program} {fn : Func} {p q : Tmp} {ty : TypeId} (h : fn.results = #[.cell p ty, .cell q ty]) (tmps : Array Value) (w : World) (g g' : Nat) (t : TypeId) (cs cs' : Array Value) (fr fr' : Nat × Nat) (d : TypeDesc)
    (hp : tmps.getD p undef = .pointer (some ⟨g, 0, none⟩)) (hg : w.heap[g]? = some (.cells cs t fr))
    (hq : tmps.getD q undef = .pointer (some ⟨g', 0, none⟩)) (hg' : w.heap[g']? = some (.cells cs' t fr'))
    (hu : P.underlying ty = some d) (hd : (match d with | .struct _ | .array _ _ => true | _ => false) = true) (hi : (P.info? ty).map (·.size) = some cs.size) (hi' : (P.info? ty).map (·.size) = some cs'.size) :
    (results fn tmps).run P w = .ok (.tuple #[.agg cs, .agg cs']) w := by
  have hp' : tmps[p]?.getD undef = .pointer (some ⟨g, 0, none⟩) := by simpa using hp
  have hq' : tmps[q]?.getD undef = .pointer (some ⟨g', 0, none⟩) := by simpa using hq
  simp [results, h, hp', hq', asAddr, run_loadVar_row w g t ty cs fr d hg hu hd hi, run_loadVar_row w g' t ty cs' fr' d hg' hu hd hi']

def PartA (G : List Pg) (f t : List UInt8) (w : World) (e : Ending) (w' : World) : Prop :=
  ∃ p i p' i' : Nat, PartOk (mls G) f t p i p' i' ∧ e = .returned (.tuple #[spotV p i, spotV p' i']) ∧ Below w.heap.size w w'

theorem two_other {w : World} {b b' o : Nat} {ob : Obj} {x : Value} (h : w.heap[b]? = some ob) (hne : b ≠ b') : (w.setCell ⟨b', o, none⟩ x).heap[b]? = some ob :=
  heap_kept (grown_set w ⟨b', o, none⟩ x) h (by simpa using hne)

theorem Set6.go {n : Nat} {w w1 : World} (h : Below n w w1) (a1 a2 a3 a4 a5 a6 : Addr) (v1 v2 v3 v4 v5 v6 : Value) (h1 : n ≤ a1.block) (h2 : n ≤ a2.block) (h3 : n ≤ a3.block) (h4 : n ≤ a4.block) (h5 : n ≤ a5.block) (h6 : n ≤ a6.block) :
    Below n w ((((((w1.setCell a1 v1).setCell a2 v2).setCell a3 v3).setCell a4 v4).setCell a5 v5).setCell a6 v6) :=
  (((((h.setCell h1 _).setCell h2 _).setCell h3 _).setCell h4 _).setCell h5 _).setCell h6 _

/-- What part holds ahead of its last return. -/
structure K6 (n : Nat) (t : TypeId) (o : Obj) (p i : Value) (w W : World) : Prop where
  below : Below n w W
  span : W.heap[n]? = some o
  a : W.heap[n + 1]? = some (.cells #[p, i] t (0, 0))
  b : ∃ u v, W.heap[n + 1 + 1]? = some (.cells #[u, v] t (0, 0))

theorem K6.drew {n t o p i w W} (h : K6 n t o p i w W) : K6 n t o p i w W.drew := ⟨Below.drew h.below, h.span, h.a, h.b⟩
theorem K6.call {n t o p i w W W'} (h : K6 n t o p i w W) (hb : Below W.heap.size W W') : K6 n t o p i w W' := by
  obtain ⟨u, v, hu⟩ := h.b
  exact ⟨h.below.trans (hb.mono (Nat.le_of_lt (lt_of_block h.span))), (hb.block _ (lt_of_block h.span)).trans h.span, (hb.block _ (lt_of_block h.a)).trans h.a, u, v, (hb.block _ (lt_of_block hu)).trans hu⟩
theorem K6.setA {n t o p i w W} (h : K6 n t o p i w W) : K6 n t o p i w ((W.setCell ⟨n + 1, 0, none⟩ p).setCell ⟨n + 1, 1, none⟩ i) := by
  obtain ⟨u, v, hu⟩ := h.b
  exact ⟨(h.below.setCell (p := ⟨n + 1, 0, none⟩) (Nat.le_succ _) _).setCell (p := ⟨n + 1, 1, none⟩) (Nat.le_succ _) _, two_other (two_other h.span (by omega)) (by omega), two_set1 (two_set0 h.a), u, v, two_other (two_other hu (by omega)) (by omega)⟩
theorem K6.setB {n t o p i w W} (h : K6 n t o p i w W) (x y : Value) : K6 n t o p i w ((W.setCell ⟨n + 1 + 1, 0, none⟩ x).setCell ⟨n + 1 + 1, 1, none⟩ y) := by
  obtain ⟨u, v, hu⟩ := h.b
  exact ⟨(h.below.setCell (p := ⟨n + 1 + 1, 0, none⟩) (by show n ≤ n + 1 + 1; omega) _).setCell (p := ⟨n + 1 + 1, 1, none⟩) (by show n ≤ n + 1 + 1; omega) _, two_other (two_other h.span (by omega)) (by omega), two_other (two_other h.a (by omega)) (by omega), x, y, two_set1 (two_set0 hu)⟩
theorem K6.facts {n t p i w W x y s} (h : K6 n t (.cells #[x, y] s (0, 0)) p i w W) : Hid (K6 n t (.cells #[x, y] s (0, 0)) p i w W) ∧ W.cell? ⟨n, 0, none⟩ = some x ∧ W.cell? ⟨n, 1, none⟩ = some y ∧ W.cell? ⟨n + 1, 0, none⟩ = some p ∧ W.cell? ⟨n + 1, 1, none⟩ = some i ∧ W.frozen? ⟨n + 1, 0, none⟩ = false ∧ W.frozen? ⟨n + 1, 1, none⟩ = false ∧
    W.cell? ⟨n + 1 + 1, 0, none⟩ = some (valAt W ⟨n + 1 + 1, 0, none⟩) ∧ W.cell? ⟨n + 1 + 1, 1, none⟩ = some (valAt W ⟨n + 1 + 1, 1, none⟩) ∧ W.frozen? ⟨n + 1 + 1, 0, none⟩ = false ∧ W.frozen? ⟨n + 1 + 1, 1, none⟩ = false := by
  obtain ⟨u, v, hu⟩ := h.b
  obtain ⟨a1, a2, -, -⟩ := two_cells h.span
  obtain ⟨b1, b2, b3, b4⟩ := two_cells h.a
  obtain ⟨c1, c2, c3, c4⟩ := two_cells hu
  exact ⟨h, a1, a2, b1, b2, b3, b4, valAt_some c1, valAt_some c2, c3, c4⟩

set_option maxHeartbeats 8000000 in
set_option maxRecDepth 100000 in
theorem gpart_any (x fv tv : Value) (G : List Pg) (f t : List UInt8) (w : World) (hx : Pgs w x G) (hf : Rd w fv f) (ht : Rd w tv t) (ho : Ord G) :
    Calls Try.prog 34 #[x, .agg #[fv, tv]] w (PartA G f t w) := by
  obtain ⟨ao, c, rfl, hm⟩ := hx.form
  have hff := hf
  have htt := ht
  obtain ⟨fa, fc, rfl, -⟩ := hff
  obtain ⟨ta, tc, rfl, htc, htm, -⟩ := htt
  have HX := hid hx
  have HF := hid hf
  have HT := hid ht
  have HO := hid ho
  have htl : t.length ≤ maxLen := Nat.le_trans htc htm
  unfold maxLen at htl
  have hsz : Hid ((((w.alloc (.cells #[.slice fa f.length fc, .slice ta t.length tc] 25)).alloc (.cells #[.int .i64 0, .int .i64 0] 67)).alloc (.cells #[.int .i64 0, .int .i64 0] 67)).heap.size = w.heap.size + 3) := by simp [Hid]
  have b1 := ((Below.refl w.heap.size w).alloc (Nat.le_refl _) (.cells #[.slice fa f.length fc, .slice ta t.length tc] 25)).alloc (by simp) (.cells #[.int .i64 0, .int .i64 0] 67)
  have HB := hid (b1.alloc (by simp; omega) (.cells #[.int .i64 0, .int .i64 0] 67))
  have h0 : Hid ((((w.alloc (.cells #[.slice fa f.length fc, .slice ta t.length tc] 25)).alloc (.cells #[.int .i64 0, .int .i64 0] 67)).alloc (.cells #[.int .i64 0, .int .i64 0] 67)).heap[w.heap.size]? = some (.cells #[.slice fa f.length fc, .slice ta t.length tc] 25 (0, 0))) :=
    (Below.heap_alloc _ _ _ (by simp; omega)).trans ((Below.heap_alloc _ _ _ (by simp)).trans (heap_alloc_new _ _))
  have h1 : Hid ((((w.alloc (.cells #[.slice fa f.length fc, .slice ta t.length tc] 25)).alloc (.cells #[.int .i64 0, .int .i64 0] 67)).alloc (.cells #[.int .i64 0, .int .i64 0] 67)).heap[w.heap.size + 1]? = some (.cells #[.int .i64 0, .int .i64 0] 67 (0, 0))) :=
    (Below.heap_alloc _ _ _ (by simp)).trans (heap_alloc2_new _ _ _)
  have h2 : Hid ((((w.alloc (.cells #[.slice fa f.length fc, .slice ta t.length tc] 25)).alloc (.cells #[.int .i64 0, .int .i64 0] 67)).alloc (.cells #[.int .i64 0, .int .i64 0] 67)).heap[w.heap.size + 2]? = some (.cells #[.int .i64 0, .int .i64 0] 67 (0, 0))) := by
    have := heap_alloc_new ((w.alloc (.cells #[.slice fa f.length fc, .slice ta t.length tc] 25)).alloc (.cells #[.int .i64 0, .int .i64 0] 67)) (.cells #[.int .i64 0, .int .i64 0] 67)
    simpa [Hid] using this
  clear hx hf ht ho b1 htc htm
  have C := seek_any _ _ G f _ (HX.out.old HB.out) (HF.out.old HB.out) HO.out
  obtain ⟨s0, s1, -, -⟩ := two_cells h0.out
  go_enter Try.func34, Try.ntmps34
  go_wp2_with (first | (go_at_call 41; refine C.mono ?_))
  rintro e w1 ⟨p, i, hsp, rfl, hb1⟩
  have HSP := hid hsp
  have HB1 := hid (HB.out.trans (hb1.mono HB.out.size))
  have g0 := hid ((hb1.block _ (lt_of_block h0.out)).trans h0.out)
  have g1 := hid ((hb1.block _ (lt_of_block h1.out)).trans h1.out)
  have g2 := hid ((hb1.block _ (lt_of_block h2.out)).trans h2.out)
  clear hsp hb1 s0 s1
  obtain ⟨s0, s1, -, -⟩ := two_cells g0.out
  obtain ⟨q0, q1, q2, q3⟩ := two_cells g1.out
  obtain ⟨r0, r1, r2, r3⟩ := two_cells g2.out
  unfold spotV
  by_cases htz : t.length = 0
  · have h2' : ((t.length : Int) == 0) = true := by simp [htz]
    have ht0 : t = [] := List.eq_nil_of_length_eq_zero htz
    go_wp2_with fail
    refine bodyPost_ret (results_cells22 rfl _ _ (w.heap.size + 1) (w.heap.size + 1 + 1) 67 _ _ (0, 0) (0, 0) _ rfl (two_other (two_other (two_set1 (two_set0 (two_set1 (two_set0 g1.out)))) (by omega)) (by omega)) rfl
      (two_set1 (two_set0 (two_other (two_other (two_other (two_other g2.out (by omega)) (by omega)) (by omega)) (by omega)))) Try.underlying67 rfl (by kernel_rfl) (by kernel_rfl)) rfl ?_
    refine ⟨p, i, G.length, 0, by have := part_end HSP.out; rw [mls_len] at this; rw [ht0]; exact this, rfl, ?_⟩
    exact Set6.go HB1.out _ _ _ _ _ _ _ _ _ _ _ _ (Nat.le_succ _) (Nat.le_succ _) (Nat.le_succ _) (Nat.le_succ _) (by show w.heap.size ≤ w.heap.size + 1 + 1; omega) (by show w.heap.size ≤ w.heap.size + 1 + 1; omega)
  · have h2' : ((t.length : Int) == 0) = false := beq_eq_false_iff_ne.2 (by omega)
    have hne : t ≠ [] := fun e => htz (by rw [e]; rfl)
    have C2 : Hid (∀ W, Below w.heap.size w W → Calls Try.prog 48 #[.slice ta t.length tc, .slice fa f.length fc] W fun e w' => e = .returned (.int .i64 (cmpB t f)) ∧ w' = W) := fun W hW => cmp_any _ _ _ _ _ (HT.out.old hW) (HF.out.old hW)
    have HW : Hid (Below w.heap.size w ((w1.setCell ⟨w.heap.size + 1, 0, none⟩ (.int .i64 (p : Int))).setCell ⟨w.heap.size + 1, 1, none⟩ (.int .i64 (i : Int)))) := (HB1.out.setCell (p := ⟨w.heap.size + 1, 0, none⟩) (Nat.le_succ _) _).setCell (p := ⟨w.heap.size + 1, 1, none⟩) (Nat.le_succ _) _
    by_cases hlt : cmpB t f < 0
    · go_wp2_with (first | (go_at_call 48; refine (C2.out _ HW.out).mono ?_; rintro e wa ⟨rfl, rfl⟩))
      refine bodyPost_ret (results_cells22 rfl _ _ (w.heap.size + 1) (w.heap.size + 1 + 1) 67 _ _ (0, 0) (0, 0) _ rfl (two_other (two_other (two_set1 (two_set0 (two_set1 (two_set0 g1.out)))) (by omega)) (by omega)) rfl
        (two_set1 (two_set0 (two_other (two_other (two_other (two_other g2.out (by omega)) (by omega)) (by omega)) (by omega)))) Try.underlying67 rfl (by kernel_rfl) (by kernel_rfl)) rfl ?_
      refine ⟨p, i, p, i, part_none HSP.out (lt_cmp.1 hlt) hne, rfl, ?_⟩
      exact Set6.go HB1.out _ _ _ _ _ _ _ _ _ _ _ _ (Nat.le_succ _) (Nat.le_succ _) (Nat.le_succ _) (Nat.le_succ _) (by show w.heap.size ≤ w.heap.size + 1 + 1; omega) (by show w.heap.size ≤ w.heap.size + 1 + 1; omega)
    · go_wp2_with (first | (go_at_call 48; refine (C2.out _ HW.out).mono ?_; rintro e wa ⟨rfl, rfl⟩))
      have HK0 : Hid (K6 w.heap.size 67 (.cells #[.slice fa f.length fc, .slice ta t.length tc] 25 (0, 0)) (.int .i64 (p : Int)) (.int .i64 (i : Int)) w ((w1.setCell ⟨w.heap.size + 1, 0, none⟩ (.int .i64 (p : Int))).setCell ⟨w.heap.size + 1, 1, none⟩ (.int .i64 (i : Int)))) :=
        ⟨HW.out, two_other (two_other g0.out (by omega)) (by omega), two_set1 (two_set0 g1.out), _, _, two_other (two_other g2.out (by omega)) (by omega)⟩
      generalize (w1.setCell ⟨w.heap.size + 1, 0, none⟩ (.int .i64 (p : Int))).setCell ⟨w.heap.size + 1, 1, none⟩ (.int .i64 (i : Int)) = w3 at *
      have HKp : Hid (∀ W, K6 w.heap.size 67 (.cells #[.slice fa f.length fc, .slice ta t.length tc] 25 (0, 0)) (.int .i64 (p : Int)) (.int .i64 (i : Int)) w W →
        (Hid (K6 w.heap.size 67 (.cells #[.slice fa f.length fc, .slice ta t.length tc] 25 (0, 0)) (.int .i64 (p : Int)) (.int .i64 (i : Int)) w W) ∧ W.cell? ⟨w.heap.size, 0, none⟩ = some (.slice fa f.length fc) ∧ W.cell? ⟨w.heap.size, 1, none⟩ = some (.slice ta t.length tc) ∧ W.cell? ⟨w.heap.size + 1, 0, none⟩ = some (.int .i64 (p : Int)) ∧ W.cell? ⟨w.heap.size + 1, 1, none⟩ = some (.int .i64 (i : Int)) ∧ W.frozen? ⟨w.heap.size + 1, 0, none⟩ = false ∧ W.frozen? ⟨w.heap.size + 1, 1, none⟩ = false ∧
        W.cell? ⟨w.heap.size + 1 + 1, 0, none⟩ = some (valAt W ⟨w.heap.size + 1 + 1, 0, none⟩) ∧ W.cell? ⟨w.heap.size + 1 + 1, 1, none⟩ = some (valAt W ⟨w.heap.size + 1 + 1, 1, none⟩) ∧ W.frozen? ⟨w.heap.size + 1 + 1, 0, none⟩ = false ∧ W.frozen? ⟨w.heap.size + 1 + 1, 1, none⟩ = false)) := fun W h => K6.facts h
      have hk0 := HK0.out
      clear s0 s1 q0 q1 q2 q3 r0 r1 r2 r3
      obtain ⟨-, s0, s1, q0, q1, q2, q3, r0, r1, r2, r3⟩ := HKp.out _ hk0
      clear hk0
      have C3 : Hid (∀ W, K6 w.heap.size 67 (.cells #[.slice fa f.length fc, .slice ta t.length tc] 25 (0, 0)) (.int .i64 (p : Int)) (.int .i64 (i : Int)) w W → Calls Try.prog 41 #[.slice ao G.length c, .slice ta t.length tc] W (SeekA G t W)) := fun W hW => seek_any _ _ G t W (HX.out.old hW.below) (HT.out.old hW.below) HO.out
      go_region_held3 (fun W => Hid (K6 w.heap.size 67 (.cells #[.slice fa f.length fc, .slice ta t.length tc] 25 (0, 0)) (.int .i64 (p : Int)) (.int .i64 (i : Int)) w W) ∧ W.cell? ⟨w.heap.size, 0, none⟩ = some (.slice fa f.length fc) ∧ W.cell? ⟨w.heap.size, 1, none⟩ = some (.slice ta t.length tc) ∧ W.cell? ⟨w.heap.size + 1, 0, none⟩ = some (.int .i64 (p : Int)) ∧ W.cell? ⟨w.heap.size + 1, 1, none⟩ = some (.int .i64 (i : Int)) ∧ W.frozen? ⟨w.heap.size + 1, 0, none⟩ = false ∧ W.frozen? ⟨w.heap.size + 1, 1, none⟩ = false ∧
        W.cell? ⟨w.heap.size + 1 + 1, 0, none⟩ = some (valAt W ⟨w.heap.size + 1 + 1, 0, none⟩) ∧ W.cell? ⟨w.heap.size + 1 + 1, 1, none⟩ = some (valAt W ⟨w.heap.size + 1 + 1, 1, none⟩) ∧ W.frozen? ⟨w.heap.size + 1 + 1, 0, none⟩ = false ∧ W.frozen? ⟨w.heap.size + 1 + 1, 1, none⟩ = false)
        (first | (go_split_ands; first | exact HKp.out _ (K6.drew HK0.out) | exact HKp.out _ (K6.call (by assumption : Hid (K6 _ _ _ _ _ _ _)).out (by assumption)) | exact HKp.out _ (K6.setA (by assumption : Hid (K6 _ _ _ _ _ _ _)).out) | exact HKp.out _ (K6.setB (by assumption : Hid (K6 _ _ _ _ _ _ _)).out _ _)) | go_keep)
        (first
          | (go_at_call 41; go_split_ands; refine (C3.out _ (by assumption : Hid (K6 _ _ _ _ _ _ _)).out).mono ?_; rintro e wb ⟨p', i', hsp', rfl, ha⟩; unfold spotV; have HSP' := hid hsp'; clear hsp'))
      all_goals (go_wp2_with fail)
      have hkk := K6.call (K6.drew HK0.out) ha
      obtain ⟨u, v, hu⟩ := hkk.b
      refine bodyPost_ret (results_cells22 rfl _ _ (w.heap.size + 1) (w.heap.size + 1 + 1) 67 _ _ (0, 0) (0, 0) _ rfl (two_other (two_other (two_set1 (two_set0 hkk.a)) (by omega)) (by omega)) rfl
        (two_set1 (two_set0 (two_other (two_other hu (by omega)) (by omega)))) Try.underlying67 rfl (by kernel_rfl) (by kernel_rfl)) rfl ?_
      exact ⟨p, i, p', i', part_both HSP.out HSP'.out (fun e => by have := lt_cmp.2 e; omega) hne, rfl, (hkk.setA.setB _ _).below⟩
end Go.Proofs.Ytcgnghkjkdkmmaa
