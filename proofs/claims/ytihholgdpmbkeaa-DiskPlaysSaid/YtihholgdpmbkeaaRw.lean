/-
  THE DOCUMENT'S DISK: Write.
-/
import Derived.Test.YtihholgdpmbkeaaRs
set_option linter.unusedVariables false
set_option maxRecDepth 100000
namespace Go.Proofs.Ytihholgdpmbkeaa
open Go.RowKit Go.Shelf

theorem rwrite_parts : (match Try.prog.info? 68, Try.prog.underlying 68 with
    | some it, some (.struct fields) => (it.zero, fields.toList.mapM (fun f => (Try.prog.info? f.type).map fun i => (f.offset, i.size)))
    | _, _ => (none, none)) = (some (.agg (#[.int .i64 0] ++ Array.replicate 64 (.int .u8 0))), some [(0, 1), (1, 64)]) := by kernel_rfl

theorem built_rwrite (z : Int) (A : Array Value) (hA : A.size = 64) : Try.prog.built 68 [(0, .int .i64 z), (1, .agg A)] = some (#[.int .i64 z] ++ A) := by
  have hp := rwrite_parts
  unfold Program.built
  cases hi : Try.prog.info? 68 with
  | none => rw [hi] at hp; simp at hp
  | some it =>
    rw [hi] at hp
    cases hu : Try.prog.underlying 68 with
    | none => rw [hu] at hp; simp at hp
    | some d =>
      rw [hu] at hp
      cases d <;> try (simp at hp; done)
      rename_i fields
      simp only [Prod.mk.injEq] at hp
      obtain ⟨h1, h2⟩ := hp
      simp only [h1, h2]
      obtain ⟨Z, hZ⟩ : ∃ Z : Array Value, Z = #[.int .i64 0] ++ Array.replicate 64 (.int .u8 0) := ⟨_, rfl⟩
      have hZs : Z.size = 65 := by rw [hZ]; simp
      simp only [Value.cells, ← hZ]
      obtain ⟨s1, g1⟩ := fill_one 0 (.int .i64 z) Z
      have c1 : (Value.int .i64 z).cells = #[.int .i64 z] := rfl
      generalize hR1 : ((Value.int .i64 z).cells.zipIdx.foldl (fun cs (c, j) => cs.setIfInBounds (0 + j) c) Z) = R1 at s1 g1
      obtain ⟨s2, g2⟩ := fill_one 1 (.agg A) R1
      generalize hR2 : ((Value.agg A).cells.zipIdx.foldl (fun cs (c, j) => cs.setIfInBounds (1 + j) c) R1) = R2 at s2 g2
      have cA : (Value.agg A).cells = A := rfl
      rw [cA] at g2
      rw [c1] at g1
      have e1 : Instr.fill (([(0, 1), (1, 64)] : List (Nat × Nat)).toArray[·]?) Z [(0, .int .i64 z), (1, .agg A)] = some R2 := by
        unfold Instr.fill
        simp only [List.getElem?_toArray, List.getElem?_cons_zero]
        rw [hR1]
        rw [if_neg (by rw [c1]; simp [hZs])]
        unfold Instr.fill
        simp only [List.getElem?_toArray, List.getElem?_cons_succ, List.getElem?_cons_zero]
        rw [hR2]
        rw [if_neg (by rw [cA]; simp [hA, s1, hZs])]
        unfold Instr.fill
        rfl
      rw [e1]
      congr 1
      apply Array.ext_getElem?
      intro k
      rw [g2 k, g1 k]
      rw [Array.getElem?_append]
      simp only [List.size_toArray, List.length_cons, List.length_nil]
      by_cases k0 : k = 0
      · subst k0; simp [hZs]
      · by_cases k1 : k < 65
        · rw [if_pos (by omega), if_neg (by omega)]
        · rw [if_neg (by omega), if_neg (by omega), if_neg (by omega), Array.getElem?_eq_none (by omega), Array.getElem?_eq_none (by omega)]

theorem info_rwrite : (Try.prog.info? 68).map (fun i => (i.zero, i.size, i.bytes)) = some (some (.agg (#[.int .i64 0] ++ Array.replicate 64 (.int .u8 0))), 65, 72) := by kernel_rfl
theorem run_rbuildOne (R : Array Value) (hR : R.size = 65) (W : World) : (Instr.buildSlice 40 1 #[(0, .agg R)]).run Try.prog W = .ok (.slice (some ⟨W.heap.size, 0, none⟩) 1 1) (W.alloc (.cells R 68)) := by
  obtain ⟨i, hi, h1⟩ := Option.map_eq_some_iff.1 info_rwrite
  simp only [Prod.mk.injEq] at h1
  obtain ⟨hz, hs, -⟩ := h1
  refine run_buildSlice W _ _ 1 _ R i _ Try.underlying40 hi hz (by rw [hs]; decide) (by rw [hs]; decide) ?_
  rw [hs]
  have h := Great.fill_whole (s := 65) (by decide) [.agg R] ((Array.range (1 * 65)).map ((Value.agg (#[.int .i64 0] ++ Array.replicate 64 (.int .u8 0))).cells[· % (Value.agg (#[.int .i64 0] ++ Array.replicate 64 (.int .u8 0))).cells.size]!)) (by intro v hv; simp at hv; subst hv; exact hR) (by simp)
  have e : ([Value.agg R].flatMap fun v => v.cells.toList).toArray = R := by simp [Value.cells]
  rw [e] at h
  exact h
theorem row65_rws {W : World} {b : Nat} {x : Wr} {R : Array Value} (h : W.heap[b]? = some (.cells R 68 (0, 0))) (hR : R = (row65 x).toArray) (hl : x.now.length = 64) : Rws 65 W (.slice (some ⟨b, 0, none⟩) 1 1) [row65 x] := by
  refine ⟨_, _, rfl, Nat.le_refl _, by decide, (fun e => by cases e), fun r hr => ?_, fun a ha j u hu => ?_⟩
  · obtain rfl : r = row65 x := by simpa using hr
    exact ⟨by simp [row65, hl], row65_one _⟩
  · cases ha
    rw [WideShapes.add_plain, Nat.zero_add]
    unfold World.cell?
    rw [h]
    show R[j]? = some u
    rw [hR]
    simpa using hu
theorem rrun_one {v : Value} {db o : Nat} {W : World} (h : W.cell? ⟨db, o, none⟩ = some v) : (Instr.loadAt 40 (.pointer (some ⟨db, o, none⟩))).run Try.prog W = .ok v W := by
  have h1 := Try.underlying40
  simp [Instr.loadAt, Instr.sureAddr, loadVar, isAgg, run_underlying h1, h]

section
variable {w : World} {rb tb n : Nat} {wv : Value} {T : List (List UInt8)} {Q : List Wr} {dn : Bool} {lf : Nat}

/-- One write more waits. -/
theorem Rk.app (h : Rk w rb tb n wv T Q dn lf) {w5 : World} {ao : Option Addr} {m c : Nat} {x : Wr} (hg : w.grownBy w5 wv.ownBlock)
    (ho : w5.ownsRow 0 68 65 (.slice ao m c) (Q.length + [row65 x].length) ((Q.map row65).flatten ++ [row65 x].flatten)) (hx : x.at' < n ∧ x.now.length = 64) (hfr : ∀ k, (Value.slice ao m c).ownBlock = some k → wv.ownBlock = some k ∨ w.heap.size ≤ k) :
    Rk (w5.setCell ⟨rb, 1, none⟩ (.slice ao m c)) rb tb n (.slice ao m c) T (Q ++ [x]) dn lf ∧ Dfr rb tb wv (.slice ao m c) w (w5.setCell ⟨rb, 1, none⟩ (.slice ao m c)) := by
  have hd5 := heap_kept hg h.hd (fun e => h.apart.2.1 e.symm)
  have hs5 := heap_kept hg h.sh (fun e => h.apart.2.2 e.symm)
  have hne : (Value.slice ao m c).ownBlock ≠ some rb := fun e => by
    rcases ho.2 with ⟨h1, h2⟩ | ⟨g, cap, cur, h1, _, h3, _⟩
    · rw [h1] at e; cases e
    · rw [h1] at e
      have : g = rb := by simpa [Value.ownBlock] using e
      subst this
      rw [hd5] at h3
      simp at h3
  refine ⟨⟨set_at _ hd5, (Below.heap_setCell _ ⟨rb, 1, none⟩ _ tb (fun e => h.apart.1 e.symm)).trans hs5, ?_, h.len, fun y hy => ?_, h.few⟩, ?_⟩
  · have h9 := ho.kept (grown_set w5 ⟨rb, 1, none⟩ (.slice ao m c)) (.inr hne)
    simpa using h9
  · rcases List.mem_append.1 hy with hy | hy
    · exact h.ok y hy
    · obtain rfl : y = x := by simpa using hy
      exact hx
  · exact ⟨(Keep.of_grown hg (fun k hk => .inr (.inr hk))).trans (Keep.set w5 _ _ (.inl rfl)), hfr⟩

set_option maxHeartbeats 8000000 in
theorem rwrite_gen (h : Rk w rb tb n wv T Q false lf) (hlf : lf ≤ 9223372036854775807) (x : Value) (l s : List UInt8) (k : Nat) (hkn : k < n) (hx : Rd w x l) (hl : l.length = 64) (hq : Q.length ≤ 100000) :
    Calls Try.prog 27 #[.pointer (some ⟨rb, 0, none⟩), .int .i64 (k : Int), x] w (fun e w' => e = .returned (.int .i64 (hitE lf)) ∧ ∃ wv', Rk w' rb tb n wv' T (Q ++ [⟨k, s, l⟩]) (hitD lf) (lf - 1) ∧ Dfr rb tb wv wv' w w') := by
  obtain ⟨xo, xc, rfl, -⟩ := id hx
  obtain ⟨xb, xoff, rfl, hxr⟩ := rd_range hx (by omega)
  obtain ⟨he, hhe⟩ : ∃ x, x = hitE lf := ⟨_, rfl⟩
  obtain ⟨hdn, hhd⟩ : ∃ x, x = hitD lf := ⟨_, rfl⟩
  obtain ⟨lg, hlg⟩ : ∃ x, x = lf - 1 := ⟨_, rfl⟩
  have HHE : Hid (he = hitE lf ∧ hdn = hitD lf ∧ lg = lf - 1) := ⟨hhe, hhd, hlg⟩
  rw [← hhe, ← hhd, ← hlg, hl]
  clear hhe hhd hlg
  obtain ⟨c0, c1, c2, c3, f0, f1, f2, f3⟩ := four_cells h.hd
  have hlen := fun W => run_len_slice (P := Try.prog) W 39 3 (some ⟨tb, 0, none⟩) n n Try.underlying39
  have hlen2 := fun W => run_len_slice (P := Try.prog) W 30 3 (some ⟨xb, xoff, none⟩) 64 xc Try.underlying30
  have hk0 : ¬ ((k : Int) < 0) := by omega
  have hk1 : ¬ ((n : Int) ≤ (k : Int)) := by omega
  have hk2 : (k : Int) < (n : Int) := by omega
  obtain ⟨W1, hW1⟩ : ∃ W1, W1 = (w.alloc (.cells zc64 64)).setCells w.heap.size 0 (l.map bv) := ⟨_, rfl⟩
  have hcp : (Builtin.copy_ #[30, 30] 3 #[.slice (some ⟨w.heap.size, 0, none⟩) 64 64, .slice (some ⟨xb, xoff, none⟩) 64 xc]).run Try.prog (w.alloc (.cells zc64 64)) = .ok (.int .i64 64) W1 := by
    have hz : (w.alloc (.cells zc64 64)).heap[w.heap.size]? = some (.cells zc64 64 (0, 0)) := heap_alloc_new _ _
    have h9 := run_copy_cells (P := Try.prog) (w.alloc (.cells zc64 64)) 30 30 3 5 w.heap.size 0 64 64 ⟨xb, xoff, none⟩ 64 xc (l.map bv) Try.underlying30 (by kernel_rfl) (by rw [List.length_map, hl]; rfl)
      (fun j v hv => by rw [Addr.add_mid]; exact (World.rangeAt_alloc hxr _) j v hv)
      (fun j hj => by
        rw [List.length_map, hl] at hj
        unfold World.cell?
        rw [hz]
        show (zc64[0 + j]?).isSome = true
        rw [Array.getElem?_eq_getElem (by rw [zero_64c]; omega)]
        rfl)
      (fun j hj => by unfold World.frozen?; rw [hz]; simp) (bv_one l)
    rw [h9, hW1, List.length_map, hl]
    rfl
  have hb1 : Below w.heap.size w W1 := by rw [hW1]; exact below_setCells (Nat.le_refl _) _ _ _ ((Below.refl _ _).alloc (Nat.le_refl _) _)
  have hx1 : W1.heap[w.heap.size]? = some (.cells (l.map bv).toArray 64 (0, 0)) := by
    obtain ⟨c', q1, q2, q3⟩ := setCells_at (l.map bv) 0 (w.alloc (.cells zc64 64)) zc64 (heap_alloc_new _ _) (by rw [zero_64c, List.length_map, hl]; decide)
    rw [hW1, q1]
    have : c' = (l.map bv).toArray := by
      apply Array.ext_getElem?
      intro j
      rw [q3 j, List.length_map, hl]
      by_cases hj : j < 64
      · rw [if_pos (by omega), Nat.sub_zero, List.getElem?_toArray]
      · rw [if_neg (by omega), Array.getElem?_eq_none (xs := zc64) (by rw [zero_64c]; omega), Array.getElem?_eq_none (by rw [List.size_toArray, List.length_map, hl]; omega)]
    rw [this]
  have HCP := hid hcp
  have H1 := hid (h.old hb1)
  have HB1 := hid hb1
  have HX1 := hid hx1
  have hlb := h.lt
  obtain ⟨bx, hbx⟩ : ∃ bx, bx = w.heap.size := ⟨_, rfl⟩
  have HBX := hid hbx
  have HLB := hid hlb
  have HL := hid hl
  rw [← hbx] at HX1
  have CH0 := hit_any (h.old hb1) hlf
  rw [← HHE.out.2.1, ← HHE.out.2.2] at CH0
  have CH := hid CH0
  clear h hx hW1 hb1 hx1 hlb CH0 hl HCP
  go_enter Try.func27, Try.ntmps27
  go_upto_region 8 with (first
    | (with_reducible refine wp_al64 ?_)
    | (go_at_call 37; refine CH.out.mono ?_; rintro e w2 ⟨rfl, h2, hf2⟩))
  have hx2 : w2.heap[bx]? = some (.cells (l.map bv).toArray 64 (0, 0)) := (hf2.keep.block bx (lt_of_block HX1.out) (fun e => by
    have h1 := HLB.out bx e
    have h2 := HBX.out
    omega)).trans HX1.out
  have HF2 := hid hf2
  have H2 := hid h2
  have HX2 := hid hx2
  clear c0 c1 c2 c3 f0 f1 f2 f3 h2 hf2 hx2 hcp
  obtain ⟨c0, c1, c2, c3, f0, f1, f2, f3⟩ := four_cells H2.out.hd
  rw [← HBX.out]
  clear hbx
  have hne1 : rb ≠ bx := fun e => by have h1 := HLB.out rb (.inl rfl); have h2 := HBX.out; omega
  have hvb : wv.ownBlock ≠ some bx := fun e => by have h1 := HLB.out bx (.inr (.inr e)); have h2 := HBX.out; omega
  have hlt2 : bx < w2.heap.size := lt_of_block HX2.out
  obtain ⟨R, hR⟩ : ∃ R, R = (row65 ⟨k, s, l⟩).toArray := ⟨_, rfl⟩
  have hRs : R.size = 65 := by rw [hR]; simp [row65, HL.out]
  have hbd : ∀ W, (Instr.build 68 #[(0, .int .i64 (k : Int)), (1, .agg (l.map bv).toArray)]).run Try.prog W = .ok (.agg R) W := fun W => by
    have h := run_build (P := Try.prog) W 68 #[(0, .int .i64 (k : Int)), (1, .agg (l.map bv).toArray)] _ (built_rwrite (k : Int) (l.map bv).toArray (by simp [HL.out]))
    rw [h, hR]
    simp [row65]
  have HRE := hid hR
  have HBD := hid hbd
  clear hR hbd
  go_cut [] from 34 to 45 (fun wx => ∃ wv5, Rk wx rb tb n wv5 T (Q ++ [⟨k, s, l⟩]) hdn lg ∧ Dfr rb tb wv wv5 w2 wx)
  case first =>
    obtain ⟨S7, hS7⟩ : ∃ S7 : World → Prop, S7 = fun W => W.heap[bx]? = some (.cells (l.map bv).toArray 64 (0, 0)) := ⟨_, rfl⟩
    have hV : ∀ W, S7 W → W.heap[bx]? = some (.cells (l.map bv).toArray 64 (0, 0)) := fun W h => by rw [hS7] at h; exact h
    have hV2 : ∀ W, W.heap[bx]? = some (.cells (l.map bv).toArray 64 (0, 0)) → S7 W := fun W h1 => by rw [hS7]; exact h1
    clear hS7
    refine wp_region_noPanic ?_
    refine wp_region_held_drew (S := S7) (by kernel_rfl) (hV2 _ HX2.out) (fun hX7 => ?_)
    refine wpAnyH_take (i := 0) (v := (.pointer (some ⟨rb, 0, none⟩))) rfl (by kernel_rfl) (by kernel_rfl) (by kernel_rfl) (fun _ _ _ h => (show False from h).elim) ?xyF0 ?xhF0 ?xrF0
    case xhF0 => exact hX7
    case xyF0 => exact Or.inl ⟨by rfl, fun W hW => by clear hV hX7; simp only [List.getElem_toArray, List.getElem_cons_succ, List.getElem_cons_zero]; go_simp⟩
    simp only [Act.put, List.getElem_toArray, List.getElem_cons_succ, List.getElem_cons_zero, List.setIfInBounds_toArray, List.set_cons_succ, List.set_cons_zero]
    refine wpAnyH_take (i := 1) (v := (.pointer (some ⟨rb, 0, none⟩))) rfl (by kernel_rfl) (by kernel_rfl) (by kernel_rfl) (fun _ _ _ h => (show False from h).elim) ?xyF1 ?xhF1 ?xrF1
    case xhF1 => exact hX7
    case xyF1 => exact Or.inl ⟨by rfl, fun W hW => by clear hV hX7; simp only [List.getElem_toArray, List.getElem_cons_succ, List.getElem_cons_zero]; go_simp⟩
    simp only [Act.put, List.getElem_toArray, List.getElem_cons_succ, List.getElem_cons_zero, List.setIfInBounds_toArray, List.set_cons_succ, List.set_cons_zero]
    refine wpAnyH_take (i := 2) (v := (.pointer (some ⟨rb, 0, none⟩))) rfl (by kernel_rfl) (by kernel_rfl) (by kernel_rfl) (fun _ _ _ h => (show False from h).elim) ?xyF2 ?xhF2 ?xrF2
    case xhF2 => exact hX7
    case xyF2 => exact Or.inl ⟨by rfl, fun W hW => by clear hV hX7; simp only [List.getElem_toArray, List.getElem_cons_succ, List.getElem_cons_zero]; go_simp⟩
    simp only [Act.put, List.getElem_toArray, List.getElem_cons_succ, List.getElem_cons_zero, List.setIfInBounds_toArray, List.set_cons_succ, List.set_cons_zero]
    refine wpAnyH_take (i := 3) (v := (.pointer (some ⟨rb, 1, none⟩))) rfl (by kernel_rfl) (by kernel_rfl) (by kernel_rfl) (fun _ _ _ h => (show False from h).elim) ?xyF3 ?xhF3 ?xrF3
    case xhF3 => exact hX7
    case xyF3 => exact Or.inl ⟨by rfl, fun W hW => by clear hV hX7; simp only [List.getElem_toArray, List.getElem_cons_succ, List.getElem_cons_zero]; go_simp⟩
    simp only [Act.put, List.getElem_toArray, List.getElem_cons_succ, List.getElem_cons_zero, List.setIfInBounds_toArray, List.set_cons_succ, List.set_cons_zero]
    refine wpAnyH_take (i := 5) (v := (.int .i64 (k : Int))) rfl (by kernel_rfl) (by kernel_rfl) (by kernel_rfl) (fun _ _ _ h => (show False from h).elim) ?xyF5 ?xhF5 ?xrF5
    case xhF5 => exact hX7
    case xyF5 => exact Or.inl ⟨by rfl, fun W hW => by clear hV hX7; simp only [List.getElem_toArray, List.getElem_cons_succ, List.getElem_cons_zero]; go_simp⟩
    simp only [Act.put, List.getElem_toArray, List.getElem_cons_succ, List.getElem_cons_zero, List.setIfInBounds_toArray, List.set_cons_succ, List.set_cons_zero]
    refine wpAnyH_take (i := 6) (v := (.agg (l.map bv).toArray)) rfl (by kernel_rfl) (by kernel_rfl) (by kernel_rfl) (fun _ _ _ h => (show False from h).elim) ?xyF6 ?xhF6 ?xrF6
    case xhF6 => exact hX7
    case xyF6 => exact Or.inl ⟨by rfl, fun W hW => by simp only [List.getElem_toArray, List.getElem_cons_succ, List.getElem_cons_zero]; exact exec_load (t := 64) (x := .tmp 7) rfl (run_loadAt_mid W bx 0 64 (l.map bv) _ (fun j v hv => by unfold World.cell?; rw [hV W hW]; show ((l.map bv).toArray)[0 + j]? = some v; rw [Nat.zero_add, List.getElem?_toArray]; exact hv) Try.underlying64 rfl (by rw [size_64, List.length_map, HL.out]))⟩
    simp only [Act.put, List.getElem_toArray, List.getElem_cons_succ, List.getElem_cons_zero, List.setIfInBounds_toArray, List.set_cons_succ, List.set_cons_zero]
    refine wpAnyH_take (i := 7) (v := (.agg R)) rfl (by kernel_rfl) (by kernel_rfl) (by kernel_rfl) (fun _ _ _ h => (show False from h).elim) ?xyF7 ?xhF7 ?xrF7
    case xhF7 => exact hX7
    case xyF7 => exact Or.inl ⟨by rfl, fun W hW => by exact exec_build rfl ((congrArg (fun p => (Instr.build 68 p).run Try.prog W) (by simp only [List.map_toArray, List.map_cons, List.map_nil]; rfl)).trans (HBD.out W))⟩
    simp only [Act.put, List.getElem_toArray, List.getElem_cons_succ, List.getElem_cons_zero, List.setIfInBounds_toArray, List.set_cons_succ, List.set_cons_zero]
    refine wpAnyH_all (rs := [4, 8]) (by kernel_rfl) (by simp) (fun i hi => ?_)
    have hi2 : i = 4 ∨ i = 8 := by simpa using hi
    clear hi
    rcases hi2 with rfl | rfl
    · unfold wpOp
      simp only [List.getElem?_toArray, List.getElem?_cons_succ, List.getElem?_cons_zero]
      rw [if_pos (by rfl)]
      unfold Oper.wp
      rw [exec_load (t := 40) (x := .tmp 37) (v := wv) rfl (rrun_one (W := w2.drew) c1)]
      simp only [Oper.upon]
      refine .inl ⟨hX7, ?_⟩
      simp only [Act.put, List.getElem_toArray, List.getElem_cons_succ, List.getElem_cons_zero, List.setIfInBounds_toArray, List.set_cons_succ, List.set_cons_zero]
      refine wpAnyH_all (rs := [8]) (by kernel_rfl) (by simp) (fun i hi => ?_)
      obtain rfl : i = 8 := by simpa using hi
      unfold wpOp
      simp only [List.getElem?_toArray, List.getElem?_cons_succ, List.getElem?_cons_zero]
      rw [if_pos (by rfl)]
      unfold Oper.wp
      rw [exec_buildSlice (t := 40) (n := 1) (parts := #[(0, .tmp 41)]) rfl ((congrArg (fun p => (Instr.buildSlice 40 1 p).run Try.prog w2.drew) (by simp only [List.map_toArray, List.map_cons, List.map_nil]; rfl)).trans (run_rbuildOne R hRs w2.drew))]
      simp only [Oper.upon]
      have hba : Below w2.heap.size w2 (w2.drew.alloc (.cells R 68)) := ((Below.refl _ _).drew.alloc (Nat.le_refl _) _)
      have hya : (w2.drew.alloc (.cells R 68)).heap[w2.heap.size]? = some (.cells R 68 (0, 0)) := heap_alloc_new _ _
      have hsz3 : w2.drew.heap.size = w2.heap.size := rfl
      rw [hsz3]
      generalize w2.drew.alloc (.cells R 68) = w4 at *
      have H4 := hid (H2.out.old hba)
      have c14 := (four_cells H4.out.hd).2.1
      have hx4 := (hba.block _ hlt2).trans HX2.out
      refine .inl ⟨hV2 _ hx4, ?_⟩
      simp only [Act.put, List.getElem_toArray, List.getElem_cons_succ, List.getElem_cons_zero, List.setIfInBounds_toArray, List.set_cons_succ, List.set_cons_zero]
      refine wpAnyH_all (rs := [9]) (by kernel_rfl) (by simp) (fun i hi => ?_)
      obtain rfl : i = 9 := by simpa using hi
      unfold wpOp
      simp only [List.getElem?_toArray, List.getElem?_cons_succ, List.getElem?_cons_zero]
      rw [if_pos (by rfl)]
      have hrw : Rws 65 w4 (.slice (some ⟨w2.heap.size, 0, none⟩) 1 1) [row65 ⟨k, s, l⟩] := row65_rws hya HRE.out HL.out
      refine .inl (step_rapp (.tmp 38) (.tmp 42) 40 ?ap2a 0 65 72 68 Try.underlying40 _ info_rwrite (by simp [Value.cells]) (by decide) wv Q.length (Q.map row65).flatten ?ap3a H4.out.wa (.slice (some ⟨w2.heap.size, 0, none⟩) 1 1) [row65 ⟨k, s, l⟩] ?ap4a hrw (by simp only [List.length_cons, List.length_nil]; omega) (by unfold maxLen; simp only [List.length_cons, List.length_nil]; omega) (Nat.zero_le _) ?ap5a)
      case ap2a => rfl
      case ap3a => rfl
      case ap4a => rfl
      intro v5 w5 ho5 hg5 hf5
      obtain ⟨vo5, vc5, rfl⟩ := own_form ho5
      have c15 : w5.cell? ⟨rb, 1, none⟩ = some wv := by
        rw [World.cell?_of_block (w := w4) (a := ⟨rb, 1, none⟩) (hg5.block _ (lt_of_block H4.out.hd) (fun e => H4.out.apart.2.1 e.symm))]
        exact c14
      have f15 : w5.frozen? ⟨rb, 1, none⟩ = false := by
        rw [World.frozen?_of_block (w := w4) (a := ⟨rb, 1, none⟩) (hg5.block _ (lt_of_block H4.out.hd) (fun e => H4.out.apart.2.1 e.symm))]
        exact (four_cells H4.out.hd).2.2.2.2.2.1
      have hx5 : w5.heap[bx]? = some (.cells (l.map bv).toArray 64 (0, 0)) := (hg5.block _ (lt_of_block hx4) (fun e => hvb e.symm)).trans hx4
      have hX5 := hV2 _ hx5
      refine ⟨hX5, ?_⟩
      simp only [Act.put, List.getElem_toArray, List.getElem_cons_succ, List.getElem_cons_zero, List.setIfInBounds_toArray, List.set_cons_succ, List.set_cons_zero]
      refine wpAnyH_take (i := 10) (v := (.pointer (some ⟨rb, 0, none⟩))) rfl (by kernel_rfl) (by kernel_rfl) (by kernel_rfl) (fun _ _ _ h => (show False from h).elim) ?xyEa10 ?xhEa10 ?xrEa10
      case xhEa10 => exact hX5
      case xyEa10 => exact Or.inl ⟨by rfl, fun W hW => by clear hV hX7 hX5; simp only [List.getElem_toArray, List.getElem_cons_succ, List.getElem_cons_zero]; go_simp⟩
      simp only [Act.put, List.getElem_toArray, List.getElem_cons_succ, List.getElem_cons_zero, List.setIfInBounds_toArray, List.set_cons_succ, List.set_cons_zero]
      refine wpAnyH_take (i := 11) (v := (.pointer (some ⟨rb, 1, none⟩))) rfl (by kernel_rfl) (by kernel_rfl) (by kernel_rfl) (fun _ _ _ h => (show False from h).elim) ?xyEa11 ?xhEa11 ?xrEa11
      case xhEa11 => exact hX5
      case xyEa11 => exact Or.inl ⟨by rfl, fun W hW => by clear hV hX7 hX5; simp only [List.getElem_toArray, List.getElem_cons_succ, List.getElem_cons_zero]; go_simp⟩
      simp only [Act.put, List.getElem_toArray, List.getElem_cons_succ, List.getElem_cons_zero, List.setIfInBounds_toArray, List.set_cons_succ, List.set_cons_zero]
      refine wpAnyH_all (rs := [12]) (by kernel_rfl) (by simp) (fun i hi => ?_)
      obtain rfl : i = 12 := by simpa using hi
      unfold wpOp
      simp only [List.getElem?_toArray, List.getElem?_cons_succ, List.getElem?_cons_zero]
      rw [if_pos (by rfl)]
      have HX5 := hid hx5
      have HV2 := hid hV2
      clear hV hV2 hX7 hX5 hx5 hx4
      go_simp
      have hfin := H4.out.app hg5 ho5 ⟨hkn, HL.out⟩ hf5
      have hfx : (w5.setCell ⟨rb, 1, none⟩ (.slice vo5 (Q.length + 1) vc5)).heap[bx]? = some (.cells (l.map bv).toArray 64 (0, 0)) := (Below.heap_setCell _ ⟨rb, 1, none⟩ _ bx (fun e => hne1 e.symm)).trans HX5.out
      refine .inl ⟨HV2.out _ hfx, ?_⟩
      refine wpAnyH_done (by kernel_rfl) (NoPanic.normal ?_) _
      have HBA := hid hba
      clear c14 c15 f15 hrw hya hg5 ho5 hf5
      simp only [List.length_cons, List.length_nil] at hfin
      go_wp2_with fail
      go_meet
      exact ⟨_, hfin.1, (Dfr.of_below HBA.out).trans hfin.2⟩
    · unfold wpOp
      simp only [List.getElem?_toArray, List.getElem?_cons_succ, List.getElem?_cons_zero]
      rw [if_pos (by rfl)]
      unfold Oper.wp
      rw [exec_buildSlice (t := 40) (n := 1) (parts := #[(0, .tmp 41)]) rfl ((congrArg (fun p => (Instr.buildSlice 40 1 p).run Try.prog w2.drew) (by simp only [List.map_toArray, List.map_cons, List.map_nil]; rfl)).trans (run_rbuildOne R hRs w2.drew))]
      simp only [Oper.upon]
      have hba : Below w2.heap.size w2 (w2.drew.alloc (.cells R 68)) := ((Below.refl _ _).drew.alloc (Nat.le_refl _) _)
      have hya : (w2.drew.alloc (.cells R 68)).heap[w2.heap.size]? = some (.cells R 68 (0, 0)) := heap_alloc_new _ _
      have hsz3 : w2.drew.heap.size = w2.heap.size := rfl
      rw [hsz3]
      generalize w2.drew.alloc (.cells R 68) = w4 at *
      have H4 := hid (H2.out.old hba)
      have c14 := (four_cells H4.out.hd).2.1
      have hx4 := (hba.block _ hlt2).trans HX2.out
      refine .inl ⟨hV2 _ hx4, ?_⟩
      simp only [Act.put, List.getElem_toArray, List.getElem_cons_succ, List.getElem_cons_zero, List.setIfInBounds_toArray, List.set_cons_succ, List.set_cons_zero]
      refine wpAnyH_all (rs := [4]) (by kernel_rfl) (by simp) (fun i hi => ?_)
      obtain rfl : i = 4 := by simpa using hi
      unfold wpOp
      simp only [List.getElem?_toArray, List.getElem?_cons_succ, List.getElem?_cons_zero]
      rw [if_pos (by rfl)]
      unfold Oper.wp
      rw [exec_load (t := 40) (x := .tmp 37) (v := wv) rfl (rrun_one c14)]
      simp only [Oper.upon]
      refine .inl ⟨hV2 _ hx4, ?_⟩
      simp only [Act.put, List.getElem_toArray, List.getElem_cons_succ, List.getElem_cons_zero, List.setIfInBounds_toArray, List.set_cons_succ, List.set_cons_zero]
      refine wpAnyH_all (rs := [9]) (by kernel_rfl) (by simp) (fun i hi => ?_)
      obtain rfl : i = 9 := by simpa using hi
      unfold wpOp
      simp only [List.getElem?_toArray, List.getElem?_cons_succ, List.getElem?_cons_zero]
      rw [if_pos (by rfl)]
      have hrw : Rws 65 w4 (.slice (some ⟨w2.heap.size, 0, none⟩) 1 1) [row65 ⟨k, s, l⟩] := row65_rws hya HRE.out HL.out
      refine .inl (step_rapp (.tmp 38) (.tmp 42) 40 ?ap2b 0 65 72 68 Try.underlying40 _ info_rwrite (by simp [Value.cells]) (by decide) wv Q.length (Q.map row65).flatten ?ap3b H4.out.wa (.slice (some ⟨w2.heap.size, 0, none⟩) 1 1) [row65 ⟨k, s, l⟩] ?ap4b hrw (by simp only [List.length_cons, List.length_nil]; omega) (by unfold maxLen; simp only [List.length_cons, List.length_nil]; omega) (Nat.zero_le _) ?ap5b)
      case ap2b => rfl
      case ap3b => rfl
      case ap4b => rfl
      intro v5 w5 ho5 hg5 hf5
      obtain ⟨vo5, vc5, rfl⟩ := own_form ho5
      have c15 : w5.cell? ⟨rb, 1, none⟩ = some wv := by
        rw [World.cell?_of_block (w := w4) (a := ⟨rb, 1, none⟩) (hg5.block _ (lt_of_block H4.out.hd) (fun e => H4.out.apart.2.1 e.symm))]
        exact c14
      have f15 : w5.frozen? ⟨rb, 1, none⟩ = false := by
        rw [World.frozen?_of_block (w := w4) (a := ⟨rb, 1, none⟩) (hg5.block _ (lt_of_block H4.out.hd) (fun e => H4.out.apart.2.1 e.symm))]
        exact (four_cells H4.out.hd).2.2.2.2.2.1
      have hx5 : w5.heap[bx]? = some (.cells (l.map bv).toArray 64 (0, 0)) := (hg5.block _ (lt_of_block hx4) (fun e => hvb e.symm)).trans hx4
      have hX5 := hV2 _ hx5
      refine ⟨hX5, ?_⟩
      simp only [Act.put, List.getElem_toArray, List.getElem_cons_succ, List.getElem_cons_zero, List.setIfInBounds_toArray, List.set_cons_succ, List.set_cons_zero]
      refine wpAnyH_take (i := 10) (v := (.pointer (some ⟨rb, 0, none⟩))) rfl (by kernel_rfl) (by kernel_rfl) (by kernel_rfl) (fun _ _ _ h => (show False from h).elim) ?xyEb10 ?xhEb10 ?xrEb10
      case xhEb10 => exact hX5
      case xyEb10 => exact Or.inl ⟨by rfl, fun W hW => by clear hV hX7 hX5; simp only [List.getElem_toArray, List.getElem_cons_succ, List.getElem_cons_zero]; go_simp⟩
      simp only [Act.put, List.getElem_toArray, List.getElem_cons_succ, List.getElem_cons_zero, List.setIfInBounds_toArray, List.set_cons_succ, List.set_cons_zero]
      refine wpAnyH_take (i := 11) (v := (.pointer (some ⟨rb, 1, none⟩))) rfl (by kernel_rfl) (by kernel_rfl) (by kernel_rfl) (fun _ _ _ h => (show False from h).elim) ?xyEb11 ?xhEb11 ?xrEb11
      case xhEb11 => exact hX5
      case xyEb11 => exact Or.inl ⟨by rfl, fun W hW => by clear hV hX7 hX5; simp only [List.getElem_toArray, List.getElem_cons_succ, List.getElem_cons_zero]; go_simp⟩
      simp only [Act.put, List.getElem_toArray, List.getElem_cons_succ, List.getElem_cons_zero, List.setIfInBounds_toArray, List.set_cons_succ, List.set_cons_zero]
      refine wpAnyH_all (rs := [12]) (by kernel_rfl) (by simp) (fun i hi => ?_)
      obtain rfl : i = 12 := by simpa using hi
      unfold wpOp
      simp only [List.getElem?_toArray, List.getElem?_cons_succ, List.getElem?_cons_zero]
      rw [if_pos (by rfl)]
      have HX5 := hid hx5
      have HV2 := hid hV2
      clear hV hV2 hX7 hX5 hx5 hx4
      go_simp
      have hfin := H4.out.app hg5 ho5 ⟨hkn, HL.out⟩ hf5
      have hfx : (w5.setCell ⟨rb, 1, none⟩ (.slice vo5 (Q.length + 1) vc5)).heap[bx]? = some (.cells (l.map bv).toArray 64 (0, 0)) := (Below.heap_setCell _ ⟨rb, 1, none⟩ _ bx (fun e => hne1 e.symm)).trans HX5.out
      refine .inl ⟨HV2.out _ hfx, ?_⟩
      refine wpAnyH_done (by kernel_rfl) (NoPanic.normal ?_) _
      have HBA := hid hba
      clear c14 c15 f15 hrw hya hg5 ho5 hf5
      simp only [List.length_cons, List.length_nil] at hfin
      go_wp2_with fail
      go_meet
      exact ⟨_, hfin.1, (Dfr.of_below HBA.out).trans hfin.2⟩
  case rest =>
    obtain ⟨wv5, hR5, hF5⟩ := hcut
    have HR5 := hid hR5
    have HF5 := hid hF5
    clear hR5 hF5 c0 c1 c2 c3 f0 f1 f2 f3
    have hhe : (hdn = true ∧ he = 3) ∨ (hdn = false ∧ he = 0) := by
      rw [HHE.out.1, HHE.out.2.1]
      unfold hitD hitE
      by_cases e : lf = 1
      · exact .inl ⟨decide_eq_true e, if_pos e⟩
      · exact .inr ⟨decide_eq_false e, if_neg e⟩
    rcases hhe with ⟨rfl, rfl⟩ | ⟨rfl, rfl⟩
    · go_wp2_with fail
      go_ret
      exact ⟨rfl, wv5, HR5.out, ((Dfr.of_below HB1.out).trans HF2.out).trans HF5.out⟩
    · go_wp2_with fail
      go_ret
      exact ⟨rfl, wv5, HR5.out, ((Dfr.of_below HB1.out).trans HF2.out).trans HF5.out⟩
end
end Go.Proofs.Ytihholgdpmbkeaa
