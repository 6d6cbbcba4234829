/-
  RAFT: a group of one: termAt, commitSame, sendAll.
-/
import Derived.Test.YtdaecndbdinddaaRa
import Derived.Test.YtdaecndbdinddaaRb
import Derived.BigRegion
set_option linter.unusedVariables false
set_option linter.unusedSimpArgs false
set_option maxRecDepth 100000
namespace Go.Proofs.Ytdaecndbdinddaa
open Go.RowKit Go.Deep

theorem Keep.of_below {X : Nat → Prop} {w w' : World} (h : Below w.heap.size w w') : Keep X w w' := ⟨h.os, h.tape, h.output, h.size, fun i hi _ => h.block i hi⟩
/-- The term of what is there at an index. -/
def termOf (l : Lo) (i : Nat) : Nat := if i ≤ l.si then l.st else match l.es[i - l.si - 1]? with
  | some e => e.t
  | none => l.st
section
variable {w w' : World} {b : Nat} {id n : Int} {l : Lo} {role ld : Int} {cm : Nat} {tk : Int} {v : Bool}
set_option maxHeartbeats 4000000 in
theorem termAt_any (h : NdAt w b id n l role ld cm tk v) (hl : LoAt w l) (i : Nat) (hi : l.si ≤ i ∧ i ≤ l.si + l.es.length) (hm : l.si + l.es.length < 18446744073709551616) :
    Calls Try.prog 52 #[.pointer (some ⟨b, 0, none⟩), .int .u64 (i : Int)] w (fun e w' => e = .returned (.tuple #[.int .u64 (termOf l i : Int), .bool true]) ∧ Below w.heap.size w w') := by
  obtain ⟨-, -, -, -, c4, c5, c6, c7, -⟩ := h.cells
  have hb : Below w.heap.size w (w.alloc (.cells #[.int .u64 (l.si : Int), .int .u64 (l.st : Int), .slice l.sd.a l.sd.b.length l.sd.c] 67)) := (Below.refl _ _).alloc (Nat.le_refl _) _
  have h0 := heap_alloc_new w (.cells #[.int .u64 (l.si : Int), .int .u64 (l.st : Int), .slice l.sd.a l.sd.b.length l.sd.c] 67)
  have HL := hid hl
  obtain ⟨m, hme⟩ : ∃ m, m = l.es.length := ⟨_, rfl⟩
  have CL : Hid (∀ W, Below w.heap.size w W → Calls Try.prog 37 #[.pointer (some ⟨b, 0, none⟩)] W (Draws W (.int .u64 ((l.si + m : Nat) : Int)))) := hid fun W hW => by rw [hme]; exact rlast_any (h.old hW) hm
  have HME := hid hme
  have HN := hid h
  rw [← hme] at c7 hi hm
  clear hme h hl
  go_enter Try.func52, Try.ntmps52
  go_upto_region 2 with fail
  generalize w.alloc (.cells #[.int .u64 (l.si : Int), .int .u64 (l.st : Int), .slice l.sd.a l.sd.b.length l.sd.c] 67) = w1 at *
  have HB := hid hb
  have H0 := hid h0
  obtain ⟨z0, z1, z2⟩ := three_cells h0
  have CL1 := hid (CL.out _ hb)
  obtain ⟨-, -, -, -, d4, d5, d6, d7, -⟩ := (HN.out.old hb).cells
  rw [← HME.out] at d7
  clear hb h0 c4 c5 c6 c7
  have g1 : ¬ (i : Int) < (l.si : Int) := by omega
  have g2 : ¬ (i : Int) > ((l.si + m : Nat) : Int) := by omega
  have g2' : ¬ (i : Int) > (l.si : Int) + (m : Int) := by omega
  by_cases g3 : i = l.si
  · have HT : Hid (termOf l i = l.st) := hid (by unfold termOf; rw [if_pos (by omega)])
    subst g3
    go_wp2_with (first | (go_at_call 37; refine CL1.out.mono ?_; rintro en w2 ⟨rfl, k, rfl⟩))
    go_ret2
    refine ⟨?_, ?_⟩
    · rw [HT.out]
      rfl
    · have hd : Below w1.heap.size w1 (w1.drewN k) := ⟨rfl, rfl, rfl, Nat.le_refl _, fun _ _ => rfl⟩
      exact HB.out.trans (hd.mono HB.out.size)
  · obtain ⟨q, rfl⟩ : ∃ q, i = l.si + q + 1 := ⟨i - l.si - 1, by omega⟩
    have hq : q < m := by omega
    have hA9 := List.getElem?_eq_getElem (l := l.es) (i := q) (by have := HME.out; omega)
    generalize l.es[q]'_ = e at hA9
    have HT : Hid (termOf l (l.si + q + 1) = e.t) := hid (by unfold termOf; rw [if_neg (by omega), show l.si + q + 1 - l.si - 1 = q from by omega, hA9])
    obtain ⟨b1, o1, ea1, c10, -, -, -⟩ := (HL.out.es.old HB.out).get hA9
    rw [ea1] at d7
    clear hA9 ea1
    have g4 : ((l.si : Int) + (q : Int) + 1 == (l.si : Int)) = false := by simp; omega
    have g5 : (((l.si + q + 1 : Nat) : Int) == (l.si : Int)) = false := by simp; omega
    have hw1 : IntKind.u64.wrap (((l.si + q + 1 : Nat) : Int) - (l.si : Int)) = (q : Int) + 1 := by rw [wrap_u64]; omega
    have hw2 : IntKind.u64.wrap ((q : Int) + 1 - 1) = (q : Int) := by rw [wrap_u64]; omega
    have hw3 : IntKind.u64.wrap ((l.si : Int) + (q : Int) + 1 - (l.si : Int)) = (q : Int) + 1 := by rw [wrap_u64]; omega
    have hk1 : (q : Int) < (m : Int) := by omega
    have hk2 : q < m := hq
    go_upto_region 6 with (first | (go_at_call 37; refine CL1.out.mono ?_; rintro en w2 ⟨rfl, k, rfl⟩))
    go_quiet (fail)
    go_wp2_with fail
    go_ret2
    refine ⟨?_, ?_⟩
    · rw [HT.out]
      rfl
    · refine HB.out.trans (Below.mono (B := w1.heap.size) ⟨rfl, rfl, rfl, Nat.le_refl _, fun _ _ => rfl⟩ HB.out.size)

theorem sendAll1_any (h : NdAt w b 0 1 l role ld cm tk v) : Calls Try.prog 50 #[.pointer (some ⟨b, 0, none⟩)] w (fun e w' => e = .returned (.tuple #[]) ∧ NdAt w' b 0 1 l role ld cm 0 v ∧ Keep (fun j => j = b) w w') := by
  obtain ⟨-, -, -, -, -, -, -, -, -, -, -, c11, -⟩ := h.cells
  have f11 := h.soft 11
  have h2 : NdAt (w.setCell ⟨b, 11, none⟩ (.int .i64 0)) b 0 1 l role ld cm 0 v := set_at (k := 11) (.int .i64 0) h
  have CO := hid (fun g => others1_any h2 g)
  have H2 := hid h2
  clear h h2
  go_enter Try.func50, Try.ntmps50
  go_wp2_with (first | (go_at_call 40; refine (CO.out _).mono ?_; rintro en w2 ⟨rfl, rfl⟩))
  go_end0
  exact ⟨rfl, H2.out, Keep.set _ _ _ rfl⟩

set_option maxHeartbeats 4000000 in
theorem commit1_any (h : NdAt w b 0 1 l role ld cm tk v) (hl : LoAt w l) (hm : l.si + l.es.length < 18446744073709551616) (ht : termOf l (l.si + l.es.length) = l.ht) :
    Calls Try.prog 62 #[.pointer (some ⟨b, 0, none⟩)] w (fun e w' => e = .returned (.tuple #[]) ∧ NdAt w' b 0 1 l role ld (max cm (l.si + l.es.length)) tk v ∧ Keep (fun j => j = b) w w') := by
  obtain ⟨m, hme⟩ : ∃ m, m = l.si + l.es.length := ⟨_, rfl⟩
  rw [← hme] at hm ht ⊢
  have CL : Hid (∀ W, Below w.heap.size w W → Calls Try.prog 37 #[.pointer (some ⟨b, 0, none⟩)] W (Draws W (.int .u64 (m : Int)))) := hid fun W hW => by have := rlast_any (h.old hW) (by omega); rw [← hme] at this; exact this
  have CT : Hid (∀ W, Below w.heap.size w W → Calls Try.prog 52 #[.pointer (some ⟨b, 0, none⟩), .int .u64 (m : Int)] W (fun e w' => e = .returned (.tuple #[.int .u64 (l.ht : Int), .bool true]) ∧ Below W.heap.size W w')) := hid fun W hW => by have := termAt_any (h.old hW) (hl.old hW) m (by omega) (by omega); rw [ht] at this; exact this
  have CO : Hid (∀ W g, Below w.heap.size w W → Calls Try.prog 40 #[.pointer (some ⟨b, 0, none⟩), g] W (fun e w' => e = .returned (.tuple #[]) ∧ w' = W)) := hid fun W g hW => others1_any (h.old hW) g
  have HN := hid h
  have hb : Below w.heap.size w (w.alloc (.cells #[.pointer (some ⟨b, 0, none⟩)] 49)) := (Below.refl _ _).alloc (Nat.le_refl _) _
  have h0 := heap_alloc_new w (.cells #[.pointer (some ⟨b, 0, none⟩)] 49)
  clear h hl hme ht
  go_enter Try.func62, Try.ntmps62
  go_upto_region 1 with fail
  generalize w.alloc (.cells #[.pointer (some ⟨b, 0, none⟩)] 49) = w1 at *
  have HB := hid hb
  have H0 := hid h0
  have p1 : w1.cell? ⟨w.heap.size, 0, none⟩ = some (.pointer (some ⟨b, 0, none⟩)) := by simp [World.cell?, h0]
  have CL1 := hid (CL.out _ hb)
  clear hb h0
  go_upto_region 2 with (first | (go_at_call 37; refine CL1.out.mono ?_; rintro en w2 ⟨rfl, k, rfl⟩))
  have hb3 : Below w1.heap.size w1 (((w1.drewN k).alloc (.cells #[.int .u64 (m : Int)] 29)).alloc (.cells #[.slice (some ⟨w1.heap.size, 0, none⟩) 1 1] 42)) := ((show Below w1.heap.size w1 (w1.drewN k) from ⟨rfl, rfl, rfl, Nat.le_refl _, fun _ _ => rfl⟩).alloc (Nat.le_refl _) _).alloc (by simp [World.drewN]) _
  have r0 : (((w1.drewN k).alloc (.cells #[.int .u64 (m : Int)] 29)).alloc (.cells #[.slice (some ⟨w1.heap.size, 0, none⟩) 1 1] 42)).heap[w1.heap.size]? = some (.cells #[.int .u64 (m : Int)] 29 (0, 0)) := (Below.heap_alloc ((w1.drewN k).alloc (.cells #[.int .u64 (m : Int)] 29)) (.cells #[.slice (some ⟨w1.heap.size, 0, none⟩) 1 1] 42) w1.heap.size (by simp [World.drewN])).trans (heap_alloc_new (w1.drewN k) (.cells #[.int .u64 (m : Int)] 29))
  have r1 : (((w1.drewN k).alloc (.cells #[.int .u64 (m : Int)] 29)).alloc (.cells #[.slice (some ⟨w1.heap.size, 0, none⟩) 1 1] 42)).heap[w1.heap.size + 1]? = some (.cells #[.slice (some ⟨w1.heap.size, 0, none⟩) 1 1] 42 (0, 0)) := heap_alloc2_new (w1.drewN k) _ _
  generalize ((w1.drewN k).alloc (.cells #[.int .u64 (m : Int)] 29)).alloc (.cells #[.slice (some ⟨w1.heap.size, 0, none⟩) 1 1] 42) = w3 at *
  have x0 : w3.cell? ⟨w1.heap.size, 0, none⟩ = some (.int .u64 (m : Int)) := by simp [World.cell?, r0]
  have x1 : w3.cell? ⟨w1.heap.size + 1, 0, none⟩ = some (.slice (some ⟨w1.heap.size, 0, none⟩) 1 1) := by simp [World.cell?, r1]
  have q1 := (World.cell?_of_block (w := w1) (a := ⟨w.heap.size, 0, none⟩) (hb3.block _ (lt_of_block H0.out))).trans p1
  have HB3 := hid (HB.out.trans (hb3.mono HB.out.size))
  have HX : Hid (w3.heap[w1.heap.size + 1]? = some (.cells #[.slice (some ⟨w1.heap.size, 0, none⟩) 1 1] 42 (0, 0))) := hid r1
  have CO1 := hid (fun g => CO.out w3 g HB3.out)
  obtain ⟨c0, c1, c2, c3, c4, c5, c6, c7, c8, c9, c10, -⟩ := (HN.out.old HB3.out).cells
  clear hb3 r0 r1 p1
  go_upto_region 4 with (first
    | (go_at_call 40; refine (CO1.out _).mono ?_; rintro en w2 ⟨rfl, rfl⟩)
    | (go_at_call 79; refine (sort_1 _ _ _).mono ?_; rintro en w2 ⟨rfl, rfl⟩))
  go_quiet (fail)
  have hb4 : Below w.heap.size w (w2.drewN nq) := HB3.out.trans (Below.mono (B := w2.heap.size) ⟨rfl, rfl, rfl, Nat.le_refl _, fun _ _ => rfl⟩ HB3.out.size)
  have q4 : (w2.drewN nq).cell? ⟨w.heap.size, 0, none⟩ = some (.pointer (some ⟨b, 0, none⟩)) := q1
  clear c0 c1 c2 c3 c4 c5 c6 c7 c8 c9 c10 q1 x0 x1 CO1 HX
  generalize w2.drewN nq = w4 at *
  have HB4 := hid hb4
  have CT4 := hid (CT.out _ hb4)
  have HQ4 : Hid (w.heap.size < w4.heap.size) := hid (World.block_lt_of_cell? w4 _ q4)
  clear hb4
  go_upto_region 7 with (first
    | (go_at_call 52; refine CT4.out.mono ?_; rintro en w5 ⟨rfl, hb5⟩; have HB5 := hid (HB4.out.trans (hb5.mono HB4.out.size)); obtain ⟨c0, c1, c2, c3, c4, c5, c6, c7, c8, c9, c10, -⟩ := (HN.out.old HB5.out).cells; have q5 := (World.cell?_of_block (w := w4) (a := ⟨w.heap.size, 0, none⟩) (hb5.block _ HQ4.out)).trans q4; clear hb5 c0 c1 c3 c4 c5 c6 c7 c8 c9))
  have f10 := (HN.out.old HB5.out).soft 10
  have HSET : Hid (∀ x : Nat, NdAt (w5.setCell ⟨b, 10, none⟩ (.int .u64 (x : Int))) b 0 1 l role ld x tk v) := hid fun x => set_at (k := 10) (.int .u64 (x : Int)) (HN.out.old HB5.out)
  have HK : Hid (∀ x : Value, Keep (fun j => j = b) w (w5.setCell ⟨b, 10, none⟩ x).drew) := hid fun x => by
    have k1 : Keep (fun j => j = b) w5 (w5.setCell ⟨b, 10, none⟩ x) := Keep.set (X := fun j => j = b) w5 ⟨b, 10, none⟩ x rfl
    have k2 : Keep (fun j => j = b) (w5.setCell ⟨b, 10, none⟩ x) (w5.setCell ⟨b, 10, none⟩ x).drew := ⟨rfl, rfl, rfl, Nat.le_refl _, fun _ _ _ => rfl⟩
    exact ((Keep.of_below HB5.out).trans k1).trans k2
  go_region
  all_goals go_wp2_with fail
  all_goals go_end0
  · refine ⟨rfl, ?_, HK.out _⟩
    rw [show max cm m = m from by omega]
    exact (HSET.out m).old ⟨rfl, rfl, rfl, Nat.le_refl _, fun _ _ => rfl⟩
  · refine ⟨rfl, ?_, HK.out _⟩
    rw [show max cm m = cm from by omega]
    exact (HSET.out cm).old ⟨rfl, rfl, rfl, Nat.le_refl _, fun _ _ => rfl⟩
end
end Go.Proofs.Ytdaecndbdinddaa
