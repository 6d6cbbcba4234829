/-
  THE LAW TupleWrites: the walk.
-/
import Derived.Test.YtacmidfcocjdjaaTRefEnc
import Derived.Test.YtacmidfcocjdjaaTOwnV
import Derived.Test.YtacmidfcocjdjaaTBegins
import Derived.Test.YtacmidfcocjdjaaTLaw
import Derived.Deep.RegionHeld3
namespace Go.Proofs.Ytacmidfcocjdjaa.tupleWrites
open Go.RowKit

theorem step {w w1 w2 : World} {B : Nat} (h : Below B w w1) (g : Below w1.heap.size w1 w2) (hb : B ≤ w1.heap.size) : Below B w w2 := h.trans (g.mono hb)

theorem step0 {w w1 w2 : World} (h : Below w.heap.size w w1) (g : Below w1.heap.size w1 w2) : Below w.heap.size w w2 := h.trans (g.mono h.size)

set_option maxHeartbeats 4000000 in
set_option maxRecDepth 100000 in
theorem walk0 (a : Option Addr) (len cap : Nat) (l : List Vl) (v : Vl) (w : World) (hx : Vs w (.slice a len cap) l) (hin : ∀ v ∈ l, inV v) :
    Calls Try.prog 3 #[.slice a len cap, sv v] w (Ans w (.bool true)) := by
  obtain ⟨rfl, -, hm⟩ := hx.size
  have hml : l.length ≤ maxLen := by have := hx.size; omega
  unfold maxLen at hml
  have HX := hid hx
  have HI := hid hin
  have hbx : Hid ((w.alloc (.cells #[.int .i64 v.k, .int .i64 v.i, .string ⟨v.s.toArray⟩] 24)).heap[w.heap.size]? = some (.cells #[.int .i64 v.k, .int .i64 v.i, .string ⟨v.s.toArray⟩] 24 (0, 0))) := heap_alloc_new _ _
  have BA := (Below.refl w.heap.size w).alloc (Nat.le_refl _) (.cells #[.int .i64 v.k, .int .i64 v.i, .string ⟨v.s.toArray⟩] 24)
  have hsz : Hid ((w.alloc (.cells #[.int .i64 v.k, .int .i64 v.i, .string ⟨v.s.toArray⟩] 24)).heap.size = w.heap.size + 1) := by simp [Hid]
  clear hx hin hm
  unfold sv
  by_cases h60 : 60 < l.length
  · go_enter Try.func3, Try.ntmps3
    go_wp2_with (first | (go_at_call 10; refine (awake_any _).mono ?_; rintro e x1 ⟨rfl, B1⟩))
    go_ret
    exact ⟨rfl, step0 BA B1⟩
  · have C := fun W (h : Vs W (.slice a l.length cap) l) => vown_any _ l ⟨71, 0, []⟩ W h (by omega)
    unfold sv at C
    have BA' := hid BA
    clear BA
    go_enter Try.func3, Try.ntmps3
    go_wp2_with (first | (go_at_call 11; refine (C _ (HX.out.old BA'.out)).mono ?_; rintro e x1 ⟨g, rfl, hg, o1, B1⟩))
    clear C
    have HO1 := hid o1
    have HG : Hid (w.heap.size < g) := by have := hsz.out; rw [this] at hg; exact hg
    have HB1 := hid (step0 BA'.out B1)
    have hb1 : Hid (x1.heap[w.heap.size]? = some (.cells #[.int .i64 v.k, .int .i64 v.i, .string ⟨v.s.toArray⟩] 24 (0, 0))) := (B1.block w.heap.size (by rw [hsz.out]; exact Nat.lt_succ_self _)).trans hbx.out
    have hv1 : Hid (w.heap.size < x1.heap.size) := lt_of_block hb1.out
    have r1 := hid (Vs.of_full o1 (by omega) (by rw [cellsL_app, List.take_left' (cellsL_len l)]) rfl : Vs x1 (.slice (some ⟨g, 0, none⟩) l.length (l.length + 3)) l)
    clear o1 hg B1
    have C := enc_any _ l x1 r1.out HI.out (by omega)
    go_wp2_with (first | (go_at_call 12; refine C.mono ?_))
    intro e x2 h2
    obtain ⟨ao2, c2, rfl, o2, B2⟩ := h2.elim
    have HB2 := hid (step0 HB1.out B2)
    have R2 := hid (Rd.own o2)
    have HO2 := hid (own_old HO1.out B2)
    have hb2 : Hid (x2.heap[w.heap.size]? = some (.cells #[.int .i64 v.k, .int .i64 v.i, .string ⟨v.s.toArray⟩] 24 (0, 0))) := (B2.block w.heap.size hv1.out).trans hb1.out
    have hv2 : Hid (w.heap.size < x2.heap.size) := lt_of_block hb2.out
    clear h2 o2 B2 C
    have C := renc_any _ l x2 (HX.out.old HB2.out) HI.out (by omega)
    go_wp2_with (first | (go_at_call 13; refine C.mono ?_))
    intro e x3 h3
    obtain ⟨ao3, c3, rfl, o3, B3⟩ := h3.elim
    have HB3 := hid (step0 HB2.out B3)
    have R3 := hid (Rd.own o3)
    have R23 := hid (R2.out.old B3)
    have HO3 := hid (own_old HO2.out B3)
    have hb3 : Hid (x3.heap[w.heap.size]? = some (.cells #[.int .i64 v.k, .int .i64 v.i, .string ⟨v.s.toArray⟩] 24 (0, 0))) := (B3.block w.heap.size hv2.out).trans hb2.out
    have hv3 : Hid (w.heap.size < x3.heap.size) := lt_of_block hb3.out
    clear h3 o3 B3 C
    go_wp2_with fail
    have HKp : Hid (∀ W, Below x3.heap.size x3 W → (Below x3.heap.size x3 W ∧ W.cell? ⟨w.heap.size, 0, none⟩ = some (.int .i64 v.k) ∧ W.cell? ⟨w.heap.size, 1, none⟩ = some (.int .i64 v.i) ∧ W.cell? ⟨w.heap.size, 2, none⟩ = some (.string ⟨v.s.toArray⟩))) := fun W hW => by
      have := three_cells ((hW.block w.heap.size hv3.out).trans hb3.out)
      exact ⟨hW, this⟩
    have KA : Hid (∀ W, Below x3.heap.size x3 W → Calls Try.prog 10 #[] W fun e w' => e = .returned (.bool true) ∧ Below W.heap.size W w') := fun W _ => awake_any W
    have KB : Hid (∀ W, Below x3.heap.size x3 W → Calls Try.prog 14 #[.slice ao2 (encO l).length c2, .slice ao3 (encO l).length c3] W fun e w' => e = .returned (.bool true) ∧ Below W.heap.size W w') := fun W hW =>
      (bytes_any _ _ (encO l) (encO l) W (R23.out.old hW) (R3.out.old hW)).mono fun e w' ⟨h1, h2⟩ => ⟨by rw [h1]; simp, by rw [← h2]; exact Below.refl _ _⟩
    have KR : Hid (∀ W, Below x3.heap.size x3 W → Calls Try.prog 15 #[.agg #[.int .i64 v.k, .int .i64 v.i, .string ⟨v.s.toArray⟩]] W fun e w' => e = .returned (.bool (decide (okV v))) ∧ Below W.heap.size W w') := fun W _ => right_any v W
    have KQ : Hid (∀ W, Below x3.heap.size x3 W → Calls Try.prog 16 #[.agg #[.int .i64 v.k, .int .i64 v.i, .string ⟨v.s.toArray⟩]] W fun e w' => e = .returned (.bool (decide (okV v))) ∧ Below W.heap.size W w') := fun W _ => rright_any v W
    have KK : Hid (∀ W, Below x3.heap.size x3 W → Calls Try.prog 17 #[.slice (some ⟨g, 0, none⟩) l.length (l.length + 3), .slice a l.length cap, .agg #[.int .i64 71, .int .i64 0, .string ⟨#[]⟩]] W fun e w' => e = .returned (.bool true) ∧ Below W.heap.size W w') := fun W hW =>
      vkept_any _ l ⟨71, 0, []⟩ W g _ (HX.out.old (HB3.out.trans (hW.mono HB3.out.size))) (by omega) (own_old HO3.out hW)
    generalize decide (okV v) = dv at *
    have hb0 : Below x3.heap.size x3 x3 := Below.refl _ _
    obtain ⟨-, d1, d2, d3⟩ := HKp.out _ hb0
    clear R2 R3 R23 HO1 HO2 HO3 hb1 hb2 hv1 hv2 r1 HB1 HB2 hbx hsz BA' HX HI HG
    go_region_held3 (fun W => Below x3.heap.size x3 W ∧ W.cell? ⟨w.heap.size, 0, none⟩ = some (.int .i64 v.k) ∧ W.cell? ⟨w.heap.size, 1, none⟩ = some (.int .i64 v.i) ∧ W.cell? ⟨w.heap.size, 2, none⟩ = some (.string ⟨v.s.toArray⟩))
      (first | (go_split_ands; first | exact HKp.out _ (by assumption) | exact HKp.out _ (Below.drew (by assumption)) | exact HKp.out _ (step0 (by assumption) (by assumption))) | go_keep)
      (first
        | (go_at_call 10; go_split_ands; refine (KA.out _ (by assumption)).mono ?_; rintro e wa ⟨rfl, ha⟩)
        | (go_at_call 14; go_split_ands; refine (KB.out _ (by assumption)).mono ?_; rintro e wa ⟨rfl, ha⟩)
        | (go_at_call 15; go_split_ands; refine (KR.out _ (by assumption)).mono ?_; rintro e wa ⟨rfl, ha⟩)
        | (go_at_call 16; go_split_ands; refine (KQ.out _ (by assumption)).mono ?_; rintro e wa ⟨rfl, ha⟩)
        | (go_at_call 17; go_split_ands; refine (KK.out _ (by assumption)).mono ?_; rintro e wa ⟨rfl, ha⟩))
    all_goals (go_wp2_with fail)
    all_goals go_ret
    all_goals (go_split_ands; exact ⟨rfl, step0 HB3.out (by first | assumption | exact step0 (by assumption) (by assumption))⟩)

theorem walk {H : Type} {enc : TypeId × Value → H} {base : Nat} {d0 d1 : DataW H} {p0 p1 : List MemPlace} (v0 v1 : Value) (w : World)
    (k0 : Value.okWide Try.prog w .any base 22 v0) (t0 : DataW.Trod enc Try.prog w 0 (fun _ => true) true 22 v0 d0 p0)
    (k1 : Value.okWide Try.prog w .any base 24 v1) (t1 : DataW.Trod enc Try.prog w 0 (fun _ => true) true 24 v1 d1 p1) :
    Calls Try.prog 3 #[v0, v1] w fun e w' => e = .returned (.bool true) ∧ Below w.heap.size w w' := by
  obtain ⟨a, len, cap, rfl⟩ := WideShapes.okWide_slice Try.underlying22 k0
  obtain ⟨l, -, hx, hin⟩ := vals_open t0
  obtain ⟨v, rfl, -⟩ := val_open k1 t1
  exact walk0 a len cap l v w hx hin
end Go.Proofs.Ytacmidfcocjdjaa.tupleWrites
