/-
  THE LAW RaftMade: its walk.
-/
import Derived.Test.YtdaecndbdinddaaRk
import Derived.Test.YtdaecndbdinddaaRn
import Derived.Test.YtdaecndbdinddaaRm
import Derived.Deep.CutRange
set_option linter.unusedVariables false
set_option linter.unusedSimpArgs false
set_option maxRecDepth 100000
namespace Go.Proofs.Ytdaecndbdinddaa
open Go.RowKit Go.Deep

def sumB (E : List En) : Nat := (E.map fun e => e.r.b.length).sum
theorem sumB_next {E : List En} {k : Nat} {e : En} (h : E[k]? = some e) : sumB (E.take (k + 1)) = sumB (E.take k) + e.r.b.length := by
  have hk := (List.getElem?_eq_some_iff.1 h).1
  have he := (List.getElem?_eq_some_iff.1 h).2
  unfold sumB
  rw [List.take_succ_eq_append_getElem hk, he, List.map_append, List.sum_append]
  simp
theorem sumB_le {E : List En} {B : Nat} (h : ∀ e ∈ E, e.r.b.length ≤ B) : sumB E ≤ E.length * B := by
  induction E with
  | nil => simp [sumB]
  | cons e E ih =>
    have h1 := ih (fun x hx => h x (List.mem_cons_of_mem _ hx))
    have h2 := h e List.mem_cons_self
    have h3 : sumB (e :: E) = e.r.b.length + sumB E := by simp [sumB]
    rw [h3, List.length_cons, Nat.add_mul]
    omega
theorem may_not {id n : Int} {l : PL} (h : mayN id n l = false) : n < 1 ∨ (n ≥ 1 ∧ n > 5) ∨ (n ≥ 1 ∧ n ≤ 5 ∧ id < 0) ∨ (n ≥ 1 ∧ n ≤ 5 ∧ id ≥ 0 ∧ id ≥ n) ∨ (n ≥ 1 ∧ n ≤ 5 ∧ id ≥ 0 ∧ id < n ∧ rightP l = false) ∨ (n ≥ 1 ∧ n ≤ 5 ∧ id ≥ 0 ∧ id < n ∧ rightP l = true ∧ l.hv > n) := by
  by_cases g1 : n < 1
  · exact .inl g1
  by_cases g2 : n > 5
  · exact .inr (.inl ⟨by omega, g2⟩)
  by_cases g3 : id < 0
  · exact .inr (.inr (.inl ⟨by omega, by omega, g3⟩))
  by_cases g4 : id ≥ n
  · exact .inr (.inr (.inr (.inl ⟨by omega, by omega, by omega, g4⟩)))
  cases hR : rightP l with
  | false => exact .inr (.inr (.inr (.inr (.inl ⟨by omega, by omega, by omega, by omega, rfl⟩))))
  | true =>
    refine .inr (.inr (.inr (.inr (.inr ⟨by omega, by omega, by omega, by omega, rfl, ?_⟩))))
    unfold mayN at h
    rw [hR] at h
    simp at h
    omega
theorem may_is {id n : Int} {l : PL} (h : mayN id n l = true) : n ≥ 1 ∧ n ≤ 5 ∧ id ≥ 0 ∧ id < n ∧ rightP l = true ∧ l.hv ≤ n := by
  unfold mayN at h
  simp at h
  obtain ⟨⟨a, b, c, d⟩, e, f⟩ := h
  exact ⟨a, b, c, d, e, f⟩
theorem right_si {l : PL} (h : rightP l = true) : l.si ≤ 4611686018427387904 := by
  unfold rightP rightS at h
  simp at h
  omega

namespace raftMade
set_option maxHeartbeats 16000000 in
theorem walk0 (id n : Int) (l : Lo) (w : World) (hl : LoAt w l) : Calls Try.prog 6 #[.int .i64 id, .int .i64 n, l.v] w (fun e w' => e = .returned (.bool true) ∧ Below w.heap.size w w') := by
  have hE := hl.es
  have hec : l.es.length ≤ l.ec := by
    obtain ⟨_, _, e1, q1, q2⟩ := hE.1.form
    simp only [Value.slice.injEq, List.length_map] at e1 q1
    omega
  have hB0 : ∀ e ∈ l.es, e.r.b.length ≤ 140737488355328 := fun e he => (hE.2 e he).2.2.2
  have hBk : ∀ k, k ≤ 300 → sumB (l.es.take k) ≤ 300 * 140737488355328 := fun k hk => by
    have := sumB_le (E := l.es.take k) (B := 140737488355328) (fun e he => hB0 e (List.mem_of_mem_take he))
    have h2 : (l.es.take k).length ≤ 300 := by rw [List.length_take]; omega
    exact Nat.le_trans this (Nat.mul_le_mul_right _ h2)
  have hlen := fun W => run_len_slice (P := Try.prog) W 30 3 l.eo l.es.length l.ec Try.underlying30
  have hlb := fun W a n c => run_len_slice (P := Try.prog) W 28 3 a n c Try.underlying28
  have hb : Below w.heap.size w (w.alloc (.cells #[.int .u64 (l.ht : Int), .int .i64 l.hv, .int .u64 (l.si : Int), .int .u64 (l.st : Int), .slice l.sd.a l.sd.b.length l.sd.c, .slice l.eo l.es.length l.ec] 69)) := (Below.refl _ _).alloc (Nat.le_refl _) _
  have h0 := heap_alloc_new w (.cells #[.int .u64 (l.ht : Int), .int .i64 l.hv, .int .u64 (l.si : Int), .int .u64 (l.st : Int), .slice l.sd.a l.sd.b.length l.sd.c, .slice l.eo l.es.length l.ec] 69)
  have hs1 : (w.alloc (.cells #[.int .u64 (l.ht : Int), .int .i64 l.hv, .int .u64 (l.si : Int), .int .u64 (l.st : Int), .slice l.sd.a l.sd.b.length l.sd.c, .slice l.eo l.es.length l.ec] 69)).heap.size = w.heap.size + 1 := by simp
  have HE := hid hE
  have HBK := hid hBk
  have HL := hid hl
  obtain ⟨n9, hn⟩ : ∃ n9, n9 = l.es.length := ⟨_, rfl⟩
  have HN := hid hn
  simp only [Lo.v]
  rw [← hn] at hlen HE hec h0 hb hs1 ⊢
  clear hl hE hn hB0 hBk
  obtain ⟨eo, heo⟩ : ∃ eo, eo = l.eo := ⟨_, rfl⟩
  have HEO := hid heo
  rw [← heo] at hlen HE h0 hb hs1 ⊢
  obtain ⟨sl, hslD⟩ : ∃ sl, sl = l.sd.b.length := ⟨_, rfl⟩
  have HSL := hid hslD
  rw [← hslD] at h0 hb hs1 ⊢
  have hlv : l.v = .agg #[.int .u64 (l.ht : Int), .int .i64 l.hv, .int .u64 (l.si : Int), .int .u64 (l.st : Int), .slice l.sd.a sl l.sd.c, .slice eo n9 l.ec] := by rw [Lo.v, ← HN.out, ← heo, ← hslD]
  have HLV := hid hlv
  clear hslD heo hlv
  go_enter Try.func6, Try.ntmps6
  go_upto_region 1 with fail
  generalize w.alloc (.cells #[.int .u64 (l.ht : Int), .int .i64 l.hv, .int .u64 (l.si : Int), .int .u64 (l.st : Int), .slice l.sd.a sl l.sd.c, .slice eo n9 l.ec] 69) = w1 at *
  obtain ⟨z0, z1, z2, z3, z4, z5⟩ := six_cells h0
  have HB := hid hb
  have H0 := hid h0
  have HS1 := hid hs1
  clear hb h0 hs1
  go_wp2_with fail
  go_loopw [7, 8] (fun x i wr => ∃ k : Nat, k ≤ n9 ∧ k ≤ 300 ∧ i = .int .i64 (k : Int) ∧ x = .int .i64 ((sumB (l.es.take k) : Nat) : Int) ∧ wr = w1) (fun _ i _ => 300 - (intOf i).toNat)
  case atStart => exact ⟨0, by omega, by omega, rfl, rfl, rfl⟩
  case round =>
    obtain ⟨k, hk, hk4, rfl, rfl, rfl⟩ := hrel
    have hbk := HBK.out k hk4
    by_cases hlt : k < n9
    · have hki : (k : Int) < (n9 : Int) := by omega
      by_cases hlt4 : k < 300
      · have hki4 : (k : Int) < 300 := by omega
        have hA9 := List.getElem?_eq_getElem (l := l.es) (i := k) (by have := HN.out; omega)
        generalize l.es[k]'_ = e at hA9
        obtain ⟨b1, o1, ea1, c10, c11, c12, r1⟩ := (HE.out.old HB.out).get hA9
        subst ea1
        have hnx := sumB_next hA9
        have hbk2 := HBK.out (k + 1) (by omega)
        rw [hnx] at hbk2
        have hz : IntKind.i64.wrap ((k : Int) + 1) = (k : Int) + 1 := by rw [IntKind.wrap_i64]; omega
        have hzs : IntKind.i64.wrap ((sumB (l.es.take k) : Int) + (e.r.b.length : Int)) = (sumB (l.es.take (k + 1)) : Int) := by rw [hnx, IntKind.wrap_i64]; omega
        have HNX := hid hnx
        clear hnx r1 hA9 c10 c11 hbk hbk2
        go_wp2_with fail
        refine ⟨⟨k + 1, by omega, by omega, by simp, ?_, trivial⟩, ?_⟩
        · first | rfl | (congr 1; omega) | simp
        · simp only [intOf]; omega
      · obtain rfl : k = 300 := by omega
        have hki4 : ¬ ((300 : Nat) : Int) < 300 := by omega
        have hbig : (n9 : Int) > 200 := by omega
        go_wp2_with (first | (go_at_call 11; refine (rawake_any _).mono ?_; rintro en wA ⟨rfl, hbA⟩; have HBA := hid (HB.out.trans (hbA.mono HB.out.size)); clear hbA))
        go_ret
        exact ⟨rfl, HBA.out⟩
    · obtain rfl : k = n9 := by omega
      have hki : ¬ (k : Int) < (k : Int) := by omega
      have hT : l.es.take k = l.es := List.take_of_length_le (by have := HN.out; omega)
      rw [hT] at *
      by_cases h200 : (k : Int) > 200
      · go_wp2_with (first | (go_at_call 11; refine (rawake_any _).mono ?_; rintro en wA ⟨rfl, hbA⟩; have HBA := hid (HB.out.trans (hbA.mono HB.out.size)); clear hbA))
        go_ret
        exact ⟨rfl, HBA.out⟩
      by_cases h65 : ((sumB l.es : Nat) : Int) > 65536
      · go_wp2_with (first | (go_at_call 11; refine (rawake_any _).mono ?_; rintro en wA ⟨rfl, hbA⟩; have HBA := hid (HB.out.trans (hbA.mono HB.out.size)); clear hbA))
        go_ret
        exact ⟨rfl, HBA.out⟩
      by_cases h66 : (sl : Int) > 65536
      · go_wp2_with (first | (go_at_call 11; refine (rawake_any _).mono ?_; rintro en wA ⟨rfl, hbA⟩; have HBA := hid (HB.out.trans (hbA.mono HB.out.size)); clear hbA))
        go_ret
        exact ⟨rfl, HBA.out⟩
      have CC0 := copyLog_any l wr (HL.out.old HB.out) (by have := HN.out; omega)
      rw [HLV.out] at CC0
      have CC := hid CC0
      clear CC0
      have HLVK := hid (show l.v = .agg #[.int .u64 (l.ht : Int), .int .i64 l.hv, .int .u64 (l.si : Int), .int .u64 (l.st : Int), .slice l.sd.a sl l.sd.c, .slice eo k l.ec] from HLV.out)
      have HL1 := hid (HL.out.old HB.out)
      go_upto_region 9 with (first | (go_at_call 26; refine CC.out.mono ?_; rintro en wC ⟨is, rfl, hpl, hlo, hbC, hoC⟩; have HPL := hid hpl; have HLO := hid hlo; have HBC := hid hbC; clear hpl hlo hbC hoC; simp only [Lo.v]))
      have hb2 : Below wC.heap.size wC (wC.alloc (.cells #[.int .u64 (is.ht : Int), .int .i64 is.hv, .int .u64 (is.si : Int), .int .u64 (is.st : Int), .slice is.sd.a is.sd.b.length is.sd.c, .slice is.eo is.es.length is.ec] 69)) := (Below.refl _ _).alloc (Nat.le_refl _) _
      have h2 := heap_alloc_new wC (.cells #[.int .u64 (is.ht : Int), .int .i64 is.hv, .int .u64 (is.si : Int), .int .u64 (is.st : Int), .slice is.sd.a is.sd.b.length is.sd.c, .slice is.eo is.es.length is.ec] 69)
      have hs2 : (wC.alloc (.cells #[.int .u64 (is.ht : Int), .int .i64 is.hv, .int .u64 (is.si : Int), .int .u64 (is.st : Int), .slice is.sd.a is.sd.b.length is.sd.c, .slice is.eo is.es.length is.ec] 69)).heap.size = wC.heap.size + 1 := by simp
      generalize wC.alloc (.cells #[.int .u64 (is.ht : Int), .int .i64 is.hv, .int .u64 (is.si : Int), .int .u64 (is.st : Int), .slice is.sd.a is.sd.b.length is.sd.c, .slice is.eo is.es.length is.ec] 69) = w2 at *
      have HB2 := hid (HB.out.trans ((HBC.out.trans (hb2.mono HBC.out.size)).mono HB.out.size))
      have HIS2 := hid (HLO.out.old hb2)
      have HL2 := hid (HL.out.old HB2.out)
      have HBX : Hid (∀ V, Below w2.heap.size w2 V → (V.heap[w.heap.size]? = some (.cells #[.int .u64 (l.ht : Int), .int .i64 l.hv, .int .u64 (l.si : Int), .int .u64 (l.st : Int), .slice l.sd.a sl l.sd.c, .slice eo k l.ec] 69 (0, 0)) ∧ V.heap[wC.heap.size]? = some (.cells #[.int .u64 (is.ht : Int), .int .i64 is.hv, .int .u64 (is.si : Int), .int .u64 (is.st : Int), .slice is.sd.a is.sd.b.length is.sd.c, .slice is.eo is.es.length is.ec] 69 (0, 0)))) := hid fun V hV => ⟨(hV.block _ (by have := HS1.out; have := HBC.out.size; omega)).trans ((hb2.block _ (by have := HS1.out; have := HBC.out.size; omega)).trans ((HBC.out.block _ (by have := HS1.out; omega)).trans H0.out)), (hV.block _ (by omega)).trans h2⟩
      have HSZ2 := hid hs2
      have hlen2 : is.es.length = k := by
        have := congrArg (fun q => q.es.length) HPL.out
        simp only [Lo.pl, List.length_map] at this
        have := HN.out
        omega
      have HLEN2 := hid hlen2
      have CN0 := new_any id n is w2 HIS2.out (by omega)
      simp only [Lo.v] at CN0
      have CN := hid CN0
      obtain ⟨RR, hRR⟩ : ∃ RR, RR = rightP l.pl := ⟨_, rfl⟩
      have CR : Hid (∀ W, Below w2.heap.size w2 W → Calls Try.prog 27 #[.agg #[.int .u64 (l.ht : Int), .int .i64 l.hv, .int .u64 (l.si : Int), .int .u64 (l.st : Int), .slice l.sd.a sl l.sd.c, .slice eo k l.ec]] W (fun en w' => en = .returned (.bool RR) ∧ Below W.heap.size W w')) := hid fun W hW => by
        have := refRight_any l W (HL2.out.old hW)
        rw [HLVK.out, ← hRR] at this
        exact this
      have CH : Hid (∀ W, Below w2.heap.size w2 W → Calls Try.prog 28 #[.agg #[.int .u64 (is.ht : Int), .int .i64 is.hv, .int .u64 (is.si : Int), .int .u64 (is.st : Int), .slice is.sd.a is.sd.b.length is.sd.c, .slice is.eo is.es.length is.ec], .agg #[.int .u64 (l.ht : Int), .int .i64 l.hv, .int .u64 (l.si : Int), .int .u64 (l.st : Int), .slice l.sd.a sl l.sd.c, .slice eo k l.ec]] W (fun en w' => en = .returned (.bool true) ∧ Below W.heap.size W w')) := hid fun W hW => by
        have := hlog_any is l W (HIS2.out.old hW) (HL2.out.old hW)
        rw [HLVK.out, show decide (is.pl = l.pl) = true from by rw [HPL.out]; simp] at this
        exact this
      have HRR := hid hRR
      obtain ⟨y0, y1, y2, y3, y4, y5⟩ := six_cells (HBX.out _ (Below.refl _ _)).1
      obtain ⟨x0, x1, x2, x3, x4, x5⟩ := six_cells (HBX.out _ (Below.refl _ _)).2
      have HVN : Hid (l.hv = l.pl.hv) := hid rfl
      clear hb2 h2 hs2 CN0 hRR hlen2 CC hbk z0 z1 z2 z3 z4 z5 hlb
      go_upto_region 10 with (first | (go_at_call 20; refine CN.out.mono ?_; rintro en wN ⟨hbN, hor⟩; have HBN := hid hbN; rcases hor with ⟨hm, rfl⟩ | ⟨hm, b, rfl, hM⟩))
      · clear y0 y1 y2 y3 y4 y5 x0 x1 x2 x3 x4 x5
        obtain ⟨y0, y1, y2, y3, y4, y5⟩ := six_cells (HBX.out _ HBN.out).1
        obtain ⟨x0, x1, x2, x3, x4, x5⟩ := six_cells (HBX.out _ HBN.out).2
        rw [HPL.out] at hm
        rcases may_not hm with g1 | ⟨g1, g2⟩ | ⟨g1, g2, g3⟩ | ⟨g1, g2, g3, g4⟩ | ⟨g1, g2, g3, g4, g5⟩ | ⟨g1, g2, g3, g4, g5, g6⟩
        · have q1 : ¬ (n ≥ 1) := by omega
          clear hm
          go_wp2_with (first
            | (go_at_call 11; refine (rawake_any _).mono ?_; rintro en wA ⟨rfl, hbA⟩; have HBA := hid (HBN.out.trans (hbA.mono HBN.out.size)); obtain ⟨y0, y1, y2, y3, y4, y5⟩ := six_cells (HBX.out _ HBA.out).1; obtain ⟨x0, x1, x2, x3, x4, x5⟩ := six_cells (HBX.out _ HBA.out).2; have HA9 := hid hbA; clear hbA)
            | (go_at_call 28; refine (CH.out _ HBA.out).mono ?_; rintro en wG ⟨rfl, hbG⟩; have HBG := hid (HBA.out.trans (hbG.mono HBA.out.size)); have HG9 := hid hbG; clear hbG))
          go_ret
          exact ⟨rfl, HB2.out.trans (HBG.out.mono HB2.out.size)⟩
        · have q1 : ¬ (n ≤ 5) := by omega
          clear hm
          go_wp2_with (first
            | (go_at_call 11; refine (rawake_any _).mono ?_; rintro en wA ⟨rfl, hbA⟩; have HBA := hid (HBN.out.trans (hbA.mono HBN.out.size)); obtain ⟨y0, y1, y2, y3, y4, y5⟩ := six_cells (HBX.out _ HBA.out).1; obtain ⟨x0, x1, x2, x3, x4, x5⟩ := six_cells (HBX.out _ HBA.out).2; have HA9 := hid hbA; clear hbA)
            | (go_at_call 28; refine (CH.out _ HBA.out).mono ?_; rintro en wG ⟨rfl, hbG⟩; have HBG := hid (HBA.out.trans (hbG.mono HBA.out.size)); have HG9 := hid hbG; clear hbG))
          go_ret
          exact ⟨rfl, HB2.out.trans (HBG.out.mono HB2.out.size)⟩
        · have q1 : ¬ (id ≥ 0) := by omega
          clear hm
          go_wp2_with (first
            | (go_at_call 11; refine (rawake_any _).mono ?_; rintro en wA ⟨rfl, hbA⟩; have HBA := hid (HBN.out.trans (hbA.mono HBN.out.size)); obtain ⟨y0, y1, y2, y3, y4, y5⟩ := six_cells (HBX.out _ HBA.out).1; obtain ⟨x0, x1, x2, x3, x4, x5⟩ := six_cells (HBX.out _ HBA.out).2; have HA9 := hid hbA; clear hbA)
            | (go_at_call 28; refine (CH.out _ HBA.out).mono ?_; rintro en wG ⟨rfl, hbG⟩; have HBG := hid (HBA.out.trans (hbG.mono HBA.out.size)); have HG9 := hid hbG; clear hbG))
          go_ret
          exact ⟨rfl, HB2.out.trans (HBG.out.mono HB2.out.size)⟩
        · have q1 : ¬ (id < n) := by omega
          clear hm
          go_wp2_with (first
            | (go_at_call 11; refine (rawake_any _).mono ?_; rintro en wA ⟨rfl, hbA⟩; have HBA := hid (HBN.out.trans (hbA.mono HBN.out.size)); obtain ⟨y0, y1, y2, y3, y4, y5⟩ := six_cells (HBX.out _ HBA.out).1; obtain ⟨x0, x1, x2, x3, x4, x5⟩ := six_cells (HBX.out _ HBA.out).2; have HA9 := hid hbA; clear hbA)
            | (go_at_call 28; refine (CH.out _ HBA.out).mono ?_; rintro en wG ⟨rfl, hbG⟩; have HBG := hid (HBA.out.trans (hbG.mono HBA.out.size)); have HG9 := hid hbG; clear hbG))
          go_ret
          exact ⟨rfl, HB2.out.trans (HBG.out.mono HB2.out.size)⟩
        · obtain rfl : RR = false := HRR.out.trans g5
          clear g5
          clear hm
          go_wp2_with (first
            | (go_at_call 27; refine (CR.out _ HBN.out).mono ?_; rintro en wR ⟨rfl, hbR⟩; have HBR := hid (HBN.out.trans (hbR.mono HBN.out.size)); obtain ⟨y0, y1, y2, y3, y4, y5⟩ := six_cells (HBX.out _ HBR.out).1; obtain ⟨x0, x1, x2, x3, x4, x5⟩ := six_cells (HBX.out _ HBR.out).2; have HR9 := hid hbR; clear hbR)
            | (go_at_call 11; refine (rawake_any _).mono ?_; rintro en wA ⟨rfl, hbA⟩; have HBA := hid (HBR.out.trans (hbA.mono HBR.out.size)); obtain ⟨y0, y1, y2, y3, y4, y5⟩ := six_cells (HBX.out _ HBA.out).1; obtain ⟨x0, x1, x2, x3, x4, x5⟩ := six_cells (HBX.out _ HBA.out).2; have HA9 := hid hbA; clear hbA)
            | (go_at_call 28; refine (CH.out _ HBA.out).mono ?_; rintro en wG ⟨rfl, hbG⟩; have HBG := hid (HBA.out.trans (hbG.mono HBA.out.size)); have HG9 := hid hbG; clear hbG))
          go_ret
          exact ⟨rfl, HB2.out.trans (HBG.out.mono HB2.out.size)⟩
        · obtain rfl : RR = true := HRR.out.trans g5
          have q1 : ¬ (l.hv ≤ n) := by have := HVN.out; omega
          have q2 : decide (l.hv ≤ n) = false := by simp; have := HVN.out; omega
          clear g6
          clear g5
          clear hm
          go_wp2_with (first
            | (go_at_call 27; refine (CR.out _ HBN.out).mono ?_; rintro en wR ⟨rfl, hbR⟩; have HBR := hid (HBN.out.trans (hbR.mono HBN.out.size)); obtain ⟨y0, y1, y2, y3, y4, y5⟩ := six_cells (HBX.out _ HBR.out).1; obtain ⟨x0, x1, x2, x3, x4, x5⟩ := six_cells (HBX.out _ HBR.out).2; have HR9 := hid hbR; clear hbR)
            | (go_at_call 11; refine (rawake_any _).mono ?_; rintro en wA ⟨rfl, hbA⟩; have HBA := hid (HBR.out.trans (hbA.mono HBR.out.size)); obtain ⟨y0, y1, y2, y3, y4, y5⟩ := six_cells (HBX.out _ HBA.out).1; obtain ⟨x0, x1, x2, x3, x4, x5⟩ := six_cells (HBX.out _ HBA.out).2; have HA9 := hid hbA; clear hbA)
            | (go_at_call 28; refine (CH.out _ HBA.out).mono ?_; rintro en wG ⟨rfl, hbG⟩; have HBG := hid (HBA.out.trans (hbG.mono HBA.out.size)); have HG9 := hid hbG; clear hbG))
          go_ret
          exact ⟨rfl, HB2.out.trans (HBG.out.mono HB2.out.size)⟩
      · clear y0 y1 y2 y3 y4 y5 x0 x1 x2 x3 x4 x5
        obtain ⟨y0, y1, y2, y3, y4, y5⟩ := six_cells (HBX.out _ HBN.out).1
        obtain ⟨x0, x1, x2, x3, x4, x5⟩ := six_cells (HBX.out _ HBN.out).2
        rw [HPL.out] at hm
        obtain ⟨g1, g2, g3, g4, g5, g6⟩ := may_is hm
        obtain rfl : RR = true := HRR.out.trans g5
        have q1 : l.hv ≤ n := g6
        have q2 : decide (l.hv ≤ n) = true := by simp; exact g6
        have HG5 := hid g5
        have HM := hid hM
        clear hm g5 g6 hM
        go_upto_region 15 with (first
          | (go_at_call 27; refine (CR.out _ HBN.out).mono ?_; rintro en wR ⟨rfl, hbR⟩; have HBR := hid (HBN.out.trans (hbR.mono HBN.out.size)); obtain ⟨y0, y1, y2, y3, y4, y5⟩ := six_cells (HBX.out _ HBR.out).1; obtain ⟨x0, x1, x2, x3, x4, x5⟩ := six_cells (HBX.out _ HBR.out).2; have HR9 := hid hbR; clear hbR)
          | (go_at_call 11; refine (rawake_any _).mono ?_; rintro en wA ⟨rfl, hbA⟩; have HBA := hid (HBR.out.trans (hbA.mono HBR.out.size)); obtain ⟨y0, y1, y2, y3, y4, y5⟩ := six_cells (HBX.out _ HBA.out).1; obtain ⟨x0, x1, x2, x3, x4, x5⟩ := six_cells (HBX.out _ HBA.out).2; have HA9 := hid hbA; clear hbA)
          | (go_at_call 28; refine (CH.out _ HBA.out).mono ?_; rintro en wG ⟨rfl, hbG⟩; have HBG := hid (HBA.out.trans (hbG.mono HBA.out.size)); have HG9 := hid hbG; clear hbG))
        have HNG := hid (HR9.out.trans ((HA9.out.trans (HG9.out.mono HA9.out.size)).mono HR9.out.size))
        obtain ⟨iN, hbb, hnd, hpN, hloN, hownN, hoffN, hrowN⟩ := HM.out
        have hpl := hpN.trans HPL.out
        have e1 : iN.ht = l.ht := congrArg PL.ht hpl
        have e2 : iN.hv = l.hv := congrArg PL.hv hpl
        have e3 : iN.si = l.si := congrArg PL.si hpl
        have e4 : iN.es.length = k := by
          have := congrArg (fun q => q.es.length) hpl
          simp only [Lo.pl, List.length_map] at this
          have := HN.out
          omega
        have e5 : is.si = l.si := congrArg PL.si HPL.out
        have hsi : l.si ≤ 4611686018427387904 := right_si HG5.out
        have HSI := hid hsi
        have HNDG := hid (hnd.old HNG.out)
        have HLOG := hid (hloN.old HNG.out)
        have HBN9 : Hid (w2.heap.size ≤ b ∧ w.heap.size < w2.heap.size ∧ Below w.heap.size w wG) := hid ⟨hbb, by have := HS1.out; have := HBC.out.size; have := HSZ2.out; omega, HB2.out.trans (HBG.out.mono HB2.out.size)⟩
        have HPN := hid hpl
        have CLg : Hid (∀ W, Below wG.heap.size wG W → Calls Try.prog 25 #[.pointer (some ⟨b, 0, none⟩)] W (CpA iN W)) := hid fun W hW => rlog_any (HNDG.out.old hW) (by omega) (HLOG.out.old hW) (by omega)
        have CH2 : Hid (∀ W (i2 : Lo), LoAt W i2 → i2.pl = iN.pl → LoAt W l → Calls Try.prog 28 #[.agg #[.int .u64 (i2.ht : Int), .int .i64 i2.hv, .int .u64 (i2.si : Int), .int .u64 (i2.st : Int), .slice i2.sd.a i2.sd.b.length i2.sd.c, .slice i2.eo i2.es.length i2.ec], .agg #[.int .u64 (l.ht : Int), .int .i64 l.hv, .int .u64 (l.si : Int), .int .u64 (l.st : Int), .slice l.sd.a sl l.sd.c, .slice eo k l.ec]] W (fun en w' => en = .returned (.bool true) ∧ Below W.heap.size W w')) := hid fun W i2 h2 hp h3 => by
          have := hlog_any i2 l W h2 h3
          rw [HLVK.out, show decide (i2.pl = l.pl) = true from by rw [hp, HPN.out]; simp] at this
          exact this
        have CSt : Hid (∀ W, Below wG.heap.size wG W → Calls Try.prog 17 #[.pointer (some ⟨b, 0, none⟩)] W (fun e w' => e = .returned (.agg #[.int .i64 0, .int .u64 (l.ht : Int), .int .i64 l.hv, .int .i64 0, .int .u64 (l.si : Int), .int .u64 ((l.si : Int) + 1), .int .u64 ((l.si : Int) + (k : Int))]) ∧ Below W.heap.size W w')) := hid fun W hW => by
          have := status_any (HNDG.out.old hW) (by omega) (by rw [e3]; omega) (by rw [e3, e4]; omega)
          rw [e1, e2, e3, e4, e5] at this
          exact this
        have CTk : Hid (∀ W, Below wG.heap.size wG W → Calls Try.prog 23 #[.pointer (some ⟨b, 0, none⟩)] W (fun e w' => e = .returned (.slice none 0 0) ∧ NdAt w' b id n iN 0 0 is.si 0 false ∧ Keep (fun j => j = b) W w')) := hid fun W hW => take_any (HNDG.out.old hW) (by omega)
        have CKn : Hid (∀ W, NdAt W b id n iN 0 0 is.si 0 false → LoAt W iN → Calls Try.prog 18 #[.pointer (some ⟨b, 0, none⟩), .int .u64 0] W (fun e w' => (∃ yo yc, e = .returned (.slice yo 0 yc)) ∧ Below W.heap.size W w')) := hid fun W hW hL => (known_any hW (by omega) hL (by omega) 0 (Nat.zero_le _) (by omega) (by rw [e3]; omega) 0 (Nat.zero_le _)).mono fun e w' ⟨F, yo, yc, q1, q2, q3, q4⟩ => ⟨⟨yo, yc, q1⟩, q4⟩
        have HOFN : Hid (LoOff iN (fun j => j = b)) := hid ⟨fun hne a ha e => hoffN.1 hne a ha (.inl e), fun x hx hne a ha e => hoffN.2.1 x hx hne a ha (.inl e), fun hne a ha e => hoffN.2.2 hne a ha (.inl e)⟩
        have hle := fun W a n c => run_len_slice (P := Try.prog) W 30 3 a n c Try.underlying30
        have hlm := fun W a n c => run_len_slice (P := Try.prog) W 37 3 a n c Try.underlying37
        have hw1 : IntKind.u64.wrap ((l.si : Int) + 1) = (l.si : Int) + 1 := by rw [wrap_u64]; omega
        have hw2 : IntKind.u64.wrap (k : Int) = (k : Int) := by rw [wrap_u64]; omega
        have hw3 : IntKind.u64.wrap ((l.si : Int) + (k : Int)) = (l.si : Int) + (k : Int) := by rw [wrap_u64]; omega
        obtain ⟨S9, hS9⟩ : ∃ S9 : World → Prop, S9 = fun V => V.heap[w.heap.size]? = some (.cells #[.int .u64 (l.ht : Int), .int .i64 l.hv, .int .u64 (l.si : Int), .int .u64 (l.st : Int), .slice l.sd.a sl l.sd.c, .slice eo k l.ec] 69 (0, 0)) := ⟨_, rfl⟩
        have HZ : Hid (∀ V, S9 V → (V.cell? ⟨w.heap.size, 0, none⟩ = some (.int .u64 (l.ht : Int)) ∧ V.cell? ⟨w.heap.size, 1, none⟩ = some (.int .i64 l.hv) ∧ V.cell? ⟨w.heap.size, 2, none⟩ = some (.int .u64 (l.si : Int)) ∧ V.cell? ⟨w.heap.size, 3, none⟩ = some (.int .u64 (l.st : Int)) ∧ V.cell? ⟨w.heap.size, 4, none⟩ = some (.slice l.sd.a sl l.sd.c) ∧ V.cell? ⟨w.heap.size, 5, none⟩ = some (.slice eo k l.ec))) := hid fun V h => by rw [hS9] at h; exact six_cells h
        have HS : Hid (∀ V, Below wG.heap.size wG V → S9 V) := hid fun V hV => by rw [hS9]; exact (HBX.out _ (HBG.out.trans (hV.mono HBG.out.size))).1
        have HS2 : Hid (∀ U V, S9 U → Keep (fun j => j = b) U V → wG.heap.size ≤ U.heap.size → S9 V) := hid fun U V hU hK hsz => by
          rw [hS9] at hU ⊢
          exact (hK.block _ (lt_of_block hU) (by have := HBN9.out; omega)).trans hU
        have HS3 : Hid (∀ U V, S9 U → Below U.heap.size U V → S9 V) := hid fun U V hU hV => by
          rw [hS9] at hU ⊢
          exact (hV.block _ (lt_of_block hU)).trans hU
        have HWd : Hid (Below wG.heap.size wG wG.drew) := hid ⟨rfl, rfl, rfl, Nat.le_refl _, fun _ _ => rfl⟩
        have CLd := hid (CLg.out _ HWd.out)
        clear hS9 y0 y1 y2 y3 y4 y5 x0 x1 x2 x3 x4 x5 hnd hpN hloN hownN hoffN hrowN hpl e1 e2 e3 e4 e5 hbb hsi
        refine wp_region_noPanic ?_
        refine wp_region_held_drew (S := S9) (by kernel_rfl) (HS.out _ HWd.out) (fun hHeld => ?_)
        generalize wG.drew = Wd at *
        refine wpAnyH_take (i := 0) (v := (.pointer (some ⟨b, 0, none⟩))) rfl (by kernel_rfl) (by kernel_rfl) (by kernel_rfl) (fun _ _ _ h => (show False from h).elim) ?xyRM1 ?xhRM1 ?xrRM1
        case xhRM1 => exact hHeld
        case xyRM1 => exact Or.inl ⟨by rfl, fun W9 hW => by clear hHeld; simp only [List.getElem_toArray, List.getElem_cons_succ, List.getElem_cons_zero]; go_simp⟩
        simp only [Act.put, List.getElem_toArray, List.getElem_cons_succ, List.getElem_cons_zero, List.setIfInBounds_toArray, List.set_cons_succ, List.set_cons_zero]
        refine wpAnyH_take (i := 2) (v := (.agg #[.int .u64 (l.ht : Int), .int .i64 l.hv, .int .u64 (l.si : Int), .int .u64 (l.st : Int), .slice l.sd.a sl l.sd.c, .slice eo k l.ec])) rfl (by kernel_rfl) (by kernel_rfl) (by kernel_rfl) (fun _ _ _ h => (show False from h).elim) ?xyRM2 ?xhRM2 ?xrRM2
        case xhRM2 => exact hHeld
        case xyRM2 => exact Or.inl ⟨by rfl, fun W9 hW => by obtain ⟨y0, y1, y2, y3, y4, y5⟩ := HZ.out _ hW; clear hHeld; simp only [List.getElem_toArray, List.getElem_cons_succ, List.getElem_cons_zero]; go_simp⟩
        simp only [Act.put, List.getElem_toArray, List.getElem_cons_succ, List.getElem_cons_zero, List.setIfInBounds_toArray, List.set_cons_succ, List.set_cons_zero]
        refine wpAnyH_ready (rs := [1]) (by kernel_rfl) (by simp) ?_
        refine AllReadyH.cons rfl (fun K hK => ?_) AllReadyH.nil
        go_simp
        go_wp2_with (first | (go_at_call 25; refine CLd.out.mono ?_; rintro en wL ⟨i2, rfl, hp2, hlo2, hbL, -⟩; have HBL := hid (HWd.out.trans (hbL.mono HWd.out.size)); have CHd := hid (CH2.out wL i2 hlo2 hp2 (HL2.out.old (HBG.out.trans (HBL.out.mono HBG.out.size)))); clear hp2 hlo2 hbL; simp only [Lo.v]))
        refine hK.out _ _ (HS.out _ HBL.out) (fun hHeld => ?_)
        clear hK K
        refine wpAnyH_ready (rs := [3]) (by kernel_rfl) (by simp) ?_
        refine AllReadyH.cons rfl (fun K hK => ?_) AllReadyH.nil
        go_simp
        go_wp2_with (first | (go_at_call 28; refine CHd.out.mono ?_; rintro en wE ⟨rfl, hbE⟩; have HBE := hid (HBL.out.trans (hbE.mono HBL.out.size)); have CSd := hid (CSt.out _ HBE.out); clear hbE))
        refine hK.out _ _ (HS.out _ HBE.out) (fun hHeld => ?_)
        clear hK K
        refine wpAnyH_take (i := 4) (v := (.bool true)) rfl (by kernel_rfl) (by kernel_rfl) (by kernel_rfl) (fun _ _ _ h => (show False from h).elim) ?xyRM3 ?xhRM3 ?xrRM3
        case xhRM3 => exact hHeld
        case xyRM3 => exact Or.inl ⟨by rfl, fun W9 hW => by clear hHeld; simp only [List.getElem_toArray, List.getElem_cons_succ, List.getElem_cons_zero]; go_simp⟩
        simp only [Act.put, List.getElem_toArray, List.getElem_cons_succ, List.getElem_cons_zero, List.setIfInBounds_toArray, List.set_cons_succ, List.set_cons_zero]
        refine wpAnyH_take (i := 5) (v := (.pointer (some ⟨b, 0, none⟩))) rfl (by kernel_rfl) (by kernel_rfl) (by kernel_rfl) (fun _ _ _ h => (show False from h).elim) ?xyRM4 ?xhRM4 ?xrRM4
        case xhRM4 => exact hHeld
        case xyRM4 => exact Or.inl ⟨by rfl, fun W9 hW => by clear hHeld; simp only [List.getElem_toArray, List.getElem_cons_succ, List.getElem_cons_zero]; go_simp⟩
        simp only [Act.put, List.getElem_toArray, List.getElem_cons_succ, List.getElem_cons_zero, List.setIfInBounds_toArray, List.set_cons_succ, List.set_cons_zero]
        refine wpAnyH_take (i := 7) (v := (.pointer (some ⟨w.heap.size, 0, none⟩))) rfl (by kernel_rfl) (by kernel_rfl) (by kernel_rfl) (fun _ _ _ h => (show False from h).elim) ?xyRM5 ?xhRM5 ?xrRM5
        case xhRM5 => exact hHeld
        case xyRM5 => exact Or.inl ⟨by rfl, fun W9 hW => by clear hHeld; simp only [List.getElem_toArray, List.getElem_cons_succ, List.getElem_cons_zero]; go_simp⟩
        simp only [Act.put, List.getElem_toArray, List.getElem_cons_succ, List.getElem_cons_zero, List.setIfInBounds_toArray, List.set_cons_succ, List.set_cons_zero]
        refine wpAnyH_take (i := 8) (v := (.pointer (some ⟨w.heap.size, 0, none⟩))) rfl (by kernel_rfl) (by kernel_rfl) (by kernel_rfl) (fun _ _ _ h => (show False from h).elim) ?xyRM6 ?xhRM6 ?xrRM6
        case xhRM6 => exact hHeld
        case xyRM6 => exact Or.inl ⟨by rfl, fun W9 hW => by clear hHeld; simp only [List.getElem_toArray, List.getElem_cons_succ, List.getElem_cons_zero]; go_simp⟩
        simp only [Act.put, List.getElem_toArray, List.getElem_cons_succ, List.getElem_cons_zero, List.setIfInBounds_toArray, List.set_cons_succ, List.set_cons_zero]
        refine wpAnyH_take (i := 9) (v := (.int .u64 (l.ht : Int))) rfl (by kernel_rfl) (by kernel_rfl) (by kernel_rfl) (fun _ _ _ h => (show False from h).elim) ?xyRM7 ?xhRM7 ?xrRM7
        case xhRM7 => exact hHeld
        case xyRM7 => exact Or.inl ⟨by rfl, fun W9 hW => by obtain ⟨y0, y1, y2, y3, y4, y5⟩ := HZ.out _ hW; clear hHeld; simp only [List.getElem_toArray, List.getElem_cons_succ, List.getElem_cons_zero]; go_simp⟩
        simp only [Act.put, List.getElem_toArray, List.getElem_cons_succ, List.getElem_cons_zero, List.setIfInBounds_toArray, List.set_cons_succ, List.set_cons_zero]
        refine wpAnyH_take (i := 10) (v := (.pointer (some ⟨w.heap.size, 0, none⟩))) rfl (by kernel_rfl) (by kernel_rfl) (by kernel_rfl) (fun _ _ _ h => (show False from h).elim) ?xyRM8 ?xhRM8 ?xrRM8
        case xhRM8 => exact hHeld
        case xyRM8 => exact Or.inl ⟨by rfl, fun W9 hW => by clear hHeld; simp only [List.getElem_toArray, List.getElem_cons_succ, List.getElem_cons_zero]; go_simp⟩
        simp only [Act.put, List.getElem_toArray, List.getElem_cons_succ, List.getElem_cons_zero, List.setIfInBounds_toArray, List.set_cons_succ, List.set_cons_zero]
        refine wpAnyH_take (i := 11) (v := (.pointer (some ⟨w.heap.size, 1, none⟩))) rfl (by kernel_rfl) (by kernel_rfl) (by kernel_rfl) (fun _ _ _ h => (show False from h).elim) ?xyRM9 ?xhRM9 ?xrRM9
        case xhRM9 => exact hHeld
        case xyRM9 => exact Or.inl ⟨by rfl, fun W9 hW => by clear hHeld; simp only [List.getElem_toArray, List.getElem_cons_succ, List.getElem_cons_zero]; go_simp⟩
        simp only [Act.put, List.getElem_toArray, List.getElem_cons_succ, List.getElem_cons_zero, List.setIfInBounds_toArray, List.set_cons_succ, List.set_cons_zero]
        refine wpAnyH_take (i := 12) (v := (.int .i64 l.hv)) rfl (by kernel_rfl) (by kernel_rfl) (by kernel_rfl) (fun _ _ _ h => (show False from h).elim) ?xyRM10 ?xhRM10 ?xrRM10
        case xhRM10 => exact hHeld
        case xyRM10 => exact Or.inl ⟨by rfl, fun W9 hW => by obtain ⟨y0, y1, y2, y3, y4, y5⟩ := HZ.out _ hW; clear hHeld; simp only [List.getElem_toArray, List.getElem_cons_succ, List.getElem_cons_zero]; go_simp⟩
        simp only [Act.put, List.getElem_toArray, List.getElem_cons_succ, List.getElem_cons_zero, List.setIfInBounds_toArray, List.set_cons_succ, List.set_cons_zero]
        refine wpAnyH_take (i := 13) (v := (.pointer (some ⟨w.heap.size, 2, none⟩))) rfl (by kernel_rfl) (by kernel_rfl) (by kernel_rfl) (fun _ _ _ h => (show False from h).elim) ?xyRM11 ?xhRM11 ?xrRM11
        case xhRM11 => exact hHeld
        case xyRM11 => exact Or.inl ⟨by rfl, fun W9 hW => by clear hHeld; simp only [List.getElem_toArray, List.getElem_cons_succ, List.getElem_cons_zero]; go_simp⟩
        simp only [Act.put, List.getElem_toArray, List.getElem_cons_succ, List.getElem_cons_zero, List.setIfInBounds_toArray, List.set_cons_succ, List.set_cons_zero]
        refine wpAnyH_take (i := 14) (v := (.pointer (some ⟨w.heap.size, 2, none⟩))) rfl (by kernel_rfl) (by kernel_rfl) (by kernel_rfl) (fun _ _ _ h => (show False from h).elim) ?xyRM12 ?xhRM12 ?xrRM12
        case xhRM12 => exact hHeld
        case xyRM12 => exact Or.inl ⟨by rfl, fun W9 hW => by clear hHeld; simp only [List.getElem_toArray, List.getElem_cons_succ, List.getElem_cons_zero]; go_simp⟩
        simp only [Act.put, List.getElem_toArray, List.getElem_cons_succ, List.getElem_cons_zero, List.setIfInBounds_toArray, List.set_cons_succ, List.set_cons_zero]
        refine wpAnyH_take (i := 15) (v := (.int .u64 (l.si : Int))) rfl (by kernel_rfl) (by kernel_rfl) (by kernel_rfl) (fun _ _ _ h => (show False from h).elim) ?xyRM13 ?xhRM13 ?xrRM13
        case xhRM13 => exact hHeld
        case xyRM13 => exact Or.inl ⟨by rfl, fun W9 hW => by obtain ⟨y0, y1, y2, y3, y4, y5⟩ := HZ.out _ hW; clear hHeld; simp only [List.getElem_toArray, List.getElem_cons_succ, List.getElem_cons_zero]; go_simp⟩
        simp only [Act.put, List.getElem_toArray, List.getElem_cons_succ, List.getElem_cons_zero, List.setIfInBounds_toArray, List.set_cons_succ, List.set_cons_zero]
        refine wpAnyH_take (i := 16) (v := (.pointer (some ⟨w.heap.size, 2, none⟩))) rfl (by kernel_rfl) (by kernel_rfl) (by kernel_rfl) (fun _ _ _ h => (show False from h).elim) ?xyRM14 ?xhRM14 ?xrRM14
        case xhRM14 => exact hHeld
        case xyRM14 => exact Or.inl ⟨by rfl, fun W9 hW => by clear hHeld; simp only [List.getElem_toArray, List.getElem_cons_succ, List.getElem_cons_zero]; go_simp⟩
        simp only [Act.put, List.getElem_toArray, List.getElem_cons_succ, List.getElem_cons_zero, List.setIfInBounds_toArray, List.set_cons_succ, List.set_cons_zero]
        refine wpAnyH_take (i := 17) (v := (.pointer (some ⟨w.heap.size, 2, none⟩))) rfl (by kernel_rfl) (by kernel_rfl) (by kernel_rfl) (fun _ _ _ h => (show False from h).elim) ?xyRM15 ?xhRM15 ?xrRM15
        case xhRM15 => exact hHeld
        case xyRM15 => exact Or.inl ⟨by rfl, fun W9 hW => by clear hHeld; simp only [List.getElem_toArray, List.getElem_cons_succ, List.getElem_cons_zero]; go_simp⟩
        simp only [Act.put, List.getElem_toArray, List.getElem_cons_succ, List.getElem_cons_zero, List.setIfInBounds_toArray, List.set_cons_succ, List.set_cons_zero]
        refine wpAnyH_take (i := 18) (v := (.int .u64 (l.si : Int))) rfl (by kernel_rfl) (by kernel_rfl) (by kernel_rfl) (fun _ _ _ h => (show False from h).elim) ?xyRM16 ?xhRM16 ?xrRM16
        case xhRM16 => exact hHeld
        case xyRM16 => exact Or.inl ⟨by rfl, fun W9 hW => by obtain ⟨y0, y1, y2, y3, y4, y5⟩ := HZ.out _ hW; clear hHeld; simp only [List.getElem_toArray, List.getElem_cons_succ, List.getElem_cons_zero]; go_simp⟩
        simp only [Act.put, List.getElem_toArray, List.getElem_cons_succ, List.getElem_cons_zero, List.setIfInBounds_toArray, List.set_cons_succ, List.set_cons_zero]
        refine wpAnyH_take (i := 19) (v := (.int .u64 ((l.si : Int) + 1))) rfl (by kernel_rfl) (by kernel_rfl) (by kernel_rfl) (fun _ _ _ h => (show False from h).elim) ?xyRM17 ?xhRM17 ?xrRM17
        case xhRM17 => exact hHeld
        case xyRM17 => exact Or.inl ⟨by rfl, fun W9 hW => by clear hHeld; simp only [List.getElem_toArray, List.getElem_cons_succ, List.getElem_cons_zero]; go_simp⟩
        simp only [Act.put, List.getElem_toArray, List.getElem_cons_succ, List.getElem_cons_zero, List.setIfInBounds_toArray, List.set_cons_succ, List.set_cons_zero]
        refine wpAnyH_take (i := 20) (v := (.pointer (some ⟨w.heap.size, 2, none⟩))) rfl (by kernel_rfl) (by kernel_rfl) (by kernel_rfl) (fun _ _ _ h => (show False from h).elim) ?xyRM18 ?xhRM18 ?xrRM18
        case xhRM18 => exact hHeld
        case xyRM18 => exact Or.inl ⟨by rfl, fun W9 hW => by clear hHeld; simp only [List.getElem_toArray, List.getElem_cons_succ, List.getElem_cons_zero]; go_simp⟩
        simp only [Act.put, List.getElem_toArray, List.getElem_cons_succ, List.getElem_cons_zero, List.setIfInBounds_toArray, List.set_cons_succ, List.set_cons_zero]
        refine wpAnyH_take (i := 21) (v := (.pointer (some ⟨w.heap.size, 2, none⟩))) rfl (by kernel_rfl) (by kernel_rfl) (by kernel_rfl) (fun _ _ _ h => (show False from h).elim) ?xyRM19 ?xhRM19 ?xrRM19
        case xhRM19 => exact hHeld
        case xyRM19 => exact Or.inl ⟨by rfl, fun W9 hW => by clear hHeld; simp only [List.getElem_toArray, List.getElem_cons_succ, List.getElem_cons_zero]; go_simp⟩
        simp only [Act.put, List.getElem_toArray, List.getElem_cons_succ, List.getElem_cons_zero, List.setIfInBounds_toArray, List.set_cons_succ, List.set_cons_zero]
        refine wpAnyH_take (i := 22) (v := (.int .u64 (l.si : Int))) rfl (by kernel_rfl) (by kernel_rfl) (by kernel_rfl) (fun _ _ _ h => (show False from h).elim) ?xyRM20 ?xhRM20 ?xrRM20
        case xhRM20 => exact hHeld
        case xyRM20 => exact Or.inl ⟨by rfl, fun W9 hW => by obtain ⟨y0, y1, y2, y3, y4, y5⟩ := HZ.out _ hW; clear hHeld; simp only [List.getElem_toArray, List.getElem_cons_succ, List.getElem_cons_zero]; go_simp⟩
        simp only [Act.put, List.getElem_toArray, List.getElem_cons_succ, List.getElem_cons_zero, List.setIfInBounds_toArray, List.set_cons_succ, List.set_cons_zero]
        refine wpAnyH_take (i := 23) (v := (.pointer (some ⟨w.heap.size, 5, none⟩))) rfl (by kernel_rfl) (by kernel_rfl) (by kernel_rfl) (fun _ _ _ h => (show False from h).elim) ?xyRM21 ?xhRM21 ?xrRM21
        case xhRM21 => exact hHeld
        case xyRM21 => exact Or.inl ⟨by rfl, fun W9 hW => by clear hHeld; simp only [List.getElem_toArray, List.getElem_cons_succ, List.getElem_cons_zero]; go_simp⟩
        simp only [Act.put, List.getElem_toArray, List.getElem_cons_succ, List.getElem_cons_zero, List.setIfInBounds_toArray, List.set_cons_succ, List.set_cons_zero]
        refine wpAnyH_take (i := 24) (v := (.slice eo k l.ec)) rfl (by kernel_rfl) (by kernel_rfl) (by kernel_rfl) (fun _ _ _ h => (show False from h).elim) ?xyRM22 ?xhRM22 ?xrRM22
        case xhRM22 => exact hHeld
        case xyRM22 => exact Or.inl ⟨by rfl, fun W9 hW => by obtain ⟨y0, y1, y2, y3, y4, y5⟩ := HZ.out _ hW; clear hHeld; simp only [List.getElem_toArray, List.getElem_cons_succ, List.getElem_cons_zero]; go_simp⟩
        simp only [Act.put, List.getElem_toArray, List.getElem_cons_succ, List.getElem_cons_zero, List.setIfInBounds_toArray, List.set_cons_succ, List.set_cons_zero]
        refine wpAnyH_take (i := 25) (v := (.int .i64 (k : Int))) rfl (by kernel_rfl) (by kernel_rfl) (by kernel_rfl) (fun _ _ _ h => (show False from h).elim) ?xyRM23 ?xhRM23 ?xrRM23
        case xhRM23 => exact hHeld
        case xyRM23 => exact Or.inl ⟨by rfl, fun W9 hW => by clear hHeld; simp only [List.getElem_toArray, List.getElem_cons_succ, List.getElem_cons_zero]; go_simp⟩
        simp only [Act.put, List.getElem_toArray, List.getElem_cons_succ, List.getElem_cons_zero, List.setIfInBounds_toArray, List.set_cons_succ, List.set_cons_zero]
        refine wpAnyH_take (i := 26) (v := (.int .u64 (k : Int))) rfl (by kernel_rfl) (by kernel_rfl) (by kernel_rfl) (fun _ _ _ h => (show False from h).elim) ?xyRM24 ?xhRM24 ?xrRM24
        case xhRM24 => exact hHeld
        case xyRM24 => exact Or.inl ⟨by rfl, fun W9 hW => by clear hHeld; simp only [List.getElem_toArray, List.getElem_cons_succ, List.getElem_cons_zero]; go_simp⟩
        simp only [Act.put, List.getElem_toArray, List.getElem_cons_succ, List.getElem_cons_zero, List.setIfInBounds_toArray, List.set_cons_succ, List.set_cons_zero]
        refine wpAnyH_take (i := 27) (v := (.int .u64 ((l.si : Int) + (k : Int)))) rfl (by kernel_rfl) (by kernel_rfl) (by kernel_rfl) (fun _ _ _ h => (show False from h).elim) ?xyRM25 ?xhRM25 ?xrRM25
        case xhRM25 => exact hHeld
        case xyRM25 => exact Or.inl ⟨by rfl, fun W9 hW => by clear hHeld; simp only [List.getElem_toArray, List.getElem_cons_succ, List.getElem_cons_zero]; go_simp⟩
        simp only [Act.put, List.getElem_toArray, List.getElem_cons_succ, List.getElem_cons_zero, List.setIfInBounds_toArray, List.set_cons_succ, List.set_cons_zero]
        refine wpAnyH_take (i := 28) (v := (.agg #[.int .i64 0, .int .u64 (l.ht : Int), .int .i64 l.hv, .int .i64 0, .int .u64 (l.si : Int), .int .u64 ((l.si : Int) + 1), .int .u64 ((l.si : Int) + (k : Int))])) rfl (by kernel_rfl) (by kernel_rfl) (by kernel_rfl) (fun _ _ _ h => (show False from h).elim) ?xyRM26 ?xhRM26 ?xrRM26
        case xhRM26 => exact hHeld
        case xyRM26 => exact Or.inl ⟨by rfl, fun W9 hW => by clear hHeld; simp only [List.getElem_toArray, List.getElem_cons_succ, List.getElem_cons_zero]; go_simp⟩
        simp only [Act.put, List.getElem_toArray, List.getElem_cons_succ, List.getElem_cons_zero, List.setIfInBounds_toArray, List.set_cons_succ, List.set_cons_zero]
        refine wpAnyH_ready (rs := [6]) (by kernel_rfl) (by simp) ?_
        refine AllReadyH.cons rfl (fun K hK => ?_) AllReadyH.nil
        go_simp
        go_wp2_with (first | (go_at_call 17; refine CSd.out.mono ?_; rintro en wS ⟨rfl, hbS⟩; have HBS := hid (HBE.out.trans (hbS.mono HBE.out.size)); have CTd := hid (CTk.out _ HBS.out); clear hbS))
        refine hK.out _ _ (HS.out _ HBS.out) (fun hHeld => ?_)
        clear hK K
        refine wpAnyH_take (i := 29) (v := (.bool true)) rfl (by kernel_rfl) (by kernel_rfl) (by kernel_rfl) (fun _ _ _ h => (show False from h).elim) ?xyRM27 ?xhRM27 ?xrRM27
        case xhRM27 => exact hHeld
        case xyRM27 => exact Or.inl ⟨by rfl, fun W9 hW => by clear hHeld; simp only [List.getElem_toArray, List.getElem_cons_succ, List.getElem_cons_zero]; go_simp⟩
        simp only [Act.put, List.getElem_toArray, List.getElem_cons_succ, List.getElem_cons_zero, List.setIfInBounds_toArray, List.set_cons_succ, List.set_cons_zero]
        refine wpAnyH_take (i := 30) (v := (.bool true)) rfl (by kernel_rfl) (by kernel_rfl) (by kernel_rfl) (fun _ _ _ h => (show False from h).elim) ?xyRM28 ?xhRM28 ?xrRM28
        case xhRM28 => exact hHeld
        case xyRM28 => exact Or.inl ⟨by rfl, fun W9 hW => by clear hHeld; simp only [List.getElem_toArray, List.getElem_cons_succ, List.getElem_cons_zero]; go_simp⟩
        simp only [Act.put, List.getElem_toArray, List.getElem_cons_succ, List.getElem_cons_zero, List.setIfInBounds_toArray, List.set_cons_succ, List.set_cons_zero]
        refine wpAnyH_take (i := 31) (v := (.bool true)) rfl (by kernel_rfl) (by kernel_rfl) (by kernel_rfl) (fun _ _ _ h => (show False from h).elim) ?xyRM29 ?xhRM29 ?xrRM29
        case xhRM29 => exact hHeld
        case xyRM29 => exact Or.inl ⟨by rfl, fun W9 hW => by clear hHeld; simp only [List.getElem_toArray, List.getElem_cons_succ, List.getElem_cons_zero]; go_simp⟩
        simp only [Act.put, List.getElem_toArray, List.getElem_cons_succ, List.getElem_cons_zero, List.setIfInBounds_toArray, List.set_cons_succ, List.set_cons_zero]
        refine wpAnyH_take (i := 32) (v := (.pointer (some ⟨b, 0, none⟩))) rfl (by kernel_rfl) (by kernel_rfl) (by kernel_rfl) (fun _ _ _ h => (show False from h).elim) ?xyRM30 ?xhRM30 ?xrRM30
        case xhRM30 => exact hHeld
        case xyRM30 => exact Or.inl ⟨by rfl, fun W9 hW => by clear hHeld; simp only [List.getElem_toArray, List.getElem_cons_succ, List.getElem_cons_zero]; go_simp⟩
        simp only [Act.put, List.getElem_toArray, List.getElem_cons_succ, List.getElem_cons_zero, List.setIfInBounds_toArray, List.set_cons_succ, List.set_cons_zero]
        refine wpAnyH_ready (rs := [33]) (by kernel_rfl) (by simp) ?_
        refine AllReadyH.cons rfl (fun K hK => ?_) AllReadyH.nil
        go_simp
        go_wp2_with (first | (go_at_call 23; refine CTd.out.mono ?_; rintro en wT ⟨rfl, hnT, hkT⟩; have HKT := hid hkT; have CKd := hid (CKn.out _ hnT ((HLOG.out.old HBS.out).kept hkT HOFN.out)); clear hnT hkT))
        refine hK.out _ _ (HS2.out _ _ (HS.out _ HBS.out) HKT.out HBS.out.size) (fun hHeld => ?_)
        clear hK K
        refine wpAnyH_take (i := 34) (v := (.int .i64 0)) rfl (by kernel_rfl) (by kernel_rfl) (by kernel_rfl) (fun _ _ _ h => (show False from h).elim) ?xyRM31 ?xhRM31 ?xrRM31
        case xhRM31 => exact hHeld
        case xyRM31 => exact Or.inl ⟨by rfl, fun W9 hW => by clear hHeld; simp only [List.getElem_toArray, List.getElem_cons_succ, List.getElem_cons_zero]; go_simp⟩
        simp only [Act.put, List.getElem_toArray, List.getElem_cons_succ, List.getElem_cons_zero, List.setIfInBounds_toArray, List.set_cons_succ, List.set_cons_zero]
        refine wpAnyH_take (i := 35) (v := (.bool true)) rfl (by kernel_rfl) (by kernel_rfl) (by kernel_rfl) (fun _ _ _ h => (show False from h).elim) ?xyRM32 ?xhRM32 ?xrRM32
        case xhRM32 => exact hHeld
        case xyRM32 => exact Or.inl ⟨by rfl, fun W9 hW => by clear hHeld; simp only [List.getElem_toArray, List.getElem_cons_succ, List.getElem_cons_zero]; go_simp⟩
        simp only [Act.put, List.getElem_toArray, List.getElem_cons_succ, List.getElem_cons_zero, List.setIfInBounds_toArray, List.set_cons_succ, List.set_cons_zero]
        refine wpAnyH_take (i := 36) (v := (.bool true)) rfl (by kernel_rfl) (by kernel_rfl) (by kernel_rfl) (fun _ _ _ h => (show False from h).elim) ?xyRM33 ?xhRM33 ?xrRM33
        case xhRM33 => exact hHeld
        case xyRM33 => exact Or.inl ⟨by rfl, fun W9 hW => by clear hHeld; simp only [List.getElem_toArray, List.getElem_cons_succ, List.getElem_cons_zero]; go_simp⟩
        simp only [Act.put, List.getElem_toArray, List.getElem_cons_succ, List.getElem_cons_zero, List.setIfInBounds_toArray, List.set_cons_succ, List.set_cons_zero]
        refine wpAnyH_take (i := 37) (v := (.bool true)) rfl (by kernel_rfl) (by kernel_rfl) (by kernel_rfl) (fun _ _ _ h => (show False from h).elim) ?xyRM34 ?xhRM34 ?xrRM34
        case xhRM34 => exact hHeld
        case xyRM34 => exact Or.inl ⟨by rfl, fun W9 hW => by clear hHeld; simp only [List.getElem_toArray, List.getElem_cons_succ, List.getElem_cons_zero]; go_simp⟩
        simp only [Act.put, List.getElem_toArray, List.getElem_cons_succ, List.getElem_cons_zero, List.setIfInBounds_toArray, List.set_cons_succ, List.set_cons_zero]
        refine wpAnyH_take (i := 38) (v := (.pointer (some ⟨b, 0, none⟩))) rfl (by kernel_rfl) (by kernel_rfl) (by kernel_rfl) (fun _ _ _ h => (show False from h).elim) ?xyRM35 ?xhRM35 ?xrRM35
        case xhRM35 => exact hHeld
        case xyRM35 => exact Or.inl ⟨by rfl, fun W9 hW => by clear hHeld; simp only [List.getElem_toArray, List.getElem_cons_succ, List.getElem_cons_zero]; go_simp⟩
        simp only [Act.put, List.getElem_toArray, List.getElem_cons_succ, List.getElem_cons_zero, List.setIfInBounds_toArray, List.set_cons_succ, List.set_cons_zero]
        refine wpAnyH_ready (rs := [39]) (by kernel_rfl) (by simp) ?_
        refine AllReadyH.cons rfl (fun K hK => ?_) AllReadyH.nil
        go_simp
        go_wp2_with (first | (go_at_call 18; refine CKd.out.mono ?_; rintro en wK ⟨⟨yo, yc, rfl⟩, hbK⟩; have HBK9 := hid hbK; clear hbK))
        refine hK.out _ _ (HS3.out _ _ (HS2.out _ _ (HS.out _ HBS.out) HKT.out HBS.out.size) HBK9.out) (fun hHeld => ?_)
        clear hK K
        refine wpAnyH_take (i := 40) (v := (.int .i64 0)) rfl (by kernel_rfl) (by kernel_rfl) (by kernel_rfl) (fun _ _ _ h => (show False from h).elim) ?xyRM36 ?xhRM36 ?xrRM36
        case xhRM36 => exact hHeld
        case xyRM36 => exact Or.inl ⟨by rfl, fun W9 hW => by clear hHeld; simp only [List.getElem_toArray, List.getElem_cons_succ, List.getElem_cons_zero]; go_simp⟩
        simp only [Act.put, List.getElem_toArray, List.getElem_cons_succ, List.getElem_cons_zero, List.setIfInBounds_toArray, List.set_cons_succ, List.set_cons_zero]
        refine wpAnyH_take (i := 41) (v := (.bool true)) rfl (by kernel_rfl) (by kernel_rfl) (by kernel_rfl) (fun _ _ _ h => (show False from h).elim) ?xyRM37 ?xhRM37 ?xrRM37
        case xhRM37 => exact hHeld
        case xyRM37 => exact Or.inl ⟨by rfl, fun W9 hW => by clear hHeld; simp only [List.getElem_toArray, List.getElem_cons_succ, List.getElem_cons_zero]; go_simp⟩
        simp only [Act.put, List.getElem_toArray, List.getElem_cons_succ, List.getElem_cons_zero, List.setIfInBounds_toArray, List.set_cons_succ, List.set_cons_zero]
        refine wpAnyH_take (i := 42) (v := (.bool true)) rfl (by kernel_rfl) (by kernel_rfl) (by kernel_rfl) (fun _ _ _ h => (show False from h).elim) ?xyRM38 ?xhRM38 ?xrRM38
        case xhRM38 => exact hHeld
        case xyRM38 => exact Or.inl ⟨by rfl, fun W9 hW => by clear hHeld; simp only [List.getElem_toArray, List.getElem_cons_succ, List.getElem_cons_zero]; go_simp⟩
        simp only [Act.put, List.getElem_toArray, List.getElem_cons_succ, List.getElem_cons_zero, List.setIfInBounds_toArray, List.set_cons_succ, List.set_cons_zero]
        refine wpAnyH_take (i := 43) (v := (.bool true)) rfl (by kernel_rfl) (by kernel_rfl) (by kernel_rfl) (fun _ _ _ h => (show False from h).elim) ?xyRM39 ?xhRM39 ?xrRM39
        case xhRM39 => exact hHeld
        case xyRM39 => exact Or.inl ⟨by rfl, fun W9 hW => by clear hHeld; simp only [List.getElem_toArray, List.getElem_cons_succ, List.getElem_cons_zero]; go_simp⟩
        simp only [Act.put, List.getElem_toArray, List.getElem_cons_succ, List.getElem_cons_zero, List.setIfInBounds_toArray, List.set_cons_succ, List.set_cons_zero]
        refine wpAnyH_done (by kernel_rfl) ?_ _
        refine NoPanic.normal ?_
        go_wp2_with fail
        go_ret
        have hbn := HBN9.out
        have hb9 := hbn.2.2.trans (HBS.out.mono hbn.2.2.size)
        have hb8 := HKT.out.below hb9.size (fun j e => by rw [e]; omega)
        have hb7 := hb9.trans hb8
        exact ⟨rfl, hb7.trans (HBK9.out.mono hb7.size)⟩
theorem walk {H : Type} {enc : TypeId × Value → H} {base : Nat} {d : DataW H} {p : List MemPlace} (a0 a1 : Int) (v2 : Value) (W : World) (w0 : (Lit.int .i64 a0).wf = true) (w1 : (Lit.int .i64 a1).wf = true) (hv2 : Value.okWide Try.prog W .any base 69 v2) (h2 : DataW.Trod enc Try.prog W 0 (fun _ => true) true 69 v2 d p) (hR : ∀ n ∈ d.weights Try.prog 69, n ≤ 140737488351232) :
    Calls Try.prog 6 #[.int .i64 a0, .int .i64 a1, v2] W (fun e W' => e = .returned (.bool true) ∧ Below W.heap.size W W') := by
  obtain ⟨l, rfl, hl⟩ := log_open hv2 h2
  exact walk0 a0 a1 l W (hl 140737488351232 (by decide) hR)
end raftMade
end Go.Proofs.Ytdaecndbdinddaa
