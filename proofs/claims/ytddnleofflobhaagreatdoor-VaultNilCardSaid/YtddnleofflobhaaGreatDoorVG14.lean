import Derived.Test.YtddnleofflobhaaGreatDoorRows
import Derived.WalkKit
import Derived.WalkSpells
import Derived.WalkLawsBesides
import Derived.Laws.AppendOwnNone
import Derived.BigQuiet
import Derived.Deep.QuietTactic
import Derived.Deep.MidRow
import Derived.Laws.MakeOwn
import Derived.Deep.CutBlock
import Derived.Deep.CutRange
import Derived.Sort.CutIn
import Derived.RangeFuncNested
import Derived.RangeFuncBound
import Derived.RangeFuncCalls
import Derived.RangeFuncLeaves
import Derived.RangeFuncBox
import Derived.Shelf.Abstract
import Derived.Shelf.RegionOpen
import Derived.OwnWalkIn
import Derived.TacticsInMore
import Derived.LoopNIn
import Derived.LoopIn
import Derived.OrdersIn
import Derived.LaidEql
import Derived.Stop.Asserts
import Derived.RowKitTokens
import Derived.Lib.Bytes
import Derived.Deep.RegionHeld3
import Derived.Deep.WholeRow
import Derived.BigRegion
import Derived.Great.BuildSlice
import Derived.Deep.AppendLies
import Derived.StillTailTactics
import Derived.Deep.RegionLaw
import Derived.Great.FillDense
import Derived.Laws.Tables
import Derived.LoopN
import Derived.Deep.OwnRows
import Derived.OwnWalk
import Derived.Deep.Slices
import Derived.OpenShut
import Derived.Deep.RegionWith
import Derived.Lib.SliceRun
import Derived.ArgAppend
import Derived.Test.YtddnleofflobhaaGreatDoorVG1
import Derived.Test.YtddnleofflobhaaGreatDoorVG2
import Derived.Test.YtddnleofflobhaaGreatDoorVG3
import Derived.Test.YtddnleofflobhaaGreatDoorVG4
import Derived.Test.YtddnleofflobhaaGreatDoorVG5
import Derived.Test.YtddnleofflobhaaGreatDoorVG6
import Derived.Test.YtddnleofflobhaaGreatDoorVG7
import Derived.Test.YtddnleofflobhaaGreatDoorVG8
import Derived.Test.YtddnleofflobhaaGreatDoorVG9
set_option linter.unusedVariables false
set_option linter.unusedSimpArgs false
set_option linter.unusedVariables false
set_option maxRecDepth 100000
namespace Go.Proofs.YtddnleofflobhaaGreatDoor
open Go.RowKit Go.Shelf
attribute [local go_sem] Oper.semAt_some

/-- The k-th piece. -/
def pc (B : List UInt8) (k : Nat) : List UInt8 := (B.drop (56 * k)).take 56
theorem pc_len (B : List UInt8) (k : Nat) : (pc B k).length = min 56 (B.length - 56 * k) := by unfold pc; simp
def pcv (ao : Option Addr) (B : List UInt8) (k : Nat) : Value := .slice (ao.map (·.add (56 * k * 1))) (pc B k).length (pc B k).length

theorem cut3 {w : World} {ao : Option Addr} {c : Nat} {B : List UInt8} (h : Rd w (.slice ao B.length c) B) (k : Nat) (hk : 56 * k < B.length) :
    (∀ W, (Instr.slice 25 (.slice ao B.length c) (some (.int .i64 ((56 * k : Nat) : Int))) (some (.int .i64 ((56 * k + (pc B k).length : Nat) : Int))) (some (.int .i64 ((56 * k + (pc B k).length : Nat) : Int)))).run Tryz.prog W = .ok (pcv ao B k) W) ∧ Rd w (pcv ao B k) (pc B k) := by
  have ht' : Tryz.prog.underlying 25 = some (.slice (Tryz.prog.elem 25)) := by simp [Program.elem, Tryz.underlying25]
  have he : Tryz.prog.elem 25 = 5 := by simp [Program.elem, Tryz.underlying25]
  obtain ⟨i0, hi, hz0, hz1, hz2⟩ := info_parts (show (Tryz.prog.info? 5).map (fun i => (i.zero, i.size, i.bytes)) = some (some (.int .u8 0), 1, 1) by kernel_rfl)
  have hs : ∀ W, (sizeOf 5).run Tryz.prog W = .ok 1 W := fun W => by simp [sizeOf, typeInfo, hi, hz1]
  obtain ⟨ao1, c1, hs1, h5, -⟩ := h.cut (P := Tryz.prog) 25 5 Tryz.underlying25 (by kernel_rfl) (56 * k) (by omega)
  have hpl := pc_len B k
  obtain ⟨ao', c', e, h1, h2, h3, h4⟩ := id h
  simp only [Value.slice.injEq, true_and] at e
  obtain ⟨rfl, rfl⟩ := e
  have key : (if c = 56 * k then ao else ao.map (·.add (56 * k * 1))) = ao1 := by
    have := hs1 w
    rw [run_slice_l w 25 _ _ _ ht' .i64 _ (by omega) (by omega), he, hs] at this
    simp only [Result.andThen, sliced, Int.toNat_natCast, Result.ok.injEq, and_true, Value.slice.injEq] at this
    exact this.1
  rw [if_neg (by omega)] at key
  refine ⟨fun W => ?_, ?_⟩
  · rw [run_slice_lhm W 25 _ _ _ ht' .i64 .i64 .i64 _ _ _ (by omega) (by omega) (by omega) (by omega), he, hs]
    simp only [Result.andThen, sliced, Int.toNat_natCast]
    unfold pcv
    rw [if_neg (by omega), show 56 * k + (pc B k).length - 56 * k = (pc B k).length by omega]
  · unfold pcv
    rw [key]
    have h6 := h5.take 56
    obtain ⟨ao', c', e, q1, q2, q3, q4⟩ := h5
    simp only [Value.slice.injEq] at e
    obtain ⟨rfl, -, rfl⟩ := e
    refine ⟨ao1, _, rfl, Nat.le_refl _, by omega, fun hn => ?_, fun a ha j u hu => q4 a ha j u ?_⟩
    · rw [hn] at key
      cases ao with
      | none => have := h3 rfl; omega
      | some a => cases key
    · unfold pc at hu
      rw [List.map_take, List.getElem?_take] at hu
      split at hu
      · exact hu
      · cases hu

/-- What a round of Chunk knows of what comes. -/
def RxC (ao : Option Addr) (B : List UInt8) (pre : List Nat) (x : Nat) (W : World) : Prop := x = pre.length ∧ 56 * x < B.length ∧ Rd W (pcv ao B x) (pc B x)

set_option maxHeartbeats 8000000 in
theorem chunk_in (n : Nat) (hn : 1 ≤ n) (l Bs Bn : Nat) (ao : Option Addr) (c : Nat) (B : List UInt8) (Kp : World → World → Prop) (J Jx : List Nat → World → Prop) (W0 : World) (hB : B.length ≤ 1000000)
    (hKr : Kp W0 W0) (hKt : ∀ {X Y Z : World}, Kp X Y → Kp Y Z → Kp X Z) (hKb : ∀ X Y, Kp W0 X → Below X.heap.size X Y → Kp X Y) (hKs : ∀ X Y, Kp X Y → X.heap.size ≤ Y.heap.size)
    (hJ : ∀ p X Y, J p X → Below X.heap.size X Y → J p Y)
    (hY : ∀ pre x W1, J pre W1 → RxC ao B pre x W1 → W0.heap.size ≤ W1.heap.size → YieldAt Fence.wide (n - 1) Tryz.prog l #[pcv ao B x] W1 fun e W' =>
      (e = .returned (.bool true) ∧ J (pre ++ [x]) W' ∧ Kp W1 W' ∧ KeepsFrom W0.heap.size W1 W') ∨ (e = .returned (.bool false) ∧ Jx (pre ++ [x]) W' ∧ KeepsFrom W0.heap.size W1 W'))
    (hP : ∀ W, Kp W0 W → W.cell? ⟨Bs, 0, none⟩ = some (.slice ao B.length c) ∧ W.cell? ⟨Bn, 0, none⟩ = some (.int .i64 56) ∧ Rd W (.slice ao B.length c) B) (h0 : J [] W0) :
    CallsIn Fence.wide n Tryz.prog 119 #[.func (.yield l) #[] #[], .pointer (some ⟨Bs, 0, none⟩), .pointer (some ⟨Bn, 0, none⟩)] W0 fun e W' => (∃ v, e = .returned v) ∧
      ((∃ xs : List Nat, xs = List.range ((B.length + 55) / 56) ∧ J xs W') ∨ (∃ pre : List Nat, Jx pre W')) := by
  refine callsIn_of_wp Tryz.func119 rfl trivial ?_ rfl
  simp only [Tryz.ntmps119, List.size_toArray, List.length_cons, List.length_nil, Nat.reduceAdd, Nat.reduceSub, Array.replicate_succ, Array.replicate_zero, List.push_toArray, List.append_toArray, List.nil_append, List.cons_append]
  have HP := hid hP
  have HY := hid hY
  have HJ0 := hid h0
  have HKb := hid hKb
  have HKs := hid hKs
  have HJJ := hid hJ
  have HKt : Hid (∀ X Y Z : World, Kp X Y → Kp Y Z → Kp X Z) := fun X Y Z h k => hKt h k
  have HKr := hid hKr
  clear hP hY h0 hKr hKt hKb hJ hKs
  gi_wp2
  gi_loopw [4] (fun i wr => ∃ k : Nat, 56 * k < B.length + 56 ∧ i = .int .i64 ((56 * k : Nat) : Int) ∧ Hid (J (List.range k) wr) ∧ Hid (Kp W0 wr)) (fun i _ => B.length + 56 - (intOf i).toNat)
  case atStart => exact ⟨0, by omega, rfl, HJ0, HKr⟩
  case round =>
    obtain ⟨k, hk, rfl, HJr, HKr9⟩ := hrel
    obtain ⟨c0, c1, hR0⟩ := HP.out _ HKr9.out
    have hlen := fun W => run_len_slice (P := Tryz.prog) W 25 3 ao B.length c Tryz.underlying25
    by_cases hlt : 56 * k < B.length
    · have hki : ((56 * k : Nat) : Int) < (B.length : Int) := by omega
      obtain ⟨hs3, hr3⟩ := cut3 hR0 k hlt
      have hpl := pc_len B k
      obtain ⟨q, hq⟩ : ∃ q, q = (pc B k).length := ⟨_, rfl⟩
      rw [← hq] at hs3 hpl
      have hif : (if ((B.length - 56 * k : Nat) : Int) < 56 then ((B.length - 56 * k : Nat) : Int) else 56) = (q : Int) := by split <;> omega
      obtain ⟨i9, hi9⟩ : ∃ i9, i9 = 56 * k := ⟨_, rfl⟩
      rw [← hi9] at hs3 hki hif ⊢
      have hwa : IntKind.i64.wrap ((i9 : Int) + (q : Int)) = ((i9 + q : Nat) : Int) := by rw [IntKind.wrap_i64]; omega
      have hwb : IntKind.i64.wrap ((i9 : Int) + 56) = ((56 * (k + 1) : Nat) : Int) := by rw [IntKind.wrap_i64]; omega
      have hcm : B.length ≤ c := by obtain ⟨ao', c', e, h1, -⟩ := hR0; simp only [Value.slice.injEq] at e; omega
      have hci : ¬ c = i9 := by omega
      have hq0 : ¬ q = 0 := by omega
      have hpv : pcv ao B k = .slice (Option.map (fun x => x.add i9) ao) q q := by unfold pcv; rw [← hq, hi9, Nat.mul_one]
      have hb9 : (i9 : Int) + (q : Int) ≤ (c : Int) := by omega
      have hb8 : (i9 : Int) ≤ (i9 : Int) + (q : Int) := by omega
      have hb7 : (0 : Int) ≤ (i9 : Int) + (q : Int) := by omega
      have HI9 := hid hi9
      have HR3 := hid hr3
      clear hR0 hr3 hpl hq hi9
      gi_wp2
      refine wpIn_wide.2 ?_
      go_quiet (fail)
      have hbq : Below wr.heap.size wr (wr.drewN nq) := ⟨rfl, rfl, rfl, Nat.le_refl _, fun _ _ => rfl⟩
      have HJq := hid (HJJ.out _ _ _ HJr.out hbq)
      have HKq := hid (HKt.out _ _ _ HKr9.out (HKb.out _ _ HKr9.out hbq))
      have hrq := HR3.out.old hbq
      clear hbq c0 c1 hif
      generalize wr.drewN nq = wq at *
      obtain ⟨c0, c1, -⟩ := HP.out _ HKq.out
      obtain ⟨fn, tmps, assign, body, hy, hR⟩ := HY.out (List.range k) k wq HJq.out ⟨by simp, hlt, hrq⟩ (HKs.out _ _ HKq.out)
      have HR := hid hR
      rw [hpv] at hy
      clear hR hrq hpv hs3
      gi_wp2
      refine HR.out.mono ?_
      rintro e W3 (⟨rfl, hJ3, hk3, -⟩ | ⟨rfl, hJx3, -⟩)
      · rw [← List.range_succ] at hJ3
        have HJ3 := hid hJ3
        have HB3 := hid (HKt.out _ _ _ HKq.out hk3)
        obtain ⟨e0, e1, -⟩ := HP.out _ HB3.out
        clear hJ3 hk3 c0 c1
        gi_wp2
        go_roundw
        case rel => exact ⟨k + 1, by omega, rfl, HJ3, HB3⟩
        case measure =>
          have := HI9.out
          simp [intOf]
          omega
      · have HJ3 := hid hJx3
        clear hJx3
        gi_wp2
        refine bodyPost_ret (results_none rfl _ _ _) rfl ?_
        exact ⟨⟨_, rfl⟩, .inr ⟨_, HJ3.out⟩⟩
    · gi_wp2
      go_end0
      have hkk : k = (B.length + 55) / 56 := by omega
      exact ⟨⟨_, rfl⟩, .inl ⟨_, by rw [hkk], HJr.out⟩⟩
end Go.Proofs.YtddnleofflobhaaGreatDoor

set_option linter.unusedVariables false
set_option maxRecDepth 100000
namespace Go.Proofs.YtddnleofflobhaaGreatDoor
open Go.RowKit Go.Shelf

/-- What Chunk and pieces give: a function over two blocks of its own. -/
def ChunkA (ao : Option Addr) (m c : Nat) (w : World) (e : Ending) (w' : World) : Prop :=
  ∃ Bs Bn, e = .returned (.func (.func 119) #[] #[.pointer (some ⟨Bs, 0, none⟩), .pointer (some ⟨Bn, 0, none⟩)]) ∧ w.heap.size ≤ Bs ∧ w.heap.size ≤ Bn ∧ w'.heap[Bs]? = some (.cells #[.slice ao m c] 25 (0, 0)) ∧ w'.heap[Bn]? = some (.cells #[.int .i64 56] 3 (0, 0)) ∧ Below w.heap.size w w'

theorem chunk_any (w : World) (ao : Option Addr) (m c : Nat) : Calls Tryz.prog 103 #[.slice ao m c, .int .i64 56] w (ChunkA ao m c w) := by
  go_enter Tryz.func103, Tryz.ntmps103
  go_wp2_with fail
  go_ret
  exact ⟨w.heap.size, w.heap.size + 1, rfl, Nat.le_refl _, by omega, (Below.heap_alloc _ _ _ (by simp)).trans (heap_alloc_new _ _), heap_alloc2_new _ _ _, ((Below.refl _ _).alloc (Nat.le_refl _) _).alloc (by simp) _⟩

/-- What a record's sectors hold. -/
def recB (l : List UInt8) : List UInt8 := le8 l.length ++ l
def PiecesA (l : List UInt8) (w : World) (e : Ending) (w' : World) : Prop :=
  ∃ Bs Bn x, e = .returned (.func (.func 119) #[] #[.pointer (some ⟨Bs, 0, none⟩), .pointer (some ⟨Bn, 0, none⟩)]) ∧ w.heap.size ≤ Bs ∧ w.heap.size ≤ Bn ∧ w'.heap[Bs]? = some (.cells #[x] 25 (0, 0)) ∧ w'.heap[Bn]? = some (.cells #[.int .i64 56] 3 (0, 0)) ∧ w'.ownsRow w.heap.size 5 1 x (recB l).length ((recB l).map bv) ∧ Below w.heap.size w w'

theorem pieces_any (w : World) (x : Value) (l : List UInt8) (h : Rd w x l) (hl : l.length ≤ 32768) : Calls Tryz.prog 132 #[x] w (PiecesA l w) := by
  obtain ⟨ao, c, rfl, -⟩ := id h
  have hlen := fun W => run_len_slice (P := Tryz.prog) W 25 3 ao l.length c Tryz.underlying25
  have h1 : IntKind.u64.wrap (l.length : Int) = (l.length : Int) := by rw [wrap_u64]; omega
  have CL := hid (little_any w l.length (by omega))
  have H := hid h
  obtain ⟨m, hm⟩ : ∃ m, m = l.length := ⟨_, rfl⟩
  rw [← hm] at hlen h1 CL ⊢
  have HM := hid hm
  clear h hm
  go_enter Tryz.func132, Tryz.ntmps132
  go_wp2_with (first | (go_at_call 143; refine CL.out.mono ?_))
  rintro e w2 ⟨y, rfl, hy, hb2⟩
  obtain ⟨yo, yc, rfl⟩ := own_form hy
  have HX2 : Hid (Rd w2 (.slice ao m c) l) := by
    have := H.out.old hb2
    rw [← HM.out] at this
    exact this
  have HO2 := hid hy
  have HB2 := hid hb2
  have HF : Hid ((le8 m).length + l.length ≤ 140737488355328) := by show _ ≤ _; rw [le8_len]; omega
  clear hy hb2
  go_wp2_with (first
    | (at_builtin; refine wp_app rfl _ _ 25 rfl w.heap.size 5 Tryz.underlying25 (by kernel_rfl) _ (le8 m).length _ rfl HO2.out _ l rfl HX2.out HF.out HB2.out.size ?_))
  intro v3 w3 o3 g3
  obtain ⟨vo, vc, rfl⟩ := own_form o3
  have HB3 : Hid (Below w.heap.size w w3) := HB2.out.grown g3 HB2.out.size (fun k e => (HO2.out.lt k e).1)
  have HO3 := hid o3
  clear o3 g3
  go_wp2_with (first | (go_at_call 103; refine (chunk_any _ _ _ _).mono ?_))
  rintro e w4 ⟨Bs, Bn, rfl, q1, q2, q3, q4, q5⟩
  have HB4 := hid (HB3.out.trans (q5.mono HB3.out.size))
  have HO4 := hid (own_old HO3.out q5)
  have HB34 := hid HB3.out.size
  have HQ := hid (And.intro q1 (And.intro q2 (And.intro q3 q4)))
  clear q1 q2 q3 q4 q5
  go_wp2_with fail
  go_ret
  obtain ⟨q1, q2, q3, q4⟩ := HQ.out
  refine ⟨Bs, Bn, _, rfl, Nat.le_trans HB34.out q1, Nat.le_trans HB34.out q2, q3, q4, ?_, HB4.out⟩
  have h9 := HO4.out
  have e1 : (recB l).length = (le8 m).length + l.length := by unfold recB; rw [List.length_append, ← HM.out]
  have e2 : (recB l).map bv = (le8 m).map bv ++ l.map bv := by unfold recB; rw [List.map_append, ← HM.out]
  rw [e1, e2]
  exact h9
end Go.Proofs.YtddnleofflobhaaGreatDoor

set_option linter.unusedVariables false
set_option linter.unusedSimpArgs false
set_option maxRecDepth 100000
namespace Go.Proofs.YtddnleofflobhaaGreatDoor
open Go.RowKit

/-- A sector's body: a piece, and zeros behind it. -/
def bodyP (l : List UInt8) : List UInt8 := l ++ List.replicate (56 - l.length) 0
end Go.Proofs.YtddnleofflobhaaGreatDoor

set_option linter.unusedVariables false
set_option maxRecDepth 100000
namespace Go.Proofs.YtddnleofflobhaaGreatDoor
open Go.RowKit

theorem Rof.of_own {B : Nat} {w : World} {v : Value} {R : List Rc} (h : w.ownsRow B 25 1 v R.length (R.map rcv)) (he : ∀ r ∈ R, Rd w (rcv r) r.b) : Rof w v R := by
  refine ⟨?_, he⟩
  rcases h.2 with ⟨rfl, h0⟩ | ⟨g, cap, cur, rfl, hb, hg, hn, hc, hs, ht⟩
  · exact .inl ⟨rfl, List.eq_nil_of_length_eq_zero h0⟩
  · refine .inr ⟨g, 0, cap, cur, rfl, hg, hn, hc, by omega, fun j r hj => ?_⟩
    have hlt : j < R.length := (List.getElem?_eq_some_iff.1 hj).1
    have h1 : (cur.toList.take (R.length * 1))[j]? = some (rcv r) := by rw [ht, List.getElem?_map, hj]; rfl
    rw [List.getElem?_take, if_pos (by omega)] at h1
    rw [Nat.zero_add]
    simpa using h1

theorem Rof.app {w : World} {rv : Value} {R : List Rc} (h : Rof w rv R) (r : Rc) (hrd : Rd w (rcv r) r.b) (q : Nat) (hq : w.cell? ⟨q, 0, none⟩ = some (rcv r)) (hR : R.length + 1 ≤ 1000000) (hoff : ∀ x ∈ R ++ [r], x.b ≠ [] → ∀ a, x.a = some a → blk rv ≠ some a.block) (ty : TypeId) :
    ∃ v' w', (Builtin.append_ #[60, 60] ty #[rv, .slice (some ⟨q, 0, none⟩) 1 1]).run Tryz.prog w = .ok v' w' ∧ Rof w' v' (R ++ [r]) ∧ Keep (fun k => blk rv = some k) w w' ∧ (∀ k, blk v' = some k → blk rv = some k ∨ w.heap.size ≤ k) := by
  obtain ⟨i0, hi, hz0, hz1, hz2⟩ := info_parts' (show (Tryz.prog.info? 25).map (fun i => (i.zero, i.size, i.bytes)) = some (some (.slice none 0 0), 1, 24) from info_bs)
  have hl : ([rcv r] : List Value).length = 1 * i0.size := by rw [hz1]; rfl
  have hn : ∀ j u, ([rcv r] : List Value)[j]? = some u → w.cell? ((⟨q, 0, none⟩ : Addr).add j) = some u := fun j u hu => by
    cases j with
    | zero => simp at hu; rw [← hu]; simpa [Addr.add] using hq
    | succ j => simp at hu
  have h1 : ∀ u ∈ ([rcv r] : List Value), u.oneCell' = true := fun u hu => by obtain rfl := List.mem_singleton.1 hu; rfl
  have hall : ∀ x ∈ R ++ [r], Rd w (rcv x) x.b := fun x hx => (List.mem_append.1 hx).elim (h.each x) (fun hx => by obtain rfl := List.mem_singleton.1 hx; exact hrd)
  have hrk : ∀ w', Keep (fun k => blk rv = some k) w w' → ∀ x ∈ R ++ [r], Rd w' (rcv x) x.b := fun w' hk x hx => (hall x hx).keep hk (fun hne k hb e => by
    obtain ⟨a, ha, rfl⟩ := blk_of hb
    exact hoff x hx hne a ha e)
  rcases h.row with ⟨rfl, rfl⟩ | ⟨g, o, cap, cur, rfl, hg, q1, q2, q3, q4⟩
  · obtain ⟨v', w', hrun, ho, hgr, -⟩ := run_append_own (P := Tryz.prog) w w.heap.size 60 ty 25 i0 _ 1 24 Tryz.underlying60 hi hz0 hz1 hz2 rfl (by decide) _ 0 [] (World.ownsRow_nil w w.heap.size 25 1) ⟨q, 0, none⟩ 1 1 [rcv r] (by rfl) hn h1 (by decide) (by decide) (Nat.le_refl _)
    have hk : Keep (fun k => blk (.slice none 0 0) = some k) w w' := Keep.of_grown hgr (fun k e => by cases e)
    refine ⟨v', w', hrun, Rof.of_own (B := w.heap.size) (R := [r]) (by simpa using ho) (hrk w' hk), hk, fun k hk => .inr ?_⟩
    obtain ⟨a, c, e⟩ := own_form ho
    rw [e] at ho hk
    cases a with
    | none => cases hk
    | some a => exact (ho.lt k hk).1
  · by_cases hroom : R.length + 1 ≤ cap
    · have hin : ∀ j, j < ([rcv r] : List Value).length → (w.cell? ⟨g, o + R.length * i0.size + j, none⟩).isSome = true := fun j hj => by
        have hj0 : j = 0 := by simpa using hj
        unfold World.cell?
        rw [hg]
        show (cur[o + R.length * i0.size + j]?).isSome = true
        rw [hz1, Array.getElem?_eq_getElem (by omega)]
        rfl
      have hrun := run_append_room_cells (P := Tryz.prog) w 60 ty 25 i0 Tryz.underlying60 hi g o R.length cap ⟨q, 0, none⟩ 1 1 [rcv r] hl hn h1 hroom hin (fun j hj => by unfold World.frozen?; rw [hg]; simp)
      rw [hz1, Nat.mul_one] at hrun
      have hk : Keep (fun k => blk (.slice (some ⟨g, o, none⟩) R.length cap) = some k) w (w.setCells g (o + R.length) [rcv r]) := (setCells_kept [rcv r] (o + R.length) w).mono (fun k _ e => by rw [e]; rfl)
      obtain ⟨cur', p1, p2, p3⟩ := setCells_at [rcv r] (o + R.length) w cur hg (by simp; omega)
      refine ⟨_, _, hrun, ⟨.inr ⟨g, o, cap, cur', by rw [List.length_append]; rfl, p1, by rw [List.length_append]; exact hroom, q2, by rw [p2]; exact q3, fun j x hj => ?_⟩, hrk _ hk⟩, hk, fun k hk => .inl hk⟩
      rw [p3, List.length_singleton]
      by_cases hjl : j < R.length
      · rw [if_neg (by omega)]
        rw [List.getElem?_append_left hjl] at hj
        exact q4 j x hj
      · have hlt := (List.getElem?_eq_some_iff.1 hj).1
        rw [List.length_append, List.length_singleton] at hlt
        have hje : j = R.length := by omega
        subst hje
        rw [List.getElem?_append_right (Nat.le_refl _)] at hj
        simp at hj
        rw [if_pos (by omega), Nat.sub_self, ← hj]
        rfl
    · have holds : ∀ j u, (R.map rcv)[j]? = some u → w.cell? ((⟨g, o, none⟩ : Addr).add j) = some u := fun j u hu => by
        rw [List.getElem?_map] at hu
        cases hj : R[j]? with
        | none => rw [hj] at hu; cases hu
        | some x =>
          rw [hj] at hu
          cases hu
          rw [Addr.add_mid]
          unfold World.cell?
          rw [hg]
          exact q4 j x hj
      obtain ⟨v', w', hrun, ho, hgr⟩ := run_append_arg_grows (P := Tryz.prog) w 60 ty 25 i0 _ 1 24 Tryz.underlying60 hi hz0 hz1 hz2 rfl (by decide) ⟨g, o, none⟩ R.length cap (R.map rcv) (by simp) holds ⟨q, 0, none⟩ 1 1 [rcv r] (by rfl) hn (by omega) (by simp [maxLen]; omega) (by omega)
      have hk : Keep (fun k => blk (.slice (some ⟨g, o, none⟩) R.length cap) = some k) w w' := Keep.of_grown hgr (fun k e => by cases e)
      refine ⟨v', w', hrun, Rof.of_own (B := w.heap.size) (by rw [List.length_append, List.map_append]; exact ho) (hrk w' hk), hk, fun k hk => .inr ?_⟩
      obtain ⟨a, c, e⟩ := own_form ho
      rw [e] at ho hk
      cases a with
      | none => cases hk
      | some a => exact (ho.lt k hk).1
end Go.Proofs.YtddnleofflobhaaGreatDoor

set_option linter.unusedVariables false
set_option maxRecDepth 100000
namespace Go.Proofs.YtddnleofflobhaaGreatDoor
open Go.RowKit Go.Shelf

/-- A call of a function of the program's own hands over no row. -/
theorem call_noRow {P : Program} {o : Oper} (k : Nat) (xs : Array Operand) (ts : Array TypeId) (h : o.op = .call { callee := .value (.func k), args := xs, argTypes := ts }) (he : ∀ args w, (callFunc k args).run P w = .ok (.enter k args) w) (a : Act) (w : World) (row : String) (args : Array Value) (w' : World) : (execOp a.eval o).run P w ≠ .ok (.row row args) w' := by
  have hρ : a.eval (.func k) = .func (.func k) #[] #[] := rfl
  unfold execOp
  rw [h]
  dsimp only
  simp only [resolve, hρ]
  intro h9
  have h8 : (callFunc k (xs.map a.eval)).run P w = .ok (.row row args) w' := by simpa [invoke, Deferred.ofValue, Sem.run_bind, go_sem] using h9
  rw [he] at h8
  cases h8

theorem assign_noRow {P : Program} {o : Oper} (x : Operand) (h : o.op = .assign x) (a : Act) (w : World) (row : String) (args : Array Value) (w' : World) : (execOp a.eval o).run P w ≠ .ok (.row row args) w' := by
  unfold execOp
  rw [h]
  intro h9
  simp at h9

/-- Operations that hand on a value, or nothing, or enter one of the functions listed. -/
theorem calls_all {P : Program} {L : List Oper} (fs : List Nat) (hf : ∀ k ∈ fs, ∀ args w, (callFunc k args).run P w = .ok (.enter k args) w) (h : ∀ o ∈ L, simpleOp o.op = true ∨ (∃ x, o.op = .assign x) ∨ ∃ k xs ts, k ∈ fs ∧ o.op = .call { callee := .value (.func k), args := xs, argTypes := ts }) :
    ∀ (i : Nat) (o : Oper), L.toArray[i]? = some o → (∀ c, o.op ≠ .defer c) ∧ ∀ (a : Act) (w : World) row args w', (execOp a.eval o).run P w ≠ .ok (.row row args) w' := fun i o ho => by
  have hm : o ∈ L := by
    rw [List.getElem?_toArray] at ho
    exact List.mem_of_getElem? ho
  rcases h o hm with h1 | ⟨x, h1⟩ | ⟨k, xs, ts, hk, h1⟩
  · refine ⟨fun c hc => ?_, fun a w row args w' => simple_noRow h1 a.eval w row args w'⟩
    rw [hc] at h1
    cases h1
  · refine ⟨fun c hc => ?_, fun a w row args w' => assign_noRow x h1 a w row args w'⟩
    rw [h1] at hc
    cases hc
  · refine ⟨fun c hc => ?_, fun a w row args w' => call_noRow k xs ts h1 (hf k hk) a w row args w'⟩
    rw [h1] at hc
    cases hc

/-- A call of one of the program's own functions, as one step of a region. -/
theorem wp_callop {P : Program} {o : Oper} {a : Act} {w : World} {K : Act → World → Prop} {Q : Exit → Act → World → Prop} (k : Nat) (xs : Array Operand) (ts : Array TypeId) (ho : o.op = .call { callee := .value (.func k), args := xs, argTypes := ts }) (he : ∀ args w, (callFunc k args).run P w = .ok (.enter k args) w)
    {args : Array Value} (hargs : xs.map a.eval = args) {R : Ending → World → Prop} (hc : Calls P k args w R) (hK : ∀ e w', R e w' → ∃ v, e = .returned v ∧ K (a.put o.dst v) w') : Oper.wp P o a w K Q := by
  have hρ : a.eval (.func k) = .func (.func k) #[] #[] := rfl
  have h8 : (execOp a.eval o).run P w = .ok (.enter k args) w := by
    rw [← hargs, ← he (xs.map a.eval) w]
    unfold execOp
    rw [ho]
    dsimp only
    simp only [resolve, hρ]
    simp [invoke, Deferred.ofValue, Sem.run_bind]
  unfold Oper.wp
  rw [h8]
  simp only [Oper.upon]
  refine hc.mono fun e w' h => ?_
  obtain ⟨v, rfl, hk⟩ := hK e w' h
  exact hk
end Go.Proofs.YtddnleofflobhaaGreatDoor

set_option linter.unusedVariables false
set_option maxRecDepth 100000
namespace Go.Proofs.YtddnleofflobhaaGreatDoor
open Go.RowKit

theorem append_of_add {base : Nat} {w : World} {lb db sb n : Nat} {vw rv : Value} {S : List (List UInt8)} {Q : List Wr} {L : Ls} {R : List Rc} {ao : Option Addr} {m c : Nat} (h : Lg base w lb db sb n vw rv S Q L R) (hw : L.waits = Q.length) (hd : L.down = false) (hm : m ≤ 32768) (hu : L.used ≤ 65536) (hfit : L.used + secs m ≤ n - 2) (P : World → Prop)
    (hA : ∀ W, Below w.heap.size w W → Calls Tryz.prog 118 #[.pointer (some ⟨lb, 0, none⟩), .slice ao m c] W (fun e w' => e = .returned .nilIface ∧ P w')) :
    Calls Tryz.prog 101 #[.pointer (some ⟨lb, 0, none⟩), .slice ao m c] w (fun e w' => e = .returned (.int .i64 0) ∧ P w') := by
  have hlen := fun W => run_len_slice (P := Tryz.prog) W 25 3 ao m c Tryz.underlying25
  have CN := hid (none_any h.l)
  have CR := hid (ready_ok h.l h.d hw hd)
  have H := hid h
  have HA := hid hA
  have CS : ∀ W, Calls Tryz.prog 76 #[.slice ao m c] W (fun e w' => e = .returned (.int .i64 (secs m : Int)) ∧ w' = W) := fun W => sectors_any W ao m c (by omega)
  have h1 : ¬ (32768 < (m : Int)) := by omega
  have hD9 := h.d.few.2.1
  have hs9 : secs m ≤ 65536 := by omega
  clear h hA
  go_enter Tryz.func101, Tryz.ntmps101
  go_wp2_with (first
    | (go_at_call 113; refine CN.out.mono ?_; rintro e w2 ⟨rfl, rfl⟩)
    | (go_at_call 116; refine CR.out.mono ?_; rintro e w3 ⟨rfl, k9, rfl⟩)
    | (go_at_call 47; refine (told_ok lb _).mono ?_; rintro e w4 ⟨rfl, rfl⟩))
  have hb := Below.drewN9 w2 k9
  have H5 := hid (H.out.old hb)
  have HB5 := hid hb
  clear hb
  generalize w2.drewN k9 = w5 at *
  obtain ⟨c0, c1, c2, c3, c4, c5, c6, -⟩ := H5.out.l.cells
  have CS5 : ∀ a, Calls Tryz.prog 76 #[.slice ao m c] (w5.drewN a) (fun e w' => e = .returned (.int .i64 (secs m : Int)) ∧ ∃ k, w' = w5.drewN k) := fun a => (CS _).mono fun _ _ h => ⟨h.1, a, h.2⟩
  have CG5 : ∀ a, Calls Tryz.prog 117 #[.pointer (some ⟨lb, 0, none⟩)] (w5.drewN a) (fun e w' => e = .returned (.int .i64 ((n - 2 : Nat) : Int)) ∧ ∃ k, w' = w5.drewN k) := fun a => (ring_any (H5.out.l.old (Below.drewN9 w5 a)) (H5.out.d.old (Below.drewN9 w5 a))).mono fun _ _ h => ⟨h.1, a, h.2⟩
  obtain ⟨rg, hrg⟩ : ∃ rg, rg = n - 2 := ⟨_, rfl⟩
  obtain ⟨u, hu9⟩ : ∃ u, u = L.used := ⟨_, rfl⟩
  obtain ⟨s, hs⟩ : ∃ s, s = secs m := ⟨_, rfl⟩
  rw [← hrg] at CG5 hfit
  rw [← hs] at CS5 hfit hs9
  rw [← hu9] at c6 hfit hu
  have h2 : IntKind.i64.wrap ((u : Int) + (s : Int)) = (u : Int) + (s : Int) := by rw [IntKind.wrap_i64]; omega
  have h3 : ¬ ((rg : Int) < (u : Int) + (s : Int)) := by omega
  have h4 : (u : Int) + (s : Int) ≤ (rg : Int) := by omega
  clear hrg hu9 hs CS c0 c1 c2 c3 c4 c5 hfit
  go_upto_region 8 with fail
  go_quiet (first | (go_at_call 76; exact CS5 _) | (go_at_call 117; exact CG5 _))
  have hb : Below w2.heap.size w2 (w5.drewN nq) := HB5.out.trans ((Below.drewN9 w5 nq).mono HB5.out.size)
  have HAq := hid (HA.out _ hb)
  clear hb
  generalize w5.drewN nq = w6 at *
  go_wp2_with (first
    | (go_at_call 118; refine HAq.out.mono ?_; rintro e w7 ⟨rfl, hp⟩)
    | (go_at_call 47; refine (told_ok lb _).mono ?_; rintro e w8 ⟨rfl, rfl⟩))
  go_ret
  exact ⟨rfl, hp⟩
end Go.Proofs.YtddnleofflobhaaGreatDoor

set_option linter.unusedVariables false
set_option maxRecDepth 100000
namespace Go.Proofs.YtddnleofflobhaaGreatDoor
open Go.RowKit Go.Shelf

/-- The sectors behind j pieces. -/
def addS (n : Nat) (h : Hd) (at0 : Nat) (B : List UInt8) (S : List (List UInt8)) : Nat → List (List UInt8)
  | 0 => S
  | k + 1 => (addS n h at0 B S k).set (plc n h (at0 + k)) (secB (pc B k) (nmb n h (at0 + k)))
theorem addS_len (n : Nat) (h : Hd) (at0 : Nat) (B : List UInt8) (S : List (List UInt8)) : ∀ k, (addS n h at0 B S k).length = S.length
  | 0 => rfl
  | k + 1 => by rw [addS, List.length_set, addS_len n h at0 B S k]

/-- The writes of j pieces. -/
def addQ (n : Nat) (h : Hd) (at0 : Nat) (B : List UInt8) (S : List (List UInt8)) : Nat → List Wr
  | 0 => []
  | k + 1 => addQ n h at0 B S k ++ [⟨plc n h (at0 + k), (addS n h at0 B S k).getD (plc n h (at0 + k)) [], secB (pc B k) (nmb n h (at0 + k))⟩]
theorem addQ_len (n : Nat) (h : Hd) (at0 : Nat) (B : List UInt8) (S : List (List UInt8)) : ∀ k, (addQ n h at0 B S k).length = k
  | 0 => rfl
  | k + 1 => by rw [addQ, List.length_append, addQ_len n h at0 B S k]; rfl

/-- What lay below n stays, but for the blocks X. -/
structure KpP (X : Nat → Prop) (n : Nat) (W W' : World) : Prop where
  os : W'.os = W.os
  tape : W'.tape = W.tape
  output : W'.output = W.output
  size : W.heap.size ≤ W'.heap.size
  block : ∀ k, k < n → ¬ X k → W'.heap[k]? = W.heap[k]?
theorem KpP.refl (X : Nat → Prop) (n : Nat) (W : World) : KpP X n W W := ⟨rfl, rfl, rfl, Nat.le_refl _, fun _ _ _ => rfl⟩
theorem KpP.trans {X : Nat → Prop} {n : Nat} {A B C : World} (h : KpP X n A B) (k : KpP X n B C) : KpP X n A C :=
  ⟨k.os.trans h.os, k.tape.trans h.tape, k.output.trans h.output, Nat.le_trans h.size k.size, fun i h1 h2 => (k.block i h1 h2).trans (h.block i h1 h2)⟩
theorem KpP.of {X : Nat → Prop} {n : Nat} {A B : World} (h : Below A.heap.size A B) (hn : n ≤ A.heap.size) : KpP X n A B := ⟨h.os, h.tape, h.output, h.size, fun k hk _ => h.block k (by omega)⟩
theorem KpP.grown {X : Nat → Prop} {n : Nat} {A B : World} {row : Option Nat} (h : A.grownBy B row) (hn : n ≤ A.heap.size) (hr : ∀ k, row = some k → n ≤ k ∨ X k) : KpP X n A B :=
  ⟨h.os, h.tape, h.output, h.size, fun k hk hb => h.block k (by omega) (fun e => by rcases hr k e.symm with h1 | h1; omega; exact hb h1)⟩
theorem KpP.turn {X : Nat → Prop} {n l : Nat} {A B : World} (h : Turn l A B) (hn : n ≤ l) : KpP X n A B := by
  obtain ⟨o, ho, _⟩ := h.old
  exact KpP.grown h.grown (by have := lt_of_block ho; omega) (fun k e => by cases e; exact .inl hn)
theorem KpP.of_keep {X Y : Nat → Prop} {n : Nat} {A B : World} (h : Keep Y A B) (hn : n ≤ A.heap.size) (hy : ∀ k, Y k → k < n → X k) : KpP X n A B :=
  ⟨h.os, h.tape, h.output, h.size, fun k hk hx => h.block k (by omega) (fun hyk => hx (hy k hyk hk))⟩

theorem KpP.toKeep {X : Nat → Prop} {n : Nat} {A B : World} (h : KpP X n A B) : Keep (fun k => n ≤ k ∨ X k) A B :=
  ⟨h.os, h.tape, h.output, h.size, fun k _ hx => h.block k (Nat.lt_of_not_le fun e => hx (.inl e)) (fun e => hx (.inr e))⟩

section
variable {base : Nat} {w w' : World} {lb db sb n : Nat} {vw rv vw' rv' : Value} {S S' : List (List UInt8)} {Q Q' : List Wr} {L L' : Ls} {R R' : List Rc}

/-- All of a log's blocks hold cells. -/
theorem Lg.cells (h : Lg base w lb db sb n vw rv S Q L R) : ∀ k, GL db sb vw lb rv k → ∃ c t f, w.heap[k]? = some (.cells c t f) := fun k hk => by
  rcases hk with (hk | hk | hk | hk) | hk
  · exact ⟨_, _, _, by rw [hk]; exact h.l⟩
  · exact ⟨_, _, _, by rw [hk]; exact h.d.hd⟩
  · exact ⟨_, _, _, by rw [hk]; exact h.d.sh⟩
  · rcases h.d.wa.2 with ⟨rfl, _⟩ | ⟨g, cap, cur, rfl, _, hg, _⟩
    · cases hk
    · have : g = k := by simpa [Value.ownBlock] using hk
      subst this
      exact ⟨_, _, _, hg⟩
  · rcases h.r.row with ⟨rfl, _⟩ | ⟨g, o, cap, cur, rfl, hg, _⟩
    · cases hk
    · have : g = k := by simpa [blk] using hk
      subst this
      exact ⟨_, _, _, hg⟩
/-- One block alone has turned, that holds no cells. -/
theorem Lg.grown (h : Lg base w lb db sb n vw rv S Q L R) {row : Option Nat} (hg : w.grownBy w' row) (hr : ∀ r, row = some r → ∃ o : Obj, w.heap[r]? = some o ∧ o.isCells = false) : Lg base w' lb db sb n vw rv S Q L R :=
  h.kept (X := fun k => row = some k) (Keep.of_grown hg (fun _ e => e)) (fun k hk e => by
    obtain ⟨c, t, f, hc⟩ := h.cells k hk
    obtain ⟨o, ho, hi⟩ := hr k e
    rw [hc] at ho
    cases ho
    cases hi) (fun r hm hne a ha e => by
    obtain ⟨o, ho, hi⟩ := hr _ e
    have hrd := h.r.each r hm
    have hb : ∃ u, r.b[0]? = some u := ⟨_, List.getElem?_eq_getElem (List.length_pos_iff.2 hne)⟩
    obtain ⟨u, hu⟩ := hb
    obtain ⟨b, off, e2, hc⟩ := rd_get hrd hu
    unfold rcv at *
    rw [ha] at e2
    cases e2
    unfold World.cell? at hc
    rw [ho] at hc
    cases o <;> simp_all [Obj.isCells])
theorem Lg.turn (h : Lg base w lb db sb n vw rv S Q L R) {l : Nat} (ht : Turn l w w') : Lg base w' lb db sb n vw rv S Q L R := h.grown ht.grown (fun r e => by cases e; exact ht.old)
/-- What holds no cells stays, where the log's blocks alone were written. -/
theorem Lg.keepsFrom (h : Lg base w lb db sb n vw rv S Q L R) (hk : Keep (GL db sb vw lb rv) w w') (B : Nat) : KeepsFrom B w w' :=
  ⟨hk.size, fun k o _ ho hi => by
    rw [hk.block k (lt_of_block ho) (fun e => by
      obtain ⟨c, t, f, hc⟩ := h.cells k e
      rw [hc] at ho
      cases ho
      cases hi)]
    exact ho⟩

/-- What the rounds of 'add' know of the log. -/
structure AddI (base : Nat) (w4 : World) (lb db sb n : Nat) (vw rv : Value) (S : List (List UInt8)) (Q : List Wr) (L : Ls) (R : List Rc) (B : List UInt8) (A6 : Nat) (j : Nat) (W : World) : Prop where
  log : ∃ vw' Q', Lg base W lb db sb n vw' rv (addS n L.h L.used B S j) Q' { h := L.h, used := L.used, ours := L.ours, waits := Q'.length, down := L.down } R ∧ Q' = Q ++ addQ n L.h L.used B S j ∧ ∀ k, GL db sb vw' lb rv k → GL db sb vw lb rv k ∨ w4.heap.size ≤ k
  at' : W.heap[A6]? = some (.cells #[.int .i64 ((L.used + j : Nat) : Int)] 3 (0, 0))
  keep : KpP (fun k => GL db sb vw lb rv k ∨ k = A6) w4.heap.size w4 W

theorem AddI.grown {w4 W W' : World} {B : List UInt8} {A6 j : Nat} (h : AddI base w4 lb db sb n vw rv S Q L R B A6 j W) {row : Option Nat} (hg : W.grownBy W' row) (hr : ∀ r, row = some r → w4.heap.size ≤ r ∧ ∃ o : Obj, W.heap[r]? = some o ∧ o.isCells = false) : AddI base w4 lb db sb n vw rv S Q L R B A6 j W' := by
  obtain ⟨vw', Q', q1, q2, q3⟩ := h.log
  have hs := h.keep.size
  refine ⟨⟨vw', Q', q1.grown hg (fun r e => (hr r e).2), q2, q3⟩, heap_kept hg h.at' (fun e => ?_), h.keep.trans (KpP.grown hg hs (fun k e => .inl (hr k e).1))⟩
  · obtain ⟨_, o, ho, hc⟩ := hr _ e.symm
    rw [h.at'] at ho
    cases ho
    cases hc
end
end Go.Proofs.YtddnleofflobhaaGreatDoor

set_option linter.unusedVariables false
set_option maxRecDepth 100000
namespace Go.Proofs.YtddnleofflobhaaGreatDoor
open Go.RowKit

/-- The head that add writes behind; the sectors then; how many writes wait then. -/
def hdA (n : Nat) (L : Ls) (R : List Rc) : Hd := if L.ours = true then L.h else nextH n L R 0
def sA (n : Nat) (L : Ls) (R : List Rc) (S : List (List UInt8)) : List (List UInt8) := if L.ours = true then S else S.set ((L.h.tn + 1) % 2) (hSec (nextH n L R 0))
def qA (L : Ls) (Q : List Wr) : Nat := if L.ours = true then Q.length else 0
def qB (L : Ls) (Q : List Wr) : List Wr := if L.ours = true then Q else []
theorem qB_len (L : Ls) (Q : List Wr) : (qB L Q).length = qA L Q := by
  unfold qB qA
  split <;> rfl

/-- What add comes to. -/
def AddP (base lb db sb n : Nat) (vw rv : Value) (S : List (List UInt8)) (Q : List Wr) (L : Ls) (R : List Rc) (l : List UInt8) (w w' : World) : Prop :=
  ∃ vw' rv' Q' r, r.b = l ∧ (∀ a, r.a = some a → w.heap.size ≤ a.block) ∧ Lg base w' lb db sb n vw' rv' (addS n (hdA n L R) L.used (recB l) (sA n L R S) (secs l.length)) Q' { h := hdA n L R, used := L.used + secs l.length, ours := true, waits := Q'.length, down := L.down } (R ++ [r]) ∧ Q' = qB L Q ++ addQ n (hdA n L R) L.used (recB l) (sA n L R S) (secs l.length) ∧ Gfr db sb lb vw vw' rv rv' w w'

/-- The log behind the head's being laid. -/
def AddH (base lb db sb n : Nat) (R : List Rc) (x : Value) (l : List UInt8) (PP : World → Prop) (A : Nat) (V : World) : Prop :=
  ∃ vw rv S Q L, Lg base V lb db sb n vw rv S Q L R ∧ L.ours = true ∧ L.waits = Q.length ∧ L.h.Ok ∧ L.used + secs l.length ≤ n - 2 ∧ Q.length ≤ 90000 ∧ L.h.su ≤ L.used ∧ (∀ i, i ≤ 131072 → nmb n L.h i < 18446744073709551616) ∧ (∀ k, GL db sb vw lb rv k → k < V.heap.size ∧ k ≠ A ∧ k ≠ A + 1) ∧ (l ≠ [] → ∀ k, blk x = some k → ¬ GL db sb vw lb rv k ∧ k < A) ∧ Rd V x l ∧ V.heap[A]? = some (.cells #[.pointer (some ⟨lb, 0, none⟩)] 73 (0, 0)) ∧ V.heap[A + 1]? = some (.cells #[.nilIface] 43 (0, 0)) ∧
    Hid (∀ vw5 rv5 Q5 r wE, r.b = l → (∀ a, r.a = some a → V.heap.size ≤ a.block) → Lg base wE lb db sb n vw5 rv5 (addS n L.h L.used (recB l) S (secs l.length)) Q5 { h := L.h, used := L.used + secs l.length, ours := true, waits := Q5.length, down := L.down } (R ++ [r]) → Q5 = Q ++ addQ n L.h L.used (recB l) S (secs l.length) → Keep (fun k => GL db sb vw lb rv k ∨ k = A + 1) V wE → (∀ k, GL db sb vw5 lb rv5 k → GL db sb vw lb rv k ∨ V.heap.size ≤ k) → PP wE)

section
variable {base : Nat} {w w1 V : World} {lb db sb n : Nat} {vw rv vw1 rv1 : Value} {S : List (List UInt8)} {Q Q1 : List Wr} {L : Ls} {R : List Rc} {x : Value} {l : List UInt8} {PP : World → Prop}

theorem nextH_ok (h : Lg base w lb db sb n vw rv S Q L R) (hn : 3 ≤ n) (hk : L.h.Ok) (ht : L.h.tn + 1 < 18446744073709551616) (hu : L.used ≤ n - 2) : (nextH n L R 0).Ok ∧ (nextH n L R 0).su = L.used := by
  have h9 := h.d.few.2.1
  have h0 : gones R 0 = 0 := by unfold gones; simp
  have hm := Nat.mod_lt (L.h.fr + gones R 0) (show 0 < n - 2 by omega)
  refine ⟨⟨ht, hk.fi, ?_, ?_⟩, ?_⟩
  · show (L.h.fr + gones R 0) % (n - 2) ≤ 65536
    omega
  · show L.used - gones R 0 ≤ 65536
    omega
  · show L.used - gones R 0 = L.used
    omega

/-- What add's law asks. -/
structure AddC (base : Nat) (w : World) (lb db sb n : Nat) (vw rv : Value) (S : List (List UInt8)) (Q : List Wr) (L : Ls) (R : List Rc) (x : Value) (l : List UInt8) : Prop where
  hw : L.waits = Q.length
  hl : l.length ≤ 32768
  hn : 3 ≤ n
  hk : L.h.Ok
  ht : L.ours = false → L.h.tn + 1 < 18446744073709551616
  hfit : L.used + secs l.length ≤ n - 2
  hQ : Q.length ≤ 90000
  hsu : L.ours = true → L.h.su ≤ L.used
  hnm : ∀ i, i ≤ 131072 → nmb n (hdA n L R) i < 18446744073709551616
  hxo : l ≠ [] → ∀ k, blk x = some k → ¬ GL db sb vw lb rv k
  hR : R.length + 1 ≤ 1000000
  hrl : ∀ r ∈ R, r.b.length ≤ 32768

theorem addH_of (h : Lg base w lb db sb n vw rv S Q L R) (hc : AddC base w lb db sb n vw rv S Q L R x l) (hx : Rd w x l) (hb : Below w.heap.size w w1)
    (hP : ∀ w', AddP base lb db sb n vw rv S Q L R l w w' → PP w')
    (ha1 : w1.heap[w.heap.size]? = some (.cells #[.pointer (some ⟨lb, 0, none⟩)] 73 (0, 0))) (ha2 : w1.heap[w.heap.size + 1]? = some (.cells #[.nilIface] 43 (0, 0)))
    (hV : Lg base V lb db sb n vw1 rv1 (sA n L R S) Q1 { h := hdA n L R, used := L.used, ours := true, waits := Q1.length, down := L.down } R) (hq : Q1 = qB L Q) (hg : Gfr db sb lb vw vw1 rv rv1 w1 V) :
    AddH base lb db sb n R x l PP w.heap.size V := by
  have hlt := fun k hk => (h.lt k hk).2
  have hs1 := lt_of_block ha2
  have hno : ∀ k, w.heap.size ≤ k → ¬ GL db sb vw lb rv k := fun k hk e => by have := hlt k e; omega
  have hq9 : Q1.length ≤ 90000 := by
    rw [hq, qB_len]
    unfold qA
    split
    · exact hc.hQ
    · omega
  have hok : (hdA n L R).Ok ∧ (hdA n L R).su ≤ L.used := by
    unfold hdA
    split
    · rename_i ho
      exact ⟨hc.hk, hc.hsu ho⟩
    · rename_i ho
      have := nextH_ok h hc.hn hc.hk (hc.ht (by simpa using ho)) (by have := hc.hfit; omega)
      exact ⟨this.1, Nat.le_of_eq this.2⟩
  have hxb : l ≠ [] → ∀ k, blk x = some k → k < w.heap.size := fun hne k hk => by
    obtain ⟨ao, c, rfl, -⟩ := id hx
    obtain ⟨a, ha, hak⟩ := blk_of hk
    rw [← hak]
    exact rd_block hx hne a ha
  refine ⟨vw1, rv1, sA n L R S, Q1, _, hV, rfl, rfl, hok.1, hc.hfit, hq9, hok.2, hc.hnm, fun k hk => ⟨(hV.lt k hk).2, ?_, ?_⟩, fun hne k hk => ⟨fun e => ?_, hxb hne k hk⟩, ?_, (hg.keep.block _ (by omega) (hno _ (Nat.le_refl _))).trans ha1, (hg.keep.block _ (by omega) (hno _ (by omega))).trans ha2, hid fun vw5 rv5 Q5 r wE q1 q0 q2 q3 q4 q5 => hP _ ⟨vw5, rv5, Q5, r, q1, fun a ha => Nat.le_trans (Nat.le_trans hb.size hg.keep.size) (q0 a ha), q2, by rw [q3, hq], ?_⟩⟩
  · rcases hg.new k hk with e | e
    · have := hlt k e; omega
    · omega
  · rcases hg.new k hk with e | e
    · have := hlt k e; omega
    · omega
  · rcases hg.new k e with e | e
    · exact hc.hxo hne k hk e
    · have := hxb hne k hk; omega
  · exact (hx.old hb).keep hg.keep (fun hne k hk e => hc.hxo hne k hk e)
  · have g1 : Gfr db sb lb vw vw1 rv rv1 w V := (Gfr.of_below hb).trans hg
    refine ⟨⟨q4.os.trans g1.keep.os, q4.tape.trans g1.keep.tape, q4.output.trans g1.keep.output, Nat.le_trans g1.keep.size q4.size, fun k hk hn9 => ?_⟩, fun k hk => ?_⟩
    · refine (q4.block k (Nat.lt_of_lt_of_le hk g1.keep.size) ?_).trans (g1.keep.block k hk hn9)
      rintro (e | e)
      · rcases g1.new k e with e | e
        · exact hn9 e
        · omega
      · omega
    · rcases q5 k hk with e | e
      · exact g1.new k e
      · exact .inr (Nat.le_trans g1.keep.size e)

/-- The end: the result's cell is written, and the rounds' deferred calls are taken. -/
theorem addE {rv5 vw5 : Value} {S5 : List (List UInt8)} {Q5 : List Wr} {L5 : Ls} {R5 : List Rc} {W Z : World} {A D : Nat} (hW : Lg base W lb db sb n vw5 rv S Q L R) (hZ : Lg base Z lb db sb n vw5 rv5 S5 Q5 L5 R5) (hg : Gfr db sb lb vw5 vw5 rv rv5 W Z) (hA : A < W.heap.size) (hAn : ¬ GL db sb vw5 lb rv A) (hAc : Z.heap[A]? = some (.cells #[.nilIface] 43 (0, 0))) (hD : W.heap[D]? = some (.deferred (some []))) (hDA : D ≠ A) :
    (Z.setCell ⟨A, 0, none⟩ .nilIface).heap[D]? = some (.deferred (some [])) ∧ Lg base ((Z.setCell ⟨A, 0, none⟩ .nilIface).putObj D (.deferred none)) lb db sb n vw5 rv5 S5 Q5 L5 R5 ∧ ((Z.setCell ⟨A, 0, none⟩ .nilIface).putObj D (.deferred none)).heap[A]? = some (.cells #[.nilIface] 43 (0, 0)) ∧ Keep (fun k => GL db sb vw5 lb rv k ∨ k = A ∨ k = D) W ((Z.setCell ⟨A, 0, none⟩ .nilIface).putObj D (.deferred none)) := by
  have hDn : ¬ GL db sb vw5 lb rv D := fun e => by
    obtain ⟨c, t, f, hc⟩ := hW.cells D e
    rw [hD] at hc
    cases hc
  have hDl := lt_of_block hD
  have hDZ := (hg.keep.block D hDl hDn).trans hD
  have hk : Keep (fun k => k = A ∨ k = D) Z ((Z.setCell ⟨A, 0, none⟩ .nilIface).putObj D (.deferred none)) := (Keep.set Z ⟨A, 0, none⟩ .nilIface (.inl rfl)).trans (Keep.of_grown (grownBy_putObj' _ D _) (fun k e => by cases e; exact .inr rfl))
  refine ⟨(Below.heap_setCell Z ⟨A, 0, none⟩ .nilIface D hDA).trans hDZ, hZ.kept hk (fun k hk9 e => ?_) (fun r hr hne a ha e => ?_), ?_, (hg.keep.mono (fun _ _ e => .inl e)).trans (hk.mono (fun _ _ e => .inr e))⟩
  · rcases hg.new k hk9 with e9 | e9
    · rcases e with e | e
      · exact hAn (by rw [← e]; exact e9)
      · exact hDn (by rw [← e]; exact e9)
    · omega
  · have hrd := hZ.r.each r hr
    obtain ⟨u, hu⟩ : ∃ u, r.b[0]? = some u := ⟨_, List.getElem?_eq_getElem (List.length_pos_iff.2 hne)⟩
    unfold rcv at hrd
    obtain ⟨b, off, e2, hc⟩ := rd_get hrd hu
    rw [ha] at e2
    cases e2
    unfold World.cell? at hc
    rcases e with e | e
    · simp only at e
      subst e
      rw [hAc] at hc
      rcases off with _ | off
      · simp [bv] at hc
      · simp at hc
    · simp only at e
      subst e
      rw [hDZ] at hc
      simp at hc
  · refine (World.putObj_heap_other (fun e => hDA e.symm)).trans ?_
    exact set_at (k := 0) .nilIface hAc

theorem add_results (tmps : Array Value) (w : World) (g : Nat) (hp : tmps.getD 4 undef = .pointer (some ⟨g, 0, none⟩)) (hg : w.heap[g]? = some (.cells #[.nilIface] 43 (0, 0))) : (results Tryz.f118 tmps).run Tryz.prog w = .ok .nilIface w := by
  have h : Tryz.f118.results = #[.cell 4 43] := rfl
  have hp' : tmps[4]?.getD undef = .pointer (some ⟨g, 0, none⟩) := by simpa using hp
  simp [results, h, hp', asAddr, loadVar, World.cell?, hg]
end
end Go.Proofs.YtddnleofflobhaaGreatDoor

