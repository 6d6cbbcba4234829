/-
  WAL: slices.Chunk over bytes.
-/
import Derived.Test.YtcbbklbjfknnlaaDoorWy
set_option linter.unusedVariables false
set_option maxRecDepth 100000
namespace Go.Proofs.YtcbbklbjfknnlaaDoor
open Go.RowKit Go.Shelf
attribute [local go_sem] Oper.semAt_some

/-- The k-th piece. -/
def pc (B : List UInt8) (k : Nat) : List UInt8 := (B.drop (56 * k)).take 56
theorem pc_len (B : List UInt8) (k : Nat) : (pc B k).length = min 56 (B.length - 56 * k) := by unfold pc; simp
def pcv (ao : Option Addr) (B : List UInt8) (k : Nat) : Value := .slice (ao.map (·.add (56 * k * 1))) (pc B k).length (pc B k).length

theorem cut3 {w : World} {ao : Option Addr} {c : Nat} {B : List UInt8} (h : Rd w (.slice ao B.length c) B) (k : Nat) (hk : 56 * k < B.length) :
    (∀ W, (Instr.slice 32 (.slice ao B.length c) (some (.int .i64 ((56 * k : Nat) : Int))) (some (.int .i64 ((56 * k + (pc B k).length : Nat) : Int))) (some (.int .i64 ((56 * k + (pc B k).length : Nat) : Int)))).run Tryd.prog W = .ok (pcv ao B k) W) ∧ Rd w (pcv ao B k) (pc B k) := by
  have ht' : Tryd.prog.underlying 32 = some (.slice (Tryd.prog.elem 32)) := by simp [Program.elem, Tryd.underlying32]
  have he : Tryd.prog.elem 32 = 5 := by simp [Program.elem, Tryd.underlying32]
  obtain ⟨i0, hi, hz0, hz1, hz2⟩ := info_parts (show (Tryd.prog.info? 5).map (fun i => (i.zero, i.size, i.bytes)) = some (some (.int .u8 0), 1, 1) by kernel_rfl)
  have hs : ∀ W, (sizeOf 5).run Tryd.prog W = .ok 1 W := fun W => by simp [sizeOf, typeInfo, hi, hz1]
  obtain ⟨ao1, c1, hs1, h5, -⟩ := h.cut (P := Tryd.prog) 32 5 Tryd.underlying32 (by kernel_rfl) (56 * k) (by omega)
  have hpl := pc_len B k
  obtain ⟨ao', c', e, h1, h2, h3, h4⟩ := id h
  simp only [Value.slice.injEq, true_and] at e
  obtain ⟨rfl, rfl⟩ := e
  have key : (if c = 56 * k then ao else ao.map (·.add (56 * k * 1))) = ao1 := by
    have := hs1 w
    rw [run_slice_l w 32 _ _ _ ht' .i64 _ (by omega) (by omega), he, hs] at this
    simp only [Result.andThen, sliced, Int.toNat_natCast, Result.ok.injEq, and_true, Value.slice.injEq] at this
    exact this.1
  rw [if_neg (by omega)] at key
  refine ⟨fun W => ?_, ?_⟩
  · rw [run_slice_lhm W 32 _ _ _ ht' .i64 .i64 .i64 _ _ _ (by omega) (by omega) (by omega) (by omega), he, hs]
    simp only [Result.andThen, sliced, Int.toNat_natCast]
    unfold pcv
    rw [if_neg (by omega), show 56 * k + (pc B k).length - 56 * k = (pc B k).length by omega]
  · unfold pcv
    rw [key]
    have h6 := h5.take 56
    obtain ⟨ao', c', e, q1, q2, q3, q4⟩ := h5
    simp only [Value.slice.injEq] at e
    obtain ⟨rfl, -, rfl⟩ := e
    refine ⟨ao1, _, rfl, Nat.le_refl _, by omega, fun hn => ?_, fun a ha j u hu => q4 a ha j u ?_⟩
    · rw [hn] at key
      cases ao with
      | none => have := h3 rfl; omega
      | some a => cases key
    · unfold pc at hu
      rw [List.map_take, List.getElem?_take] at hu
      split at hu
      · exact hu
      · cases hu

/-- What a round of Chunk knows of what comes. -/
def RxC (ao : Option Addr) (B : List UInt8) (pre : List Nat) (x : Nat) (W : World) : Prop := x = pre.length ∧ 56 * x < B.length ∧ Rd W (pcv ao B x) (pc B x)

set_option maxHeartbeats 8000000 in
theorem chunk_in (n : Nat) (hn : 1 ≤ n) (l Bs Bn : Nat) (ao : Option Addr) (c : Nat) (B : List UInt8) (Kp : World → World → Prop) (J Jx : List Nat → World → Prop) (W0 : World) (hB : B.length ≤ 1000000)
    (hKr : Kp W0 W0) (hKt : ∀ {X Y Z : World}, Kp X Y → Kp Y Z → Kp X Z) (hKb : ∀ X Y, Kp W0 X → Below X.heap.size X Y → Kp X Y) (hKs : ∀ X Y, Kp X Y → X.heap.size ≤ Y.heap.size)
    (hJ : ∀ p X Y, J p X → Below X.heap.size X Y → J p Y)
    (hY : ∀ pre x W1, J pre W1 → RxC ao B pre x W1 → W0.heap.size ≤ W1.heap.size → YieldAt Fence.wide (n - 1) Tryd.prog l #[pcv ao B x] W1 fun e W' =>
      (e = .returned (.bool true) ∧ J (pre ++ [x]) W' ∧ Kp W1 W' ∧ KeepsFrom W0.heap.size W1 W') ∨ (e = .returned (.bool false) ∧ Jx (pre ++ [x]) W' ∧ KeepsFrom W0.heap.size W1 W'))
    (hP : ∀ W, Kp W0 W → W.cell? ⟨Bs, 0, none⟩ = some (.slice ao B.length c) ∧ W.cell? ⟨Bn, 0, none⟩ = some (.int .i64 56) ∧ Rd W (.slice ao B.length c) B) (h0 : J [] W0) :
    CallsIn Fence.wide n Tryd.prog 72 #[.func (.yield l) #[] #[], .pointer (some ⟨Bs, 0, none⟩), .pointer (some ⟨Bn, 0, none⟩)] W0 fun e W' => (∃ v, e = .returned v) ∧
      ((∃ xs : List Nat, xs = List.range ((B.length + 55) / 56) ∧ J xs W') ∨ (∃ pre : List Nat, Jx pre W')) := by
  refine callsIn_of_wp Tryd.func72 rfl trivial ?_ rfl
  simp only [Tryd.ntmps72, List.size_toArray, List.length_cons, List.length_nil, Nat.reduceAdd, Nat.reduceSub, Array.replicate_succ, Array.replicate_zero, List.push_toArray, List.append_toArray, List.nil_append, List.cons_append]
  have HP := hid hP
  have HY := hid hY
  have HJ0 := hid h0
  have HKb := hid hKb
  have HKs := hid hKs
  have HJJ := hid hJ
  have HKt : Hid (∀ X Y Z : World, Kp X Y → Kp Y Z → Kp X Z) := fun X Y Z h k => hKt h k
  have HKr := hid hKr
  clear hP hY h0 hKr hKt hKb hJ hKs
  gi_wp2
  gi_loopw [4] (fun i wr => ∃ k : Nat, 56 * k < B.length + 56 ∧ i = .int .i64 ((56 * k : Nat) : Int) ∧ Hid (J (List.range k) wr) ∧ Hid (Kp W0 wr)) (fun i _ => B.length + 56 - (intOf i).toNat)
  case atStart => exact ⟨0, by omega, rfl, HJ0, HKr⟩
  case round =>
    obtain ⟨k, hk, rfl, HJr, HKr9⟩ := hrel
    obtain ⟨c0, c1, hR0⟩ := HP.out _ HKr9.out
    have hlen := fun W => run_len_slice (P := Tryd.prog) W 32 3 ao B.length c Tryd.underlying32
    by_cases hlt : 56 * k < B.length
    · have hki : ((56 * k : Nat) : Int) < (B.length : Int) := by omega
      obtain ⟨hs3, hr3⟩ := cut3 hR0 k hlt
      have hpl := pc_len B k
      obtain ⟨q, hq⟩ : ∃ q, q = (pc B k).length := ⟨_, rfl⟩
      rw [← hq] at hs3 hpl
      have hif : (if ((B.length - 56 * k : Nat) : Int) < 56 then ((B.length - 56 * k : Nat) : Int) else 56) = (q : Int) := by split <;> omega
      obtain ⟨i9, hi9⟩ : ∃ i9, i9 = 56 * k := ⟨_, rfl⟩
      rw [← hi9] at hs3 hki hif ⊢
      have hwa : IntKind.i64.wrap ((i9 : Int) + (q : Int)) = ((i9 + q : Nat) : Int) := by rw [IntKind.wrap_i64]; omega
      have hwb : IntKind.i64.wrap ((i9 : Int) + 56) = ((56 * (k + 1) : Nat) : Int) := by rw [IntKind.wrap_i64]; omega
      have hcm : B.length ≤ c := by obtain ⟨ao', c', e, h1, -⟩ := hR0; simp only [Value.slice.injEq] at e; omega
      have hci : ¬ c = i9 := by omega
      have hq0 : ¬ q = 0 := by omega
      have hpv : pcv ao B k = .slice (Option.map (fun x => x.add i9) ao) q q := by unfold pcv; rw [← hq, hi9, Nat.mul_one]
      have hb9 : (i9 : Int) + (q : Int) ≤ (c : Int) := by omega
      have hb8 : (i9 : Int) ≤ (i9 : Int) + (q : Int) := by omega
      have hb7 : (0 : Int) ≤ (i9 : Int) + (q : Int) := by omega
      have HI9 := hid hi9
      have HR3 := hid hr3
      clear hR0 hr3 hpl hq hi9
      gi_wp2
      refine wpIn_wide.2 ?_
      go_quiet (fail)
      have hbq : Below wr.heap.size wr (wr.drewN nq) := ⟨rfl, rfl, rfl, Nat.le_refl _, fun _ _ => rfl⟩
      have HJq := hid (HJJ.out _ _ _ HJr.out hbq)
      have HKq := hid (HKt.out _ _ _ HKr9.out (HKb.out _ _ HKr9.out hbq))
      have hrq := HR3.out.old hbq
      clear hbq c0 c1 hif
      generalize wr.drewN nq = wq at *
      obtain ⟨c0, c1, -⟩ := HP.out _ HKq.out
      obtain ⟨fn, tmps, assign, body, hy, hR⟩ := HY.out (List.range k) k wq HJq.out ⟨by simp, hlt, hrq⟩ (HKs.out _ _ HKq.out)
      have HR := hid hR
      rw [hpv] at hy
      clear hR hrq hpv hs3
      gi_wp2
      refine HR.out.mono ?_
      rintro e W3 (⟨rfl, hJ3, hk3, -⟩ | ⟨rfl, hJx3, -⟩)
      · rw [← List.range_succ] at hJ3
        have HJ3 := hid hJ3
        have HB3 := hid (HKt.out _ _ _ HKq.out hk3)
        obtain ⟨e0, e1, -⟩ := HP.out _ HB3.out
        clear hJ3 hk3 c0 c1
        gi_wp2
        go_roundw
        case rel => exact ⟨k + 1, by omega, rfl, HJ3, HB3⟩
        case measure =>
          have := HI9.out
          simp [intOf]
          omega
      · have HJ3 := hid hJx3
        clear hJx3
        gi_wp2
        refine bodyPost_ret (results_none rfl _ _ _) rfl ?_
        exact ⟨⟨_, rfl⟩, .inr ⟨_, HJ3.out⟩⟩
    · gi_wp2
      go_end0
      have hkk : k = (B.length + 55) / 56 := by omega
      exact ⟨⟨_, rfl⟩, .inl ⟨_, by rw [hkk], HJr.out⟩⟩
end Go.Proofs.YtcbbklbjfknnlaaDoor
