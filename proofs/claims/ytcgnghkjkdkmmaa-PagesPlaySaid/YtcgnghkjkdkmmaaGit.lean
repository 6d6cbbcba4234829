/-
  PAGES: ranges over functions whose elements are new in each round.
-/
import Derived.RangeFuncNested
import Derived.RangeFuncBound
import Derived.RangeFuncCalls
import Derived.RangeFuncLeaves
import Derived.Shelf.Abstract
import Derived.Shelf.RegionOpen
import Derived.WalkKit
import Derived.OwnWalkIn
import Derived.TacticsInMore
import Derived.LoopNIn
import Derived.LoopIn
import Derived.Test.YtcgnghkjkdkmmaaGaw
set_option linter.unusedVariables false
namespace Go.Proofs.Ytcgnghkjkdkmmaa
open Go.RowKit Go.Shelf
attribute [local go_sem] Oper.semAt_some

/-- A pair without its places. -/
def lg (m : Lp) : List UInt8 × List UInt8 × Int := (m.key, m.val, m.ver)
theorem alike_lg {a b : Lp} (h : Alike a b) : lg a = lg b := by obtain ⟨h1, h2, h3⟩ := h; unfold lg; rw [h1, h2, h3]

/-- An iterator: whatever a loop's body does that keeps its word, all elements come, or as many as are wanted; 'Rx pre x W': what a round may know of the element x that comes behind pre. -/
def SeqR {α : Type} (F : Fence) (n : Nat) (P : Program) (g : Nat) (lb : Array Value) (encs : α → Array Value) (Kp : World → World → Prop) (Rx : List α → α → World → Prop) (S Sp : List α → Prop) (w : World) : Prop :=
  ∀ (l : Nat) (J Jx : List α → World → Prop) (W : World), Below w.heap.size w W → OwnFrom W.heap.size J → OwnFrom W.heap.size Jx →
    (∀ pre x W1, J pre W1 → Rx pre x W1 → W.heap.size ≤ W1.heap.size → YieldAt F (n - 1) P l (encs x) W1 fun e W' =>
      (e = .returned (.bool true) ∧ J (pre ++ [x]) W' ∧ Kp W1 W' ∧ KeepsFrom W.heap.size W1 W') ∨ (e = .returned (.bool false) ∧ Jx (pre ++ [x]) W' ∧ KeepsFrom W.heap.size W1 W')) →
    J [] W →
    CallsIn F n P g (#[.func (.yield l) #[] #[]] ++ lb) W fun e W' => (∃ v, e = .returned v) ∧ ((∃ xs, S xs ∧ J xs W') ∨ (∃ pre, Sp pre ∧ Jx pre W'))

/-- What a round knows of a pair that comes: it is the next of M; its bytes are new. -/
def RxP (n0 : Nat) (M : List Lp) (pre : List Lp) (x : Lp) (W : World) : Prop := Mine n0 W x ∧ ∃ m, M[pre.length]? = some m ∧ Alike x m

theorem Mine.base {b b' : Nat} {w : World} {m : Lp} (h : Mine b w m) (hb : b' ≤ b) : Mine b' w m := ⟨ownsRow_base h.k hb, ownsRow_base h.v hb, h.apart⟩

theorem own_below {β : Type} {B : Nat} {I : β → World → Prop} (h : OwnFrom B I) {s : β} {W W' : World} (hs : I s W) (hb : Below W.heap.size W W') : I s W' :=
  h s W W' none hs (grown_below hb none) (fun r e => by cases e)

set_option maxRecDepth 100000 in
set_option maxHeartbeats 8000000 in
theorem rising1_in (n : Nat) (hn : 1 ≤ n) (l Bn n0 : Nat) (xv : Value) (G : List Pg) (J Jx : List Lp → World → Prop) (W0 : World) (hg8 : ∀ g ∈ G, g.M.length ≤ 1000000) (hgl : G.length ≤ 1000000) (hb8 : ∀ g ∈ G, ∀ m ∈ g.M, m.key.length ≤ 140737488355328 ∧ m.val.length ≤ 140737488355328)
    (Kp : World → World → Prop) (hKr : ∀ W, Kp W W) (hKt : ∀ {A B C : World}, Kp A B → Kp B C → Kp A C) (hKs : ∀ {A B : World}, Kp A B → A.heap.size ≤ B.heap.size) (hKb : ∀ {A B : World}, W0.heap.size ≤ A.heap.size → Below A.heap.size A B → Kp A B)
    (hn0 : n0 ≤ W0.heap.size) (hJ : OwnFrom W0.heap.size J) (hJx : OwnFrom W0.heap.size Jx)
    (hY : ∀ pre x W1, J pre W1 → RxP n0 (mls G).flatten pre x W1 → W0.heap.size ≤ W1.heap.size → YieldAt Fence.wide (n - 1) Try.prog l #[pv x] W1 fun e W' =>
      (e = .returned (.bool true) ∧ J (pre ++ [x]) W' ∧ Kp W1 W' ∧ KeepsFrom W0.heap.size W1 W') ∨ (e = .returned (.bool false) ∧ Jx (pre ++ [x]) W' ∧ KeepsFrom W0.heap.size W1 W'))
    (hP : ∀ W, Kp W0 W → W.cell? ⟨Bn, 0, none⟩ = some xv ∧ Pgs W xv G) (h0 : J [] W0) :
    CallsIn Fence.wide n Try.prog 54 #[.func (.yield l) #[] #[], .pointer (some ⟨Bn, 0, none⟩)] W0 fun e W' => (∃ v, e = .returned v) ∧
      ((∃ xs : List Lp, xs.map lg = (mls G).flatten.map lg ∧ J xs W') ∨ (∃ pre : List Lp, pre.map lg <+: (mls G).flatten.map lg ∧ Jx pre W')) := by
  refine callsIn_of_wp Try.func54 rfl trivial ?_ rfl
  simp only [Try.ntmps54, List.size_toArray, List.length_cons, List.length_nil, Nat.reduceAdd, Nat.reduceSub, Array.replicate_succ, Array.replicate_zero, List.push_toArray, List.append_toArray, List.nil_append, List.cons_append]
  obtain ⟨xa, xc, rfl, -⟩ := (hP W0 (hKr _)).2.form
  have c0 := (hP W0 (hKr _)).1
  have HP := hid hP
  have HY := hid hY
  have HJ := hid hJ
  have HB8 := hid hb8
  have HG8 := hid hg8
  have HJ0 := hid h0
  clear hP hY hJ hJx hb8 hg8 h0
  have h1 : 1 ≤ n - 1 ∨ True := .inr trivial
  gi_wp2
  gi_loopw [9] (fun i wr => ∃ (k : Nat) (pre : List Lp), k ≤ G.length ∧ i = .int .i64 k ∧ Hid (pre.map lg = ((mls G).take k).flatten.map lg) ∧ Hid (J pre wr) ∧ Hid (Kp W0 wr)) (fun i _ => G.length - (intOf i).toNat)
  case atStart => exact ⟨0, [], by omega, rfl, rfl, HJ0, hKr _⟩
  case round =>
    obtain ⟨k, pre, hk, rfl, HPR, HJr, HBr⟩ := hrel
    by_cases hlt : k < G.length
    · have hv := List.getElem?_eq_getElem hlt
      generalize G[k] = g at *
      obtain ⟨b, off, rfl, d1⟩ := (HP.out wr HBr.out).2.get hv
      rw [Nat.mul_one] at d1
      have HV := hid hv
      have hgl8 := HG8.out g (List.mem_of_getElem? hv)
      clear hv
      gi_wp2
      gi_loopw [15] (fun j ws => ∃ (q : Nat) (pre : List Lp), q ≤ g.M.length ∧ j = .int .i64 q ∧ Hid (pre.map lg = (((mls G).take k).flatten ++ g.M.take q).map lg) ∧ Hid (J pre ws) ∧ Hid (Kp W0 ws)) (fun j _ => g.M.length - (intOf j).toNat)
      case atStart => exact ⟨0, pre, by omega, rfl, by rw [List.take_zero, List.append_nil]; exact HPR, HJr, HBr⟩
      case round =>
        obtain ⟨q, pr, hq, rfl, HPQ, HJs, HBs⟩ := hrel
        by_cases hlq : q < g.M.length
        · have hvq := List.getElem?_eq_getElem hlq
          generalize g.M[q] = m at *
          have HRG := hid ((HP.out _ HBs.out).2.at HV.out)
          obtain ⟨ga, gc, gM⟩ := g
          simp only at *
          obtain ⟨b2, off2, rfl, e1, e2, e3⟩ := Prs.get (show Prs _ (.slice ga gM.length gc) gM from HRG.out) hvq
          have HRM := hid (Prs.at (show Prs _ _ gM from HRG.out) hvq)
          have o1 := one_rd HRM.out.1
          have o2 := one_rd HRM.out.2
          have HVQ := hid hvq
          clear hvq
          have hbb := HB8.out _ (List.mem_of_getElem? HV.out) m (List.mem_of_getElem? HVQ.out)
          gi_wp2_with (refine ⟨trivial, ?_⟩; gi_at_call 37; refine (callsIn_wide.2 (copied_any m _ (HRM.out.old ((Below.refl _ _).alloc (Nat.le_refl _) _)) hbb.1 hbb.2)).mono ?_)
          rintro e w' ⟨m', hal, rfl, hmi, hbk⟩
          have hba : Below wr.heap.size wr w' := chain ((Below.refl _ _).alloc (Nat.le_refl _) _) hbk
          have HBn := hid (hKt HBs.out (hKb (hKs HBs.out) hba))
          have hszw : W0.heap.size ≤ wr.heap.size := hKs HBs.out
          have hJ' := own_below HJ.out HJs.out hba
          have hpl : pr.length = ((mls G).take k).flatten.length + q := by
            have := congrArg List.length HPQ.out
            simp only [List.length_map, List.length_append, List.length_take] at this
            omega
          have hat : (mls G).flatten[pr.length]? = some m := by
            rw [hpl, flat_at (mls G) k, mls_at HV.out, List.append_assoc, List.getElem?_append_right (by omega), Nat.add_sub_cancel_left, List.getElem?_append_left hlq]
            exact HVQ.out
          have hsz' : W0.heap.size ≤ w'.heap.size := Nat.le_trans hszw hba.size
          obtain ⟨fn, tmps, assign, body, hy, hR⟩ := HY.out pr m' w' hJ' ⟨hmi.base (by simp; omega), m, hat, hal⟩ hsz'
          have HR := hid hR
          have HAL := hid hal
          unfold pv at hy
          unfold pv
          clear hal hmi hbk hba hJ' hpl hat hR
          gi_wp2
          refine HR.out.mono ?_
          rintro e W3 (⟨rfl, hJ3, hk3, -⟩ | ⟨rfl, hJx3, -⟩)
          · have HJ3 := hid hJ3
            have HB3 := hid (hKt HBn.out hk3)
            clear hJ3 hk3
            gi_wp2
            go_roundw
            case rel => exact ⟨q + 1, pr ++ [m'], by omega, by go_num, by
              show _ = _
              rw [List.map_append, HPQ.out, List.take_add_one, HVQ.out]
              simp [alike_lg HAL.out], HJ3, HB3⟩
            case measure => simp [intOf]; omega
          · have HJ3 := hid hJx3
            clear hJx3
            gi_wp2
            refine bodyPost_ret (results_none rfl _ _ _) rfl ?_
            refine ⟨⟨_, rfl⟩, .inr ⟨pr ++ [m'], ?_, HJ3.out⟩⟩
            rw [List.map_append, HPQ.out, flat_at (mls G) k, mls_at HV.out]
            refine ⟨(gM.drop (q + 1) ++ ((mls G).drop (k + 1)).flatten).map lg, ?_⟩
            have hd : gM.drop q = m :: gM.drop (q + 1) := by rw [List.drop_eq_getElem_cons hlq]; rw [(List.getElem?_eq_some_iff.1 HVQ.out).2]
            have hs : gM = gM.take q ++ m :: gM.drop (q + 1) := by rw [← hd, List.take_append_drop]
            conv => rhs; rw [hs]
            simp [alike_lg HAL.out]
        · obtain rfl : q = g.M.length := by omega
          gi_wp2
          go_roundw
          case rel => exact ⟨k + 1, pr, by omega, by go_num, by show _ = _; rw [take_at, mls_at HV.out]; have := HPQ.out; rwa [List.take_length] at this, HJs, HBs⟩
          case measure => simp [intOf]; omega
    · obtain rfl : k = G.length := by omega
      gi_wp2
      go_end0
      refine ⟨⟨_, rfl⟩, .inl ⟨pre, ?_, HJr.out⟩⟩
      have := HPR.out
      rwa [← mls_len, List.take_length] at this
end Go.Proofs.Ytcgnghkjkdkmmaa
