import Derived.Test.YthckgokkjlnknaaHA1
import Derived.Test.YthckgokkjlnknaaHA2
import Derived.Test.YthckgokkjlnknaaHA3
import Derived.Test.YthckgokkjlnknaaHA4
import GoSem.Op.String
import Derived.Lib.Bytealg
import Derived.Test.YthckgokkjlnknaaRows
import Derived.WalkKit
import Derived.WalkSpells
import Derived.WalkLawsBesides
import Derived.Laws.AppendOwnNone
import Derived.Deep.Slices
import Derived.BigQuiet
import Derived.Deep.QuietTactic
import Derived.Deep.AppendLies
import Derived.Deep.RegionWith
import Derived.Shelf.Abstract
import Derived.Test.YthckgokkjlnknaaProg
import Derived.LaidEql
import Derived.Stop.Asserts
import Derived.RowKitTokens
import Derived.Lib.Bytes
import Derived.Deep.OwnRows
import Derived.OwnWalk
import Derived.ProofKit
import Derived.Lib.AppendZeros
import Derived.Deep.CutRange
import Derived.Deep.RegionHeld3
import Derived.OpenShut
import Derived.ShutString
import Derived.ChangeOld
import Derived.Below
import Derived.SizedLaws
import Derived.Deep.Strs
import Derived.Deep.RegionHeld
import Derived.Deep.RegionLaw
import Derived.Laws.OwnMore
import Derived.Laws.ResultCell
import Derived.BigRegion
import Derived.Laws.CopyOwn
import Derived.Lib.AppendZerosOnto
import Derived.Lib.Overlaps
import Derived.Deep.AppendSrc
import Derived.Deep.CutBlock
import Derived.Lib.SlBytesConst
import Derived.RangeFuncNested
import Derived.RangeFuncBound
import Derived.RangeFuncCalls
import Derived.RangeFuncLeaves
import Derived.Shelf.RegionOpen
import Derived.OwnWalkIn
import Derived.TacticsInMore
import Derived.LoopNIn
import Derived.LoopIn
import Derived.Laws.CopyRow
import Derived.Deep.MidRow
import Derived.Laws.MakeOwn
import Derived.IntWalk
import Derived.ArgAppend
set_option linter.unusedVariables false
set_option linter.unusedSimpArgs false




namespace Go.Proofs.Ythckgokkjlnknaa
open Go.RowKit

theorem Rws.wide {size : Nat} {w : World} {x : Value} {L : List (List Value)} (h : Rws size w x L) : Wide size L := by
  obtain ⟨_, _, _, _, _, _, h5, _⟩ := h
  exact h5

end Go.Proofs.Ythckgokkjlnknaa

set_option linter.unusedVariables false

set_option linter.unusedVariables false

set_option linter.unusedVariables false

set_option linter.unusedVariables false

set_option linter.unusedVariables false

set_option linter.unusedVariables false

set_option linter.unusedVariables false

set_option linter.unusedVariables false

set_option linter.unusedVariables false

set_option linter.unusedVariables false

set_option linter.unusedVariables false

set_option linter.unusedVariables false

set_option linter.unusedVariables false
set_option maxRecDepth 100000

set_option linter.unusedVariables false
set_option maxRecDepth 100000

set_option linter.unusedVariables false

set_option linter.unusedVariables false
set_option maxRecDepth 100000

set_option linter.unusedVariables false
set_option maxRecDepth 100000

set_option linter.unusedVariables false
set_option maxRecDepth 100000

set_option linter.unusedVariables false

set_option linter.unusedVariables false
set_option maxRecDepth 100000

set_option linter.unusedVariables false
set_option maxRecDepth 100000

set_option linter.unusedVariables false
set_option maxRecDepth 100000

set_option linter.unusedVariables false
set_option maxRecDepth 100000

set_option linter.unusedVariables false
namespace Go.Proofs.Ythckgokkjlnknaa
open Go.RowKit Go.Deep
attribute [local go_sem] Oper.semAt_some

variable {F : Fence} {n : Nat} {P : Program}

end Go.Proofs.Ythckgokkjlnknaa

set_option linter.unusedVariables false
namespace Go.Proofs.Ythckgokkjlnknaa
open Go.RowKit Go.Deep
attribute [local go_sem] Oper.semAt_some

end Go.Proofs.Ythckgokkjlnknaa

set_option linter.unusedVariables false

set_option linter.unusedVariables false
set_option maxRecDepth 100000
namespace Go.Proofs.Ythckgokkjlnknaa
open Go.RowKit Go.Deep
attribute [local go_sem] Oper.semAt_some

end Go.Proofs.Ythckgokkjlnknaa

set_option linter.unusedVariables false

set_option linter.unusedVariables false
set_option maxRecDepth 100000

set_option linter.unusedVariables false
set_option maxRecDepth 100000

set_option linter.unusedVariables false
set_option maxRecDepth 100000

set_option linter.unusedVariables false
set_option maxRecDepth 100000

set_option linter.unusedVariables false
set_option maxRecDepth 100000

set_option linter.unusedVariables false
set_option maxRecDepth 100000

set_option linter.unusedVariables false
set_option maxRecDepth 100000

set_option linter.unusedVariables false
set_option maxRecDepth 100000

set_option linter.unusedVariables false
set_option maxRecDepth 100000

set_option linter.unusedVariables false
set_option maxRecDepth 100000

set_option linter.unusedVariables false
set_option linter.unusedSimpArgs false
set_option maxRecDepth 100000

set_option linter.unusedVariables false
set_option linter.unusedSimpArgs false
set_option maxRecDepth 100000

set_option linter.unusedVariables false
set_option linter.unusedSimpArgs false
set_option maxRecDepth 100000

set_option linter.unusedVariables false
set_option linter.unusedSimpArgs false
set_option maxRecDepth 100000

set_option linter.unusedVariables false
set_option linter.unusedSimpArgs false

set_option linter.unusedVariables false
set_option linter.unusedSimpArgs false
set_option maxRecDepth 100000

set_option linter.unusedVariables false
set_option linter.unusedSimpArgs false
set_option maxRecDepth 100000
namespace Go.Proofs.Ythckgokkjlnknaa
open Go.RowKit Go.Deep

theorem below_drewN (w : World) (n : Nat) : Below w.heap.size w (w.drewN n) := ⟨rfl, rfl, rfl, Nat.le_refl _, fun _ _ => rfl⟩
end Go.Proofs.Ythckgokkjlnknaa

set_option linter.unusedVariables false
set_option linter.unusedSimpArgs false
set_option maxRecDepth 100000

set_option linter.unusedVariables false
set_option linter.unusedSimpArgs false
set_option maxRecDepth 100000

set_option linter.unusedVariables false
set_option linter.unusedSimpArgs false
set_option maxRecDepth 100000

set_option linter.unusedVariables false
set_option linter.unusedSimpArgs false
set_option maxRecDepth 100000

set_option linter.unusedVariables false
set_option linter.unusedSimpArgs false
set_option maxRecDepth 100000

set_option linter.unusedVariables false
set_option linter.unusedSimpArgs false
set_option maxRecDepth 100000

set_option linter.unusedVariables false
set_option linter.unusedSimpArgs false
set_option maxRecDepth 100000

set_option linter.unusedVariables false
set_option linter.unusedSimpArgs false
set_option maxRecDepth 100000

set_option linter.unusedVariables false
set_option linter.unusedSimpArgs false
set_option maxRecDepth 100000

set_option linter.unusedVariables false
set_option linter.unusedSimpArgs false
set_option maxRecDepth 100000

set_option linter.unusedVariables false
set_option linter.unusedSimpArgs false
set_option maxRecDepth 100000

set_option maxRecDepth 100000

set_option linter.unusedVariables false
set_option linter.unusedSimpArgs false
set_option maxRecDepth 100000

set_option linter.unusedVariables false

set_option linter.unusedVariables false

set_option linter.unusedVariables false

set_option linter.unusedVariables false

set_option linter.unusedVariables false
set_option linter.unusedSimpArgs false
set_option maxRecDepth 100000

set_option linter.unusedVariables false
set_option linter.unusedSimpArgs false
set_option maxRecDepth 100000

set_option linter.unusedVariables false
set_option linter.unusedSimpArgs false
set_option maxRecDepth 100000

set_option linter.unusedVariables false
set_option linter.unusedSimpArgs false
set_option maxRecDepth 100000


set_option linter.unusedVariables false
set_option linter.unusedSimpArgs false
set_option maxRecDepth 100000

set_option linter.unusedVariables false
set_option linter.unusedSimpArgs false
set_option maxRecDepth 100000

set_option linter.unusedVariables false
set_option linter.unusedSimpArgs false
set_option maxRecDepth 100000

set_option linter.unusedVariables false
set_option linter.unusedSimpArgs false
set_option maxRecDepth 100000

set_option linter.unusedVariables false
set_option linter.unusedSimpArgs false
set_option maxRecDepth 100000

set_option linter.unusedVariables false
set_option linter.unusedSimpArgs false
set_option maxRecDepth 100000

set_option linter.unusedVariables false
set_option linter.unusedSimpArgs false
set_option maxRecDepth 100000

set_option linter.unusedVariables false
set_option linter.unusedSimpArgs false
set_option maxRecDepth 100000

set_option linter.unusedVariables false
set_option linter.unusedSimpArgs false
set_option maxRecDepth 100000

set_option linter.unusedVariables false
set_option linter.unusedSimpArgs false
set_option maxRecDepth 100000

set_option linter.unusedVariables false

set_option linter.unusedVariables false

set_option linter.unusedVariables false

set_option linter.unusedVariables false

set_option linter.unusedVariables false
set_option linter.unusedSimpArgs false
set_option maxRecDepth 100000

set_option linter.unusedVariables false
set_option linter.unusedSimpArgs false
set_option maxRecDepth 100000

set_option linter.unusedVariables false

set_option linter.unusedVariables false
set_option linter.unusedSimpArgs false
set_option maxRecDepth 100000

set_option linter.unusedVariables false
set_option linter.unusedSimpArgs false
set_option maxRecDepth 100000

set_option linter.unusedVariables false
set_option linter.unusedSimpArgs false
set_option maxRecDepth 100000

set_option linter.unusedVariables false
set_option linter.unusedSimpArgs false
set_option maxRecDepth 100000

set_option linter.unusedVariables false
set_option linter.unusedSimpArgs false
set_option maxRecDepth 100000

set_option linter.unusedVariables false
set_option linter.unusedSimpArgs false
set_option maxRecDepth 100000

set_option linter.unusedVariables false
set_option linter.unusedSimpArgs false
set_option maxRecDepth 100000

set_option linter.unusedVariables false
set_option linter.unusedSimpArgs false
set_option maxRecDepth 100000

set_option linter.unusedVariables false
set_option linter.unusedSimpArgs false
set_option maxRecDepth 100000

set_option linter.unusedVariables false
set_option linter.unusedSimpArgs false
set_option maxRecDepth 100000

set_option linter.unusedVariables false
set_option linter.unusedSimpArgs false
set_option maxRecDepth 100000

set_option linter.unusedVariables false
set_option linter.unusedSimpArgs false
set_option maxRecDepth 100000

set_option linter.unusedVariables false
set_option linter.unusedSimpArgs false
set_option maxRecDepth 100000

set_option linter.unusedVariables false
set_option linter.unusedSimpArgs false

set_option linter.unusedVariables false
set_option linter.unusedSimpArgs false
set_option maxRecDepth 100000

set_option linter.unusedVariables false
set_option linter.unusedSimpArgs false
set_option maxRecDepth 100000

set_option linter.unusedVariables false
set_option linter.unusedSimpArgs false
set_option maxRecDepth 100000

set_option linter.unusedVariables false
set_option linter.unusedSimpArgs false
set_option maxRecDepth 100000

set_option linter.unusedVariables false

set_option linter.unusedVariables false

set_option linter.unusedVariables false

set_option linter.unusedVariables false

set_option linter.unusedVariables false

set_option linter.unusedVariables false

set_option linter.unusedVariables false

set_option linter.unusedVariables false

set_option linter.unusedVariables false

set_option linter.unusedVariables false

set_option linter.unusedVariables false

set_option linter.unusedVariables false

set_option linter.unusedVariables false

set_option linter.unusedVariables false

set_option linter.unusedVariables false

set_option linter.unusedVariables false

set_option linter.unusedVariables false

set_option linter.unusedVariables false

set_option linter.unusedVariables false

set_option linter.unusedVariables false

set_option linter.unusedVariables false

set_option linter.unusedVariables false
namespace Go.Proofs.Ythckgokkjlnknaa
open Go.RowKit Go.Shelf
attribute [local go_sem] Oper.semAt_some

end Go.Proofs.Ythckgokkjlnknaa

set_option linter.unusedVariables false

set_option linter.unusedVariables false

set_option linter.unusedVariables false
set_option linter.unusedSimpArgs false
set_option maxRecDepth 100000

set_option linter.unusedVariables false
set_option linter.unusedSimpArgs false
set_option maxRecDepth 100000

set_option linter.unusedVariables false
set_option linter.unusedSimpArgs false
set_option maxRecDepth 100000

set_option linter.unusedVariables false
set_option linter.unusedSimpArgs false
set_option maxRecDepth 100000

set_option linter.unusedVariables false
set_option linter.unusedSimpArgs false
set_option maxRecDepth 100000

set_option linter.unusedVariables false
set_option linter.unusedSimpArgs false
set_option maxRecDepth 100000

set_option linter.unusedVariables false
set_option linter.unusedSimpArgs false
set_option maxRecDepth 100000

set_option linter.unusedVariables false
set_option linter.unusedSimpArgs false

set_option linter.unusedVariables false
set_option linter.unusedSimpArgs false
set_option maxRecDepth 100000

set_option linter.unusedVariables false
set_option linter.unusedSimpArgs false
set_option maxRecDepth 100000

set_option linter.unusedVariables false
set_option linter.unusedSimpArgs false
set_option maxRecDepth 100000

set_option linter.unusedVariables false
set_option linter.unusedSimpArgs false
set_option maxRecDepth 100000

set_option linter.unusedVariables false
set_option linter.unusedSimpArgs false
set_option maxRecDepth 100000

set_option linter.unusedVariables false
set_option linter.unusedSimpArgs false
set_option maxRecDepth 100000

set_option linter.unusedVariables false
set_option linter.unusedSimpArgs false
set_option maxRecDepth 100000

set_option linter.unusedVariables false
set_option linter.unusedSimpArgs false
set_option maxRecDepth 100000

set_option linter.unusedVariables false
set_option linter.unusedSimpArgs false
set_option maxRecDepth 100000

set_option linter.unusedVariables false
set_option linter.unusedSimpArgs false
set_option maxRecDepth 100000

set_option linter.unusedVariables false
set_option linter.unusedSimpArgs false
set_option maxRecDepth 100000

set_option linter.unusedVariables false
set_option linter.unusedSimpArgs false
set_option maxRecDepth 100000

set_option linter.unusedVariables false
set_option linter.unusedSimpArgs false
set_option maxRecDepth 100000

set_option linter.unusedVariables false

set_option linter.unusedVariables false
set_option linter.unusedSimpArgs false
set_option maxRecDepth 100000

set_option linter.unusedVariables false
set_option linter.unusedSimpArgs false
set_option maxRecDepth 100000
namespace Go.Proofs.Ythckgokkjlnknaa
open Go.RowKit Go.ChangeShapes Go.WideShapes Go.ChangeAt Go.Deep

section
variable {H : Type} {enc : TypeId × Value → H} {W : World}

theorem hspan_open {base : Nat} {v : Value} {d : DataW H} {p : List MemPlace} (hw : Value.okWide Try.prog W .any base 66 v) (h : DataW.Trod enc Try.prog W 0 (fun _ => true) true 66 v d p) (hk : ∀ k ∈ d.weights Try.prog 66, k ≤ reachBytes) :
    ∃ (a1 : Option Addr) (c1 : Nat) (F : List UInt8) (a2 : Option Addr) (c2 : Nat) (T : List UInt8), v = .agg #[.slice a1 F.length c1, .slice a2 T.length c2] ∧ Rd W (.slice a1 F.length c1) F ∧ Rd W (.slice a2 T.length c2) T ∧ F.length ≤ 140737488355328 ∧ T.length ≤ 140737488355328 := by
  unfold Value.okWide at hw
  rw [Try.underlying66] at hw
  obtain ⟨cs, rfl, hsz, -⟩ := hw
  obtain ⟨fuel, hf⟩ := h
  have hf1 : DataW.trod enc Try.prog W 0 (fun _ => true) true fuel 66 cs.toList = some (d, p) := hf
  have hcv : Try.prog.cellsOf 66 = 2 := by kernel_rfl
  obtain ⟨xs, n', rfl, he, hlen, hxl, hfd⟩ := DataW.trod_struct Try.underlying66 hf1
  rw [hcv] at hlen
  obtain ⟨l, hl⟩ : ∃ l, cs.toList = l := ⟨_, rfl⟩
  have hcs : cs = l.toArray := by rw [← hl]
  rw [hl] at hlen hfd
  subst hcs
  have hK : reachBytes ≤ 140737488355328 := by decide
  match l, hlen, xs, hxl with
  | [c0, c1], _, [y0, y1], _ =>
    have he1 : d = _ := congrArg Prod.fst he
    have t0 := part (k := 1) (t := 62) (cs' := [c0]) (by kernel_rfl) (hfd 0 _ rfl) rfl
    have t1 := part (k := 1) (t := 62) (cs' := [c1]) (by kernel_rfl) (hfd 1 _ rfl) rfl
    obtain ⟨a1, b1, F, e0, r0, k0⟩ := bytes_in t0
    obtain ⟨a2, b2, T, e1, r1, k1⟩ := bytes_in t1
    cases e0; cases e1
    rw [he1] at hk
    have w0 := k0 reachBytes (fun k9 h9 => hk _ (by simp only [DataW.weights, Try.underlying66]; exact DataW.weights_mem_each (j := 0) rfl rfl _ h9))
    have w1 := k1 reachBytes (fun k9 h9 => hk _ (by simp only [DataW.weights, Try.underlying66]; exact DataW.weights_mem_each (j := 1) rfl rfl _ h9))
    exact ⟨a1, b1, F, a2, b2, T, rfl, r0, r1, Nat.le_trans w0 hK, Nat.le_trans w1 hK⟩
end
end Go.Proofs.Ythckgokkjlnknaa

set_option linter.unusedVariables false
set_option linter.unusedSimpArgs false
set_option maxRecDepth 100000
namespace Go.Proofs.Ythckgokkjlnknaa
open Go.RowKit Go.Deep

theorem less_trans {a b c : List UInt8} (h : Op.bytesLess a b = true) (k : Op.bytesLess b c = true) : Op.bytesLess a c = true := lt_less.2 (lt_trans (lt_less.1 h) (lt_less.1 k))
theorem less_asymm {a b : List UInt8} (h : Op.bytesLess a b = true) : Op.bytesLess b a = false := less_lt.2 (lt_asymm (lt_less.1 h))
end Go.Proofs.Ythckgokkjlnknaa

set_option linter.unusedVariables false
set_option linter.unusedSimpArgs false
set_option maxRecDepth 100000
namespace Go.Proofs.Ythckgokkjlnknaa
open Go.RowKit Go.Deep

abbrev Spn := List UInt8 × List UInt8
def ptL (L : List Ow) (F T : List UInt8) (n : Nat) (o : Ow) : Spn := (bothF F o.f, bothT T (toL L n))
def partsL (L : List Ow) (F T : List UInt8) : Nat → List Spn
  | 0 => []
  | n + 1 => partsL L F T n ++ (match L[n]? with | some o => if meetB F T o.f (toL L n) then [ptL L F T n o] else [] | none => [])
def ptZ (R : Rou) (F T : List UInt8) (z : Int) : Spn := match R.sp[(plcI R.sp z).toNat]? with
  | some o => ptL R.sp F T (plcI R.sp z).toNat o
  | none => ([], [])
theorem parts_step {L : List Ow} {F T : List UInt8} {n : Nat} {o : Ow} (h : L[n]? = some o) : partsL L F T (n + 1) = partsL L F T n ++ (if meetB F T o.f (toL L n) then [ptL L F T n o] else []) := by
  show partsL L F T n ++ _ = _
  rw [h]
theorem parts_met {R : Rou} (hR : RtOk R) (F T : List UInt8) : ∀ n, n ≤ R.sp.length → (metL R.sp F T n).map (ptZ R F T) = partsL R.sp F T n
  | 0, _ => rfl
  | n + 1, hn => by
    obtain ⟨o, ho⟩ : ∃ o, R.sp[n]? = some o := ⟨_, List.getElem?_eq_getElem (by omega)⟩
    rw [met_step ho, parts_step ho, List.map_append, parts_met hR F T n (by omega)]
    have hz : ptZ R F T o.g = ptL R.sp F T n o := by
      unfold ptZ
      rw [(hR.grp n o ho).2.2]
      have e : ((n : Int)).toNat = n := by omega
      rw [e, ho]
    cases meetB F T o.f (toL R.sp n) with
    | true => simp only [if_true, List.map_cons, List.map_nil, hz]
    | false => rfl

theorem less_irr (a : List UInt8) : Op.bytesLess a a = false := less_lt.2 (lt_irrefl a)
theorem less_tot {a b : List UInt8} (h : Op.bytesLess a b = false) (k : Op.bytesLess b a = false) : a = b := lt_eq (less_lt.1 h) (less_lt.1 k)
theorem le_lt {a b c : List UInt8} (h : Op.bytesLess b a = false) (k : Op.bytesLess b c = true) : Op.bytesLess a c = true := not_less_trans h k
theorem lt_le {a b c : List UInt8} (h : Op.bytesLess a b = true) (k : Op.bytesLess c b = false) : Op.bytesLess a c = true := by
  cases h2 : Op.bytesLess a c with
  | true => rfl
  | false =>
    have h3 := not_less_trans h2 h
    rw [h3] at k; cases k
theorem ne_of_less {a b : List UInt8} (h : Op.bytesLess a b = true) : b ≠ [] := fun e => by
  subst e
  cases a <;> cases h

/-- Up to where the parts of the first n places reach. -/
def curL (L : List Ow) (F T : List UInt8) (n : Nat) : List UInt8 := if Op.bytesLess F (atL L n) then (if Op.bytesLess T (atL L n) then T else atL L n) else F
def atP (F : List UInt8) (S : List Spn) (i : Nat) : List UInt8 := match i with
  | 0 => F
  | j + 1 => (S.getD j ([], [])).2
theorem atP_app {F : List UInt8} {S : List Spn} {s : Spn} {i : Nat} (h : i ≤ S.length) : atP F (S ++ [s]) i = atP F S i := by
  cases i with
  | zero => rfl
  | succ j =>
    unfold atP
    simp only
    rw [List.getD_eq_getElem?_getD, List.getD_eq_getElem?_getD, List.getElem?_append_left (by omega)]
theorem atP_last {F : List UInt8} {S : List Spn} {s : Spn} : atP F (S ++ [s]) (S ++ [s]).length = s.2 := by
  rw [List.length_append]
  show ((S ++ [s]).getD (S.length) ([], [])).2 = s.2
  rw [List.getD_eq_getElem?_getD, List.getElem?_append_right (Nat.le_refl _)]
  simp

structure ChOk (F : List UInt8) (S : List Spn) (c : List UInt8) : Prop where
  at_ : ∀ (i : Nat) s, S[i]? = some s → s.1 = atP F S i
  last : atP F S S.length = c
  low : ∀ s ∈ S, Op.bytesLess s.1 c = true
  has : ∀ s ∈ S, Op.bytesLess s.1 s.2 = true
  rise : S.Pairwise fun a b => Op.bytesLess a.1 b.1 = true

theorem cur_step {L : List Ow} {F T : List UInt8} {n : Nat} {o : Ow} (ho : L[n]? = some o) (hFT : Op.bytesLess F T = true) (hft : Op.bytesLess o.f (atL L (n + 1)) = true) :
    if meetB F T o.f (toL L n) then bothF F o.f = curL L F T n ∧ bothT T (toL L n) = curL L F T (n + 1) ∧ Op.bytesLess (bothF F o.f) (bothT T (toL L n)) = true else curL L F T (n + 1) = curL L F T n := by
  have hTn : decide (T = []) = false := decide_eq_false (ne_of_less hFT)
  rw [toL_eq]
  unfold meetB curL bothF bothT
  rw [atL_lt ho, hTn]
  generalize atL L (n + 1) = t at *
  generalize o.f = f at *
  simp only [Bool.not_false, Bool.true_and]
  cases h1 : Op.bytesLess F f with
  | true =>
    have hfF := less_asymm h1
    have hFt : Op.bytesLess F t = true := less_trans h1 hft
    rw [hfF, hFt]
    cases h2 : Op.bytesLess T t with
    | true =>
      cases h3 : Op.bytesLess f T with
      | true =>
        have h4 := less_asymm h3
        simp [h3, h4]
      | false =>
        simp only [h3]
        cases h5 : Op.bytesLess T f with
        | true => simp [h3]
        | false => simp [less_tot h5 h3]
    | false =>
      have h3 : Op.bytesLess f T = true := lt_le hft h2
      have h4 := less_asymm h3
      simp [hft, h4]
  | false =>
    cases h6 : Op.bytesLess f F with
    | true =>
      cases h7 : Op.bytesLess F t with
      | true =>
        cases h2 : Op.bytesLess T t with
        | true => simp [hFT]
        | false => simp [h7]
      | false =>
        have h2 : Op.bytesLess T t = false := by
          cases h2 : Op.bytesLess T t with
          | false => rfl
          | true => rw [less_trans hFT h2] at h7; cases h7
        simp [h2, h7]
    | false =>
      obtain rfl := less_tot h1 h6
      cases h2 : Op.bytesLess T t with
      | true => simp [hFT, hft]
      | false => simp [hft]

theorem chain_ok {R : Rou} (hR : RtOk R) {F T : List UInt8} (hF : begB F 120 = true) (hFT : Op.bytesLess F T = true) : ∀ n, n ≤ R.sp.length → ChOk F (partsL R.sp F T n) (curL R.sp F T n)
  | 0, _ => by
    have h0 : curL R.sp F T 0 = F := by
      unfold curL
      rw [hR.first]
      have h1 : Op.bytesLess F [120] = false := by
        cases F with
        | nil => cases hF
        | cons q l =>
          have hq : ((q.toNat : Int) == 120) = true := hF
          have hq2 : q.toNat = 120 := by have h9 : (q.toNat : Int) = 120 := by simpa using hq
                                         omega
          have hq3 : q = 120 := UInt8.toNat_inj.1 (by rw [hq2]; rfl)
          subst hq3
          rw [less_eq, cb_cons]
          cases l <;> rfl
      rw [h1]; rfl
    rw [h0]
    exact ⟨fun i s h => by simp [partsL] at h, rfl, fun s h => by simp [partsL] at h, fun s h => by simp [partsL] at h, List.Pairwise.nil⟩
  | n + 1, hn => by
    obtain ⟨o, ho⟩ : ∃ o, R.sp[n]? = some o := ⟨_, List.getElem?_eq_getElem (by omega)⟩
    have ih := chain_ok hR hF hFT n (by omega)
    have hc := cur_step (T := T) ho hFT (hR.rise n o ho)
    rw [parts_step ho]
    cases hm : meetB F T o.f (toL R.sp n) with
    | false =>
      rw [hm] at hc
      have hc2 : curL R.sp F T (n + 1) = curL R.sp F T n := by simpa using hc
      simp only [Bool.false_eq_true, if_false, List.append_nil]
      rw [hc2]; exact ih
    | true =>
      rw [hm] at hc
      have hc2 : bothF F o.f = curL R.sp F T n ∧ bothT T (toL R.sp n) = curL R.sp F T (n + 1) ∧ Op.bytesLess (bothF F o.f) (bothT T (toL R.sp n)) = true := by simpa using hc
      obtain ⟨e1, e2, e3⟩ := hc2
      simp only [if_true]
      have hp : ptL R.sp F T n o = (curL R.sp F T n, curL R.sp F T (n + 1)) := by unfold ptL; rw [e1, e2]
      rw [e1, e2] at e3
      rw [hp]
      refine ⟨fun i s hs => ?_, atP_last, fun s hs => ?_, fun s hs => ?_, ?_⟩
      · rcases Nat.lt_or_ge i (partsL R.sp F T n).length with hi | hi
        · rw [List.getElem?_append_left hi] at hs
          rw [atP_app (by omega)]; exact ih.at_ i s hs
        · rw [List.getElem?_append_right hi] at hs
          have hi2 : i = (partsL R.sp F T n).length := by
            have := (List.getElem?_eq_some_iff.1 hs).1
            simp at this; omega
          subst hi2
          rw [Nat.sub_self] at hs
          simp at hs
          subst hs
          rw [atP_app (Nat.le_refl _), ih.last]
      · rcases List.mem_append.1 hs with h | h
        · exact less_trans (ih.low s h) e3
        · rw [List.mem_singleton.1 h]; exact e3
      · rcases List.mem_append.1 hs with h | h
        · exact ih.has s h
        · rw [List.mem_singleton.1 h]; exact e3
      · rw [List.pairwise_append]
        exact ⟨ih.rise, List.pairwise_singleton _ _, fun a ha b hb => by rw [List.mem_singleton.1 hb]; exact ih.low a ha⟩
theorem cur_end {R : Rou} {F T : List UInt8} (hF : begB F 120 = true) (hFT : Op.bytesLess F T = true) (hT : Op.bytesLess [121] T = false) : curL R.sp F T R.sp.length = T := by
  unfold curL
  rw [atL_ge (Nat.le_refl _), beg_less hF]
  cases h : Op.bytesLess T [121] with
  | true => rfl
  | false => exact (less_tot hT h)

def insS (S : List Spn) (p : Spn) (k : Nat) : List Spn := S.take k ++ p :: S.drop k
def nlt (a b : Spn) : Prop := Op.bytesLess b.1 a.1 = false
theorem ins_perm (S : List Spn) (p : Spn) (k : Nat) : (insS S p k).Perm (p :: S) := by
  unfold insS
  refine List.perm_middle.trans ?_
  rw [List.take_append_drop]
theorem ins_sorted {S : List Spn} {p : Spn} {k : Nat} (hs : S.Pairwise nlt) (h1 : ∀ (j : Nat) u, j < k → S[j]? = some u → Op.bytesLess u.1 p.1 = true) (h2 : ∀ u, S[k]? = some u → Op.bytesLess u.1 p.1 = false) : (insS S p k).Pairwise nlt := by
  unfold insS
  have hs2 := hs
  rw [← List.take_append_drop k S, List.pairwise_append] at hs2
  obtain ⟨ha, hb, hc⟩ := hs2
  have hlow : ∀ a ∈ S.take k, Op.bytesLess a.1 p.1 = true := fun a hm => by
    obtain ⟨j, hj, rfl⟩ := List.mem_take_iff_getElem.1 hm
    exact h1 j _ (by omega) (List.getElem?_eq_getElem (by omega))
  have hhigh : ∀ b ∈ S.drop k, Op.bytesLess b.1 p.1 = false := fun b hm => by
    obtain ⟨j, hj⟩ := List.getElem?_of_mem hm
    rw [List.getElem?_drop] at hj
    have hk : k < S.length := by have := (List.getElem?_eq_some_iff.1 hj).1; omega
    have h0 := h2 _ (List.getElem?_eq_getElem hk)
    have h0m : (S.drop k)[0]? = some S[k] := by rw [List.getElem?_drop]; exact List.getElem?_eq_getElem hk
    cases j with
    | zero => rw [Nat.add_zero, List.getElem?_eq_getElem hk] at hj; cases hj; exact h0
    | succ j =>
      have hle : nlt S[k] b := by
        have := List.pairwise_iff_getElem.1 hs k (k + (j + 1)) hk ((List.getElem?_eq_some_iff.1 hj).1) (by omega)
        rw [(List.getElem?_eq_some_iff.1 hj).2] at this
        exact this
      cases h9 : Op.bytesLess b.1 p.1 with
      | false => rfl
      | true =>
        have h10 := le_lt hle h9
        rw [h10] at h0; cases h0
  rw [List.pairwise_append]
  refine ⟨ha, ?_, fun a hm b hbm => ?_⟩
  · rw [List.pairwise_cons]
    exact ⟨fun b hm => hhigh b hm, hb⟩
  · rcases List.mem_cons.1 hbm with rfl | hm2
    · exact less_asymm (hlow a hm)
    · exact hc a hm b hm2
theorem sorted_is {S C : List Spn} (hp : S.Perm C) (hs : S.Pairwise nlt) (hc : C.Pairwise fun a b => Op.bytesLess a.1 b.1 = true) : S = C := by
  refine List.Perm.eq_of_pairwise (le := nlt) (fun a b ha hb h1 h2 => ?_) hs (hc.imp fun h => less_asymm h) hp
  have hm : a ∈ C := hp.mem_iff.1 ha
  have he : a.1 = b.1 := less_tot h2 h1
  obtain ⟨i, hi⟩ := List.getElem?_of_mem hm
  obtain ⟨j, hj⟩ := List.getElem?_of_mem hb
  obtain ⟨hil, hiv⟩ := List.getElem?_eq_some_iff.1 hi
  obtain ⟨hjl, hjv⟩ := List.getElem?_eq_some_iff.1 hj
  rcases Nat.lt_trichotomy i j with h | h | h
  · have := List.pairwise_iff_getElem.1 hc i j hil hjl h
    rw [hiv, hjv, he, less_irr] at this; cases this
  · subst h; rw [← hiv, ← hjv]
  · have := List.pairwise_iff_getElem.1 hc j i hjl hil h
    rw [hiv, hjv, he, less_irr] at this; cases this
theorem over_entries {R : Rou} {F T : List UInt8} (hF : begB F 120 = true) (hFT : Op.bytesLess F T = true) : overL R F T = metL R.sp F T R.sp.length := by
  have hTn : decide (T = []) = false := decide_eq_false (ne_of_less hFT)
  obtain ⟨h1, h2⟩ := beg_more hF
  have h3 : meetB F T [114] [115] = false := by
    unfold meetB bothF bothT
    rw [hTn]
    have h4 : Op.bytesLess [114] F = true := by
      cases h : Op.bytesLess [114] F with
      | true => rfl
      | false =>
        have := less_tot h2 h
        subst this
        cases hF
    rw [h4]
    simp only [if_true, Bool.not_false, Bool.true_and]
    cases h5 : Op.bytesLess T [115] with
    | true => rw [less_trans hFT h5] at h1; cases h1
    | false => exact h1
  have h6 : meetB F T [120] [121] = true := by
    unfold meetB bothF bothT
    rw [hTn]
    have h7 := beg_less hF
    simp only [Bool.not_false, Bool.true_and]
    cases h8 : Op.bytesLess [120] F with
    | true =>
      cases h9 : Op.bytesLess T [121] with
      | true => exact hFT
      | false => exact h7
    | false =>
      have h10 : Op.bytesLess F [120] = false := by
        cases F with
        | nil => cases hF
        | cons q l =>
          have hq : ((q.toNat : Int) == 120) = true := hF
          have hq2 : q.toNat = 120 := by have h9 : (q.toNat : Int) = 120 := by simpa using hq
                                         omega
          have hq3 : q = 120 := UInt8.toNat_inj.1 (by rw [hq2]; rfl)
          subst hq3
          rw [less_eq, cb_cons]
          cases l <;> rfl
      obtain rfl := less_tot h8 h10
      cases h9 : Op.bytesLess T [121] with
      | true => exact hFT
      | false => show Op.bytesLess [120] [121] = true; decide
  unfold overL
  rw [h3, h6]
  simp
theorem meet_none {F T f t : List UInt8} (hT : T ≠ []) (h : Op.bytesLess F T = false) : meetB F T f t = false := by
  unfold meetB bothF bothT
  rw [decide_eq_false hT]
  simp only [Bool.not_false, Bool.true_and]
  have e1 : Op.bytesLess (if Op.bytesLess f F = true then F else f) F = false := by
    cases h1 : Op.bytesLess f F with
    | true => exact less_irr F
    | false => exact h1
  have e2 : Op.bytesLess T (if Op.bytesLess T t = true then T else t) = false := by
    cases h1 : Op.bytesLess T t with
    | true => exact less_irr T
    | false => exact h1
  generalize (if Op.bytesLess f F = true then F else f) = a at *
  generalize (if Op.bytesLess T t = true then T else t) = b at *
  cases h9 : Op.bytesLess a b with
  | false => rfl
  | true =>
    have h10 := lt_le (le_lt e1 h9) e2
    rw [h10] at h; cases h
theorem over_none {R : Rou} {F T : List UInt8} (hT : T ≠ []) (h : Op.bytesLess F T = false) : overL R F T = [] := by
  unfold overL
  rw [meet_none hT h, meet_none hT h]
  rfl
end Go.Proofs.Ythckgokkjlnknaa

set_option linter.unusedVariables false
set_option linter.unusedSimpArgs false
set_option maxRecDepth 100000
namespace Go.Proofs.Ythckgokkjlnknaa
open Go.RowKit Go.Deep

def SpN (w : World) (cs : List Value) (s : Spn) : Prop := ∃ a1 c1 a2 c2, cs = [.slice a1 s.1.length c1, .slice a2 s.2.length c2] ∧ Rd w (.slice a1 s.1.length c1) s.1 ∧ Rd w (.slice a2 s.2.length c2) s.2
def SpsN (w : World) (x : Value) (S : List Spn) : Prop := ∃ M : List (List Value), M.length = S.length ∧ Rws 2 w x M ∧ ∀ (i : Nat) r s, M[i]? = some r → S[i]? = some s → SpN w r s
theorem SpN.old {w w' : World} {cs : List Value} {s : Spn} (h : SpN w cs s) (hb : Below w.heap.size w w') : SpN w' cs s := by
  obtain ⟨a1, c1, a2, c2, e, h1, h2⟩ := h
  exact ⟨a1, c1, a2, c2, e, h1.old hb, h2.old hb⟩
theorem SpsN.old {w w' : World} {x : Value} {S : List Spn} (h : SpsN w x S) (hb : Below w.heap.size w w') : SpsN w' x S := by
  obtain ⟨M, h1, h2, h3⟩ := h
  exact ⟨M, h1, h2.old hb, fun i r s p q => (h3 i r s p q).old hb⟩
theorem SpsN.nil (w : World) : SpsN w (.slice none 0 0) [] := ⟨[], rfl, Rws.nil 2 w, fun i r s h => by simp at h⟩
theorem sps_cells {w : World} {x : Value} {S : List Spn} (h : SpsN w x S) : ∃ ao c, x = .slice ao S.length c ∧ S.length ≤ c ∧ c ≤ maxLen ∧ ∀ (k : Nat) s, S[k]? = some s → ∃ b off a1 d1 a2 d2, ao = some ⟨b, off, none⟩ ∧
    w.cell? ⟨b, off + k * 2, none⟩ = some (.slice a1 s.1.length d1) ∧ w.cell? ⟨b, off + k * 2 + 1, none⟩ = some (.slice a2 s.2.length d2) ∧ Rd w (.slice a1 s.1.length d1) s.1 ∧ Rd w (.slice a2 s.2.length d2) s.2 := by
  obtain ⟨M, h1, h2, h3⟩ := h
  obtain ⟨ao, c, rfl, h4, h5⟩ := h2.form
  rw [h1] at h4 h2 ⊢
  refine ⟨ao, c, rfl, h4, h5, fun k s hk => ?_⟩
  have hkl := (List.getElem?_eq_some_iff.1 hk).1
  have hM : M[k]? = some (M[k]'(by omega)) := List.getElem?_eq_getElem (by omega)
  obtain ⟨a1, d1, a2, d2, e, r1, r2⟩ := h3 k _ s hM hk
  obtain ⟨b, off, rfl, hc⟩ := h2.get (by decide) hM
  rw [e] at hc
  exact ⟨b, off, a1, d1, a2, d2, rfl, hc 0 _ rfl, hc 1 _ rfl, r1, r2⟩
end Go.Proofs.Ythckgokkjlnknaa

set_option linter.unusedVariables false
set_option linter.unusedSimpArgs false
set_option maxRecDepth 100000
namespace Go.Proofs.Ythckgokkjlnknaa
open Go.RowKit Go.Deep

theorem Rws.hcut {P : Program} {size : Nat} {w : World} {x : Value} {L : List (List Value)} (h : Rws size w x L) (hsz : 0 < size) (t e : TypeId) (ht : P.underlying t = some (.slice e)) (hinfo : (P.info? e).map (fun i => i.size) = some size) (n : Nat) (hn : n ≤ L.length) :
    ∃ (ao : Option Addr) (c : Nat), (∀ W, (Instr.slice t x (some (.int .i64 (n : Int))) none none).run P W = .ok (.slice ao (L.length - n) c) W) ∧ Rws size w (.slice ao (L.length - n) c) (L.drop n) ∧ (∀ k, blk (.slice ao (L.length - n) c) = some k → blk x = some k) := by
  obtain ⟨i0, hi, hz1⟩ : ∃ i, P.info? e = some i ∧ i.size = size := by
    cases hq : P.info? e with
    | none => rw [hq] at hinfo; cases hinfo
    | some i => rw [hq] at hinfo; exact ⟨i, rfl, by simpa using hinfo⟩
  have h0 := h
  obtain ⟨ao, c, rfl, h1, h2, h3, h5, h4⟩ := h
  have ht' : P.underlying t = some (.slice (P.elem t)) := by simp [Program.elem, ht]
  have he : P.elem t = e := by simp [Program.elem, ht]
  have hs : ∀ W, (sizeOf e).run P W = .ok size W := fun W => by simp [sizeOf, typeInfo, hi, hz1]
  have hlen : (L.drop n).length = L.length - n := List.length_drop
  refine ⟨if c = n then ao else ao.map (·.add (n * size)), c - n, fun W => ?_, ?_, ?_⟩
  · rw [run_slice_l W t _ _ _ ht' .i64 _ (by omega) (by omega), he, hs]
    simp [Result.andThen, sliced]
  · refine ⟨_, _, by rw [hlen], by rw [hlen]; omega, by omega, ?_, h5.sub fun r hr => List.mem_of_mem_drop hr, ?_⟩
    · intro hne
      split at hne
      · omega
      · cases ao with
        | none => have := h3 rfl; omega
        | some a => simp at hne
    · intro a ha j u hu
      have hjl : j < (L.drop n).flatten.length := (List.getElem?_eq_some_iff.1 hu).1
      have hwd : Wide size (L.drop n) := h5.sub fun r hr => List.mem_of_mem_drop hr
      have hpos : 0 < (L.drop n).length := by
        rcases Nat.eq_zero_or_pos (L.drop n).length with h | h
        · rw [List.eq_nil_of_length_eq_zero h] at hjl; simp at hjl
        · exact h
      rw [if_neg (by omega)] at ha
      cases ao with
      | none => simp at ha
      | some a0 =>
        simp at ha
        subst ha
        have e : L.flatten = (L.take n).flatten ++ (L.drop n).flatten := by rw [← List.flatten_append, List.take_append_drop]
        have hwt : Wide size (L.take n) := h5.sub fun r hr => List.mem_of_mem_take hr
        have hlt : (L.take n).flatten.length = n * size := by rw [hwt.len, List.length_take]; congr 1; omega
        have h7 : L.flatten[n * size + j]? = some u := by
          rw [e, List.getElem?_append_right (by omega), hlt]
          rw [show n * size + j - n * size = j by omega]
          exact hu
        have h6 := h4 a0 rfl _ _ h7
        rw [Deep.add_add]
        exact h6
  · intro k hk
    split at hk
    · cases ao with
      | none => simp [blk] at hk
      | some a => simpa [blk] using hk
    · cases ao with
      | none => simp [blk] at hk
      | some a => simpa [blk, add_block] using hk

/-- 'x[:n:n]' at spans. -/
theorem cut_both2 (a : Option Addr) (l c n : Nat) (hn : n ≤ c) : ∀ W, (Instr.slice 89 (.slice a l c) none (some (.int .i64 (n : Int))) (some (.int .i64 (n : Int)))).run Try.prog W = .ok (.slice a n n) W := fun W => by
  have ht' : Try.prog.underlying 89 = some (.slice (Try.prog.elem 89)) := by simp [Program.elem, Try.underlying89]
  have he : Try.prog.elem 89 = 66 := by simp [Program.elem, Try.underlying89]
  have hi : (Try.prog.info? 66).map (fun i => i.size) = some 2 := by kernel_rfl
  obtain ⟨i0, hi0, hz1⟩ : ∃ i, Try.prog.info? 66 = some i ∧ i.size = 2 := by
    cases hq : Try.prog.info? 66 with
    | none => rw [hq] at hi; cases hi
    | some i => rw [hq] at hi; exact ⟨i, rfl, by simpa using hi⟩
  have hs : ∀ W, (sizeOf 66).run Try.prog W = .ok 2 W := fun W => by simp [sizeOf, typeInfo, hi0, hz1]
  have h0 : ∀ x : Addr, x.add 0 = x := fun x => by unfold Addr.add; simp
  rw [run_slice_hm W 89 _ _ _ ht' .i64 .i64 _ _ (by omega) (by omega) (by omega), he, hs]
  cases a <;> simp [Result.andThen, sliced, h0]
theorem own_lit (w : World) (u v : Value) : (w.alloc (.cells #[u, v] 66)).ownsRow w.heap.size 66 2 (.slice (some ⟨w.heap.size, 0, none⟩) 1 1) 1 [u, v] :=
  ⟨by simp, .inr ⟨w.heap.size, 1, _, rfl, Nat.le_refl _, heap_alloc_new w _, Nat.le_refl _, by unfold maxLen; omega, by simp, by simp⟩⟩
theorem own_form2 {w : World} {base : Nat} {e : TypeId} {v : Value} {n : Nat} {xs : List Value} (h : w.ownsRow base e 2 v n xs) : ∃ o c, v = .slice o n c := by
  obtain ⟨h1, h2⟩ := h
  rcases h2 with ⟨h2, h3⟩ | ⟨g', cap, cur, rfl, -⟩
  · exact ⟨none, 0, by rw [h3]; exact h2⟩
  · exact ⟨_, _, rfl⟩
theorem app_full {w : World} {vao yao : Option Addr} {n vc m yc : Nat} {ML NL : List (List Value)} (h1 : Rws 2 w (.slice vao n vc) ML) {k : Nat} (hk : k ≤ ML.length) (h2 : Rws 2 w (.slice yao m yc) NL) (hpos : 1 ≤ NL.length) (hsz : ML.length + NL.length ≤ 1000) :
    ∃ o c' w', (Builtin.append_ #[89, 89] 89 #[.slice vao k k, .slice yao m yc]).run Try.prog w = .ok (.slice o (k + NL.length) c') w' ∧ Rws 2 w' (.slice o (k + NL.length) c') (ML.take k ++ NL) ∧ Below w.heap.size w w' := by
  have hinfo : (Try.prog.info? 66).map (fun i => (i.zero, i.size, i.bytes)) = some (some (.agg #[.slice none 0 0, .slice none 0 0]), 2, 48) := by kernel_rfl
  obtain ⟨i0, hi, hz0, hz1, hz2⟩ : ∃ i, Try.prog.info? 66 = some i ∧ i.zero = some (.agg #[.slice none 0 0, .slice none 0 0]) ∧ i.size = 2 ∧ i.bytes = 48 := by
    cases hq : Try.prog.info? 66 with
    | none => rw [hq] at hinfo; cases hinfo
    | some i => rw [hq] at hinfo; simp at hinfo; exact ⟨i, rfl, hinfo⟩
  have hw1 := h1.wide
  have hw2 := h2.wide
  obtain ⟨ao, c, e1, p1, p2, p3, p5, p4⟩ := h1
  obtain ⟨ao2, c2, e2, r1, r2, r3, r5, r4⟩ := h2
  cases e1
  cases e2
  have hwt : Wide 2 (ML.take k) := hw1.sub fun r hr => List.mem_of_mem_take hr
  have hlt : (ML.take k).length = k := by rw [List.length_take]; omega
  cases yao with
  | none => have := r3 rfl; omega
  | some ya =>
    have hnews : ∀ j u, NL.flatten[j]? = some u → w.cell? (ya.add j) = some u := r4 ya rfl
    cases vao with
    | none =>
      have hc := p3 rfl
      have hk0 : k = 0 := by omega
      subst hk0
      obtain ⟨v', w', hrun, ho, hg, -⟩ := run_append_own (P := Try.prog) (w := w) w.heap.size 89 89 66 i0 (.agg #[.slice none 0 0, .slice none 0 0]) 2 48 Try.underlying89 hi hz0 hz1 hz2 (by simp [Value.cells]) (by decide) (.slice none 0 0) 0 [] (World.ownsRow_nil _ _ _ _) ya NL.length yc NL.flatten (by rw [hw2.len]) hnews hw2.one (by unfold maxLen; omega) (by omega) (Nat.le_refl _)
      obtain ⟨o, c', rfl⟩ := own_form2 ho
      refine ⟨o, c', w', hrun, ?_, (Below.refl _ _).grown hg (Nat.le_refl _) (fun q hq => by cases hq)⟩
      have := Rws.own (L := NL) (base := w.heap.size) (e := 66) (size := 2) (w := w') (x := .slice o (0 + NL.length) c') (by simpa using ho) hw2
      simpa using this
    | some va =>
      have holds : ∀ j u, (ML.take k).flatten[j]? = some u → w.cell? (va.add j) = some u := fun j u hu => by
        refine p4 va rfl j u ?_
        have e : ML.flatten = (ML.take k).flatten ++ (ML.drop k).flatten := by rw [← List.flatten_append, List.take_append_drop]
        rw [e, List.getElem?_append_left (List.getElem?_eq_some_iff.1 hu).1]
        exact hu
      obtain ⟨v', w', hrun, ho, hg⟩ := run_append_arg_grows (P := Try.prog) (w := w) 89 89 66 i0 (.agg #[.slice none 0 0, .slice none 0 0]) 2 48 Try.underlying89 hi hz0 hz1 hz2 (by simp [Value.cells]) (by decide) va k k (ML.take k).flatten (by rw [hwt.len, hlt]) holds ya NL.length yc NL.flatten (by rw [hw2.len]) hnews (by omega) (by unfold maxLen; omega) (by omega)
      obtain ⟨o, c', rfl⟩ := own_form2 ho
      refine ⟨o, c', w', hrun, ?_, (Below.refl _ _).grown hg (Nat.le_refl _) (fun q hq => by cases hq)⟩
      have hwa : Wide 2 (ML.take k ++ NL) := fun r hr => by
        rcases List.mem_append.1 hr with h | h
        · exact hwt r h
        · exact hw2 r h
      have hl : (ML.take k ++ NL).length = k + NL.length := by rw [List.length_append, hlt]
      have := Rws.own (L := ML.take k ++ NL) (base := w.heap.size) (e := 66) (size := 2) (w := w') (x := .slice o (k + NL.length) c') (by rw [hl, List.flatten_append]; exact ho) hwa
      exact this
theorem app_lit {w : World} {u v : Value} (hu : u.oneCell' = true) (hv : v.oneCell' = true) {yao : Option Addr} {m yc : Nat} {NL : List (List Value)} (h2 : Rws 2 (w.alloc (.cells #[u, v] 66)) (.slice yao m yc) NL) (hsz : NL.length ≤ 1000) :
    ∃ o c' w', (Builtin.append_ #[89, 89] 89 #[.slice (some ⟨w.heap.size, 0, none⟩) 1 1, .slice yao m yc]).run Try.prog (w.alloc (.cells #[u, v] 66)) = .ok (.slice o (1 + NL.length) c') w' ∧ Rws 2 w' (.slice o (1 + NL.length) c') ([u, v] :: NL) ∧ Below w.heap.size (w.alloc (.cells #[u, v] 66)) w' := by
  have hinfo : (Try.prog.info? 66).map (fun i => (i.zero, i.size, i.bytes)) = some (some (.agg #[.slice none 0 0, .slice none 0 0]), 2, 48) := by kernel_rfl
  obtain ⟨i0, hi, hz0, hz1, hz2⟩ : ∃ i, Try.prog.info? 66 = some i ∧ i.zero = some (.agg #[.slice none 0 0, .slice none 0 0]) ∧ i.size = 2 ∧ i.bytes = 48 := by
    cases hq : Try.prog.info? 66 with
    | none => rw [hq] at hinfo; cases hinfo
    | some i => rw [hq] at hinfo; simp at hinfo; exact ⟨i, rfl, hinfo⟩
  have hown := own_lit w u v
  have hw2 := h2.wide
  have hwa : Wide 2 ([u, v] :: NL) := fun r hr => by
    rcases List.mem_cons.1 hr with h | h
    · subst h; exact ⟨rfl, fun q hq => by simp at hq; rcases hq with rfl | rfl <;> assumption⟩
    · exact hw2 r h
  have hbs : w.heap.size ≤ (w.alloc (.cells #[u, v] 66)).heap.size := by simp
  obtain ⟨ao2, c2, e2, r1, r2, r3, r5, r4⟩ := h2
  cases e2
  cases yao with
  | none =>
    have hc := r3 rfl
    have hn0 : NL = [] := List.eq_nil_of_length_eq_zero (by omega)
    subst hn0
    subst hc
    refine ⟨some ⟨w.heap.size, 0, none⟩, 1, _, run_append_owned_none (P := Try.prog) (w := w.alloc (.cells #[u, v] 66)) w.heap.size 89 89 66 i0 2 Try.underlying89 hi _ 1 [u, v] hown, ?_, Below.refl _ _ |>.mono hbs⟩
    exact Rws.own (L := [[u, v]]) (size := 2) (by simpa using hown) hwa
  | some ya =>
    have hnews : ∀ j q, NL.flatten[j]? = some q → (w.alloc (.cells #[u, v] 66)).cell? (ya.add j) = some q := r4 ya rfl
    obtain ⟨v', w', hrun, ho, hg, -⟩ := run_append_own (P := Try.prog) (w := w.alloc (.cells #[u, v] 66)) w.heap.size 89 89 66 i0 (.agg #[.slice none 0 0, .slice none 0 0]) 2 48 Try.underlying89 hi hz0 hz1 hz2 (by simp [Value.cells]) (by decide) _ 1 [u, v] hown ya NL.length yc NL.flatten (by rw [hw2.len]) hnews hw2.one (by unfold maxLen; omega) (by omega) hbs
    obtain ⟨o, c', rfl⟩ := own_form2 ho
    refine ⟨o, c', w', hrun, ?_, ((Below.refl _ _).mono hbs).grown hg hbs (fun q hq => by cases hq; exact Nat.le_refl _)⟩
    have hl : ([u, v] :: NL).length = 1 + NL.length := by rw [List.length_cons]; omega
    have := Rws.own (L := [u, v] :: NL) (base := w.heap.size) (e := 66) (size := 2) (w := w') (x := .slice o (1 + NL.length) c') (by rw [hl]; exact ho) hwa
    exact this
theorem rows_ins {α β : Type} {Q : α → β → Prop} {ML : List α} {S : List β} {pr : α} {ps : β} {k : Nat} (hl : ML.length = S.length) (hk : k ≤ S.length) (h : ∀ (i : Nat) r s, ML[i]? = some r → S[i]? = some s → Q r s) (hp : Q pr ps) :
    ∀ (i : Nat) r s, (ML.take k ++ pr :: ML.drop k)[i]? = some r → (S.take k ++ ps :: S.drop k)[i]? = some s → Q r s := by
  intro i r s h1 h2
  have l1 : (ML.take k).length = k := by rw [List.length_take]; omega
  have l2 : (S.take k).length = k := by rw [List.length_take]; omega
  rcases Nat.lt_trichotomy i k with hi | hi | hi
  · rw [List.getElem?_append_left (by omega), List.getElem?_take_of_lt hi] at h1
    rw [List.getElem?_append_left (by omega), List.getElem?_take_of_lt hi] at h2
    exact h i r s h1 h2
  · subst hi
    rw [List.getElem?_append_right (by omega), l1, Nat.sub_self] at h1
    rw [List.getElem?_append_right (by omega), l2, Nat.sub_self] at h2
    simp at h1 h2
    subst h1; subst h2; exact hp
  · obtain ⟨j, rfl⟩ : ∃ j, i = k + (j + 1) := ⟨i - k - 1, by omega⟩
    rw [List.getElem?_append_right (by omega), l1, show k + (j + 1) - k = j + 1 by omega, List.getElem?_cons_succ, List.getElem?_drop] at h1
    rw [List.getElem?_append_right (by omega), l2, show k + (j + 1) - k = j + 1 by omega, List.getElem?_cons_succ, List.getElem?_drop] at h2
    exact h _ r s h1 h2
theorem met_mem {L : List Ow} {F T : List UInt8} : ∀ n z, z ∈ metL L F T n → ∃ k o, k < n ∧ L[k]? = some o ∧ z = o.g ∧ meetB F T o.f (toL L k) = true
  | 0, z, h => by cases h
  | n + 1, z, h => by
    cases ho : L[n]? with
    | none =>
      have e : metL L F T (n + 1) = metL L F T n ++ [] := by show metL L F T n ++ _ = _; rw [ho]
      rw [e, List.append_nil] at h
      obtain ⟨k, o, h1, h2⟩ := met_mem n z h
      exact ⟨k, o, by omega, h2⟩
    | some o =>
      rw [met_step ho] at h
      rcases List.mem_append.1 h with h | h
      · obtain ⟨k, o, h1, h2⟩ := met_mem n z h
        exact ⟨k, o, by omega, h2⟩
      · cases hm : meetB F T o.f (toL L n) with
        | true => rw [hm] at h; exact ⟨n, o, by omega, ho, by simpa using h, hm⟩
        | false => rw [hm] at h; simp at h
theorem own_at {w : World} {base n c : Nat} {avo : Option Addr} {M : List Int} (h : w.ownsRow base 3 1 (.slice avo n c) n (M.map iv)) {k : Nat} {z : Int} (hk : M[k]? = some z) : ∃ g, avo = some ⟨g, 0, none⟩ ∧ w.cell? ⟨g, k, none⟩ = some (.int .i64 z) := by
  have h0 := h
  obtain ⟨h1, h2⟩ := h
  rcases h2 with ⟨h2, h3⟩ | ⟨g', cap, cur, e, -⟩
  · subst h3
    have := (List.getElem?_eq_some_iff.1 hk).1
    simp at h1; subst h1; simp at this
  · cases e
    exact ⟨g', rfl, own_cell h0 (by rw [List.getElem?_map, hk]; rfl)⟩
theorem part_spec {R : Rou} (hR : RtOk R) {F T : List UInt8} {k : Nat} {o : Ow} (ho : R.sp[k]? = some o) : AllA R o.g o.f (toL R.sp k) ∧ ptZ R F T o.g = (bothF F o.f, bothT T (toL R.sp k)) := by
  refine ⟨.inr (.inr ⟨k, o, ?_, (hR.grp k o ho).2.2, ho, rfl, rfl⟩), ?_⟩
  · unfold isB
    have := (hR.grp k o ho).1
    simp; intro _ _; omega
  · unfold ptZ
    rw [(hR.grp k o ho).2.2]
    have e : ((k : Int)).toNat = k := by omega
    rw [e, ho]; rfl
/-- append WHOSE RUN IS KNOWN, as one step of a region that draws. -/
theorem step_known {P : Program} {ops : Array Oper} {o : Oper} {a : Act} {w w' : World} {K : Act → World → Prop} {Q : Exit → Act → World → Prop} {E : Prop}
    (s x : Operand) (t : TypeId) (hop : o.op = Op.call { callee := Callee.builtin Builtin.append, args := #[s, x], argTypes := #[t, t] }) (hty : o.type = t)
    (u y v : Value) (hs : a.eval s = u) (hx : a.eval x = y) (hrun : (Builtin.append_ #[t, t] t #[u, y]).run P w = .ok v w')
    (hw : Region.wanted o (yielded ops a.tmps) = true) (hK : K (a.put o.dst v) w') :
    if Region.wanted o (yielded ops a.tmps) = true then Oper.wp P o a w K Q else E := by
  rw [if_pos hw]
  unfold Oper.wp
  simp [execOp, hop, hty, resolve, invoke, builtin, hs, hx, hrun, Result.andThen]
  exact hK
end Go.Proofs.Ythckgokkjlnknaa

