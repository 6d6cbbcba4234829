import Derived.Test.YtdaecndbdinddaaRows
import Derived.WalkKit
import Derived.WalkSpells
import Derived.WalkLawsBesides
import Derived.Laws.AppendOwnNone
import Derived.Deep.Slices
import Derived.Deep.AppendLies
import Derived.BigQuiet
import Derived.Deep.QuietTactic
import Derived.Deep.MidRow
import Derived.Laws.MakeOwn
import Derived.Lib.Bytes
import Derived.Shelf.Abstract
import Derived.LoopN
import Derived.Deep.OwnRows
import Derived.OpenShut
import Derived.OwnWalk
import Derived.Great.FillDense
import Derived.Laws.Tables
import Derived.Deep.RegionHeld3
import Derived.Deep.WholeRow
import Derived.BigRegion
import Derived.Great.BuildSlice
import Derived.StillTailTactics
import Derived.Deep.RegionLaw
import Derived.Deep.CutBlock
import Derived.Deep.RegionWith
import Derived.RangeFuncNested
import Derived.RangeFuncBound
import Derived.RangeFuncCalls
import Derived.RangeFuncLeaves
import Derived.RangeFuncBox
import Derived.Shelf.RegionOpen
import Derived.OwnWalkIn
import Derived.TacticsInMore
import Derived.LoopNIn
import Derived.LoopIn
import Derived.OrdersIn
import Derived.Deep.CutRange
import Derived.Sort.CutIn
import Derived.LaidEql
import Derived.Stop.Asserts
import Derived.RowKitTokens
import Derived.Lib.SliceRun
import Derived.ProofKit
import Derived.Deep.Matrix
import Derived.Deep.Grids
import Derived.ArgAppend
import Derived.Deep.RegionHeldLaw
import Derived.Lib.SlBytesConst
import Derived.Deep.LoopGhost
import Derived.Test.YtdaecndbdinddaaRv
import Derived.Test.YtdaecndbdinddaaRw
import Derived.Test.YtdaecndbdinddaaRlaw
import Derived.Test.YtdaecndbdinddaaRx
import Derived.Test.YtdaecndbdinddaaRm
namespace Go.Proofs.Ytdaecndbdinddaa
open Go.RowKit

/-- 'x[n:]'. -/
theorem Rd.cut {P : Program} {w : World} {x : Value} {l : List UInt8} (h : Rd w x l) (t e : TypeId) (ht : P.underlying t = some (.slice e)) (hinfo : (P.info? e).map (fun i => (i.zero, i.size, i.bytes)) = some (some (.int .u8 0), 1, 1)) (n : Nat) (hn : n ≤ l.length) :
    ∃ (ao : Option Addr) (c : Nat), (∀ W, (Instr.slice t x (some (.int .i64 (n : Int))) none none).run P W = .ok (.slice ao (l.length - n) c) W) ∧ Rd w (.slice ao (l.length - n) c) (l.drop n) ∧ (∀ k, blk (.slice ao (l.length - n) c) = some k → blk x = some k) := by
  obtain ⟨i0, hi, hz0, hz1, hz2⟩ := info_parts hinfo
  obtain ⟨ao, c, rfl, h1, h2, h3, h4⟩ := h
  have ht' : P.underlying t = some (.slice (P.elem t)) := by simp [Program.elem, ht]
  have he : P.elem t = e := by simp [Program.elem, ht]
  have hs : ∀ W, (sizeOf e).run P W = .ok 1 W := fun W => by simp [sizeOf, typeInfo, hi, hz1]
  have hlen : (l.drop n).length = l.length - n := List.length_drop
  refine ⟨if c = n then ao else ao.map (·.add (n * 1)), c - n, fun W => ?_, ?_, ?_⟩
  · rw [run_slice_l W t _ _ _ ht' .i64 _ (by omega) (by omega), he, hs]
    simp [Result.andThen, sliced]
  · refine ⟨_, _, by rw [hlen], by rw [hlen]; omega, by omega, ?_, ?_⟩
    · intro hne
      split at hne
      · omega
      · cases ao with
        | none => have := h3 rfl; omega
        | some a => simp at hne
    · intro a ha j u hu
      have hj : j < l.length - n := by
        have := (List.getElem?_eq_some_iff.1 hu).1
        simpa using this
      rw [if_neg (by omega)] at ha
      cases ao with
      | none => simp at ha
      | some a0 =>
        simp at ha
        subst ha
        rw [List.map_drop, List.getElem?_drop] at hu
        have := h4 a0 rfl (n + j) u hu
        have e2 : (a0.add n).add j = a0.add (n + j) := by
          unfold Addr.add
          by_cases hn0 : n = 0
          · subst hn0; simp
          · by_cases hj0 : j = 0
            · subst hj0; simp
            · simp [hn0, hj0]; omega
        rw [e2]
        exact this
  · intro k hk
    split at hk
    · cases ao with
      | none => simp [blk] at hk
      | some a => simpa [blk] using hk
    · cases ao with
      | none => simp [blk] at hk
      | some a => simpa [blk, add_block] using hk

end Go.Proofs.Ytdaecndbdinddaa

namespace Go.Proofs.Ytdaecndbdinddaa
open Go.RowKit

/-- 'x[n:]'. -/
theorem Rws.cut {P : Program} {size : Nat} {w : World} {x : Value} {L : List (List Value)} (h : Rws size w x L) (hsz : 0 < size) (t e : TypeId) (ht : P.underlying t = some (.slice e)) (hinfo : (P.info? e).map (fun i => i.size) = some size) (n : Nat) (hn : n ≤ L.length) :
    ∃ (ao : Option Addr) (c : Nat), (∀ W, (Instr.slice t x (some (.int .i64 (n : Int))) none none).run P W = .ok (.slice ao (L.length - n) c) W) ∧ Rws size w (.slice ao (L.length - n) c) (L.drop n) ∧ (∀ k, blk (.slice ao (L.length - n) c) = some k → blk x = some k) := by
  obtain ⟨i0, hi, hz1⟩ : ∃ i, P.info? e = some i ∧ i.size = size := by
    cases hq : P.info? e with
    | none => rw [hq] at hinfo; cases hinfo
    | some i => rw [hq] at hinfo; exact ⟨i, rfl, by simpa using hinfo⟩
  have h0 := h
  obtain ⟨ao, c, rfl, h1, h2, h3, h5, h4⟩ := h
  have ht' : P.underlying t = some (.slice (P.elem t)) := by simp [Program.elem, ht]
  have he : P.elem t = e := by simp [Program.elem, ht]
  have hs : ∀ W, (sizeOf e).run P W = .ok size W := fun W => by simp [sizeOf, typeInfo, hi, hz1]
  have hlen : (L.drop n).length = L.length - n := List.length_drop
  refine ⟨if c = n then ao else ao.map (·.add (n * size)), c - n, fun W => ?_, ?_, ?_⟩
  · rw [run_slice_l W t _ _ _ ht' .i64 _ (by omega) (by omega), he, hs]
    simp [Result.andThen, sliced]
  · refine ⟨_, _, by rw [hlen], by rw [hlen]; omega, by omega, ?_, h5.sub fun r hr => List.mem_of_mem_drop hr, ?_⟩
    · intro hne
      split at hne
      · omega
      · cases ao with
        | none => have := h3 rfl; omega
        | some a => simp at hne
    · intro a ha j u hu
      have hjl : j < (L.drop n).flatten.length := (List.getElem?_eq_some_iff.1 hu).1
      have hwd : Wide size (L.drop n) := h5.sub fun r hr => List.mem_of_mem_drop hr
      have hpos : 0 < (L.drop n).length := by
        rcases Nat.eq_zero_or_pos (L.drop n).length with h | h
        · rw [List.eq_nil_of_length_eq_zero h] at hjl; simp at hjl
        · exact h
      rw [if_neg (by omega)] at ha
      cases ao with
      | none => simp at ha
      | some a0 =>
        simp at ha
        subst ha
        have e : L.flatten = (L.take n).flatten ++ (L.drop n).flatten := by rw [← List.flatten_append, List.take_append_drop]
        have hwt : Wide size (L.take n) := h5.sub fun r hr => List.mem_of_mem_take hr
        have hlt : (L.take n).flatten.length = n * size := by rw [hwt.len, List.length_take]; congr 1; omega
        have h7 : L.flatten[n * size + j]? = some u := by
          rw [e, List.getElem?_append_right (by omega), hlt]
          rw [show n * size + j - n * size = j by omega]
          exact hu
        have h6 := h4 a0 rfl _ _ h7
        rw [Deep.add_add]
        exact h6
  · intro k hk
    split at hk
    · cases ao with
      | none => simp [blk] at hk
      | some a => simpa [blk] using hk
    · cases ao with
      | none => simp [blk] at hk
      | some a => simpa [blk, add_block] using hk

end Go.Proofs.Ytdaecndbdinddaa

set_option linter.unusedVariables false

set_option linter.unusedVariables false
set_option maxRecDepth 100000

set_option linter.unusedVariables false
set_option maxRecDepth 100000

set_option linter.unusedVariables false
set_option maxRecDepth 100000

set_option linter.unusedVariables false
set_option maxRecDepth 100000


set_option linter.unusedVariables false
set_option maxRecDepth 100000

set_option linter.unusedVariables false

set_option linter.unusedVariables false
set_option maxRecDepth 100000

set_option linter.unusedVariables false
set_option maxRecDepth 100000

set_option linter.unusedVariables false
set_option maxRecDepth 100000

set_option linter.unusedVariables false
set_option maxRecDepth 100000

set_option linter.unusedVariables false
namespace Go.Proofs.Ytdaecndbdinddaa
open Go.RowKit Go.Shelf
attribute [local go_sem] Oper.semAt_some

variable {F : Fence} {n : Nat} {P : Program}

end Go.Proofs.Ytdaecndbdinddaa

set_option linter.unusedVariables false
namespace Go.Proofs.Ytdaecndbdinddaa
open Go.RowKit Go.Shelf
attribute [local go_sem] Oper.semAt_some

end Go.Proofs.Ytdaecndbdinddaa

set_option linter.unusedVariables false

set_option linter.unusedVariables false
set_option maxRecDepth 100000
namespace Go.Proofs.Ytdaecndbdinddaa
open Go.RowKit Go.Shelf
attribute [local go_sem] Oper.semAt_some

end Go.Proofs.Ytdaecndbdinddaa

set_option linter.unusedVariables false

set_option linter.unusedVariables false
set_option maxRecDepth 100000

set_option linter.unusedVariables false
set_option maxRecDepth 100000

set_option linter.unusedVariables false
set_option maxRecDepth 100000

set_option linter.unusedVariables false
set_option maxRecDepth 100000

set_option linter.unusedVariables false
set_option maxRecDepth 100000

set_option linter.unusedVariables false
set_option maxRecDepth 100000

set_option linter.unusedVariables false
set_option maxRecDepth 100000

set_option linter.unusedVariables false
set_option maxRecDepth 100000

set_option linter.unusedVariables false
set_option maxRecDepth 100000

set_option linter.unusedVariables false
set_option maxRecDepth 100000

set_option linter.unusedVariables false
set_option linter.unusedSimpArgs false
set_option maxRecDepth 100000
namespace Go.Proofs.Ytdaecndbdinddaa
open Go.RowKit Go.ChangeShapes Go.WideShapes Go.ChangeAt Go.Deep

/-- The slice x reads as a list of bytes. -/
def Bss (w : World) (x : Value) (R : List Rc) : Prop := Rws 1 w x (R.map fun r => [rcv r]) ∧ ∀ r ∈ R, Rd w (rcv r) r.b
theorem Bss.old {w w' : World} {x : Value} {R : List Rc} (h : Bss w x R) (hb : Below w.heap.size w w') : Bss w' x R := ⟨h.1.old hb, fun r hr => (h.2 r hr).old hb⟩
theorem Bss.form {w : World} {x : Value} {R : List Rc} (h : Bss w x R) : ∃ ao c, x = .slice ao R.length c ∧ R.length ≤ c ∧ c ≤ maxLen := by
  obtain ⟨ao, c, e, h1, h2⟩ := h.1.form
  rw [List.length_map] at e h1
  exact ⟨ao, c, e, h1, h2⟩
theorem Bss.get {w : World} {ao : Option Addr} {n c : Nat} {R : List Rc} (h : Bss w (.slice ao n c) R) {k : Nat} {r : Rc} (hk : R[k]? = some r) : ∃ b off, ao = some ⟨b, off, none⟩ ∧ w.cell? ⟨b, off + k, none⟩ = some (rcv r) ∧ Rd w (rcv r) r.b := by
  obtain ⟨b, off, e, hc⟩ := h.1.get (by decide) (k := k) (r := [rcv r]) (by rw [List.getElem?_map, hk]; rfl)
  have := hc 0 (rcv r) rfl
  rw [Nat.mul_one, Nat.add_zero] at this
  exact ⟨b, off, e, this, h.2 r (List.mem_of_getElem? hk)⟩
theorem Bss.cut {w : World} {x : Value} {R : List Rc} (h : Bss w x R) (n : Nat) (hn : n ≤ R.length) :
    ∃ (ao : Option Addr) (c : Nat), (∀ W, (Instr.slice 60 x (some (.int .i64 (n : Int))) none none).run Try.prog W = .ok (.slice ao (R.length - n) c) W) ∧ Bss w (.slice ao (R.length - n) c) (R.drop n) := by
  obtain ⟨ao, c, h1, h2, -⟩ := h.1.cut (P := Try.prog) (by decide) 60 28 Try.underlying60 (by kernel_rfl) n (by rw [List.length_map]; exact hn)
  rw [List.length_map] at h1 h2
  refine ⟨ao, c, h1, ⟨by rw [List.map_drop]; exact h2, fun r hr => h.2 r (List.mem_of_mem_drop hr)⟩⟩
theorem flat_one (R : List Rc) : (R.map fun r => [rcv r]).flatten = R.map rcv := by
  induction R with
  | nil => rfl
  | cons r R ih => simp only [List.map_cons, List.flatten_cons, ih]; rfl
/-- A list of bytes that came in. -/
theorem bss_open {H : Type} {enc : TypeId × Value → H} {W : World} {a : Option Addr} {len cap : Nat} {d : DataW H} {p : List MemPlace} (h : DataW.Trod enc Try.prog W 0 (fun _ => true) true 60 (.slice a len cap) d p) : ∃ R : List Rc, R.length = len ∧ Bss W (.slice a len cap) R := by
  obtain ⟨fuel, hf⟩ := h
  rcases open_int_rows Try.underlying60 Try.underlying28 Try.underlying5 (by kernel_rfl) (by kernel_rfl) hf with ⟨hcs, hx⟩ | ⟨x, l, c, A, L, C, Z, hcs, _, hl, hm, hx, hall⟩
  · simp [Value.cells] at hcs
    obtain ⟨rfl, rfl, rfl⟩ := hcs
    exact ⟨[], rfl, Rws.nil _ _, by simp⟩
  · simp [Value.cells] at hcs
    obtain ⟨rfl, rfl, rfl⟩ := hcs
    have each : ∀ r, r < cap → ∃ q : Rc, rcv q = .slice (A r) (L r) (C r) ∧ Rd W (rcv q) q.b := fun r hr => by
      obtain ⟨h1, h2, h3, h4, h5, h6, h7⟩ := hall r hr
      have hlen : (((Z r).take (L r)).map fun n => UInt8.ofNat n.toNat).length = L r := by simp; omega
      refine ⟨⟨A r, C r, ((Z r).take (L r)).map fun n => UInt8.ofNat n.toNat⟩, by unfold rcv; rw [hlen], ?_⟩
      unfold rcv
      refine ⟨A r, C r, rfl, by rw [hlen]; exact h2, h3, h6, fun a ha j u hu => ?_⟩
      have hj : j < L r := by
        have := (List.getElem?_eq_some_iff.1 hu).1
        rw [List.length_map, hlen] at this
        exact this
      have hjz : j < (Z r).length := by omega
      rw [(h7 a ha).2 j (by omega)]
      have hwj := h5 (Z r)[j] (List.getElem_mem hjz)
      have hb := bounds_u8 hwj
      rw [List.map_map, List.getElem?_map, List.getElem?_take_of_lt hj, List.getElem?_eq_getElem hjz] at hu
      simp only [Option.map_some, Option.some.injEq, Function.comp_apply] at hu
      rw [← hu, List.getD_eq_getElem?_getD, List.getElem?_eq_getElem hjz, Option.getD_some]
      unfold bv
      rw [UInt8.toNat_ofNat']
      have e : (Z r)[j] = (((Z r)[j].toNat % 2 ^ 8 : Nat) : Int) := by omega
      rw [← e]
    haveI : Inhabited Rc := ⟨⟨none, 0, []⟩⟩
    obtain ⟨q, hq⟩ := choose_lt each
    have hlen : ((List.range len).map q).length = len := by simp
    refine ⟨(List.range len).map q, hlen, ⟨some x, cap, by rw [List.length_map, hlen], by rw [List.length_map, hlen]; exact hl, hm, (fun h => by cases h), fun r hr => ?_, fun a ha j u hu => ?_⟩, fun r hr => ?_⟩
    · obtain ⟨q', -, rfl⟩ := List.mem_map.1 hr
      refine ⟨rfl, fun u hu => ?_⟩
      obtain rfl := List.mem_singleton.1 hu
      rfl
    · cases ha
      rw [flat_one, List.map_map] at hu
      have hj : j < len := by
        have := (List.getElem?_eq_some_iff.1 hu).1
        simpa using this
      rw [List.getElem?_map, List.getElem?_range hj] at hu
      simp only [Option.map_some, Option.some.injEq] at hu
      rw [(hall j (by omega)).1, ← hu]
      exact congrArg some (hq j (by omega)).1.symm
    · obtain ⟨k, hk, rfl⟩ := List.mem_map.1 hr
      exact (hq k (by have := List.mem_range.1 hk; omega)).2

/-- Tests that came in. -/
theorem bools_rd {H : Type} {enc : TypeId × Value → H} {W : World} {a : Option Addr} {len cap : Nat} {d : DataW H} {p : List MemPlace} (h : DataW.Trod enc Try.prog W 0 (fun _ => true) true 61 (.slice a len cap) d p) : len ≤ cap ∧ cap ≤ maxLen ∧ ∀ k, k < len → ∃ b off v, a = some ⟨b, off, none⟩ ∧ b < W.heap.size ∧ W.cell? ⟨b, off + k, none⟩ = some (.bool v) := by
  obtain ⟨fuel, hf⟩ := h
  rcases open_bools Try.underlying61 Try.underlying4 (by kernel_rfl) hf with ⟨hcs, hx⟩ | ⟨x, l, c, B, hcs, _, hl, hm, hx, hc⟩
  · simp [Value.cells] at hcs
    obtain ⟨rfl, rfl, rfl⟩ := hcs
    exact ⟨Nat.le_refl _, by decide, fun k hk => by omega⟩
  · simp [Value.cells] at hcs
    obtain ⟨rfl, rfl, rfl⟩ := hcs
    refine ⟨hl, hm, fun k hk => ?_⟩
    obtain ⟨b, off, spot⟩ := x
    have hspot : spot = none := by simpa [Addr.add] using World.cell?_spot (hc 0 (by omega))
    subst hspot
    have h0 := hc 0 (by omega)
    have h1 := hc k (by omega)
    rw [Go.WideShapes.add_plain] at h0 h1
    exact ⟨b, off, _, rfl, World.block_lt_of_cell? W _ h0, h1⟩
end Go.Proofs.Ytdaecndbdinddaa

set_option linter.unusedVariables false
set_option maxRecDepth 100000

set_option linter.unusedVariables false
set_option maxRecDepth 100000

set_option linter.unusedVariables false
set_option maxRecDepth 100000

set_option linter.unusedVariables false
set_option maxRecDepth 100000
namespace Go.Proofs.Ytdaecndbdinddaa
open Go.RowKit Go.Shelf
attribute [local go_sem] Oper.semAt_some

end Go.Proofs.Ytdaecndbdinddaa

set_option linter.unusedVariables false
set_option maxRecDepth 100000

set_option linter.unusedVariables false
set_option maxRecDepth 100000

set_option linter.unusedVariables false
set_option maxRecDepth 100000

set_option linter.unusedVariables false
set_option linter.unusedSimpArgs false
set_option maxRecDepth 100000
namespace Go.Proofs.Ytdaecndbdinddaa
open Go.RowKit Go.Shelf
attribute [local go_sem] Oper.semAt_some

end Go.Proofs.Ytdaecndbdinddaa

set_option linter.unusedVariables false
set_option maxRecDepth 100000

set_option linter.unusedVariables false
set_option linter.unusedSimpArgs false
set_option maxRecDepth 100000

set_option linter.unusedVariables false
set_option linter.unusedSimpArgs false
set_option maxRecDepth 100000

set_option linter.unusedVariables false
set_option linter.unusedSimpArgs false
set_option maxRecDepth 100000

set_option linter.unusedVariables false
set_option linter.unusedSimpArgs false
set_option maxRecDepth 100000

set_option linter.unusedVariables false
set_option linter.unusedSimpArgs false
set_option maxRecDepth 100000

set_option linter.unusedVariables false
set_option linter.unusedSimpArgs false
set_option maxRecDepth 100000

set_option linter.unusedVariables false
set_option linter.unusedSimpArgs false
set_option maxRecDepth 100000

set_option linter.unusedVariables false
set_option linter.unusedSimpArgs false
set_option maxRecDepth 100000
namespace Go.Proofs.Ytdaecndbdinddaa.walSame
open Go.RowKit Go.ChangeShapes Go.WideShapes Go.ChangeAt Go.Deep

/-- The tests of an argument. -/
def Bools (w : World) (a : Option Addr) (len : Nat) : Prop := ∀ k, k < len → ∃ b off v, a = some ⟨b, off, none⟩ ∧ b < w.heap.size ∧ w.cell? ⟨b, off + k, none⟩ = some (.bool v)


theorem bools_open {H : Type} {enc : TypeId × Value → H} {W : World} {a : Option Addr} {len cap : Nat} {d : DataW H} {p : List MemPlace} (h : DataW.Trod enc Try.prog W 0 (fun _ => true) true 61 (.slice a len cap) d p) : len ≤ cap ∧ cap ≤ maxLen ∧ Bools W a len := bools_rd h
end Go.Proofs.Ytdaecndbdinddaa.walSame











set_option linter.unusedVariables false

set_option linter.unusedVariables false
set_option linter.unusedSimpArgs false
set_option maxRecDepth 100000

set_option linter.unusedVariables false
set_option linter.unusedSimpArgs false
set_option maxRecDepth 100000

set_option linter.unusedVariables false
set_option linter.unusedSimpArgs false
set_option maxRecDepth 100000
namespace Go.Proofs.Ytdaecndbdinddaa
open Go.RowKit

theorem slice_kind {P : Program} {t e : TypeId} (ht : P.underlying t = some (.slice e)) (k : IntKind) (W : World) (ao : Option Addr) (len cap n : Nat) (h1 : n ≤ len) (h2 : len ≤ cap) :
    (Instr.slice t (.slice ao len cap) (some (.int k (n : Int))) none none).run P W = (Instr.slice t (.slice ao len cap) (some (.int .i64 (n : Int))) none none).run P W := by
  have ht' : P.underlying t = some (.slice (P.elem t)) := by simp [Program.elem, ht]
  rw [run_slice_l W t _ _ _ ht' k _ (by omega) (by omega), run_slice_l W t _ _ _ ht' .i64 _ (by omega) (by omega)]

end Go.Proofs.Ytdaecndbdinddaa

