import Derived.Test.YtdaecndbdinddaaRows
import Derived.WalkKit
import Derived.WalkSpells
import Derived.WalkLawsBesides
import Derived.Laws.AppendOwnNone
import Derived.OpenShut
import Derived.Deep.Slices
import Derived.Deep.AppendLies
import Derived.BigQuiet
import Derived.Deep.QuietTactic
import Derived.Deep.MidRow
import Derived.Laws.MakeOwn
import Derived.Lib.Bytes
import Derived.Shelf.Abstract
import Derived.LoopN
import Derived.Deep.OwnRows
import Derived.OwnWalk
import Derived.Great.FillDense
import Derived.Laws.Tables
import Derived.Deep.RegionHeld3
import Derived.Deep.WholeRow
import Derived.BigRegion
import Derived.Great.BuildSlice
import Derived.StillTailTactics
import Derived.Deep.RegionLaw
import Derived.Deep.CutBlock
import Derived.Deep.RegionWith
import Derived.RangeFuncNested
import Derived.RangeFuncBound
import Derived.RangeFuncCalls
import Derived.RangeFuncLeaves
import Derived.RangeFuncBox
import Derived.Shelf.RegionOpen
import Derived.OwnWalkIn
import Derived.TacticsInMore
import Derived.LoopNIn
import Derived.LoopIn
import Derived.OrdersIn
import Derived.Deep.CutRange
import Derived.Sort.CutIn
import Derived.LaidEql
import Derived.Stop.Asserts
import Derived.RowKitTokens
import Derived.Lib.SliceRun
import Derived.ProofKit
import Derived.Deep.Matrix
import Derived.Deep.Grids
import Derived.Lib.AppendZeros
import Derived.Deep.LoopGhost
import Derived.ArgAppend
import Derived.Deep.RegionHeldLaw
import Derived.Test.YtdaecndbdinddaaRv

namespace Go.Proofs.Ytdaecndbdinddaa
open Go.RowKit

theorem bv_one (l : List UInt8) : ∀ u ∈ l.map bv, u.oneCell' = true := by
  intro u hu
  obtain ⟨_, _, rfl⟩ := List.mem_map.1 hu
  rfl

/-- The block that a slice lies in. -/
def blk : Value → Option Nat
  | .slice (some a) _ _ => some a.block
  | _ => none

theorem add_block (a : Addr) (j : Nat) : (a.add j).block = a.block := by unfold Addr.add; split <;> rfl

/-- What is read stays read, where its block is left alone. -/
theorem Rd.kept {w w' : World} {x : Value} {l : List UInt8} {row : Option Nat} (h : Rd w x l) (hg : w.grownBy w' row) (hne : blk x = none ∨ blk x ≠ row) : Rd w' x l := by
  obtain ⟨ao, c, rfl, h1, h2, h3, h4⟩ := h
  refine ⟨ao, c, rfl, h1, h2, h3, fun a ha j u hu => ?_⟩
  subst ha
  have h6 := h4 a rfl j u hu
  have hlt := World.block_lt_of_cell? w _ h6
  rw [World.cell?_of_block (w := w) (a := a.add j) (hg.block _ hlt (by rw [add_block]; simpa [blk] using hne))]
  exact h6

theorem Rd.below {w0 w w' : World} {x : Value} {l : List UInt8} (h : Rd w0 x l) (hb0 : Below w0.heap.size w0 w) (hb : Below w0.heap.size w w') : Rd w' x l := h.old (hb0.trans hb)

/-- What the call itself made. -/
theorem Rd.own {w : World} {base : Nat} {e : TypeId} {x : Value} {l : List UInt8} (h : w.ownsRow base e 1 x l.length (l.map bv)) : Rd w x l := by
  obtain ⟨h1, h2⟩ := h
  rcases h2 with ⟨rfl, hn⟩ | ⟨g, cap, cur, rfl, hb, hg, hn, hc, hs, ht⟩
  · obtain rfl : l = [] := List.eq_nil_of_length_eq_zero hn
    exact Rd.nil w
  · refine ⟨some ⟨g, 0, none⟩, cap, rfl, hn, hc, (fun h => by cases h), fun a ha => ?_⟩
    cases ha
    intro j u hu
    rw [WideShapes.add_plain, Nat.zero_add, cell_of_row w g j cur e (0, 0) hg]
    rw [← ht, List.getElem?_take] at hu
    split at hu
    · simpa using hu
    · cases hu

/-- 'append(v, x...)', v the call's own, x whatever. -/
theorem wp_app {P : Program} {w : World} {ops : Array Oper} {rest : List Oper} {o : Oper} {a : Act} {Q : Exit → Act → World → Prop} (hgd : o.guard = none) (s x : Operand) (t : TypeId)
    (ho : o.op = .call { callee := .builtin .append, args := #[s, x], argTypes := #[t, t] })
    (base : Nat) (e : TypeId) (ht : P.underlying t = some (.slice e)) (hinfo : (P.info? e).map (fun i => (i.zero, i.size, i.bytes)) = some (some (.int .u8 0), 1, 1))
    (v : Value) (n : Nat) (xs : List Value) (hs : a.eval s = v) (hown : w.ownsRow base e 1 v n xs)
    (y : Value) (l : List UInt8) (hx : a.eval x = y) (hr : Rd w y l) (hn : n + l.length ≤ 140737488355328) (hbase : base ≤ w.heap.size)
    (h : ∀ v' w', w'.ownsRow base e 1 v' (n + l.length) (xs ++ l.map bv) → w.grownBy w' v.ownBlock → wpList P ops Q rest (a.put o.dst v') w') : wpList P ops Q (o :: rest) a w := by
  obtain ⟨i0, hi, hz0, hz1, hz2⟩ := info_parts hinfo
  obtain ⟨ao, c, rfl, h1, h2, h3, h4⟩ := hr
  cases ao with
  | some ad =>
    exact wpList_append_own w hgd s x t ho base e i0 (.int .u8 0) 1 1 ht hi hz0 hz1 hz2 rfl (by decide) v n xs hs hown ad l.length c (l.map bv) hx (by simp) (h4 ad rfl) (bv_one l)
      (by unfold maxLen; omega) (by omega) hbase fun v' w' a1 a2 _ => h v' w' a1 a2
  | none =>
    have hc := h3 rfl
    obtain rfl : l = [] := List.eq_nil_of_length_eq_zero (by omega)
    subst hc
    exact wpList_append_own_none hgd s x t ho base e i0 1 ht hi v n xs hs hown hx (h v w (by simpa using hown) (World.grownBy.refl _ _))

theorem grown_below {w w' : World} (h : Below w.heap.size w w') (row : Option Nat) : w.grownBy w' row := ⟨h.os, h.tape, h.output, h.size, fun k hk _ => h.block k hk⟩

theorem grown_set (w : World) (a : Addr) (v : Value) : w.grownBy (w.setCell a v) (some a.block) :=
  ⟨rfl, rfl, rfl, by simp [World.setCell], fun k _ hne => Below.heap_setCell _ _ _ _ (fun e => hne (by rw [e]))⟩

/-- What is owned stays owned behind a call that leaves all that was there. -/
theorem own_old {w w' : World} {base : Nat} {e : TypeId} {size : Nat} {v : Value} {n : Nat} {xs : List Value} (h : w.ownsRow base e size v n xs) (hb : Below w.heap.size w w') : w'.ownsRow base e size v n xs :=
  h.kept (grown_below hb none) (by cases v.ownBlock <;> simp)

theorem Rd.len {P : Program} {w : World} {x : Value} {l : List UInt8} (h : Rd w x l) (t e ty : TypeId) (ht : P.underlying t = some (.slice e)) :
    ∀ W, (Builtin.len_ #[t] ty #[x]).run P W = .ok (goInt l.length) W := by
  obtain ⟨ao, c, rfl, h1, h2, h3, h4⟩ := h
  have ht' : P.underlying t = some (.slice (P.elem t)) := by simp [Program.elem, ht]
  exact fun W => run_len_slice W t ty _ _ _ ht'

/-- The bytes that one value makes: what a call gives back, in new memory. -/
def Gives (e8 : TypeId) (w : World) (l : List UInt8) (e : Ending) (w' : World) : Prop :=
  ∃ x, e = .returned x ∧ w'.ownsRow w.heap.size e8 1 x l.length (l.map bv) ∧ Below w.heap.size w w'

/-- The value's shape, for the walk. -/
theorem Gives.elim {e8 : TypeId} {w : World} {l : List UInt8} {e : Ending} {w' : World} (h : Gives e8 w l e w') :
    ∃ (ao : Option Addr) (c : Nat), e = .returned (.slice ao l.length c) ∧ w'.ownsRow w.heap.size e8 1 (.slice ao l.length c) l.length (l.map bv) ∧ Below w.heap.size w w' := by
  obtain ⟨x, rfl, h1, h2⟩ := h
  obtain ⟨ao, c, rfl, _⟩ := Rd.own h1
  exact ⟨ao, c, rfl, h1, h2⟩

end Go.Proofs.Ytdaecndbdinddaa


namespace Go.Proofs.Ytdaecndbdinddaa
open Go.RowKit

theorem Wide.one {size : Nat} {L : List (List Value)} (h : Wide size L) : ∀ u ∈ L.flatten, u.oneCell' = true := fun u hu => by
  obtain ⟨r, hr, hu⟩ := List.mem_flatten.1 hu
  exact (h r hr).2 u hu

theorem Wide.len {size : Nat} {L : List (List Value)} (h : Wide size L) : L.flatten.length = L.length * size := by
  induction L with
  | nil => simp
  | cons r L ih =>
    have h1 := (h r (by simp)).1
    have h2 := ih (h.sub fun x hx => by simp [hx])
    rw [List.flatten_cons, List.length_append, h1, h2, List.length_cons, Nat.add_mul]
    omega

theorem Rws.kept {size : Nat} {w w' : World} {x : Value} {L : List (List Value)} {row : Option Nat} (h : Rws size w x L) (hg : w.grownBy w' row) (hne : blk x = none ∨ blk x ≠ row) : Rws size w' x L := by
  obtain ⟨ao, c, rfl, h1, h2, h3, h5, h4⟩ := h
  refine ⟨ao, c, rfl, h1, h2, h3, h5, fun a ha j u hu => ?_⟩
  subst ha
  have h6 := h4 a rfl j u hu
  have hlt := World.block_lt_of_cell? w _ h6
  rw [World.cell?_of_block (w := w) (a := a.add j) (hg.block _ hlt (by rw [add_block]; simpa [blk] using hne))]
  exact h6

theorem Rws.len {P : Program} {size : Nat} {w : World} {x : Value} {L : List (List Value)} (h : Rws size w x L) (t e ty : TypeId) (ht : P.underlying t = some (.slice e)) :
    ∀ W, (Builtin.len_ #[t] ty #[x]).run P W = .ok (goInt L.length) W := by
  obtain ⟨ao, c, rfl, h1, h2, h3, _⟩ := h
  have ht' : P.underlying t = some (.slice (P.elem t)) := by simp [Program.elem, ht]
  exact fun W => run_len_slice W t ty _ _ _ ht'

/-- What the call itself made. -/
theorem Rws.own {size : Nat} {w : World} {base : Nat} {e : TypeId} {x : Value} {L : List (List Value)} (h : w.ownsRow base e size x L.length L.flatten) (hw : Wide size L) : Rws size w x L := by
  obtain ⟨h1, h2⟩ := h
  rcases h2 with ⟨rfl, hn⟩ | ⟨g, cap, cur, rfl, hb, hg, hn, hc, hs, ht⟩
  · obtain rfl : L = [] := List.eq_nil_of_length_eq_zero hn
    exact Rws.nil size w
  · refine ⟨some ⟨g, 0, none⟩, cap, rfl, hn, hc, (fun h => by cases h), hw, fun a ha => ?_⟩
    cases ha
    intro j u hu
    rw [WideShapes.add_plain, Nat.zero_add, cell_of_row w g j cur e (0, 0) hg]
    rw [← ht, List.getElem?_take] at hu
    split at hu
    · simpa using hu
    · cases hu

/-- 'append(v, x...)', v the call's own, x whatever. 'hgd': no guard, or one that holds (by rfl). -/
theorem wp_rapp {P : Program} {w : World} {ops : Array Oper} {rest : List Oper} {o : Oper} {a : Act} {Q : Exit → Act → World → Prop} (hgd : Region.wanted o (yielded ops a.tmps) = true) (s x : Operand) (t : TypeId)
    (ho : o.op = .call { callee := .builtin .append, args := #[s, x], argTypes := #[t, t] })
    (base size bytes : Nat) (e : TypeId) (ht : P.underlying t = some (.slice e)) (z : Value) (hinfo : (P.info? e).map (fun i => (i.zero, i.size, i.bytes)) = some (some z, size, bytes)) (hzs : z.cells.size = size) (hsz : 0 < size)
    (v : Value) (n : Nat) (xs : List Value) (hs : a.eval s = v) (hown : w.ownsRow base e size v n xs)
    (y : Value) (L : List (List Value)) (hx : a.eval x = y) (hr : Rws size w y L) (hn : (n + L.length) * bytes ≤ 140737488355328) (hm : n + L.length ≤ maxLen) (hbase : base ≤ w.heap.size)
    (h : ∀ v' w', w'.ownsRow base e size v' (n + L.length) (xs ++ L.flatten) → w.grownBy w' v.ownBlock → wpList P ops Q rest (a.put o.dst v') w') : wpList P ops Q (o :: rest) a w := by
  obtain ⟨i0, hi, hz0, hz1, hz2⟩ : ∃ i, P.info? e = some i ∧ i.zero = some z ∧ i.size = size ∧ i.bytes = bytes := by
    cases hq : P.info? e with
    | none => rw [hq] at hinfo; cases hinfo
    | some i => rw [hq] at hinfo; simp at hinfo; exact ⟨i, rfl, hinfo⟩
  refine wpList_step fun K hK => ?_
  rw [if_pos hgd]
  obtain ⟨ao, c, rfl, h1, h2, h3, h5, h4⟩ := hr
  cases ao with
  | some ad =>
    exact wp_append_own w s x t ho base e i0 z size bytes ht hi hz0 hz1 hz2 hzs hsz v n xs hs hown ad L.length c L.flatten hx h5.len (h4 ad rfl) h5.one
      hm hn hbase fun v' w' a1 a2 _ => hK _ _ (h v' w' a1 a2)
  | none =>
    have hc := h3 rfl
    obtain rfl : L = [] := List.eq_nil_of_length_eq_zero (by omega)
    subst hc
    have hrun := run_append_owned_none (P := P) (w := w) base t o.type e i0 size ht hi v n xs hown
    unfold Oper.wp execOp
    simp only [List.length_nil] at hx
    simp only [ho, resolve, invoke, builtin, Sem.run_bind, Sem.run_pure, Result.andThen_ok, List.map_toArray, List.map_cons, List.map_nil, hs, hx, hrun]
    exact hK _ _ (h v w (by simpa using hown) (World.grownBy.refl _ _))

/-- A row that was laid out by 'buildSlice' or stored whole: one row. -/
theorem Rws.one {w : World} {n size : Nat} {r : List Value} {t : TypeId} (h : n = w.heap.size) (hr : r.length = size ∧ ∀ u ∈ r, u.oneCell' = true) : Rws size (w.alloc (.cells r.toArray t)) (.slice (some ⟨n, 0, none⟩) 1 1) [r] := by
  subst h
  refine ⟨some ⟨w.heap.size, 0, none⟩, 1, rfl, by simp, by unfold maxLen; simp, (fun h => by cases h), (fun q hq => by simp at hq; subst hq; exact hr), fun a ha j u hu => ?_⟩
  cases ha
  rw [WideShapes.add_plain, Nat.zero_add, cell_of_row _ w.heap.size j r.toArray t (0, 0) (heap_alloc_new w _)]
  simpa using hu
end Go.Proofs.Ytdaecndbdinddaa

set_option linter.unusedVariables false
namespace Go.Proofs.Ytdaecndbdinddaa
open Go.RowKit

theorem set_at {w : World} {b k : Nat} {c : Array Value} {t : TypeId} (x : Value) (h : w.heap[b]? = some (.cells c t (0, 0))) : (w.setCell ⟨b, k, none⟩ x).heap[b]? = some (.cells (c.setIfInBounds k x) t (0, 0)) := by
  have hlt := lt_of_block h
  have h' : w.heap[b] = .cells c t (0, 0) := by simpa [Array.getElem?_eq_getElem hlt] using h
  show (w.heap.modify b _)[b]? = _
  rw [Array.getElem?_eq_getElem (by simpa using hlt), Array.getElem_modify_self, h']
  rfl

end Go.Proofs.Ytdaecndbdinddaa

set_option linter.unusedVariables false
set_option maxRecDepth 100000

set_option linter.unusedVariables false
set_option maxRecDepth 100000
namespace Go.Proofs.Ytdaecndbdinddaa
open Go.RowKit

set_option maxHeartbeats 1000000 in
theorem clone_any (w : World) (x : Value) (l : List UInt8) (h : Rd w x l) (hl : l.length ≤ 140737488355328) :
    Calls Try.prog 39 #[x] w (Gives 5 w l) := by
  obtain ⟨ao, c, rfl, h1, h2, h3, h4⟩ := h
  cases ao with
  | none =>
    have hc := h3 rfl
    obtain rfl : l = [] := List.eq_nil_of_length_eq_zero (by omega)
    subst hc
    have heq := fun W => Lib.run_eql_slice_nil (P := Try.prog) W 28 5 none 0 0 0 0 Try.underlying28
    go_enter Try.func39, Try.ntmps39
    go_wp2_with fail
    go_ret
    exact ⟨_, rfl, World.ownsRow_nil _ _ _ _, Below.refl _ _⟩
  | some a =>
    have HR : Hid (Rd w (.slice (some a) l.length c) l) := ⟨some a, c, rfl, h1, h2, h3, h4⟩
    have heq := fun W => Lib.run_eql_slice_nil (P := Try.prog) W 28 5 (some a) l.length c 0 0 Try.underlying28
    have hown : (w.alloc (.cells #[] 5)).ownsRow w.heap.size 5 1 (.slice (some ⟨w.heap.size, 0, none⟩) 0 0) 0 [] := World.ownsRow_made w #[] 0 (Nat.le_refl _) (by decide) rfl
    have HR2 := HR.out.alloc (.cells #[] 5)
    clear h3 h4
    go_enter Try.func39, Try.ntmps39
    go_wp2_with (first
      | (at_builtin; refine wp_app rfl _ _ 28 rfl w.heap.size 5 Try.underlying28 (by kernel_rfl) _ _ _ rfl hown _ l rfl HR2 ?c1 ?c2 ?_))
    case c1 => omega
    case c2 => simp
    intro v' w1 hown' hgrow
    have hb : Below w.heap.size w w1 := ((Below.refl _ _).alloc (Nat.le_refl _) _).grown hgrow (by simp) (fun k hk => by simp [Value.ownBlock] at hk; omega)
    clear hgrow hown HR2
    go_wp2
    go_ret
    exact ⟨_, rfl, by simpa using hown', hb⟩

end Go.Proofs.Ytdaecndbdinddaa









set_option linter.unusedVariables false

set_option linter.unusedVariables false
set_option maxRecDepth 100000
namespace Go.Proofs.Ytdaecndbdinddaa
open Go.RowKit

theorem rd_get {w : World} {ao : Option Addr} {n c : Nat} {l : List UInt8} (h : Rd w (.slice ao n c) l) {k : Nat} {v : UInt8} (hk : l[k]? = some v) : ∃ b off, ao = some ⟨b, off, none⟩ ∧ w.cell? ⟨b, off + k, none⟩ = some (bv v) := by
  obtain ⟨ao', c', he, h1, h2, h3, h4⟩ := h
  simp only [Value.slice.injEq] at he
  obtain ⟨rfl, rfl, rfl⟩ := he
  have hkl : k < l.length := (List.getElem?_eq_some_iff.1 hk).1
  cases ao with
  | none => have := h3 rfl; omega
  | some a =>
    obtain ⟨b, off, spot⟩ := a
    have h00 := h4 _ rfl 0 (bv (l[0]'(by omega))) (by rw [List.getElem?_map, List.getElem?_eq_getElem (by omega)]; rfl)
    have hspot : spot = none := by simpa [Addr.add] using World.cell?_spot h00
    subst hspot
    refine ⟨b, off, rfl, ?_⟩
    have h0 := h4 _ rfl k (bv v) (by rw [List.getElem?_map, hk]; rfl)
    rw [WideShapes.add_plain] at h0
    exact h0

end Go.Proofs.Ytdaecndbdinddaa

set_option linter.unusedVariables false
set_option maxRecDepth 100000

namespace Go.Proofs.Ytdaecndbdinddaa
open Go.RowKit

/-- It answers true, and at most draws. -/
def Draws (w : World) (v : Value) (en : Ending) (w' : World) : Prop := en = .returned v ∧ ∃ n, w' = w.drewN n

theorem Draws.below {w w' : World} {v : Value} {en : Ending} (h : Draws w v en w') : Below w.heap.size w w' := by
  obtain ⟨_, n, rfl⟩ := h
  exact ⟨rfl, rfl, rfl, Nat.le_refl _, fun _ _ => rfl⟩

end Go.Proofs.Ytdaecndbdinddaa

set_option linter.unusedVariables false
set_option maxRecDepth 100000

set_option linter.unusedVariables false
namespace Go.Proofs.Ytdaecndbdinddaa
open Go.RowKit

/-- All that lay lies, but for the blocks of X. -/
structure Keep (X : Nat → Prop) (w w' : World) : Prop where
  os : w'.os = w.os
  tape : w'.tape = w.tape
  output : w'.output = w.output
  size : w.heap.size ≤ w'.heap.size
  block : ∀ k, k < w.heap.size → ¬ X k → w'.heap[k]? = w.heap[k]?

theorem Keep.refl (X : Nat → Prop) (w : World) : Keep X w w := ⟨rfl, rfl, rfl, Nat.le_refl _, fun _ _ _ => rfl⟩
theorem Keep.trans {X : Nat → Prop} {a b c : World} (h : Keep X a b) (k : Keep X b c) : Keep X a c :=
  ⟨k.os.trans h.os, k.tape.trans h.tape, k.output.trans h.output, Nat.le_trans h.size k.size, fun i hi hn => (k.block i (Nat.lt_of_lt_of_le hi h.size) hn).trans (h.block i hi hn)⟩
theorem Keep.mono {X Y : Nat → Prop} {a b : World} (h : Keep X a b) (hxy : ∀ k, k < a.heap.size → X k → Y k) : Keep Y a b :=
  ⟨h.os, h.tape, h.output, h.size, fun i hi hn => h.block i hi (fun hx => hn (hxy i hi hx))⟩
theorem Keep.of_grown {X : Nat → Prop} {w w' : World} {row : Option Nat} (h : w.grownBy w' row) (hx : ∀ k, row = some k → X k) : Keep X w w' :=
  ⟨h.os, h.tape, h.output, h.size, fun k hk hn => h.block k hk (fun e => hn (hx k e.symm))⟩
theorem Keep.below {X : Nat → Prop} {w w' : World} {n : Nat} (h : Keep X w w') (hn : n ≤ w.heap.size) (hx : ∀ k, X k → n ≤ k) : Below n w w' :=
  ⟨h.os, h.tape, h.output, h.size, fun k hk => h.block k (Nat.lt_of_lt_of_le hk hn) (fun hx' => by have := hx k hx'; omega)⟩
theorem Keep.set {X : Nat → Prop} (w : World) (a : Addr) (v : Value) (hx : X a.block) : Keep X w (w.setCell a v) := Keep.of_grown (grown_set w a v) (fun k e => by cases e; exact hx)
/-- What is owned stays owned. -/
theorem own_keep {X : Nat → Prop} {w w' : World} {base : Nat} {e : TypeId} {size : Nat} {v : Value} {n : Nat} {xs : List Value} (h : w.ownsRow base e size v n xs) (hk : Keep X w w') (hx : ∀ k, v.ownBlock = some k → ¬ X k) : w'.ownsRow base e size v n xs :=
  ⟨h.1, h.2.imp id fun ⟨g, cap, cur, a, b, c, d⟩ => ⟨g, cap, cur, a, b, by rw [hk.block g (lt_of_block c) (hx g (by rw [a]; rfl))]; exact c, d⟩⟩

theorem Rd.keep {X : Nat → Prop} {w w' : World} {x : Value} {l : List UInt8} (h : Rd w x l) (hk : Keep X w w') (hx : l ≠ [] → ∀ k, blk x = some k → ¬ X k) : Rd w' x l := by
  obtain ⟨ao, c, rfl, h1, h2, h3, h4⟩ := h
  refine ⟨ao, c, rfl, h1, h2, h3, fun a ha j u hu => ?_⟩
  subst ha
  have h6 := h4 a rfl j u hu
  have hlt := World.block_lt_of_cell? w _ h6
  rw [World.cell?_of_block (w := w) (a := a.add j) (hk.block _ hlt (by rw [add_block]; exact hx (fun e => by subst e; simp at hu) _ rfl))]
  exact h6
theorem Rws.keep {X : Nat → Prop} {size : Nat} {w w' : World} {x : Value} {L : List (List Value)} (h : Rws size w x L) (hk : Keep X w w') (hx : L ≠ [] → ∀ k, blk x = some k → ¬ X k) : Rws size w' x L := by
  obtain ⟨ao, c, rfl, h1, h2, h3, h5, h4⟩ := h
  refine ⟨ao, c, rfl, h1, h2, h3, h5, fun a ha j u hu => ?_⟩
  subst ha
  have h6 := h4 a rfl j u hu
  have hlt := World.block_lt_of_cell? w _ h6
  rw [World.cell?_of_block (w := w) (a := a.add j) (hk.block _ hlt (by rw [add_block]; exact hx (fun e => by subst e; simp at hu) _ rfl))]
  exact h6
theorem blk_of {ao : Option Addr} {n c k : Nat} (h : blk (.slice ao n c) = some k) : ∃ a, ao = some a ∧ a.block = k := by
  cases ao with
  | none => cases h
  | some a => exact ⟨a, rfl, by simpa [blk] using h⟩
theorem rd_block {w : World} {ao : Option Addr} {n c : Nat} {l : List UInt8} (h : Rd w (.slice ao n c) l) (hn : l ≠ []) : ∀ a, ao = some a → a.block < w.heap.size := by
  intro a ha
  subst ha
  obtain ⟨ao', c', he, h1, h2, h3, h4⟩ := h
  simp only [Value.slice.injEq] at he
  obtain ⟨rfl, rfl, rfl⟩ := he
  cases l with
  | nil => exact (hn rfl).elim
  | cons x l => have := World.block_lt_of_cell? w _ (h4 a rfl 0 _ rfl); rwa [add_block] at this
/-- Behind 'append' the row lies where it lay, or in a new block. -/
theorem app_fresh {P : Program} {w w' : World} {base : Nat} {t ty e : TypeId} {i : TypeInfo} {z : Value} {size bytes : Nat} (ht : P.underlying t = some (.slice e)) (hi : P.info? e = some i) (hz : i.zero = some z)
    (hsize : i.size = size) (hby : i.bytes = bytes) (hzs : z.cells.size = size) (hsz : 0 < size)
    {v v' : Value} {n : Nat} {xs : List Value} (hown : w.ownsRow base e size v n xs)
    {a : Addr} {m c : Nat} {news : List Value} (hl : news.length = m * size) (hnews : ∀ j u, news[j]? = some u → w.cell? (a.add j) = some u) (h1 : ∀ u ∈ news, u.oneCell' = true)
    (h63 : n + m ≤ maxLen) (hbytes : (n + m) * bytes ≤ 140737488355328) (hr : (Builtin.append_ #[t, t] ty #[v, .slice (some a) m c]).run P w = .ok v' w') :
    ∀ k, v'.ownBlock = some k → v.ownBlock = some k ∨ w.heap.size ≤ k := by
  have hown0 := hown
  rcases hown.2 with ⟨rfl, rfl⟩ | ⟨g, cap, cur, rfl, hbg, hg, hnc, hcm, hcs, htake⟩
  · have hx : xs = [] := List.eq_nil_of_length_eq_zero (by simpa using hown.1)
    subst hx
    obtain ⟨v2, w2, hr2, ho, -, -⟩ := run_append_own (P := P) w w.heap.size t ty e i z size bytes ht hi hz hsize hby hzs hsz _ 0 [] (World.ownsRow_nil w w.heap.size e size) a m c news hl hnews h1 h63 hbytes (Nat.le_refl _)
    rw [hr] at hr2
    cases hr2
    exact fun k hk => .inr (ho.lt k hk).1
  · subst hsize
    subst hby
    by_cases hroom : n + m ≤ cap
    · have hfit : n * i.size + news.length ≤ cur.size := by rw [hl, hcs, ← Nat.add_mul]; exact Nat.mul_le_mul_right _ hroom
      have hr2 := run_append_room (P := P) w t ty e i ht hi g n cap cur hg a m c news hl hnews h1 hroom hfit
      rw [hr] at hr2
      cases hr2
      exact fun k hk => .inl hk
    · have hr2 := run_append_grow (P := P) (ty := ty) w t e i z ht hi hz ⟨g, 0, none⟩ n cap xs hown.1 (hown0.cells (g := g) rfl) a m c news hl hnews (by omega) (by simp only [maxLen] at h63; omega) (growslice_fits (by omega) hbytes)
      rw [hr] at hr2
      cases hr2
      exact fun k hk => .inr (by simp [Value.ownBlock] at hk; omega)
end Go.Proofs.Ytdaecndbdinddaa

set_option linter.unusedVariables false
set_option maxRecDepth 100000

set_option linter.unusedVariables false
set_option maxRecDepth 100000
namespace Go.Proofs.Ytdaecndbdinddaa
open Go.RowKit

/-- 'append(v, x...)' at a step of a region that draws its order. -/
theorem step_rapp {P : Program} {w : World} {o : Oper} {a : Act} {K : Act → World → Prop} {Q : Exit → Act → World → Prop} (s x : Operand) (t : TypeId)
    (ho : o.op = .call { callee := .builtin .append, args := #[s, x], argTypes := #[t, t] })
    (base size bytes : Nat) (e : TypeId) (ht : P.underlying t = some (.slice e)) (z : Value) (hinfo : (P.info? e).map (fun i => (i.zero, i.size, i.bytes)) = some (some z, size, bytes)) (hzs : z.cells.size = size) (hsz : 0 < size)
    (v : Value) (n : Nat) (xs : List Value) (hs : a.eval s = v) (hown : w.ownsRow base e size v n xs)
    (y : Value) (L : List (List Value)) (hx : a.eval x = y) (hr : Rws size w y L) (hn : (n + L.length) * bytes ≤ 140737488355328) (hm : n + L.length ≤ maxLen) (hbase : base ≤ w.heap.size)
    (h : ∀ v' w', w'.ownsRow base e size v' (n + L.length) (xs ++ L.flatten) → w.grownBy w' v.ownBlock → (∀ k, v'.ownBlock = some k → v.ownBlock = some k ∨ w.heap.size ≤ k) → K (a.put o.dst v') w') :
    Oper.wp P o a w K Q := by
  obtain ⟨i0, hi, hz0, hz1, hz2⟩ : ∃ i, P.info? e = some i ∧ i.zero = some z ∧ i.size = size ∧ i.bytes = bytes := by
    cases hq : P.info? e with
    | none => rw [hq] at hinfo; cases hinfo
    | some i => rw [hq] at hinfo; simp at hinfo; exact ⟨i, rfl, hinfo⟩
  obtain ⟨ao, c, rfl, h1, h2, h3, h5, h4⟩ := hr
  cases ao with
  | some ad =>
    obtain ⟨v', w', hrun, q2, q3, -⟩ := run_append_own (P := P) w base t o.type e i0 z size bytes ht hi hz0 hz1 hz2 hzs hsz v n xs hown ad L.length c L.flatten h5.len (h4 ad rfl) h5.one hm hn hbase
    have q4 := app_fresh ht hi hz0 hz1 hz2 hzs hsz hown h5.len (h4 ad rfl) h5.one hm hn hrun
    unfold Oper.wp execOp
    simp only [ho, resolve, invoke, builtin, Sem.run_bind, Sem.run_pure, Result.andThen_ok, List.map_toArray, List.map_cons, List.map_nil, hs, hx, hrun]
    exact h v' w' q2 q3 q4
  | none =>
    have hc := h3 rfl
    obtain rfl : L = [] := List.eq_nil_of_length_eq_zero (by omega)
    subst hc
    have hrun := run_append_owned_none (P := P) (w := w) base t o.type e i0 size ht hi v n xs hown
    unfold Oper.wp execOp
    simp only [List.length_nil] at hx
    simp only [ho, resolve, invoke, builtin, Sem.run_bind, Sem.run_pure, Result.andThen_ok, List.map_toArray, List.map_cons, List.map_nil, hs, hx, hrun]
    exact h v w (by simpa using hown) (World.grownBy.refl _ _) (fun k hk => .inl hk)

theorem own_form {W : World} {b : Nat} {e : TypeId} {s n : Nat} {v : Value} {xs : List Value} (h : W.ownsRow b e s v n xs) : ∃ ao c, v = .slice ao n c := by
  rcases h.2 with ⟨rfl, h0⟩ | ⟨g, cap, cur, rfl, _⟩
  · rw [h0]; exact ⟨_, _, rfl⟩
  · exact ⟨_, _, rfl⟩
end Go.Proofs.Ytdaecndbdinddaa

set_option linter.unusedVariables false
set_option maxRecDepth 100000

set_option linter.unusedVariables false
set_option maxRecDepth 100000

set_option linter.unusedVariables false
namespace Go.Proofs.Ytdaecndbdinddaa
open Go.RowKit Go.Shelf
attribute [local go_sem] Oper.semAt_some

variable {F : Fence} {n : Nat} {P : Program}

end Go.Proofs.Ytdaecndbdinddaa

set_option linter.unusedVariables false
namespace Go.Proofs.Ytdaecndbdinddaa
open Go.RowKit Go.Shelf
attribute [local go_sem] Oper.semAt_some

end Go.Proofs.Ytdaecndbdinddaa

set_option linter.unusedVariables false

set_option linter.unusedVariables false
set_option maxRecDepth 100000
namespace Go.Proofs.Ytdaecndbdinddaa
open Go.RowKit Go.Shelf
attribute [local go_sem] Oper.semAt_some

end Go.Proofs.Ytdaecndbdinddaa

set_option linter.unusedVariables false

set_option linter.unusedVariables false
set_option maxRecDepth 100000

set_option linter.unusedVariables false
set_option maxRecDepth 100000

set_option linter.unusedVariables false
set_option maxRecDepth 100000

set_option linter.unusedVariables false
set_option maxRecDepth 100000

set_option linter.unusedVariables false
set_option maxRecDepth 100000

set_option linter.unusedVariables false
set_option maxRecDepth 100000

set_option linter.unusedVariables false
set_option maxRecDepth 100000

set_option linter.unusedVariables false
set_option maxRecDepth 100000

set_option linter.unusedVariables false
set_option maxRecDepth 100000

set_option linter.unusedVariables false
set_option maxRecDepth 100000

set_option linter.unusedVariables false
set_option linter.unusedSimpArgs false
set_option maxRecDepth 100000
namespace Go.Proofs.Ytdaecndbdinddaa
open Go.RowKit

/-- None of a log's memory lies in the blocks X. -/
def LoOff (l : Lo) (X : Nat → Prop) : Prop := (l.sd.b ≠ [] → ∀ a, l.sd.a = some a → ¬ X a.block) ∧ (∀ e ∈ l.es, e.r.b ≠ [] → ∀ a, e.r.a = some a → ¬ X a.block) ∧ (l.es ≠ [] → ∀ a, l.eo = some a → ¬ X a.block)
end Go.Proofs.Ytdaecndbdinddaa

set_option linter.unusedVariables false
set_option linter.unusedSimpArgs false
set_option maxRecDepth 100000

set_option linter.unusedVariables false
set_option linter.unusedSimpArgs false
set_option maxRecDepth 100000

set_option linter.unusedVariables false
set_option linter.unusedSimpArgs false
set_option maxRecDepth 100000

set_option linter.unusedVariables false
set_option linter.unusedSimpArgs false

set_option linter.unusedVariables false
set_option linter.unusedSimpArgs false
set_option maxRecDepth 100000
namespace Go.Proofs.Ytdaecndbdinddaa
open Go.RowKit Go.Deep

theorem gives_rd {w' : World} {v : Value} {B : Nat} {l : List UInt8} (h : w'.ownsRow B 5 1 v l.length (l.map bv)) : ∃ a c, v = .slice a l.length c ∧ Rd w' (.slice a l.length c) l := by
  obtain ⟨a, c, rfl⟩ := own_form h
  exact ⟨a, c, rfl, Rd.own h⟩

end Go.Proofs.Ytdaecndbdinddaa

set_option linter.unusedVariables false
set_option linter.unusedSimpArgs false
set_option maxRecDepth 100000

set_option linter.unusedVariables false
set_option linter.unusedSimpArgs false
set_option maxRecDepth 100000
namespace Go.Proofs.Ytdaecndbdinddaa
open Go.RowKit Go.Deep Go.Shelf

theorem info_entry : (Try.prog.info? 58).map (fun i => (i.zero, i.size, i.bytes)) = some (some (.agg #[.int .u64 0, .int .u64 0, .slice none 0 0]), 3, 40) := by kernel_rfl

theorem ents_own {V : World} {B : Nat} {ao : Option Addr} {c : Nat} {E : List En} (h : V.ownsRow B 58 3 (.slice ao E.length c) E.length (E.map rowE).flatten) (hE : ∀ e ∈ E, Rd V (rcv e.r) e.r.b ∧ e.t < 18446744073709551616 ∧ e.i < 18446744073709551616 ∧ e.r.b.length ≤ 140737488355328) : Ents V (.slice ao E.length c) E := by
  refine ⟨Rws.own (base := B) (e := 58) (by rw [List.length_map]; exact h) (fun r hr => ?_), hE⟩
  obtain ⟨e, -, rfl⟩ := List.mem_map.1 hr
  refine ⟨rfl, fun u hu => ?_⟩
  simp only [rowE, rcv, List.mem_cons, List.not_mem_nil, or_false] at hu
  rcases hu with rfl | rfl | rfl <;> rfl

theorem step_rapp9 {P : Program} {w : World} {ops : Array Oper} {o : Oper} {a : Act} {K : Act → World → Prop} {Q : Exit → Act → World → Prop} {E : Prop} (s x : Operand) (t : TypeId)
    (ho : o.op = .call { callee := .builtin .append, args := #[s, x], argTypes := #[t, t] })
    (base size bytes : Nat) (e : TypeId) (ht : P.underlying t = some (.slice e)) (z : Value) (hinfo : (P.info? e).map (fun i => (i.zero, i.size, i.bytes)) = some (some z, size, bytes)) (hzs : z.cells.size = size) (hsz : 0 < size)
    (v : Value) (n : Nat) (xs : List Value) (hs : a.eval s = v) (hown : w.ownsRow base e size v n xs)
    (y : Value) (L : List (List Value)) (hx : a.eval x = y) (hr : Rws size w y L) (hn : (n + L.length) * bytes ≤ 140737488355328) (hm : n + L.length ≤ maxLen) (hbase : base ≤ w.heap.size)
    (hgd : Region.wanted o (yielded ops a.tmps) = true)
    (h : ∀ v' w', w'.ownsRow base e size v' (n + L.length) (xs ++ L.flatten) → w.grownBy w' v.ownBlock → (∀ k, v'.ownBlock = some k → v.ownBlock = some k ∨ w.heap.size ≤ k) → K (a.put o.dst v') w') :
    if Region.wanted o (yielded ops a.tmps) = true then Oper.wp P o a w K Q else E := by
  rw [if_pos hgd]
  exact step_rapp s x t ho base size bytes e ht z hinfo hzs hsz v n xs hs hown y L hx hr hn hm hbase h

section
variable {w V V' : World} {bw br R Ib : Nat} {was : Lo} {PI : PL} {nv : Nat} {sa : Option Addr} {sc : Nat} {E : List En} {eo : Option Addr} {ec m : Nat} {rest rest' : List UInt8}
/-- Bytes do not lie in a log's block. -/
theorem off_log {V : World} {g a b d : Nat} {z : Int} {ao eo : Option Addr} {n1 c1 n2 c2 : Nat} {t : TypeId} (hg : V.heap[g]? = some (.cells #[.int .u64 (a : Int), .int .i64 z, .int .u64 (b : Int), .int .u64 (d : Int), .slice ao n1 c1, .slice eo n2 c2] t (0, 0))) {xo : Option Addr} {xc : Nat} {l : List UInt8} (hx : Rd V (.slice xo l.length xc) l) : l ≠ [] → ∀ k, blk (.slice xo l.length xc) = some k → k ≠ g := fun hne k hk e => by
  subst e
  obtain ⟨u, hu⟩ : ∃ u, l[0]? = some u := ⟨_, List.getElem?_eq_getElem (List.length_pos_iff.2 hne)⟩
  obtain ⟨b0, off, e2, hc⟩ := rd_get hx hu
  obtain ⟨a9, ha9, hak⟩ := blk_of hk
  rw [e2] at ha9
  cases ha9
  simp only at hak
  subst hak
  unfold World.cell? at hc
  rw [hg] at hc
  change (#[Value.int .u64 (a : Int), .int .i64 z, .int .u64 (b : Int), .int .u64 (d : Int), .slice ao n1 c1, .slice eo n2 c2] : Array Value)[off + 0]? = _ at hc
  rw [Nat.add_zero] at hc
  rcases off with _ | _ | _ | _ | _ | _ | off <;> simp [bv] at hc
theorem six_set {V : World} {g : Nat} {x y z u p q : Value} {t : TypeId} (h : V.heap[g]? = some (.cells #[x, y, z, u, p, q] t (0, 0))) (x' y' z' u' p' q' : Value) :
    ((((((V.setCell ⟨g, 0, none⟩ x').setCell ⟨g, 1, none⟩ y').setCell ⟨g, 2, none⟩ z').setCell ⟨g, 3, none⟩ u').setCell ⟨g, 4, none⟩ p').setCell ⟨g, 5, none⟩ q').heap[g]? = some (.cells #[x', y', z', u', p', q'] t (0, 0)) :=
  set_at (k := 5) q' (set_at (k := 4) p' (set_at (k := 3) u' (set_at (k := 2) z' (set_at (k := 1) y' (set_at (k := 0) x' h)))))
theorem keep_six (V : World) (g : Nat) (x' y' z' u' p' q' : Value) : Keep (fun j => j = g) V ((((((V.setCell ⟨g, 0, none⟩ x').setCell ⟨g, 1, none⟩ y').setCell ⟨g, 2, none⟩ z').setCell ⟨g, 3, none⟩ u').setCell ⟨g, 4, none⟩ p').setCell ⟨g, 5, none⟩ q') :=
  (((((Keep.set (X := fun j => j = g) V ⟨g, 0, none⟩ x' rfl).trans (Keep.set (X := fun j => j = g) _ ⟨g, 1, none⟩ y' rfl)).trans (Keep.set (X := fun j => j = g) _ ⟨g, 2, none⟩ z' rfl)).trans (Keep.set (X := fun j => j = g) _ ⟨g, 3, none⟩ u' rfl)).trans (Keep.set (X := fun j => j = g) _ ⟨g, 4, none⟩ p' rfl)).trans (Keep.set (X := fun j => j = g) _ ⟨g, 5, none⟩ q' rfl)
end
end Go.Proofs.Ytdaecndbdinddaa

set_option linter.unusedVariables false
set_option maxRecDepth 100000
namespace Go.Proofs.Ytdaecndbdinddaa
open Go.RowKit Go.Shelf
attribute [local go_sem] Oper.semAt_some

end Go.Proofs.Ytdaecndbdinddaa

set_option linter.unusedVariables false
set_option maxRecDepth 100000

set_option linter.unusedVariables false
set_option linter.unusedSimpArgs false
set_option maxRecDepth 100000

set_option linter.unusedVariables false
set_option linter.unusedSimpArgs false
set_option maxRecDepth 100000

set_option linter.unusedVariables false
set_option maxRecDepth 100000

set_option linter.unusedVariables false
set_option maxRecDepth 100000

set_option linter.unusedVariables false
set_option maxRecDepth 100000

set_option linter.unusedVariables false
set_option maxRecDepth 100000

set_option linter.unusedVariables false
set_option maxRecDepth 100000

set_option linter.unusedVariables false
set_option linter.unusedSimpArgs false
set_option maxRecDepth 100000
namespace Go.Proofs.Ytdaecndbdinddaa
open Go.RowKit Go.Shelf
attribute [local go_sem] Oper.semAt_some

end Go.Proofs.Ytdaecndbdinddaa

set_option linter.unusedVariables false
set_option linter.unusedSimpArgs false
set_option maxRecDepth 100000

set_option linter.unusedVariables false
set_option maxRecDepth 100000

set_option linter.unusedVariables false
set_option linter.unusedSimpArgs false
set_option maxRecDepth 100000

set_option linter.unusedVariables false
set_option linter.unusedSimpArgs false
set_option maxRecDepth 100000

set_option linter.unusedVariables false
set_option linter.unusedSimpArgs false
set_option maxRecDepth 100000

set_option linter.unusedVariables false
set_option linter.unusedSimpArgs false
set_option maxRecDepth 100000

set_option linter.unusedVariables false
set_option linter.unusedSimpArgs false
set_option maxRecDepth 100000

set_option linter.unusedVariables false
set_option linter.unusedSimpArgs false
set_option maxRecDepth 100000

set_option linter.unusedVariables false
set_option linter.unusedSimpArgs false
set_option maxRecDepth 100000
namespace Go.Proofs.Ytdaecndbdinddaa
open Go.RowKit Go.Deep

theorem LoAt.kept {w w' : World} {l : Lo} {X : Nat → Prop} (h : LoAt w l) (hk : Keep X w w') (ho : LoOff l X) : LoAt w' l := by
  refine ⟨h.sd.keep hk (fun hne k hk9 e => ?_), ⟨h.es.1.keep hk (fun hne k hk9 e => ?_), fun x hx => ⟨(h.es.2 x hx).1.keep hk (fun hne k hk9 e => ?_), (h.es.2 x hx).2⟩⟩, h.ht, h.si, h.st, h.hv, h.sl, h.el⟩
  · obtain ⟨a, ha, hak⟩ := blk_of hk9
    exact ho.1 hne a ha (by rw [hak]; exact e)
  · obtain ⟨a, ha, hak⟩ := blk_of hk9
    exact ho.2.2 (fun h9 => hne (by rw [h9]; rfl)) a ha (by rw [hak]; exact e)
  · obtain ⟨a, ha, hak⟩ := blk_of hk9
    exact ho.2.1 x hx hne a ha (by rw [hak]; exact e)
/-- All of a log's memory is there. -/
theorem LoAt.low {w : World} {l : Lo} (h : LoAt w l) : LoOff l (fun k => w.heap.size ≤ k) := by
  refine ⟨fun hne a ha hk => ?_, fun x hx hne a ha hk => ?_, fun hne a ha hk => ?_⟩
  · have := rd_block h.sd hne a ha; omega
  · have := rd_block (h.es.2 x hx).1 hne a ha; omega
  · obtain ⟨x, hx⟩ : ∃ x, l.es[0]? = some x := ⟨_, List.getElem?_eq_getElem (List.length_pos_iff.2 hne)⟩
    obtain ⟨b, o, e1, c0, -⟩ := h.es.get hx
    rw [e1] at ha
    cases ha
    have := World.block_lt_of_cell? w _ c0
    simp only at this hk
    omega
theorem LoOff.or {l : Lo} {X Y Z : Nat → Prop} (h : LoOff l X) (k : LoOff l Y) (hz : ∀ j, Z j → X j ∨ Y j) : LoOff l Z :=
  ⟨fun hne a ha e => (hz _ e).elim (h.1 hne a ha) (k.1 hne a ha), fun x hx hne a ha e => (hz _ e).elim (h.2.1 x hx hne a ha) (k.2.1 x hx hne a ha), fun hne a ha e => (hz _ e).elim (h.2.2 hne a ha) (k.2.2 hne a ha)⟩

end Go.Proofs.Ytdaecndbdinddaa

set_option linter.unusedVariables false
set_option linter.unusedSimpArgs false
set_option maxRecDepth 100000
namespace Go.Proofs.Ytdaecndbdinddaa
open Go.RowKit Go.Deep

/-- The first m of the entries L are copied: E; nothing below w's end is written, and the copies lie behind it. -/
structure CpL (w V : World) (L E : List En) (eo : Option Addr) (ec m : Nat) : Prop where
  below : Below w.heap.size w V
  len : E.length = m
  pe : E.map En.pe = (L.map En.pe).take m
  own : V.ownsRow w.heap.size 58 3 (.slice eo m ec) m (E.map rowE).flatten
  each : ∀ e ∈ E, Rd V (rcv e.r) e.r.b ∧ e.t < 18446744073709551616 ∧ e.i < 18446744073709551616 ∧ e.r.b.length ≤ 140737488355328
  new : ∀ e ∈ E, e.r.b ≠ [] → ∀ a, e.r.a = some a → w.heap.size ≤ a.block ∧ (Value.slice eo m ec).ownBlock ≠ some a.block
section
variable {w V V' : World} {L E : List En} {eo : Option Addr} {ec m : Nat}
theorem CpL.none (w : World) (L : List En) : CpL w w L [] none 0 0 :=
  ⟨Below.refl _ _, rfl, by rw [List.take_zero]; rfl, World.ownsRow_nil _ _ _ _, fun _ h => (by cases h), fun _ h => (by cases h)⟩
theorem CpL.old (h : CpL w V L E eo ec m) (hb : Below V.heap.size V V') : CpL w V' L E eo ec m :=
  ⟨h.below.trans (hb.mono h.below.size), h.len, h.pe, own_old h.own hb, fun e he => ⟨(h.each e he).1.old hb, (h.each e he).2⟩, h.new⟩
/-- One more. -/
theorem CpL.next (h : CpL w V L E eo ec m) (e : En) (x : En) (hx : L[m]? = some x) (hep : e.pe = x.pe) (he : Rd V (rcv e.r) e.r.b ∧ e.t < 18446744073709551616 ∧ e.i < 18446744073709551616 ∧ e.r.b.length ≤ 140737488355328) (heo : e.r.b ≠ [] → ∀ a, e.r.a = some a → w.heap.size ≤ a.block ∧ (Value.slice eo m ec).ownBlock ≠ some a.block) (o : Obj) {v' : Value} {V' : World}
    (o5 : V'.ownsRow w.heap.size 58 3 v' (m + [rowE e].length) ((E.map rowE).flatten ++ [rowE e].flatten)) (g5 : (V.alloc o).grownBy V' (Value.slice eo m ec).ownBlock) (f5 : ∀ j, v'.ownBlock = some j → (Value.slice eo m ec).ownBlock = some j ∨ (V.alloc o).heap.size ≤ j) :
    ∃ po pc, v' = .slice po (m + 1) pc ∧ CpL w V' L (E ++ [e]) po pc (m + 1) := by
  have hba : Below V.heap.size V (V.alloc o) := (Below.refl _ _).alloc (Nat.le_refl _) _
  have hsz : (V.alloc o).heap.size = V.heap.size + 1 := by simp
  obtain ⟨po, pc, rfl⟩ := own_form o5
  have hL : m + [rowE e].length = m + 1 := rfl
  rw [hL] at o5 f5 ⊢
  have hk5 : Keep (fun j => (Value.slice eo m ec).ownBlock = some j) (V.alloc o) V' := Keep.of_grown g5 (fun _ e => e)
  have hrd : ∀ xo xc (b : List UInt8), Rd V (.slice xo b.length xc) b → (b ≠ [] → ∀ a, xo = some a → (Value.slice eo m ec).ownBlock ≠ some a.block) → Rd V' (.slice xo b.length xc) b := fun xo xc b hx hoff =>
    (hx.old hba).keep hk5 (fun hne j hj e9 => by
      obtain ⟨a9, ha9, hak⟩ := blk_of hj
      exact hoff hne a9 ha9 (by rw [hak]; exact e9))
  have hall : ∀ y ∈ E ++ [e], (Rd V (rcv y.r) y.r.b ∧ y.t < 18446744073709551616 ∧ y.i < 18446744073709551616 ∧ y.r.b.length ≤ 140737488355328) ∧ (y.r.b ≠ [] → ∀ a, y.r.a = some a → w.heap.size ≤ a.block ∧ (Value.slice eo m ec).ownBlock ≠ some a.block) := fun y hy => by
    rcases List.mem_append.1 hy with hy | hy
    · exact ⟨h.each y hy, h.new y hy⟩
    · obtain rfl := List.mem_singleton.1 hy
      exact ⟨he, heo⟩
  have hbV : Below w.heap.size w (V.alloc o) := h.below.trans (hba.mono h.below.size)
  refine ⟨po, pc, rfl, hbV.trans (hk5.below hbV.size (fun j e => ?_)), by rw [List.length_append, h.len]; rfl, ?_, ?_, fun y hy => ⟨hrd _ _ _ (hall y hy).1.1 (fun hne a ha => ((hall y hy).2 hne a ha).2), (hall y hy).1.2⟩, fun y hy hne a ha => ⟨((hall y hy).2 hne a ha).1, fun e9 => ?_⟩⟩
  · exact (h.own.lt j e).1
  · rw [List.map_append, h.pe, List.take_add_one, List.getElem?_map, hx]
    simp only [List.map_cons, List.map_nil, Option.map_some, Option.toList_some, hep]
  · rw [List.map_append, List.flatten_append]
    exact o5
  · rcases f5 _ e9 with e8 | e8
    · exact ((hall y hy).2 hne a ha).2 e8
    · have := rd_block (hall y hy).1.1 hne a ha
      omega
/-- All are copied, and the snapshot's bytes. -/
theorem CpL.lo (l : Lo) (h : CpL w V l.es E eo ec m) (hm : m = l.es.length) (hl : LoAt w l) (sr : Rc) (hs : Rd V (rcv sr) sr.b) (hsb : sr.b = l.sd.b) (hsn : sr.b ≠ [] → ∀ a, sr.a = some a → w.heap.size ≤ a.block) :
    (Lo.mk l.ht l.hv l.si l.st sr eo ec E).pl = l.pl ∧ LoAt V ⟨l.ht, l.hv, l.si, l.st, sr, eo, ec, E⟩ ∧ ∀ X : Nat → Prop, (∀ k, X k → k < w.heap.size) → LoOff ⟨l.ht, l.hv, l.si, l.st, sr, eo, ec, E⟩ X := by
  have hE : Ents V (.slice eo E.length ec) E := ents_own (B := w.heap.size) (by have h9 := h.own; rw [← h.len] at h9; exact h9) h.each
  refine ⟨?_, ⟨hs, hE, hl.ht, hl.si, hl.st, hl.hv, by show sr.b.length ≤ _; rw [hsb]; exact hl.sl, by show E.length ≤ _; rw [h.len, hm]; exact hl.el⟩, fun X hX => ⟨fun hne a ha e => ?_, fun e he hne a ha e9 => ?_, fun hne a ha e9 => ?_⟩⟩
  · unfold Lo.pl
    simp only
    rw [h.pe, hsb, List.take_of_length_le (by rw [List.length_map]; omega)]
  · have := hsn hne a ha; have := hX _ e; omega
  · have := (h.new e he hne a ha).1; have := hX _ e9; omega
  · have h9 := h.own
    simp only at ha hne
    subst ha
    have h8 := (h9.lt a.block rfl).1
    have := hX _ e9
    omega
end
end Go.Proofs.Ytdaecndbdinddaa

set_option linter.unusedVariables false
set_option linter.unusedSimpArgs false
set_option maxRecDepth 100000
namespace Go.Proofs.Ytdaecndbdinddaa
open Go.RowKit Go.Deep

set_option maxHeartbeats 1000000 in
theorem copyBv_any (w : World) (x : Value) (l : List UInt8) (h : Rd w x l) (hl : l.length ≤ 140737488355328) :
    Calls Try.prog 55 #[x] w (Gives 5 w l) := by
  have HR := hid h
  obtain ⟨ao, c, rfl, -⟩ := h
  have hown : w.ownsRow w.heap.size 5 1 (.slice none 0 0) 0 [] := World.ownsRow_nil _ _ _ _
  have HR2 := HR.out
  go_enter Try.func55, Try.ntmps55
  go_wp2_with (first
    | (at_builtin; refine wp_app rfl _ _ 28 rfl w.heap.size 5 Try.underlying28 (by kernel_rfl) _ _ _ rfl hown _ l rfl HR2 ?c1 ?c2 ?_))
  case c1 => omega
  case c2 => exact Nat.le_refl _
  intro v' w1 hown' hgrow
  have hb : Below w.heap.size w w1 := (Below.refl _ _).grown hgrow (Nat.le_refl _) (fun k hk => by simp [Value.ownBlock] at hk)
  clear hgrow hown HR2
  go_wp2_with fail
  go_ret
  exact ⟨_, rfl, by simpa using hown', hb⟩

/-- What a copy of a log is. -/
def CpA (l : Lo) (w : World) (en : Ending) (w' : World) : Prop := ∃ is : Lo, en = .returned is.v ∧ is.pl = l.pl ∧ LoAt w' is ∧ Below w.heap.size w w' ∧ ∀ X : Nat → Prop, (∀ k, X k → k < w.heap.size) → LoOff is X

set_option maxHeartbeats 16000000 in
theorem copyLog_any (l : Lo) (w : World) (hl : LoAt w l) (hmax : l.es.length ≤ 1000000000000) : Calls Try.prog 26 #[l.v] w (CpA l w) := by
  have HL0 := hid hl
  have hE := hl.es
  have hec : l.es.length ≤ l.ec := by
    obtain ⟨_, _, e1, q1, q2⟩ := hE.1.form
    simp only [Value.slice.injEq, List.length_map] at e1 q1
    omega
  have hlen := fun W => run_len_slice (P := Try.prog) W 30 3 l.eo l.es.length l.ec Try.underlying30
  have hb : Below w.heap.size w ((w.alloc (.cells #[.int .u64 (l.ht : Int), .int .i64 l.hv, .int .u64 (l.si : Int), .int .u64 (l.st : Int), .slice l.sd.a l.sd.b.length l.sd.c, .slice l.eo l.es.length l.ec] 69)).alloc (.cells #[.int .u64 0, .int .i64 0, .int .u64 0, .int .u64 0, .slice none 0 0, .slice none 0 0] 69)) := ((Below.refl _ _).alloc (Nat.le_refl _) _).alloc (by simp) _
  have h0 := (Below.heap_alloc (w.alloc (.cells #[.int .u64 (l.ht : Int), .int .i64 l.hv, .int .u64 (l.si : Int), .int .u64 (l.st : Int), .slice l.sd.a l.sd.b.length l.sd.c, .slice l.eo l.es.length l.ec] 69)) (.cells #[.int .u64 0, .int .i64 0, .int .u64 0, .int .u64 0, .slice none 0 0, .slice none 0 0] 69) w.heap.size (by simp)).trans (heap_alloc_new w (.cells #[.int .u64 (l.ht : Int), .int .i64 l.hv, .int .u64 (l.si : Int), .int .u64 (l.st : Int), .slice l.sd.a l.sd.b.length l.sd.c, .slice l.eo l.es.length l.ec] 69))
  have h1 := heap_alloc2_new w (.cells #[.int .u64 (l.ht : Int), .int .i64 l.hv, .int .u64 (l.si : Int), .int .u64 (l.st : Int), .slice l.sd.a l.sd.b.length l.sd.c, .slice l.eo l.es.length l.ec] 69) (.cells #[.int .u64 0, .int .i64 0, .int .u64 0, .int .u64 0, .slice none 0 0, .slice none 0 0] 69)
  have hs1 : ((w.alloc (.cells #[.int .u64 (l.ht : Int), .int .i64 l.hv, .int .u64 (l.si : Int), .int .u64 (l.st : Int), .slice l.sd.a l.sd.b.length l.sd.c, .slice l.eo l.es.length l.ec] 69)).alloc (.cells #[.int .u64 0, .int .i64 0, .int .u64 0, .int .u64 0, .slice none 0 0, .slice none 0 0] 69)).heap.size = w.heap.size + 2 := by simp
  obtain ⟨n, hn⟩ : ∃ n, n = l.es.length := ⟨_, rfl⟩
  have HN := hid hn
  simp only [Lo.v]
  rw [← hn] at hlen hec h0 h1 hs1 hb hmax ⊢
  clear hl hE hn
  obtain ⟨eo0, heo0⟩ : ∃ eo0, eo0 = l.eo := ⟨_, rfl⟩
  have HE0 : Hid (Ents w (.slice eo0 n l.ec) l.es) := by show Ents _ _ _; rw [heo0, HN.out]; exact HL0.out.es
  rw [← heo0] at hlen h0 h1 hs1 hb ⊢
  clear heo0
  go_enter Try.func26, Try.ntmps26
  go_upto_region 1 with fail
  generalize (w.alloc (.cells #[.int .u64 (l.ht : Int), .int .i64 l.hv, .int .u64 (l.si : Int), .int .u64 (l.st : Int), .slice l.sd.a l.sd.b.length l.sd.c, .slice eo0 n l.ec] 69)).alloc (.cells #[.int .u64 0, .int .i64 0, .int .u64 0, .int .u64 0, .slice none 0 0, .slice none 0 0] 69) = w1 at *
  have HB := hid hb
  have HS1 := hid hs1
  have HLw := hid (HL0.out.old hb)
  have H1 := hid h1
  have HC : Hid (∀ V, Below w1.heap.size w1 V → (V.cell? ⟨w.heap.size, 0, none⟩ = some (.int .u64 (l.ht : Int)) ∧ V.cell? ⟨w.heap.size, 1, none⟩ = some (.int .i64 l.hv) ∧ V.cell? ⟨w.heap.size, 2, none⟩ = some (.int .u64 (l.si : Int)) ∧ V.cell? ⟨w.heap.size, 3, none⟩ = some (.int .u64 (l.st : Int)) ∧ V.cell? ⟨w.heap.size, 4, none⟩ = some (.slice l.sd.a l.sd.b.length l.sd.c) ∧ V.cell? ⟨w.heap.size, 5, none⟩ = some (.slice eo0 n l.ec))) := hid fun V h => six_cells ((h.block _ (lt_of_block h0)).trans h0)
  clear hb hs1 h0 h1
  go_wp2_with fail
  go_loopw [3, 4] (fun t i wr => ∃ (m : Nat) (E : List En) (eo : Option Addr) (ec : Nat), m ≤ n ∧ i = .int .i64 (m : Int) ∧ t = .slice eo m ec ∧ Hid (CpL w1 wr l.es E eo ec m)) (fun _ i _ => n - (intOf i).toNat)
  case atStart => exact ⟨0, [], none, 0, by omega, rfl, rfl, CpL.none _ _⟩
  case round =>
    obtain ⟨m, E, eo, ec, hm, rfl, rfl, HI⟩ := hrel
    obtain ⟨z0, z1, z2, z3, z4, z5⟩ := HC.out _ HI.out.below
    by_cases hlt : m < n
    · have hki : (m : Int) < (n : Int) := by omega
      have hz : IntKind.i64.wrap ((m : Int) + 1) = (m : Int) + 1 := by rw [IntKind.wrap_i64]; omega
      have hA9 := List.getElem?_eq_getElem (l := l.es) (i := m) (by have := HN.out; omega)
      generalize l.es[m]'_ = e at hA9
      obtain ⟨b1, o1, ea1, c10, c11, c12, r1⟩ := (HE0.out.old (HB.out.trans (HI.out.below.mono HB.out.size))).get hA9
      subst ea1
      have HG := hid hA9
      have HEI := hid (HE0.out.2 e (List.mem_of_getElem? hA9)).2
      have hWd : Below wr.heap.size wr wr.drew := ⟨rfl, rfl, rfl, Nat.le_refl _, fun _ _ => rfl⟩
      obtain ⟨S9, hS9⟩ : ∃ S9 : World → Prop, S9 = fun V => (∀ k, k < w1.heap.size → V.heap[k]? = wr.heap[k]?) := ⟨_, rfl⟩
      have hlc : ∀ a v, wr.cell? a = some v → a.block < w1.heap.size → ∀ V, S9 V → V.cell? a = some v := fun a v hv hlt V h => by rw [hS9] at h; exact (World.cell?_of_block (w := wr) (a := a) (h _ hlt)).trans hv
      have hbl : w.heap.size < w1.heap.size := by have := HS1.out; omega
      have hb1 : b1 < w1.heap.size := by
        obtain ⟨b9, o9, e9, q9, -⟩ := HE0.out.get hA9
        cases e9
        have := World.block_lt_of_cell? w _ q9
        simp only at this
        omega
      have hY : ∀ V, S9 V → V.cell? ⟨w.heap.size, 5, none⟩ = some (.slice (some ⟨b1, o1, none⟩) n l.ec) ∧ V.cell? ⟨b1, o1 + m * 3, none⟩ = some (.int .u64 (e.t : Int)) ∧ V.cell? ⟨b1, o1 + m * 3 + 1, none⟩ = some (.int .u64 (e.i : Int)) ∧ V.cell? ⟨b1, o1 + m * 3 + 2, none⟩ = some (.slice e.r.a e.r.b.length e.r.c) := fun V h => ⟨hlc _ _ z5 hbl V h, hlc _ _ c10 hb1 V h, hlc _ _ c11 hb1 V h, hlc _ _ c12 hb1 V h⟩
      have HS : Hid (∀ V, Below w1.heap.size wr V → S9 V) := hid fun V h => by rw [hS9]; exact fun k hk => h.block k hk
      have CB : Hid (∀ W, Below wr.heap.size wr W → Calls Try.prog 55 #[.slice e.r.a e.r.b.length e.r.c] W (Gives 5 W e.r.b)) := hid fun W hW => copyBv_any W _ _ (r1.old hW) HEI.out.2.2
      go_upto_region 5 with fail
      have HWd := hid hWd
      clear hS9 hlc hb1 hWd c10 c11 c12 r1 hA9 z0 z1 z2 z3 z4
      refine wp_region_noPanic ?_
      refine wp_region_held_drew (S := S9) (by kernel_rfl) (HS.out _ (HWd.out.mono HI.out.below.size)) (fun hHeld => ?_)
      have CBd := hid (CB.out _ HWd.out)
      generalize wr.drew = Wd at *
      refine wpAnyH_take (i := 0) (v := (.slice eo m ec)) rfl (by kernel_rfl) (by kernel_rfl) (by kernel_rfl) (fun _ _ _ h => (show False from h).elim) ?xyVO1 ?xhVO1 ?xrVO1
      case xhVO1 => exact hHeld
      case xyVO1 => exact Or.inl ⟨by rfl, fun W9 hW => by clear hHeld; simp only [List.getElem_toArray, List.getElem_cons_succ, List.getElem_cons_zero]; go_simp⟩
      simp only [Act.put, List.getElem_toArray, List.getElem_cons_succ, List.getElem_cons_zero, List.setIfInBounds_toArray, List.set_cons_succ, List.set_cons_zero]
      refine wpAnyH_take (i := 1) (v := (.pointer (some ⟨w.heap.size, 5, none⟩))) rfl (by kernel_rfl) (by kernel_rfl) (by kernel_rfl) (fun _ _ _ h => (show False from h).elim) ?xyVO2 ?xhVO2 ?xrVO2
      case xhVO2 => exact hHeld
      case xyVO2 => exact Or.inl ⟨by rfl, fun W9 hW => by clear hHeld; simp only [List.getElem_toArray, List.getElem_cons_succ, List.getElem_cons_zero]; go_simp⟩
      simp only [Act.put, List.getElem_toArray, List.getElem_cons_succ, List.getElem_cons_zero, List.setIfInBounds_toArray, List.set_cons_succ, List.set_cons_zero]
      refine wpAnyH_take (i := 2) (v := (.slice (some ⟨b1, o1, none⟩) n l.ec)) rfl (by kernel_rfl) (by kernel_rfl) (by kernel_rfl) (fun _ _ _ h => (show False from h).elim) ?xyVO3 ?xhVO3 ?xrVO3
      case xhVO3 => exact hHeld
      case xyVO3 => exact Or.inl ⟨by rfl, fun W9 hW => by obtain ⟨y0, y1, y2, y3⟩ := hY _ hW; clear hHeld; simp only [List.getElem_toArray, List.getElem_cons_succ, List.getElem_cons_zero]; go_simp⟩
      simp only [Act.put, List.getElem_toArray, List.getElem_cons_succ, List.getElem_cons_zero, List.setIfInBounds_toArray, List.set_cons_succ, List.set_cons_zero]
      refine wpAnyH_take (i := 3) (v := (.int .i64 (m : Int))) rfl (by kernel_rfl) (by kernel_rfl) (by kernel_rfl) (fun _ _ _ h => (show False from h).elim) ?xyVO4 ?xhVO4 ?xrVO4
      case xhVO4 => exact hHeld
      case xyVO4 => exact Or.inl ⟨by rfl, fun W9 hW => by clear hHeld; simp only [List.getElem_toArray, List.getElem_cons_succ, List.getElem_cons_zero]; go_simp⟩
      simp only [Act.put, List.getElem_toArray, List.getElem_cons_succ, List.getElem_cons_zero, List.setIfInBounds_toArray, List.set_cons_succ, List.set_cons_zero]
      refine wpAnyH_take (i := 4) (v := (.pointer (some ⟨b1, o1 + m * 3, none⟩))) rfl (by kernel_rfl) (by kernel_rfl) (by kernel_rfl) (fun _ _ _ h => (show False from h).elim) ?xyVO5 ?xhVO5 ?xrVO5
      case xhVO5 => exact hHeld
      case xyVO5 => exact Or.inl ⟨by rfl, fun W9 hW => by clear hHeld; simp only [List.getElem_toArray, List.getElem_cons_succ, List.getElem_cons_zero]; go_simp⟩
      simp only [Act.put, List.getElem_toArray, List.getElem_cons_succ, List.getElem_cons_zero, List.setIfInBounds_toArray, List.set_cons_succ, List.set_cons_zero]
      refine wpAnyH_take (i := 5) (v := (.pointer (some ⟨b1, o1 + m * 3, none⟩))) rfl (by kernel_rfl) (by kernel_rfl) (by kernel_rfl) (fun _ _ _ h => (show False from h).elim) ?xyVO6 ?xhVO6 ?xrVO6
      case xhVO6 => exact hHeld
      case xyVO6 => exact Or.inl ⟨by rfl, fun W9 hW => by clear hHeld; simp only [List.getElem_toArray, List.getElem_cons_succ, List.getElem_cons_zero]; go_simp⟩
      simp only [Act.put, List.getElem_toArray, List.getElem_cons_succ, List.getElem_cons_zero, List.setIfInBounds_toArray, List.set_cons_succ, List.set_cons_zero]
      refine wpAnyH_take (i := 6) (v := (.int .u64 (e.t : Int))) rfl (by kernel_rfl) (by kernel_rfl) (by kernel_rfl) (fun _ _ _ h => (show False from h).elim) ?xyVO7 ?xhVO7 ?xrVO7
      case xhVO7 => exact hHeld
      case xyVO7 => exact Or.inl ⟨by rfl, fun W9 hW => by obtain ⟨y0, y1, y2, y3⟩ := hY _ hW; clear hHeld; simp only [List.getElem_toArray, List.getElem_cons_succ, List.getElem_cons_zero]; go_simp⟩
      simp only [Act.put, List.getElem_toArray, List.getElem_cons_succ, List.getElem_cons_zero, List.setIfInBounds_toArray, List.set_cons_succ, List.set_cons_zero]
      refine wpAnyH_take (i := 7) (v := (.pointer (some ⟨w.heap.size, 5, none⟩))) rfl (by kernel_rfl) (by kernel_rfl) (by kernel_rfl) (fun _ _ _ h => (show False from h).elim) ?xyVO8 ?xhVO8 ?xrVO8
      case xhVO8 => exact hHeld
      case xyVO8 => exact Or.inl ⟨by rfl, fun W9 hW => by clear hHeld; simp only [List.getElem_toArray, List.getElem_cons_succ, List.getElem_cons_zero]; go_simp⟩
      simp only [Act.put, List.getElem_toArray, List.getElem_cons_succ, List.getElem_cons_zero, List.setIfInBounds_toArray, List.set_cons_succ, List.set_cons_zero]
      refine wpAnyH_take (i := 8) (v := (.slice (some ⟨b1, o1, none⟩) n l.ec)) rfl (by kernel_rfl) (by kernel_rfl) (by kernel_rfl) (fun _ _ _ h => (show False from h).elim) ?xyVO9 ?xhVO9 ?xrVO9
      case xhVO9 => exact hHeld
      case xyVO9 => exact Or.inl ⟨by rfl, fun W9 hW => by obtain ⟨y0, y1, y2, y3⟩ := hY _ hW; clear hHeld; simp only [List.getElem_toArray, List.getElem_cons_succ, List.getElem_cons_zero]; go_simp⟩
      simp only [Act.put, List.getElem_toArray, List.getElem_cons_succ, List.getElem_cons_zero, List.setIfInBounds_toArray, List.set_cons_succ, List.set_cons_zero]
      refine wpAnyH_take (i := 9) (v := (.int .i64 (m : Int))) rfl (by kernel_rfl) (by kernel_rfl) (by kernel_rfl) (fun _ _ _ h => (show False from h).elim) ?xyVO10 ?xhVO10 ?xrVO10
      case xhVO10 => exact hHeld
      case xyVO10 => exact Or.inl ⟨by rfl, fun W9 hW => by clear hHeld; simp only [List.getElem_toArray, List.getElem_cons_succ, List.getElem_cons_zero]; go_simp⟩
      simp only [Act.put, List.getElem_toArray, List.getElem_cons_succ, List.getElem_cons_zero, List.setIfInBounds_toArray, List.set_cons_succ, List.set_cons_zero]
      refine wpAnyH_take (i := 10) (v := (.pointer (some ⟨b1, o1 + m * 3, none⟩))) rfl (by kernel_rfl) (by kernel_rfl) (by kernel_rfl) (fun _ _ _ h => (show False from h).elim) ?xyVO11 ?xhVO11 ?xrVO11
      case xhVO11 => exact hHeld
      case xyVO11 => exact Or.inl ⟨by rfl, fun W9 hW => by clear hHeld; simp only [List.getElem_toArray, List.getElem_cons_succ, List.getElem_cons_zero]; go_simp⟩
      simp only [Act.put, List.getElem_toArray, List.getElem_cons_succ, List.getElem_cons_zero, List.setIfInBounds_toArray, List.set_cons_succ, List.set_cons_zero]
      refine wpAnyH_take (i := 11) (v := (.pointer (some ⟨b1, o1 + m * 3 + 1, none⟩))) rfl (by kernel_rfl) (by kernel_rfl) (by kernel_rfl) (fun _ _ _ h => (show False from h).elim) ?xyVO12 ?xhVO12 ?xrVO12
      case xhVO12 => exact hHeld
      case xyVO12 => exact Or.inl ⟨by rfl, fun W9 hW => by clear hHeld; simp only [List.getElem_toArray, List.getElem_cons_succ, List.getElem_cons_zero]; go_simp⟩
      simp only [Act.put, List.getElem_toArray, List.getElem_cons_succ, List.getElem_cons_zero, List.setIfInBounds_toArray, List.set_cons_succ, List.set_cons_zero]
      refine wpAnyH_take (i := 12) (v := (.int .u64 (e.i : Int))) rfl (by kernel_rfl) (by kernel_rfl) (by kernel_rfl) (fun _ _ _ h => (show False from h).elim) ?xyVO13 ?xhVO13 ?xrVO13
      case xhVO13 => exact hHeld
      case xyVO13 => exact Or.inl ⟨by rfl, fun W9 hW => by obtain ⟨y0, y1, y2, y3⟩ := hY _ hW; clear hHeld; simp only [List.getElem_toArray, List.getElem_cons_succ, List.getElem_cons_zero]; go_simp⟩
      simp only [Act.put, List.getElem_toArray, List.getElem_cons_succ, List.getElem_cons_zero, List.setIfInBounds_toArray, List.set_cons_succ, List.set_cons_zero]
      refine wpAnyH_take (i := 13) (v := (.pointer (some ⟨w.heap.size, 5, none⟩))) rfl (by kernel_rfl) (by kernel_rfl) (by kernel_rfl) (fun _ _ _ h => (show False from h).elim) ?xyVO14 ?xhVO14 ?xrVO14
      case xhVO14 => exact hHeld
      case xyVO14 => exact Or.inl ⟨by rfl, fun W9 hW => by clear hHeld; simp only [List.getElem_toArray, List.getElem_cons_succ, List.getElem_cons_zero]; go_simp⟩
      simp only [Act.put, List.getElem_toArray, List.getElem_cons_succ, List.getElem_cons_zero, List.setIfInBounds_toArray, List.set_cons_succ, List.set_cons_zero]
      refine wpAnyH_take (i := 14) (v := (.slice (some ⟨b1, o1, none⟩) n l.ec)) rfl (by kernel_rfl) (by kernel_rfl) (by kernel_rfl) (fun _ _ _ h => (show False from h).elim) ?xyVO15 ?xhVO15 ?xrVO15
      case xhVO15 => exact hHeld
      case xyVO15 => exact Or.inl ⟨by rfl, fun W9 hW => by obtain ⟨y0, y1, y2, y3⟩ := hY _ hW; clear hHeld; simp only [List.getElem_toArray, List.getElem_cons_succ, List.getElem_cons_zero]; go_simp⟩
      simp only [Act.put, List.getElem_toArray, List.getElem_cons_succ, List.getElem_cons_zero, List.setIfInBounds_toArray, List.set_cons_succ, List.set_cons_zero]
      refine wpAnyH_take (i := 15) (v := (.int .i64 (m : Int))) rfl (by kernel_rfl) (by kernel_rfl) (by kernel_rfl) (fun _ _ _ h => (show False from h).elim) ?xyVO16 ?xhVO16 ?xrVO16
      case xhVO16 => exact hHeld
      case xyVO16 => exact Or.inl ⟨by rfl, fun W9 hW => by clear hHeld; simp only [List.getElem_toArray, List.getElem_cons_succ, List.getElem_cons_zero]; go_simp⟩
      simp only [Act.put, List.getElem_toArray, List.getElem_cons_succ, List.getElem_cons_zero, List.setIfInBounds_toArray, List.set_cons_succ, List.set_cons_zero]
      refine wpAnyH_take (i := 16) (v := (.pointer (some ⟨b1, o1 + m * 3, none⟩))) rfl (by kernel_rfl) (by kernel_rfl) (by kernel_rfl) (fun _ _ _ h => (show False from h).elim) ?xyVO17 ?xhVO17 ?xrVO17
      case xhVO17 => exact hHeld
      case xyVO17 => exact Or.inl ⟨by rfl, fun W9 hW => by clear hHeld; simp only [List.getElem_toArray, List.getElem_cons_succ, List.getElem_cons_zero]; go_simp⟩
      simp only [Act.put, List.getElem_toArray, List.getElem_cons_succ, List.getElem_cons_zero, List.setIfInBounds_toArray, List.set_cons_succ, List.set_cons_zero]
      refine wpAnyH_take (i := 17) (v := (.pointer (some ⟨b1, o1 + m * 3 + 2, none⟩))) rfl (by kernel_rfl) (by kernel_rfl) (by kernel_rfl) (fun _ _ _ h => (show False from h).elim) ?xyVO18 ?xhVO18 ?xrVO18
      case xhVO18 => exact hHeld
      case xyVO18 => exact Or.inl ⟨by rfl, fun W9 hW => by clear hHeld; simp only [List.getElem_toArray, List.getElem_cons_succ, List.getElem_cons_zero]; go_simp⟩
      simp only [Act.put, List.getElem_toArray, List.getElem_cons_succ, List.getElem_cons_zero, List.setIfInBounds_toArray, List.set_cons_succ, List.set_cons_zero]
      refine wpAnyH_take (i := 18) (v := (.slice e.r.a e.r.b.length e.r.c)) rfl (by kernel_rfl) (by kernel_rfl) (by kernel_rfl) (fun _ _ _ h => (show False from h).elim) ?xyVO19 ?xhVO19 ?xrVO19
      case xhVO19 => exact hHeld
      case xyVO19 => exact Or.inl ⟨by rfl, fun W9 hW => by obtain ⟨y0, y1, y2, y3⟩ := hY _ hW; clear hHeld; simp only [List.getElem_toArray, List.getElem_cons_succ, List.getElem_cons_zero]; go_simp⟩
      simp only [Act.put, List.getElem_toArray, List.getElem_cons_succ, List.getElem_cons_zero, List.setIfInBounds_toArray, List.set_cons_succ, List.set_cons_zero]
      refine wpAnyH_ready (rs := [19]) (by kernel_rfl) (by simp) ?_
      refine AllReadyH.cons rfl (fun K hK => ?_) AllReadyH.nil
      go_simp
      go_wp2_with (first | (go_at_call 55; refine CBd.out.mono ?_; rintro en wT ⟨vT, rfl, hoT, hbT⟩; have HNT0 := hid hoT; obtain ⟨ta, tc, rfl, hrT⟩ := gives_rd hoT; have HRT := hid hrT; have HTO : Hid (∀ a, ta = some a → Wd.heap.size ≤ a.block) := hid (fun a ha => by subst ha; exact (HNT0.out.lt a.block rfl).1); have HIT := hid (HI.out.old (HWd.out.trans (hbT.mono HWd.out.size))); have HBT := hid ((HWd.out.trans (hbT.mono HWd.out.size)).mono HI.out.below.size); have HWT := hid hbT; clear hbT hrT hoT HNT0))
      refine hK.out _ _ (HS.out _ HBT.out) (fun hHeld => ?_)
      clear hK K
      refine wpAnyH_take (i := 20) (v := (.agg #[.int .u64 (e.t : Int), .int .u64 (e.i : Int), .slice ta e.r.b.length tc])) rfl (by kernel_rfl) (by kernel_rfl) (by kernel_rfl) (fun _ _ _ h => (show False from h).elim) ?xyVO20 ?xhVO20 ?xrVO20
      case xhVO20 => exact hHeld
      case xyVO20 => exact Or.inl ⟨by rfl, fun W9 hW => by clear hHeld; simp only [List.getElem_toArray, List.getElem_cons_succ, List.getElem_cons_zero]; go_simp⟩
      simp only [Act.put, List.getElem_toArray, List.getElem_cons_succ, List.getElem_cons_zero, List.setIfInBounds_toArray, List.set_cons_succ, List.set_cons_zero]
      have hbu : Below wT.heap.size wT (wT.alloc (.cells #[.int .u64 (e.t : Int), .int .u64 (e.i : Int), .slice ta e.r.b.length tc] 58)) := (Below.refl _ _).alloc (Nat.le_refl _) _
      have HBU : Hid (Below w1.heap.size wr (wT.alloc (.cells #[.int .u64 (e.t : Int), .int .u64 (e.i : Int), .slice ta e.r.b.length tc] 58))) := hid (HBT.out.trans (hbu.mono HIT.out.below.size))
      have HEV : Hid (Rd wT (rcv ((⟨e.t, e.i, ⟨ta, tc, e.r.b⟩⟩ : En) : En).r) ((⟨e.t, e.i, ⟨ta, tc, e.r.b⟩⟩ : En) : En).r.b ∧ ((⟨e.t, e.i, ⟨ta, tc, e.r.b⟩⟩ : En) : En).t < 18446744073709551616 ∧ ((⟨e.t, e.i, ⟨ta, tc, e.r.b⟩⟩ : En) : En).i < 18446744073709551616 ∧ ((⟨e.t, e.i, ⟨ta, tc, e.r.b⟩⟩ : En) : En).r.b.length ≤ 140737488355328) := ⟨HRT.out, HEI.out⟩
      have HRW : Hid (Rws 3 (wT.alloc (.cells #[.int .u64 (e.t : Int), .int .u64 (e.i : Int), .slice ta e.r.b.length tc] 58)) (.slice (some ⟨wT.heap.size, 0, none⟩) 1 1) [rowE (⟨e.t, e.i, ⟨ta, tc, e.r.b⟩⟩ : En)]) := Rws.one (r := rowE (⟨e.t, e.i, ⟨ta, tc, e.r.b⟩⟩ : En)) rfl ⟨rfl, fun u hu => by simp only [rowE, rcv, List.mem_cons, List.not_mem_nil, or_false] at hu; rcases hu with rfl | rfl | rfl <;> rfl⟩
      have HOW := hid (own_old HIT.out.own hbu)
      have HSW : Hid (w1.heap.size ≤ (wT.alloc (.cells #[.int .u64 (e.t : Int), .int .u64 (e.i : Int), .slice ta e.r.b.length tc] 58)).heap.size) := by have := HIT.out.below.size; have := hbu.size; show _ ≤ _; omega
      have HOF : Hid ((⟨e.t, e.i, ⟨ta, tc, e.r.b⟩⟩ : En).r.b ≠ [] → ∀ a, (⟨e.t, e.i, ⟨ta, tc, e.r.b⟩⟩ : En).r.a = some a → w1.heap.size ≤ a.block ∧ (Value.slice eo m ec).ownBlock ≠ some a.block) := hid fun _ a ha => ⟨by have := HTO.out a ha; have := HWd.out.size; have := HI.out.below.size; omega, fun e9 => by have := HTO.out a ha; have := (HI.out.own.lt _ e9).2; have := HWd.out.size; omega⟩
      clear hbu
      refine wpAnyH_ready (rs := [21]) (by kernel_rfl) (by simp) ?_
      refine AllReadyH.cons rfl (fun K hK => ?_) AllReadyH.nil
      go_simp
      refine hK.out _ _ (HS.out _ HBU.out) (fun hHeld => ?_)
      clear hK K
      refine wpAnyH_ready (rs := [22]) (by kernel_rfl) (by simp) ?_
      refine AllReadyH.cons rfl (fun K hK => ?_) AllReadyH.nil
      refine step_rapp9 (.tmp 12) (.tmp 33) 30 (by rfl) w1.heap.size 3 40 58 Try.underlying30 _ info_entry (by simp [Value.cells]) (by decide) _ m (E.map rowE).flatten (by rfl) HOW.out _ [rowE (⟨e.t, e.i, ⟨ta, tc, e.r.b⟩⟩ : En)] (by rfl) HRW.out (by simp; omega) (by simp [maxLen]; omega) HSW.out (by first | rfl | (simp [Region.wanted, yielded]; done)) (fun v' w' o5 g5 f5 => ?_)
      obtain ⟨po, pc, rfl, HNX0⟩ := HIT.out.next (⟨e.t, e.i, ⟨ta, tc, e.r.b⟩⟩ : En) e HG.out rfl HEV.out HOF.out (.cells #[.int .u64 (e.t : Int), .int .u64 (e.i : Int), .slice ta e.r.b.length tc] 58) o5 g5 f5
      have HNX := hid HNX0
      have HBX := hid (HBU.out.grown g5 HSW.out (fun j e => (HOW.out.lt j e).1))
      clear HNX0 o5 g5 f5
      refine hK.out _ _ (HS.out _ HBX.out) (fun hHeld => ?_)
      clear hK K
      simp only [Act.put, List.getElem_toArray, List.getElem_cons_succ, List.getElem_cons_zero, List.setIfInBounds_toArray, List.set_cons_succ, List.set_cons_zero]
      refine wpAnyH_take (i := 23) (v := (.slice po (m + 1) pc)) rfl (by kernel_rfl) (by kernel_rfl) (by kernel_rfl) (fun _ _ _ h => (show False from h).elim) ?xyVO21 ?xhVO21 ?xrVO21
      case xhVO21 => exact hHeld
      case xyVO21 => exact Or.inl ⟨by rfl, fun W9 hW => by clear hHeld; simp only [List.getElem_toArray, List.getElem_cons_succ, List.getElem_cons_zero]; go_simp⟩
      simp only [Act.put, List.getElem_toArray, List.getElem_cons_succ, List.getElem_cons_zero, List.setIfInBounds_toArray, List.set_cons_succ, List.set_cons_zero]
      refine wpAnyH_done (by kernel_rfl) ?_ _
      refine NoPanic.normal ?_
      go_wp2_with fail
      exact ⟨⟨m + 1, _, po, pc, by omega, by simp, rfl, HNX⟩, by simp only [intOf]; omega⟩
    · obtain rfl : m = n := by omega
      have hki : ¬ (m : Int) < (m : Int) := by omega
      have hWd : Below wr.heap.size wr wr.drew := ⟨rfl, rfl, rfl, Nat.le_refl _, fun _ _ => rfl⟩
      obtain ⟨S9, hS9⟩ : ∃ S9 : World → Prop, S9 = fun V => V.heap[w.heap.size]? = wr.heap[w.heap.size]? := ⟨_, rfl⟩
      have HZ : Hid (∀ V, S9 V → (V.cell? ⟨w.heap.size, 0, none⟩ = some (.int .u64 (l.ht : Int)) ∧ V.cell? ⟨w.heap.size, 1, none⟩ = some (.int .i64 l.hv) ∧ V.cell? ⟨w.heap.size, 2, none⟩ = some (.int .u64 (l.si : Int)) ∧ V.cell? ⟨w.heap.size, 3, none⟩ = some (.int .u64 (l.st : Int)) ∧ V.cell? ⟨w.heap.size, 4, none⟩ = some (.slice l.sd.a l.sd.b.length l.sd.c) ∧ V.cell? ⟨w.heap.size, 5, none⟩ = some (.slice eo0 m l.ec))) := hid fun V h => by rw [hS9] at h; have hq := fun k => World.cell?_of_block (w := wr) (w' := V) (a := ⟨w.heap.size, k, none⟩) h; exact ⟨(hq 0).trans z0, (hq 1).trans z1, (hq 2).trans z2, (hq 3).trans z3, (hq 4).trans z4, (hq 5).trans z5⟩
      have HS : Hid (∀ V, V.heap[w.heap.size]? = wr.heap[w.heap.size]? → S9 V) := hid fun V h => by rw [hS9]; exact h
      have hbl : w.heap.size + 1 < w1.heap.size ∧ w1.heap.size ≤ wr.heap.size := by have := HS1.out; have := HI.out.below.size; omega
      have HBL := hid hbl
      have CB : Hid (∀ W, Below wr.heap.size wr W → Calls Try.prog 55 #[.slice l.sd.a l.sd.b.length l.sd.c] W (Gives 5 W l.sd.b)) := hid fun W hW => copyBv_any W _ _ ((HLw.out.sd.old HI.out.below).old hW) HL0.out.sl
      have HWd := hid hWd
      have CBd := hid (CB.out _ hWd)
      go_upto_region 6 with fail
      clear z0 z1 z2 z3 z4 z5 hS9 hWd hbl
      refine wp_region_noPanic ?_
      refine wp_region_held_drew (S := S9) (by kernel_rfl) (HS.out _ rfl) (fun hHeld => ?_)
      have HDW : Hid (wr.drew.heap[w.heap.size]? = wr.heap[w.heap.size]?) := hid rfl
      generalize wr.drew = Wd at *
      refine wpAnyH_take (i := 0) (v := (.pointer (some ⟨w.heap.size, 0, none⟩))) rfl (by kernel_rfl) (by kernel_rfl) (by kernel_rfl) (fun _ _ _ h => (show False from h).elim) ?xyVP1 ?xhVP1 ?xrVP1
      case xhVP1 => exact hHeld
      case xyVP1 => exact Or.inl ⟨by rfl, fun W9 hW => by clear hHeld; simp only [List.getElem_toArray, List.getElem_cons_succ, List.getElem_cons_zero]; go_simp⟩
      simp only [Act.put, List.getElem_toArray, List.getElem_cons_succ, List.getElem_cons_zero, List.setIfInBounds_toArray, List.set_cons_succ, List.set_cons_zero]
      refine wpAnyH_take (i := 1) (v := (.agg #[.int .u64 (l.ht : Int), .int .i64 l.hv])) rfl (by kernel_rfl) (by kernel_rfl) (by kernel_rfl) (fun _ _ _ h => (show False from h).elim) ?xyVP2 ?xhVP2 ?xrVP2
      case xhVP2 => exact hHeld
      case xyVP2 => exact Or.inl ⟨by rfl, fun W9 hW => by obtain ⟨y0, y1, y2, y3, y4, y5⟩ := HZ.out _ hW; clear hHeld; simp only [List.getElem_toArray, List.getElem_cons_succ, List.getElem_cons_zero]; go_simp⟩
      simp only [Act.put, List.getElem_toArray, List.getElem_cons_succ, List.getElem_cons_zero, List.setIfInBounds_toArray, List.set_cons_succ, List.set_cons_zero]
      refine wpAnyH_take (i := 2) (v := (.pointer (some ⟨w.heap.size, 2, none⟩))) rfl (by kernel_rfl) (by kernel_rfl) (by kernel_rfl) (fun _ _ _ h => (show False from h).elim) ?xyVP3 ?xhVP3 ?xrVP3
      case xhVP3 => exact hHeld
      case xyVP3 => exact Or.inl ⟨by rfl, fun W9 hW => by clear hHeld; simp only [List.getElem_toArray, List.getElem_cons_succ, List.getElem_cons_zero]; go_simp⟩
      simp only [Act.put, List.getElem_toArray, List.getElem_cons_succ, List.getElem_cons_zero, List.setIfInBounds_toArray, List.set_cons_succ, List.set_cons_zero]
      refine wpAnyH_take (i := 3) (v := (.pointer (some ⟨w.heap.size, 2, none⟩))) rfl (by kernel_rfl) (by kernel_rfl) (by kernel_rfl) (fun _ _ _ h => (show False from h).elim) ?xyVP4 ?xhVP4 ?xrVP4
      case xhVP4 => exact hHeld
      case xyVP4 => exact Or.inl ⟨by rfl, fun W9 hW => by clear hHeld; simp only [List.getElem_toArray, List.getElem_cons_succ, List.getElem_cons_zero]; go_simp⟩
      simp only [Act.put, List.getElem_toArray, List.getElem_cons_succ, List.getElem_cons_zero, List.setIfInBounds_toArray, List.set_cons_succ, List.set_cons_zero]
      refine wpAnyH_take (i := 4) (v := (.int .u64 (l.si : Int))) rfl (by kernel_rfl) (by kernel_rfl) (by kernel_rfl) (fun _ _ _ h => (show False from h).elim) ?xyVP5 ?xhVP5 ?xrVP5
      case xhVP5 => exact hHeld
      case xyVP5 => exact Or.inl ⟨by rfl, fun W9 hW => by obtain ⟨y0, y1, y2, y3, y4, y5⟩ := HZ.out _ hW; clear hHeld; simp only [List.getElem_toArray, List.getElem_cons_succ, List.getElem_cons_zero]; go_simp⟩
      simp only [Act.put, List.getElem_toArray, List.getElem_cons_succ, List.getElem_cons_zero, List.setIfInBounds_toArray, List.set_cons_succ, List.set_cons_zero]
      refine wpAnyH_take (i := 5) (v := (.pointer (some ⟨w.heap.size, 2, none⟩))) rfl (by kernel_rfl) (by kernel_rfl) (by kernel_rfl) (fun _ _ _ h => (show False from h).elim) ?xyVP6 ?xhVP6 ?xrVP6
      case xhVP6 => exact hHeld
      case xyVP6 => exact Or.inl ⟨by rfl, fun W9 hW => by clear hHeld; simp only [List.getElem_toArray, List.getElem_cons_succ, List.getElem_cons_zero]; go_simp⟩
      simp only [Act.put, List.getElem_toArray, List.getElem_cons_succ, List.getElem_cons_zero, List.setIfInBounds_toArray, List.set_cons_succ, List.set_cons_zero]
      refine wpAnyH_take (i := 6) (v := (.pointer (some ⟨w.heap.size, 3, none⟩))) rfl (by kernel_rfl) (by kernel_rfl) (by kernel_rfl) (fun _ _ _ h => (show False from h).elim) ?xyVP7 ?xhVP7 ?xrVP7
      case xhVP7 => exact hHeld
      case xyVP7 => exact Or.inl ⟨by rfl, fun W9 hW => by clear hHeld; simp only [List.getElem_toArray, List.getElem_cons_succ, List.getElem_cons_zero]; go_simp⟩
      simp only [Act.put, List.getElem_toArray, List.getElem_cons_succ, List.getElem_cons_zero, List.setIfInBounds_toArray, List.set_cons_succ, List.set_cons_zero]
      refine wpAnyH_take (i := 7) (v := (.int .u64 (l.st : Int))) rfl (by kernel_rfl) (by kernel_rfl) (by kernel_rfl) (fun _ _ _ h => (show False from h).elim) ?xyVP8 ?xhVP8 ?xrVP8
      case xhVP8 => exact hHeld
      case xyVP8 => exact Or.inl ⟨by rfl, fun W9 hW => by obtain ⟨y0, y1, y2, y3, y4, y5⟩ := HZ.out _ hW; clear hHeld; simp only [List.getElem_toArray, List.getElem_cons_succ, List.getElem_cons_zero]; go_simp⟩
      simp only [Act.put, List.getElem_toArray, List.getElem_cons_succ, List.getElem_cons_zero, List.setIfInBounds_toArray, List.set_cons_succ, List.set_cons_zero]
      refine wpAnyH_take (i := 8) (v := (.pointer (some ⟨w.heap.size, 2, none⟩))) rfl (by kernel_rfl) (by kernel_rfl) (by kernel_rfl) (fun _ _ _ h => (show False from h).elim) ?xyVP9 ?xhVP9 ?xrVP9
      case xhVP9 => exact hHeld
      case xyVP9 => exact Or.inl ⟨by rfl, fun W9 hW => by clear hHeld; simp only [List.getElem_toArray, List.getElem_cons_succ, List.getElem_cons_zero]; go_simp⟩
      simp only [Act.put, List.getElem_toArray, List.getElem_cons_succ, List.getElem_cons_zero, List.setIfInBounds_toArray, List.set_cons_succ, List.set_cons_zero]
      refine wpAnyH_take (i := 9) (v := (.pointer (some ⟨w.heap.size, 4, none⟩))) rfl (by kernel_rfl) (by kernel_rfl) (by kernel_rfl) (fun _ _ _ h => (show False from h).elim) ?xyVP10 ?xhVP10 ?xrVP10
      case xhVP10 => exact hHeld
      case xyVP10 => exact Or.inl ⟨by rfl, fun W9 hW => by clear hHeld; simp only [List.getElem_toArray, List.getElem_cons_succ, List.getElem_cons_zero]; go_simp⟩
      simp only [Act.put, List.getElem_toArray, List.getElem_cons_succ, List.getElem_cons_zero, List.setIfInBounds_toArray, List.set_cons_succ, List.set_cons_zero]
      refine wpAnyH_take (i := 10) (v := (.slice l.sd.a l.sd.b.length l.sd.c)) rfl (by kernel_rfl) (by kernel_rfl) (by kernel_rfl) (fun _ _ _ h => (show False from h).elim) ?xyVP11 ?xhVP11 ?xrVP11
      case xhVP11 => exact hHeld
      case xyVP11 => exact Or.inl ⟨by rfl, fun W9 hW => by obtain ⟨y0, y1, y2, y3, y4, y5⟩ := HZ.out _ hW; clear hHeld; simp only [List.getElem_toArray, List.getElem_cons_succ, List.getElem_cons_zero]; go_simp⟩
      simp only [Act.put, List.getElem_toArray, List.getElem_cons_succ, List.getElem_cons_zero, List.setIfInBounds_toArray, List.set_cons_succ, List.set_cons_zero]
      refine wpAnyH_take (i := 13) (v := (.slice eo m ec)) rfl (by kernel_rfl) (by kernel_rfl) (by kernel_rfl) (fun _ _ _ h => (show False from h).elim) ?xyVP12 ?xhVP12 ?xrVP12
      case xhVP12 => exact hHeld
      case xyVP12 => exact Or.inl ⟨by rfl, fun W9 hW => by clear hHeld; simp only [List.getElem_toArray, List.getElem_cons_succ, List.getElem_cons_zero]; go_simp⟩
      simp only [Act.put, List.getElem_toArray, List.getElem_cons_succ, List.getElem_cons_zero, List.setIfInBounds_toArray, List.set_cons_succ, List.set_cons_zero]
      refine wpAnyH_ready (rs := [11]) (by kernel_rfl) (by simp) ?_
      refine AllReadyH.cons rfl (fun K hK => ?_) AllReadyH.nil
      go_simp
      go_wp2_with (first | (go_at_call 55; refine CBd.out.mono ?_; rintro en wT ⟨vT, rfl, hoT, hbT⟩; have HNT0 := hid hoT; obtain ⟨ta, tc, rfl, hrT⟩ := gives_rd hoT; have HRT := hid hrT; have HTO : Hid (∀ a, ta = some a → Wd.heap.size ≤ a.block) := hid (fun a ha => by subst ha; exact (HNT0.out.lt a.block rfl).1); have HIT := hid (HI.out.old (HWd.out.trans (hbT.mono HWd.out.size))); have HBT := hid (HWd.out.trans (hbT.mono HWd.out.size)); clear hbT hrT hoT HNT0))
      refine hK.out _ _ (HS.out _ (HBT.out.block _ (by have := HBL.out; omega))) (fun hHeld => ?_)
      clear hK K
      refine wpAnyH_take (i := 12) (v := (.agg #[.int .u64 (l.si : Int), .int .u64 (l.st : Int), .slice ta l.sd.b.length tc])) rfl (by kernel_rfl) (by kernel_rfl) (by kernel_rfl) (fun _ _ _ h => (show False from h).elim) ?xyVP13 ?xhVP13 ?xrVP13
      case xhVP13 => exact hHeld
      case xyVP13 => exact Or.inl ⟨by rfl, fun W9 hW => by clear hHeld; simp only [List.getElem_toArray, List.getElem_cons_succ, List.getElem_cons_zero]; go_simp⟩
      simp only [Act.put, List.getElem_toArray, List.getElem_cons_succ, List.getElem_cons_zero, List.setIfInBounds_toArray, List.set_cons_succ, List.set_cons_zero]
      refine wpAnyH_take (i := 14) (v := (.agg #[.int .u64 (l.ht : Int), .int .i64 l.hv, .int .u64 (l.si : Int), .int .u64 (l.st : Int), .slice ta l.sd.b.length tc, .slice eo m ec])) rfl (by kernel_rfl) (by kernel_rfl) (by kernel_rfl) (fun _ _ _ h => (show False from h).elim) ?xyVP14 ?xhVP14 ?xrVP14
      case xhVP14 => exact hHeld
      case xyVP14 => exact Or.inl ⟨by rfl, fun W9 hW => by clear hHeld; simp only [List.getElem_toArray, List.getElem_cons_succ, List.getElem_cons_zero]; go_simp⟩
      simp only [Act.put, List.getElem_toArray, List.getElem_cons_succ, List.getElem_cons_zero, List.setIfInBounds_toArray, List.set_cons_succ, List.set_cons_zero]
      have hT1 := (HIT.out.below.block _ (lt_of_block H1.out)).trans H1.out
      obtain ⟨r0, r1, r2, r3, r4, r5⟩ := six_cells hT1
      have fb : ∀ k, wT.frozen? ⟨w.heap.size + 1, k, none⟩ = false := fun k => by simp [World.frozen?, hT1]
      have f0 := fb 0
      have f1 := fb 1
      have f2 := fb 2
      have f3 := fb 3
      have f4 := fb 4
      have f5 := fb 5
      have HT1 := hid hT1
      clear fb hT1
      refine wpAnyH_ready (rs := [15]) (by kernel_rfl) (by simp) ?_
      refine AllReadyH.cons rfl (fun K hK => ?_) AllReadyH.nil
      go_simp
      have HKS := hid (keep_six wT (w.heap.size + 1) (.int .u64 (l.ht : Int)) (.int .i64 l.hv) (.int .u64 (l.si : Int)) (.int .u64 (l.st : Int)) (.slice ta l.sd.b.length tc) (.slice eo m ec))
      refine hK.out _ _ (HS.out _ ((HKS.out.block _ (by have := HBL.out; have := HBT.out.size; omega) (by omega)).trans (HBT.out.block _ (by have := HBL.out; omega)))) (fun hHeld => ?_)
      clear hK K r0 r1 r2 r3 r4 r5 f0 f1 f2 f3 f4 f5
      refine wpAnyH_done (by kernel_rfl) ?_ _
      refine NoPanic.normal ?_
      go_wp2_with fail
      have hset := six_set HT1.out (.int .u64 (l.ht : Int)) (.int .i64 l.hv) (.int .u64 (l.si : Int)) (.int .u64 (l.st : Int)) (.slice ta l.sd.b.length tc) (.slice eo m ec)
      obtain ⟨p1, p2, p3⟩ := HIT.out.lo l HN.out HLw.out ⟨ta, tc, l.sd.b⟩ HRT.out rfl (fun _ a ha => by have := HTO.out a ha; have := HBL.out; have := HWd.out.size; omega)
      refine bodyPost_ret (results_cell_row rfl _ _ (w.heap.size + 1) 69 _ (0, 0) _ rfl hset Try.underlying69 rfl (by kernel_rfl)) rfl ?_
      refine ⟨_, ?_, p1, p2.kept HKS.out (p3 _ (fun k e => by have := HBL.out; omega)), ?_, fun X hX => p3 X (fun k hk => by have := hX k hk; have := HBL.out; omega)⟩
      · simp only [Lo.v]
        rw [HIT.out.len]
      · have hb9 := HB.out.trans (HIT.out.below.mono HB.out.size)
        exact hb9.trans (HKS.out.below hb9.size (fun j e => by rw [e]; omega))
end Go.Proofs.Ytdaecndbdinddaa

set_option linter.unusedVariables false
set_option linter.unusedSimpArgs false
set_option maxRecDepth 100000
namespace Go.Proofs.Ytdaecndbdinddaa
open Go.RowKit Go.Deep

/-- One cell of a row of one's own. -/
theorem own_put {w : World} {base : Nat} {e : TypeId} {size n c g k : Nat} {xs : List Value} (h : w.ownsRow base e size (.slice (some ⟨g, 0, none⟩) n c) n xs) (hk : k < n * size) (x : Value) :
    (w.setCell ⟨g, k, none⟩ x).ownsRow base e size (.slice (some ⟨g, 0, none⟩) n c) n (xs.set k x) := by
  obtain ⟨h1, h2⟩ := h
  refine ⟨by rw [List.length_set]; exact h1, ?_⟩
  rcases h2 with ⟨h2, _⟩ | ⟨g', cap, cur, hv, hb, hg, hc, hm2, hs, ht⟩
  · cases h2
  · simp only [Value.slice.injEq, Option.some.injEq, Addr.mk.injEq, and_true, true_and] at hv
    obtain ⟨rfl, rfl⟩ := hv
    refine .inr ⟨g, c, _, rfl, hb, set_at x hg, hc, hm2, by rw [Array.size_setIfInBounds]; exact hs, ?_⟩
    rw [Array.toList_setIfInBounds, ← ht, List.take_set]
theorem row_set : ∀ (F : List En) (k : Nat) (e : En) (r : Rc), F[k]? = some e → (F.map rowE).flatten.set (k * 3 + 2) (rcv r) = ((F.set k ⟨e.t, e.i, r⟩).map rowE).flatten
  | [], k, e, r, h => by cases h
  | x :: F, 0, e, r, h => by
    simp only [List.getElem?_cons_zero, Option.some.injEq] at h
    subst h
    simp [rowE]
  | x :: F, k + 1, e, r, h => by
    simp only [List.getElem?_cons_succ] at h
    have := row_set F k e r h
    simp only [List.map_cons, List.flatten_cons, List.set_cons_succ]
    rw [← this, List.set_append, if_neg (by simp [rowE]; omega)]
    congr 2
    simp [rowE]
    omega

/-- The first m of the entries have bytes of their own. -/
structure ClL (B : Nat) (V : World) (L F : List En) (yo : Option Addr) (c m : Nat) : Prop where
  len : F.length = L.length
  pe : F.map En.pe = L.map En.pe
  own : V.ownsRow B 58 3 (.slice yo F.length c) F.length (F.map rowE).flatten
  each : ∀ e ∈ F, Rd V (rcv e.r) e.r.b ∧ e.t < 18446744073709551616 ∧ e.i < 18446744073709551616 ∧ e.r.b.length ≤ 140737488355328
  off : ∀ e ∈ F, e.r.b ≠ [] → ∀ a, e.r.a = some a → (Value.slice yo F.length c).ownBlock ≠ some a.block
  new : ∀ j e, F[j]? = some e → j < m → e.r.b ≠ [] → ∀ a, e.r.a = some a → B ≤ a.block
section
variable {B : Nat} {V V' : World} {L F : List En} {yo : Option Addr} {g c m : Nat}
theorem ClL.old (h : ClL B V L F yo c m) (hb : Below V.heap.size V V') : ClL B V' L F yo c m :=
  ⟨h.len, h.pe, own_old h.own hb, fun e he => ⟨(h.each e he).1.old hb, (h.each e he).2⟩, h.off, h.new⟩
theorem ClL.next (h : ClL B V L F (some ⟨g, 0, none⟩) c m) (e : En) (he : F[m]? = some e) (r : Rc) (hr : Rd V (rcv r) r.b) (hrb : r.b = e.r.b) (hro : r.b ≠ [] → ∀ a, r.a = some a → B ≤ a.block ∧ a.block ≠ g) :
    ClL B (V.setCell ⟨g, m * 3 + 2, none⟩ (rcv r)) L (F.set m ⟨e.t, e.i, r⟩) (some ⟨g, 0, none⟩) c (m + 1) := by
  have hm := (List.getElem?_eq_some_iff.1 he).1
  have hme := List.mem_of_getElem? he
  have hk : Keep (fun j => j = g) V (V.setCell ⟨g, m * 3 + 2, none⟩ (rcv r)) := Keep.set (X := fun j => j = g) V ⟨g, m * 3 + 2, none⟩ _ rfl
  have hrd : ∀ (x : Rc), Rd V (rcv x) x.b → (x.b ≠ [] → ∀ a, x.a = some a → a.block ≠ g) → Rd (V.setCell ⟨g, m * 3 + 2, none⟩ (rcv r)) (rcv x) x.b := fun x hx hoff =>
    hx.keep hk (fun hne j hj e9 => by
      obtain ⟨a9, ha9, hak⟩ := blk_of hj
      exact hoff hne a9 ha9 (by rw [hak]; exact e9))
  have hall : ∀ y ∈ F.set m ⟨e.t, e.i, r⟩, (Rd V (rcv y.r) y.r.b ∧ y.t < 18446744073709551616 ∧ y.i < 18446744073709551616 ∧ y.r.b.length ≤ 140737488355328) ∧ (y.r.b ≠ [] → ∀ a, y.r.a = some a → a.block ≠ g) := fun y hy => by
    rcases List.mem_or_eq_of_mem_set hy with hy | rfl
    · exact ⟨h.each y hy, fun hne a ha e9 => h.off y hy hne a ha (by rw [e9]; rfl)⟩
    · have h9 := h.each e hme
      exact ⟨⟨hr, h9.2.1, h9.2.2.1, by show r.b.length ≤ _; rw [hrb]; exact h9.2.2.2⟩, fun hne a ha => (hro hne a ha).2⟩
  refine ⟨by rw [List.length_set]; exact h.len, ?_, ?_, fun y hy => ⟨hrd _ (hall y hy).1.1 (hall y hy).2, (hall y hy).1.2⟩, fun y hy hne a ha e9 => (hall y hy).2 hne a ha (Option.some.inj e9).symm, fun j y hj hlt hne a ha => ?_⟩
  · rw [List.map_set, ← h.pe]
    have h9 : En.pe ⟨e.t, e.i, r⟩ = En.pe e := by unfold En.pe; simp only [hrb]
    rw [h9]
    refine List.ext_getElem? fun j => ?_
    by_cases hj : m = j
    · subst hj
      rw [List.getElem?_set_self (by rw [List.length_map]; exact hm), List.getElem?_map, he]
      rfl
    · rw [List.getElem?_set_ne hj]
  · rw [List.length_set, ← row_set F m e r he]
    exact own_put h.own (by omega) _
  · by_cases hjm : j = m
    · subst hjm
      rw [List.getElem?_set_self hm] at hj
      cases hj
      exact (hro hne a ha).1
    · rw [List.getElem?_set_ne (fun e => hjm e.symm)] at hj
      exact h.new j y hj (by omega) hne a ha
/-- What stays but for blocks below the row. -/
theorem ClL.keep {X : Nat → Prop} (h : ClL B V L F yo c m) (hk : Keep X V V') (h1 : ∀ k, (Value.slice yo F.length c).ownBlock = some k → ¬ X k) (h2 : ∀ e ∈ F, e.r.b ≠ [] → ∀ a, e.r.a = some a → ¬ X a.block) : ClL B V' L F yo c m :=
  ⟨h.len, h.pe, own_keep h.own hk h1, fun e he => ⟨(h.each e he).1.keep hk (fun hne j hj e9 => by
    obtain ⟨a9, ha9, hak⟩ := blk_of hj
    exact h2 e he hne a9 ha9 (by rw [hak]; exact e9)), (h.each e he).2⟩, h.off, h.new⟩
end
end Go.Proofs.Ytdaecndbdinddaa

set_option linter.unusedVariables false
set_option linter.unusedSimpArgs false
set_option maxRecDepth 100000

