import Derived.Test.YtdaecndbdinddaaRows
import Derived.WalkKit
import Derived.WalkSpells
import Derived.WalkLawsBesides
import Derived.Laws.AppendOwnNone
import Derived.OpenShut
import Derived.Deep.Slices
import Derived.Deep.AppendLies
import Derived.BigQuiet
import Derived.Deep.QuietTactic
import Derived.Deep.MidRow
import Derived.Laws.MakeOwn
import Derived.Lib.Bytes
import Derived.Shelf.Abstract
import Derived.LoopN
import Derived.Deep.OwnRows
import Derived.OwnWalk
import Derived.Great.FillDense
import Derived.Laws.Tables
import Derived.Deep.RegionHeld3
import Derived.Deep.WholeRow
import Derived.BigRegion
import Derived.Great.BuildSlice
import Derived.StillTailTactics
import Derived.Deep.RegionLaw
import Derived.Deep.CutBlock
import Derived.Deep.RegionWith
import Derived.RangeFuncNested
import Derived.RangeFuncBound
import Derived.RangeFuncCalls
import Derived.RangeFuncLeaves
import Derived.RangeFuncBox
import Derived.Shelf.RegionOpen
import Derived.OwnWalkIn
import Derived.TacticsInMore
import Derived.LoopNIn
import Derived.LoopIn
import Derived.OrdersIn
import Derived.Deep.CutRange
import Derived.Sort.CutIn
import Derived.LaidEql
import Derived.Stop.Asserts
import Derived.RowKitTokens
import Derived.Lib.SliceRun

namespace Go.Proofs.Ytdaecndbdinddaa
open Go.RowKit

theorem hid {p : Prop} (h : p) : Hid p := h

/-- A byte's cell. -/
def bv (c : UInt8) : Value := .int .u8 (c.toNat : Int)

/-- The slice x reads as the bytes l. -/
def Rd (w : World) (x : Value) (l : List UInt8) : Prop :=
  ∃ (ao : Option Addr) (c : Nat), x = .slice ao l.length c ∧ l.length ≤ c ∧ c ≤ maxLen ∧ (ao = none → c = 0) ∧
    ∀ a, ao = some a → ∀ (j : Nat) u, (l.map bv)[j]? = some u → w.cell? (a.add j) = some u

theorem Rd.nil (w : World) : Rd w (.slice none 0 0) [] := ⟨none, 0, rfl, by simp, by simp, fun _ => rfl, fun a h => by cases h⟩

/-- Behind a call that leaves all that was there. -/
theorem Rd.old {w w' : World} {x : Value} {l : List UInt8} (h : Rd w x l) (hb : Below w.heap.size w w') : Rd w' x l := by
  obtain ⟨ao, c, rfl, h1, h2, h3, h4⟩ := h
  refine ⟨ao, c, rfl, h1, h2, h3, fun a ha j u hu => ?_⟩
  subst ha
  have h6 := h4 a rfl j u hu
  rw [hb.cell (p := a.add j) (World.block_lt_of_cell? w _ h6)]
  exact h6

theorem Rd.alloc {w : World} {x : Value} {l : List UInt8} (h : Rd w x l) (o : Obj) : Rd (w.alloc o) x l := h.old ((Below.refl _ _).alloc (Nat.le_refl _) o)

/-- 'string(x)'. -/
theorem Rd.conv {P : Program} {w : World} {x : Value} {l : List UInt8} (h : Rd w x l) (src dst e : TypeId) (hs : P.underlying src = some (.slice e)) (he : P.underlying e = some (.int .u8)) (hd : P.underlying dst = some .string) :
    (convert src dst x).run P w = .ok (.string ⟨l.toArray⟩) w := by
  obtain ⟨ao, c, rfl, h1, h2, h3, h4⟩ := h
  cases ao with
  | none =>
    obtain rfl : l = [] := List.eq_nil_of_length_eq_zero (by have := h3 rfl; omega)
    rw [run_convert_bytes_nil w src e hs he _ _ dst hd]
    rfl
  | some a =>
    rw [run_convert_bytes_string w src dst e _ _ _ hs he hd]
    have hl : (loadCells a l.length).run P w = .ok ((l.map fun x => (x.toNat : Int)).map (Value.int .u8)).toArray w := by
      have := run_loadCells_list (P := P) w a (l.map bv) (h4 a rfl)
      have e1 : (l.map fun x => (x.toNat : Int)).map (Value.int .u8) = l.map bv := by rw [List.map_map]; rfl
      rw [e1]
      simpa using this
    rw [run_bytesToString w a l.length c (l.map fun x => (x.toNat : Int)) hl, foldl_push_bytes]
    congr 2
    simp [ByteArray.empty, ByteArray.emptyWithCapacity, Function.comp_def]
    rfl

theorem Rd.take {w : World} {ao : Option Addr} {m c : Nat} {l : List UInt8} (h : Rd w (.slice ao m c) l) (n : Nat) (hn : n ≤ l.length) : Rd w (.slice ao n c) (l.take n) := by
  obtain ⟨ao', c', he, h1, h2, h3, h4⟩ := h
  simp only [Value.slice.injEq] at he
  obtain ⟨rfl, rfl, rfl⟩ := he
  have hlen : (l.take n).length = n := by rw [List.length_take]; omega
  refine ⟨ao, c, by rw [hlen], by rw [hlen]; omega, h2, h3, fun a ha j u hu => h4 a ha j u ?_⟩
  rw [List.map_take, List.getElem?_take] at hu
  split at hu
  · exact hu
  · cases hu

end Go.Proofs.Ytdaecndbdinddaa

namespace Go.Proofs.Ytdaecndbdinddaa

theorem wrap_u64 (n : Int) : IntKind.u64.wrap n = n % 18446744073709551616 := by simp [IntKind.wrap, IntKind.bits, IntKind.signed]

end Go.Proofs.Ytdaecndbdinddaa

namespace Go.Proofs.Ytdaecndbdinddaa
open Go.RowKit

/-- Rows of that many cells. -/
def Wide (size : Nat) (L : List (List Value)) : Prop := ∀ r ∈ L, r.length = size ∧ ∀ u ∈ r, u.oneCell' = true

theorem Wide.sub {size : Nat} {a b : List (List Value)} (h : Wide size a) (k : ∀ r ∈ b, r ∈ a) : Wide size b := fun r hr => h r (k r hr)

theorem Wide.at {size : Nat} {L : List (List Value)} (h : Wide size L) : ∀ {k : Nat} {r : List Value}, L[k]? = some r → ∀ {j : Nat} {u : Value}, r[j]? = some u → L.flatten[k * size + j]? = some u := by
  induction L with
  | nil => intro k r hk; simp at hk
  | cons q L ih =>
    intro k r hk j u hj
    have hq := (h q (by simp)).1
    cases k with
    | zero =>
      simp at hk
      subst hk
      have hjl : j < q.length := (List.getElem?_eq_some_iff.1 hj).1
      rw [Nat.zero_mul, Nat.zero_add, List.flatten_cons, List.getElem?_append_left hjl]
      exact hj
    | succ k =>
      have hk' : L[k]? = some r := by simpa using hk
      have h3 := ih (h.sub fun x hx => by simp [hx]) hk' hj
      rw [List.flatten_cons, List.getElem?_append_right (by rw [hq, Nat.add_mul]; omega)]
      have e : (k + 1) * size + j - q.length = k * size + j := by rw [hq, Nat.add_mul]; omega
      rw [e]
      exact h3

/-- The slice x reads as the rows L. -/
def Rws (size : Nat) (w : World) (x : Value) (L : List (List Value)) : Prop :=
  ∃ (ao : Option Addr) (c : Nat), x = .slice ao L.length c ∧ L.length ≤ c ∧ c ≤ maxLen ∧ (ao = none → c = 0) ∧ Wide size L ∧
    ∀ a, ao = some a → ∀ (j : Nat) u, L.flatten[j]? = some u → w.cell? (a.add j) = some u

theorem Rws.nil (size : Nat) (w : World) : Rws size w (.slice none 0 0) [] := ⟨none, 0, rfl, by simp, by simp, (fun _ => rfl), (fun r hr => by cases hr), (fun a h => by cases h)⟩

theorem Rws.old {size : Nat} {w w' : World} {x : Value} {L : List (List Value)} (h : Rws size w x L) (hb : Below w.heap.size w w') : Rws size w' x L := by
  obtain ⟨ao, c, rfl, h1, h2, h3, h5, h4⟩ := h
  refine ⟨ao, c, rfl, h1, h2, h3, h5, fun a ha j u hu => ?_⟩
  subst ha
  have h6 := h4 a rfl j u hu
  rw [hb.cell (p := a.add j) (World.block_lt_of_cell? w _ h6)]
  exact h6

theorem Rws.form {size : Nat} {w : World} {x : Value} {L : List (List Value)} (h : Rws size w x L) : ∃ ao c, x = .slice ao L.length c ∧ L.length ≤ c ∧ c ≤ maxLen := by
  obtain ⟨ao, c, rfl, h1, h2, h3, _⟩ := h
  exact ⟨ao, c, rfl, h1, h2⟩

/-- One row's cells. -/
theorem Rws.get {size : Nat} {w : World} {ao : Option Addr} {n c : Nat} {L : List (List Value)} (h : Rws size w (.slice ao n c) L) (hs : 0 < size) {k : Nat} {r : List Value} (hk : L[k]? = some r) :
    ∃ b off, ao = some ⟨b, off, none⟩ ∧ ∀ (j : Nat) u, r[j]? = some u → w.cell? ⟨b, off + k * size + j, none⟩ = some u := by
  obtain ⟨ao', c', he, h1, h2, h3, h5, h4⟩ := h
  simp only [Value.slice.injEq] at he
  obtain ⟨rfl, rfl, rfl⟩ := he
  have hkl : k < L.length := (List.getElem?_eq_some_iff.1 hk).1
  have hr := h5 r (List.mem_of_getElem? hk)
  cases ao with
  | none => have := h3 rfl; omega
  | some a =>
    obtain ⟨b, off, spot⟩ := a
    have hL0 : L[0]? = some (L[0]'(by omega)) := List.getElem?_eq_getElem (by omega)
    have hr0 := h5 _ (List.mem_of_getElem? hL0)
    have hu0 : (L[0]'(by omega))[0]? = some ((L[0]'(by omega))[0]'(by omega)) := List.getElem?_eq_getElem (by omega)
    have h0 := h4 _ rfl _ _ (h5.at hL0 hu0)
    have hspot : spot = none := by
      rw [Nat.zero_mul, Nat.zero_add] at h0
      simpa [Addr.add] using World.cell?_spot h0
    subst hspot
    refine ⟨b, off, rfl, fun j u hj => ?_⟩
    have := h4 _ rfl _ _ (h5.at hk hj)
    rw [WideShapes.add_plain, ← Nat.add_assoc] at this
    exact this

theorem Rws.take {size : Nat} {w : World} {ao : Option Addr} {m c : Nat} {L : List (List Value)} (h : Rws size w (.slice ao m c) L) (n : Nat) (hn : n ≤ L.length) : Rws size w (.slice ao n c) (L.take n) := by
  obtain ⟨ao', c', he, h1, h2, h3, h5, h4⟩ := h
  simp only [Value.slice.injEq] at he
  obtain ⟨rfl, rfl, rfl⟩ := he
  have hlen : (L.take n).length = n := by rw [List.length_take]; omega
  refine ⟨ao, c, by rw [hlen], by rw [hlen]; omega, h2, h3, h5.sub fun r hr => List.mem_of_mem_take hr, fun a ha j u hu => h4 a ha j u ?_⟩
  have e : L.flatten = (L.take n).flatten ++ (L.drop n).flatten := by rw [← List.flatten_append, List.take_append_drop]
  rw [e, List.getElem?_append_left]
  · exact hu
  · exact (List.getElem?_eq_some_iff.1 hu).1

end Go.Proofs.Ytdaecndbdinddaa

set_option linter.unusedVariables false
namespace Go.Proofs.Ytdaecndbdinddaa
open Go.RowKit

theorem lt_of_block {w : World} {b : Nat} {o : Obj} (h : w.heap[b]? = some o) : b < w.heap.size := (Array.getElem?_eq_some_iff.1 h).1

end Go.Proofs.Ytdaecndbdinddaa

set_option linter.unusedVariables false
set_option maxRecDepth 100000

set_option linter.unusedVariables false
set_option maxRecDepth 100000


namespace Go.Proofs.Ytdaecndbdinddaa
open Go.RowKit

/-- Bytes that are there lie at a plain address. -/
theorem Rd.at {w : World} {x : Value} {l : List UInt8} (h : Rd w x l) (hl : 0 < l.length) :
    ∃ b off c, x = .slice (some ⟨b, off, none⟩) l.length c ∧ l.length ≤ c ∧ c ≤ maxLen ∧ ∀ j (hj : j < l.length), w.cell? ⟨b, off + j, none⟩ = some (.int .u8 ((l[j]).toNat : Int)) := by
  obtain ⟨ao, c, rfl, h1, h2, h3, h4⟩ := h
  cases ao with
  | none => have := h3 rfl; omega
  | some a =>
    obtain ⟨b, off, spot⟩ := a
    have h0 := h4 _ rfl 0 (bv l[0]) (by simp [List.getElem?_eq_getElem hl])
    have hspot : spot = none := by simpa [Addr.add] using World.cell?_spot h0
    subst hspot
    refine ⟨b, off, c, rfl, h1, h2, fun j hj => ?_⟩
    have hj' := h4 _ rfl j (bv l[j]) (by simp [List.getElem?_eq_getElem hj])
    rw [WideShapes.add_plain] at hj'
    exact hj'

end Go.Proofs.Ytdaecndbdinddaa





namespace Go.Proofs.Ytdaecndbdinddaa
open Go.RowKit

set_option maxHeartbeats 1000000 in
set_option maxRecDepth 100000 in
theorem bytes_any (x y : Value) (l m : List UInt8) (w : World) (hx : Rd w x l) (hy : Rd w y m) :
    Calls Try.prog 19 #[x, y] w fun e w' => e = .returned (.bool (l == m)) ∧ w = w' := by
  have h1 := fun W (h : Rd W x l) => h.conv (P := Try.prog) 28 9 5 Try.underlying28 Try.underlying5 Try.underlying9
  have c1 := h1 w hx
  have c2 := hy.conv (P := Try.prog) 28 9 5 Try.underlying28 Try.underlying5 Try.underlying9
  clear h1 hx hy
  go_enter Try.func19, Try.ntmps19
  go_wp2_with fail
  go_ret
  exact ⟨rfl, rfl⟩

end Go.Proofs.Ytdaecndbdinddaa


set_option linter.unusedVariables false
namespace Go.Proofs.Ytdaecndbdinddaa

/-- An entry; a log. -/
structure Pe where
  t : Nat
  i : Nat
  b : List UInt8
deriving DecidableEq
structure PL where
  ht : Nat
  hv : Int
  si : Nat
  st : Nat
  sd : List UInt8
  es : List Pe
deriving DecidableEq
def rightE : Nat → Nat → Nat → List Pe → Bool
  | _, _, _, [] => true
  | idx, tm, ht, e :: es => decide (e.i = idx + 1 ∧ tm ≤ e.t ∧ e.t ≤ ht ∧ e.b.length ≤ 32668) && rightE (idx + 1) e.t ht es
def rightS (l : PL) : Bool := decide (l.si ≤ 4611686018427387904 ∧ l.st ≤ l.ht ∧ (l.si = 0 ↔ l.st = 0) ∧ l.sd.length ≤ 32668)
def rightP (l : PL) : Bool := decide (0 ≤ l.hv ∧ l.hv ≤ 5) && rightS l && rightE l.si (max l.st 1) l.ht l.es

end Go.Proofs.Ytdaecndbdinddaa

set_option linter.unusedVariables false
set_option maxRecDepth 100000

set_option linter.unusedVariables false
set_option maxRecDepth 100000


set_option linter.unusedVariables false
set_option maxRecDepth 100000

set_option linter.unusedVariables false

set_option linter.unusedVariables false
set_option maxRecDepth 100000

set_option linter.unusedVariables false
set_option maxRecDepth 100000

set_option linter.unusedVariables false
set_option maxRecDepth 100000

set_option linter.unusedVariables false
set_option maxRecDepth 100000

set_option linter.unusedVariables false
namespace Go.Proofs.Ytdaecndbdinddaa
open Go.RowKit Go.Shelf
attribute [local go_sem] Oper.semAt_some

variable {F : Fence} {n : Nat} {P : Program}

end Go.Proofs.Ytdaecndbdinddaa

set_option linter.unusedVariables false
namespace Go.Proofs.Ytdaecndbdinddaa
open Go.RowKit Go.Shelf
attribute [local go_sem] Oper.semAt_some

end Go.Proofs.Ytdaecndbdinddaa

set_option linter.unusedVariables false

set_option linter.unusedVariables false
set_option maxRecDepth 100000
namespace Go.Proofs.Ytdaecndbdinddaa
open Go.RowKit Go.Shelf
attribute [local go_sem] Oper.semAt_some

end Go.Proofs.Ytdaecndbdinddaa

set_option linter.unusedVariables false

set_option linter.unusedVariables false
set_option maxRecDepth 100000

set_option linter.unusedVariables false
set_option maxRecDepth 100000

set_option linter.unusedVariables false
set_option maxRecDepth 100000

set_option linter.unusedVariables false
set_option maxRecDepth 100000

set_option linter.unusedVariables false
set_option maxRecDepth 100000

set_option linter.unusedVariables false
set_option maxRecDepth 100000
namespace Go.Proofs.Ytdaecndbdinddaa
open Go.RowKit

/-- A record, with the slice that holds it. -/
structure Rc where
  a : Option Addr
  c : Nat
  b : List UInt8
def rcv (r : Rc) : Value := .slice r.a r.b.length r.c
end Go.Proofs.Ytdaecndbdinddaa

set_option linter.unusedVariables false
set_option maxRecDepth 100000

set_option linter.unusedVariables false
set_option maxRecDepth 100000

set_option linter.unusedVariables false
set_option maxRecDepth 100000

set_option linter.unusedVariables false
set_option maxRecDepth 100000

set_option linter.unusedVariables false
set_option linter.unusedSimpArgs false
set_option maxRecDepth 100000
namespace Go.Proofs.Ytdaecndbdinddaa
open Go.RowKit

/-- An entry with its bytes. -/
structure En where
  t : Nat
  i : Nat
  r : Rc
def En.pe (e : En) : Pe := ⟨e.t, e.i, e.r.b⟩
def rowE (e : En) : List Value := [.int .u64 (e.t : Int), .int .u64 (e.i : Int), rcv e.r]
def Ents (w : World) (x : Value) (E : List En) : Prop := Rws 3 w x (E.map rowE) ∧ ∀ e ∈ E, Rd w (rcv e.r) e.r.b ∧ e.t < 18446744073709551616 ∧ e.i < 18446744073709551616 ∧ e.r.b.length ≤ 140737488355328
/-- A log. -/
structure Lo where
  ht : Nat
  hv : Int
  si : Nat
  st : Nat
  sd : Rc
  eo : Option Addr
  ec : Nat
  es : List En
def Lo.v (l : Lo) : Value := .agg #[.int .u64 (l.ht : Int), .int .i64 l.hv, .int .u64 (l.si : Int), .int .u64 (l.st : Int), .slice l.sd.a l.sd.b.length l.sd.c, .slice l.eo l.es.length l.ec]
def Lo.pl (l : Lo) : PL := ⟨l.ht, l.hv, l.si, l.st, l.sd.b, l.es.map En.pe⟩
structure LoAt (w : World) (l : Lo) : Prop where
  sd : Rd w (.slice l.sd.a l.sd.b.length l.sd.c) l.sd.b
  es : Ents w (.slice l.eo l.es.length l.ec) l.es
  ht : l.ht < 18446744073709551616
  si : l.si < 18446744073709551616
  st : l.st < 18446744073709551616
  hv : -9223372036854775808 ≤ l.hv ∧ l.hv < 9223372036854775808
  sl : l.sd.b.length ≤ 140737488355328
  el : l.es.length ≤ 140737488355328

theorem Ents.old {w w' : World} {x : Value} {E : List En} (h : Ents w x E) (hb : Below w.heap.size w w') : Ents w' x E := ⟨h.1.old hb, fun e he => ⟨(h.2 e he).1.old hb, (h.2 e he).2⟩⟩
theorem LoAt.old {w w' : World} {l : Lo} (h : LoAt w l) (hb : Below w.heap.size w w') : LoAt w' l := ⟨h.sd.old hb, h.es.old hb, h.ht, h.si, h.st, h.hv, h.sl, h.el⟩
theorem Ents.get {w : World} {ao : Option Addr} {n c : Nat} {E : List En} (h : Ents w (.slice ao n c) E) {k : Nat} {e : En} (hk : E[k]? = some e) : ∃ b off, ao = some ⟨b, off, none⟩ ∧ w.cell? ⟨b, off + k * 3, none⟩ = some (.int .u64 (e.t : Int)) ∧ w.cell? ⟨b, off + k * 3 + 1, none⟩ = some (.int .u64 (e.i : Int)) ∧ w.cell? ⟨b, off + k * 3 + 2, none⟩ = some (.slice e.r.a e.r.b.length e.r.c) ∧ Rd w (.slice e.r.a e.r.b.length e.r.c) e.r.b := by
  obtain ⟨b, off, e1, hc⟩ := h.1.get (by decide) (k := k) (r := rowE e) (by rw [List.getElem?_map, hk]; rfl)
  have h0 := hc 0 _ rfl
  have h1 := hc 1 _ rfl
  have h2 := hc 2 _ rfl
  rw [Nat.add_zero] at h0
  exact ⟨b, off, e1, h0, h1, h2, (h.2 e (List.mem_of_getElem? hk)).1⟩

theorem three_cells {w : World} {b : Nat} {x y z : Value} {t : TypeId} (h : w.heap[b]? = some (.cells #[x, y, z] t (0, 0))) : w.cell? ⟨b, 0, none⟩ = some x ∧ w.cell? ⟨b, 1, none⟩ = some y ∧ w.cell? ⟨b, 2, none⟩ = some z := by simp [World.cell?, h]
theorem six_cells {w : World} {b : Nat} {x y z u p q : Value} {t : TypeId} (h : w.heap[b]? = some (.cells #[x, y, z, u, p, q] t (0, 0))) : w.cell? ⟨b, 0, none⟩ = some x ∧ w.cell? ⟨b, 1, none⟩ = some y ∧ w.cell? ⟨b, 2, none⟩ = some z ∧ w.cell? ⟨b, 3, none⟩ = some u ∧ w.cell? ⟨b, 4, none⟩ = some p ∧ w.cell? ⟨b, 5, none⟩ = some q := by simp [World.cell?, h]

section
variable {w : World} {l m : Lo}
theorem rightS_any (l : Lo) (hl : l.sd.b.length ≤ 140737488355328) (w : World) : Calls Try.prog 65 #[l.v] w (fun e w' => e = .returned (.bool (rightS l.pl)) ∧ Below w.heap.size w w') := by
  obtain ⟨ht, hv, si, st, ⟨a, c, b⟩, eo, ec, es⟩ := l
  have hlen := fun W => run_len_slice (P := Try.prog) W 28 3 a b.length c Try.underlying28
  simp only [Lo.v]
  simp only at hl
  have hb : Below w.heap.size w ((w.alloc (.cells #[.int .u64 (ht : Int), .int .i64 hv, .int .u64 (si : Int), .int .u64 (st : Int), .slice a b.length c, .slice eo es.length ec] 69)).alloc (.cells #[.int .u64 (si : Int), .int .u64 (st : Int), .slice a b.length c] 67)) := ((Below.refl _ _).alloc (Nat.le_refl _) _).alloc (by simp) _
  have hR : rightS (Lo.pl ⟨ht, hv, si, st, ⟨a, c, b⟩, eo, ec, es⟩) = decide (si ≤ 4611686018427387904 ∧ st ≤ ht ∧ (si = 0 ↔ st = 0) ∧ b.length ≤ 32668) := rfl
  rw [hR]
  clear hR
  go_enter Try.func65, Try.ntmps65
  go_upto_region 2 with fail
  have h0 := (Below.heap_alloc (w.alloc (.cells #[.int .u64 (ht : Int), .int .i64 hv, .int .u64 (si : Int), .int .u64 (st : Int), .slice a b.length c, .slice eo es.length ec] 69)) (.cells #[.int .u64 (si : Int), .int .u64 (st : Int), .slice a b.length c] 67) w.heap.size (by simp)).trans (heap_alloc_new w (.cells #[.int .u64 (ht : Int), .int .i64 hv, .int .u64 (si : Int), .int .u64 (st : Int), .slice a b.length c, .slice eo es.length ec] 69))
  have h1 := heap_alloc2_new w (.cells #[.int .u64 (ht : Int), .int .i64 hv, .int .u64 (si : Int), .int .u64 (st : Int), .slice a b.length c, .slice eo es.length ec] 69) (.cells #[.int .u64 (si : Int), .int .u64 (st : Int), .slice a b.length c] 67)
  generalize (w.alloc (.cells #[.int .u64 (ht : Int), .int .i64 hv, .int .u64 (si : Int), .int .u64 (st : Int), .slice a b.length c, .slice eo es.length ec] 69)).alloc (.cells #[.int .u64 (si : Int), .int .u64 (st : Int), .slice a b.length c] 67) = w1 at *
  obtain ⟨a0, a1, a2, a3, a4, a5⟩ := six_cells h0
  obtain ⟨b0, b1, b2⟩ := three_cells h1
  have HB := hid hb
  clear hb h0 h1
  by_cases g1 : (si : Int) ≤ 4611686018427387904
  · by_cases g2 : (st : Int) ≤ (ht : Int)
    · by_cases g3 : si = 0 <;> by_cases g4 : st = 0 <;> by_cases g5 : (b.length : Int) ≤ 32668
      all_goals
        first | subst g3 | have g3b : ((si : Int) == 0) = false := (by simp; omega)
        first | subst g4 | have g4b : ((st : Int) == 0) = false := (by simp; omega)
        go_wp2_with fail
        go_ret
        refine ⟨congrArg (fun q => Ending.returned (Value.bool q)) ?_, HB.out⟩
        first | (simp; done) | (simp; omega)
    · go_wp2_with fail
      go_ret
      refine ⟨congrArg (fun q => Ending.returned (Value.bool q)) ?_, HB.out⟩
      first | (simp; done) | (simp; omega)
  · go_wp2_with fail
    go_ret
    refine ⟨congrArg (fun q => Ending.returned (Value.bool q)) ?_, HB.out⟩
    first | (simp; done) | (simp; omega)
end
end Go.Proofs.Ytdaecndbdinddaa

set_option linter.unusedVariables false
set_option linter.unusedSimpArgs false
set_option maxRecDepth 100000
namespace Go.Proofs.Ytdaecndbdinddaa
open Go.RowKit

theorem cell_alloc {w : World} {a : Addr} {v : Value} (h : w.cell? a = some v) (o : Obj) : (w.alloc o).cell? a = some v :=
  (World.cell?_of_block (w := w) (a := a) ((((Below.refl w.heap.size w).alloc (Nat.le_refl _) o)).block _ (World.block_lt_of_cell? w _ h))).trans h
/-- An entry as a value. -/
def En.v (e : En) : Value := .agg #[.int .u64 (e.t : Int), .int .u64 (e.i : Int), .slice e.r.a e.r.b.length e.r.c]
theorem En.same (e f : En) : e.pe = f.pe ↔ e.t = f.t ∧ e.i = f.i ∧ e.r.b = f.r.b := by
  unfold En.pe
  simp only [Pe.mk.injEq]

end Go.Proofs.Ytdaecndbdinddaa

set_option linter.unusedVariables false
set_option linter.unusedSimpArgs false
set_option maxRecDepth 100000
namespace Go.Proofs.Ytdaecndbdinddaa
open Go.RowKit

theorem Lo.split (l m : Lo) : l.pl = m.pl ↔ l.ht = m.ht ∧ l.hv = m.hv ∧ (l.si = m.si ∧ l.st = m.st ∧ l.sd.b = m.sd.b) ∧ l.es.map En.pe = m.es.map En.pe := by
  unfold Lo.pl
  simp only [PL.mk.injEq, and_assoc]

end Go.Proofs.Ytdaecndbdinddaa

set_option linter.unusedVariables false
set_option linter.unusedSimpArgs false
set_option maxRecDepth 100000
namespace Go.Proofs.Ytdaecndbdinddaa
open Go.RowKit Go.Deep

/-- What is known behind k entries. -/
def tmK : Nat → List Pe → Nat → Nat
  | tm, _, 0 => tm
  | tm, [], _ + 1 => tm
  | _, e :: es, k + 1 => tmK e.t es k
theorem tmK_next : ∀ (es : List Pe) (tm k : Nat) (e : Pe), es[k]? = some e → tmK tm es (k + 1) = e.t
  | [], _, k, e, h => by cases h
  | x :: es, tm, 0, e, h => by
    simp only [List.getElem?_cons_zero, Option.some.injEq] at h
    subst h
    cases es <;> rfl
  | x :: es, tm, k + 1, e, h => by
    simp only [List.getElem?_cons_succ] at h
    exact tmK_next es x.t k e h
theorem rightE_cut : ∀ (es : List Pe) (idx tm ht k : Nat), k ≤ es.length → (rightE idx tm ht (es.take k) = true → (rightE idx tm ht es = rightE (idx + k) (tmK tm es k) ht (es.drop k))) 
  | es, idx, tm, ht, 0, _, _ => by
    cases es <;> rfl
  | [], idx, tm, ht, k + 1, h, _ => by simp at h
  | x :: es, idx, tm, ht, k + 1, h, hr => by
    simp only [List.take_succ_cons, rightE, Bool.and_eq_true] at hr
    have := rightE_cut es (idx + 1) x.t ht k (by simpa using h) hr.2
    show (decide _ && rightE (idx + 1) x.t ht es) = rightE (idx + (k + 1)) (tmK x.t es k) ht (es.drop k)
    rw [hr.1, this, Bool.true_and, show idx + 1 + k = idx + (k + 1) from by omega]
theorem rightE_more : ∀ (es : List Pe) (idx tm ht k : Nat) (e : Pe), es[k]? = some e → rightE idx tm ht (es.take k) = true → (e.i = idx + k + 1 ∧ tmK tm es k ≤ e.t ∧ e.t ≤ ht ∧ e.b.length ≤ 32668) → rightE idx tm ht (es.take (k + 1)) = true
  | [], _, _, _, k, e, h, _, _ => by cases h
  | x :: es, idx, tm, ht, 0, e, h, _, hc => by
    simp only [List.getElem?_cons_zero, Option.some.injEq] at h
    subst h
    have hc' : x.i = idx + 1 ∧ tm ≤ x.t ∧ x.t ≤ ht ∧ x.b.length ≤ 32668 := ⟨by omega, hc.2⟩
    simp [rightE, hc']
  | x :: es, idx, tm, ht, k + 1, e, h, hr, hc => by
    simp only [List.getElem?_cons_succ] at h
    simp only [List.take_succ_cons, rightE, Bool.and_eq_true] at hr ⊢
    exact ⟨hr.1, rightE_more es (idx + 1) x.t ht k e h hr.2 ⟨by omega, hc.2⟩⟩
theorem rightE_bad (es : List Pe) (idx tm ht k : Nat) (e : Pe) (h : es[k]? = some e) (hr : rightE idx tm ht (es.take k) = true) (hc : ¬ (e.i = idx + k + 1 ∧ tmK tm es k ≤ e.t ∧ e.t ≤ ht ∧ e.b.length ≤ 32668)) : rightE idx tm ht es = false := by
  have hk := (List.getElem?_eq_some_iff.1 h).1
  rw [rightE_cut es idx tm ht k (by omega) hr, List.drop_eq_getElem_cons hk, (List.getElem?_eq_some_iff.1 h).2]
  simp only [rightE, Bool.and_eq_false_iff, decide_eq_false_iff_not]
  exact .inl hc

set_option maxHeartbeats 16000000 in
theorem rightEn_any (l : Lo) (w : World) (hl : LoAt w l) (hsi : l.si ≤ 4611686018427387904) : Calls Try.prog 66 #[l.v] w (fun en w' => en = .returned (.bool (rightE l.si (max l.st 1) l.ht (l.es.map En.pe))) ∧ Below w.heap.size w w') := by
  have hE := hl.es
  have hel := hl.el
  have hst := hl.st
  have hht := hl.ht
  have hec : l.es.length ≤ l.ec := by
    obtain ⟨_, _, e1, q1, q2⟩ := hE.1.form
    simp only [Value.slice.injEq, List.length_map] at e1 q1
    omega
  obtain ⟨M, hM⟩ : ∃ M, M = max l.st 1 := ⟨_, rfl⟩
  rw [← hM]
  obtain ⟨PE, hPE⟩ : ∃ PE, PE = l.es.map En.pe := ⟨_, rfl⟩
  rw [← hPE]
  have HMX : Hid ((if l.st < 1 then (1 : Int) else (l.st : Int)) = (M : Int) ∧ (if 1 < l.st then (l.st : Int) else 1) = (M : Int) ∧ max (l.st : Int) 1 = (M : Int) ∧ (if (l.st : Int) < 1 then (1 : Int) else (l.st : Int)) = (M : Int)) := by show _ ∧ _ ∧ _ ∧ _; refine ⟨?_, ?_, by omega, ?_⟩ <;> split <;> omega
  have hlen := fun W => run_len_slice (P := Try.prog) W 30 3 l.eo l.es.length l.ec Try.underlying30
  have hb : Below w.heap.size w (w.alloc (.cells #[.int .u64 (l.ht : Int), .int .i64 l.hv, .int .u64 (l.si : Int), .int .u64 (l.st : Int), .slice l.sd.a l.sd.b.length l.sd.c, .slice l.eo l.es.length l.ec] 69)) := (Below.refl _ _).alloc (Nat.le_refl _) _
  have h0 := heap_alloc_new w (.cells #[.int .u64 (l.ht : Int), .int .i64 l.hv, .int .u64 (l.si : Int), .int .u64 (l.st : Int), .slice l.sd.a l.sd.b.length l.sd.c, .slice l.eo l.es.length l.ec] 69)
  have HE := hid hE
  have HPE := hid hPE
  have HM2 : Hid (M < 18446744073709551616) := by show _ < _; omega
  obtain ⟨n, hn⟩ : ∃ n, n = l.es.length := ⟨_, rfl⟩
  obtain ⟨D, hD⟩ : ∃ D, D = rightE l.si M l.ht PE := ⟨_, rfl⟩
  rw [← hD]
  have HD := hid hD
  have HN := hid hn
  simp only [Lo.v]
  rw [← hn] at hlen HE hel hec h0 hb ⊢
  clear hl hE hM hPE hst hn hD
  generalize l.eo = eo at *
  go_enter Try.func66, Try.ntmps66
  go_upto_region 1 with fail
  generalize w.alloc (.cells #[.int .u64 (l.ht : Int), .int .i64 l.hv, .int .u64 (l.si : Int), .int .u64 (l.st : Int), .slice l.sd.a l.sd.b.length l.sd.c, .slice eo n l.ec] 69) = w1 at *
  have HC : Hid (∀ V, Below w1.heap.size w1 V → (V.cell? ⟨w.heap.size, 0, none⟩ = some (.int .u64 (l.ht : Int)) ∧ V.cell? ⟨w.heap.size, 1, none⟩ = some (.int .i64 l.hv) ∧ V.cell? ⟨w.heap.size, 2, none⟩ = some (.int .u64 (l.si : Int)) ∧ V.cell? ⟨w.heap.size, 3, none⟩ = some (.int .u64 (l.st : Int)) ∧ V.cell? ⟨w.heap.size, 4, none⟩ = some (.slice l.sd.a l.sd.b.length l.sd.c) ∧ V.cell? ⟨w.heap.size, 5, none⟩ = some (.slice eo n l.ec))) := fun V h => six_cells ((h.block _ (lt_of_block h0)).trans h0)
  have HB := hid hb
  clear h0 hb
  have HWd : Hid (Below w1.heap.size w1 w1.drew) := (⟨rfl, rfl, rfl, Nat.le_refl _, fun _ _ => rfl⟩ : Below w1.heap.size w1 w1.drew)
  obtain ⟨S9, hS9⟩ : ∃ S9 : World → Prop, S9 = fun V => Below w1.heap.size w1 V := ⟨_, rfl⟩
  have HS : Hid (∀ V, Below w1.heap.size w1 V → S9 V) := fun V h => by rw [hS9]; exact h
  have HY := hid (fun V (h : S9 V) => HC.out V (by rw [hS9] at h; exact h))
  clear hS9
  refine wp_region_noPanic ?_
  refine wp_region_held_drew (S := S9) (by kernel_rfl) (HS.out _ HWd.out) (fun hHeld => ?_)
  generalize w1.drew = Wd at *
  refine wpAnyH_take (i := 0) (v := (.pointer (some ⟨w.heap.size, 2, none⟩))) rfl (by kernel_rfl) (by kernel_rfl) (by kernel_rfl) (fun _ _ _ h => (show False from h).elim) ?xyVF1 ?xhVF1 ?xrVF1
  case xhVF1 => exact hHeld
  case xyVF1 => exact Or.inl ⟨by rfl, fun W9 hW => by clear hHeld; simp only [List.getElem_toArray, List.getElem_cons_succ, List.getElem_cons_zero]; go_simp⟩
  simp only [Act.put, List.getElem_toArray, List.getElem_cons_succ, List.getElem_cons_zero, List.setIfInBounds_toArray, List.set_cons_succ, List.set_cons_zero]
  refine wpAnyH_take (i := 1) (v := (.pointer (some ⟨w.heap.size, 2, none⟩))) rfl (by kernel_rfl) (by kernel_rfl) (by kernel_rfl) (fun _ _ _ h => (show False from h).elim) ?xyVF2 ?xhVF2 ?xrVF2
  case xhVF2 => exact hHeld
  case xyVF2 => exact Or.inl ⟨by rfl, fun W9 hW => by clear hHeld; simp only [List.getElem_toArray, List.getElem_cons_succ, List.getElem_cons_zero]; go_simp⟩
  simp only [Act.put, List.getElem_toArray, List.getElem_cons_succ, List.getElem_cons_zero, List.setIfInBounds_toArray, List.set_cons_succ, List.set_cons_zero]
  refine wpAnyH_take (i := 2) (v := (.int .u64 (l.si : Int))) rfl (by kernel_rfl) (by kernel_rfl) (by kernel_rfl) (fun _ _ _ h => (show False from h).elim) ?xyVF3 ?xhVF3 ?xrVF3
  case xhVF3 => exact hHeld
  case xyVF3 => exact Or.inl ⟨by rfl, fun W9 hW => by obtain ⟨z0, z1, z2, z3, z4, z5⟩ := HY.out _ hW; clear hHeld; simp only [List.getElem_toArray, List.getElem_cons_succ, List.getElem_cons_zero]; go_simp⟩
  simp only [Act.put, List.getElem_toArray, List.getElem_cons_succ, List.getElem_cons_zero, List.setIfInBounds_toArray, List.set_cons_succ, List.set_cons_zero]
  refine wpAnyH_take (i := 3) (v := (.pointer (some ⟨w.heap.size, 2, none⟩))) rfl (by kernel_rfl) (by kernel_rfl) (by kernel_rfl) (fun _ _ _ h => (show False from h).elim) ?xyVF4 ?xhVF4 ?xrVF4
  case xhVF4 => exact hHeld
  case xyVF4 => exact Or.inl ⟨by rfl, fun W9 hW => by clear hHeld; simp only [List.getElem_toArray, List.getElem_cons_succ, List.getElem_cons_zero]; go_simp⟩
  simp only [Act.put, List.getElem_toArray, List.getElem_cons_succ, List.getElem_cons_zero, List.setIfInBounds_toArray, List.set_cons_succ, List.set_cons_zero]
  refine wpAnyH_take (i := 4) (v := (.pointer (some ⟨w.heap.size, 3, none⟩))) rfl (by kernel_rfl) (by kernel_rfl) (by kernel_rfl) (fun _ _ _ h => (show False from h).elim) ?xyVF5 ?xhVF5 ?xrVF5
  case xhVF5 => exact hHeld
  case xyVF5 => exact Or.inl ⟨by rfl, fun W9 hW => by clear hHeld; simp only [List.getElem_toArray, List.getElem_cons_succ, List.getElem_cons_zero]; go_simp⟩
  simp only [Act.put, List.getElem_toArray, List.getElem_cons_succ, List.getElem_cons_zero, List.setIfInBounds_toArray, List.set_cons_succ, List.set_cons_zero]
  refine wpAnyH_take (i := 5) (v := (.int .u64 (l.st : Int))) rfl (by kernel_rfl) (by kernel_rfl) (by kernel_rfl) (fun _ _ _ h => (show False from h).elim) ?xyVF6 ?xhVF6 ?xrVF6
  case xhVF6 => exact hHeld
  case xyVF6 => exact Or.inl ⟨by rfl, fun W9 hW => by obtain ⟨z0, z1, z2, z3, z4, z5⟩ := HY.out _ hW; clear hHeld; simp only [List.getElem_toArray, List.getElem_cons_succ, List.getElem_cons_zero]; go_simp⟩
  simp only [Act.put, List.getElem_toArray, List.getElem_cons_succ, List.getElem_cons_zero, List.setIfInBounds_toArray, List.set_cons_succ, List.set_cons_zero]
  refine wpAnyH_take (i := 6) (v := (.int .u64 (M : Int))) rfl (by kernel_rfl) (by kernel_rfl) (by kernel_rfl) (fun _ _ _ h => (show False from h).elim) ?xyVF7 ?xhVF7 ?xrVF7
  case xhVF7 => exact hHeld
  case xyVF7 => exact Or.inl ⟨by rfl, fun W9 hW => by obtain ⟨m1, m2, m3, m4⟩ := HMX.out; clear hHeld; simp only [List.getElem_toArray, List.getElem_cons_succ, List.getElem_cons_zero]; go_simp⟩
  simp only [Act.put, List.getElem_toArray, List.getElem_cons_succ, List.getElem_cons_zero, List.setIfInBounds_toArray, List.set_cons_succ, List.set_cons_zero]
  refine wpAnyH_take (i := 7) (v := (.int .u64 (l.si : Int))) rfl (by kernel_rfl) (by kernel_rfl) (by kernel_rfl) (fun _ _ _ h => (show False from h).elim) ?xyVF8 ?xhVF8 ?xrVF8
  case xhVF8 => exact hHeld
  case xyVF8 => exact Or.inl ⟨by rfl, fun W9 hW => by clear hHeld; simp only [List.getElem_toArray, List.getElem_cons_succ, List.getElem_cons_zero]; go_simp⟩
  simp only [Act.put, List.getElem_toArray, List.getElem_cons_succ, List.getElem_cons_zero, List.setIfInBounds_toArray, List.set_cons_succ, List.set_cons_zero]
  refine wpAnyH_take (i := 8) (v := (.int .u64 (M : Int))) rfl (by kernel_rfl) (by kernel_rfl) (by kernel_rfl) (fun _ _ _ h => (show False from h).elim) ?xyVF9 ?xhVF9 ?xrVF9
  case xhVF9 => exact hHeld
  case xyVF9 => exact Or.inl ⟨by rfl, fun W9 hW => by clear hHeld; simp only [List.getElem_toArray, List.getElem_cons_succ, List.getElem_cons_zero]; go_simp⟩
  simp only [Act.put, List.getElem_toArray, List.getElem_cons_succ, List.getElem_cons_zero, List.setIfInBounds_toArray, List.set_cons_succ, List.set_cons_zero]
  refine wpAnyH_done (by kernel_rfl) ?_ _
  refine NoPanic.normal ?_
  obtain ⟨z0, z1, z2, z3, z4, z5⟩ := HC.out _ HWd.out
  clear z0 z1 z2 z3 z4
  go_wp2_with fail
  go_loopw [3, 4, 17] (fun x t i wr => ∃ k : Nat, k ≤ n ∧ i = .int .i64 (k : Int) ∧ x = .int .u64 ((l.si + k : Nat) : Int) ∧ t = .int .u64 (tmK M PE k : Int) ∧ Hid (tmK M PE k < 18446744073709551616) ∧ Hid (rightE l.si M l.ht (PE.take k) = true) ∧ Hid (Below w1.heap.size w1 wr)) (fun _ _ i _ => n - (intOf i).toNat)
  case atStart => exact ⟨0, by omega, rfl, rfl, by cases PE <;> rfl, by cases PE <;> exact HM2, by rw [List.take_zero]; exact rfl, HWd⟩
  case round =>
    obtain ⟨k, hk, rfl, rfl, rfl, HTM, HR, HBr⟩ := hrel
    by_cases hlt : k < n
    · have hA9 := List.getElem?_eq_getElem (l := l.es) (i := k) (by have := HN.out; omega)
      generalize l.es[k]'_ = e at hA9
      obtain ⟨b1, o1, ea1, c10, c11, c12, r1⟩ := (HE.out.old (HB.out.trans (HBr.out.mono HB.out.size))).get hA9
      subst ea1
      have hpe : PE[k]? = some e.pe := by rw [HPE.out, List.getElem?_map, hA9]; rfl
      have hei := (HE.out.2 e (List.mem_of_getElem? hA9)).2
      have HPEk := hid hpe
      have hki : (k : Int) < (n : Int) := by omega
      have hz : IntKind.i64.wrap ((k : Int) + 1) = (k : Int) + 1 := by rw [IntKind.wrap_i64]; omega
      have hix : l.si + k + 1 < 18446744073709551616 := by omega
      have hi1 : IntKind.u64.wrap (((l.si + k : Nat) : Int) + 1) = ((l.si + (k + 1) : Nat) : Int) := by rw [wrap_u64]; omega
      have CK := hid (rightE_more PE l.si M l.ht k e.pe HPEk.out HR.out)
      have CB := hid (rightE_bad PE l.si M l.ht k e.pe HPEk.out HR.out)
      have HNX := hid (tmK_next PE M k e.pe HPEk.out)
      have hlr := fun W => run_len_slice (P := Try.prog) W 28 3 e.r.a e.r.b.length e.r.c Try.underlying28
      have het := hei.1
      have hex := hei.2.1
      have hel9 := hei.2.2
      obtain ⟨x, hx⟩ : ∃ x, x = l.si + k := ⟨_, rfl⟩
      obtain ⟨x1, hx1⟩ : ∃ x1, x1 = l.si + (k + 1) := ⟨_, rfl⟩
      rw [← hx, ← hx1] at hi1
      rw [← hx]
      have hx2 : x1 = x + 1 := by omega
      have HX := hid (And.intro hx hx1)
      obtain ⟨tm, htm⟩ : ∃ tm, tm = tmK M PE k := ⟨_, rfl⟩
      rw [← htm] at CK CB HTM ⊢
      have htl := HTM.out
      obtain ⟨z0, z1, z2, z3, z4, z5⟩ := HC.out _ HBr.out
      have q0 := fun o => cell_alloc z0 o
      have hq : ∀ o, (wr.alloc o).heap[wr.heap.size]? = some o := fun o => heap_alloc_new wr o
      have HBq : Hid (∀ o, Below w1.heap.size w1 (wr.alloc o)) := fun o => HBr.out.trans ((Below.refl w1.heap.size wr).alloc HBr.out.size o)
      clear hpe hei hA9 r1 hx hx1 htm z1 z2 z3 z4 z5 HR HTM
      by_cases g1 : (e.i : Int) = (x1 : Int)
      · by_cases g2 : (tm : Int) ≤ (e.t : Int)
        · by_cases g3 : (e.t : Int) ≤ (l.ht : Int)
          · by_cases g4 : (e.r.b.length : Int) ≤ 32668
            · have HK := hid (CK.out ⟨by show e.i = _; have := HX.out; omega, by show tm ≤ e.t; omega, by show e.t ≤ _; omega, by show e.r.b.length ≤ _; omega⟩)
              clear CK CB
              have g1' : (e.i : Int) = (x : Int) + 1 := by omega
              go_wp2_with fail
              go_roundw
              case rel => exact ⟨k + 1, by omega, by go_num, (by have := HX.out; congr 1; omega), (by rw [HNX.out]; rfl), (by rw [HNX.out]; exact hid het), HK, HBq.out _⟩
              case measure => first | (simp [intOf]; done) | (simp [intOf]; omega)
            · have HK := hid (CB.out (fun hc => by have h1 : e.i = _ := hc.1; have h2 : tm ≤ e.t := hc.2.1; have h3 : e.t ≤ l.ht := hc.2.2.1; have h4 : e.r.b.length ≤ 32668 := hc.2.2.2; have := HX.out; omega))
              clear CK CB
              go_wp2_with fail
              go_ret
              exact ⟨congrArg (fun q => Ending.returned (Value.bool q)) (by rw [HD.out, HK.out]), HB.out.trans ((HBq.out _).mono HB.out.size)⟩
          · have HK := hid (CB.out (fun hc => by have h1 : e.i = _ := hc.1; have h2 : tm ≤ e.t := hc.2.1; have h3 : e.t ≤ l.ht := hc.2.2.1; have h4 : e.r.b.length ≤ 32668 := hc.2.2.2; have := HX.out; omega))
            clear CK CB
            go_wp2_with fail
            go_ret
            exact ⟨congrArg (fun q => Ending.returned (Value.bool q)) (by rw [HD.out, HK.out]), HB.out.trans ((HBq.out _).mono HB.out.size)⟩
        · have HK := hid (CB.out (fun hc => by have h1 : e.i = _ := hc.1; have h2 : tm ≤ e.t := hc.2.1; have h3 : e.t ≤ l.ht := hc.2.2.1; have h4 : e.r.b.length ≤ 32668 := hc.2.2.2; have := HX.out; omega))
          clear CK CB
          go_wp2_with fail
          go_ret
          exact ⟨congrArg (fun q => Ending.returned (Value.bool q)) (by rw [HD.out, HK.out]), HB.out.trans ((HBq.out _).mono HB.out.size)⟩
      · have HK := hid (CB.out (fun hc => by have h1 : e.i = _ := hc.1; have h2 : tm ≤ e.t := hc.2.1; have h3 : e.t ≤ l.ht := hc.2.2.1; have h4 : e.r.b.length ≤ 32668 := hc.2.2.2; have := HX.out; omega))
        clear CK CB
        have g1b : ((e.i : Int) == (x1 : Int)) = false := by simp; omega
        go_wp2_with fail
        go_ret
        exact ⟨congrArg (fun q => Ending.returned (Value.bool q)) (by rw [HD.out, HK.out]), HB.out.trans ((HBq.out _).mono HB.out.size)⟩
    · obtain rfl : k = n := by omega
      have hki : ¬ ((k : Int) < (k : Int)) := by omega
      go_wp2_with fail
      go_ret
      refine ⟨congrArg (fun q => Ending.returned (Value.bool q)) ?_, HB.out.trans (HBr.out.mono HB.out.size)⟩
      have h9 := HR.out
      rw [List.take_of_length_le (by rw [HPE.out, List.length_map]; have := HN.out; omega)] at h9
      rw [HD.out, h9]

set_option maxHeartbeats 8000000 in
theorem right_any (l : Lo) (w : World) (hl : LoAt w l) : Calls Try.prog 48 #[l.v] w (fun en w' => en = .returned (.bool (rightP l.pl)) ∧ Below w.heap.size w w') := by
  have hb : Below w.heap.size w (w.alloc (.cells #[.int .u64 (l.ht : Int), .int .i64 l.hv, .int .u64 (l.si : Int), .int .u64 (l.st : Int), .slice l.sd.a l.sd.b.length l.sd.c, .slice l.eo l.es.length l.ec] 69)) := (Below.refl _ _).alloc (Nat.le_refl _) _
  have h0 := heap_alloc_new w (.cells #[.int .u64 (l.ht : Int), .int .i64 l.hv, .int .u64 (l.si : Int), .int .u64 (l.st : Int), .slice l.sd.a l.sd.b.length l.sd.c, .slice l.eo l.es.length l.ec] 69)
  obtain ⟨s, hs⟩ : ∃ s, s = rightS l.pl := ⟨_, rfl⟩
  obtain ⟨E, hE⟩ : ∃ E, E = rightE l.si (max l.st 1) l.ht (l.es.map En.pe) := ⟨_, rfl⟩
  have CS0 := fun W (hW : Below w.heap.size w W) => rightS_any l hl.sl W
  rw [← hs] at CS0
  have CS := hid CS0
  have CE : Hid (s = true → ∀ W, Below w.heap.size w W → Calls Try.prog 66 #[l.v] W (fun en w' => en = .returned (.bool E) ∧ Below W.heap.size W w')) := hid fun h W hW => by
    have hsi : l.si ≤ 4611686018427387904 := by
      rw [hs] at h
      unfold rightS at h
      simp only [decide_eq_true_eq] at h
      exact h.1
    have := rightEn_any l W (hl.old hW) hsi
    rw [← hE] at this
    exact this
  obtain ⟨D, hD⟩ : ∃ D, D = rightP l.pl := ⟨_, rfl⟩
  have HR : Hid (D = (decide (0 ≤ l.hv ∧ l.hv ≤ 5) && s && E)) := by show _ = _; rw [hD, hs, hE]; rfl
  rw [← hD]
  clear hs hE hD CS0 hl
  simp only [Lo.v] at CS CE ⊢
  go_enter Try.func48, Try.ntmps48
  go_upto_region 1 with fail
  generalize w.alloc (.cells #[.int .u64 (l.ht : Int), .int .i64 l.hv, .int .u64 (l.si : Int), .int .u64 (l.st : Int), .slice l.sd.a l.sd.b.length l.sd.c, .slice l.eo l.es.length l.ec] 69) = w1 at *
  have HB := hid hb
  have H0 := hid h0
  obtain ⟨z0, z1, z2, z3, z4, z5⟩ := six_cells h0
  clear hb h0
  by_cases g1 : 0 ≤ l.hv
  · by_cases g2 : l.hv ≤ 5
    · have HG : Hid (D = (s && E)) := by show _ = _; rw [HR.out]; simp [g1, g2]
      clear HR
      cases s with
      | false =>
        have CS2 := hid (CS.out _ HB.out)
        go_wp2_with (first | (go_at_call 65; refine CS2.out.mono ?_; rintro en w2 ⟨rfl, hb2⟩))
        go_ret
        exact ⟨congrArg (fun q => Ending.returned (Value.bool q)) (by rw [HG.out]; rfl), HB.out.trans (hb2.mono HB.out.size)⟩
      | true =>
        have CS2 := hid (CS.out _ HB.out)
        go_wp2_with (first | (go_at_call 65; refine CS2.out.mono ?_; rintro en w2 ⟨rfl, hb2⟩; have hbb := HB.out.trans (hb2.mono HB.out.size); have CE2 := hid (CE.out rfl _ hbb); obtain ⟨x0, x1, x2, x3, x4, x5⟩ := six_cells ((hb2.block _ (lt_of_block H0.out)).trans H0.out); have HBB := hid hbb; clear hbb hb2))
        go_wp2_with (first | (go_at_call 66; refine CE2.out.mono ?_; rintro en w3 ⟨rfl, hb3⟩))
        go_ret
        exact ⟨congrArg (fun q => Ending.returned (Value.bool q)) (by rw [HG.out]; rfl), HBB.out.trans (hb3.mono HBB.out.size)⟩
    · have HG : Hid (false = D) := by show _ = _; rw [HR.out]; simp [g2]
      clear HR
      go_wp2_with fail
      go_ret
      exact ⟨congrArg (fun q => Ending.returned (Value.bool q)) HG.out, HB.out⟩
  · have HG : Hid (false = D) := by show _ = _; rw [HR.out]; simp [g1]
    clear HR
    go_wp2_with fail
    go_ret
    exact ⟨congrArg (fun q => Ending.returned (Value.bool q)) HG.out, HB.out⟩

end Go.Proofs.Ytdaecndbdinddaa

set_option linter.unusedVariables false
set_option linter.unusedSimpArgs false
set_option maxRecDepth 100000
namespace Go.Proofs.Ytdaecndbdinddaa
open Go.RowKit Go.Deep

theorem hentry_any (e f : En) (w : World) (he : Rd w (.slice e.r.a e.r.b.length e.r.c) e.r.b) (hf : Rd w (.slice f.r.a f.r.b.length f.r.c) f.r.b) : Calls Try.prog 22 #[e.v, f.v] w (fun en w' => en = .returned (.bool (decide (e.pe = f.pe))) ∧ Below w.heap.size w w') := by
  have hS := En.same e f
  have hd : decide (e.pe = f.pe) = decide (e.t = f.t ∧ e.i = f.i ∧ e.r.b = f.r.b) := by simp only [hS]
  rw [hd]
  clear hS hd
  obtain ⟨et, ei, ⟨ea, ec, eb⟩⟩ := e
  obtain ⟨ft, fi, ⟨fa, fc, fb⟩⟩ := f
  simp only [En.v] at he hf ⊢
  have hb : Below w.heap.size w ((w.alloc (.cells #[.int .u64 (et : Int), .int .u64 (ei : Int), .slice ea eb.length ec] 58)).alloc (.cells #[.int .u64 (ft : Int), .int .u64 (fi : Int), .slice fa fb.length fc] 58)) := ((Below.refl _ _).alloc (Nat.le_refl _) _).alloc (by simp) _
  have h0 := (Below.heap_alloc (w.alloc (.cells #[.int .u64 (et : Int), .int .u64 (ei : Int), .slice ea eb.length ec] 58)) (.cells #[.int .u64 (ft : Int), .int .u64 (fi : Int), .slice fa fb.length fc] 58) w.heap.size (by simp)).trans (heap_alloc_new w (.cells #[.int .u64 (et : Int), .int .u64 (ei : Int), .slice ea eb.length ec] 58))
  have h1 := heap_alloc2_new w (.cells #[.int .u64 (et : Int), .int .u64 (ei : Int), .slice ea eb.length ec] 58) (.cells #[.int .u64 (ft : Int), .int .u64 (fi : Int), .slice fa fb.length fc] 58)
  go_enter Try.func22, Try.ntmps22
  go_upto_region 1 with fail
  generalize (w.alloc (.cells #[.int .u64 (et : Int), .int .u64 (ei : Int), .slice ea eb.length ec] 58)).alloc (.cells #[.int .u64 (ft : Int), .int .u64 (fi : Int), .slice fa fb.length fc] 58) = w1 at *
  obtain ⟨a0, a1, a2⟩ := three_cells h0
  obtain ⟨b0, b1, b2⟩ := three_cells h1
  have CE := hid (bytes_any _ _ eb fb w1 (he.old hb) (hf.old hb))
  have HB := hid hb
  clear hb h0 h1 he hf
  by_cases g1 : et = ft
  · by_cases g2 : ei = fi
    · subst g1 g2
      go_wp2_with (first | (go_at_call 19; refine CE.out.mono ?_; rintro e w2 ⟨rfl, rfl⟩))
      go_ret
      refine ⟨congrArg (fun q => Ending.returned (Value.bool q)) ?_, HB.out⟩
      rw [Bool.eq_iff_iff]
      simp
    · have g2' : ¬ ((ei : Int) = (fi : Int)) := by omega
      have g2b : ((ei : Int) == (fi : Int)) = false := by simp; omega
      subst g1
      go_wp2_with fail
      go_ret
      refine ⟨congrArg (fun q => Ending.returned (Value.bool q)) ?_, HB.out⟩
      simp [g2]
  · have g1' : ¬ ((et : Int) = (ft : Int)) := by omega
    have g1b : ((et : Int) == (ft : Int)) = false := by simp; omega
    go_wp2_with fail
    go_ret
    refine ⟨congrArg (fun q => Ending.returned (Value.bool q)) ?_, HB.out⟩
    simp [g1]

set_option maxHeartbeats 4000000 in
theorem hsameE_any (A B : List En) (x y : Value) (w : World) (hA : Ents w x A) (hB : Ents w y B) (hl : A.length ≤ 140737488355328) (hl2 : B.length ≤ 140737488355328) :
    Calls Try.prog 56 #[x, y, .func (.func 22) #[] #[]] w (fun en w' => en = .returned (.bool (decide (A.map En.pe = B.map En.pe))) ∧ Below w.heap.size w w') := by
  obtain ⟨ao, ac, e1, q1, q2⟩ := hA.1.form
  obtain ⟨bo, bc, e2, q3, q4⟩ := hB.1.form
  rw [List.length_map] at e1 q1 e2 q3
  subst e1 e2
  have hla := fun W => run_len_slice (P := Try.prog) W 30 3 ao A.length ac Try.underlying30
  have hlb := fun W => run_len_slice (P := Try.prog) W 30 3 bo B.length bc Try.underlying30
  by_cases hne : A.length = B.length
  · obtain ⟨n, hn⟩ : ∃ n, n = A.length := ⟨_, rfl⟩
    have HA := hid hA
    have HB := hid hB
    have HN := hid (And.intro hn (hn.trans hne))
    rw [← hne, ← hn] at hlb HB
    rw [← hn] at hla HA
    rw [← hne, ← hn]
    rw [← hn] at hl q1
    have hq3 : n ≤ bc := by omega
    clear hA hB hn hne q2 q4 q3 hl2
    go_enter Try.func56, Try.ntmps56
    go_wp2_with fail
    go_loopw [7] (fun i wr => ∃ k : Nat, k ≤ n ∧ i = .int .i64 (k : Int) ∧ Hid ((A.map En.pe).take k = (B.map En.pe).take k) ∧ Hid (Below w.heap.size w wr)) (fun i _ => n - (intOf i).toNat)
    case atStart => exact ⟨0, by omega, rfl, by rw [List.take_zero, List.take_zero]; exact rfl, Below.refl _ _⟩
    case round =>
      obtain ⟨k, hk, rfl, HT, HBw⟩ := hrel
      by_cases hlt : k < n
      · have hA9 := List.getElem?_eq_getElem (l := A) (i := k) (by have := HN.out; omega)
        have hB9 := List.getElem?_eq_getElem (l := B) (i := k) (by have := HN.out; omega)
        generalize A[k]'_ = e at hA9
        generalize B[k]'_ = f at hB9
        obtain ⟨b1, o1, ea1, c10, c11, c12, r1⟩ := (HA.out.old HBw.out).get hA9
        obtain ⟨b2, o2, eb2, c20, c21, c22, r2⟩ := (HB.out.old HBw.out).get hB9
        subst ea1 eb2
        have hki : (k : Int) < (n : Int) := by omega
        have CE : Hid (∀ W, Below wr.heap.size wr W → Calls Try.prog 22 #[.agg #[.int .u64 (e.t : Int), .int .u64 (e.i : Int), .slice e.r.a e.r.b.length e.r.c], .agg #[.int .u64 (f.t : Int), .int .u64 (f.i : Int), .slice f.r.a f.r.b.length f.r.c]] W (fun en w' => en = .returned (.bool (decide (e.pe = f.pe))) ∧ Hid (Below wr.heap.size wr w'))) := hid fun W hW => (hentry_any e f W (r1.old hW) (r2.old hW)).mono fun en w' h => ⟨h.1, hid (hW.trans (h.2.mono hW.size))⟩
        have HBr := hid (And.intro hA9 hB9)
        obtain ⟨S9, hS9⟩ : ∃ S9 : World → Prop, S9 = fun V => Below wr.heap.size wr V := ⟨_, rfl⟩
        have hC : ∀ V, S9 V → ∀ a v, wr.cell? a = some v → V.cell? a = some v := fun V h a v hv => by rw [hS9] at h; exact (World.cell?_of_block (w := wr) (a := a) (h.block _ (World.block_lt_of_cell? wr _ hv))).trans hv
        have hY : ∀ V, S9 V → V.cell? ⟨b1, o1 + k * 3, none⟩ = some (.int .u64 (e.t : Int)) ∧ V.cell? ⟨b1, o1 + k * 3 + 1, none⟩ = some (.int .u64 (e.i : Int)) ∧ V.cell? ⟨b1, o1 + k * 3 + 2, none⟩ = some (.slice e.r.a e.r.b.length e.r.c) ∧ V.cell? ⟨b2, o2 + k * 3, none⟩ = some (.int .u64 (f.t : Int)) ∧ V.cell? ⟨b2, o2 + k * 3 + 1, none⟩ = some (.int .u64 (f.i : Int)) ∧ V.cell? ⟨b2, o2 + k * 3 + 2, none⟩ = some (.slice f.r.a f.r.b.length f.r.c) := fun V h => ⟨hC V h _ _ c10, hC V h _ _ c11, hC V h _ _ c12, hC V h _ _ c20, hC V h _ _ c21, hC V h _ _ c22⟩
        have HS : Hid (∀ V, Below wr.heap.size wr V → S9 V) := fun V h => by rw [hS9]; exact h
        have hWd : Below wr.heap.size wr wr.drew := ⟨rfl, rfl, rfl, Nat.le_refl _, fun _ _ => rfl⟩
        clear hS9 hC c10 c11 c12 c20 c21 c22 r1 r2 hA9 hB9
        go_upto_region 6 with fail
        go_cut [29] from 19 to 29 (fun b wx => b = .bool (!decide (e.pe = f.pe)) ∧ Hid (Below wr.heap.size wr wx))
        case first =>
          refine wp_region_noPanic ?_
          refine wp_region_held_drew (S := S9) (by kernel_rfl) (HS.out _ hWd) (fun hHeld => ?_)
          have HWd := hid hWd
          clear hWd
          have CEd := hid (CE.out _ HWd.out)
          generalize wr.drew = Wd at *
          refine wpAnyH_take (i := 0) (v := (.func (.func 22) #[] #[])) rfl (by kernel_rfl) (by kernel_rfl) (by kernel_rfl) (fun _ _ _ h => (show False from h).elim) ?xyVH1 ?xhVH1 ?xrVH1
          case xhVH1 => exact hHeld
          case xyVH1 => exact Or.inl ⟨by rfl, fun W9 hW => by clear hHeld; simp only [List.getElem_toArray, List.getElem_cons_succ, List.getElem_cons_zero]; go_simp⟩
          simp only [Act.put, List.getElem_toArray, List.getElem_cons_succ, List.getElem_cons_zero, List.setIfInBounds_toArray, List.set_cons_succ, List.set_cons_zero]
          refine wpAnyH_take (i := 1) (v := (.slice (some ⟨b1, o1, none⟩) n ac)) rfl (by kernel_rfl) (by kernel_rfl) (by kernel_rfl) (fun _ _ _ h => (show False from h).elim) ?xyVH2 ?xhVH2 ?xrVH2
          case xhVH2 => exact hHeld
          case xyVH2 => exact Or.inl ⟨by rfl, fun W9 hW => by clear hHeld; simp only [List.getElem_toArray, List.getElem_cons_succ, List.getElem_cons_zero]; go_simp⟩
          simp only [Act.put, List.getElem_toArray, List.getElem_cons_succ, List.getElem_cons_zero, List.setIfInBounds_toArray, List.set_cons_succ, List.set_cons_zero]
          refine wpAnyH_take (i := 2) (v := (.int .i64 (k : Int))) rfl (by kernel_rfl) (by kernel_rfl) (by kernel_rfl) (fun _ _ _ h => (show False from h).elim) ?xyVH3 ?xhVH3 ?xrVH3
          case xhVH3 => exact hHeld
          case xyVH3 => exact Or.inl ⟨by rfl, fun W9 hW => by clear hHeld; simp only [List.getElem_toArray, List.getElem_cons_succ, List.getElem_cons_zero]; go_simp⟩
          simp only [Act.put, List.getElem_toArray, List.getElem_cons_succ, List.getElem_cons_zero, List.setIfInBounds_toArray, List.set_cons_succ, List.set_cons_zero]
          refine wpAnyH_take (i := 3) (v := (.pointer (some ⟨b1, o1 + k * 3, none⟩))) rfl (by kernel_rfl) (by kernel_rfl) (by kernel_rfl) (fun _ _ _ h => (show False from h).elim) ?xyVH4 ?xhVH4 ?xrVH4
          case xhVH4 => exact hHeld
          case xyVH4 => exact Or.inl ⟨by rfl, fun W9 hW => by clear hHeld; simp only [List.getElem_toArray, List.getElem_cons_succ, List.getElem_cons_zero]; go_simp⟩
          simp only [Act.put, List.getElem_toArray, List.getElem_cons_succ, List.getElem_cons_zero, List.setIfInBounds_toArray, List.set_cons_succ, List.set_cons_zero]
          refine wpAnyH_take (i := 4) (v := (.agg #[.int .u64 (e.t : Int), .int .u64 (e.i : Int), .slice e.r.a e.r.b.length e.r.c])) rfl (by kernel_rfl) (by kernel_rfl) (by kernel_rfl) (fun _ _ _ h => (show False from h).elim) ?xyVH5 ?xhVH5 ?xrVH5
          case xhVH5 => exact hHeld
          case xyVH5 => exact Or.inl ⟨by rfl, fun W9 hW => by obtain ⟨z0, z1, z2, z3, z4, z5⟩ := hY _ hW; clear hHeld; simp only [List.getElem_toArray, List.getElem_cons_succ, List.getElem_cons_zero]; go_simp⟩
          simp only [Act.put, List.getElem_toArray, List.getElem_cons_succ, List.getElem_cons_zero, List.setIfInBounds_toArray, List.set_cons_succ, List.set_cons_zero]
          refine wpAnyH_take (i := 5) (v := (.slice (some ⟨b2, o2, none⟩) n bc)) rfl (by kernel_rfl) (by kernel_rfl) (by kernel_rfl) (fun _ _ _ h => (show False from h).elim) ?xyVH6 ?xhVH6 ?xrVH6
          case xhVH6 => exact hHeld
          case xyVH6 => exact Or.inl ⟨by rfl, fun W9 hW => by clear hHeld; simp only [List.getElem_toArray, List.getElem_cons_succ, List.getElem_cons_zero]; go_simp⟩
          simp only [Act.put, List.getElem_toArray, List.getElem_cons_succ, List.getElem_cons_zero, List.setIfInBounds_toArray, List.set_cons_succ, List.set_cons_zero]
          refine wpAnyH_take (i := 6) (v := (.int .i64 (k : Int))) rfl (by kernel_rfl) (by kernel_rfl) (by kernel_rfl) (fun _ _ _ h => (show False from h).elim) ?xyVH7 ?xhVH7 ?xrVH7
          case xhVH7 => exact hHeld
          case xyVH7 => exact Or.inl ⟨by rfl, fun W9 hW => by clear hHeld; simp only [List.getElem_toArray, List.getElem_cons_succ, List.getElem_cons_zero]; go_simp⟩
          simp only [Act.put, List.getElem_toArray, List.getElem_cons_succ, List.getElem_cons_zero, List.setIfInBounds_toArray, List.set_cons_succ, List.set_cons_zero]
          refine wpAnyH_take (i := 7) (v := (.pointer (some ⟨b2, o2 + k * 3, none⟩))) rfl (by kernel_rfl) (by kernel_rfl) (by kernel_rfl) (fun _ _ _ h => (show False from h).elim) ?xyVH8 ?xhVH8 ?xrVH8
          case xhVH8 => exact hHeld
          case xyVH8 => exact Or.inl ⟨by rfl, fun W9 hW => by clear hHeld; simp only [List.getElem_toArray, List.getElem_cons_succ, List.getElem_cons_zero]; go_simp⟩
          simp only [Act.put, List.getElem_toArray, List.getElem_cons_succ, List.getElem_cons_zero, List.setIfInBounds_toArray, List.set_cons_succ, List.set_cons_zero]
          refine wpAnyH_take (i := 8) (v := (.agg #[.int .u64 (f.t : Int), .int .u64 (f.i : Int), .slice f.r.a f.r.b.length f.r.c])) rfl (by kernel_rfl) (by kernel_rfl) (by kernel_rfl) (fun _ _ _ h => (show False from h).elim) ?xyVH9 ?xhVH9 ?xrVH9
          case xhVH9 => exact hHeld
          case xyVH9 => exact Or.inl ⟨by rfl, fun W9 hW => by obtain ⟨z0, z1, z2, z3, z4, z5⟩ := hY _ hW; clear hHeld; simp only [List.getElem_toArray, List.getElem_cons_succ, List.getElem_cons_zero]; go_simp⟩
          simp only [Act.put, List.getElem_toArray, List.getElem_cons_succ, List.getElem_cons_zero, List.setIfInBounds_toArray, List.set_cons_succ, List.set_cons_zero]
          refine wpAnyH_ready (rs := [9]) (by kernel_rfl) (by simp) ?_
          refine AllReadyH.cons rfl (fun K hK => ?_) AllReadyH.nil
          go_simp
          go_wp2_with (first | (go_at_call 22; refine CEd.out.mono ?_; rintro en w3 ⟨rfl, hb3⟩))
          refine hK.out _ _ (HS.out _ hb3.out) (fun hHeld => ?_)
          clear hK K
          refine wpAnyH_take (i := 10) (v := (.bool (!decide (e.pe = f.pe)))) rfl (by kernel_rfl) (by kernel_rfl) (by kernel_rfl) (fun _ _ _ h => (show False from h).elim) ?xyVH10 ?xhVH10 ?xrVH10
          case xhVH10 => exact hHeld
          case xyVH10 => exact Or.inl ⟨by rfl, fun W9 hW => by clear hHeld; simp only [List.getElem_toArray, List.getElem_cons_succ, List.getElem_cons_zero]; go_simp⟩
          simp only [Act.put, List.getElem_toArray, List.getElem_cons_succ, List.getElem_cons_zero, List.setIfInBounds_toArray, List.set_cons_succ, List.set_cons_zero]
          refine wpAnyH_done (by kernel_rfl) ?_ _
          refine NoPanic.normal ?_
          go_wp2_with fail
          go_meet
          exact ⟨rfl, hb3⟩
        case rest =>
          obtain ⟨rfl, HBC⟩ := hcut
          have hz : IntKind.i64.wrap ((k : Int) + 1) = (k : Int) + 1 := by rw [IntKind.wrap_i64]; omega
          by_cases hef : e.pe = f.pe
          · have hdt : decide (e.pe = f.pe) = true := by simp [hef]
            rw [hdt]
            have HEF := hid hef
            clear hdt hef
            go_wp2_with fail
            go_roundw
            case rel => exact ⟨k + 1, by omega, by go_num, hid (by rw [List.take_add_one, List.take_add_one, HT.out, List.getElem?_map, List.getElem?_map, HBr.out.1, HBr.out.2]; simp [HEF.out]), HBw.out.trans (HBC.out.mono HBw.out.size)⟩
            case measure => first | (simp [intOf]; done) | (simp [intOf]; omega)
          · have hdt : decide (e.pe = f.pe) = false := by simp [hef]
            rw [hdt]
            have HEF := hid hef
            clear hdt hef
            go_wp2_with fail
            go_ret
            refine ⟨congrArg (fun q => Ending.returned (Value.bool q)) ?_, HBw.out.trans (HBC.out.mono HBw.out.size)⟩
            symm
            rw [decide_eq_false_iff_not]
            intro e9
            have e8 := congrArg (fun l : List Pe => l[k]?) e9
            simp only [List.getElem?_map, HBr.out.1, HBr.out.2, Option.map_some, Option.some.injEq] at e8
            exact HEF.out e8
      · obtain rfl : k = n := by omega
        have hki : ¬ ((k : Int) < (k : Int)) := by omega
        go_wp2_with fail
        go_ret
        refine ⟨congrArg (fun q => Ending.returned (Value.bool q)) ?_, HBw.out⟩
        have h9 := HT.out
        have hn := HN.out
        rw [List.take_of_length_le (by rw [List.length_map]; omega), List.take_of_length_le (by rw [List.length_map]; omega)] at h9
        simp [h9]
  · have hI : ¬ ((A.length : Int) = (B.length : Int)) := by omega
    have hIb : ((A.length : Int) == (B.length : Int)) = false := by simp; omega
    have HD : Hid (decide (A.map En.pe = B.map En.pe) = false) := by
      show _ = _
      rw [decide_eq_false_iff_not]
      intro e
      have := congrArg List.length e
      simp at this
      exact hne this
    clear hA hB
    go_enter Try.func56, Try.ntmps56
    go_wp2_with fail
    go_ret
    exact ⟨by rw [HD.out]; rfl, Below.refl _ _⟩

set_option maxHeartbeats 8000000 in
theorem hlog_any (l m : Lo) (w : World) (hl : LoAt w l) (hm : LoAt w m) : Calls Try.prog 28 #[l.v, m.v] w (fun en w' => en = .returned (.bool (decide (l.pl = m.pl))) ∧ Below w.heap.size w w') := by
  have hS := Lo.split l m
  obtain ⟨d, hd⟩ : ∃ d, d = decide (l.pl = m.pl) := ⟨_, rfl⟩
  rw [← hd]
  have CS0 := fun W (hW : Below w.heap.size w W) => bytes_any _ _ l.sd.b m.sd.b W (hl.sd.old hW) (hm.sd.old hW)
  have CE0 := fun W (hW : Below w.heap.size w W) => hsameE_any l.es m.es _ _ W (hl.es.old hW) (hm.es.old hW) hl.el hm.el
  obtain ⟨lht, lhv, lsi, lst, ⟨la, lc, lb⟩, leo, lec, les⟩ := l
  obtain ⟨mht, mhv, msi, mst, ⟨ma, mc, mb⟩, meo, mec, mes⟩ := m
  simp only [Lo.v] at CS0 CE0 ⊢
  obtain ⟨b1, hb1⟩ : ∃ b1, b1 = (lb == mb) := ⟨_, rfl⟩
  obtain ⟨b2, hb2⟩ : ∃ b2, b2 = decide (les.map En.pe = mes.map En.pe) := ⟨_, rfl⟩
  rw [← hb1] at CS0
  rw [← hb2] at CE0
  have HR : Hid (((lht = mht ∧ lhv = mhv ∧ lsi = msi ∧ lst = mst) → (b1 && b2) = d) ∧ (¬ (lht = mht ∧ lhv = mhv ∧ lsi = msi ∧ lst = mst) → false = d)) := by
    show _ ∧ _
    refine ⟨fun hg => ?_, fun hg => ?_⟩
    · obtain ⟨rfl, rfl, rfl, rfl⟩ := hg
      rw [hd, hb1, hb2, Bool.eq_iff_iff]
      simp only [decide_eq_true_eq, Bool.and_eq_true, beq_iff_eq, hS, true_and]
    · rw [hd]
      symm
      rw [decide_eq_false_iff_not, hS]
      exact fun e => hg ⟨e.1, e.2.1, e.2.2.1.1, e.2.2.1.2.1⟩
  have CS := hid CS0
  have CE := hid CE0
  have hb : Below w.heap.size w ((w.alloc (.cells #[.int .u64 (lht : Int), .int .i64 lhv, .int .u64 (lsi : Int), .int .u64 (lst : Int), .slice la lb.length lc, .slice leo les.length lec] 69)).alloc (.cells #[.int .u64 (mht : Int), .int .i64 mhv, .int .u64 (msi : Int), .int .u64 (mst : Int), .slice ma mb.length mc, .slice meo mes.length mec] 69)) := ((Below.refl _ _).alloc (Nat.le_refl _) _).alloc (by simp) _
  have h0 := (Below.heap_alloc (w.alloc (.cells #[.int .u64 (lht : Int), .int .i64 lhv, .int .u64 (lsi : Int), .int .u64 (lst : Int), .slice la lb.length lc, .slice leo les.length lec] 69)) (.cells #[.int .u64 (mht : Int), .int .i64 mhv, .int .u64 (msi : Int), .int .u64 (mst : Int), .slice ma mb.length mc, .slice meo mes.length mec] 69) w.heap.size (by simp)).trans (heap_alloc_new w (.cells #[.int .u64 (lht : Int), .int .i64 lhv, .int .u64 (lsi : Int), .int .u64 (lst : Int), .slice la lb.length lc, .slice leo les.length lec] 69))
  have h1 := heap_alloc2_new w (.cells #[.int .u64 (lht : Int), .int .i64 lhv, .int .u64 (lsi : Int), .int .u64 (lst : Int), .slice la lb.length lc, .slice leo les.length lec] 69) (.cells #[.int .u64 (mht : Int), .int .i64 mhv, .int .u64 (msi : Int), .int .u64 (mst : Int), .slice ma mb.length mc, .slice meo mes.length mec] 69)
  clear hl hm CS0 CE0 hb1 hb2 hd hS
  go_enter Try.func28, Try.ntmps28
  go_upto_region 1 with fail
  generalize (w.alloc (.cells #[.int .u64 (lht : Int), .int .i64 lhv, .int .u64 (lsi : Int), .int .u64 (lst : Int), .slice la lb.length lc, .slice leo les.length lec] 69)).alloc (.cells #[.int .u64 (mht : Int), .int .i64 mhv, .int .u64 (msi : Int), .int .u64 (mst : Int), .slice ma mb.length mc, .slice meo mes.length mec] 69) = w1 at *
  obtain ⟨a0, a1, a2, a3, a4, a5⟩ := six_cells h0
  obtain ⟨c0, c1, c2, c3, c4, c5⟩ := six_cells h1
  have HB := hid hb
  clear hb h0 h1
  have CS2 := hid (CS.out _ HB.out)
  have CE2 := hid (CE.out _ HB.out)
  clear CS CE
  by_cases g : lht = mht ∧ lhv = mhv ∧ lsi = msi ∧ lst = mst
  · have HG := hid (HR.out.1 g)
    clear HR
    obtain ⟨rfl, rfl, rfl, rfl⟩ := g
    cases b1 with
    | false =>
      go_wp2_with (first | (go_at_call 19; refine CS2.out.mono ?_; rintro en w2 ⟨rfl, rfl⟩))
      go_ret
      exact ⟨congrArg (fun q => Ending.returned (Value.bool q)) HG.out, HB.out⟩
    | true =>
      go_wp2_with (first | (go_at_call 19; refine CS2.out.mono ?_; rintro en w2 ⟨rfl, rfl⟩))
      go_wp2_with (first | (go_at_call 56; refine CE2.out.mono ?_; rintro en w3 ⟨rfl, hb3⟩))
      go_ret
      exact ⟨congrArg (fun q => Ending.returned (Value.bool q)) HG.out, HB.out.trans (hb3.mono HB.out.size)⟩
  · have HG := hid (HR.out.2 g)
    clear HR
    by_cases g1 : lht = mht
    · subst g1
      by_cases g2 : lhv = mhv
      · subst g2
        by_cases g3 : lsi = msi
        · subst g3
          have g4 : ¬ ((lst : Int) = (mst : Int)) := fun e => g ⟨rfl, rfl, rfl, by omega⟩
          have g4b : ((lst : Int) == (mst : Int)) = false := by simp; omega
          clear g
          go_wp2_with fail
          go_ret
          exact ⟨congrArg (fun q => Ending.returned (Value.bool q)) HG.out, HB.out⟩
        · have g3' : ¬ ((lsi : Int) = (msi : Int)) := by omega
          have g3b : ((lsi : Int) == (msi : Int)) = false := by simp; omega
          clear g
          go_wp2_with fail
          go_ret
          exact ⟨congrArg (fun q => Ending.returned (Value.bool q)) HG.out, HB.out⟩
      · clear g
        go_wp2_with fail
        go_ret
        exact ⟨congrArg (fun q => Ending.returned (Value.bool q)) HG.out, HB.out⟩
    · have g1' : ¬ ((lht : Int) = (mht : Int)) := by omega
      clear g
      go_wp2_with fail
      go_ret
      exact ⟨congrArg (fun q => Ending.returned (Value.bool q)) HG.out, HB.out⟩
end Go.Proofs.Ytdaecndbdinddaa

set_option linter.unusedVariables false
set_option linter.unusedSimpArgs false
set_option maxRecDepth 100000
namespace Go.Proofs.Ytdaecndbdinddaa
open Go.RowKit Go.Deep

theorem rightP_iff (l : Lo) : rightP l.pl = true ↔ (0 ≤ l.hv ∧ l.hv ≤ 5 ∧ l.si ≤ 4611686018427387904 ∧ l.st ≤ l.ht ∧ (l.si = 0 ↔ l.st = 0) ∧ l.sd.b.length ≤ 32668) ∧ rightE l.si (max l.st 1) l.ht (l.es.map En.pe) = true := by
  unfold rightP rightS Lo.pl
  simp only [Bool.and_eq_true, decide_eq_true_eq]
  constructor
  · rintro ⟨⟨h1, h2⟩, h3⟩; exact ⟨⟨h1.1, h1.2, h2.1, h2.2.1, h2.2.2.1, h2.2.2.2⟩, h3⟩
  · rintro ⟨⟨a, b, c, d, e, f⟩, h3⟩; exact ⟨⟨⟨a, b⟩, c, d, e, f⟩, h3⟩

set_option maxHeartbeats 16000000 in
theorem refRight_any (l : Lo) (w : World) (hl : LoAt w l) : Calls Try.prog 27 #[l.v] w (fun en w' => en = .returned (.bool (rightP l.pl)) ∧ Below w.heap.size w w') := by
  have hE := hl.es
  have hec : l.es.length ≤ l.ec := by
    obtain ⟨_, _, e1, q1, q2⟩ := hE.1.form
    simp only [Value.slice.injEq, List.length_map] at e1 q1
    omega
  have hsl := hl.sl
  have hel := hl.el
  have hst := hl.st
  have hht := hl.ht
  have hsi := hl.si
  have hhv := hl.hv
  have hRP := rightP_iff l
  have hlen := fun W => run_len_slice (P := Try.prog) W 30 3 l.eo l.es.length l.ec Try.underlying30
  have hlb := fun W a n c => run_len_slice (P := Try.prog) W 28 3 a n c Try.underlying28
  have hb : Below w.heap.size w (w.alloc (.cells #[.int .u64 (l.ht : Int), .int .i64 l.hv, .int .u64 (l.si : Int), .int .u64 (l.st : Int), .slice l.sd.a l.sd.b.length l.sd.c, .slice l.eo l.es.length l.ec] 69)) := (Below.refl _ _).alloc (Nat.le_refl _) _
  have h0 := heap_alloc_new w (.cells #[.int .u64 (l.ht : Int), .int .i64 l.hv, .int .u64 (l.si : Int), .int .u64 (l.st : Int), .slice l.sd.a l.sd.b.length l.sd.c, .slice l.eo l.es.length l.ec] 69)
  have HE := hid hE
  obtain ⟨PE, hPE⟩ : ∃ PE, PE = l.es.map En.pe := ⟨_, rfl⟩
  rw [← hPE] at hRP
  have HPE := hid hPE
  obtain ⟨n, hn⟩ : ∃ n, n = l.es.length := ⟨_, rfl⟩
  obtain ⟨D, hD⟩ : ∃ D, D = rightP l.pl := ⟨_, rfl⟩
  rw [← hD] at hRP ⊢
  have HN := hid hn
  have HRP := hid hRP
  simp only [Lo.v]
  rw [← hn] at hlen HE hec h0 hb hel ⊢
  clear hl hE hn hD hPE hRP
  generalize l.eo = eo at *
  obtain ⟨sl, hslD⟩ : ∃ sl, sl = l.sd.b.length := ⟨_, rfl⟩
  rw [← hslD] at hsl h0 hb HRP ⊢
  clear hslD
  go_enter Try.func27, Try.ntmps27
  go_upto_region 1 with fail
  generalize w.alloc (.cells #[.int .u64 (l.ht : Int), .int .i64 l.hv, .int .u64 (l.si : Int), .int .u64 (l.st : Int), .slice l.sd.a sl l.sd.c, .slice eo n l.ec] 69) = w1 at *
  obtain ⟨z0, z1, z2, z3, z4, z5⟩ := six_cells h0
  have HB := hid hb
  clear hb h0
  generalize l.hv = hv at *
  generalize l.ht = ht at *
  generalize l.si = si at *
  generalize l.st = st at *
  by_cases hg : 0 ≤ hv ∧ hv ≤ 5 ∧ si ≤ 4611686018427387904 ∧ st ≤ ht ∧ (si = 0 ↔ st = 0) ∧ sl ≤ 32668
  · have HG := hid hg
    obtain ⟨g1, g2, g3, g4, g5, g6⟩ := hg
    have k1 : ¬ hv < 0 := by omega
    have k2 : ¬ 5 < hv := by omega
    have k3 : ¬ (4611686018427387904 : Int) < (si : Int) := by omega
    have k4 : ¬ (ht : Int) < (st : Int) := by omega
    have k6 : ¬ (32668 : Int) < (sl : Int) := by omega
    have k5 : ((si : Int) == 0) = ((st : Int) == 0) := by rw [Bool.eq_iff_iff]; simp only [beq_iff_eq]; omega
    have k5' : ((si : Int) = 0) = ((st : Int) = 0) := by apply propext; omega
    have HC : Hid (∀ V, Below w1.heap.size w1 V → (V.cell? ⟨w.heap.size, 0, none⟩ = some (.int .u64 (ht : Int)) ∧ V.cell? ⟨w.heap.size, 2, none⟩ = some (.int .u64 (si : Int)) ∧ V.cell? ⟨w.heap.size, 5, none⟩ = some (.slice eo n l.ec))) := hid fun V h => by
      have hC : ∀ a v, w1.cell? a = some v → V.cell? a = some v := fun a v hv => (World.cell?_of_block (w := w1) (a := a) (h.block _ (World.block_lt_of_cell? w1 _ hv))).trans hv
      exact ⟨hC _ _ z0, hC _ _ z2, hC _ _ z5⟩
    clear g1 g2 g4 g5 g6
    go_wp2_with fail
    clear z0 z1 z2 z3 z4 z5 k1 k2 k3 k4 k5 k5' k6
    go_loopw [3, 4] (fun t i wr => ∃ k tm : Nat, k ≤ n ∧ i = .int .i64 (k : Int) ∧ t = .int .u64 (tm : Int) ∧ max tm 1 = tmK (max st 1) PE k ∧ tm < 18446744073709551616 ∧ Hid (rightE si (max st 1) ht (PE.take k) = true) ∧ Hid (Below w1.heap.size w1 wr)) (fun _ i _ => n - (intOf i).toNat)
    case atStart => exact ⟨0, st, by omega, rfl, rfl, by cases PE <;> rfl, by omega, by rw [List.take_zero]; exact rfl, Below.refl _ _⟩
    case round =>
      obtain ⟨k, tm, hk, rfl, rfl, HTM, htm, HR, HBr⟩ := hrel
      obtain ⟨z0, z2, z5⟩ := HC.out _ HBr.out
      by_cases hlt : k < n
      · have hki : (k : Int) < (n : Int) := by omega
        have hA9 := List.getElem?_eq_getElem (l := l.es) (i := k) (by have := HN.out; omega)
        generalize l.es[k]'_ = e at hA9
        obtain ⟨b1, o1, ea1, c10, c11, c12, r1⟩ := (HE.out.old (HB.out.trans (HBr.out.mono HB.out.size))).get hA9
        subst ea1
        have hpe : PE[k]? = some e.pe := by rw [HPE.out, List.getElem?_map, hA9]; rfl
        have hei := (HE.out.2 e (List.mem_of_getElem? hA9)).2
        have HPEk := hid hpe
        have hz : IntKind.i64.wrap ((k : Int) + 1) = (k : Int) + 1 := by rw [IntKind.wrap_i64]; omega
        have hzk : IntKind.u64.wrap (k : Int) = (k : Int) := by rw [IntKind.wrap_u64]; omega
        have hz1 : IntKind.u64.wrap ((si : Int) + (k : Int)) = (si : Int) + (k : Int) := by rw [IntKind.wrap_u64]; omega
        have hz2 : IntKind.u64.wrap ((si : Int) + (k : Int) + 1) = (si : Int) + (k : Int) + 1 := by rw [IntKind.wrap_u64]; omega
        obtain ⟨et, ei, ⟨ea, ec, eb⟩⟩ := e
        simp only at c10 c11 c12 hei
        simp only [En.pe] at hpe HPEk
        have d0 := fun o => cell_alloc z0 o
        have d2 := fun o => cell_alloc z2 o
        have d5 := fun o => cell_alloc z5 o
        have HNX := hid (rightE_more PE si (max st 1) ht k _ hpe HR.out)
        have HBAD := hid (rightE_bad PE si (max st 1) ht k _ hpe HR.out)
        have HTK := hid (tmK_next PE (max st 1) k _ hpe)
        have HBA : Hid (∀ o, Below w1.heap.size w1 (wr.alloc o)) := hid fun o => HBr.out.alloc HBr.out.size _
        simp only at HNX HBAD HTK
        clear hpe r1 hA9
        obtain ⟨el, hel9⟩ : ∃ el, el = eb.length := ⟨_, rfl⟩
        rw [← hel9] at c12 HNX HBAD hei
        clear hel9
        by_cases g : ei = si + k + 1 ∧ tm ≤ et ∧ et ≠ 0 ∧ et ≤ ht ∧ el ≤ 32668
        · have hg2 : ei = si + k + 1 ∧ tmK (max st 1) PE k ≤ et ∧ et ≤ ht ∧ el ≤ 32668 := by rw [← HTM]; omega
          have HN2 := hid (HNX.out hg2)
          obtain ⟨g1, g2, g3, g4, g5⟩ := g
          subst g1
          have k2 : ¬ (et : Int) < (tm : Int) := by omega
          have k3 : ((et : Int) == 0) = false := by rw [beq_eq_false_iff_ne]; omega
          have k3b : ¬ ((et : Int) = 0) := by omega
          have HET : Hid (et < 18446744073709551616) := by show _ < _; omega
          have k4 : ¬ (ht : Int) < (et : Int) := by omega
          have k5 : ¬ (32668 : Int) < (el : Int) := by omega
          have HT9 : Hid (max et 1 = tmK (max st 1) PE (k + 1)) := by show _ = _; rw [HTK.out]; omega
          clear g2 g4 hg2 hei HNX HBAD
          go_wp2_with fail
          exact ⟨⟨k + 1, et, by omega, by simp, rfl, HT9.out, HET.out, HN2.out, HBA.out _⟩, by simp only [intOf]; omega⟩
        · have hg2 : ¬ (ei = si + k + 1 ∧ tmK (max st 1) PE k ≤ et ∧ et ≤ ht ∧ el ≤ 32668) := by rw [← HTM]; omega
          have hF : D = false := by
            rcases Bool.eq_false_or_eq_true D with h | h
            · have := (HRP.out.1 h).2; rw [HBAD.out hg2] at this; cases this
            · exact h
          subst hF
          clear HNX HBAD
          go_wp2_with fail
          all_goals (go_ret; exact ⟨rfl, HB.out.trans ((HBA.out _).mono HB.out.size)⟩)
      · obtain rfl : k = n := by omega
        have hki : ¬ (k : Int) < (k : Int) := by omega
        have hF : D = true := HRP.out.2 ⟨HG.out, by have h1 := HR.out; rwa [List.take_of_length_le (by rw [HPE.out, List.length_map]; have := HN.out; omega)] at h1⟩
        subst hF
        go_wp2_with fail
        go_ret
        exact ⟨rfl, HB.out.trans (HBr.out.mono HB.out.size)⟩
  · have hF : D = false := by
      rcases Bool.eq_false_or_eq_true D with h | h
      · exact (hg (HRP.out.1 h).1).elim
      · exact h
    subst hF
    go_wp2_with fail
    all_goals first
      | (go_ret; exact ⟨rfl, HB.out⟩)
      | (exfalso; have e := ‹((si : Int) == 0) = ((st : Int) == 0)›; rw [Bool.eq_iff_iff] at e; simp only [beq_iff_eq] at e; apply hg; omega)
end Go.Proofs.Ytdaecndbdinddaa

