import Derived.Deep.Slices
import Derived.Deep.AppendLies
import Derived.Test.YtdfccaehoodjhaaGreatRows
import Derived.WalkKit
import Derived.WalkSpells
import Derived.WalkLawsBesides
import Derived.Laws.AppendOwnNone
import Derived.ProofKit
import Derived.OpenShut
import Derived.ShutString
import Derived.ChangeOld
import Derived.Below
import Derived.SizedLaws
import Derived.Deep.Strs
import Derived.Deep.RegionHeld3
import Derived.Lib.ConvBytes
import Derived.Laws.AppendOwn
import Derived.Test.YtdfccaehoodjhaaGreatWP1
import Derived.Test.YtdfccaehoodjhaaGreatWP2
set_option linter.unusedVariables false
set_option linter.unusedSimpArgs false
namespace Go.Proofs.YtdfccaehoodjhaaGreat
open Go.RowKit

/-- Rows of that many cells. -/
def Wide (size : Nat) (L : List (List Value)) : Prop := ∀ r ∈ L, r.length = size ∧ ∀ u ∈ r, u.oneCell' = true

theorem Wide.sub {size : Nat} {a b : List (List Value)} (h : Wide size a) (k : ∀ r ∈ b, r ∈ a) : Wide size b := fun r hr => h r (k r hr)

theorem Wide.one {size : Nat} {L : List (List Value)} (h : Wide size L) : ∀ u ∈ L.flatten, u.oneCell' = true := fun u hu => by
  obtain ⟨r, hr, hu⟩ := List.mem_flatten.1 hu
  exact (h r hr).2 u hu

theorem Wide.len {size : Nat} {L : List (List Value)} (h : Wide size L) : L.flatten.length = L.length * size := by
  induction L with
  | nil => simp
  | cons r L ih =>
    have h1 := (h r (by simp)).1
    have h2 := ih (h.sub fun x hx => by simp [hx])
    rw [List.flatten_cons, List.length_append, h1, h2, List.length_cons, Nat.add_mul]
    omega

theorem Wide.at {size : Nat} {L : List (List Value)} (h : Wide size L) : ∀ {k : Nat} {r : List Value}, L[k]? = some r → ∀ {j : Nat} {u : Value}, r[j]? = some u → L.flatten[k * size + j]? = some u := by
  induction L with
  | nil => intro k r hk; simp at hk
  | cons q L ih =>
    intro k r hk j u hj
    have hq := (h q (by simp)).1
    cases k with
    | zero =>
      simp at hk
      subst hk
      have hjl : j < q.length := (List.getElem?_eq_some_iff.1 hj).1
      rw [Nat.zero_mul, Nat.zero_add, List.flatten_cons, List.getElem?_append_left hjl]
      exact hj
    | succ k =>
      have hk' : L[k]? = some r := by simpa using hk
      have h3 := ih (h.sub fun x hx => by simp [hx]) hk' hj
      rw [List.flatten_cons, List.getElem?_append_right (by rw [hq, Nat.add_mul]; omega)]
      have e : (k + 1) * size + j - q.length = k * size + j := by rw [hq, Nat.add_mul]; omega
      rw [e]
      exact h3

/-- The slice x reads as the rows L. -/
def Rws (size : Nat) (w : World) (x : Value) (L : List (List Value)) : Prop :=
  ∃ (ao : Option Addr) (c : Nat), x = .slice ao L.length c ∧ L.length ≤ c ∧ c ≤ maxLen ∧ (ao = none → c = 0) ∧ Wide size L ∧
    ∀ a, ao = some a → ∀ (j : Nat) u, L.flatten[j]? = some u → w.cell? (a.add j) = some u

theorem Rws.nil (size : Nat) (w : World) : Rws size w (.slice none 0 0) [] := ⟨none, 0, rfl, by simp, by simp, (fun _ => rfl), (fun r hr => by cases hr), (fun a h => by cases h)⟩

theorem Rws.wide {size : Nat} {w : World} {x : Value} {L : List (List Value)} (h : Rws size w x L) : Wide size L := by
  obtain ⟨_, _, _, _, _, _, h5, _⟩ := h
  exact h5

theorem Rws.kept {size : Nat} {w w' : World} {x : Value} {L : List (List Value)} {row : Option Nat} (h : Rws size w x L) (hg : w.grownBy w' row) (hne : blk x = none ∨ blk x ≠ row) : Rws size w' x L := by
  obtain ⟨ao, c, rfl, h1, h2, h3, h5, h4⟩ := h
  refine ⟨ao, c, rfl, h1, h2, h3, h5, fun a ha j u hu => ?_⟩
  subst ha
  have h6 := h4 a rfl j u hu
  have hlt := World.block_lt_of_cell? w _ h6
  rw [World.cell?_of_block (w := w) (a := a.add j) (hg.block _ hlt (by rw [add_block]; simpa [blk] using hne))]
  exact h6

theorem Rws.old {size : Nat} {w w' : World} {x : Value} {L : List (List Value)} (h : Rws size w x L) (hb : Below w.heap.size w w') : Rws size w' x L := by
  obtain ⟨ao, c, rfl, h1, h2, h3, h5, h4⟩ := h
  refine ⟨ao, c, rfl, h1, h2, h3, h5, fun a ha j u hu => ?_⟩
  subst ha
  have h6 := h4 a rfl j u hu
  rw [hb.cell (p := a.add j) (World.block_lt_of_cell? w _ h6)]
  exact h6

theorem Rws.len {P : Program} {size : Nat} {w : World} {x : Value} {L : List (List Value)} (h : Rws size w x L) (t e ty : TypeId) (ht : P.underlying t = some (.slice e)) :
    ∀ W, (Builtin.len_ #[t] ty #[x]).run P W = .ok (goInt L.length) W := by
  obtain ⟨ao, c, rfl, h1, h2, h3, _⟩ := h
  have ht' : P.underlying t = some (.slice (P.elem t)) := by simp [Program.elem, ht]
  exact fun W => run_len_slice W t ty _ _ _ ht'

theorem Rws.form {size : Nat} {w : World} {x : Value} {L : List (List Value)} (h : Rws size w x L) : ∃ ao c, x = .slice ao L.length c ∧ L.length ≤ c ∧ c ≤ maxLen := by
  obtain ⟨ao, c, rfl, h1, h2, h3, _⟩ := h
  exact ⟨ao, c, rfl, h1, h2⟩

/-- One row's cells. -/
theorem Rws.get {size : Nat} {w : World} {ao : Option Addr} {n c : Nat} {L : List (List Value)} (h : Rws size w (.slice ao n c) L) (hs : 0 < size) {k : Nat} {r : List Value} (hk : L[k]? = some r) :
    ∃ b off, ao = some ⟨b, off, none⟩ ∧ ∀ (j : Nat) u, r[j]? = some u → w.cell? ⟨b, off + k * size + j, none⟩ = some u := by
  obtain ⟨ao', c', he, h1, h2, h3, h5, h4⟩ := h
  simp only [Value.slice.injEq] at he
  obtain ⟨rfl, rfl, rfl⟩ := he
  have hkl : k < L.length := (List.getElem?_eq_some_iff.1 hk).1
  have hr := h5 r (List.mem_of_getElem? hk)
  cases ao with
  | none => have := h3 rfl; omega
  | some a =>
    obtain ⟨b, off, spot⟩ := a
    have hL0 : L[0]? = some (L[0]'(by omega)) := List.getElem?_eq_getElem (by omega)
    have hr0 := h5 _ (List.mem_of_getElem? hL0)
    have hu0 : (L[0]'(by omega))[0]? = some ((L[0]'(by omega))[0]'(by omega)) := List.getElem?_eq_getElem (by omega)
    have h0 := h4 _ rfl _ _ (h5.at hL0 hu0)
    have hspot : spot = none := by
      rw [Nat.zero_mul, Nat.zero_add] at h0
      simpa [Addr.add] using World.cell?_spot h0
    subst hspot
    refine ⟨b, off, rfl, fun j u hj => ?_⟩
    have := h4 _ rfl _ _ (h5.at hk hj)
    rw [WideShapes.add_plain, ← Nat.add_assoc] at this
    exact this

/-- What the call itself made. -/
theorem Rws.own {size : Nat} {w : World} {base : Nat} {e : TypeId} {x : Value} {L : List (List Value)} (h : w.ownsRow base e size x L.length L.flatten) (hw : Wide size L) : Rws size w x L := by
  obtain ⟨h1, h2⟩ := h
  rcases h2 with ⟨rfl, hn⟩ | ⟨g, cap, cur, rfl, hb, hg, hn, hc, hs, ht⟩
  · obtain rfl : L = [] := List.eq_nil_of_length_eq_zero hn
    exact Rws.nil size w
  · refine ⟨some ⟨g, 0, none⟩, cap, rfl, hn, hc, (fun h => by cases h), hw, fun a ha => ?_⟩
    cases ha
    intro j u hu
    rw [WideShapes.add_plain, Nat.zero_add, cell_of_row w g j cur e (0, 0) hg]
    rw [← ht, List.getElem?_take] at hu
    split at hu
    · simpa using hu
    · cases hu

theorem Rws.take {size : Nat} {w : World} {ao : Option Addr} {m c : Nat} {L : List (List Value)} (h : Rws size w (.slice ao m c) L) (n : Nat) (hn : n ≤ L.length) : Rws size w (.slice ao n c) (L.take n) := by
  obtain ⟨ao', c', he, h1, h2, h3, h5, h4⟩ := h
  simp only [Value.slice.injEq] at he
  obtain ⟨rfl, rfl, rfl⟩ := he
  have hlen : (L.take n).length = n := by rw [List.length_take]; omega
  refine ⟨ao, c, by rw [hlen], by rw [hlen]; omega, h2, h3, h5.sub fun r hr => List.mem_of_mem_take hr, fun a ha j u hu => h4 a ha j u ?_⟩
  have e : L.flatten = (L.take n).flatten ++ (L.drop n).flatten := by rw [← List.flatten_append, List.take_append_drop]
  rw [e, List.getElem?_append_left]
  · exact hu
  · exact (List.getElem?_eq_some_iff.1 hu).1

/-- 'x[n:]'. -/
theorem Rws.cut {P : Program} {size : Nat} {w : World} {x : Value} {L : List (List Value)} (h : Rws size w x L) (hsz : 0 < size) (t e : TypeId) (ht : P.underlying t = some (.slice e)) (hinfo : (P.info? e).map (fun i => i.size) = some size) (n : Nat) (hn : n ≤ L.length) :
    ∃ (ao : Option Addr) (c : Nat), (∀ W, (Instr.slice t x (some (.int .i64 (n : Int))) none none).run P W = .ok (.slice ao (L.length - n) c) W) ∧ Rws size w (.slice ao (L.length - n) c) (L.drop n) ∧ (∀ k, blk (.slice ao (L.length - n) c) = some k → blk x = some k) := by
  obtain ⟨i0, hi, hz1⟩ : ∃ i, P.info? e = some i ∧ i.size = size := by
    cases hq : P.info? e with
    | none => rw [hq] at hinfo; cases hinfo
    | some i => rw [hq] at hinfo; exact ⟨i, rfl, by simpa using hinfo⟩
  have h0 := h
  obtain ⟨ao, c, rfl, h1, h2, h3, h5, h4⟩ := h
  have ht' : P.underlying t = some (.slice (P.elem t)) := by simp [Program.elem, ht]
  have he : P.elem t = e := by simp [Program.elem, ht]
  have hs : ∀ W, (sizeOf e).run P W = .ok size W := fun W => by simp [sizeOf, typeInfo, hi, hz1]
  have hlen : (L.drop n).length = L.length - n := List.length_drop
  refine ⟨if c = n then ao else ao.map (·.add (n * size)), c - n, fun W => ?_, ?_, ?_⟩
  · rw [run_slice_l W t _ _ _ ht' .i64 _ (by omega) (by omega), he, hs]
    simp [Result.andThen, sliced]
  · refine ⟨_, _, by rw [hlen], by rw [hlen]; omega, by omega, ?_, h5.sub fun r hr => List.mem_of_mem_drop hr, ?_⟩
    · intro hne
      split at hne
      · omega
      · cases ao with
        | none => have := h3 rfl; omega
        | some a => simp at hne
    · intro a ha j u hu
      have hjl : j < (L.drop n).flatten.length := (List.getElem?_eq_some_iff.1 hu).1
      have hwd : Wide size (L.drop n) := h5.sub fun r hr => List.mem_of_mem_drop hr
      have hpos : 0 < (L.drop n).length := by
        rcases Nat.eq_zero_or_pos (L.drop n).length with h | h
        · rw [List.eq_nil_of_length_eq_zero h] at hjl; simp at hjl
        · exact h
      rw [if_neg (by omega)] at ha
      cases ao with
      | none => simp at ha
      | some a0 =>
        simp at ha
        subst ha
        have e : L.flatten = (L.take n).flatten ++ (L.drop n).flatten := by rw [← List.flatten_append, List.take_append_drop]
        have hwt : Wide size (L.take n) := h5.sub fun r hr => List.mem_of_mem_take hr
        have hlt : (L.take n).flatten.length = n * size := by rw [hwt.len, List.length_take]; congr 1; omega
        have h7 : L.flatten[n * size + j]? = some u := by
          rw [e, List.getElem?_append_right (by omega), hlt]
          rw [show n * size + j - n * size = j by omega]
          exact hu
        have h6 := h4 a0 rfl _ _ h7
        rw [Deep.add_add]
        exact h6
  · intro k hk
    split at hk
    · cases ao with
      | none => simp [blk] at hk
      | some a => simpa [blk] using hk
    · cases ao with
      | none => simp [blk] at hk
      | some a => simpa [blk, add_block] using hk

/-- A row that was laid out by 'buildSlice' or stored whole: one row. -/
theorem Rws.one {w : World} {n size : Nat} {r : List Value} {t : TypeId} (h : n = w.heap.size) (hr : r.length = size ∧ ∀ u ∈ r, u.oneCell' = true) : Rws size (w.alloc (.cells r.toArray t)) (.slice (some ⟨n, 0, none⟩) 1 1) [r] := by
  subst h
  refine ⟨some ⟨w.heap.size, 0, none⟩, 1, rfl, by simp, by unfold maxLen; simp, (fun h => by cases h), (fun q hq => by simp at hq; subst hq; exact hr), fun a ha j u hu => ?_⟩
  cases ha
  rw [WideShapes.add_plain, Nat.zero_add, cell_of_row _ w.heap.size j r.toArray t (0, 0) (heap_alloc_new w _)]
  simpa using hu
end Go.Proofs.YtdfccaehoodjhaaGreat

namespace Go.Proofs.YtdfccaehoodjhaaGreat
open Go.ChangeShapes Go.WideShapes Go.ChangeAt Go.RowKit

/-- A slice of integers that came in: it is nil; or it leads to a row of 'cap' cells, the numbers 'zs' (the first 'len' are its elements, the rest its spare room), each fitting its kind. -/
def IsRow (k : IntKind) (w : World) (a : Option Addr) (len cap : Nat) (zs : List Int) : Prop :=
  (a = none ∧ len = 0 ∧ cap = 0 ∧ zs = []) ∨
  ∃ x, a = some x ∧ len ≤ cap ∧ cap ≤ maxLen ∧ zs.length = cap ∧ (∀ i, i < zs.length → w.cell? (x.add i) = some (.int k (zs.getD i 0))) ∧ ∀ n ∈ zs, (Lit.int k n).wf = true

/-- Bytes that came in read as bytes. -/
theorem rd_of_row {w : World} {a : Option Addr} {len cap : Nat} {zs : List Int} (h : IsRow .u8 w a len cap zs) : ∃ l : List UInt8, l.length = len ∧ Rd w (.slice a len cap) l := by
  rcases h with ⟨rfl, rfl, rfl, rfl⟩ | ⟨x, rfl, hl, hm, hz, hc, hw⟩
  · exact ⟨[], rfl, Rd.nil w⟩
  · have hlen : ((zs.take len).map fun n => UInt8.ofNat n.toNat).length = len := by simp; omega
    refine ⟨(zs.take len).map fun n => UInt8.ofNat n.toNat, hlen, some x, cap, by rw [hlen], by rw [hlen]; exact hl, hm, (fun h => by cases h), fun a ha j u hu => ?_⟩
    cases ha
    have hj : j < len := by
      have := (List.getElem?_eq_some_iff.1 hu).1
      rw [List.length_map] at this
      omega
    have hjz : j < zs.length := by omega
    rw [hc j hjz]
    have hwj := hw zs[j] (List.getElem_mem hjz)
    have hb := bounds_u8 hwj
    rw [List.map_map, List.getElem?_map, List.getElem?_take_of_lt hj, List.getElem?_eq_getElem hjz] at hu
    simp only [Option.map_some, Option.some.injEq, Function.comp_apply] at hu
    rw [← hu, List.getD_eq_getElem?_getD, List.getElem?_eq_getElem hjz, Option.getD_some]
    unfold bv
    rw [UInt8.toNat_ofNat']
    have e : zs[j] = ((zs[j].toNat % 2 ^ 8 : Nat) : Int) := by omega
    rw [← e]

end Go.Proofs.YtdfccaehoodjhaaGreat

set_option linter.unusedVariables false
set_option maxRecDepth 100000
namespace Go.Proofs.YtdfccaehoodjhaaGreat
open Go.RowKit Go.ChangeShapes Go.WideShapes Go.ChangeAt Go.Deep

/-- A shape: a number, a signed one, a bool, bytes, a string, a list, and a struct (its fields one by one). -/
inductive Sh where
  | num
  | int
  | bool
  | data
  | name
  | list (s : Sh)
  | nil
  | cons (s r : Sh)

def Sh.wid : Sh → Nat
  | .nil => 0
  | .cons s r => s.wid + r.wid
  | _ => 1

/-- The cells have these plain bytes. -/
def Enc (W : World) : Sh → List Value → List UInt8 → Prop
  | .num, cs, bs => ∃ n : Nat, n < 18446744073709551616 ∧ cs = [.int .u64 (n : Int)] ∧ bs = numL n
  | .int, cs, bs => ∃ z : Int, (Lit.int .i64 z).wf = true ∧ cs = [.int .i64 z] ∧ bs = numL (zig z)
  | .bool, cs, bs => ∃ b : Bool, cs = [.bool b] ∧ bs = numL (if b then 1 else 0)
  | .data, cs, bs => ∃ x l, cs = [x] ∧ x.oneCell' = true ∧ Rd W x l ∧ l.length ≤ 1048576 ∧ bs = textL l
  | .name, cs, bs => ∃ l : List UInt8, cs = [.string ⟨l.toArray⟩] ∧ l.length ≤ 1048576 ∧ bs = textL l
  | .list s, cs, bs => ∃ (a : Option Addr) (c : Nat) (M : List (List Value × List UInt8)), cs = [.slice a M.length c] ∧ Rws s.wid W (.slice a M.length c) (M.map (·.1)) ∧ (∀ m ∈ M, Enc W s m.1 m.2) ∧ M.length ≤ 1048576 ∧ bs = numL M.length ++ (M.map (·.2)).flatten
  | .nil, cs, bs => cs = [] ∧ bs = []
  | .cons s r, cs, bs => ∃ c1 c2 b1 b2, cs = c1 ++ c2 ∧ bs = b1 ++ b2 ∧ Enc W s c1 b1 ∧ Enc W r c2 b2

theorem Enc.old {W W' : World} (hb : Below W.heap.size W W') : ∀ (s : Sh) {cs : List Value} {bs : List UInt8}, Enc W s cs bs → Enc W' s cs bs
  | .num, cs, bs, h => h
  | .int, cs, bs, h => h
  | .bool, cs, bs, h => h
  | .data, cs, bs, h => by
    obtain ⟨x, l, h1, h2, h3, h4⟩ := h
    exact ⟨x, l, h1, h2, h3.old hb, h4⟩
  | .name, cs, bs, h => h
  | .list s, cs, bs, h => by
    obtain ⟨a, c, M, h1, h2, h3, h4⟩ := h
    exact ⟨a, c, M, h1, h2.old hb, fun m hm => Enc.old hb s (h3 m hm), h4⟩
  | .nil, cs, bs, h => h
  | .cons s r, cs, bs, h => by
    obtain ⟨c1, c2, b1, b2, h1, h2, h3, h4⟩ := h
    exact ⟨c1, c2, b1, b2, h1, h2, Enc.old hb s h3, Enc.old hb r h4⟩

/-- How many cells there are; each is one cell. -/
theorem Enc.wide {W : World} : ∀ (s : Sh) {cs : List Value} {bs : List UInt8}, Enc W s cs bs → cs.length = s.wid ∧ ∀ u ∈ cs, u.oneCell' = true
  | .num, cs, bs, h => by obtain ⟨n, _, rfl, _⟩ := h; exact ⟨rfl, fun u hu => by simp at hu; subst hu; rfl⟩
  | .int, cs, bs, h => by obtain ⟨n, _, rfl, _⟩ := h; exact ⟨rfl, fun u hu => by simp at hu; subst hu; rfl⟩
  | .bool, cs, bs, h => by obtain ⟨n, rfl, _⟩ := h; exact ⟨rfl, fun u hu => by simp at hu; subst hu; rfl⟩
  | .data, cs, bs, h => by obtain ⟨x, l, rfl, h2, _⟩ := h; exact ⟨rfl, fun u hu => by simp at hu; subst hu; exact h2⟩
  | .name, cs, bs, h => by obtain ⟨n, rfl, _⟩ := h; exact ⟨rfl, fun u hu => by simp at hu; subst hu; rfl⟩
  | .list s, cs, bs, h => by obtain ⟨a, c, M, rfl, _⟩ := h; exact ⟨rfl, fun u hu => by simp at hu; subst hu; rfl⟩
  | .nil, cs, bs, h => by obtain ⟨rfl, _⟩ := h; exact ⟨rfl, fun u hu => by cases hu⟩
  | .cons s r, cs, bs, h => by
    obtain ⟨c1, c2, b1, b2, rfl, _, h3, h4⟩ := h
    obtain ⟨p1, p2⟩ := Enc.wide s h3
    obtain ⟨q1, q2⟩ := Enc.wide r h4
    refine ⟨by rw [List.length_append, p1, q1]; rfl, fun u hu => ?_⟩
    rcases List.mem_append.1 hu with hu | hu
    · exact p2 u hu
    · exact q2 u hu

/-- A type has the shape. -/
noncomputable def ofF (T : Sh → TypeId → Bool) : Sh → List Field → Nat → Bool
  | .nil, [], _ => true
  | .cons s r, f :: fs, off => f.offset == off && Tryz.prog.cellsOf f.type == s.wid && T s f.type && ofF T r fs (off + s.wid)
  | _, _, _ => false

noncomputable def ofT : Nat → Sh → TypeId → Bool
  | 0, _, _ => false
  | _ + 1, .num, t => match Tryz.prog.underlying t with | some (.int .u64) => true | _ => false
  | _ + 1, .int, t => match Tryz.prog.underlying t with | some (.int .i64) => true | _ => false
  | _ + 1, .bool, t => match Tryz.prog.underlying t with | some .bool => true | _ => false
  | _ + 1, .data, t => t == 22
  | _ + 1, .name, t => match Tryz.prog.underlying t with | some .string => true | _ => false
  | n + 1, .list s, t => match Tryz.prog.underlying t with | some (.slice e) => Tryz.prog.cellsOf e == s.wid && ofT n s e | _ => false
  | n + 1, s, t => match Tryz.prog.underlying t with | some (.struct fs) => Tryz.prog.cellsOf t == s.wid && ofF (ofT n) s fs.toList 0 | _ => false

variable {H : Type} {enc : TypeId × Value → H} {W : World}

theorem bulk_mem {ds : List (DataW H)} : ∀ {d : DataW H}, d ∈ ds → Rows.uptoBulk d ≤ Rows.uptoBulkAll ds := by
  induction ds with
  | nil => intro d h; cases h
  | cons x r ih =>
    intro d h
    simp only [Rows.uptoBulkAll]
    rcases List.mem_cons.1 h with rfl | h
    · omega
    · have := ih h; omega

theorem bulk_lits {k : IntKind} (zs : List Int) : Rows.uptoBulkAll (H := H) (lits k zs) = zs.length := by
  induction zs with
  | nil => rfl
  | cons z zs ih =>
    show Rows.uptoBulkAll ((.lit (.int k z)) :: lits k zs) = _
    simp only [Rows.uptoBulkAll, ih, Rows.uptoBulk, List.length_cons]
    omega

theorem textL_le (l : List UInt8) (h : l.length < 2 ^ 64) : (textL l).length ≤ 10 + l.length := by
  have := numL_len10 h
  unfold textL
  rw [List.length_append]
  omega

/-- What is of a shape, read as data, has plain bytes. -/
def Opens (n : Nat) : Prop := ∀ (s : Sh) (t : TypeId) (m : Nat) (cs : List Value) (y : DataW H × List MemPlace), ofT n s t = true → DataW.trod enc Tryz.prog W 0 (fun _ => true) true m t cs = some y →
    Rows.uptoBulk y.1 ≤ 1048576 → ∃ bs, Enc W s cs bs ∧ bs.length ≤ 10 * Rows.uptoBulk y.1

theorem fields_open {k : Nat} (hk : Opens (enc := enc) (W := W) k) (n : Nat) (cs : List Value) : ∀ (s : Sh) (fs : List Field) (off : Nat) (xs : List (DataW H × List MemPlace)),
    ofF (ofT k) s fs off = true → xs.length = fs.length → (∀ (j : Nat) (f : Field), fs[j]? = some f → DataW.trod enc Tryz.prog W 0 (fun _ => true) true n f.type ((cs.drop f.offset).take (Tryz.prog.cellsOf f.type)) = xs[j]?) →
    cs.length = off + s.wid → Rows.uptoBulkAll (xs.map (·.1)) ≤ 1048576 → ∃ bs, Enc W s (cs.drop off) bs ∧ bs.length ≤ 10 * Rows.uptoBulkAll (xs.map (·.1))
  | .nil, [], off, [], _, _, _, hc, _ => by
    refine ⟨[], ⟨?_, rfl⟩, by simp⟩
    apply List.drop_eq_nil_of_le
    simp [Sh.wid] at hc
    omega
  | .cons s r, f :: fs, off, y :: xs, h, hl, hx, hc, hb => by
    simp only [ofF, Bool.and_eq_true, beq_iff_eq] at h
    obtain ⟨⟨⟨h1, h2⟩, h3⟩, h4⟩ := h
    simp only [List.map_cons, Rows.uptoBulkAll] at hb
    have t0 := hx 0 f rfl
    simp only [List.getElem?_cons_zero] at t0
    rw [h1, h2] at t0
    obtain ⟨b1, e1, l1⟩ := hk s _ _ _ _ h3 t0 (by omega)
    have hc' : cs.length = off + s.wid + r.wid := by simp only [Sh.wid] at hc; omega
    obtain ⟨b2, e2, l2⟩ := fields_open hk n cs r fs (off + s.wid) xs h4 (by simpa using hl) (fun j g hg => by simpa using hx (j + 1) g (by simpa using hg)) hc' (by omega)
    refine ⟨b1 ++ b2, ⟨_, _, b1, b2, ?_, rfl, e1, e2⟩, ?_⟩
    · rw [← List.drop_drop, List.take_append_drop]
    · rw [List.length_append]
      simp only [List.map_cons, Rows.uptoBulkAll]
      omega

theorem struct_open {n : Nat} (ih : Opens (enc := enc) (W := W) n) (s : Sh) (t : TypeId) (m : Nat) (cs : List Value) (y : DataW H × List MemPlace)
    (h : (match Tryz.prog.underlying t with | some (.struct fs) => Tryz.prog.cellsOf t == s.wid && ofF (ofT n) s fs.toList 0 | _ => false) = true)
    (ht : DataW.trod enc Tryz.prog W 0 (fun _ => true) true m t cs = some y) (hb : Rows.uptoBulk y.1 ≤ 1048576) : ∃ bs, Enc W s cs bs ∧ bs.length ≤ 10 * Rows.uptoBulk y.1 := by
  split at h
  · rename_i fs hu
    simp only [Bool.and_eq_true, beq_iff_eq] at h
    obtain ⟨xs, k, _, rfl, hl, hlen, hf⟩ := DataW.trod_struct hu ht
    simp only [Rows.uptoBulk] at hb
    obtain ⟨bs, e, l⟩ := fields_open ih k cs s fs.toList 0 xs h.2 (by simpa using hlen) (fun j f hj => hf j f (by simpa using hj)) (by rw [hl, h.1]; omega) (by omega)
    refine ⟨bs, by simpa using e, ?_⟩
    simp only [Rows.uptoBulk]
    omega
  · cases h

theorem opens : ∀ n, Opens (enc := enc) (W := W) n
  | 0 => fun s t m cs y h => by cases h
  | n + 1 => fun s t m cs y h ht hb => by
    have ih := opens n
    cases s with
    | num =>
      simp only [ofT] at h
      split at h
      · rename_i hu
        obtain ⟨i, rfl, rfl, hw⟩ := DataW.trod_int hu ht
        have hbd := bounds_u64 hw
        obtain ⟨k, rfl⟩ : ∃ k : Nat, i = (k : Int) := ⟨i.toNat, by omega⟩
        refine ⟨numL k, ⟨k, by omega, rfl, rfl⟩, ?_⟩
        have := numL_len10 (v := k) (by omega)
        simp only [Rows.uptoBulk]
        omega
      · cases h
    | int =>
      simp only [ofT] at h
      split at h
      · rename_i hu
        obtain ⟨i, rfl, rfl, hw⟩ := DataW.trod_int hu ht
        refine ⟨_, ⟨i, hw, rfl, rfl⟩, ?_⟩
        have := numL_zig hw
        simp only [Rows.uptoBulk]
        omega
      · cases h
    | bool =>
      simp only [ofT] at h
      split at h
      · rename_i hu
        obtain ⟨b, rfl, rfl⟩ := DataW.trod_bool hu ht
        refine ⟨_, ⟨b, rfl, rfl⟩, ?_⟩
        have := numL_len10 (v := if b then 1 else 0) (by split <;> decide)
        simp only [Rows.uptoBulk]
        omega
      · cases h
    | data =>
      simp only [ofT, beq_iff_eq] at h
      subst h
      rcases open_ints Tryz.underlying22 Tryz.underlying5 (by kernel_rfl) ht with ⟨hcs, hx⟩ | ⟨x, l, c, zs, hcs, _, hl, hm, hz, hx, hcell, hwz⟩
      · subst hcs; subst hx
        refine ⟨_, ⟨_, [], rfl, rfl, Rd.nil W, by simp, rfl⟩, ?_⟩
        have := textL_le [] (by simp)
        simp only [Rows.uptoBulk]
        simp at this
        omega
      · have hz' : zs.length = c := by simpa using hz
        obtain ⟨b, hbl, hr⟩ := rd_of_row (w := W) (a := some x) (len := l) (cap := c) (zs := zs) (.inr ⟨_, rfl, hl, hm, hz', hcell, hwz⟩)
        subst hbl
        subst hcs
        rw [hx] at hb ⊢
        simp only [Rows.uptoBulk, bulk_lits, List.length_take, List.length_drop] at hb ⊢
        refine ⟨_, ⟨_, b, rfl, rfl, hr, by omega, rfl⟩, ?_⟩
        have := textL_le b (by omega)
        omega
    | name =>
      simp only [ofT] at h
      split at h
      · rename_i hu
        obtain ⟨b, rfl, rfl, _⟩ := DataW.trod_string hu ht
        simp only [Rows.uptoBulk] at hb ⊢
        refine ⟨_, ⟨b.data.toList, by simp, by omega, rfl⟩, ?_⟩
        have := textL_le b.data.toList (by omega)
        omega
      · cases h
    | list s =>
      simp only [ofT] at h
      split at h
      · rename_i e hu
        simp only [Bool.and_eq_true, beq_iff_eq] at h
        obtain ⟨hw, ho⟩ := h
        rcases open_slice hu ht with ⟨hcs, hx⟩ | ⟨x, len, cap, m', n', D, Pl, hcs, _, hl, hm, hmm, hx, hcell⟩
        · subst hcs; subst hx
          refine ⟨_, ⟨none, 0, [], rfl, Rws.nil _ W, (fun m hm => by cases hm), by simp, rfl⟩, ?_⟩
          have := numL_len10 (v := 0) (by omega)
          simp only [Rows.uptoBulk]
          simp
          omega
        · rw [hw] at hcell
          rw [hx] at hb ⊢
          simp only [Rows.uptoBulk] at hb ⊢
          have hmem : ∀ i, i < len → Rows.uptoBulk (D i) ≤ Rows.uptoBulkAll ((List.range len).map D) := fun i hi => bulk_mem (List.mem_map.2 ⟨i, List.mem_range.2 hi, rfl⟩)
          have key : ∀ i, i < len → ∃ v : List Value × List UInt8, (∀ j u, v.1[j]? = some u → W.cell? (x.add (i * s.wid + j)) = some u) ∧ Enc W s v.1 v.2 ∧ v.2.length ≤ 10 * Rows.uptoBulk (D i) := by
            intro i hi
            obtain ⟨cs', h1, h2⟩ := hcell i (by rw [hmm]; simp; omega)
            have := hmem i hi
            obtain ⟨bs, e1, e2⟩ := ih s _ _ _ _ ho h2 (by show Rows.uptoBulk (D i) ≤ _; omega)
            obtain ⟨_, hl2, hc⟩ := World.cells?_some h1
            refine ⟨(cs', bs), fun j u hj => ?_, e1, e2⟩
            have hjl := (List.getElem?_eq_some_iff.1 hj).1
            have := hc j (by rw [← hl2]; exact hjl)
            rw [add_add] at this
            rw [this]
            exact hj
          obtain ⟨f, hf2⟩ := choose_lt key
          have hlen : ((List.range len).map f).length = len := by simp
          have hge : len ≤ Rows.uptoBulkAll ((List.range len).map D) := by
            have hone : ∀ d : DataW H, 1 ≤ Rows.uptoBulk d := fun d => by
              cases d with
              | lit l => cases l <;> simp [Rows.uptoBulk]
              | _ => simp [Rows.uptoBulk]
            have : ∀ l : List (DataW H), l.length ≤ Rows.uptoBulkAll l := fun l => by
              induction l with
              | nil => simp
              | cons d l ih => simp only [Rows.uptoBulkAll, List.length_cons]; have := hone d; omega
            simpa using this ((List.range len).map D)
          have hrd : ∀ m ∈ (List.range len).map f, Enc W s m.1 m.2 := fun m hm => by
            obtain ⟨i, hi, rfl⟩ := List.mem_map.1 hm
            exact (hf2 i (List.mem_range.1 hi)).2.1
          have hwd : Wide s.wid (((List.range len).map f).map (·.1)) := fun r hr => by
            obtain ⟨m, hm, rfl⟩ := List.mem_map.1 hr
            exact (hrd m hm).wide
          have hsum : ∀ l : List Nat, (∀ i ∈ l, i < len) → ((l.map f).map (·.2)).flatten.length ≤ 10 * Rows.uptoBulkAll (l.map D) := fun l => by
            induction l with
            | nil => intro _; simp
            | cons i l ihl =>
              intro hl
              have h1 := (hf2 i (hl i (by simp))).2.2
              have h2 := ihl fun j hj => hl j (by simp [hj])
              simp only [List.map_cons, List.flatten_cons, List.length_append, Rows.uptoBulkAll]
              omega
          subst hcs
          refine ⟨numL len ++ (((List.range len).map f).map (·.2)).flatten, ⟨some x, cap, (List.range len).map f, by rw [hlen], ⟨some x, cap, by simp, by rw [List.length_map, hlen]; exact hl, hm, (fun h => by cases h), hwd, fun a ha j u hu => ?_⟩, hrd, by rw [hlen]; omega, by rw [hlen]⟩, ?_⟩
          · cases ha
            have hjl := (List.getElem?_eq_some_iff.1 hu).1
            rw [hwd.len, List.length_map, hlen] at hjl
            have hpos : 0 < s.wid := by
              rcases Nat.eq_zero_or_pos s.wid with h | h
              · rw [h] at hjl; omega
              · exact h
            have hk : j / s.wid < len := Nat.div_lt_of_lt_mul (by rw [Nat.mul_comm]; exact hjl)
            have h1 : (((List.range len).map f).map (·.1))[j / s.wid]? = some (f (j / s.wid)).1 := by
              rw [List.getElem?_map, List.getElem?_map, List.getElem?_range hk]
              rfl
            have hmod : j % s.wid < (f (j / s.wid)).1.length := by rw [((hf2 _ hk).2.1).wide.1]; exact Nat.mod_lt _ hpos
            have h2 : (f (j / s.wid)).1[j % s.wid]? = some ((f (j / s.wid)).1[j % s.wid]'hmod) := List.getElem?_eq_getElem _
            have h3 := hwd.at h1 h2
            have e : j / s.wid * s.wid + j % s.wid = j := by rw [Nat.mul_comm]; exact Nat.div_add_mod j s.wid
            rw [e, hu] at h3
            have h4 := (hf2 (j / s.wid) hk).1 (j % s.wid) u (by rw [h2]; exact h3.symm)
            rw [e] at h4
            exact h4
          · have h1 := hsum (List.range len) fun i hi => List.mem_range.1 hi
            have h2 := numL_len10 (v := len) (by omega)
            rw [List.length_append]
            omega
      · cases h
    | nil => exact struct_open ih .nil t m cs y h ht hb
    | cons s r => exact struct_open ih (.cons s r) t m cs y h ht hb
end Go.Proofs.YtdfccaehoodjhaaGreat

set_option linter.unusedVariables false
namespace Go.Proofs.YtdfccaehoodjhaaGreat
open Go.RowKit

/-- All that lay lies, but for the blocks of X. -/
structure Keep (X : Nat → Prop) (w w' : World) : Prop where
  os : w'.os = w.os
  tape : w'.tape = w.tape
  output : w'.output = w.output
  size : w.heap.size ≤ w'.heap.size
  block : ∀ k, k < w.heap.size → ¬ X k → w'.heap[k]? = w.heap[k]?

theorem Keep.refl (X : Nat → Prop) (w : World) : Keep X w w := ⟨rfl, rfl, rfl, Nat.le_refl _, fun _ _ _ => rfl⟩
theorem Keep.trans {X : Nat → Prop} {a b c : World} (h : Keep X a b) (k : Keep X b c) : Keep X a c :=
  ⟨k.os.trans h.os, k.tape.trans h.tape, k.output.trans h.output, Nat.le_trans h.size k.size, fun i hi hn => (k.block i (Nat.lt_of_lt_of_le hi h.size) hn).trans (h.block i hi hn)⟩
/-- The second step's blocks: some of the first one's, or new ones. -/
theorem Keep.trans2 {X Y : Nat → Prop} {a b c : World} (h : Keep X a b) (k : Keep Y b c) (hy : ∀ i, Y i → X i ∨ a.heap.size ≤ i) : Keep X a c :=
  ⟨k.os.trans h.os, k.tape.trans h.tape, k.output.trans h.output, Nat.le_trans h.size k.size, fun i hi hn => (k.block i (Nat.lt_of_lt_of_le hi h.size) (fun e => (hy i e).elim hn (by omega))).trans (h.block i hi hn)⟩
theorem Keep.mono {X Y : Nat → Prop} {a b : World} (h : Keep X a b) (hxy : ∀ k, k < a.heap.size → X k → Y k) : Keep Y a b :=
  ⟨h.os, h.tape, h.output, h.size, fun i hi hn => h.block i hi (fun hx => hn (hxy i hi hx))⟩
theorem Keep.of_below {X : Nat → Prop} {w w' : World} (h : Below w.heap.size w w') : Keep X w w' := ⟨h.os, h.tape, h.output, h.size, fun k hk _ => h.block k hk⟩
theorem Keep.of_grown {X : Nat → Prop} {w w' : World} {row : Option Nat} (h : w.grownBy w' row) (hx : ∀ k, row = some k → X k) : Keep X w w' :=
  ⟨h.os, h.tape, h.output, h.size, fun k hk hn => h.block k hk (fun e => hn (hx k e.symm))⟩
theorem Keep.below {X : Nat → Prop} {w w' : World} {n : Nat} (h : Keep X w w') (hn : n ≤ w.heap.size) (hx : ∀ k, X k → n ≤ k) : Below n w w' :=
  ⟨h.os, h.tape, h.output, h.size, fun k hk => h.block k (Nat.lt_of_lt_of_le hk hn) (fun hx' => by have := hx k hx'; omega)⟩
theorem Keep.set {X : Nat → Prop} (w : World) (a : Addr) (v : Value) (hx : X a.block) : Keep X w (w.setCell a v) := Keep.of_grown (grown_set w a v) (fun k e => by cases e; exact hx)
/-- What is owned stays owned. -/
theorem own_keep {X : Nat → Prop} {w w' : World} {base : Nat} {e : TypeId} {size : Nat} {v : Value} {n : Nat} {xs : List Value} (h : w.ownsRow base e size v n xs) (hk : Keep X w w') (hx : ∀ k, v.ownBlock = some k → ¬ X k) : w'.ownsRow base e size v n xs :=
  ⟨h.1, h.2.imp id fun ⟨g, cap, cur, a, b, c, d⟩ => ⟨g, cap, cur, a, b, by rw [hk.block g (lt_of_block c) (hx g (by rw [a]; rfl))]; exact c, d⟩⟩

theorem Rd.keep {X : Nat → Prop} {w w' : World} {x : Value} {l : List UInt8} (h : Rd w x l) (hk : Keep X w w') (hx : l ≠ [] → ∀ k, blk x = some k → ¬ X k) : Rd w' x l := by
  obtain ⟨ao, c, rfl, h1, h2, h3, h4⟩ := h
  refine ⟨ao, c, rfl, h1, h2, h3, fun a ha j u hu => ?_⟩
  subst ha
  have h6 := h4 a rfl j u hu
  have hlt := World.block_lt_of_cell? w _ h6
  rw [World.cell?_of_block (w := w) (a := a.add j) (hk.block _ hlt (by rw [add_block]; exact hx (fun e => by subst e; simp at hu) _ rfl))]
  exact h6
theorem Rws.keep {X : Nat → Prop} {size : Nat} {w w' : World} {x : Value} {L : List (List Value)} (h : Rws size w x L) (hk : Keep X w w') (hx : L ≠ [] → ∀ k, blk x = some k → ¬ X k) : Rws size w' x L := by
  obtain ⟨ao, c, rfl, h1, h2, h3, h5, h4⟩ := h
  refine ⟨ao, c, rfl, h1, h2, h3, h5, fun a ha j u hu => ?_⟩
  subst ha
  have h6 := h4 a rfl j u hu
  have hlt := World.block_lt_of_cell? w _ h6
  rw [World.cell?_of_block (w := w) (a := a.add j) (hk.block _ hlt (by rw [add_block]; exact hx (fun e => by subst e; simp at hu) _ rfl))]
  exact h6
theorem ownBlock_blk (v : Value) : v.ownBlock = blk v := by cases v <;> first | rfl | (rename_i a n c; cases a <;> rfl)

end Go.Proofs.YtdfccaehoodjhaaGreat

set_option linter.unusedVariables false
set_option linter.unusedSimpArgs false
set_option maxRecDepth 100000
namespace Go.Proofs.YtdfccaehoodjhaaGreat
open Go.RowKit Go.Deep

/-- 'append(v, y...)' at a step of a region that draws: bytes, of which there are some. -/
theorem step_bapp {w : World} {ops : Array Oper} {o : Oper} {a : Act} {K : Act → World → Prop} {Q : Exit → Act → World → Prop} {E : Prop} (hgd : o.guard = none) (s x : Operand)
    (ho : o.op = .call { callee := .builtin .append, args := #[s, x], argTypes := #[22, 22] })
    (base : Nat) (v : Value) (n : Nat) (xs : List Value) (hs : a.eval s = v) (hown : w.ownsRow base 5 1 v n xs)
    (y : Value) (l : List UInt8) (hx : a.eval x = y) (hr : Rd w y l) (hl : 0 < l.length) (hn : n + l.length ≤ 140737488355328) (hbase : base ≤ w.heap.size)
    (h : ∀ g cap w', w'.ownsRow base 5 1 (.slice (some ⟨g, 0, none⟩) (n + l.length) cap) (n + l.length) (xs ++ l.map bv) → w.grownBy w' v.ownBlock → (v.ownBlock = some g ∨ g = w.heap.size) → K (a.put o.dst (.slice (some ⟨g, 0, none⟩) (n + l.length) cap)) w') :
    if Region.wanted o (yielded ops a.tmps) = true then Oper.wp Tryz.prog o a w K Q else E := by
  obtain ⟨i0, hi, hz0, hz1, hz2⟩ := info_parts Tryz.info_u8
  obtain ⟨ao, c, rfl, h1, h2, h3, h4⟩ := hr
  cases ao with
  | none => have := h3 rfl; omega
  | some ad =>
    exact step_append_lies w hgd s x 22 ho base 5 i0 (.int .u8 0) 1 1 Tryz.underlying22 hi hz0 hz1 hz2 rfl (by decide) v n xs hs hown ad l.length c (l.map bv) hx (by simp) (h4 ad rfl) (bv_one l) hl
      (by unfold maxLen; omega) (by omega) hbase _ rfl (fun g cap w' a1 a2 a3 _ => h g cap w' a1 a2 a3)

/-- The writer in block a (of the type T) has written l; W0: the world ahead of it; K: blocks besides, and what lies there. -/
def St (T : TypeId) (W0 : World) (K : List (Nat × Obj)) (a : Nat) (w : World) (l : List UInt8) : Prop :=
  ∃ (ao : Option Addr) (c : Nat), w.heap[a]? = some (.cells #[.slice ao l.length c] T (0, 0)) ∧ w.ownsRow W0.heap.size 5 1 (.slice ao l.length c) l.length (l.map bv) ∧ W0.heap.size ≤ a ∧ (Value.slice ao l.length c).ownBlock ≠ some a ∧ Below W0.heap.size W0 w ∧
    ∀ p ∈ K, w.heap[p.1]? = some p.2 ∧ p.1 ≠ a ∧ (Value.slice ao l.length c).ownBlock ≠ some p.1

/-- What stands behind a call that writes bs. -/
def Wrote (T : TypeId) (W0 : World) (K : List (Nat × Obj)) (a : Nat) (l bs : List UInt8) (e : Ending) (w' : World) : Prop := e = .returned (.tuple #[]) ∧ St T W0 K a w' (l ++ bs)

theorem one_cell {w : World} {b : Nat} {u : Value} {t : TypeId} (h : w.heap[b]? = some (.cells #[u] t (0, 0))) : w.cell? ⟨b, 0, none⟩ = some u ∧ w.frozen? ⟨b, 0, none⟩ = false := by
  exact ⟨by simp [World.cell?, h], by simp [World.frozen?, h]⟩

theorem one_set {w : World} {b : Nat} {u x : Value} {t : TypeId} (h : w.heap[b]? = some (.cells #[u] t (0, 0))) : (w.setCell ⟨b, 0, none⟩ x).heap[b]? = some (.cells #[x] t (0, 0)) := by
  have hlt := lt_of_block h
  have h' : w.heap[b] = .cells #[u] t (0, 0) := by simpa [Array.getElem?_eq_getElem hlt] using h
  show (w.heap.modify b _)[b]? = _
  rw [Array.getElem?_eq_getElem (by simpa using hlt), Array.getElem_modify_self, h']
  rfl

theorem gives_rd {w' : World} {v : Value} {B : Nat} {l : List UInt8} (h : w'.ownsRow B 5 1 v l.length (l.map bv)) : ∃ a c, v = .slice a l.length c ∧ Rd w' (.slice a l.length c) l := by
  obtain ⟨ao, c, rfl, _⟩ := Rd.own h
  exact ⟨ao, c, rfl, Rd.own h⟩

theorem St.below {T : TypeId} {W0 w : World} {K : List (Nat × Obj)} {a : Nat} {l : List UInt8} (h : St T W0 K a w l) : Below W0.heap.size W0 w := by
  obtain ⟨_, _, _, _, _, _, h5, _⟩ := h
  exact h5
theorem St.lt {T : TypeId} {W0 w : World} {K : List (Nat × Obj)} {a : Nat} {l : List UInt8} (h : St T W0 K a w l) : a < w.heap.size := by
  obtain ⟨_, _, h1, _⟩ := h
  exact lt_of_block h1

/-- A call that keeps what was there keeps the writer. -/
theorem St.old {T : TypeId} {W0 w w' : World} {K : List (Nat × Obj)} {a : Nat} {l : List UInt8} (h : St T W0 K a w l) (hb : Below w.heap.size w w') : St T W0 K a w' l := by
  obtain ⟨ao, c, h1, h2, h3, h4, h5, h6⟩ := h
  exact ⟨ao, c, (hb.block _ (lt_of_block h1)).trans h1, own_old h2 hb, h3, h4, h5.trans (hb.mono h5.size), fun p hp => ⟨(hb.block _ (lt_of_block (h6 p hp).1)).trans (h6 p hp).1, (h6 p hp).2⟩⟩

/-- A new block is one more that stays. -/
theorem St.box {T : TypeId} {W0 w : World} {K : List (Nat × Obj)} {a : Nat} {l : List UInt8} (h : St T W0 K a w l) (cs : Array Value) (t : TypeId) : St T W0 ((w.heap.size, .cells cs t (0, 0)) :: K) a (w.alloc (.cells cs t)) l := by
  have hlt := h.lt
  obtain ⟨ao, c, h1, h2, h3, h4, h5, h6⟩ := h.old ((Below.refl _ _).alloc (Nat.le_refl _) (.cells cs t))
  obtain ⟨ao', c', h1', h2', -⟩ := h
  have hq := (((Below.refl w.heap.size w).alloc (Nat.le_refl _) (.cells cs t)).block _ (lt_of_block h1')).trans h1'
  rw [h1] at hq
  simp only [Option.some.injEq, Obj.cells.injEq, Array.mk.injEq, List.cons.injEq, and_true, Value.slice.injEq, true_and] at hq
  refine ⟨ao, c, h1, h2, h3, h4, h5, fun p hp => ?_⟩
  rcases List.mem_cons.1 hp with rfl | hp
  · refine ⟨heap_alloc_new w _, by show w.heap.size ≠ a; omega, fun e => ?_⟩
    rw [hq.1, hq.2] at e
    have := (h2'.lt _ e).2
    simp only at this
    omega
  · exact h6 p hp
theorem St.drop {T : TypeId} {W0 w : World} {x : Nat × Obj} {K : List (Nat × Obj)} {a : Nat} {l : List UInt8} (h : St T W0 (x :: K) a w l) : St T W0 K a w l := by
  obtain ⟨ao, c, h1, h2, h3, h4, h5, h6⟩ := h
  exact ⟨ao, c, h1, h2, h3, h4, h5, fun p hp => h6 p (List.mem_cons_of_mem _ hp)⟩
theorem St.at {T : TypeId} {W0 w : World} {b : Nat} {o : Obj} {K : List (Nat × Obj)} {a : Nat} {l : List UInt8} (h : St T W0 ((b, o) :: K) a w l) : w.heap[b]? = some o := by
  obtain ⟨ao, c, h1, h2, h3, h4, h5, h6⟩ := h
  exact (h6 (b, o) List.mem_cons_self).1

/-- What is appended is stored. -/
theorem St.put {T : TypeId} {W0 w w1 : World} {K : List (Nat × Obj)} {a : Nat} {l bs : List UInt8} {ao : Option Addr} {c g cap : Nat} (h1 : w.heap[a]? = some (.cells #[.slice ao l.length c] T (0, 0))) (h2 : w.ownsRow W0.heap.size 5 1 (.slice ao l.length c) l.length (l.map bv))
    (h3 : W0.heap.size ≤ a) (h4 : (Value.slice ao l.length c).ownBlock ≠ some a) (h5 : Below W0.heap.size W0 w) (h6 : ∀ p ∈ K, w.heap[p.1]? = some p.2 ∧ p.1 ≠ a ∧ (Value.slice ao l.length c).ownBlock ≠ some p.1)
    (o : w1.ownsRow W0.heap.size 5 1 (.slice (some ⟨g, 0, none⟩) (l.length + bs.length) cap) (l.length + bs.length) (l.map bv ++ bs.map bv)) (hg : w.grownBy w1 (Value.slice ao l.length c).ownBlock) (hgg : (Value.slice ao l.length c).ownBlock = some g ∨ g = w.heap.size) :
    St T W0 K a (w1.setCell ⟨a, 0, none⟩ (.slice (some ⟨g, 0, none⟩) (l.length + bs.length) cap)) (l ++ bs) := by
  have hk := heap_kept hg h1 (fun e => h4 e.symm)
  have hne : ∀ k, k < w.heap.size → (Value.slice ao l.length c).ownBlock ≠ some k → g ≠ k := by
    rintro k hk hn rfl
    rcases hgg with e | e
    · exact hn e
    · omega
  have hga : g ≠ a := hne a (lt_of_block h1) h4
  have hb1 : Below W0.heap.size W0 w1 := h5.grown hg h5.size (fun k hk => (h2.lt k hk).1)
  refine ⟨some ⟨g, 0, none⟩, cap, ?_, ?_, h3, by simpa [Value.ownBlock] using hga, hb1.setCell (p := ⟨a, 0, none⟩) h3 _, fun p hp => ?_⟩
  · rw [List.length_append]
    exact one_set hk
  · rw [List.length_append, List.map_append]
    exact o.kept (grown_set w1 ⟨a, 0, none⟩ _) (.inr (by simpa [Value.ownBlock] using hga))
  · obtain ⟨q1, q2, q3⟩ := h6 p hp
    have k1 := heap_kept hg q1 (fun e => q3 e.symm)
    refine ⟨heap_kept (grown_set w1 ⟨a, 0, none⟩ _) k1 (by simpa using q2), q2, ?_⟩
    have := hne p.1 (lt_of_block q1) q3
    simpa [Value.ownBlock] using this

set_option maxHeartbeats 4000000 in
theorem wnum_any {W0 w : World} {KK : List (Nat × Obj)} {a : Nat} {l : List UInt8} (h : St 138 W0 KK a w l) (n : Nat) (hn : n < 18446744073709551616) (hl : l.length + (numL n).length ≤ 1000000000000) :
    Calls Tryz.prog 138 #[.pointer (some ⟨a, 0, none⟩), .int .u64 (n : Int)] w (Wrote 138 W0 KK a l (numL n)) := by
  obtain ⟨ao, c, h1, h2, h3, h4, h5, h6⟩ := h
  obtain ⟨bs, hbs⟩ : ∃ bs, bs = numL n := ⟨_, rfl⟩
  have CN : Hid (∀ V, Below w.heap.size w V → Calls Tryz.prog 191 #[.int .u64 (n : Int)] V (Gives 5 V bs)) := hid fun V hV => by rw [hbs]; exact num_any n V (numL_len10 (by omega))
  have HLB : Hid (0 < bs.length ∧ l.length + bs.length ≤ 1000000000000) := hid ⟨by rw [hbs]; exact numL_pos _, by rw [hbs]; exact hl⟩
  rw [← hbs]; clear hbs hl
  obtain ⟨c0, f0⟩ := one_cell h1
  have H1 := hid h1
  have H2 := hid h2
  have H3 := hid h3
  have H4 := hid h4
  have H5 := hid h5
  have HWd : Hid (Below w.heap.size w w.drew) := hid ⟨rfl, rfl, rfl, Nat.le_refl _, fun _ _ => rfl⟩
  have H6 := hid h6
  clear h1 h2 h3 h4 h5 h6
  go_enter Tryz.func138, Tryz.ntmps138
  refine wp_region_noPanic ?_
  refine wp_region_held_drew (S := fun _ => Hid True) (by kernel_rfl) (hid trivial) (fun hHeld => ?_)
  have CNd := hid (CN.out _ HWd.out)
  have d0 : w.drew.cell? ⟨a, 0, none⟩ = some (.slice ao l.length c) := c0
  generalize w.drew = Wd at *
  have HD0 := hid d0
  clear d0 c0 f0
  refine wpAnyH_take (i := 0) (v := (.pointer (some ⟨a, 0, none⟩))) rfl (by kernel_rfl) (by kernel_rfl) (by kernel_rfl) (fun _ _ _ h => (show False from h).elim) ?xyYBwnumany1 ?xhYBwnumany1 ?xrYBwnumany1
  case xhYBwnumany1 => exact hHeld
  case xyYBwnumany1 => exact Or.inl ⟨by rfl, fun W9 hW => by clear hHeld; simp only [List.getElem_toArray, List.getElem_cons_succ, List.getElem_cons_zero]; go_simp⟩
  simp only [Act.put, List.getElem_toArray, List.getElem_cons_succ, List.getElem_cons_zero, List.setIfInBounds_toArray, List.set_cons_succ, List.set_cons_zero]
  refine wpAnyH_take (i := 1) (v := (.pointer (some ⟨a, 0, none⟩))) rfl (by kernel_rfl) (by kernel_rfl) (by kernel_rfl) (fun _ _ _ h => (show False from h).elim) ?xyYBwnumany2 ?xhYBwnumany2 ?xrYBwnumany2
  case xhYBwnumany2 => exact hHeld
  case xyYBwnumany2 => exact Or.inl ⟨by rfl, fun W9 hW => by clear hHeld; simp only [List.getElem_toArray, List.getElem_cons_succ, List.getElem_cons_zero]; go_simp⟩
  simp only [Act.put, List.getElem_toArray, List.getElem_cons_succ, List.getElem_cons_zero, List.setIfInBounds_toArray, List.set_cons_succ, List.set_cons_zero]
  refine wpAnyH_take (i := 2) (v := (.pointer (some ⟨a, 0, none⟩))) rfl (by kernel_rfl) (by kernel_rfl) (by kernel_rfl) (fun _ _ _ h => (show False from h).elim) ?xyYBwnumany3 ?xhYBwnumany3 ?xrYBwnumany3
  case xhYBwnumany3 => exact hHeld
  case xyYBwnumany3 => exact Or.inl ⟨by rfl, fun W9 hW => by clear hHeld; simp only [List.getElem_toArray, List.getElem_cons_succ, List.getElem_cons_zero]; go_simp⟩
  simp only [Act.put, List.getElem_toArray, List.getElem_cons_succ, List.getElem_cons_zero, List.setIfInBounds_toArray, List.set_cons_succ, List.set_cons_zero]
  refine wpAnyH_take (i := 3) (v := (.pointer (some ⟨a, 0, none⟩))) rfl (by kernel_rfl) (by kernel_rfl) (by kernel_rfl) (fun _ _ _ h => (show False from h).elim) ?xyYBwnumany4 ?xhYBwnumany4 ?xrYBwnumany4
  case xhYBwnumany4 => exact hHeld
  case xyYBwnumany4 => exact Or.inl ⟨by rfl, fun W9 hW => by clear hHeld; simp only [List.getElem_toArray, List.getElem_cons_succ, List.getElem_cons_zero]; go_simp⟩
  simp only [Act.put, List.getElem_toArray, List.getElem_cons_succ, List.getElem_cons_zero, List.setIfInBounds_toArray, List.set_cons_succ, List.set_cons_zero]
  refine wpAnyH_take (i := 5) (v := (.int .u64 (n : Int))) rfl (by kernel_rfl) (by kernel_rfl) (by kernel_rfl) (fun _ _ _ h => (show False from h).elim) ?xyYBwnumany5 ?xhYBwnumany5 ?xrYBwnumany5
  case xhYBwnumany5 => exact hHeld
  case xyYBwnumany5 => exact Or.inl ⟨by rfl, fun W9 hW => by clear hHeld; simp only [List.getElem_toArray, List.getElem_cons_succ, List.getElem_cons_zero]; go_simp⟩
  simp only [Act.put, List.getElem_toArray, List.getElem_cons_succ, List.getElem_cons_zero, List.setIfInBounds_toArray, List.set_cons_succ, List.set_cons_zero]
  refine wpAnyH_ready (rs := [4, 6]) (by kernel_rfl) (by simp) ?_
  refine AllReadyH.cons rfl (fun K hK => ?_) (AllReadyH.cons rfl (fun K hK => ?_) AllReadyH.nil)
  · have d0 := HD0.out
    go_simp
    refine hK.out _ _ (hid trivial) (fun hHeld => ?_)
    clear hK K d0
    refine wpAnyH_ready (rs := [6]) (by kernel_rfl) (by simp) ?_
    refine AllReadyH.cons rfl (fun K hK => ?_) AllReadyH.nil
    go_simp
    go_wp2_with (first | (go_at_call 191; refine CNd.out.mono ?_; rintro en wT ⟨vT, rfl, hoT, hbT⟩; obtain ⟨ta, tc, rfl, hrT⟩ := gives_rd hoT; have HRT := hid hrT; have HBT := hid (HWd.out.trans (hbT.mono HWd.out.size)); have hdT := (World.cell?_of_block (w := Wd) (w' := wT) (a := ⟨a, 0, none⟩) (hbT.block _ (World.block_lt_of_cell? _ _ HD0.out))).trans HD0.out; have HDT := hid hdT; clear hbT hrT hoT hdT))
    refine hK.out _ _ (hid trivial) (fun hHeld => ?_)
    clear hK K
    have H1T : Hid (wT.heap[a]? = some (.cells #[.slice ao l.length c] 138 (0, 0))) := hid ((HBT.out.block _ (lt_of_block H1.out)).trans H1.out)
    have H2T := hid (own_old H2.out HBT.out)
    have H5T : Hid (Below W0.heap.size W0 wT) := hid (H5.out.trans (HBT.out.mono H5.out.size))
    have H6T : Hid (∀ p ∈ KK, wT.heap[p.1]? = some p.2 ∧ p.1 ≠ a ∧ (Value.slice ao l.length c).ownBlock ≠ some p.1) := hid fun p hp => ⟨(HBT.out.block _ (lt_of_block (H6.out p hp).1)).trans (H6.out p hp).1, (H6.out p hp).2⟩
    refine wpAnyH_ready (rs := [7]) (by kernel_rfl) (by simp) ?_
    refine AllReadyH.cons rfl (fun K hK => ?_) AllReadyH.nil
    refine step_bapp (by rfl) (.tmp 8) (.tmp 10) (by rfl) W0.heap.size _ _ _ (by rfl) H2T.out _ _ (by rfl) HRT.out HLB.out.1 (by have := HLB.out.2; omega) H5T.out.size (fun g cap w' o5 g5 gg5 => ?_)
    have HK := hid (heap_kept g5 H1T.out (fun e => H4.out e.symm))
    have HP := hid (St.put H1T.out H2T.out H3.out H4.out H5T.out H6T.out o5 g5 gg5)
    clear o5 g5 gg5
    refine hK.out _ _ (hid trivial) (fun hHeld => ?_)
    clear hK K
    simp only [Act.put, List.getElem_toArray, List.getElem_cons_succ, List.getElem_cons_zero, List.setIfInBounds_toArray, List.set_cons_succ, List.set_cons_zero]
    refine wpAnyH_take (i := 8) (v := (.pointer (some ⟨a, 0, none⟩))) rfl (by kernel_rfl) (by kernel_rfl) (by kernel_rfl) (fun _ _ _ h => (show False from h).elim) ?xyYBwnumany6 ?xhYBwnumany6 ?xrYBwnumany6
    case xhYBwnumany6 => exact hHeld
    case xyYBwnumany6 => exact Or.inl ⟨by rfl, fun W9 hW => by clear hHeld; simp only [List.getElem_toArray, List.getElem_cons_succ, List.getElem_cons_zero]; go_simp⟩
    simp only [Act.put, List.getElem_toArray, List.getElem_cons_succ, List.getElem_cons_zero, List.setIfInBounds_toArray, List.set_cons_succ, List.set_cons_zero]
    refine wpAnyH_take (i := 9) (v := (.pointer (some ⟨a, 0, none⟩))) rfl (by kernel_rfl) (by kernel_rfl) (by kernel_rfl) (fun _ _ _ h => (show False from h).elim) ?xyYBwnumany7 ?xhYBwnumany7 ?xrYBwnumany7
    case xhYBwnumany7 => exact hHeld
    case xyYBwnumany7 => exact Or.inl ⟨by rfl, fun W9 hW => by clear hHeld; simp only [List.getElem_toArray, List.getElem_cons_succ, List.getElem_cons_zero]; go_simp⟩
    simp only [Act.put, List.getElem_toArray, List.getElem_cons_succ, List.getElem_cons_zero, List.setIfInBounds_toArray, List.set_cons_succ, List.set_cons_zero]
    obtain ⟨k0, k1⟩ := one_cell HK.out
    refine wpAnyH_ready (rs := [10]) (by kernel_rfl) (by simp) ?_
    refine AllReadyH.cons rfl (fun K hK => ?_) AllReadyH.nil
    go_simp
    refine hK.out _ _ (hid trivial) (fun hHeld => ?_)
    clear hK K
    refine wpAnyH_done (by kernel_rfl) ?_ _
    refine NoPanic.normal ?_
    go_wp2_with fail
    go_end0
    exact ⟨rfl, HP.out⟩
  · go_simp
    go_wp2_with (first | (go_at_call 191; refine CNd.out.mono ?_; rintro en wT ⟨vT, rfl, hoT, hbT⟩; obtain ⟨ta, tc, rfl, hrT⟩ := gives_rd hoT; have HRT := hid hrT; have HBT := hid (HWd.out.trans (hbT.mono HWd.out.size)); have hdT := (World.cell?_of_block (w := Wd) (w' := wT) (a := ⟨a, 0, none⟩) (hbT.block _ (World.block_lt_of_cell? _ _ HD0.out))).trans HD0.out; have HDT := hid hdT; clear hbT hrT hoT hdT))
    refine hK.out _ _ (hid trivial) (fun hHeld => ?_)
    clear hK K
    have d1 := HDT.out
    refine wpAnyH_ready (rs := [4]) (by kernel_rfl) (by simp) ?_
    refine AllReadyH.cons rfl (fun K hK => ?_) AllReadyH.nil
    go_simp
    refine hK.out _ _ (hid trivial) (fun hHeld => ?_)
    clear hK K
    clear d1
    have H1T : Hid (wT.heap[a]? = some (.cells #[.slice ao l.length c] 138 (0, 0))) := hid ((HBT.out.block _ (lt_of_block H1.out)).trans H1.out)
    have H2T := hid (own_old H2.out HBT.out)
    have H5T : Hid (Below W0.heap.size W0 wT) := hid (H5.out.trans (HBT.out.mono H5.out.size))
    have H6T : Hid (∀ p ∈ KK, wT.heap[p.1]? = some p.2 ∧ p.1 ≠ a ∧ (Value.slice ao l.length c).ownBlock ≠ some p.1) := hid fun p hp => ⟨(HBT.out.block _ (lt_of_block (H6.out p hp).1)).trans (H6.out p hp).1, (H6.out p hp).2⟩
    refine wpAnyH_ready (rs := [7]) (by kernel_rfl) (by simp) ?_
    refine AllReadyH.cons rfl (fun K hK => ?_) AllReadyH.nil
    refine step_bapp (by rfl) (.tmp 8) (.tmp 10) (by rfl) W0.heap.size _ _ _ (by rfl) H2T.out _ _ (by rfl) HRT.out HLB.out.1 (by have := HLB.out.2; omega) H5T.out.size (fun g cap w' o5 g5 gg5 => ?_)
    have HK := hid (heap_kept g5 H1T.out (fun e => H4.out e.symm))
    have HP := hid (St.put H1T.out H2T.out H3.out H4.out H5T.out H6T.out o5 g5 gg5)
    clear o5 g5 gg5
    refine hK.out _ _ (hid trivial) (fun hHeld => ?_)
    clear hK K
    simp only [Act.put, List.getElem_toArray, List.getElem_cons_succ, List.getElem_cons_zero, List.setIfInBounds_toArray, List.set_cons_succ, List.set_cons_zero]
    refine wpAnyH_take (i := 8) (v := (.pointer (some ⟨a, 0, none⟩))) rfl (by kernel_rfl) (by kernel_rfl) (by kernel_rfl) (fun _ _ _ h => (show False from h).elim) ?xyYBwnumany8 ?xhYBwnumany8 ?xrYBwnumany8
    case xhYBwnumany8 => exact hHeld
    case xyYBwnumany8 => exact Or.inl ⟨by rfl, fun W9 hW => by clear hHeld; simp only [List.getElem_toArray, List.getElem_cons_succ, List.getElem_cons_zero]; go_simp⟩
    simp only [Act.put, List.getElem_toArray, List.getElem_cons_succ, List.getElem_cons_zero, List.setIfInBounds_toArray, List.set_cons_succ, List.set_cons_zero]
    refine wpAnyH_take (i := 9) (v := (.pointer (some ⟨a, 0, none⟩))) rfl (by kernel_rfl) (by kernel_rfl) (by kernel_rfl) (fun _ _ _ h => (show False from h).elim) ?xyYBwnumany9 ?xhYBwnumany9 ?xrYBwnumany9
    case xhYBwnumany9 => exact hHeld
    case xyYBwnumany9 => exact Or.inl ⟨by rfl, fun W9 hW => by clear hHeld; simp only [List.getElem_toArray, List.getElem_cons_succ, List.getElem_cons_zero]; go_simp⟩
    simp only [Act.put, List.getElem_toArray, List.getElem_cons_succ, List.getElem_cons_zero, List.setIfInBounds_toArray, List.set_cons_succ, List.set_cons_zero]
    obtain ⟨k0, k1⟩ := one_cell HK.out
    refine wpAnyH_ready (rs := [10]) (by kernel_rfl) (by simp) ?_
    refine AllReadyH.cons rfl (fun K hK => ?_) AllReadyH.nil
    go_simp
    refine hK.out _ _ (hid trivial) (fun hHeld => ?_)
    clear hK K
    refine wpAnyH_done (by kernel_rfl) ?_ _
    refine NoPanic.normal ?_
    go_wp2_with fail
    go_end0
    exact ⟨rfl, HP.out⟩

set_option maxHeartbeats 4000000 in
theorem wsigned_any {W0 w : World} {KK : List (Nat × Obj)} {a : Nat} {l : List UInt8} (h : St 138 W0 KK a w l) (z : Int) (hz : (Lit.int .i64 z).wf = true) (hl : l.length + (numL (zig z)).length ≤ 1000000000000) :
    Calls Tryz.prog 193 #[.pointer (some ⟨a, 0, none⟩), .int .i64 z] w (Wrote 138 W0 KK a l (numL (zig z))) := by
  obtain ⟨ao, c, h1, h2, h3, h4, h5, h6⟩ := h
  obtain ⟨bs, hbs⟩ : ∃ bs, bs = numL (zig z) := ⟨_, rfl⟩
  have CN : Hid (∀ V, Below w.heap.size w V → Calls Tryz.prog 212 #[.int .i64 z] V (Gives 5 V bs)) := hid fun V hV => by rw [hbs]; exact int_any z V hz
  have HLB : Hid (0 < bs.length ∧ l.length + bs.length ≤ 1000000000000) := hid ⟨by rw [hbs]; exact numL_pos _, by rw [hbs]; exact hl⟩
  rw [← hbs]; clear hbs hl
  obtain ⟨c0, f0⟩ := one_cell h1
  have H1 := hid h1
  have H2 := hid h2
  have H3 := hid h3
  have H4 := hid h4
  have H5 := hid h5
  have HWd : Hid (Below w.heap.size w w.drew) := hid ⟨rfl, rfl, rfl, Nat.le_refl _, fun _ _ => rfl⟩
  have H6 := hid h6
  clear h1 h2 h3 h4 h5 h6
  go_enter Tryz.func193, Tryz.ntmps193
  refine wp_region_noPanic ?_
  refine wp_region_held_drew (S := fun _ => Hid True) (by kernel_rfl) (hid trivial) (fun hHeld => ?_)
  have CNd := hid (CN.out _ HWd.out)
  have d0 : w.drew.cell? ⟨a, 0, none⟩ = some (.slice ao l.length c) := c0
  generalize w.drew = Wd at *
  have HD0 := hid d0
  clear d0 c0 f0
  refine wpAnyH_take (i := 0) (v := (.pointer (some ⟨a, 0, none⟩))) rfl (by kernel_rfl) (by kernel_rfl) (by kernel_rfl) (fun _ _ _ h => (show False from h).elim) ?xyYBwsignedany1 ?xhYBwsignedany1 ?xrYBwsignedany1
  case xhYBwsignedany1 => exact hHeld
  case xyYBwsignedany1 => exact Or.inl ⟨by rfl, fun W9 hW => by clear hHeld; simp only [List.getElem_toArray, List.getElem_cons_succ, List.getElem_cons_zero]; go_simp⟩
  simp only [Act.put, List.getElem_toArray, List.getElem_cons_succ, List.getElem_cons_zero, List.setIfInBounds_toArray, List.set_cons_succ, List.set_cons_zero]
  refine wpAnyH_take (i := 1) (v := (.pointer (some ⟨a, 0, none⟩))) rfl (by kernel_rfl) (by kernel_rfl) (by kernel_rfl) (fun _ _ _ h => (show False from h).elim) ?xyYBwsignedany2 ?xhYBwsignedany2 ?xrYBwsignedany2
  case xhYBwsignedany2 => exact hHeld
  case xyYBwsignedany2 => exact Or.inl ⟨by rfl, fun W9 hW => by clear hHeld; simp only [List.getElem_toArray, List.getElem_cons_succ, List.getElem_cons_zero]; go_simp⟩
  simp only [Act.put, List.getElem_toArray, List.getElem_cons_succ, List.getElem_cons_zero, List.setIfInBounds_toArray, List.set_cons_succ, List.set_cons_zero]
  refine wpAnyH_take (i := 2) (v := (.pointer (some ⟨a, 0, none⟩))) rfl (by kernel_rfl) (by kernel_rfl) (by kernel_rfl) (fun _ _ _ h => (show False from h).elim) ?xyYBwsignedany3 ?xhYBwsignedany3 ?xrYBwsignedany3
  case xhYBwsignedany3 => exact hHeld
  case xyYBwsignedany3 => exact Or.inl ⟨by rfl, fun W9 hW => by clear hHeld; simp only [List.getElem_toArray, List.getElem_cons_succ, List.getElem_cons_zero]; go_simp⟩
  simp only [Act.put, List.getElem_toArray, List.getElem_cons_succ, List.getElem_cons_zero, List.setIfInBounds_toArray, List.set_cons_succ, List.set_cons_zero]
  refine wpAnyH_take (i := 3) (v := (.pointer (some ⟨a, 0, none⟩))) rfl (by kernel_rfl) (by kernel_rfl) (by kernel_rfl) (fun _ _ _ h => (show False from h).elim) ?xyYBwsignedany4 ?xhYBwsignedany4 ?xrYBwsignedany4
  case xhYBwsignedany4 => exact hHeld
  case xyYBwsignedany4 => exact Or.inl ⟨by rfl, fun W9 hW => by clear hHeld; simp only [List.getElem_toArray, List.getElem_cons_succ, List.getElem_cons_zero]; go_simp⟩
  simp only [Act.put, List.getElem_toArray, List.getElem_cons_succ, List.getElem_cons_zero, List.setIfInBounds_toArray, List.set_cons_succ, List.set_cons_zero]
  refine wpAnyH_take (i := 5) (v := (.int .i64 z)) rfl (by kernel_rfl) (by kernel_rfl) (by kernel_rfl) (fun _ _ _ h => (show False from h).elim) ?xyYBwsignedany5 ?xhYBwsignedany5 ?xrYBwsignedany5
  case xhYBwsignedany5 => exact hHeld
  case xyYBwsignedany5 => exact Or.inl ⟨by rfl, fun W9 hW => by clear hHeld; simp only [List.getElem_toArray, List.getElem_cons_succ, List.getElem_cons_zero]; go_simp⟩
  simp only [Act.put, List.getElem_toArray, List.getElem_cons_succ, List.getElem_cons_zero, List.setIfInBounds_toArray, List.set_cons_succ, List.set_cons_zero]
  refine wpAnyH_ready (rs := [4, 6]) (by kernel_rfl) (by simp) ?_
  refine AllReadyH.cons rfl (fun K hK => ?_) (AllReadyH.cons rfl (fun K hK => ?_) AllReadyH.nil)
  · have d0 := HD0.out
    go_simp
    refine hK.out _ _ (hid trivial) (fun hHeld => ?_)
    clear hK K d0
    refine wpAnyH_ready (rs := [6]) (by kernel_rfl) (by simp) ?_
    refine AllReadyH.cons rfl (fun K hK => ?_) AllReadyH.nil
    go_simp
    go_wp2_with (first | (go_at_call 212; refine CNd.out.mono ?_; rintro en wT ⟨vT, rfl, hoT, hbT⟩; obtain ⟨ta, tc, rfl, hrT⟩ := gives_rd hoT; have HRT := hid hrT; have HBT := hid (HWd.out.trans (hbT.mono HWd.out.size)); have hdT := (World.cell?_of_block (w := Wd) (w' := wT) (a := ⟨a, 0, none⟩) (hbT.block _ (World.block_lt_of_cell? _ _ HD0.out))).trans HD0.out; have HDT := hid hdT; clear hbT hrT hoT hdT))
    refine hK.out _ _ (hid trivial) (fun hHeld => ?_)
    clear hK K
    have H1T : Hid (wT.heap[a]? = some (.cells #[.slice ao l.length c] 138 (0, 0))) := hid ((HBT.out.block _ (lt_of_block H1.out)).trans H1.out)
    have H2T := hid (own_old H2.out HBT.out)
    have H5T : Hid (Below W0.heap.size W0 wT) := hid (H5.out.trans (HBT.out.mono H5.out.size))
    have H6T : Hid (∀ p ∈ KK, wT.heap[p.1]? = some p.2 ∧ p.1 ≠ a ∧ (Value.slice ao l.length c).ownBlock ≠ some p.1) := hid fun p hp => ⟨(HBT.out.block _ (lt_of_block (H6.out p hp).1)).trans (H6.out p hp).1, (H6.out p hp).2⟩
    refine wpAnyH_ready (rs := [7]) (by kernel_rfl) (by simp) ?_
    refine AllReadyH.cons rfl (fun K hK => ?_) AllReadyH.nil
    refine step_bapp (by rfl) (.tmp 8) (.tmp 10) (by rfl) W0.heap.size _ _ _ (by rfl) H2T.out _ _ (by rfl) HRT.out HLB.out.1 (by have := HLB.out.2; omega) H5T.out.size (fun g cap w' o5 g5 gg5 => ?_)
    have HK := hid (heap_kept g5 H1T.out (fun e => H4.out e.symm))
    have HP := hid (St.put H1T.out H2T.out H3.out H4.out H5T.out H6T.out o5 g5 gg5)
    clear o5 g5 gg5
    refine hK.out _ _ (hid trivial) (fun hHeld => ?_)
    clear hK K
    simp only [Act.put, List.getElem_toArray, List.getElem_cons_succ, List.getElem_cons_zero, List.setIfInBounds_toArray, List.set_cons_succ, List.set_cons_zero]
    refine wpAnyH_take (i := 8) (v := (.pointer (some ⟨a, 0, none⟩))) rfl (by kernel_rfl) (by kernel_rfl) (by kernel_rfl) (fun _ _ _ h => (show False from h).elim) ?xyYBwsignedany6 ?xhYBwsignedany6 ?xrYBwsignedany6
    case xhYBwsignedany6 => exact hHeld
    case xyYBwsignedany6 => exact Or.inl ⟨by rfl, fun W9 hW => by clear hHeld; simp only [List.getElem_toArray, List.getElem_cons_succ, List.getElem_cons_zero]; go_simp⟩
    simp only [Act.put, List.getElem_toArray, List.getElem_cons_succ, List.getElem_cons_zero, List.setIfInBounds_toArray, List.set_cons_succ, List.set_cons_zero]
    refine wpAnyH_take (i := 9) (v := (.pointer (some ⟨a, 0, none⟩))) rfl (by kernel_rfl) (by kernel_rfl) (by kernel_rfl) (fun _ _ _ h => (show False from h).elim) ?xyYBwsignedany7 ?xhYBwsignedany7 ?xrYBwsignedany7
    case xhYBwsignedany7 => exact hHeld
    case xyYBwsignedany7 => exact Or.inl ⟨by rfl, fun W9 hW => by clear hHeld; simp only [List.getElem_toArray, List.getElem_cons_succ, List.getElem_cons_zero]; go_simp⟩
    simp only [Act.put, List.getElem_toArray, List.getElem_cons_succ, List.getElem_cons_zero, List.setIfInBounds_toArray, List.set_cons_succ, List.set_cons_zero]
    obtain ⟨k0, k1⟩ := one_cell HK.out
    refine wpAnyH_ready (rs := [10]) (by kernel_rfl) (by simp) ?_
    refine AllReadyH.cons rfl (fun K hK => ?_) AllReadyH.nil
    go_simp
    refine hK.out _ _ (hid trivial) (fun hHeld => ?_)
    clear hK K
    refine wpAnyH_done (by kernel_rfl) ?_ _
    refine NoPanic.normal ?_
    go_wp2_with fail
    go_end0
    exact ⟨rfl, HP.out⟩
  · go_simp
    go_wp2_with (first | (go_at_call 212; refine CNd.out.mono ?_; rintro en wT ⟨vT, rfl, hoT, hbT⟩; obtain ⟨ta, tc, rfl, hrT⟩ := gives_rd hoT; have HRT := hid hrT; have HBT := hid (HWd.out.trans (hbT.mono HWd.out.size)); have hdT := (World.cell?_of_block (w := Wd) (w' := wT) (a := ⟨a, 0, none⟩) (hbT.block _ (World.block_lt_of_cell? _ _ HD0.out))).trans HD0.out; have HDT := hid hdT; clear hbT hrT hoT hdT))
    refine hK.out _ _ (hid trivial) (fun hHeld => ?_)
    clear hK K
    have d1 := HDT.out
    refine wpAnyH_ready (rs := [4]) (by kernel_rfl) (by simp) ?_
    refine AllReadyH.cons rfl (fun K hK => ?_) AllReadyH.nil
    go_simp
    refine hK.out _ _ (hid trivial) (fun hHeld => ?_)
    clear hK K
    clear d1
    have H1T : Hid (wT.heap[a]? = some (.cells #[.slice ao l.length c] 138 (0, 0))) := hid ((HBT.out.block _ (lt_of_block H1.out)).trans H1.out)
    have H2T := hid (own_old H2.out HBT.out)
    have H5T : Hid (Below W0.heap.size W0 wT) := hid (H5.out.trans (HBT.out.mono H5.out.size))
    have H6T : Hid (∀ p ∈ KK, wT.heap[p.1]? = some p.2 ∧ p.1 ≠ a ∧ (Value.slice ao l.length c).ownBlock ≠ some p.1) := hid fun p hp => ⟨(HBT.out.block _ (lt_of_block (H6.out p hp).1)).trans (H6.out p hp).1, (H6.out p hp).2⟩
    refine wpAnyH_ready (rs := [7]) (by kernel_rfl) (by simp) ?_
    refine AllReadyH.cons rfl (fun K hK => ?_) AllReadyH.nil
    refine step_bapp (by rfl) (.tmp 8) (.tmp 10) (by rfl) W0.heap.size _ _ _ (by rfl) H2T.out _ _ (by rfl) HRT.out HLB.out.1 (by have := HLB.out.2; omega) H5T.out.size (fun g cap w' o5 g5 gg5 => ?_)
    have HK := hid (heap_kept g5 H1T.out (fun e => H4.out e.symm))
    have HP := hid (St.put H1T.out H2T.out H3.out H4.out H5T.out H6T.out o5 g5 gg5)
    clear o5 g5 gg5
    refine hK.out _ _ (hid trivial) (fun hHeld => ?_)
    clear hK K
    simp only [Act.put, List.getElem_toArray, List.getElem_cons_succ, List.getElem_cons_zero, List.setIfInBounds_toArray, List.set_cons_succ, List.set_cons_zero]
    refine wpAnyH_take (i := 8) (v := (.pointer (some ⟨a, 0, none⟩))) rfl (by kernel_rfl) (by kernel_rfl) (by kernel_rfl) (fun _ _ _ h => (show False from h).elim) ?xyYBwsignedany8 ?xhYBwsignedany8 ?xrYBwsignedany8
    case xhYBwsignedany8 => exact hHeld
    case xyYBwsignedany8 => exact Or.inl ⟨by rfl, fun W9 hW => by clear hHeld; simp only [List.getElem_toArray, List.getElem_cons_succ, List.getElem_cons_zero]; go_simp⟩
    simp only [Act.put, List.getElem_toArray, List.getElem_cons_succ, List.getElem_cons_zero, List.setIfInBounds_toArray, List.set_cons_succ, List.set_cons_zero]
    refine wpAnyH_take (i := 9) (v := (.pointer (some ⟨a, 0, none⟩))) rfl (by kernel_rfl) (by kernel_rfl) (by kernel_rfl) (fun _ _ _ h => (show False from h).elim) ?xyYBwsignedany9 ?xhYBwsignedany9 ?xrYBwsignedany9
    case xhYBwsignedany9 => exact hHeld
    case xyYBwsignedany9 => exact Or.inl ⟨by rfl, fun W9 hW => by clear hHeld; simp only [List.getElem_toArray, List.getElem_cons_succ, List.getElem_cons_zero]; go_simp⟩
    simp only [Act.put, List.getElem_toArray, List.getElem_cons_succ, List.getElem_cons_zero, List.setIfInBounds_toArray, List.set_cons_succ, List.set_cons_zero]
    obtain ⟨k0, k1⟩ := one_cell HK.out
    refine wpAnyH_ready (rs := [10]) (by kernel_rfl) (by simp) ?_
    refine AllReadyH.cons rfl (fun K hK => ?_) AllReadyH.nil
    go_simp
    refine hK.out _ _ (hid trivial) (fun hHeld => ?_)
    clear hK K
    refine wpAnyH_done (by kernel_rfl) ?_ _
    refine NoPanic.normal ?_
    go_wp2_with fail
    go_end0
    exact ⟨rfl, HP.out⟩

set_option maxHeartbeats 4000000 in
theorem wdata_any {W0 w : World} {KK : List (Nat × Obj)} {a : Nat} {l : List UInt8} (h : St 138 W0 KK a w l) (x : Value) (m : List UInt8) (hx : Rd w x m) (hm : m.length ≤ 140737488355300) (hl : l.length + (textL m).length ≤ 1000000000000) :
    Calls Tryz.prog 139 #[.pointer (some ⟨a, 0, none⟩), x] w (Wrote 138 W0 KK a l (textL m)) := by
  obtain ⟨ao, c, h1, h2, h3, h4, h5, h6⟩ := h
  obtain ⟨bs, hbs⟩ : ∃ bs, bs = textL m := ⟨_, rfl⟩
  have CN : Hid (∀ V, Below w.heap.size w V → Calls Tryz.prog 192 #[x] V (Gives 5 V bs)) := hid fun V hV => by rw [hbs]; exact text_any x m V (hx.old hV) hm
  have HLB : Hid (0 < bs.length ∧ l.length + bs.length ≤ 1000000000000) := hid ⟨by rw [hbs]; unfold textL; rw [List.length_append]; have := numL_pos m.length; omega, by rw [hbs]; exact hl⟩
  rw [← hbs]; clear hbs hl
  obtain ⟨c0, f0⟩ := one_cell h1
  have H1 := hid h1
  have H2 := hid h2
  have H3 := hid h3
  have H4 := hid h4
  have H5 := hid h5
  have HWd : Hid (Below w.heap.size w w.drew) := hid ⟨rfl, rfl, rfl, Nat.le_refl _, fun _ _ => rfl⟩
  have H6 := hid h6
  clear h1 h2 h3 h4 h5 h6
  go_enter Tryz.func139, Tryz.ntmps139
  refine wp_region_noPanic ?_
  refine wp_region_held_drew (S := fun _ => Hid True) (by kernel_rfl) (hid trivial) (fun hHeld => ?_)
  have CNd := hid (CN.out _ HWd.out)
  have d0 : w.drew.cell? ⟨a, 0, none⟩ = some (.slice ao l.length c) := c0
  generalize w.drew = Wd at *
  have HD0 := hid d0
  clear d0 c0 f0
  refine wpAnyH_take (i := 0) (v := (.pointer (some ⟨a, 0, none⟩))) rfl (by kernel_rfl) (by kernel_rfl) (by kernel_rfl) (fun _ _ _ h => (show False from h).elim) ?xyYBwdataany1 ?xhYBwdataany1 ?xrYBwdataany1
  case xhYBwdataany1 => exact hHeld
  case xyYBwdataany1 => exact Or.inl ⟨by rfl, fun W9 hW => by clear hHeld; simp only [List.getElem_toArray, List.getElem_cons_succ, List.getElem_cons_zero]; go_simp⟩
  simp only [Act.put, List.getElem_toArray, List.getElem_cons_succ, List.getElem_cons_zero, List.setIfInBounds_toArray, List.set_cons_succ, List.set_cons_zero]
  refine wpAnyH_take (i := 1) (v := (.pointer (some ⟨a, 0, none⟩))) rfl (by kernel_rfl) (by kernel_rfl) (by kernel_rfl) (fun _ _ _ h => (show False from h).elim) ?xyYBwdataany2 ?xhYBwdataany2 ?xrYBwdataany2
  case xhYBwdataany2 => exact hHeld
  case xyYBwdataany2 => exact Or.inl ⟨by rfl, fun W9 hW => by clear hHeld; simp only [List.getElem_toArray, List.getElem_cons_succ, List.getElem_cons_zero]; go_simp⟩
  simp only [Act.put, List.getElem_toArray, List.getElem_cons_succ, List.getElem_cons_zero, List.setIfInBounds_toArray, List.set_cons_succ, List.set_cons_zero]
  refine wpAnyH_take (i := 2) (v := (.pointer (some ⟨a, 0, none⟩))) rfl (by kernel_rfl) (by kernel_rfl) (by kernel_rfl) (fun _ _ _ h => (show False from h).elim) ?xyYBwdataany3 ?xhYBwdataany3 ?xrYBwdataany3
  case xhYBwdataany3 => exact hHeld
  case xyYBwdataany3 => exact Or.inl ⟨by rfl, fun W9 hW => by clear hHeld; simp only [List.getElem_toArray, List.getElem_cons_succ, List.getElem_cons_zero]; go_simp⟩
  simp only [Act.put, List.getElem_toArray, List.getElem_cons_succ, List.getElem_cons_zero, List.setIfInBounds_toArray, List.set_cons_succ, List.set_cons_zero]
  refine wpAnyH_take (i := 3) (v := (.pointer (some ⟨a, 0, none⟩))) rfl (by kernel_rfl) (by kernel_rfl) (by kernel_rfl) (fun _ _ _ h => (show False from h).elim) ?xyYBwdataany4 ?xhYBwdataany4 ?xrYBwdataany4
  case xhYBwdataany4 => exact hHeld
  case xyYBwdataany4 => exact Or.inl ⟨by rfl, fun W9 hW => by clear hHeld; simp only [List.getElem_toArray, List.getElem_cons_succ, List.getElem_cons_zero]; go_simp⟩
  simp only [Act.put, List.getElem_toArray, List.getElem_cons_succ, List.getElem_cons_zero, List.setIfInBounds_toArray, List.set_cons_succ, List.set_cons_zero]
  refine wpAnyH_take (i := 5) (v := (x)) rfl (by kernel_rfl) (by kernel_rfl) (by kernel_rfl) (fun _ _ _ h => (show False from h).elim) ?xyYBwdataany5 ?xhYBwdataany5 ?xrYBwdataany5
  case xhYBwdataany5 => exact hHeld
  case xyYBwdataany5 => exact Or.inl ⟨by rfl, fun W9 hW => by clear hHeld; simp only [List.getElem_toArray, List.getElem_cons_succ, List.getElem_cons_zero]; go_simp⟩
  simp only [Act.put, List.getElem_toArray, List.getElem_cons_succ, List.getElem_cons_zero, List.setIfInBounds_toArray, List.set_cons_succ, List.set_cons_zero]
  refine wpAnyH_ready (rs := [4, 6]) (by kernel_rfl) (by simp) ?_
  refine AllReadyH.cons rfl (fun K hK => ?_) (AllReadyH.cons rfl (fun K hK => ?_) AllReadyH.nil)
  · have d0 := HD0.out
    go_simp
    refine hK.out _ _ (hid trivial) (fun hHeld => ?_)
    clear hK K d0
    refine wpAnyH_ready (rs := [6]) (by kernel_rfl) (by simp) ?_
    refine AllReadyH.cons rfl (fun K hK => ?_) AllReadyH.nil
    go_simp
    go_wp2_with (first | (go_at_call 192; refine CNd.out.mono ?_; rintro en wT ⟨vT, rfl, hoT, hbT⟩; obtain ⟨ta, tc, rfl, hrT⟩ := gives_rd hoT; have HRT := hid hrT; have HBT := hid (HWd.out.trans (hbT.mono HWd.out.size)); have hdT := (World.cell?_of_block (w := Wd) (w' := wT) (a := ⟨a, 0, none⟩) (hbT.block _ (World.block_lt_of_cell? _ _ HD0.out))).trans HD0.out; have HDT := hid hdT; clear hbT hrT hoT hdT))
    refine hK.out _ _ (hid trivial) (fun hHeld => ?_)
    clear hK K
    have H1T : Hid (wT.heap[a]? = some (.cells #[.slice ao l.length c] 138 (0, 0))) := hid ((HBT.out.block _ (lt_of_block H1.out)).trans H1.out)
    have H2T := hid (own_old H2.out HBT.out)
    have H5T : Hid (Below W0.heap.size W0 wT) := hid (H5.out.trans (HBT.out.mono H5.out.size))
    have H6T : Hid (∀ p ∈ KK, wT.heap[p.1]? = some p.2 ∧ p.1 ≠ a ∧ (Value.slice ao l.length c).ownBlock ≠ some p.1) := hid fun p hp => ⟨(HBT.out.block _ (lt_of_block (H6.out p hp).1)).trans (H6.out p hp).1, (H6.out p hp).2⟩
    refine wpAnyH_ready (rs := [7]) (by kernel_rfl) (by simp) ?_
    refine AllReadyH.cons rfl (fun K hK => ?_) AllReadyH.nil
    refine step_bapp (by rfl) (.tmp 8) (.tmp 10) (by rfl) W0.heap.size _ _ _ (by rfl) H2T.out _ _ (by rfl) HRT.out HLB.out.1 (by have := HLB.out.2; omega) H5T.out.size (fun g cap w' o5 g5 gg5 => ?_)
    have HK := hid (heap_kept g5 H1T.out (fun e => H4.out e.symm))
    have HP := hid (St.put H1T.out H2T.out H3.out H4.out H5T.out H6T.out o5 g5 gg5)
    clear o5 g5 gg5
    refine hK.out _ _ (hid trivial) (fun hHeld => ?_)
    clear hK K
    simp only [Act.put, List.getElem_toArray, List.getElem_cons_succ, List.getElem_cons_zero, List.setIfInBounds_toArray, List.set_cons_succ, List.set_cons_zero]
    refine wpAnyH_take (i := 8) (v := (.pointer (some ⟨a, 0, none⟩))) rfl (by kernel_rfl) (by kernel_rfl) (by kernel_rfl) (fun _ _ _ h => (show False from h).elim) ?xyYBwdataany6 ?xhYBwdataany6 ?xrYBwdataany6
    case xhYBwdataany6 => exact hHeld
    case xyYBwdataany6 => exact Or.inl ⟨by rfl, fun W9 hW => by clear hHeld; simp only [List.getElem_toArray, List.getElem_cons_succ, List.getElem_cons_zero]; go_simp⟩
    simp only [Act.put, List.getElem_toArray, List.getElem_cons_succ, List.getElem_cons_zero, List.setIfInBounds_toArray, List.set_cons_succ, List.set_cons_zero]
    refine wpAnyH_take (i := 9) (v := (.pointer (some ⟨a, 0, none⟩))) rfl (by kernel_rfl) (by kernel_rfl) (by kernel_rfl) (fun _ _ _ h => (show False from h).elim) ?xyYBwdataany7 ?xhYBwdataany7 ?xrYBwdataany7
    case xhYBwdataany7 => exact hHeld
    case xyYBwdataany7 => exact Or.inl ⟨by rfl, fun W9 hW => by clear hHeld; simp only [List.getElem_toArray, List.getElem_cons_succ, List.getElem_cons_zero]; go_simp⟩
    simp only [Act.put, List.getElem_toArray, List.getElem_cons_succ, List.getElem_cons_zero, List.setIfInBounds_toArray, List.set_cons_succ, List.set_cons_zero]
    obtain ⟨k0, k1⟩ := one_cell HK.out
    refine wpAnyH_ready (rs := [10]) (by kernel_rfl) (by simp) ?_
    refine AllReadyH.cons rfl (fun K hK => ?_) AllReadyH.nil
    go_simp
    refine hK.out _ _ (hid trivial) (fun hHeld => ?_)
    clear hK K
    refine wpAnyH_done (by kernel_rfl) ?_ _
    refine NoPanic.normal ?_
    go_wp2_with fail
    go_end0
    exact ⟨rfl, HP.out⟩
  · go_simp
    go_wp2_with (first | (go_at_call 192; refine CNd.out.mono ?_; rintro en wT ⟨vT, rfl, hoT, hbT⟩; obtain ⟨ta, tc, rfl, hrT⟩ := gives_rd hoT; have HRT := hid hrT; have HBT := hid (HWd.out.trans (hbT.mono HWd.out.size)); have hdT := (World.cell?_of_block (w := Wd) (w' := wT) (a := ⟨a, 0, none⟩) (hbT.block _ (World.block_lt_of_cell? _ _ HD0.out))).trans HD0.out; have HDT := hid hdT; clear hbT hrT hoT hdT))
    refine hK.out _ _ (hid trivial) (fun hHeld => ?_)
    clear hK K
    have d1 := HDT.out
    refine wpAnyH_ready (rs := [4]) (by kernel_rfl) (by simp) ?_
    refine AllReadyH.cons rfl (fun K hK => ?_) AllReadyH.nil
    go_simp
    refine hK.out _ _ (hid trivial) (fun hHeld => ?_)
    clear hK K
    clear d1
    have H1T : Hid (wT.heap[a]? = some (.cells #[.slice ao l.length c] 138 (0, 0))) := hid ((HBT.out.block _ (lt_of_block H1.out)).trans H1.out)
    have H2T := hid (own_old H2.out HBT.out)
    have H5T : Hid (Below W0.heap.size W0 wT) := hid (H5.out.trans (HBT.out.mono H5.out.size))
    have H6T : Hid (∀ p ∈ KK, wT.heap[p.1]? = some p.2 ∧ p.1 ≠ a ∧ (Value.slice ao l.length c).ownBlock ≠ some p.1) := hid fun p hp => ⟨(HBT.out.block _ (lt_of_block (H6.out p hp).1)).trans (H6.out p hp).1, (H6.out p hp).2⟩
    refine wpAnyH_ready (rs := [7]) (by kernel_rfl) (by simp) ?_
    refine AllReadyH.cons rfl (fun K hK => ?_) AllReadyH.nil
    refine step_bapp (by rfl) (.tmp 8) (.tmp 10) (by rfl) W0.heap.size _ _ _ (by rfl) H2T.out _ _ (by rfl) HRT.out HLB.out.1 (by have := HLB.out.2; omega) H5T.out.size (fun g cap w' o5 g5 gg5 => ?_)
    have HK := hid (heap_kept g5 H1T.out (fun e => H4.out e.symm))
    have HP := hid (St.put H1T.out H2T.out H3.out H4.out H5T.out H6T.out o5 g5 gg5)
    clear o5 g5 gg5
    refine hK.out _ _ (hid trivial) (fun hHeld => ?_)
    clear hK K
    simp only [Act.put, List.getElem_toArray, List.getElem_cons_succ, List.getElem_cons_zero, List.setIfInBounds_toArray, List.set_cons_succ, List.set_cons_zero]
    refine wpAnyH_take (i := 8) (v := (.pointer (some ⟨a, 0, none⟩))) rfl (by kernel_rfl) (by kernel_rfl) (by kernel_rfl) (fun _ _ _ h => (show False from h).elim) ?xyYBwdataany8 ?xhYBwdataany8 ?xrYBwdataany8
    case xhYBwdataany8 => exact hHeld
    case xyYBwdataany8 => exact Or.inl ⟨by rfl, fun W9 hW => by clear hHeld; simp only [List.getElem_toArray, List.getElem_cons_succ, List.getElem_cons_zero]; go_simp⟩
    simp only [Act.put, List.getElem_toArray, List.getElem_cons_succ, List.getElem_cons_zero, List.setIfInBounds_toArray, List.set_cons_succ, List.set_cons_zero]
    refine wpAnyH_take (i := 9) (v := (.pointer (some ⟨a, 0, none⟩))) rfl (by kernel_rfl) (by kernel_rfl) (by kernel_rfl) (fun _ _ _ h => (show False from h).elim) ?xyYBwdataany9 ?xhYBwdataany9 ?xrYBwdataany9
    case xhYBwdataany9 => exact hHeld
    case xyYBwdataany9 => exact Or.inl ⟨by rfl, fun W9 hW => by clear hHeld; simp only [List.getElem_toArray, List.getElem_cons_succ, List.getElem_cons_zero]; go_simp⟩
    simp only [Act.put, List.getElem_toArray, List.getElem_cons_succ, List.getElem_cons_zero, List.setIfInBounds_toArray, List.set_cons_succ, List.set_cons_zero]
    obtain ⟨k0, k1⟩ := one_cell HK.out
    refine wpAnyH_ready (rs := [10]) (by kernel_rfl) (by simp) ?_
    refine AllReadyH.cons rfl (fun K hK => ?_) AllReadyH.nil
    go_simp
    refine hK.out _ _ (hid trivial) (fun hHeld => ?_)
    clear hK K
    refine wpAnyH_done (by kernel_rfl) ?_ _
    refine NoPanic.normal ?_
    go_wp2_with fail
    go_end0
    exact ⟨rfl, HP.out⟩

end Go.Proofs.YtdfccaehoodjhaaGreat

set_option linter.unusedVariables false
set_option linter.unusedSimpArgs false
set_option maxRecDepth 100000
namespace Go.Proofs.YtdfccaehoodjhaaGreat
open Go.RowKit Go.Deep

/-- '[]byte(s)'. -/
theorem str_conv (w : World) (m : List UInt8) (hm : m.length ≤ 1048576) : ∃ (c : Nat) (W' : World), (convert 9 22 (.string ⟨m.toArray⟩)).run Tryz.prog w = .ok (.slice (some ⟨w.heap.size, 0, none⟩) m.length c) W' ∧
    Rd W' (.slice (some ⟨w.heap.size, 0, none⟩) m.length c) m ∧ Below w.heap.size w W' := by
  have hs : (⟨m.toArray⟩ : ByteArray).size = m.length := by simp [ByteArray.size]
  have hrun := Lib.run_convert_string_bytes (P := Tryz.prog) w 9 22 5 ⟨m.toArray⟩ Tryz.underlying9 Tryz.underlying22 Tryz.underlying5
  have hge := grownCap_ge w m.length 0 5
  have hle := grownCap_le_maxLen w m.length 0 5 (by unfold maxLen; omega)
  rw [hs] at hrun
  refine ⟨_, _, hrun, ⟨some ⟨w.heap.size, 0, none⟩, _, rfl, hge, hle, (fun h => by cases h), fun a ha j u hu => ?_⟩, ?_⟩
  · cases ha
    have hj : j < m.length := by
      have := (List.getElem?_eq_some_iff.1 hu).1
      simpa using this
    rw [WideShapes.add_plain, Nat.zero_add, Lib.bytesWorld_cell w 5 ⟨m.toArray⟩ j (by rw [hs]; exact hj), ← hu]
    simp [List.getD, List.getElem?_eq_getElem hj, bv]
  · exact ⟨rfl, rfl, rfl, by rw [Lib.bytesWorld_size]; omega, fun k hk => Lib.bytesWorld_at_old w 5 _ k hk⟩

section
variable {W0 w : World} {KK : List (Nat × Obj)} {a : Nat} {l b : List UInt8} {v : Value}

theorem wnumE (h : St 138 W0 KK a w l) (e : Enc W0 .num [v] b) (hl : l.length + b.length ≤ 1000000000000) : Calls Tryz.prog 138 #[.pointer (some ⟨a, 0, none⟩), v] w (Wrote 138 W0 KK a l b) := by
  obtain ⟨n, hn, hv, rfl⟩ := e
  cases hv
  exact wnum_any h n hn hl
theorem wsignedE (h : St 138 W0 KK a w l) (e : Enc W0 .int [v] b) (hl : l.length + b.length ≤ 1000000000000) : Calls Tryz.prog 193 #[.pointer (some ⟨a, 0, none⟩), v] w (Wrote 138 W0 KK a l b) := by
  obtain ⟨z, hz, hv, rfl⟩ := e
  cases hv
  exact wsigned_any h z hz hl
theorem wdataE (h : St 138 W0 KK a w l) (e : Enc W0 .data [v] b) (hl : l.length + b.length ≤ 1000000000000) : Calls Tryz.prog 139 #[.pointer (some ⟨a, 0, none⟩), v] w (Wrote 138 W0 KK a l b) := by
  obtain ⟨x, m, hv, _, hr, hm, rfl⟩ := e
  cases hv
  exact wdata_any h v m (hr.old h.below) (by omega) hl
set_option maxHeartbeats 1000000 in
theorem wwholeE (h : St 138 W0 KK a w l) (e : Enc W0 .int [v] b) (hl : l.length + b.length ≤ 1000000000000) : Calls Tryz.prog 140 #[.pointer (some ⟨a, 0, none⟩), v] w (Wrote 138 W0 KK a l b) := by
  have C := hid (wsignedE h e hl)
  clear h e hl
  go_enter Tryz.func140, Tryz.ntmps140
  go_wp2_with (first | (go_at_call 193; refine C.out.mono ?_; rintro en w2 ⟨rfl, h2⟩))
  go_end0
  exact ⟨rfl, h2⟩
set_option maxHeartbeats 1000000 in
theorem werrnoE (h : St 138 W0 KK a w l) (e : Enc W0 .int [v] b) (hl : l.length + b.length ≤ 1000000000000) : Calls Tryz.prog 152 #[.pointer (some ⟨a, 0, none⟩), v] w (Wrote 138 W0 KK a l b) := by
  have C := hid (wsignedE h e hl)
  clear h e hl
  go_enter Tryz.func152, Tryz.ntmps152
  go_wp2_with (first | (go_at_call 193; refine C.out.mono ?_; rintro en w2 ⟨rfl, h2⟩))
  go_end0
  exact ⟨rfl, h2⟩

set_option maxHeartbeats 1000000 in
theorem wflagE (h : St 138 W0 KK a w l) (e : Enc W0 .bool [v] b) (hl : l.length + b.length ≤ 1000000000000) : Calls Tryz.prog 141 #[.pointer (some ⟨a, 0, none⟩), v] w (Wrote 138 W0 KK a l b) := by
  obtain ⟨q, hv, rfl⟩ := e
  cases hv
  cases q with
  | true =>
    have C := hid (wnum_any h 1 (by omega) hl)
    clear h hl
    go_enter Tryz.func141, Tryz.ntmps141
    go_wp2_with (first | (go_at_call 138; refine C.out.mono ?_; rintro en w2 ⟨rfl, h2⟩))
    go_end0
    exact ⟨rfl, h2⟩
  | false =>
    have C := hid (wnum_any h 0 (by omega) hl)
    clear h hl
    go_enter Tryz.func141, Tryz.ntmps141
    go_wp2_with (first | (go_at_call 138; refine C.out.mono ?_; rintro en w2 ⟨rfl, h2⟩))
    go_end0
    exact ⟨rfl, h2⟩
set_option maxHeartbeats 1000000 in
theorem wnameE (h : St 138 W0 KK a w l) (e : Enc W0 .name [v] b) (hl : l.length + b.length ≤ 1000000000000) : Calls Tryz.prog 151 #[.pointer (some ⟨a, 0, none⟩), v] w (Wrote 138 W0 KK a l b) := by
  obtain ⟨m, hv, hm, rfl⟩ := e
  cases hv
  obtain ⟨c, W', hrun, hr, hb⟩ := str_conv w m hm
  have C := hid (wdata_any (h.old hb) _ m hr (by omega) hl)
  have HR := hid hrun
  clear h hl hr hb hrun
  go_enter Tryz.func151, Tryz.ntmps151
  go_wp2_with fail
  rw [HR.out]
  go_wp2_with (first | (go_at_call 139; refine C.out.mono ?_; rintro en w2 ⟨rfl, h2⟩))
  go_end0
  exact ⟨rfl, h2⟩
end
end Go.Proofs.YtdfccaehoodjhaaGreat

