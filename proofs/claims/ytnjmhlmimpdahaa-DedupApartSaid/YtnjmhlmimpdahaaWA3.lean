import Derived.Deep.Slices
import Derived.Deep.AppendLies
import Derived.Test.YtnjmhlmimpdahaaRows
import Derived.WalkKit
import Derived.WalkSpells
import Derived.WalkLawsBesides
import Derived.Laws.AppendOwnNone
import Derived.ProofKit
import Derived.OpenShut
import Derived.ShutString
import Derived.ChangeOld
import Derived.Below
import Derived.SizedLaws
import Derived.Deep.Strs
import Derived.Deep.RegionHeld3
import Derived.Lib.ConvBytes
import Derived.Laws.AppendOwn
import Derived.Deep.CutRange
import Derived.Deep.MidRow
import Derived.Great.Walk
import Derived.Test.YtnjmhlmimpdahaaWA1
import Derived.Test.YtnjmhlmimpdahaaWA2
set_option linter.unusedVariables false
set_option linter.unusedSimpArgs false
namespace Go.Proofs.Ytnjmhlmimpdahaa
open Go.RowKit

/-- Rows of that many cells. -/
def Wide (size : Nat) (L : List (List Value)) : Prop := ∀ r ∈ L, r.length = size ∧ ∀ u ∈ r, u.oneCell' = true

theorem Wide.sub {size : Nat} {a b : List (List Value)} (h : Wide size a) (k : ∀ r ∈ b, r ∈ a) : Wide size b := fun r hr => h r (k r hr)

theorem Wide.one {size : Nat} {L : List (List Value)} (h : Wide size L) : ∀ u ∈ L.flatten, u.oneCell' = true := fun u hu => by
  obtain ⟨r, hr, hu⟩ := List.mem_flatten.1 hu
  exact (h r hr).2 u hu

theorem Wide.len {size : Nat} {L : List (List Value)} (h : Wide size L) : L.flatten.length = L.length * size := by
  induction L with
  | nil => simp
  | cons r L ih =>
    have h1 := (h r (by simp)).1
    have h2 := ih (h.sub fun x hx => by simp [hx])
    rw [List.flatten_cons, List.length_append, h1, h2, List.length_cons, Nat.add_mul]
    omega

theorem Wide.at {size : Nat} {L : List (List Value)} (h : Wide size L) : ∀ {k : Nat} {r : List Value}, L[k]? = some r → ∀ {j : Nat} {u : Value}, r[j]? = some u → L.flatten[k * size + j]? = some u := by
  induction L with
  | nil => intro k r hk; simp at hk
  | cons q L ih =>
    intro k r hk j u hj
    have hq := (h q (by simp)).1
    cases k with
    | zero =>
      simp at hk
      subst hk
      have hjl : j < q.length := (List.getElem?_eq_some_iff.1 hj).1
      rw [Nat.zero_mul, Nat.zero_add, List.flatten_cons, List.getElem?_append_left hjl]
      exact hj
    | succ k =>
      have hk' : L[k]? = some r := by simpa using hk
      have h3 := ih (h.sub fun x hx => by simp [hx]) hk' hj
      rw [List.flatten_cons, List.getElem?_append_right (by rw [hq, Nat.add_mul]; omega)]
      have e : (k + 1) * size + j - q.length = k * size + j := by rw [hq, Nat.add_mul]; omega
      rw [e]
      exact h3

/-- The slice x reads as the rows L. -/
def Rws (size : Nat) (w : World) (x : Value) (L : List (List Value)) : Prop :=
  ∃ (ao : Option Addr) (c : Nat), x = .slice ao L.length c ∧ L.length ≤ c ∧ c ≤ maxLen ∧ (ao = none → c = 0) ∧ Wide size L ∧
    ∀ a, ao = some a → ∀ (j : Nat) u, L.flatten[j]? = some u → w.cell? (a.add j) = some u

theorem Rws.nil (size : Nat) (w : World) : Rws size w (.slice none 0 0) [] := ⟨none, 0, rfl, by simp, by simp, (fun _ => rfl), (fun r hr => by cases hr), (fun a h => by cases h)⟩

theorem Rws.wide {size : Nat} {w : World} {x : Value} {L : List (List Value)} (h : Rws size w x L) : Wide size L := by
  obtain ⟨_, _, _, _, _, _, h5, _⟩ := h
  exact h5

theorem Rws.kept {size : Nat} {w w' : World} {x : Value} {L : List (List Value)} {row : Option Nat} (h : Rws size w x L) (hg : w.grownBy w' row) (hne : blk x = none ∨ blk x ≠ row) : Rws size w' x L := by
  obtain ⟨ao, c, rfl, h1, h2, h3, h5, h4⟩ := h
  refine ⟨ao, c, rfl, h1, h2, h3, h5, fun a ha j u hu => ?_⟩
  subst ha
  have h6 := h4 a rfl j u hu
  have hlt := World.block_lt_of_cell? w _ h6
  rw [World.cell?_of_block (w := w) (a := a.add j) (hg.block _ hlt (by rw [add_block]; simpa [blk] using hne))]
  exact h6

theorem Rws.old {size : Nat} {w w' : World} {x : Value} {L : List (List Value)} (h : Rws size w x L) (hb : Below w.heap.size w w') : Rws size w' x L := by
  obtain ⟨ao, c, rfl, h1, h2, h3, h5, h4⟩ := h
  refine ⟨ao, c, rfl, h1, h2, h3, h5, fun a ha j u hu => ?_⟩
  subst ha
  have h6 := h4 a rfl j u hu
  rw [hb.cell (p := a.add j) (World.block_lt_of_cell? w _ h6)]
  exact h6

theorem Rws.len {P : Program} {size : Nat} {w : World} {x : Value} {L : List (List Value)} (h : Rws size w x L) (t e ty : TypeId) (ht : P.underlying t = some (.slice e)) :
    ∀ W, (Builtin.len_ #[t] ty #[x]).run P W = .ok (goInt L.length) W := by
  obtain ⟨ao, c, rfl, h1, h2, h3, _⟩ := h
  have ht' : P.underlying t = some (.slice (P.elem t)) := by simp [Program.elem, ht]
  exact fun W => run_len_slice W t ty _ _ _ ht'

/-- What the call itself made. -/
theorem Rws.own {size : Nat} {w : World} {base : Nat} {e : TypeId} {x : Value} {L : List (List Value)} (h : w.ownsRow base e size x L.length L.flatten) (hw : Wide size L) : Rws size w x L := by
  obtain ⟨h1, h2⟩ := h
  rcases h2 with ⟨rfl, hn⟩ | ⟨g, cap, cur, rfl, hb, hg, hn, hc, hs, ht⟩
  · obtain rfl : L = [] := List.eq_nil_of_length_eq_zero hn
    exact Rws.nil size w
  · refine ⟨some ⟨g, 0, none⟩, cap, rfl, hn, hc, (fun h => by cases h), hw, fun a ha => ?_⟩
    cases ha
    intro j u hu
    rw [WideShapes.add_plain, Nat.zero_add, cell_of_row w g j cur e (0, 0) hg]
    rw [← ht, List.getElem?_take] at hu
    split at hu
    · simpa using hu
    · cases hu

theorem Rws.take {size : Nat} {w : World} {ao : Option Addr} {m c : Nat} {L : List (List Value)} (h : Rws size w (.slice ao m c) L) (n : Nat) (hn : n ≤ L.length) : Rws size w (.slice ao n c) (L.take n) := by
  obtain ⟨ao', c', he, h1, h2, h3, h5, h4⟩ := h
  simp only [Value.slice.injEq] at he
  obtain ⟨rfl, rfl, rfl⟩ := he
  have hlen : (L.take n).length = n := by rw [List.length_take]; omega
  refine ⟨ao, c, by rw [hlen], by rw [hlen]; omega, h2, h3, h5.sub fun r hr => List.mem_of_mem_take hr, fun a ha j u hu => h4 a ha j u ?_⟩
  have e : L.flatten = (L.take n).flatten ++ (L.drop n).flatten := by rw [← List.flatten_append, List.take_append_drop]
  rw [e, List.getElem?_append_left]
  · exact hu
  · exact (List.getElem?_eq_some_iff.1 hu).1

/-- 'x[n:]'. -/
theorem Rws.cut {P : Program} {size : Nat} {w : World} {x : Value} {L : List (List Value)} (h : Rws size w x L) (hsz : 0 < size) (t e : TypeId) (ht : P.underlying t = some (.slice e)) (hinfo : (P.info? e).map (fun i => i.size) = some size) (n : Nat) (hn : n ≤ L.length) :
    ∃ (ao : Option Addr) (c : Nat), (∀ W, (Instr.slice t x (some (.int .i64 (n : Int))) none none).run P W = .ok (.slice ao (L.length - n) c) W) ∧ Rws size w (.slice ao (L.length - n) c) (L.drop n) ∧ (∀ k, blk (.slice ao (L.length - n) c) = some k → blk x = some k) := by
  obtain ⟨i0, hi, hz1⟩ : ∃ i, P.info? e = some i ∧ i.size = size := by
    cases hq : P.info? e with
    | none => rw [hq] at hinfo; cases hinfo
    | some i => rw [hq] at hinfo; exact ⟨i, rfl, by simpa using hinfo⟩
  have h0 := h
  obtain ⟨ao, c, rfl, h1, h2, h3, h5, h4⟩ := h
  have ht' : P.underlying t = some (.slice (P.elem t)) := by simp [Program.elem, ht]
  have he : P.elem t = e := by simp [Program.elem, ht]
  have hs : ∀ W, (sizeOf e).run P W = .ok size W := fun W => by simp [sizeOf, typeInfo, hi, hz1]
  have hlen : (L.drop n).length = L.length - n := List.length_drop
  refine ⟨if c = n then ao else ao.map (·.add (n * size)), c - n, fun W => ?_, ?_, ?_⟩
  · rw [run_slice_l W t _ _ _ ht' .i64 _ (by omega) (by omega), he, hs]
    simp [Result.andThen, sliced]
  · refine ⟨_, _, by rw [hlen], by rw [hlen]; omega, by omega, ?_, h5.sub fun r hr => List.mem_of_mem_drop hr, ?_⟩
    · intro hne
      split at hne
      · omega
      · cases ao with
        | none => have := h3 rfl; omega
        | some a => simp at hne
    · intro a ha j u hu
      have hjl : j < (L.drop n).flatten.length := (List.getElem?_eq_some_iff.1 hu).1
      have hwd : Wide size (L.drop n) := h5.sub fun r hr => List.mem_of_mem_drop hr
      have hpos : 0 < (L.drop n).length := by
        rcases Nat.eq_zero_or_pos (L.drop n).length with h | h
        · rw [List.eq_nil_of_length_eq_zero h] at hjl; simp at hjl
        · exact h
      rw [if_neg (by omega)] at ha
      cases ao with
      | none => simp at ha
      | some a0 =>
        simp at ha
        subst ha
        have e : L.flatten = (L.take n).flatten ++ (L.drop n).flatten := by rw [← List.flatten_append, List.take_append_drop]
        have hwt : Wide size (L.take n) := h5.sub fun r hr => List.mem_of_mem_take hr
        have hlt : (L.take n).flatten.length = n * size := by rw [hwt.len, List.length_take]; congr 1; omega
        have h7 : L.flatten[n * size + j]? = some u := by
          rw [e, List.getElem?_append_right (by omega), hlt]
          rw [show n * size + j - n * size = j by omega]
          exact hu
        have h6 := h4 a0 rfl _ _ h7
        rw [Deep.add_add]
        exact h6
  · intro k hk
    split at hk
    · cases ao with
      | none => simp [blk] at hk
      | some a => simpa [blk] using hk
    · cases ao with
      | none => simp [blk] at hk
      | some a => simpa [blk, add_block] using hk

/-- A row that was laid out by 'buildSlice' or stored whole: one row. -/
theorem Rws.one {w : World} {n size : Nat} {r : List Value} {t : TypeId} (h : n = w.heap.size) (hr : r.length = size ∧ ∀ u ∈ r, u.oneCell' = true) : Rws size (w.alloc (.cells r.toArray t)) (.slice (some ⟨n, 0, none⟩) 1 1) [r] := by
  subst h
  refine ⟨some ⟨w.heap.size, 0, none⟩, 1, rfl, by simp, by unfold maxLen; simp, (fun h => by cases h), (fun q hq => by simp at hq; subst hq; exact hr), fun a ha j u hu => ?_⟩
  cases ha
  rw [WideShapes.add_plain, Nat.zero_add, cell_of_row _ w.heap.size j r.toArray t (0, 0) (heap_alloc_new w _)]
  simpa using hu
end Go.Proofs.Ytnjmhlmimpdahaa

namespace Go.Proofs.Ytnjmhlmimpdahaa
open Go.ChangeShapes Go.WideShapes Go.ChangeAt Go.RowKit

/-- A slice of integers that came in: it is nil; or it leads to a row of 'cap' cells, the numbers 'zs' (the first 'len' are its elements, the rest its spare room), each fitting its kind. -/
def IsRow (k : IntKind) (w : World) (a : Option Addr) (len cap : Nat) (zs : List Int) : Prop :=
  (a = none ∧ len = 0 ∧ cap = 0 ∧ zs = []) ∨
  ∃ x, a = some x ∧ len ≤ cap ∧ cap ≤ maxLen ∧ zs.length = cap ∧ (∀ i, i < zs.length → w.cell? (x.add i) = some (.int k (zs.getD i 0))) ∧ ∀ n ∈ zs, (Lit.int k n).wf = true

/-- Bytes that came in read as bytes. -/
theorem rd_of_row {w : World} {a : Option Addr} {len cap : Nat} {zs : List Int} (h : IsRow .u8 w a len cap zs) : ∃ l : List UInt8, l.length = len ∧ Rd w (.slice a len cap) l := by
  rcases h with ⟨rfl, rfl, rfl, rfl⟩ | ⟨x, rfl, hl, hm, hz, hc, hw⟩
  · exact ⟨[], rfl, Rd.nil w⟩
  · have hlen : ((zs.take len).map fun n => UInt8.ofNat n.toNat).length = len := by simp; omega
    refine ⟨(zs.take len).map fun n => UInt8.ofNat n.toNat, hlen, some x, cap, by rw [hlen], by rw [hlen]; exact hl, hm, (fun h => by cases h), fun a ha j u hu => ?_⟩
    cases ha
    have hj : j < len := by
      have := (List.getElem?_eq_some_iff.1 hu).1
      rw [List.length_map] at this
      omega
    have hjz : j < zs.length := by omega
    rw [hc j hjz]
    have hwj := hw zs[j] (List.getElem_mem hjz)
    have hb := bounds_u8 hwj
    rw [List.map_map, List.getElem?_map, List.getElem?_take_of_lt hj, List.getElem?_eq_getElem hjz] at hu
    simp only [Option.map_some, Option.some.injEq, Function.comp_apply] at hu
    rw [← hu, List.getD_eq_getElem?_getD, List.getElem?_eq_getElem hjz, Option.getD_some]
    unfold bv
    rw [UInt8.toNat_ofNat']
    have e : zs[j] = ((zs[j].toNat % 2 ^ 8 : Nat) : Int) := by omega
    rw [← e]

end Go.Proofs.Ytnjmhlmimpdahaa

set_option linter.unusedVariables false
set_option maxRecDepth 100000
namespace Go.Proofs.Ytnjmhlmimpdahaa
open Go.RowKit Go.ChangeShapes Go.WideShapes Go.ChangeAt Go.Deep

/-- A shape: a number, a signed one, a bool, bytes, a string, a list, and a struct (its fields one by one). -/
inductive Sh where
  | num
  | int
  | bool
  | data
  | name
  | list (s : Sh)
  | nil
  | cons (s r : Sh)

def Sh.wid : Sh → Nat
  | .nil => 0
  | .cons s r => s.wid + r.wid
  | _ => 1

/-- The cells have these plain bytes. -/
def Enc (W : World) : Sh → List Value → List UInt8 → Prop
  | .num, cs, bs => ∃ n : Nat, n < 18446744073709551616 ∧ cs = [.int .u64 (n : Int)] ∧ bs = numL n
  | .int, cs, bs => ∃ z : Int, (Lit.int .i64 z).wf = true ∧ cs = [.int .i64 z] ∧ bs = numL (zig z)
  | .bool, cs, bs => ∃ b : Bool, cs = [.bool b] ∧ bs = numL (if b then 1 else 0)
  | .data, cs, bs => ∃ x l, cs = [x] ∧ x.oneCell' = true ∧ Rd W x l ∧ l.length ≤ 1048576 ∧ bs = textL l
  | .name, cs, bs => ∃ l : List UInt8, cs = [.string ⟨l.toArray⟩] ∧ l.length ≤ 1048576 ∧ bs = textL l
  | .list s, cs, bs => ∃ (a : Option Addr) (c : Nat) (M : List (List Value × List UInt8)), cs = [.slice a M.length c] ∧ Rws s.wid W (.slice a M.length c) (M.map (·.1)) ∧ (∀ m ∈ M, Enc W s m.1 m.2) ∧ M.length ≤ 1048576 ∧ bs = numL M.length ++ (M.map (·.2)).flatten
  | .nil, cs, bs => cs = [] ∧ bs = []
  | .cons s r, cs, bs => ∃ c1 c2 b1 b2, cs = c1 ++ c2 ∧ bs = b1 ++ b2 ∧ Enc W s c1 b1 ∧ Enc W r c2 b2

theorem Enc.old {W W' : World} (hb : Below W.heap.size W W') : ∀ (s : Sh) {cs : List Value} {bs : List UInt8}, Enc W s cs bs → Enc W' s cs bs
  | .num, cs, bs, h => h
  | .int, cs, bs, h => h
  | .bool, cs, bs, h => h
  | .data, cs, bs, h => by
    obtain ⟨x, l, h1, h2, h3, h4⟩ := h
    exact ⟨x, l, h1, h2, h3.old hb, h4⟩
  | .name, cs, bs, h => h
  | .list s, cs, bs, h => by
    obtain ⟨a, c, M, h1, h2, h3, h4⟩ := h
    exact ⟨a, c, M, h1, h2.old hb, fun m hm => Enc.old hb s (h3 m hm), h4⟩
  | .nil, cs, bs, h => h
  | .cons s r, cs, bs, h => by
    obtain ⟨c1, c2, b1, b2, h1, h2, h3, h4⟩ := h
    exact ⟨c1, c2, b1, b2, h1, h2, Enc.old hb s h3, Enc.old hb r h4⟩

/-- How many cells there are; each is one cell. -/
theorem Enc.wide {W : World} : ∀ (s : Sh) {cs : List Value} {bs : List UInt8}, Enc W s cs bs → cs.length = s.wid ∧ ∀ u ∈ cs, u.oneCell' = true
  | .num, cs, bs, h => by obtain ⟨n, _, rfl, _⟩ := h; exact ⟨rfl, fun u hu => by simp at hu; subst hu; rfl⟩
  | .int, cs, bs, h => by obtain ⟨n, _, rfl, _⟩ := h; exact ⟨rfl, fun u hu => by simp at hu; subst hu; rfl⟩
  | .bool, cs, bs, h => by obtain ⟨n, rfl, _⟩ := h; exact ⟨rfl, fun u hu => by simp at hu; subst hu; rfl⟩
  | .data, cs, bs, h => by obtain ⟨x, l, rfl, h2, _⟩ := h; exact ⟨rfl, fun u hu => by simp at hu; subst hu; exact h2⟩
  | .name, cs, bs, h => by obtain ⟨n, rfl, _⟩ := h; exact ⟨rfl, fun u hu => by simp at hu; subst hu; rfl⟩
  | .list s, cs, bs, h => by obtain ⟨a, c, M, rfl, _⟩ := h; exact ⟨rfl, fun u hu => by simp at hu; subst hu; rfl⟩
  | .nil, cs, bs, h => by obtain ⟨rfl, _⟩ := h; exact ⟨rfl, fun u hu => by cases hu⟩
  | .cons s r, cs, bs, h => by
    obtain ⟨c1, c2, b1, b2, rfl, _, h3, h4⟩ := h
    obtain ⟨p1, p2⟩ := Enc.wide s h3
    obtain ⟨q1, q2⟩ := Enc.wide r h4
    refine ⟨by rw [List.length_append, p1, q1]; rfl, fun u hu => ?_⟩
    rcases List.mem_append.1 hu with hu | hu
    · exact p2 u hu
    · exact q2 u hu

variable {H : Type} {enc : TypeId × Value → H} {W : World}

end Go.Proofs.Ytnjmhlmimpdahaa

namespace Go.Proofs.Ytnjmhlmimpdahaa
open Go.RowKit

theorem bv_more2 (n : Nat) : Value.int IntKind.u8 ((n : Int) % 128 + 128) = bv (moreB n) := by
  unfold bv
  rw [moreB_toNat]
  have e : ((n % 128 + 128 : Nat) : Int) = (n : Int) % 128 + 128 := by omega
  rw [e]

set_option maxHeartbeats 400000 in
set_option maxRecDepth 100000 in
theorem rnum_any (v : Nat) (w : World) (hl : (numL v).length ≤ 10) (hv : v < 2 ^ 64) :
    Calls Try.prog 51 #[.int .u64 (v : Int)] w (Gives 5 w (numL v)) := by
  obtain ⟨i0, hi, hz0, hz1, hz2⟩ := info_parts Try.info_u8
  have HV := hid hv
  clear hv
  go_enter Try.func51, Try.ntmps51
  go_wp2
  go_loopw [0, 3] (fun a x wr => ∃ (n : Nat) (pre : List UInt8), n ≤ v ∧ a = .int .u64 (n : Int) ∧ pre ++ numL n = numL v ∧ wr.ownsRow w.heap.size 5 1 x pre.length (pre.map bv) ∧ Below w.heap.size w wr)
    (fun a _ _ => (intOf a).toNat)
  case atStart => exact ⟨v, [], Nat.le_refl _, rfl, rfl, World.ownsRow_nil _ _ _ _, Below.refl _ _⟩
  case round =>
    obtain ⟨n, pre, hnv, rfl, hpre, hown, hb⟩ := hrel
    have hw : IntKind.u64.wrap ((n : Int) / 128) = (n : Int) / 128 := by rw [wrap_u64]; have := HV.out; omega
    have Hpre := hid hpre
    have hpl : pre.length + 1 ≤ 10 := by
      have := congrArg List.length hpre
      have h2 := numL_pos n
      simp at this; omega
    clear hpre
    have hone : ∀ c, ∀ u ∈ [bv c], u.oneCell' = true := fun c => bv_one [c]
    by_cases hge : 128 ≤ n
    · go_wp2_with (first
        | (at_builtin; refine wpList_append_own _ rfl _ _ 35 rfl w.heap.size 5 i0 (.int .u8 0) 1 1 Try.underlying35 hi hz0 hz1 hz2 rfl (by decide) _ _ _ rfl (hown.alloc _) ⟨wr.heap.size, 0, none⟩ 1 1 [bv (moreB n)] rfl rfl ?c1 ?c2 ?c3 ?c4 ?c5 ?_))
      case c1 => rw [← bv_more2]; exact (cell_one_new _ _ _)
      case c2 => exact hone _
      case c3 => unfold maxLen; simp; omega
      case c4 => simp; omega
      case c5 => have := hb.size; simp; omega
      intro x' w1 hown' hgrow _
      have R := num_step hge Hpre hown hb hown' hgrow
      clear hown' hgrow hown hb
      go_wp2
      go_roundw
      case rel => exact ⟨n / 128, _, by omega, by go_num, R⟩
      case measure => simp [intOf]; omega
    · have hlt : n < 128 := by omega
      clear hge
      go_wp2_with (first
        | (at_builtin; refine wpList_append_own _ rfl _ _ 35 rfl w.heap.size 5 i0 (.int .u8 0) 1 1 Try.underlying35 hi hz0 hz1 hz2 rfl (by decide) _ _ _ rfl (hown.alloc _) ⟨wr.heap.size, 0, none⟩ 1 1 [bv (lastB n)] rfl rfl ?d1 ?d2 ?d3 ?d4 ?d5 ?_))
      case d1 => rw [← bv_last hlt]; exact (cell_one_new _ _ _)
      case d2 => exact hone _
      case d3 => unfold maxLen; simp; omega
      case d4 => simp; omega
      case d5 => have := hb.size; simp; omega
      intro x' w1 hown' hgrow _
      have R := num_end hlt Hpre hown hb hown' hgrow
      clear hown' hgrow hown hb
      go_wp2
      go_ret
      exact ⟨_, rfl, R⟩

set_option maxHeartbeats 1000000 in
set_option maxRecDepth 100000 in
theorem rtext_any (x : Value) (l : List UInt8) (w : World) (hx : Rd w x l) (hl : l.length ≤ 140737488355300) :
    Calls Try.prog 52 #[x] w (Gives 5 w (textL l)) := by
  have hn := numL_len10 (v := l.length) (by omega)
  have hw : IntKind.u64.wrap (l.length : Int) = (l.length : Int) := by rw [wrap_u64]; omega
  have hlen := hx.len (P := Try.prog) 35 5
  go_enter Try.func52, Try.ntmps52
  go_wp2_with fail
  refine (rnum_any _ _ hn (by omega)).mono ?_
  rintro e w1 h1
  obtain ⟨ao, c, rfl, h2, h3⟩ := h1.elim
  have hx1 := hx.old h3
  clear h1 hlen hw
  go_wp2_with (first
      | (at_builtin; refine wp_app rfl _ _ 35 rfl w.heap.size 5 Try.underlying35 (by kernel_rfl) _ _ _ rfl h2 _ l rfl hx1 ?c1 ?c2 ?_))
  case c1 => omega
  case c2 => exact h3.size
  intro v' w2 hown' hgrow
  have hb : Below w.heap.size w w2 := h3.grown hgrow h3.size (fun k hk => (h2.lt k hk).1)
  clear hgrow h2 hx1
  go_wp2_with fail
  go_ret
  exact ⟨_, rfl, by simpa [textL] using hown', hb⟩
end Go.Proofs.Ytnjmhlmimpdahaa

set_option linter.unusedVariables false
namespace Go.Proofs.Ytnjmhlmimpdahaa
open Go.RowKit

/-- All that lay lies, but for the blocks of X. -/
structure Keep (X : Nat → Prop) (w w' : World) : Prop where
  os : w'.os = w.os
  tape : w'.tape = w.tape
  output : w'.output = w.output
  size : w.heap.size ≤ w'.heap.size
  block : ∀ k, k < w.heap.size → ¬ X k → w'.heap[k]? = w.heap[k]?

theorem Keep.refl (X : Nat → Prop) (w : World) : Keep X w w := ⟨rfl, rfl, rfl, Nat.le_refl _, fun _ _ _ => rfl⟩
theorem Keep.trans {X : Nat → Prop} {a b c : World} (h : Keep X a b) (k : Keep X b c) : Keep X a c :=
  ⟨k.os.trans h.os, k.tape.trans h.tape, k.output.trans h.output, Nat.le_trans h.size k.size, fun i hi hn => (k.block i (Nat.lt_of_lt_of_le hi h.size) hn).trans (h.block i hi hn)⟩
/-- The second step's blocks: some of the first one's, or new ones. -/
theorem Keep.trans2 {X Y : Nat → Prop} {a b c : World} (h : Keep X a b) (k : Keep Y b c) (hy : ∀ i, Y i → X i ∨ a.heap.size ≤ i) : Keep X a c :=
  ⟨k.os.trans h.os, k.tape.trans h.tape, k.output.trans h.output, Nat.le_trans h.size k.size, fun i hi hn => (k.block i (Nat.lt_of_lt_of_le hi h.size) (fun e => (hy i e).elim hn (by omega))).trans (h.block i hi hn)⟩
theorem Keep.mono {X Y : Nat → Prop} {a b : World} (h : Keep X a b) (hxy : ∀ k, k < a.heap.size → X k → Y k) : Keep Y a b :=
  ⟨h.os, h.tape, h.output, h.size, fun i hi hn => h.block i hi (fun hx => hn (hxy i hi hx))⟩
theorem Keep.of_below {X : Nat → Prop} {w w' : World} (h : Below w.heap.size w w') : Keep X w w' := ⟨h.os, h.tape, h.output, h.size, fun k hk _ => h.block k hk⟩
theorem Keep.of_grown {X : Nat → Prop} {w w' : World} {row : Option Nat} (h : w.grownBy w' row) (hx : ∀ k, row = some k → X k) : Keep X w w' :=
  ⟨h.os, h.tape, h.output, h.size, fun k hk hn => h.block k hk (fun e => hn (hx k e.symm))⟩
theorem Keep.below {X : Nat → Prop} {w w' : World} {n : Nat} (h : Keep X w w') (hn : n ≤ w.heap.size) (hx : ∀ k, X k → n ≤ k) : Below n w w' :=
  ⟨h.os, h.tape, h.output, h.size, fun k hk => h.block k (Nat.lt_of_lt_of_le hk hn) (fun hx' => by have := hx k hx'; omega)⟩
theorem Keep.set {X : Nat → Prop} (w : World) (a : Addr) (v : Value) (hx : X a.block) : Keep X w (w.setCell a v) := Keep.of_grown (grown_set w a v) (fun k e => by cases e; exact hx)
/-- What is owned stays owned. -/
theorem own_keep {X : Nat → Prop} {w w' : World} {base : Nat} {e : TypeId} {size : Nat} {v : Value} {n : Nat} {xs : List Value} (h : w.ownsRow base e size v n xs) (hk : Keep X w w') (hx : ∀ k, v.ownBlock = some k → ¬ X k) : w'.ownsRow base e size v n xs :=
  ⟨h.1, h.2.imp id fun ⟨g, cap, cur, a, b, c, d⟩ => ⟨g, cap, cur, a, b, by rw [hk.block g (lt_of_block c) (hx g (by rw [a]; rfl))]; exact c, d⟩⟩

theorem Rd.keep {X : Nat → Prop} {w w' : World} {x : Value} {l : List UInt8} (h : Rd w x l) (hk : Keep X w w') (hx : l ≠ [] → ∀ k, blk x = some k → ¬ X k) : Rd w' x l := by
  obtain ⟨ao, c, rfl, h1, h2, h3, h4⟩ := h
  refine ⟨ao, c, rfl, h1, h2, h3, fun a ha j u hu => ?_⟩
  subst ha
  have h6 := h4 a rfl j u hu
  have hlt := World.block_lt_of_cell? w _ h6
  rw [World.cell?_of_block (w := w) (a := a.add j) (hk.block _ hlt (by rw [add_block]; exact hx (fun e => by subst e; simp at hu) _ rfl))]
  exact h6
theorem Rws.keep {X : Nat → Prop} {size : Nat} {w w' : World} {x : Value} {L : List (List Value)} (h : Rws size w x L) (hk : Keep X w w') (hx : L ≠ [] → ∀ k, blk x = some k → ¬ X k) : Rws size w' x L := by
  obtain ⟨ao, c, rfl, h1, h2, h3, h5, h4⟩ := h
  refine ⟨ao, c, rfl, h1, h2, h3, h5, fun a ha j u hu => ?_⟩
  subst ha
  have h6 := h4 a rfl j u hu
  have hlt := World.block_lt_of_cell? w _ h6
  rw [World.cell?_of_block (w := w) (a := a.add j) (hk.block _ hlt (by rw [add_block]; exact hx (fun e => by subst e; simp at hu) _ rfl))]
  exact h6
theorem ownBlock_blk (v : Value) : v.ownBlock = blk v := by cases v <;> first | rfl | (rename_i a n c; cases a <;> rfl)

end Go.Proofs.Ytnjmhlmimpdahaa

set_option linter.unusedVariables false
set_option linter.unusedSimpArgs false
set_option maxRecDepth 100000
namespace Go.Proofs.Ytnjmhlmimpdahaa
open Go.RowKit Go.Deep

/-- 'append(v, y...)' at a step of a region that draws: bytes, of which there are some. -/
theorem step_bapp {w : World} {ops : Array Oper} {o : Oper} {a : Act} {K : Act → World → Prop} {Q : Exit → Act → World → Prop} {E : Prop} (hgd : o.guard = none) (s x : Operand)
    (ho : o.op = .call { callee := .builtin .append, args := #[s, x], argTypes := #[35, 35] })
    (base : Nat) (v : Value) (n : Nat) (xs : List Value) (hs : a.eval s = v) (hown : w.ownsRow base 5 1 v n xs)
    (y : Value) (l : List UInt8) (hx : a.eval x = y) (hr : Rd w y l) (hl : 0 < l.length) (hn : n + l.length ≤ 140737488355328) (hbase : base ≤ w.heap.size)
    (h : ∀ g cap w', w'.ownsRow base 5 1 (.slice (some ⟨g, 0, none⟩) (n + l.length) cap) (n + l.length) (xs ++ l.map bv) → w.grownBy w' v.ownBlock → (v.ownBlock = some g ∨ g = w.heap.size) → K (a.put o.dst (.slice (some ⟨g, 0, none⟩) (n + l.length) cap)) w') :
    if Region.wanted o (yielded ops a.tmps) = true then Oper.wp Try.prog o a w K Q else E := by
  obtain ⟨i0, hi, hz0, hz1, hz2⟩ := info_parts Try.info_u8
  obtain ⟨ao, c, rfl, h1, h2, h3, h4⟩ := hr
  cases ao with
  | none => have := h3 rfl; omega
  | some ad =>
    exact step_append_lies w hgd s x 35 ho base 5 i0 (.int .u8 0) 1 1 Try.underlying35 hi hz0 hz1 hz2 rfl (by decide) v n xs hs hown ad l.length c (l.map bv) hx (by simp) (h4 ad rfl) (bv_one l) hl
      (by unfold maxLen; omega) (by omega) hbase _ rfl (fun g cap w' a1 a2 a3 _ => h g cap w' a1 a2 a3)

/-- The writer in block a (of the type T) has written l; W0: the world ahead of it; K: blocks besides, and what lies there. -/
def St (T : TypeId) (W0 : World) (K : List (Nat × Obj)) (a : Nat) (w : World) (l : List UInt8) : Prop :=
  ∃ (ao : Option Addr) (c : Nat), w.heap[a]? = some (.cells #[.slice ao l.length c] T (0, 0)) ∧ w.ownsRow W0.heap.size 5 1 (.slice ao l.length c) l.length (l.map bv) ∧ W0.heap.size ≤ a ∧ (Value.slice ao l.length c).ownBlock ≠ some a ∧ Below W0.heap.size W0 w ∧
    ∀ p ∈ K, w.heap[p.1]? = some p.2 ∧ p.1 ≠ a ∧ (Value.slice ao l.length c).ownBlock ≠ some p.1

/-- What stands behind a call that writes bs. -/
def Wrote (T : TypeId) (W0 : World) (K : List (Nat × Obj)) (a : Nat) (l bs : List UInt8) (e : Ending) (w' : World) : Prop := e = .returned (.tuple #[]) ∧ St T W0 K a w' (l ++ bs)

theorem one_cell {w : World} {b : Nat} {u : Value} {t : TypeId} (h : w.heap[b]? = some (.cells #[u] t (0, 0))) : w.cell? ⟨b, 0, none⟩ = some u ∧ w.frozen? ⟨b, 0, none⟩ = false := by
  exact ⟨by simp [World.cell?, h], by simp [World.frozen?, h]⟩

theorem one_set {w : World} {b : Nat} {u x : Value} {t : TypeId} (h : w.heap[b]? = some (.cells #[u] t (0, 0))) : (w.setCell ⟨b, 0, none⟩ x).heap[b]? = some (.cells #[x] t (0, 0)) := by
  have hlt := lt_of_block h
  have h' : w.heap[b] = .cells #[u] t (0, 0) := by simpa [Array.getElem?_eq_getElem hlt] using h
  show (w.heap.modify b _)[b]? = _
  rw [Array.getElem?_eq_getElem (by simpa using hlt), Array.getElem_modify_self, h']
  rfl

theorem gives_rd {w' : World} {v : Value} {B : Nat} {l : List UInt8} (h : w'.ownsRow B 5 1 v l.length (l.map bv)) : ∃ a c, v = .slice a l.length c ∧ Rd w' (.slice a l.length c) l := by
  obtain ⟨ao, c, rfl, _⟩ := Rd.own h
  exact ⟨ao, c, rfl, Rd.own h⟩

theorem St.below {T : TypeId} {W0 w : World} {K : List (Nat × Obj)} {a : Nat} {l : List UInt8} (h : St T W0 K a w l) : Below W0.heap.size W0 w := by
  obtain ⟨_, _, _, _, _, _, h5, _⟩ := h
  exact h5
theorem St.lt {T : TypeId} {W0 w : World} {K : List (Nat × Obj)} {a : Nat} {l : List UInt8} (h : St T W0 K a w l) : a < w.heap.size := by
  obtain ⟨_, _, h1, _⟩ := h
  exact lt_of_block h1

/-- A call that keeps what was there keeps the writer. -/
theorem St.old {T : TypeId} {W0 w w' : World} {K : List (Nat × Obj)} {a : Nat} {l : List UInt8} (h : St T W0 K a w l) (hb : Below w.heap.size w w') : St T W0 K a w' l := by
  obtain ⟨ao, c, h1, h2, h3, h4, h5, h6⟩ := h
  exact ⟨ao, c, (hb.block _ (lt_of_block h1)).trans h1, own_old h2 hb, h3, h4, h5.trans (hb.mono h5.size), fun p hp => ⟨(hb.block _ (lt_of_block (h6 p hp).1)).trans (h6 p hp).1, (h6 p hp).2⟩⟩

/-- A new block is one more that stays. -/
theorem St.box {T : TypeId} {W0 w : World} {K : List (Nat × Obj)} {a : Nat} {l : List UInt8} (h : St T W0 K a w l) (cs : Array Value) (t : TypeId) : St T W0 ((w.heap.size, .cells cs t (0, 0)) :: K) a (w.alloc (.cells cs t)) l := by
  have hlt := h.lt
  obtain ⟨ao, c, h1, h2, h3, h4, h5, h6⟩ := h.old ((Below.refl _ _).alloc (Nat.le_refl _) (.cells cs t))
  obtain ⟨ao', c', h1', h2', -⟩ := h
  have hq := (((Below.refl w.heap.size w).alloc (Nat.le_refl _) (.cells cs t)).block _ (lt_of_block h1')).trans h1'
  rw [h1] at hq
  simp only [Option.some.injEq, Obj.cells.injEq, Array.mk.injEq, List.cons.injEq, and_true, Value.slice.injEq, true_and] at hq
  refine ⟨ao, c, h1, h2, h3, h4, h5, fun p hp => ?_⟩
  rcases List.mem_cons.1 hp with rfl | hp
  · refine ⟨heap_alloc_new w _, by show w.heap.size ≠ a; omega, fun e => ?_⟩
    rw [hq.1, hq.2] at e
    have := (h2'.lt _ e).2
    simp only at this
    omega
  · exact h6 p hp
theorem St.drop {T : TypeId} {W0 w : World} {x : Nat × Obj} {K : List (Nat × Obj)} {a : Nat} {l : List UInt8} (h : St T W0 (x :: K) a w l) : St T W0 K a w l := by
  obtain ⟨ao, c, h1, h2, h3, h4, h5, h6⟩ := h
  exact ⟨ao, c, h1, h2, h3, h4, h5, fun p hp => h6 p (List.mem_cons_of_mem _ hp)⟩
theorem St.at {T : TypeId} {W0 w : World} {b : Nat} {o : Obj} {K : List (Nat × Obj)} {a : Nat} {l : List UInt8} (h : St T W0 ((b, o) :: K) a w l) : w.heap[b]? = some o := by
  obtain ⟨ao, c, h1, h2, h3, h4, h5, h6⟩ := h
  exact (h6 (b, o) List.mem_cons_self).1

/-- What is appended is stored. -/
theorem St.put {T : TypeId} {W0 w w1 : World} {K : List (Nat × Obj)} {a : Nat} {l bs : List UInt8} {ao : Option Addr} {c g cap : Nat} (h1 : w.heap[a]? = some (.cells #[.slice ao l.length c] T (0, 0))) (h2 : w.ownsRow W0.heap.size 5 1 (.slice ao l.length c) l.length (l.map bv))
    (h3 : W0.heap.size ≤ a) (h4 : (Value.slice ao l.length c).ownBlock ≠ some a) (h5 : Below W0.heap.size W0 w) (h6 : ∀ p ∈ K, w.heap[p.1]? = some p.2 ∧ p.1 ≠ a ∧ (Value.slice ao l.length c).ownBlock ≠ some p.1)
    (o : w1.ownsRow W0.heap.size 5 1 (.slice (some ⟨g, 0, none⟩) (l.length + bs.length) cap) (l.length + bs.length) (l.map bv ++ bs.map bv)) (hg : w.grownBy w1 (Value.slice ao l.length c).ownBlock) (hgg : (Value.slice ao l.length c).ownBlock = some g ∨ g = w.heap.size) :
    St T W0 K a (w1.setCell ⟨a, 0, none⟩ (.slice (some ⟨g, 0, none⟩) (l.length + bs.length) cap)) (l ++ bs) := by
  have hk := heap_kept hg h1 (fun e => h4 e.symm)
  have hne : ∀ k, k < w.heap.size → (Value.slice ao l.length c).ownBlock ≠ some k → g ≠ k := by
    rintro k hk hn rfl
    rcases hgg with e | e
    · exact hn e
    · omega
  have hga : g ≠ a := hne a (lt_of_block h1) h4
  have hb1 : Below W0.heap.size W0 w1 := h5.grown hg h5.size (fun k hk => (h2.lt k hk).1)
  refine ⟨some ⟨g, 0, none⟩, cap, ?_, ?_, h3, by simpa [Value.ownBlock] using hga, hb1.setCell (p := ⟨a, 0, none⟩) h3 _, fun p hp => ?_⟩
  · rw [List.length_append]
    exact one_set hk
  · rw [List.length_append, List.map_append]
    exact o.kept (grown_set w1 ⟨a, 0, none⟩ _) (.inr (by simpa [Value.ownBlock] using hga))
  · obtain ⟨q1, q2, q3⟩ := h6 p hp
    have k1 := heap_kept hg q1 (fun e => q3 e.symm)
    refine ⟨heap_kept (grown_set w1 ⟨a, 0, none⟩ _) k1 (by simpa using q2), q2, ?_⟩
    have := hne p.1 (lt_of_block q1) q3
    simpa [Value.ownBlock] using this

set_option maxHeartbeats 4000000 in
theorem onum_any {W0 w : World} {KK : List (Nat × Obj)} {a : Nat} {l : List UInt8} (h : St 83 W0 KK a w l) (n : Nat) (hn : n < 18446744073709551616) (hl : l.length + (numL n).length ≤ 1000000000000) :
    Calls Try.prog 31 #[.pointer (some ⟨a, 0, none⟩), .int .u64 (n : Int)] w (Wrote 83 W0 KK a l (numL n)) := by
  obtain ⟨ao, c, h1, h2, h3, h4, h5, h6⟩ := h
  obtain ⟨bs, hbs⟩ : ∃ bs, bs = numL n := ⟨_, rfl⟩
  have CN : Hid (∀ V, Below w.heap.size w V → Calls Try.prog 51 #[.int .u64 (n : Int)] V (Gives 5 V bs)) := hid fun V hV => by rw [hbs]; exact rnum_any n V (numL_len10 (by omega)) (by omega)
  have HLB : Hid (0 < bs.length ∧ l.length + bs.length ≤ 1000000000000) := hid ⟨by rw [hbs]; exact numL_pos _, by rw [hbs]; exact hl⟩
  rw [← hbs]; clear hbs hl
  obtain ⟨c0, f0⟩ := one_cell h1
  have H1 := hid h1
  have H2 := hid h2
  have H3 := hid h3
  have H4 := hid h4
  have H5 := hid h5
  have HWd : Hid (Below w.heap.size w w.drew) := hid ⟨rfl, rfl, rfl, Nat.le_refl _, fun _ _ => rfl⟩
  have H6 := hid h6
  clear h1 h2 h3 h4 h5 h6
  go_enter Try.func31, Try.ntmps31
  refine wp_region_noPanic ?_
  refine wp_region_held_drew (S := fun _ => Hid True) (by kernel_rfl) (hid trivial) (fun hHeld => ?_)
  have CNd := hid (CN.out _ HWd.out)
  have d0 : w.drew.cell? ⟨a, 0, none⟩ = some (.slice ao l.length c) := c0
  generalize w.drew = Wd at *
  have HD0 := hid d0
  clear d0 c0 f0
  refine wpAnyH_take (i := 0) (v := (.pointer (some ⟨a, 0, none⟩))) rfl (by kernel_rfl) (by kernel_rfl) (by kernel_rfl) (fun _ _ _ h => (show False from h).elim) ?xyYBonumany1 ?xhYBonumany1 ?xrYBonumany1
  case xhYBonumany1 => exact hHeld
  case xyYBonumany1 => exact Or.inl ⟨by rfl, fun W9 hW => by clear hHeld; simp only [List.getElem_toArray, List.getElem_cons_succ, List.getElem_cons_zero]; go_simp⟩
  simp only [Act.put, List.getElem_toArray, List.getElem_cons_succ, List.getElem_cons_zero, List.setIfInBounds_toArray, List.set_cons_succ, List.set_cons_zero]
  refine wpAnyH_take (i := 1) (v := (.pointer (some ⟨a, 0, none⟩))) rfl (by kernel_rfl) (by kernel_rfl) (by kernel_rfl) (fun _ _ _ h => (show False from h).elim) ?xyYBonumany2 ?xhYBonumany2 ?xrYBonumany2
  case xhYBonumany2 => exact hHeld
  case xyYBonumany2 => exact Or.inl ⟨by rfl, fun W9 hW => by clear hHeld; simp only [List.getElem_toArray, List.getElem_cons_succ, List.getElem_cons_zero]; go_simp⟩
  simp only [Act.put, List.getElem_toArray, List.getElem_cons_succ, List.getElem_cons_zero, List.setIfInBounds_toArray, List.set_cons_succ, List.set_cons_zero]
  refine wpAnyH_take (i := 2) (v := (.pointer (some ⟨a, 0, none⟩))) rfl (by kernel_rfl) (by kernel_rfl) (by kernel_rfl) (fun _ _ _ h => (show False from h).elim) ?xyYBonumany3 ?xhYBonumany3 ?xrYBonumany3
  case xhYBonumany3 => exact hHeld
  case xyYBonumany3 => exact Or.inl ⟨by rfl, fun W9 hW => by clear hHeld; simp only [List.getElem_toArray, List.getElem_cons_succ, List.getElem_cons_zero]; go_simp⟩
  simp only [Act.put, List.getElem_toArray, List.getElem_cons_succ, List.getElem_cons_zero, List.setIfInBounds_toArray, List.set_cons_succ, List.set_cons_zero]
  refine wpAnyH_take (i := 3) (v := (.pointer (some ⟨a, 0, none⟩))) rfl (by kernel_rfl) (by kernel_rfl) (by kernel_rfl) (fun _ _ _ h => (show False from h).elim) ?xyYBonumany4 ?xhYBonumany4 ?xrYBonumany4
  case xhYBonumany4 => exact hHeld
  case xyYBonumany4 => exact Or.inl ⟨by rfl, fun W9 hW => by clear hHeld; simp only [List.getElem_toArray, List.getElem_cons_succ, List.getElem_cons_zero]; go_simp⟩
  simp only [Act.put, List.getElem_toArray, List.getElem_cons_succ, List.getElem_cons_zero, List.setIfInBounds_toArray, List.set_cons_succ, List.set_cons_zero]
  refine wpAnyH_take (i := 5) (v := (.int .u64 (n : Int))) rfl (by kernel_rfl) (by kernel_rfl) (by kernel_rfl) (fun _ _ _ h => (show False from h).elim) ?xyYBonumany5 ?xhYBonumany5 ?xrYBonumany5
  case xhYBonumany5 => exact hHeld
  case xyYBonumany5 => exact Or.inl ⟨by rfl, fun W9 hW => by clear hHeld; simp only [List.getElem_toArray, List.getElem_cons_succ, List.getElem_cons_zero]; go_simp⟩
  simp only [Act.put, List.getElem_toArray, List.getElem_cons_succ, List.getElem_cons_zero, List.setIfInBounds_toArray, List.set_cons_succ, List.set_cons_zero]
  refine wpAnyH_ready (rs := [4, 6]) (by kernel_rfl) (by simp) ?_
  refine AllReadyH.cons rfl (fun K hK => ?_) (AllReadyH.cons rfl (fun K hK => ?_) AllReadyH.nil)
  · have d0 := HD0.out
    go_simp
    refine hK.out _ _ (hid trivial) (fun hHeld => ?_)
    clear hK K d0
    refine wpAnyH_ready (rs := [6]) (by kernel_rfl) (by simp) ?_
    refine AllReadyH.cons rfl (fun K hK => ?_) AllReadyH.nil
    go_simp
    go_wp2_with (first | (go_at_call 51; refine CNd.out.mono ?_; rintro en wT ⟨vT, rfl, hoT, hbT⟩; obtain ⟨ta, tc, rfl, hrT⟩ := gives_rd hoT; have HRT := hid hrT; have HBT := hid (HWd.out.trans (hbT.mono HWd.out.size)); have hdT := (World.cell?_of_block (w := Wd) (w' := wT) (a := ⟨a, 0, none⟩) (hbT.block _ (World.block_lt_of_cell? _ _ HD0.out))).trans HD0.out; have HDT := hid hdT; clear hbT hrT hoT hdT))
    refine hK.out _ _ (hid trivial) (fun hHeld => ?_)
    clear hK K
    have H1T : Hid (wT.heap[a]? = some (.cells #[.slice ao l.length c] 83 (0, 0))) := hid ((HBT.out.block _ (lt_of_block H1.out)).trans H1.out)
    have H2T := hid (own_old H2.out HBT.out)
    have H5T : Hid (Below W0.heap.size W0 wT) := hid (H5.out.trans (HBT.out.mono H5.out.size))
    have H6T : Hid (∀ p ∈ KK, wT.heap[p.1]? = some p.2 ∧ p.1 ≠ a ∧ (Value.slice ao l.length c).ownBlock ≠ some p.1) := hid fun p hp => ⟨(HBT.out.block _ (lt_of_block (H6.out p hp).1)).trans (H6.out p hp).1, (H6.out p hp).2⟩
    refine wpAnyH_ready (rs := [7]) (by kernel_rfl) (by simp) ?_
    refine AllReadyH.cons rfl (fun K hK => ?_) AllReadyH.nil
    refine step_bapp (by rfl) (.tmp 8) (.tmp 10) (by rfl) W0.heap.size _ _ _ (by rfl) H2T.out _ _ (by rfl) HRT.out HLB.out.1 (by have := HLB.out.2; omega) H5T.out.size (fun g cap w' o5 g5 gg5 => ?_)
    have HK := hid (heap_kept g5 H1T.out (fun e => H4.out e.symm))
    have HP := hid (St.put H1T.out H2T.out H3.out H4.out H5T.out H6T.out o5 g5 gg5)
    clear o5 g5 gg5
    refine hK.out _ _ (hid trivial) (fun hHeld => ?_)
    clear hK K
    simp only [Act.put, List.getElem_toArray, List.getElem_cons_succ, List.getElem_cons_zero, List.setIfInBounds_toArray, List.set_cons_succ, List.set_cons_zero]
    refine wpAnyH_take (i := 8) (v := (.pointer (some ⟨a, 0, none⟩))) rfl (by kernel_rfl) (by kernel_rfl) (by kernel_rfl) (fun _ _ _ h => (show False from h).elim) ?xyYBonumany6 ?xhYBonumany6 ?xrYBonumany6
    case xhYBonumany6 => exact hHeld
    case xyYBonumany6 => exact Or.inl ⟨by rfl, fun W9 hW => by clear hHeld; simp only [List.getElem_toArray, List.getElem_cons_succ, List.getElem_cons_zero]; go_simp⟩
    simp only [Act.put, List.getElem_toArray, List.getElem_cons_succ, List.getElem_cons_zero, List.setIfInBounds_toArray, List.set_cons_succ, List.set_cons_zero]
    refine wpAnyH_take (i := 9) (v := (.pointer (some ⟨a, 0, none⟩))) rfl (by kernel_rfl) (by kernel_rfl) (by kernel_rfl) (fun _ _ _ h => (show False from h).elim) ?xyYBonumany7 ?xhYBonumany7 ?xrYBonumany7
    case xhYBonumany7 => exact hHeld
    case xyYBonumany7 => exact Or.inl ⟨by rfl, fun W9 hW => by clear hHeld; simp only [List.getElem_toArray, List.getElem_cons_succ, List.getElem_cons_zero]; go_simp⟩
    simp only [Act.put, List.getElem_toArray, List.getElem_cons_succ, List.getElem_cons_zero, List.setIfInBounds_toArray, List.set_cons_succ, List.set_cons_zero]
    obtain ⟨k0, k1⟩ := one_cell HK.out
    refine wpAnyH_ready (rs := [10]) (by kernel_rfl) (by simp) ?_
    refine AllReadyH.cons rfl (fun K hK => ?_) AllReadyH.nil
    go_simp
    refine hK.out _ _ (hid trivial) (fun hHeld => ?_)
    clear hK K
    refine wpAnyH_done (by kernel_rfl) ?_ _
    refine NoPanic.normal ?_
    go_wp2_with fail
    go_end0
    exact ⟨rfl, HP.out⟩
  · go_simp
    go_wp2_with (first | (go_at_call 51; refine CNd.out.mono ?_; rintro en wT ⟨vT, rfl, hoT, hbT⟩; obtain ⟨ta, tc, rfl, hrT⟩ := gives_rd hoT; have HRT := hid hrT; have HBT := hid (HWd.out.trans (hbT.mono HWd.out.size)); have hdT := (World.cell?_of_block (w := Wd) (w' := wT) (a := ⟨a, 0, none⟩) (hbT.block _ (World.block_lt_of_cell? _ _ HD0.out))).trans HD0.out; have HDT := hid hdT; clear hbT hrT hoT hdT))
    refine hK.out _ _ (hid trivial) (fun hHeld => ?_)
    clear hK K
    have d1 := HDT.out
    refine wpAnyH_ready (rs := [4]) (by kernel_rfl) (by simp) ?_
    refine AllReadyH.cons rfl (fun K hK => ?_) AllReadyH.nil
    go_simp
    refine hK.out _ _ (hid trivial) (fun hHeld => ?_)
    clear hK K
    clear d1
    have H1T : Hid (wT.heap[a]? = some (.cells #[.slice ao l.length c] 83 (0, 0))) := hid ((HBT.out.block _ (lt_of_block H1.out)).trans H1.out)
    have H2T := hid (own_old H2.out HBT.out)
    have H5T : Hid (Below W0.heap.size W0 wT) := hid (H5.out.trans (HBT.out.mono H5.out.size))
    have H6T : Hid (∀ p ∈ KK, wT.heap[p.1]? = some p.2 ∧ p.1 ≠ a ∧ (Value.slice ao l.length c).ownBlock ≠ some p.1) := hid fun p hp => ⟨(HBT.out.block _ (lt_of_block (H6.out p hp).1)).trans (H6.out p hp).1, (H6.out p hp).2⟩
    refine wpAnyH_ready (rs := [7]) (by kernel_rfl) (by simp) ?_
    refine AllReadyH.cons rfl (fun K hK => ?_) AllReadyH.nil
    refine step_bapp (by rfl) (.tmp 8) (.tmp 10) (by rfl) W0.heap.size _ _ _ (by rfl) H2T.out _ _ (by rfl) HRT.out HLB.out.1 (by have := HLB.out.2; omega) H5T.out.size (fun g cap w' o5 g5 gg5 => ?_)
    have HK := hid (heap_kept g5 H1T.out (fun e => H4.out e.symm))
    have HP := hid (St.put H1T.out H2T.out H3.out H4.out H5T.out H6T.out o5 g5 gg5)
    clear o5 g5 gg5
    refine hK.out _ _ (hid trivial) (fun hHeld => ?_)
    clear hK K
    simp only [Act.put, List.getElem_toArray, List.getElem_cons_succ, List.getElem_cons_zero, List.setIfInBounds_toArray, List.set_cons_succ, List.set_cons_zero]
    refine wpAnyH_take (i := 8) (v := (.pointer (some ⟨a, 0, none⟩))) rfl (by kernel_rfl) (by kernel_rfl) (by kernel_rfl) (fun _ _ _ h => (show False from h).elim) ?xyYBonumany8 ?xhYBonumany8 ?xrYBonumany8
    case xhYBonumany8 => exact hHeld
    case xyYBonumany8 => exact Or.inl ⟨by rfl, fun W9 hW => by clear hHeld; simp only [List.getElem_toArray, List.getElem_cons_succ, List.getElem_cons_zero]; go_simp⟩
    simp only [Act.put, List.getElem_toArray, List.getElem_cons_succ, List.getElem_cons_zero, List.setIfInBounds_toArray, List.set_cons_succ, List.set_cons_zero]
    refine wpAnyH_take (i := 9) (v := (.pointer (some ⟨a, 0, none⟩))) rfl (by kernel_rfl) (by kernel_rfl) (by kernel_rfl) (fun _ _ _ h => (show False from h).elim) ?xyYBonumany9 ?xhYBonumany9 ?xrYBonumany9
    case xhYBonumany9 => exact hHeld
    case xyYBonumany9 => exact Or.inl ⟨by rfl, fun W9 hW => by clear hHeld; simp only [List.getElem_toArray, List.getElem_cons_succ, List.getElem_cons_zero]; go_simp⟩
    simp only [Act.put, List.getElem_toArray, List.getElem_cons_succ, List.getElem_cons_zero, List.setIfInBounds_toArray, List.set_cons_succ, List.set_cons_zero]
    obtain ⟨k0, k1⟩ := one_cell HK.out
    refine wpAnyH_ready (rs := [10]) (by kernel_rfl) (by simp) ?_
    refine AllReadyH.cons rfl (fun K hK => ?_) AllReadyH.nil
    go_simp
    refine hK.out _ _ (hid trivial) (fun hHeld => ?_)
    clear hK K
    refine wpAnyH_done (by kernel_rfl) ?_ _
    refine NoPanic.normal ?_
    go_wp2_with fail
    go_end0
    exact ⟨rfl, HP.out⟩

set_option maxHeartbeats 4000000 in
theorem obytes_any {W0 w : World} {KK : List (Nat × Obj)} {a : Nat} {l : List UInt8} (h : St 83 W0 KK a w l) (x : Value) (m : List UInt8) (hx : Rd w x m) (hm : m.length ≤ 140737488355300) (hl : l.length + (textL m).length ≤ 1000000000000) :
    Calls Try.prog 32 #[.pointer (some ⟨a, 0, none⟩), x] w (Wrote 83 W0 KK a l (textL m)) := by
  obtain ⟨ao, c, h1, h2, h3, h4, h5, h6⟩ := h
  obtain ⟨bs, hbs⟩ : ∃ bs, bs = textL m := ⟨_, rfl⟩
  have CN : Hid (∀ V, Below w.heap.size w V → Calls Try.prog 52 #[x] V (Gives 5 V bs)) := hid fun V hV => by rw [hbs]; exact rtext_any x m V (hx.old hV) hm
  have HLB : Hid (0 < bs.length ∧ l.length + bs.length ≤ 1000000000000) := hid ⟨by rw [hbs]; unfold textL; rw [List.length_append]; have := numL_pos m.length; omega, by rw [hbs]; exact hl⟩
  rw [← hbs]; clear hbs hl
  obtain ⟨c0, f0⟩ := one_cell h1
  have H1 := hid h1
  have H2 := hid h2
  have H3 := hid h3
  have H4 := hid h4
  have H5 := hid h5
  have HWd : Hid (Below w.heap.size w w.drew) := hid ⟨rfl, rfl, rfl, Nat.le_refl _, fun _ _ => rfl⟩
  have H6 := hid h6
  clear h1 h2 h3 h4 h5 h6
  go_enter Try.func32, Try.ntmps32
  refine wp_region_noPanic ?_
  refine wp_region_held_drew (S := fun _ => Hid True) (by kernel_rfl) (hid trivial) (fun hHeld => ?_)
  have CNd := hid (CN.out _ HWd.out)
  have d0 : w.drew.cell? ⟨a, 0, none⟩ = some (.slice ao l.length c) := c0
  generalize w.drew = Wd at *
  have HD0 := hid d0
  clear d0 c0 f0
  refine wpAnyH_take (i := 0) (v := (.pointer (some ⟨a, 0, none⟩))) rfl (by kernel_rfl) (by kernel_rfl) (by kernel_rfl) (fun _ _ _ h => (show False from h).elim) ?xyYBobytesany1 ?xhYBobytesany1 ?xrYBobytesany1
  case xhYBobytesany1 => exact hHeld
  case xyYBobytesany1 => exact Or.inl ⟨by rfl, fun W9 hW => by clear hHeld; simp only [List.getElem_toArray, List.getElem_cons_succ, List.getElem_cons_zero]; go_simp⟩
  simp only [Act.put, List.getElem_toArray, List.getElem_cons_succ, List.getElem_cons_zero, List.setIfInBounds_toArray, List.set_cons_succ, List.set_cons_zero]
  refine wpAnyH_take (i := 1) (v := (.pointer (some ⟨a, 0, none⟩))) rfl (by kernel_rfl) (by kernel_rfl) (by kernel_rfl) (fun _ _ _ h => (show False from h).elim) ?xyYBobytesany2 ?xhYBobytesany2 ?xrYBobytesany2
  case xhYBobytesany2 => exact hHeld
  case xyYBobytesany2 => exact Or.inl ⟨by rfl, fun W9 hW => by clear hHeld; simp only [List.getElem_toArray, List.getElem_cons_succ, List.getElem_cons_zero]; go_simp⟩
  simp only [Act.put, List.getElem_toArray, List.getElem_cons_succ, List.getElem_cons_zero, List.setIfInBounds_toArray, List.set_cons_succ, List.set_cons_zero]
  refine wpAnyH_take (i := 2) (v := (.pointer (some ⟨a, 0, none⟩))) rfl (by kernel_rfl) (by kernel_rfl) (by kernel_rfl) (fun _ _ _ h => (show False from h).elim) ?xyYBobytesany3 ?xhYBobytesany3 ?xrYBobytesany3
  case xhYBobytesany3 => exact hHeld
  case xyYBobytesany3 => exact Or.inl ⟨by rfl, fun W9 hW => by clear hHeld; simp only [List.getElem_toArray, List.getElem_cons_succ, List.getElem_cons_zero]; go_simp⟩
  simp only [Act.put, List.getElem_toArray, List.getElem_cons_succ, List.getElem_cons_zero, List.setIfInBounds_toArray, List.set_cons_succ, List.set_cons_zero]
  refine wpAnyH_take (i := 3) (v := (.pointer (some ⟨a, 0, none⟩))) rfl (by kernel_rfl) (by kernel_rfl) (by kernel_rfl) (fun _ _ _ h => (show False from h).elim) ?xyYBobytesany4 ?xhYBobytesany4 ?xrYBobytesany4
  case xhYBobytesany4 => exact hHeld
  case xyYBobytesany4 => exact Or.inl ⟨by rfl, fun W9 hW => by clear hHeld; simp only [List.getElem_toArray, List.getElem_cons_succ, List.getElem_cons_zero]; go_simp⟩
  simp only [Act.put, List.getElem_toArray, List.getElem_cons_succ, List.getElem_cons_zero, List.setIfInBounds_toArray, List.set_cons_succ, List.set_cons_zero]
  refine wpAnyH_take (i := 5) (v := (x)) rfl (by kernel_rfl) (by kernel_rfl) (by kernel_rfl) (fun _ _ _ h => (show False from h).elim) ?xyYBobytesany5 ?xhYBobytesany5 ?xrYBobytesany5
  case xhYBobytesany5 => exact hHeld
  case xyYBobytesany5 => exact Or.inl ⟨by rfl, fun W9 hW => by clear hHeld; simp only [List.getElem_toArray, List.getElem_cons_succ, List.getElem_cons_zero]; go_simp⟩
  simp only [Act.put, List.getElem_toArray, List.getElem_cons_succ, List.getElem_cons_zero, List.setIfInBounds_toArray, List.set_cons_succ, List.set_cons_zero]
  refine wpAnyH_ready (rs := [4, 6]) (by kernel_rfl) (by simp) ?_
  refine AllReadyH.cons rfl (fun K hK => ?_) (AllReadyH.cons rfl (fun K hK => ?_) AllReadyH.nil)
  · have d0 := HD0.out
    go_simp
    refine hK.out _ _ (hid trivial) (fun hHeld => ?_)
    clear hK K d0
    refine wpAnyH_ready (rs := [6]) (by kernel_rfl) (by simp) ?_
    refine AllReadyH.cons rfl (fun K hK => ?_) AllReadyH.nil
    go_simp
    go_wp2_with (first | (go_at_call 52; refine CNd.out.mono ?_; rintro en wT ⟨vT, rfl, hoT, hbT⟩; obtain ⟨ta, tc, rfl, hrT⟩ := gives_rd hoT; have HRT := hid hrT; have HBT := hid (HWd.out.trans (hbT.mono HWd.out.size)); have hdT := (World.cell?_of_block (w := Wd) (w' := wT) (a := ⟨a, 0, none⟩) (hbT.block _ (World.block_lt_of_cell? _ _ HD0.out))).trans HD0.out; have HDT := hid hdT; clear hbT hrT hoT hdT))
    refine hK.out _ _ (hid trivial) (fun hHeld => ?_)
    clear hK K
    have H1T : Hid (wT.heap[a]? = some (.cells #[.slice ao l.length c] 83 (0, 0))) := hid ((HBT.out.block _ (lt_of_block H1.out)).trans H1.out)
    have H2T := hid (own_old H2.out HBT.out)
    have H5T : Hid (Below W0.heap.size W0 wT) := hid (H5.out.trans (HBT.out.mono H5.out.size))
    have H6T : Hid (∀ p ∈ KK, wT.heap[p.1]? = some p.2 ∧ p.1 ≠ a ∧ (Value.slice ao l.length c).ownBlock ≠ some p.1) := hid fun p hp => ⟨(HBT.out.block _ (lt_of_block (H6.out p hp).1)).trans (H6.out p hp).1, (H6.out p hp).2⟩
    refine wpAnyH_ready (rs := [7]) (by kernel_rfl) (by simp) ?_
    refine AllReadyH.cons rfl (fun K hK => ?_) AllReadyH.nil
    refine step_bapp (by rfl) (.tmp 8) (.tmp 10) (by rfl) W0.heap.size _ _ _ (by rfl) H2T.out _ _ (by rfl) HRT.out HLB.out.1 (by have := HLB.out.2; omega) H5T.out.size (fun g cap w' o5 g5 gg5 => ?_)
    have HK := hid (heap_kept g5 H1T.out (fun e => H4.out e.symm))
    have HP := hid (St.put H1T.out H2T.out H3.out H4.out H5T.out H6T.out o5 g5 gg5)
    clear o5 g5 gg5
    refine hK.out _ _ (hid trivial) (fun hHeld => ?_)
    clear hK K
    simp only [Act.put, List.getElem_toArray, List.getElem_cons_succ, List.getElem_cons_zero, List.setIfInBounds_toArray, List.set_cons_succ, List.set_cons_zero]
    refine wpAnyH_take (i := 8) (v := (.pointer (some ⟨a, 0, none⟩))) rfl (by kernel_rfl) (by kernel_rfl) (by kernel_rfl) (fun _ _ _ h => (show False from h).elim) ?xyYBobytesany6 ?xhYBobytesany6 ?xrYBobytesany6
    case xhYBobytesany6 => exact hHeld
    case xyYBobytesany6 => exact Or.inl ⟨by rfl, fun W9 hW => by clear hHeld; simp only [List.getElem_toArray, List.getElem_cons_succ, List.getElem_cons_zero]; go_simp⟩
    simp only [Act.put, List.getElem_toArray, List.getElem_cons_succ, List.getElem_cons_zero, List.setIfInBounds_toArray, List.set_cons_succ, List.set_cons_zero]
    refine wpAnyH_take (i := 9) (v := (.pointer (some ⟨a, 0, none⟩))) rfl (by kernel_rfl) (by kernel_rfl) (by kernel_rfl) (fun _ _ _ h => (show False from h).elim) ?xyYBobytesany7 ?xhYBobytesany7 ?xrYBobytesany7
    case xhYBobytesany7 => exact hHeld
    case xyYBobytesany7 => exact Or.inl ⟨by rfl, fun W9 hW => by clear hHeld; simp only [List.getElem_toArray, List.getElem_cons_succ, List.getElem_cons_zero]; go_simp⟩
    simp only [Act.put, List.getElem_toArray, List.getElem_cons_succ, List.getElem_cons_zero, List.setIfInBounds_toArray, List.set_cons_succ, List.set_cons_zero]
    obtain ⟨k0, k1⟩ := one_cell HK.out
    refine wpAnyH_ready (rs := [10]) (by kernel_rfl) (by simp) ?_
    refine AllReadyH.cons rfl (fun K hK => ?_) AllReadyH.nil
    go_simp
    refine hK.out _ _ (hid trivial) (fun hHeld => ?_)
    clear hK K
    refine wpAnyH_done (by kernel_rfl) ?_ _
    refine NoPanic.normal ?_
    go_wp2_with fail
    go_end0
    exact ⟨rfl, HP.out⟩
  · go_simp
    go_wp2_with (first | (go_at_call 52; refine CNd.out.mono ?_; rintro en wT ⟨vT, rfl, hoT, hbT⟩; obtain ⟨ta, tc, rfl, hrT⟩ := gives_rd hoT; have HRT := hid hrT; have HBT := hid (HWd.out.trans (hbT.mono HWd.out.size)); have hdT := (World.cell?_of_block (w := Wd) (w' := wT) (a := ⟨a, 0, none⟩) (hbT.block _ (World.block_lt_of_cell? _ _ HD0.out))).trans HD0.out; have HDT := hid hdT; clear hbT hrT hoT hdT))
    refine hK.out _ _ (hid trivial) (fun hHeld => ?_)
    clear hK K
    have d1 := HDT.out
    refine wpAnyH_ready (rs := [4]) (by kernel_rfl) (by simp) ?_
    refine AllReadyH.cons rfl (fun K hK => ?_) AllReadyH.nil
    go_simp
    refine hK.out _ _ (hid trivial) (fun hHeld => ?_)
    clear hK K
    clear d1
    have H1T : Hid (wT.heap[a]? = some (.cells #[.slice ao l.length c] 83 (0, 0))) := hid ((HBT.out.block _ (lt_of_block H1.out)).trans H1.out)
    have H2T := hid (own_old H2.out HBT.out)
    have H5T : Hid (Below W0.heap.size W0 wT) := hid (H5.out.trans (HBT.out.mono H5.out.size))
    have H6T : Hid (∀ p ∈ KK, wT.heap[p.1]? = some p.2 ∧ p.1 ≠ a ∧ (Value.slice ao l.length c).ownBlock ≠ some p.1) := hid fun p hp => ⟨(HBT.out.block _ (lt_of_block (H6.out p hp).1)).trans (H6.out p hp).1, (H6.out p hp).2⟩
    refine wpAnyH_ready (rs := [7]) (by kernel_rfl) (by simp) ?_
    refine AllReadyH.cons rfl (fun K hK => ?_) AllReadyH.nil
    refine step_bapp (by rfl) (.tmp 8) (.tmp 10) (by rfl) W0.heap.size _ _ _ (by rfl) H2T.out _ _ (by rfl) HRT.out HLB.out.1 (by have := HLB.out.2; omega) H5T.out.size (fun g cap w' o5 g5 gg5 => ?_)
    have HK := hid (heap_kept g5 H1T.out (fun e => H4.out e.symm))
    have HP := hid (St.put H1T.out H2T.out H3.out H4.out H5T.out H6T.out o5 g5 gg5)
    clear o5 g5 gg5
    refine hK.out _ _ (hid trivial) (fun hHeld => ?_)
    clear hK K
    simp only [Act.put, List.getElem_toArray, List.getElem_cons_succ, List.getElem_cons_zero, List.setIfInBounds_toArray, List.set_cons_succ, List.set_cons_zero]
    refine wpAnyH_take (i := 8) (v := (.pointer (some ⟨a, 0, none⟩))) rfl (by kernel_rfl) (by kernel_rfl) (by kernel_rfl) (fun _ _ _ h => (show False from h).elim) ?xyYBobytesany8 ?xhYBobytesany8 ?xrYBobytesany8
    case xhYBobytesany8 => exact hHeld
    case xyYBobytesany8 => exact Or.inl ⟨by rfl, fun W9 hW => by clear hHeld; simp only [List.getElem_toArray, List.getElem_cons_succ, List.getElem_cons_zero]; go_simp⟩
    simp only [Act.put, List.getElem_toArray, List.getElem_cons_succ, List.getElem_cons_zero, List.setIfInBounds_toArray, List.set_cons_succ, List.set_cons_zero]
    refine wpAnyH_take (i := 9) (v := (.pointer (some ⟨a, 0, none⟩))) rfl (by kernel_rfl) (by kernel_rfl) (by kernel_rfl) (fun _ _ _ h => (show False from h).elim) ?xyYBobytesany9 ?xhYBobytesany9 ?xrYBobytesany9
    case xhYBobytesany9 => exact hHeld
    case xyYBobytesany9 => exact Or.inl ⟨by rfl, fun W9 hW => by clear hHeld; simp only [List.getElem_toArray, List.getElem_cons_succ, List.getElem_cons_zero]; go_simp⟩
    simp only [Act.put, List.getElem_toArray, List.getElem_cons_succ, List.getElem_cons_zero, List.setIfInBounds_toArray, List.set_cons_succ, List.set_cons_zero]
    obtain ⟨k0, k1⟩ := one_cell HK.out
    refine wpAnyH_ready (rs := [10]) (by kernel_rfl) (by simp) ?_
    refine AllReadyH.cons rfl (fun K hK => ?_) AllReadyH.nil
    go_simp
    refine hK.out _ _ (hid trivial) (fun hHeld => ?_)
    clear hK K
    refine wpAnyH_done (by kernel_rfl) ?_ _
    refine NoPanic.normal ?_
    go_wp2_with fail
    go_end0
    exact ⟨rfl, HP.out⟩

end Go.Proofs.Ytnjmhlmimpdahaa

set_option linter.unusedVariables false
set_option linter.unusedSimpArgs false
set_option maxRecDepth 100000
namespace Go.Proofs.Ytnjmhlmimpdahaa
open Go.RowKit Go.Deep

section
variable {W0 w : World} {KK : List (Nat × Obj)} {a : Nat} {l b : List UInt8} {v : Value}

theorem onumE (h : St 83 W0 KK a w l) (e : Enc W0 .num [v] b) (hl : l.length + b.length ≤ 1000000000000) : Calls Try.prog 31 #[.pointer (some ⟨a, 0, none⟩), v] w (Wrote 83 W0 KK a l b) := by
  obtain ⟨n, hn, hv, rfl⟩ := e
  cases hv
  exact onum_any h n hn hl
theorem obytesE (h : St 83 W0 KK a w l) (e : Enc W0 .data [v] b) (hl : l.length + b.length ≤ 1000000000000) : Calls Try.prog 32 #[.pointer (some ⟨a, 0, none⟩), v] w (Wrote 83 W0 KK a l b) := by
  obtain ⟨x, m, hv, _, hr, hm, rfl⟩ := e
  cases hv
  exact obytes_any h v m (hr.old h.below) (by omega) hl

end
end Go.Proofs.Ytnjmhlmimpdahaa

set_option linter.unusedVariables false
set_option linter.unusedSimpArgs false
set_option maxRecDepth 100000
namespace Go.Proofs.Ytnjmhlmimpdahaa
open Go.RowKit Go.Deep

theorem one_of {W : World} {s : Sh} {cs : List Value} {b : List UInt8} (h : Enc W s cs b) (hs : s.wid = 1) : ∃ v, cs = [v] := by
  have := h.wide.1
  rw [hs] at this
  exact List.length_eq_one_iff.1 this

/-- A cell of a block that stays. -/
theorem box_cell {T : TypeId} {W0 w : World} {B : Nat} {cs : List Value} {t : TypeId} {KK : List (Nat × Obj)} {a : Nat} {l : List UInt8} (h : St T W0 ((B, .cells cs.toArray t (0, 0)) :: KK) a w l) (j : Nat) (u : Value) (hj : cs[j]? = some u) : w.cell? ⟨B, j, none⟩ = some u := by
  have := h.at
  simp [World.cell?, this, hj]

theorem form_num {W : World} {v : Value} {b : List UInt8} (h : Enc W .num [v] b) : ∃ n : Nat, v = .int .u64 (n : Int) := by
  obtain ⟨n, _, hv, _⟩ := h; cases hv; exact ⟨n, rfl⟩
theorem form_data {W : World} {v : Value} {b : List UInt8} (h : Enc W .data [v] b) : ∃ (a : Option Addr) (n c : Nat), v = .slice a n c := by
  obtain ⟨x, l, hv, _, hr, _⟩ := h
  cases hv
  obtain ⟨ao, c, rfl, _⟩ := hr
  exact ⟨ao, _, c, rfl⟩
theorem len_now {cur b r : List UInt8} {N : Nat} (h : cur.length + (b ++ r).length ≤ N) : cur.length + b.length ≤ N := by
  rw [List.length_append] at h; omega
theorem len_step {cur b r : List UInt8} {N : Nat} (h : cur.length + (b ++ r).length ≤ N) : (cur ++ b).length + r.length ≤ N := by
  rw [List.length_append] at h ⊢; omega

/-- A new writer, behind the box of what it shall write. -/
theorem St.begin (W0 : World) (cs : Array Value) (t T : TypeId) : St T W0 [(W0.heap.size, .cells cs t (0, 0))] (W0.heap.size + 1) ((W0.alloc (.cells cs t)).alloc (.cells #[.slice none 0 0] T)) [] := by
  have h1 := heap_alloc2_new W0 (.cells cs t) (.cells #[.slice none 0 0] T)
  have hb : Below W0.heap.size W0 ((W0.alloc (.cells cs t)).alloc (.cells #[.slice none 0 0] T)) := ((Below.refl _ _).alloc (Nat.le_refl _) _).alloc (by simp) _
  have h0 := (Below.heap_alloc (W0.alloc (.cells cs t)) (.cells #[.slice none 0 0] T) W0.heap.size (by simp)).trans (heap_alloc_new W0 (.cells cs t))
  refine ⟨none, 0, h1, World.ownsRow_nil _ _ _ _, by omega, by simp [Value.ownBlock], hb, fun p hp => ?_⟩
  rcases List.mem_cons.1 hp with rfl | hp
  · exact ⟨h0, by show W0.heap.size ≠ _; omega, by simp [Value.ownBlock]⟩
  · cases hp
theorem St.ends {T : TypeId} {W0 w : World} {K : List (Nat × Obj)} {a : Nat} {l : List UInt8} (h : St T W0 K a w l) : ∃ cx : Value, w.heap[a]? = some (.cells #[cx] T (0, 0)) ∧ Gives 5 W0 l (.returned cx) w := by
  obtain ⟨ao, c, h1, h2, h3, h4, h5, h6⟩ := h
  exact ⟨_, h1, _, rfl, h2, h5⟩
def sCall : Sh := .cons .num (.cons .num (.cons .data .nil))

theorem Call_cells {W0 : World} {cs : List Value} {bs : List UInt8} (h : Enc W0 sCall cs bs) : ∃ (v0 v1 v2 : Value) (b0 b1 b2 : List UInt8), cs = [v0, v1, v2] ∧ bs = b0 ++ (b1 ++ b2) ∧ Enc W0 .num [v0] b0 ∧ Enc W0 .num [v1] b1 ∧ Enc W0 .data [v2] b2 := by
  unfold sCall at h
  obtain ⟨c0, r0, p0, q0, rfl, rfl, f0, h⟩ := h
  obtain ⟨v0, rfl⟩ := one_of f0 rfl
  have e0 := f0
  obtain ⟨c1, r1, p1, q1, rfl, rfl, f1, h⟩ := h
  obtain ⟨v1, rfl⟩ := one_of f1 rfl
  have e1 := f1
  obtain ⟨c2, r2, p2, q2, rfl, rfl, f2, h⟩ := h
  obtain ⟨v2, rfl⟩ := one_of f2 rfl
  have e2 := f2
  obtain ⟨rfl, rfl⟩ := h
  exact ⟨v0, v1, v2, p0, p1, p2, rfl, by simp [List.append_assoc], e0, e1, e2⟩

end Go.Proofs.Ytnjmhlmimpdahaa

set_option linter.unusedVariables false
set_option linter.unusedSimpArgs false
set_option maxRecDepth 100000
namespace Go.Proofs.Ytnjmhlmimpdahaa
open Go.RowKit Go.Deep

/-- What a reader has: what is left, and its fault. -/
abbrev Rst := List UInt8 × Int

/-- A list's things, one by one: how many, their bytes, and what the reader has then (behind a fault it stops). -/
def rdLF (f : Rst → List UInt8 × Rst) : Nat → Rst → Nat × List UInt8 × Rst
  | 0, st => (0, [], st)
  | n + 1, st => if (f st).2.2 ≠ 0 then (1, (f st).1, (f st).2) else ((rdLF f n (f st).2).1 + 1, (f st).1 ++ (rdLF f n (f st).2).2.1, (rdLF f n (f st).2).2.2)

/-- What is read, by its plain bytes, and what the reader has then. -/
def rdF : Sh → Rst → List UInt8 × Rst
  | .num, st => (numL (lookS maxU st.1 st.2).1, st.1.drop (lookS maxU st.1 st.2).2.1, (lookS maxU st.1 st.2).2.2)
  | .int, st => (numL (zig (unzig (lookS maxU st.1 st.2).1)), st.1.drop (lookS maxU st.1 st.2).2.1, (lookS maxU st.1 st.2).2.2)
  | .bool, st => (numL (if decide ((lookS 1 st.1 st.2).1 = 1) then 1 else 0), st.1.drop (lookS 1 st.1 st.2).2.1, (lookS 1 st.1 st.2).2.2)
  | .data, st => (textL (textS 65536 st.1 st.2).1, st.1.drop (textS 65536 st.1 st.2).2.1, (textS 65536 st.1 st.2).2.2)
  | .name, st => (textL (textS 65536 st.1 st.2).1, st.1.drop (textS 65536 st.1 st.2).2.1, (textS 65536 st.1 st.2).2.2)
  | .list s, st => (numL (rdLF (rdF s) (lookS 5000 st.1 st.2).1 (st.1.drop (lookS 5000 st.1 st.2).2.1, (lookS 5000 st.1 st.2).2.2)).1 ++ (rdLF (rdF s) (lookS 5000 st.1 st.2).1 (st.1.drop (lookS 5000 st.1 st.2).2.1, (lookS 5000 st.1 st.2).2.2)).2.1,
      (rdLF (rdF s) (lookS 5000 st.1 st.2).1 (st.1.drop (lookS 5000 st.1 st.2).2.1, (lookS 5000 st.1 st.2).2.2)).2.2)
  | .nil, st => ([], st)
  | .cons s r, st => ((rdF s st).1 ++ (rdF r (rdF s st).2).1, (rdF r (rdF s st).2).2)

/-- The cells have these plain bytes, and all their memory lies in blocks of N. -/
def EncN (N : Nat → Prop) (W : World) : Sh → List Value → List UInt8 → Prop
  | .num, cs, bs => Enc W .num cs bs
  | .int, cs, bs => Enc W .int cs bs
  | .bool, cs, bs => Enc W .bool cs bs
  | .data, cs, bs => ∃ x l, cs = [x] ∧ x.oneCell' = true ∧ Rd W x l ∧ l.length ≤ 1048576 ∧ bs = textL l ∧ ∀ k, blk x = some k → N k
  | .name, cs, bs => Enc W .name cs bs
  | .list s, cs, bs => ∃ (a : Option Addr) (c : Nat) (M : List (List Value × List UInt8)), cs = [.slice a M.length c] ∧ Rws s.wid W (.slice a M.length c) (M.map (·.1)) ∧ (∀ m ∈ M, EncN N W s m.1 m.2) ∧ M.length ≤ 1048576 ∧ bs = numL M.length ++ (M.map (·.2)).flatten ∧ ∀ k, blk (.slice a M.length c) = some k → N k
  | .nil, cs, bs => cs = [] ∧ bs = []
  | .cons s r, cs, bs => ∃ c1 c2 b1 b2, cs = c1 ++ c2 ∧ bs = b1 ++ b2 ∧ EncN N W s c1 b1 ∧ EncN N W r c2 b2

theorem EncN.enc {N : Nat → Prop} {W : World} : ∀ (s : Sh) {cs : List Value} {bs : List UInt8}, EncN N W s cs bs → Enc W s cs bs
  | .num, cs, bs, h => h
  | .int, cs, bs, h => h
  | .bool, cs, bs, h => h
  | .data, cs, bs, h => by obtain ⟨x, l, h1, h2, h3, h4, h5, _⟩ := h; exact ⟨x, l, h1, h2, h3, h4, h5⟩
  | .name, cs, bs, h => h
  | .list s, cs, bs, h => by
    obtain ⟨a, c, M, h1, h2, h3, h4, h5, _⟩ := h
    exact ⟨a, c, M, h1, h2, fun m hm => EncN.enc s (h3 m hm), h4, h5⟩
  | .nil, cs, bs, h => h
  | .cons s r, cs, bs, h => by
    obtain ⟨c1, c2, b1, b2, h1, h2, h3, h4⟩ := h
    exact ⟨c1, c2, b1, b2, h1, h2, EncN.enc s h3, EncN.enc r h4⟩

theorem EncN.mono {N N' : Nat → Prop} {W : World} (hN : ∀ k, N k → N' k) : ∀ (s : Sh) {cs : List Value} {bs : List UInt8}, EncN N W s cs bs → EncN N' W s cs bs
  | .num, cs, bs, h => h
  | .int, cs, bs, h => h
  | .bool, cs, bs, h => h
  | .data, cs, bs, h => by obtain ⟨x, l, h1, h2, h3, h4, h5, h6⟩ := h; exact ⟨x, l, h1, h2, h3, h4, h5, fun k hk => hN k (h6 k hk)⟩
  | .name, cs, bs, h => h
  | .list s, cs, bs, h => by
    obtain ⟨a, c, M, h1, h2, h3, h4, h5, h6⟩ := h
    exact ⟨a, c, M, h1, h2, fun m hm => EncN.mono hN s (h3 m hm), h4, h5, fun k hk => hN k (h6 k hk)⟩
  | .nil, cs, bs, h => h
  | .cons s r, cs, bs, h => by
    obtain ⟨c1, c2, b1, b2, h1, h2, h3, h4⟩ := h
    exact ⟨c1, c2, b1, b2, h1, h2, EncN.mono hN s h3, EncN.mono hN r h4⟩

theorem EncN.keep {N X : Nat → Prop} {W W' : World} (hk : Keep X W W') (hx : ∀ k, N k → ¬ X k) : ∀ (s : Sh) {cs : List Value} {bs : List UInt8}, EncN N W s cs bs → EncN N W' s cs bs
  | .num, cs, bs, h => h
  | .int, cs, bs, h => h
  | .bool, cs, bs, h => h
  | .data, cs, bs, h => by obtain ⟨x, l, h1, h2, h3, h4, h5, h6⟩ := h; exact ⟨x, l, h1, h2, h3.keep hk (fun _ k hb => hx k (h6 k hb)), h4, h5, h6⟩
  | .name, cs, bs, h => h
  | .list s, cs, bs, h => by
    obtain ⟨a, c, M, h1, h2, h3, h4, h5, h6⟩ := h
    exact ⟨a, c, M, h1, h2.keep hk (fun _ k hb => hx k (h6 k hb)), fun m hm => EncN.keep hk hx s (h3 m hm), h4, h5, h6⟩
  | .nil, cs, bs, h => h
  | .cons s r, cs, bs, h => by
    obtain ⟨c1, c2, b1, b2, h1, h2, h3, h4⟩ := h
    exact ⟨c1, c2, b1, b2, h1, h2, EncN.keep hk hx s h3, EncN.keep hk hx r h4⟩

theorem RAt.keepK {X : Nat → Prop} {w w' : World} {R : Nat} {l : List UInt8} {e : Int} (h : RAt w R l e) (hk : Keep X w w') (hx : ∀ k, X k → R < k) : RAt w' R l e := by
  obtain ⟨ao, c, h1, h2, h3⟩ := h
  refine ⟨ao, c, (hk.block R (lt_of_block h1) (fun hR => by have := hx R hR; omega)).trans h1, h2.keep hk (fun _ k hb hX => ?_), h3⟩
  have a1 := hx k hX
  have a2 := h3 k hb
  omega

/-- What a reading call leaves. -/
def RdP (s : Sh) (R : Nat) (w : World) (st : Rst) (cs : List Value) (w' : World) : Prop :=
  EncN (fun k => w.heap.size ≤ k ∧ k < w'.heap.size) w' s cs (rdF s st).1 ∧ RAt w' R (rdF s st).2.1 (rdF s st).2.2 ∧ Keep (fun k => k = R) w w'

theorem textS_len (m : Nat) (l : List UInt8) (e : Int) : (textS m l e).1.length ≤ m := by
  unfold textS
  split
  · simp
  · split
    · simp
    · rw [List.length_take]
      have := lookS_most m l e
      omega

end Go.Proofs.Ytnjmhlmimpdahaa

set_option linter.unusedVariables false
set_option linter.unusedSimpArgs false
set_option maxRecDepth 100000
namespace Go.Proofs.Ytnjmhlmimpdahaa
open Go.RowKit Go.Deep

theorem row_at {w : World} {b : Nat} {cs : List Value} {t : TypeId} {i : Nat} {u : Value} (h : w.heap[b]? = some (.cells cs.toArray t (0, 0))) (hi : cs[i]? = some u) : w.cell? ⟨b, i, none⟩ = some u ∧ w.frozen? ⟨b, i, none⟩ = false := by
  constructor
  · simp only [World.cell?, h]; simpa using hi
  · simp [World.frozen?, h]
theorem row_put {w : World} {b : Nat} {cs : List Value} {t : TypeId} (h : w.heap[b]? = some (.cells cs.toArray t (0, 0))) (i : Nat) (v : Value) : (w.setCell ⟨b, i, none⟩ v).heap[b]? = some (.cells (cs.set i v).toArray t (0, 0)) := by
  have hlt := lt_of_block h
  have h' : w.heap[b] = .cells cs.toArray t (0, 0) := by simpa [Array.getElem?_eq_getElem hlt] using h
  show (w.heap.modify b _)[b]? = _
  rw [Array.getElem?_eq_getElem (by simpa using hlt), Array.getElem_modify_self, h']
  simp

/-- What a field's reading leaves. -/
def TkP (s : Sh) (R B : Nat) (w : World) (st : Rst) (cs : List Value) (t : TypeId) (i : Nat) (v : Value) (w' : World) : Prop :=
  EncN (fun k => w.heap.size ≤ k ∧ k < w'.heap.size) w' s [v] (rdF s st).1 ∧ w'.heap[B]? = some (.cells (cs.set i v).toArray t (0, 0)) ∧ RAt w' R (rdF s st).2.1 (rdF s st).2.2 ∧ Keep (fun k => k = R ∨ k = B) w w'

/-- A value that was read is stored. -/
theorem RdP.store {s : Sh} {R B : Nat} {w w' : World} {st : Rst} {cs : List Value} {t : TypeId} {v : Value} (h : RdP s R w st [v] w') (hB : w.heap[B]? = some (.cells cs.toArray t (0, 0))) (hRB : R < B) (i : Nat) :
    TkP s R B w st cs t i v (w'.setCell ⟨B, i, none⟩ v) := by
  obtain ⟨h1, h2, h3⟩ := h
  have hlt := lt_of_block hB
  have hB' : w'.heap[B]? = some (.cells cs.toArray t (0, 0)) := (h3.block B hlt (fun e => by omega)).trans hB
  have hk : Keep (fun k => k = B) w' (w'.setCell ⟨B, i, none⟩ v) := Keep.set w' ⟨B, i, none⟩ v rfl
  refine ⟨EncN.mono (fun k h => ⟨h.1, Nat.lt_of_lt_of_le h.2 hk.size⟩) s (EncN.keep hk (fun k h e => by have e' : k = B := e; have := h.1; omega) s h1), row_put hB' i v, h2.keepK hk (fun k e => by have e' : k = B := e; omega), ?_⟩
  exact (h3.mono (fun k _ e => .inl e)).trans (hk.mono (fun k _ e => .inr e))

theorem rd_len : ∀ (s : Sh) (st : Rst), (rdF s st).2.1.length ≤ st.1.length
  | .num, st => by simp only [rdF, List.length_drop]; omega
  | .int, st => by simp only [rdF, List.length_drop]; omega
  | .bool, st => by simp only [rdF, List.length_drop]; omega
  | .data, st => by simp only [rdF, List.length_drop]; omega
  | .name, st => by simp only [rdF, List.length_drop]; omega
  | .list s, st => by
    have h : ∀ n (st : Rst), (rdLF (rdF s) n st).2.2.1.length ≤ st.1.length := fun n => by
      induction n with
      | zero => intro st; exact Nat.le_refl _
      | succ n ih =>
        intro st
        have h1 := rd_len s st
        simp only [rdLF]
        split
        · exact h1
        · exact Nat.le_trans (ih _) h1
    have := h (lookS 5000 st.1 st.2).1 (st.1.drop (lookS 5000 st.1 st.2).2.1, (lookS 5000 st.1 st.2).2.2)
    simp only [rdF]
    refine Nat.le_trans this ?_
    simp
  | .nil, st => Nat.le_refl _
  | .cons s r, st => Nat.le_trans (rd_len r _) (rd_len s _)

/-- 'append(v, x)' of one row at a step of a region that draws. -/
theorem step_app1 {w : World} {ops : Array Oper} {o : Oper} {a : Act} {K : Act → World → Prop} {Q : Exit → Act → World → Prop} {E : Prop} (hgd : o.guard = none) (s x : Operand) (t : TypeId)
    (ho : o.op = .call { callee := .builtin .append, args := #[s, x], argTypes := #[t, t] })
    (base : Nat) (e : TypeId) (ht : Try.prog.underlying t = some (.slice e)) {i : TypeInfo} (hi : Try.prog.info? e = some i) {z : Value} {size bytes : Nat} (hz : i.zero = some z) (hsize : i.size = size) (hby : i.bytes = bytes) (hzs : z.cells.size = size) (hsz : 0 < size)
    (v : Value) (n : Nat) (xs : List Value) (hs : a.eval s = v) (hown : w.ownsRow base e size v n xs)
    (g0 : Nat) (r : List Value) (hx : a.eval x = .slice (some ⟨g0, 0, none⟩) 1 1) (hr : w.heap[g0]? = some (.cells r.toArray e (0, 0))) (hrl : r.length = size) (h1 : ∀ u ∈ r, u.oneCell' = true) (h63 : n + 1 ≤ 100000) (hbytes : bytes ≤ 1000) (hbase : base ≤ w.heap.size)
    (h : ∀ g cap w', w'.ownsRow base e size (.slice (some ⟨g, 0, none⟩) (n + 1) cap) (n + 1) (xs ++ r) → w.grownBy w' v.ownBlock → (v.ownBlock = some g ∨ g = w.heap.size) → K (a.put o.dst (.slice (some ⟨g, 0, none⟩) (n + 1) cap)) w') :
    if Region.wanted o (yielded ops a.tmps) = true then Oper.wp Try.prog o a w K Q else E := by
  have hb : (n + 1) * bytes ≤ 140737488355328 := by
    have := Nat.mul_le_mul h63 hbytes
    omega
  exact step_append_lies w hgd s x t ho base e i z size bytes ht hi hz hsize hby hzs hsz v n xs hs hown ⟨g0, 0, none⟩ 1 1 r hx (by omega) (fun j u hu => by
      rw [WideShapes.add_plain, Nat.zero_add]
      exact (row_at hr hu).1) h1 (by decide) (by unfold maxLen; omega) hb hbase _ rfl (fun g cap w' a1 a2 a3 _ => h g cap w' a1 a2 a3)

end Go.Proofs.Ytnjmhlmimpdahaa

set_option linter.unusedVariables false
set_option linter.unusedSimpArgs false
set_option maxRecDepth 100000
namespace Go.Proofs.Ytnjmhlmimpdahaa
open Go.RowKit Go.Deep

theorem results_cell2 {P : Program} {fn : Func} {p u : Tmp} {ty : TypeId} (h : fn.results = #[.cell p ty, .tmp u]) (tmps : Array Value) (w : World) (g : Nat) (t : TypeId) (cs : Array Value) (fr : Nat × Nat) (d : TypeDesc)
    (hp : tmps.getD p undef = .pointer (some ⟨g, 0, none⟩)) (hg : w.heap[g]? = some (.cells cs t fr))
    (hu : P.underlying ty = some d) (hd : (match d with | .struct _ | .array _ _ => true | _ => false) = true) (hi : (P.info? ty).map (·.size) = some cs.size) :
    (results fn tmps).run P w = .ok (.tuple #[.agg cs, tmps.getD u undef]) w := by
  have hp' : tmps[p]?.getD undef = .pointer (some ⟨g, 0, none⟩) := by simpa using hp
  simp [results, h, hp', asAddr, run_loadVar_row w g t ty cs fr d hg hu hd hi]

end Go.Proofs.Ytnjmhlmimpdahaa

set_option linter.unusedVariables false
set_option linter.unusedSimpArgs false
set_option maxRecDepth 100000
namespace Go.Proofs.Ytnjmhlmimpdahaa
open Go.RowKit Go.Deep

theorem rnum9_any {w : World} {R : Nat} {st : Rst} (h : RAt w R st.1 st.2) : Calls Try.prog 44 #[.pointer (some ⟨R, 0, none⟩)] w (fun en w' => ∃ v, en = .returned v ∧ RdP .num R w st [v] w') := by
  refine (numR_any w R st.1 st.2 h).mono ?_
  rintro en w2 ⟨rfl, h2, g2⟩
  exact ⟨_, rfl, ⟨_, lookS_lt _ _ _, rfl, rfl⟩, h2, Keep.of_grown g2 (fun k e => by cases e; rfl)⟩

set_option maxHeartbeats 1000000 in
theorem rdata_any {w : World} {R : Nat} {st : Rst} (h : RAt w R st.1 st.2) (hl : st.1.length ≤ 140737488355328) : Calls Try.prog 69 #[.agg #[.pointer (some ⟨R, 0, none⟩)]] w (fun en w' => ∃ v, en = .returned v ∧ RdP .data R w st [v] w') := by
  have hb : Below w.heap.size w (w.alloc (.cells #[.pointer (some ⟨R, 0, none⟩)] 103)) := (Below.refl _ _).alloc (Nat.le_refl _) _
  have hz := (one_cell (heap_alloc_new w (.cells #[.pointer (some ⟨R, 0, none⟩)] 103))).1
  have H := hid (h.old hb)
  have HB := hid hb
  clear h hb
  go_enter Try.func69, Try.ntmps69
  go_upto_region 1 with fail
  have hs1 : w.heap.size ≤ (w.alloc (.cells #[.pointer (some ⟨R, 0, none⟩)] 103)).heap.size := HB.out.size
  have HS1 := hid hs1
  clear hs1
  generalize w.alloc (.cells #[.pointer (some ⟨R, 0, none⟩)] 103) = w1 at *
  obtain ⟨tx, htx⟩ : ∃ tx, tx = textS 65536 st.1 st.2 := ⟨_, rfl⟩
  have C : Calls Try.prog 28 #[.pointer (some ⟨R, 0, none⟩), .int .i64 65536] w1 (TextIs w1 R tx st.1) := by rw [htx]; exact textR_any w1 R st.1 st.2 65536 (by decide) H.out hl
  have HTL : Hid (tx.1.length ≤ 1048576) := hid (by rw [htx]; exact Nat.le_trans (textS_len _ _ _) (by decide))
  have HTX := hid htx
  have CH := hid C
  clear C htx
  go_upto_region 2 with (first | (go_at_call 28; refine CH.out.mono ?_; rintro en w2 ⟨ao, c, rfl, ho, h2, g2⟩; have HO := hid ho; have H2 := hid h2; have G2 := hid g2; clear ho h2 g2))
  by_cases h0 : tx.1.length = 0
  · have HL0 := hid h0
    have hn0 : (tx.1.length : Int) = 0 := by omega
    go_wp2_with fail
    go_ret
    refine ⟨_, rfl, ⟨_, [], rfl, rfl, Rd.nil _, by decide, ?_, fun k e => by cases e⟩, ?_, (Keep.of_below HB.out).trans (Keep.of_grown G2.out (fun k e => by cases e; rfl))⟩
    · simp only [rdF]; rw [← HTX.out, List.eq_nil_of_length_eq_zero HL0.out]
    · simp only [rdF]; rw [← HTX.out]; exact H2.out
  · have hn0 : ¬ (tx.1.length : Int) = 0 := by omega
    go_wp2_with fail
    go_ret
    refine ⟨_, rfl, ⟨_, tx.1, rfl, rfl, Rd.own HO.out, HTL.out, ?_, fun k e => ?_⟩, ?_, (Keep.of_below HB.out).trans (Keep.of_grown G2.out (fun k e => by cases e; rfl))⟩
    · simp only [rdF]; rw [← HTX.out]
    · have := HO.out.lt k (by rw [ownBlock_blk]; exact e); exact ⟨Nat.le_trans HS1.out this.1, this.2⟩
    · simp only [rdF]; rw [← HTX.out]; exact H2.out

set_option maxHeartbeats 2000000 in
theorem rtake_data {w : World} {R B : Nat} {st : Rst} {cs : List Value} {t : TypeId} (i : Nat) {u : Value} (h : RAt w R st.1 st.2) (hl : st.1.length ≤ 140737488355328) (hB : w.heap[B]? = some (.cells cs.toArray t (0, 0))) (hi : cs[i]? = some u) (hRB : R < B) :
    Calls Try.prog 68 #[.pointer (some ⟨B, i, none⟩), (.func (.func 69) #[.agg #[.pointer (some ⟨R, 0, none⟩)]] #[])] w (fun en w' => en = .returned (.tuple #[]) ∧ ∃ v, TkP .data R B w st cs t i v w') := by
  have C := hid (rdata_any h hl)
  have HB := hid hB
  have HI := hid hi
  clear hB hi h
  go_enter Try.func68, Try.ntmps68
  go_wp2_with (first | (go_at_call 69; refine C.out.mono ?_; rintro en w2 ⟨v, rfl, hv⟩; obtain ⟨y0, y1, y2, rfl⟩ := form_data (EncN.enc _ hv.1); have HV := hid hv; obtain ⟨z0, z1⟩ := row_at ((hv.2.2.block B (lt_of_block HB.out) (fun e => by have e9 : B = R := e; omega)).trans HB.out) HI.out; clear hv))
  go_end0
  exact ⟨rfl, _, HV.out.store HB.out hRB i⟩

set_option maxHeartbeats 2000000 in
theorem rtake_num9 {w : World} {R B : Nat} {st : Rst} {cs : List Value} {t : TypeId} (i : Nat) {u : Value} (h : RAt w R st.1 st.2) (hl : st.1.length ≤ 140737488355328) (hB : w.heap[B]? = some (.cells cs.toArray t (0, 0))) (hi : cs[i]? = some u) (hRB : R < B) :
    Calls Try.prog 67 #[.pointer (some ⟨B, i, none⟩), (.func (.func 44) #[.pointer (some ⟨R, 0, none⟩)] #[])] w (fun en w' => en = .returned (.tuple #[]) ∧ ∃ v, TkP .num R B w st cs t i v w') := by
  have C := hid (rnum9_any h)
  have HB := hid hB
  have HI := hid hi
  clear hB hi h
  go_enter Try.func67, Try.ntmps67
  go_wp2_with (first | (go_at_call 44; refine C.out.mono ?_; rintro en w2 ⟨v, rfl, hv⟩; obtain ⟨y0, rfl⟩ := form_num (EncN.enc _ hv.1); have HV := hid hv; obtain ⟨z0, z1⟩ := row_at ((hv.2.2.block B (lt_of_block HB.out) (fun e => by have e9 : B = R := e; omega)).trans HB.out) HI.out; clear hv))
  go_end0
  exact ⟨rfl, _, HV.out.store HB.out hRB i⟩

end Go.Proofs.Ytnjmhlmimpdahaa

set_option linter.unusedVariables false
set_option linter.unusedSimpArgs false
set_option maxRecDepth 100000
namespace Go.Proofs.Ytnjmhlmimpdahaa
open Go.RowKit Go.Deep

set_option maxHeartbeats 8000000 in
theorem rCall_any {w : World} {R : Nat} {st : Rst} (h : RAt w R st.1 st.2) (hl : st.1.length ≤ 140737488355328) :
    Calls Try.prog 54 #[.agg #[.pointer (some ⟨R, 0, none⟩)]] w (fun en w' => ∃ cs, en = .returned (.agg cs.toArray) ∧ RdP sCall R w st cs w') := by
  have hb : Below w.heap.size w ((w.alloc (.cells #[.pointer (some ⟨R, 0, none⟩)] 103)).alloc (.cells #[.int .u64 0, .int .u64 0, .slice none 0 0] 37)) := ((Below.refl _ _).alloc (Nat.le_refl _) _).alloc (by simp) _
  have hz := (Below.heap_alloc (w.alloc (.cells #[.pointer (some ⟨R, 0, none⟩)] 103)) (.cells #[.int .u64 0, .int .u64 0, .slice none 0 0] 37) w.heap.size (by simp)).trans (heap_alloc_new w (.cells #[.pointer (some ⟨R, 0, none⟩)] 103))
  have hB := heap_alloc2_new w (.cells #[.pointer (some ⟨R, 0, none⟩)] 103) (.cells #[.int .u64 0, .int .u64 0, .slice none 0 0] 37)
  obtain ⟨B, hBe⟩ : ∃ B, B = w.heap.size + 1 := ⟨_, rfl⟩
  have hRw := h.lt
  have hRB : R < B := by omega
  have HR0 := hid (h.old hb)
  rw [← hBe] at hB
  have HB0 := hid hB
  have HX0 := hid hz
  have HBW := hid hb
  have HL0 := hid hl
  clear h hb hz hB hl
  go_enter Try.func54, Try.ntmps54
  go_upto_region 1 with fail
  generalize (w.alloc (.cells #[.pointer (some ⟨R, 0, none⟩)] 103)).alloc (.cells #[.int .u64 0, .int .u64 0, .slice none 0 0] 37) = w0 at *
  try rw [← hBe]
  have HK0 : Hid (Keep (fun j => j = R ∨ j = B) w0 w0) := hid (Keep.refl _ _)
  have HBE := hid hBe
  clear hBe
  have y0 := (one_cell HX0.out).1
  have CQ := hid (rtake_num9 0 HR0.out HL0.out HB0.out rfl hRB)
  go_upto_region 2 with (first | (go_at_call 67; refine CQ.out.mono ?_; rintro en w1 ⟨rfl, v0, hv⟩; have HV0 := hid hv; clear hv))
  clear CQ y0
  have HB1 : Hid (w1.heap[B]? = some (.cells #[v0, .int .u64 0, .slice none 0 0] 37 (0, 0))) := HV0.out.2.1
  have HR1 : Hid (RAt w1 R (rdF .num st).2.1 (rdF .num st).2.2) := HV0.out.2.2.1
  have HL1 : Hid ((rdF .num st).2.1.length ≤ 140737488355328) := hid (Nat.le_trans (rd_len _ _) HL0.out)
  have HX1 := hid ((HV0.out.2.2.2.block w.heap.size (lt_of_block HX0.out) (fun e => by have e9 : w.heap.size = R ∨ w.heap.size = B := e; have := HBE.out; omega)).trans HX0.out)
  have HK1 := hid (HK0.out.trans HV0.out.2.2.2)
  have HE0_1 : Hid (EncN (fun j => B < j ∧ j < w1.heap.size) w1 .num [v0] (rdF .num st).1) := hid (EncN.mono (fun j hj => ⟨Nat.lt_of_lt_of_le (lt_of_block HB0.out) hj.1, hj.2⟩) _ HV0.out.1)
  have y0 := (one_cell HX1.out).1
  have CQ := hid (rtake_num9 1 HR1.out HL1.out HB1.out rfl hRB)
  go_upto_region 3 with (first | (go_at_call 67; refine CQ.out.mono ?_; rintro en w2 ⟨rfl, v1, hv⟩; have HV1 := hid hv; clear hv))
  clear CQ y0
  have HB2 : Hid (w2.heap[B]? = some (.cells #[v0, v1, .slice none 0 0] 37 (0, 0))) := HV1.out.2.1
  have HR2 : Hid (RAt w2 R (rdF .num (rdF .num st).2).2.1 (rdF .num (rdF .num st).2).2.2) := HV1.out.2.2.1
  have HL2 : Hid ((rdF .num (rdF .num st).2).2.1.length ≤ 140737488355328) := hid (Nat.le_trans (rd_len _ _) HL1.out)
  have HX2 := hid ((HV1.out.2.2.2.block w.heap.size (lt_of_block HX1.out) (fun e => by have e9 : w.heap.size = R ∨ w.heap.size = B := e; have := HBE.out; omega)).trans HX1.out)
  have HK2 := hid (HK1.out.trans HV1.out.2.2.2)
  have HE1_2 : Hid (EncN (fun j => B < j ∧ j < w2.heap.size) w2 .num [v1] (rdF .num (rdF .num st).2).1) := hid (EncN.mono (fun j hj => ⟨Nat.lt_of_lt_of_le (lt_of_block HB1.out) hj.1, hj.2⟩) _ HV1.out.1)
  have HE0_2 : Hid (EncN (fun j => B < j ∧ j < w2.heap.size) w2 .num [v0] (rdF .num st).1) := hid (EncN.mono (fun j hj => ⟨hj.1, Nat.lt_of_lt_of_le hj.2 HV1.out.2.2.2.size⟩) _ (EncN.keep HV1.out.2.2.2 (fun j hj e => by have e9 : j = R ∨ j = B := e; have := hj.1; omega) _ HE0_1.out))
  clear HE0_1
  have y0 := (one_cell HX2.out).1
  have CQ := hid (rtake_data 2 HR2.out HL2.out HB2.out rfl hRB)
  go_upto_region 4 with (first | (go_at_call 68; refine CQ.out.mono ?_; rintro en w3 ⟨rfl, v2, hv⟩; have HV2 := hid hv; clear hv))
  clear CQ y0
  have HB3 : Hid (w3.heap[B]? = some (.cells #[v0, v1, v2] 37 (0, 0))) := HV2.out.2.1
  have HR3 : Hid (RAt w3 R (rdF .data (rdF .num (rdF .num st).2).2).2.1 (rdF .data (rdF .num (rdF .num st).2).2).2.2) := HV2.out.2.2.1
  have HL3 : Hid ((rdF .data (rdF .num (rdF .num st).2).2).2.1.length ≤ 140737488355328) := hid (Nat.le_trans (rd_len _ _) HL2.out)
  have HX3 := hid ((HV2.out.2.2.2.block w.heap.size (lt_of_block HX2.out) (fun e => by have e9 : w.heap.size = R ∨ w.heap.size = B := e; have := HBE.out; omega)).trans HX2.out)
  have HK3 := hid (HK2.out.trans HV2.out.2.2.2)
  have HE2_3 : Hid (EncN (fun j => B < j ∧ j < w3.heap.size) w3 .data [v2] (rdF .data (rdF .num (rdF .num st).2).2).1) := hid (EncN.mono (fun j hj => ⟨Nat.lt_of_lt_of_le (lt_of_block HB2.out) hj.1, hj.2⟩) _ HV2.out.1)
  have HE0_3 : Hid (EncN (fun j => B < j ∧ j < w3.heap.size) w3 .num [v0] (rdF .num st).1) := hid (EncN.mono (fun j hj => ⟨hj.1, Nat.lt_of_lt_of_le hj.2 HV2.out.2.2.2.size⟩) _ (EncN.keep HV2.out.2.2.2 (fun j hj e => by have e9 : j = R ∨ j = B := e; have := hj.1; omega) _ HE0_2.out))
  have HE1_3 : Hid (EncN (fun j => B < j ∧ j < w3.heap.size) w3 .num [v1] (rdF .num (rdF .num st).2).1) := hid (EncN.mono (fun j hj => ⟨hj.1, Nat.lt_of_lt_of_le hj.2 HV2.out.2.2.2.size⟩) _ (EncN.keep HV2.out.2.2.2 (fun j hj e => by have e9 : j = R ∨ j = B := e; have := hj.1; omega) _ HE1_2.out))
  clear HE0_2 HE1_2
  obtain ⟨y0, rfl⟩ := form_num (EncN.enc _ HE0_3.out)
  obtain ⟨y1, rfl⟩ := form_num (EncN.enc _ HE1_3.out)
  obtain ⟨y2, j2, c2, rfl⟩ := form_data (EncN.enc _ HE2_3.out)
  obtain ⟨q0, r0⟩ := row_at (cs := [(.int .u64 (y0 : Int)), (.int .u64 (y1 : Int)), (.slice y2 j2 c2)]) HB3.out (i := 0) rfl
  obtain ⟨q1, r1⟩ := row_at (cs := [(.int .u64 (y0 : Int)), (.int .u64 (y1 : Int)), (.slice y2 j2 c2)]) HB3.out (i := 1) rfl
  obtain ⟨q2, r2⟩ := row_at (cs := [(.int .u64 (y0 : Int)), (.int .u64 (y1 : Int)), (.slice y2 j2 c2)]) HB3.out (i := 2) rfl
  have hs0 : w3.heap[B]? = some (.cells ([(.int .u64 (y0 : Int)), (.int .u64 (y1 : Int)), (.slice y2 j2 c2)] : List Value).toArray 37 (0, 0)) := HB3.out
  have hs1 := row_put hs0 0 (.int .u64 (y0 : Int))
  have hs2 := row_put hs1 1 (.int .u64 (y1 : Int))
  have hs3 := row_put hs2 2 (.slice y2 j2 c2)
  have hks : Keep (fun j => j = B) w3 (((w3.setCell ⟨B, 0, none⟩ (.int .u64 (y0 : Int))).setCell ⟨B, 1, none⟩ (.int .u64 (y1 : Int))).setCell ⟨B, 2, none⟩ (.slice y2 j2 c2)) := (((Keep.refl (fun j => j = B) _).trans (Keep.set (X := fun j => j = B) _ ⟨B, 0, none⟩ (.int .u64 (y0 : Int)) rfl)).trans (Keep.set (X := fun j => j = B) _ ⟨B, 1, none⟩ (.int .u64 (y1 : Int)) rfl)).trans (Keep.set (X := fun j => j = B) _ ⟨B, 2, none⟩ (.slice y2 j2 c2) rfl)
  have HSF : Hid ((((w3.setCell ⟨B, 0, none⟩ (.int .u64 (y0 : Int))).setCell ⟨B, 1, none⟩ (.int .u64 (y1 : Int))).setCell ⟨B, 2, none⟩ (.slice y2 j2 c2)).heap[B]? = some (.cells #[(.int .u64 (y0 : Int)), (.int .u64 (y1 : Int)), (.slice y2 j2 c2)] 37 (0, 0))) := hs3
  have HKS := hid hks
  clear hks hs0 hs1 hs2 hs3
  go_wp2_with fail
  refine bodyPost_ret (results_cell_row rfl _ _ B 37 _ (0, 0) _ rfl HSF.out Try.underlying37 rfl (by kernel_rfl)) rfl ?_
  have hfin : ∀ (s : Sh) (cs : List Value) (bs : List UInt8), EncN (fun j => B < j ∧ j < w3.heap.size) w3 s cs bs → EncN (fun j => w.heap.size ≤ j ∧ j < (((w3.setCell ⟨B, 0, none⟩ (.int .u64 (y0 : Int))).setCell ⟨B, 1, none⟩ (.int .u64 (y1 : Int))).setCell ⟨B, 2, none⟩ (.slice y2 j2 c2)).heap.size) (((w3.setCell ⟨B, 0, none⟩ (.int .u64 (y0 : Int))).setCell ⟨B, 1, none⟩ (.int .u64 (y1 : Int))).setCell ⟨B, 2, none⟩ (.slice y2 j2 c2)) s cs bs := fun s cs bs h => EncN.mono (fun j hj => ⟨by have := HBE.out; omega, Nat.lt_of_lt_of_le hj.2 HKS.out.size⟩) s (EncN.keep HKS.out (fun j hj e => by have e9 : j = B := e; have := hj.1; omega) s h)
  refine ⟨[(.int .u64 (y0 : Int)), (.int .u64 (y1 : Int)), (.slice y2 j2 c2)], rfl, ?_, HR3.out.keepK HKS.out (fun j e => by have e9 : j = B := e; omega), ?_⟩
  · exact ⟨[(.int .u64 (y0 : Int))], [(.int .u64 (y1 : Int)), (.slice y2 j2 c2)], _, _, rfl, rfl, hfin _ _ _ HE0_3.out, ⟨[(.int .u64 (y1 : Int))], [(.slice y2 j2 c2)], _, _, rfl, rfl, hfin _ _ _ HE1_3.out, ⟨[(.slice y2 j2 c2)], [], _, _, rfl, rfl, hfin _ _ _ HE2_3.out, ⟨rfl, rfl⟩⟩⟩⟩
  · exact (Keep.of_below HBW.out).trans2 (HK3.out.trans (HKS.out.mono (fun j _ e => .inr e))) (fun j e => by rcases e with e | e <;> first | exact .inl e | exact .inr (by have := HBE.out; omega))

end Go.Proofs.Ytnjmhlmimpdahaa

