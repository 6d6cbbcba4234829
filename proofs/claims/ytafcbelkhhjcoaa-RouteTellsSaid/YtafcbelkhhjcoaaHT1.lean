import GoSem.Op.String
import Derived.Lib.Bytealg
import Derived.Test.YtafcbelkhhjcoaaRows
import Derived.WalkKit
import Derived.WalkSpells
import Derived.WalkLawsBesides
import Derived.Laws.AppendOwnNone
import Derived.Deep.Slices
import Derived.BigQuiet
import Derived.Deep.QuietTactic
import Derived.Deep.AppendLies
import Derived.Deep.RegionWith
import Derived.Shelf.Abstract
import Derived.Test.YtafcbelkhhjcoaaProg
import Derived.LaidEql
import Derived.Stop.Asserts
import Derived.RowKitTokens
import Derived.Lib.Bytes
import Derived.Deep.OwnRows
import Derived.OwnWalk
import Derived.ProofKit
import Derived.Lib.AppendZeros
import Derived.Deep.CutRange
import Derived.Deep.RegionHeld3
import Derived.OpenShut
import Derived.ShutString
import Derived.ChangeOld
import Derived.Below
import Derived.SizedLaws
import Derived.Deep.Strs
import Derived.Deep.RegionHeld
import Derived.Deep.RegionLaw
import Derived.Laws.OwnMore
import Derived.Laws.ResultCell
import Derived.BigRegion
import Derived.Laws.CopyOwn
import Derived.Lib.AppendZerosOnto
import Derived.Lib.Overlaps
import Derived.Deep.AppendSrc
import Derived.Deep.CutBlock
import Derived.Lib.SlBytesConst
import Derived.RangeFuncNested
import Derived.RangeFuncBound
import Derived.RangeFuncCalls
import Derived.RangeFuncLeaves
import Derived.Shelf.RegionOpen
import Derived.OwnWalkIn
import Derived.TacticsInMore
import Derived.LoopNIn
import Derived.LoopIn
import Derived.Laws.CopyRow
import Derived.Deep.MidRow
import Derived.Laws.MakeOwn
import Derived.IntWalk
set_option linter.unusedVariables false
set_option linter.unusedSimpArgs false
namespace Go.Proofs.Ytafcbelkhhjcoaa
open Go.Lib (compareBytes)

theorem cb_self : ∀ x : List UInt8, compareBytes x x = 0
  | [] => rfl
  | c :: x => by unfold compareBytes; simp [cb_self x]

theorem cb_eq : ∀ x y : List UInt8, compareBytes x y = 0 → x = y
  | [], [], _ => rfl
  | [], _ :: _, h => by simp [compareBytes] at h
  | _ :: _, [], h => by simp [compareBytes] at h
  | a :: x, b :: y, h => by
    unfold compareBytes at h
    split at h
    · cases h
    · rename_i h1
      split at h
      · cases h
      · rename_i h2
        have e : a = b := UInt8.le_antisymm (UInt8.not_lt.1 h2) (UInt8.not_lt.1 h1)
        rw [e, cb_eq x y h]

theorem cb_pre (p : List UInt8) (x y : List UInt8) : compareBytes (p ++ x) (p ++ y) = compareBytes x y := by
  induction p with
  | nil => rfl
  | cons c p ih =>
    show (if c < c then -1 else if c < c then 1 else compareBytes (p ++ x) (p ++ y)) = _
    rw [if_neg (UInt8.lt_irrefl c), if_neg (UInt8.lt_irrefl c), ih]

theorem cb_tri : ∀ x y : List UInt8, compareBytes x y = -1 ∨ compareBytes x y = 0 ∨ compareBytes x y = 1
  | [], [] => .inr (.inl rfl)
  | [], _ :: _ => .inl rfl
  | _ :: _, [] => .inr (.inr rfl)
  | a :: x, b :: y => by
    unfold compareBytes
    split
    · exact .inl rfl
    · split
      · exact .inr (.inr rfl)
      · exact cb_tri x y

theorem cb_lt {a b : UInt8} (h : a < b) (x y : List UInt8) : compareBytes (a :: x) (b :: y) = -1 := by
  unfold compareBytes; rw [if_pos h]

theorem cb_gt {a b : UInt8} (h : b < a) (x y : List UInt8) : compareBytes (a :: x) (b :: y) = 1 := by
  unfold compareBytes; rw [if_neg (UInt8.lt_asymm h), if_pos h]

theorem cb_cons (a : UInt8) (x y : List UInt8) : compareBytes (a :: x) (a :: y) = compareBytes x y := cb_pre [a] x y

theorem cb_swap : ∀ x y : List UInt8, compareBytes y x = - compareBytes x y
  | [], [] => rfl
  | [], _ :: _ => rfl
  | _ :: _, [] => rfl
  | a :: x, b :: y => by
    by_cases h : a < b
    · rw [cb_lt h, cb_gt h]; rfl
    · by_cases h2 : b < a
      · rw [cb_lt h2, cb_gt h2]
      · have e : a = b := UInt8.le_antisymm (UInt8.not_lt.1 h2) (UInt8.not_lt.1 h)
        subst e
        rw [cb_cons, cb_cons, cb_swap x y]

/-- '<' on texts. -/
theorem less_eq : ∀ x y : List UInt8, Op.bytesLess x y = decide (compareBytes x y = -1)
  | [], [] => rfl
  | _ :: _, [] => rfl
  | [], _ :: _ => rfl
  | a :: x, b :: y => by
    show (decide (a < b) || (a == b && Op.bytesLess x y)) = _
    by_cases h : a < b
    · rw [cb_lt h]; simp [h]
    · by_cases h2 : b < a
      · rw [cb_gt h2]
        have : ¬ a = b := fun e => h (by rw [e] at h2; exact absurd h2 (UInt8.lt_irrefl b))
        simp [h, this]
      · have e : a = b := UInt8.le_antisymm (UInt8.not_lt.1 h2) (UInt8.not_lt.1 h)
        subst e
        rw [cb_cons, less_eq x y]
        simp [UInt8.lt_irrefl]

end Go.Proofs.Ytafcbelkhhjcoaa

namespace Go.Proofs.Ytafcbelkhhjcoaa
open Go.RowKit

theorem hid {p : Prop} (h : p) : Hid p := h

/-- A byte's cell. -/
def bv (c : UInt8) : Value := .int .u8 (c.toNat : Int)

theorem bv_one (l : List UInt8) : ∀ u ∈ l.map bv, u.oneCell' = true := by
  intro u hu
  obtain ⟨_, _, rfl⟩ := List.mem_map.1 hu
  rfl

/-- The block that a slice lies in. -/
def blk : Value → Option Nat
  | .slice (some a) _ _ => some a.block
  | _ => none

/-- The slice x reads as the bytes l. -/
def Rd (w : World) (x : Value) (l : List UInt8) : Prop :=
  ∃ (ao : Option Addr) (c : Nat), x = .slice ao l.length c ∧ l.length ≤ c ∧ c ≤ maxLen ∧ (ao = none → c = 0) ∧
    ∀ a, ao = some a → ∀ (j : Nat) u, (l.map bv)[j]? = some u → w.cell? (a.add j) = some u

theorem Rd.nil (w : World) : Rd w (.slice none 0 0) [] := ⟨none, 0, rfl, by simp, by simp, fun _ => rfl, fun a h => by cases h⟩

theorem add_block (a : Addr) (j : Nat) : (a.add j).block = a.block := by unfold Addr.add; split <;> rfl

/-- Behind a call that leaves all that was there. -/
theorem Rd.old {w w' : World} {x : Value} {l : List UInt8} (h : Rd w x l) (hb : Below w.heap.size w w') : Rd w' x l := by
  obtain ⟨ao, c, rfl, h1, h2, h3, h4⟩ := h
  refine ⟨ao, c, rfl, h1, h2, h3, fun a ha j u hu => ?_⟩
  subst ha
  have h6 := h4 a rfl j u hu
  rw [hb.cell (p := a.add j) (World.block_lt_of_cell? w _ h6)]
  exact h6

theorem Rd.below {w0 w w' : World} {x : Value} {l : List UInt8} (h : Rd w0 x l) (hb0 : Below w0.heap.size w0 w) (hb : Below w0.heap.size w w') : Rd w' x l := h.old (hb0.trans hb)

theorem Rd.alloc {w : World} {x : Value} {l : List UInt8} (h : Rd w x l) (o : Obj) : Rd (w.alloc o) x l := h.old ((Below.refl _ _).alloc (Nat.le_refl _) o)

/-- What the call itself made. -/
theorem Rd.own {w : World} {base : Nat} {e : TypeId} {x : Value} {l : List UInt8} (h : w.ownsRow base e 1 x l.length (l.map bv)) : Rd w x l := by
  obtain ⟨h1, h2⟩ := h
  rcases h2 with ⟨rfl, hn⟩ | ⟨g, cap, cur, rfl, hb, hg, hn, hc, hs, ht⟩
  · obtain rfl : l = [] := List.eq_nil_of_length_eq_zero hn
    exact Rd.nil w
  · refine ⟨some ⟨g, 0, none⟩, cap, rfl, hn, hc, (fun h => by cases h), fun a ha => ?_⟩
    cases ha
    intro j u hu
    rw [WideShapes.add_plain, Nat.zero_add, cell_of_row w g j cur e (0, 0) hg]
    rw [← ht, List.getElem?_take] at hu
    split at hu
    · simpa using hu
    · cases hu

/-- 'string(x)'. -/
theorem Rd.conv {P : Program} {w : World} {x : Value} {l : List UInt8} (h : Rd w x l) (src dst e : TypeId) (hs : P.underlying src = some (.slice e)) (he : P.underlying e = some (.int .u8)) (hd : P.underlying dst = some .string) :
    (convert src dst x).run P w = .ok (.string ⟨l.toArray⟩) w := by
  obtain ⟨ao, c, rfl, h1, h2, h3, h4⟩ := h
  cases ao with
  | none =>
    obtain rfl : l = [] := List.eq_nil_of_length_eq_zero (by have := h3 rfl; omega)
    rw [run_convert_bytes_nil w src e hs he _ _ dst hd]
    rfl
  | some a =>
    rw [run_convert_bytes_string w src dst e _ _ _ hs he hd]
    have hl : (loadCells a l.length).run P w = .ok ((l.map fun x => (x.toNat : Int)).map (Value.int .u8)).toArray w := by
      have := run_loadCells_list (P := P) w a (l.map bv) (h4 a rfl)
      have e1 : (l.map fun x => (x.toNat : Int)).map (Value.int .u8) = l.map bv := by rw [List.map_map]; rfl
      rw [e1]
      simpa using this
    rw [run_bytesToString w a l.length c (l.map fun x => (x.toNat : Int)) hl, foldl_push_bytes]
    congr 2
    simp [ByteArray.empty, ByteArray.emptyWithCapacity, Function.comp_def]
    rfl

/-- 'append(v, x...)', v the call's own, x whatever. -/
theorem wp_app {P : Program} {w : World} {ops : Array Oper} {rest : List Oper} {o : Oper} {a : Act} {Q : Exit → Act → World → Prop} (hgd : o.guard = none) (s x : Operand) (t : TypeId)
    (ho : o.op = .call { callee := .builtin .append, args := #[s, x], argTypes := #[t, t] })
    (base : Nat) (e : TypeId) (ht : P.underlying t = some (.slice e)) (hinfo : (P.info? e).map (fun i => (i.zero, i.size, i.bytes)) = some (some (.int .u8 0), 1, 1))
    (v : Value) (n : Nat) (xs : List Value) (hs : a.eval s = v) (hown : w.ownsRow base e 1 v n xs)
    (y : Value) (l : List UInt8) (hx : a.eval x = y) (hr : Rd w y l) (hn : n + l.length ≤ 140737488355328) (hbase : base ≤ w.heap.size)
    (h : ∀ v' w', w'.ownsRow base e 1 v' (n + l.length) (xs ++ l.map bv) → w.grownBy w' v.ownBlock → wpList P ops Q rest (a.put o.dst v') w') : wpList P ops Q (o :: rest) a w := by
  obtain ⟨i0, hi, hz0, hz1, hz2⟩ := info_parts hinfo
  obtain ⟨ao, c, rfl, h1, h2, h3, h4⟩ := hr
  cases ao with
  | some ad =>
    exact wpList_append_own w hgd s x t ho base e i0 (.int .u8 0) 1 1 ht hi hz0 hz1 hz2 rfl (by decide) v n xs hs hown ad l.length c (l.map bv) hx (by simp) (h4 ad rfl) (bv_one l)
      (by unfold maxLen; omega) (by omega) hbase fun v' w' a1 a2 _ => h v' w' a1 a2
  | none =>
    have hc := h3 rfl
    obtain rfl : l = [] := List.eq_nil_of_length_eq_zero (by omega)
    subst hc
    exact wpList_append_own_none hgd s x t ho base e i0 1 ht hi v n xs hs hown hx (h v w (by simpa using hown) (World.grownBy.refl _ _))

theorem grown_set (w : World) (a : Addr) (v : Value) : w.grownBy (w.setCell a v) (some a.block) :=
  ⟨rfl, rfl, rfl, by simp [World.setCell], fun k _ hne => Below.heap_setCell _ _ _ _ (fun e => hne (by rw [e]))⟩

theorem Rd.take {w : World} {ao : Option Addr} {m c : Nat} {l : List UInt8} (h : Rd w (.slice ao m c) l) (n : Nat) (hn : n ≤ l.length) : Rd w (.slice ao n c) (l.take n) := by
  obtain ⟨ao', c', he, h1, h2, h3, h4⟩ := h
  simp only [Value.slice.injEq] at he
  obtain ⟨rfl, rfl, rfl⟩ := he
  have hlen : (l.take n).length = n := by rw [List.length_take]; omega
  refine ⟨ao, c, by rw [hlen], by rw [hlen]; omega, h2, h3, fun a ha j u hu => h4 a ha j u ?_⟩
  rw [List.map_take, List.getElem?_take] at hu
  split at hu
  · exact hu
  · cases hu

theorem Rd.len {P : Program} {w : World} {x : Value} {l : List UInt8} (h : Rd w x l) (t e ty : TypeId) (ht : P.underlying t = some (.slice e)) :
    ∀ W, (Builtin.len_ #[t] ty #[x]).run P W = .ok (goInt l.length) W := by
  obtain ⟨ao, c, rfl, h1, h2, h3, h4⟩ := h
  have ht' : P.underlying t = some (.slice (P.elem t)) := by simp [Program.elem, ht]
  exact fun W => run_len_slice W t ty _ _ _ ht'

/-- The bytes that one value makes: what a call gives back, in new memory. -/
def Gives (e8 : TypeId) (w : World) (l : List UInt8) (e : Ending) (w' : World) : Prop :=
  ∃ x, e = .returned x ∧ w'.ownsRow w.heap.size e8 1 x l.length (l.map bv) ∧ Below w.heap.size w w'

/-- The value's shape, for the walk. -/
theorem Gives.elim {e8 : TypeId} {w : World} {l : List UInt8} {e : Ending} {w' : World} (h : Gives e8 w l e w') :
    ∃ (ao : Option Addr) (c : Nat), e = .returned (.slice ao l.length c) ∧ w'.ownsRow w.heap.size e8 1 (.slice ao l.length c) l.length (l.map bv) ∧ Below w.heap.size w w' := by
  obtain ⟨x, rfl, h1, h2⟩ := h
  obtain ⟨ao, c, rfl, _⟩ := Rd.own h1
  exact ⟨ao, c, rfl, h1, h2⟩

end Go.Proofs.Ytafcbelkhhjcoaa

namespace Go.Proofs.Ytafcbelkhhjcoaa
open Go.RowKit

/-- Bytes that are there lie at a plain address. -/
theorem Rd.at {w : World} {x : Value} {l : List UInt8} (h : Rd w x l) (hl : 0 < l.length) :
    ∃ b off c, x = .slice (some ⟨b, off, none⟩) l.length c ∧ l.length ≤ c ∧ c ≤ maxLen ∧ ∀ j (hj : j < l.length), w.cell? ⟨b, off + j, none⟩ = some (.int .u8 ((l[j]).toNat : Int)) := by
  obtain ⟨ao, c, rfl, h1, h2, h3, h4⟩ := h
  cases ao with
  | none => have := h3 rfl; omega
  | some a =>
    obtain ⟨b, off, spot⟩ := a
    have h0 := h4 _ rfl 0 (bv l[0]) (by simp [List.getElem?_eq_getElem hl])
    have hspot : spot = none := by simpa [Addr.add] using World.cell?_spot h0
    subst hspot
    refine ⟨b, off, c, rfl, h1, h2, fun j hj => ?_⟩
    have hj' := h4 _ rfl j (bv l[j]) (by simp [List.getElem?_eq_getElem hj])
    rw [WideShapes.add_plain] at hj'
    exact hj'

theorem Rd.size {w : World} {ao : Option Addr} {n c : Nat} {l : List UInt8} (h : Rd w (.slice ao n c) l) : n = l.length := by
  obtain ⟨_, _, h1, _⟩ := h
  simp only [Value.slice.injEq] at h1
  exact h1.2.1

end Go.Proofs.Ytafcbelkhhjcoaa

namespace Go.Proofs.Ytafcbelkhhjcoaa
open Go.RowKit

set_option maxHeartbeats 1000000 in
set_option maxRecDepth 100000 in
theorem clone_any (w : World) (x : Value) (l : List UInt8) (h : Rd w x l) (hl : l.length ≤ 140737488355328) :
    Calls Try.prog 139 #[x] w (Gives 5 w l) := by
  obtain ⟨ao, c, rfl, h1, h2, h3, h4⟩ := h
  cases ao with
  | none =>
    have hc := h3 rfl
    obtain rfl : l = [] := List.eq_nil_of_length_eq_zero (by omega)
    subst hc
    have heq := fun W => Lib.run_eql_slice_nil (P := Try.prog) W 62 5 none 0 0 0 0 Try.underlying62
    go_enter Try.func139, Try.ntmps139
    go_wp2_with fail
    go_ret
    exact ⟨_, rfl, World.ownsRow_nil _ _ _ _, Below.refl _ _⟩
  | some a =>
    have HR : Hid (Rd w (.slice (some a) l.length c) l) := ⟨some a, c, rfl, h1, h2, h3, h4⟩
    have heq := fun W => Lib.run_eql_slice_nil (P := Try.prog) W 62 5 (some a) l.length c 0 0 Try.underlying62
    have hown : (w.alloc (.cells #[] 5)).ownsRow w.heap.size 5 1 (.slice (some ⟨w.heap.size, 0, none⟩) 0 0) 0 [] := World.ownsRow_made w #[] 0 (Nat.le_refl _) (by decide) rfl
    have HR2 := HR.out.alloc (.cells #[] 5)
    clear h3 h4
    go_enter Try.func139, Try.ntmps139
    go_wp2_with (first
      | (at_builtin; refine wp_app rfl _ _ 62 rfl w.heap.size 5 Try.underlying62 (by kernel_rfl) _ _ _ rfl hown _ l rfl HR2 ?c1 ?c2 ?_))
    case c1 => omega
    case c2 => simp
    intro v' w1 hown' hgrow
    have hb : Below w.heap.size w w1 := ((Below.refl _ _).alloc (Nat.le_refl _) _).grown hgrow (by simp) (fun k hk => by simp [Value.ownBlock] at hk; omega)
    clear hgrow hown HR2
    go_wp2
    go_ret
    exact ⟨_, rfl, by simpa using hown', hb⟩

end Go.Proofs.Ytafcbelkhhjcoaa

namespace Go.Proofs.Ytafcbelkhhjcoaa
open Go.RowKit

/-- Rows of that many cells. -/
def Wide (size : Nat) (L : List (List Value)) : Prop := ∀ r ∈ L, r.length = size ∧ ∀ u ∈ r, u.oneCell' = true

theorem Wide.sub {size : Nat} {a b : List (List Value)} (h : Wide size a) (k : ∀ r ∈ b, r ∈ a) : Wide size b := fun r hr => h r (k r hr)

theorem Wide.one {size : Nat} {L : List (List Value)} (h : Wide size L) : ∀ u ∈ L.flatten, u.oneCell' = true := fun u hu => by
  obtain ⟨r, hr, hu⟩ := List.mem_flatten.1 hu
  exact (h r hr).2 u hu

theorem Wide.len {size : Nat} {L : List (List Value)} (h : Wide size L) : L.flatten.length = L.length * size := by
  induction L with
  | nil => simp
  | cons r L ih =>
    have h1 := (h r (by simp)).1
    have h2 := ih (h.sub fun x hx => by simp [hx])
    rw [List.flatten_cons, List.length_append, h1, h2, List.length_cons, Nat.add_mul]
    omega

theorem Wide.at {size : Nat} {L : List (List Value)} (h : Wide size L) : ∀ {k : Nat} {r : List Value}, L[k]? = some r → ∀ {j : Nat} {u : Value}, r[j]? = some u → L.flatten[k * size + j]? = some u := by
  induction L with
  | nil => intro k r hk; simp at hk
  | cons q L ih =>
    intro k r hk j u hj
    have hq := (h q (by simp)).1
    cases k with
    | zero =>
      simp at hk
      subst hk
      have hjl : j < q.length := (List.getElem?_eq_some_iff.1 hj).1
      rw [Nat.zero_mul, Nat.zero_add, List.flatten_cons, List.getElem?_append_left hjl]
      exact hj
    | succ k =>
      have hk' : L[k]? = some r := by simpa using hk
      have h3 := ih (h.sub fun x hx => by simp [hx]) hk' hj
      rw [List.flatten_cons, List.getElem?_append_right (by rw [hq, Nat.add_mul]; omega)]
      have e : (k + 1) * size + j - q.length = k * size + j := by rw [hq, Nat.add_mul]; omega
      rw [e]
      exact h3

/-- The slice x reads as the rows L. -/
def Rws (size : Nat) (w : World) (x : Value) (L : List (List Value)) : Prop :=
  ∃ (ao : Option Addr) (c : Nat), x = .slice ao L.length c ∧ L.length ≤ c ∧ c ≤ maxLen ∧ (ao = none → c = 0) ∧ Wide size L ∧
    ∀ a, ao = some a → ∀ (j : Nat) u, L.flatten[j]? = some u → w.cell? (a.add j) = some u

theorem Rws.nil (size : Nat) (w : World) : Rws size w (.slice none 0 0) [] := ⟨none, 0, rfl, by simp, by simp, (fun _ => rfl), (fun r hr => by cases hr), (fun a h => by cases h)⟩

theorem Rws.old {size : Nat} {w w' : World} {x : Value} {L : List (List Value)} (h : Rws size w x L) (hb : Below w.heap.size w w') : Rws size w' x L := by
  obtain ⟨ao, c, rfl, h1, h2, h3, h5, h4⟩ := h
  refine ⟨ao, c, rfl, h1, h2, h3, h5, fun a ha j u hu => ?_⟩
  subst ha
  have h6 := h4 a rfl j u hu
  rw [hb.cell (p := a.add j) (World.block_lt_of_cell? w _ h6)]
  exact h6

theorem Rws.len {P : Program} {size : Nat} {w : World} {x : Value} {L : List (List Value)} (h : Rws size w x L) (t e ty : TypeId) (ht : P.underlying t = some (.slice e)) :
    ∀ W, (Builtin.len_ #[t] ty #[x]).run P W = .ok (goInt L.length) W := by
  obtain ⟨ao, c, rfl, h1, h2, h3, _⟩ := h
  have ht' : P.underlying t = some (.slice (P.elem t)) := by simp [Program.elem, ht]
  exact fun W => run_len_slice W t ty _ _ _ ht'

/-- One row's cells. -/
theorem Rws.get {size : Nat} {w : World} {ao : Option Addr} {n c : Nat} {L : List (List Value)} (h : Rws size w (.slice ao n c) L) (hs : 0 < size) {k : Nat} {r : List Value} (hk : L[k]? = some r) :
    ∃ b off, ao = some ⟨b, off, none⟩ ∧ ∀ (j : Nat) u, r[j]? = some u → w.cell? ⟨b, off + k * size + j, none⟩ = some u := by
  obtain ⟨ao', c', he, h1, h2, h3, h5, h4⟩ := h
  simp only [Value.slice.injEq] at he
  obtain ⟨rfl, rfl, rfl⟩ := he
  have hkl : k < L.length := (List.getElem?_eq_some_iff.1 hk).1
  have hr := h5 r (List.mem_of_getElem? hk)
  cases ao with
  | none => have := h3 rfl; omega
  | some a =>
    obtain ⟨b, off, spot⟩ := a
    have hL0 : L[0]? = some (L[0]'(by omega)) := List.getElem?_eq_getElem (by omega)
    have hr0 := h5 _ (List.mem_of_getElem? hL0)
    have hu0 : (L[0]'(by omega))[0]? = some ((L[0]'(by omega))[0]'(by omega)) := List.getElem?_eq_getElem (by omega)
    have h0 := h4 _ rfl _ _ (h5.at hL0 hu0)
    have hspot : spot = none := by
      rw [Nat.zero_mul, Nat.zero_add] at h0
      simpa [Addr.add] using World.cell?_spot h0
    subst hspot
    refine ⟨b, off, rfl, fun j u hj => ?_⟩
    have := h4 _ rfl _ _ (h5.at hk hj)
    rw [WideShapes.add_plain, ← Nat.add_assoc] at this
    exact this

/-- What the call itself made. -/
theorem Rws.own {size : Nat} {w : World} {base : Nat} {e : TypeId} {x : Value} {L : List (List Value)} (h : w.ownsRow base e size x L.length L.flatten) (hw : Wide size L) : Rws size w x L := by
  obtain ⟨h1, h2⟩ := h
  rcases h2 with ⟨rfl, hn⟩ | ⟨g, cap, cur, rfl, hb, hg, hn, hc, hs, ht⟩
  · obtain rfl : L = [] := List.eq_nil_of_length_eq_zero hn
    exact Rws.nil size w
  · refine ⟨some ⟨g, 0, none⟩, cap, rfl, hn, hc, (fun h => by cases h), hw, fun a ha => ?_⟩
    cases ha
    intro j u hu
    rw [WideShapes.add_plain, Nat.zero_add, cell_of_row w g j cur e (0, 0) hg]
    rw [← ht, List.getElem?_take] at hu
    split at hu
    · simpa using hu
    · cases hu

theorem Rws.take {size : Nat} {w : World} {ao : Option Addr} {m c : Nat} {L : List (List Value)} (h : Rws size w (.slice ao m c) L) (n : Nat) (hn : n ≤ L.length) : Rws size w (.slice ao n c) (L.take n) := by
  obtain ⟨ao', c', he, h1, h2, h3, h5, h4⟩ := h
  simp only [Value.slice.injEq] at he
  obtain ⟨rfl, rfl, rfl⟩ := he
  have hlen : (L.take n).length = n := by rw [List.length_take]; omega
  refine ⟨ao, c, by rw [hlen], by rw [hlen]; omega, h2, h3, h5.sub fun r hr => List.mem_of_mem_take hr, fun a ha j u hu => h4 a ha j u ?_⟩
  have e : L.flatten = (L.take n).flatten ++ (L.drop n).flatten := by rw [← List.flatten_append, List.take_append_drop]
  rw [e, List.getElem?_append_left]
  · exact hu
  · exact (List.getElem?_eq_some_iff.1 hu).1

/-- 'append(v, x...)', v the call's own, x whatever. 'hgd': no guard, or one that holds (by rfl). -/
theorem wp_rapp {P : Program} {w : World} {ops : Array Oper} {rest : List Oper} {o : Oper} {a : Act} {Q : Exit → Act → World → Prop} (hgd : Region.wanted o (yielded ops a.tmps) = true) (s x : Operand) (t : TypeId)
    (ho : o.op = .call { callee := .builtin .append, args := #[s, x], argTypes := #[t, t] })
    (base size bytes : Nat) (e : TypeId) (ht : P.underlying t = some (.slice e)) (z : Value) (hinfo : (P.info? e).map (fun i => (i.zero, i.size, i.bytes)) = some (some z, size, bytes)) (hzs : z.cells.size = size) (hsz : 0 < size)
    (v : Value) (n : Nat) (xs : List Value) (hs : a.eval s = v) (hown : w.ownsRow base e size v n xs)
    (y : Value) (L : List (List Value)) (hx : a.eval x = y) (hr : Rws size w y L) (hn : (n + L.length) * bytes ≤ 140737488355328) (hm : n + L.length ≤ maxLen) (hbase : base ≤ w.heap.size)
    (h : ∀ v' w', w'.ownsRow base e size v' (n + L.length) (xs ++ L.flatten) → w.grownBy w' v.ownBlock → wpList P ops Q rest (a.put o.dst v') w') : wpList P ops Q (o :: rest) a w := by
  obtain ⟨i0, hi, hz0, hz1, hz2⟩ : ∃ i, P.info? e = some i ∧ i.zero = some z ∧ i.size = size ∧ i.bytes = bytes := by
    cases hq : P.info? e with
    | none => rw [hq] at hinfo; cases hinfo
    | some i => rw [hq] at hinfo; simp at hinfo; exact ⟨i, rfl, hinfo⟩
  refine wpList_step fun K hK => ?_
  rw [if_pos hgd]
  obtain ⟨ao, c, rfl, h1, h2, h3, h5, h4⟩ := hr
  cases ao with
  | some ad =>
    exact wp_append_own w s x t ho base e i0 z size bytes ht hi hz0 hz1 hz2 hzs hsz v n xs hs hown ad L.length c L.flatten hx h5.len (h4 ad rfl) h5.one
      hm hn hbase fun v' w' a1 a2 _ => hK _ _ (h v' w' a1 a2)
  | none =>
    have hc := h3 rfl
    obtain rfl : L = [] := List.eq_nil_of_length_eq_zero (by omega)
    subst hc
    have hrun := run_append_owned_none (P := P) (w := w) base t o.type e i0 size ht hi v n xs hown
    unfold Oper.wp execOp
    simp only [List.length_nil] at hx
    simp only [ho, resolve, invoke, builtin, Sem.run_bind, Sem.run_pure, Result.andThen_ok, List.map_toArray, List.map_cons, List.map_nil, hs, hx, hrun]
    exact hK _ _ (h v w (by simpa using hown) (World.grownBy.refl _ _))

/-- A row that was laid out by 'buildSlice' or stored whole: one row. -/
theorem Rws.one {w : World} {n size : Nat} {r : List Value} {t : TypeId} (h : n = w.heap.size) (hr : r.length = size ∧ ∀ u ∈ r, u.oneCell' = true) : Rws size (w.alloc (.cells r.toArray t)) (.slice (some ⟨n, 0, none⟩) 1 1) [r] := by
  subst h
  refine ⟨some ⟨w.heap.size, 0, none⟩, 1, rfl, by simp, by unfold maxLen; simp, (fun h => by cases h), (fun q hq => by simp at hq; subst hq; exact hr), fun a ha j u hu => ?_⟩
  cases ha
  rw [WideShapes.add_plain, Nat.zero_add, cell_of_row _ w.heap.size j r.toArray t (0, 0) (heap_alloc_new w _)]
  simpa using hu
end Go.Proofs.Ytafcbelkhhjcoaa

set_option linter.unusedVariables false
namespace Go.Proofs.Ytafcbelkhhjcoaa
open Go.RowKit

theorem one_rd {w : World} {x : Value} {l : List UInt8} (h : Rd w x l) : x.oneCell' = true := by
  obtain ⟨_, _, rfl, _⟩ := h; rfl

/-- What a call that makes at most memory of its own gives. -/
def AnsP (w : World) (v : Value) (e : Ending) (w' : World) : Prop := e = .returned v ∧ Below w.heap.size w w'

/-- Is a key of a span? -/
def inSpan (f t key : List UInt8) : Bool := !Op.bytesLess key f && ((t.length == 0) || Op.bytesLess key t)

set_option maxHeartbeats 2000000 in
set_option maxRecDepth 100000 in
theorem within_any (fv tv kv : Value) (f t key : List UInt8) (w : World) (hf : Rd w fv f) (ht : Rd w tv t) (hk : Rd w kv key) :
    Calls Try.prog 62 #[.agg #[fv, tv], kv] w (AnsP w (.bool (inSpan f t key))) := by
  have BB := (Below.refl w.heap.size w).alloc (Nat.le_refl _) (.cells #[fv, tv] 66)
  have c1 := (hf.old BB).conv (P := Try.prog) 62 9 5 Try.underlying62 Try.underlying5 Try.underlying9
  have c2 := (ht.old BB).conv (P := Try.prog) 62 9 5 Try.underlying62 Try.underlying5 Try.underlying9
  have c3 := (hk.old BB).conv (P := Try.prog) 62 9 5 Try.underlying62 Try.underlying5 Try.underlying9
  have hl := ht.len (P := Try.prog) 62 5
  have HB := hid BB
  have o1 := one_rd hf
  have o2 := one_rd ht
  clear hf ht hk BB
  unfold inSpan
  cases h1 : Op.bytesLess key f with
  | true =>
    go_enter Try.func62, Try.ntmps62
    go_wp2_with fail
    go_ret
    exact ⟨rfl, HB.out⟩
  | false =>
    by_cases h2 : t.length = 0
    · have h2' : ((t.length : Int) == 0) = true := by simp [h2]
      go_enter Try.func62, Try.ntmps62
      go_wp2_with fail
      go_ret
      refine ⟨congrArg (fun b => Ending.returned (.bool b)) ?_, HB.out⟩
      simp [h2]
    · have h2' : ((t.length : Int) == 0) = false := beq_eq_false_iff_ne.2 (by omega)
      go_enter Try.func62, Try.ntmps62
      go_wp2_with fail
      go_ret
      refine ⟨congrArg (fun b => Ending.returned (.bool b)) ?_, HB.out⟩
      simp [h2]
end Go.Proofs.Ytafcbelkhhjcoaa

set_option linter.unusedVariables false
namespace Go.Proofs.Ytafcbelkhhjcoaa
open Go.RowKit

theorem find_none {α : Type} {p : α → Bool} {l : List α} (h : l.any p = false) : l.find? p = none := by
  rw [List.find?_eq_none]; intro x hx hp
  have : l.any p = true := List.any_eq_true.2 ⟨x, hx, hp⟩
  rw [h] at this; cases this
theorem find_at {α : Type} {p : α → Bool} {l : List α} {k : Nat} {c : α} (h : l[k]? = some c) (ha : (l.take k).any p = false) (hp : p c = true) : l.find? p = some c := by
  have h1 : l = l.take k ++ c :: l.drop (k + 1) := by
    conv => lhs; rw [← List.take_append_drop k l]
    obtain ⟨hk, rfl⟩ := List.getElem?_eq_some_iff.1 h
    rw [List.drop_eq_getElem_cons hk]
  rw [h1, List.find?_append, find_none ha]
  simp [List.find?_cons, hp]
end Go.Proofs.Ytafcbelkhhjcoaa

set_option linter.unusedVariables false

set_option linter.unusedVariables false
namespace Go.Proofs.Ytafcbelkhhjcoaa
open Go.RowKit Go.Shelf

/-- Bytes, one against the other. -/
def cmpB (l m : List UInt8) : Int := Lib.compareBytes l m

theorem add_add1 (a : Addr) (j : Nat) : (a.add 1).add j = a.add (j + 1) := by
  unfold Addr.add
  by_cases hj : j = 0
  · subst hj; simp
  · simp [hj]; omega

theorem run_loadB {P : Program} {w : World} : ∀ (l : List UInt8) (a : Addr) (acc : ByteArray), (∀ (j : Nat) u, (l.map bv)[j]? = some u → w.cell? (a.add j) = some u) →
    (Extern.Bytes.loadBytes a l.length acc).run P w = .ok ⟨acc.data ++ l.toArray⟩ w
  | [], a, acc, _ => by simp [Extern.Bytes.loadBytes]
  | c :: l, a, acc, h => by
    have h0 : w.cell? a = some (bv c) := by
      have := h 0 _ rfl
      simpa [Addr.add] using this
    have ih := run_loadB (P := P) l (a.add 1) (acc.push c) (fun j u hu => by
      have := h (j + 1) u (by simpa using hu)
      rw [add_add1]; exact this)
    simp only [List.length_cons, Extern.Bytes.loadBytes, Sem.run_bind, run_load, h0, Result.andThen, bv]
    have e : ((c.toNat : Int)).toNat.toUInt8 = c := by simp
    rw [e, ih]
    congr 1
    apply ByteArray.ext
    simp [ByteArray.push]

theorem Rd.bytesOf {P : Program} {w : World} {x : Value} {l : List UInt8} (h : Rd w x l) : (Extern.Bytes.bytesOf x).run P w = .ok ⟨l.toArray⟩ w := by
  obtain ⟨ao, c, rfl, h1, h2, h3, h4⟩ := h
  cases ao with
  | none =>
    obtain rfl : l = [] := List.eq_nil_of_length_eq_zero (by have := h3 rfl; omega)
    rfl
  | some a =>
    have hl := run_loadB (P := P) (w := w) l a .empty (h4 a rfl)
    show (Extern.Bytes.loadBytes a l.length .empty).run P w = _
    rw [hl]
    congr 1
    show (⟨#[] ++ l.toArray⟩ : ByteArray) = _
    simp

theorem run_compareSlices {P : Program} {w : World} {x y : Value} {l m : List UInt8} (hx : Rd w x l) (hy : Rd w y m) :
    (Extern.BytealgCompare.compare #[x, y]).run P w = .ok (.int .i64 (cmpB l m)) w := by
  change Sem.run P (do pure (goInt (Extern.BytealgCompare.cmp (← Extern.Bytes.bytesOf x) (← Extern.Bytes.bytesOf y)))) w = _
  simp only [Sem.run_bind, hx.bytesOf, hy.bytesOf, Sem.run_pure, Result.andThen]
  rw [Lib.cmp_eq]
  rfl

set_option maxHeartbeats 1000000 in
set_option maxRecDepth 100000 in
theorem cmp_any (x y : Value) (l m : List UInt8) (w : World) (hx : Rd w x l) (hy : Rd w y m) :
    Calls Try.prog 129 #[x, y] w fun e w' => e = .returned (.int .i64 (cmpB l m)) ∧ w' = w := by
  have C := run_compareSlices (P := Try.prog) hx hy
  clear hx hy
  go_enter Try.func129, Try.ntmps129
  go_wp2
  rw [run_callFunc_extern Try.func196 (by kernel_rfl) (by kernel_rfl) (by kernel_rfl) (e := Extern.BytealgCompare.compare) (by kernel_rfl), C]
  simp only [Result.andThen]
  rw [Oper.upon_value]
  go_wp2
  go_ret
  exact ⟨rfl, rfl⟩

end Go.Proofs.Ytafcbelkhhjcoaa

set_option linter.unusedVariables false

set_option linter.unusedVariables false
namespace Go.Proofs.Ytafcbelkhhjcoaa
open Go.Lib (compareBytes)

theorem cb_trans : ∀ x y z : List UInt8, compareBytes x y = -1 → compareBytes y z = -1 → compareBytes x z = -1
  | [], _, [], h, k => by cases h' : ‹List UInt8› <;> simp_all [compareBytes]
  | [], _, _ :: _, _, _ => rfl
  | _ :: _, [], _, h, _ => by simp [compareBytes] at h
  | _ :: _, _ :: _, [], _, k => by simp [compareBytes] at k
  | a :: x, b :: y, c :: z, h, k => by
    by_cases h1 : a < b
    · by_cases h2 : b < c
      · exact cb_lt (UInt8.lt_trans h1 h2) x z
      · by_cases h3 : c < b
        · rw [cb_gt h3] at k; omega
        · have e : b = c := UInt8.le_antisymm (UInt8.not_lt.1 h3) (UInt8.not_lt.1 h2)
          subst e
          exact cb_lt h1 x z
    · by_cases h1' : b < a
      · rw [cb_gt h1'] at h; omega
      · have e : a = b := UInt8.le_antisymm (UInt8.not_lt.1 h1') (UInt8.not_lt.1 h1)
        subst e
        rw [cb_cons] at h
        by_cases h2 : a < c
        · exact cb_lt h2 x z
        · by_cases h3 : c < a
          · rw [cb_gt h3] at k; omega
          · have e : a = c := UInt8.le_antisymm (UInt8.not_lt.1 h3) (UInt8.not_lt.1 h2)
            subst e
            rw [cb_cons] at k ⊢
            exact cb_trans x y z h k

/-- One key is below another. -/
def lt (a b : List UInt8) : Prop := compareBytes a b = -1
theorem lt_less {a b : List UInt8} : Op.bytesLess a b = true ↔ lt a b := by rw [less_eq]; simp [lt]
theorem less_lt {a b : List UInt8} : Op.bytesLess a b = false ↔ ¬ lt a b := by rw [less_eq]; simp [lt]
theorem lt_cmp {a b : List UInt8} : cmpB a b < 0 ↔ lt a b := by
  unfold cmpB lt
  rcases cb_tri a b with h | h | h <;> rw [h] <;> omega
theorem lt_trans {a b c : List UInt8} (h : lt a b) (k : lt b c) : lt a c := cb_trans a b c h k
theorem lt_irrefl (a : List UInt8) : ¬ lt a a := by unfold lt; rw [cb_self]; omega
theorem lt_asymm {a b : List UInt8} (h : lt a b) : ¬ lt b a := fun k => lt_irrefl a (lt_trans h k)
/-- Not below, and not the other way: the same. -/
theorem lt_eq {a b : List UInt8} (h : ¬ lt a b) (k : ¬ lt b a) : a = b := by
  unfold lt at h k
  rcases cb_tri a b with e | e | e
  · exact (h e).elim
  · exact cb_eq a b e
  · rw [cb_swap, e] at k; exact (k rfl).elim
theorem lt_of_not' {a b c : List UInt8} (h : ¬ lt b a) (k : lt b c) : lt a c := by
  rcases Classical.em (lt a b) with h2 | h2
  · exact lt_trans h2 k
  · rw [lt_eq h2 h]; exact k
end Go.Proofs.Ytafcbelkhhjcoaa

set_option linter.unusedVariables false

set_option linter.unusedVariables false

set_option linter.unusedVariables false

set_option linter.unusedVariables false

set_option linter.unusedVariables false
namespace Go.Proofs.Ytafcbelkhhjcoaa
open Go.RowKit

/-- All that lay lies, but for the blocks of X. -/
structure Keep (X : Nat → Prop) (w w' : World) : Prop where
  os : w'.os = w.os
  tape : w'.tape = w.tape
  output : w'.output = w.output
  size : w.heap.size ≤ w'.heap.size
  block : ∀ k, k < w.heap.size → ¬ X k → w'.heap[k]? = w.heap[k]?

theorem Keep.refl (X : Nat → Prop) (w : World) : Keep X w w := ⟨rfl, rfl, rfl, Nat.le_refl _, fun _ _ _ => rfl⟩
theorem Keep.trans {X : Nat → Prop} {a b c : World} (h : Keep X a b) (k : Keep X b c) : Keep X a c :=
  ⟨k.os.trans h.os, k.tape.trans h.tape, k.output.trans h.output, Nat.le_trans h.size k.size, fun i hi hn => (k.block i (Nat.lt_of_lt_of_le hi h.size) hn).trans (h.block i hi hn)⟩
theorem Keep.mono {X Y : Nat → Prop} {a b : World} (h : Keep X a b) (hxy : ∀ k, k < a.heap.size → X k → Y k) : Keep Y a b :=
  ⟨h.os, h.tape, h.output, h.size, fun i hi hn => h.block i hi (fun hx => hn (hxy i hi hx))⟩
theorem Keep.of_grown {X : Nat → Prop} {w w' : World} {row : Option Nat} (h : w.grownBy w' row) (hx : ∀ k, row = some k → X k) : Keep X w w' :=
  ⟨h.os, h.tape, h.output, h.size, fun k hk hn => h.block k hk (fun e => hn (hx k e.symm))⟩
theorem Keep.below {X : Nat → Prop} {w w' : World} {n : Nat} (h : Keep X w w') (hn : n ≤ w.heap.size) (hx : ∀ k, X k → n ≤ k) : Below n w w' :=
  ⟨h.os, h.tape, h.output, h.size, fun k hk => h.block k (Nat.lt_of_lt_of_le hk hn) (fun hx' => by have := hx k hx'; omega)⟩
theorem Keep.set {X : Nat → Prop} (w : World) (a : Addr) (v : Value) (hx : X a.block) : Keep X w (w.setCell a v) := Keep.of_grown (grown_set w a v) (fun k e => by cases e; exact hx)
/-- What is owned stays owned. -/
theorem own_keep {X : Nat → Prop} {w w' : World} {base : Nat} {e : TypeId} {size : Nat} {v : Value} {n : Nat} {xs : List Value} (h : w.ownsRow base e size v n xs) (hk : Keep X w w') (hx : ∀ k, v.ownBlock = some k → ¬ X k) : w'.ownsRow base e size v n xs :=
  ⟨h.1, h.2.imp id fun ⟨g, cap, cur, a, b, c, d⟩ => ⟨g, cap, cur, a, b, by rw [hk.block g (lt_of_block c) (hx g (by rw [a]; rfl))]; exact c, d⟩⟩

theorem Rd.keep {X : Nat → Prop} {w w' : World} {x : Value} {l : List UInt8} (h : Rd w x l) (hk : Keep X w w') (hx : l ≠ [] → ∀ k, blk x = some k → ¬ X k) : Rd w' x l := by
  obtain ⟨ao, c, rfl, h1, h2, h3, h4⟩ := h
  refine ⟨ao, c, rfl, h1, h2, h3, fun a ha j u hu => ?_⟩
  subst ha
  have h6 := h4 a rfl j u hu
  have hlt := World.block_lt_of_cell? w _ h6
  rw [World.cell?_of_block (w := w) (a := a.add j) (hk.block _ hlt (by rw [add_block]; exact hx (fun e => by subst e; simp at hu) _ rfl))]
  exact h6
theorem Rws.keep {X : Nat → Prop} {size : Nat} {w w' : World} {x : Value} {L : List (List Value)} (h : Rws size w x L) (hk : Keep X w w') (hx : L ≠ [] → ∀ k, blk x = some k → ¬ X k) : Rws size w' x L := by
  obtain ⟨ao, c, rfl, h1, h2, h3, h5, h4⟩ := h
  refine ⟨ao, c, rfl, h1, h2, h3, h5, fun a ha j u hu => ?_⟩
  subst ha
  have h6 := h4 a rfl j u hu
  have hlt := World.block_lt_of_cell? w _ h6
  rw [World.cell?_of_block (w := w) (a := a.add j) (hk.block _ hlt (by rw [add_block]; exact hx (fun e => by subst e; simp at hu) _ rfl))]
  exact h6
end Go.Proofs.Ytafcbelkhhjcoaa

set_option linter.unusedVariables false

set_option linter.unusedVariables false
set_option maxRecDepth 100000

set_option linter.unusedVariables false
set_option maxRecDepth 100000

set_option linter.unusedVariables false

set_option linter.unusedVariables false
set_option maxRecDepth 100000

set_option linter.unusedVariables false
set_option maxRecDepth 100000

set_option linter.unusedVariables false
set_option maxRecDepth 100000

set_option linter.unusedVariables false

set_option linter.unusedVariables false
set_option maxRecDepth 100000

set_option linter.unusedVariables false
set_option maxRecDepth 100000

set_option linter.unusedVariables false
set_option maxRecDepth 100000

set_option linter.unusedVariables false
set_option maxRecDepth 100000

set_option linter.unusedVariables false
namespace Go.Proofs.Ytafcbelkhhjcoaa
open Go.RowKit Go.Deep
attribute [local go_sem] Oper.semAt_some

variable {F : Fence} {n : Nat} {P : Program}

end Go.Proofs.Ytafcbelkhhjcoaa

set_option linter.unusedVariables false
namespace Go.Proofs.Ytafcbelkhhjcoaa
open Go.RowKit Go.Deep
attribute [local go_sem] Oper.semAt_some

end Go.Proofs.Ytafcbelkhhjcoaa

set_option linter.unusedVariables false

set_option linter.unusedVariables false
set_option maxRecDepth 100000
namespace Go.Proofs.Ytafcbelkhhjcoaa
open Go.RowKit Go.Deep
attribute [local go_sem] Oper.semAt_some

end Go.Proofs.Ytafcbelkhhjcoaa

set_option linter.unusedVariables false

set_option linter.unusedVariables false
set_option maxRecDepth 100000

set_option linter.unusedVariables false
set_option maxRecDepth 100000

set_option linter.unusedVariables false
set_option maxRecDepth 100000

set_option linter.unusedVariables false
set_option maxRecDepth 100000

set_option linter.unusedVariables false
set_option maxRecDepth 100000

set_option linter.unusedVariables false
set_option maxRecDepth 100000

set_option linter.unusedVariables false
set_option maxRecDepth 100000

set_option linter.unusedVariables false
set_option maxRecDepth 100000

set_option linter.unusedVariables false
set_option maxRecDepth 100000

set_option linter.unusedVariables false
set_option maxRecDepth 100000

set_option linter.unusedVariables false
set_option linter.unusedSimpArgs false
set_option maxRecDepth 100000

set_option linter.unusedVariables false
set_option linter.unusedSimpArgs false
set_option maxRecDepth 100000

set_option linter.unusedVariables false
set_option linter.unusedSimpArgs false
set_option maxRecDepth 100000

set_option linter.unusedVariables false
set_option linter.unusedSimpArgs false
set_option maxRecDepth 100000

set_option linter.unusedVariables false
set_option linter.unusedSimpArgs false

set_option linter.unusedVariables false
set_option linter.unusedSimpArgs false
set_option maxRecDepth 100000

set_option linter.unusedVariables false
set_option linter.unusedSimpArgs false
set_option maxRecDepth 100000
namespace Go.Proofs.Ytafcbelkhhjcoaa
open Go.RowKit Go.Deep

def i64 (z : Int) : Prop := -9223372036854775808 ≤ z ∧ z ≤ 9223372036854775807
/-- The cells of a block. -/
theorem cell_in {w : World} {b : Nat} {cs : Array Value} {t : TypeId} (h : w.heap[b]? = some (.cells cs t (0, 0))) (i : Nat) (u : Value) (hi : cs[i]? = some u) : w.cell? ⟨b, i, none⟩ = some u := by
  simp only [World.cell?, h]; simpa using hi
theorem below_drewN (w : World) (n : Nat) : Below w.heap.size w (w.drewN n) := ⟨rfl, rfl, rfl, Nat.le_refl _, fun _ _ => rfl⟩
theorem below_step {w w1 w2 : World} (h : Below w.heap.size w w1) (h2 : Below w1.heap.size w1 w2) : Below w.heap.size w w2 := h.trans (h2.mono h.size)
theorem block_cell {w : World} {a : Addr} {v : Value} (h : w.cell? a = some v) : a.block < w.heap.size := World.block_lt_of_cell? w a h
end Go.Proofs.Ytafcbelkhhjcoaa

set_option linter.unusedVariables false
set_option linter.unusedSimpArgs false
set_option maxRecDepth 100000

set_option linter.unusedVariables false
set_option linter.unusedSimpArgs false
set_option maxRecDepth 100000

set_option linter.unusedVariables false
set_option linter.unusedSimpArgs false
set_option maxRecDepth 100000

set_option linter.unusedVariables false
set_option linter.unusedSimpArgs false
set_option maxRecDepth 100000

set_option linter.unusedVariables false
set_option linter.unusedSimpArgs false
set_option maxRecDepth 100000
namespace Go.Proofs.Ytafcbelkhhjcoaa
open Go.RowKit Go.Deep

theorem zrd_form {w : World} {x : Value} {l : List UInt8} (h : Rd w x l) : ∃ a c, x = .slice a l.length c := by
  obtain ⟨a, c, e, -⟩ := h
  exact ⟨a, c, e⟩
theorem zrd_one {w : World} {b : Nat} {c : UInt8} {t : TypeId} (h : w.heap[b]? = some (.cells #[bv c] t (0, 0))) : Rd w (.slice (some ⟨b, 0, none⟩) 1 1) [c] := by
  refine ⟨some ⟨b, 0, none⟩, 1, rfl, by simp, by unfold maxLen; omega, (fun e => by cases e), fun a ha j u hu => ?_⟩
  cases ha
  cases j with
  | zero =>
    simp at hu
    subst hu
    exact cell_in h 0 _ rfl
  | succ j => simp at hu

end Go.Proofs.Ytafcbelkhhjcoaa

set_option linter.unusedVariables false
set_option linter.unusedSimpArgs false
set_option maxRecDepth 100000
namespace Go.Proofs.Ytafcbelkhhjcoaa
open Go.RowKit Go.Deep

theorem any_take {α : Type} {p : α → Bool} {s : List α} {k : Nat} {c : α} (h : s[k]? = some c) (ha : (s.take k).any p = false) : (s.take (k + 1)).any p = p c := by
  rw [List.take_add_one, h, List.any_append, ha]; simp
theorem getElem?_taken {α : Type} {l : List α} {k i : Nat} (h : i < k) : (l.take k)[i]? = l[i]? := by rw [List.getElem?_take]; simp [h]

end Go.Proofs.Ytafcbelkhhjcoaa

set_option linter.unusedVariables false
set_option linter.unusedSimpArgs false
set_option maxRecDepth 100000

set_option linter.unusedVariables false
set_option linter.unusedSimpArgs false
set_option maxRecDepth 100000

set_option linter.unusedVariables false
set_option linter.unusedSimpArgs false
set_option maxRecDepth 100000

set_option linter.unusedVariables false
set_option linter.unusedSimpArgs false
set_option maxRecDepth 100000

set_option linter.unusedVariables false
set_option linter.unusedSimpArgs false
set_option maxRecDepth 100000

set_option maxRecDepth 100000

set_option linter.unusedVariables false
set_option linter.unusedSimpArgs false
set_option maxRecDepth 100000

set_option linter.unusedVariables false

set_option linter.unusedVariables false

set_option linter.unusedVariables false

set_option linter.unusedVariables false

set_option linter.unusedVariables false
set_option linter.unusedSimpArgs false
set_option maxRecDepth 100000

set_option linter.unusedVariables false
set_option linter.unusedSimpArgs false
set_option maxRecDepth 100000

set_option linter.unusedVariables false
set_option linter.unusedSimpArgs false
set_option maxRecDepth 100000

set_option linter.unusedVariables false
set_option linter.unusedSimpArgs false
set_option maxRecDepth 100000


set_option linter.unusedVariables false
set_option linter.unusedSimpArgs false
set_option maxRecDepth 100000

set_option linter.unusedVariables false
set_option linter.unusedSimpArgs false
set_option maxRecDepth 100000

set_option linter.unusedVariables false
set_option linter.unusedSimpArgs false
set_option maxRecDepth 100000

set_option linter.unusedVariables false
set_option linter.unusedSimpArgs false
set_option maxRecDepth 100000

set_option linter.unusedVariables false
set_option linter.unusedSimpArgs false
set_option maxRecDepth 100000

set_option linter.unusedVariables false
set_option linter.unusedSimpArgs false
set_option maxRecDepth 100000

set_option linter.unusedVariables false
set_option linter.unusedSimpArgs false
set_option maxRecDepth 100000

set_option linter.unusedVariables false
set_option linter.unusedSimpArgs false
set_option maxRecDepth 100000

set_option linter.unusedVariables false
set_option linter.unusedSimpArgs false
set_option maxRecDepth 100000

set_option linter.unusedVariables false
set_option linter.unusedSimpArgs false
set_option maxRecDepth 100000

set_option linter.unusedVariables false

set_option linter.unusedVariables false

set_option linter.unusedVariables false

set_option linter.unusedVariables false

set_option linter.unusedVariables false
set_option linter.unusedSimpArgs false
set_option maxRecDepth 100000

set_option linter.unusedVariables false
set_option linter.unusedSimpArgs false
set_option maxRecDepth 100000
namespace Go.Proofs.Ytafcbelkhhjcoaa
open Go.RowKit Go.Deep

set_option maxHeartbeats 1000000 in
theorem zequal_any (w : World) {x y : Value} {A B : List UInt8} (hx : Rd w x A) (hy : Rd w y B) : Calls Try.prog 195 #[x, y] w (fun e w' => e = .returned (.bool (A == B)) ∧ w' = w) := by
  have t1 := hx.conv (P := Try.prog) 62 9 5 Try.underlying62 Try.underlying5 Try.underlying9
  have t2 := hy.conv (P := Try.prog) 62 9 5 Try.underlying62 Try.underlying5 Try.underlying9
  clear hx hy
  go_enter Try.func195, Try.ntmps195
  go_wp2_with fail
  go_ret
  exact ⟨by simp [ByteArray.toList_eq], rfl⟩

end Go.Proofs.Ytafcbelkhhjcoaa

set_option linter.unusedVariables false

set_option linter.unusedVariables false
set_option linter.unusedSimpArgs false
set_option maxRecDepth 100000

set_option linter.unusedVariables false
set_option linter.unusedSimpArgs false
set_option maxRecDepth 100000

set_option linter.unusedVariables false
set_option linter.unusedSimpArgs false
set_option maxRecDepth 100000

set_option linter.unusedVariables false
set_option linter.unusedSimpArgs false
set_option maxRecDepth 100000

set_option linter.unusedVariables false
set_option linter.unusedSimpArgs false
set_option maxRecDepth 100000

set_option linter.unusedVariables false
set_option linter.unusedSimpArgs false
set_option maxRecDepth 100000

set_option linter.unusedVariables false
set_option linter.unusedSimpArgs false
set_option maxRecDepth 100000

set_option linter.unusedVariables false
set_option linter.unusedSimpArgs false
set_option maxRecDepth 100000

set_option linter.unusedVariables false
set_option linter.unusedSimpArgs false
set_option maxRecDepth 100000

set_option linter.unusedVariables false
set_option linter.unusedSimpArgs false
set_option maxRecDepth 100000

set_option linter.unusedVariables false
set_option linter.unusedSimpArgs false
set_option maxRecDepth 100000

set_option linter.unusedVariables false
set_option linter.unusedSimpArgs false
set_option maxRecDepth 100000

set_option linter.unusedVariables false
set_option linter.unusedSimpArgs false
set_option maxRecDepth 100000

set_option linter.unusedVariables false
set_option linter.unusedSimpArgs false

set_option linter.unusedVariables false
set_option linter.unusedSimpArgs false
set_option maxRecDepth 100000

set_option linter.unusedVariables false
set_option linter.unusedSimpArgs false
set_option maxRecDepth 100000

set_option linter.unusedVariables false
set_option linter.unusedSimpArgs false
set_option maxRecDepth 100000

set_option linter.unusedVariables false
set_option linter.unusedSimpArgs false
set_option maxRecDepth 100000
namespace Go.Proofs.Ytafcbelkhhjcoaa
open Go.RowKit Go.Deep

set_option maxHeartbeats 1000000 in
theorem zbytes_any (w : World) {x y : Value} {A B : List UInt8} (hx : Rd w x A) (hy : Rd w y B) : Calls Try.prog 91 #[x, y] w (fun e w' => e = .returned (.bool (A == B)) ∧ w' = w) := by
  have t1 := hx.conv (P := Try.prog) 62 9 5 Try.underlying62 Try.underlying5 Try.underlying9
  have t2 := hy.conv (P := Try.prog) 62 9 5 Try.underlying62 Try.underlying5 Try.underlying9
  clear hx hy
  go_enter Try.func91, Try.ntmps91
  go_wp2_with fail
  go_ret
  exact ⟨by simp [ByteArray.toList_eq], rfl⟩

end Go.Proofs.Ytafcbelkhhjcoaa

set_option linter.unusedVariables false

set_option linter.unusedVariables false

set_option linter.unusedVariables false

set_option linter.unusedVariables false

set_option linter.unusedVariables false

set_option linter.unusedVariables false

set_option linter.unusedVariables false

set_option linter.unusedVariables false

set_option linter.unusedVariables false

set_option linter.unusedVariables false

set_option linter.unusedVariables false

set_option linter.unusedVariables false

set_option linter.unusedVariables false

set_option linter.unusedVariables false

set_option linter.unusedVariables false

set_option linter.unusedVariables false

set_option linter.unusedVariables false

set_option linter.unusedVariables false

set_option linter.unusedVariables false

set_option linter.unusedVariables false

set_option linter.unusedVariables false

set_option linter.unusedVariables false
namespace Go.Proofs.Ytafcbelkhhjcoaa
open Go.RowKit Go.Shelf
attribute [local go_sem] Oper.semAt_some

end Go.Proofs.Ytafcbelkhhjcoaa

set_option linter.unusedVariables false

set_option linter.unusedVariables false
namespace Go.Proofs.Ytafcbelkhhjcoaa
open Go.RowKit Go.Shelf

set_option maxHeartbeats 1000000 in
set_option maxRecDepth 100000 in
theorem copyB_any (w : World) (x : Value) (l : List UInt8) (h : Rd w x l) (hl : l.length ≤ 140737488355328) :
    Calls Try.prog 128 #[x] w (Gives 5 w l) := by
  have HR := hid h
  obtain ⟨ao, c, rfl, -⟩ := h
  have hown : w.ownsRow w.heap.size 5 1 (.slice none 0 0) 0 [] := World.ownsRow_nil _ _ _ _
  have HR2 := HR.out
  go_enter Try.func128, Try.ntmps128
  go_wp2_with (first
    | (at_builtin; refine wp_app rfl _ _ 62 rfl w.heap.size 5 Try.underlying62 (by kernel_rfl) _ _ _ rfl hown _ l rfl HR2 ?c1 ?c2 ?_))
  case c1 => omega
  case c2 => exact Nat.le_refl _
  intro v' w1 hown' hgrow
  have hb : Below w.heap.size w w1 := (Below.refl _ _).grown hgrow (Nat.le_refl _) (fun k hk => by simp [Value.ownBlock] at hk)
  clear hgrow hown HR2
  go_wp2
  go_ret
  exact ⟨_, rfl, by simpa using hown', hb⟩
end Go.Proofs.Ytafcbelkhhjcoaa

set_option linter.unusedVariables false
set_option linter.unusedSimpArgs false
set_option maxRecDepth 100000

set_option linter.unusedVariables false
set_option linter.unusedSimpArgs false
set_option maxRecDepth 100000

set_option linter.unusedVariables false
set_option linter.unusedSimpArgs false
set_option maxRecDepth 100000

set_option linter.unusedVariables false
set_option linter.unusedSimpArgs false
set_option maxRecDepth 100000

set_option linter.unusedVariables false
set_option linter.unusedSimpArgs false
set_option maxRecDepth 100000

set_option linter.unusedVariables false
set_option linter.unusedSimpArgs false
set_option maxRecDepth 100000

set_option linter.unusedVariables false
set_option linter.unusedSimpArgs false
set_option maxRecDepth 100000

set_option linter.unusedVariables false
set_option linter.unusedSimpArgs false

set_option linter.unusedVariables false
set_option linter.unusedSimpArgs false
set_option maxRecDepth 100000
namespace Go.Proofs.Ytafcbelkhhjcoaa
open Go.RowKit Go.Deep

/-- The place of the first; -1, if there is none. -/
def fidx {α : Type} (p : α → Bool) (l : List α) : Int := match l.findIdx? p with | some k => (k : Int) | none => -1
theorem fidx_no {α : Type} {p : α → Bool} {l : List α} (h : l.any p = false) : fidx p l = -1 := by
  have : l.findIdx? p = none := by rw [List.findIdx?_eq_none_iff]; intro x hx; rw [List.any_eq_false] at h; simpa using h x hx
  unfold fidx; rw [this]
theorem any_lt {α : Type} {p : α → Bool} {l : List α} {k j : Nat} {d : α} (ha : (l.take k).any p = false) (hj : j < k) (hd : l[j]? = some d) : p d = false := by
  rw [List.any_eq_false] at ha
  simpa using ha d (List.mem_of_getElem? (by rw [getElem?_taken hj]; exact hd))
theorem fidx_at {α : Type} {p : α → Bool} {l : List α} {k : Nat} {c : α} (h : l[k]? = some c) (ha : (l.take k).any p = false) (hp : p c = true) : fidx p l = (k : Int) := by
  obtain ⟨hk, rfl⟩ := List.getElem?_eq_some_iff.1 h
  have : l.findIdx? p = some k := by
    rw [List.findIdx?_eq_some_iff_getElem]
    refine ⟨hk, hp, fun j hj => ?_⟩
    rw [any_lt ha hj (List.getElem?_eq_getElem (by omega))]; simp
  unfold fidx; rw [this]
theorem fidx_cases {α : Type} (p : α → Bool) (l : List α) : (fidx p l = -1 ∧ l.find? p = none ∧ l.any p = false) ∨ ∃ (k : Nat) (c : α), fidx p l = (k : Int) ∧ l[k]? = some c ∧ l.find? p = some c ∧ p c = true ∧ (l.take k).any p = false := by
  cases hf : l.findIdx? p with
  | none =>
    refine .inl ⟨by unfold fidx; rw [hf], ?_, ?_⟩
    · rw [List.findIdx?_eq_none_iff] at hf; rw [List.find?_eq_none]; intro x hx; simp [hf x hx]
    · rw [List.findIdx?_eq_none_iff] at hf; rw [List.any_eq_false]; intro x hx; simp [hf x hx]
  | some k =>
    have h := hf
    rw [List.findIdx?_eq_some_iff_getElem] at h
    obtain ⟨hk, hp, hlt⟩ := h
    have ha : (l.take k).any p = false := by
      rw [List.any_eq_false]; intro x hx
      obtain ⟨j, hj, rfl⟩ := List.mem_take_iff_getElem.1 hx
      exact hlt j (by omega)
    exact .inr ⟨k, l[k], by unfold fidx; rw [hf], List.getElem?_eq_getElem hk, find_at (List.getElem?_eq_getElem hk) ha hp, hp, ha⟩

end Go.Proofs.Ytafcbelkhhjcoaa

set_option linter.unusedVariables false
set_option linter.unusedSimpArgs false
set_option maxRecDepth 100000

set_option linter.unusedVariables false
set_option linter.unusedSimpArgs false
set_option maxRecDepth 100000

set_option linter.unusedVariables false
set_option linter.unusedSimpArgs false
set_option maxRecDepth 100000

set_option linter.unusedVariables false
set_option linter.unusedSimpArgs false
set_option maxRecDepth 100000

set_option linter.unusedVariables false
set_option linter.unusedSimpArgs false
set_option maxRecDepth 100000

set_option linter.unusedVariables false
set_option linter.unusedSimpArgs false
set_option maxRecDepth 100000

set_option linter.unusedVariables false
set_option linter.unusedSimpArgs false
set_option maxRecDepth 100000

set_option linter.unusedVariables false
set_option linter.unusedSimpArgs false
set_option maxRecDepth 100000

set_option linter.unusedVariables false
set_option linter.unusedSimpArgs false
set_option maxRecDepth 100000

set_option linter.unusedVariables false
set_option linter.unusedSimpArgs false
set_option maxRecDepth 100000

set_option linter.unusedVariables false
set_option linter.unusedSimpArgs false
set_option maxRecDepth 100000

set_option linter.unusedVariables false
set_option linter.unusedSimpArgs false
set_option maxRecDepth 100000

set_option linter.unusedVariables false
namespace Go.Proofs.Ytafcbelkhhjcoaa
open Go.RowKit

theorem lt_of_block {w : World} {b : Nat} {o : Obj} (h : w.heap[b]? = some o) : b < w.heap.size := (Array.getElem?_eq_some_iff.1 h).1

theorem set_at {w : World} {b k : Nat} {c : Array Value} {t : TypeId} (x : Value) (h : w.heap[b]? = some (.cells c t (0, 0))) : (w.setCell ⟨b, k, none⟩ x).heap[b]? = some (.cells (c.setIfInBounds k x) t (0, 0)) := by
  have hlt := lt_of_block h
  have h' : w.heap[b] = .cells c t (0, 0) := by simpa [Array.getElem?_eq_getElem hlt] using h
  show (w.heap.modify b _)[b]? = _
  rw [Array.getElem?_eq_getElem (by simpa using hlt), Array.getElem_modify_self, h']
  rfl

end Go.Proofs.Ytafcbelkhhjcoaa

set_option linter.unusedVariables false
set_option linter.unusedSimpArgs false
set_option maxRecDepth 100000
namespace Go.Proofs.Ytafcbelkhhjcoaa
open Go.RowKit Go.ChangeShapes Go.WideShapes Go.ChangeAt Go.Deep

section
variable {H : Type} {enc : TypeId × Value → H} {W : World}

theorem mem_weightsAll' {P : Program} {e : TypeId} {d : DataW H} : ∀ {l : List (DataW H)}, d ∈ l → ∀ n ∈ d.weights P e, n ∈ DataW.weightsAll P e l
  | a :: l, h, n, hn => by
    rw [DataW.weightsAll, List.mem_append]
    rcases List.mem_cons.1 h with rfl | h
    · exact .inl hn
    · exact .inr (mem_weightsAll' h n hn)

theorem list_in {α : Type} [Inhabited α] (R : List Value → α → Prop) (B : α → Nat → Prop) (n : Nat) (t e : TypeId) (ht : Try.prog.underlying t = some (.slice e)) (hcv : Try.prog.cellsOf e = n) (hn : 0 < n) (hbv : 0 < Try.prog.bytesOf e)
    (one : ∀ (m : Nat) (cs : List Value) (y : DataW H × List MemPlace), DataW.trod enc Try.prog W 0 (fun _ => true) true m e cs = some y → ∃ a, R cs a ∧ (cs.length = n ∧ ∀ u ∈ cs, u.oneCell' = true) ∧ ∀ K, (∀ k ∈ y.1.weights Try.prog e, k ≤ K) → B a K)
    {f0 : Nat} {cs : List Value} {y : DataW H × List MemPlace} (hf : DataW.trod enc Try.prog W 0 (fun _ => true) true f0 t cs = some y) :
    ∃ (x : Value) (M : List (List Value)) (l : List α), cs = [x] ∧ M.length = l.length ∧ Rws n W x M ∧ (∀ (i : Nat) r a, M[i]? = some r → l[i]? = some a → R r a) ∧ (l ≠ [] → ∀ k, blk x = some k → k < W.heap.size) ∧ x.oneCell' = true ∧
      ∀ K, (∀ k ∈ y.1.weights Try.prog t, k ≤ K) → (∀ a ∈ l, B a K) ∧ l.length ≤ K := by
  rcases open_slice ht hf with ⟨hcs, hx⟩ | ⟨x, len, cap, m, n', D, Pl, hcs, _, hl, hm, hmm, hx, hcell⟩
  · exact ⟨.slice none 0 0, [], [], hcs, rfl, Rws.nil n W, fun i r a h => by simp at h, fun h => absurd rfl h, rfl, fun K _ => ⟨fun e he => (by cases he), Nat.zero_le _⟩⟩
  · rw [hcv] at hcell
    have key : ∀ i, i < len → ∃ v : List Value × α, (∀ j u, v.1[j]? = some u → W.cell? (x.add (i * n + j)) = some u) ∧ R v.1 v.2 ∧ (v.1.length = n ∧ ∀ u ∈ v.1, u.oneCell' = true) ∧ ∀ K, (∀ k ∈ (D i).weights Try.prog e, k ≤ K) → B v.2 K := by
      intro i hi
      obtain ⟨cs', h1, h2⟩ := hcell i (by rw [hmm]; simp; omega)
      obtain ⟨a, hr, hw, hb⟩ := one _ _ _ h2
      obtain ⟨_, hl2, hc⟩ := World.cells?_some h1
      refine ⟨(cs', a), fun j u hu => ?_, hr, hw, hb⟩
      have hu' : cs'[j]? = some u := hu
      have hj : j < cs'.length := (List.getElem?_eq_some_iff.1 hu').1
      have := hc j (by omega)
      rw [add_add] at this
      rw [this, ← hu', List.getElem?_eq_getElem hj]
    obtain ⟨f, hf2⟩ := choose_lt key
    have hlen1 : ((List.range len).map fun i => (f i).1).length = len := by simp
    have hlen2 : ((List.range len).map fun i => (f i).2).length = len := by simp
    have hw : Wide n ((List.range len).map fun i => (f i).1) := fun r hr => by
      obtain ⟨i, hi, rfl⟩ := List.mem_map.1 hr
      exact (hf2 i (List.mem_range.1 hi)).2.2.1
    refine ⟨.slice (some x) len cap, (List.range len).map fun i => (f i).1, (List.range len).map fun i => (f i).2, hcs, by rw [hlen1, hlen2], ⟨some x, cap, by rw [hlen1], by rw [hlen1]; exact hl, hm, (fun h => by cases h), hw, fun a ha j u hu => ?_⟩, fun i r a hr ha => ?_, fun h0 k hk => ?_, rfl, fun K hK => ?_⟩
    · cases ha
      have hjl := (List.getElem?_eq_some_iff.1 hu).1
      rw [hw.len, hlen1] at hjl
      have hk : j / n < len := Nat.div_lt_of_lt_mul (by rw [Nat.mul_comm]; exact hjl)
      have h1 : ((List.range len).map fun i => (f i).1)[j / n]? = some (f (j / n)).1 := by
        rw [List.getElem?_map, List.getElem?_range hk]; rfl
      have hl9 := (hf2 (j / n) hk).2.2.1.1
      have h2 : (f (j / n)).1[j % n]? = some ((f (j / n)).1[j % n]'(by rw [hl9]; exact Nat.mod_lt _ hn)) := List.getElem?_eq_getElem _
      have h3 := hw.at h1 h2
      have e9 : j / n * n + j % n = j := by rw [Nat.mul_comm]; exact Nat.div_add_mod j n
      rw [e9, hu] at h3
      have h4 := (hf2 (j / n) hk).1 (j % n) u (by rw [h2]; exact h3.symm)
      rw [e9] at h4
      exact h4
    · have hi : i < len := by have := (List.getElem?_eq_some_iff.1 hr).1; rwa [hlen1] at this
      rw [List.getElem?_map, List.getElem?_range hi] at hr ha
      cases hr; cases ha
      exact (hf2 i hi).2.1
    · cases hk
      have h0l : 0 < len := by
        rcases Nat.eq_zero_or_pos len with e0 | e0
        · subst e0; exact absurd rfl h0
        · exact e0
      obtain ⟨q1, q2, q3, -⟩ := hf2 0 h0l
      have h5 : (f 0).1[0]? = some ((f 0).1[0]'(by rw [q3.1]; exact hn)) := List.getElem?_eq_getElem _
      have h6 := World.block_lt_of_cell? W _ (q1 0 _ h5)
      simpa [Addr.add] using h6
    · have e9 : y.1 = .slice ((List.range len).map D) ((List.range (m - len)).map fun j => D (len + j)) := congrArg Prod.fst hx
      rw [e9] at hK
      refine ⟨fun o ho => ?_, ?_⟩
      · obtain ⟨i, hi, rfl⟩ := List.mem_map.1 ho
        have hil := List.mem_range.1 hi
        refine (hf2 i hil).2.2.2 K fun k hk => hK k ?_
        simp only [DataW.weights, ht, List.mem_cons, List.mem_append]
        exact .inr (.inl (mem_weightsAll' (List.mem_map.2 ⟨i, hi, rfl⟩) k hk))
      · have h2 := hK _ (by simp only [DataW.weights, ht]; exact List.mem_cons_self)
        simp only [List.length_map, List.length_range] at h2
        rw [List.length_map, List.length_range]
        have h3 : len + (m - len) ≤ (len + (m - len)) * Try.prog.bytesOf e := Nat.le_mul_of_pos_right _ hbv
        omega
theorem i64_in {i : Int} (h : (Lit.int .i64 i).wf = true) : i64 i := by
  have := bounds_i64 h
  exact ⟨by omega, by omega⟩
/-- What the parts of a struct are (their cells as they stand). -/
theorem part {m : Nat} {t : TypeId} {k o : Nat} {cs cs' : List Value} {y : DataW H × List MemPlace} (hc : Try.prog.cellsOf t = k) (h : DataW.trod enc Try.prog W 0 (fun _ => true) true m t ((cs.drop o).take (Try.prog.cellsOf t)) = some y) (he : (cs.drop o).take k = cs') :
    DataW.trod enc Try.prog W 0 (fun _ => true) true m t cs' = some y := by rw [← he, ← hc]; exact h
end
theorem put_any {w : World} {b : Nat} {cur : Array Value} {t : TypeId} (h : w.heap[b]? = some (.cells cur t (0, 0))) (i : Nat) (v : Value) : (w.setCell ⟨b, i, none⟩ v).heap[b]? = some (.cells (cur.setIfInBounds i v) t (0, 0)) := by
  have hlt := lt_of_block h
  have h' : w.heap[b] = .cells cur t (0, 0) := by simpa [Array.getElem?_eq_getElem hlt] using h
  show (w.heap.modify b _)[b]? = _
  rw [Array.getElem?_eq_getElem (by simpa using hlt), Array.getElem_modify_self, h']
  rfl
theorem own_put {w : World} {base : Nat} {e : TypeId} {size n c g k : Nat} {xs : List Value} (h : w.ownsRow base e size (.slice (some ⟨g, 0, none⟩) n c) n xs) (x : Value) :
    (w.setCell ⟨g, k, none⟩ x).ownsRow base e size (.slice (some ⟨g, 0, none⟩) n c) n (xs.set k x) := by
  obtain ⟨h1, h2⟩ := h
  refine ⟨by rw [List.length_set]; exact h1, ?_⟩
  rcases h2 with ⟨h2, _⟩ | ⟨g', cap, cur, hv, hb, hg, hc, hm2, hs, ht⟩
  · cases h2
  · simp only [Value.slice.injEq, Option.some.injEq, Addr.mk.injEq, and_true, true_and] at hv
    obtain ⟨rfl, rfl⟩ := hv
    refine .inr ⟨g, c, _, rfl, hb, put_any hg k x, hc, hm2, by rw [Array.size_setIfInBounds]; exact hs, ?_⟩
    rw [Array.toList_setIfInBounds, ← ht, List.take_set]
end Go.Proofs.Ytafcbelkhhjcoaa

namespace Go.Proofs.Ytafcbelkhhjcoaa
open Go
set_option linter.unusedVariables false

theorem jA {α : Type _} {xs : List α} {i : Nat} (h : i < xs.toArray.size) : xs.toArray[i] = xs[i] := rfl
theorem jB {α : Type _} (a : α) (xs : List α) (i : Nat) (h : i + 1 < (a :: xs).length) : (a :: xs)[i + 1] = xs[i]'(Nat.lt_of_succ_lt_succ h) := rfl
theorem jC {α : Type _} (a : α) (xs : List α) (h : 0 < (a :: xs).length) : (a :: xs)[0] = a := rfl
theorem jD {α : Type _} (l : List α) (i : Nat) (a : α) : l.toArray.setIfInBounds i a = (l.set i a).toArray := List.setIfInBounds_toArray l i a
theorem jE {α : Type _} {x : α} {xs : List α} {i : Nat} {a : α} : (x :: xs).set (i + 1) a = x :: xs.set i a := rfl
theorem jF {α : Type _} {x : α} {xs : List α} {a : α} : (x :: xs).set 0 a = a :: xs := rfl

section
variable {P : Program} {ops : Array Oper} {Q : Exit → Act → World → Prop} {md : Region.Mode} {S : World → Prop}

/-- Number 'i' first: its three tests as one. -/
theorem tkH (i : Nat) (v : Value) {oi : Oper} {fuel : Nat} {listed : Array Bool} {a : Act} {w : World} (hi : ops[i]? = some oi)
    (hb : (Region.noSelect ops && Region.free md ops listed i && (Region.ready md ops listed).contains i) = true)
    (hQ : ∀ c a w, Q (.panic c) (a.put oi.dst v) w → Q (.panic c) a w) (hS : S w) (hy : YieldsIf P ops S oi v a)
    (h : wpAnyH P md ops Q S fuel (listed.setIfInBounds i true) (a.put oi.dst v) w) : wpAnyH P md ops Q S (fuel + 1) listed a w := by
  simp only [Bool.and_eq_true] at hb
  exact wpAnyH_take hi hb.1.1 hb.1.2 hb.2 hQ hy hS h

/-- One alone is ready. -/
theorem rdH (i : Nat) {o : Oper} {fuel : Nat} {listed : Array Bool} {a : Act} {w : World} (hr : Region.ready md ops listed = [i]) (ho : ops[i]? = some o)
    (h : ∀ K' : Act → World → Prop, Shut (∀ a w, S w → (S w → wpAnyH P md ops Q S fuel (listed.setIfInBounds i true) a w) → K' a w) → if Region.wanted o (yielded ops a.tmps) = true then Oper.wp P o a w K' Q else K' (a.put o.dst undef) w) :
    wpAnyH P md ops Q S (fuel + 1) listed a w :=
  wpAnyH_ready hr (by simp) (AllReadyH.cons ho h AllReadyH.nil)

/-- As 'wpAnyH'; but 'S' need hold only as long as number 's' has not come up. -/
def wpAnyL (P : Program) (md : Region.Mode) (ops : Array Oper) (Q : Exit → Act → World → Prop) (S : World → Prop) (s : Nat) : Nat → Array Bool → Act → World → Prop
  | 0, listed, a, w => Region.ready md ops listed = [] ∧ Q .normal a w
  | fuel + 1, listed, a, w =>
    (Region.ready md ops listed = [] → Q .normal a w) ∧
    ∀ i ∈ Region.ready md ops listed, wpOp P ops Q i (fun a' w' => ((listed.setIfInBounds i true).getD s true = false → S w') ∧ wpAnyL P md ops Q S s fuel (listed.setIfInBounds i true) a' w') a w

theorem wpAny_of_L {s : Nat} : ∀ (fuel : Nat) (listed : Array Bool) (a : Act) (w : World), wpAnyL P md ops Q S s fuel listed a w → wpAny P md ops Q fuel listed a w
  | 0, _, _, _, h => h
  | fuel + 1, _, _, _, h => ⟨h.1, fun i hi => wpOp_mono (fun a' w' h' => wpAny_of_L fuel _ a' w' h'.2) (h.2 i hi)⟩

/-- Those of 'D' wait for 'i', one behind the other; 's' is one of them. -/
theorem wpAnyL_first {s i : Nat} {oi : Oper} {v : Value} (hi : ops[i]? = some oi) (hsel : ∀ (j : Nat) (o : Oper) cs b, ops[j]? = some o → o.op ≠ .select cs b)
    (hQ : ∀ c a w, Q (.panic c) (a.put oi.dst v) w → Q (.panic c) a w) (D : List Nat) (hiD : i ∈ D) (hsD : s ∈ D) (hsi : s ≠ i)
    (hD : ∀ d ∈ D, d ≠ i → ∀ o, ops[d]? = some o → ∃ e ∈ o.after, Region.binds md e = true ∧ e.on ∈ D) :
    ∀ (fuel : Nat) (listed : Array Bool) (a : Act) (w : World),
      (∀ j oj, ops[j]? = some oj → j ≠ i → listed.getD j true = false → (∀ e ∈ oj.after, Region.binds md e = true → e.on ≠ i) → oi.apart ops oj = true) →
      i ∈ Region.ready md ops listed → (∀ d ∈ D, listed.getD d true = false) → YieldsIf P ops S oi v a → S w →
      wpAnyL P md ops Q S s fuel (listed.setIfInBounds i true) (a.put oi.dst v) w → wpAnyL P md ops Q S s (fuel + 1) listed a w := by
  intro fuel
  induction fuel with
  | zero =>
    intro listed a w _ hr _ hy hS H
    refine ⟨fun h => (by rw [h] at hr; cases hr), fun j hj => ?_⟩
    by_cases hji : j = i
    · subst hji; exact hy.wpOp hi hS ⟨fun _ => hS, H⟩
    · have := ready_mono hj hji
      rw [H.1] at this
      cases this
  | succ fuel ih =>
    intro listed a w hfree hr hun hy hS H
    refine ⟨fun h => (by rw [h] at hr; cases hr), fun j hj => ?_⟩
    by_cases hji : j = i
    · subst hji; exact hy.wpOp hi hS ⟨fun _ => hS, H⟩
    · have h1 := H.2 j (ready_mono hj hji)
      obtain ⟨hjun, oj, hoj, hall⟩ := mem_ready.1 hj
      have hno : ∀ k, listed.getD k true = false → ∀ e ∈ oj.after, Region.binds md e = true → e.on ≠ k := fun k h0 e he hb heq => by
        have h1 := hall e he hb
        rw [heq] at h1
        rcases Nat.lt_or_ge k listed.size with h' | h'
        · simp [h'] at h0 h1; rw [h0] at h1; cases h1
        · simp [Array.getElem?_eq_none h'] at h1
      have hnot := hno i (mem_ready.1 hr).1
      have hjD : j ∉ D := fun h => by
        obtain ⟨e, he, hb, hon⟩ := hD j h hji oj hoj
        exact hno _ (hun _ hon) e he hb rfl
      have h2 := wpOp_putIf hoj (hfree j oj hoj hji hjun hnot) (fun cs b => hsel i oi cs b hi) (fun cs b => hsel j oj cs b hoj) hQ hy h1
      have hfree' : ∀ k ok, ops[k]? = some ok → k ≠ i → (listed.setIfInBounds j true).getD k true = false →
          (∀ e ∈ ok.after, Region.binds md e = true → e.on ≠ i) → oi.apart ops ok = true := fun k ok hk hki hun hno => by
        refine hfree k ok hk hki ?_ hno
        by_cases hjk : j = k
        · subst hjk; exact hjun
        · rw [getD_set_ne true hjk] at hun; exact hun
      have hun' : ∀ d ∈ D, (listed.setIfInBounds j true).getD d true = false := fun d hd => by
        rw [getD_set_ne true (fun e : j = d => hjD (by rw [e]; exact hd))]; exact hun d hd
      refine wpOp_mono (fun a' w' h3 => ?_) h2
      have hS' : S w' := h3.2.1 (by rw [getD_set_ne true (fun e : j = s => hjD (by rw [e]; exact hsD)), getD_set_ne true (Ne.symm hsi)]; exact hun s hsD)
      refine ⟨fun _ => hS', ih (listed.setIfInBounds j true) a' w' hfree' (ready_mono hr (Ne.symm hji)) hun' h3.1 hS' ?_⟩
      rw [Array.setIfInBounds_comm _ _ hji]
      exact h3.2.2

/-- The tests of 'wpAnyL_first', as a Bool. -/
def lateB (md : Region.Mode) (ops : Array Oper) (listed : Array Bool) (s i : Nat) (D : List Nat) : Bool :=
  D.contains i && D.contains s && s != i && D.all (fun d => !(listed.getD d true) && (d == i || match ops[d]? with | some o => o.after.any (fun e => Region.binds md e && D.contains e.on) | none => true))

/-- Number 'i' first, though 's', which waits for it by way of 'D', ends 'S'. -/
theorem tkL (i : Nat) (v : Value) (D : List Nat) {s : Nat} {oi : Oper} {fuel : Nat} {listed : Array Bool} {a : Act} {w : World} (hi : ops[i]? = some oi)
    (hb : (Region.noSelect ops && Region.free md ops listed i && (Region.ready md ops listed).contains i && lateB md ops listed s i D) = true)
    (hQ : ∀ c a w, Q (.panic c) (a.put oi.dst v) w → Q (.panic c) a w) (hS : S w) (hy : YieldsIf P ops S oi v a)
    (h : wpAnyL P md ops Q S s fuel (listed.setIfInBounds i true) (a.put oi.dst v) w) : wpAnyL P md ops Q S s (fuel + 1) listed a w := by
  simp only [Bool.and_eq_true, lateB, List.contains_iff_mem, bne_iff_ne, List.all_eq_true, Bool.not_eq_true', Bool.or_eq_true, beq_iff_eq] at hb
  obtain ⟨⟨⟨h1, h2⟩, h3⟩, ⟨⟨h4, h5⟩, h6⟩, h7⟩ := hb
  refine wpAnyL_first hi (Region.noSelect_spec h1) hQ D h4 h5 h6 (fun d hd hne o ho => ?_) fuel listed a w (Region.free_spec hi h2) (by simpa using h3) (fun d hd => (h7 d hd).1) hy hS h
  have h8 := (h7 d hd).2
  rw [ho] at h8
  rcases h8 with h8 | h8
  · exact absurd h8 hne
  · obtain ⟨e, he, hb⟩ := Array.any_eq_true'.1 h8
    simp only [Bool.and_eq_true, List.contains_iff_mem] at hb
    exact ⟨e, he, hb.1, hb.2⟩

/-- A value that hangs on no world, first. -/
theorem tkV (i : Nat) (v : Value) {s : Nat} {oi : Oper} {fuel : Nat} {listed : Array Bool} {a : Act} {w : World} (hi : ops[i]? = some oi)
    (hb : (Region.noSelect ops && Region.free md ops listed i && (Region.ready md ops listed).contains i && s != i) = true)
    (hQ : ∀ c a w, Q (.panic c) (a.put oi.dst v) w → Q (.panic c) a w) (hy : YieldsIf P ops (fun _ => True) oi v a) (hS : listed.getD s true = false → S w)
    (h : wpAnyL P md ops Q S s fuel (listed.setIfInBounds i true) (a.put oi.dst v) w) : wpAnyL P md ops Q S s (fuel + 1) listed a w := by
  simp only [Bool.and_eq_true, bne_iff_ne] at hb
  obtain ⟨⟨⟨h1, h2⟩, h3⟩, hsi⟩ := hb
  have hsel := Region.noSelect_spec h1
  suffices H : ∀ (fuel : Nat) (listed : Array Bool) (a : Act) (w : World),
      (∀ j oj, ops[j]? = some oj → j ≠ i → listed.getD j true = false → (∀ e ∈ oj.after, Region.binds md e = true → e.on ≠ i) → oi.apart ops oj = true) →
      i ∈ Region.ready md ops listed → YieldsIf P ops (fun _ => True) oi v a → (listed.getD s true = false → S w) →
      wpAnyL P md ops Q S s fuel (listed.setIfInBounds i true) (a.put oi.dst v) w → wpAnyL P md ops Q S s (fuel + 1) listed a w from
    H fuel listed a w (Region.free_spec hi h2) (by simpa using h3) hy hS h
  clear hS h hy h2 h3 h1
  intro fuel
  induction fuel with
  | zero =>
    intro listed a w _ hr hy hS H
    refine ⟨fun h => (by rw [h] at hr; cases hr), fun j hj => ?_⟩
    by_cases hji : j = i
    · subst hji; exact hy.wpOp hi trivial ⟨fun h => hS (by rw [getD_set_ne true (Ne.symm hsi)] at h; exact h), H⟩
    · have := ready_mono hj hji
      rw [H.1] at this
      cases this
  | succ fuel ih =>
    intro listed a w hfree hr hy hS H
    refine ⟨fun h => (by rw [h] at hr; cases hr), fun j hj => ?_⟩
    by_cases hji : j = i
    · subst hji; exact hy.wpOp hi trivial ⟨fun h => hS (by rw [getD_set_ne true (Ne.symm hsi)] at h; exact h), H⟩
    · have h1 := H.2 j (ready_mono hj hji)
      obtain ⟨hjun, oj, hoj, hall⟩ := mem_ready.1 hj
      have hnot : ∀ e ∈ oj.after, Region.binds md e = true → e.on ≠ i := fun e he hb heq => by
        have h1 := hall e he hb
        have h0 := (mem_ready.1 hr).1
        rw [heq] at h1
        rcases Nat.lt_or_ge i listed.size with h' | h'
        · simp [h'] at h0 h1; rw [h0] at h1; cases h1
        · simp [Array.getElem?_eq_none h'] at h1
      have h2 := wpOp_putIf hoj (hfree j oj hoj hji hjun hnot) (fun cs b => hsel i oi cs b hi) (fun cs b => hsel j oj cs b hoj) hQ hy h1
      have hfree' : ∀ k ok, ops[k]? = some ok → k ≠ i → (listed.setIfInBounds j true).getD k true = false →
          (∀ e ∈ ok.after, Region.binds md e = true → e.on ≠ i) → oi.apart ops ok = true := fun k ok hk hki hun hno => by
        refine hfree k ok hk hki ?_ hno
        by_cases hjk : j = k
        · subst hjk; exact hjun
        · rw [getD_set_ne true hjk] at hun; exact hun
      refine wpOp_mono (fun a' w' h3 => ?_) h2
      have hS' : (listed.setIfInBounds j true).getD s true = false → S w' := fun h => h3.2.1 (by
        rw [Array.setIfInBounds_comm _ _ (Ne.symm hji), getD_set_ne true (Ne.symm hsi)]; exact h)
      refine ⟨hS', ih (listed.setIfInBounds j true) a' w' hfree' (ready_mono hr (Ne.symm hji)) h3.1 hS' ?_⟩
      rw [Array.setIfInBounds_comm _ _ hji]
      exact h3.2.2

/-- One alone is ready, ahead of 's'. -/
theorem rdL (i : Nat) {s : Nat} {o : Oper} {fuel : Nat} {listed : Array Bool} {a : Act} {w : World} (hb : (Region.ready md ops listed == [i] && !(listed.setIfInBounds i true).getD s true) = true) (ho : ops[i]? = some o)
    (h : ∀ K' : Act → World → Prop, Shut (∀ a w, S w → (S w → wpAnyL P md ops Q S s fuel (listed.setIfInBounds i true) a w) → K' a w) → if Region.wanted o (yielded ops a.tmps) = true then Oper.wp P o a w K' Q else K' (a.put o.dst undef) w) :
    wpAnyL P md ops Q S s (fuel + 1) listed a w := by
  simp only [Bool.and_eq_true, Bool.not_eq_true', beq_iff_eq] at hb
  obtain ⟨hr, hq⟩ := hb
  refine ⟨fun h0 => (by rw [hr] at h0; cases h0), fun j hj => ?_⟩
  rw [hr] at hj
  simp only [List.mem_cons, List.not_mem_nil, or_false] at hj
  subst hj
  exact wpOp_step ho (fun K' hK => h K' (fun a w hS hW => hK a w ⟨fun _ => hS, hW hS⟩))

/-- One alone is ready: 's'. -/
theorem rdS {s : Nat} {o : Oper} {fuel : Nat} {listed : Array Bool} {a : Act} {w : World} (hb : (Region.ready md ops listed == [s] && (listed.setIfInBounds s true).getD s true) = true) (ho : ops[s]? = some o)
    (h : ∀ K' : Act → World → Prop, Shut (∀ a w, wpAnyL P md ops Q S s fuel (listed.setIfInBounds s true) a w → K' a w) → if Region.wanted o (yielded ops a.tmps) = true then Oper.wp P o a w K' Q else K' (a.put o.dst undef) w) :
    wpAnyL P md ops Q S s (fuel + 1) listed a w := by
  simp only [Bool.and_eq_true, beq_iff_eq] at hb
  obtain ⟨hr, hq⟩ := hb
  refine ⟨fun h0 => (by rw [hr] at h0; cases h0), fun j hj => ?_⟩
  rw [hr] at hj
  simp only [List.mem_cons, List.not_mem_nil, or_false] at hj
  subst hj
  exact wpOp_step ho (fun K' hK => h K' (fun a w hW => hK a w ⟨fun h0 => (by rw [hq] at h0; cases h0), hW⟩))

/-- One alone is ready, 's' or one behind it. -/
theorem rdP (i : Nat) {s : Nat} {o : Oper} {fuel : Nat} {listed : Array Bool} {a : Act} {w : World} (hb : (Region.ready md ops listed == [i] && (listed.setIfInBounds i true).getD s true) = true) (ho : ops[i]? = some o)
    (h : ∀ K' : Act → World → Prop, Shut (∀ a w, wpAnyL P md ops Q S s fuel (listed.setIfInBounds i true) a w → K' a w) → if Region.wanted o (yielded ops a.tmps) = true then Oper.wp P o a w K' Q else K' (a.put o.dst undef) w) :
    wpAnyL P md ops Q S s (fuel + 1) listed a w := by
  simp only [Bool.and_eq_true, beq_iff_eq] at hb
  obtain ⟨hr, hq⟩ := hb
  refine ⟨fun h0 => (by rw [hr] at h0; cases h0), fun j hj => ?_⟩
  rw [hr] at hj
  simp only [List.mem_cons, List.not_mem_nil, or_false] at hj
  subst hj
  exact wpOp_step ho (fun K' hK => h K' (fun a w hW => hK a w ⟨fun h0 => (by rw [hq] at h0; cases h0), hW⟩))

theorem doneL {s : Nat} {listed : Array Bool} {a : Act} {w : World} (hr : Region.ready md ops listed = []) (h : Q .normal a w) :
    ∀ fuel, wpAnyL P md ops Q S s fuel listed a w
  | 0 => ⟨hr, h⟩
  | _ + 1 => ⟨fun _ => h, by rw [hr]; simp⟩

theorem wp_region_L (s : Nat) {id : Nat} {a : Act} {w : World} (hm : P.follows .mixedOrders = true)
    (h : wpAnyL P .any ops Q S s ops.size (Array.replicate ops.size false) a w.drew) : (Code.region id ops true).wp P Q a w :=
  wp_region_any hm (wpAny_of_L _ _ _ _ h)

end
end Go.Proofs.Ytafcbelkhhjcoaa

set_option linter.unusedVariables false
set_option linter.unusedSimpArgs false
set_option maxRecDepth 100000
namespace Go.Proofs.Ytafcbelkhhjcoaa
open Go.RowKit Go.Deep

def iv (z : Int) : Value := .int .i64 z
def vat (M : List Int) (p : Nat) : Int := M.getD p 0
def Srd (k : Nat) (M : List Int) : Prop := ∀ p q, p < q → q < k → vat M p ≤ vat M q
def Inn (i j : Nat) (M : List Int) : Prop := j ≤ i ∧ (∀ p q, p < q → q ≤ i → p ≠ j → q ≠ j → vat M p ≤ vat M q) ∧ (∀ q, j < q → q ≤ i → vat M j ≤ vat M q)

theorem vat_set {M : List Int} {j p : Nat} {a : Int} (hj : j < M.length) : vat (M.set j a) p = if p = j then a else vat M p := by
  unfold vat
  rw [List.getD_eq_getElem?_getD, List.getElem?_set]
  by_cases h : p = j
  · subst h; simp [hj]
  · rw [if_neg (fun e => h e.symm), if_neg h, List.getD_eq_getElem?_getD]
def swp (M : List Int) (j : Nat) : List Int := (M.set j (vat M (j - 1))).set (j - 1) (vat M j)
theorem swp_perm {M : List Int} {j : Nat} (hj : j < M.length) (h0 : 0 < j) : (swp M j).Perm M := by
  have h1 : j - 1 < M.length := by omega
  have h := List.set_set_perm hj h1
  have e1 : vat M (j - 1) = M[j - 1] := by unfold vat; rw [List.getD_eq_getElem?_getD, List.getElem?_eq_getElem h1]; rfl
  have e2 : vat M j = M[j] := by unfold vat; rw [List.getD_eq_getElem?_getD, List.getElem?_eq_getElem hj]; rfl
  unfold swp
  rw [e1, e2]
  exact h
theorem swp_at {M : List Int} {j p : Nat} (hj : j < M.length) (h0 : 0 < j) : vat (swp M j) p = if p = j - 1 then vat M j else if p = j then vat M (j - 1) else vat M p := by
  unfold swp
  rw [vat_set (by simp; omega), vat_set hj]
theorem inn_start {i : Nat} {M : List Int} (h : Srd i M) : Inn i i M := ⟨Nat.le_refl _, fun p q h1 h2 h3 h4 => h p q h1 (by omega), fun q h1 h2 => by omega⟩
theorem inn_end {i j : Nat} {M : List Int} (h : Inn i j M) (he : j = 0 ∨ ¬ vat M j < vat M (j - 1)) : Srd (i + 1) M := by
  obtain ⟨hji, ha, hb⟩ := h
  intro p q h1 h2
  by_cases hp : p = j
  · subst hp; exact hb q h1 (by omega)
  · by_cases hq : q = j
    · subst hq
      rcases he with he | he
      · omega
      · by_cases h3 : p = q - 1
        · subst h3; omega
        · have := ha p (q - 1) (by omega) (by omega) hp (by omega)
          omega
    · exact ha p q h1 (by omega) hp hq
theorem inn_swp {i j : Nat} {M : List Int} (h : Inn i j M) (h0 : 0 < j) (hl : j < M.length) (hlt : vat M j < vat M (j - 1)) : Inn i (j - 1) (swp M j) := by
  obtain ⟨hji, ha, hb⟩ := h
  refine ⟨by omega, fun p q h1 h2 h3 h4 => ?_, fun q h1 h2 => ?_⟩
  · rw [swp_at hl h0, swp_at hl h0, if_neg h3, if_neg h4]
    by_cases hp : p = j
    · subst hp
      rw [if_pos rfl, if_neg (by omega)]
      exact ha (p - 1) q (by omega) h2 (by omega) (by omega)
    · by_cases hq : q = j
      · subst hq
        rw [if_neg hp, if_pos rfl]
        exact ha p (q - 1) (by omega) (by omega) hp (by omega)
      · rw [if_neg hp, if_neg hq]
        exact ha p q h1 h2 hp hq
  · rw [swp_at hl h0, swp_at hl h0, if_pos rfl, if_neg (by omega)]
    by_cases hq : q = j
    · subst hq; rw [if_pos rfl]; omega
    · rw [if_neg hq]; exact hb q (by omega) h2
theorem srd_all {M : List Int} (h : Srd M.length M) : M.Pairwise (· ≤ ·) := by
  rw [List.pairwise_iff_getElem]
  intro i j hi hj hij
  have h1 := h i j hij hj
  unfold vat at h1
  rw [List.getD_eq_getElem?_getD, List.getElem?_eq_getElem hi, List.getD_eq_getElem?_getD, List.getElem?_eq_getElem hj] at h1
  exact h1

theorem own_cell {w : World} {base g n c : Nat} {e : TypeId} {xs : List Value} (h : w.ownsRow base e 1 (.slice (some ⟨g, 0, none⟩) n c) n xs) {k : Nat} {v : Value} (hk : xs[k]? = some v) : w.cell? ⟨g, k, none⟩ = some v := by
  obtain ⟨h1, h2⟩ := h
  rcases h2 with ⟨h2, _⟩ | ⟨g', cap, cur, hv, hb, hg, hc, hm2, hs, ht⟩
  · cases h2
  · simp only [Value.slice.injEq, Option.some.injEq, Addr.mk.injEq, and_true, true_and] at hv
    obtain ⟨rfl, rfl⟩ := hv
    refine cell_in hg k v ?_
    rw [← ht] at hk
    have hk2 := (List.getElem?_eq_some_iff.1 hk).1
    rw [List.length_take] at hk2
    rw [List.getElem?_take_of_lt (by omega)] at hk
    simpa using hk
theorem vat_cell {w : World} {base g n c : Nat} {e : TypeId} {M : List Int} (h : w.ownsRow base e 1 (.slice (some ⟨g, 0, none⟩) n c) n (M.map iv)) {k : Nat} (hk : k < M.length) : w.cell? ⟨g, k, none⟩ = some (.int .i64 (vat M k)) :=
  own_cell h (by rw [List.getElem?_map, List.getElem?_eq_getElem hk]; unfold vat; rw [List.getD_eq_getElem?_getD, List.getElem?_eq_getElem hk]; rfl)

theorem nan_any (a : Int) (w : World) : Calls Try.prog 262 #[.int .i64 a] w (fun e w' => e = .returned (.bool false) ∧ w' = w) := by
  go_enter Try.func262, Try.ntmps262
  go_wp2_with fail
  go_ret
  exact ⟨by simp, rfl⟩
theorem less_any (a b : Int) (w : World) : Calls Try.prog 238 #[.int .i64 a, .int .i64 b] w (fun e w' => e = .returned (.bool (decide (a < b))) ∧ w' = w) := by
  go_enter Try.func238, Try.ntmps238
  go_wp2_with (first | (go_at_call 262; refine (nan_any _ _).mono ?_; rintro en w2 ⟨rfl, rfl⟩))
  go_ret
  exact ⟨rfl, rfl⟩

theorem free_in {w : World} {b : Nat} {cs : Array Value} {t : TypeId} (h : w.heap[b]? = some (.cells cs t (0, 0))) (i : Nat) : w.frozen? ⟨b, i, none⟩ = false := by
  simp [World.frozen?, h]
theorem own_drew {w : World} {base : Nat} {e : TypeId} {size : Nat} {v : Value} {n : Nat} {xs : List Value} (h : w.ownsRow base e size v n xs) (q : Nat) : (w.drewN q).ownsRow base e size v n xs :=
  own_keep h (X := fun _ => False) ⟨rfl, rfl, rfl, Nat.le_refl _, fun _ _ _ => rfl⟩ (fun _ _ e => e)
theorem keep_drew {X : Nat → Prop} {w v : World} (h : Keep X w v) (q : Nat) : Keep X w (v.drewN q) := h.trans ⟨rfl, rfl, rfl, Nat.le_refl _, fun _ _ _ => rfl⟩
theorem swp_map {M : List Int} {m : Nat} (h : m + 1 < M.length) : ((M.map iv).set (m + 1) (.int .i64 (vat M m))).set m (.int .i64 (vat M (m + 1))) = (swp M (m + 1)).map iv := by
  unfold swp
  rw [List.map_set, List.map_set]
  rfl
theorem own_free {w : World} {base g n c : Nat} {e : TypeId} {xs : List Value} (h : w.ownsRow base e 1 (.slice (some ⟨g, 0, none⟩) n c) n xs) (k : Nat) : w.frozen? ⟨g, k, none⟩ = false := by
  obtain ⟨h1, h2⟩ := h
  rcases h2 with ⟨h2, _⟩ | ⟨g', cap, cur, hv, hb, hg, hc, hm2, hs, ht⟩
  · cases h2
  · simp only [Value.slice.injEq, Option.some.injEq, Addr.mk.injEq, and_true, true_and] at hv
    obtain ⟨rfl, rfl⟩ := hv
    exact free_in hg k
set_option maxHeartbeats 4000000 in
theorem ins_any {w : World} {base g n c : Nat} {L : List Int} (ho : w.ownsRow base 3 1 (.slice (some ⟨g, 0, none⟩) n c) n (L.map iv)) (hL : L.length = n) (hn : n ≤ 1000) :
    Calls Try.prog 232 #[.slice (some ⟨g, 0, none⟩) n c, .int .i64 0, .int .i64 (n : Int)] w
      (fun e w' => e = .returned (.tuple #[]) ∧ ∃ M : List Int, M.Perm L ∧ M.Pairwise (· ≤ ·) ∧ w'.ownsRow base 3 1 (.slice (some ⟨g, 0, none⟩) n c) n (M.map iv) ∧ Keep (· = g) w w') := by
  have HN := hid hn
  have HL := hid hL
  go_enter Try.func232, Try.ntmps232
  go_wp2_with fail
  go_loopw [6] (fun i wr => ∃ (k : Nat) (M : List Int), 1 ≤ k ∧ (k ≤ n ∨ n = 0 ∧ k = 1) ∧ i = .int .i64 (k : Int) ∧ Hid (M.Perm L ∧ Srd k M ∧ wr.ownsRow base 3 1 (.slice (some ⟨g, 0, none⟩) n c) n (M.map iv) ∧ Keep (· = g) w wr))
    (fun i _ => n + 1 - (intOf i).toNat)
  case atStart => exact ⟨1, L, by omega, by omega, rfl, List.Perm.refl _, (fun p q h1 h2 => by omega), ho, Keep.refl _ _⟩
  case round =>
    obtain ⟨k, M, hk1, hkn, rfl, HI⟩ := hrel
    by_cases hlt : k < n
    · have hki : (k : Int) < (n : Int) := by omega
      go_wp2_with fail
      go_loopw [7] (fun i wr => ∃ (j : Nat) (M : List Int), j ≤ k ∧ i = .int .i64 (j : Int) ∧ Hid (M.Perm L ∧ Inn k j M ∧ wr.ownsRow base 3 1 (.slice (some ⟨g, 0, none⟩) n c) n (M.map iv) ∧ Keep (· = g) w wr))
        (fun i _ => (intOf i).toNat)
      case atStart => exact ⟨k, M, Nat.le_refl _, rfl, HI.out.1, inn_start HI.out.2.1, HI.out.2.2⟩
      case round =>
        obtain ⟨j, M2, hjk, rfl, HJ⟩ := hrel
        have hlen : M2.length = n := by rw [HJ.out.1.length_eq]; exact HL.out
        by_cases h0 : 0 < j
        · obtain ⟨m, rfl⟩ : ∃ m, j = m + 1 := ⟨j - 1, by omega⟩
          have hji : (0 : Int) < ((m + 1 : Nat) : Int) := by omega
          have hm1 : ((m + 1 : Nat) : Int) < (n : Int) := by omega
          have hm2 : (m : Int) < (n : Int) := by omega
          have hms : ((m + 1 : Nat) : Int) - 1 = (m : Int) := by omega
          have c0 := vat_cell HJ.out.2.2.1 (k := m + 1) (by omega)
          have c1 := vat_cell HJ.out.2.2.1 (k := m) (by omega)
          go_upto_region 4 with fail
          have hwr : IntKind.i64.wrap (((m + 1 : Nat) : Int) - 1) = (m : Int) := by rw [hms]; exact IntWalk.i64_in _ (by have := HN.out; omega)
          have hwm : IntKind.i64.wrap (m : Int) = (m : Int) := IntWalk.i64_in _ (by have := HN.out; omega)
          have h0m : (0 : Int) ≤ (m : Int) := by omega
          have hs1 : (0 : Int) ≤ (m : Int) + 1 := by omega
          have hs2 : ¬ (n : Int) ≤ (m : Int) + 1 := by omega
          have hs3 : (m : Int) + 1 < (n : Int) := by omega
          have h0m1 : (0 : Int) ≤ ((m + 1 : Nat) : Int) := by omega
          go_quiet ((go_at_call 238; exact Calls.quiet_of_same (less_any _ _ _)))
          rename_i nq
          have HD := hid (own_drew HJ.out.2.2.1 nq)
          have HK := hid (keep_drew HJ.out.2.2.2 nq)
          have HLN := hid hlen
          generalize wr.drewN nq = wq at *
          cases hd : decide (vat M2 (m + 1) < vat M2 m) with
          | false =>
            have HE := hid (inn_end HJ.out.2.1 (.inr (by simpa using hd)))
            have HP := hid HJ.out.1
            clear HJ
            go_wp2_with fail
            go_roundw
            case rel => exact ⟨k + 1, M2, by omega, by omega, by go_num, HP.out, HE.out, HD.out, HK.out⟩
            case measure => simp [intOf]; omega
          | true =>
            have HE := hid (inn_swp HJ.out.2.1 (by omega) (by omega) (by simpa using hd))
            have HP := hid ((swp_perm (M := M2) (j := m + 1) (by omega) (by omega)).trans HJ.out.1)
            clear HJ
            go_upto_region 6 with fail
            have HOd : Hid (wq.drew.ownsRow base 3 1 (.slice (some ⟨g, 0, none⟩) n c) n (M2.map iv)) := hid (own_drew HD.out 1)
            have HKd : Hid (Keep (· = g) w wq.drew) := hid (keep_drew HK.out 1)
            refine wp_region_noPanic ?_
            refine wp_region_L (S := fun W => Hid (W.ownsRow base 3 1 (.slice (some ⟨g, 0, none⟩) n c) n (M2.map iv))) 15 (by kernel_rfl) ?_
            generalize wq.drew = Wd at *
            refine tkV 0 (.slice (some ⟨g, 0, none⟩) n c) rfl (by kernel_rfl) (fun _ _ _ => False.elim) (Or.inl ⟨by rfl, fun W9 _ => by clear HOd; simp only [jA, jB, jC]; go_simp⟩) (fun _ => HOd) ?_
            simp only [Act.put, jA, jB, jC, jD, jE, jF]
            refine tkV 1 (.int .i64 ((m + 1 : Nat) : Int)) rfl (by kernel_rfl) (fun _ _ _ => False.elim) (Or.inl ⟨by rfl, fun W9 _ => by clear HOd; simp only [jA, jB, jC]; go_simp⟩) (fun _ => HOd) ?_
            simp only [Act.put, jA, jB, jC, jD, jE, jF]
            refine tkV 2 (.slice (some ⟨g, 0, none⟩) n c) rfl (by kernel_rfl) (fun _ _ _ => False.elim) (Or.inl ⟨by rfl, fun W9 _ => by clear HOd; simp only [jA, jB, jC]; go_simp⟩) (fun _ => HOd) ?_
            simp only [Act.put, jA, jB, jC, jD, jE, jF]
            refine tkV 3 (.int .i64 ((m + 1 : Nat) : Int)) rfl (by kernel_rfl) (fun _ _ _ => False.elim) (Or.inl ⟨by rfl, fun W9 _ => by clear HOd; simp only [jA, jB, jC]; go_simp⟩) (fun _ => HOd) ?_
            simp only [Act.put, jA, jB, jC, jD, jE, jF]
            refine tkV 4 (.int .i64 (m : Int)) rfl (by kernel_rfl) (fun _ _ _ => False.elim) (Or.inl ⟨by rfl, fun W9 _ => by clear HOd; simp only [jA, jB, jC]; go_simp⟩) (fun _ => HOd) ?_
            simp only [Act.put, jA, jB, jC, jD, jE, jF]
            refine tkV 5 (.slice (some ⟨g, 0, none⟩) n c) rfl (by kernel_rfl) (fun _ _ _ => False.elim) (Or.inl ⟨by rfl, fun W9 _ => by clear HOd; simp only [jA, jB, jC]; go_simp⟩) (fun _ => HOd) ?_
            simp only [Act.put, jA, jB, jC, jD, jE, jF]
            refine tkV 6 (.int .i64 ((m + 1 : Nat) : Int)) rfl (by kernel_rfl) (fun _ _ _ => False.elim) (Or.inl ⟨by rfl, fun W9 _ => by clear HOd; simp only [jA, jB, jC]; go_simp⟩) (fun _ => HOd) ?_
            simp only [Act.put, jA, jB, jC, jD, jE, jF]
            refine tkV 7 (.int .i64 (m : Int)) rfl (by kernel_rfl) (fun _ _ _ => False.elim) (Or.inl ⟨by rfl, fun W9 _ => by clear HOd; simp only [jA, jB, jC]; go_simp⟩) (fun _ => HOd) ?_
            simp only [Act.put, jA, jB, jC, jD, jE, jF]
            refine tkV 8 (.pointer (some ⟨g, m, none⟩)) rfl (by kernel_rfl) (fun _ _ _ => False.elim) (Or.inl ⟨by rfl, fun W9 _ => by clear HOd; simp only [jA, jB, jC]; go_simp⟩) (fun _ => HOd) ?_
            simp only [Act.put, jA, jB, jC, jD, jE, jF]
            refine tkL 9 (.int .i64 (vat M2 m)) [9, 15] rfl (by kernel_rfl) (fun _ _ _ => False.elim) HOd (Or.inl ⟨by rfl, fun W9 hW => by have c9 := vat_cell hW.out (k := m) (by have := HLN.out; omega); clear hW HOd; simp only [jA, jB, jC]; go_simp⟩) ?_
            simp only [Act.put, jA, jB, jC, jD, jE, jF]
            refine tkV 10 (.slice (some ⟨g, 0, none⟩) n c) rfl (by kernel_rfl) (fun _ _ _ => False.elim) (Or.inl ⟨by rfl, fun W9 _ => by clear HOd; simp only [jA, jB, jC]; go_simp⟩) (fun _ => HOd) ?_
            simp only [Act.put, jA, jB, jC, jD, jE, jF]
            refine tkV 11 (.int .i64 ((m + 1 : Nat) : Int)) rfl (by kernel_rfl) (fun _ _ _ => False.elim) (Or.inl ⟨by rfl, fun W9 _ => by clear HOd; simp only [jA, jB, jC]; go_simp⟩) (fun _ => HOd) ?_
            simp only [Act.put, jA, jB, jC, jD, jE, jF]
            refine tkV 12 (.pointer (some ⟨g, m + 1, none⟩)) rfl (by kernel_rfl) (fun _ _ _ => False.elim) (Or.inl ⟨by rfl, fun W9 _ => by clear HOd; simp only [jA, jB, jC]; go_simp⟩) (fun _ => HOd) ?_
            simp only [Act.put, jA, jB, jC, jD, jE, jF]
            refine tkL 13 (.int .i64 (vat M2 (m + 1))) [13, 15] rfl (by kernel_rfl) (fun _ _ _ => False.elim) HOd (Or.inl ⟨by rfl, fun W9 hW => by have c9 := vat_cell hW.out (k := m + 1) (by have := HLN.out; omega); clear hW HOd; simp only [jA, jB, jC]; go_simp⟩) ?_
            simp only [Act.put, jA, jB, jC, jD, jE, jF]
            refine tkV 14 (.pointer (some ⟨g, m + 1, none⟩)) rfl (by kernel_rfl) (fun _ _ _ => False.elim) (Or.inl ⟨by rfl, fun W9 _ => by clear HOd; simp only [jA, jB, jC]; go_simp⟩) (fun _ => HOd) ?_
            simp only [Act.put, jA, jB, jC, jD, jE, jF]
            have c5 := vat_cell HOd.out (k := m + 1) (by have := HLN.out; omega)
            have f5 := own_free HOd.out (m + 1)
            refine rdS (by kernel_rfl) rfl fun K hK => ?_
            go_simp
            refine hK.out _ _ ?_
            clear hK K c5 f5
            have HO6 := hid (own_put (k := m + 1) HOd.out (.int .i64 (vat M2 m)))
            have HK6 : Hid (Keep (· = g) w (Wd.setCell ⟨g, m + 1, none⟩ (.int .i64 (vat M2 m)))) := hid (HKd.out.trans (Keep.set _ _ _ rfl))
            clear HOd HKd
            generalize Wd.setCell ⟨g, m + 1, none⟩ (.int .i64 (vat M2 m)) = We at *
            try simp only [Act.put, jA, jB, jC, jD, jE, jF]
            refine rdP 16 (by kernel_rfl) rfl fun K hK => ?_
            go_simp
            refine hK.out _ _ ?_
            clear hK K
            try simp only [Act.put, jA, jB, jC, jD, jE, jF]
            have c6 : We.cell? ⟨g, m, none⟩ = some (.int .i64 (vat M2 m)) := own_cell HO6.out (by have := HLN.out; rw [List.getElem?_set_ne (by omega), List.getElem?_map, List.getElem?_eq_getElem (by omega)]; unfold vat; rw [List.getD_eq_getElem?_getD, List.getElem?_eq_getElem (by omega)]; rfl)
            have f6 := own_free HO6.out m
            refine rdP 17 (by kernel_rfl) rfl fun K hK => ?_
            go_simp
            refine hK.out _ _ ?_
            clear hK K c6 f6
            have ho7 := own_put (k := m) HO6.out (.int .i64 (vat M2 (m + 1)))
            rw [swp_map (by have := HLN.out; omega)] at ho7
            have HO7 := hid ho7
            have HK7 : Hid (Keep (· = g) w (We.setCell ⟨g, m, none⟩ (.int .i64 (vat M2 (m + 1))))) := hid (HK6.out.trans (Keep.set _ _ _ rfl))
            clear HO6 HK6 ho7
            generalize We.setCell ⟨g, m, none⟩ (.int .i64 (vat M2 (m + 1))) = Wf at *
            try simp only [Act.put, jA, jB, jC, jD, jE, jF]
            refine doneL (by kernel_rfl) (NoPanic.normal ?_) _
            go_wp2_with fail
            go_roundw
            case rel => exact ⟨m, swp M2 (m + 1), by omega, by go_num, HP.out, HE.out, HO7.out, HK7.out⟩
            case measure => simp [intOf]
        · obtain rfl : j = 0 := by omega
          go_upto_region 4 with fail
          go_quiet (fail)
          rename_i nq
          have HE := hid (inn_end HJ.out.2.1 (.inl rfl))
          have HP := hid HJ.out.1
          have HD := hid (own_drew HJ.out.2.2.1 nq)
          have HK := hid (keep_drew HJ.out.2.2.2 nq)
          clear HJ
          go_wp2_with fail
          go_roundw
          case rel => exact ⟨k + 1, M2, by omega, by omega, by go_num, HP.out, HE.out, HD.out, HK.out⟩
          case measure => simp [intOf]; omega
    · have hki : ¬ (k : Int) < (n : Int) := by omega
      go_wp2_with fail
      go_end0
      obtain ⟨h1, h2, h3, h4⟩ := HI.out
      exact ⟨rfl, M, h1, srd_all (fun p q h5 h6 => h2 p q h5 (by have := h1.length_eq; have := HL.out; omega)), h3, h4⟩

theorem ins_nil (w : World) : Calls Try.prog 232 #[.slice none 0 0, .int .i64 0, .int .i64 0] w (fun e w' => e = .returned (.tuple #[]) ∧ w' = w) := by
  go_enter Try.func232, Try.ntmps232
  go_wp2_with fail
  go_loopw [6] (fun i wr => i = .int .i64 1 ∧ wr = w) (fun i _ => 1 - (intOf i).toNat)
  case atStart => exact ⟨rfl, rfl⟩
  case round =>
    obtain ⟨rfl, rfl⟩ := hrel
    go_wp2_with fail
    go_end0
    exact ⟨rfl, rfl⟩
theorem pdq_any {R : World → Prop} {x : Value} {n : Nat} {lim : Int} {w : World} (hn : n ≤ 8) (h : Calls Try.prog 232 #[x, .int .i64 0, .int .i64 (n : Int)] w (fun e w' => e = .returned (.tuple #[]) ∧ R w')) :
    Calls Try.prog 197 #[x, .int .i64 0, .int .i64 (n : Int), .int .i64 lim] w (fun e w' => e = .returned (.tuple #[]) ∧ R w') := by
  have H := hid h
  have h12 : (n : Int) ≤ 12 := by omega
  have hb0 : -9223372036854775808 ≤ (n : Int) - 0 ∧ (n : Int) - 0 ≤ 9223372036854775807 := by omega
  clear h
  go_enter Try.func197, Try.ntmps197
  go_wp2_with fail
  go_loopw [1, 2, 3, 8, 9] (fun a b lm wb wp wr => a = .int .i64 0 ∧ b = .int .i64 (n : Int) ∧ wr = w) (fun _ _ _ _ _ _ => 0)
  case atStart => exact ⟨rfl, rfl, rfl⟩
  case round =>
    obtain ⟨rfl, rfl, rfl⟩ := hrel
    go_wp2_with (first | (go_at_call 232; refine H.out.mono ?_; rintro en w2 ⟨rfl, h2⟩))
    ((try simp only [Exit.inBlock, Exit.then]); refine bodyPost_ret (results_none rfl _ _ _) rfl ?_)
    exact ⟨rfl, h2⟩
theorem len64_s (n : Nat) (hn : n ≤ 8) (w : World) : Calls Try.prog 242 #[.int .u64 (n : Int)] w (fun e w' => (∃ z, e = .returned (.int .i64 z)) ∧ w' = w) := by
  obtain rfl | rfl | rfl | rfl | rfl | rfl | rfl | rfl | rfl : n = 0 ∨ n = 1 ∨ n = 2 ∨ n = 3 ∨ n = 4 ∨ n = 5 ∨ n = 6 ∨ n = 7 ∨ n = 8 := by omega
  all_goals
    go_enter Try.func242, Try.ntmps242
    go_wp2_with fail
    go_ret
    exact ⟨⟨_, rfl⟩, rfl⟩
theorem bitsLen_s (n : Nat) (hn : n ≤ 8) (w : World) : Calls Try.prog 198 #[.int .u64 (n : Int)] w (fun e w' => (∃ z, e = .returned (.int .i64 z)) ∧ w' = w) := by
  go_enter Try.func198, Try.ntmps198
  go_wp2_with (first | (go_at_call 242; refine (len64_s n hn _).mono ?_; rintro en w2 ⟨⟨z, rfl⟩, rfl⟩))
  go_ret
  exact ⟨⟨_, rfl⟩, rfl⟩
theorem sort_gen {R : World → Prop} {a : Option Addr} {n c : Nat} {w : World} (hn : n ≤ 8) (h : Calls Try.prog 232 #[.slice a n c, .int .i64 0, .int .i64 (n : Int)] w (fun e w' => e = .returned (.tuple #[]) ∧ R w')) :
    Calls Try.prog 135 #[.slice a n c] w (fun e w' => e = .returned (.tuple #[]) ∧ R w') := by
  have H := hid h
  have hlen := fun W => run_len_slice (P := Try.prog) W 31 3 a n c Try.underlying31
  have hb : (0 : Int) ≤ (n : Int) ∧ (n : Int) ≤ 18446744073709551615 := by omega
  clear h
  go_enter Try.func135, Try.ntmps135
  go_wp2_with (first
    | (go_at_call 198; refine (bitsLen_s n hn _).mono ?_; rintro en w2 ⟨⟨z, rfl⟩, rfl⟩)
    | (go_at_call 197; refine (pdq_any hn H.out).mono ?_; rintro en w2 ⟨rfl, h2⟩))
  go_end0
  exact ⟨rfl, h2⟩
theorem sort_any {w : World} {base : Nat} {x : Value} {L : List Int} (ho : w.ownsRow base 3 1 x L.length (L.map iv)) (h8 : L.length ≤ 8) :
    Calls Try.prog 135 #[x] w (fun e w' => e = .returned (.tuple #[]) ∧ ∃ M : List Int, M.Perm L ∧ M.Pairwise (· ≤ ·) ∧ w'.ownsRow base 3 1 x L.length (M.map iv) ∧ Keep (fun k => x.ownBlock = some k) w w') := by
  have ho2 := ho
  obtain ⟨h1, h2⟩ := ho2
  rcases h2 with ⟨h2, h3⟩ | ⟨g, cap, cur, rfl, -⟩
  · subst h2
    obtain rfl : L = [] := List.eq_nil_of_length_eq_zero h3
    exact (sort_gen (n := 0) (by omega) (ins_nil w)).mono fun e w' ⟨h4, h5⟩ => ⟨h4, [], List.Perm.refl _, List.Pairwise.nil, by subst h5; exact ho, by subst h5; exact Keep.refl _ _⟩
  · refine (sort_gen h8 (ins_any ho rfl (by omega))).mono ?_
    rintro e w' ⟨h4, M, h5, h6, h7, h9⟩
    exact ⟨h4, M, h5, h6, h7, h9.mono fun k _ e => by subst e; rfl⟩
end Go.Proofs.Ytafcbelkhhjcoaa

set_option linter.unusedVariables false
set_option linter.unusedSimpArgs false
set_option maxRecDepth 100000
namespace Go.Proofs.Ytafcbelkhhjcoaa
open Go.RowKit Go.Deep

structure Ow where
  g : Int
  f : List UInt8
deriving DecidableEq
structure Rou where
  ep : Int
  base : Int
  sp : List Ow
  mv : Int
  cut : List UInt8
deriving DecidableEq
def OwN (w : World) (cs : List Value) (o : Ow) : Prop := ∃ a c, cs = [.int .i64 o.g, .slice a o.f.length c] ∧ Rd w (.slice a o.f.length c) o.f
def OwsN (w : World) (x : Value) (L : List Ow) : Prop := ∃ M : List (List Value), M.length = L.length ∧ Rws 2 w x M ∧ ∀ (i : Nat) r o, M[i]? = some r → L[i]? = some o → OwN w r o
theorem Rws.form {size : Nat} {w : World} {x : Value} {L : List (List Value)} (h : Rws size w x L) : ∃ ao c, x = .slice ao L.length c ∧ L.length ≤ c ∧ c ≤ maxLen := by
  obtain ⟨ao, c, h1, h2, h3, -⟩ := h
  exact ⟨ao, c, h1, h2, h3⟩
theorem OwN.old {w w' : World} {cs : List Value} {o : Ow} (h : OwN w cs o) (hb : Below w.heap.size w w') : OwN w' cs o := by
  obtain ⟨a, c, e, h1⟩ := h
  exact ⟨a, c, e, h1.old hb⟩
theorem OwsN.old {w w' : World} {x : Value} {L : List Ow} (h : OwsN w x L) (hb : Below w.heap.size w w') : OwsN w' x L := by
  obtain ⟨M, h1, h2, h3⟩ := h
  exact ⟨M, h1, h2.old hb, fun i r o p q => (h3 i r o p q).old hb⟩
theorem ows_cells {w : World} {x : Value} {L : List Ow} (h : OwsN w x L) : ∃ ao c, x = .slice ao L.length c ∧ L.length ≤ c ∧ c ≤ maxLen ∧ ∀ (k : Nat) o, L[k]? = some o → ∃ b off a d, ao = some ⟨b, off, none⟩ ∧
    w.cell? ⟨b, off + k * 2, none⟩ = some (.int .i64 o.g) ∧ w.cell? ⟨b, off + k * 2 + 1, none⟩ = some (.slice a o.f.length d) ∧ Rd w (.slice a o.f.length d) o.f := by
  obtain ⟨M, h1, h2, h3⟩ := h
  obtain ⟨ao, c, rfl, h4, h5⟩ := h2.form
  rw [h1] at h4 h2 ⊢
  refine ⟨ao, c, rfl, h4, h5, fun k o hk => ?_⟩
  have hkl := (List.getElem?_eq_some_iff.1 hk).1
  have hM : M[k]? = some (M[k]'(by omega)) := List.getElem?_eq_getElem (by omega)
  obtain ⟨a, d, e, hr⟩ := h3 k _ o hM hk
  obtain ⟨b, off, rfl, hc⟩ := h2.get (by decide) hM
  rw [e] at hc
  exact ⟨b, off, a, d, rfl, hc 0 _ rfl, hc 1 _ rfl, hr⟩

/-- A span is told. -/
def SpA (w : World) (F T : List UInt8) (e : Ending) (w' : World) : Prop :=
  ∃ a1 c1 a2 c2, e = .returned (.agg #[.slice a1 F.length c1, .slice a2 T.length c2]) ∧ Rd w' (.slice a1 F.length c1) F ∧ Rd w' (.slice a2 T.length c2) T ∧ Below w.heap.size w w'
theorem put_in {w : World} {b : Nat} {cs : List Value} {t : TypeId} (h : w.heap[b]? = some (.cells cs.toArray t (0, 0))) (i : Nat) (v : Value) : (w.setCell ⟨b, i, none⟩ v).heap[b]? = some (.cells (cs.set i v).toArray t (0, 0)) := by
  have := set_at (k := i) v h
  simpa using this

def begB (l : List UInt8) (m : Int) : Bool := match l with
  | [] => false
  | c :: _ => ((c.toNat : Int) == m)
set_option maxHeartbeats 1000000 in
theorem beg_any {w : World} {x : Value} {l : List UInt8} (hx : Rd w x l) (m : Int) : Calls Try.prog 130 #[x, .int .u8 m] w (fun e w' => e = .returned (.bool (begB l m)) ∧ w' = w) := by
  have hlen := fun W => run_len_slice (P := Try.prog) W 62 3
  cases l with
  | nil =>
    obtain ⟨ao, c, rfl, -⟩ := hx
    go_enter Try.func130, Try.ntmps130
    go_wp2_with fail
    go_ret
    exact ⟨rfl, rfl⟩
  | cons q l =>
    obtain ⟨b, off, c, rfl, -, -, h4⟩ := hx.at (by simp)
    have h5 : w.cell? ⟨b, off, none⟩ = some (.int .u8 (q.toNat : Int)) := h4 0 (by simp)
    have h6 : (0 : Int) < ((q :: l).length : Int) := by simp
    unfold begB
    generalize hn : (q :: l).length = n at h6 ⊢
    clear h4 hn hx
    go_enter Try.func130, Try.ntmps130
    go_wp2_with fail
    go_ret
    exact ⟨rfl, rfl⟩
set_option maxHeartbeats 1000000 in
theorem mark114_any (w : World) : Calls Try.prog 123 #[.int .u8 114] w (SpA w [114] [115]) := by
  go_enter Try.func123, Try.ntmps123
  go_upto_region 1 with fail
  have hb := (Below.refl w.heap.size w).alloc (Nat.le_refl _) (.cells #[.slice none 0 0, .slice none 0 0] 66)
  have hz := heap_alloc_new w (.cells #[.slice none 0 0, .slice none 0 0] 66)
  have hs : (w.alloc (.cells #[.slice none 0 0, .slice none 0 0] 66)).heap.size = w.heap.size + 1 := by simp
  generalize w.alloc (.cells #[.slice none 0 0, .slice none 0 0] 66) = w1 at *
  have z0 := cell_in hz 0 _ rfl
  have f0 := free_in hz 0
  have z1 := cell_in hz 1 _ rfl
  have f1 := free_in hz 1
  have HB := hid hb
  have HZ := hid hz
  have HS := hid hs
  clear hb hz
  go_wp2_with fail
  have hz2 := put_in (put_in HZ.out 0 (.slice (some ⟨w.heap.size + 1, 0, none⟩) 1 1)) 1 (.slice (some ⟨w.heap.size + 1 + 1, 0, none⟩) 1 1)
  have hb2 : Below w.heap.size w ((w1.setCell ⟨w.heap.size, 0, none⟩ (.slice (some ⟨w.heap.size + 1, 0, none⟩) 1 1)).setCell ⟨w.heap.size, 1, none⟩ (.slice (some ⟨w.heap.size + 1 + 1, 0, none⟩) 1 1)) := (HB.out.setCell (Nat.le_refl _) _).setCell (Nat.le_refl _) _
  have hs2 : ((w1.setCell ⟨w.heap.size, 0, none⟩ (.slice (some ⟨w.heap.size + 1, 0, none⟩) 1 1)).setCell ⟨w.heap.size, 1, none⟩ (.slice (some ⟨w.heap.size + 1 + 1, 0, none⟩) 1 1)).heap.size = w.heap.size + 1 := by simp [HS.out]
  generalize (w1.setCell ⟨w.heap.size, 0, none⟩ (.slice (some ⟨w.heap.size + 1, 0, none⟩) 1 1)).setCell ⟨w.heap.size, 1, none⟩ (.slice (some ⟨w.heap.size + 1 + 1, 0, none⟩) 1 1) = w2 at *
  have k1 := heap_alloc_new w2 (.cells #[.int .u8 114] 5)
  have hb3 := hb2.alloc (by omega) (.cells #[.int .u8 114] 5)
  have k0 := (((Below.refl w2.heap.size w2).alloc (Nat.le_refl _) (.cells #[.int .u8 114] 5)).block _ (by omega)).trans hz2
  have hs3 : (w2.alloc (.cells #[.int .u8 114] 5)).heap.size = w.heap.size + 1 + 1 := by simp; omega
  rw [hs2] at k1
  generalize w2.alloc (.cells #[.int .u8 114] 5) = w3 at *
  have m2 := heap_alloc_new w3 (.cells #[.int .u8 115] 5)
  have hb4 := hb3.alloc (by omega) (.cells #[.int .u8 115] 5)
  have m0 := (((Below.refl w3.heap.size w3).alloc (Nat.le_refl _) (.cells #[.int .u8 115] 5)).block _ (by omega)).trans k0
  have m1 := (((Below.refl w3.heap.size w3).alloc (Nat.le_refl _) (.cells #[.int .u8 115] 5)).block _ (by omega)).trans k1
  rw [hs3] at m2
  generalize w3.alloc (.cells #[.int .u8 115] 5) = w4 at *
  refine bodyPost_ret (results_cell_row rfl _ _ w.heap.size 66 _ (0, 0) _ rfl m0 Try.underlying66 rfl (by kernel_rfl)) rfl ?_
  exact ⟨_, _, _, _, rfl, zrd_one m1, zrd_one m2, hb4⟩
set_option maxHeartbeats 1000000 in
theorem mark120_any (w : World) : Calls Try.prog 123 #[.int .u8 120] w (SpA w [120] [121]) := by
  go_enter Try.func123, Try.ntmps123
  go_upto_region 1 with fail
  have hb := (Below.refl w.heap.size w).alloc (Nat.le_refl _) (.cells #[.slice none 0 0, .slice none 0 0] 66)
  have hz := heap_alloc_new w (.cells #[.slice none 0 0, .slice none 0 0] 66)
  have hs : (w.alloc (.cells #[.slice none 0 0, .slice none 0 0] 66)).heap.size = w.heap.size + 1 := by simp
  generalize w.alloc (.cells #[.slice none 0 0, .slice none 0 0] 66) = w1 at *
  have z0 := cell_in hz 0 _ rfl
  have f0 := free_in hz 0
  have z1 := cell_in hz 1 _ rfl
  have f1 := free_in hz 1
  have HB := hid hb
  have HZ := hid hz
  have HS := hid hs
  clear hb hz
  go_wp2_with fail
  have hz2 := put_in (put_in HZ.out 0 (.slice (some ⟨w.heap.size + 1, 0, none⟩) 1 1)) 1 (.slice (some ⟨w.heap.size + 1 + 1, 0, none⟩) 1 1)
  have hb2 : Below w.heap.size w ((w1.setCell ⟨w.heap.size, 0, none⟩ (.slice (some ⟨w.heap.size + 1, 0, none⟩) 1 1)).setCell ⟨w.heap.size, 1, none⟩ (.slice (some ⟨w.heap.size + 1 + 1, 0, none⟩) 1 1)) := (HB.out.setCell (Nat.le_refl _) _).setCell (Nat.le_refl _) _
  have hs2 : ((w1.setCell ⟨w.heap.size, 0, none⟩ (.slice (some ⟨w.heap.size + 1, 0, none⟩) 1 1)).setCell ⟨w.heap.size, 1, none⟩ (.slice (some ⟨w.heap.size + 1 + 1, 0, none⟩) 1 1)).heap.size = w.heap.size + 1 := by simp [HS.out]
  generalize (w1.setCell ⟨w.heap.size, 0, none⟩ (.slice (some ⟨w.heap.size + 1, 0, none⟩) 1 1)).setCell ⟨w.heap.size, 1, none⟩ (.slice (some ⟨w.heap.size + 1 + 1, 0, none⟩) 1 1) = w2 at *
  have k1 := heap_alloc_new w2 (.cells #[.int .u8 120] 5)
  have hb3 := hb2.alloc (by omega) (.cells #[.int .u8 120] 5)
  have k0 := (((Below.refl w2.heap.size w2).alloc (Nat.le_refl _) (.cells #[.int .u8 120] 5)).block _ (by omega)).trans hz2
  have hs3 : (w2.alloc (.cells #[.int .u8 120] 5)).heap.size = w.heap.size + 1 + 1 := by simp; omega
  rw [hs2] at k1
  generalize w2.alloc (.cells #[.int .u8 120] 5) = w3 at *
  have m2 := heap_alloc_new w3 (.cells #[.int .u8 121] 5)
  have hb4 := hb3.alloc (by omega) (.cells #[.int .u8 121] 5)
  have m0 := (((Below.refl w3.heap.size w3).alloc (Nat.le_refl _) (.cells #[.int .u8 121] 5)).block _ (by omega)).trans k0
  have m1 := (((Below.refl w3.heap.size w3).alloc (Nat.le_refl _) (.cells #[.int .u8 121] 5)).block _ (by omega)).trans k1
  rw [hs3] at m2
  generalize w3.alloc (.cells #[.int .u8 121] 5) = w4 at *
  refine bodyPost_ret (results_cell_row rfl _ _ w.heap.size 66 _ (0, 0) _ rfl m0 Try.underlying66 rfl (by kernel_rfl)) rfl ?_
  exact ⟨_, _, _, _, rfl, zrd_one m1, zrd_one m2, hb4⟩
theorem cmp_call {w : World} {x y : Value} {l m : List UInt8} (hx : Rd w x l) (hy : Rd w y m) : Calls Try.prog 129 #[x, y] w (fun e w' => e = .returned (.int .i64 (cmpB l m)) ∧ w' = w) := cmp_any x y l m w hx hy
theorem cmp_lss (l m : List UInt8) : decide (cmpB l m < 0) = Op.bytesLess l m := by
  rw [Bool.eq_iff_iff, decide_eq_true_iff, lt_cmp, lt_less]
theorem cmp_gtr (l m : List UInt8) : decide (cmpB l m > 0) = Op.bytesLess m l := by
  rw [Bool.eq_iff_iff, decide_eq_true_iff, lt_less, ← lt_cmp, show cmpB m l = - cmpB l m from cb_swap l m]
  omega
set_option maxHeartbeats 1000000 in
theorem has_any {w : World} {a1 a2 : Option Addr} {c1 c2 : Nat} {F T : List UInt8} (h1 : Rd w (.slice a1 F.length c1) F) (h2 : Rd w (.slice a2 T.length c2) T) :
    Calls Try.prog 125 #[.agg #[.slice a1 F.length c1, .slice a2 T.length c2]] w (AnsP w (.bool (Op.bytesLess F T))) := by
  go_enter Try.func125, Try.ntmps125
  go_upto_region 1 with fail
  have hb := (Below.refl w.heap.size w).alloc (Nat.le_refl _) (.cells #[.slice a1 F.length c1, .slice a2 T.length c2] 66)
  have hz := heap_alloc_new w (.cells #[.slice a1 F.length c1, .slice a2 T.length c2] 66)
  generalize w.alloc (.cells #[.slice a1 F.length c1, .slice a2 T.length c2] 66) = w1 at *
  have HC := hid (cmp_call (h1.old hb) (h2.old hb))
  have HB := hid hb
  have z0 := cell_in hz 0 _ rfl
  have z1 := cell_in hz 1 _ rfl
  clear hb hz h1 h2
  go_wp2_with (first | (go_at_call 129; refine HC.out.mono ?_; rintro en w2 ⟨rfl, rfl⟩))
  go_ret
  exact ⟨by rw [← cmp_lss]; rfl, HB.out⟩
end Go.Proofs.Ytafcbelkhhjcoaa

set_option linter.unusedVariables false
set_option linter.unusedSimpArgs false
set_option maxRecDepth 100000
namespace Go.Proofs.Ytafcbelkhhjcoaa
open Go.RowKit Go.Deep

theorem heap_kept' {w w' : World} {row : Option Nat} (h : w.grownBy w' row) {k : Nat} {o : Obj} (hk : w.heap[k]? = some o) (hne : some k ≠ row) : w'.heap[k]? = some o := by
  have hlt : k < w.heap.size := (Array.getElem?_eq_some_iff.1 hk).1
  rw [h.block k hlt hne]; exact hk
theorem off_set {w : World} {b k i : Nat} {o : Obj} (v : Value) (h : w.heap[k]? = some o) (hne : b ≠ k) : (w.setCell ⟨b, i, none⟩ v).heap[k]? = some o :=
  (heap_kept' (grown_set w ⟨b, i, none⟩ v) h (fun e => hne (by cases e; rfl)))
def bothF (F1 F2 : List UInt8) : List UInt8 := if Op.bytesLess F2 F1 then F1 else F2
def bothT (T1 T2 : List UInt8) : List UInt8 := if (!decide (T1 = []) && Op.bytesLess T1 T2) then T1 else T2
set_option maxHeartbeats 4000000 in
theorem both_any {w : World} {a1 a2 a3 a4 : Option Addr} {c1 c2 c3 c4 : Nat} {F1 T1 F2 T2 : List UInt8} (h1 : Rd w (.slice a1 F1.length c1) F1) (h2 : Rd w (.slice a2 T1.length c2) T1) (h3 : Rd w (.slice a3 F2.length c3) F2) (h4 : Rd w (.slice a4 T2.length c4) T2) :
    Calls Try.prog 124 #[.agg #[.slice a1 F1.length c1, .slice a2 T1.length c2], .agg #[.slice a3 F2.length c3, .slice a4 T2.length c4]] w (SpA w (bothF F1 F2) (bothT T1 T2)) := by
  have H1 := hid h1
  have H2 := hid h2
  have H3 := hid h3
  have H4 := hid h4
  clear h1 h2 h3 h4
  go_enter Try.func124, Try.ntmps124
  go_upto_region 1 with fail
  have hb1 := (Below.refl w.heap.size w).alloc (Nat.le_refl _) (.cells #[.slice a1 F1.length c1, .slice a2 T1.length c2] 66)
  have hz1 := heap_alloc_new w (.cells #[.slice a1 F1.length c1, .slice a2 T1.length c2] 66)
  have hs1 : (w.alloc (.cells #[.slice a1 F1.length c1, .slice a2 T1.length c2] 66)).heap.size = w.heap.size + 1 := by simp
  generalize w.alloc (.cells #[.slice a1 F1.length c1, .slice a2 T1.length c2] 66) = w1 at *
  have hb2 := hb1.alloc (by omega) (.cells #[.slice a3 F2.length c3, .slice a4 T2.length c4] 66)
  have hz2 := heap_alloc_new w1 (.cells #[.slice a3 F2.length c3, .slice a4 T2.length c4] 66)
  have hs2 : (w1.alloc (.cells #[.slice a3 F2.length c3, .slice a4 T2.length c4] 66)).heap.size = w.heap.size + 1 + 1 := by simp; omega
  have hz12 := (((Below.refl w1.heap.size w1).alloc (Nat.le_refl _) (.cells #[.slice a3 F2.length c3, .slice a4 T2.length c4] 66)).block _ (by omega)).trans hz1
  rw [hs1] at hz2
  generalize w1.alloc (.cells #[.slice a3 F2.length c3, .slice a4 T2.length c4] 66) = w2 at *
  have hb3 := hb2.alloc (by omega) (.cells #[.slice none 0 0, .slice none 0 0] 66)
  have hz3 := heap_alloc_new w2 (.cells #[.slice none 0 0, .slice none 0 0] 66)
  have hz13 := (((Below.refl w2.heap.size w2).alloc (Nat.le_refl _) (.cells #[.slice none 0 0, .slice none 0 0] 66)).block _ (by omega)).trans hz12
  have hz23 := (((Below.refl w2.heap.size w2).alloc (Nat.le_refl _) (.cells #[.slice none 0 0, .slice none 0 0] 66)).block _ (by omega)).trans hz2
  rw [hs2] at hz3
  generalize w2.alloc (.cells #[.slice none 0 0, .slice none 0 0] 66) = w3 at *
  have HB := hid hb3
  have HZ1 := hid hz13
  have HZ2 := hid hz23
  have HZ3 := hid hz3
  clear hb1 hz1 hs1 hb2 hz2 hs2 hz12 hb3 hz3 hz13 hz23
  have p0 := cell_in HZ1.out 0 _ rfl
  have fp0 := free_in HZ1.out 0
  have p1 := cell_in HZ1.out 1 _ rfl
  have fp1 := free_in HZ1.out 1
  have q0 := cell_in HZ2.out 0 _ rfl
  have fq0 := free_in HZ2.out 0
  have q1 := cell_in HZ2.out 1 _ rfl
  have fq1 := free_in HZ2.out 1
  have r0 := cell_in HZ3.out 0 _ rfl
  have fr0 := free_in HZ3.out 0
  have r1 := cell_in HZ3.out 1 _ rfl
  have fr1 := free_in HZ3.out 1
  have HCF := hid (fun (W : World) (hW : Below w.heap.size w W) => cmp_call (H1.out.old hW) (H3.out.old hW))
  have HCT := hid (fun (W : World) (hW : Below w.heap.size w W) => cmp_call (H2.out.old hW) (H4.out.old hW))
  have hgF := cmp_gtr F1 F2
  have hlT := cmp_lss T1 T2
  cases q1 : Op.bytesLess F2 F1 with
  | true =>
    rw [q1] at hgF
    have HF : Hid (bothF F1 F2 = F1) := hid (by unfold bothF; rw [q1]; rfl)
    have HBW : Hid (Below w.heap.size w (w3.setCell ⟨w.heap.size + 1, 0, none⟩ (.slice a1 F1.length c1))) := hid (HB.out.setCell (show w.heap.size ≤ w.heap.size + 1 by omega) _)
    by_cases h0 : T1 = []
    · have HT : Hid (bothT T1 T2 = T2) := hid (by unfold bothT; rw [decide_eq_true h0]; rfl)
      have hl0 : ¬ (0 : Int) < (T1.length : Int) := by rw [h0]; simp
      go_wp2_with (first | (go_at_call 129; first | (refine (HCF.out _ HB.out).mono ?_; rintro en W2 ⟨rfl, e9⟩; first | (obtain rfl : w3 = W2 := e9.symm) | subst e9) | (refine (HCT.out _ HBW.out).mono ?_; rintro en W2 ⟨rfl, e9⟩; first | (obtain rfl : w3 = W2 := e9.symm) | subst e9)))
      have hz9 := (off_set (i := 0) (.slice a1 F1.length c1) HZ3.out (show w.heap.size + 1 ≠ w.heap.size + 1 + 1 by omega))
      have hb9 : Below w.heap.size w (w3.setCell ⟨w.heap.size + 1, 0, none⟩ (.slice a1 F1.length c1)) := HBW.out
      generalize w3.setCell ⟨w.heap.size + 1, 0, none⟩ (.slice a1 F1.length c1) = W9 at *
      (try simp only [Exit.inBlock, Exit.then]); refine bodyPost_ret (results_cell_row rfl _ _ (w.heap.size + 1 + 1) 66 _ (0, 0) _ rfl (put_in (put_in hz9 0 _) 1 _) Try.underlying66 rfl (by kernel_rfl)) rfl ?_
      rw [HF.out, HT.out]
      have hb10 : Below w.heap.size w ((W9.setCell ⟨w.heap.size + 1 + 1, 0, none⟩ (.slice a1 F1.length c1)).setCell ⟨w.heap.size + 1 + 1, 1, none⟩ (.slice a4 T2.length c4)) := (hb9.setCell (show w.heap.size ≤ w.heap.size + 1 + 1 by omega) _).setCell (show w.heap.size ≤ w.heap.size + 1 + 1 by omega) _
      exact ⟨_, _, _, _, rfl, H1.out.old hb10, H4.out.old hb10, hb10⟩
    · have hl0 : (0 : Int) < (T1.length : Int) := by have : 0 < T1.length := List.length_pos_iff.2 h0; omega
      cases q2 : Op.bytesLess T1 T2 with
      | true =>
        rw [q2] at hlT
        have HT : Hid (bothT T1 T2 = T1) := hid (by unfold bothT; rw [decide_eq_false h0, q2]; rfl)
        go_wp2_with (first | (go_at_call 129; first | (refine (HCF.out _ HB.out).mono ?_; rintro en W2 ⟨rfl, e9⟩; first | (obtain rfl : w3 = W2 := e9.symm) | subst e9) | (refine (HCT.out _ HBW.out).mono ?_; rintro en W2 ⟨rfl, e9⟩; first | (obtain rfl : w3 = W2 := e9.symm) | subst e9)))
        have hz9 := (off_set (i := 1) (.slice a2 T1.length c2) (off_set (i := 0) (.slice a1 F1.length c1) HZ3.out (show w.heap.size + 1 ≠ w.heap.size + 1 + 1 by omega)) (show w.heap.size + 1 ≠ w.heap.size + 1 + 1 by omega))
        have hb9 : Below w.heap.size w ((w3.setCell ⟨w.heap.size + 1, 0, none⟩ (.slice a1 F1.length c1)).setCell ⟨w.heap.size + 1, 1, none⟩ (.slice a2 T1.length c2)) := HBW.out.setCell (show w.heap.size ≤ w.heap.size + 1 by omega) _
        generalize (w3.setCell ⟨w.heap.size + 1, 0, none⟩ (.slice a1 F1.length c1)).setCell ⟨w.heap.size + 1, 1, none⟩ (.slice a2 T1.length c2) = W9 at *
        (try simp only [Exit.inBlock, Exit.then]); refine bodyPost_ret (results_cell_row rfl _ _ (w.heap.size + 1 + 1) 66 _ (0, 0) _ rfl (put_in (put_in hz9 0 _) 1 _) Try.underlying66 rfl (by kernel_rfl)) rfl ?_
        rw [HF.out, HT.out]
        have hb10 : Below w.heap.size w ((W9.setCell ⟨w.heap.size + 1 + 1, 0, none⟩ (.slice a1 F1.length c1)).setCell ⟨w.heap.size + 1 + 1, 1, none⟩ (.slice a2 T1.length c2)) := (hb9.setCell (show w.heap.size ≤ w.heap.size + 1 + 1 by omega) _).setCell (show w.heap.size ≤ w.heap.size + 1 + 1 by omega) _
        exact ⟨_, _, _, _, rfl, H1.out.old hb10, H2.out.old hb10, hb10⟩
      | false =>
        rw [q2] at hlT
        have HT : Hid (bothT T1 T2 = T2) := hid (by unfold bothT; rw [decide_eq_false h0, q2]; rfl)
        go_wp2_with (first | (go_at_call 129; first | (refine (HCF.out _ HB.out).mono ?_; rintro en W2 ⟨rfl, e9⟩; first | (obtain rfl : w3 = W2 := e9.symm) | subst e9) | (refine (HCT.out _ HBW.out).mono ?_; rintro en W2 ⟨rfl, e9⟩; first | (obtain rfl : w3 = W2 := e9.symm) | subst e9)))
        have hz9 := (off_set (i := 0) (.slice a1 F1.length c1) HZ3.out (show w.heap.size + 1 ≠ w.heap.size + 1 + 1 by omega))
        have hb9 : Below w.heap.size w (w3.setCell ⟨w.heap.size + 1, 0, none⟩ (.slice a1 F1.length c1)) := HBW.out
        generalize w3.setCell ⟨w.heap.size + 1, 0, none⟩ (.slice a1 F1.length c1) = W9 at *
        (try simp only [Exit.inBlock, Exit.then]); refine bodyPost_ret (results_cell_row rfl _ _ (w.heap.size + 1 + 1) 66 _ (0, 0) _ rfl (put_in (put_in hz9 0 _) 1 _) Try.underlying66 rfl (by kernel_rfl)) rfl ?_
        rw [HF.out, HT.out]
        have hb10 : Below w.heap.size w ((W9.setCell ⟨w.heap.size + 1 + 1, 0, none⟩ (.slice a1 F1.length c1)).setCell ⟨w.heap.size + 1 + 1, 1, none⟩ (.slice a4 T2.length c4)) := (hb9.setCell (show w.heap.size ≤ w.heap.size + 1 + 1 by omega) _).setCell (show w.heap.size ≤ w.heap.size + 1 + 1 by omega) _
        exact ⟨_, _, _, _, rfl, H1.out.old hb10, H4.out.old hb10, hb10⟩
  | false =>
    rw [q1] at hgF
    have HF : Hid (bothF F1 F2 = F2) := hid (by unfold bothF; rw [q1]; rfl)
    have HBW := HB
    by_cases h0 : T1 = []
    · have HT : Hid (bothT T1 T2 = T2) := hid (by unfold bothT; rw [decide_eq_true h0]; rfl)
      have hl0 : ¬ (0 : Int) < (T1.length : Int) := by rw [h0]; simp
      go_wp2_with (first | (go_at_call 129; first | (refine (HCF.out _ HB.out).mono ?_; rintro en W2 ⟨rfl, e9⟩; first | (obtain rfl : w3 = W2 := e9.symm) | subst e9) | (refine (HCT.out _ HBW.out).mono ?_; rintro en W2 ⟨rfl, e9⟩; first | (obtain rfl : w3 = W2 := e9.symm) | subst e9)))
      have hz9 := HZ3.out
      have hb9 : Below w.heap.size w (w3) := HBW.out
      generalize w3 = W9 at *
      (try simp only [Exit.inBlock, Exit.then]); refine bodyPost_ret (results_cell_row rfl _ _ (w.heap.size + 1 + 1) 66 _ (0, 0) _ rfl (put_in (put_in hz9 0 _) 1 _) Try.underlying66 rfl (by kernel_rfl)) rfl ?_
      rw [HF.out, HT.out]
      have hb10 : Below w.heap.size w ((W9.setCell ⟨w.heap.size + 1 + 1, 0, none⟩ (.slice a3 F2.length c3)).setCell ⟨w.heap.size + 1 + 1, 1, none⟩ (.slice a4 T2.length c4)) := (hb9.setCell (show w.heap.size ≤ w.heap.size + 1 + 1 by omega) _).setCell (show w.heap.size ≤ w.heap.size + 1 + 1 by omega) _
      exact ⟨_, _, _, _, rfl, H3.out.old hb10, H4.out.old hb10, hb10⟩
    · have hl0 : (0 : Int) < (T1.length : Int) := by have : 0 < T1.length := List.length_pos_iff.2 h0; omega
      cases q2 : Op.bytesLess T1 T2 with
      | true =>
        rw [q2] at hlT
        have HT : Hid (bothT T1 T2 = T1) := hid (by unfold bothT; rw [decide_eq_false h0, q2]; rfl)
        go_wp2_with (first | (go_at_call 129; first | (refine (HCF.out _ HB.out).mono ?_; rintro en W2 ⟨rfl, e9⟩; first | (obtain rfl : w3 = W2 := e9.symm) | subst e9) | (refine (HCT.out _ HBW.out).mono ?_; rintro en W2 ⟨rfl, e9⟩; first | (obtain rfl : w3 = W2 := e9.symm) | subst e9)))
        have hz9 := (off_set (i := 1) (.slice a2 T1.length c2) HZ3.out (show w.heap.size + 1 ≠ w.heap.size + 1 + 1 by omega))
        have hb9 : Below w.heap.size w ((w3).setCell ⟨w.heap.size + 1, 1, none⟩ (.slice a2 T1.length c2)) := HBW.out.setCell (show w.heap.size ≤ w.heap.size + 1 by omega) _
        generalize (w3).setCell ⟨w.heap.size + 1, 1, none⟩ (.slice a2 T1.length c2) = W9 at *
        (try simp only [Exit.inBlock, Exit.then]); refine bodyPost_ret (results_cell_row rfl _ _ (w.heap.size + 1 + 1) 66 _ (0, 0) _ rfl (put_in (put_in hz9 0 _) 1 _) Try.underlying66 rfl (by kernel_rfl)) rfl ?_
        rw [HF.out, HT.out]
        have hb10 : Below w.heap.size w ((W9.setCell ⟨w.heap.size + 1 + 1, 0, none⟩ (.slice a3 F2.length c3)).setCell ⟨w.heap.size + 1 + 1, 1, none⟩ (.slice a2 T1.length c2)) := (hb9.setCell (show w.heap.size ≤ w.heap.size + 1 + 1 by omega) _).setCell (show w.heap.size ≤ w.heap.size + 1 + 1 by omega) _
        exact ⟨_, _, _, _, rfl, H3.out.old hb10, H2.out.old hb10, hb10⟩
      | false =>
        rw [q2] at hlT
        have HT : Hid (bothT T1 T2 = T2) := hid (by unfold bothT; rw [decide_eq_false h0, q2]; rfl)
        go_wp2_with (first | (go_at_call 129; first | (refine (HCF.out _ HB.out).mono ?_; rintro en W2 ⟨rfl, e9⟩; first | (obtain rfl : w3 = W2 := e9.symm) | subst e9) | (refine (HCT.out _ HBW.out).mono ?_; rintro en W2 ⟨rfl, e9⟩; first | (obtain rfl : w3 = W2 := e9.symm) | subst e9)))
        have hz9 := HZ3.out
        have hb9 : Below w.heap.size w (w3) := HBW.out
        generalize w3 = W9 at *
        (try simp only [Exit.inBlock, Exit.then]); refine bodyPost_ret (results_cell_row rfl _ _ (w.heap.size + 1 + 1) 66 _ (0, 0) _ rfl (put_in (put_in hz9 0 _) 1 _) Try.underlying66 rfl (by kernel_rfl)) rfl ?_
        rw [HF.out, HT.out]
        have hb10 : Below w.heap.size w ((W9.setCell ⟨w.heap.size + 1 + 1, 0, none⟩ (.slice a3 F2.length c3)).setCell ⟨w.heap.size + 1 + 1, 1, none⟩ (.slice a4 T2.length c4)) := (hb9.setCell (show w.heap.size ≤ w.heap.size + 1 + 1 by omega) _).setCell (show w.heap.size ≤ w.heap.size + 1 + 1 by omega) _
        exact ⟨_, _, _, _, rfl, H3.out.old hb10, H4.out.old hb10, hb10⟩
end Go.Proofs.Ytafcbelkhhjcoaa

