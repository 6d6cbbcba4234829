import Derived.Deep.Slices
import Derived.Deep.AppendLies
import Derived.Test.YtpdmocdfnakggaaDoorRows
import Derived.WalkKit
import Derived.WalkSpells
import Derived.WalkLawsBesides
import Derived.Laws.AppendOwnNone
import GoSem.Op.String
import Derived.Lib.Bytealg
import Derived.Lib.Bytes
import Derived.Deep.OwnRows
import Derived.OwnWalk
import Derived.RowKitTokens
import Derived.ProofKit
import Derived.Lib.AppendZeros
import Derived.Test.YtpdmocdfnakggaaDoorZR1
set_option linter.unusedVariables false
set_option linter.unusedSimpArgs false
namespace Go.Proofs.YtpdmocdfnakggaaDoor
open Go.RowKit

/-- Rows of that many cells. -/
def Wide (size : Nat) (L : List (List Value)) : Prop := ∀ r ∈ L, r.length = size ∧ ∀ u ∈ r, u.oneCell' = true

theorem Wide.app {size : Nat} {a b : List (List Value)} (h : Wide size a) (k : Wide size b) : Wide size (a ++ b) := fun r hr => by
  rcases List.mem_append.1 hr with h1 | h1
  · exact h r h1
  · exact k r h1

theorem Wide.sub {size : Nat} {a b : List (List Value)} (h : Wide size a) (k : ∀ r ∈ b, r ∈ a) : Wide size b := fun r hr => h r (k r hr)

theorem Wide.one {size : Nat} {L : List (List Value)} (h : Wide size L) : ∀ u ∈ L.flatten, u.oneCell' = true := fun u hu => by
  obtain ⟨r, hr, hu⟩ := List.mem_flatten.1 hu
  exact (h r hr).2 u hu

theorem Wide.len {size : Nat} {L : List (List Value)} (h : Wide size L) : L.flatten.length = L.length * size := by
  induction L with
  | nil => simp
  | cons r L ih =>
    have h1 := (h r (by simp)).1
    have h2 := ih (h.sub fun x hx => by simp [hx])
    rw [List.flatten_cons, List.length_append, h1, h2, List.length_cons, Nat.add_mul]
    omega

theorem Wide.at {size : Nat} {L : List (List Value)} (h : Wide size L) : ∀ {k : Nat} {r : List Value}, L[k]? = some r → ∀ {j : Nat} {u : Value}, r[j]? = some u → L.flatten[k * size + j]? = some u := by
  induction L with
  | nil => intro k r hk; simp at hk
  | cons q L ih =>
    intro k r hk j u hj
    have hq := (h q (by simp)).1
    cases k with
    | zero =>
      simp at hk
      subst hk
      have hjl : j < q.length := (List.getElem?_eq_some_iff.1 hj).1
      rw [Nat.zero_mul, Nat.zero_add, List.flatten_cons, List.getElem?_append_left hjl]
      exact hj
    | succ k =>
      have hk' : L[k]? = some r := by simpa using hk
      have h3 := ih (h.sub fun x hx => by simp [hx]) hk' hj
      rw [List.flatten_cons, List.getElem?_append_right (by rw [hq, Nat.add_mul]; omega)]
      have e : (k + 1) * size + j - q.length = k * size + j := by rw [hq, Nat.add_mul]; omega
      rw [e]
      exact h3

/-- The slice x reads as the rows L. -/
def Rws (size : Nat) (w : World) (x : Value) (L : List (List Value)) : Prop :=
  ∃ (ao : Option Addr) (c : Nat), x = .slice ao L.length c ∧ L.length ≤ c ∧ c ≤ maxLen ∧ (ao = none → c = 0) ∧ Wide size L ∧
    ∀ a, ao = some a → ∀ (j : Nat) u, L.flatten[j]? = some u → w.cell? (a.add j) = some u

theorem Rws.nil (size : Nat) (w : World) : Rws size w (.slice none 0 0) [] := ⟨none, 0, rfl, by simp, by simp, (fun _ => rfl), (fun r hr => by cases hr), (fun a h => by cases h)⟩

theorem Rws.kept {size : Nat} {w w' : World} {x : Value} {L : List (List Value)} {row : Option Nat} (h : Rws size w x L) (hg : w.grownBy w' row) (hne : blk x = none ∨ blk x ≠ row) : Rws size w' x L := by
  obtain ⟨ao, c, rfl, h1, h2, h3, h5, h4⟩ := h
  refine ⟨ao, c, rfl, h1, h2, h3, h5, fun a ha j u hu => ?_⟩
  subst ha
  have h6 := h4 a rfl j u hu
  have hlt := World.block_lt_of_cell? w _ h6
  rw [World.cell?_of_block (w := w) (a := a.add j) (hg.block _ hlt (by rw [add_block]; simpa [blk] using hne))]
  exact h6

theorem Rws.old {size : Nat} {w w' : World} {x : Value} {L : List (List Value)} (h : Rws size w x L) (hb : Below w.heap.size w w') : Rws size w' x L := by
  obtain ⟨ao, c, rfl, h1, h2, h3, h5, h4⟩ := h
  refine ⟨ao, c, rfl, h1, h2, h3, h5, fun a ha j u hu => ?_⟩
  subst ha
  have h6 := h4 a rfl j u hu
  rw [hb.cell (p := a.add j) (World.block_lt_of_cell? w _ h6)]
  exact h6

theorem Rws.len {P : Program} {size : Nat} {w : World} {x : Value} {L : List (List Value)} (h : Rws size w x L) (t e ty : TypeId) (ht : P.underlying t = some (.slice e)) :
    ∀ W, (Builtin.len_ #[t] ty #[x]).run P W = .ok (goInt L.length) W := by
  obtain ⟨ao, c, rfl, h1, h2, h3, _⟩ := h
  have ht' : P.underlying t = some (.slice (P.elem t)) := by simp [Program.elem, ht]
  exact fun W => run_len_slice W t ty _ _ _ ht'

theorem Rws.form {size : Nat} {w : World} {x : Value} {L : List (List Value)} (h : Rws size w x L) : ∃ ao c, x = .slice ao L.length c ∧ L.length ≤ c ∧ c ≤ maxLen := by
  obtain ⟨ao, c, rfl, h1, h2, h3, _⟩ := h
  exact ⟨ao, c, rfl, h1, h2⟩

/-- One row's cells. -/
theorem Rws.get {size : Nat} {w : World} {ao : Option Addr} {n c : Nat} {L : List (List Value)} (h : Rws size w (.slice ao n c) L) (hs : 0 < size) {k : Nat} {r : List Value} (hk : L[k]? = some r) :
    ∃ b off, ao = some ⟨b, off, none⟩ ∧ ∀ (j : Nat) u, r[j]? = some u → w.cell? ⟨b, off + k * size + j, none⟩ = some u := by
  obtain ⟨ao', c', he, h1, h2, h3, h5, h4⟩ := h
  simp only [Value.slice.injEq] at he
  obtain ⟨rfl, rfl, rfl⟩ := he
  have hkl : k < L.length := (List.getElem?_eq_some_iff.1 hk).1
  have hr := h5 r (List.mem_of_getElem? hk)
  cases ao with
  | none => have := h3 rfl; omega
  | some a =>
    obtain ⟨b, off, spot⟩ := a
    have hL0 : L[0]? = some (L[0]'(by omega)) := List.getElem?_eq_getElem (by omega)
    have hr0 := h5 _ (List.mem_of_getElem? hL0)
    have hu0 : (L[0]'(by omega))[0]? = some ((L[0]'(by omega))[0]'(by omega)) := List.getElem?_eq_getElem (by omega)
    have h0 := h4 _ rfl _ _ (h5.at hL0 hu0)
    have hspot : spot = none := by
      rw [Nat.zero_mul, Nat.zero_add] at h0
      simpa [Addr.add] using World.cell?_spot h0
    subst hspot
    refine ⟨b, off, rfl, fun j u hj => ?_⟩
    have := h4 _ rfl _ _ (h5.at hk hj)
    rw [WideShapes.add_plain, ← Nat.add_assoc] at this
    exact this

/-- What the call itself made. -/
theorem Rws.own {size : Nat} {w : World} {base : Nat} {e : TypeId} {x : Value} {L : List (List Value)} (h : w.ownsRow base e size x L.length L.flatten) (hw : Wide size L) : Rws size w x L := by
  obtain ⟨h1, h2⟩ := h
  rcases h2 with ⟨rfl, hn⟩ | ⟨g, cap, cur, rfl, hb, hg, hn, hc, hs, ht⟩
  · obtain rfl : L = [] := List.eq_nil_of_length_eq_zero hn
    exact Rws.nil size w
  · refine ⟨some ⟨g, 0, none⟩, cap, rfl, hn, hc, (fun h => by cases h), hw, fun a ha => ?_⟩
    cases ha
    intro j u hu
    rw [WideShapes.add_plain, Nat.zero_add, cell_of_row w g j cur e (0, 0) hg]
    rw [← ht, List.getElem?_take] at hu
    split at hu
    · simpa using hu
    · cases hu

theorem Rws.take {size : Nat} {w : World} {ao : Option Addr} {m c : Nat} {L : List (List Value)} (h : Rws size w (.slice ao m c) L) (n : Nat) (hn : n ≤ L.length) : Rws size w (.slice ao n c) (L.take n) := by
  obtain ⟨ao', c', he, h1, h2, h3, h5, h4⟩ := h
  simp only [Value.slice.injEq] at he
  obtain ⟨rfl, rfl, rfl⟩ := he
  have hlen : (L.take n).length = n := by rw [List.length_take]; omega
  refine ⟨ao, c, by rw [hlen], by rw [hlen]; omega, h2, h3, h5.sub fun r hr => List.mem_of_mem_take hr, fun a ha j u hu => h4 a ha j u ?_⟩
  have e : L.flatten = (L.take n).flatten ++ (L.drop n).flatten := by rw [← List.flatten_append, List.take_append_drop]
  rw [e, List.getElem?_append_left]
  · exact hu
  · exact (List.getElem?_eq_some_iff.1 hu).1

/-- 'x[:n]'. -/
theorem Rws.head {P : Program} {size : Nat} {w : World} {x : Value} {L : List (List Value)} (h : Rws size w x L) (t e : TypeId) (ht : P.underlying t = some (.slice e)) (hinfo : (P.info? e).map (fun i => i.size) = some size) (n : Nat) (hn : n ≤ L.length) :
    ∃ (ao : Option Addr) (c : Nat), (∀ k W, (Instr.slice t x none (some (.int k (n : Int))) none).run P W = .ok (.slice ao n c) W) ∧ Rws size w (.slice ao n c) (L.take n) ∧ (∀ k, blk (.slice ao n c) = some k → blk x = some k) := by
  obtain ⟨i0, hi, hz1⟩ : ∃ i, P.info? e = some i ∧ i.size = size := by
    cases hq : P.info? e with
    | none => rw [hq] at hinfo; cases hinfo
    | some i => rw [hq] at hinfo; exact ⟨i, rfl, by simpa using hinfo⟩
  have h' := h
  obtain ⟨ao, c, rfl, h1, h2, h3, h5, h4⟩ := h
  have ht' : P.underlying t = some (.slice (P.elem t)) := by simp [Program.elem, ht]
  have he : P.elem t = e := by simp [Program.elem, ht]
  have hs : ∀ W, (sizeOf e).run P W = .ok size W := fun W => by simp [sizeOf, typeInfo, hi, hz1]
  have hsame : (if c = 0 then ao else ao.map (·.add (0 * size))) = ao := by
    split
    · rfl
    · cases ao <;> simp [Addr.add]
  refine ⟨ao, c, fun k W => ?_, h'.take n hn, fun k hk => by cases ao with | none => simp [blk] at hk | some a => simpa [blk] using hk⟩
  rw [run_slice_h W t _ _ _ ht' k _ (by omega) (by omega), he, hs]
  simp only [Result.andThen, sliced]
  rw [hsame]
  simp

/-- 'append(v, x...)', v the call's own, x whatever. 'hgd': no guard, or one that holds (by rfl). -/
theorem wp_rapp {P : Program} {w : World} {ops : Array Oper} {rest : List Oper} {o : Oper} {a : Act} {Q : Exit → Act → World → Prop} (hgd : Region.wanted o (yielded ops a.tmps) = true) (s x : Operand) (t : TypeId)
    (ho : o.op = .call { callee := .builtin .append, args := #[s, x], argTypes := #[t, t] })
    (base size bytes : Nat) (e : TypeId) (ht : P.underlying t = some (.slice e)) (z : Value) (hinfo : (P.info? e).map (fun i => (i.zero, i.size, i.bytes)) = some (some z, size, bytes)) (hzs : z.cells.size = size) (hsz : 0 < size)
    (v : Value) (n : Nat) (xs : List Value) (hs : a.eval s = v) (hown : w.ownsRow base e size v n xs)
    (y : Value) (L : List (List Value)) (hx : a.eval x = y) (hr : Rws size w y L) (hn : (n + L.length) * bytes ≤ 140737488355328) (hm : n + L.length ≤ maxLen) (hbase : base ≤ w.heap.size)
    (h : ∀ v' w', w'.ownsRow base e size v' (n + L.length) (xs ++ L.flatten) → w.grownBy w' v.ownBlock → wpList P ops Q rest (a.put o.dst v') w') : wpList P ops Q (o :: rest) a w := by
  obtain ⟨i0, hi, hz0, hz1, hz2⟩ : ∃ i, P.info? e = some i ∧ i.zero = some z ∧ i.size = size ∧ i.bytes = bytes := by
    cases hq : P.info? e with
    | none => rw [hq] at hinfo; cases hinfo
    | some i => rw [hq] at hinfo; simp at hinfo; exact ⟨i, rfl, hinfo⟩
  refine wpList_step fun K hK => ?_
  rw [if_pos hgd]
  obtain ⟨ao, c, rfl, h1, h2, h3, h5, h4⟩ := hr
  cases ao with
  | some ad =>
    exact wp_append_own w s x t ho base e i0 z size bytes ht hi hz0 hz1 hz2 hzs hsz v n xs hs hown ad L.length c L.flatten hx h5.len (h4 ad rfl) h5.one
      hm hn hbase fun v' w' a1 a2 _ => hK _ _ (h v' w' a1 a2)
  | none =>
    have hc := h3 rfl
    obtain rfl : L = [] := List.eq_nil_of_length_eq_zero (by omega)
    subst hc
    have hrun := run_append_owned_none (P := P) (w := w) base t o.type e i0 size ht hi v n xs hown
    unfold Oper.wp execOp
    simp only [List.length_nil] at hx
    simp only [ho, resolve, invoke, builtin, Sem.run_bind, Sem.run_pure, Result.andThen_ok, List.map_toArray, List.map_cons, List.map_nil, hs, hx, hrun]
    exact hK _ _ (h v w (by simpa using hown) (World.grownBy.refl _ _))

/-- A row that was laid out by 'buildSlice' or stored whole: one row. -/
theorem Rws.one {w : World} {n size : Nat} {r : List Value} {t : TypeId} (h : n = w.heap.size) (hr : r.length = size ∧ ∀ u ∈ r, u.oneCell' = true) : Rws size (w.alloc (.cells r.toArray t)) (.slice (some ⟨n, 0, none⟩) 1 1) [r] := by
  subst h
  refine ⟨some ⟨w.heap.size, 0, none⟩, 1, rfl, by simp, by unfold maxLen; simp, (fun h => by cases h), (fun q hq => by simp at hq; subst hq; exact hr), fun a ha j u hu => ?_⟩
  cases ha
  rw [WideShapes.add_plain, Nat.zero_add, cell_of_row _ w.heap.size j r.toArray t (0, 0) (heap_alloc_new w _)]
  simpa using hu
end Go.Proofs.YtpdmocdfnakggaaDoor

set_option linter.unusedVariables false
namespace Go.Proofs.YtpdmocdfnakggaaDoor
open Go.RowKit

/-- All that lay lies, but for the blocks of X. -/
structure Keep (X : Nat → Prop) (w w' : World) : Prop where
  os : w'.os = w.os
  tape : w'.tape = w.tape
  output : w'.output = w.output
  size : w.heap.size ≤ w'.heap.size
  block : ∀ k, k < w.heap.size → ¬ X k → w'.heap[k]? = w.heap[k]?

theorem Keep.refl (X : Nat → Prop) (w : World) : Keep X w w := ⟨rfl, rfl, rfl, Nat.le_refl _, fun _ _ _ => rfl⟩
theorem Keep.trans {X : Nat → Prop} {a b c : World} (h : Keep X a b) (k : Keep X b c) : Keep X a c :=
  ⟨k.os.trans h.os, k.tape.trans h.tape, k.output.trans h.output, Nat.le_trans h.size k.size, fun i hi hn => (k.block i (Nat.lt_of_lt_of_le hi h.size) hn).trans (h.block i hi hn)⟩
theorem Keep.mono {X Y : Nat → Prop} {a b : World} (h : Keep X a b) (hxy : ∀ k, k < a.heap.size → X k → Y k) : Keep Y a b :=
  ⟨h.os, h.tape, h.output, h.size, fun i hi hn => h.block i hi (fun hx => hn (hxy i hi hx))⟩
theorem Keep.of_below {X : Nat → Prop} {w w' : World} (h : Below w.heap.size w w') : Keep X w w' := ⟨h.os, h.tape, h.output, h.size, fun k hk _ => h.block k hk⟩
theorem Keep.of_grown {X : Nat → Prop} {w w' : World} {row : Option Nat} (h : w.grownBy w' row) (hx : ∀ k, row = some k → X k) : Keep X w w' :=
  ⟨h.os, h.tape, h.output, h.size, fun k hk hn => h.block k hk (fun e => hn (hx k e.symm))⟩
theorem Keep.below {X : Nat → Prop} {w w' : World} {n : Nat} (h : Keep X w w') (hn : n ≤ w.heap.size) (hx : ∀ k, X k → n ≤ k) : Below n w w' :=
  ⟨h.os, h.tape, h.output, h.size, fun k hk => h.block k (Nat.lt_of_lt_of_le hk hn) (fun hx' => by have := hx k hx'; omega)⟩
theorem Keep.set {X : Nat → Prop} (w : World) (a : Addr) (v : Value) (hx : X a.block) : Keep X w (w.setCell a v) := Keep.of_grown (grown_set w a v) (fun k e => by cases e; exact hx)
/-- What is owned stays owned. -/
theorem own_keep {X : Nat → Prop} {w w' : World} {base : Nat} {e : TypeId} {size : Nat} {v : Value} {n : Nat} {xs : List Value} (h : w.ownsRow base e size v n xs) (hk : Keep X w w') (hx : ∀ k, v.ownBlock = some k → ¬ X k) : w'.ownsRow base e size v n xs :=
  ⟨h.1, h.2.imp id fun ⟨g, cap, cur, a, b, c, d⟩ => ⟨g, cap, cur, a, b, by rw [hk.block g (lt_of_block c) (hx g (by rw [a]; rfl))]; exact c, d⟩⟩

theorem Rd.keep {X : Nat → Prop} {w w' : World} {x : Value} {l : List UInt8} (h : Rd w x l) (hk : Keep X w w') (hx : l ≠ [] → ∀ k, blk x = some k → ¬ X k) : Rd w' x l := by
  obtain ⟨ao, c, rfl, h1, h2, h3, h4⟩ := h
  refine ⟨ao, c, rfl, h1, h2, h3, fun a ha j u hu => ?_⟩
  subst ha
  have h6 := h4 a rfl j u hu
  have hlt := World.block_lt_of_cell? w _ h6
  rw [World.cell?_of_block (w := w) (a := a.add j) (hk.block _ hlt (by rw [add_block]; exact hx (fun e => by subst e; simp at hu) _ rfl))]
  exact h6
theorem Rws.keep {X : Nat → Prop} {size : Nat} {w w' : World} {x : Value} {L : List (List Value)} (h : Rws size w x L) (hk : Keep X w w') (hx : L ≠ [] → ∀ k, blk x = some k → ¬ X k) : Rws size w' x L := by
  obtain ⟨ao, c, rfl, h1, h2, h3, h5, h4⟩ := h
  refine ⟨ao, c, rfl, h1, h2, h3, h5, fun a ha j u hu => ?_⟩
  subst ha
  have h6 := h4 a rfl j u hu
  have hlt := World.block_lt_of_cell? w _ h6
  rw [World.cell?_of_block (w := w) (a := a.add j) (hk.block _ hlt (by rw [add_block]; exact hx (fun e => by subst e; simp at hu) _ rfl))]
  exact h6
/-- Behind 'append' the row lies where it lay, or in a new block. -/
theorem app_fresh {P : Program} {w w' : World} {base : Nat} {t ty e : TypeId} {i : TypeInfo} {z : Value} {size bytes : Nat} (ht : P.underlying t = some (.slice e)) (hi : P.info? e = some i) (hz : i.zero = some z)
    (hsize : i.size = size) (hby : i.bytes = bytes) (hzs : z.cells.size = size) (hsz : 0 < size)
    {v v' : Value} {n : Nat} {xs : List Value} (hown : w.ownsRow base e size v n xs)
    {a : Addr} {m c : Nat} {news : List Value} (hl : news.length = m * size) (hnews : ∀ j u, news[j]? = some u → w.cell? (a.add j) = some u) (h1 : ∀ u ∈ news, u.oneCell' = true)
    (h63 : n + m ≤ maxLen) (hbytes : (n + m) * bytes ≤ 140737488355328) (hr : (Builtin.append_ #[t, t] ty #[v, .slice (some a) m c]).run P w = .ok v' w') :
    ∀ k, v'.ownBlock = some k → v.ownBlock = some k ∨ w.heap.size ≤ k := by
  have hown0 := hown
  rcases hown.2 with ⟨rfl, rfl⟩ | ⟨g, cap, cur, rfl, hbg, hg, hnc, hcm, hcs, htake⟩
  · have hx : xs = [] := List.eq_nil_of_length_eq_zero (by simpa using hown.1)
    subst hx
    obtain ⟨v2, w2, hr2, ho, -, -⟩ := run_append_own (P := P) w w.heap.size t ty e i z size bytes ht hi hz hsize hby hzs hsz _ 0 [] (World.ownsRow_nil w w.heap.size e size) a m c news hl hnews h1 h63 hbytes (Nat.le_refl _)
    rw [hr] at hr2
    cases hr2
    exact fun k hk => .inr (ho.lt k hk).1
  · subst hsize
    subst hby
    by_cases hroom : n + m ≤ cap
    · have hfit : n * i.size + news.length ≤ cur.size := by rw [hl, hcs, ← Nat.add_mul]; exact Nat.mul_le_mul_right _ hroom
      have hr2 := run_append_room (P := P) w t ty e i ht hi g n cap cur hg a m c news hl hnews h1 hroom hfit
      rw [hr] at hr2
      cases hr2
      exact fun k hk => .inl hk
    · have hr2 := run_append_grow (P := P) (ty := ty) w t e i z ht hi hz ⟨g, 0, none⟩ n cap xs hown.1 (hown0.cells (g := g) rfl) a m c news hl hnews (by omega) (by simp only [maxLen] at h63; omega) (growslice_fits (by omega) hbytes)
      rw [hr] at hr2
      cases hr2
      exact fun k hk => .inr (by simp [Value.ownBlock] at hk; omega)
end Go.Proofs.YtpdmocdfnakggaaDoor

namespace Go.Proofs.YtpdmocdfnakggaaDoor
open Go.Lib (compareBytes)

theorem cb_self : ∀ x : List UInt8, compareBytes x x = 0
  | [] => rfl
  | c :: x => by unfold compareBytes; simp [cb_self x]

theorem cb_eq : ∀ x y : List UInt8, compareBytes x y = 0 → x = y
  | [], [], _ => rfl
  | [], _ :: _, h => by simp [compareBytes] at h
  | _ :: _, [], h => by simp [compareBytes] at h
  | a :: x, b :: y, h => by
    unfold compareBytes at h
    split at h
    · cases h
    · rename_i h1
      split at h
      · cases h
      · rename_i h2
        have e : a = b := UInt8.le_antisymm (UInt8.not_lt.1 h2) (UInt8.not_lt.1 h1)
        rw [e, cb_eq x y h]

theorem cb_pre (p : List UInt8) (x y : List UInt8) : compareBytes (p ++ x) (p ++ y) = compareBytes x y := by
  induction p with
  | nil => rfl
  | cons c p ih =>
    show (if c < c then -1 else if c < c then 1 else compareBytes (p ++ x) (p ++ y)) = _
    rw [if_neg (UInt8.lt_irrefl c), if_neg (UInt8.lt_irrefl c), ih]

theorem cb_tri : ∀ x y : List UInt8, compareBytes x y = -1 ∨ compareBytes x y = 0 ∨ compareBytes x y = 1
  | [], [] => .inr (.inl rfl)
  | [], _ :: _ => .inl rfl
  | _ :: _, [] => .inr (.inr rfl)
  | a :: x, b :: y => by
    unfold compareBytes
    split
    · exact .inl rfl
    · split
      · exact .inr (.inr rfl)
      · exact cb_tri x y

theorem cb_lt {a b : UInt8} (h : a < b) (x y : List UInt8) : compareBytes (a :: x) (b :: y) = -1 := by
  unfold compareBytes; rw [if_pos h]

theorem cb_gt {a b : UInt8} (h : b < a) (x y : List UInt8) : compareBytes (a :: x) (b :: y) = 1 := by
  unfold compareBytes; rw [if_neg (UInt8.lt_asymm h), if_pos h]

theorem cb_cons (a : UInt8) (x y : List UInt8) : compareBytes (a :: x) (a :: y) = compareBytes x y := cb_pre [a] x y

theorem cb_swap : ∀ x y : List UInt8, compareBytes y x = - compareBytes x y
  | [], [] => rfl
  | [], _ :: _ => rfl
  | _ :: _, [] => rfl
  | a :: x, b :: y => by
    by_cases h : a < b
    · rw [cb_lt h, cb_gt h]; rfl
    · by_cases h2 : b < a
      · rw [cb_lt h2, cb_gt h2]
      · have e : a = b := UInt8.le_antisymm (UInt8.not_lt.1 h2) (UInt8.not_lt.1 h)
        subst e
        rw [cb_cons, cb_cons, cb_swap x y]

/-- '<' on texts. -/
theorem less_eq : ∀ x y : List UInt8, Op.bytesLess x y = decide (compareBytes x y = -1)
  | [], [] => rfl
  | _ :: _, [] => rfl
  | [], _ :: _ => rfl
  | a :: x, b :: y => by
    show (decide (a < b) || (a == b && Op.bytesLess x y)) = _
    by_cases h : a < b
    · rw [cb_lt h]; simp [h]
    · by_cases h2 : b < a
      · rw [cb_gt h2]
        have : ¬ a = b := fun e => h (by rw [e] at h2; exact absurd h2 (UInt8.lt_irrefl b))
        simp [h, this]
      · have e : a = b := UInt8.le_antisymm (UInt8.not_lt.1 h2) (UInt8.not_lt.1 h)
        subst e
        rw [cb_cons, less_eq x y]
        simp [UInt8.lt_irrefl]

theorem beq_eq (x y : List UInt8) : (x == y) = decide (compareBytes x y = 0) := by
  by_cases h : x = y
  · subst h; simp [cb_self]
  · have : ¬ compareBytes x y = 0 := fun e => h (cb_eq x y e)
    simp [h, this]

/-- The least bytes that are greater than all that begin with b; none: []. -/
def endL : List UInt8 → List UInt8
  | [] => []
  | c :: r => if endL r = [] then (if c = 255 then [] else [c + 1]) else c :: endL r

theorem endL_ff (p : List UInt8) : endL (p ++ [255]) = endL p := by
  induction p with
  | nil => rfl
  | cons c p ih => simp only [List.cons_append, endL, ih]

theorem endL_not (p : List UInt8) (c : UInt8) (h : c ≠ 255) : endL (p ++ [c]) = p ++ [c + 1] := by
  induction p with
  | nil => simp [endL, h]
  | cons d p ih => simp [endL, ih]

theorem endL_none : ∀ b, endL b = [] → ∀ c ∈ b, c = 255
  | [], _, c, hc => by cases hc
  | d :: r, h, c, hc => by
    unfold endL at h
    split at h
    · rename_i h1
      split at h
      · rename_i h2
        rcases List.mem_cons.1 hc with rfl | hc
        · exact h2
        · exact endL_none r h1 c hc
      · cases h
    · cases h

theorem all_ff : ∀ (b : List UInt8), (∀ c ∈ b, c = 255) → ∀ z, (¬ compareBytes z b = -1) ↔ b <+: z
  | [], _, z => by
    constructor
    · intro _; exact List.nil_prefix
    · intro _; cases z <;> simp [compareBytes]
  | c :: r, h, z => by
    have hc := h c (by simp)
    subst hc
    cases z with
    | nil => simp [compareBytes]
    | cons d z =>
      by_cases hd : d = 255
      · subst hd
        rw [cb_cons, List.cons_prefix_cons]
        have := all_ff r (fun c hc => h c (by simp [hc])) z
        simp [this]
      · have hlt : d < 255 := by
          rw [UInt8.lt_iff_toNat_lt]
          have h1 : d.toNat ≠ 255 := fun e => hd (UInt8.toNat_inj.1 (by simpa using e))
          have := UInt8.toNat_lt d
          show d.toNat < 255
          omega
        rw [cb_lt hlt, List.cons_prefix_cons]
        have hd' : ¬ (255 : UInt8) = d := fun e => hd e.symm
        simp [hd']

theorem succ_lt {c : UInt8} (h : c ≠ 255) : c < c + 1 := by
  rw [UInt8.lt_iff_toNat_lt, UInt8.toNat_add]
  have h1 : c.toNat ≠ 255 := fun e => h (UInt8.toNat_inj.1 (by simpa using e))
  have := UInt8.toNat_lt c
  show c.toNat < (c.toNat + 1) % 256
  omega

theorem succ_le {c d : UInt8} (h : c ≠ 255) (hd : c < d) : ¬ d < c + 1 := by
  rw [UInt8.lt_iff_toNat_lt] at *
  rw [UInt8.toNat_add]
  have h1 : c.toNat ≠ 255 := fun e => h (UInt8.toNat_inj.1 (by simpa using e))
  have := UInt8.toNat_lt c
  show ¬ d.toNat < (c.toNat + 1) % 256
  omega

theorem cb_nil (z : List UInt8) : ¬ compareBytes z [] = -1 := by cases z <;> simp [compareBytes]

/-- WHAT STANDS FROM b ON AND BELOW ITS END BEGINS WITH b, AND NOTHING ELSE DOES. -/
theorem between : ∀ (b : List UInt8), endL b ≠ [] → ∀ z, (¬ compareBytes z b = -1 ∧ compareBytes z (endL b) = -1) ↔ b <+: z
  | [], h, _ => absurd rfl h
  | c :: r, h, z => by
    cases z with
    | nil => simp [compareBytes]
    | cons d z =>
      rw [List.cons_prefix_cons]
      by_cases hr : endL r = []
      · have he : endL (c :: r) = if c = 255 then [] else [c + 1] := by simp [endL, hr]
        rw [he] at h ⊢
        by_cases hc : c = 255
        · simp [hc] at h
        · rw [if_neg hc]
          have ha := all_ff r (endL_none r hr) z
          by_cases h1 : d < c
          · rw [cb_lt h1]
            have : ¬ c = d := fun e => by rw [e] at h1; exact absurd h1 (UInt8.lt_irrefl d)
            simp [this]
          · by_cases h2 : c < d
            · have h3 := succ_le hc h2
              have : ¬ c = d := fun e => by rw [e] at h2; exact absurd h2 (UInt8.lt_irrefl d)
              have h4 : ¬ compareBytes (d :: z) [c + 1] = -1 := by
                by_cases h5 : c + 1 < d
                · rw [cb_gt h5]; decide
                · have e : d = c + 1 := UInt8.le_antisymm (UInt8.not_lt.1 h5) (UInt8.not_lt.1 h3)
                  rw [e, cb_cons]; exact cb_nil z
              simp [h4, this]
            · have e : d = c := UInt8.le_antisymm (UInt8.not_lt.1 h2) (UInt8.not_lt.1 h1)
              subst e
              rw [cb_cons, cb_lt (succ_lt hc)]
              simp [ha]
      · have he : endL (c :: r) = c :: endL r := by simp [endL, hr]
        rw [he]
        by_cases h1 : d < c
        · rw [cb_lt h1]
          have : ¬ c = d := fun e => by rw [e] at h1; exact absurd h1 (UInt8.lt_irrefl d)
          simp [this]
        · by_cases h2 : c < d
          · rw [cb_gt h2, cb_gt h2]
            have : ¬ c = d := fun e => by rw [e] at h2; exact absurd h2 (UInt8.lt_irrefl d)
            simp [this]
          · have e : d = c := UInt8.le_antisymm (UInt8.not_lt.1 h2) (UInt8.not_lt.1 h1)
            subst e
            rw [cb_cons, cb_cons]
            have := between r hr z
            simp [this]

structure Vl where
  k : Int
  i : Int
  s : List UInt8

/-- Right: P3's words. -/
def okV (v : Vl) : Prop := (v.k = 0 ∧ v.i = 0 ∧ v.s = []) ∨ (v.k = 1 ∧ v.s = []) ∨ (v.k = 2 ∧ v.i = 0 ∧ v.s.length ≤ 20)

instance okVdec (v : Vl) : Decidable (okV v) := by unfold okV; infer_instance

/-- Its numbers fit. -/
def inV (v : Vl) : Prop := -9223372036854775808 ≤ v.i ∧ v.i ≤ 9223372036854775807

/-- n bytes of u, the highest first. -/
def be : Nat → Nat → List UInt8
  | 0, _ => []
  | n + 1, u => UInt8.ofNat (u / 256 ^ n) :: be n u

theorem be_len (n u : Nat) : (be n u).length = n := by
  induction n with
  | zero => rfl
  | succ n ih => simp [be, ih]

theorem be_cmp (n : Nat) : ∀ u v, u % 256 ^ n < v % 256 ^ n → ∀ x y, compareBytes (be n u ++ x) (be n v ++ y) = -1 := by
  induction n with
  | zero => intro u v h; simp [Nat.mod_one] at h
  | succ n ih =>
    intro u v h x y
    show compareBytes (UInt8.ofNat (u / 256 ^ n) :: (be n u ++ x)) (UInt8.ofNat (v / 256 ^ n) :: (be n v ++ y)) = -1
    have h1 : ∀ u, u % 256 ^ (n + 1) = u / 256 ^ n % 256 * 256 ^ n + u % 256 ^ n := fun u => by
      rw [Nat.pow_succ, Nat.mod_mul, Nat.mul_comm (256 ^ n)]
      omega
    rw [h1 u, h1 v] at h
    have hp : 0 < 256 ^ n := Nat.pow_pos (by decide)
    have hu := Nat.mod_lt u hp
    have hv := Nat.mod_lt v hp
    by_cases hq : u / 256 ^ n % 256 = v / 256 ^ n % 256
    · have e : UInt8.ofNat (u / 256 ^ n) = UInt8.ofNat (v / 256 ^ n) := by
        apply UInt8.toNat_inj.1
        rw [UInt8.toNat_ofNat', UInt8.toNat_ofNat']; exact hq
      rw [e, cb_cons]
      apply ih
      rw [hq] at h
      omega
    · apply cb_lt
      rw [UInt8.lt_iff_toNat_lt, UInt8.toNat_ofNat', UInt8.toNat_ofNat']
      show u / 256 ^ n % 256 < v / 256 ^ n % 256
      apply Nat.lt_of_not_le
      intro hle
      have hlt : v / 256 ^ n % 256 + 1 ≤ u / 256 ^ n % 256 := by omega
      have := Nat.mul_le_mul_right (256 ^ n) hlt
      rw [Nat.add_mul] at this
      omega

/-- A text's bytes. -/
def escL : List UInt8 → List UInt8
  | [] => []
  | c :: s => if c = 0 then 0 :: 255 :: escL s else c :: escL s

def textB (s : List UInt8) : List UInt8 := escL s ++ [0, 1]

theorem escL_app (s t : List UInt8) : escL (s ++ t) = escL s ++ escL t := by
  induction s with
  | nil => rfl
  | cons c s ih =>
    show escL (c :: (s ++ t)) = escL (c :: s) ++ escL t
    simp only [escL, ih]
    split <;> rfl

theorem escL_len (s : List UInt8) : (escL s).length ≤ 2 * s.length := by
  induction s with
  | nil => exact Nat.le_refl _
  | cons c s ih =>
    simp only [escL]
    split <;> simp only [List.length_cons] <;> omega

/-- A value's bytes. -/
def kindB (k : Int) : UInt8 := UInt8.ofNat (k + 1).toNat
def bodyB (v : Vl) : List UInt8 := if v.k = 1 then be 8 (v.i + 9223372036854775808).toNat else if v.k = 2 then textB v.s else []
def valB (v : Vl) : List UInt8 := kindB v.k :: bodyB v
def encL : List Vl → List UInt8
  | [] => []
  | v :: l => valB v ++ encL l

theorem encL_app (a b : List Vl) : encL (a ++ b) = encL a ++ encL b := by
  induction a with
  | nil => rfl
  | cons v a ih => simp [encL, ih]

theorem valB_len {v : Vl} (h : okV v) : (valB v).length ≤ 43 := by
  unfold valB bodyB
  rcases h with ⟨h, -, -⟩ | ⟨h, -⟩ | ⟨h, -, h2⟩
  · simp [h]
  · simp [h, be_len]
  · have := escL_len v.s
    simp only [h, List.length_cons, textB, show ¬ (2 : Int) = 1 from by decide, if_false, if_true, List.length_append, List.length_nil]
    omega

theorem encL_len {l : List Vl} (h : ∀ v ∈ l, okV v) : (encL l).length ≤ 43 * l.length := by
  induction l with
  | nil => exact Nat.le_refl _
  | cons v l ih =>
    have h1 := valB_len (h v (by simp))
    have h2 := ih fun x hx => h x (by simp [hx])
    simp only [encL, List.length_append, List.length_cons]
    omega

def cmpI (a b : Int) : Int := if a < b then -1 else if b < a then 1 else 0

def cmpV (x y : Vl) : Int := if cmpI x.k y.k ≠ 0 then cmpI x.k y.k else if cmpI x.i y.i ≠ 0 then cmpI x.i y.i else compareBytes x.s y.s

def cmpVs : List Vl → List Vl → Int
  | [], [] => 0
  | [], _ :: _ => -1
  | _ :: _, [] => 1
  | x :: a, y :: b => if cmpV x y ≠ 0 then cmpV x y else cmpVs a b

theorem cmpI_eq {a b : Int} (h : cmpI a b = 0) : a = b := by
  unfold cmpI at h
  split at h
  · cases h
  · split at h
    · cases h
    · omega

theorem cmpI_self (a : Int) : cmpI a a = 0 := by unfold cmpI; simp

theorem cmpV_eq {x y : Vl} (h : cmpV x y = 0) : x = y := by
  unfold cmpV at h
  split at h
  · rename_i h1; exact absurd h h1
  · rename_i h1
    split at h
    · rename_i h2; exact absurd h h2
    · rename_i h2
      obtain ⟨k, i, s⟩ := x
      obtain ⟨k', i', s'⟩ := y
      simp only [Classical.not_not] at h1 h2
      have e1 : k = k' := cmpI_eq h1
      have e2 : i = i' := cmpI_eq h2
      have e3 : s = s' := cb_eq _ _ h
      rw [e1, e2, e3]

theorem cmpV_self (x : Vl) : cmpV x x = 0 := by
  unfold cmpV; simp [cmpI_self, cb_self]

theorem esc_cmp (s t : List UInt8) : ∀ x y, compareBytes s t ≠ 0 → compareBytes (textB s ++ x) (textB t ++ y) = compareBytes s t := by
  have z1 : (0 : UInt8) < 255 := by decide
  have z2 : (1 : UInt8) < 255 := by decide
  have pos : ∀ c : UInt8, c ≠ 0 → 0 < c := fun c hc => by
    rw [UInt8.lt_iff_toNat_lt]
    have : c.toNat ≠ 0 := fun e => hc (UInt8.toNat_inj.1 (by simpa using e))
    show 0 < c.toNat
    omega
  induction s generalizing t with
  | nil =>
    intro x y h
    cases t with
    | nil => exact absurd rfl h
    | cons d t =>
      show compareBytes (0 :: 1 :: x) _ = -1
      by_cases hd : d = 0
      · subst hd
        have e : textB (0 :: t) ++ y = 0 :: 255 :: (textB t ++ y) := by simp [textB, escL]
        rw [e, cb_cons, cb_lt z2]
      · have e : textB (d :: t) ++ y = d :: (textB t ++ y) := by simp [textB, escL, hd]
        rw [e, cb_lt (pos d hd)]
  | cons c s ih =>
    intro x y h
    cases t with
    | nil =>
      show compareBytes _ (0 :: 1 :: y) = 1
      by_cases hd : c = 0
      · subst hd
        have e : textB (0 :: s) ++ x = 0 :: 255 :: (textB s ++ x) := by simp [textB, escL]
        rw [e, cb_cons, cb_gt z2]
      · have e : textB (c :: s) ++ x = c :: (textB s ++ x) := by simp [textB, escL, hd]
        rw [e, cb_gt (pos c hd)]
    | cons d t =>
      have e : ∀ (c : UInt8) s (x : List UInt8), textB (c :: s) ++ x = c :: ((if c = 0 then [255] else []) ++ (textB s ++ x)) := fun c s x => by
        by_cases hc : c = 0
        · subst hc; simp [textB, escL]
        · simp [textB, escL, hc]
      rw [e, e]
      by_cases h1 : c < d
      · rw [cb_lt h1, cb_lt h1]
      · by_cases h2 : d < c
        · rw [cb_gt h2, cb_gt h2]
        · have e : c = d := UInt8.le_antisymm (UInt8.not_lt.1 h2) (UInt8.not_lt.1 h1)
          subst e
          rw [cb_cons] at h ⊢
          rw [cb_cons, cb_pre]
          exact ih t x y h

theorem cmpI_neg {a b : Int} (h : cmpI a b ≠ 0) : (a < b ∧ cmpI a b = -1) ∨ (b < a ∧ cmpI a b = 1) := by
  unfold cmpI at h ⊢
  by_cases h1 : a < b
  · exact .inl ⟨h1, by simp [h1]⟩
  · by_cases h2 : b < a
    · exact .inr ⟨h2, by simp [h1, h2]⟩
    · simp [h1, h2] at h

/-- THE BYTES OF TWO RIGHT VALUES THAT ARE NOT THE SAME ARE IN THEIR ORDER, whatever stands behind. -/
theorem val_cmp {v u : Vl} (hv : okV v) (hu : okV u) (iv : inV v) (iu : inV u) (h : cmpV v u ≠ 0) (x y : List UInt8) : compareBytes (valB v ++ x) (valB u ++ y) = cmpV v u := by
  have kin : ∀ w : Vl, okV w → (w.k = 0 ∨ w.k = 1 ∨ w.k = 2) := fun w hw => by rcases hw with ⟨h, -⟩ | ⟨h, -⟩ | ⟨h, -⟩ <;> simp [h]
  have kv := kin v hv
  have ku := kin u hu
  have kb : ∀ a b : Int, (a = 0 ∨ a = 1 ∨ a = 2) → (b = 0 ∨ b = 1 ∨ b = 2) → a < b → kindB a < kindB b := by
    intro a b ha hb hab
    rcases ha with rfl | rfl | rfl <;> rcases hb with rfl | rfl | rfl <;> first | (exfalso; omega) | decide
  unfold cmpV at h ⊢
  unfold valB
  by_cases h1 : cmpI v.k u.k ≠ 0
  · rw [if_pos h1]
    rcases cmpI_neg h1 with ⟨h2, h3⟩ | ⟨h2, h3⟩
    · rw [h3]; exact cb_lt (kb _ _ kv ku h2) _ _
    · rw [h3]; exact cb_gt (kb _ _ ku kv h2) _ _
  · rw [if_neg h1] at h ⊢
    have hk : v.k = u.k := cmpI_eq (Classical.not_not.1 h1)
    have ek : kindB v.k = kindB u.k := by rw [hk]
    rw [List.cons_append, List.cons_append, ek, cb_cons]
    rcases hu with ⟨a1, a2, a3⟩ | ⟨a1, a2⟩ | ⟨a1, a2, a3⟩
    · rcases hv with ⟨b1, b2, b3⟩ | ⟨b1, b2⟩ | ⟨b1, b2, b3⟩
      · exfalso; apply h; simp [a2, a3, b2, b3, cmpI_self, cb_self]
      · omega
      · omega
    · rcases hv with ⟨b1, b2, b3⟩ | ⟨b1, b2⟩ | ⟨b1, b2, b3⟩
      · omega
      · rw [a2, b2] at h ⊢
        rw [cb_self] at h ⊢
        have h4 : cmpI v.i u.i ≠ 0 := by
          intro e; rw [e] at h; simp at h
        rw [if_pos h4]
        unfold inV at iv iu
        have e1 : bodyB v = be 8 (v.i + 9223372036854775808).toNat := by simp [bodyB, b1]
        have e2 : bodyB u = be 8 (u.i + 9223372036854775808).toNat := by simp [bodyB, a1]
        rw [e1, e2]
        rcases cmpI_neg h4 with ⟨h2, h3⟩ | ⟨h2, h3⟩
        · rw [h3]
          apply be_cmp
          rw [Nat.mod_eq_of_lt (by omega), Nat.mod_eq_of_lt (by omega)]; omega
        · rw [h3, cb_swap, be_cmp]
          · rfl
          · rw [Nat.mod_eq_of_lt (by omega), Nat.mod_eq_of_lt (by omega)]; omega
      · omega
    · rcases hv with ⟨b1, b2, b3⟩ | ⟨b1, b2⟩ | ⟨b1, b2, b3⟩
      · omega
      · omega
      · rw [a2, b2] at h ⊢
        rw [cmpI_self] at h ⊢
        simp only [ne_eq, not_true_eq_false, if_false] at h ⊢
        have e1 : bodyB v = textB v.s := by simp [bodyB, b1]
        have e2 : bodyB u = textB u.s := by simp [bodyB, a1]
        rw [e1, e2]
        exact esc_cmp _ _ _ _ h

/-- THE BYTES OF LISTS ARE IN THE LISTS' ORDER. -/
theorem enc_cmp : ∀ (a b : List Vl), (∀ v ∈ a, okV v ∧ inV v) → (∀ v ∈ b, okV v ∧ inV v) → compareBytes (encL a) (encL b) = cmpVs a b
  | [], [], _, _ => rfl
  | [], y :: b, _, _ => by simp [encL, valB, compareBytes, cmpVs]
  | x :: a, [], _, _ => by simp [encL, valB, compareBytes, cmpVs]
  | x :: a, y :: b, ha, hb => by
    obtain ⟨a1, a2⟩ := ha x (by simp)
    obtain ⟨b1, b2⟩ := hb y (by simp)
    unfold cmpVs encL
    by_cases h : cmpV x y ≠ 0
    · rw [if_pos h, val_cmp a1 b1 a2 b2 h]
    · rw [if_neg h]
      have e := cmpV_eq (Classical.not_not.1 h)
      subst e
      rw [cb_pre]
      exact enc_cmp a b (fun v hv => ha v (by simp [hv])) (fun v hv => hb v (by simp [hv]))

end Go.Proofs.YtpdmocdfnakggaaDoor

namespace Go.Proofs.YtpdmocdfnakggaaDoor
open Go.RowKit

/-- Bytes that are there lie at a plain address. -/
theorem Rd.at {w : World} {x : Value} {l : List UInt8} (h : Rd w x l) (hl : 0 < l.length) :
    ∃ b off c, x = .slice (some ⟨b, off, none⟩) l.length c ∧ l.length ≤ c ∧ c ≤ maxLen ∧ ∀ j (hj : j < l.length), w.cell? ⟨b, off + j, none⟩ = some (.int .u8 ((l[j]).toNat : Int)) := by
  obtain ⟨ao, c, rfl, h1, h2, h3, h4⟩ := h
  cases ao with
  | none => have := h3 rfl; omega
  | some a =>
    obtain ⟨b, off, spot⟩ := a
    have h0 := h4 _ rfl 0 (bv l[0]) (by simp [List.getElem?_eq_getElem hl])
    have hspot : spot = none := by simpa [Addr.add] using World.cell?_spot h0
    subst hspot
    refine ⟨b, off, c, rfl, h1, h2, fun j hj => ?_⟩
    have hj' := h4 _ rfl j (bv l[j]) (by simp [List.getElem?_eq_getElem hj])
    rw [WideShapes.add_plain] at hj'
    exact hj'

theorem Rd.size {w : World} {ao : Option Addr} {n c : Nat} {l : List UInt8} (h : Rd w (.slice ao n c) l) : n = l.length := by
  obtain ⟨_, _, h1, _⟩ := h
  simp only [Value.slice.injEq] at h1
  exact h1.2.1

/-- A value's cells, and the value. -/
def cellsV (v : Vl) : List Value := [.int .i64 v.k, .int .i64 v.i, .string ⟨v.s.toArray⟩]
def sv (v : Vl) : Value := .agg #[.int .i64 v.k, .int .i64 v.i, .string ⟨v.s.toArray⟩]
def cellsL (l : List Vl) : List Value := l.flatMap cellsV

theorem cellsL_len (l : List Vl) : (cellsL l).length = l.length * 3 := by
  induction l with
  | nil => rfl
  | cons v l ih =>
    have e : cellsL (v :: l) = cellsV v ++ cellsL l := rfl
    rw [e, List.length_append, ih, List.length_cons]
    show 3 + l.length * 3 = _
    omega

theorem cellsL_app (a b : List Vl) : cellsL (a ++ b) = cellsL a ++ cellsL b := by unfold cellsL; rw [List.flatMap_append]

theorem cellsL_one (l : List Vl) : ∀ u ∈ cellsL l, u.oneCell' = true := by
  intro u hu
  obtain ⟨v, _, hv⟩ := List.mem_flatMap.1 hu
  simp only [cellsV, List.mem_cons, List.not_mem_nil, or_false] at hv
  rcases hv with rfl | rfl | rfl <;> rfl

theorem cellsL_at {l : List Vl} : ∀ {j : Nat} {v : Vl}, l[j]? = some v → (cellsL l)[j * 3]? = some (.int .i64 v.k) ∧ (cellsL l)[j * 3 + 1]? = some (.int .i64 v.i) ∧ (cellsL l)[j * 3 + 2]? = some (.string ⟨v.s.toArray⟩) := by
  induction l with
  | nil => intro j v h; simp at h
  | cons u l ih =>
    intro j v h
    have e : cellsL (u :: l) = .int .i64 u.k :: .int .i64 u.i :: .string ⟨u.s.toArray⟩ :: cellsL l := rfl
    rw [e]
    cases j with
    | zero => simp at h; subst h; exact ⟨rfl, rfl, rfl⟩
    | succ j =>
      have h' : l[j]? = some v := by simpa using h
      have := ih h'
      have e1 : (j + 1) * 3 = j * 3 + 3 := by omega
      rw [e1]
      exact this

/-- The slice x reads as the values l. -/
def Vs (w : World) (x : Value) (l : List Vl) : Prop :=
  ∃ (ao : Option Addr) (c : Nat), x = .slice ao l.length c ∧ l.length ≤ c ∧ c ≤ maxLen ∧ (ao = none → c = 0) ∧
    ∀ a, ao = some a → ∀ (j : Nat) u, (cellsL l)[j]? = some u → w.cell? (a.add j) = some u

theorem Vs.nil (w : World) : Vs w (.slice none 0 0) [] := ⟨none, 0, rfl, by simp, by simp, fun _ => rfl, fun a h => by cases h⟩

theorem Vs.kept {w w' : World} {x : Value} {l : List Vl} {row : Option Nat} (h : Vs w x l) (hg : w.grownBy w' row) (hne : blk x = none ∨ blk x ≠ row) : Vs w' x l := by
  obtain ⟨ao, c, rfl, h1, h2, h3, h4⟩ := h
  refine ⟨ao, c, rfl, h1, h2, h3, fun a ha j u hu => ?_⟩
  subst ha
  have h6 := h4 a rfl j u hu
  have hlt := World.block_lt_of_cell? w _ h6
  rw [World.cell?_of_block (w := w) (a := a.add j) (hg.block _ hlt (by rw [add_block]; simpa [blk] using hne))]
  exact h6

theorem Vs.old {w w' : World} {x : Value} {l : List Vl} (h : Vs w x l) (hb : Below w.heap.size w w') : Vs w' x l := by
  obtain ⟨ao, c, rfl, h1, h2, h3, h4⟩ := h
  refine ⟨ao, c, rfl, h1, h2, h3, fun a ha j u hu => ?_⟩
  subst ha
  have h6 := h4 a rfl j u hu
  rw [hb.cell (p := a.add j) (World.block_lt_of_cell? w _ h6)]
  exact h6

theorem Vs.len {P : Program} {w : World} {x : Value} {l : List Vl} (h : Vs w x l) (t e ty : TypeId) (ht : P.underlying t = some (.slice e)) :
    ∀ W, (Builtin.len_ #[t] ty #[x]).run P W = .ok (goInt l.length) W := by
  obtain ⟨ao, c, rfl, h1, h2, h3, h4⟩ := h
  have ht' : P.underlying t = some (.slice (P.elem t)) := by simp [Program.elem, ht]
  exact fun W => run_len_slice W t ty _ _ _ ht'

theorem Vs.form {w : World} {x : Value} {l : List Vl} (h : Vs w x l) : ∃ ao c, x = .slice ao l.length c ∧ l.length ≤ maxLen := by
  obtain ⟨ao, c, rfl, h1, h2, h3, h4⟩ := h
  exact ⟨ao, c, rfl, Nat.le_trans h1 h2⟩

/-- Values that are there lie at a plain address. -/
theorem Vs.at {w : World} {x : Value} {l : List Vl} (h : Vs w x l) (hl : 0 < l.length) :
    ∃ b off c, x = .slice (some ⟨b, off, none⟩) l.length c ∧ l.length ≤ c ∧ c ≤ maxLen ∧ ∀ j v, l[j]? = some v →
      w.cell? ⟨b, off + j * 3, none⟩ = some (.int .i64 v.k) ∧ w.cell? ⟨b, off + j * 3 + 1, none⟩ = some (.int .i64 v.i) ∧ w.cell? ⟨b, off + j * 3 + 2, none⟩ = some (.string ⟨v.s.toArray⟩) := by
  obtain ⟨ao, c, rfl, h1, h2, h3, h4⟩ := h
  cases ao with
  | none => have := h3 rfl; omega
  | some a =>
    obtain ⟨b, off, spot⟩ := a
    have h0 := h4 _ rfl (0 * 3) _ (cellsL_at (List.getElem?_eq_getElem hl)).1
    have hspot : spot = none := by simpa [Addr.add] using World.cell?_spot h0
    subst hspot
    refine ⟨b, off, c, rfl, h1, h2, fun j v hj => ?_⟩
    obtain ⟨q1, q2, q3⟩ := cellsL_at hj
    have p1 := h4 _ rfl _ _ q1
    have p2 := h4 _ rfl _ _ q2
    have p3 := h4 _ rfl _ _ q3
    rw [WideShapes.add_plain] at p1 p2 p3
    exact ⟨p1, p2, p3⟩

/-- One value's cells. -/
theorem Vs.get {w : World} {ao : Option Addr} {n c : Nat} {l : List Vl} (h : Vs w (.slice ao n c) l) {k : Nat} {v : Vl} (hk : l[k]? = some v) :
    ∃ b off, ao = some ⟨b, off, none⟩ ∧ w.cell? ⟨b, off + k * 3, none⟩ = some (.int .i64 v.k) ∧ w.cell? ⟨b, off + k * 3 + 1, none⟩ = some (.int .i64 v.i) ∧ w.cell? ⟨b, off + k * 3 + 2, none⟩ = some (.string ⟨v.s.toArray⟩) := by
  have hl : 0 < l.length := by have := (List.getElem?_eq_some_iff.1 hk).1; omega
  obtain ⟨b, off, c', he, -, -, hc⟩ := h.at hl
  simp only [Value.slice.injEq] at he
  exact ⟨b, off, he.1, hc k v hk⟩

theorem Vs.size {w : World} {ao : Option Addr} {n c : Nat} {l : List Vl} (h : Vs w (.slice ao n c) l) : n = l.length ∧ l.length ≤ c ∧ c ≤ maxLen := by
  obtain ⟨_, _, h1, h2, h3, _⟩ := h
  simp only [Value.slice.injEq] at h1
  obtain ⟨-, rfl, rfl⟩ := h1
  exact ⟨rfl, h2, h3⟩

/-- What the call itself made. -/
theorem Vs.own {w : World} {base : Nat} {e : TypeId} {x : Value} {l : List Vl} (h : w.ownsRow base e 3 x l.length (cellsL l)) : Vs w x l := by
  obtain ⟨h1, h2⟩ := h
  rcases h2 with ⟨rfl, hn⟩ | ⟨g, cap, cur, rfl, hb, hg, hn, hc, hs, ht⟩
  · obtain rfl : l = [] := List.eq_nil_of_length_eq_zero hn
    exact Vs.nil w
  · refine ⟨some ⟨g, 0, none⟩, cap, rfl, hn, hc, (fun h => by cases h), fun a ha => ?_⟩
    cases ha
    intro j u hu
    rw [WideShapes.add_plain, Nat.zero_add, cell_of_row w g j cur e (0, 0) hg]
    rw [← ht, List.getElem?_take] at hu
    split at hu
    · simpa using hu
    · cases hu

theorem Vs.take {w : World} {ao : Option Addr} {m c : Nat} {l : List Vl} (h : Vs w (.slice ao m c) l) (n : Nat) (hn : n ≤ l.length) : Vs w (.slice ao n c) (l.take n) := by
  obtain ⟨ao', c', he, h1, h2, h3, h4⟩ := h
  simp only [Value.slice.injEq] at he
  obtain ⟨rfl, rfl, rfl⟩ := he
  have hlen : (l.take n).length = n := by rw [List.length_take]; omega
  refine ⟨ao, c, by rw [hlen], by rw [hlen]; omega, h2, h3, fun a ha j u hu => h4 a ha j u ?_⟩
  have e : cellsL l = cellsL (l.take n) ++ cellsL (l.drop n) := by rw [← cellsL_app, List.take_append_drop]
  rw [e, List.getElem?_append_left]
  · exact hu
  · exact (List.getElem?_eq_some_iff.1 hu).1

/-- 'x[:n]'. -/
theorem Vs.head {P : Program} {w : World} {x : Value} {l : List Vl} (h : Vs w x l) (t e : TypeId) (ht : P.underlying t = some (.slice e)) (hinfo : (P.info? e).map (fun i => i.size) = some 3) (n : Nat) (hn : n ≤ l.length) :
    ∃ (ao : Option Addr) (c : Nat), (∀ k W, (Instr.slice t x none (some (.int k (n : Int))) none).run P W = .ok (.slice ao n c) W) ∧ Vs w (.slice ao n c) (l.take n) ∧ (∀ k, blk (.slice ao n c) = some k → blk x = some k) := by
  obtain ⟨i0, hi, hz1⟩ : ∃ i, P.info? e = some i ∧ i.size = 3 := by
    cases hq : P.info? e with
    | none => rw [hq] at hinfo; cases hinfo
    | some i => rw [hq] at hinfo; exact ⟨i, rfl, by simpa using hinfo⟩
  have h' := h
  obtain ⟨ao, c, rfl, h1, h2, h3, h4⟩ := h
  have ht' : P.underlying t = some (.slice (P.elem t)) := by simp [Program.elem, ht]
  have he : P.elem t = e := by simp [Program.elem, ht]
  have hs : ∀ W, (sizeOf e).run P W = .ok 3 W := fun W => by simp [sizeOf, typeInfo, hi, hz1]
  have hsame : (if c = 0 then ao else ao.map (·.add (0 * 3))) = ao := by
    split
    · rfl
    · cases ao <;> simp [Addr.add]
  refine ⟨ao, c, fun k W => ?_, h'.take n hn, fun k hk => by cases ao with | none => simp [blk] at hk | some a => simpa [blk] using hk⟩
  rw [run_slice_h W t _ _ _ ht' k _ (by omega) (by omega), he, hs]
  simp only [Result.andThen, sliced]
  rw [hsame]
  simp

/-- 'append(v, x...)', v the call's own, x whatever. -/
theorem wp_vapp {P : Program} {w : World} {ops : Array Oper} {rest : List Oper} {o : Oper} {a : Act} {Q : Exit → Act → World → Prop} (hgd : o.guard = none) (s x : Operand) (t : TypeId)
    (ho : o.op = .call { callee := .builtin .append, args := #[s, x], argTypes := #[t, t] })
    (base : Nat) (e : TypeId) (ht : P.underlying t = some (.slice e)) (z : Value) (hinfo : (P.info? e).map (fun i => (i.zero, i.size, i.bytes)) = some (some z, 3, 32)) (hzs : z.cells.size = 3)
    (v : Value) (n : Nat) (xs : List Value) (hs : a.eval s = v) (hown : w.ownsRow base e 3 v n xs)
    (y : Value) (l : List Vl) (hx : a.eval x = y) (hr : Vs w y l) (hn : n + l.length ≤ 1000000) (hbase : base ≤ w.heap.size)
    (h : ∀ v' w', w'.ownsRow base e 3 v' (n + l.length) (xs ++ cellsL l) → w.grownBy w' v.ownBlock → wpList P ops Q rest (a.put o.dst v') w') : wpList P ops Q (o :: rest) a w := by
  obtain ⟨i0, hi, hz0, hz1, hz2⟩ : ∃ i, P.info? e = some i ∧ i.zero = some z ∧ i.size = 3 ∧ i.bytes = 32 := by
    cases hq : P.info? e with
    | none => rw [hq] at hinfo; cases hinfo
    | some i => rw [hq] at hinfo; simp at hinfo; exact ⟨i, rfl, hinfo⟩
  obtain ⟨ao, c, rfl, h1, h2, h3, h4⟩ := hr
  cases ao with
  | some ad =>
    exact wpList_append_own w hgd s x t ho base e i0 z 3 32 ht hi hz0 hz1 hz2 hzs (by decide) v n xs hs hown ad l.length c (cellsL l) hx (cellsL_len l) (h4 ad rfl) (cellsL_one l)
      (by unfold maxLen; omega) (by omega) hbase fun v' w' a1 a2 _ => h v' w' a1 a2
  | none =>
    have hc := h3 rfl
    obtain rfl : l = [] := List.eq_nil_of_length_eq_zero (by omega)
    subst hc
    exact wpList_append_own_none hgd s x t ho base e i0 3 ht hi v n xs hs hown hx (h v w (by simpa [cellsL] using hown) (World.grownBy.refl _ _))

theorem alloc_old {w : World} {o o' : Obj} {k : Nat} (h : w.heap[k]? = some o') : (w.alloc o).heap[k]? = some o' := by
  rw [Below.heap_alloc _ _ _ (lt_of_block h)]; exact h

/-- What a call that makes at most memory of its own gives. -/
def Ans (w : World) (v : Value) (e : Ending) (w' : World) : Prop := e = .returned v ∧ Below w.heap.size w w'

end Go.Proofs.YtpdmocdfnakggaaDoor

set_option linter.unusedVariables false

set_option linter.unusedVariables false
set_option maxRecDepth 100000

set_option linter.unusedVariables false
set_option maxRecDepth 100000


set_option linter.unusedVariables false

set_option linter.unusedVariables false
set_option maxRecDepth 100000
namespace Go.Proofs.YtpdmocdfnakggaaDoor
open Go.RowKit

theorem info_u8 : (Tryd.prog.info? 5).map (fun i => (i.zero, i.size, i.bytes)) = some (some (.int .u8 0), 1, 1) := by kernel_rfl

end Go.Proofs.YtpdmocdfnakggaaDoor

set_option linter.unusedVariables false
set_option maxRecDepth 100000

set_option linter.unusedVariables false
set_option maxRecDepth 100000

set_option linter.unusedVariables false

set_option linter.unusedVariables false
set_option maxRecDepth 100000

set_option linter.unusedVariables false
set_option maxRecDepth 100000

set_option linter.unusedVariables false
set_option maxRecDepth 100000

set_option linter.unusedVariables false
set_option maxRecDepth 100000

set_option linter.unusedVariables false
namespace Go.Proofs.YtpdmocdfnakggaaDoor
open Go.RowKit Go.Deep
attribute [local go_sem] Oper.semAt_some

variable {F : Fence} {n : Nat} {P : Program}

end Go.Proofs.YtpdmocdfnakggaaDoor

set_option linter.unusedVariables false
namespace Go.Proofs.YtpdmocdfnakggaaDoor
open Go.RowKit Go.Deep
attribute [local go_sem] Oper.semAt_some

end Go.Proofs.YtpdmocdfnakggaaDoor

set_option linter.unusedVariables false

set_option linter.unusedVariables false
set_option maxRecDepth 100000
namespace Go.Proofs.YtpdmocdfnakggaaDoor
open Go.RowKit Go.Deep
attribute [local go_sem] Oper.semAt_some

end Go.Proofs.YtpdmocdfnakggaaDoor

set_option linter.unusedVariables false

set_option linter.unusedVariables false
set_option maxRecDepth 100000

set_option linter.unusedVariables false
set_option maxRecDepth 100000

set_option linter.unusedVariables false
set_option maxRecDepth 100000

set_option linter.unusedVariables false
set_option maxRecDepth 100000

set_option linter.unusedVariables false
set_option maxRecDepth 100000

set_option linter.unusedVariables false
set_option maxRecDepth 100000
namespace Go.Proofs.YtpdmocdfnakggaaDoor
open Go.RowKit

/-- A record, with the slice that holds it. -/
structure Rc where
  a : Option Addr
  c : Nat
  b : List UInt8
def rcv (r : Rc) : Value := .slice r.a r.b.length r.c
end Go.Proofs.YtpdmocdfnakggaaDoor

set_option linter.unusedVariables false
set_option maxRecDepth 100000

set_option linter.unusedVariables false
set_option maxRecDepth 100000

set_option linter.unusedVariables false
set_option maxRecDepth 100000

set_option linter.unusedVariables false
set_option maxRecDepth 100000

set_option linter.unusedVariables false
set_option linter.unusedSimpArgs false
set_option maxRecDepth 100000

set_option linter.unusedVariables false
set_option linter.unusedSimpArgs false
set_option maxRecDepth 100000

set_option linter.unusedVariables false
set_option linter.unusedSimpArgs false
set_option maxRecDepth 100000

set_option linter.unusedVariables false
set_option linter.unusedSimpArgs false
set_option maxRecDepth 100000
namespace Go.Proofs.YtpdmocdfnakggaaDoor
open Go.RowKit Go.ChangeShapes Go.WideShapes Go.ChangeAt Go.Deep

/-- The slice x reads as a list of bytes. -/
def Bss (w : World) (x : Value) (R : List Rc) : Prop := Rws 1 w x (R.map fun r => [rcv r]) ∧ ∀ r ∈ R, Rd w (rcv r) r.b
theorem Bss.old {w w' : World} {x : Value} {R : List Rc} (h : Bss w x R) (hb : Below w.heap.size w w') : Bss w' x R := ⟨h.1.old hb, fun r hr => (h.2 r hr).old hb⟩
theorem Bss.form {w : World} {x : Value} {R : List Rc} (h : Bss w x R) : ∃ ao c, x = .slice ao R.length c ∧ R.length ≤ c ∧ c ≤ maxLen := by
  obtain ⟨ao, c, e, h1, h2⟩ := h.1.form
  rw [List.length_map] at e h1
  exact ⟨ao, c, e, h1, h2⟩
theorem Bss.get {w : World} {ao : Option Addr} {n c : Nat} {R : List Rc} (h : Bss w (.slice ao n c) R) {k : Nat} {r : Rc} (hk : R[k]? = some r) : ∃ b off, ao = some ⟨b, off, none⟩ ∧ w.cell? ⟨b, off + k, none⟩ = some (rcv r) ∧ Rd w (rcv r) r.b := by
  obtain ⟨b, off, e, hc⟩ := h.1.get (by decide) (k := k) (r := [rcv r]) (by rw [List.getElem?_map, hk]; rfl)
  have := hc 0 (rcv r) rfl
  rw [Nat.mul_one, Nat.add_zero] at this
  exact ⟨b, off, e, this, h.2 r (List.mem_of_getElem? hk)⟩
theorem flat_one (R : List Rc) : (R.map fun r => [rcv r]).flatten = R.map rcv := by
  induction R with
  | nil => rfl
  | cons r R ih => simp only [List.map_cons, List.flatten_cons, ih]; rfl
end Go.Proofs.YtpdmocdfnakggaaDoor

set_option linter.unusedVariables false
set_option linter.unusedSimpArgs false
namespace Go.Proofs.YtpdmocdfnakggaaDoor
open Go.RowKit Go.Deep

theorem ccInfo {P : Program} {e : TypeId} {z : Value} {size bytes : Nat} (hinfo : (P.info? e).map (fun i => (i.zero, i.size, i.bytes)) = some (some z, size, bytes)) : ∃ i, P.info? e = some i ∧ i.zero = some z ∧ i.size = size ∧ i.bytes = bytes := by
  cases hq : P.info? e with
  | none => rw [hq] at hinfo; cases hinfo
  | some i => rw [hq] at hinfo; simp at hinfo; exact ⟨i, rfl, hinfo⟩

/-- 'x[:k]', k within the room. -/
theorem slice_to {P : Program} (t e : TypeId) (ht : P.underlying t = some (.slice e)) {i : TypeInfo} (hi : P.info? e = some i) (ao : Option Addr) (n c k : Nat) (hk : k ≤ c) (kd : IntKind) :
    ∀ W, (Instr.slice t (.slice ao n c) none (some (.int kd (k : Int))) none).run P W = .ok (.slice ao k c) W := fun W => by
  have ht' : P.underlying t = some (.slice (P.elem t)) := by simp [Program.elem, ht]
  have he : P.elem t = e := by simp [Program.elem, ht]
  have hs : ∀ W, (sizeOf e).run P W = .ok i.size W := fun W => by simp [sizeOf, typeInfo, hi]
  have hsame : (if c = 0 then ao else ao.map (·.add (0 * i.size))) = ao := by
    split
    · rfl
    · cases ao <;> simp [Addr.add]
  rw [run_slice_h W t _ _ _ ht' kd _ (by omega) (by omega), he, hs]
  simp only [Result.andThen, sliced]
  rw [hsame]
  simp

theorem zero_len (z : Array Value) (n : Nat) : (Builtin.zeroCells z n).size = n * z.size := by simp [Builtin.zeroCells]

/-- A row that append of a made one lays: nothing of it is used. -/
theorem own_zeros {w : World} {e : TypeId} {size : Nat} {cs : Array Value} {cap : Nat} (hs : cs.size = cap * size) (hc : cap ≤ maxLen) : (w.drew.alloc (.cells cs e)).ownsRow w.heap.size e size (.slice (some ⟨w.heap.size, 0, none⟩) 0 cap) 0 [] := by
  refine ⟨by simp, .inr ⟨w.heap.size, cap, cs, rfl, Nat.le_refl _, ?_, Nat.zero_le _, hc, hs, by simp⟩⟩
  exact heap_alloc_new w.drew _

/-- What Grow of nil gives: room. -/
def Room (e : TypeId) (size : Nat) (w : World) (x : Ending) (w' : World) : Prop := ∃ v, x = .returned v ∧ w'.ownsRow w.heap.size e size v 0 [] ∧ Below w.heap.size w w'

set_option maxHeartbeats 4000000 in
set_option maxRecDepth 100000 in
theorem growB_any (n : Nat) (w : World) (hn : n ≤ 140737488355328) : Calls Tryd.prog 71 #[.slice none 0 0, .int .i64 (n : Int)] w (Room 5 1 w) := by
  obtain ⟨i0, hi, hz0, hz1, hz2⟩ := ccInfo (P := Tryd.prog) info_u8
  by_cases h0 : n = 0
  · subst h0
    go_enter Tryd.func71, Tryd.ntmps71
    go_wp2_with fail
    go_ret
    exact ⟨_, rfl, World.ownsRow_nil _ _ _ _, Below.refl _ _⟩
  · have hs1 := slice_to (P := Tryd.prog) 32 5 Tryd.underlying32 hi none 0 0 0 (Nat.le_refl _) .i64
    have happ := Lib.run_append_nil_zeros (P := Tryd.prog) w 32 3 32 5 i0 _ .i64 .i64 Tryd.underlying32 Tryd.underlying3 hi hz0 n (by omega) (by rw [hz1]; decide) (by omega) (by rw [hz2]; omega)
    have hcap : grownCap w n 0 5 ≤ maxLen := grownCap_le_maxLen w n 0 _ (by unfold maxLen; omega)
    have hcg := grownCap_ge w n 0 5
    have hs2 := slice_to (P := Tryd.prog) 32 5 Tryd.underlying32 hi (some ⟨w.heap.size, 0, none⟩) n (grownCap w n 0 5) 0 (Nat.zero_le _) .i64
    have hsz : (Builtin.zeroCells (Value.int .u8 0).cells n ++ Builtin.zeroCells (Value.int .u8 0).cells (grownCap w n 0 5 - n)).size = grownCap w n 0 5 * 1 := by
      rw [Array.size_append, zero_len, zero_len]
      show n * 1 + (grownCap w n 0 5 - n) * 1 = _
      omega
    have HOWN := hid (own_zeros (w := w) (e := 5) hsz hcap)
    have HB : Hid (Below w.heap.size w (w.drew.alloc (.cells (Builtin.zeroCells (Value.int .u8 0).cells n ++ Builtin.zeroCells (Value.int .u8 0).cells (grownCap w n 0 5 - n)) 5))) := (Below.drew (Below.refl _ w)).alloc (Nat.le_refl _) _
    generalize Builtin.zeroCells (Value.int .u8 0).cells n ++ Builtin.zeroCells (Value.int .u8 0).cells (grownCap w n 0 5 - n) = cs at *
    clear hsz hi hz0 hz1 hz2
    have hpos : (0 : Int) < (n : Int) := by omega
    go_enter Tryd.func71, Tryd.ntmps71
    go_wp2_with (at_builtin; refine Lib.wpList_append_run _ rfl _ _ _ _ rfl _ _ rfl rfl _ _ happ ?_)
    go_ret
    exact ⟨_, rfl, HOWN.out, HB.out⟩

/-- What stands in the first k lists, one behind the other. -/
def ccB (R : List Rc) (k : Nat) : List UInt8 := (R.take k).flatMap (·.b)
theorem ccB_succ {R : List Rc} {k : Nat} {r : Rc} (h : R[k]? = some r) : ccB R (k + 1) = ccB R k ++ r.b := by
  unfold ccB
  rw [List.take_add_one, h]
  simp
theorem ccB_all (R : List Rc) : ccB R R.length = R.flatMap (·.b) := by unfold ccB; rw [List.take_length]
theorem ccB_le (R : List Rc) (k : Nat) : (ccB R k).length ≤ (ccB R R.length).length := by
  have : ccB R R.length = ccB R k ++ (R.drop k).flatMap (·.b) := by
    unfold ccB
    rw [List.take_length, ← List.flatMap_append, List.take_append_drop]
  rw [this, List.length_append]; omega

set_option maxHeartbeats 8000000 in
set_option maxRecDepth 100000 in
theorem concat_any (ao : Option Addr) (n c : Nat) (R : List Rc) (w : World) (hn : n = R.length) (hc : Bss w (.slice ao n c) R) (hl : (ccB R n).length ≤ 140737488355328) (hn2 : n ≤ 100000) :
    Calls Tryd.prog 57 #[.slice ao n c] w (Gives 5 w (R.flatMap (·.b))) := by
  have hnc : n ≤ c := by
    obtain ⟨_, _, e, q1, q2⟩ := hc.form
    cases e
    exact q1
  have hlx := fun W => run_len_slice (P := Tryd.prog) W 124 3 ao n c Tryd.underlying124
  have HC := hid hc
  have HN := hid hn
  have HALL : Hid (R.flatMap (·.b) = ccB R n) := by show _ = _; rw [hn, ccB_all]
  have HLE : Hid (∀ k, (ccB R k).length ≤ (ccB R n).length) := fun k => by rw [hn]; exact ccB_le R k
  rw [HALL.out]
  clear hc hn
  go_enter Tryd.func57, Tryd.ntmps57
  go_wp2_with fail
  go_loopw [3, 11] (fun s i wr => ∃ k : Nat, k ≤ n ∧ i = .int .i64 k ∧ s = .int .i64 ((ccB R k).length : Int) ∧ Hid (Below w.heap.size w wr)) (fun _ i _ => n - (intOf i).toNat)
  case atStart => exact ⟨0, by omega, rfl, rfl, Below.refl _ _⟩
  case round =>
    obtain ⟨k, hk, rfl, rfl, HW⟩ := hrel
    by_cases hlt : k < n
    · have hki : (k : Int) < (n : Int) := by omega
      have hz : IntKind.i64.wrap ((k : Int) + 1) = (k : Int) + 1 := by rw [IntKind.wrap_i64]; omega
      have hv := List.getElem?_eq_getElem (l := R) (i := k) (by have := HN.out; omega)
      generalize R[k]'_ = r at hv
      obtain ⟨b, off, rfl, d1, d2⟩ := (HC.out.old HW.out).get hv
      unfold rcv at d1
      have hlr := fun W => run_len_slice (P := Tryd.prog) W 32 3 r.a r.b.length r.c Tryd.underlying32
      have hcs := ccB_succ hv
      have hle := HLE.out (k + 1)
      obtain ⟨s0, hs0⟩ : ∃ s0, s0 = (ccB R k).length := ⟨_, rfl⟩
      obtain ⟨s1, hs1⟩ : ∃ s1, s1 = (ccB R (k + 1)).length := ⟨_, rfl⟩
      have hsum : s1 = s0 + r.b.length := by rw [hs1, hs0, hcs, List.length_append]
      rw [← hs1] at hle
      rw [← hs0]
      have hw : IntKind.i64.wrap ((s0 : Int) + (r.b.length : Int)) = (s1 : Int) := by rw [IntKind.wrap_i64]; omega
      have hneg : ¬ ((s1 : Int) < 0) := by omega
      have HS1 := hid hs1
      have HSUM : Hid ((s0 : Int) + (r.b.length : Int) = (s1 : Int)) := by show _ = _; omega
      have hb1 : s0 ≤ 140737488355328 := by omega
      have hb2 : r.b.length ≤ 140737488355328 := by omega
      have hneg2 : ¬ ((s0 : Int) + (r.b.length : Int) < 0) := by omega
      clear d2 hv hcs hs0 hs1 hsum
      go_wp2_with fail
      go_roundw
      case rel => exact ⟨k + 1, by omega, by go_num, by rw [← HS1.out, ← HSUM.out], HW⟩
      case measure => first | (simp [intOf]; done) | (simp [intOf]; omega)
    · obtain rfl : k = n := by omega
      have hki : ¬ ((k : Int) < (k : Int)) := by omega
      have CG := hid (growB_any (ccB R k).length wr hl)
      go_wp2_with (first | (go_at_call 71; refine CG.out.mono ?_))
      rintro e w1 ⟨v, rfl, ho, hb⟩
      have HO1 := hid (ownsRow_base ho HW.out.size)
      have HB1 := hid (HW.out.trans (hb.mono HW.out.size))
      clear ho hb CG HW
      go_wp2_with fail
      go_loopw [6, 27] (fun z i wx => ∃ q : Nat, q ≤ k ∧ i = .int .i64 q ∧ Hid (wx.ownsRow w.heap.size 5 1 z (ccB R q).length ((ccB R q).map bv)) ∧ Hid (Below w.heap.size w wx)) (fun _ i _ => k - (intOf i).toNat)
      case atStart => exact ⟨0, by omega, rfl, HO1, HB1⟩
      case round =>
        obtain ⟨q, hq, rfl, HO, HB⟩ := hrel
        by_cases hlq : q < k
        · have hqi : (q : Int) < (k : Int) := by omega
          have hz : IntKind.i64.wrap ((q : Int) + 1) = (q : Int) + 1 := by rw [IntKind.wrap_i64]; omega
          have hv := List.getElem?_eq_getElem (l := R) (i := q) (by have := HN.out; omega)
          generalize R[q]'_ = r at hv
          obtain ⟨b, off, rfl, d1, d2⟩ := (HC.out.old HB.out).get hv
          unfold rcv at d1
          have HCS := hid (ccB_succ hv)
          have hle := HLE.out (q + 1)
          rw [HCS.out, List.length_append] at hle
          have HY : Hid (Rd wr (.slice r.a r.b.length r.c) r.b) := d2
          clear d2 hv
          go_wp2_with (first
            | (at_builtin; refine wp_app rfl _ _ 32 rfl w.heap.size 5 Tryd.underlying32 (by kernel_rfl) _ _ _ rfl HO.out _ r.b rfl HY.out ?c1 ?c2 ?_))
          case c1 => omega
          case c2 => exact HB.out.size
          intro x4 w4 o4 g4
          have HO4 : Hid (w4.ownsRow w.heap.size 5 1 x4 (ccB R (q + 1)).length ((ccB R (q + 1)).map bv)) := by
            show World.ownsRow _ _ _ _ _ _ _
            rw [HCS.out, List.length_append, List.map_append]
            exact o4
          have HB4 : Hid (Below w.heap.size w w4) := HB.out.grown g4 HB.out.size (fun j hj => (HO.out.lt j hj).1)
          clear o4 g4
          go_wp2_with fail
          go_roundw
          case rel => exact ⟨q + 1, by omega, by go_num, HO4, HB4⟩
          case measure => first | (simp [intOf]; done) | (simp [intOf]; omega)
        · obtain rfl : q = k := by omega
          have hqi : ¬ ((q : Int) < (q : Int)) := by omega
          go_wp2_with fail
          go_ret
          exact ⟨_, rfl, HO.out, HB.out⟩
end Go.Proofs.YtpdmocdfnakggaaDoor

set_option linter.unusedVariables false
set_option linter.unusedSimpArgs false
set_option maxRecDepth 100000
namespace Go.Proofs.YtpdmocdfnakggaaDoor
open Go.RowKit Go.Deep

/-- A literal of slices, just made. -/
theorem bss_lit {w : World} (R : List Rc) (hm : R.length ≤ 1000) (hR : ∀ r ∈ R, Rd w (rcv r) r.b) : Bss (w.alloc (.cells (R.map rcv).toArray 32)) (.slice (some ⟨w.heap.size, 0, none⟩) R.length R.length) R := by
  have hb : Below w.heap.size w (w.alloc (.cells (R.map rcv).toArray 32)) := (Below.refl _ _).alloc (Nat.le_refl _) _
  refine ⟨⟨some ⟨w.heap.size, 0, none⟩, R.length, by rw [List.length_map], by rw [List.length_map]; exact Nat.le_refl _, by unfold maxLen; omega, (fun h => by cases h), fun r hr => ?_, fun a ha j u hu => ?_⟩, fun r hr => (hR r hr).old hb⟩
  · obtain ⟨q, -, rfl⟩ := List.mem_map.1 hr
    refine ⟨rfl, fun u hu => ?_⟩
    obtain rfl := List.mem_singleton.1 hu
    rfl
  · cases ha
    rw [flat_one] at hu
    have hh := heap_alloc_new w (.cells (R.map rcv).toArray 32)
    rw [show Addr.add ⟨w.heap.size, 0, none⟩ j = ⟨w.heap.size, j, none⟩ from by simp [Addr.add]; omega]
    unfold World.cell?
    rw [hh]
    show ((R.map rcv).toArray)[j]? = _
    rw [List.getElem?_toArray]
    exact hu

end Go.Proofs.YtpdmocdfnakggaaDoor

namespace Go.Proofs.YtpdmocdfnakggaaDoor
open Go.RowKit

theorem str_nil (s : List UInt8) : ((⟨s.toArray⟩ : ByteArray).toList == (⟨#[]⟩ : ByteArray).toList) = decide (s = []) := by
  rw [ByteArray.toList_eq, ByteArray.toList_eq]
  cases s <;> rfl

theorem str_len (s : List UInt8) : (⟨s.toArray⟩ : ByteArray).size = s.length := rfl

theorem okV_dec (k i : Int) (s : List UInt8) : decide (okV ⟨k, i, s⟩) = if k = 0 then decide (i = 0) && decide (s = []) else if k = 1 then decide (s = []) else if k = 2 then decide (i = 0) && decide (s.length ≤ 20) else false := by
  by_cases h0 : k = 0
  · subst h0; simp [okV]
  · by_cases h1 : k = 1
    · subst h1; simp [okV]
    · by_cases h2 : k = 2
      · subst h2; simp [okV]
      · simp [okV, h0, h1, h2]

theorem len_dec (s : List UInt8) : decide ((s.length : Int) ≤ 20) = decide (s.length ≤ 20) := by
  congr 1
  exact propext (by omega)

set_option maxHeartbeats 1000000 in
set_option maxRecDepth 100000 in
theorem right_any (v : Vl) (w : World) : Calls Tryd.prog 69 #[sv v] w (Ans w (.bool (decide (okV v)))) := by
  have B := hid ((Below.refl w.heap.size w).alloc (Nat.le_refl _) (.cells #[.int .i64 v.k, .int .i64 v.i, .string ⟨v.s.toArray⟩] 44))
  have E := str_nil v.s
  have L := str_len v.s
  obtain ⟨k, i, s⟩ := v
  have hd := okV_dec k i s
  rw [hd]
  clear hd
  unfold sv
  simp only at E L B ⊢
  by_cases h0 : k = 0
  · subst h0
    by_cases hi : i = 0
    · subst hi
      by_cases hs : s = []
      · subst hs
        go_enter Tryd.func69, Tryd.ntmps69
        go_wp2
        go_ret
        refine ⟨congrArg (fun b => Ending.returned (.bool b)) ?_, B.out⟩
        simp_all [List.isEmpty_iff, len_dec]
      · have hs' : s.isEmpty = false := by cases s <;> simp_all
        have hs2 : decide (s = []) = false := by simp [hs]
        rw [hs2]
        go_enter Tryd.func69, Tryd.ntmps69
        go_wp2
        go_ret
        refine ⟨congrArg (fun b => Ending.returned (.bool b)) ?_, B.out⟩
        simp_all [List.isEmpty_iff, len_dec]
    · have hi' : (i == 0) = false := by simp [hi]
      go_enter Tryd.func69, Tryd.ntmps69
      go_wp2
      go_ret
      refine ⟨congrArg (fun b => Ending.returned (.bool b)) ?_, B.out⟩
      simp_all [List.isEmpty_iff, len_dec]
  · have h0' : (k == 0) = false := by simp [h0]
    by_cases h1 : k = 1
    · subst h1
      go_enter Tryd.func69, Tryd.ntmps69
      go_wp2
      go_ret
      refine ⟨congrArg (fun b => Ending.returned (.bool b)) ?_, B.out⟩
      simp_all [List.isEmpty_iff, len_dec]
    · have h1' : (k == 1) = false := by simp [h1]
      by_cases h2 : k = 2
      · subst h2
        by_cases hi : i = 0
        · subst hi
          go_enter Tryd.func69, Tryd.ntmps69
          go_wp2
          go_ret
          refine ⟨congrArg (fun b => Ending.returned (.bool b)) ?_, B.out⟩
          simp_all [List.isEmpty_iff, len_dec]
        · have hi' : (i == 0) = false := by simp [hi]
          go_enter Tryd.func69, Tryd.ntmps69
          go_wp2
          go_ret
          refine ⟨congrArg (fun b => Ending.returned (.bool b)) ?_, B.out⟩
          simp_all [List.isEmpty_iff, len_dec]
      · have h2' : (k == 2) = false := by simp [h2]
        go_enter Tryd.func69, Tryd.ntmps69
        go_wp2
        go_ret
        refine ⟨congrArg (fun b => Ending.returned (.bool b)) ?_, B.out⟩
        simp_all [List.isEmpty_iff, len_dec]

set_option maxHeartbeats 1000000 in
set_option maxRecDepth 100000 in
theorem rright_any (v : Vl) (w : World) : Calls Tryd.prog 36 #[sv v] w (Ans w (.bool (decide (okV v)))) := by
  have B := hid ((Below.refl w.heap.size w).alloc (Nat.le_refl _) (.cells #[.int .i64 v.k, .int .i64 v.i, .string ⟨v.s.toArray⟩] 44))
  have E := str_nil v.s
  have L := str_len v.s
  obtain ⟨k, i, s⟩ := v
  have hd := okV_dec k i s
  rw [hd]
  clear hd
  unfold sv
  simp only at E L B ⊢
  by_cases h0 : k = 0
  · subst h0
    by_cases hi : i = 0
    · subst hi
      by_cases hs : s = []
      · subst hs
        go_enter Tryd.func36, Tryd.ntmps36
        go_wp2
        go_ret
        refine ⟨congrArg (fun b => Ending.returned (.bool b)) ?_, B.out⟩
        simp_all [List.isEmpty_iff, len_dec]
      · have hs' : s.isEmpty = false := by cases s <;> simp_all
        have hs2 : decide (s = []) = false := by simp [hs]
        rw [hs2]
        go_enter Tryd.func36, Tryd.ntmps36
        go_wp2
        go_ret
        refine ⟨congrArg (fun b => Ending.returned (.bool b)) ?_, B.out⟩
        simp_all [List.isEmpty_iff, len_dec]
    · have hi' : (i == 0) = false := by simp [hi]
      go_enter Tryd.func36, Tryd.ntmps36
      go_wp2
      go_ret
      refine ⟨congrArg (fun b => Ending.returned (.bool b)) ?_, B.out⟩
      simp_all [List.isEmpty_iff, len_dec]
  · have h0' : (k == 0) = false := by simp [h0]
    by_cases h1 : k = 1
    · subst h1
      go_enter Tryd.func36, Tryd.ntmps36
      go_wp2
      go_ret
      refine ⟨congrArg (fun b => Ending.returned (.bool b)) ?_, B.out⟩
      simp_all [List.isEmpty_iff, len_dec]
    · have h1' : (k == 1) = false := by simp [h1]
      by_cases h2 : k = 2
      · subst h2
        by_cases hi : i = 0
        · subst hi
          go_enter Tryd.func36, Tryd.ntmps36
          go_wp2
          go_ret
          refine ⟨congrArg (fun b => Ending.returned (.bool b)) ?_, B.out⟩
          simp_all [List.isEmpty_iff, len_dec]
        · have hi' : (i == 0) = false := by simp [hi]
          go_enter Tryd.func36, Tryd.ntmps36
          go_wp2
          go_ret
          refine ⟨congrArg (fun b => Ending.returned (.bool b)) ?_, B.out⟩
          simp_all [List.isEmpty_iff, len_dec]
      · have h2' : (k == 2) = false := by simp [h2]
        go_enter Tryd.func36, Tryd.ntmps36
        go_wp2
        go_ret
        refine ⟨congrArg (fun b => Ending.returned (.bool b)) ?_, B.out⟩
        simp_all [List.isEmpty_iff, len_dec]
end Go.Proofs.YtpdmocdfnakggaaDoor

namespace Go.Proofs.YtpdmocdfnakggaaDoor
open Go.RowKit

theorem Tryd.info_u8 : (Tryd.prog.info? 5).map (fun i => (i.zero, i.size, i.bytes)) = some (some (.int .u8 0), 1, 1) := by kernel_rfl

/-- Bytes behind those of an own row: what is below the row's bound stays. -/
def Puts (base : Nat) (w : World) (l : List UInt8) (e : Ending) (w' : World) : Prop :=
  ∃ x, e = .returned x ∧ w'.ownsRow base 5 1 x l.length (l.map bv) ∧ Below base w w'

theorem own_below {w w1 : World} {base n : Nat} {t : TypeId} {x : Value} {xs : List Value} (hown : w.ownsRow base t 1 x n xs) (hb : base ≤ w.heap.size) {o : Obj} (hg : (w.alloc o).grownBy w1 x.ownBlock) : Below base w w1 :=
  ((Below.refl base w).alloc hb o).grown hg (by simp; omega) (fun k hk => (hown.lt k hk).1)

theorem put_step {w wr w1 : World} {base : Nat} {acc : List UInt8} {x x' : Value} {o : Obj} {c : UInt8} (hbb : Below base w wr) (hb : base ≤ w.heap.size) (hown : wr.ownsRow base 5 1 x acc.length (acc.map bv))
    (hown' : w1.ownsRow base 5 1 x' (acc.length + 1) (acc.map bv ++ [bv c])) (hg : (wr.alloc o).grownBy w1 x.ownBlock) :
    w1.ownsRow base 5 1 x' (acc ++ [c]).length ((acc ++ [c]).map bv) ∧ Below base w w1 :=
  ⟨by simpa using hown', hbb.trans (own_below hown (Nat.le_trans hb hbb.size) hg)⟩

theorem put_step2 {w wr w1 : World} {base : Nat} {acc : List UInt8} {x x' : Value} {o : Obj} {c d : UInt8} (hbb : Below base w wr) (hb : base ≤ w.heap.size) (hown : wr.ownsRow base 5 1 x acc.length (acc.map bv))
    (hown' : w1.ownsRow base 5 1 x' (acc.length + 2) (acc.map bv ++ [bv c, bv d])) (hg : (wr.alloc o).grownBy w1 x.ownBlock) :
    w1.ownsRow base 5 1 x' (acc ++ [c, d]).length ((acc ++ [c, d]).map bv) ∧ Below base w w1 :=
  ⟨by simpa using hown', hbb.trans (own_below hown (Nat.le_trans hb hbb.size) hg)⟩

theorem cells_two_new (w : World) (x y : Value) (t : TypeId) : ∀ (j : Nat) u, [x, y][j]? = some u → (w.alloc (.cells #[x, y] t)).cell? ((⟨w.heap.size, 0, none⟩ : Addr).add j) = some u := by
  intro j u h
  have hn : (w.alloc (.cells #[x, y] t)).heap[w.heap.size]? = some (.cells #[x, y] t (0, 0)) := heap_alloc_new _ _
  have h2 := two_cells hn
  rw [WideShapes.add_plain]
  match j, h with
  | 0, h => simp at h; subst h; exact h2.1
  | 1, h => simp at h; subst h; exact h2.2.1
  | j + 2, h => simp at h

theorem bv_nat (n : Nat) : bv (UInt8.ofNat n) = .int .u8 ((n : Int) % 256) := by
  unfold bv
  rw [UInt8.toNat_ofNat']
  congr 1

theorem byte_at (u k : Nat) : Value.int .u8 ((u : Int) / 2 ^ (8 * k) % 256) = bv (UInt8.ofNat (u / 256 ^ k)) := by
  rw [bv_nat, Nat.pow_mul' |> fun _ => Int.natCast_ediv]
  have e : ((256 ^ k : Nat) : Int) = 2 ^ (8 * k) := by
    rw [Int.pow_mul]; simp
  rw [e]

set_option maxHeartbeats 1000000 in
set_option maxRecDepth 100000 in
theorem kind_any (k : Int) (w : World) (hk : k = 0 ∨ k = 1 ∨ k = 2) : Calls Tryd.prog 79 #[.int .i64 k] w fun e w' => e = .returned (.int .u8 ((kindB k).toNat : Int)) ∧ w' = w := by
  rcases hk with rfl | rfl | rfl
  all_goals
    go_enter Tryd.func79, Tryd.ntmps79
    go_wp2
    go_ret
    exact ⟨rfl, rfl⟩

theorem xor_top {n : Nat} (h : n < 18446744073709551616) : n ^^^ 9223372036854775808 = if n < 9223372036854775808 then n + 9223372036854775808 else n - 9223372036854775808 := by
  have low : ∀ m, m < 9223372036854775808 → m ^^^ 9223372036854775808 = m + 9223372036854775808 := fun m hm => by
    apply Nat.eq_of_testBit_eq
    intro j
    rw [Nat.testBit_xor, Nat.add_comm]
    have e : (9223372036854775808 : Nat) = 2 ^ 63 := rfl
    rw [e]
    by_cases hj : j = 63
    · subst hj
      rw [Nat.testBit_two_pow_add_eq, Nat.testBit_lt_two_pow (by rw [e] at hm; exact hm), Nat.testBit_two_pow_self]; rfl
    · by_cases hlt : j < 63
      · rw [Nat.testBit_two_pow_add_gt hlt, Nat.testBit_two_pow_of_ne (by omega)]; simp
      · have hp : 2 ^ 64 ≤ 2 ^ j := Nat.pow_le_pow_right (by decide) (by omega)
        rw [Nat.testBit_two_pow_of_ne (by omega), Nat.testBit_lt_two_pow (x := m) (by omega), Nat.testBit_lt_two_pow (x := 2 ^ 63 + m) (by omega)]; rfl
  by_cases h1 : n < 9223372036854775808
  · rw [if_pos h1, low n h1]
  · rw [if_neg h1]
    have h2 := low (n - 9223372036854775808) (by omega)
    have h3 : n = (n - 9223372036854775808) ^^^ 9223372036854775808 := by rw [h2]; omega
    conv => lhs; rw [h3]
    rw [Nat.xor_assoc, Nat.xor_self, Nat.xor_zero]

theorem sign_in {i : Int} (h1 : -9223372036854775808 ≤ i) (h2 : i ≤ 9223372036854775807) : bits BinOp.xor IntKind.u64 (IntKind.u64.wrap i) 9223372036854775808 = (((i + 9223372036854775808).toNat : Nat) : Int) := by
  have e : IntKind.u64.wrap i = (((i % 18446744073709551616).toNat : Nat) : Int) := by rw [IntKind.wrap_u64]; omega
  have h := bits_xor_u64_nat (i % 18446744073709551616).toNat 9223372036854775808 (by omega) (by omega)
  rw [e]
  refine h.trans ?_
  rw [xor_top (by omega)]
  congr 1
  split <;> omega

set_option maxHeartbeats 1000000 in
set_option maxRecDepth 100000 in
theorem putInt_any (base : Nat) (x : Value) (pre : List UInt8) (i : Int) (w : World) (hx : w.ownsRow base 5 1 x pre.length (pre.map bv)) (hb : base ≤ w.heap.size) (hl : pre.length ≤ 100000) (h1 : -9223372036854775808 ≤ i) (h2 : i ≤ 9223372036854775807) :
    Calls Tryd.prog 80 #[x, .int .i64 i] w (Puts base w (pre ++ be 8 (i + 9223372036854775808).toNat)) := by
  obtain ⟨i0, hi, hz0, hz1, hz2⟩ := info_parts Tryd.info_u8
  have hs := sign_in h1 h2
  have hu : (i + 9223372036854775808).toNat < 18446744073709551616 := by omega
  generalize (i + 9223372036854775808).toNat = u at *
  clear h1 h2
  have HU := hid hu
  have HL := hid hl
  have HX := hid hx
  have HB := hid hb
  clear hu hl hx hb
  go_enter Tryd.func80, Tryd.ntmps80
  go_wp2
  clear hs
  go_loopw [0, 6] (fun b j wr => ∃ (k : Nat) (acc : List UInt8), k ≤ 8 ∧ j = .int .i64 ((k : Int) - 1) ∧ acc ++ be k u = pre ++ be 8 u ∧ wr.ownsRow base 5 1 b acc.length (acc.map bv) ∧ Below base w wr)
    (fun _ j _ => (intOf j + 1).toNat)
  case atStart => exact ⟨8, pre, by omega, rfl, rfl, HX.out, Below.refl _ _⟩
  case round =>
    obtain ⟨k, acc, hk, rfl, hacc, hown, hbb⟩ := hrel
    have HA := hid hacc
    have hal : acc.length ≤ 100008 := by
      have := congrArg List.length hacc
      have := HL.out
      simp only [List.length_append, be_len] at *
      omega
    have HBB := hid hbb
    clear hacc hbb
    cases k with
    | zero =>
      clear hal
      have HO := hid hown
      clear hown
      go_wp2
      go_ret
      have e : acc = pre ++ be 8 u := by have := HA.out; simpa [be] using this
      refine ⟨_, rfl, ?_, HBB.out⟩
      rw [← e]
      exact HO.out
    | succ k =>
      have e1 : ((k + 1 : Nat) : Int) - 1 = (k : Int) := by omega
      rw [e1]
      have hk8 : k < 8 := by omega
      go_wp2_with (first
        | (at_builtin; refine wpList_append_own _ rfl _ _ 32 rfl base 5 i0 (.int .u8 0) 1 1 Tryd.underlying32 hi hz0 hz1 hz2 rfl (by decide) _ _ _ rfl (hown.alloc _) ⟨wr.heap.size, 0, none⟩ 1 1 [bv (UInt8.ofNat (u / 256 ^ k))] rfl rfl ?c1 ?c2 ?c3 ?c4 ?c5 ?_))
      case c1 => rw [← byte_at]; exact (cell_one_new _ _ _)
      case c2 => exact bv_one [_]
      case c3 => unfold maxLen; simp; omega
      case c4 => simp; omega
      case c5 => have := HBB.out.size; have := HB.out; simp; omega
      intro x' w1 hown' hgrow _
      have R := put_step HBB.out HB.out hown hown' hgrow
      have HN := hid (by rw [← HA.out]; simp [be] : (acc ++ [UInt8.ofNat (u / 256 ^ k)]) ++ be k u = pre ++ be 8 u)
      clear hown' hgrow hown
      go_wp2_with fail
      go_roundw
      case rel => exact ⟨k, acc ++ [UInt8.ofNat (u / 256 ^ k)], by omega, by go_num, HN.out, R⟩
      case measure => simp [intOf]

theorem idx_at {P : Program} (t : TypeId) (ht : P.underlying t = some .string) (s : List UInt8) (k : Nat) (h : k < s.length) : ∀ W, (Instr.index t (.string ⟨s.toArray⟩) (.int .i64 (k : Int))).run P W = .ok (.int .u8 ((s[k].toNat : Nat) : Int)) W := by
  intro W
  rw [run_index_string W t _ _ _ ht, dif_pos ⟨by omega, by show (k : Int) < (s.length : Int); omega⟩]
  rfl

theorem escL_take {s : List UInt8} {k : Nat} (h : k < s.length) : escL (s.take (k + 1)) = escL (s.take k) ++ (if s[k] = 0 then [s[k], 255] else [s[k]]) := by
  rw [List.take_add_one, List.getElem?_eq_getElem h]
  show escL (s.take k ++ [s[k]]) = _
  rw [escL_app]
  congr 1
  by_cases hc : s[k] = 0
  · simp [escL, hc]
  · simp [escL, hc]

set_option maxHeartbeats 2000000 in
set_option maxRecDepth 100000 in
theorem putText_any (base : Nat) (x : Value) (pre s : List UInt8) (w : World) (hx : w.ownsRow base 5 1 x pre.length (pre.map bv)) (hb : base ≤ w.heap.size) (hl : pre.length ≤ 100000) (hs : s.length ≤ 20) :
    Calls Tryd.prog 81 #[x, .string ⟨s.toArray⟩] w (Puts base w (pre ++ textB s)) := by
  obtain ⟨i0, hi, hz0, hz1, hz2⟩ := info_parts Tryd.info_u8
  have hsz := str_len s
  have HL := hid hl
  have HX := hid hx
  have HB := hid hb
  clear hl hx hb
  go_enter Tryd.func81, Tryd.ntmps81
  go_wp2
  go_loopw [0, 8] (fun b j wr => ∃ (k : Nat) (acc : List UInt8), k ≤ s.length ∧ j = .int .i64 (k : Int) ∧ acc = pre ++ escL (s.take k) ∧ wr.ownsRow base 5 1 b acc.length (acc.map bv) ∧ Below base w wr)
    (fun _ j _ => s.length - (intOf j).toNat)
  case atStart => exact ⟨0, pre, by omega, rfl, by simp [escL], HX.out, Below.refl _ _⟩
  case round =>
    obtain ⟨k, acc, hk, rfl, hacc, hown, hbb⟩ := hrel
    have HA := hid hacc
    have hal : acc.length ≤ 100040 := by
      have := HL.out
      have := escL_len (s.take k)
      rw [hacc]
      simp only [List.length_append, List.length_take] at *
      omega
    have HBB := hid hbb
    clear hacc hbb
    by_cases hlt : k < s.length
    · have HE := hid (escL_take hlt)
      have hidx := idx_at (P := Tryd.prog) 9 Tryd.underlying9 s k hlt
      have hc256 := UInt8.toNat_lt s[k]
      have hcz : (s[k] = 0) ↔ s[k].toNat = 0 := by rw [← UInt8.toNat_inj]; rfl
      generalize s[k] = c at *
      have hbv : Value.int .u8 ((c.toNat : Nat) : Int) = bv c := rfl
      have HC := hid hcz
      clear hcz
      have HBW : Hid (base ≤ wr.heap.size) := Nat.le_trans HB.out HBB.out.size
      by_cases hc0 : c.toNat = 0
      · have HE2 : Hid (escL (s.take (k + 1)) = escL (s.take k) ++ [c, 255]) := by rw [Hid, HE.out, if_pos (HC.out.2 hc0)]
        have HCC : Hid (Value.int .u8 (0 : Int) = bv c) := by rw [Hid, ← hbv, hc0]; rfl
        rw [hc0] at hidx
        clear HE HC hbv
        go_wp2_with (first
          | (at_builtin; refine wpList_append_own _ rfl _ _ 32 rfl base 5 i0 (.int .u8 0) 1 1 Tryd.underlying32 hi hz0 hz1 hz2 rfl (by decide) _ _ _ rfl (hown.alloc _) ⟨wr.heap.size, 0, none⟩ 1 1 [bv c] rfl rfl ?c1 ?c2 ?c3 ?c4 ?c5 ?_))
        case c1 => rw [← HCC.out]; exact (cell_one_new _ _ _)
        case c2 => exact bv_one [_]
        case c3 => unfold maxLen; simp; omega
        case c4 => simp; omega
        case c5 => have := HBW.out; simp; omega
        intro x1 w1 hown1 hg1 _
        obtain ⟨q1, q2⟩ := put_step HBB.out HB.out hown hown1 hg1
        have Q2 := hid q2
        have HB1 : Hid (base ≤ w1.heap.size) := Nat.le_trans HB.out q2.size
        clear hown1 hg1 hown q2
        go_wp2_with (first
          | (at_builtin; refine wpList_append_own _ rfl _ _ 32 rfl base 5 i0 (.int .u8 0) 1 1 Tryd.underlying32 hi hz0 hz1 hz2 rfl (by decide) _ _ _ rfl (q1.alloc _) ⟨w1.heap.size, 0, none⟩ 1 1 [bv 255] rfl rfl ?d1 ?d2 ?d3 ?d4 ?d5 ?_))
        case d1 => exact (cell_one_new _ _ _)
        case d2 => exact bv_one [_]
        case d3 => unfold maxLen; simp; omega
        case d4 => simp; omega
        case d5 => have := HB1.out; simp; omega
        intro x2 w2 hown2 hg2 _
        have R := put_step (acc := acc ++ [c]) (c := 255) Q2.out HB.out q1 (by simpa using hown2) hg2
        clear hown2 hg2 q1
        go_wp2_with fail
        go_roundw
        case rel => exact ⟨k + 1, acc ++ [c] ++ [255], by omega, by go_num, by rw [HE2.out, HA.out]; simp, R⟩
        case measure => simp [intOf]; omega
      · have HE2 : Hid (escL (s.take (k + 1)) = escL (s.take k) ++ [c]) := by rw [Hid, HE.out, if_neg (fun e => hc0 (HC.out.1 e))]
        have hc1 : ¬ (c.toNat : Int) = 0 := by omega
        clear HE HC hbv
        go_wp2_with (first
          | (at_builtin; refine wpList_append_own _ rfl _ _ 32 rfl base 5 i0 (.int .u8 0) 1 1 Tryd.underlying32 hi hz0 hz1 hz2 rfl (by decide) _ _ _ rfl (hown.alloc _) ⟨wr.heap.size, 0, none⟩ 1 1 [bv c] rfl rfl ?c1 ?c2 ?c3 ?c4 ?c5 ?_))
        case c1 => exact (cell_one_new _ _ _)
        case c2 => exact bv_one [_]
        case c3 => unfold maxLen; simp; omega
        case c4 => simp; omega
        case c5 => have := HBW.out; simp; omega
        intro x1 w1 hown1 hg1 _
        have R := put_step HBB.out HB.out hown hown1 hg1
        clear hown1 hg1 hown
        go_wp2_with fail
        go_roundw
        case rel => exact ⟨k + 1, acc ++ [c], by omega, by go_num, by rw [HE2.out, HA.out]; simp, R⟩
        case measure => simp [intOf]; omega
    · obtain rfl : k = s.length := by omega
      have HBW : Hid (base ≤ wr.heap.size) := Nat.le_trans HB.out HBB.out.size
      go_wp2_with (first
        | (at_builtin; refine wpList_append_own _ rfl _ _ 32 rfl base 5 i0 (.int .u8 0) 1 1 Tryd.underlying32 hi hz0 hz1 hz2 rfl (by decide) _ _ _ rfl (hown.alloc _) ⟨wr.heap.size, 0, none⟩ 2 2 [bv 0, bv 1] rfl rfl ?c1 ?c2 ?c3 ?c4 ?c5 ?_))
      case c1 => exact (cells_two_new _ _ _ _)
      case c2 => exact bv_one [_, _]
      case c3 => unfold maxLen; simp; omega
      case c4 => simp; omega
      case c5 => have := HBW.out; simp; omega
      intro x1 w1 hown1 hg1 _
      have R := put_step2 HBB.out HB.out hown hown1 hg1
      clear hown1 hg1 hown
      go_wp2_with fail
      go_ret
      have e : acc ++ [0, 1] = pre ++ textB s := by rw [HA.out, List.take_length]; simp [textB]
      rw [e] at R
      exact ⟨_, rfl, R⟩
end Go.Proofs.YtpdmocdfnakggaaDoor

namespace Go.Proofs.YtpdmocdfnakggaaDoor
open Go.RowKit

theorem box_cells {w : World} {v : Vl} : (w.alloc (.cells #[.int .i64 v.k, .int .i64 v.i, .string ⟨v.s.toArray⟩] 44)).heap[w.heap.size]? = some (.cells #[.int .i64 v.k, .int .i64 v.i, .string ⟨v.s.toArray⟩] 44 (0, 0)) := heap_alloc_new _ _

theorem three_cells {w : World} {b : Nat} {x y z : Value} {t : TypeId} (h : w.heap[b]? = some (.cells #[x, y, z] t (0, 0))) :
    w.cell? ⟨b, 0, none⟩ = some x ∧ w.cell? ⟨b, 1, none⟩ = some y ∧ w.cell? ⟨b, 2, none⟩ = some z := by
  simp [World.cell?, h]

set_option maxHeartbeats 2000000 in
set_option maxRecDepth 100000 in
/-- put: the value's bytes behind b. -/
theorem put_any (base : Nat) (x : Value) (pre : List UInt8) (v : Vl) (w : World) (hx : w.ownsRow base 5 1 x pre.length (pre.map bv)) (hb : base ≤ w.heap.size) (hl : pre.length ≤ 90000) (hv : okV v) (hi : inV v) :
    Calls Tryd.prog 70 #[x, sv v] w (Puts base w (pre ++ valB v)) := by
  obtain ⟨i0, hi', hz0, hz1, hz2⟩ := info_parts Tryd.info_u8
  have HX := hid hx
  have HB := hid hb
  have HV := hid hi
  clear hx hb hi
  have hk : v.k = 0 ∨ v.k = 1 ∨ v.k = 2 := by rcases hv with ⟨h, -⟩ | ⟨h, -⟩ | ⟨h, -⟩ <;> simp [h]
  have hs : v.k = 2 → v.s.length ≤ 20 := fun h => by rcases hv with ⟨h1, -⟩ | ⟨h1, -⟩ | ⟨-, -, h2⟩; omega; omega; exact h2
  obtain ⟨k, i, s⟩ := v
  simp only at hk hs
  have HK := hid hk
  have HS := hid hs
  have C := fun w => kind_any k w hk
  have Bx := hid (box_cells (w := w) (v := ⟨k, i, s⟩))
  have B1 := hid ((Below.refl base w).alloc HB.out (.cells #[.int .i64 k, .int .i64 i, .string ⟨s.toArray⟩] 44))
  clear hv hk hs
  unfold sv
  simp only at Bx ⊢
  go_enter Tryd.func70, Tryd.ntmps70
  have hown : (w.alloc (.cells #[.int .i64 k, .int .i64 i, .string ⟨s.toArray⟩] 44)).ownsRow base 5 1 x pre.length (pre.map bv) := HX.out.alloc _
  have HSZ : Hid ((w.alloc (.cells #[.int .i64 k, .int .i64 i, .string ⟨s.toArray⟩] 44)).heap.size = w.heap.size + 1) := by simp [Hid]
  go_wp2_with (first
    | (go_at_call 79; refine (C _).mono ?_; rintro e w' ⟨rfl, rfl⟩)
    | (at_builtin; refine wpList_append_own _ rfl _ _ 32 rfl base 5 i0 (.int .u8 0) 1 1 Tryd.underlying32 hi' hz0 hz1 hz2 rfl (by decide) _ _ _ rfl (hown.alloc _) ⟨w.heap.size + 1, 0, none⟩ 1 1 [bv (kindB k)] rfl rfl ?c1 ?c2 ?c3 ?c4 ?c5 ?_))
  case c1 => intro j u hj; have h := cell_one_new (w.alloc (.cells #[.int .i64 k, .int .i64 i, .string ⟨s.toArray⟩] 44)) _ 5 j u hj; rw [HSZ.out] at h; exact h
  case c2 => exact bv_one [_]
  case c3 => unfold maxLen; simp; omega
  case c4 => simp; omega
  case c5 => have := HB.out; simp; omega
  intro x1 w1 hown1 hg1 _
  obtain ⟨p1, p2⟩ := put_step B1.out HB.out hown hown1 hg1
  have hbl : x.ownBlock ≠ some w.heap.size := by
    intro h
    have := (HX.out.lt _ h).2
    omega
  have hb1 : w1.heap[w.heap.size]? = some (.cells #[.int .i64 k, .int .i64 i, .string ⟨s.toArray⟩] 44 (0, 0)) := by
    refine heap_kept hg1 (alloc_old Bx.out) (fun h => hbl h.symm)
  obtain ⟨d1, d2, d3⟩ := three_cells hb1
  have P2 := hid p2
  have P1 := hid p1
  have HB1 : Hid (base ≤ w1.heap.size) := Nat.le_trans HB.out p2.size
  clear hown hown1 hg1 hb1 hbl p1 p2 Bx B1
  have hl2 : (pre ++ [kindB k]).length ≤ 100000 := by simp; omega
  rcases HK.out with rfl | rfl | rfl
  · go_wp2
    go_ret
    refine ⟨_, rfl, ?_, P2.out⟩
    have e : valB ⟨0, i, s⟩ = [kindB 0] := rfl
    rw [e]; exact P1.out
  · have hv1 := HV.out
    unfold inV at hv1
    have C1 := fun y (h : w1.ownsRow base 5 1 y _ _) => putInt_any base y (pre ++ [kindB 1]) i w1 h HB1.out hl2 hv1.1 hv1.2
    clear hv1
    go_wp2_with (first | (go_at_call 80; refine (C1 _ P1.out).mono ?_; rintro e w2 ⟨y, rfl, q1, q2⟩))
    go_ret
    have e : pre ++ [kindB 1] ++ be 8 (i + 9223372036854775808).toNat = pre ++ valB ⟨1, i, s⟩ := by rw [List.append_assoc]; rfl
    rw [e] at q1
    exact ⟨_, rfl, q1, P2.out.trans q2⟩
  · have hs := HS.out rfl
    have C1 := fun y (h : w1.ownsRow base 5 1 y _ _) => putText_any base y (pre ++ [kindB 2]) s w1 h HB1.out hl2 hs
    clear hs
    go_wp2_with (first | (go_at_call 81; refine (C1 _ P1.out).mono ?_; rintro e w2 ⟨y, rfl, q1, q2⟩))
    go_ret
    have e : pre ++ [kindB 2] ++ textB s = pre ++ valB ⟨2, i, s⟩ := by rw [List.append_assoc]; rfl
    rw [e] at q1
    exact ⟨_, rfl, q1, P2.out.trans q2⟩
end Go.Proofs.YtpdmocdfnakggaaDoor

