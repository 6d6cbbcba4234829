/-
  BYTES IN MEMORY: 'Rd w x l': the slice value x reads as the bytes l in the world w. Laws on what Go's builtins do with it. Over any program.
-/
import Derived.Test.YtmkcdckemaohdaaRows
import Derived.WalkKit
import Derived.WalkSpells
import Derived.WalkLawsBesides
import Derived.Laws.AppendOwnNone
namespace Go.Proofs.Ytmkcdckemaohdaa
open Go.RowKit

theorem hid {p : Prop} (h : p) : Hid p := h

/-- A byte's cell. -/
def bv (c : UInt8) : Value := .int .u8 (c.toNat : Int)

theorem bv_one (l : List UInt8) : ∀ u ∈ l.map bv, u.oneCell' = true := by
  intro u hu
  obtain ⟨_, _, rfl⟩ := List.mem_map.1 hu
  rfl

/-- The block that a slice lies in. -/
def blk : Value → Option Nat
  | .slice (some a) _ _ => some a.block
  | _ => none

/-- The slice x reads as the bytes l. -/
def Rd (w : World) (x : Value) (l : List UInt8) : Prop :=
  ∃ (ao : Option Addr) (c : Nat), x = .slice ao l.length c ∧ l.length ≤ c ∧ c ≤ maxLen ∧ (ao = none → c = 0) ∧
    ∀ a, ao = some a → ∀ (j : Nat) u, (l.map bv)[j]? = some u → w.cell? (a.add j) = some u

theorem Rd.nil (w : World) : Rd w (.slice none 0 0) [] := ⟨none, 0, rfl, by simp, by simp, fun _ => rfl, fun a h => by cases h⟩

theorem add_block (a : Addr) (j : Nat) : (a.add j).block = a.block := by unfold Addr.add; split <;> rfl

/-- What is read stays read, where its block is left alone. -/
theorem Rd.kept {w w' : World} {x : Value} {l : List UInt8} {row : Option Nat} (h : Rd w x l) (hg : w.grownBy w' row) (hne : blk x = none ∨ blk x ≠ row) : Rd w' x l := by
  obtain ⟨ao, c, rfl, h1, h2, h3, h4⟩ := h
  refine ⟨ao, c, rfl, h1, h2, h3, fun a ha j u hu => ?_⟩
  subst ha
  have h6 := h4 a rfl j u hu
  have hlt := World.block_lt_of_cell? w _ h6
  rw [World.cell?_of_block (w := w) (a := a.add j) (hg.block _ hlt (by rw [add_block]; simpa [blk] using hne))]
  exact h6

/-- Behind a call that leaves all that was there. -/
theorem Rd.old {w w' : World} {x : Value} {l : List UInt8} (h : Rd w x l) (hb : Below w.heap.size w w') : Rd w' x l := by
  obtain ⟨ao, c, rfl, h1, h2, h3, h4⟩ := h
  refine ⟨ao, c, rfl, h1, h2, h3, fun a ha j u hu => ?_⟩
  subst ha
  have h6 := h4 a rfl j u hu
  rw [hb.cell (p := a.add j) (World.block_lt_of_cell? w _ h6)]
  exact h6

theorem Rd.below {w0 w w' : World} {x : Value} {l : List UInt8} (h : Rd w0 x l) (hb0 : Below w0.heap.size w0 w) (hb : Below w0.heap.size w w') : Rd w' x l := h.old (hb0.trans hb)

theorem Rd.alloc {w : World} {x : Value} {l : List UInt8} (h : Rd w x l) (o : Obj) : Rd (w.alloc o) x l := h.old ((Below.refl _ _).alloc (Nat.le_refl _) o)

/-- What the call itself made. -/
theorem Rd.own {w : World} {base : Nat} {e : TypeId} {x : Value} {l : List UInt8} (h : w.ownsRow base e 1 x l.length (l.map bv)) : Rd w x l := by
  obtain ⟨h1, h2⟩ := h
  rcases h2 with ⟨rfl, hn⟩ | ⟨g, cap, cur, rfl, hb, hg, hn, hc, hs, ht⟩
  · obtain rfl : l = [] := List.eq_nil_of_length_eq_zero hn
    exact Rd.nil w
  · refine ⟨some ⟨g, 0, none⟩, cap, rfl, hn, hc, (fun h => by cases h), fun a ha => ?_⟩
    cases ha
    intro j u hu
    rw [WideShapes.add_plain, Nat.zero_add, cell_of_row w g j cur e (0, 0) hg]
    rw [← ht, List.getElem?_take] at hu
    split at hu
    · simpa using hu
    · cases hu

/-- 'string(x)'. -/
theorem Rd.conv {P : Program} {w : World} {x : Value} {l : List UInt8} (h : Rd w x l) (src dst e : TypeId) (hs : P.underlying src = some (.slice e)) (he : P.underlying e = some (.int .u8)) (hd : P.underlying dst = some .string) :
    (convert src dst x).run P w = .ok (.string ⟨l.toArray⟩) w := by
  obtain ⟨ao, c, rfl, h1, h2, h3, h4⟩ := h
  cases ao with
  | none =>
    obtain rfl : l = [] := List.eq_nil_of_length_eq_zero (by have := h3 rfl; omega)
    rw [run_convert_bytes_nil w src e hs he _ _ dst hd]
    rfl
  | some a =>
    rw [run_convert_bytes_string w src dst e _ _ _ hs he hd]
    have hl : (loadCells a l.length).run P w = .ok ((l.map fun x => (x.toNat : Int)).map (Value.int .u8)).toArray w := by
      have := run_loadCells_list (P := P) w a (l.map bv) (h4 a rfl)
      have e1 : (l.map fun x => (x.toNat : Int)).map (Value.int .u8) = l.map bv := by rw [List.map_map]; rfl
      rw [e1]
      simpa using this
    rw [run_bytesToString w a l.length c (l.map fun x => (x.toNat : Int)) hl, foldl_push_bytes]
    congr 2
    simp [ByteArray.empty, ByteArray.emptyWithCapacity, Function.comp_def]
    rfl

/-- 'append(v, x...)', v the call's own, x whatever. -/
theorem wp_app {P : Program} {w : World} {ops : Array Oper} {rest : List Oper} {o : Oper} {a : Act} {Q : Exit → Act → World → Prop} (hgd : o.guard = none) (s x : Operand) (t : TypeId)
    (ho : o.op = .call { callee := .builtin .append, args := #[s, x], argTypes := #[t, t] })
    (base : Nat) (e : TypeId) (ht : P.underlying t = some (.slice e)) (hinfo : (P.info? e).map (fun i => (i.zero, i.size, i.bytes)) = some (some (.int .u8 0), 1, 1))
    (v : Value) (n : Nat) (xs : List Value) (hs : a.eval s = v) (hown : w.ownsRow base e 1 v n xs)
    (y : Value) (l : List UInt8) (hx : a.eval x = y) (hr : Rd w y l) (hn : n + l.length ≤ 140737488355328) (hbase : base ≤ w.heap.size)
    (h : ∀ v' w', w'.ownsRow base e 1 v' (n + l.length) (xs ++ l.map bv) → w.grownBy w' v.ownBlock → wpList P ops Q rest (a.put o.dst v') w') : wpList P ops Q (o :: rest) a w := by
  obtain ⟨i0, hi, hz0, hz1, hz2⟩ := info_parts hinfo
  obtain ⟨ao, c, rfl, h1, h2, h3, h4⟩ := hr
  cases ao with
  | some ad =>
    exact wpList_append_own w hgd s x t ho base e i0 (.int .u8 0) 1 1 ht hi hz0 hz1 hz2 rfl (by decide) v n xs hs hown ad l.length c (l.map bv) hx (by simp) (h4 ad rfl) (bv_one l)
      (by unfold maxLen; omega) (by omega) hbase fun v' w' a1 a2 _ => h v' w' a1 a2
  | none =>
    have hc := h3 rfl
    obtain rfl : l = [] := List.eq_nil_of_length_eq_zero (by omega)
    subst hc
    exact wpList_append_own_none hgd s x t ho base e i0 1 ht hi v n xs hs hown hx (h v w (by simpa using hown) (World.grownBy.refl _ _))

/-- The bytes that one value makes: what a call gives back, in new memory. -/
def Gives (e8 : TypeId) (w : World) (l : List UInt8) (e : Ending) (w' : World) : Prop :=
  ∃ x, e = .returned x ∧ w'.ownsRow w.heap.size e8 1 x l.length (l.map bv) ∧ Below w.heap.size w w'

/-- The value's shape, for the walk. -/
theorem Gives.elim {e8 : TypeId} {w : World} {l : List UInt8} {e : Ending} {w' : World} (h : Gives e8 w l e w') :
    ∃ (ao : Option Addr) (c : Nat), e = .returned (.slice ao l.length c) ∧ w'.ownsRow w.heap.size e8 1 (.slice ao l.length c) l.length (l.map bv) ∧ Below w.heap.size w w' := by
  obtain ⟨x, rfl, h1, h2⟩ := h
  obtain ⟨ao, c, rfl, _⟩ := Rd.own h1
  exact ⟨ao, c, rfl, h1, h2⟩

end Go.Proofs.Ytmkcdckemaohdaa
