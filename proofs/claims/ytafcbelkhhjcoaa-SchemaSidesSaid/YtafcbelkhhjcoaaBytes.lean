/-
  BYTES IN MEMORY: 'Rd w x l': the slice value x reads as the bytes l in the world w. Laws on what Go's builtins do with it. Over any program.
-/
import Derived.Test.YtafcbelkhhjcoaaRows
import Derived.WalkKit
import Derived.WalkSpells
import Derived.WalkLawsBesides
import Derived.Laws.AppendOwnNone
namespace Go.Proofs.Ytafcbelkhhjcoaa
open Go.RowKit

theorem hid {p : Prop} (h : p) : Hid p := h

/-- A byte's cell. -/
def bv (c : UInt8) : Value := .int .u8 (c.toNat : Int)

theorem bv_one (l : List UInt8) : ∀ u ∈ l.map bv, u.oneCell' = true := by
  intro u hu
  obtain ⟨_, _, rfl⟩ := List.mem_map.1 hu
  rfl

/-- The block that a slice lies in. -/
def blk : Value → Option Nat
  | .slice (some a) _ _ => some a.block
  | _ => none

/-- The slice x reads as the bytes l. -/
def Rd (w : World) (x : Value) (l : List UInt8) : Prop :=
  ∃ (ao : Option Addr) (c : Nat), x = .slice ao l.length c ∧ l.length ≤ c ∧ c ≤ maxLen ∧ (ao = none → c = 0) ∧
    ∀ a, ao = some a → ∀ (j : Nat) u, (l.map bv)[j]? = some u → w.cell? (a.add j) = some u

theorem Rd.nil (w : World) : Rd w (.slice none 0 0) [] := ⟨none, 0, rfl, by simp, by simp, fun _ => rfl, fun a h => by cases h⟩

theorem add_block (a : Addr) (j : Nat) : (a.add j).block = a.block := by unfold Addr.add; split <;> rfl

/-- What is read stays read, where its block is left alone. -/
theorem Rd.kept {w w' : World} {x : Value} {l : List UInt8} {row : Option Nat} (h : Rd w x l) (hg : w.grownBy w' row) (hne : blk x = none ∨ blk x ≠ row) : Rd w' x l := by
  obtain ⟨ao, c, rfl, h1, h2, h3, h4⟩ := h
  refine ⟨ao, c, rfl, h1, h2, h3, fun a ha j u hu => ?_⟩
  subst ha
  have h6 := h4 a rfl j u hu
  have hlt := World.block_lt_of_cell? w _ h6
  rw [World.cell?_of_block (w := w) (a := a.add j) (hg.block _ hlt (by rw [add_block]; simpa [blk] using hne))]
  exact h6

/-- Behind a call that leaves all that was there. -/
theorem Rd.old {w w' : World} {x : Value} {l : List UInt8} (h : Rd w x l) (hb : Below w.heap.size w w') : Rd w' x l := by
  obtain ⟨ao, c, rfl, h1, h2, h3, h4⟩ := h
  refine ⟨ao, c, rfl, h1, h2, h3, fun a ha j u hu => ?_⟩
  subst ha
  have h6 := h4 a rfl j u hu
  rw [hb.cell (p := a.add j) (World.block_lt_of_cell? w _ h6)]
  exact h6

theorem Rd.below {w0 w w' : World} {x : Value} {l : List UInt8} (h : Rd w0 x l) (hb0 : Below w0.heap.size w0 w) (hb : Below w0.heap.size w w') : Rd w' x l := h.old (hb0.trans hb)

theorem Rd.alloc {w : World} {x : Value} {l : List UInt8} (h : Rd w x l) (o : Obj) : Rd (w.alloc o) x l := h.old ((Below.refl _ _).alloc (Nat.le_refl _) o)

/-- What the call itself made. -/
theorem Rd.own {w : World} {base : Nat} {e : TypeId} {x : Value} {l : List UInt8} (h : w.ownsRow base e 1 x l.length (l.map bv)) : Rd w x l := by
  obtain ⟨h1, h2⟩ := h
  rcases h2 with ⟨rfl, hn⟩ | ⟨g, cap, cur, rfl, hb, hg, hn, hc, hs, ht⟩
  · obtain rfl : l = [] := List.eq_nil_of_length_eq_zero hn
    exact Rd.nil w
  · refine ⟨some ⟨g, 0, none⟩, cap, rfl, hn, hc, (fun h => by cases h), fun a ha => ?_⟩
    cases ha
    intro j u hu
    rw [WideShapes.add_plain, Nat.zero_add, cell_of_row w g j cur e (0, 0) hg]
    rw [← ht, List.getElem?_take] at hu
    split at hu
    · simpa using hu
    · cases hu

/-- 'string(x)'. -/
theorem Rd.conv {P : Program} {w : World} {x : Value} {l : List UInt8} (h : Rd w x l) (src dst e : TypeId) (hs : P.underlying src = some (.slice e)) (he : P.underlying e = some (.int .u8)) (hd : P.underlying dst = some .string) :
    (convert src dst x).run P w = .ok (.string ⟨l.toArray⟩) w := by
  obtain ⟨ao, c, rfl, h1, h2, h3, h4⟩ := h
  cases ao with
  | none =>
    obtain rfl : l = [] := List.eq_nil_of_length_eq_zero (by have := h3 rfl; omega)
    rw [run_convert_bytes_nil w src e hs he _ _ dst hd]
    rfl
  | some a =>
    rw [run_convert_bytes_string w src dst e _ _ _ hs he hd]
    have hl : (loadCells a l.length).run P w = .ok ((l.map fun x => (x.toNat : Int)).map (Value.int .u8)).toArray w := by
      have := run_loadCells_list (P := P) w a (l.map bv) (h4 a rfl)
      have e1 : (l.map fun x => (x.toNat : Int)).map (Value.int .u8) = l.map bv := by rw [List.map_map]; rfl
      rw [e1]
      simpa using this
    rw [run_bytesToString w a l.length c (l.map fun x => (x.toNat : Int)) hl, foldl_push_bytes]
    congr 2
    simp [ByteArray.empty, ByteArray.emptyWithCapacity, Function.comp_def]
    rfl

/-- 'append(v, x...)', v the call's own, x whatever. -/
theorem wp_app {P : Program} {w : World} {ops : Array Oper} {rest : List Oper} {o : Oper} {a : Act} {Q : Exit → Act → World → Prop} (hgd : o.guard = none) (s x : Operand) (t : TypeId)
    (ho : o.op = .call { callee := .builtin .append, args := #[s, x], argTypes := #[t, t] })
    (base : Nat) (e : TypeId) (ht : P.underlying t = some (.slice e)) (hinfo : (P.info? e).map (fun i => (i.zero, i.size, i.bytes)) = some (some (.int .u8 0), 1, 1))
    (v : Value) (n : Nat) (xs : List Value) (hs : a.eval s = v) (hown : w.ownsRow base e 1 v n xs)
    (y : Value) (l : List UInt8) (hx : a.eval x = y) (hr : Rd w y l) (hn : n + l.length ≤ 140737488355328) (hbase : base ≤ w.heap.size)
    (h : ∀ v' w', w'.ownsRow base e 1 v' (n + l.length) (xs ++ l.map bv) → w.grownBy w' v.ownBlock → wpList P ops Q rest (a.put o.dst v') w') : wpList P ops Q (o :: rest) a w := by
  obtain ⟨i0, hi, hz0, hz1, hz2⟩ := info_parts hinfo
  obtain ⟨ao, c, rfl, h1, h2, h3, h4⟩ := hr
  cases ao with
  | some ad =>
    exact wpList_append_own w hgd s x t ho base e i0 (.int .u8 0) 1 1 ht hi hz0 hz1 hz2 rfl (by decide) v n xs hs hown ad l.length c (l.map bv) hx (by simp) (h4 ad rfl) (bv_one l)
      (by unfold maxLen; omega) (by omega) hbase fun v' w' a1 a2 _ => h v' w' a1 a2
  | none =>
    have hc := h3 rfl
    obtain rfl : l = [] := List.eq_nil_of_length_eq_zero (by omega)
    subst hc
    exact wpList_append_own_none hgd s x t ho base e i0 1 ht hi v n xs hs hown hx (h v w (by simpa using hown) (World.grownBy.refl _ _))

/-- What is owned from a later block on is owned from an earlier one on. -/
theorem ownsRow_base {w : World} {base base' : Nat} {e : TypeId} {size : Nat} {v : Value} {n : Nat} {xs : List Value} (h : w.ownsRow base e size v n xs) (hb : base' ≤ base) : w.ownsRow base' e size v n xs := by
  obtain ⟨h1, h2⟩ := h
  rcases h2 with h2 | ⟨g, cap, cur, hv, hg, r⟩
  · exact ⟨h1, .inl h2⟩
  · exact ⟨h1, .inr ⟨g, cap, cur, hv, Nat.le_trans hb hg, r⟩⟩

/-! ### Steps of a world. -/
theorem grown_below {w w' : World} (h : Below w.heap.size w w') (row : Option Nat) : w.grownBy w' row := ⟨h.os, h.tape, h.output, h.size, fun k hk _ => h.block k hk⟩

theorem grown_set (w : World) (a : Addr) (v : Value) : w.grownBy (w.setCell a v) (some a.block) :=
  ⟨rfl, rfl, rfl, by simp [World.setCell], fun k _ hne => Below.heap_setCell _ _ _ _ (fun e => hne (by rw [e]))⟩

theorem grown_trans {a b c : World} {row : Option Nat} (h : a.grownBy b row) (k : b.grownBy c row) : a.grownBy c row :=
  ⟨k.os.trans h.os, k.tape.trans h.tape, k.output.trans h.output, Nat.le_trans h.size k.size, fun i hi hne => (k.block i (Nat.lt_of_lt_of_le hi h.size) hne).trans (h.block i hi hne)⟩

/-- What is owned stays owned behind a call that leaves all that was there. -/
theorem own_old {w w' : World} {base : Nat} {e : TypeId} {size : Nat} {v : Value} {n : Nat} {xs : List Value} (h : w.ownsRow base e size v n xs) (hb : Below w.heap.size w w') : w'.ownsRow base e size v n xs :=
  h.kept (grown_below hb none) (by cases v.ownBlock <;> simp)

/-- A row from B on was written at most. -/
theorem below_grown {B : Nat} {w w' : World} {row : Option Nat} (h : w.grownBy w' row) (hB : B ≤ w.heap.size) (hr : ∀ k, row = some k → B ≤ k) : Below B w w' := (Below.refl _ _).grown h hB hr

theorem heap_kept {w w' : World} {row : Option Nat} (h : w.grownBy w' row) {k : Nat} {o : Obj} (hk : w.heap[k]? = some o) (hne : some k ≠ row) : w'.heap[k]? = some o := by
  rw [h.block k (lt_of_block hk) hne]; exact hk

/-- A block of two cells. -/
theorem two_set0 {w : World} {b : Nat} {u v x : Value} {t : TypeId} (h : w.heap[b]? = some (.cells #[u, v] t (0, 0))) : (w.setCell ⟨b, 0, none⟩ x).heap[b]? = some (.cells #[x, v] t (0, 0)) := by
  have hlt := lt_of_block h
  have h' : w.heap[b] = .cells #[u, v] t (0, 0) := by simpa [Array.getElem?_eq_getElem hlt] using h
  show (w.heap.modify b _)[b]? = _
  rw [Array.getElem?_eq_getElem (by simpa using hlt), Array.getElem_modify_self, h']
  rfl
theorem two_set1 {w : World} {b : Nat} {u v x : Value} {t : TypeId} (h : w.heap[b]? = some (.cells #[u, v] t (0, 0))) : (w.setCell ⟨b, 1, none⟩ x).heap[b]? = some (.cells #[u, x] t (0, 0)) := by
  have hlt := lt_of_block h
  have h' : w.heap[b] = .cells #[u, v] t (0, 0) := by simpa [Array.getElem?_eq_getElem hlt] using h
  show (w.heap.modify b _)[b]? = _
  rw [Array.getElem?_eq_getElem (by simpa using hlt), Array.getElem_modify_self, h']
  rfl
theorem two_cells {w : World} {b : Nat} {u v : Value} {t : TypeId} (h : w.heap[b]? = some (.cells #[u, v] t (0, 0))) :
    w.cell? ⟨b, 0, none⟩ = some u ∧ w.cell? ⟨b, 1, none⟩ = some v ∧ w.frozen? ⟨b, 0, none⟩ = false ∧ w.frozen? ⟨b, 1, none⟩ = false := by
  simp [World.cell?, World.frozen?, h]

/-- 'x[n:]'. -/
theorem Rd.cut {P : Program} {w : World} {x : Value} {l : List UInt8} (h : Rd w x l) (t e : TypeId) (ht : P.underlying t = some (.slice e)) (hinfo : (P.info? e).map (fun i => (i.zero, i.size, i.bytes)) = some (some (.int .u8 0), 1, 1)) (n : Nat) (hn : n ≤ l.length) :
    ∃ (ao : Option Addr) (c : Nat), (∀ W, (Instr.slice t x (some (.int .i64 (n : Int))) none none).run P W = .ok (.slice ao (l.length - n) c) W) ∧ Rd w (.slice ao (l.length - n) c) (l.drop n) ∧ (∀ k, blk (.slice ao (l.length - n) c) = some k → blk x = some k) := by
  obtain ⟨i0, hi, hz0, hz1, hz2⟩ := info_parts hinfo
  obtain ⟨ao, c, rfl, h1, h2, h3, h4⟩ := h
  have ht' : P.underlying t = some (.slice (P.elem t)) := by simp [Program.elem, ht]
  have he : P.elem t = e := by simp [Program.elem, ht]
  have hs : ∀ W, (sizeOf e).run P W = .ok 1 W := fun W => by simp [sizeOf, typeInfo, hi, hz1]
  have hlen : (l.drop n).length = l.length - n := List.length_drop
  refine ⟨if c = n then ao else ao.map (·.add (n * 1)), c - n, fun W => ?_, ?_, ?_⟩
  · rw [run_slice_l W t _ _ _ ht' .i64 _ (by omega) (by omega), he, hs]
    simp [Result.andThen, sliced]
  · refine ⟨_, _, by rw [hlen], by rw [hlen]; omega, by omega, ?_, ?_⟩
    · intro hne
      split at hne
      · omega
      · cases ao with
        | none => have := h3 rfl; omega
        | some a => simp at hne
    · intro a ha j u hu
      have hj : j < l.length - n := by
        have := (List.getElem?_eq_some_iff.1 hu).1
        simpa using this
      rw [if_neg (by omega)] at ha
      cases ao with
      | none => simp at ha
      | some a0 =>
        simp at ha
        subst ha
        rw [List.map_drop, List.getElem?_drop] at hu
        have := h4 a0 rfl (n + j) u hu
        have e2 : (a0.add n).add j = a0.add (n + j) := by
          unfold Addr.add
          by_cases hn0 : n = 0
          · subst hn0; simp
          · by_cases hj0 : j = 0
            · subst hj0; simp
            · simp [hn0, hj0]; omega
        rw [e2]
        exact this
  · intro k hk
    split at hk
    · cases ao with
      | none => simp [blk] at hk
      | some a => simpa [blk] using hk
    · cases ao with
      | none => simp [blk] at hk
      | some a => simpa [blk, add_block] using hk

/-- 'x[:n]'. -/
theorem Rd.head {P : Program} {w : World} {x : Value} {l : List UInt8} (h : Rd w x l) (t e : TypeId) (ht : P.underlying t = some (.slice e)) (hinfo : (P.info? e).map (fun i => (i.zero, i.size, i.bytes)) = some (some (.int .u8 0), 1, 1)) (n : Nat) (hn : n ≤ l.length) :
    ∃ (ao : Option Addr) (c : Nat), (∀ k W, (Instr.slice t x none (some (.int k (n : Int))) none).run P W = .ok (.slice ao n c) W) ∧ Rd w (.slice ao n c) (l.take n) ∧ (∀ k, blk (.slice ao n c) = some k → blk x = some k) := by
  obtain ⟨i0, hi, hz0, hz1, hz2⟩ := info_parts hinfo
  obtain ⟨ao, c, rfl, h1, h2, h3, h4⟩ := h
  have ht' : P.underlying t = some (.slice (P.elem t)) := by simp [Program.elem, ht]
  have he : P.elem t = e := by simp [Program.elem, ht]
  have hs : ∀ W, (sizeOf e).run P W = .ok 1 W := fun W => by simp [sizeOf, typeInfo, hi, hz1]
  have hlen : (l.take n).length = n := by rw [List.length_take]; omega
  have hsame : (if c = 0 then ao else ao.map (·.add (0 * 1))) = ao := by
    split
    · rfl
    · cases ao <;> simp [Addr.add]
  refine ⟨ao, c, fun k W => ?_, ⟨ao, c, by rw [hlen], by rw [hlen]; omega, h2, h3, fun a ha j u hu => ?_⟩, fun k hk => by cases ao with | none => simp [blk] at hk | some a => simpa [blk] using hk⟩
  · rw [run_slice_h W t _ _ _ ht' k _ (by omega) (by omega), he, hs]
    simp only [Result.andThen, sliced]
    rw [hsame]
    simp
  · refine h4 a ha j u ?_
    rw [List.map_take, List.getElem?_take] at hu
    split at hu
    · exact hu
    · cases hu

theorem Rd.take {w : World} {ao : Option Addr} {m c : Nat} {l : List UInt8} (h : Rd w (.slice ao m c) l) (n : Nat) (hn : n ≤ l.length) : Rd w (.slice ao n c) (l.take n) := by
  obtain ⟨ao', c', he, h1, h2, h3, h4⟩ := h
  simp only [Value.slice.injEq] at he
  obtain ⟨rfl, rfl, rfl⟩ := he
  have hlen : (l.take n).length = n := by rw [List.length_take]; omega
  refine ⟨ao, c, by rw [hlen], by rw [hlen]; omega, h2, h3, fun a ha j u hu => h4 a ha j u ?_⟩
  rw [List.map_take, List.getElem?_take] at hu
  split at hu
  · exact hu
  · cases hu

/-- 'x[lo:hi]'. -/
theorem Rd.mid {P : Program} {w : World} {x : Value} {l : List UInt8} (h : Rd w x l) (t e : TypeId) (ht : P.underlying t = some (.slice e)) (hinfo : (P.info? e).map (fun i => (i.zero, i.size, i.bytes)) = some (some (.int .u8 0), 1, 1)) (lo hi : Nat) (hlo : lo ≤ hi) (hhi : hi ≤ l.length) :
    ∃ (ao : Option Addr) (c : Nat), (∀ W, (Instr.slice t x (some (.int .i64 (lo : Int))) (some (.int .i64 (hi : Int))) none).run P W = .ok (.slice ao (hi - lo) c) W) ∧ Rd w (.slice ao (hi - lo) c) ((l.drop lo).take (hi - lo)) ∧ (∀ k, blk (.slice ao (hi - lo) c) = some k → blk x = some k) := by
  obtain ⟨i0, hi0, hz0, hz1, hz2⟩ := info_parts hinfo
  obtain ⟨ao1, c1, hs1, h5, h6⟩ := h.cut t e ht hinfo lo (by omega)
  obtain ⟨ao, c, rfl, h1, h2, h3, h4⟩ := h
  have ht' : P.underlying t = some (.slice (P.elem t)) := by simp [Program.elem, ht]
  have he : P.elem t = e := by simp [Program.elem, ht]
  have hs : ∀ W, (sizeOf e).run P W = .ok 1 W := fun W => by simp [sizeOf, typeInfo, hi0, hz1]
  have key : ∀ W : World, (Value.slice (if c = lo then ao else ao.map (·.add (lo * 1))) (l.length - lo) (c - lo)) = .slice ao1 (l.length - lo) c1 := fun W => by
    have := hs1 W
    rw [run_slice_l W t _ _ _ ht' .i64 _ (by omega) (by omega), he, hs] at this
    simp only [Result.andThen, sliced, Int.toNat_natCast, Result.ok.injEq, and_true] at this
    exact this
  have hk := key w
  simp only [Value.slice.injEq, true_and] at hk
  refine ⟨ao1, c1, fun W => ?_, ?_, ?_⟩
  · rw [run_slice_lh W t _ _ _ ht' .i64 .i64 _ _ (by omega) (by omega) (by omega), he, hs]
    simp only [Result.andThen, sliced, Int.toNat_natCast]
    rw [hk.1, hk.2]
  · exact h5.take (hi - lo) (by rw [List.length_drop]; omega)
  · intro k hk2
    apply h6 k
    cases ao1 with
    | none => simp [blk] at hk2
    | some a => simpa [blk] using hk2

theorem Rd.len {P : Program} {w : World} {x : Value} {l : List UInt8} (h : Rd w x l) (t e ty : TypeId) (ht : P.underlying t = some (.slice e)) :
    ∀ W, (Builtin.len_ #[t] ty #[x]).run P W = .ok (goInt l.length) W := by
  obtain ⟨ao, c, rfl, h1, h2, h3, h4⟩ := h
  have ht' : P.underlying t = some (.slice (P.elem t)) := by simp [Program.elem, ht]
  exact fun W => run_len_slice W t ty _ _ _ ht'

/-- The bytes that one value makes: what a call gives back, in new memory. -/
def Gives (e8 : TypeId) (w : World) (l : List UInt8) (e : Ending) (w' : World) : Prop :=
  ∃ x, e = .returned x ∧ w'.ownsRow w.heap.size e8 1 x l.length (l.map bv) ∧ Below w.heap.size w w'

/-- The value's shape, for the walk. -/
theorem Gives.elim {e8 : TypeId} {w : World} {l : List UInt8} {e : Ending} {w' : World} (h : Gives e8 w l e w') :
    ∃ (ao : Option Addr) (c : Nat), e = .returned (.slice ao l.length c) ∧ w'.ownsRow w.heap.size e8 1 (.slice ao l.length c) l.length (l.map bv) ∧ Below w.heap.size w w' := by
  obtain ⟨x, rfl, h1, h2⟩ := h
  obtain ⟨ao, c, rfl, _⟩ := Rd.own h1
  exact ⟨ao, c, rfl, h1, h2⟩

end Go.Proofs.Ytafcbelkhhjcoaa
