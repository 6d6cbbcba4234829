/-
  VALUES IN MEMORY: 'Vs w x l' (the slice x reads as the values l in the world w); what Go's builtins do with it.
-/
import Derived.Test.YtacmidfcocjdjaaTMath
import Derived.Test.YtacmidfcocjdjaaBytes
import Derived.Deep.Slices
namespace Go.Proofs.Ytacmidfcocjdjaa
open Go.RowKit

/-- Bytes that are there lie at a plain address. -/
theorem Rd.at {w : World} {x : Value} {l : List UInt8} (h : Rd w x l) (hl : 0 < l.length) :
    ∃ b off c, x = .slice (some ⟨b, off, none⟩) l.length c ∧ l.length ≤ c ∧ c ≤ maxLen ∧ ∀ j (hj : j < l.length), w.cell? ⟨b, off + j, none⟩ = some (.int .u8 ((l[j]).toNat : Int)) := by
  obtain ⟨ao, c, rfl, h1, h2, h3, h4⟩ := h
  cases ao with
  | none => have := h3 rfl; omega
  | some a =>
    obtain ⟨b, off, spot⟩ := a
    have h0 := h4 _ rfl 0 (bv l[0]) (by simp [List.getElem?_eq_getElem hl])
    have hspot : spot = none := by simpa [Addr.add] using World.cell?_spot h0
    subst hspot
    refine ⟨b, off, c, rfl, h1, h2, fun j hj => ?_⟩
    have hj' := h4 _ rfl j (bv l[j]) (by simp [List.getElem?_eq_getElem hj])
    rw [WideShapes.add_plain] at hj'
    exact hj'

theorem Rd.size {w : World} {ao : Option Addr} {n c : Nat} {l : List UInt8} (h : Rd w (.slice ao n c) l) : n = l.length := by
  obtain ⟨_, _, h1, _⟩ := h
  simp only [Value.slice.injEq] at h1
  exact h1.2.1

/-- A value's cells, and the value. -/
def cellsV (v : Vl) : List Value := [.int .i64 v.k, .int .i64 v.i, .string ⟨v.s.toArray⟩]
def sv (v : Vl) : Value := .agg #[.int .i64 v.k, .int .i64 v.i, .string ⟨v.s.toArray⟩]
def cellsL (l : List Vl) : List Value := l.flatMap cellsV

theorem cellsL_len (l : List Vl) : (cellsL l).length = l.length * 3 := by
  induction l with
  | nil => rfl
  | cons v l ih =>
    have e : cellsL (v :: l) = cellsV v ++ cellsL l := rfl
    rw [e, List.length_append, ih, List.length_cons]
    show 3 + l.length * 3 = _
    omega

theorem cellsL_app (a b : List Vl) : cellsL (a ++ b) = cellsL a ++ cellsL b := by unfold cellsL; rw [List.flatMap_append]

theorem cellsL_one (l : List Vl) : ∀ u ∈ cellsL l, u.oneCell' = true := by
  intro u hu
  obtain ⟨v, _, hv⟩ := List.mem_flatMap.1 hu
  simp only [cellsV, List.mem_cons, List.not_mem_nil, or_false] at hv
  rcases hv with rfl | rfl | rfl <;> rfl

theorem cellsL_at {l : List Vl} : ∀ {j : Nat} {v : Vl}, l[j]? = some v → (cellsL l)[j * 3]? = some (.int .i64 v.k) ∧ (cellsL l)[j * 3 + 1]? = some (.int .i64 v.i) ∧ (cellsL l)[j * 3 + 2]? = some (.string ⟨v.s.toArray⟩) := by
  induction l with
  | nil => intro j v h; simp at h
  | cons u l ih =>
    intro j v h
    have e : cellsL (u :: l) = .int .i64 u.k :: .int .i64 u.i :: .string ⟨u.s.toArray⟩ :: cellsL l := rfl
    rw [e]
    cases j with
    | zero => simp at h; subst h; exact ⟨rfl, rfl, rfl⟩
    | succ j =>
      have h' : l[j]? = some v := by simpa using h
      have := ih h'
      have e1 : (j + 1) * 3 = j * 3 + 3 := by omega
      rw [e1]
      exact this

/-- The slice x reads as the values l. -/
def Vs (w : World) (x : Value) (l : List Vl) : Prop :=
  ∃ (ao : Option Addr) (c : Nat), x = .slice ao l.length c ∧ l.length ≤ c ∧ c ≤ maxLen ∧ (ao = none → c = 0) ∧
    ∀ a, ao = some a → ∀ (j : Nat) u, (cellsL l)[j]? = some u → w.cell? (a.add j) = some u

theorem Vs.nil (w : World) : Vs w (.slice none 0 0) [] := ⟨none, 0, rfl, by simp, by simp, fun _ => rfl, fun a h => by cases h⟩

theorem Vs.kept {w w' : World} {x : Value} {l : List Vl} {row : Option Nat} (h : Vs w x l) (hg : w.grownBy w' row) (hne : blk x = none ∨ blk x ≠ row) : Vs w' x l := by
  obtain ⟨ao, c, rfl, h1, h2, h3, h4⟩ := h
  refine ⟨ao, c, rfl, h1, h2, h3, fun a ha j u hu => ?_⟩
  subst ha
  have h6 := h4 a rfl j u hu
  have hlt := World.block_lt_of_cell? w _ h6
  rw [World.cell?_of_block (w := w) (a := a.add j) (hg.block _ hlt (by rw [add_block]; simpa [blk] using hne))]
  exact h6

theorem Vs.old {w w' : World} {x : Value} {l : List Vl} (h : Vs w x l) (hb : Below w.heap.size w w') : Vs w' x l := by
  obtain ⟨ao, c, rfl, h1, h2, h3, h4⟩ := h
  refine ⟨ao, c, rfl, h1, h2, h3, fun a ha j u hu => ?_⟩
  subst ha
  have h6 := h4 a rfl j u hu
  rw [hb.cell (p := a.add j) (World.block_lt_of_cell? w _ h6)]
  exact h6

theorem Vs.len {P : Program} {w : World} {x : Value} {l : List Vl} (h : Vs w x l) (t e ty : TypeId) (ht : P.underlying t = some (.slice e)) :
    ∀ W, (Builtin.len_ #[t] ty #[x]).run P W = .ok (goInt l.length) W := by
  obtain ⟨ao, c, rfl, h1, h2, h3, h4⟩ := h
  have ht' : P.underlying t = some (.slice (P.elem t)) := by simp [Program.elem, ht]
  exact fun W => run_len_slice W t ty _ _ _ ht'

theorem Vs.form {w : World} {x : Value} {l : List Vl} (h : Vs w x l) : ∃ ao c, x = .slice ao l.length c ∧ l.length ≤ maxLen := by
  obtain ⟨ao, c, rfl, h1, h2, h3, h4⟩ := h
  exact ⟨ao, c, rfl, Nat.le_trans h1 h2⟩

/-- Values that are there lie at a plain address. -/
theorem Vs.at {w : World} {x : Value} {l : List Vl} (h : Vs w x l) (hl : 0 < l.length) :
    ∃ b off c, x = .slice (some ⟨b, off, none⟩) l.length c ∧ l.length ≤ c ∧ c ≤ maxLen ∧ ∀ j v, l[j]? = some v →
      w.cell? ⟨b, off + j * 3, none⟩ = some (.int .i64 v.k) ∧ w.cell? ⟨b, off + j * 3 + 1, none⟩ = some (.int .i64 v.i) ∧ w.cell? ⟨b, off + j * 3 + 2, none⟩ = some (.string ⟨v.s.toArray⟩) := by
  obtain ⟨ao, c, rfl, h1, h2, h3, h4⟩ := h
  cases ao with
  | none => have := h3 rfl; omega
  | some a =>
    obtain ⟨b, off, spot⟩ := a
    have h0 := h4 _ rfl (0 * 3) _ (cellsL_at (List.getElem?_eq_getElem hl)).1
    have hspot : spot = none := by simpa [Addr.add] using World.cell?_spot h0
    subst hspot
    refine ⟨b, off, c, rfl, h1, h2, fun j v hj => ?_⟩
    obtain ⟨q1, q2, q3⟩ := cellsL_at hj
    have p1 := h4 _ rfl _ _ q1
    have p2 := h4 _ rfl _ _ q2
    have p3 := h4 _ rfl _ _ q3
    rw [WideShapes.add_plain] at p1 p2 p3
    exact ⟨p1, p2, p3⟩

/-- One value's cells. -/
theorem Vs.get {w : World} {ao : Option Addr} {n c : Nat} {l : List Vl} (h : Vs w (.slice ao n c) l) {k : Nat} {v : Vl} (hk : l[k]? = some v) :
    ∃ b off, ao = some ⟨b, off, none⟩ ∧ w.cell? ⟨b, off + k * 3, none⟩ = some (.int .i64 v.k) ∧ w.cell? ⟨b, off + k * 3 + 1, none⟩ = some (.int .i64 v.i) ∧ w.cell? ⟨b, off + k * 3 + 2, none⟩ = some (.string ⟨v.s.toArray⟩) := by
  have hl : 0 < l.length := by have := (List.getElem?_eq_some_iff.1 hk).1; omega
  obtain ⟨b, off, c', he, -, -, hc⟩ := h.at hl
  simp only [Value.slice.injEq] at he
  exact ⟨b, off, he.1, hc k v hk⟩

theorem Vs.size {w : World} {ao : Option Addr} {n c : Nat} {l : List Vl} (h : Vs w (.slice ao n c) l) : n = l.length ∧ l.length ≤ c ∧ c ≤ maxLen := by
  obtain ⟨_, _, h1, h2, h3, _⟩ := h
  simp only [Value.slice.injEq] at h1
  obtain ⟨-, rfl, rfl⟩ := h1
  exact ⟨rfl, h2, h3⟩

/-- What the call itself made. -/
theorem Vs.own {w : World} {base : Nat} {e : TypeId} {x : Value} {l : List Vl} (h : w.ownsRow base e 3 x l.length (cellsL l)) : Vs w x l := by
  obtain ⟨h1, h2⟩ := h
  rcases h2 with ⟨rfl, hn⟩ | ⟨g, cap, cur, rfl, hb, hg, hn, hc, hs, ht⟩
  · obtain rfl : l = [] := List.eq_nil_of_length_eq_zero hn
    exact Vs.nil w
  · refine ⟨some ⟨g, 0, none⟩, cap, rfl, hn, hc, (fun h => by cases h), fun a ha => ?_⟩
    cases ha
    intro j u hu
    rw [WideShapes.add_plain, Nat.zero_add, cell_of_row w g j cur e (0, 0) hg]
    rw [← ht, List.getElem?_take] at hu
    split at hu
    · simpa using hu
    · cases hu

theorem Vs.take {w : World} {ao : Option Addr} {m c : Nat} {l : List Vl} (h : Vs w (.slice ao m c) l) (n : Nat) (hn : n ≤ l.length) : Vs w (.slice ao n c) (l.take n) := by
  obtain ⟨ao', c', he, h1, h2, h3, h4⟩ := h
  simp only [Value.slice.injEq] at he
  obtain ⟨rfl, rfl, rfl⟩ := he
  have hlen : (l.take n).length = n := by rw [List.length_take]; omega
  refine ⟨ao, c, by rw [hlen], by rw [hlen]; omega, h2, h3, fun a ha j u hu => h4 a ha j u ?_⟩
  have e : cellsL l = cellsL (l.take n) ++ cellsL (l.drop n) := by rw [← cellsL_app, List.take_append_drop]
  rw [e, List.getElem?_append_left]
  · exact hu
  · exact (List.getElem?_eq_some_iff.1 hu).1

/-- 'x[:n]'. -/
theorem Vs.head {P : Program} {w : World} {x : Value} {l : List Vl} (h : Vs w x l) (t e : TypeId) (ht : P.underlying t = some (.slice e)) (hinfo : (P.info? e).map (fun i => i.size) = some 3) (n : Nat) (hn : n ≤ l.length) :
    ∃ (ao : Option Addr) (c : Nat), (∀ k W, (Instr.slice t x none (some (.int k (n : Int))) none).run P W = .ok (.slice ao n c) W) ∧ Vs w (.slice ao n c) (l.take n) ∧ (∀ k, blk (.slice ao n c) = some k → blk x = some k) := by
  obtain ⟨i0, hi, hz1⟩ : ∃ i, P.info? e = some i ∧ i.size = 3 := by
    cases hq : P.info? e with
    | none => rw [hq] at hinfo; cases hinfo
    | some i => rw [hq] at hinfo; exact ⟨i, rfl, by simpa using hinfo⟩
  have h' := h
  obtain ⟨ao, c, rfl, h1, h2, h3, h4⟩ := h
  have ht' : P.underlying t = some (.slice (P.elem t)) := by simp [Program.elem, ht]
  have he : P.elem t = e := by simp [Program.elem, ht]
  have hs : ∀ W, (sizeOf e).run P W = .ok 3 W := fun W => by simp [sizeOf, typeInfo, hi, hz1]
  have hsame : (if c = 0 then ao else ao.map (·.add (0 * 3))) = ao := by
    split
    · rfl
    · cases ao <;> simp [Addr.add]
  refine ⟨ao, c, fun k W => ?_, h'.take n hn, fun k hk => by cases ao with | none => simp [blk] at hk | some a => simpa [blk] using hk⟩
  rw [run_slice_h W t _ _ _ ht' k _ (by omega) (by omega), he, hs]
  simp only [Result.andThen, sliced]
  rw [hsame]
  simp

/-- 'append(v, x...)', v the call's own, x whatever. -/
theorem wp_vapp {P : Program} {w : World} {ops : Array Oper} {rest : List Oper} {o : Oper} {a : Act} {Q : Exit → Act → World → Prop} (hgd : o.guard = none) (s x : Operand) (t : TypeId)
    (ho : o.op = .call { callee := .builtin .append, args := #[s, x], argTypes := #[t, t] })
    (base : Nat) (e : TypeId) (ht : P.underlying t = some (.slice e)) (z : Value) (hinfo : (P.info? e).map (fun i => (i.zero, i.size, i.bytes)) = some (some z, 3, 32)) (hzs : z.cells.size = 3)
    (v : Value) (n : Nat) (xs : List Value) (hs : a.eval s = v) (hown : w.ownsRow base e 3 v n xs)
    (y : Value) (l : List Vl) (hx : a.eval x = y) (hr : Vs w y l) (hn : n + l.length ≤ 1000000) (hbase : base ≤ w.heap.size)
    (h : ∀ v' w', w'.ownsRow base e 3 v' (n + l.length) (xs ++ cellsL l) → w.grownBy w' v.ownBlock → wpList P ops Q rest (a.put o.dst v') w') : wpList P ops Q (o :: rest) a w := by
  obtain ⟨i0, hi, hz0, hz1, hz2⟩ : ∃ i, P.info? e = some i ∧ i.zero = some z ∧ i.size = 3 ∧ i.bytes = 32 := by
    cases hq : P.info? e with
    | none => rw [hq] at hinfo; cases hinfo
    | some i => rw [hq] at hinfo; simp at hinfo; exact ⟨i, rfl, hinfo⟩
  obtain ⟨ao, c, rfl, h1, h2, h3, h4⟩ := hr
  cases ao with
  | some ad =>
    exact wpList_append_own w hgd s x t ho base e i0 z 3 32 ht hi hz0 hz1 hz2 hzs (by decide) v n xs hs hown ad l.length c (cellsL l) hx (cellsL_len l) (h4 ad rfl) (cellsL_one l)
      (by unfold maxLen; omega) (by omega) hbase fun v' w' a1 a2 _ => h v' w' a1 a2
  | none =>
    have hc := h3 rfl
    obtain rfl : l = [] := List.eq_nil_of_length_eq_zero (by omega)
    subst hc
    exact wpList_append_own_none hgd s x t ho base e i0 3 ht hi v n xs hs hown hx (h v w (by simpa [cellsL] using hown) (World.grownBy.refl _ _))

theorem alloc_old {w : World} {o o' : Obj} {k : Nat} (h : w.heap[k]? = some o') : (w.alloc o).heap[k]? = some o' := by
  rw [Below.heap_alloc _ _ _ (lt_of_block h)]; exact h

/-- '==' on two values. -/
theorem ba_eq (a b : List UInt8) : ((⟨a.toArray⟩ : ByteArray).toList == (⟨b.toArray⟩ : ByteArray).toList) = (a == b) := by
  rw [ByteArray.toList_eq, ByteArray.toList_eq]

/-- What a call that makes at most memory of its own gives. -/
def Ans (w : World) (v : Value) (e : Ending) (w' : World) : Prop := e = .returned v ∧ Below w.heap.size w w'

end Go.Proofs.Ytacmidfcocjdjaa
