/-
  WHAT STAYS WHERE ONLY SOME BLOCKS MAY TURN.
-/
import Derived.Test.YtafcbelkhhjcoaaRws
set_option linter.unusedVariables false
namespace Go.Proofs.Ytafcbelkhhjcoaa
open Go.RowKit

/-- All that lay lies, but for the blocks of X. -/
structure Keep (X : Nat → Prop) (w w' : World) : Prop where
  os : w'.os = w.os
  tape : w'.tape = w.tape
  output : w'.output = w.output
  size : w.heap.size ≤ w'.heap.size
  block : ∀ k, k < w.heap.size → ¬ X k → w'.heap[k]? = w.heap[k]?

theorem Keep.refl (X : Nat → Prop) (w : World) : Keep X w w := ⟨rfl, rfl, rfl, Nat.le_refl _, fun _ _ _ => rfl⟩
theorem Keep.trans {X : Nat → Prop} {a b c : World} (h : Keep X a b) (k : Keep X b c) : Keep X a c :=
  ⟨k.os.trans h.os, k.tape.trans h.tape, k.output.trans h.output, Nat.le_trans h.size k.size, fun i hi hn => (k.block i (Nat.lt_of_lt_of_le hi h.size) hn).trans (h.block i hi hn)⟩
/-- The second step's blocks: some of the first one's, or new ones. -/
theorem Keep.trans2 {X Y : Nat → Prop} {a b c : World} (h : Keep X a b) (k : Keep Y b c) (hy : ∀ i, Y i → X i ∨ a.heap.size ≤ i) : Keep X a c :=
  ⟨k.os.trans h.os, k.tape.trans h.tape, k.output.trans h.output, Nat.le_trans h.size k.size, fun i hi hn => (k.block i (Nat.lt_of_lt_of_le hi h.size) (fun e => (hy i e).elim hn (by omega))).trans (h.block i hi hn)⟩
theorem Keep.mono {X Y : Nat → Prop} {a b : World} (h : Keep X a b) (hxy : ∀ k, k < a.heap.size → X k → Y k) : Keep Y a b :=
  ⟨h.os, h.tape, h.output, h.size, fun i hi hn => h.block i hi (fun hx => hn (hxy i hi hx))⟩
theorem Keep.of_below {X : Nat → Prop} {w w' : World} (h : Below w.heap.size w w') : Keep X w w' := ⟨h.os, h.tape, h.output, h.size, fun k hk _ => h.block k hk⟩
theorem Keep.of_grown {X : Nat → Prop} {w w' : World} {row : Option Nat} (h : w.grownBy w' row) (hx : ∀ k, row = some k → X k) : Keep X w w' :=
  ⟨h.os, h.tape, h.output, h.size, fun k hk hn => h.block k hk (fun e => hn (hx k e.symm))⟩
theorem Keep.below {X : Nat → Prop} {w w' : World} {n : Nat} (h : Keep X w w') (hn : n ≤ w.heap.size) (hx : ∀ k, X k → n ≤ k) : Below n w w' :=
  ⟨h.os, h.tape, h.output, h.size, fun k hk => h.block k (Nat.lt_of_lt_of_le hk hn) (fun hx' => by have := hx k hx'; omega)⟩
theorem Keep.set {X : Nat → Prop} (w : World) (a : Addr) (v : Value) (hx : X a.block) : Keep X w (w.setCell a v) := Keep.of_grown (grown_set w a v) (fun k e => by cases e; exact hx)
theorem Keep.setCells {X : Nat → Prop} {b : Nat} (hx : X b) : ∀ (vs : List Value) (o : Nat) (w0 w : World), Keep X w0 w → Keep X w0 (w.setCells b o vs)
  | [], _, _, _, h => h
  | v :: r, o, w0, w, h => by
    rw [World.setCells]
    exact Keep.setCells hx r (o + 1) w0 _ (h.trans (Keep.set w ⟨b, o, none⟩ v hx))
/-- What is owned stays owned. -/
theorem own_keep {X : Nat → Prop} {w w' : World} {base : Nat} {e : TypeId} {size : Nat} {v : Value} {n : Nat} {xs : List Value} (h : w.ownsRow base e size v n xs) (hk : Keep X w w') (hx : ∀ k, v.ownBlock = some k → ¬ X k) : w'.ownsRow base e size v n xs :=
  ⟨h.1, h.2.imp id fun ⟨g, cap, cur, a, b, c, d⟩ => ⟨g, cap, cur, a, b, by rw [hk.block g (lt_of_block c) (hx g (by rw [a]; rfl))]; exact c, d⟩⟩

theorem Rd.keep {X : Nat → Prop} {w w' : World} {x : Value} {l : List UInt8} (h : Rd w x l) (hk : Keep X w w') (hx : l ≠ [] → ∀ k, blk x = some k → ¬ X k) : Rd w' x l := by
  obtain ⟨ao, c, rfl, h1, h2, h3, h4⟩ := h
  refine ⟨ao, c, rfl, h1, h2, h3, fun a ha j u hu => ?_⟩
  subst ha
  have h6 := h4 a rfl j u hu
  have hlt := World.block_lt_of_cell? w _ h6
  rw [World.cell?_of_block (w := w) (a := a.add j) (hk.block _ hlt (by rw [add_block]; exact hx (fun e => by subst e; simp at hu) _ rfl))]
  exact h6
theorem Rws.keep {X : Nat → Prop} {size : Nat} {w w' : World} {x : Value} {L : List (List Value)} (h : Rws size w x L) (hk : Keep X w w') (hx : L ≠ [] → ∀ k, blk x = some k → ¬ X k) : Rws size w' x L := by
  obtain ⟨ao, c, rfl, h1, h2, h3, h5, h4⟩ := h
  refine ⟨ao, c, rfl, h1, h2, h3, h5, fun a ha j u hu => ?_⟩
  subst ha
  have h6 := h4 a rfl j u hu
  have hlt := World.block_lt_of_cell? w _ h6
  rw [World.cell?_of_block (w := w) (a := a.add j) (hk.block _ hlt (by rw [add_block]; exact hx (fun e => by subst e; simp at hu) _ rfl))]
  exact h6
theorem blk_of {ao : Option Addr} {n c k : Nat} (h : blk (.slice ao n c) = some k) : ∃ a, ao = some a ∧ a.block = k := by
  cases ao with
  | none => cases h
  | some a => exact ⟨a, rfl, by simpa [blk] using h⟩
theorem rd_block {w : World} {ao : Option Addr} {n c : Nat} {l : List UInt8} (h : Rd w (.slice ao n c) l) (hn : l ≠ []) : ∀ a, ao = some a → a.block < w.heap.size := by
  intro a ha
  subst ha
  obtain ⟨ao', c', he, h1, h2, h3, h4⟩ := h
  simp only [Value.slice.injEq] at he
  obtain ⟨rfl, rfl, rfl⟩ := he
  cases l with
  | nil => exact (hn rfl).elim
  | cons x l => have := World.block_lt_of_cell? w _ (h4 a rfl 0 _ rfl); rwa [add_block] at this
theorem rws_block {size : Nat} {w : World} {ao : Option Addr} {n c : Nat} {L : List (List Value)} (hs : 0 < size) (h : Rws size w (.slice ao n c) L) (hn : L ≠ []) : ∀ a, ao = some a → a.block < w.heap.size := by
  intro a ha
  cases L with
  | nil => exact (hn rfl).elim
  | cons r l =>
    have hr := h.wide r (by simp)
    obtain ⟨b, off, e, hc⟩ := h.get hs (k := 0) (r := r) rfl
    rw [ha] at e
    cases e
    have hr0 : r[0]? = some (r[0]'(by omega)) := List.getElem?_eq_getElem (by omega)
    have h9 := World.block_lt_of_cell? w _ (hc 0 _ hr0)
    exact h9
theorem below_on2 {a b c : World} (h : Below a.heap.size a b) (k : Below b.heap.size b c) : Below a.heap.size a c := h.trans (k.mono h.size)
theorem ownBlock_blk (v : Value) : v.ownBlock = blk v := by cases v <;> first | rfl | (rename_i a n c; cases a <;> rfl)

/-- Behind 'append' the row lies where it lay, or in a new block. -/
theorem app_fresh {P : Program} {w w' : World} {base : Nat} {t ty e : TypeId} {i : TypeInfo} {z : Value} {size bytes : Nat} (ht : P.underlying t = some (.slice e)) (hi : P.info? e = some i) (hz : i.zero = some z)
    (hsize : i.size = size) (hby : i.bytes = bytes) (hzs : z.cells.size = size) (hsz : 0 < size)
    {v v' : Value} {n : Nat} {xs : List Value} (hown : w.ownsRow base e size v n xs)
    {a : Addr} {m c : Nat} {news : List Value} (hl : news.length = m * size) (hnews : ∀ j u, news[j]? = some u → w.cell? (a.add j) = some u) (h1 : ∀ u ∈ news, u.oneCell' = true)
    (h63 : n + m ≤ maxLen) (hbytes : (n + m) * bytes ≤ 140737488355328) (hr : (Builtin.append_ #[t, t] ty #[v, .slice (some a) m c]).run P w = .ok v' w') :
    ∀ k, v'.ownBlock = some k → v.ownBlock = some k ∨ w.heap.size ≤ k := by
  have hown0 := hown
  rcases hown.2 with ⟨rfl, rfl⟩ | ⟨g, cap, cur, rfl, hbg, hg, hnc, hcm, hcs, htake⟩
  · have hx : xs = [] := List.eq_nil_of_length_eq_zero (by simpa using hown.1)
    subst hx
    obtain ⟨v2, w2, hr2, ho, -, -⟩ := run_append_own (P := P) w w.heap.size t ty e i z size bytes ht hi hz hsize hby hzs hsz _ 0 [] (World.ownsRow_nil w w.heap.size e size) a m c news hl hnews h1 h63 hbytes (Nat.le_refl _)
    rw [hr] at hr2
    cases hr2
    exact fun k hk => .inr (ho.lt k hk).1
  · subst hsize
    subst hby
    by_cases hroom : n + m ≤ cap
    · have hfit : n * i.size + news.length ≤ cur.size := by rw [hl, hcs, ← Nat.add_mul]; exact Nat.mul_le_mul_right _ hroom
      have hr2 := run_append_room (P := P) w t ty e i ht hi g n cap cur hg a m c news hl hnews h1 hroom hfit
      rw [hr] at hr2
      cases hr2
      exact fun k hk => .inl hk
    · have hr2 := run_append_grow (P := P) (ty := ty) w t e i z ht hi hz ⟨g, 0, none⟩ n cap xs hown.1 (hown0.cells (g := g) rfl) a m c news hl hnews (by omega) (by simp only [maxLen] at h63; omega) (growslice_fits (by omega) hbytes)
      rw [hr] at hr2
      cases hr2
      exact fun k hk => .inr (by simp [Value.ownBlock] at hk; omega)
end Go.Proofs.Ytafcbelkhhjcoaa
