/-
  WAL: what the rounds of 'add' keep.
-/
import Derived.Test.YtcbbklbjfknnlaaDoorWm
import Derived.Test.YtcbbklbjfknnlaaDoorWd
set_option linter.unusedVariables false
set_option maxRecDepth 100000
namespace Go.Proofs.YtcbbklbjfknnlaaDoor
open Go.RowKit Go.Shelf

/-- The sectors behind j pieces. -/
def addS (n : Nat) (h : Hd) (at0 : Nat) (B : List UInt8) (S : List (List UInt8)) : Nat → List (List UInt8)
  | 0 => S
  | k + 1 => (addS n h at0 B S k).set (plc n h (at0 + k)) (secB (pc B k) (nmb n h (at0 + k)))
theorem addS_len (n : Nat) (h : Hd) (at0 : Nat) (B : List UInt8) (S : List (List UInt8)) : ∀ k, (addS n h at0 B S k).length = S.length
  | 0 => rfl
  | k + 1 => by rw [addS, List.length_set, addS_len n h at0 B S k]

/-- The writes of j pieces. -/
def addQ (n : Nat) (h : Hd) (at0 : Nat) (B : List UInt8) (S : List (List UInt8)) : Nat → List Wr
  | 0 => []
  | k + 1 => addQ n h at0 B S k ++ [⟨plc n h (at0 + k), (addS n h at0 B S k).getD (plc n h (at0 + k)) [], secB (pc B k) (nmb n h (at0 + k))⟩]
theorem addQ_len (n : Nat) (h : Hd) (at0 : Nat) (B : List UInt8) (S : List (List UInt8)) : ∀ k, (addQ n h at0 B S k).length = k
  | 0 => rfl
  | k + 1 => by rw [addQ, List.length_append, addQ_len n h at0 B S k]; rfl

/-- What lay below n stays, but for the blocks X. -/
structure KpP (X : Nat → Prop) (n : Nat) (W W' : World) : Prop where
  os : W'.os = W.os
  tape : W'.tape = W.tape
  output : W'.output = W.output
  size : W.heap.size ≤ W'.heap.size
  block : ∀ k, k < n → ¬ X k → W'.heap[k]? = W.heap[k]?
theorem KpP.refl (X : Nat → Prop) (n : Nat) (W : World) : KpP X n W W := ⟨rfl, rfl, rfl, Nat.le_refl _, fun _ _ _ => rfl⟩
theorem KpP.trans {X : Nat → Prop} {n : Nat} {A B C : World} (h : KpP X n A B) (k : KpP X n B C) : KpP X n A C :=
  ⟨k.os.trans h.os, k.tape.trans h.tape, k.output.trans h.output, Nat.le_trans h.size k.size, fun i h1 h2 => (k.block i h1 h2).trans (h.block i h1 h2)⟩
theorem KpP.of {X : Nat → Prop} {n : Nat} {A B : World} (h : Below A.heap.size A B) (hn : n ≤ A.heap.size) : KpP X n A B := ⟨h.os, h.tape, h.output, h.size, fun k hk _ => h.block k (by omega)⟩
theorem KpP.grown {X : Nat → Prop} {n : Nat} {A B : World} {row : Option Nat} (h : A.grownBy B row) (hn : n ≤ A.heap.size) (hr : ∀ k, row = some k → n ≤ k ∨ X k) : KpP X n A B :=
  ⟨h.os, h.tape, h.output, h.size, fun k hk hb => h.block k (by omega) (fun e => by rcases hr k e.symm with h1 | h1; omega; exact hb h1)⟩
theorem KpP.turn {X : Nat → Prop} {n l : Nat} {A B : World} (h : Turn l A B) (hn : n ≤ l) : KpP X n A B := by
  obtain ⟨o, ho, _⟩ := h.old
  exact KpP.grown h.grown (by have := lt_of_block ho; omega) (fun k e => by cases e; exact .inl hn)
theorem KpP.of_keep {X Y : Nat → Prop} {n : Nat} {A B : World} (h : Keep Y A B) (hn : n ≤ A.heap.size) (hy : ∀ k, Y k → k < n → X k) : KpP X n A B :=
  ⟨h.os, h.tape, h.output, h.size, fun k hk hx => h.block k (by omega) (fun hyk => hx (hy k hyk hk))⟩

theorem KpP.toKeep {X : Nat → Prop} {n : Nat} {A B : World} (h : KpP X n A B) : Keep (fun k => n ≤ k ∨ X k) A B :=
  ⟨h.os, h.tape, h.output, h.size, fun k _ hx => h.block k (Nat.lt_of_not_le fun e => hx (.inl e)) (fun e => hx (.inr e))⟩

section
variable {base : Nat} {w w' : World} {lb db sb n : Nat} {vw rv vw' rv' : Value} {S S' : List (List UInt8)} {Q Q' : List Wr} {L L' : Ls} {R R' : List Rc}

/-- All of a log's blocks hold cells. -/
theorem Lg.cells (h : Lg base w lb db sb n vw rv S Q L R) : ∀ k, GL db sb vw lb rv k → ∃ c t f, w.heap[k]? = some (.cells c t f) := fun k hk => by
  rcases hk with (hk | hk | hk | hk) | hk
  · exact ⟨_, _, _, by rw [hk]; exact h.l⟩
  · exact ⟨_, _, _, by rw [hk]; exact h.d.hd⟩
  · exact ⟨_, _, _, by rw [hk]; exact h.d.sh⟩
  · rcases h.d.wa.2 with ⟨rfl, _⟩ | ⟨g, cap, cur, rfl, _, hg, _⟩
    · cases hk
    · have : g = k := by simpa [Value.ownBlock] using hk
      subst this
      exact ⟨_, _, _, hg⟩
  · rcases h.r.row with ⟨rfl, _⟩ | ⟨g, o, cap, cur, rfl, hg, _⟩
    · cases hk
    · have : g = k := by simpa [blk] using hk
      subst this
      exact ⟨_, _, _, hg⟩
/-- One block alone has turned, that holds no cells. -/
theorem Lg.grown (h : Lg base w lb db sb n vw rv S Q L R) {row : Option Nat} (hg : w.grownBy w' row) (hr : ∀ r, row = some r → ∃ o : Obj, w.heap[r]? = some o ∧ o.isCells = false) : Lg base w' lb db sb n vw rv S Q L R :=
  h.kept (X := fun k => row = some k) (Keep.of_grown hg (fun _ e => e)) (fun k hk e => by
    obtain ⟨c, t, f, hc⟩ := h.cells k hk
    obtain ⟨o, ho, hi⟩ := hr k e
    rw [hc] at ho
    cases ho
    cases hi) (fun r hm hne a ha e => by
    obtain ⟨o, ho, hi⟩ := hr _ e
    have hrd := h.r.each r hm
    have hb : ∃ u, r.b[0]? = some u := ⟨_, List.getElem?_eq_getElem (List.length_pos_iff.2 hne)⟩
    obtain ⟨u, hu⟩ := hb
    obtain ⟨b, off, e2, hc⟩ := rd_get hrd hu
    unfold rcv at *
    rw [ha] at e2
    cases e2
    unfold World.cell? at hc
    rw [ho] at hc
    cases o <;> simp_all [Obj.isCells])
theorem Lg.turn (h : Lg base w lb db sb n vw rv S Q L R) {l : Nat} (ht : Turn l w w') : Lg base w' lb db sb n vw rv S Q L R := h.grown ht.grown (fun r e => by cases e; exact ht.old)
/-- What holds no cells stays, where the log's blocks alone were written. -/
theorem Lg.keepsFrom (h : Lg base w lb db sb n vw rv S Q L R) (hk : Keep (GL db sb vw lb rv) w w') (B : Nat) : KeepsFrom B w w' :=
  ⟨hk.size, fun k o _ ho hi => by
    rw [hk.block k (lt_of_block ho) (fun e => by
      obtain ⟨c, t, f, hc⟩ := h.cells k e
      rw [hc] at ho
      cases ho
      cases hi)]
    exact ho⟩

/-- What the rounds of 'add' know of the log. -/
structure AddI (base : Nat) (w4 : World) (lb db sb n : Nat) (vw rv : Value) (S : List (List UInt8)) (Q : List Wr) (L : Ls) (R : List Rc) (B : List UInt8) (A6 : Nat) (j : Nat) (W : World) : Prop where
  log : ∃ vw' Q', Lg base W lb db sb n vw' rv (addS n L.h L.used B S j) Q' { h := L.h, used := L.used, ours := L.ours, waits := Q'.length, down := L.down } R ∧ Q' = Q ++ addQ n L.h L.used B S j ∧ ∀ k, GL db sb vw' lb rv k → GL db sb vw lb rv k ∨ w4.heap.size ≤ k
  at' : W.heap[A6]? = some (.cells #[.int .i64 ((L.used + j : Nat) : Int)] 3 (0, 0))
  keep : KpP (fun k => GL db sb vw lb rv k ∨ k = A6) w4.heap.size w4 W

theorem AddI.grown {w4 W W' : World} {B : List UInt8} {A6 j : Nat} (h : AddI base w4 lb db sb n vw rv S Q L R B A6 j W) {row : Option Nat} (hg : W.grownBy W' row) (hr : ∀ r, row = some r → w4.heap.size ≤ r ∧ ∃ o : Obj, W.heap[r]? = some o ∧ o.isCells = false) : AddI base w4 lb db sb n vw rv S Q L R B A6 j W' := by
  obtain ⟨vw', Q', q1, q2, q3⟩ := h.log
  have hs := h.keep.size
  refine ⟨⟨vw', Q', q1.grown hg (fun r e => (hr r e).2), q2, q3⟩, heap_kept hg h.at' (fun e => ?_), h.keep.trans (KpP.grown hg hs (fun k e => .inl (hr k e).1))⟩
  · obtain ⟨_, o, ho, hc⟩ := hr _ e.symm
    rw [h.at'] at ho
    cases ho
    cases hc
end
end Go.Proofs.YtcbbklbjfknnlaaDoor
