/-
  WAL: a log with its disk and its records, whole.
-/
import Derived.Test.YtcbbklbjfknnlaaDoorWr
set_option linter.unusedVariables false
set_option maxRecDepth 100000
namespace Go.Proofs.YtcbbklbjfknnlaaDoor
open Go.RowKit

/-- The blocks of a log, of its disk, of its list. -/
def GL (db sb : Nat) (vw : Value) (lb : Nat) (rv : Value) : Nat → Prop := fun k => DL db sb vw lb k ∨ blk rv = some k
structure Lg (base : Nat) (w : World) (lb db sb n : Nat) (vw rv : Value) (S : List (List UInt8)) (Q : List Wr) (L : Ls) (R : List Rc) : Prop where
  d : Dk base w db sb n vw S Q false 0
  l : Lk w lb db rv L
  nlb : ¬ DX db sb vw lb
  r : Rof w rv R
  roff : ∀ k, blk rv = some k → ¬ DL db sb vw lb k
  boff : ∀ r ∈ R, r.b ≠ [] → ∀ a, r.a = some a → ¬ GL db sb vw lb rv a.block
  lo : base ≤ lb ∧ ∀ k, blk rv = some k → base ≤ k
structure Gfr (db sb lb : Nat) (vw vw' rv rv' : Value) (w w' : World) : Prop where
  keep : Keep (GL db sb vw lb rv) w w'
  new : ∀ k, GL db sb vw' lb rv' k → GL db sb vw lb rv k ∨ w.heap.size ≤ k

theorem Gfr.refl (db sb lb : Nat) (vw rv : Value) (w : World) : Gfr db sb lb vw vw rv rv w w := ⟨Keep.refl _ _, fun _ h => .inl h⟩
theorem Gfr.trans {db sb lb : Nat} {v v' v'' r r' r'' : Value} {a b c : World} (h : Gfr db sb lb v v' r r' a b) (k : Gfr db sb lb v' v'' r' r'' b c) : Gfr db sb lb v v'' r r'' a c :=
  ⟨h.keep.trans2 k.keep h.new, fun i hi => (k.new i hi).elim (h.new i) (fun hi => .inr (Nat.le_trans h.keep.size hi))⟩
theorem Gfr.of_below {db sb lb : Nat} {v r : Value} {a b : World} (h : Below a.heap.size a b) : Gfr db sb lb v v r r a b := ⟨Keep.of_below h, fun _ h => .inl h⟩
theorem Gfr.of_l {db sb lb : Nat} {v v' r : Value} {a b : World} (h : Lfr db sb v v' lb a b) : Gfr db sb lb v v' r r a b :=
  ⟨h.keep.mono (fun _ _ h => .inl h), fun k hk => by
    rcases hk with (hk | hk | hk | hk) | hk
    · exact .inl (.inl (.inl hk))
    · exact .inl (.inl (.inr (.inl hk)))
    · exact .inl (.inl (.inr (.inr (.inl hk))))
    · exact (h.new k hk).imp (fun h => .inl (.inr (.inr (.inr h)))) id
    · exact .inl (.inr hk)⟩

section
variable {base : Nat} {w w' : World} {lb db sb n : Nat} {vw rv vw' rv' : Value} {S S' : List (List UInt8)} {Q Q' : List Wr} {L L' : Ls} {R R' : List Rc}

theorem Rof.blk_lt (h : Rof w rv R) (hr : 0 < R.length ∨ rv = .slice none 0 0 ∨ ∃ g o c cur, rv = .slice (some ⟨g, o, none⟩) R.length c ∧ w.heap[g]? = some (.cells cur 32 (0, 0))) : ∀ k, blk rv = some k → k < w.heap.size := fun k hk => by
  rcases h.row with ⟨rfl, _⟩ | ⟨g, o, cap, cur, rfl, hg, _⟩
  · cases hk
  · have : g = k := by simpa [blk] using hk
    subst this
    exact lt_of_block hg
theorem Rof.lt (h : Rof w rv R) : ∀ k, blk rv = some k → k < w.heap.size := fun k hk => by
  rcases h.row with ⟨rfl, _⟩ | ⟨g, o, cap, cur, rfl, hg, _⟩
  · cases hk
  · have : g = k := by simpa [blk] using hk
    subst this
    exact lt_of_block hg

theorem Lg.lt (h : Lg base w lb db sb n vw rv S Q L R) : ∀ k, GL db sb vw lb rv k → base ≤ k ∧ k < w.heap.size := fun k hk => by
  rcases hk with (hk | hk) | hk
  · subst hk; exact ⟨h.lo.1, h.l.lt⟩
  · exact h.d.lt k hk
  · exact ⟨h.lo.2 k hk, h.r.lt k hk⟩
theorem Lg.below (h : Lg base w lb db sb n vw rv S Q L R) (hf : Gfr db sb lb vw vw' rv rv' w w') : Below base w w' :=
  hf.keep.below (Nat.le_trans h.lo.1 (Nat.le_of_lt h.l.lt)) (fun k hk => (h.lt k hk).1)
/-- Behind what leaves all of it alone. -/
theorem Lg.kept {X : Nat → Prop} (h : Lg base w lb db sb n vw rv S Q L R) (hk : Keep X w w') (hx : ∀ k, GL db sb vw lb rv k → ¬ X k) (hb : ∀ r ∈ R, r.b ≠ [] → ∀ a, r.a = some a → ¬ X a.block) : Lg base w' lb db sb n vw rv S Q L R :=
  ⟨h.d.kept hk (fun k hk => hx k (.inl (.inr hk))), h.l.kept hk (hx lb (.inl (.inl rfl))), h.nlb, h.r.kept hk (fun k hk => hx k (.inr hk)) hb, h.roff, h.boff, h.lo⟩
theorem Lg.old (h : Lg base w lb db sb n vw rv S Q L R) (hb : Below w.heap.size w w') : Lg base w' lb db sb n vw rv S Q L R :=
  h.kept (X := fun _ => False) (Keep.of_below hb) (fun _ _ h => h) (fun _ _ _ _ _ h => h)
/-- Behind a call that writes to the disk and to the log's block. -/
theorem Lg.lfr (h : Lg base w lb db sb n vw rv S Q L R) (hD : Dk base w' db sb n vw' S' Q' false 0) (hL : Lk w' lb db rv L') (hn : ¬ DX db sb vw' lb) (hf : Lfr db sb vw vw' lb w w') : Lg base w' lb db sb n vw' rv S' Q' L' R ∧ Gfr db sb lb vw vw' rv rv w w' := by
  have hdl : ∀ k, DL db sb vw' lb k → DL db sb vw lb k ∨ w.heap.size ≤ k := fun k hk => by
    rcases hk with hk | hk | hk | hk
    · exact .inl (.inl hk)
    · exact .inl (.inr (.inl hk))
    · exact .inl (.inr (.inr (.inl hk)))
    · exact (hf.new k hk).imp (fun h => .inr (.inr (.inr h))) id
  refine ⟨⟨hD, hL, hn, h.r.kept hf.keep (fun k hk e => h.roff k hk e) (fun r hr hne a ha e => h.boff r hr hne a ha (.inl e)), fun k hk e => ?_, fun r hr hne a ha e => ?_, h.lo⟩, Gfr.of_l hf⟩
  · rcases hdl k e with e | e
    · exact h.roff k hk e
    · have := h.r.lt k hk; omega
  · rcases e with e | e
    · rcases hdl _ e with e | e
      · exact h.boff r hr hne a ha (.inl e)
      · have := rd_block (h.r.each r hr) hne a ha; omega
    · exact h.boff r hr hne a ha (.inr e)
end
end Go.Proofs.YtcbbklbjfknnlaaDoor
