/-
  A DISK AND THE DOCUMENT'S DISK, side by side in memory.
-/
import Derived.Test.YtihholgdpmbkeaaRf
import Derived.Test.YtihholgdpmbkeaaDfk
import Derived.Test.YtihholgdpmbkeaaOb
set_option linter.unusedVariables false
set_option maxRecDepth 100000
namespace Go.Proofs.Ytihholgdpmbkeaa
open Go.RowKit

/-! Each call of a disk, whatever its state. -/
def wOk (n : Nat) (dn : Bool) (z : Int) (m : Nat) : Bool := !dn && decide (0 ≤ z ∧ z < (n : Int)) && decide (m = 64)
def wE (n : Nat) (dn : Bool) (lf : Nat) (z : Int) (m : Nat) : Int := if wOk n dn z m then hitE lf else if dn then 3 else 1
def wS (n : Nat) (dn : Bool) (S : List (List UInt8)) (z : Int) (l : List UInt8) : List (List UInt8) := if wOk n dn z l.length then S.set z.toNat l else S
def wQ (n : Nat) (dn : Bool) (S : List (List UInt8)) (Q : List Wr) (z : Int) (l : List UInt8) : List Wr := if wOk n dn z l.length then Q ++ [⟨z.toNat, S.getD z.toNat [], l⟩] else Q
def wD (n : Nat) (dn : Bool) (lf : Nat) (z : Int) (m : Nat) : Bool := if wOk n dn z m then hitD lf else dn
def wF (n : Nat) (dn : Bool) (lf : Nat) (z : Int) (m : Nat) : Nat := if wOk n dn z m then lf - 1 else lf

theorem wOk_cases (n : Nat) (dn : Bool) (z : Int) (m : Nat) : (dn = true ∧ wOk n dn z m = false) ∨ (dn = false ∧ (¬ (0 ≤ z ∧ z < (n : Int)) ∨ m ≠ 64) ∧ wOk n dn z m = false) ∨ (dn = false ∧ (∃ k : Nat, z = (k : Int) ∧ k < n) ∧ m = 64 ∧ wOk n dn z m = true) := by
  cases dn
  · by_cases h1 : 0 ≤ z ∧ z < (n : Int)
    · by_cases h2 : m = 64
      · exact .inr (.inr ⟨rfl, ⟨z.toNat, by omega, by omega⟩, h2, by unfold wOk; rw [decide_eq_true h1, decide_eq_true h2]; rfl⟩)
      · exact .inr (.inl ⟨rfl, .inr h2, by unfold wOk; rw [decide_eq_false h2]; simp⟩)
    · exact .inr (.inl ⟨rfl, .inl h1, by unfold wOk; rw [decide_eq_false h1]; simp⟩)
  · exact .inl ⟨rfl, by unfold wOk; rfl⟩

section
variable {base : Nat} {w : World} {db sb n : Nat} {vw : Value} {S T : List (List UInt8)} {Q : List Wr} {dn : Bool} {lf : Nat} {rb tb : Nat} {wv : Value}

theorem dwrite_all (h : Dk base w db sb n vw S Q dn lf) (hlf : lf ≤ 9223372036854775807) (x : Value) (l : List UInt8) (z : Int) (hx : Rd w x l) (hq : Q.length ≤ 100000) :
    Calls Try.prog 24 #[.pointer (some ⟨db, 0, none⟩), .int .i64 z, x] w (fun e w' => e = .returned (.int .i64 (wE n dn lf z l.length)) ∧ ∃ vw', Dk base w' db sb n vw' (wS n dn S z l) (wQ n dn S Q z l) (wD n dn lf z l.length) (wF n dn lf z l.length) ∧ Dfr db sb vw vw' w w') := by
  have hxx := hx
  obtain ⟨xo, xc, rfl, -⟩ := hxx
  unfold wE wS wQ wD wF
  rcases wOk_cases n dn z l.length with ⟨rfl, ho⟩ | ⟨rfl, h1, ho⟩ | ⟨rfl, ⟨k, rfl, hk⟩, h2, ho⟩
  · rw [ho]
    refine (write_off h z _).mono ?_
    rintro e w' ⟨rfl, rfl⟩
    exact ⟨rfl, vw, h, Dfr.refl _ _ _ _⟩
  · rw [ho]
    refine (write_none h z xo l.length xc h1).mono ?_
    rintro e w' ⟨rfl, rfl⟩
    exact ⟨rfl, vw, h, Dfr.refl _ _ _ _⟩
  · rw [ho]
    have hkS : k < S.length := Nat.lt_of_lt_of_le hk h.few.1
    have hs := List.getElem?_eq_getElem hkS
    have := write_gen h hlf _ l k _ hs hk hx h2 hq
    refine this.mono ?_
    rintro e w' ⟨rfl, vw', hD, hF⟩
    refine ⟨rfl, vw', ?_, hF⟩
    simp only [Int.toNat_natCast, if_true]
    rw [List.getD, hs]
    exact hD

theorem rwrite_all (h : Rk w rb tb n wv T Q dn lf) (hlf : lf ≤ 9223372036854775807) (x : Value) (l : List UInt8) (z : Int) (hx : Rd w x l) (hq : Q.length ≤ 100000) (S : List (List UInt8)) :
    Calls Try.prog 27 #[.pointer (some ⟨rb, 0, none⟩), .int .i64 z, x] w (fun e w' => e = .returned (.int .i64 (wE n dn lf z l.length)) ∧ ∃ wv', Rk w' rb tb n wv' T (wQ n dn S Q z l) (wD n dn lf z l.length) (wF n dn lf z l.length) ∧ Dfr rb tb wv wv' w w') := by
  have hxx := hx
  obtain ⟨xo, xc, rfl, -⟩ := hxx
  unfold wE wQ wD wF
  rcases wOk_cases n dn z l.length with ⟨rfl, ho⟩ | ⟨rfl, h1, ho⟩ | ⟨rfl, ⟨k, rfl, hk⟩, h2, ho⟩
  · rw [ho]
    refine (rwrite_off h z _).mono ?_
    rintro e w' ⟨rfl, rfl⟩
    exact ⟨rfl, wv, h, Dfr.refl _ _ _ _⟩
  · rw [ho]
    refine (rwrite_none h z xo l.length xc h1).mono ?_
    rintro e w' ⟨rfl, rfl⟩
    exact ⟨rfl, wv, h, Dfr.refl _ _ _ _⟩
  · rw [ho]
    have := rwrite_gen h hlf _ l (S.getD k []) k hk hx h2 hq
    refine this.mono ?_
    rintro e w' ⟨rfl, wv', hD, hF⟩
    refine ⟨rfl, wv', ?_, hF⟩
    simp only [Int.toNat_natCast, if_true]
    exact hD

/-- What Read answers, and reads. -/
def rE (n : Nat) (dn : Bool) (z : Int) : Int := if dn then 3 else if 0 ≤ z ∧ z < (n : Int) then 0 else 1
def rL (n : Nat) (dn : Bool) (V : List (List UInt8)) (z : Int) : List UInt8 := if dn then [] else if 0 ≤ z ∧ z < (n : Int) then V.getD z.toNat [] else []
def ReadAll (n : Nat) (dn : Bool) (V : List (List UInt8)) (z : Int) (w : World) (e : Ending) (w' : World) : Prop :=
  ∃ x, e = .returned (.tuple #[x, .int .i64 (rE n dn z)]) ∧ w'.ownsRow w.heap.size 5 1 x (rL n dn V z).length ((rL n dn V z).map bv) ∧ Below w.heap.size w w'

theorem dread_all (h : Dk base w db sb n vw S Q dn lf) (z : Int) : Calls Try.prog 10 #[.pointer (some ⟨db, 0, none⟩), .int .i64 z] w (ReadAll n dn (S.take n) z w) := by
  unfold ReadAll
  cases dn
  · by_cases hz : 0 ≤ z ∧ z < (n : Int)
    · obtain ⟨k, rfl⟩ : ∃ k : Nat, z = (k : Int) := ⟨z.toNat, by omega⟩
      have hk : k < n := by omega
      have hs := List.getElem?_eq_getElem (Nat.lt_of_lt_of_le hk h.few.1)
      refine (read_any h k _ hs hk).mono ?_
      rintro e w' ⟨x, rfl, ho, hb⟩
      have e0 : rE n false (k : Int) = 0 := by unfold rE; rw [if_neg (by simp), if_pos hz]
      have e9 : ∀ V, rL n false V (k : Int) = V.getD (Int.toNat (k : Int)) [] := fun V => by unfold rL; rw [if_neg (by simp), if_pos hz]
      have e1 : (S.take n).getD (Int.toNat (k : Int)) [] = S[k]'(Nat.lt_of_lt_of_le hk h.few.1) := by
        rw [Int.toNat_natCast, List.getD, List.getElem?_take_of_lt hk, hs]
        rfl
      rw [e0, e9, e1]
      exact ⟨x, rfl, ho, hb⟩
    · refine (read_none h z hz).mono ?_
      rintro e w' ⟨rfl, rfl⟩
      have e0 : rE n false z = 1 := by unfold rE; rw [if_neg (by simp), if_neg hz]
      have e9 : ∀ V, rL n false V z = [] := fun V => by unfold rL; rw [if_neg (by simp), if_neg hz]
      rw [e0, e9]
      exact ⟨_, rfl, World.ownsRow_nil _ _ _ _, Below.refl _ _⟩
  · refine (read_off h z).mono ?_
    rintro e w' ⟨rfl, rfl⟩
    exact ⟨_, rfl, World.ownsRow_nil _ _ _ _, Below.refl _ _⟩
theorem rread_all (h : Rk w rb tb n wv T Q dn lf) (z : Int) (hq : Q.length ≤ 1000000) : Calls Try.prog 11 #[.pointer (some ⟨rb, 0, none⟩), .int .i64 z] w (ReadAll n dn (shM T Q) z w) := by
  unfold ReadAll
  cases dn
  · by_cases hz : 0 ≤ z ∧ z < (n : Int)
    · obtain ⟨k, rfl⟩ : ∃ k : Nat, z = (k : Int) := ⟨z.toNat, by omega⟩
      have hk : k < n := by omega
      refine (rread_any h k hk hq).mono ?_
      rintro e w' ⟨s, x, hs, hl, rfl, ho, hb⟩
      have e0 : rE n false (k : Int) = 0 := by unfold rE; rw [if_neg (by simp), if_pos hz]
      have e9 : ∀ V, rL n false V (k : Int) = V.getD (Int.toNat (k : Int)) [] := fun V => by unfold rL; rw [if_neg (by simp), if_pos hz]
      have e1 : (shM T Q).getD (Int.toNat (k : Int)) [] = s := by
        rw [Int.toNat_natCast, List.getD, hs]
        rfl
      rw [e0, e9, e1]
      exact ⟨x, rfl, ho, hb⟩
    · refine (rread_none h z hz).mono ?_
      rintro e w' ⟨rfl, rfl⟩
      have e0 : rE n false z = 1 := by unfold rE; rw [if_neg (by simp), if_neg hz]
      have e9 : ∀ V, rL n false V z = [] := fun V => by unfold rL; rw [if_neg (by simp), if_neg hz]
      rw [e0, e9]
      exact ⟨_, rfl, World.ownsRow_nil _ _ _ _, Below.refl _ _⟩
  · refine (rread_off h z).mono ?_
    rintro e w' ⟨rfl, rfl⟩
    exact ⟨_, rfl, World.ownsRow_nil _ _ _ _, Below.refl _ _⟩

def fE (dn : Bool) (lf : Nat) : Int := if dn then 3 else hitE lf
def fG (dn : Bool) (lf : Nat) : Bool := !dn && !hitD lf
def fQ (dn : Bool) (lf : Nat) (Q : List Wr) : List Wr := if fG dn lf then [] else Q
def fT (dn : Bool) (lf : Nat) (T : List (List UInt8)) (Q : List Wr) : List (List UInt8) := if fG dn lf then shM T Q else T
def fD (dn : Bool) (lf : Nat) : Bool := if dn then true else hitD lf
def fF (dn : Bool) (lf : Nat) : Nat := if dn then lf else lf - 1

theorem dflush_all (h : Dk base w db sb n vw S Q dn lf) (hlf : lf ≤ 9223372036854775807) : Calls Try.prog 14 #[.pointer (some ⟨db, 0, none⟩)] w (fun e w' => e = .returned (.int .i64 (fE dn lf)) ∧ ∃ vw', Dk base w' db sb n vw' S (fQ dn lf Q) (fD dn lf) (fF dn lf) ∧ Dfr db sb vw vw' w w') := by
  cases dn
  · refine (flush_gen h hlf).mono ?_
    rintro e w' ⟨rfl, vw', hD, hF⟩
    refine ⟨rfl, vw', ?_, hF⟩
    have e1 : fQ false lf Q = if lf = 1 then Q else [] := by
      unfold fQ fG hitD
      by_cases h1 : lf = 1 <;> simp [h1]
    rw [e1]
    exact hD
  · refine (flush_off h).mono ?_
    rintro e w' ⟨rfl, rfl⟩
    exact ⟨rfl, vw, h, Dfr.refl _ _ _ _⟩
theorem rflush_all (h : Rk w rb tb n wv T Q dn lf) (hlf : lf ≤ 9223372036854775807) (hq : Q.length ≤ 100000) : Calls Try.prog 15 #[.pointer (some ⟨rb, 0, none⟩)] w (fun e w' => e = .returned (.int .i64 (fE dn lf)) ∧ ∃ wv', Rk w' rb tb n wv' (fT dn lf T Q) (fQ dn lf Q) (fD dn lf) (fF dn lf) ∧ Dfr rb tb wv wv' w w') := by
  cases dn
  · refine (rflush_gen h hlf hq).mono ?_
    rintro e w' ⟨rfl, vw', hD, hF⟩
    refine ⟨rfl, vw', ?_, hF⟩
    have e1 : fQ false lf Q = if lf = 1 then Q else [] := by
      unfold fQ fG hitD
      by_cases h1 : lf = 1 <;> simp [h1]
    have e2 : fT false lf T Q = if lf = 1 then T else shM T Q := by
      unfold fT fG hitD
      by_cases h1 : lf = 1 <;> simp [h1]
    rw [e1, e2]
    exact hD
  · refine (rflush_off h).mono ?_
    rintro e w' ⟨rfl, rfl⟩
    exact ⟨rfl, wv, h, Dfr.refl _ _ _ _⟩
end

theorem Dk.mono {base base' : Nat} {w : World} {db sb n : Nat} {vw : Value} {S : List (List UInt8)} {Q : List Wr} {dn : Bool} {lf : Nat} (h : Dk base w db sb n vw S Q dn lf) (hb : base' ≤ base) : Dk base' w db sb n vw S Q dn lf :=
  ⟨⟨Nat.le_trans hb h.lo.1, Nat.le_trans hb h.lo.2⟩, h.hd, h.sh, ownsRow_base h.wa hb, h.len, h.ok, h.few⟩

/-! What the two have in common. -/
def Rel (V : List (List UInt8)) (Q : List Wr) (T : List (List UInt8)) : Prop := V = shM T Q ∧ tbM V Q.reverse = T

theorem Rel.new (T : List (List UInt8)) : Rel T [] T := ⟨rfl, rfl⟩
theorem Rel.write {V T : List (List UInt8)} {Q : List Wr} (h : Rel V Q T) {k : Nat} {s l : List UInt8} (hk : V[k]? = some s) : Rel (V.set k l) (Q ++ [⟨k, s, l⟩]) T := by
  obtain ⟨h1, h2⟩ := h
  obtain ⟨hkl, hks⟩ := List.getElem?_eq_some_iff.1 hk
  refine ⟨by rw [sh_one, ← h1], ?_⟩
  rw [List.reverse_append, List.reverse_singleton, List.singleton_append]
  show tbM ((V.set k l).set k s) Q.reverse = T
  rw [List.set_set, ← hks, List.set_getElem_self]
  exact h2
theorem Rel.flush {V T : List (List UInt8)} {Q : List Wr} (h : Rel V Q T) : Rel V [] (shM T Q) := ⟨h.1, h.1⟩
theorem take_set {α : Type} (S : List α) (n k : Nat) (x : α) : (S.set k x).take n = (S.take n).set k x := by
  apply List.ext_getElem?
  intro i
  rw [List.getElem?_take, List.getElem?_set, List.getElem?_set, List.getElem?_take, List.length_take]
  by_cases hi : i < n
  · by_cases hk : k = i
    · subst hk
      rw [if_pos hi, if_pos rfl, if_pos rfl]
      by_cases hl : k < S.length
      · rw [if_pos hl, if_pos (by omega)]
      · rw [if_neg hl, if_neg (by omega)]
    · rw [if_pos hi, if_neg hk, if_neg hk, if_pos hi]
  · rw [if_neg hi]
    by_cases hk : k = i
    · rw [if_pos hk, if_neg (by omega)]
    · rw [if_neg hk, if_neg hi]
theorem tb_take (S : List (List UInt8)) (n : Nat) (xs : List Wr) : (tbM S xs).take n = tbM (S.take n) xs := by
  unfold tbM
  induction xs generalizing S with
  | nil => rfl
  | cons x xs ih => rw [List.foldl_cons, List.foldl_cons, ih, take_set]
theorem lay_take (S : List (List UInt8)) (n : Nat) (Q : List Wr) (ks : List Int) (hq : ∀ x ∈ Q, x.at' < n) : (layM S Q ks).take n = layM (S.take n) Q ks := by
  unfold layM
  have hz : ∀ p ∈ Q.zip ks, p.1.at' < n := fun p hp => hq _ (List.of_mem_zip hp).1
  generalize Q.zip ks = L at hz
  induction L generalizing S with
  | nil => rfl
  | cons p L ih =>
    rw [List.foldl_cons, List.foldl_cons, ih _ (fun q hq => hz q (by simp [hq]))]
    congr 1
    unfold lay1
    rw [take_set]
    congr 2
    rw [List.getD, List.getD, List.getElem?_take_of_lt (hz p (by simp))]

/-- The blocks of both. -/
def XX (db sb : Nat) (vw : Value) (rb tb : Nat) (wv : Value) : Nat → Prop := fun j => DX db sb vw j ∨ DX rb tb wv j

/-- A disk and the document's one. -/
structure Apt (w0 : World) (n db sb rb tb : Nat) (vw wv : Value) (S : List (List UInt8)) (Q : List Wr) (dn : Bool) (lf : Nat) (T : List (List UInt8)) (Qr : List Wr) (dr : Bool) (lr : Nat) (W : World) : Prop where
  bel : Below w0.heap.size w0 W
  d : Dk w0.heap.size W db sb n vw S Q dn lf
  r : Rk W rb tb n wv T Qr dr lr
  off : ∀ j, DX db sb vw j → ¬ DX rb tb wv j
  lo : ∀ j, DX rb tb wv j → w0.heap.size ≤ j

/-- What both leave alone. -/
structure Bfr (X0 : Nat → Prop) (wz W : World) (X : Nat → Prop) : Prop where
  keep : Keep X0 wz W
  new : ∀ j, X j → X0 j ∨ wz.heap.size ≤ j

section
variable {w0 wz : World} {X0 : Nat → Prop} {n db sb rb tb : Nat} {vw wv vw' wv' : Value} {S T S' T' : List (List UInt8)} {Q Qr Q' Qr' : List Wr} {dn dr dn' dr' : Bool} {lf lr lf' lr' g0 : Nat} {W W' : World}

theorem Bfr.refl (X : Nat → Prop) (W : World) : Bfr X W W X := ⟨Keep.refl _ _, fun _ h => .inl h⟩
theorem Bfr.old {X : Nat → Prop} (h : Bfr X0 wz W X) (hb : Below W.heap.size W W') : Bfr X0 wz W' X := ⟨h.keep.trans (Keep.of_below hb), h.new⟩
theorem Bfr.left (h : Bfr X0 wz W (XX db sb vw rb tb wv)) (hf : Dfr db sb vw vw' W W') : Bfr X0 wz W' (XX db sb vw' rb tb wv) :=
  ⟨h.keep.trans2 hf.keep (fun i hi => h.new i (.inl hi)), fun j hj => by
    rcases hj with (hj | hj | hj) | hj
    · exact h.new j (.inl (.inl hj))
    · exact h.new j (.inl (.inr (.inl hj)))
    · rcases hf.new j hj with hj | hj
      · exact h.new j (.inl (.inr (.inr hj)))
      · exact .inr (Nat.le_trans h.keep.size hj)
    · exact h.new j (.inr hj)⟩
theorem Bfr.right (h : Bfr X0 wz W (XX db sb vw rb tb wv)) (hf : Dfr rb tb wv wv' W W') : Bfr X0 wz W' (XX db sb vw rb tb wv') :=
  ⟨h.keep.trans2 hf.keep (fun i hi => h.new i (.inr hi)), fun j hj => by
    rcases hj with hj | (hj | hj | hj)
    · exact h.new j (.inl hj)
    · exact h.new j (.inr (.inl hj))
    · exact h.new j (.inr (.inr (.inl hj)))
    · rcases hf.new j hj with hj | hj
      · exact h.new j (.inr (.inr (.inr hj)))
      · exact .inr (Nat.le_trans h.keep.size hj)⟩
/-- A block of neither. -/
theorem Bfr.at {X : Nat → Prop} (h : Bfr X0 wz W X) {j : Nat} {o : Obj} (hj : wz.heap[j]? = some o) (hx : ¬ X0 j) : W.heap[j]? = some o := (h.keep.block j (lt_of_block hj) hx).trans hj

theorem Apt.old (h : Apt w0 n db sb rb tb vw wv S Q dn lf T Qr dr lr W) (hb : Below W.heap.size W W') : Apt w0 n db sb rb tb vw wv S Q dn lf T Qr dr lr W' :=
  ⟨h.bel.trans (hb.mono h.bel.size), h.d.old hb, h.r.old hb, h.off, h.lo⟩
theorem Apt.left (h : Apt w0 n db sb rb tb vw wv S Q dn lf T Qr dr lr W) (hD : Dk w0.heap.size W' db sb n vw' S' Q' dn' lf') (hf : Dfr db sb vw vw' W W') : Apt w0 n db sb rb tb vw' wv S' Q' dn' lf' T Qr dr lr W' :=
  ⟨h.bel.trans (h.d.below hf), hD, h.r.kept hf.keep (fun k hk hx => h.off k hx hk), fun j hj hr => by
    rcases hj with hj | hj | hj
    · exact h.off j (.inl hj) hr
    · exact h.off j (.inr (.inl hj)) hr
    · rcases hf.new j hj with hj | hj
      · exact h.off j (.inr (.inr hj)) hr
      · have := h.r.lt j hr; omega, h.lo⟩
theorem Apt.right (h : Apt w0 n db sb rb tb vw wv S Q dn lf T Qr dr lr W) (hR : Rk W' rb tb n wv' T' Qr' dr' lr') (hf : Dfr rb tb wv wv' W W') : Apt w0 n db sb rb tb vw wv' S Q dn lf T' Qr' dr' lr' W' :=
  ⟨h.bel.trans (hf.keep.below h.bel.size h.lo), h.d.kept hf.keep (fun k hk hx => h.off k hk hx), hR, fun j hj hr => by
    rcases hr with hr | hr | hr
    · exact h.off j hj (.inl hr)
    · exact h.off j hj (.inr (.inl hr))
    · rcases hf.new j hr with hr | hr
      · exact h.off j hj (.inr (.inr hr))
      · have := (h.d.lt j hj).2; omega, fun j hr => by
    rcases hr with hr | hr | hr
    · exact h.lo j (.inl hr)
    · exact h.lo j (.inr (.inl hr))
    · rcases hf.new j hr with hr | hr
      · exact h.lo j (.inr (.inr hr))
      · exact Nat.le_trans h.bel.size hr⟩
theorem Apt.kept (h : Apt w0 n db sb rb tb vw wv S Q dn lf T Qr dr lr W) {g : Nat} (hg : W.grownBy W' (some g)) (hx : ¬ XX db sb vw rb tb wv g) (hl : w0.heap.size ≤ g) : Apt w0 n db sb rb tb vw wv S Q dn lf T Qr dr lr W' :=
  have hk : Keep (fun k => k = g) W W' := Keep.of_grown hg (fun k e => by cases e; rfl)
  ⟨h.bel.trans (hk.below h.bel.size (fun k e => by rw [e]; exact hl)), h.d.kept hk (fun k hk e => hx (by rw [← e]; exact .inl hk)), h.r.kept hk (fun k hk e => hx (by rw [← e]; exact .inr hk)), h.off, h.lo⟩
theorem xx_left (hx : ¬ XX db sb vw rb tb wv g0) (hf : Dfr db sb vw vw' W W') (hl : g0 < W.heap.size) : ¬ XX db sb vw' rb tb wv g0 := fun hj => by
  rcases hj with (hj | hj | hj) | hj
  · exact hx (.inl (.inl hj))
  · exact hx (.inl (.inr (.inl hj)))
  · rcases hf.new _ hj with hj | hj
    · exact hx (.inl (.inr (.inr hj)))
    · omega
  · exact hx (.inr hj)
theorem xx_right (hx : ¬ XX db sb vw rb tb wv g0) (hf : Dfr rb tb wv wv' W W') (hl : g0 < W.heap.size) : ¬ XX db sb vw rb tb wv' g0 := fun hj => by
  rcases hj with hj | (hj | hj | hj)
  · exact hx (.inl hj)
  · exact hx (.inr (.inl hj))
  · exact hx (.inr (.inr (.inl hj)))
  · rcases hf.new _ hj with hj | hj
    · exact hx (.inr (.inr (.inr hj)))
    · omega
/-- Every block of both lies below. -/
theorem Apt.lt (h : Apt w0 n db sb rb tb vw wv S Q dn lf T Qr dr lr W) : ∀ j, XX db sb vw rb tb wv j → w0.heap.size ≤ j ∧ j < W.heap.size := fun j hj => by
  rcases hj with hj | hj
  · exact h.d.lt j hj
  · exact ⟨h.lo j hj, h.r.lt j hj⟩
end

/-- Both, alike. -/
structure Two (w0 : World) (n k : Nat) (d r : Value) (W : World) : Prop where
  mk' ::
  ex : ∃ db sb rb tb vw wv S T Q dn lf, d = .pointer (some ⟨db, 0, none⟩) ∧ r = .pointer (some ⟨rb, 0, none⟩) ∧ Apt w0 n db sb rb tb vw wv S Q dn lf T Q dn lf W ∧ Rel (S.take n) Q T ∧ lf ≤ 9223372036854775807 ∧ Q.length ≤ k

theorem Two.old {w0 : World} {n k : Nat} {d r : Value} {W W' : World} (h : Two w0 n k d r W) (hb : Below W.heap.size W W') : Two w0 n k d r W' := by
  obtain ⟨⟨db, sb, rb, tb, vw, wv, S, T, Q, dn, lf, e1, e2, hA, h3, h4, h5⟩⟩ := h
  exact ⟨⟨db, sb, rb, tb, vw, wv, S, T, Q, dn, lf, e1, e2, hA.old hb, h3, h4, h5⟩⟩
theorem Two.drewN {w0 : World} {n k : Nat} {d r : Value} {W : World} (h : Two w0 n k d r W) (m : Nat) : Two w0 n k d r (W.drewN m) := h.old ⟨rfl, rfl, rfl, Nat.le_refl _, fun _ _ => rfl⟩

theorem rel_w {n : Nat} {dn : Bool} {S T : List (List UInt8)} {Q : List Wr} {z : Int} {l : List UInt8} (h : Rel (S.take n) Q T) (hn : n ≤ S.length) : Rel ((wS n dn S z l).take n) (wQ n dn S Q z l) T := by
  unfold wS wQ
  rcases wOk_cases n dn z l.length with ⟨rfl, ho⟩ | ⟨rfl, h1, ho⟩ | ⟨rfl, ⟨k, rfl, hk⟩, h2, ho⟩
  · rw [ho]; exact h
  · rw [ho]; exact h
  · rw [ho]
    simp only [Int.toNat_natCast, if_true]
    rw [take_set]
    have hs := List.getElem?_eq_getElem (Nat.lt_of_lt_of_le hk hn)
    have hs2 : (S.take n)[k]? = some (S.getD k []) := by rw [List.getElem?_take_of_lt hk, List.getD, hs]; rfl
    exact h.write hs2
theorem rel_f {n : Nat} {dn : Bool} {lf : Nat} {S T : List (List UInt8)} {Q : List Wr} (h : Rel (S.take n) Q T) : Rel (S.take n) (fQ dn lf Q) (fT dn lf T Q) := by
  unfold fQ fT
  cases fG dn lf
  · exact h
  · exact h.flush
theorem rel_c {n : Nat} {S T : List (List UInt8)} {Q : List Wr} {ks : List Int} (h : Rel (S.take n) Q T) (hq : ∀ x ∈ Q, x.at' < n) : Rel ((layM (tbM S Q.reverse) Q ks).take n) [] (layM T Q ks) := by
  rw [lay_take _ _ _ _ hq, tb_take, h.2]
  exact Rel.new _
theorem rel_s {n : Nat} {dn : Bool} {S T : List (List UInt8)} {Q : List Wr} (h : Rel (S.take n) Q T) : Rel ((stS dn S Q).take n) (stQ dn Q) T := by
  cases dn
  · exact h
  · show Rel ((tbM S Q.reverse).take n) [] T
    rw [tb_take, h.2]
    exact Rel.new _
theorem wF_le {n : Nat} {dn : Bool} {lf : Nat} {z : Int} {m : Nat} (h : lf ≤ 9223372036854775807) : wF n dn lf z m ≤ 9223372036854775807 := by unfold wF; split <;> omega
theorem fF_le {dn : Bool} {lf : Nat} (h : lf ≤ 9223372036854775807) : fF dn lf ≤ 9223372036854775807 := by unfold fF; split <;> omega
theorem wQ_le {n : Nat} {dn : Bool} {S : List (List UInt8)} {Q : List Wr} {z : Int} {l : List UInt8} : (wQ n dn S Q z l).length ≤ Q.length + 1 := by unfold wQ; split <;> simp
theorem fQ_le {dn : Bool} {lf : Nat} {Q : List Wr} : (fQ dn lf Q).length ≤ Q.length := by unfold fQ; split <;> simp
theorem stQ_le {dn : Bool} {Q : List Wr} : (stQ dn Q).length ≤ Q.length := by unfold stQ; split <;> simp

theorem cell_drewN {w : World} {m : Nat} {p : Addr} {v : Value} (h : w.cell? p = some v) : (w.drewN m).cell? p = some v := h
/-- Bytes, their copy at g, and an object at ob. -/
structure Wst (base g ob : Nat) (b : Value) (L : List UInt8) (O : Obj) (W : World) : Prop where
  rd : Rd W b L
  own : W.ownsRow base 5 1 (.slice (some ⟨g, 0, none⟩) (L.length + 3) (L.length + 3)) (L.length + 3) (L.map bv ++ List.replicate 3 (bv 71))
  bx : W.heap[ob]? = some O
  lt : g < W.heap.size
theorem Wst.keep {base g ob : Nat} {b : Value} {L : List UInt8} {O : Obj} {W W' : World} {X : Nat → Prop} (h : Wst base g ob b L O W) (hk : Keep X W W') (hb : L ≠ [] → ∀ k, blk b = some k → ¬ X k) (hg : ¬ X g) (ho : ¬ X ob) : Wst base g ob b L O W' :=
  ⟨h.rd.keep hk hb, own_keep h.own hk (fun k e => by cases e; exact hg), (hk.block ob (lt_of_block h.bx) ho).trans h.bx, Nat.lt_of_lt_of_le h.lt hk.size⟩
theorem Wst.old {base g ob : Nat} {b : Value} {L : List UInt8} {O : Obj} {W W' : World} (h : Wst base g ob b L O W) (hb : Below W.heap.size W W') : Wst base g ob b L O W' :=
  h.keep (X := fun _ => False) (Keep.of_below hb) (fun _ _ _ h => h) (fun h => h) (fun h => h)
theorem Wst.inn {base g ob : Nat} {b : Value} {L : List UInt8} {O : Obj} {W : World} (h : Wst base g ob b L O W) : Rd W (.slice (some ⟨g, 0, none⟩) L.length (L.length + 3)) L :=
  Rd.of_full (k := L.length) h.own (by omega) (by rw [List.take_left' (by simp)]) rfl
/-- Spoilt: the copy's own head. -/
theorem Wst.head {base g ob : Nat} {b : Value} {L : List UInt8} {O : Obj} {W : World} (h : Wst base g ob b L O W) : W.ownsRow base 5 1 (.slice (some ⟨g, 0, none⟩) L.length (L.length + 3)) L.length (L.map bv) := by
  rcases h.own.2 with ⟨e, _⟩ | ⟨g', cap, cur, e, hb, hg, hnc, hcm, hcs, ht⟩
  · cases e
  · simp only [Value.slice.injEq, Option.some.injEq, Addr.mk.injEq, and_true, true_and] at e
    obtain ⟨rfl, rfl⟩ := e
    refine ⟨by simp, .inr ⟨g, L.length + 3, cur, rfl, hb, hg, by omega, hcm, hcs, ?_⟩⟩
    have := congrArg (List.take L.length) ht
    rw [List.take_take, List.take_left' (by simp)] at this
    rw [← this]
    congr 1
    omega
end Go.Proofs.Ytihholgdpmbkeaa
