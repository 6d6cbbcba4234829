/-
  A DISK IN MEMORY.
-/
import Derived.Test.YtcbbklbjfknnlaaDoorRws
import Derived.BigQuiet
import Derived.Deep.QuietTactic
import Derived.Deep.MidRow
import Derived.Laws.MakeOwn
set_option linter.unusedVariables false
namespace Go.Proofs.YtcbbklbjfknnlaaDoor
open Go.RowKit

/-- What a call that makes at most memory of its own gives. -/
def AnsP (w : World) (v : Value) (e : Ending) (w' : World) : Prop := e = .returned v ∧ Below w.heap.size w w'

theorem one_rd {w : World} {x : Value} {l : List UInt8} (h : Rd w x l) : x.oneCell' = true := by
  obtain ⟨_, _, rfl, _⟩ := h; rfl

theorem lt_of_block {w : World} {b : Nat} {o : Obj} (h : w.heap[b]? = some o) : b < w.heap.size := (Array.getElem?_eq_some_iff.1 h).1

/-- One write that waits. -/
structure Wr where
  at' : Nat
  was : List UInt8
  now : List UInt8

def rowW (x : Wr) : List Value := .int .i64 x.at' :: (x.was.map bv ++ x.now.map bv)

/-- A disk of n sectors: its block, its sectors' block (of which S says all, spare room too), what waits (a row of its own). -/
structure Dk (base : Nat) (w : World) (db sb n : Nat) (vw : Value) (S : List (List UInt8)) (Q : List Wr) (dn : Bool) (lf : Nat) : Prop where
  lo : base ≤ db ∧ base ≤ sb
  hd : w.heap[db]? = some (.cells #[.slice (some ⟨sb, 0, none⟩) n S.length, vw, .bool dn, .int .i64 (lf : Int)] 52 (0, 0))
  sh : w.heap[sb]? = some (.cells (S.flatten.map bv).toArray 82 (0, 0))
  wa : w.ownsRow base 84 129 vw Q.length (Q.map rowW).flatten
  len : ∀ s ∈ S, s.length = 64
  ok : ∀ x ∈ Q, x.at' < n ∧ x.was.length = 64 ∧ x.now.length = 64
  few : n ≤ S.length ∧ n ≤ 65536 ∧ S.length ≤ maxLen

theorem Dk.old {base : Nat} {w w' : World} {db sb n : Nat} {vw : Value} {S : List (List UInt8)} {Q : List Wr} {dn : Bool} {lf : Nat} (h : Dk base w db sb n vw S Q dn lf) (hb : Below w.heap.size w w') : Dk base w' db sb n vw S Q dn lf :=
  ⟨h.lo, (hb.block _ (lt_of_block h.hd)).trans h.hd, (hb.block _ (lt_of_block h.sh)).trans h.sh, own_old h.wa hb, h.len, h.ok, h.few⟩

theorem four_cells {w : World} {b : Nat} {x y z u : Value} {t : TypeId} (h : w.heap[b]? = some (.cells #[x, y, z, u] t (0, 0))) :
    w.cell? ⟨b, 0, none⟩ = some x ∧ w.cell? ⟨b, 1, none⟩ = some y ∧ w.cell? ⟨b, 2, none⟩ = some z ∧ w.cell? ⟨b, 3, none⟩ = some u ∧ w.frozen? ⟨b, 0, none⟩ = false ∧ w.frozen? ⟨b, 1, none⟩ = false ∧ w.frozen? ⟨b, 2, none⟩ = false ∧ w.frozen? ⟨b, 3, none⟩ = false := by
  simp [World.cell?, World.frozen?, h]

theorem set_at {w : World} {b k : Nat} {c : Array Value} {t : TypeId} (x : Value) (h : w.heap[b]? = some (.cells c t (0, 0))) : (w.setCell ⟨b, k, none⟩ x).heap[b]? = some (.cells (c.setIfInBounds k x) t (0, 0)) := by
  have hlt := lt_of_block h
  have h' : w.heap[b] = .cells c t (0, 0) := by simpa [Array.getElem?_eq_getElem hlt] using h
  show (w.heap.modify b _)[b]? = _
  rw [Array.getElem?_eq_getElem (by simpa using hlt), Array.getElem_modify_self, h']
  rfl

/-- The n-th of lists of 64. -/
theorem flat_at {S : List (List UInt8)} (h : ∀ s ∈ S, s.length = 64) : ∀ {k : Nat} {s : List UInt8}, S[k]? = some s → ∀ j, j < 64 → S.flatten[k * 64 + j]? = s[j]? := by
  induction S with
  | nil => intro k s hk; simp at hk
  | cons q S ih =>
    intro k s hk j hj
    have hq := h q (by simp)
    cases k with
    | zero =>
      simp at hk
      subst hk
      rw [List.flatten_cons, List.getElem?_append_left (by omega), Nat.zero_mul, Nat.zero_add]
    | succ k =>
      have hk' : S[k]? = some s := by simpa using hk
      rw [List.flatten_cons, List.getElem?_append_right (by omega)]
      have e : (k + 1) * 64 + j - q.length = k * 64 + j := by omega
      rw [e]
      exact ih (fun x hx => h x (by simp [hx])) hk' j hj

theorem flat_len {S : List (List UInt8)} (h : ∀ s ∈ S, s.length = 64) : S.flatten.length = S.length * 64 := by
  induction S with
  | nil => rfl
  | cons q S ih =>
    rw [List.flatten_cons, List.length_append, h q (by simp), ih (fun x hx => h x (by simp [hx])), List.length_cons]
    omega

section
variable {base : Nat} {w : World} {db sb n : Nat} {vw : Value} {S : List (List UInt8)} {Q : List Wr} {dn : Bool} {lf : Nat}

/-- A sector's cells. -/
theorem Dk.sec (h : Dk base w db sb n vw S Q dn lf) {k : Nat} {s : List UInt8} (hk : S[k]? = some s) : w.rangeAt sb (k * 64) (s.map bv) := fun j v hv => by
  have hs := h.len s (List.mem_of_getElem? hk)
  have hj : j < 64 := by have := (List.getElem?_eq_some_iff.1 hv).1; simpa [hs] using this
  rw [List.getElem?_map, ← flat_at h.len hk j hj, ← List.getElem?_map] at hv
  unfold World.cell?
  rw [h.sh]
  show ((S.flatten.map bv).toArray)[k * 64 + j]? = some v
  rw [List.getElem?_toArray]
  exact hv

theorem Dk.rd (h : Dk base w db sb n vw S Q dn lf) {k : Nat} {s : List UInt8} (hk : S[k]? = some s) : Rd w (.slice (some ⟨sb, k * 64, none⟩) 64 64) s := by
  have hs := h.len s (List.mem_of_getElem? hk)
  refine ⟨_, _, by rw [hs], by omega, by decide, (fun e => by cases e), fun a ha j u hu => ?_⟩
  cases ha
  rw [WideShapes.add_plain]
  exact h.sec hk j u hu

theorem Dk.there (h : Dk base w db sb n vw S Q dn lf) {k : Nat} (hk : k < S.length) : w.there sb (k * 64) 64 := fun j hj => by
  have hl := flat_len h.len
  have h2 : k * 64 + j < (S.flatten.map bv).length := by rw [List.length_map, hl]; omega
  refine ⟨?_, ?_⟩
  · unfold World.cell?
    rw [h.sh]
    show (((S.flatten.map bv).toArray)[k * 64 + j]?).isSome = true
    rw [List.getElem?_toArray, List.getElem?_eq_getElem h2]
    rfl
  · simp [World.frozen?, h.sh]

/-- The blocks are three. -/
theorem Dk.apart (h : Dk base w db sb n vw S Q dn lf) : db ≠ sb ∧ vw.ownBlock ≠ some db ∧ vw.ownBlock ≠ some sb := by
  refine ⟨fun e => ?_, fun e => ?_, fun e => ?_⟩
  · have h1 := h.hd
    rw [e, h.sh] at h1
    simp at h1
  · rcases h.wa.2 with ⟨rfl, _⟩ | ⟨g, cap, cur, rfl, _, hg, _⟩
    · cases e
    · have : g = db := by simpa [Value.ownBlock] using e
      subst this
      rw [h.hd] at hg
      simp at hg
  · rcases h.wa.2 with ⟨rfl, _⟩ | ⟨g, cap, cur, rfl, _, hg, _⟩
    · cases e
    · have : g = sb := by simpa [Value.ownBlock] using e
      subst this
      rw [h.sh] at hg
      simp at hg
end
end Go.Proofs.YtcbbklbjfknnlaaDoor
