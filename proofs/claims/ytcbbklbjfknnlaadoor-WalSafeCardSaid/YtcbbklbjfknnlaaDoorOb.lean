/-
  THE HELPERS' OWN, KEPT, PLAIN, SPOIL, over bytes.
-/
import Derived.Test.YtcbbklbjfknnlaaDoorBytes
import Derived.OwnWalk
import Derived.LoopN
import Derived.BigQuiet
import Derived.Deep.QuietTactic
namespace Go.Proofs.YtcbbklbjfknnlaaDoor
open Go.RowKit

theorem Rd.at' {w : World} {x : Value} {l : List UInt8} (h : Rd w x l) (hl : 0 < l.length) :
    ∃ b off c, x = .slice (some ⟨b, off, none⟩) l.length c ∧ l.length ≤ c ∧ c ≤ maxLen ∧ ∀ j (hj : j < l.length), w.cell? ⟨b, off + j, none⟩ = some (.int .u8 ((l[j]).toNat : Int)) := by
  obtain ⟨ao, c, rfl, h1, h2, h3, h4⟩ := h
  cases ao with
  | none => have := h3 rfl; omega
  | some a =>
    obtain ⟨b, off, spot⟩ := a
    have h0 := h4 _ rfl 0 (bv l[0]) (by simp [List.getElem?_eq_getElem hl])
    have hspot : spot = none := by simpa [Addr.add] using World.cell?_spot h0
    subst hspot
    refine ⟨b, off, c, rfl, h1, h2, fun j hj => ?_⟩
    have hj' := h4 _ rfl j (bv l[j]) (by simp [List.getElem?_eq_getElem hj])
    rw [WideShapes.add_plain] at hj'
    exact hj'

/-- 'append(out, x...)' within the capacity. -/
theorem wp_app_fits {P : Program} {w : World} {ops : Array Oper} {rest : List Oper} {o : Oper} {a : Act} {Q : Exit → Act → World → Prop} (hgd : o.guard = none) (s x : Operand) (t : TypeId)
    (ho : o.op = .call { callee := .builtin .append, args := #[s, x], argTypes := #[t, t] })
    (base : Nat) (e : TypeId) (ht : P.underlying t = some (.slice e)) (hinfo : (P.info? e).map (fun i => (i.zero, i.size, i.bytes)) = some (some (.int .u8 0), 1, 1))
    (g k cap : Nat) (xs : List Value) (hs : a.eval s = .slice (some ⟨g, 0, none⟩) k cap) (hown : w.ownsRow base e 1 (.slice (some ⟨g, 0, none⟩) k cap) k xs)
    (y : Value) (l : List UInt8) (hx : a.eval x = y) (hr : Rd w y l) (hfit : k + l.length ≤ cap)
    (h : ∀ w', w'.ownsRow base e 1 (.slice (some ⟨g, 0, none⟩) (k + l.length) cap) (k + l.length) (xs ++ l.map bv) → w.grownBy w' (some g) → wpList P ops Q rest (a.put o.dst (.slice (some ⟨g, 0, none⟩) (k + l.length) cap)) w') : wpList P ops Q (o :: rest) a w := by
  obtain ⟨i0, hi, hz0, hz1, hz2⟩ := info_parts hinfo
  obtain ⟨ao, c, rfl, h1, h2, h3, h4⟩ := hr
  refine wpList_append_fits_any w hgd s x t ho base e i0 1 ht hi hz1 g k cap xs hs hown ao l.length c (l.map bv) hx (by simp) (fun hn => ?_) (fun ad had => h4 ad had) (bv_one l) hfit h
  have := h3 hn
  omega

/-- A row wholly owned: what its head reads as. -/
theorem Rd.of_full {w : World} {base g n k : Nat} {e : TypeId} {xs : List Value} {l : List UInt8} (h : w.ownsRow base e 1 (.slice (some ⟨g, 0, none⟩) n n) n xs) (hk : l.length ≤ n) (ht : xs.take l.length = l.map bv) (hkk : k = l.length) : Rd w (.slice (some ⟨g, 0, none⟩) k n) l := by
  subst hkk
  have hxl := h.1
  rcases h.2 with ⟨h', _⟩ | ⟨g', cap', cur, h', hb, hg, hnc, hcm, hcs, htake⟩
  · simp at h'
  · simp only [Value.slice.injEq, Option.some.injEq, Addr.mk.injEq, and_true, true_and] at h'
    obtain ⟨rfl, rfl⟩ := h'
    refine ⟨_, _, rfl, hk, hcm, (fun h => by cases h), fun a ha j u hu => ?_⟩
    cases ha
    have hj : j < l.length := by
      have := (List.getElem?_eq_some_iff.1 hu).1
      simpa using this
    rw [WideShapes.add_plain, Nat.zero_add, h.cellAt j (by omega)]
    rw [← ht, List.getElem?_take_of_lt hj] at hu
    exact hu

/-- A row of which a part is used: the whole of it. -/
theorem own_full {w : World} {base g n cap : Nat} {e : TypeId} {xs : List Value} (h : w.ownsRow base e 1 (.slice (some ⟨g, 0, none⟩) n cap) n xs) :
    ∃ ys, w.ownsRow base e 1 (.slice (some ⟨g, 0, none⟩) cap cap) cap ys ∧ ys.take n = xs := by
  rcases h.2 with ⟨h', _⟩ | ⟨g', cap', cur, h', hb, hg, hnc, hcm, hcs, htake⟩
  · simp at h'
  · simp only [Value.slice.injEq, Option.some.injEq, Addr.mk.injEq, and_true, true_and] at h'
    obtain ⟨rfl, rfl⟩ := h'
    refine ⟨cur.toList, ⟨by simpa using hcs, .inr ⟨g, cap, cur, rfl, hb, hg, Nat.le_refl _, hcm, hcs, ?_⟩⟩, by simpa using htake⟩
    exact List.take_of_length_le (by rw [Array.length_toList, hcs]; exact Nat.le_refl _)

/-- A copy of its own, with three bytes behind it. -/
def OwnIs (w : World) (l : List UInt8) (f : UInt8) (en : Ending) (w' : World) : Prop :=
  ∃ g, en = .returned (.slice (some ⟨g, 0, none⟩) l.length (l.length + 3)) ∧ w.heap.size ≤ g ∧
    w'.ownsRow w.heap.size 5 1 (.slice (some ⟨g, 0, none⟩) (l.length + 3) (l.length + 3)) (l.length + 3) (l.map bv ++ List.replicate 3 (bv f)) ∧ Below w.heap.size w w'

theorem own_round {xs ys : List Value} {k n : Nat} {v : Value} (hx : xs.take (n + k) = ys ++ List.replicate k v) (_hy : ys.length = n) (hlt : n + k < xs.length) : (xs.set (n + k) v).take (n + (k + 1)) = ys ++ List.replicate (k + 1) v := by
  have e1 : (xs.set (n + k) v).take (n + k + 1) = (xs.set (n + k) v).take (n + k) ++ [v] := by
    rw [List.take_succ_eq_append_getElem (by simpa using hlt)]
    simp
  rw [← Nat.add_assoc, e1, List.take_set_of_le (Nat.le_refl _), hx, List.replicate_succ', List.append_assoc]

/-- It answers true, and at most draws. -/
def Draws (w : World) (v : Value) (en : Ending) (w' : World) : Prop := en = .returned v ∧ ∃ n, w' = w.drewN n

theorem Draws.below {w w' : World} {v : Value} {en : Ending} (h : Draws w v en w') : Below w.heap.size w w' := by
  obtain ⟨_, n, rfl⟩ := h
  exact ⟨rfl, rfl, rfl, Nat.le_refl _, fun _ _ => rfl⟩

/-- What is owned is spoilt: nothing else is written. -/
def Spoilt (w : World) (row : Option Nat) (en : Ending) (w' : World) : Prop := en = .returned (.tuple #[]) ∧ w.grownBy w' row

end Go.Proofs.YtcbbklbjfknnlaaDoor
