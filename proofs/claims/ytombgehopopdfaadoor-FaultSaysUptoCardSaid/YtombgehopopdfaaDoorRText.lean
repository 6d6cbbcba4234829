/-
  THE DOCUMENT's ANSWERS: (Chain).Err, (Chain).Text; a slice of strings.
-/
import Derived.Test.YtombgehopopdfaaDoorError
import Derived.Test.YtombgehopopdfaaDoorCodes
set_option linter.unusedVariables false
namespace Go.Proofs.YtombgehopopdfaaDoor
open Go.RowKit Go.Extern.Stop Go.Stop Go.Extern

/-- The slice x reads as the strings l. -/
def Strs (w : World) (x : Value) (l : List ByteArray) : Prop :=
  ∃ (ao : Option Addr) (c : Nat), x = .slice ao l.length c ∧ (ao = none → l = []) ∧ ∀ a, ao = some a → ∀ (j : Nat) s, l[j]? = some s → w.cell? (a.add j) = some (.string s)

theorem Strs.old {w w' : World} {x : Value} {l : List ByteArray} (h : Strs w x l) (hb : Below w.heap.size w w') : Strs w' x l := by
  obtain ⟨ao, c, rfl, h1, h2⟩ := h
  refine ⟨ao, c, rfl, h1, fun a ha j s hs => ?_⟩
  have h3 := h2 a ha j s hs
  rw [hb.cell (p := a.add j) (World.block_lt_of_cell? w _ h3)]
  exact h3

/-- The document's chain. -/
def chainV (x : Value) (code : Int) (other : ByteArray) (kind : Int) : Value := .agg #[x, .int .i64 code, .string other, .int .i64 kind]

set_option maxHeartbeats 1000000 in
theorem rerr_any (ao : Option Addr) (n c : Nat) (code : Int) (other : ByteArray) (kind : Int) (w : World) :
    Calls Tryd.prog 11 #[chainV (.slice ao n c) code other kind] w fun e w' => e = .returned (.int .i64 (if kind = 0 then 0 else if kind = 1 then code else 11)) ∧ Below w.heap.size w w' := by
  have HB := hid ((Below.refl w.heap.size w).alloc (Nat.le_refl _) (.cells #[.slice ao n c, .int .i64 code, .string other, .int .i64 kind] 27))
  unfold chainV
  by_cases h0 : kind = 0
  · subst h0
    go_enter Tryd.func11, Tryd.ntmps11
    go_wp2
    go_ret
    exact ⟨rfl, HB.out⟩
  · by_cases h1 : kind = 1
    · subst h1
      go_enter Tryd.func11, Tryd.ntmps11
      go_wp2
      go_ret
      exact ⟨rfl, HB.out⟩
    · have d0 : (kind == 0) = false := by simp [h0]
      have d1 : (kind == 1) = false := by simp [h1]
      rw [if_neg h0, if_neg h1]
      clear h0 h1
      go_enter Tryd.func11, Tryd.ntmps11
      go_wp2
      go_ret
      exact ⟨rfl, HB.out⟩

theorem lineL_append (a b : List ByteArray) : lineL (a ++ b) = lineL a ++ lineL b := by
  induction a with
  | nil => rfl
  | cons s r ih => simp [lineL, ih]

theorem ba_ext {a : ByteArray} {l : List UInt8} (h : a.data.toList = l) : a = ⟨l.toArray⟩ := by
  subst h; cases a; rfl
theorem ba_append (a b : ByteArray) : (a ++ b).data.toList = a.data.toList ++ b.data.toList := by simp

set_option maxHeartbeats 4000000 in
set_option maxRecDepth 100000 in
theorem rtext_any (x : Value) (l : List ByteArray) (code : Int) (other : ByteArray) (kind : Int) (w : World) (hx : Strs w x l) (hl1 : l.length ≤ 1000) (hs : (lineL l).length + other.size + 16 ≤ 140737488355328) :
    Calls Tryd.prog 13 #[chainV x code other kind] w fun e w' => e = .returned (.string ⟨(lineL l ++ (if kind = 1 then errText code else other).data.toList).toArray⟩) ∧ Below w.heap.size w w' := by
  obtain ⟨ao, c, rfl, hn, hc⟩ := hx
  unfold chainV
  have HB := hid ((Below.refl w.heap.size w).alloc (Nat.le_refl _) (.cells #[.slice ao l.length c, .int .i64 code, .string other, .int .i64 kind] 27))
  have HS := hid hs
  have HL1 := hid hl1
  have HN := hid hn
  have HC := hid (fun a ha j s hj => by
    have h3 := hc a ha j s hj
    rw [← h3]
    exact HB.out.cell (p := a.add j) (World.block_lt_of_cell? w _ h3) : ∀ a, ao = some a → ∀ (j : Nat) s, l[j]? = some s → (w.alloc (.cells #[.slice ao l.length c, .int .i64 code, .string other, .int .i64 kind] 27)).cell? (a.add j) = some (.string s))
  clear hn hc hs hl1
  go_enter Tryd.func13, Tryd.ntmps13
  go_wp2_with fail
  go_loopw [3, 4] (fun o i wr => ∃ (k : Nat) (s : ByteArray), k ≤ l.length ∧ i = .int .i64 k ∧ o = .string s ∧ s.data.toList = lineL (l.take k) ∧ wr = w.alloc (.cells #[.slice ao l.length c, .int .i64 code, .string other, .int .i64 kind] 27)) (fun _ i _ => l.length - (intOf i).toNat)
  case atStart => exact ⟨0, .empty, Nat.zero_le _, rfl, rfl, rfl, rfl⟩
  case round =>
    obtain ⟨k, s, hk, rfl, rfl, hl, rfl⟩ := hrel
    have HK := hid hk
    have HL := hid hl
    clear hk hl
    by_cases hlt : k < l.length
    · obtain ⟨a, rfl⟩ : ∃ a, ao = some a := by
        cases ao with
        | none => have := HN.out rfl; subst this; simp at hlt
        | some a => exact ⟨a, rfl⟩
      have hcell := HC.out a rfl k l[k] (List.getElem?_eq_getElem hlt)
      have HE : Hid (lineL (l.take (k + 1)) = lineL (l.take k) ++ (l[k].data.toList ++ [58, 32])) := by
        rw [List.take_add_one, List.getElem?_eq_getElem hlt]
        show lineL (l.take k ++ [l[k]]) = _
        rw [lineL_append]
        simp [lineL]
      have HM : Hid ((lineL (l.take (k + 1))).length ≤ (lineL l).length) := by
        have : lineL l = lineL (l.take (k + 1)) ++ lineL (l.drop (k + 1)) := by rw [← lineL_append, List.take_append_drop]
        rw [this]; simp [Hid]
      generalize l[k] = t at *
      have e1 : ¬ (s.size + t.size > 9223372036854775807) := by
        have := HM.out; have := HS.out; have h1 := sz s; have h2 := sz t; rw [HL.out] at h1; rw [HE.out] at *; simp only [List.length_append, List.length_cons, List.length_nil] at *; omega
      have e2 : ¬ (s.size + t.size + 2 > 9223372036854775807) := by
        have := HM.out; have := HS.out; have h1 := sz s; have h2 := sz t; rw [HL.out] at h1; rw [HE.out] at *; simp only [List.length_append, List.length_cons, List.length_nil] at *; omega
      go_wp2_with fail
      have hw : wrap64 ((k : Int) + 1) = ((k + 1 : Nat) : Int) := by have := HL1.out; simp only [wrap64]; omega
      rw [hw]
      go_roundw
      case rel => exact ⟨k + 1, s ++ t ++ ⟨#[58, 32]⟩, by omega, rfl, rfl, by rw [ba_append, ba_append, HL.out, HE.out, List.append_assoc], trivial⟩
      case measure => simp [intOf]; omega
    · have HSl : Hid (s.data.toList = lineL l) := by
        have := HL.out
        rw [List.take_of_length_le (by omega)] at this
        exact this
      by_cases h1 : kind = 1
      · subst h1
        have e1 : ¬ (s.size + (errText code).size > 9223372036854775807) := by
          have h2 := HS.out; have h3 := errText_le code; have h4 := sz s; rw [HSl.out] at h4; omega
        go_wp2_with (first | (go_at_call 26; refine (nerror_any code _).mono ?_))
        rintro e w2 ⟨rfl, hb2⟩
        have HB2 := hid hb2
        clear hb2
        go_wp2
        go_ret
        refine ⟨?_, HB.out.trans (HB2.out.mono (by simp))⟩
        exact congrArg _ (congrArg _ (ba_ext (by rw [ba_append, HSl.out])))
      · have d1 : (kind == 1) = false := by simp [h1]
        have HI : Hid ((if kind = 1 then errText code else other) = other) := if_neg h1
        have e1 : ¬ (s.size + other.size > 9223372036854775807) := by
          have h2 := HS.out; have h4 := sz s; rw [HSl.out] at h4; omega
        go_wp2_with fail
        go_ret
        refine ⟨?_, HB.out⟩
        exact congrArg _ (congrArg _ (ba_ext (by rw [ba_append, HSl.out])))
end Go.Proofs.YtombgehopopdfaaDoor
