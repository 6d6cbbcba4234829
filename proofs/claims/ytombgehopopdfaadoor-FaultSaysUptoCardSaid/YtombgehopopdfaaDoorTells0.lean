/-
  AN ERROR AND ITS TEXT: e.Error(), the documents Text.
-/
import Derived.Test.YtombgehopopdfaaDoorFaultIsWalk
set_option linter.unusedVariables false
namespace Go.Proofs.YtombgehopopdfaaDoor
open Go.RowKit Go.Extern.Stop Go.Stop Go.Extern

/-- Strings that came in, all of them small. -/
def Small (l : List ByteArray) : Prop := ∀ s ∈ l, s.size ≤ 1048576

theorem lineL_le : ∀ {l : List ByteArray} {N : Nat}, (∀ s ∈ l, s.size ≤ N) → (lineL l).length ≤ l.length * (N + 2)
  | [], _, _ => Nat.zero_le _
  | s :: r, N, h => by
    have h1 := lineL_le (l := r) (N := N) (fun t ht => h t (List.mem_cons_of_mem _ ht))
    have h2 := h s (List.mem_cons_self ..)
    have h3 := sz s
    simp only [lineL, List.length_append, List.length_cons, List.length_nil, Nat.add_mul]
    omega

/-- The text of an end that 'made' gave. -/
theorem end_text {code : Int} {o : ByteArray} {kk : Int} {d : End} (h : EndOf code o kk d) : (if kk = 1 then errText code else o).data.toList = endL d := by
  rcases h with ⟨rfl, rfl, _⟩ | ⟨rfl, rfl⟩ <;> rfl

theorem made_small {code : Int} {o : ByteArray} {kk : Int} {d : End} {l l' : List ByteArray} (hs : Small l) (ho : o.size ≤ 1048576) (hm : ∀ s ∈ l', s = firstName ∨ s ∈ l) (hl : l'.length ≤ 13) (hd : EndOf code o kk d) :
    (lineL l').length ≤ 20000000 ∧ (textL l' d).length ≤ 30000000 := by
  have h1 := lineL_le (l := l') (N := 1048576) (fun s h => by
    rcases hm s h with rfl | h
    · decide
    · exact hs s h)
  have h2 : (endL d).length ≤ 1048576 := by
    rcases hd with ⟨rfl, rfl, _⟩ | ⟨rfl, rfl⟩
    · have := errText_le code; have h3 := sz (errText code); simp only [endL]; omega
    · have h3 := sz o; simp only [endL]; omega
  have h3 : l'.length * (1048576 + 2) ≤ 13 * (1048576 + 2) := Nat.mul_le_mul_right _ hl
  unfold textL
  rw [List.length_append]
  omega

/-- An error's text, whatever error it is: 'e.Error()'. -/
theorem rtext_end (x : Value) (l : List ByteArray) (code : Int) (o : ByteArray) (kk : Int) (d : End) (w : World) (hx : Strs w x l) (hl1 : l.length ≤ 1000) (hs : (lineL l).length ≤ 20000000) (ho : o.size ≤ 1048576) (hd : EndOf code o kk d) :
    Calls Tryd.prog 13 #[.agg #[x, .int .i64 code, .string o, .int .i64 kk]] w fun e w' => e = .returned (.string ⟨(textL l d).toArray⟩) ∧ Below w.heap.size w w' := by
  have h := rtext_any x l code o kk w hx hl1 (by omega)
  rw [end_text hd] at h
  exact h

/-- Which method an error's Error is. -/
def errFn : Value → FuncId
  | .iface T _ => if T = 43 then 25 else if T = 22 then 26 else 60
  | _ => 60
def errArg : Value → Value
  | .iface _ v => v
  | v => v
theorem method_error {w0 : World} {l : List ByteArray} {d : End} {T : TypeId} {v : Value} (h : Chain w0 l d (.iface T v)) (w : World) : (Go.method 227 T v "Error").run Tryd.prog w = .ok (errFn (.iface T v), v) w := by
  cases l with
  | nil => cases d with
    | code n => cases h; exact methodErrorC _ w
    | text s => obtain ⟨b, he, _⟩ := h; cases he; exact methodErrorS _ w
  | cons s r => obtain ⟨b, c, he, _⟩ := h; cases he; exact methodErrorF _ w
theorem error_any (w : World) (l : List ByteArray) (d : End) (T : TypeId) (v : Value) (hg : 0 < w.heap.size) (hc : Chain w l d (.iface T v)) (hs : (textL l d).length ≤ 30000000) :
    Calls Tryd.prog (errFn (.iface T v)) #[v] w fun e w' => e = .returned (.string ⟨(textL l d).toArray⟩) ∧ Below w.heap.size w w' := by
  cases l with
  | nil => cases d with
    | code n =>
      cases hc
      refine (nerror_any n w).mono ?_
      rintro e w' ⟨rfl, h⟩
      exact ⟨by rw [ba_ext (a := errText n) rfl]; rfl, h⟩
    | text s =>
      obtain ⟨b, he, hb⟩ := hc
      cases he
      refine (serror_any b s w hb).mono ?_
      rintro e w' ⟨rfl, rfl⟩
      exact ⟨by rw [ba_ext (a := s) rfl]; rfl, Below.refl _ _⟩
  | cons s r =>
    have hc' := hc
    obtain ⟨b, c, he, _⟩ := hc'
    cases he
    exact merror_any w (s :: r) d b hc hg (by omega)
theorem chain_type {w : World} {l : List ByteArray} {d : End} {T : TypeId} {v : Value} (h : Chain w l d (.iface T v)) : T = 43 ∨ T = 22 ∨ T = 70 := by
  cases l with
  | nil => cases d with
    | code n => cases h; exact .inr (.inl rfl)
    | text s => obtain ⟨b, he, _⟩ := h; cases he; exact .inr (.inr rfl)
  | cons s r => obtain ⟨b, c, he, _⟩ := h; cases he; exact .inl rfl
end Go.Proofs.YtombgehopopdfaaDoor
