/-
  RAFT: a group of one that leads: what its calls come to.
-/
import Derived.Test.YtdaecndbdinddaaRp
import Derived.Test.YtdaecndbdinddaaRj
set_option linter.unusedVariables false
set_option linter.unusedSimpArgs false
set_option maxRecDepth 100000
namespace Go.Proofs.Ytdaecndbdinddaa
open Go.RowKit Go.Deep

/-- A group of one that leads, and knows all up to j + 1 committed. -/
structure Al (w wr : World) (b : Nat) (L : Lo) (j : Nat) : Prop where
  one : One w.heap.size wr b L 2 1 (j + 1) 1 true
  bl : Below w.heap.size w wr
  sum : L.si + L.es.length = j + 1
  ht : L.ht = 1
section
variable {w wr wr' : World} {b : Nat} {L : Lo} {j : Nat}
theorem Al.old (h : Al w wr b L j) (hb : Below wr.heap.size wr wr') : Al w wr' b L j := ⟨h.one.old hb, h.bl.trans (hb.mono h.bl.size), h.sum, h.ht⟩
theorem Al.row (h : Al w wr b L j) : ∀ k, XO b L k → w.heap.size ≤ k := fun k hk => hk.elim (fun e => by rw [e]; exact h.one.bb) (fun e => (h.one.own.own.lt k e).1)
theorem al_propose (h : Al w wr b L j) (hj : j ≤ 40) (a : Option Addr) (n c : Nat) (d : List UInt8) (hn : n = d.length) (hd : Rd wr (.slice a n c) d) (hdl : d.length ≤ 200) :
    Calls Try.prog 15 #[.pointer (some ⟨b, 0, none⟩), .slice a n c] wr (fun e w' => e = .returned (.tuple #[.int .u64 ((j + 2 : Nat) : Int), .int .i64 0]) ∧ ∃ L', Al w w' b L' (j + 1) ∧ ∃ (E : List En) (r : Rc), L'.es = E ++ [⟨1, j + 2, r⟩] ∧ r.b = d) := by
  have hs := h.sum
  refine (propose1_any h.one a n c d hn hd (by omega) (by omega) (by omega) h.bl.size).mono fun e w' ⟨he, po, pc, r, hr, ho, hk⟩ => ⟨?_, L.more po pc r, ⟨?_, h.bl.trans (hk.below h.bl.size h.row), ?_, h.ht⟩, L.es, r, ?_, hr⟩
  · rw [he, show L.si + L.es.length + 1 = j + 2 from by omega]
  · rw [show max (j + 1) (L.si + L.es.length + 1) = j + 1 + 1 from by omega] at ho
    exact ho
  · rw [more_len]
    show L.si + _ = _
    omega
  · show L.es ++ [_] = _
    rw [h.ht, show L.si + L.es.length + 1 = j + 2 from by omega]
theorem al_status (h : Al w wr b L j) (hj : j ≤ 41) : Calls Try.prog 17 #[.pointer (some ⟨b, 0, none⟩)] wr (fun e w' => e = .returned (.agg #[.int .i64 2, .int .u64 (L.ht : Int), .int .i64 L.hv, .int .i64 1, .int .u64 ((j + 1 : Nat) : Int), .int .u64 ((L.si + 1 : Nat) : Int), .int .u64 ((L.si + L.es.length : Nat) : Int)]) ∧ Below wr.heap.size wr w') := by
  have hs := h.sum
  exact status_any h.one.nd (by omega) (by omega) (by omega)
theorem al_take (h : Al w wr b L j) : Calls Try.prog 23 #[.pointer (some ⟨b, 0, none⟩)] wr (fun e w' => e = .returned (.slice none 0 0) ∧ Al w w' b L j) :=
  (take_any h.one.nd (by omega)).mono fun e w' ⟨he, hn, hk⟩ => ⟨he, ⟨h.one.keep hk hn, h.bl.trans (hk.below h.bl.size (fun k e => by rw [e]; exact h.one.bb)), h.sum, h.ht⟩⟩
theorem al_known (h : Al w wr b L j) (hj : j ≤ 41) (E : List En) (e0 : En) (hE : L.es = E ++ [e0]) : Calls Try.prog 18 #[.pointer (some ⟨b, 0, none⟩), .int .u64 ((j + 1 : Nat) : Int)] wr (fun e w' => ∃ (F : En) (yo : Option Addr) (yc : Nat), e = .returned (.slice yo 1 yc) ∧ F.pe = e0.pe ∧ Ents w' (.slice yo 1 yc) [F] ∧ Below wr.heap.size wr w') := by
  have hs := h.sum
  have hlen : L.es.length = E.length + 1 := by rw [hE, List.length_append]; rfl
  have one : ∀ (F : List En), F.map En.pe = [e0].map En.pe → ∃ x, F = [x] ∧ x.pe = e0.pe := fun F hF => by
    cases F with
    | nil => simp at hF
    | cons x F =>
      cases F with
      | nil => exact ⟨x, rfl, by simpa using hF⟩
      | cons y F => simp at hF
  by_cases h0 : E.length = 0
  · have hEn : E = [] := List.length_eq_zero_iff.1 h0
    have hk := known_any h.one.nd (by omega) h.one.lo (by omega) 1 (by omega) (by omega) (by omega) (j + 1) (by omega)
    refine hk.mono fun e w' ⟨F, yo, yc, q1, q2, q3, q4⟩ => ?_
    rw [hE, hEn] at q2
    obtain ⟨x, rfl, hx⟩ := one F (by simpa using q2)
    exact ⟨x, yo, yc, q1, hx, q3, q4⟩
  · have hk := known2_any h.one.nd (by omega) h.one.lo (by omega) (by omega) (by omega) E.length ⟨by omega, by omega⟩ 1 (by omega)
    rw [show L.si + 1 + E.length = j + 1 from by omega] at hk
    refine hk.mono fun e w' ⟨F, yo, yc, q1, q2, q3, q4⟩ => ?_
    rw [hE, List.drop_left] at q2
    obtain ⟨x, rfl, hx⟩ := one F q2
    exact ⟨x, yo, yc, q1, hx, q3, q4⟩
theorem al_compact (h : Al w wr b L j) (hj : j ≤ 41) (hne : 1 ≤ L.es.length) (a : Option Addr) (n c : Nat) (d : List UInt8) (hn : n = d.length) (hd : Rd wr (.slice a n c) d) (hdl : d.length ≤ 200) :
    Calls Try.prog 24 #[.pointer (some ⟨b, 0, none⟩), .int .u64 ((j + 1 : Nat) : Int), .slice a n c] wr (fun e w' => e = .returned (.int .i64 0) ∧ ∃ L', Al w w' b L' j ∧ L'.es = [] ∧ L'.sd.b = d) := by
  have hs := h.sum
  refine (compact1_any h.one (by omega) hne (by omega) a n c d hn hd (by omega) h.bl.size).mono fun e w' ⟨he, sr, yo, yc, q1, q2, q3⟩ => ⟨he, _, ⟨q2, h.bl.trans (q3.below h.bl.size (fun k e => by rw [e]; exact h.one.bb)), ?_, h.ht⟩, rfl, q1⟩
  show j + 1 + 0 = j + 1
  rfl
theorem al_known0 (h : Al w wr b L j) (hj : j ≤ 41) (he : L.es = []) : Calls Try.prog 18 #[.pointer (some ⟨b, 0, none⟩), .int .u64 0] wr (fun e w' => (∃ yo yc, e = .returned (.slice yo 0 yc)) ∧ Below wr.heap.size wr w') := by
  have hs := h.sum
  have hl : L.es.length = 0 := by rw [he]; rfl
  exact (known_any h.one.nd (by omega) h.one.lo (by omega) 0 (Nat.zero_le _) (by omega) (by omega) 0 (Nat.zero_le _)).mono fun e w' ⟨F, yo, yc, q1, q2, q3, q4⟩ => ⟨⟨yo, yc, q1⟩, q4⟩
theorem al_log (h : Al w wr b L j) (hj : j ≤ 41) : Calls Try.prog 25 #[.pointer (some ⟨b, 0, none⟩)] wr (CpA L wr) := by
  have hs := h.sum
  exact rlog_any h.one.nd (by omega) h.one.lo (by omega)
end
end Go.Proofs.Ytdaecndbdinddaa
