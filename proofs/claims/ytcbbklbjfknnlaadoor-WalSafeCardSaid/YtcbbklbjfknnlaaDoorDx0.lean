/-
  DISK: rows and bytes, one by one.
-/
import Derived.LoopN
import Derived.Test.YtcbbklbjfknnlaaDoorDr
import Derived.Deep.OwnRows
set_option linter.unusedVariables false
set_option maxRecDepth 100000
namespace Go.Proofs.YtcbbklbjfknnlaaDoor
open Go.RowKit

theorem info_u8 : (Tryd.prog.info? 5).map (fun i => (i.zero, i.size, i.bytes)) = some (some (.int .u8 0), 1, 1) := by kernel_rfl

theorem row_own {w : World} {b n : Nat} {t : TypeId} {f : Nat → Value} {base : Nat} {l : List UInt8} (h : w.rowIs b t n f) (hb : base ≤ b) (hl : l.length = n) (hm : n ≤ maxLen) (hf : ∀ i, i < n → ∃ c, l[i]? = some c ∧ f i = bv c) :
    w.ownsRow base t 1 (.slice (some ⟨b, 0, none⟩) n n) l.length (l.map bv) := by
  obtain ⟨c, hc, hs, hg⟩ := h
  subst hl
  refine ⟨by simp, .inr ⟨b, l.length, c, rfl, hb, hc, Nat.le_refl _, hm, by omega, ?_⟩⟩
  apply List.ext_getElem?
  intro i
  by_cases hi : i < l.length
  · obtain ⟨v, hv, hfv⟩ := hf i hi
    rw [List.getElem?_take, if_pos (by omega), List.getElem?_map, hv, Array.getElem?_toList, hg i hi, hfv]
    rfl
  · rw [List.getElem?_eq_none (by simp; omega), List.getElem?_eq_none (by simp; omega)]

theorem rd_get {w : World} {ao : Option Addr} {n c : Nat} {l : List UInt8} (h : Rd w (.slice ao n c) l) {k : Nat} {v : UInt8} (hk : l[k]? = some v) : ∃ b off, ao = some ⟨b, off, none⟩ ∧ w.cell? ⟨b, off + k, none⟩ = some (bv v) := by
  obtain ⟨ao', c', he, h1, h2, h3, h4⟩ := h
  simp only [Value.slice.injEq] at he
  obtain ⟨rfl, rfl, rfl⟩ := he
  have hkl : k < l.length := (List.getElem?_eq_some_iff.1 hk).1
  cases ao with
  | none => have := h3 rfl; omega
  | some a =>
    obtain ⟨b, off, spot⟩ := a
    have h00 := h4 _ rfl 0 (bv (l[0]'(by omega))) (by rw [List.getElem?_map, List.getElem?_eq_getElem (by omega)]; rfl)
    have hspot : spot = none := by simpa [Addr.add] using World.cell?_spot h00
    subst hspot
    refine ⟨b, off, rfl, ?_⟩
    have h0 := h4 _ rfl k (bv v) (by rw [List.getElem?_map, hk]; rfl)
    rw [WideShapes.add_plain] at h0
    exact h0

end Go.Proofs.YtcbbklbjfknnlaaDoor
