/-
  DISK: armoirelaw05.Sector.
-/
import Derived.LoopN
import Derived.Test.YtihholgdpmbkeaaDr
import Derived.Deep.OwnRows
set_option linter.unusedVariables false
set_option maxRecDepth 100000
namespace Go.Proofs.Ytihholgdpmbkeaa
open Go.RowKit

/-- The i-th byte of a sector of these bytes; a sector of them. -/
def secAt (l : List UInt8) (i : Nat) : UInt8 := if l.length = 0 then 0 else l.getD (i % l.length) 0
def secOf (l : List UInt8) : List UInt8 := (List.range 64).map (secAt l)
theorem sec_len (l : List UInt8) : (secOf l).length = 64 := by simp [secOf]

theorem info_u8 : (Try.prog.info? 5).map (fun i => (i.zero, i.size, i.bytes)) = some (some (.int .u8 0), 1, 1) := by kernel_rfl

theorem row_own {w : World} {b n : Nat} {t : TypeId} {f : Nat → Value} {base : Nat} {l : List UInt8} (h : w.rowIs b t n f) (hb : base ≤ b) (hl : l.length = n) (hm : n ≤ maxLen) (hf : ∀ i, i < n → ∃ c, l[i]? = some c ∧ f i = bv c) :
    w.ownsRow base t 1 (.slice (some ⟨b, 0, none⟩) n n) l.length (l.map bv) := by
  obtain ⟨c, hc, hs, hg⟩ := h
  subst hl
  refine ⟨by simp, .inr ⟨b, l.length, c, rfl, hb, hc, Nat.le_refl _, hm, by omega, ?_⟩⟩
  apply List.ext_getElem?
  intro i
  by_cases hi : i < l.length
  · obtain ⟨v, hv, hfv⟩ := hf i hi
    rw [List.getElem?_take, if_pos (by omega), List.getElem?_map, hv, Array.getElem?_toList, hg i hi, hfv]
    rfl
  · rw [List.getElem?_eq_none (by simp; omega), List.getElem?_eq_none (by simp; omega)]

theorem rd_get {w : World} {ao : Option Addr} {n c : Nat} {l : List UInt8} (h : Rd w (.slice ao n c) l) {k : Nat} {v : UInt8} (hk : l[k]? = some v) : ∃ b off, ao = some ⟨b, off, none⟩ ∧ w.cell? ⟨b, off + k, none⟩ = some (bv v) := by
  obtain ⟨ao', c', he, h1, h2, h3, h4⟩ := h
  simp only [Value.slice.injEq] at he
  obtain ⟨rfl, rfl, rfl⟩ := he
  have hkl : k < l.length := (List.getElem?_eq_some_iff.1 hk).1
  cases ao with
  | none => have := h3 rfl; omega
  | some a =>
    obtain ⟨b, off, spot⟩ := a
    have h00 := h4 _ rfl 0 (bv (l[0]'(by omega))) (by rw [List.getElem?_map, List.getElem?_eq_getElem (by omega)]; rfl)
    have hspot : spot = none := by simpa [Addr.add] using World.cell?_spot h00
    subst hspot
    refine ⟨b, off, rfl, ?_⟩
    have h0 := h4 _ rfl k (bv v) (by rw [List.getElem?_map, hk]; rfl)
    rw [WideShapes.add_plain] at h0
    exact h0

set_option maxHeartbeats 4000000 in
theorem sector_any (w : World) (x : Value) (l : List UInt8) (h : Rd w x l) : Calls Try.prog 25 #[x] w (Gives 5 w (secOf l)) := by
  have hx := h
  obtain ⟨ao, c, rfl, h1, h2, h3, h4⟩ := hx
  have hmk := run_make_row' (P := Try.prog) 30 5 (.int .u8 0) 1 Try.underlying30 info_u8 rfl .i64 .i64 64 (by decide) (by decide)
  have hmk2 : ∀ W, (Instr.makeSlice 30 (.int .i64 64) (.int .i64 64)).run Try.prog W = .ok (.slice (some ⟨W.heap.size, 0, none⟩) 64 64) (W.alloc (.cells (madeCells #[.int .u8 0] 64) 5)) := hmk
  have hlen := fun W => run_len_slice (P := Try.prog) W 30 3 ao l.length c Try.underlying30
  have HX := hid h
  have HM := hid h1
  unfold maxLen at h2
  clear h3 h4 hmk h
  obtain ⟨mc, hmc⟩ : ∃ mc, mc = madeCells #[Value.int .u8 0] 64 := ⟨_, rfl⟩
  rw [← hmc] at hmk2
  have HMC := hid hmc
  clear hmc
  have hrow : (w.alloc (.cells mc 5)).rowIs w.heap.size 5 64 (fun _ => .int .u8 0) := by rw [HMC.out]; exact World.rowIs_made w _ 64 _
  have hbz : Below w.heap.size w (w.alloc (.cells mc 5)) := (Below.refl _ _).alloc (Nat.le_refl _) _
  have HROW := hid hrow
  have HBZ := hid hbz
  clear hrow hbz
  go_enter Try.func25, Try.ntmps25
  go_wp2_with fail
  go_loopw [4] (fun i wr => ∃ k : Nat, k ≤ 64 ∧ (l.length = 0 → k = 0) ∧ i = .int .i64 k ∧ Hid (wr.rowIs w.heap.size 5 64 (fun j => if j < k then bv (secAt l j) else .int .u8 0)) ∧ Hid (Below w.heap.size w wr)) (fun i _ => 64 - (intOf i).toNat)
  case atStart => exact ⟨0, by omega, by omega, rfl, by simpa using HROW, HBZ⟩
  case round =>
    obtain ⟨k, hk, hk0, rfl, HR, HB⟩ := hrel
    by_cases hlt : k < 64
    · by_cases hl : 0 < l.length
      · have hmod : k % l.length < l.length := Nat.mod_lt _ hl
        have hv := List.getElem?_eq_getElem hmod
        generalize l[k % l.length] = u at *
        obtain ⟨b, off, rfl, hcl⟩ := rd_get (HX.out.old HB.out) hv
        have hu : secAt l k = u := by
          unfold secAt
          rw [if_neg (by omega), List.getD, hv]
          rfl
        have hrm : (k : Int).tmod (l.length : Int) = ((k % l.length : Nat) : Int) := rfl
        have hw1 : IntKind.i64.wrap ((k % l.length : Nat) : Int) = ((k % l.length : Nat) : Int) := by rw [IntKind.wrap_i64]; omega
        have hl0 : ¬ ((l.length : Int) = 0) := by omega
        have hl1 : (0 : Int) < (l.length : Int) := by omega
        have hs0 := HR.out.cell hlt
        have hs1 := HR.out.frozen k
        have hr2 : (wr.setCell ⟨w.heap.size, k, none⟩ (bv u)).rowIs w.heap.size 5 64 (fun j => if j < k + 1 then bv (secAt l j) else .int .u8 0) := (HR.out.set k (bv u)).congr (fun j hj => by
          by_cases e : j = k
          · subst e; simp [hu]
          · by_cases e2 : j < k
            · rw [if_neg e, if_pos e2, if_pos (by omega)]
            · rw [if_neg e, if_neg e2, if_neg (by omega)])
        have HR2 := hid hr2
        have HB2 : Hid (Below w.heap.size w (wr.setCell ⟨w.heap.size, k, none⟩ (bv u))) := HB.out.setCell (Nat.le_refl _) _
        clear hr2 hu hv
        unfold bv at *
        go_wp2_with fail
        exact ⟨⟨k + 1, by omega, by omega, by go_num, HR2, HB2⟩, by simp [intOf]; omega⟩
      · have hk00 : k = 0 := hk0 (by omega)
        subst hk00
        have hl00 : l.length = 0 := by omega
        have hl1 : ¬ ((0 : Int) < (l.length : Int)) := by omega
        have HE : Hid (Gives 5 w (secOf l) (.returned (.slice (some ⟨w.heap.size, 0, none⟩) 64 64)) wr) := by
          refine ⟨_, rfl, row_own HR.out (Nat.le_refl _) (sec_len l) (by decide) (fun i hi => ⟨secAt l i, by unfold secOf; rw [List.getElem?_map, List.getElem?_range hi]; rfl, ?_⟩), HB.out⟩
          rw [if_neg (by omega)]
          unfold secAt
          rw [if_pos hl00]
          rfl
        go_wp2_with fail
        go_ret
        exact HE.out
    · obtain rfl : k = 64 := by omega
      have HE : Hid (Gives 5 w (secOf l) (.returned (.slice (some ⟨w.heap.size, 0, none⟩) 64 64)) wr) :=
        ⟨_, rfl, row_own HR.out (Nat.le_refl _) (sec_len l) (by decide) (fun i hi => ⟨secAt l i, by unfold secOf; rw [List.getElem?_map, List.getElem?_range hi]; rfl, if_pos hi⟩), HB.out⟩
      go_wp2_with fail
      go_ret
      exact HE.out
end Go.Proofs.Ytihholgdpmbkeaa
