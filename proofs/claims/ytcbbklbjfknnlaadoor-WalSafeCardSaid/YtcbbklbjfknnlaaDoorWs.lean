/-
  WAL: a sector with its number; a head's bytes.
-/
import Derived.Test.YtcbbklbjfknnlaaDoorWb
import Derived.Test.YtcbbklbjfknnlaaDoorOb
import Derived.Test.YtcbbklbjfknnlaaDoorDw
set_option linter.unusedVariables false
set_option maxRecDepth 100000
namespace Go.Proofs.YtcbbklbjfknnlaaDoor
open Go.RowKit

/-- A sector: a body, and its number at its end. -/
def secB (l : List UInt8) (n : Nat) : List UInt8 := l ++ List.replicate (56 - l.length) 0 ++ le8 n
theorem secB_len {l : List UInt8} {n : Nat} (h : l.length ≤ 56) : (secB l n).length = 64 := by
  unfold secB
  rw [List.length_append, List.length_append, List.length_replicate, le8_len]
  omega

theorem made_bytes (n : Nat) : madeCells #[Value.int .u8 0] n = ((List.replicate n (0 : UInt8)).map bv).toArray := by
  apply Array.toList_inj.1
  apply List.ext_getElem?
  intro j
  rw [List.map_replicate]
  by_cases hj : j < n
  · simp [madeCells, hj, List.getElem?_replicate, bv, Nat.mod_one]
  · simp [madeCells, hj, List.getElem?_replicate]

set_option maxHeartbeats 4000000 in
theorem sealed_any (w : World) (x : Value) (l : List UInt8) (n : Nat) (h : Rd w x l) (h0 : 0 < l.length) (hl : l.length ≤ 56) (hn : n < 18446744073709551616) : Calls Tryd.prog 46 #[x, .int .u64 (n : Int)] w (Gives 5 w (secB l n)) := by
  obtain ⟨ao, c, rfl, -⟩ := id h
  obtain ⟨b, off, rfl, hrg⟩ := rd_range h h0
  obtain ⟨i0, hi, hz0, hz1, hz2⟩ := info_parts info_u8
  have hmk0 := fun W => run_make (P := Tryd.prog) W 32 5 i0 _ Tryd.underlying32 hi hz0 .i64 .i64 56 64 (by decide) (by decide) (by rw [hz2]; decide) (by decide)
  obtain ⟨mc, hmc⟩ : ∃ mc, mc = ((List.replicate 64 (0 : UInt8)).map bv).toArray := ⟨_, rfl⟩
  have hmk : ∀ W, (Instr.makeSlice 32 (.int .i64 56) (.int .i64 64)).run Tryd.prog W = .ok (.slice (some ⟨W.heap.size, 0, none⟩) 56 64) (W.alloc (.cells mc 5)) := fun W => by
    rw [hmk0 W, hz1, hmc, ← made_bytes]
    rfl
  have hmcs : mc.size = 64 := by rw [hmc]; simp
  have hz : (w.alloc (.cells mc 5)).heap[w.heap.size]? = some (.cells mc 5 (0, 0)) := heap_alloc_new _ _
  have hcp : (Builtin.copy_ #[32, 32] 3 #[.slice (some ⟨w.heap.size, 0, none⟩) 56 64, .slice (some ⟨b, off, none⟩) l.length c]).run Tryd.prog (w.alloc (.cells mc 5)) = .ok (goInt l.length) ((w.alloc (.cells mc 5)).setCells w.heap.size 0 (l.map bv)) := by
    have h9 := run_copy_cells (P := Tryd.prog) (w.alloc (.cells mc 5)) 32 32 3 5 w.heap.size 0 56 64 ⟨b, off, none⟩ l.length c (l.map bv) Tryd.underlying32 (by kernel_rfl) (by rw [List.length_map]; simp [Nat.min_def]; omega)
      (fun j v hv => by rw [Addr.add_mid]; exact (World.rangeAt_alloc hrg _) j v hv)
      (fun j hj => by
        rw [List.length_map] at hj
        unfold World.cell?
        rw [hz]
        show (mc[0 + j]?).isSome = true
        rw [Array.getElem?_eq_getElem (by omega)]
        rfl)
      (fun j hj => by unfold World.frozen?; rw [hz]; simp) (bv_one l)
    rw [h9, List.length_map]
  obtain ⟨W1, hW1⟩ : ∃ W1, W1 = (w.alloc (.cells mc 5)).setCells w.heap.size 0 (l.map bv) := ⟨_, rfl⟩
  have hb1 : Below w.heap.size w W1 := by rw [hW1]; exact below_setCells (Nat.le_refl _) _ _ _ ((Below.refl _ _).alloc (Nat.le_refl _) _)
  have hown : W1.ownsRow w.heap.size 5 1 (.slice (some ⟨w.heap.size, 0, none⟩) 56 64) 56 ((l ++ List.replicate (56 - l.length) 0).map bv) := by
    obtain ⟨c', q1, q2, q3⟩ := setCells_at (l.map bv) 0 (w.alloc (.cells mc 5)) mc hz (by rw [List.length_map]; omega)
    refine ⟨by simp; omega, .inr ⟨w.heap.size, 64, c', rfl, Nat.le_refl _, by rw [hW1]; exact q1, by decide, by decide, by rw [q2, hmcs], ?_⟩⟩
    apply List.ext_getElem?
    intro j
    rw [List.getElem?_take, Array.getElem?_toList, q3 j, List.length_map, List.map_append, List.getElem?_append, List.length_map, List.map_replicate]
    by_cases hj : j < 56
    · rw [if_pos (by omega)]
      by_cases hjl : j < l.length
      · rw [if_pos (by omega), if_pos hjl, Nat.sub_zero]
      · rw [if_neg (by omega), if_neg hjl, hmc, List.getElem?_toArray, List.map_replicate, List.getElem?_replicate, List.getElem?_replicate, if_pos (by omega), if_pos (by omega)]
    · rw [if_neg (by omega), if_neg (by omega), List.getElem?_replicate, if_neg (by omega)]
  rw [← hW1] at hcp
  have CL := hid (little_any W1 n hn)
  have HB1 := hid hb1
  have HO1 := hid hown
  have HXL : Hid ((l ++ List.replicate (56 - l.length) 0).length = 56) := by show _ = _; simp; omega
  clear hb1 hown hW1 hz hmcs hmc hmk0 hz0 hz1 hz2 hi hrg h hn
  go_enter Tryd.func46, Tryd.ntmps46
  go_wp2_with (first | (go_at_call 62; refine CL.out.mono ?_))
  rintro e w2 ⟨y, rfl, hy, hb2⟩
  obtain ⟨yo, yc, rfl⟩ := own_form hy
  have HY := hid (Rd.own hy)
  have HO2 := hid (own_old HO1.out hb2)
  have HB2 := hid hb2
  have HF : Hid (56 + (le8 n).length ≤ 64) := by show _ ≤ _; rw [le8_len]; decide
  clear hy hb2
  go_wp2_with (first
    | (at_builtin; refine wp_app_fits rfl _ _ 32 rfl w.heap.size 5 Tryd.underlying32 (by kernel_rfl) w.heap.size 56 64 _ rfl HO2.out _ (le8 n) rfl HY.out HF.out ?_))
  intro w3 o3 g3
  have HB3 : Hid (Below w.heap.size w w3) := ((HB1.out.trans (HB2.out.mono HB1.out.size))).grown g3 (Nat.le_trans HB1.out.size HB2.out.size) (fun k e => by cases e; exact Nat.le_refl _)
  have HO3 := hid o3
  clear o3 g3
  go_wp2_with fail
  go_ret
  have h9 := HO3.out
  have e8 : (secB l n).map bv = List.map bv l ++ (List.replicate (56 - l.length) (bv 0) ++ List.map bv (le8 n)) := by unfold secB; simp
  have e9 : (secB l n).length = 56 + (le8 n).length := by rw [secB_len hl, le8_len]
  exact ⟨_, rfl, by rw [e9, e8]; exact h9, HB3.out⟩
end Go.Proofs.YtcbbklbjfknnlaaDoor
