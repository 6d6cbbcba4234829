import Derived.Test.YtddnleofflobhaaGreatDoorRows
import Derived.WalkKit
import Derived.WalkSpells
import Derived.WalkLawsBesides
import Derived.Laws.AppendOwnNone
import Derived.BigQuiet
import Derived.Deep.QuietTactic
import Derived.Deep.MidRow
import Derived.Laws.MakeOwn
import Derived.Lib.Bytes
import Derived.Shelf.Abstract
import Derived.Deep.RegionHeld3
import Derived.Deep.WholeRow
import Derived.BigRegion
import Derived.Great.BuildSlice
import Derived.Deep.AppendLies
import Derived.StillTailTactics
import Derived.Deep.RegionLaw
import Derived.Deep.CutBlock
import Derived.Great.FillDense
import Derived.Laws.Tables
import Derived.LoopN
import Derived.Deep.OwnRows
import Derived.OwnWalk
import Derived.Deep.Slices
import Derived.OpenShut
import Derived.Deep.RegionWith
import Derived.RangeFuncNested
import Derived.RangeFuncBound
import Derived.RangeFuncCalls
import Derived.RangeFuncLeaves
import Derived.RangeFuncBox
import Derived.Shelf.RegionOpen
import Derived.OwnWalkIn
import Derived.TacticsInMore
import Derived.LoopNIn
import Derived.LoopIn
import Derived.OrdersIn
import Derived.Deep.CutRange
import Derived.Sort.CutIn
import Derived.Test.YtddnleofflobhaaGreatDoorVG1
import Derived.Test.YtddnleofflobhaaGreatDoorVG2
import Derived.Test.YtddnleofflobhaaGreatDoorVG3
import Derived.Test.YtddnleofflobhaaGreatDoorVG4
import Derived.Test.YtddnleofflobhaaGreatDoorVG5
set_option linter.unusedVariables false
set_option linter.unusedSimpArgs false
set_option linter.unusedVariables false
set_option maxRecDepth 100000
namespace Go.Proofs.YtddnleofflobhaaGreatDoor
open Go.RowKit

/-- A sector: a body, and its number at its end. -/
def secB (l : List UInt8) (n : Nat) : List UInt8 := l ++ List.replicate (56 - l.length) 0 ++ le8 n
theorem secB_len {l : List UInt8} {n : Nat} (h : l.length ≤ 56) : (secB l n).length = 64 := by
  unfold secB
  rw [List.length_append, List.length_append, List.length_replicate, le8_len]
  omega

theorem made_bytes (n : Nat) : madeCells #[Value.int .u8 0] n = ((List.replicate n (0 : UInt8)).map bv).toArray := by
  apply Array.toList_inj.1
  apply List.ext_getElem?
  intro j
  rw [List.map_replicate]
  by_cases hj : j < n
  · simp [madeCells, hj, List.getElem?_replicate, bv, Nat.mod_one]
  · simp [madeCells, hj, List.getElem?_replicate]

set_option maxHeartbeats 4000000 in
theorem sealed_any (w : World) (x : Value) (l : List UInt8) (n : Nat) (h : Rd w x l) (h0 : 0 < l.length) (hl : l.length ≤ 56) (hn : n < 18446744073709551616) : Calls Tryz.prog 134 #[x, .int .u64 (n : Int)] w (Gives 5 w (secB l n)) := by
  obtain ⟨ao, c, rfl, -⟩ := id h
  obtain ⟨b, off, rfl, hrg⟩ := rd_range h h0
  obtain ⟨i0, hi, hz0, hz1, hz2⟩ := info_parts info_u8
  have hmk0 := fun W => run_make (P := Tryz.prog) W 25 5 i0 _ Tryz.underlying25 hi hz0 .i64 .i64 56 64 (by decide) (by decide) (by rw [hz2]; decide) (by decide)
  obtain ⟨mc, hmc⟩ : ∃ mc, mc = ((List.replicate 64 (0 : UInt8)).map bv).toArray := ⟨_, rfl⟩
  have hmk : ∀ W, (Instr.makeSlice 25 (.int .i64 56) (.int .i64 64)).run Tryz.prog W = .ok (.slice (some ⟨W.heap.size, 0, none⟩) 56 64) (W.alloc (.cells mc 5)) := fun W => by
    rw [hmk0 W, hz1, hmc, ← made_bytes]
    rfl
  have hmcs : mc.size = 64 := by rw [hmc]; simp
  have hz : (w.alloc (.cells mc 5)).heap[w.heap.size]? = some (.cells mc 5 (0, 0)) := heap_alloc_new _ _
  have hcp : (Builtin.copy_ #[25, 25] 3 #[.slice (some ⟨w.heap.size, 0, none⟩) 56 64, .slice (some ⟨b, off, none⟩) l.length c]).run Tryz.prog (w.alloc (.cells mc 5)) = .ok (goInt l.length) ((w.alloc (.cells mc 5)).setCells w.heap.size 0 (l.map bv)) := by
    have h9 := run_copy_cells (P := Tryz.prog) (w.alloc (.cells mc 5)) 25 25 3 5 w.heap.size 0 56 64 ⟨b, off, none⟩ l.length c (l.map bv) Tryz.underlying25 (by kernel_rfl) (by rw [List.length_map]; simp [Nat.min_def]; omega)
      (fun j v hv => by rw [Addr.add_mid]; exact (World.rangeAt_alloc hrg _) j v hv)
      (fun j hj => by
        rw [List.length_map] at hj
        unfold World.cell?
        rw [hz]
        show (mc[0 + j]?).isSome = true
        rw [Array.getElem?_eq_getElem (by omega)]
        rfl)
      (fun j hj => by unfold World.frozen?; rw [hz]; simp) (bv_one l)
    rw [h9, List.length_map]
  obtain ⟨W1, hW1⟩ : ∃ W1, W1 = (w.alloc (.cells mc 5)).setCells w.heap.size 0 (l.map bv) := ⟨_, rfl⟩
  have hb1 : Below w.heap.size w W1 := by rw [hW1]; exact below_setCells (Nat.le_refl _) _ _ _ ((Below.refl _ _).alloc (Nat.le_refl _) _)
  have hown : W1.ownsRow w.heap.size 5 1 (.slice (some ⟨w.heap.size, 0, none⟩) 56 64) 56 ((l ++ List.replicate (56 - l.length) 0).map bv) := by
    obtain ⟨c', q1, q2, q3⟩ := setCells_at (l.map bv) 0 (w.alloc (.cells mc 5)) mc hz (by rw [List.length_map]; omega)
    refine ⟨by simp; omega, .inr ⟨w.heap.size, 64, c', rfl, Nat.le_refl _, by rw [hW1]; exact q1, by decide, by decide, by rw [q2, hmcs], ?_⟩⟩
    apply List.ext_getElem?
    intro j
    rw [List.getElem?_take, Array.getElem?_toList, q3 j, List.length_map, List.map_append, List.getElem?_append, List.length_map, List.map_replicate]
    by_cases hj : j < 56
    · rw [if_pos (by omega)]
      by_cases hjl : j < l.length
      · rw [if_pos (by omega), if_pos hjl, Nat.sub_zero]
      · rw [if_neg (by omega), if_neg hjl, hmc, List.getElem?_toArray, List.map_replicate, List.getElem?_replicate, List.getElem?_replicate, if_pos (by omega), if_pos (by omega)]
    · rw [if_neg (by omega), if_neg (by omega), List.getElem?_replicate, if_neg (by omega)]
  rw [← hW1] at hcp
  have CL := hid (little_any W1 n hn)
  have HB1 := hid hb1
  have HO1 := hid hown
  have HXL : Hid ((l ++ List.replicate (56 - l.length) 0).length = 56) := by show _ = _; simp; omega
  clear hb1 hown hW1 hz hmcs hmc hmk0 hz0 hz1 hz2 hi hrg h hn
  go_enter Tryz.func134, Tryz.ntmps134
  go_wp2_with (first | (go_at_call 143; refine CL.out.mono ?_))
  rintro e w2 ⟨y, rfl, hy, hb2⟩
  obtain ⟨yo, yc, rfl⟩ := own_form hy
  have HY := hid (Rd.own hy)
  have HO2 := hid (own_old HO1.out hb2)
  have HB2 := hid hb2
  have HF : Hid (56 + (le8 n).length ≤ 64) := by show _ ≤ _; rw [le8_len]; decide
  clear hy hb2
  go_wp2_with (first
    | (at_builtin; refine wp_app_fits rfl _ _ 25 rfl w.heap.size 5 Tryz.underlying25 (by kernel_rfl) w.heap.size 56 64 _ rfl HO2.out _ (le8 n) rfl HY.out HF.out ?_))
  intro w3 o3 g3
  have HB3 : Hid (Below w.heap.size w w3) := ((HB1.out.trans (HB2.out.mono HB1.out.size))).grown g3 (Nat.le_trans HB1.out.size HB2.out.size) (fun k e => by cases e; exact Nat.le_refl _)
  have HO3 := hid o3
  clear o3 g3
  go_wp2_with fail
  go_ret
  have h9 := HO3.out
  have e8 : (secB l n).map bv = List.map bv l ++ (List.replicate (56 - l.length) (bv 0) ++ List.map bv (le8 n)) := by unfold secB; simp
  have e9 : (secB l n).length = 56 + (le8 n).length := by rw [secB_len hl, le8_len]
  exact ⟨_, rfl, by rw [e9, e8]; exact h9, HB3.out⟩
end Go.Proofs.YtddnleofflobhaaGreatDoor

set_option linter.unusedVariables false
set_option maxRecDepth 100000
namespace Go.Proofs.YtddnleofflobhaaGreatDoor
open Go.RowKit

/-- A head. -/
structure Hd where
  tn : Nat
  fi : Nat
  fr : Nat
  su : Nat
def hv (h : Hd) : List Value := [.int .u64 (h.tn : Int), .int .u64 (h.fi : Int), .int .i64 (h.fr : Int), .int .i64 (h.su : Int)]
structure Hd.Ok (h : Hd) : Prop where
  tn : h.tn < 18446744073709551616
  fi : h.fi < 18446744073709551616
  fr : h.fr ≤ 65536
  su : h.su ≤ 65536
def hBody (h : Hd) : List UInt8 := le8 h.fi ++ le8 h.fr ++ le8 h.su
theorem hBody_len (h : Hd) : (hBody h).length = 24 := by unfold hBody; simp [le8_len]
/-- A head's sector. -/
def hSec (h : Hd) : List UInt8 := secB (hBody h) h.tn
theorem hSec_len (h : Hd) : (hSec h).length = 64 := secB_len (by rw [hBody_len]; decide)

def h3 (h : Hd) : List Nat := [h.fi, h.fr, h.su]
theorem h3_all (h : Hd) : (h3 h).flatMap le8 = hBody h := by unfold h3 hBody; simp

set_option maxHeartbeats 4000000 in
theorem hsector_any (w : World) (h : Hd) (hk : h.Ok) : Calls Tryz.prog 142 #[.agg (hv h).toArray] w (Gives 5 w (hSec h)) := by
  have w1 : IntKind.u64.wrap (h.fr : Int) = (h.fr : Int) := by rw [wrap_u64]; have := hk.fr; omega
  have w2 : IntKind.u64.wrap (h.su : Int) = (h.su : Int) := by rw [wrap_u64]; have := hk.su; omega
  have HK := hid hk
  clear hk
  unfold hv
  go_enter Tryz.func142, Tryz.ntmps142
  go_wp2_with fail
  have hba : Below w.heap.size w ((w.alloc (.cells #[.int .u64 (h.tn : Int), .int .u64 (h.fi : Int), .int .i64 (h.fr : Int), .int .i64 (h.su : Int)] 89)).alloc (.cells #[.int .u64 (h.fi : Int), .int .u64 (h.fr : Int), .int .u64 (h.su : Int)] 22)) := ((Below.refl _ _).alloc (Nat.le_refl _) _).alloc (by simp) _
  have hx0 : ((w.alloc (.cells #[.int .u64 (h.tn : Int), .int .u64 (h.fi : Int), .int .i64 (h.fr : Int), .int .i64 (h.su : Int)] 89)).alloc (.cells #[.int .u64 (h.fi : Int), .int .u64 (h.fr : Int), .int .u64 (h.su : Int)] 22)).heap[w.heap.size]? = some (.cells #[.int .u64 (h.tn : Int), .int .u64 (h.fi : Int), .int .i64 (h.fr : Int), .int .i64 (h.su : Int)] 89 (0, 0)) := (Below.heap_alloc _ _ _ (by simp)).trans (heap_alloc_new _ _)
  have hx1 : ((w.alloc (.cells #[.int .u64 (h.tn : Int), .int .u64 (h.fi : Int), .int .i64 (h.fr : Int), .int .i64 (h.su : Int)] 89)).alloc (.cells #[.int .u64 (h.fi : Int), .int .u64 (h.fr : Int), .int .u64 (h.su : Int)] 22)).heap[w.heap.size + 1]? = some (.cells #[.int .u64 (h.fi : Int), .int .u64 (h.fr : Int), .int .u64 (h.su : Int)] 22 (0, 0)) := by
    have := heap_alloc_new (w.alloc (.cells #[.int .u64 (h.tn : Int), .int .u64 (h.fi : Int), .int .i64 (h.fr : Int), .int .i64 (h.su : Int)] 89)) (.cells #[.int .u64 (h.fi : Int), .int .u64 (h.fr : Int), .int .u64 (h.su : Int)] 22)
    rw [show (w.alloc (.cells #[.int .u64 (h.tn : Int), .int .u64 (h.fi : Int), .int .i64 (h.fr : Int), .int .i64 (h.su : Int)] 89)).heap.size = w.heap.size + 1 from by simp] at this
    exact this
  generalize (w.alloc (.cells #[.int .u64 (h.tn : Int), .int .u64 (h.fi : Int), .int .i64 (h.fr : Int), .int .i64 (h.su : Int)] 89)).alloc (.cells #[.int .u64 (h.fi : Int), .int .u64 (h.fr : Int), .int .u64 (h.su : Int)] 22) = wz at *
  have HBA := hid hba
  have HX0 := hid hx0
  have HX1 := hid hx1
  have hlt0 : w.heap.size < wz.heap.size := lt_of_block hx0
  have hlt1 : w.heap.size + 1 < wz.heap.size := lt_of_block hx1
  clear hba hx0 hx1
  obtain ⟨fl, hfl⟩ : ∃ fl : Nat → List UInt8, fl = fun k => ((h3 h).take k).flatMap le8 := ⟨_, rfl⟩
  have HFL : Hid (fl 0 = [] ∧ (∀ k u, (h3 h)[k]? = some u → fl (k + 1) = fl k ++ le8 u) ∧ fl 3 = hBody h ∧ ∀ k, k < 3 → (fl k).length ≤ 24) := by
    refine ⟨by rw [hfl]; rfl, fun k u hu => ?_, by rw [hfl]; exact h3_all h, fun k hk => ?_⟩
    · rw [hfl]
      show ((h3 h).take (k + 1)).flatMap le8 = ((h3 h).take k).flatMap le8 ++ le8 u
      rw [List.take_add_one, hu]
      simp
    · rw [hfl]
      have : k = 0 ∨ k = 1 ∨ k = 2 := by omega
      rcases this with rfl | rfl | rfl <;> simp [h3, le8_len]
  clear hfl
  go_loopw [3, 16] (fun x i wr => ∃ k : Nat, k ≤ 3 ∧ i = .int .i64 (k : Int) ∧ Hid (wr.ownsRow wz.heap.size 5 1 x (fl k).length ((fl k).map bv)) ∧ Hid (Below wz.heap.size wz wr)) (fun _ i _ => 3 - (intOf i).toNat)
  case atStart => exact ⟨0, by omega, rfl, by rw [HFL.out.1]; exact World.ownsRow_nil _ _ _ _, Below.refl _ _⟩
  case round =>
    obtain ⟨k, hk, rfl, HO, HB⟩ := hrel
    have hx1 := (HB.out.block _ hlt1).trans HX1.out
    by_cases hlt : k < 3
    · obtain ⟨u, hu, hul⟩ : ∃ u, (h3 h)[k]? = some u ∧ u < 18446744073709551616 := by
        have a1 := HK.out.fi
        have a2 := HK.out.fr
        have a3 := HK.out.su
        have : k = 0 ∨ k = 1 ∨ k = 2 := by omega
        rcases this with rfl | rfl | rfl
        · exact ⟨h.fi, rfl, a1⟩
        · exact ⟨h.fr, rfl, by omega⟩
        · exact ⟨h.su, rfl, by omega⟩
      have hcl : wr.cell? ⟨w.heap.size + 1, k, none⟩ = some (.int .u64 (u : Int)) := by
        unfold World.cell?
        rw [hx1]
        show (#[Value.int .u64 (h.fi : Int), .int .u64 (h.fr : Int), .int .u64 (h.su : Int)] : Array Value)[k]? = _
        have : k = 0 ∨ k = 1 ∨ k = 2 := by omega
        rcases this with rfl | rfl | rfl <;> (cases hu; rfl)
      have hki : (k : Int) < 3 := by omega
      have HT := hid (HFL.out.2.1 k u hu)
      have HL : Hid ((fl k).length + (le8 u).length ≤ 140737488355328) := by
        show _ ≤ _
        rw [le8_len]
        have := HFL.out.2.2.2 k hlt
        omega
      have CL := hid (little_any wr u hul)
      clear hu hx1
      go_wp2_with (first | (go_at_call 143; refine CL.out.mono ?_))
      rintro e w4 ⟨y, rfl, hy, hb4⟩
      obtain ⟨yo, yc, rfl⟩ := own_form hy
      have HY := hid (Rd.own hy)
      have HO4 := hid (own_old HO.out hb4)
      have HB4 := hid hb4
      have HBS : Hid (wz.heap.size ≤ w4.heap.size) := Nat.le_trans HB.out.size hb4.size
      clear hy hb4 hcl
      go_wp2_with (first
        | (at_builtin; refine wp_app rfl _ _ 25 rfl wz.heap.size 5 Tryz.underlying25 (by kernel_rfl) _ _ _ rfl HO4.out _ (le8 u) rfl HY.out HL.out HBS.out ?_))
      intro v5 w5 o5 g5
      have HO5 : Hid (w5.ownsRow wz.heap.size 5 1 v5 (fl (k + 1)).length ((fl (k + 1)).map bv)) := by
        show World.ownsRow _ _ _ _ _ _ _
        rw [HT.out, List.length_append, List.map_append]
        exact o5
      have HB5 : Hid (Below wz.heap.size wz w5) := (HB.out.trans (HB4.out.mono HB.out.size)).grown g5 HBS.out (fun k hk => (HO4.out.lt k hk).1)
      clear o5 g5
      go_wp2_with fail
      go_roundw
      case rel => exact ⟨k + 1, by omega, by go_num, HO5, HB5⟩
      case measure => first | (simp [intOf]; done) | (simp [intOf]; omega)
    · obtain rfl : k = 3 := by omega
      have ho := HO.out
      rw [HFL.out.2.2.1] at ho
      have hx0 := (HB.out.block _ hlt0).trans HX0.out
      obtain ⟨c0, c1, c2, c3, -, -, -, -⟩ := four_cells hx0
      have CS := hid (sealed_any wr _ (hBody h) h.tn (Rd.own ho) (by rw [hBody_len]; decide) (by rw [hBody_len]; decide) HK.out.tn)
      clear ho hx0 hx1
      go_wp2_with (first | (go_at_call 134; refine CS.out.mono ?_))
      rintro e w4 ⟨y, rfl, hy, hb4⟩
      have HE : Hid (Gives 5 w (hSec h) (.returned y) w4 ∨ True) := .inr trivial
      have hyy := ownsRow_base hy (Nat.le_trans HBA.out.size HB.out.size)
      have hbb : Below w.heap.size w w4 := below_on2 HBA.out (below_on2 HB.out hb4)
      obtain ⟨yo, yc, rfl⟩ := own_form hy
      have HYY := hid hyy
      have HBB := hid hbb
      clear hy hb4 hyy hbb c0 c1 c2 c3
      go_wp2_with fail
      go_ret
      exact ⟨_, rfl, HYY.out, HBB.out⟩

/-- What bytes are as a head. -/
def hdOf (l : List UInt8) : Hd := if max (gr ((l.drop 8).take 8)) (gr ((l.drop 16).take 8)) > 65536 then ⟨0, 0, 0, 0⟩ else ⟨sealN l, gr (l.take 8), gr ((l.drop 8).take 8), gr ((l.drop 16).take 8)⟩
theorem gr8_lt (l : List UInt8) (h : l.length ≤ 8) : gr l < 18446744073709551616 := by
  have h1 := gr_lt l
  have h2 : 256 ^ l.length ≤ 256 ^ 8 := Nat.pow_le_pow_right (by omega) h
  have h3 : (256 : Nat) ^ 8 = 18446744073709551616 := by decide
  omega
theorem hdOf_ok (l : List UInt8) (h : l.length = 64) : (hdOf l).Ok := by
  unfold hdOf
  split
  · exact ⟨by decide, by decide, by decide, by decide⟩
  · exact ⟨gr8_lt _ (by rw [List.length_drop, h]; decide), gr8_lt _ (by rw [List.length_take]; omega), by show gr _ ≤ _; omega, by show gr _ ≤ _; omega⟩

theorem four_set {w : World} {b : Nat} {x y z u : Value} {t : TypeId} (h : w.heap[b]? = some (.cells #[x, y, z, u] t (0, 0))) (x' y' z' u' : Value) :
    ((((w.setCell ⟨b, 0, none⟩ x').setCell ⟨b, 1, none⟩ y').setCell ⟨b, 2, none⟩ z').setCell ⟨b, 3, none⟩ u').heap[b]? = some (.cells #[x', y', z', u'] t (0, 0)) :=
  set_at (k := 3) u' (set_at (k := 2) z' (set_at (k := 1) y' (set_at (k := 0) x' h)))
theorem below_set4 {w : World} {B b : Nat} {w0 : World} (h : Below B w0 w) (hb : B ≤ b) (x' y' z' u' : Value) : Below B w0 ((((w.setCell ⟨b, 0, none⟩ x').setCell ⟨b, 1, none⟩ y').setCell ⟨b, 2, none⟩ z').setCell ⟨b, 3, none⟩ u') :=
  (((h.setCell hb x').setCell hb y').setCell hb z').setCell hb u'
/-- What headOf gives. -/
def HeadA (l : List UInt8) (w : World) (e : Ending) (w' : World) : Prop := e = .returned (.agg (hv (hdOf l)).toArray) ∧ Below w.heap.size w w'

set_option maxHeartbeats 4000000 in
theorem headOf_any (w : World) (x : Value) (l : List UInt8) (h : Rd w x l) (hl : l.length = 64) : Calls Tryz.prog 106 #[x] w (HeadA l w) := by
  obtain ⟨a8, c8, hs8, hr8, -⟩ := h.cut (P := Tryz.prog) 25 5 Tryz.underlying25 (by kernel_rfl) 8 (by omega)
  obtain ⟨a16, c16, hs16, hr16, -⟩ := h.cut (P := Tryz.prog) 25 5 Tryz.underlying25 (by kernel_rfl) 16 (by omega)
  have hq8 : ∀ W, (Instr.slice 25 x (some (.int .i64 8)) none none).run Tryz.prog W = .ok (.slice a8 (l.length - 8) c8) W := fun W => hs8 W
  have hq16 : ∀ W, (Instr.slice 25 x (some (.int .i64 16)) none none).run Tryz.prog W = .ok (.slice a16 (l.length - 16) c16) W := fun W => hs16 W
  have hone := one_rd h
  rw [hl] at hq8 hq16 hr8 hr16
  simp only [Nat.reduceSub] at hq8 hq16 hr8 hr16
  have hba : Below w.heap.size w (w.alloc (.cells #[.int .u64 0, .int .u64 0, .int .i64 0, .int .i64 0] 89)) := (Below.refl _ _).alloc (Nat.le_refl _) _
  have hx0 : (w.alloc (.cells #[.int .u64 0, .int .u64 0, .int .i64 0, .int .i64 0] 89)).heap[w.heap.size]? = some (.cells #[.int .u64 0, .int .u64 0, .int .i64 0, .int .i64 0] 89 (0, 0)) := heap_alloc_new _ _
  have HR8 := hid hr8
  have HR16 := hid hr16
  have HR := hid h
  have HL := hid hl
  clear hs8 hs16 h hr8 hr16 hl
  go_enter Tryz.func106, Tryz.ntmps106
  go_upto_region 1 with fail
  generalize w.alloc (.cells #[.int .u64 0, .int .u64 0, .int .i64 0, .int .i64 0] 89) = wz at *
  have C8 : ∀ a, Calls Tryz.prog 108 #[.slice a8 56 c8] (wz.drewN a) (fun e w'' => e = .returned (.int .u64 (gr ((l.drop 8).take 8) : Int)) ∧ ∃ m, w'' = wz.drewN m) := fun a => (great_any (wz.drewN a) _ _ ((HR8.out.old hba).old (w' := wz.drewN a) ⟨rfl, rfl, rfl, Nat.le_refl _, fun _ _ => rfl⟩) (by rw [List.length_drop, HL.out]; decide)).mono fun _ _ h => ⟨h.1, a, h.2⟩
  have C16 : ∀ a, Calls Tryz.prog 108 #[.slice a16 48 c16] (wz.drewN a) (fun e w'' => e = .returned (.int .u64 (gr ((l.drop 16).take 8) : Int)) ∧ ∃ m, w'' = wz.drewN m) := fun a => (great_any (wz.drewN a) _ _ ((HR16.out.old hba).old (w' := wz.drewN a) ⟨rfl, rfl, rfl, Nat.le_refl _, fun _ _ => rfl⟩) (by rw [List.length_drop, HL.out]; decide)).mono fun _ _ h => ⟨h.1, a, h.2⟩
  have HBA := hid hba
  have HX0 := hid hx0
  clear hba hx0
  go_quiet ((first | (go_at_call_of 108 c8; exact C8 _) | (go_at_call_of 108 c16; exact C16 _)))
  have HBD := hid (below_on2 HBA.out (⟨rfl, rfl, rfl, Nat.le_refl _, fun _ _ => rfl⟩ : Below wz.heap.size wz (wz.drewN nq)))
  have HXD : Hid ((wz.drewN nq).heap[w.heap.size]? = some (.cells #[.int .u64 0, .int .u64 0, .int .i64 0, .int .i64 0] 89 (0, 0))) := HX0.out
  have ha16 := gr8_lt ((l.drop 8).take 8) (by rw [List.length_take]; omega)
  have hb16 := gr8_lt ((l.drop 16).take 8) (by rw [List.length_take]; omega)
  have HHD : Hid (hdOf l = if max (gr ((l.drop 8).take 8)) (gr ((l.drop 16).take 8)) > 65536 then ⟨0, 0, 0, 0⟩ else ⟨sealN l, gr (l.take 8), gr ((l.drop 8).take 8), gr ((l.drop 16).take 8)⟩) := rfl
  generalize wz.drewN nq = wy at *
  have CSL := hid (seal_any wy x l (HR.out.old HBD.out) HL.out)
  have CGR := hid (great_any wy x l (HR.out.old HBD.out) (by have := HL.out; omega))
  generalize gr ((l.drop 8).take 8) = fa at *
  generalize gr ((l.drop 16).take 8) = fb at *
  obtain ⟨c0, c1, c2, c3, f0, f1, f2, f3⟩ := four_cells HXD.out
  clear C8 C16
  by_cases hg : fa ≤ 65536 ∧ fb ≤ 65536
  · have hmx : ¬ (max fa fb > 65536) := by omega
    have HE : Hid (hdOf l = ⟨sealN l, gr (l.take 8), fa, fb⟩) := by
      show _ = _
      rw [HHD.out, if_neg hmx]
    have hm1 : ¬ ((65536 : Int) < max (fa : Int) (fb : Int)) := by omega
    have ha0 : (fa : Int) ≤ 65536 := by omega
    have hb0 : (fb : Int) ≤ 65536 := by omega
    have w1 : IntKind.i64.wrap (fa : Int) = (fa : Int) := by rw [IntKind.wrap_i64]; omega
    have w2 : IntKind.i64.wrap (fb : Int) = (fb : Int) := by rw [IntKind.wrap_i64]; omega
    clear hg hmx
    go_wp2_with (first
      | (go_at_call 122; refine CSL.out.mono ?_; rintro e w2 ⟨rfl, rfl⟩)
      | (go_at_call 108; refine CGR.out.mono ?_; rintro e w2 ⟨rfl, rfl⟩))
    all_goals
      refine bodyPost_ret (results_cell_row rfl _ _ w.heap.size 89 _ (0, 0) _ rfl (four_set HXD.out _ _ _ _) Tryz.underlying89 rfl (by kernel_rfl)) rfl ?_
      exact ⟨by rw [HE.out]; rfl, below_set4 HBD.out (Nat.le_refl _) _ _ _ _⟩
  · have hmx : max fa fb > 65536 := by omega
    have HE : Hid (hdOf l = ⟨0, 0, 0, 0⟩) := by
      show _ = _
      rw [HHD.out, if_pos hmx]
    rcases (by omega : (fb ≤ fa ∧ 65536 < fa) ∨ (fa < fb ∧ 65536 < fb)) with ⟨hle, hbig⟩ | ⟨hle, hbig⟩
    · have hm1 : max (fa : Int) (fb : Int) = (fa : Int) := by omega
      have hm2 : (65536 : Int) < (fa : Int) := by omega
      have hm3 : (fb : Int) ≤ (fa : Int) := by omega
      clear hg hmx
      go_wp2_with fail
      all_goals
        refine bodyPost_ret (results_cell_row rfl _ _ w.heap.size 89 _ (0, 0) _ rfl (four_set HXD.out _ _ _ _) Tryz.underlying89 rfl (by kernel_rfl)) rfl ?_
        exact ⟨by rw [HE.out]; rfl, below_set4 HBD.out (Nat.le_refl _) _ _ _ _⟩
    · have hm1 : max (fa : Int) (fb : Int) = (fb : Int) := by omega
      have hm2 : (65536 : Int) < (fb : Int) := by omega
      have hm3 : ¬ ((fb : Int) ≤ (fa : Int)) := by omega
      have hm4 : (fa : Int) ≤ (fb : Int) := by omega
      clear hg hmx
      go_wp2_with fail
      all_goals
        refine bodyPost_ret (results_cell_row rfl _ _ w.heap.size 89 _ (0, 0) _ rfl (four_set HXD.out _ _ _ _) Tryz.underlying89 rfl (by kernel_rfl)) rfl ?_
        exact ⟨by rw [HE.out]; rfl, below_set4 HBD.out (Nat.le_refl _) _ _ _ _⟩

/-- How many sectors a record takes. -/
def secs (n : Nat) : Nat := (8 + n + 56 - 1) / 56
theorem sectors_any (w : World) (ao : Option Addr) (n c : Nat) (hn : n ≤ 140737488355328) : Calls Tryz.prog 76 #[.slice ao n c] w (fun e w' => e = .returned (.int .i64 (secs n : Int)) ∧ w' = w) := by
  have hlen := fun W => run_len_slice (P := Tryz.prog) W 25 3 ao n c Tryz.underlying25
  have h1 : IntKind.i64.wrap ((8 : Int) + (n : Int)) = 8 + (n : Int) := by rw [IntKind.wrap_i64]; omega
  have h2 : IntKind.i64.wrap ((8 : Int) + (n : Int) + 56) = 8 + (n : Int) + 56 := by rw [IntKind.wrap_i64]; omega
  have h3 : IntKind.i64.wrap ((8 : Int) + (n : Int) + 56 - 1) = 8 + (n : Int) + 56 - 1 := by rw [IntKind.wrap_i64]; omega
  have h4 : ((8 : Int) + (n : Int) + 56 - 1).tdiv 56 = (secs n : Int) := by
    unfold secs
    rw [Int.tdiv_eq_ediv_of_nonneg (by omega)]
    omega
  have h5 : IntKind.i64.wrap (secs n : Int) = (secs n : Int) := by rw [IntKind.wrap_i64]; unfold secs; omega
  go_enter Tryz.func76, Tryz.ntmps76
  go_wp2_with fail
  go_ret
  exact ⟨rfl, rfl⟩
end Go.Proofs.YtddnleofflobhaaGreatDoor

set_option linter.unusedVariables false
namespace Go.Proofs.YtddnleofflobhaaGreatDoor
open Go.RowKit Go.Shelf
attribute [local go_sem] Oper.semAt_some

/-- What an iterator does with a yield. -/
def SeqR {α : Type} (F : Fence) (n : Nat) (P : Program) (g : Nat) (lb : Array Value) (encs : α → Array Value) (Kp : World → World → Prop) (Rx : List α → α → World → Prop) (S Sp : List α → Prop) (w : World) : Prop :=
  ∀ (l : Nat) (J Jx : List α → World → Prop) (W : World), Below w.heap.size w W → OwnFrom W.heap.size J → OwnFrom W.heap.size Jx →
    (∀ pre x W1, J pre W1 → Rx pre x W1 → W.heap.size ≤ W1.heap.size → YieldAt F (n - 1) P l (encs x) W1 fun e W' =>
      (e = .returned (.bool true) ∧ J (pre ++ [x]) W' ∧ Kp W1 W' ∧ KeepsFrom W.heap.size W1 W') ∨ (e = .returned (.bool false) ∧ Jx (pre ++ [x]) W' ∧ KeepsFrom W.heap.size W1 W')) →
    J [] W →
    CallsIn F n P g (#[.func (.yield l) #[] #[]] ++ lb) W fun e W' => (∃ v, e = .returned v) ∧ ((∃ xs, S xs ∧ J xs W') ∨ (∃ pre, Sp pre ∧ Jx pre W'))

theorem own_below {β : Type} {B : Nat} {I : β → World → Prop} (h : OwnFrom B I) {s : β} {W W' : World} (hs : I s W) (hb : Below W.heap.size W W') : I s W' :=
  h s W W' none hs (grown_below hb none) (fun r e => by cases e)

/-- One block alone has turned, a loop's record. -/
structure Turn (l : Nat) (A B : World) : Prop where
  grown : A.grownBy B (some l)
  old : ∃ o : Obj, A.heap[l]? = some o ∧ o.isCells = false
  now : ∃ r : Loop, B.heap[l]? = some (.loop r)

theorem turn_put {A : World} {l : Nat} {r : Loop} (h : A.heap[l]? = some (.loop r)) (r' : Loop) : Turn l A (A.putObj l (.loop r')) :=
  ⟨grownBy_putObj' A l _, ⟨_, h, rfl⟩, r', World.putObj_heap_same (lt_of_block h)⟩

theorem own_turn {β : Type} {B : Nat} {I : β → World → Prop} (h : OwnFrom B I) {s : β} {W W' : World} {l : Nat} (hs : I s W) (ht : Turn l W W') (hl : B ≤ l) : I s W' :=
  h s W W' (some l) hs ht.grown (fun r e => by cases e; exact ⟨hl, ht.old⟩)

/-- A round: its assignments, and its body behind the record's turn. -/
def RoundR {α : Type} (F : Fence) (n : Nat) (P : Program) (ps : Array Tmp) (assign body : Code) (tmps : Array Value) (encs : α → Array Value) (B : Nat) (Kp : World → World → Prop) (I : List α → World → Prop) (Ix : Code → List α → World → Prop) (Rx : List α → α → World → Prop) : Prop :=
  ∀ (l : Nat) (pre : List α) (x : α) (W : World), B ≤ l → (∃ r : Loop, W.heap[l]? = some (.loop r)) → I pre W → Rx pre x W →
    assign.wpIn (F.inRound l) n P (Exit.then (fun a' Wa => KeepsFrom B W Wa ∧ Kp W Wa ∧ ∀ Wb, Turn l Wa Wb → body.wpIn (F.inRound l) n P (ownPostG B Kp I Ix (pre ++ [x]) Wb) a' Wb) (fun _ _ _ => False))
      { tmps := (ps.zip (encs x)).foldl (fun t (p, v) => t.setIfInBounds p v) tmps, defers := [] } W

variable {F : Fence} {n : Nat} {P : Program}

/-- What is no cells, from B on, lies as it lay, but for block l. -/
structure KBut (B l : Nat) (W W' : World) : Prop where
  size : W.heap.size ≤ W'.heap.size
  same : ∀ k (o : Obj), B ≤ k → k ≠ l → W.heap[k]? = some o → o.isCells = false → W'.heap[k]? = some o
theorem KBut.of {B l : Nat} {W W' : World} (h : KeepsFrom B W W') : KBut B l W W' := ⟨h.size, fun k o h1 _ h2 h3 => h.same k o h1 h2 h3⟩
theorem KBut.turn {B l : Nat} {W W' : World} (h : Turn l W W') : KBut B l W W' := ⟨h.grown.size, fun k o _ hne h2 _ => heap_kept h.grown h2 (fun e => by cases e; exact hne rfl)⟩
theorem KBut.trans {B l : Nat} {X Y Z : World} (h : KBut B l X Y) (k : KBut B l Y Z) : KBut B l X Z := ⟨Nat.le_trans h.size k.size, fun i o h1 h2 h3 h4 => k.same i o h1 h2 (h.same i o h1 h2 h3 h4) h4⟩
theorem KBut.from {B l Bi : Nat} {W W' : World} (h : KBut B l W W') (hb : B ≤ Bi) (hl : l < Bi) : KeepsFrom Bi W W' := ⟨h.size, fun k o h1 h2 h3 => h.same k o (by omega) (by omega) h2 h3⟩

/-- What a round comes to, as the iterator sees it. -/
theorem round_yield {α : Type} {ps : Array Tmp} {assign body : Code} {tmps : Array Value} {encs : α → Array Value} {B l fn D : Nat} {Kp : World → World → Prop} {I : List α → World → Prop} {Ix : Code → List α → World → Prop} {Rx : List α → α → World → Prop}
    (hfn : F.fn fn) (hps : ∀ x, (encs x).size = ps.size) (hKt : ∀ {A B C : World}, Kp A B → Kp B C → Kp A C)
    (hKb : ∀ (W W' : World), Turn l W W' → Kp W W') (hI : OwnFrom B I) (hIx : ∀ c, OwnFrom B (Ix c)) (hBl : B ≤ l)
    (hr : RoundR F n P ps assign body tmps encs B Kp I Ix Rx) (pre : List α) (x : α) (W : World) (hi : I pre W) (hx : Rx pre x W)
    (hl : W.heap[l]? = some (.loop { state := .ready, pending := none, fn := fn, tmps := tmps, params := ps, assign := assign, body := body, defers := D })) :
    YieldAt F n P l (encs x) W fun e W' =>
      (e = .returned (.bool true) ∧ (I (pre ++ [x]) W' ∧ W'.heap[l]? = some (.loop { state := .ready, pending := none, fn := fn, tmps := tmps, params := ps, assign := assign, body := body, defers := D })) ∧ Kp W W' ∧ KBut B l W W') ∨
      (e = .returned (.bool false) ∧ (∃ c, Ix c (pre ++ [x]) W' ∧ W'.heap[l]? = some (.loop { state := .done, pending := some c, fn := fn, tmps := tmps, params := ps, assign := assign, body := body, defers := D })) ∧ KBut B l W W') := by
  have hy := run_yield (P := P) (args := encs x) hl (hps x)
  refine ⟨fn, _, assign, body, hy, roundIn_of_wpIn hfn ?_⟩
  refine wpIn_mono (hr l pre x W hBl ⟨_, hl⟩ hi hx) ?_
  rintro e a' Wa h
  cases e with
  | normal =>
    obtain ⟨hkf, hkp, hb⟩ := h
    have hla := hkf.same _ _ hBl hl rfl
    refine ⟨_, run_beginRound hla rfl, ?_⟩
    have hT := turn_put hla { state := .busy, pending := none, fn := fn, tmps := tmps, params := ps, assign := assign, body := body, defers := D }
    have hlb := World.putObj_heap_same (w := Wa) (o := .loop { state := .busy, pending := none, fn := fn, tmps := tmps, params := ps, assign := assign, body := body, defers := D }) (lt_of_block hla)
    refine wpIn_mono (hb _ hT) ?_
    have hk1 : KBut B l W (Wa.putObj l (.loop { state := .busy, pending := none, fn := fn, tmps := tmps, params := ps, assign := assign, body := body, defers := D })) := (KBut.of hkf).trans (KBut.turn hT)
    have fin : ∀ (jump : Option Code) (W3 : World), KeepsFrom B (Wa.putObj l (.loop { state := .busy, pending := none, fn := fn, tmps := tmps, params := ps, assign := assign, body := body, defers := D })) W3 →
        ∃ W4, (Instr.endRound l jump).run P W3 = .ok (.bool jump.isNone) W4 ∧ Turn l W3 W4 ∧ W4.heap[l]? = some (.loop { state := (if jump.isNone then .ready else .done), pending := jump, fn := fn, tmps := tmps, params := ps, assign := assign, body := body, defers := D }) ∧ KBut B l W W4 := fun jump W3 hk3 => by
      have hl3 := hk3.same _ _ hBl hlb rfl
      have hT3 := turn_put hl3 { state := (if jump.isNone then .ready else .done), pending := jump, fn := fn, tmps := tmps, params := ps, assign := assign, body := body, defers := D }
      exact ⟨_, run_endRound (P := P) jump hl3, hT3, World.putObj_heap_same (lt_of_block hl3), hk1.trans ((KBut.of hk3).trans (KBut.turn hT3))⟩
    rintro e3 a3 W3 hp
    cases e3 with
    | normal =>
      obtain ⟨hk3, hkp3, hi3⟩ := hp
      obtain ⟨W4, hr4, hT4, hl4, hk4⟩ := fin none W3 hk3
      exact ⟨_, W4, hr4, .inl ⟨rfl, ⟨own_turn hI hi3 hT4 hBl, hl4⟩, hKt hkp (hKt (hKb _ _ hT) (hKt hkp3 (hKb _ _ hT4))), hk4⟩⟩
    | ret =>
      obtain ⟨hk3, hi3⟩ := hp
      obtain ⟨W4, hr4, hT4, hl4, hk4⟩ := fin (some .ret) W3 hk3
      exact ⟨_, W4, hr4, .inr ⟨rfl, ⟨.ret, own_turn (hIx _) hi3 hT4 hBl, hl4⟩, hk4⟩⟩
    | exit id =>
      obtain ⟨hk3, hi3⟩ := hp
      obtain ⟨W4, hr4, hT4, hl4, hk4⟩ := fin (some (.exit id)) W3 hk3
      exact ⟨_, W4, hr4, .inr ⟨rfl, ⟨.exit id, own_turn (hIx _) hi3 hT4 hBl, hl4⟩, hk4⟩⟩
    | goto t =>
      obtain ⟨hk3, hi3⟩ := hp
      obtain ⟨W4, hr4, hT4, hl4, hk4⟩ := fin (some (.goto t)) W3 hk3
      exact ⟨_, W4, hr4, .inr ⟨rfl, ⟨.goto t, own_turn (hIx _) hi3 hT4 hBl, hl4⟩, hk4⟩⟩
    | panic ch => exact hp.elim
    | outgrown => exact hp.elim
  | ret => exact h.elim
  | exit id => exact h.elim
  | goto t => exact h.elim
  | panic ch => exact h.elim
  | outgrown => exact h.elim

/-- THE LAW, OUTERMOST: the block for the rounds' deferred calls, the record behind it. -/
theorem range_outer {α : Type} {g : Operand} {ps : Array Tmp} {assign body : Code} {Q : Exit → Act → World → Prop} {a : Act} {w : World}
    (hro : F.round = none) (h1 : 1 ≤ n) {gf : Nat} {lb : Array Value} (hg : a.eval g = .func (.func gf) #[] lb) (hFg : F.fn gf) (eg : ∀ args w, (callFunc gf args).run P w = .ok (.enter gf args) w)
    {encs : α → Array Value} {Kp : World → World → Prop} {Rx : List α → α → World → Prop} {S Sp : List α → Prop} {w0 : World} (hseq : SeqR F (n - 1) P gf lb encs Kp Rx S Sp w0)
    (hKt : ∀ {A B C : World}, Kp A B → Kp B C → Kp A C) (hKb : ∀ (W W' : World) (l : Nat), w.heap.size ≤ l → Turn l W W' → Kp W W') (hb0 : Below w0.heap.size w0 w) (hps : ∀ x, (encs x).size = ps.size)
    (I : List α → World → Prop) (Ix : Code → List α → World → Prop) (hI : OwnFrom w.heap.size I) (hIx : ∀ c, OwnFrom w.heap.size (Ix c)) (h0 : I [] w)
    (hround : RoundR F (n - 1 - 1) P ps assign body a.tmps encs w.heap.size Kp I Ix Rx)
    (hdone : ∀ (D : Nat) (xs : List α) (W : World), w.heap.size ≤ D → S xs → I xs W → W.heap[D]? = some (.deferred (some [])) → Q .normal { a with defers := { target := .collected D, args := #[] } :: a.defers } W)
    (hstop : ∀ (D : Nat) (c : Code) (pre : List α) (W : World), w.heap.size ≤ D → Sp pre → Ix c pre W → W.heap[D]? = some (.deferred (some [])) → c.wpIn F n P Q { a with defers := { target := .collected D, args := #[] } :: a.defers } W) :
    (Code.rangeFunc g ps assign body).wpIn F n P Q a w := by
  refine wpIn_rangeFunc ?_
  intro fn hfn
  rw [hro]
  obtain ⟨W1, hW1⟩ : ∃ W1, (w.alloc (.deferred (some []))).alloc (.loop { state := .ready, pending := none, fn := fn, tmps := a.tmps, params := ps, assign := assign, body := body, defers := w.heap.size }) = W1 := ⟨_, rfl⟩
  have hs1 : W1.heap.size = w.heap.size + 2 := by rw [← hW1]; simp
  have hL1 : W1.heap[w.heap.size + 1]? = some (.loop { state := .ready, pending := none, fn := fn, tmps := a.tmps, params := ps, assign := assign, body := body, defers := w.heap.size }) := by rw [← hW1]; exact heap_alloc2_new _ _ _
  have hD1 : W1.heap[w.heap.size]? = some (.deferred (some [])) := by rw [← hW1]; exact (Below.heap_alloc _ _ _ (by simp)).trans (heap_alloc_new _ _)
  have hbw : Below w.heap.size w W1 := by rw [← hW1]; exact ((Below.refl _ w).alloc (Nat.le_refl _) _).alloc (by simp) _
  have hI1 : I [] W1 := own_below hI h0 hbw
  refine ⟨w.heap.size + 1, [{ target := .collected w.heap.size, args := #[] }], W1, { target := .fn (.func gf) lb, args := #[.func (.yield (w.heap.size + 1)) #[] #[]] }, W1, gf,
    #[.func (.yield (w.heap.size + 1)) #[] #[]] ++ lb, W1, ?_, ?_, ?_, ?_, fun _ => h1, ?_⟩
  · rw [← hW1]; exact run_enterLoop_outer _ _ _ _ _
  · simp only [resolve, hg]
    simp [go_sem]
  · intro f' hf'; simp [Target.leads] at hf'; subst hf'; exact hFg
  · simp [invoke, go_sem, eg]
  · have keepL : ∀ {A B : World} {row : Option Nat}, A.grownBy B row → (∀ r, row = some r → W1.heap.size ≤ r ∧ ∃ o : Obj, A.heap[r]? = some o ∧ o.isCells = false) → ∀ {k : Nat} {o : Obj}, k < W1.heap.size → A.heap[k]? = some o → B.heap[k]? = some o := fun hg' hr k o hk ho => heap_kept hg' ho (fun e => by have := (hr k e.symm).1; omega)
    have upI : ∀ {β : Type} {Z : β → World → Prop}, OwnFrom w.heap.size Z → OwnFrom W1.heap.size Z := fun h s A B row hs hg' hr => h s A B row hs hg' (fun r e => ⟨by have := (hr r e).1; omega, (hr r e).2⟩)
    refine (hseq (w.heap.size + 1)
      (fun pre W => I pre W ∧ W.heap[w.heap.size + 1]? = some (.loop { state := .ready, pending := none, fn := fn, tmps := a.tmps, params := ps, assign := assign, body := body, defers := w.heap.size }) ∧ W.heap[w.heap.size]? = some (.deferred (some [])))
      (fun pre W => ∃ c, Ix c pre W ∧ W.heap[w.heap.size + 1]? = some (.loop { state := .done, pending := some c, fn := fn, tmps := a.tmps, params := ps, assign := assign, body := body, defers := w.heap.size }) ∧ W.heap[w.heap.size]? = some (.deferred (some [])))
      W1 (hb0.trans (hbw.mono hb0.size))
      (fun s A B row hs hg' hr => ⟨upI hI s A B row hs.1 hg' hr, keepL hg' hr (by omega) hs.2.1, keepL hg' hr (by omega) hs.2.2⟩)
      (fun s A B row hs hg' hr => by
        obtain ⟨c, hc, hl, hk⟩ := hs
        exact ⟨c, upI (hIx c) s A B row hc hg' hr, keepL hg' hr (by omega) hl, keepL hg' hr (by omega) hk⟩)
      ?_ ⟨hI1, hL1, hD1⟩).mono ?_
    · rintro pre x W ⟨hi, hl, hk⟩ hx hsz
      refine (round_yield (B := w.heap.size) (Kp := Kp) (I := I) (Ix := Ix) (Rx := Rx) hfn hps (fun h k => hKt h k) (fun W W' ht => hKb W W' _ (by omega) ht) hI hIx (by omega) hround pre x W hi hx hl).mono ?_
      rintro e W' (⟨rfl, ⟨h1, h3⟩, h4, h5⟩ | ⟨rfl, ⟨c, h1, h3⟩, h5⟩)
      · exact .inl ⟨rfl, ⟨h1, h3, h5.same _ _ (Nat.le_refl _) (by omega) hk rfl⟩, h4, h5.from (by omega) (by omega)⟩
      · exact .inr ⟨rfl, ⟨c, h1, h3, h5.same _ _ (Nat.le_refl _) (by omega) hk rfl⟩, h5.from (by omega) (by omega)⟩
    · rintro e W2 ⟨⟨v, rfl⟩, (⟨xs, hS, hi, hl, hk⟩ | ⟨pre, hSp, c, hi, hl, hk⟩)⟩
      · have hT := turn_put hl { state := .exhausted, pending := none, fn := fn, tmps := a.tmps, params := ps, assign := assign, body := body, defers := w.heap.size }
        exact ⟨none, _, run_endLoop (P := P) hl (by simp), hdone _ xs _ (Nat.le_refl _) hS (own_turn hI hi hT (by omega)) ((World.putObj_heap_other (by omega)).trans hk)⟩
      · have hT := turn_put hl { state := .exhausted, pending := some c, fn := fn, tmps := a.tmps, params := ps, assign := assign, body := body, defers := w.heap.size }
        exact ⟨some c, _, run_endLoop (P := P) hl (by simp), hstop _ c pre _ (Nat.le_refl _) hSp (own_turn (hIx c) hi hT (by omega)) ((World.putObj_heap_other (by omega)).trans hk)⟩
/-- A function that holds a range over a function, walked plainly. -/
theorem calls_marks {P : Program} {f : FuncId} {fn : Func} {c : Code} {args : Array Value} {w : World} {R : Ending → World → Prop} (hf : P.funcs[f]? = some fn) (hb : fn.body = some c)
    (h : c.wp P (bodyPostM Fence.wide 9 P fn R) { tmps := args ++ Array.replicate (fn.ntmps - args.size) undef, defers := [] } w) : Calls P f args w R :=
  callsIn_wide.1 (callsIn_of_wp_marks (n := 9) hf hb trivial (wpIn_wide.2 h) rfl)

end Go.Proofs.YtddnleofflobhaaGreatDoor

set_option linter.unusedVariables false
namespace Go.Proofs.YtddnleofflobhaaGreatDoor
open Go.RowKit Go.Shelf

theorem opIn_wide {P : Program} {l n : Nat} {o : Oper} {a : Act} {w : World} {K : Act → World → Prop} {Q : Exit → Act → World → Prop} (hd : ∀ c, o.op ≠ .defer c) (hr : ∀ row args w', (execOp a.eval o).run P w ≠ .ok (.row row args) w')
    (h : o.wp P a w K Q) : o.wpIn (Fence.wide.inRound l) n P a w K Q := by
  unfold Oper.wp at h
  refine ⟨fun _ _ => trivial, ?_⟩
  rw [Oper.semAt_eq _ _ _ hd]
  generalize hg : (execOp a.eval o).run P w = r at h
  cases r with
  | halt x w' => cases x <;> first | exact h | exact h.elim
  | ok x w' =>
    cases x with
    | value v => exact h
    | skip => exact h
    | defer d => exact h
    | enter f args => exact ⟨fun e => by simp [Fence.wide] at e, CallsIn.inRound l (callsIn_wide.2 (h.mono (fun e w'' he => by cases e <;> exact he)))⟩
    | row row args => exact (hr _ _ _ hg).elim
    | _ => exact h.elim

theorem anyIn_wide {P : Program} {l n : Nat} {md : Region.Mode} {ops : Array Oper} {Q : Exit → Act → World → Prop} (hq : ¬ LetsOut Q) (hd : ∀ (i : Nat) (o : Oper), ops[i]? = some o → (∀ c, o.op ≠ .defer c) ∧ ∀ (a : Act) (w : World) row args w', (execOp a.eval o).run P w ≠ .ok (.row row args) w') :
    ∀ (fuel : Nat) (listed : Array Bool) (a : Act) (w : World), wpAny P md ops Q fuel listed a w → wpAnyIn (Fence.wide.inRound l) n P md ops Q fuel listed a w
  | 0, _, _, _, h => h
  | fuel + 1, listed, a, w, h => ⟨h.1, fun i hi => by
    have h1 := h.2 i hi
    unfold wpOp at h1
    unfold wpOpIn
    cases ho : ops[i]? with
    | none => rw [ho] at h1; exact anyIn_wide hq hd fuel _ a w h1
    | some o =>
      rw [ho] at h1
      simp only at h1 ⊢
      split
      · rename_i hw
        rw [if_pos hw] at h1
        rcases h1 with h1 | h1
        · exact Oper.wpIn_mono (fun a' w' h' => anyIn_wide hq hd fuel _ a' w' h') (opIn_wide (hd i o ho).1 ((hd i o ho).2 a w) h1)
        · exact (hq h1.2).elim
      · rename_i hw
        rw [if_neg hw] at h1
        exact ⟨fun _ _ => trivial, anyIn_wide hq hd fuel _ _ w h1⟩⟩

/-- Operations that hand on a value, or nothing. -/
def simpleOp : Op → Bool
  | .move _ | .load _ _ | .store _ _ _ | .fieldAddr _ _ _ | .indexAddr _ _ _ => true
  | .nilCheck _ => true
  | _ => false
theorem noRow_v {P : Program} {w w' : World} {row : String} {args : Array Value} (s : Sem Value) : (do pure (Next.value (← s)) : Sem Next).run P w ≠ .ok (.row row args) w' := by
  rw [Sem.run_bind]
  cases s.run P w with
  | ok v w2 => intro h; simp [Result.andThen] at h
  | halt x w2 => intro h; simp [Result.andThen] at h
theorem noRow_u {P : Program} {w w' : World} {row : String} {args : Array Value} (s : Sem Unit) : (do s; pure Next.skip : Sem Next).run P w ≠ .ok (.row row args) w' := by
  rw [Sem.run_bind]
  cases s.run P w with
  | ok v w2 => intro h; simp [Result.andThen] at h
  | halt x w2 => intro h; simp [Result.andThen] at h
theorem simple_noRow {P : Program} {o : Oper} (h : simpleOp o.op = true) (ρ : Operand → Value) (w : World) (row : String) (args : Array Value) (w' : World) : (execOp ρ o).run P w ≠ .ok (.row row args) w' := by
  unfold execOp
  cases ho : o.op <;> rw [ho] at h <;> first | (cases h; done) | (exact noRow_v _) | (exact noRow_u _) | skip
  · intro h9
    simp at h9
  · dsimp only
    split
    all_goals first
      | (intro h9; simp at h9; done)
      | (intro h9; simp [runtimePanic] at h9; done)
      | (split <;> first | (intro h9; simp at h9; done) | (intro h9; simp [runtimePanic] at h9; done) | skip)
    intro h9
    rw [Sem.run_bind] at h9
    generalize (program : Sem Program).run P w = r1 at h9
    cases r1 with
    | halt x w2 => simp [Result.andThen] at h9
    | ok p w2 =>
      simp only [Result.andThen_ok] at h9
      rw [Sem.run_bind] at h9
      generalize Sem.run P _ w2 = r2 at h9
      cases r2 with
      | halt x w3 => simp [Result.andThen] at h9
      | ok b w3 =>
        simp only [Result.andThen_ok] at h9
        split at h9
        · rw [Sem.run_bind] at h9
          generalize Sem.run P _ w3 = r3 at h9
          cases r3 with
          | halt x w4 => simp [Result.andThen] at h9
          | ok b w4 => simp [Result.andThen_ok] at h9
        · simp at h9

/-- The beginning, within a round. -/
theorem region_held_in {P : Program} {l n id : Nat} {ops : Array Oper} {Q : Exit → Act → World → Prop} {S : World → Prop} {a : Act} {w : World} (hm : P.follows .mixedOrders = true) (hq : ¬ LetsOut Q)
    (hd : ∀ (i : Nat) (o : Oper), ops[i]? = some o → (∀ c, o.op ≠ .defer c) ∧ ∀ (a : Act) (w : World) row args w', (execOp a.eval o).run P w ≠ .ok (.row row args) w')
    (hS : S w.drew) (h : S w.drew → wpAnyH P .any ops Q S ops.size (Array.replicate ops.size false) a w.drew) : (Code.region id ops true).wpIn (Fence.wide.inRound l) n P Q a w :=
  wpIn_region_any hm (anyIn_wide hq hd _ _ _ _ (wpAny_of_held _ _ _ _ (h hS)))

end Go.Proofs.YtddnleofflobhaaGreatDoor

set_option linter.unusedVariables false
set_option maxRecDepth 100000
namespace Go.Proofs.YtddnleofflobhaaGreatDoor
open Go.RowKit Go.Shelf
attribute [local go_sem] Oper.semAt_some

theorem Dk.rows {base : Nat} {w : World} {db sb n : Nat} {vw : Value} {S : List (List UInt8)} {Q : List Wr} {dn : Bool} {lf : Nat} (h : Dk base w db sb n vw S Q dn lf) : Rws 129 w vw (Q.map rowW) :=
  Rws.own (by rw [List.length_map]; exact h.wa) (fun r hr => by
    obtain ⟨y, hy, rfl⟩ := List.mem_map.1 hr
    have := h.ok y hy
    exact ⟨by simp [rowW, this.2.1, this.2.2], rowW_one y⟩)
end Go.Proofs.YtddnleofflobhaaGreatDoor

