/-
  WAL: heads: their bytes, and what bytes are as one; how many sectors a record takes.
-/
import Derived.Test.YtcbbklbjfknnlaaDoorWs
import Derived.BigQuiet
import Derived.Deep.QuietTactic
import Derived.Deep.RegionWith
set_option linter.unusedVariables false
set_option maxRecDepth 100000
namespace Go.Proofs.YtcbbklbjfknnlaaDoor
open Go.RowKit

/-- A head. -/
structure Hd where
  tn : Nat
  fi : Nat
  fr : Nat
  su : Nat
def hv (h : Hd) : List Value := [.int .u64 (h.tn : Int), .int .u64 (h.fi : Int), .int .i64 (h.fr : Int), .int .i64 (h.su : Int)]
structure Hd.Ok (h : Hd) : Prop where
  tn : h.tn < 18446744073709551616
  fi : h.fi < 18446744073709551616
  fr : h.fr ≤ 65536
  su : h.su ≤ 65536
def hBody (h : Hd) : List UInt8 := le8 h.fi ++ le8 h.fr ++ le8 h.su
theorem hBody_len (h : Hd) : (hBody h).length = 24 := by unfold hBody; simp [le8_len]
/-- A head's sector. -/
def hSec (h : Hd) : List UInt8 := secB (hBody h) h.tn
theorem hSec_len (h : Hd) : (hSec h).length = 64 := secB_len (by rw [hBody_len]; decide)

def h3 (h : Hd) : List Nat := [h.fi, h.fr, h.su]
theorem h3_all (h : Hd) : (h3 h).flatMap le8 = hBody h := by unfold h3 hBody; simp

set_option maxHeartbeats 4000000 in
theorem hsector_any (w : World) (h : Hd) (hk : h.Ok) : Calls Tryd.prog 60 #[.agg (hv h).toArray] w (Gives 5 w (hSec h)) := by
  have w1 : IntKind.u64.wrap (h.fr : Int) = (h.fr : Int) := by rw [wrap_u64]; have := hk.fr; omega
  have w2 : IntKind.u64.wrap (h.su : Int) = (h.su : Int) := by rw [wrap_u64]; have := hk.su; omega
  have HK := hid hk
  clear hk
  unfold hv
  go_enter Tryd.func60, Tryd.ntmps60
  go_wp2_with fail
  have hba : Below w.heap.size w ((w.alloc (.cells #[.int .u64 (h.tn : Int), .int .u64 (h.fi : Int), .int .i64 (h.fr : Int), .int .i64 (h.su : Int)] 55)).alloc (.cells #[.int .u64 (h.fi : Int), .int .u64 (h.fr : Int), .int .u64 (h.su : Int)] 37)) := ((Below.refl _ _).alloc (Nat.le_refl _) _).alloc (by simp) _
  have hx0 : ((w.alloc (.cells #[.int .u64 (h.tn : Int), .int .u64 (h.fi : Int), .int .i64 (h.fr : Int), .int .i64 (h.su : Int)] 55)).alloc (.cells #[.int .u64 (h.fi : Int), .int .u64 (h.fr : Int), .int .u64 (h.su : Int)] 37)).heap[w.heap.size]? = some (.cells #[.int .u64 (h.tn : Int), .int .u64 (h.fi : Int), .int .i64 (h.fr : Int), .int .i64 (h.su : Int)] 55 (0, 0)) := (Below.heap_alloc _ _ _ (by simp)).trans (heap_alloc_new _ _)
  have hx1 : ((w.alloc (.cells #[.int .u64 (h.tn : Int), .int .u64 (h.fi : Int), .int .i64 (h.fr : Int), .int .i64 (h.su : Int)] 55)).alloc (.cells #[.int .u64 (h.fi : Int), .int .u64 (h.fr : Int), .int .u64 (h.su : Int)] 37)).heap[w.heap.size + 1]? = some (.cells #[.int .u64 (h.fi : Int), .int .u64 (h.fr : Int), .int .u64 (h.su : Int)] 37 (0, 0)) := by
    have := heap_alloc_new (w.alloc (.cells #[.int .u64 (h.tn : Int), .int .u64 (h.fi : Int), .int .i64 (h.fr : Int), .int .i64 (h.su : Int)] 55)) (.cells #[.int .u64 (h.fi : Int), .int .u64 (h.fr : Int), .int .u64 (h.su : Int)] 37)
    rw [show (w.alloc (.cells #[.int .u64 (h.tn : Int), .int .u64 (h.fi : Int), .int .i64 (h.fr : Int), .int .i64 (h.su : Int)] 55)).heap.size = w.heap.size + 1 from by simp] at this
    exact this
  generalize (w.alloc (.cells #[.int .u64 (h.tn : Int), .int .u64 (h.fi : Int), .int .i64 (h.fr : Int), .int .i64 (h.su : Int)] 55)).alloc (.cells #[.int .u64 (h.fi : Int), .int .u64 (h.fr : Int), .int .u64 (h.su : Int)] 37) = wz at *
  have HBA := hid hba
  have HX0 := hid hx0
  have HX1 := hid hx1
  have hlt0 : w.heap.size < wz.heap.size := lt_of_block hx0
  have hlt1 : w.heap.size + 1 < wz.heap.size := lt_of_block hx1
  clear hba hx0 hx1
  obtain ⟨fl, hfl⟩ : ∃ fl : Nat → List UInt8, fl = fun k => ((h3 h).take k).flatMap le8 := ⟨_, rfl⟩
  have HFL : Hid (fl 0 = [] ∧ (∀ k u, (h3 h)[k]? = some u → fl (k + 1) = fl k ++ le8 u) ∧ fl 3 = hBody h ∧ ∀ k, k < 3 → (fl k).length ≤ 24) := by
    refine ⟨by rw [hfl]; rfl, fun k u hu => ?_, by rw [hfl]; exact h3_all h, fun k hk => ?_⟩
    · rw [hfl]
      show ((h3 h).take (k + 1)).flatMap le8 = ((h3 h).take k).flatMap le8 ++ le8 u
      rw [List.take_add_one, hu]
      simp
    · rw [hfl]
      have : k = 0 ∨ k = 1 ∨ k = 2 := by omega
      rcases this with rfl | rfl | rfl <;> simp [h3, le8_len]
  clear hfl
  go_loopw [3, 16] (fun x i wr => ∃ k : Nat, k ≤ 3 ∧ i = .int .i64 (k : Int) ∧ Hid (wr.ownsRow wz.heap.size 5 1 x (fl k).length ((fl k).map bv)) ∧ Hid (Below wz.heap.size wz wr)) (fun _ i _ => 3 - (intOf i).toNat)
  case atStart => exact ⟨0, by omega, rfl, by rw [HFL.out.1]; exact World.ownsRow_nil _ _ _ _, Below.refl _ _⟩
  case round =>
    obtain ⟨k, hk, rfl, HO, HB⟩ := hrel
    have hx1 := (HB.out.block _ hlt1).trans HX1.out
    by_cases hlt : k < 3
    · obtain ⟨u, hu, hul⟩ : ∃ u, (h3 h)[k]? = some u ∧ u < 18446744073709551616 := by
        have a1 := HK.out.fi
        have a2 := HK.out.fr
        have a3 := HK.out.su
        have : k = 0 ∨ k = 1 ∨ k = 2 := by omega
        rcases this with rfl | rfl | rfl
        · exact ⟨h.fi, rfl, a1⟩
        · exact ⟨h.fr, rfl, by omega⟩
        · exact ⟨h.su, rfl, by omega⟩
      have hcl : wr.cell? ⟨w.heap.size + 1, k, none⟩ = some (.int .u64 (u : Int)) := by
        unfold World.cell?
        rw [hx1]
        show (#[Value.int .u64 (h.fi : Int), .int .u64 (h.fr : Int), .int .u64 (h.su : Int)] : Array Value)[k]? = _
        have : k = 0 ∨ k = 1 ∨ k = 2 := by omega
        rcases this with rfl | rfl | rfl <;> (cases hu; rfl)
      have hki : (k : Int) < 3 := by omega
      have HT := hid (HFL.out.2.1 k u hu)
      have HL : Hid ((fl k).length + (le8 u).length ≤ 140737488355328) := by
        show _ ≤ _
        rw [le8_len]
        have := HFL.out.2.2.2 k hlt
        omega
      have CL := hid (little_any wr u hul)
      clear hu hx1
      go_wp2_with (first | (go_at_call 62; refine CL.out.mono ?_))
      rintro e w4 ⟨y, rfl, hy, hb4⟩
      obtain ⟨yo, yc, rfl⟩ := own_form hy
      have HY := hid (Rd.own hy)
      have HO4 := hid (own_old HO.out hb4)
      have HB4 := hid hb4
      have HBS : Hid (wz.heap.size ≤ w4.heap.size) := Nat.le_trans HB.out.size hb4.size
      clear hy hb4 hcl
      go_wp2_with (first
        | (at_builtin; refine wp_app rfl _ _ 32 rfl wz.heap.size 5 Tryd.underlying32 (by kernel_rfl) _ _ _ rfl HO4.out _ (le8 u) rfl HY.out HL.out HBS.out ?_))
      intro v5 w5 o5 g5
      have HO5 : Hid (w5.ownsRow wz.heap.size 5 1 v5 (fl (k + 1)).length ((fl (k + 1)).map bv)) := by
        show World.ownsRow _ _ _ _ _ _ _
        rw [HT.out, List.length_append, List.map_append]
        exact o5
      have HB5 : Hid (Below wz.heap.size wz w5) := (HB.out.trans (HB4.out.mono HB.out.size)).grown g5 HBS.out (fun k hk => (HO4.out.lt k hk).1)
      clear o5 g5
      go_wp2_with fail
      go_roundw
      case rel => exact ⟨k + 1, by omega, by go_num, HO5, HB5⟩
      case measure => first | (simp [intOf]; done) | (simp [intOf]; omega)
    · obtain rfl : k = 3 := by omega
      have ho := HO.out
      rw [HFL.out.2.2.1] at ho
      have hx0 := (HB.out.block _ hlt0).trans HX0.out
      obtain ⟨c0, c1, c2, c3, -, -, -, -⟩ := four_cells hx0
      have CS := hid (sealed_any wr _ (hBody h) h.tn (Rd.own ho) (by rw [hBody_len]; decide) (by rw [hBody_len]; decide) HK.out.tn)
      clear ho hx0 hx1
      go_wp2_with (first | (go_at_call 46; refine CS.out.mono ?_))
      rintro e w4 ⟨y, rfl, hy, hb4⟩
      have HE : Hid (Gives 5 w (hSec h) (.returned y) w4 ∨ True) := .inr trivial
      have hyy := ownsRow_base hy (Nat.le_trans HBA.out.size HB.out.size)
      have hbb : Below w.heap.size w w4 := below_on2 HBA.out (below_on2 HB.out hb4)
      obtain ⟨yo, yc, rfl⟩ := own_form hy
      have HYY := hid hyy
      have HBB := hid hbb
      clear hy hb4 hyy hbb c0 c1 c2 c3
      go_wp2_with fail
      go_ret
      exact ⟨_, rfl, HYY.out, HBB.out⟩

/-- What bytes are as a head. -/
def hdOf (l : List UInt8) : Hd := if max (gr ((l.drop 8).take 8)) (gr ((l.drop 16).take 8)) > 65536 then ⟨0, 0, 0, 0⟩ else ⟨sealN l, gr (l.take 8), gr ((l.drop 8).take 8), gr ((l.drop 16).take 8)⟩
theorem gr8_lt (l : List UInt8) (h : l.length ≤ 8) : gr l < 18446744073709551616 := by
  have h1 := gr_lt l
  have h2 : 256 ^ l.length ≤ 256 ^ 8 := Nat.pow_le_pow_right (by omega) h
  have h3 : (256 : Nat) ^ 8 = 18446744073709551616 := by decide
  omega
theorem hdOf_ok (l : List UInt8) (h : l.length = 64) : (hdOf l).Ok := by
  unfold hdOf
  split
  · exact ⟨by decide, by decide, by decide, by decide⟩
  · exact ⟨gr8_lt _ (by rw [List.length_drop, h]; decide), gr8_lt _ (by rw [List.length_take]; omega), by show gr _ ≤ _; omega, by show gr _ ≤ _; omega⟩

theorem four_set {w : World} {b : Nat} {x y z u : Value} {t : TypeId} (h : w.heap[b]? = some (.cells #[x, y, z, u] t (0, 0))) (x' y' z' u' : Value) :
    ((((w.setCell ⟨b, 0, none⟩ x').setCell ⟨b, 1, none⟩ y').setCell ⟨b, 2, none⟩ z').setCell ⟨b, 3, none⟩ u').heap[b]? = some (.cells #[x', y', z', u'] t (0, 0)) :=
  set_at (k := 3) u' (set_at (k := 2) z' (set_at (k := 1) y' (set_at (k := 0) x' h)))
theorem below_set4 {w : World} {B b : Nat} {w0 : World} (h : Below B w0 w) (hb : B ≤ b) (x' y' z' u' : Value) : Below B w0 ((((w.setCell ⟨b, 0, none⟩ x').setCell ⟨b, 1, none⟩ y').setCell ⟨b, 2, none⟩ z').setCell ⟨b, 3, none⟩ u') :=
  (((h.setCell hb x').setCell hb y').setCell hb z').setCell hb u'
/-- What headOf gives. -/
def HeadA (l : List UInt8) (w : World) (e : Ending) (w' : World) : Prop := e = .returned (.agg (hv (hdOf l)).toArray) ∧ Below w.heap.size w w'

set_option maxHeartbeats 4000000 in
theorem headOf_any (w : World) (x : Value) (l : List UInt8) (h : Rd w x l) (hl : l.length = 64) : Calls Tryd.prog 54 #[x] w (HeadA l w) := by
  obtain ⟨a8, c8, hs8, hr8, -⟩ := h.cut (P := Tryd.prog) 32 5 Tryd.underlying32 (by kernel_rfl) 8 (by omega)
  obtain ⟨a16, c16, hs16, hr16, -⟩ := h.cut (P := Tryd.prog) 32 5 Tryd.underlying32 (by kernel_rfl) 16 (by omega)
  have hq8 : ∀ W, (Instr.slice 32 x (some (.int .i64 8)) none none).run Tryd.prog W = .ok (.slice a8 (l.length - 8) c8) W := fun W => hs8 W
  have hq16 : ∀ W, (Instr.slice 32 x (some (.int .i64 16)) none none).run Tryd.prog W = .ok (.slice a16 (l.length - 16) c16) W := fun W => hs16 W
  have hone := one_rd h
  rw [hl] at hq8 hq16 hr8 hr16
  simp only [Nat.reduceSub] at hq8 hq16 hr8 hr16
  have hba : Below w.heap.size w (w.alloc (.cells #[.int .u64 0, .int .u64 0, .int .i64 0, .int .i64 0] 55)) := (Below.refl _ _).alloc (Nat.le_refl _) _
  have hx0 : (w.alloc (.cells #[.int .u64 0, .int .u64 0, .int .i64 0, .int .i64 0] 55)).heap[w.heap.size]? = some (.cells #[.int .u64 0, .int .u64 0, .int .i64 0, .int .i64 0] 55 (0, 0)) := heap_alloc_new _ _
  have HR8 := hid hr8
  have HR16 := hid hr16
  have HR := hid h
  have HL := hid hl
  clear hs8 hs16 h hr8 hr16 hl
  go_enter Tryd.func54, Tryd.ntmps54
  go_upto_region 1 with fail
  generalize w.alloc (.cells #[.int .u64 0, .int .u64 0, .int .i64 0, .int .i64 0] 55) = wz at *
  have C8 : ∀ a, Calls Tryd.prog 56 #[.slice a8 56 c8] (wz.drewN a) (fun e w'' => e = .returned (.int .u64 (gr ((l.drop 8).take 8) : Int)) ∧ ∃ m, w'' = wz.drewN m) := fun a => (great_any (wz.drewN a) _ _ ((HR8.out.old hba).old (w' := wz.drewN a) ⟨rfl, rfl, rfl, Nat.le_refl _, fun _ _ => rfl⟩) (by rw [List.length_drop, HL.out]; decide)).mono fun _ _ h => ⟨h.1, a, h.2⟩
  have C16 : ∀ a, Calls Tryd.prog 56 #[.slice a16 48 c16] (wz.drewN a) (fun e w'' => e = .returned (.int .u64 (gr ((l.drop 16).take 8) : Int)) ∧ ∃ m, w'' = wz.drewN m) := fun a => (great_any (wz.drewN a) _ _ ((HR16.out.old hba).old (w' := wz.drewN a) ⟨rfl, rfl, rfl, Nat.le_refl _, fun _ _ => rfl⟩) (by rw [List.length_drop, HL.out]; decide)).mono fun _ _ h => ⟨h.1, a, h.2⟩
  have HBA := hid hba
  have HX0 := hid hx0
  clear hba hx0
  go_quiet ((first | (go_at_call_of 56 c8; exact C8 _) | (go_at_call_of 56 c16; exact C16 _)))
  have HBD := hid (below_on2 HBA.out (⟨rfl, rfl, rfl, Nat.le_refl _, fun _ _ => rfl⟩ : Below wz.heap.size wz (wz.drewN nq)))
  have HXD : Hid ((wz.drewN nq).heap[w.heap.size]? = some (.cells #[.int .u64 0, .int .u64 0, .int .i64 0, .int .i64 0] 55 (0, 0))) := HX0.out
  have ha16 := gr8_lt ((l.drop 8).take 8) (by rw [List.length_take]; omega)
  have hb16 := gr8_lt ((l.drop 16).take 8) (by rw [List.length_take]; omega)
  have HHD : Hid (hdOf l = if max (gr ((l.drop 8).take 8)) (gr ((l.drop 16).take 8)) > 65536 then ⟨0, 0, 0, 0⟩ else ⟨sealN l, gr (l.take 8), gr ((l.drop 8).take 8), gr ((l.drop 16).take 8)⟩) := rfl
  generalize wz.drewN nq = wy at *
  have CSL := hid (seal_any wy x l (HR.out.old HBD.out) HL.out)
  have CGR := hid (great_any wy x l (HR.out.old HBD.out) (by have := HL.out; omega))
  generalize gr ((l.drop 8).take 8) = fa at *
  generalize gr ((l.drop 16).take 8) = fb at *
  obtain ⟨c0, c1, c2, c3, f0, f1, f2, f3⟩ := four_cells HXD.out
  clear C8 C16
  by_cases hg : fa ≤ 65536 ∧ fb ≤ 65536
  · have hmx : ¬ (max fa fb > 65536) := by omega
    have HE : Hid (hdOf l = ⟨sealN l, gr (l.take 8), fa, fb⟩) := by
      show _ = _
      rw [HHD.out, if_neg hmx]
    have hm1 : ¬ ((65536 : Int) < max (fa : Int) (fb : Int)) := by omega
    have ha0 : (fa : Int) ≤ 65536 := by omega
    have hb0 : (fb : Int) ≤ 65536 := by omega
    have w1 : IntKind.i64.wrap (fa : Int) = (fa : Int) := by rw [IntKind.wrap_i64]; omega
    have w2 : IntKind.i64.wrap (fb : Int) = (fb : Int) := by rw [IntKind.wrap_i64]; omega
    clear hg hmx
    go_wp2_with (first
      | (go_at_call 71; refine CSL.out.mono ?_; rintro e w2 ⟨rfl, rfl⟩)
      | (go_at_call 56; refine CGR.out.mono ?_; rintro e w2 ⟨rfl, rfl⟩))
    all_goals
      refine bodyPost_ret (results_cell_row rfl _ _ w.heap.size 55 _ (0, 0) _ rfl (four_set HXD.out _ _ _ _) Tryd.underlying55 rfl (by kernel_rfl)) rfl ?_
      exact ⟨by rw [HE.out]; rfl, below_set4 HBD.out (Nat.le_refl _) _ _ _ _⟩
  · have hmx : max fa fb > 65536 := by omega
    have HE : Hid (hdOf l = ⟨0, 0, 0, 0⟩) := by
      show _ = _
      rw [HHD.out, if_pos hmx]
    rcases (by omega : (fb ≤ fa ∧ 65536 < fa) ∨ (fa < fb ∧ 65536 < fb)) with ⟨hle, hbig⟩ | ⟨hle, hbig⟩
    · have hm1 : max (fa : Int) (fb : Int) = (fa : Int) := by omega
      have hm2 : (65536 : Int) < (fa : Int) := by omega
      have hm3 : (fb : Int) ≤ (fa : Int) := by omega
      clear hg hmx
      go_wp2_with fail
      all_goals
        refine bodyPost_ret (results_cell_row rfl _ _ w.heap.size 55 _ (0, 0) _ rfl (four_set HXD.out _ _ _ _) Tryd.underlying55 rfl (by kernel_rfl)) rfl ?_
        exact ⟨by rw [HE.out]; rfl, below_set4 HBD.out (Nat.le_refl _) _ _ _ _⟩
    · have hm1 : max (fa : Int) (fb : Int) = (fb : Int) := by omega
      have hm2 : (65536 : Int) < (fb : Int) := by omega
      have hm3 : ¬ ((fb : Int) ≤ (fa : Int)) := by omega
      have hm4 : (fa : Int) ≤ (fb : Int) := by omega
      clear hg hmx
      go_wp2_with fail
      all_goals
        refine bodyPost_ret (results_cell_row rfl _ _ w.heap.size 55 _ (0, 0) _ rfl (four_set HXD.out _ _ _ _) Tryd.underlying55 rfl (by kernel_rfl)) rfl ?_
        exact ⟨by rw [HE.out]; rfl, below_set4 HBD.out (Nat.le_refl _) _ _ _ _⟩

/-- How many sectors a record takes. -/
def secs (n : Nat) : Nat := (8 + n + 56 - 1) / 56
theorem sectors_any (w : World) (ao : Option Addr) (n c : Nat) (hn : n ≤ 140737488355328) : Calls Tryd.prog 27 #[.slice ao n c] w (fun e w' => e = .returned (.int .i64 (secs n : Int)) ∧ w' = w) := by
  have hlen := fun W => run_len_slice (P := Tryd.prog) W 32 3 ao n c Tryd.underlying32
  have h1 : IntKind.i64.wrap ((8 : Int) + (n : Int)) = 8 + (n : Int) := by rw [IntKind.wrap_i64]; omega
  have h2 : IntKind.i64.wrap ((8 : Int) + (n : Int) + 56) = 8 + (n : Int) + 56 := by rw [IntKind.wrap_i64]; omega
  have h3 : IntKind.i64.wrap ((8 : Int) + (n : Int) + 56 - 1) = 8 + (n : Int) + 56 - 1 := by rw [IntKind.wrap_i64]; omega
  have h4 : ((8 : Int) + (n : Int) + 56 - 1).tdiv 56 = (secs n : Int) := by
    unfold secs
    rw [Int.tdiv_eq_ediv_of_nonneg (by omega)]
    omega
  have h5 : IntKind.i64.wrap (secs n : Int) = (secs n : Int) := by rw [IntKind.wrap_i64]; unfold secs; omega
  go_enter Tryd.func27, Tryd.ntmps27
  go_wp2_with fail
  go_ret
  exact ⟨rfl, rfl⟩
end Go.Proofs.YtcbbklbjfknnlaaDoor
