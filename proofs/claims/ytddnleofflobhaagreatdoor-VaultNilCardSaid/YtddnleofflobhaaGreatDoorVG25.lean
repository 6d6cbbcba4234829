import Derived.Test.YtddnleofflobhaaGreatDoorCards
import Derived.Test.YtddnleofflobhaaGreatDoorTie
import Derived.WalkKit
import Derived.ProofKit
import Derived.OpenShut
import Derived.ShutString
import Derived.SliceStrings
import Derived.Carry
import Derived.ChangeOld
import Derived.Below
import Derived.SizedLaws
import Derived.Deep.Strs
import Derived.Deep.Slices
import Derived.Deep.DeepHandedRow
import Derived.LaidHandle
import Derived.LaidLaws
import Derived.Lib.LaidTab
import Derived.Test.YtddnleofflobhaaGreatDoorRows
import Derived.WalkSpells
import Derived.WalkLawsBesides
import Derived.Laws.AppendOwnNone
import Derived.BigQuiet
import Derived.Deep.QuietTactic
import Derived.Deep.MidRow
import Derived.Laws.MakeOwn
import Derived.Deep.CutBlock
import Derived.Deep.CutRange
import Derived.Sort.CutIn
import Derived.RangeFuncNested
import Derived.RangeFuncBound
import Derived.RangeFuncCalls
import Derived.RangeFuncLeaves
import Derived.RangeFuncBox
import Derived.Shelf.Abstract
import Derived.Shelf.RegionOpen
import Derived.OwnWalkIn
import Derived.TacticsInMore
import Derived.LoopNIn
import Derived.LoopIn
import Derived.OrdersIn
import Derived.LaidEql
import Derived.Stop.Asserts
import Derived.RowKitTokens
import Derived.Lib.Bytes
import Derived.Deep.RegionHeld3
import Derived.Deep.WholeRow
import Derived.BigRegion
import Derived.Great.BuildSlice
import Derived.Deep.AppendLies
import Derived.StillTailTactics
import Derived.Deep.RegionLaw
import Derived.Great.FillDense
import Derived.Laws.Tables
import Derived.LoopN
import Derived.Deep.OwnRows
import Derived.OwnWalk
import Derived.Lib.SlBytesConst
import Derived.Lib.AppendZeros
import Derived.Deep.LoopGhost
import Derived.Deep.RegionWith
import Derived.ArgAppend
import Derived.Lib.SliceRun
import Derived.Deep.RegionHeldLaw
import Derived.Deep.Matrix
import Derived.Deep.Grids
import Derived.Test.YtddnleofflobhaaGreatDoorVG1
import Derived.Test.YtddnleofflobhaaGreatDoorVG2
import Derived.Test.YtddnleofflobhaaGreatDoorVG3
import Derived.Test.YtddnleofflobhaaGreatDoorVG4
import Derived.Test.YtddnleofflobhaaGreatDoorVG5
import Derived.Test.YtddnleofflobhaaGreatDoorVG6
import Derived.Test.YtddnleofflobhaaGreatDoorVG7
import Derived.Test.YtddnleofflobhaaGreatDoorVG8
import Derived.Test.YtddnleofflobhaaGreatDoorVG9
import Derived.Test.YtddnleofflobhaaGreatDoorVG10
import Derived.Test.YtddnleofflobhaaGreatDoorVG11
import Derived.Test.YtddnleofflobhaaGreatDoorVG12
import Derived.Test.YtddnleofflobhaaGreatDoorVG13
import Derived.Test.YtddnleofflobhaaGreatDoorVG14
import Derived.Test.YtddnleofflobhaaGreatDoorVG15
import Derived.Test.YtddnleofflobhaaGreatDoorVG16
import Derived.Test.YtddnleofflobhaaGreatDoorVG17
import Derived.Test.YtddnleofflobhaaGreatDoorVG18
import Derived.Test.YtddnleofflobhaaGreatDoorVG19
import Derived.Test.YtddnleofflobhaaGreatDoorVG20
import Derived.Test.YtddnleofflobhaaGreatDoorVG21
import Derived.Test.YtddnleofflobhaaGreatDoorVG22
import Derived.Test.YtddnleofflobhaaGreatDoorVG23
import Derived.Test.YtddnleofflobhaaGreatDoorVG24
set_option linter.unusedVariables false
set_option linter.unusedSimpArgs false
set_option linter.unusedVariables false
set_option linter.unusedSimpArgs false
set_option maxRecDepth 100000
namespace Go.Proofs.YtddnleofflobhaaGreatDoor
open Go.ChangeShapes Go.WideShapes Go.ChangeAt Go.RowKit

theorem own : ownKnob Tryz.prog.godebug = none := by kernel_rfl
theorem laidOut : laidOutB Tryz.prog = true := by kernel_rfl

/-- A table's cells. -/
def litV : DataW Unit → Value
  | .lit (.int k z) => .int k z
  | _ => .bool false
def aggC : DataW Unit → Array Value
  | .agg l => (l.map litV).toArray
  | _ => #[]

/-- A world that meets the condition. -/
noncomputable def laidWorld (os : Os) : World :=
  let w0 := World.holding Tryz.prog os ⟨#[], #[], []⟩
  { w0 with heap := (((w0.heap.modify 0 fun
      | .cells _ t frozen => .cells #[.iface 144 (.agg #[.pointer (some ⟨4, 43, none⟩)])] t frozen
      | o => o).modify 1 fun
      | .cells _ t frozen => .cells (aggC Rows.laid_internal_strconv_uint64pow10) t frozen
      | o => o).modify 2 fun
      | .cells _ t frozen => .cells (aggC Rows.laid_math_bits_deBruijn32tab) t frozen
      | o => o).modify 3 fun
      | .cells _ t frozen => .cells (aggC Rows.laid_math_bits_deBruijn64tab) t frozen
      | o => o }
theorem laid_met (os : Os) (args : Array Value) : laidMetH Tryz.prog Rows.vaultRightRow.laid ((laidWorld os).forCall (fun _ _ => 0) ⟨#[], args, []⟩).memory :=
  laidMetH_of_parts3 (fuel := 8) (laidMet_of_run' 8 (by kernel_rfl) (by kernel_rfl)) (by kernel_rfl) (by kernel_rfl)

/-- A slice of integers that came in: it is nil; or it leads to a row of 'cap' cells, the numbers 'zs' (the first 'len' are its elements, the rest its spare room), each fitting its kind. -/
def IsRow (k : IntKind) (w : World) (a : Option Addr) (len cap : Nat) (zs : List Int) : Prop :=
  (a = none ∧ len = 0 ∧ cap = 0 ∧ zs = []) ∨
  ∃ x, a = some x ∧ len ≤ cap ∧ cap ≤ maxLen ∧ zs.length = cap ∧ (∀ i, i < zs.length → w.cell? (x.add i) = some (.int k (zs.getD i 0))) ∧ ∀ n ∈ zs, (Lit.int k n).wf = true

/-- Bytes that came in read as bytes. -/
theorem rd_of_row {w : World} {a : Option Addr} {len cap : Nat} {zs : List Int} (h : IsRow .u8 w a len cap zs) : ∃ l : List UInt8, l.length = len ∧ Rd w (.slice a len cap) l := by
  rcases h with ⟨rfl, rfl, rfl, rfl⟩ | ⟨x, rfl, hl, hm, hz, hc, hw⟩
  · exact ⟨[], rfl, Rd.nil w⟩
  · have hlen : ((zs.take len).map fun n => UInt8.ofNat n.toNat).length = len := by simp; omega
    refine ⟨(zs.take len).map fun n => UInt8.ofNat n.toNat, hlen, some x, cap, by rw [hlen], by rw [hlen]; exact hl, hm, (fun h => by cases h), fun a ha j u hu => ?_⟩
    cases ha
    have hj : j < len := by
      have := (List.getElem?_eq_some_iff.1 hu).1
      rw [List.length_map] at this
      omega
    have hjz : j < zs.length := by omega
    rw [hc j hjz]
    have hwj := hw zs[j] (List.getElem_mem hjz)
    have hb := bounds_u8 hwj
    rw [List.map_map, List.getElem?_map, List.getElem?_take_of_lt hj, List.getElem?_eq_getElem hjz] at hu
    simp only [Option.map_some, Option.some.injEq, Function.comp_apply] at hu
    rw [← hu, List.getD_eq_getElem?_getD, List.getElem?_eq_getElem hjz, Option.getD_some]
    unfold bv
    rw [UInt8.toNat_ofNat']
    have e : zs[j] = ((zs[j].toNat % 2 ^ 8 : Nat) : Int) := by omega
    rw [← e]

end Go.Proofs.YtddnleofflobhaaGreatDoor

set_option linter.unusedVariables false
set_option linter.unusedSimpArgs false
set_option maxRecDepth 100000
namespace Go.Proofs.YtddnleofflobhaaGreatDoor
open Go.RowKit Go.ChangeShapes Go.WideShapes Go.ChangeAt Go.Deep

variable {H : Type} {enc : TypeId × Value → H} {W : World}

theorem mem_weightsAll {P : Program} {e : TypeId} {d : DataW H} : ∀ {l : List (DataW H)}, d ∈ l → ∀ n ∈ d.weights P e, n ∈ DataW.weightsAll P e l
  | a :: l, h, n, hn => by
    rw [DataW.weightsAll, List.mem_append]
    rcases List.mem_cons.1 h with rfl | h
    · exact .inl hn
    · exact .inr (mem_weightsAll h n hn)

theorem bytes_cells_w {m : Nat} {cs : List Value} {y : DataW H × List MemPlace} (h : DataW.trod enc Tryz.prog W 0 (fun _ => true) true m 25 cs = some y) :
    ∃ (a : Option Addr) (c : Nat) (l : List UInt8), cs = [.slice a l.length c] ∧ Rd W (.slice a l.length c) l ∧ ∀ R, (∀ n ∈ y.1.weights Tryz.prog 25, n ≤ R) → l.length ≤ R := by
  rcases open_ints Tryz.underlying25 Tryz.underlying5 (by kernel_rfl) h with ⟨hcs, hx⟩ | ⟨x, l, c, zs, hcs, _, hl, hm, hz, hx, hcell, hwz⟩
  · exact ⟨none, 0, [], hcs, Rd.nil W, fun R _ => Nat.zero_le _⟩
  · have hz' : zs.length = c := by simpa using hz
    obtain ⟨b, hb, hr⟩ := rd_of_row (w := W) (a := some x) (len := l) (cap := c) (zs := zs) (.inr ⟨_, rfl, hl, hm, hz', hcell, hwz⟩)
    subst hb
    refine ⟨some x, c, b, hcs, hr, fun R hR => ?_⟩
    have h1 : Tryz.prog.bytesOf 5 = 1 := by kernel_rfl
    rw [hx] at hR
    have h2 := hR _ (by simp only [DataW.weights, Tryz.underlying25]; exact List.mem_cons_self)
    simp only [lits, List.length_map, List.length_take, List.length_drop] at h2
    rw [h1] at h2
    omega

theorem u64_of_wf {i : Int} (h : (Lit.int .u64 i).wf = true) : ∃ n : Nat, i = (n : Int) ∧ n < 18446744073709551616 := by
  have := bounds_u64 h
  exact ⟨i.toNat, by omega, by omega⟩
theorem i64_of_wf {i : Int} (h : (Lit.int .i64 i).wf = true) : -9223372036854775808 ≤ i ∧ i < 9223372036854775808 := by
  have := bounds_i64 h
  omega

/-- What is so of an entry, but for how many bytes it has. -/
def EnOk (W : World) (e : En) : Prop := Rd W (rcv e.r) e.r.b ∧ e.t < 18446744073709551616 ∧ e.i < 18446744073709551616

theorem entry_cells {m : Nat} {cs : List Value} {y : DataW H × List MemPlace} (h : DataW.trod enc Tryz.prog W 0 (fun _ => true) true m 63 cs = some y) :
    ∃ e : En, cs = rowE e ∧ EnOk W e ∧ ∀ R, (∀ n ∈ y.1.weights Tryz.prog 63, n ≤ R) → e.r.b.length ≤ R := by
  have hc1 : Tryz.prog.cellsOf 22 = 1 := by kernel_rfl
  have hc2 : Tryz.prog.cellsOf 25 = 1 := by kernel_rfl
  have hcv : Tryz.prog.cellsOf 63 = 3 := by kernel_rfl
  obtain ⟨y0, y1, y2, n', hy, hlen, t0, t1, t2⟩ := trod_struct3 Tryz.underlying63 h
  have t0' : DataW.trod enc Tryz.prog W 0 (fun _ => true) true n' 22 ((cs.drop 0).take 1) = some y0 := by rw [← hc1]; exact t0
  have t1' : DataW.trod enc Tryz.prog W 0 (fun _ => true) true n' 22 ((cs.drop 1).take 1) = some y1 := by rw [← hc1]; exact t1
  have t2' : DataW.trod enc Tryz.prog W 0 (fun _ => true) true n' 25 ((cs.drop 2).take 1) = some y2 := by rw [← hc2]; exact t2
  obtain ⟨i, hi, -, hw⟩ := DataW.trod_int Tryz.underlying22 t0'
  obtain ⟨j, hj, -, hw2⟩ := DataW.trod_int Tryz.underlying22 t1'
  obtain ⟨ka, kc, b, hk, rk, bk⟩ := bytes_cells_w t2'
  obtain ⟨t, rfl, ht⟩ := u64_of_wf hw
  obtain ⟨x, rfl, hx⟩ := u64_of_wf hw2
  rw [hcv] at hlen
  match cs, hlen with
  | [u0, u1, u2], _ =>
    simp at hk hi hj
    subst hk; subst hi; subst hj
    refine ⟨⟨t, x, ⟨ka, kc, b⟩⟩, rfl, ⟨rk, ht, hx⟩, fun R hR => ?_⟩
    rw [hy] at hR
    refine bk R fun n hn => hR n ?_
    simp only [DataW.weights, Tryz.underlying63]
    exact DataW.weights_mem_each (j := 2) rfl rfl n hn

theorem ents_cells {f0 : Nat} {cs : List Value} {y : DataW H × List MemPlace} (hf : DataW.trod enc Tryz.prog W 0 (fun _ => true) true f0 28 cs = some y) :
    ∃ (a : Option Addr) (cap : Nat) (E : List En), cs = [.slice a E.length cap] ∧ Rws 3 W (.slice a E.length cap) (E.map rowE) ∧ (∀ e ∈ E, EnOk W e) ∧ ∀ R, (∀ n ∈ y.1.weights Tryz.prog 28, n ≤ R) → (∀ e ∈ E, e.r.b.length ≤ R) ∧ E.length ≤ R := by
  rcases open_slice Tryz.underlying28 hf with ⟨hcs, hx⟩ | ⟨x, len, cap, m, n, D, Pl, hcs, _, hl, hm, hmm, hx, hcell⟩
  · exact ⟨none, 0, [], hcs, Rws.nil 3 W, fun e he => (by cases he), fun R _ => ⟨fun e he => (by cases he), Nat.zero_le _⟩⟩
  · have hcv : Tryz.prog.cellsOf 63 = 3 := by kernel_rfl
    have hbv : Tryz.prog.bytesOf 63 = 40 := by kernel_rfl
    rw [hcv] at hcell
    have key : ∀ i, i < len → ∃ v : En, (∀ j u, (rowE v)[j]? = some u → W.cell? (x.add (i * 3 + j)) = some u) ∧ EnOk W v ∧ ∀ R, (∀ n ∈ (D i).weights Tryz.prog 63, n ≤ R) → v.r.b.length ≤ R := by
      intro i hi
      obtain ⟨cs', h1, h2⟩ := hcell i (by rw [hmm]; simp; omega)
      obtain ⟨v, rfl, hv, hb⟩ := entry_cells h2
      obtain ⟨_, hl2, hc⟩ := World.cells?_some h1
      refine ⟨v, fun j u hu => ?_, hv, hb⟩
      have hj := (List.getElem?_eq_some_iff.1 hu).1
      have := hc j hj
      rw [add_add] at this
      rw [this, ← hu]
    haveI : Inhabited En := ⟨⟨0, 0, ⟨none, 0, []⟩⟩⟩
    obtain ⟨f, hf2⟩ := choose_lt key
    have hlen : ((List.range len).map f).length = len := by simp
    have hrd : ∀ m ∈ (List.range len).map f, EnOk W m := fun m hm => by
      obtain ⟨i, hi, rfl⟩ := List.mem_map.1 hm
      exact (hf2 i (List.mem_range.1 hi)).2.1
    have hw : Wide 3 (((List.range len).map f).map rowE) := fun r hr => by
      obtain ⟨e, -, rfl⟩ := List.mem_map.1 hr
      exact ⟨rfl, fun u hu => by simp only [rowE, rcv, List.mem_cons, List.not_mem_nil, or_false] at hu; rcases hu with rfl | rfl | rfl <;> rfl⟩
    refine ⟨some x, cap, (List.range len).map f, by rw [hlen]; exact hcs, ⟨some x, cap, by simp, by rw [List.length_map, hlen]; exact hl, hm, (fun h => by cases h), hw, fun a ha j u hu => ?_⟩, hrd, fun R hR => ?_⟩
    · cases ha
      have hjl := (List.getElem?_eq_some_iff.1 hu).1
      rw [hw.len, List.length_map, hlen] at hjl
      have hk : j / 3 < len := by omega
      have h1 : (((List.range len).map f).map rowE)[j / 3]? = some (rowE (f (j / 3))) := by
        rw [List.getElem?_map, List.getElem?_map, List.getElem?_range hk]
        rfl
      have h2 : (rowE (f (j / 3)))[j % 3]? = some ((rowE (f (j / 3)))[j % 3]'(by show j % 3 < 3; omega)) := List.getElem?_eq_getElem _
      have h3 := hw.at h1 h2
      have e : j / 3 * 3 + j % 3 = j := by omega
      rw [e, hu] at h3
      have h4 := (hf2 (j / 3) hk).1 (j % 3) u (by rw [h2]; exact h3.symm)
      rw [e] at h4
      exact h4
    · have e : y.1 = .slice ((List.range len).map D) ((List.range (m - len)).map fun j => D (len + j)) := congrArg Prod.fst hx
      rw [e] at hR
      refine ⟨fun o ho => ?_, ?_⟩
      · obtain ⟨i, hi, rfl⟩ := List.mem_map.1 ho
        have hil := List.mem_range.1 hi
        refine (hf2 i hil).2.2 R fun n hn => hR n ?_
        simp only [DataW.weights, Tryz.underlying28, List.mem_cons, List.mem_append]
        exact .inr (.inl (mem_weightsAll (List.mem_map.2 ⟨i, hi, rfl⟩) n hn))
      · have h2 := hR _ (by simp only [DataW.weights, Tryz.underlying28]; exact List.mem_cons_self)
        simp only [List.length_map, List.length_range] at h2
        rw [hbv] at h2
        rw [hlen]
        omega

/-- A log that came in. -/
theorem log_open {base : Nat} {v : Value} {d : DataW H} {p : List MemPlace} (hw : Value.okWide Tryz.prog W .any base 30 v) (h : DataW.Trod enc Tryz.prog W 0 (fun _ => true) true 30 v d p) :
    ∃ l : Lo, v = l.v ∧ ∀ R, R ≤ 140737488355328 → (∀ n ∈ d.weights Tryz.prog 30, n ≤ R) → LoAt W l := by
  have hcv : Tryz.prog.cellsOf 30 = 6 := by kernel_rfl
  have hcs : Tryz.prog.cellsOf 27 = 3 := by kernel_rfl
  have hch : Tryz.prog.cellsOf 24 = 2 := by kernel_rfl
  have hc1 : Tryz.prog.cellsOf 22 = 1 := by kernel_rfl
  have hci : Tryz.prog.cellsOf 3 = 1 := by kernel_rfl
  have hc2 : Tryz.prog.cellsOf 25 = 1 := by kernel_rfl
  have hce : Tryz.prog.cellsOf 28 = 1 := by kernel_rfl
  unfold Value.okWide at hw
  rw [Tryz.underlying30] at hw
  obtain ⟨cs, rfl, hsz, -⟩ := hw
  obtain ⟨fuel, hf⟩ := h
  have hf1 : DataW.trod enc Tryz.prog W 0 (fun _ => true) true fuel 30 cs.toList = some (d, p) := hf
  obtain ⟨y0, y1, y2, n', hy, hlen, t0, t1, t2⟩ := trod_struct3 Tryz.underlying30 hf1
  have t0' : DataW.trod enc Tryz.prog W 0 (fun _ => true) true n' 24 ((cs.toList.drop 0).take 2) = some y0 := by rw [← hch]; exact t0
  have t1' : DataW.trod enc Tryz.prog W 0 (fun _ => true) true n' 27 ((cs.toList.drop 2).take 3) = some y1 := by rw [← hcs]; exact t1
  have t2' : DataW.trod enc Tryz.prog W 0 (fun _ => true) true n' 28 ((cs.toList.drop 5).take 1) = some y2 := by rw [← hce]; exact t2
  obtain ⟨z0, z1, n1, hz, hlz, s0, s1⟩ := trod_struct2 Tryz.underlying24 t0'
  have s0' : DataW.trod enc Tryz.prog W 0 (fun _ => true) true n1 22 ((((cs.toList.drop 0).take 2).drop 0).take 1) = some z0 := by rw [← hc1]; exact s0
  have s1' : DataW.trod enc Tryz.prog W 0 (fun _ => true) true n1 3 ((((cs.toList.drop 0).take 2).drop 1).take 1) = some z1 := by rw [← hci]; exact s1
  obtain ⟨q0, q1, q2, n2, hq, hlq, r0, r1, r2⟩ := trod_struct3 Tryz.underlying27 t1'
  have r0' : DataW.trod enc Tryz.prog W 0 (fun _ => true) true n2 22 ((((cs.toList.drop 2).take 3).drop 0).take 1) = some q0 := by rw [← hc1]; exact r0
  have r1' : DataW.trod enc Tryz.prog W 0 (fun _ => true) true n2 22 ((((cs.toList.drop 2).take 3).drop 1).take 1) = some q1 := by rw [← hc1]; exact r1
  have r2' : DataW.trod enc Tryz.prog W 0 (fun _ => true) true n2 25 ((((cs.toList.drop 2).take 3).drop 2).take 1) = some q2 := by rw [← hc2]; exact r2
  obtain ⟨i0, e0, -, w0⟩ := DataW.trod_int Tryz.underlying22 s0'
  obtain ⟨i1, e1, -, w1⟩ := DataW.trod_int Tryz.underlying3 s1'
  obtain ⟨i2, e2, -, w2⟩ := DataW.trod_int Tryz.underlying22 r0'
  obtain ⟨i3, e3, -, w3⟩ := DataW.trod_int Tryz.underlying22 r1'
  obtain ⟨ka, kc, b, e4, rk, bk⟩ := bytes_cells_w r2'
  obtain ⟨eo, ec, E, e5, rE, oE, bE⟩ := ents_cells t2'
  obtain ⟨ht, rfl, hht⟩ := u64_of_wf w0
  obtain ⟨si, rfl, hsi⟩ := u64_of_wf w2
  obtain ⟨st, rfl, hst⟩ := u64_of_wf w3
  have hv := i64_of_wf w1
  obtain ⟨L, hL⟩ : ∃ L, L = cs.toList := ⟨_, rfl⟩
  have hcs' : cs = L.toArray := by rw [hL]
  rw [← hL] at hlen e0 e1 e2 e3 e4 e5
  rw [hcv] at hlen
  subst hcs'
  match L, hlen with
  | [u0, u1, u2, u3, u4, u5], _ =>
    simp at e0 e1 e2 e3 e4 e5
    subst e0; subst e1; subst e2; subst e3; subst e4; subst e5
    refine ⟨⟨ht, i1, si, st, ⟨ka, kc, b⟩, eo, ec, E⟩, rfl, fun R hR hn => ?_⟩
    have hd : d = .agg [y0.1, y1.1, y2.1] := congrArg Prod.fst hy
    rw [hd] at hn
    have hs := congrArg Prod.fst hq
    have b1 := bk R fun n h9 => hn n (by
      simp only [DataW.weights, Tryz.underlying30]
      refine DataW.weights_mem_each (j := 1) rfl rfl n ?_
      rw [hs]
      simp only [DataW.weights, Tryz.underlying27]
      exact DataW.weights_mem_each (j := 2) rfl rfl n h9)
    have b2 := bE R fun n h9 => hn n (by
      simp only [DataW.weights, Tryz.underlying30]
      exact DataW.weights_mem_each (j := 2) rfl rfl n h9)
    exact ⟨rk, ⟨rE, fun e he => ⟨(oE e he).1, (oE e he).2.1, (oE e he).2.2, Nat.le_trans (b2.1 e he) hR⟩⟩, hht, hsi, hst, hv, Nat.le_trans b1 hR, Nat.le_trans b2.2 hR⟩
end Go.Proofs.YtddnleofflobhaaGreatDoor

set_option linter.unusedVariables false
namespace Go.Proofs.YtddnleofflobhaaGreatDoor
open Go.RowKit Go.ChangeShapes Go.WideShapes Go.ChangeAt

namespace vaultRight
theorem walk {H : Type} {enc : TypeId × Value → H} (v : Value) (w : World) {base : Nat} {d : DataW H} {p : List MemPlace} (hw : Value.okWide Tryz.prog w .any base 30 v) (h : DataW.Trod enc Tryz.prog w 0 (fun _ => true) true 30 v d p)
    (hs : ∀ n ∈ d.weights Tryz.prog 30, n ≤ reachBytes) : Calls Tryz.prog 3 #[v] w (fun e w' => e = .returned (.bool true) ∧ Below w.heap.size w w') := by
  obtain ⟨l, rfl, hl⟩ := log_open hw h
  exact walk0 records1_any l w (hl reachBytes (by decide) hs)
end vaultRight
end Go.Proofs.YtddnleofflobhaaGreatDoor

namespace Go.Proofs.YtddnleofflobhaaGreatDoor.vaultRight
open Go.ChangeShapes Go.WideShapes Go.ChangeAt Go.RowKit
open Go.ChangeMaps (open_string shut_string)
set_option linter.unusedVariables false

set_option maxRecDepth 100000 in
theorem contract (H : Type) (enc : TypeId × Value → H) (W : World) (base : Nat) (args : Array Value) (ds gs : List (DataW H)) (before : List MemPlace)
    (hval : ∀ (j : Nat) t v, Tryz.f3.params[j]? = some t → args[j]? = some v → Value.okWide Tryz.prog W .any base t v)
    (hW : DataW.Whole enc Tryz.prog Tryz.f3.params.toList Rows.vaultRightSpec.vars false W args.toList ds gs before) (hsz0 : (DataW.weightsEach Tryz.prog (Tryz.f3.params.toList ++ (OpenSpec.ofChange Rows.vaultRightSpec).bare.plain.varTypes Tryz.prog) (ds ++ gs)).all (· ≤ reachBytes) = true) (hL : laidMetH Tryz.prog Rows.vaultRightRow.laid W) :
    Calls Tryz.prog 3 args W fun e W' => ∃ v, e = .returned v ∧ Rows.vaultRightSpec.post enc Tryz.prog Tryz.f3 false true false false W args v W' := by
  have hW' := hW
  obtain ⟨p, q, hA0, hV, rfl, hfz, hnd⟩ := hW
  have hA : DataW.TrodAll enc Tryz.prog W 0 (fun _ => true) true Tryz.f3.params.toList args.toList ds p := hA0
  rw [Tryz.params3] at hA hval
  have hsz := hsz0
  rw [Tryz.params3] at hsz
  obtain ⟨v0, vs0, d0, ds0, p0, q0, hargs, rfl, rfl, h0, r0⟩ := trodAll_cons hA
  obtain ⟨rfl, rfl, rfl⟩ := trodAll_nil r0
  obtain rfl : args = #[v0] := by cases args; simp_all
  obtain ⟨rfl, rfl⟩ := trodVars_none hV
  have k0 := h0
  have lt0 : ∀ x ∈ p0, x.block < W.heap.size := by obtain ⟨m, hm⟩ := k0; exact DataW.trod_lt m _ _ _ hm
  clear hA0
  refine (walk v0 W (hval 0 30 v0 rfl rfl) h0 (fun n hn => of_decide_eq_true (List.all_eq_true.1 hsz n (DataW.weights_mem_each (j := 0) rfl rfl n hn)))).mono fun e W' ⟨he, bel⟩ => ?_
  subst he
  exact ⟨_, rfl, _, _, _, [], _, [], hW', trodAll_mk1 (shut_bool Tryz.underlying4 _), (trodAll_cons_mk (Below.trod laidOut (by kernel_rfl) (of_decide_eq_true (by kernel_rfl)) k0 bel lt0) trodAll_mk0), rfl, bel.frame _, fun h => by cases h⟩

theorem reads (os : Os) {H : Type} (enc : TypeId × Value → H) : ∃ places, DataW.whole enc Tryz.prog ((laidWorld os).forCall (fun _ _ => 0) ⟨#[], #[.agg #[.int .u64 0, .int .i64 0, .int .u64 0, .int .u64 0, .slice none 0 0, .slice none 0 0]], []⟩).memory Tryz.f3.params.toList Rows.vaultRightSpec.vars false (#[.agg #[.int .u64 0, .int .i64 0, .int .u64 0, .int .u64 0, .slice none 0 0, .slice none 0 0]] : Array Value).toList 8 = some ([.agg [.agg [.lit (.int .u64 0), .lit (.int .i64 0)], .agg [.lit (.int .u64 0), .lit (.int .u64 0), .nil], .nil]], [], places) :=
  ⟨[], by kernel_rfl⟩

set_option maxRecDepth 100000 in
theorem lifted (os : Os) (started : os.Started) (H : Type) (enc : TypeId × Value → H) (F : Stop.Interp) :
    ReturnsInHanded {} Tryz.checked os 3 .any ((OpenSpec.ofChange Rows.vaultRightSpec).preRow enc Tryz.prog Tryz.f3 Rows.vaultRightRow.domain false Rows.vaultRightRow.laid) (((OpenSpec.ofChange Rows.vaultRightSpec).at F).post enc Tryz.prog Tryz.f3 false true false false) := by
  obtain ⟨places, hx⟩ := reads os enc
  refine returnsInHanded_of_row (C := Tryz.checked) (s := (OpenSpec.ofChange Rows.vaultRightSpec)) own started (by kernel_rfl) Tryz.func3
    (witness_row_at (enc := enc) (C := Tryz.checked) false (laidWorld os) #[.agg #[.int .u64 0, .int .i64 0, .int .u64 0, .int .u64 0, .slice none 0 0, .slice none 0 0]] rfl (by kernel_rfl) (by kernel_rfl) (by kernel_rfl)
      (OpenSpec.preRow_of_cond 8 hx (by kernel_rfl) (fun k hk => by cases hk) (by kernel_rfl) (laid_met os _))) ?_
  intro W base args ds gs before hval hW _ _ hsz hL _ _
  exact contract H enc W base args ds gs before hval hW hsz hL

theorem said : Rows.VaultRightSaid :=
  OpenClaim.holds_of_cond 3 Tryz.f3 rfl rfl rfl rfl rfl rfl rfl ⟨rfl, rfl, rfl, rfl, rfl⟩ rfl rfl rfl rfl rfl (by kernel_rfl) Tryz.func3 (by kernel_rfl)
    (of_decide_eq_true (by kernel_rfl)) (by unfold Func.isWrapper; first | (rw [if_pos (by decide +kernel)]; kernel_rfl) | (rw [if_neg (by decide +kernel)]; exact ⟨rfl, rfl⟩))
    (fun os started H enc _ F => by rw [OpenClaim.pre_eq_preRow]; exact lifted os started H enc F)

theorem plain (f : FuncId) (fn : Func) (hf : Tryz.pinned.checked.prog.funcNamed "armoire/armoirelaw07.VaultRight" = some f) (hfn : Tryz.pinned.checked.prog.funcs[f]? = some fn) :
    true = Tryz.pinned.checked.prog.looks [] ∧ ∀ (j : Nat) t, fn.params[j]? = some t → Tryz.pinned.checked.prog.wantsStandIn t = false := by
  obtain rfl : f = 3 := Option.some.inj ((show Tryz.prog.funcNamed "armoire/armoirelaw07.VaultRight" = some 3 by kernel_rfl).symm.trans hf) |>.symm
  obtain rfl : fn = Tryz.f3 := (Option.some.inj (Tryz.func3.symm.trans hfn)).symm
  refine ⟨by kernel_rfl, fun j t ht => ?_⟩
  rw [Tryz.params3] at ht
  have hm := Array.mem_of_getElem? ht
  simp only [List.mem_toArray, List.mem_cons, List.not_mem_nil, or_false] at hm
  subst hm
  · exact (show Tryz.prog.wantsStandIn 30 = false by kernel_rfl)

/-- THE CARD. -/
theorem proved : Rows.VaultRightCardSaid :=
  Claim7.holds_tied_plain_at .later [] _ _ _ _ said (fun _ h => by cases h) (by kernel_rfl) (fun _ h => by cases h) vaultRight_row_tie rfl ⟨rfl, rfl⟩ (by kernel_rfl) rfl plain (by kernel_rfl)
end Go.Proofs.YtddnleofflobhaaGreatDoor.vaultRight

