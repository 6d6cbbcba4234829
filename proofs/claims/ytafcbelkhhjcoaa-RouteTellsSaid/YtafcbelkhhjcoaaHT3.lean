import GoSem.Op.String
import Derived.Lib.Bytealg
import Derived.Test.YtafcbelkhhjcoaaRows
import Derived.WalkKit
import Derived.WalkSpells
import Derived.WalkLawsBesides
import Derived.Laws.AppendOwnNone
import Derived.Deep.Slices
import Derived.BigQuiet
import Derived.Deep.QuietTactic
import Derived.Deep.AppendLies
import Derived.Deep.RegionWith
import Derived.Shelf.Abstract
import Derived.Test.YtafcbelkhhjcoaaProg
import Derived.LaidEql
import Derived.Stop.Asserts
import Derived.RowKitTokens
import Derived.Lib.Bytes
import Derived.Deep.OwnRows
import Derived.OwnWalk
import Derived.ProofKit
import Derived.Lib.AppendZeros
import Derived.Deep.CutRange
import Derived.Deep.RegionHeld3
import Derived.OpenShut
import Derived.ShutString
import Derived.ChangeOld
import Derived.Below
import Derived.SizedLaws
import Derived.Deep.Strs
import Derived.Deep.RegionHeld
import Derived.Deep.RegionLaw
import Derived.Laws.OwnMore
import Derived.Laws.ResultCell
import Derived.BigRegion
import Derived.Laws.CopyOwn
import Derived.Lib.AppendZerosOnto
import Derived.Lib.Overlaps
import Derived.Deep.AppendSrc
import Derived.Deep.CutBlock
import Derived.Lib.SlBytesConst
import Derived.RangeFuncNested
import Derived.RangeFuncBound
import Derived.RangeFuncCalls
import Derived.RangeFuncLeaves
import Derived.Shelf.RegionOpen
import Derived.OwnWalkIn
import Derived.TacticsInMore
import Derived.LoopNIn
import Derived.LoopIn
import Derived.Laws.CopyRow
import Derived.Deep.MidRow
import Derived.Laws.MakeOwn
import Derived.IntWalk
import Derived.Test.YtafcbelkhhjcoaaHT1
import Derived.Test.YtafcbelkhhjcoaaHT2
set_option linter.unusedVariables false
set_option linter.unusedSimpArgs false
set_option linter.unusedVariables false
set_option linter.unusedSimpArgs false
set_option maxRecDepth 100000
namespace Go.Proofs.Ytafcbelkhhjcoaa
open Go.RowKit Go.Deep

def prevB (L : List Ow) (k : Nat) (f : List UInt8) : Bool := match k with
  | 0 => true
  | j + 1 => match L[j]? with
    | some p => Op.bytesLess p.f f
    | none => true
def okOw (R : Rou) (k : Nat) (o : Ow) : Bool :=
  !decide (o.g ≤ R.base) && (!decide (o.g > R.base + 4) && (decide (plcI R.sp o.g = (k : Int)) && (!decide (o.f.length < 1) && (begB o.f 120 && (!decide (o.f.length > 600) && prevB R.sp k o.f)))))
def allOk (R : Rou) : Nat → Bool
  | 0 => true
  | n + 1 => allOk R n && (match R.sp[n]? with | some o => okOw R n o | none => true)
def cutB (R : Rou) : Bool :=
  if R.mv = 0 then decide (R.cut.length = 0)
  else match R.sp[(plcI R.sp R.mv).toNat]? with
    | some o => decide (0 ≤ plcI R.sp R.mv) && (decide (R.cut.length ≤ 600) && (Op.bytesLess o.f R.cut && inSpan o.f (toL R.sp (plcI R.sp R.mv).toNat) R.cut))
    | none => false
def rightB (R : Rou) : Bool :=
  !decide (R.ep < 0) && (!decide (R.base < 1) && (!decide (R.base > 4) && (!decide (R.sp.length < 1) && (!decide (R.sp.length > 4) && ((match R.sp[0]? with | some o => o.f == [120] | none => true) && (allOk R R.sp.length && cutB R))))))
theorem allOk_step {R : Rou} {k : Nat} {o : Ow} (h : R.sp[k]? = some o) : allOk R (k + 1) = (allOk R k && okOw R k o) := by
  show (allOk R k && _) = _
  rw [h]
theorem allOk_bad {R : Rou} {k : Nat} (h : allOk R k = false) : ∀ n, k ≤ n → allOk R n = false := by
  intro n hn
  induction n with
  | zero => obtain rfl : k = 0 := by omega
            exact h
  | succ n ih =>
    rcases Nat.lt_or_ge n k with hlt | hge
    · obtain rfl : k = n + 1 := by omega
      exact h
    · show (allOk R n && _) = _
      rw [ih hge]; rfl

theorem leq_of {p o : List UInt8} (h : Op.bytesLess p o = false) : Op.bytesLess o p = true ∨ o = p := by
  cases h2 : Op.bytesLess o p with
  | true => exact .inl rfl
  | false => exact .inr (lt_eq (less_lt.1 h2) (less_lt.1 h))
theorem leq_not {p o : List UInt8} (h : Op.bytesLess p o = true) : Op.bytesLess o p = false ∧ ¬ o = p :=
  ⟨less_lt.2 (lt_asymm (lt_less.1 h)), fun e => lt_irrefl p (by have := lt_less.1 h; rw [e] at this; exact this)⟩
theorem plc_cases (L : List Ow) (s : Int) : plcI L s = -1 ∨ ∃ (k : Nat) (o : Ow), plcI L s = (k : Int) ∧ L[k]? = some o := by
  rcases fidx_cases (fun t : Ow => decide (t.g = s)) L with ⟨h, -⟩ | ⟨k, o, h, h2, -⟩
  · exact .inl h
  · exact .inr ⟨k, o, h, h2⟩

set_option maxHeartbeats 16000000 in
theorem rright_any {w : World} {R : Rou} {ao b : Option Addr} {c d : Nat} (hr : OwsN w (.slice ao R.sp.length c) R.sp) (hcut : Rd w (.slice b R.cut.length d) R.cut) (hL : ∀ o ∈ R.sp, o.f.length ≤ 140737488355328) (hep : i64 R.base) :
    Calls Try.prog 44 #[.agg #[.int .i64 R.ep, .int .i64 R.base, .slice ao R.sp.length c, .int .i64 R.mv, .slice b R.cut.length d]] w (AnsP w (.bool (rightB R))) := by
  have hlm := ows_form hr
  obtain ⟨ao', c', e, -, hm, hc⟩ := ows_cells hr
  cases e
  have HC := hid hc
  have HR := hid hr
  have HCUT := hid hcut
  have HLL := hid hL
  have HEP := hid hep
  have HRB : Hid (rightB R = (!decide (R.ep < 0) && (!decide (R.base < 1) && (!decide (R.base > 4) && (!decide (R.sp.length < 1) && (!decide (R.sp.length > 4) && ((match R.sp[0]? with | some o => o.f == [120] | none => true) && (allOk R R.sp.length && cutB R)))))))) := hid rfl
  clear hr hm hc hcut hL hep
  go_enter Try.func44, Try.ntmps44
  go_upto_region 1 with fail
  have hb := (Below.refl w.heap.size w).alloc (Nat.le_refl _) (.cells #[.int .i64 R.ep, .int .i64 R.base, .slice ao R.sp.length c, .int .i64 R.mv, .slice b R.cut.length d] 64)
  have hz := heap_alloc_new w (.cells #[.int .i64 R.ep, .int .i64 R.base, .slice ao R.sp.length c, .int .i64 R.mv, .slice b R.cut.length d] 64)
  have hs : (w.alloc (.cells #[.int .i64 R.ep, .int .i64 R.base, .slice ao R.sp.length c, .int .i64 R.mv, .slice b R.cut.length d] 64)).heap.size = w.heap.size + 1 := by simp
  generalize w.alloc (.cells #[.int .i64 R.ep, .int .i64 R.base, .slice ao R.sp.length c, .int .i64 R.mv, .slice b R.cut.length d] 64) = w1 at *
  have HB1 := hid hb
  have HKR : Hid (∀ V, Below w1.heap.size w1 V → V.cell? ⟨w.heap.size, 0, none⟩ = some (.int .i64 R.ep) ∧ V.cell? ⟨w.heap.size, 1, none⟩ = some (.int .i64 R.base) ∧ V.cell? ⟨w.heap.size, 2, none⟩ = some (.slice ao R.sp.length c) ∧ V.cell? ⟨w.heap.size, 3, none⟩ = some (.int .i64 R.mv) ∧ V.cell? ⟨w.heap.size, 4, none⟩ = some (.slice b R.cut.length d)) := hid (fun V hV => by
    have h9 := (hV.block _ (by omega)).trans hz
    exact ⟨cell_in h9 0 _ rfl, cell_in h9 1 _ rfl, cell_in h9 2 _ rfl, cell_in h9 3 _ rfl, cell_in h9 4 _ rfl⟩)
  clear hb hz hs
  obtain ⟨q0, q1, q2, q3, q4⟩ := HKR.out w1 (Below.refl _ _)
  have hF : ∀ {x : Bool}, rightB R = x → rightB R = x := fun h => h
  clear hF
  by_cases g1 : R.ep < 0
  · skip
    go_wp2_with fail
    go_ret
    exact ⟨by rw [HRB.out]; simp [g1], HB1.out⟩
  by_cases g2 : R.base < 1
  · skip
    go_wp2_with fail
    go_ret
    exact ⟨by rw [HRB.out]; simp [g2], HB1.out⟩
  by_cases g3 : R.base > 4
  · skip
    go_wp2_with fail
    go_ret
    exact ⟨by rw [HRB.out]; simp [g3], HB1.out⟩
  by_cases g4 : R.sp.length < 1
  · have gi : ((R.sp.length : Nat) : Int) < 1 := by omega
    go_wp2_with fail
    go_ret
    exact ⟨by rw [HRB.out]; simp [g4], HB1.out⟩
  have gi4 : ¬ ((R.sp.length : Nat) : Int) < 1 := by omega
  by_cases g5 : R.sp.length > 4
  · have gi : ((R.sp.length : Nat) : Int) > 4 := by omega
    go_wp2_with fail
    go_ret
    exact ⟨by rw [HRB.out]; simp [g5], HB1.out⟩
  have gi5 : ¬ ((R.sp.length : Nat) : Int) > 4 := by omega
  obtain ⟨o0, ho0⟩ : ∃ o0, R.sp[0]? = some o0 := ⟨_, List.getElem?_eq_getElem (by omega)⟩
  obtain ⟨b1, of1, x1, d1, rfl, c0, c1, cr⟩ := HC.out 0 o0 ho0
  have k1 := (HB1.out.cell (block_cell c1)).trans c1
  have hsi : (0 : Int) < (R.sp.length : Int) := by omega
  have HY := hid (zrd_one (c := 120) (heap_alloc_new w1 (.cells #[.int .u8 120] 5)))
  have HX0 := hid ((cr.old HB1.out).alloc (.cells #[.int .u8 120] 5))
  have CB := hid (zbytes_any _ HX0.out HY.out)
  have HRB2 : Hid (rightB R = ((o0.f == [120]) && (allOk R R.sp.length && cutB R))) := hid (by rw [HRB.out, ho0]; simp [g1, g2, g3, g4, g5])
  clear c0 c1 cr HRB
  simp only [Nat.zero_mul, Nat.add_zero] at k1
  cases hf0 : (o0.f == [120]) with
  | false =>
    rw [hf0] at CB HRB2
    go_wp2_with (first | (go_at_call 91; refine CB.out.mono ?_; rintro en w3 ⟨rfl, rfl⟩))
    go_ret
    exact ⟨by rw [HRB2.out]; rfl, HB1.out.alloc HB1.out.size _⟩
  | true =>
    rw [hf0] at CB HRB2
    go_wp2_with (first | (go_at_call 91; refine CB.out.mono ?_; rintro en w3 ⟨rfl, rfl⟩))
    have HB2 := hid (HB1.out.alloc HB1.out.size (.cells #[.int .u8 120] 5))
    have HX2 : Hid (Below w1.heap.size w1 (w1.alloc (.cells #[.int .u8 120] 5))) := hid ((Below.refl w1.heap.size w1).alloc (Nat.le_refl _) _)
    clear HY HX0 CB k1 q0 q1 q2 q3 q4
    generalize w1.alloc (.cells #[.int .u8 120] 5) = w2 at *
    go_loopw [3] (fun j wr => ∃ k : Nat, k ≤ R.sp.length ∧ j = .int .i64 (k : Int) ∧ Hid (Below w1.heap.size w1 wr) ∧ Hid (allOk R k = true))
      (fun j _ => R.sp.length - (intOf j).toNat)
    case atStart => exact ⟨0, by omega, rfl, HX2, hid rfl⟩
    case round =>
      obtain ⟨k, hk, rfl, HBr, HA⟩ := hrel
      obtain ⟨q0, q1, q2, q3, q4⟩ := HKR.out _ HBr.out
      by_cases hlt : k < R.sp.length
      · obtain ⟨o, hu⟩ : ∃ o, R.sp[k]? = some o := ⟨_, List.getElem?_eq_getElem hlt⟩
        have HST := hid (allOk_step hu)
        have hokd : okOw R k o = (!decide (o.g ≤ R.base) && (!decide (o.g > R.base + 4) && (decide (plcI R.sp o.g = (k : Int)) && (!decide (o.f.length < 1) && (begB o.f 120 && (!decide (o.f.length > 600) && prevB R.sp k o.f)))))) := rfl
        have HOKD := hid hokd
        clear hokd
        obtain ⟨b9, of9, x5, d5, e9, c0, c1, cr⟩ := HC.out k o hu
        cases e9
        have HBw := hid (below_step HB1.out HBr.out)
        have k0 := (HBw.out.cell (block_cell c0)).trans c0
        have k1 := (HBw.out.cell (block_cell c1)).trans c1
        have hki : (k : Int) < (R.sp.length : Int) := by omega
        have HRD := hid cr
        have HU := hid hu
        clear c0 c1 cr hu
        go_upto_region 7 with fail
        have hb5 := (Below.refl wr.heap.size wr).alloc (Nat.le_refl _) (.cells #[.int .i64 o.g, .slice x5 o.f.length d5] 140)
        have hz5 := heap_alloc_new wr (.cells #[.int .i64 o.g, .slice x5 o.f.length d5] 140)
        have HB5 := hid (HBr.out.alloc HBr.out.size (.cells #[.int .i64 o.g, .slice x5 o.f.length d5] 140))
        generalize wr.heap.size = g5 at *
        generalize wr.alloc (.cells #[.int .i64 o.g, .slice x5 o.f.length d5] 140) = w5 at *
        have HRo : Hid (∀ V, Below w5.heap.size w5 V → V.cell? ⟨g5, 0, none⟩ = some (.int .i64 o.g) ∧ V.cell? ⟨g5, 1, none⟩ = some (.slice x5 o.f.length d5)) := hid (fun V hV => by
          have h9 := (hV.block _ (lt_of_block hz5)).trans hz5
          exact ⟨cell_in h9 0 _ rfl, cell_in h9 1 _ rfl⟩)
        have HB5w := hid (below_step HB1.out HB5.out)
        clear hb5 hz5 k0 k1 HBw q0 q1 q2 q3 q4 HBr
        have HBS := hid (show 1 ≤ R.base ∧ R.base ≤ 4 by omega)
        have hbw : IntKind.i64.wrap (R.base + 4) = R.base + 4 := IntWalk.i64_in _ (by omega)
        by_cases g6 : o.g ≤ R.base
        · have HOK : Hid (okOw R k o = false) := hid (by rw [HOKD.out]; simp [g6])
          refine wp_region_noPanic ?_
          refine wp_region_held_drew (S := fun V => Hid (Below w5.heap.size w5 V)) (by kernel_rfl) (hid (Below.drew (Below.refl _ _))) (fun hHeld => ?_)
          generalize w5.drew = Wd at *
          refine tkH 0 (.pointer (some ⟨g5, 0, none⟩)) rfl (by kernel_rfl) (fun _ _ _ => False.elim) hHeld (Or.inl ⟨by rfl, fun W9 hW => by clear hHeld hW; simp only [jA, jB, jC]; go_simp⟩) ?_
          try simp only [Act.put, jA, jB, jC, jD, jE, jF]
          refine tkH 1 (.int .i64 o.g) rfl (by kernel_rfl) (fun _ _ _ => False.elim) hHeld (Or.inl ⟨by rfl, fun W9 hW => by obtain ⟨p0, p1⟩ := HRo.out _ hW.out; clear hHeld hW; simp only [jA, jB, jC]; go_simp⟩) ?_
          try simp only [Act.put, jA, jB, jC, jD, jE, jF]
          refine tkH 2 (.pointer (some ⟨w.heap.size, 1, none⟩)) rfl (by kernel_rfl) (fun _ _ _ => False.elim) hHeld (Or.inl ⟨by rfl, fun W9 hW => by clear hHeld hW; simp only [jA, jB, jC]; go_simp⟩) ?_
          try simp only [Act.put, jA, jB, jC, jD, jE, jF]
          refine tkH 3 (.int .i64 R.base) rfl (by kernel_rfl) (fun _ _ _ => False.elim) hHeld (Or.inl ⟨by rfl, fun W9 hW => by obtain ⟨q0, q1, q2, q3, q4⟩ := HKR.out _ (HB5.out.trans (hW.out.mono HB5.out.size)); clear hHeld hW; simp only [jA, jB, jC]; go_simp⟩) ?_
          try simp only [Act.put, jA, jB, jC, jD, jE, jF]
          refine tkH 4 (.bool true) rfl (by kernel_rfl) (fun _ _ _ => False.elim) hHeld (Or.inl ⟨by rfl, fun W9 hW => by clear hHeld hW; simp only [jA, jB, jC]; go_simp⟩) ?_
          try simp only [Act.put, jA, jB, jC, jD, jE, jF]
          refine tkH 5 (.bool true) rfl (by kernel_rfl) (fun _ _ _ => False.elim) hHeld (Or.inl ⟨by rfl, fun W9 hW => by clear hHeld hW; simp only [jA, jB, jC]; go_simp⟩) ?_
          try simp only [Act.put, jA, jB, jC, jD, jE, jF]
          refine tkH 6 (undef) rfl (by kernel_rfl) (fun _ _ _ => False.elim) hHeld (Or.inr ⟨by rfl, by rfl⟩) ?_
          try simp only [Act.put, jA, jB, jC, jD, jE, jF]
          refine tkH 7 (undef) rfl (by kernel_rfl) (fun _ _ _ => False.elim) hHeld (Or.inr ⟨by rfl, by rfl⟩) ?_
          try simp only [Act.put, jA, jB, jC, jD, jE, jF]
          refine tkH 8 (undef) rfl (by kernel_rfl) (fun _ _ _ => False.elim) hHeld (Or.inr ⟨by rfl, by rfl⟩) ?_
          try simp only [Act.put, jA, jB, jC, jD, jE, jF]
          refine tkH 9 (undef) rfl (by kernel_rfl) (fun _ _ _ => False.elim) hHeld (Or.inr ⟨by rfl, by rfl⟩) ?_
          try simp only [Act.put, jA, jB, jC, jD, jE, jF]
          refine tkH 10 (undef) rfl (by kernel_rfl) (fun _ _ _ => False.elim) hHeld (Or.inr ⟨by rfl, by rfl⟩) ?_
          try simp only [Act.put, jA, jB, jC, jD, jE, jF]
          refine tkH 11 (undef) rfl (by kernel_rfl) (fun _ _ _ => False.elim) hHeld (Or.inr ⟨by rfl, by rfl⟩) ?_
          try simp only [Act.put, jA, jB, jC, jD, jE, jF]
          refine tkH 12 (.bool true) rfl (by kernel_rfl) (fun _ _ _ => False.elim) hHeld (Or.inl ⟨by rfl, fun W9 hW => by clear hHeld hW; simp only [jA, jB, jC]; go_simp⟩) ?_
          try simp only [Act.put, jA, jB, jC, jD, jE, jF]
          refine tkH 13 (.bool true) rfl (by kernel_rfl) (fun _ _ _ => False.elim) hHeld (Or.inl ⟨by rfl, fun W9 hW => by clear hHeld hW; simp only [jA, jB, jC]; go_simp⟩) ?_
          try simp only [Act.put, jA, jB, jC, jD, jE, jF]
          refine tkH 14 (undef) rfl (by kernel_rfl) (fun _ _ _ => False.elim) hHeld (Or.inr ⟨by rfl, by rfl⟩) ?_
          try simp only [Act.put, jA, jB, jC, jD, jE, jF]
          refine tkH 15 (undef) rfl (by kernel_rfl) (fun _ _ _ => False.elim) hHeld (Or.inr ⟨by rfl, by rfl⟩) ?_
          try simp only [Act.put, jA, jB, jC, jD, jE, jF]
          refine tkH 16 (undef) rfl (by kernel_rfl) (fun _ _ _ => False.elim) hHeld (Or.inr ⟨by rfl, by rfl⟩) ?_
          try simp only [Act.put, jA, jB, jC, jD, jE, jF]
          refine tkH 18 (undef) rfl (by kernel_rfl) (fun _ _ _ => False.elim) hHeld (Or.inr ⟨by rfl, by rfl⟩) ?_
          try simp only [Act.put, jA, jB, jC, jD, jE, jF]
          refine rdH 17 (by kernel_rfl) rfl fun K hK => ?_
          rw [if_neg (by intro h; exact absurd (show false = true from h) (by decide))]
          refine hK.out _ _ hHeld (fun hHeld => ?_)
          clear hK K
          try simp only [Act.put, jA, jB, jC, jD, jE, jF]
          refine tkH 19 (undef) rfl (by kernel_rfl) (fun _ _ _ => False.elim) hHeld (Or.inr ⟨by rfl, by rfl⟩) ?_
          try simp only [Act.put, jA, jB, jC, jD, jE, jF]
          refine tkH 20 (.bool true) rfl (by kernel_rfl) (fun _ _ _ => False.elim) hHeld (Or.inl ⟨by rfl, fun W9 hW => by clear hHeld hW; simp only [jA, jB, jC]; go_simp⟩) ?_
          try simp only [Act.put, jA, jB, jC, jD, jE, jF]
          refine tkH 21 (.bool true) rfl (by kernel_rfl) (fun _ _ _ => False.elim) hHeld (Or.inl ⟨by rfl, fun W9 hW => by clear hHeld hW; simp only [jA, jB, jC]; go_simp⟩) ?_
          try simp only [Act.put, jA, jB, jC, jD, jE, jF]
          refine tkH 22 (undef) rfl (by kernel_rfl) (fun _ _ _ => False.elim) hHeld (Or.inr ⟨by rfl, by rfl⟩) ?_
          try simp only [Act.put, jA, jB, jC, jD, jE, jF]
          refine tkH 23 (undef) rfl (by kernel_rfl) (fun _ _ _ => False.elim) hHeld (Or.inr ⟨by rfl, by rfl⟩) ?_
          try simp only [Act.put, jA, jB, jC, jD, jE, jF]
          refine tkH 24 (undef) rfl (by kernel_rfl) (fun _ _ _ => False.elim) hHeld (Or.inr ⟨by rfl, by rfl⟩) ?_
          try simp only [Act.put, jA, jB, jC, jD, jE, jF]
          refine tkH 25 (undef) rfl (by kernel_rfl) (fun _ _ _ => False.elim) hHeld (Or.inr ⟨by rfl, by rfl⟩) ?_
          try simp only [Act.put, jA, jB, jC, jD, jE, jF]
          refine tkH 26 (.bool true) rfl (by kernel_rfl) (fun _ _ _ => False.elim) hHeld (Or.inl ⟨by rfl, fun W9 hW => by clear hHeld hW; simp only [jA, jB, jC]; go_simp⟩) ?_
          try simp only [Act.put, jA, jB, jC, jD, jE, jF]
          refine tkH 27 (.bool true) rfl (by kernel_rfl) (fun _ _ _ => False.elim) hHeld (Or.inl ⟨by rfl, fun W9 hW => by clear hHeld hW; simp only [jA, jB, jC]; go_simp⟩) ?_
          try simp only [Act.put, jA, jB, jC, jD, jE, jF]
          refine tkH 28 (undef) rfl (by kernel_rfl) (fun _ _ _ => False.elim) hHeld (Or.inr ⟨by rfl, by rfl⟩) ?_
          try simp only [Act.put, jA, jB, jC, jD, jE, jF]
          refine tkH 29 (undef) rfl (by kernel_rfl) (fun _ _ _ => False.elim) hHeld (Or.inr ⟨by rfl, by rfl⟩) ?_
          try simp only [Act.put, jA, jB, jC, jD, jE, jF]
          refine tkH 30 (undef) rfl (by kernel_rfl) (fun _ _ _ => False.elim) hHeld (Or.inr ⟨by rfl, by rfl⟩) ?_
          try simp only [Act.put, jA, jB, jC, jD, jE, jF]
          refine tkH 31 (undef) rfl (by kernel_rfl) (fun _ _ _ => False.elim) hHeld (Or.inr ⟨by rfl, by rfl⟩) ?_
          try simp only [Act.put, jA, jB, jC, jD, jE, jF]
          refine tkH 32 (undef) rfl (by kernel_rfl) (fun _ _ _ => False.elim) hHeld (Or.inr ⟨by rfl, by rfl⟩) ?_
          try simp only [Act.put, jA, jB, jC, jD, jE, jF]
          refine tkH 33 (.bool true) rfl (by kernel_rfl) (fun _ _ _ => False.elim) hHeld (Or.inl ⟨by rfl, fun W9 hW => by clear hHeld hW; simp only [jA, jB, jC]; go_simp⟩) ?_
          try simp only [Act.put, jA, jB, jC, jD, jE, jF]
          refine tkH 34 (.bool true) rfl (by kernel_rfl) (fun _ _ _ => False.elim) hHeld (Or.inl ⟨by rfl, fun W9 hW => by clear hHeld hW; simp only [jA, jB, jC]; go_simp⟩) ?_
          try simp only [Act.put, jA, jB, jC, jD, jE, jF]
          refine tkH 35 (undef) rfl (by kernel_rfl) (fun _ _ _ => False.elim) hHeld (Or.inr ⟨by rfl, by rfl⟩) ?_
          try simp only [Act.put, jA, jB, jC, jD, jE, jF]
          refine tkH 36 (undef) rfl (by kernel_rfl) (fun _ _ _ => False.elim) hHeld (Or.inr ⟨by rfl, by rfl⟩) ?_
          try simp only [Act.put, jA, jB, jC, jD, jE, jF]
          refine tkH 37 (undef) rfl (by kernel_rfl) (fun _ _ _ => False.elim) hHeld (Or.inr ⟨by rfl, by rfl⟩) ?_
          try simp only [Act.put, jA, jB, jC, jD, jE, jF]
          refine tkH 38 (undef) rfl (by kernel_rfl) (fun _ _ _ => False.elim) hHeld (Or.inr ⟨by rfl, by rfl⟩) ?_
          try simp only [Act.put, jA, jB, jC, jD, jE, jF]
          refine tkH 39 (.bool true) rfl (by kernel_rfl) (fun _ _ _ => False.elim) hHeld (Or.inl ⟨by rfl, fun W9 hW => by clear hHeld hW; simp only [jA, jB, jC]; go_simp⟩) ?_
          try simp only [Act.put, jA, jB, jC, jD, jE, jF]
          refine tkH 40 (.bool true) rfl (by kernel_rfl) (fun _ _ _ => False.elim) hHeld (Or.inl ⟨by rfl, fun W9 hW => by clear hHeld hW; simp only [jA, jB, jC]; go_simp⟩) ?_
          try simp only [Act.put, jA, jB, jC, jD, jE, jF]
          refine tkH 41 (undef) rfl (by kernel_rfl) (fun _ _ _ => False.elim) hHeld (Or.inr ⟨by rfl, by rfl⟩) ?_
          try simp only [Act.put, jA, jB, jC, jD, jE, jF]
          refine tkH 42 (undef) rfl (by kernel_rfl) (fun _ _ _ => False.elim) hHeld (Or.inr ⟨by rfl, by rfl⟩) ?_
          try simp only [Act.put, jA, jB, jC, jD, jE, jF]
          refine tkH 43 (undef) rfl (by kernel_rfl) (fun _ _ _ => False.elim) hHeld (Or.inr ⟨by rfl, by rfl⟩) ?_
          try simp only [Act.put, jA, jB, jC, jD, jE, jF]
          refine tkH 44 (undef) rfl (by kernel_rfl) (fun _ _ _ => False.elim) hHeld (Or.inr ⟨by rfl, by rfl⟩) ?_
          try simp only [Act.put, jA, jB, jC, jD, jE, jF]
          refine tkH 45 (undef) rfl (by kernel_rfl) (fun _ _ _ => False.elim) hHeld (Or.inr ⟨by rfl, by rfl⟩) ?_
          try simp only [Act.put, jA, jB, jC, jD, jE, jF]
          refine tkH 46 (undef) rfl (by kernel_rfl) (fun _ _ _ => False.elim) hHeld (Or.inr ⟨by rfl, by rfl⟩) ?_
          try simp only [Act.put, jA, jB, jC, jD, jE, jF]
          refine tkH 47 (undef) rfl (by kernel_rfl) (fun _ _ _ => False.elim) hHeld (Or.inr ⟨by rfl, by rfl⟩) ?_
          try simp only [Act.put, jA, jB, jC, jD, jE, jF]
          refine tkH 48 (undef) rfl (by kernel_rfl) (fun _ _ _ => False.elim) hHeld (Or.inr ⟨by rfl, by rfl⟩) ?_
          try simp only [Act.put, jA, jB, jC, jD, jE, jF]
          refine tkH 49 (undef) rfl (by kernel_rfl) (fun _ _ _ => False.elim) hHeld (Or.inr ⟨by rfl, by rfl⟩) ?_
          try simp only [Act.put, jA, jB, jC, jD, jE, jF]
          refine tkH 50 (undef) rfl (by kernel_rfl) (fun _ _ _ => False.elim) hHeld (Or.inr ⟨by rfl, by rfl⟩) ?_
          try simp only [Act.put, jA, jB, jC, jD, jE, jF]
          refine tkH 51 (undef) rfl (by kernel_rfl) (fun _ _ _ => False.elim) hHeld (Or.inr ⟨by rfl, by rfl⟩) ?_
          try simp only [Act.put, jA, jB, jC, jD, jE, jF]
          refine tkH 52 (undef) rfl (by kernel_rfl) (fun _ _ _ => False.elim) hHeld (Or.inr ⟨by rfl, by rfl⟩) ?_
          try simp only [Act.put, jA, jB, jC, jD, jE, jF]
          refine tkH 53 (undef) rfl (by kernel_rfl) (fun _ _ _ => False.elim) hHeld (Or.inr ⟨by rfl, by rfl⟩) ?_
          try simp only [Act.put, jA, jB, jC, jD, jE, jF]
          refine tkH 54 (undef) rfl (by kernel_rfl) (fun _ _ _ => False.elim) hHeld (Or.inr ⟨by rfl, by rfl⟩) ?_
          try simp only [Act.put, jA, jB, jC, jD, jE, jF]
          refine tkH 55 (undef) rfl (by kernel_rfl) (fun _ _ _ => False.elim) hHeld (Or.inr ⟨by rfl, by rfl⟩) ?_
          try simp only [Act.put, jA, jB, jC, jD, jE, jF]
          refine tkH 56 (undef) rfl (by kernel_rfl) (fun _ _ _ => False.elim) hHeld (Or.inr ⟨by rfl, by rfl⟩) ?_
          try simp only [Act.put, jA, jB, jC, jD, jE, jF]
          refine tkH 57 (.bool true) rfl (by kernel_rfl) (fun _ _ _ => False.elim) hHeld (Or.inl ⟨by rfl, fun W9 hW => by clear hHeld hW; simp only [jA, jB, jC]; go_simp⟩) ?_
          try simp only [Act.put, jA, jB, jC, jD, jE, jF]
          refine wpAnyH_done (by kernel_rfl) (NoPanic.normal ?_) _
          have HB9 := hid (below_step HB5w.out hHeld.out)
          go_wp2_with fail
          go_ret
          exact ⟨by rw [HRB2.out, allOk_bad (k := k + 1) (by rw [HST.out, HOK.out]; simp) _ (by omega)]; simp, HB9.out⟩
        by_cases g7 : o.g > R.base + 4
        · have HOK : Hid (okOw R k o = false) := hid (by rw [HOKD.out]; simp [g7])
          refine wp_region_noPanic ?_
          refine wp_region_held_drew (S := fun V => Hid (Below w5.heap.size w5 V)) (by kernel_rfl) (hid (Below.drew (Below.refl _ _))) (fun hHeld => ?_)
          generalize w5.drew = Wd at *
          refine tkH 0 (.pointer (some ⟨g5, 0, none⟩)) rfl (by kernel_rfl) (fun _ _ _ => False.elim) hHeld (Or.inl ⟨by rfl, fun W9 hW => by clear hHeld hW; simp only [jA, jB, jC]; go_simp⟩) ?_
          try simp only [Act.put, jA, jB, jC, jD, jE, jF]
          refine tkH 1 (.int .i64 o.g) rfl (by kernel_rfl) (fun _ _ _ => False.elim) hHeld (Or.inl ⟨by rfl, fun W9 hW => by obtain ⟨p0, p1⟩ := HRo.out _ hW.out; clear hHeld hW; simp only [jA, jB, jC]; go_simp⟩) ?_
          try simp only [Act.put, jA, jB, jC, jD, jE, jF]
          refine tkH 2 (.pointer (some ⟨w.heap.size, 1, none⟩)) rfl (by kernel_rfl) (fun _ _ _ => False.elim) hHeld (Or.inl ⟨by rfl, fun W9 hW => by clear hHeld hW; simp only [jA, jB, jC]; go_simp⟩) ?_
          try simp only [Act.put, jA, jB, jC, jD, jE, jF]
          refine tkH 3 (.int .i64 R.base) rfl (by kernel_rfl) (fun _ _ _ => False.elim) hHeld (Or.inl ⟨by rfl, fun W9 hW => by obtain ⟨q0, q1, q2, q3, q4⟩ := HKR.out _ (HB5.out.trans (hW.out.mono HB5.out.size)); clear hHeld hW; simp only [jA, jB, jC]; go_simp⟩) ?_
          try simp only [Act.put, jA, jB, jC, jD, jE, jF]
          refine tkH 4 (.bool false) rfl (by kernel_rfl) (fun _ _ _ => False.elim) hHeld (Or.inl ⟨by rfl, fun W9 hW => by clear hHeld hW; simp only [jA, jB, jC]; go_simp⟩) ?_
          try simp only [Act.put, jA, jB, jC, jD, jE, jF]
          refine tkH 5 (.bool false) rfl (by kernel_rfl) (fun _ _ _ => False.elim) hHeld (Or.inl ⟨by rfl, fun W9 hW => by clear hHeld hW; simp only [jA, jB, jC]; go_simp⟩) ?_
          try simp only [Act.put, jA, jB, jC, jD, jE, jF]
          refine tkH 6 (.pointer (some ⟨g5, 0, none⟩)) rfl (by kernel_rfl) (fun _ _ _ => False.elim) hHeld (Or.inl ⟨by rfl, fun W9 hW => by clear hHeld hW; simp only [jA, jB, jC]; go_simp⟩) ?_
          try simp only [Act.put, jA, jB, jC, jD, jE, jF]
          refine tkH 7 (.int .i64 o.g) rfl (by kernel_rfl) (fun _ _ _ => False.elim) hHeld (Or.inl ⟨by rfl, fun W9 hW => by obtain ⟨p0, p1⟩ := HRo.out _ hW.out; clear hHeld hW; simp only [jA, jB, jC]; go_simp⟩) ?_
          try simp only [Act.put, jA, jB, jC, jD, jE, jF]
          refine tkH 8 (.pointer (some ⟨w.heap.size, 1, none⟩)) rfl (by kernel_rfl) (fun _ _ _ => False.elim) hHeld (Or.inl ⟨by rfl, fun W9 hW => by clear hHeld hW; simp only [jA, jB, jC]; go_simp⟩) ?_
          try simp only [Act.put, jA, jB, jC, jD, jE, jF]
          refine tkH 9 (.int .i64 R.base) rfl (by kernel_rfl) (fun _ _ _ => False.elim) hHeld (Or.inl ⟨by rfl, fun W9 hW => by obtain ⟨q0, q1, q2, q3, q4⟩ := HKR.out _ (HB5.out.trans (hW.out.mono HB5.out.size)); clear hHeld hW; simp only [jA, jB, jC]; go_simp⟩) ?_
          try simp only [Act.put, jA, jB, jC, jD, jE, jF]
          refine tkH 10 (.int .i64 (R.base + 4)) rfl (by kernel_rfl) (fun _ _ _ => False.elim) hHeld (Or.inl ⟨by rfl, fun W9 hW => by clear hHeld hW; simp only [jA, jB, jC]; go_simp⟩) ?_
          try simp only [Act.put, jA, jB, jC, jD, jE, jF]
          refine tkH 11 (.bool true) rfl (by kernel_rfl) (fun _ _ _ => False.elim) hHeld (Or.inl ⟨by rfl, fun W9 hW => by clear hHeld hW; simp only [jA, jB, jC]; go_simp⟩) ?_
          try simp only [Act.put, jA, jB, jC, jD, jE, jF]
          refine tkH 12 (.bool true) rfl (by kernel_rfl) (fun _ _ _ => False.elim) hHeld (Or.inl ⟨by rfl, fun W9 hW => by clear hHeld hW; simp only [jA, jB, jC]; go_simp⟩) ?_
          try simp only [Act.put, jA, jB, jC, jD, jE, jF]
          refine tkH 13 (.bool true) rfl (by kernel_rfl) (fun _ _ _ => False.elim) hHeld (Or.inl ⟨by rfl, fun W9 hW => by clear hHeld hW; simp only [jA, jB, jC]; go_simp⟩) ?_
          try simp only [Act.put, jA, jB, jC, jD, jE, jF]
          refine tkH 14 (undef) rfl (by kernel_rfl) (fun _ _ _ => False.elim) hHeld (Or.inr ⟨by rfl, by rfl⟩) ?_
          try simp only [Act.put, jA, jB, jC, jD, jE, jF]
          refine tkH 15 (undef) rfl (by kernel_rfl) (fun _ _ _ => False.elim) hHeld (Or.inr ⟨by rfl, by rfl⟩) ?_
          try simp only [Act.put, jA, jB, jC, jD, jE, jF]
          refine tkH 16 (undef) rfl (by kernel_rfl) (fun _ _ _ => False.elim) hHeld (Or.inr ⟨by rfl, by rfl⟩) ?_
          try simp only [Act.put, jA, jB, jC, jD, jE, jF]
          refine tkH 18 (undef) rfl (by kernel_rfl) (fun _ _ _ => False.elim) hHeld (Or.inr ⟨by rfl, by rfl⟩) ?_
          try simp only [Act.put, jA, jB, jC, jD, jE, jF]
          refine rdH 17 (by kernel_rfl) rfl fun K hK => ?_
          rw [if_neg (by intro h; exact absurd (show false = true from h) (by decide))]
          refine hK.out _ _ hHeld (fun hHeld => ?_)
          clear hK K
          try simp only [Act.put, jA, jB, jC, jD, jE, jF]
          refine tkH 19 (undef) rfl (by kernel_rfl) (fun _ _ _ => False.elim) hHeld (Or.inr ⟨by rfl, by rfl⟩) ?_
          try simp only [Act.put, jA, jB, jC, jD, jE, jF]
          refine tkH 20 (.bool true) rfl (by kernel_rfl) (fun _ _ _ => False.elim) hHeld (Or.inl ⟨by rfl, fun W9 hW => by clear hHeld hW; simp only [jA, jB, jC]; go_simp⟩) ?_
          try simp only [Act.put, jA, jB, jC, jD, jE, jF]
          refine tkH 21 (.bool true) rfl (by kernel_rfl) (fun _ _ _ => False.elim) hHeld (Or.inl ⟨by rfl, fun W9 hW => by clear hHeld hW; simp only [jA, jB, jC]; go_simp⟩) ?_
          try simp only [Act.put, jA, jB, jC, jD, jE, jF]
          refine tkH 22 (undef) rfl (by kernel_rfl) (fun _ _ _ => False.elim) hHeld (Or.inr ⟨by rfl, by rfl⟩) ?_
          try simp only [Act.put, jA, jB, jC, jD, jE, jF]
          refine tkH 23 (undef) rfl (by kernel_rfl) (fun _ _ _ => False.elim) hHeld (Or.inr ⟨by rfl, by rfl⟩) ?_
          try simp only [Act.put, jA, jB, jC, jD, jE, jF]
          refine tkH 24 (undef) rfl (by kernel_rfl) (fun _ _ _ => False.elim) hHeld (Or.inr ⟨by rfl, by rfl⟩) ?_
          try simp only [Act.put, jA, jB, jC, jD, jE, jF]
          refine tkH 25 (undef) rfl (by kernel_rfl) (fun _ _ _ => False.elim) hHeld (Or.inr ⟨by rfl, by rfl⟩) ?_
          try simp only [Act.put, jA, jB, jC, jD, jE, jF]
          refine tkH 26 (.bool true) rfl (by kernel_rfl) (fun _ _ _ => False.elim) hHeld (Or.inl ⟨by rfl, fun W9 hW => by clear hHeld hW; simp only [jA, jB, jC]; go_simp⟩) ?_
          try simp only [Act.put, jA, jB, jC, jD, jE, jF]
          refine tkH 27 (.bool true) rfl (by kernel_rfl) (fun _ _ _ => False.elim) hHeld (Or.inl ⟨by rfl, fun W9 hW => by clear hHeld hW; simp only [jA, jB, jC]; go_simp⟩) ?_
          try simp only [Act.put, jA, jB, jC, jD, jE, jF]
          refine tkH 28 (undef) rfl (by kernel_rfl) (fun _ _ _ => False.elim) hHeld (Or.inr ⟨by rfl, by rfl⟩) ?_
          try simp only [Act.put, jA, jB, jC, jD, jE, jF]
          refine tkH 29 (undef) rfl (by kernel_rfl) (fun _ _ _ => False.elim) hHeld (Or.inr ⟨by rfl, by rfl⟩) ?_
          try simp only [Act.put, jA, jB, jC, jD, jE, jF]
          refine tkH 30 (undef) rfl (by kernel_rfl) (fun _ _ _ => False.elim) hHeld (Or.inr ⟨by rfl, by rfl⟩) ?_
          try simp only [Act.put, jA, jB, jC, jD, jE, jF]
          refine tkH 31 (undef) rfl (by kernel_rfl) (fun _ _ _ => False.elim) hHeld (Or.inr ⟨by rfl, by rfl⟩) ?_
          try simp only [Act.put, jA, jB, jC, jD, jE, jF]
          refine tkH 32 (undef) rfl (by kernel_rfl) (fun _ _ _ => False.elim) hHeld (Or.inr ⟨by rfl, by rfl⟩) ?_
          try simp only [Act.put, jA, jB, jC, jD, jE, jF]
          refine tkH 33 (.bool true) rfl (by kernel_rfl) (fun _ _ _ => False.elim) hHeld (Or.inl ⟨by rfl, fun W9 hW => by clear hHeld hW; simp only [jA, jB, jC]; go_simp⟩) ?_
          try simp only [Act.put, jA, jB, jC, jD, jE, jF]
          refine tkH 34 (.bool true) rfl (by kernel_rfl) (fun _ _ _ => False.elim) hHeld (Or.inl ⟨by rfl, fun W9 hW => by clear hHeld hW; simp only [jA, jB, jC]; go_simp⟩) ?_
          try simp only [Act.put, jA, jB, jC, jD, jE, jF]
          refine tkH 35 (undef) rfl (by kernel_rfl) (fun _ _ _ => False.elim) hHeld (Or.inr ⟨by rfl, by rfl⟩) ?_
          try simp only [Act.put, jA, jB, jC, jD, jE, jF]
          refine tkH 36 (undef) rfl (by kernel_rfl) (fun _ _ _ => False.elim) hHeld (Or.inr ⟨by rfl, by rfl⟩) ?_
          try simp only [Act.put, jA, jB, jC, jD, jE, jF]
          refine tkH 37 (undef) rfl (by kernel_rfl) (fun _ _ _ => False.elim) hHeld (Or.inr ⟨by rfl, by rfl⟩) ?_
          try simp only [Act.put, jA, jB, jC, jD, jE, jF]
          refine tkH 38 (undef) rfl (by kernel_rfl) (fun _ _ _ => False.elim) hHeld (Or.inr ⟨by rfl, by rfl⟩) ?_
          try simp only [Act.put, jA, jB, jC, jD, jE, jF]
          refine tkH 39 (.bool true) rfl (by kernel_rfl) (fun _ _ _ => False.elim) hHeld (Or.inl ⟨by rfl, fun W9 hW => by clear hHeld hW; simp only [jA, jB, jC]; go_simp⟩) ?_
          try simp only [Act.put, jA, jB, jC, jD, jE, jF]
          refine tkH 40 (.bool true) rfl (by kernel_rfl) (fun _ _ _ => False.elim) hHeld (Or.inl ⟨by rfl, fun W9 hW => by clear hHeld hW; simp only [jA, jB, jC]; go_simp⟩) ?_
          try simp only [Act.put, jA, jB, jC, jD, jE, jF]
          refine tkH 41 (undef) rfl (by kernel_rfl) (fun _ _ _ => False.elim) hHeld (Or.inr ⟨by rfl, by rfl⟩) ?_
          try simp only [Act.put, jA, jB, jC, jD, jE, jF]
          refine tkH 42 (undef) rfl (by kernel_rfl) (fun _ _ _ => False.elim) hHeld (Or.inr ⟨by rfl, by rfl⟩) ?_
          try simp only [Act.put, jA, jB, jC, jD, jE, jF]
          refine tkH 43 (undef) rfl (by kernel_rfl) (fun _ _ _ => False.elim) hHeld (Or.inr ⟨by rfl, by rfl⟩) ?_
          try simp only [Act.put, jA, jB, jC, jD, jE, jF]
          refine tkH 44 (undef) rfl (by kernel_rfl) (fun _ _ _ => False.elim) hHeld (Or.inr ⟨by rfl, by rfl⟩) ?_
          try simp only [Act.put, jA, jB, jC, jD, jE, jF]
          refine tkH 45 (undef) rfl (by kernel_rfl) (fun _ _ _ => False.elim) hHeld (Or.inr ⟨by rfl, by rfl⟩) ?_
          try simp only [Act.put, jA, jB, jC, jD, jE, jF]
          refine tkH 46 (undef) rfl (by kernel_rfl) (fun _ _ _ => False.elim) hHeld (Or.inr ⟨by rfl, by rfl⟩) ?_
          try simp only [Act.put, jA, jB, jC, jD, jE, jF]
          refine tkH 47 (undef) rfl (by kernel_rfl) (fun _ _ _ => False.elim) hHeld (Or.inr ⟨by rfl, by rfl⟩) ?_
          try simp only [Act.put, jA, jB, jC, jD, jE, jF]
          refine tkH 48 (undef) rfl (by kernel_rfl) (fun _ _ _ => False.elim) hHeld (Or.inr ⟨by rfl, by rfl⟩) ?_
          try simp only [Act.put, jA, jB, jC, jD, jE, jF]
          refine tkH 49 (undef) rfl (by kernel_rfl) (fun _ _ _ => False.elim) hHeld (Or.inr ⟨by rfl, by rfl⟩) ?_
          try simp only [Act.put, jA, jB, jC, jD, jE, jF]
          refine tkH 50 (undef) rfl (by kernel_rfl) (fun _ _ _ => False.elim) hHeld (Or.inr ⟨by rfl, by rfl⟩) ?_
          try simp only [Act.put, jA, jB, jC, jD, jE, jF]
          refine tkH 51 (undef) rfl (by kernel_rfl) (fun _ _ _ => False.elim) hHeld (Or.inr ⟨by rfl, by rfl⟩) ?_
          try simp only [Act.put, jA, jB, jC, jD, jE, jF]
          refine tkH 52 (undef) rfl (by kernel_rfl) (fun _ _ _ => False.elim) hHeld (Or.inr ⟨by rfl, by rfl⟩) ?_
          try simp only [Act.put, jA, jB, jC, jD, jE, jF]
          refine tkH 53 (undef) rfl (by kernel_rfl) (fun _ _ _ => False.elim) hHeld (Or.inr ⟨by rfl, by rfl⟩) ?_
          try simp only [Act.put, jA, jB, jC, jD, jE, jF]
          refine tkH 54 (undef) rfl (by kernel_rfl) (fun _ _ _ => False.elim) hHeld (Or.inr ⟨by rfl, by rfl⟩) ?_
          try simp only [Act.put, jA, jB, jC, jD, jE, jF]
          refine tkH 55 (undef) rfl (by kernel_rfl) (fun _ _ _ => False.elim) hHeld (Or.inr ⟨by rfl, by rfl⟩) ?_
          try simp only [Act.put, jA, jB, jC, jD, jE, jF]
          refine tkH 56 (undef) rfl (by kernel_rfl) (fun _ _ _ => False.elim) hHeld (Or.inr ⟨by rfl, by rfl⟩) ?_
          try simp only [Act.put, jA, jB, jC, jD, jE, jF]
          refine tkH 57 (.bool true) rfl (by kernel_rfl) (fun _ _ _ => False.elim) hHeld (Or.inl ⟨by rfl, fun W9 hW => by clear hHeld hW; simp only [jA, jB, jC]; go_simp⟩) ?_
          try simp only [Act.put, jA, jB, jC, jD, jE, jF]
          refine wpAnyH_done (by kernel_rfl) (NoPanic.normal ?_) _
          have HB9 := hid (below_step HB5w.out hHeld.out)
          go_wp2_with fail
          go_ret
          exact ⟨by rw [HRB2.out, allOk_bad (k := k + 1) (by rw [HST.out, HOK.out]; simp) _ (by omega)]; simp, HB9.out⟩
        by_cases g8 : plcI R.sp o.g = (k : Int)
        case neg =>
          have HOK : Hid (okOw R k o = false) := hid (by rw [HOKD.out]; simp [g8])
          have g8b : (plcI R.sp o.g == (k : Int)) = false := by simpa using g8
          refine wp_region_noPanic ?_
          refine wp_region_held_drew (S := fun V => Hid (Below w5.heap.size w5 V)) (by kernel_rfl) (hid (Below.drew (Below.refl _ _))) (fun hHeld => ?_)
          generalize w5.drew = Wd at *
          refine tkH 0 (.pointer (some ⟨g5, 0, none⟩)) rfl (by kernel_rfl) (fun _ _ _ => False.elim) hHeld (Or.inl ⟨by rfl, fun W9 hW => by clear hHeld hW; simp only [jA, jB, jC]; go_simp⟩) ?_
          try simp only [Act.put, jA, jB, jC, jD, jE, jF]
          refine tkH 1 (.int .i64 o.g) rfl (by kernel_rfl) (fun _ _ _ => False.elim) hHeld (Or.inl ⟨by rfl, fun W9 hW => by obtain ⟨p0, p1⟩ := HRo.out _ hW.out; clear hHeld hW; simp only [jA, jB, jC]; go_simp⟩) ?_
          try simp only [Act.put, jA, jB, jC, jD, jE, jF]
          refine tkH 2 (.pointer (some ⟨w.heap.size, 1, none⟩)) rfl (by kernel_rfl) (fun _ _ _ => False.elim) hHeld (Or.inl ⟨by rfl, fun W9 hW => by clear hHeld hW; simp only [jA, jB, jC]; go_simp⟩) ?_
          try simp only [Act.put, jA, jB, jC, jD, jE, jF]
          refine tkH 3 (.int .i64 R.base) rfl (by kernel_rfl) (fun _ _ _ => False.elim) hHeld (Or.inl ⟨by rfl, fun W9 hW => by obtain ⟨q0, q1, q2, q3, q4⟩ := HKR.out _ (HB5.out.trans (hW.out.mono HB5.out.size)); clear hHeld hW; simp only [jA, jB, jC]; go_simp⟩) ?_
          try simp only [Act.put, jA, jB, jC, jD, jE, jF]
          refine tkH 4 (.bool false) rfl (by kernel_rfl) (fun _ _ _ => False.elim) hHeld (Or.inl ⟨by rfl, fun W9 hW => by clear hHeld hW; simp only [jA, jB, jC]; go_simp⟩) ?_
          try simp only [Act.put, jA, jB, jC, jD, jE, jF]
          refine tkH 5 (.bool false) rfl (by kernel_rfl) (fun _ _ _ => False.elim) hHeld (Or.inl ⟨by rfl, fun W9 hW => by clear hHeld hW; simp only [jA, jB, jC]; go_simp⟩) ?_
          try simp only [Act.put, jA, jB, jC, jD, jE, jF]
          refine tkH 6 (.pointer (some ⟨g5, 0, none⟩)) rfl (by kernel_rfl) (fun _ _ _ => False.elim) hHeld (Or.inl ⟨by rfl, fun W9 hW => by clear hHeld hW; simp only [jA, jB, jC]; go_simp⟩) ?_
          try simp only [Act.put, jA, jB, jC, jD, jE, jF]
          refine tkH 7 (.int .i64 o.g) rfl (by kernel_rfl) (fun _ _ _ => False.elim) hHeld (Or.inl ⟨by rfl, fun W9 hW => by obtain ⟨p0, p1⟩ := HRo.out _ hW.out; clear hHeld hW; simp only [jA, jB, jC]; go_simp⟩) ?_
          try simp only [Act.put, jA, jB, jC, jD, jE, jF]
          refine tkH 8 (.pointer (some ⟨w.heap.size, 1, none⟩)) rfl (by kernel_rfl) (fun _ _ _ => False.elim) hHeld (Or.inl ⟨by rfl, fun W9 hW => by clear hHeld hW; simp only [jA, jB, jC]; go_simp⟩) ?_
          try simp only [Act.put, jA, jB, jC, jD, jE, jF]
          refine tkH 9 (.int .i64 R.base) rfl (by kernel_rfl) (fun _ _ _ => False.elim) hHeld (Or.inl ⟨by rfl, fun W9 hW => by obtain ⟨q0, q1, q2, q3, q4⟩ := HKR.out _ (HB5.out.trans (hW.out.mono HB5.out.size)); clear hHeld hW; simp only [jA, jB, jC]; go_simp⟩) ?_
          try simp only [Act.put, jA, jB, jC, jD, jE, jF]
          refine tkH 10 (.int .i64 (R.base + 4)) rfl (by kernel_rfl) (fun _ _ _ => False.elim) hHeld (Or.inl ⟨by rfl, fun W9 hW => by clear hHeld hW; simp only [jA, jB, jC]; go_simp⟩) ?_
          try simp only [Act.put, jA, jB, jC, jD, jE, jF]
          refine tkH 11 (.bool false) rfl (by kernel_rfl) (fun _ _ _ => False.elim) hHeld (Or.inl ⟨by rfl, fun W9 hW => by clear hHeld hW; simp only [jA, jB, jC]; go_simp⟩) ?_
          try simp only [Act.put, jA, jB, jC, jD, jE, jF]
          refine tkH 12 (.bool false) rfl (by kernel_rfl) (fun _ _ _ => False.elim) hHeld (Or.inl ⟨by rfl, fun W9 hW => by clear hHeld hW; simp only [jA, jB, jC]; go_simp⟩) ?_
          try simp only [Act.put, jA, jB, jC, jD, jE, jF]
          refine tkH 13 (.bool false) rfl (by kernel_rfl) (fun _ _ _ => False.elim) hHeld (Or.inl ⟨by rfl, fun W9 hW => by clear hHeld hW; simp only [jA, jB, jC]; go_simp⟩) ?_
          try simp only [Act.put, jA, jB, jC, jD, jE, jF]
          refine tkH 14 (.agg #[.int .i64 R.ep, .int .i64 R.base, .slice (some ⟨b1, of1, none⟩) R.sp.length c, .int .i64 R.mv, .slice b R.cut.length d]) rfl (by kernel_rfl) (fun _ _ _ => False.elim) hHeld (Or.inl ⟨by rfl, fun W9 hW => by obtain ⟨q0, q1, q2, q3, q4⟩ := HKR.out _ (HB5.out.trans (hW.out.mono HB5.out.size)); clear hHeld hW; simp only [jA, jB, jC]; go_simp⟩) ?_
          try simp only [Act.put, jA, jB, jC, jD, jE, jF]
          refine tkH 15 (.pointer (some ⟨g5, 0, none⟩)) rfl (by kernel_rfl) (fun _ _ _ => False.elim) hHeld (Or.inl ⟨by rfl, fun W9 hW => by clear hHeld hW; simp only [jA, jB, jC]; go_simp⟩) ?_
          try simp only [Act.put, jA, jB, jC, jD, jE, jF]
          refine tkH 16 (.int .i64 o.g) rfl (by kernel_rfl) (fun _ _ _ => False.elim) hHeld (Or.inl ⟨by rfl, fun W9 hW => by obtain ⟨p0, p1⟩ := HRo.out _ hW.out; clear hHeld hW; simp only [jA, jB, jC]; go_simp⟩) ?_
          try simp only [Act.put, jA, jB, jC, jD, jE, jF]
          refine tkH 18 (.int .i64 (k : Int)) rfl (by kernel_rfl) (fun _ _ _ => False.elim) hHeld (Or.inl ⟨by rfl, fun W9 hW => by clear hHeld hW; simp only [jA, jB, jC]; go_simp⟩) ?_
          try simp only [Act.put, jA, jB, jC, jD, jE, jF]
          refine rdH 17 (by kernel_rfl) rfl fun K hK => ?_
          rw [if_pos (by rfl)]
          go_simp
          have CQ := hid (at_any (R := R) (b := b) (d := d) (HR.out.old (below_step HB5w.out hHeld.out)) o.g)
          go_wp2_with (first | (go_at_call 118; refine CQ.out.mono ?_; rintro en w6 ⟨rfl, hbE⟩; have HBE := hid (below_step hHeld.out hbE)))
          clear CQ hHeld
          refine hK.out _ _ HBE (fun hHeld => ?_)
          clear hK K HBE
          try simp only [Act.put, jA, jB, jC, jD, jE, jF]
          refine tkH 19 (.bool true) rfl (by kernel_rfl) (fun _ _ _ => False.elim) hHeld (Or.inl ⟨by rfl, fun W9 hW => by clear hHeld hW; simp only [jA, jB, jC]; go_simp⟩) ?_
          try simp only [Act.put, jA, jB, jC, jD, jE, jF]
          refine tkH 20 (.bool true) rfl (by kernel_rfl) (fun _ _ _ => False.elim) hHeld (Or.inl ⟨by rfl, fun W9 hW => by clear hHeld hW; simp only [jA, jB, jC]; go_simp⟩) ?_
          try simp only [Act.put, jA, jB, jC, jD, jE, jF]
          refine tkH 21 (.bool true) rfl (by kernel_rfl) (fun _ _ _ => False.elim) hHeld (Or.inl ⟨by rfl, fun W9 hW => by clear hHeld hW; simp only [jA, jB, jC]; go_simp⟩) ?_
          try simp only [Act.put, jA, jB, jC, jD, jE, jF]
          refine tkH 22 (undef) rfl (by kernel_rfl) (fun _ _ _ => False.elim) hHeld (Or.inr ⟨by rfl, by rfl⟩) ?_
          try simp only [Act.put, jA, jB, jC, jD, jE, jF]
          refine tkH 23 (undef) rfl (by kernel_rfl) (fun _ _ _ => False.elim) hHeld (Or.inr ⟨by rfl, by rfl⟩) ?_
          try simp only [Act.put, jA, jB, jC, jD, jE, jF]
          refine tkH 24 (undef) rfl (by kernel_rfl) (fun _ _ _ => False.elim) hHeld (Or.inr ⟨by rfl, by rfl⟩) ?_
          try simp only [Act.put, jA, jB, jC, jD, jE, jF]
          refine tkH 25 (undef) rfl (by kernel_rfl) (fun _ _ _ => False.elim) hHeld (Or.inr ⟨by rfl, by rfl⟩) ?_
          try simp only [Act.put, jA, jB, jC, jD, jE, jF]
          refine tkH 26 (.bool true) rfl (by kernel_rfl) (fun _ _ _ => False.elim) hHeld (Or.inl ⟨by rfl, fun W9 hW => by clear hHeld hW; simp only [jA, jB, jC]; go_simp⟩) ?_
          try simp only [Act.put, jA, jB, jC, jD, jE, jF]
          refine tkH 27 (.bool true) rfl (by kernel_rfl) (fun _ _ _ => False.elim) hHeld (Or.inl ⟨by rfl, fun W9 hW => by clear hHeld hW; simp only [jA, jB, jC]; go_simp⟩) ?_
          try simp only [Act.put, jA, jB, jC, jD, jE, jF]
          refine tkH 28 (undef) rfl (by kernel_rfl) (fun _ _ _ => False.elim) hHeld (Or.inr ⟨by rfl, by rfl⟩) ?_
          try simp only [Act.put, jA, jB, jC, jD, jE, jF]
          refine tkH 29 (undef) rfl (by kernel_rfl) (fun _ _ _ => False.elim) hHeld (Or.inr ⟨by rfl, by rfl⟩) ?_
          try simp only [Act.put, jA, jB, jC, jD, jE, jF]
          refine tkH 30 (undef) rfl (by kernel_rfl) (fun _ _ _ => False.elim) hHeld (Or.inr ⟨by rfl, by rfl⟩) ?_
          try simp only [Act.put, jA, jB, jC, jD, jE, jF]
          refine tkH 31 (undef) rfl (by kernel_rfl) (fun _ _ _ => False.elim) hHeld (Or.inr ⟨by rfl, by rfl⟩) ?_
          try simp only [Act.put, jA, jB, jC, jD, jE, jF]
          refine tkH 32 (undef) rfl (by kernel_rfl) (fun _ _ _ => False.elim) hHeld (Or.inr ⟨by rfl, by rfl⟩) ?_
          try simp only [Act.put, jA, jB, jC, jD, jE, jF]
          refine tkH 33 (.bool true) rfl (by kernel_rfl) (fun _ _ _ => False.elim) hHeld (Or.inl ⟨by rfl, fun W9 hW => by clear hHeld hW; simp only [jA, jB, jC]; go_simp⟩) ?_
          try simp only [Act.put, jA, jB, jC, jD, jE, jF]
          refine tkH 34 (.bool true) rfl (by kernel_rfl) (fun _ _ _ => False.elim) hHeld (Or.inl ⟨by rfl, fun W9 hW => by clear hHeld hW; simp only [jA, jB, jC]; go_simp⟩) ?_
          try simp only [Act.put, jA, jB, jC, jD, jE, jF]
          refine tkH 35 (undef) rfl (by kernel_rfl) (fun _ _ _ => False.elim) hHeld (Or.inr ⟨by rfl, by rfl⟩) ?_
          try simp only [Act.put, jA, jB, jC, jD, jE, jF]
          refine tkH 36 (undef) rfl (by kernel_rfl) (fun _ _ _ => False.elim) hHeld (Or.inr ⟨by rfl, by rfl⟩) ?_
          try simp only [Act.put, jA, jB, jC, jD, jE, jF]
          refine tkH 37 (undef) rfl (by kernel_rfl) (fun _ _ _ => False.elim) hHeld (Or.inr ⟨by rfl, by rfl⟩) ?_
          try simp only [Act.put, jA, jB, jC, jD, jE, jF]
          refine tkH 38 (undef) rfl (by kernel_rfl) (fun _ _ _ => False.elim) hHeld (Or.inr ⟨by rfl, by rfl⟩) ?_
          try simp only [Act.put, jA, jB, jC, jD, jE, jF]
          refine tkH 39 (.bool true) rfl (by kernel_rfl) (fun _ _ _ => False.elim) hHeld (Or.inl ⟨by rfl, fun W9 hW => by clear hHeld hW; simp only [jA, jB, jC]; go_simp⟩) ?_
          try simp only [Act.put, jA, jB, jC, jD, jE, jF]
          refine tkH 40 (.bool true) rfl (by kernel_rfl) (fun _ _ _ => False.elim) hHeld (Or.inl ⟨by rfl, fun W9 hW => by clear hHeld hW; simp only [jA, jB, jC]; go_simp⟩) ?_
          try simp only [Act.put, jA, jB, jC, jD, jE, jF]
          refine tkH 41 (undef) rfl (by kernel_rfl) (fun _ _ _ => False.elim) hHeld (Or.inr ⟨by rfl, by rfl⟩) ?_
          try simp only [Act.put, jA, jB, jC, jD, jE, jF]
          refine tkH 42 (undef) rfl (by kernel_rfl) (fun _ _ _ => False.elim) hHeld (Or.inr ⟨by rfl, by rfl⟩) ?_
          try simp only [Act.put, jA, jB, jC, jD, jE, jF]
          refine tkH 43 (undef) rfl (by kernel_rfl) (fun _ _ _ => False.elim) hHeld (Or.inr ⟨by rfl, by rfl⟩) ?_
          try simp only [Act.put, jA, jB, jC, jD, jE, jF]
          refine tkH 44 (undef) rfl (by kernel_rfl) (fun _ _ _ => False.elim) hHeld (Or.inr ⟨by rfl, by rfl⟩) ?_
          try simp only [Act.put, jA, jB, jC, jD, jE, jF]
          refine tkH 45 (undef) rfl (by kernel_rfl) (fun _ _ _ => False.elim) hHeld (Or.inr ⟨by rfl, by rfl⟩) ?_
          try simp only [Act.put, jA, jB, jC, jD, jE, jF]
          refine tkH 46 (undef) rfl (by kernel_rfl) (fun _ _ _ => False.elim) hHeld (Or.inr ⟨by rfl, by rfl⟩) ?_
          try simp only [Act.put, jA, jB, jC, jD, jE, jF]
          refine tkH 47 (undef) rfl (by kernel_rfl) (fun _ _ _ => False.elim) hHeld (Or.inr ⟨by rfl, by rfl⟩) ?_
          try simp only [Act.put, jA, jB, jC, jD, jE, jF]
          refine tkH 48 (undef) rfl (by kernel_rfl) (fun _ _ _ => False.elim) hHeld (Or.inr ⟨by rfl, by rfl⟩) ?_
          try simp only [Act.put, jA, jB, jC, jD, jE, jF]
          refine tkH 49 (undef) rfl (by kernel_rfl) (fun _ _ _ => False.elim) hHeld (Or.inr ⟨by rfl, by rfl⟩) ?_
          try simp only [Act.put, jA, jB, jC, jD, jE, jF]
          refine tkH 50 (undef) rfl (by kernel_rfl) (fun _ _ _ => False.elim) hHeld (Or.inr ⟨by rfl, by rfl⟩) ?_
          try simp only [Act.put, jA, jB, jC, jD, jE, jF]
          refine tkH 51 (undef) rfl (by kernel_rfl) (fun _ _ _ => False.elim) hHeld (Or.inr ⟨by rfl, by rfl⟩) ?_
          try simp only [Act.put, jA, jB, jC, jD, jE, jF]
          refine tkH 52 (undef) rfl (by kernel_rfl) (fun _ _ _ => False.elim) hHeld (Or.inr ⟨by rfl, by rfl⟩) ?_
          try simp only [Act.put, jA, jB, jC, jD, jE, jF]
          refine tkH 53 (undef) rfl (by kernel_rfl) (fun _ _ _ => False.elim) hHeld (Or.inr ⟨by rfl, by rfl⟩) ?_
          try simp only [Act.put, jA, jB, jC, jD, jE, jF]
          refine tkH 54 (undef) rfl (by kernel_rfl) (fun _ _ _ => False.elim) hHeld (Or.inr ⟨by rfl, by rfl⟩) ?_
          try simp only [Act.put, jA, jB, jC, jD, jE, jF]
          refine tkH 55 (undef) rfl (by kernel_rfl) (fun _ _ _ => False.elim) hHeld (Or.inr ⟨by rfl, by rfl⟩) ?_
          try simp only [Act.put, jA, jB, jC, jD, jE, jF]
          refine tkH 56 (undef) rfl (by kernel_rfl) (fun _ _ _ => False.elim) hHeld (Or.inr ⟨by rfl, by rfl⟩) ?_
          try simp only [Act.put, jA, jB, jC, jD, jE, jF]
          refine tkH 57 (.bool true) rfl (by kernel_rfl) (fun _ _ _ => False.elim) hHeld (Or.inl ⟨by rfl, fun W9 hW => by clear hHeld hW; simp only [jA, jB, jC]; go_simp⟩) ?_
          try simp only [Act.put, jA, jB, jC, jD, jE, jF]
          refine wpAnyH_done (by kernel_rfl) (NoPanic.normal ?_) _
          have HB9 := hid (below_step HB5w.out hHeld.out)
          go_wp2_with fail
          go_ret
          exact ⟨by rw [HRB2.out, allOk_bad (k := k + 1) (by rw [HST.out, HOK.out]; simp) _ (by omega)]; simp, HB9.out⟩
        by_cases g9 : o.f.length < 1
        · have HOK : Hid (okOw R k o = false) := hid (by rw [HOKD.out]; simp [g9])
          have gi9 : ((o.f.length : Nat) : Int) < 1 := by omega
          refine wp_region_noPanic ?_
          refine wp_region_held_drew (S := fun V => Hid (Below w5.heap.size w5 V)) (by kernel_rfl) (hid (Below.drew (Below.refl _ _))) (fun hHeld => ?_)
          generalize w5.drew = Wd at *
          refine tkH 0 (.pointer (some ⟨g5, 0, none⟩)) rfl (by kernel_rfl) (fun _ _ _ => False.elim) hHeld (Or.inl ⟨by rfl, fun W9 hW => by clear hHeld hW; simp only [jA, jB, jC]; go_simp⟩) ?_
          try simp only [Act.put, jA, jB, jC, jD, jE, jF]
          refine tkH 1 (.int .i64 o.g) rfl (by kernel_rfl) (fun _ _ _ => False.elim) hHeld (Or.inl ⟨by rfl, fun W9 hW => by obtain ⟨p0, p1⟩ := HRo.out _ hW.out; clear hHeld hW; simp only [jA, jB, jC]; go_simp⟩) ?_
          try simp only [Act.put, jA, jB, jC, jD, jE, jF]
          refine tkH 2 (.pointer (some ⟨w.heap.size, 1, none⟩)) rfl (by kernel_rfl) (fun _ _ _ => False.elim) hHeld (Or.inl ⟨by rfl, fun W9 hW => by clear hHeld hW; simp only [jA, jB, jC]; go_simp⟩) ?_
          try simp only [Act.put, jA, jB, jC, jD, jE, jF]
          refine tkH 3 (.int .i64 R.base) rfl (by kernel_rfl) (fun _ _ _ => False.elim) hHeld (Or.inl ⟨by rfl, fun W9 hW => by obtain ⟨q0, q1, q2, q3, q4⟩ := HKR.out _ (HB5.out.trans (hW.out.mono HB5.out.size)); clear hHeld hW; simp only [jA, jB, jC]; go_simp⟩) ?_
          try simp only [Act.put, jA, jB, jC, jD, jE, jF]
          refine tkH 4 (.bool false) rfl (by kernel_rfl) (fun _ _ _ => False.elim) hHeld (Or.inl ⟨by rfl, fun W9 hW => by clear hHeld hW; simp only [jA, jB, jC]; go_simp⟩) ?_
          try simp only [Act.put, jA, jB, jC, jD, jE, jF]
          refine tkH 5 (.bool false) rfl (by kernel_rfl) (fun _ _ _ => False.elim) hHeld (Or.inl ⟨by rfl, fun W9 hW => by clear hHeld hW; simp only [jA, jB, jC]; go_simp⟩) ?_
          try simp only [Act.put, jA, jB, jC, jD, jE, jF]
          refine tkH 6 (.pointer (some ⟨g5, 0, none⟩)) rfl (by kernel_rfl) (fun _ _ _ => False.elim) hHeld (Or.inl ⟨by rfl, fun W9 hW => by clear hHeld hW; simp only [jA, jB, jC]; go_simp⟩) ?_
          try simp only [Act.put, jA, jB, jC, jD, jE, jF]
          refine tkH 7 (.int .i64 o.g) rfl (by kernel_rfl) (fun _ _ _ => False.elim) hHeld (Or.inl ⟨by rfl, fun W9 hW => by obtain ⟨p0, p1⟩ := HRo.out _ hW.out; clear hHeld hW; simp only [jA, jB, jC]; go_simp⟩) ?_
          try simp only [Act.put, jA, jB, jC, jD, jE, jF]
          refine tkH 8 (.pointer (some ⟨w.heap.size, 1, none⟩)) rfl (by kernel_rfl) (fun _ _ _ => False.elim) hHeld (Or.inl ⟨by rfl, fun W9 hW => by clear hHeld hW; simp only [jA, jB, jC]; go_simp⟩) ?_
          try simp only [Act.put, jA, jB, jC, jD, jE, jF]
          refine tkH 9 (.int .i64 R.base) rfl (by kernel_rfl) (fun _ _ _ => False.elim) hHeld (Or.inl ⟨by rfl, fun W9 hW => by obtain ⟨q0, q1, q2, q3, q4⟩ := HKR.out _ (HB5.out.trans (hW.out.mono HB5.out.size)); clear hHeld hW; simp only [jA, jB, jC]; go_simp⟩) ?_
          try simp only [Act.put, jA, jB, jC, jD, jE, jF]
          refine tkH 10 (.int .i64 (R.base + 4)) rfl (by kernel_rfl) (fun _ _ _ => False.elim) hHeld (Or.inl ⟨by rfl, fun W9 hW => by clear hHeld hW; simp only [jA, jB, jC]; go_simp⟩) ?_
          try simp only [Act.put, jA, jB, jC, jD, jE, jF]
          refine tkH 11 (.bool false) rfl (by kernel_rfl) (fun _ _ _ => False.elim) hHeld (Or.inl ⟨by rfl, fun W9 hW => by clear hHeld hW; simp only [jA, jB, jC]; go_simp⟩) ?_
          try simp only [Act.put, jA, jB, jC, jD, jE, jF]
          refine tkH 12 (.bool false) rfl (by kernel_rfl) (fun _ _ _ => False.elim) hHeld (Or.inl ⟨by rfl, fun W9 hW => by clear hHeld hW; simp only [jA, jB, jC]; go_simp⟩) ?_
          try simp only [Act.put, jA, jB, jC, jD, jE, jF]
          refine tkH 13 (.bool false) rfl (by kernel_rfl) (fun _ _ _ => False.elim) hHeld (Or.inl ⟨by rfl, fun W9 hW => by clear hHeld hW; simp only [jA, jB, jC]; go_simp⟩) ?_
          try simp only [Act.put, jA, jB, jC, jD, jE, jF]
          refine tkH 14 (.agg #[.int .i64 R.ep, .int .i64 R.base, .slice (some ⟨b1, of1, none⟩) R.sp.length c, .int .i64 R.mv, .slice b R.cut.length d]) rfl (by kernel_rfl) (fun _ _ _ => False.elim) hHeld (Or.inl ⟨by rfl, fun W9 hW => by obtain ⟨q0, q1, q2, q3, q4⟩ := HKR.out _ (HB5.out.trans (hW.out.mono HB5.out.size)); clear hHeld hW; simp only [jA, jB, jC]; go_simp⟩) ?_
          try simp only [Act.put, jA, jB, jC, jD, jE, jF]
          refine tkH 15 (.pointer (some ⟨g5, 0, none⟩)) rfl (by kernel_rfl) (fun _ _ _ => False.elim) hHeld (Or.inl ⟨by rfl, fun W9 hW => by clear hHeld hW; simp only [jA, jB, jC]; go_simp⟩) ?_
          try simp only [Act.put, jA, jB, jC, jD, jE, jF]
          refine tkH 16 (.int .i64 o.g) rfl (by kernel_rfl) (fun _ _ _ => False.elim) hHeld (Or.inl ⟨by rfl, fun W9 hW => by obtain ⟨p0, p1⟩ := HRo.out _ hW.out; clear hHeld hW; simp only [jA, jB, jC]; go_simp⟩) ?_
          try simp only [Act.put, jA, jB, jC, jD, jE, jF]
          refine tkH 18 (.int .i64 (k : Int)) rfl (by kernel_rfl) (fun _ _ _ => False.elim) hHeld (Or.inl ⟨by rfl, fun W9 hW => by clear hHeld hW; simp only [jA, jB, jC]; go_simp⟩) ?_
          try simp only [Act.put, jA, jB, jC, jD, jE, jF]
          refine rdH 17 (by kernel_rfl) rfl fun K hK => ?_
          rw [if_pos (by rfl)]
          go_simp
          have CQ := hid (at_any (R := R) (b := b) (d := d) (HR.out.old (below_step HB5w.out hHeld.out)) o.g)
          go_wp2_with (first | (go_at_call 118; refine CQ.out.mono ?_; rintro en w6 ⟨rfl, hbE⟩; have HBE := hid (below_step hHeld.out hbE)))
          clear CQ hHeld
          refine hK.out _ _ HBE (fun hHeld => ?_)
          clear hK K HBE
          try simp only [Act.put, jA, jB, jC, jD, jE, jF]
          refine tkH 19 (.bool false) rfl (by kernel_rfl) (fun _ _ _ => False.elim) hHeld (Or.inl ⟨by rfl, fun W9 hW => by clear hHeld hW; simp only [jA, jB, jC]; go_simp⟩) ?_
          try simp only [Act.put, jA, jB, jC, jD, jE, jF]
          refine tkH 20 (.bool false) rfl (by kernel_rfl) (fun _ _ _ => False.elim) hHeld (Or.inl ⟨by rfl, fun W9 hW => by clear hHeld hW; simp only [jA, jB, jC]; go_simp⟩) ?_
          try simp only [Act.put, jA, jB, jC, jD, jE, jF]
          refine tkH 21 (.bool false) rfl (by kernel_rfl) (fun _ _ _ => False.elim) hHeld (Or.inl ⟨by rfl, fun W9 hW => by clear hHeld hW; simp only [jA, jB, jC]; go_simp⟩) ?_
          try simp only [Act.put, jA, jB, jC, jD, jE, jF]
          refine tkH 22 (.pointer (some ⟨g5, 1, none⟩)) rfl (by kernel_rfl) (fun _ _ _ => False.elim) hHeld (Or.inl ⟨by rfl, fun W9 hW => by clear hHeld hW; simp only [jA, jB, jC]; go_simp⟩) ?_
          try simp only [Act.put, jA, jB, jC, jD, jE, jF]
          refine tkH 23 (.slice x5 o.f.length d5) rfl (by kernel_rfl) (fun _ _ _ => False.elim) hHeld (Or.inl ⟨by rfl, fun W9 hW => by obtain ⟨p0, p1⟩ := HRo.out _ hW.out; clear hHeld hW; simp only [jA, jB, jC]; go_simp⟩) ?_
          try simp only [Act.put, jA, jB, jC, jD, jE, jF]
          refine tkH 24 (.int .i64 (o.f.length : Int)) rfl (by kernel_rfl) (fun _ _ _ => False.elim) hHeld (Or.inl ⟨by rfl, fun W9 hW => by clear hHeld hW; simp only [jA, jB, jC]; go_simp⟩) ?_
          try simp only [Act.put, jA, jB, jC, jD, jE, jF]
          refine tkH 25 (.bool true) rfl (by kernel_rfl) (fun _ _ _ => False.elim) hHeld (Or.inl ⟨by rfl, fun W9 hW => by clear hHeld hW; simp only [jA, jB, jC]; go_simp⟩) ?_
          try simp only [Act.put, jA, jB, jC, jD, jE, jF]
          refine tkH 26 (.bool true) rfl (by kernel_rfl) (fun _ _ _ => False.elim) hHeld (Or.inl ⟨by rfl, fun W9 hW => by clear hHeld hW; simp only [jA, jB, jC]; go_simp⟩) ?_
          try simp only [Act.put, jA, jB, jC, jD, jE, jF]
          refine tkH 27 (.bool true) rfl (by kernel_rfl) (fun _ _ _ => False.elim) hHeld (Or.inl ⟨by rfl, fun W9 hW => by clear hHeld hW; simp only [jA, jB, jC]; go_simp⟩) ?_
          try simp only [Act.put, jA, jB, jC, jD, jE, jF]
          refine tkH 28 (undef) rfl (by kernel_rfl) (fun _ _ _ => False.elim) hHeld (Or.inr ⟨by rfl, by rfl⟩) ?_
          try simp only [Act.put, jA, jB, jC, jD, jE, jF]
          refine tkH 29 (undef) rfl (by kernel_rfl) (fun _ _ _ => False.elim) hHeld (Or.inr ⟨by rfl, by rfl⟩) ?_
          try simp only [Act.put, jA, jB, jC, jD, jE, jF]
          refine tkH 30 (undef) rfl (by kernel_rfl) (fun _ _ _ => False.elim) hHeld (Or.inr ⟨by rfl, by rfl⟩) ?_
          try simp only [Act.put, jA, jB, jC, jD, jE, jF]
          refine tkH 31 (undef) rfl (by kernel_rfl) (fun _ _ _ => False.elim) hHeld (Or.inr ⟨by rfl, by rfl⟩) ?_
          try simp only [Act.put, jA, jB, jC, jD, jE, jF]
          refine tkH 32 (undef) rfl (by kernel_rfl) (fun _ _ _ => False.elim) hHeld (Or.inr ⟨by rfl, by rfl⟩) ?_
          try simp only [Act.put, jA, jB, jC, jD, jE, jF]
          refine tkH 33 (.bool true) rfl (by kernel_rfl) (fun _ _ _ => False.elim) hHeld (Or.inl ⟨by rfl, fun W9 hW => by clear hHeld hW; simp only [jA, jB, jC]; go_simp⟩) ?_
          try simp only [Act.put, jA, jB, jC, jD, jE, jF]
          refine tkH 34 (.bool true) rfl (by kernel_rfl) (fun _ _ _ => False.elim) hHeld (Or.inl ⟨by rfl, fun W9 hW => by clear hHeld hW; simp only [jA, jB, jC]; go_simp⟩) ?_
          try simp only [Act.put, jA, jB, jC, jD, jE, jF]
          refine tkH 35 (undef) rfl (by kernel_rfl) (fun _ _ _ => False.elim) hHeld (Or.inr ⟨by rfl, by rfl⟩) ?_
          try simp only [Act.put, jA, jB, jC, jD, jE, jF]
          refine tkH 36 (undef) rfl (by kernel_rfl) (fun _ _ _ => False.elim) hHeld (Or.inr ⟨by rfl, by rfl⟩) ?_
          try simp only [Act.put, jA, jB, jC, jD, jE, jF]
          refine tkH 37 (undef) rfl (by kernel_rfl) (fun _ _ _ => False.elim) hHeld (Or.inr ⟨by rfl, by rfl⟩) ?_
          try simp only [Act.put, jA, jB, jC, jD, jE, jF]
          refine tkH 38 (undef) rfl (by kernel_rfl) (fun _ _ _ => False.elim) hHeld (Or.inr ⟨by rfl, by rfl⟩) ?_
          try simp only [Act.put, jA, jB, jC, jD, jE, jF]
          refine tkH 39 (.bool true) rfl (by kernel_rfl) (fun _ _ _ => False.elim) hHeld (Or.inl ⟨by rfl, fun W9 hW => by clear hHeld hW; simp only [jA, jB, jC]; go_simp⟩) ?_
          try simp only [Act.put, jA, jB, jC, jD, jE, jF]
          refine tkH 40 (.bool true) rfl (by kernel_rfl) (fun _ _ _ => False.elim) hHeld (Or.inl ⟨by rfl, fun W9 hW => by clear hHeld hW; simp only [jA, jB, jC]; go_simp⟩) ?_
          try simp only [Act.put, jA, jB, jC, jD, jE, jF]
          refine tkH 41 (undef) rfl (by kernel_rfl) (fun _ _ _ => False.elim) hHeld (Or.inr ⟨by rfl, by rfl⟩) ?_
          try simp only [Act.put, jA, jB, jC, jD, jE, jF]
          refine tkH 42 (undef) rfl (by kernel_rfl) (fun _ _ _ => False.elim) hHeld (Or.inr ⟨by rfl, by rfl⟩) ?_
          try simp only [Act.put, jA, jB, jC, jD, jE, jF]
          refine tkH 43 (undef) rfl (by kernel_rfl) (fun _ _ _ => False.elim) hHeld (Or.inr ⟨by rfl, by rfl⟩) ?_
          try simp only [Act.put, jA, jB, jC, jD, jE, jF]
          refine tkH 44 (undef) rfl (by kernel_rfl) (fun _ _ _ => False.elim) hHeld (Or.inr ⟨by rfl, by rfl⟩) ?_
          try simp only [Act.put, jA, jB, jC, jD, jE, jF]
          refine tkH 45 (undef) rfl (by kernel_rfl) (fun _ _ _ => False.elim) hHeld (Or.inr ⟨by rfl, by rfl⟩) ?_
          try simp only [Act.put, jA, jB, jC, jD, jE, jF]
          refine tkH 46 (undef) rfl (by kernel_rfl) (fun _ _ _ => False.elim) hHeld (Or.inr ⟨by rfl, by rfl⟩) ?_
          try simp only [Act.put, jA, jB, jC, jD, jE, jF]
          refine tkH 47 (undef) rfl (by kernel_rfl) (fun _ _ _ => False.elim) hHeld (Or.inr ⟨by rfl, by rfl⟩) ?_
          try simp only [Act.put, jA, jB, jC, jD, jE, jF]
          refine tkH 48 (undef) rfl (by kernel_rfl) (fun _ _ _ => False.elim) hHeld (Or.inr ⟨by rfl, by rfl⟩) ?_
          try simp only [Act.put, jA, jB, jC, jD, jE, jF]
          refine tkH 49 (undef) rfl (by kernel_rfl) (fun _ _ _ => False.elim) hHeld (Or.inr ⟨by rfl, by rfl⟩) ?_
          try simp only [Act.put, jA, jB, jC, jD, jE, jF]
          refine tkH 50 (undef) rfl (by kernel_rfl) (fun _ _ _ => False.elim) hHeld (Or.inr ⟨by rfl, by rfl⟩) ?_
          try simp only [Act.put, jA, jB, jC, jD, jE, jF]
          refine tkH 51 (undef) rfl (by kernel_rfl) (fun _ _ _ => False.elim) hHeld (Or.inr ⟨by rfl, by rfl⟩) ?_
          try simp only [Act.put, jA, jB, jC, jD, jE, jF]
          refine tkH 52 (undef) rfl (by kernel_rfl) (fun _ _ _ => False.elim) hHeld (Or.inr ⟨by rfl, by rfl⟩) ?_
          try simp only [Act.put, jA, jB, jC, jD, jE, jF]
          refine tkH 53 (undef) rfl (by kernel_rfl) (fun _ _ _ => False.elim) hHeld (Or.inr ⟨by rfl, by rfl⟩) ?_
          try simp only [Act.put, jA, jB, jC, jD, jE, jF]
          refine tkH 54 (undef) rfl (by kernel_rfl) (fun _ _ _ => False.elim) hHeld (Or.inr ⟨by rfl, by rfl⟩) ?_
          try simp only [Act.put, jA, jB, jC, jD, jE, jF]
          refine tkH 55 (undef) rfl (by kernel_rfl) (fun _ _ _ => False.elim) hHeld (Or.inr ⟨by rfl, by rfl⟩) ?_
          try simp only [Act.put, jA, jB, jC, jD, jE, jF]
          refine tkH 56 (undef) rfl (by kernel_rfl) (fun _ _ _ => False.elim) hHeld (Or.inr ⟨by rfl, by rfl⟩) ?_
          try simp only [Act.put, jA, jB, jC, jD, jE, jF]
          refine tkH 57 (.bool true) rfl (by kernel_rfl) (fun _ _ _ => False.elim) hHeld (Or.inl ⟨by rfl, fun W9 hW => by clear hHeld hW; simp only [jA, jB, jC]; go_simp⟩) ?_
          try simp only [Act.put, jA, jB, jC, jD, jE, jF]
          refine wpAnyH_done (by kernel_rfl) (NoPanic.normal ?_) _
          have HB9 := hid (below_step HB5w.out hHeld.out)
          go_wp2_with fail
          go_ret
          exact ⟨by rw [HRB2.out, allOk_bad (k := k + 1) (by rw [HST.out, HOK.out]; simp) _ (by omega)]; simp, HB9.out⟩
        have gi9 : ¬ ((o.f.length : Nat) : Int) < 1 := by omega
        have hpos : 0 < o.f.length := by omega
        have hpi : (0 : Int) < ((o.f.length : Nat) : Int) := by omega
        obtain ⟨b7, of7, d7, e7, -, -, hz7⟩ := HRD.out.at hpos
        cases e7
        obtain ⟨z7, hz70⟩ : ∃ z7, o.f[0] = z7 := ⟨_, rfl⟩
        have hzz := hz7 0 hpos
        rw [hz70] at hzz
        have hbeg : begB o.f 120 = ((z7.toNat : Int) == 120) := by
          cases hf : o.f with
          | nil => rw [hf] at hpos; simp at hpos
          | cons q l => rw [← hz70]; simp only [hf, begB, List.getElem_cons_zero]
        simp only [Nat.add_zero] at hzz
        have HZ7 := hid hzz
        clear hz7 hz70 hzz
        by_cases g10 : (z7.toNat : Int) = 120
        case neg =>
          have g10b : ((z7.toNat : Int) == 120) = false := by simpa using g10
          have HOK : Hid (okOw R k o = false) := hid (by rw [HOKD.out, hbeg, g10b]; simp)
          refine wp_region_noPanic ?_
          refine wp_region_held_drew (S := fun V => Hid (Below w5.heap.size w5 V)) (by kernel_rfl) (hid (Below.drew (Below.refl _ _))) (fun hHeld => ?_)
          generalize w5.drew = Wd at *
          refine tkH 0 (.pointer (some ⟨g5, 0, none⟩)) rfl (by kernel_rfl) (fun _ _ _ => False.elim) hHeld (Or.inl ⟨by rfl, fun W9 hW => by clear hHeld hW; simp only [jA, jB, jC]; go_simp⟩) ?_
          try simp only [Act.put, jA, jB, jC, jD, jE, jF]
          refine tkH 1 (.int .i64 o.g) rfl (by kernel_rfl) (fun _ _ _ => False.elim) hHeld (Or.inl ⟨by rfl, fun W9 hW => by obtain ⟨p0, p1⟩ := HRo.out _ hW.out; clear hHeld hW; simp only [jA, jB, jC]; go_simp⟩) ?_
          try simp only [Act.put, jA, jB, jC, jD, jE, jF]
          refine tkH 2 (.pointer (some ⟨w.heap.size, 1, none⟩)) rfl (by kernel_rfl) (fun _ _ _ => False.elim) hHeld (Or.inl ⟨by rfl, fun W9 hW => by clear hHeld hW; simp only [jA, jB, jC]; go_simp⟩) ?_
          try simp only [Act.put, jA, jB, jC, jD, jE, jF]
          refine tkH 3 (.int .i64 R.base) rfl (by kernel_rfl) (fun _ _ _ => False.elim) hHeld (Or.inl ⟨by rfl, fun W9 hW => by obtain ⟨q0, q1, q2, q3, q4⟩ := HKR.out _ (HB5.out.trans (hW.out.mono HB5.out.size)); clear hHeld hW; simp only [jA, jB, jC]; go_simp⟩) ?_
          try simp only [Act.put, jA, jB, jC, jD, jE, jF]
          refine tkH 4 (.bool false) rfl (by kernel_rfl) (fun _ _ _ => False.elim) hHeld (Or.inl ⟨by rfl, fun W9 hW => by clear hHeld hW; simp only [jA, jB, jC]; go_simp⟩) ?_
          try simp only [Act.put, jA, jB, jC, jD, jE, jF]
          refine tkH 5 (.bool false) rfl (by kernel_rfl) (fun _ _ _ => False.elim) hHeld (Or.inl ⟨by rfl, fun W9 hW => by clear hHeld hW; simp only [jA, jB, jC]; go_simp⟩) ?_
          try simp only [Act.put, jA, jB, jC, jD, jE, jF]
          refine tkH 6 (.pointer (some ⟨g5, 0, none⟩)) rfl (by kernel_rfl) (fun _ _ _ => False.elim) hHeld (Or.inl ⟨by rfl, fun W9 hW => by clear hHeld hW; simp only [jA, jB, jC]; go_simp⟩) ?_
          try simp only [Act.put, jA, jB, jC, jD, jE, jF]
          refine tkH 7 (.int .i64 o.g) rfl (by kernel_rfl) (fun _ _ _ => False.elim) hHeld (Or.inl ⟨by rfl, fun W9 hW => by obtain ⟨p0, p1⟩ := HRo.out _ hW.out; clear hHeld hW; simp only [jA, jB, jC]; go_simp⟩) ?_
          try simp only [Act.put, jA, jB, jC, jD, jE, jF]
          refine tkH 8 (.pointer (some ⟨w.heap.size, 1, none⟩)) rfl (by kernel_rfl) (fun _ _ _ => False.elim) hHeld (Or.inl ⟨by rfl, fun W9 hW => by clear hHeld hW; simp only [jA, jB, jC]; go_simp⟩) ?_
          try simp only [Act.put, jA, jB, jC, jD, jE, jF]
          refine tkH 9 (.int .i64 R.base) rfl (by kernel_rfl) (fun _ _ _ => False.elim) hHeld (Or.inl ⟨by rfl, fun W9 hW => by obtain ⟨q0, q1, q2, q3, q4⟩ := HKR.out _ (HB5.out.trans (hW.out.mono HB5.out.size)); clear hHeld hW; simp only [jA, jB, jC]; go_simp⟩) ?_
          try simp only [Act.put, jA, jB, jC, jD, jE, jF]
          refine tkH 10 (.int .i64 (R.base + 4)) rfl (by kernel_rfl) (fun _ _ _ => False.elim) hHeld (Or.inl ⟨by rfl, fun W9 hW => by clear hHeld hW; simp only [jA, jB, jC]; go_simp⟩) ?_
          try simp only [Act.put, jA, jB, jC, jD, jE, jF]
          refine tkH 11 (.bool false) rfl (by kernel_rfl) (fun _ _ _ => False.elim) hHeld (Or.inl ⟨by rfl, fun W9 hW => by clear hHeld hW; simp only [jA, jB, jC]; go_simp⟩) ?_
          try simp only [Act.put, jA, jB, jC, jD, jE, jF]
          refine tkH 12 (.bool false) rfl (by kernel_rfl) (fun _ _ _ => False.elim) hHeld (Or.inl ⟨by rfl, fun W9 hW => by clear hHeld hW; simp only [jA, jB, jC]; go_simp⟩) ?_
          try simp only [Act.put, jA, jB, jC, jD, jE, jF]
          refine tkH 13 (.bool false) rfl (by kernel_rfl) (fun _ _ _ => False.elim) hHeld (Or.inl ⟨by rfl, fun W9 hW => by clear hHeld hW; simp only [jA, jB, jC]; go_simp⟩) ?_
          try simp only [Act.put, jA, jB, jC, jD, jE, jF]
          refine tkH 14 (.agg #[.int .i64 R.ep, .int .i64 R.base, .slice (some ⟨b1, of1, none⟩) R.sp.length c, .int .i64 R.mv, .slice b R.cut.length d]) rfl (by kernel_rfl) (fun _ _ _ => False.elim) hHeld (Or.inl ⟨by rfl, fun W9 hW => by obtain ⟨q0, q1, q2, q3, q4⟩ := HKR.out _ (HB5.out.trans (hW.out.mono HB5.out.size)); clear hHeld hW; simp only [jA, jB, jC]; go_simp⟩) ?_
          try simp only [Act.put, jA, jB, jC, jD, jE, jF]
          refine tkH 15 (.pointer (some ⟨g5, 0, none⟩)) rfl (by kernel_rfl) (fun _ _ _ => False.elim) hHeld (Or.inl ⟨by rfl, fun W9 hW => by clear hHeld hW; simp only [jA, jB, jC]; go_simp⟩) ?_
          try simp only [Act.put, jA, jB, jC, jD, jE, jF]
          refine tkH 16 (.int .i64 o.g) rfl (by kernel_rfl) (fun _ _ _ => False.elim) hHeld (Or.inl ⟨by rfl, fun W9 hW => by obtain ⟨p0, p1⟩ := HRo.out _ hW.out; clear hHeld hW; simp only [jA, jB, jC]; go_simp⟩) ?_
          try simp only [Act.put, jA, jB, jC, jD, jE, jF]
          refine tkH 18 (.int .i64 (k : Int)) rfl (by kernel_rfl) (fun _ _ _ => False.elim) hHeld (Or.inl ⟨by rfl, fun W9 hW => by clear hHeld hW; simp only [jA, jB, jC]; go_simp⟩) ?_
          try simp only [Act.put, jA, jB, jC, jD, jE, jF]
          refine rdH 17 (by kernel_rfl) rfl fun K hK => ?_
          rw [if_pos (by rfl)]
          go_simp
          have CQ := hid (at_any (R := R) (b := b) (d := d) (HR.out.old (below_step HB5w.out hHeld.out)) o.g)
          go_wp2_with (first | (go_at_call 118; refine CQ.out.mono ?_; rintro en w6 ⟨rfl, hbE⟩; have HBE := hid (below_step hHeld.out hbE)))
          clear CQ hHeld
          refine hK.out _ _ HBE (fun hHeld => ?_)
          clear hK K HBE
          try simp only [Act.put, jA, jB, jC, jD, jE, jF]
          refine tkH 19 (.bool false) rfl (by kernel_rfl) (fun _ _ _ => False.elim) hHeld (Or.inl ⟨by rfl, fun W9 hW => by clear hHeld hW; simp only [jA, jB, jC]; go_simp⟩) ?_
          try simp only [Act.put, jA, jB, jC, jD, jE, jF]
          refine tkH 20 (.bool false) rfl (by kernel_rfl) (fun _ _ _ => False.elim) hHeld (Or.inl ⟨by rfl, fun W9 hW => by clear hHeld hW; simp only [jA, jB, jC]; go_simp⟩) ?_
          try simp only [Act.put, jA, jB, jC, jD, jE, jF]
          refine tkH 21 (.bool false) rfl (by kernel_rfl) (fun _ _ _ => False.elim) hHeld (Or.inl ⟨by rfl, fun W9 hW => by clear hHeld hW; simp only [jA, jB, jC]; go_simp⟩) ?_
          try simp only [Act.put, jA, jB, jC, jD, jE, jF]
          refine tkH 22 (.pointer (some ⟨g5, 1, none⟩)) rfl (by kernel_rfl) (fun _ _ _ => False.elim) hHeld (Or.inl ⟨by rfl, fun W9 hW => by clear hHeld hW; simp only [jA, jB, jC]; go_simp⟩) ?_
          try simp only [Act.put, jA, jB, jC, jD, jE, jF]
          refine tkH 23 (.slice (some ⟨b7, of7, none⟩) o.f.length d5) rfl (by kernel_rfl) (fun _ _ _ => False.elim) hHeld (Or.inl ⟨by rfl, fun W9 hW => by obtain ⟨p0, p1⟩ := HRo.out _ hW.out; clear hHeld hW; simp only [jA, jB, jC]; go_simp⟩) ?_
          try simp only [Act.put, jA, jB, jC, jD, jE, jF]
          refine tkH 24 (.int .i64 (o.f.length : Int)) rfl (by kernel_rfl) (fun _ _ _ => False.elim) hHeld (Or.inl ⟨by rfl, fun W9 hW => by clear hHeld hW; simp only [jA, jB, jC]; go_simp⟩) ?_
          try simp only [Act.put, jA, jB, jC, jD, jE, jF]
          refine tkH 25 (.bool false) rfl (by kernel_rfl) (fun _ _ _ => False.elim) hHeld (Or.inl ⟨by rfl, fun W9 hW => by clear hHeld hW; simp only [jA, jB, jC]; go_simp⟩) ?_
          try simp only [Act.put, jA, jB, jC, jD, jE, jF]
          refine tkH 26 (.bool false) rfl (by kernel_rfl) (fun _ _ _ => False.elim) hHeld (Or.inl ⟨by rfl, fun W9 hW => by clear hHeld hW; simp only [jA, jB, jC]; go_simp⟩) ?_
          try simp only [Act.put, jA, jB, jC, jD, jE, jF]
          refine tkH 27 (.bool false) rfl (by kernel_rfl) (fun _ _ _ => False.elim) hHeld (Or.inl ⟨by rfl, fun W9 hW => by clear hHeld hW; simp only [jA, jB, jC]; go_simp⟩) ?_
          try simp only [Act.put, jA, jB, jC, jD, jE, jF]
          refine tkH 28 (.pointer (some ⟨g5, 1, none⟩)) rfl (by kernel_rfl) (fun _ _ _ => False.elim) hHeld (Or.inl ⟨by rfl, fun W9 hW => by clear hHeld hW; simp only [jA, jB, jC]; go_simp⟩) ?_
          try simp only [Act.put, jA, jB, jC, jD, jE, jF]
          refine tkH 29 (.slice (some ⟨b7, of7, none⟩) o.f.length d5) rfl (by kernel_rfl) (fun _ _ _ => False.elim) hHeld (Or.inl ⟨by rfl, fun W9 hW => by obtain ⟨p0, p1⟩ := HRo.out _ hW.out; clear hHeld hW; simp only [jA, jB, jC]; go_simp⟩) ?_
          try simp only [Act.put, jA, jB, jC, jD, jE, jF]
          refine tkH 30 (.pointer (some ⟨b7, of7, none⟩)) rfl (by kernel_rfl) (fun _ _ _ => False.elim) hHeld (Or.inl ⟨by rfl, fun W9 hW => by clear hHeld hW; simp only [jA, jB, jC]; go_simp⟩) ?_
          try simp only [Act.put, jA, jB, jC, jD, jE, jF]
          refine tkH 31 (.int .u8 (z7.toNat : Int)) rfl (by kernel_rfl) (fun _ _ _ => False.elim) hHeld (Or.inl ⟨by rfl, fun W9 hW => by have p7 := ((below_step HB5w.out hW.out).cell (block_cell HZ7.out)).trans HZ7.out; clear hHeld hW; simp only [jA, jB, jC]; go_simp⟩) ?_
          try simp only [Act.put, jA, jB, jC, jD, jE, jF]
          refine tkH 32 (.bool true) rfl (by kernel_rfl) (fun _ _ _ => False.elim) hHeld (Or.inl ⟨by rfl, fun W9 hW => by clear hHeld hW; simp only [jA, jB, jC]; go_simp⟩) ?_
          try simp only [Act.put, jA, jB, jC, jD, jE, jF]
          refine tkH 33 (.bool true) rfl (by kernel_rfl) (fun _ _ _ => False.elim) hHeld (Or.inl ⟨by rfl, fun W9 hW => by clear hHeld hW; simp only [jA, jB, jC]; go_simp⟩) ?_
          try simp only [Act.put, jA, jB, jC, jD, jE, jF]
          refine tkH 34 (.bool true) rfl (by kernel_rfl) (fun _ _ _ => False.elim) hHeld (Or.inl ⟨by rfl, fun W9 hW => by clear hHeld hW; simp only [jA, jB, jC]; go_simp⟩) ?_
          try simp only [Act.put, jA, jB, jC, jD, jE, jF]
          refine tkH 35 (undef) rfl (by kernel_rfl) (fun _ _ _ => False.elim) hHeld (Or.inr ⟨by rfl, by rfl⟩) ?_
          try simp only [Act.put, jA, jB, jC, jD, jE, jF]
          refine tkH 36 (undef) rfl (by kernel_rfl) (fun _ _ _ => False.elim) hHeld (Or.inr ⟨by rfl, by rfl⟩) ?_
          try simp only [Act.put, jA, jB, jC, jD, jE, jF]
          refine tkH 37 (undef) rfl (by kernel_rfl) (fun _ _ _ => False.elim) hHeld (Or.inr ⟨by rfl, by rfl⟩) ?_
          try simp only [Act.put, jA, jB, jC, jD, jE, jF]
          refine tkH 38 (undef) rfl (by kernel_rfl) (fun _ _ _ => False.elim) hHeld (Or.inr ⟨by rfl, by rfl⟩) ?_
          try simp only [Act.put, jA, jB, jC, jD, jE, jF]
          refine tkH 39 (.bool true) rfl (by kernel_rfl) (fun _ _ _ => False.elim) hHeld (Or.inl ⟨by rfl, fun W9 hW => by clear hHeld hW; simp only [jA, jB, jC]; go_simp⟩) ?_
          try simp only [Act.put, jA, jB, jC, jD, jE, jF]
          refine tkH 40 (.bool true) rfl (by kernel_rfl) (fun _ _ _ => False.elim) hHeld (Or.inl ⟨by rfl, fun W9 hW => by clear hHeld hW; simp only [jA, jB, jC]; go_simp⟩) ?_
          try simp only [Act.put, jA, jB, jC, jD, jE, jF]
          refine tkH 41 (undef) rfl (by kernel_rfl) (fun _ _ _ => False.elim) hHeld (Or.inr ⟨by rfl, by rfl⟩) ?_
          try simp only [Act.put, jA, jB, jC, jD, jE, jF]
          refine tkH 42 (undef) rfl (by kernel_rfl) (fun _ _ _ => False.elim) hHeld (Or.inr ⟨by rfl, by rfl⟩) ?_
          try simp only [Act.put, jA, jB, jC, jD, jE, jF]
          refine tkH 43 (undef) rfl (by kernel_rfl) (fun _ _ _ => False.elim) hHeld (Or.inr ⟨by rfl, by rfl⟩) ?_
          try simp only [Act.put, jA, jB, jC, jD, jE, jF]
          refine tkH 44 (undef) rfl (by kernel_rfl) (fun _ _ _ => False.elim) hHeld (Or.inr ⟨by rfl, by rfl⟩) ?_
          try simp only [Act.put, jA, jB, jC, jD, jE, jF]
          refine tkH 45 (undef) rfl (by kernel_rfl) (fun _ _ _ => False.elim) hHeld (Or.inr ⟨by rfl, by rfl⟩) ?_
          try simp only [Act.put, jA, jB, jC, jD, jE, jF]
          refine tkH 46 (undef) rfl (by kernel_rfl) (fun _ _ _ => False.elim) hHeld (Or.inr ⟨by rfl, by rfl⟩) ?_
          try simp only [Act.put, jA, jB, jC, jD, jE, jF]
          refine tkH 47 (undef) rfl (by kernel_rfl) (fun _ _ _ => False.elim) hHeld (Or.inr ⟨by rfl, by rfl⟩) ?_
          try simp only [Act.put, jA, jB, jC, jD, jE, jF]
          refine tkH 48 (undef) rfl (by kernel_rfl) (fun _ _ _ => False.elim) hHeld (Or.inr ⟨by rfl, by rfl⟩) ?_
          try simp only [Act.put, jA, jB, jC, jD, jE, jF]
          refine tkH 49 (undef) rfl (by kernel_rfl) (fun _ _ _ => False.elim) hHeld (Or.inr ⟨by rfl, by rfl⟩) ?_
          try simp only [Act.put, jA, jB, jC, jD, jE, jF]
          refine tkH 50 (undef) rfl (by kernel_rfl) (fun _ _ _ => False.elim) hHeld (Or.inr ⟨by rfl, by rfl⟩) ?_
          try simp only [Act.put, jA, jB, jC, jD, jE, jF]
          refine tkH 51 (undef) rfl (by kernel_rfl) (fun _ _ _ => False.elim) hHeld (Or.inr ⟨by rfl, by rfl⟩) ?_
          try simp only [Act.put, jA, jB, jC, jD, jE, jF]
          refine tkH 52 (undef) rfl (by kernel_rfl) (fun _ _ _ => False.elim) hHeld (Or.inr ⟨by rfl, by rfl⟩) ?_
          try simp only [Act.put, jA, jB, jC, jD, jE, jF]
          refine tkH 53 (undef) rfl (by kernel_rfl) (fun _ _ _ => False.elim) hHeld (Or.inr ⟨by rfl, by rfl⟩) ?_
          try simp only [Act.put, jA, jB, jC, jD, jE, jF]
          refine tkH 54 (undef) rfl (by kernel_rfl) (fun _ _ _ => False.elim) hHeld (Or.inr ⟨by rfl, by rfl⟩) ?_
          try simp only [Act.put, jA, jB, jC, jD, jE, jF]
          refine tkH 55 (undef) rfl (by kernel_rfl) (fun _ _ _ => False.elim) hHeld (Or.inr ⟨by rfl, by rfl⟩) ?_
          try simp only [Act.put, jA, jB, jC, jD, jE, jF]
          refine tkH 56 (undef) rfl (by kernel_rfl) (fun _ _ _ => False.elim) hHeld (Or.inr ⟨by rfl, by rfl⟩) ?_
          try simp only [Act.put, jA, jB, jC, jD, jE, jF]
          refine tkH 57 (.bool true) rfl (by kernel_rfl) (fun _ _ _ => False.elim) hHeld (Or.inl ⟨by rfl, fun W9 hW => by clear hHeld hW; simp only [jA, jB, jC]; go_simp⟩) ?_
          try simp only [Act.put, jA, jB, jC, jD, jE, jF]
          refine wpAnyH_done (by kernel_rfl) (NoPanic.normal ?_) _
          have HB9 := hid (below_step HB5w.out hHeld.out)
          go_wp2_with fail
          go_ret
          exact ⟨by rw [HRB2.out, allOk_bad (k := k + 1) (by rw [HST.out, HOK.out]; simp) _ (by omega)]; simp, HB9.out⟩
        rw [g10] at hbeg
        by_cases g11 : o.f.length > 600
        · have HOK : Hid (okOw R k o = false) := hid (by rw [HOKD.out]; simp [g11])
          have gi11 : ((o.f.length : Nat) : Int) > 600 := by omega
          refine wp_region_noPanic ?_
          refine wp_region_held_drew (S := fun V => Hid (Below w5.heap.size w5 V)) (by kernel_rfl) (hid (Below.drew (Below.refl _ _))) (fun hHeld => ?_)
          generalize w5.drew = Wd at *
          refine tkH 0 (.pointer (some ⟨g5, 0, none⟩)) rfl (by kernel_rfl) (fun _ _ _ => False.elim) hHeld (Or.inl ⟨by rfl, fun W9 hW => by clear hHeld hW; simp only [jA, jB, jC]; go_simp⟩) ?_
          try simp only [Act.put, jA, jB, jC, jD, jE, jF]
          refine tkH 1 (.int .i64 o.g) rfl (by kernel_rfl) (fun _ _ _ => False.elim) hHeld (Or.inl ⟨by rfl, fun W9 hW => by obtain ⟨p0, p1⟩ := HRo.out _ hW.out; clear hHeld hW; simp only [jA, jB, jC]; go_simp⟩) ?_
          try simp only [Act.put, jA, jB, jC, jD, jE, jF]
          refine tkH 2 (.pointer (some ⟨w.heap.size, 1, none⟩)) rfl (by kernel_rfl) (fun _ _ _ => False.elim) hHeld (Or.inl ⟨by rfl, fun W9 hW => by clear hHeld hW; simp only [jA, jB, jC]; go_simp⟩) ?_
          try simp only [Act.put, jA, jB, jC, jD, jE, jF]
          refine tkH 3 (.int .i64 R.base) rfl (by kernel_rfl) (fun _ _ _ => False.elim) hHeld (Or.inl ⟨by rfl, fun W9 hW => by obtain ⟨q0, q1, q2, q3, q4⟩ := HKR.out _ (HB5.out.trans (hW.out.mono HB5.out.size)); clear hHeld hW; simp only [jA, jB, jC]; go_simp⟩) ?_
          try simp only [Act.put, jA, jB, jC, jD, jE, jF]
          refine tkH 4 (.bool false) rfl (by kernel_rfl) (fun _ _ _ => False.elim) hHeld (Or.inl ⟨by rfl, fun W9 hW => by clear hHeld hW; simp only [jA, jB, jC]; go_simp⟩) ?_
          try simp only [Act.put, jA, jB, jC, jD, jE, jF]
          refine tkH 5 (.bool false) rfl (by kernel_rfl) (fun _ _ _ => False.elim) hHeld (Or.inl ⟨by rfl, fun W9 hW => by clear hHeld hW; simp only [jA, jB, jC]; go_simp⟩) ?_
          try simp only [Act.put, jA, jB, jC, jD, jE, jF]
          refine tkH 6 (.pointer (some ⟨g5, 0, none⟩)) rfl (by kernel_rfl) (fun _ _ _ => False.elim) hHeld (Or.inl ⟨by rfl, fun W9 hW => by clear hHeld hW; simp only [jA, jB, jC]; go_simp⟩) ?_
          try simp only [Act.put, jA, jB, jC, jD, jE, jF]
          refine tkH 7 (.int .i64 o.g) rfl (by kernel_rfl) (fun _ _ _ => False.elim) hHeld (Or.inl ⟨by rfl, fun W9 hW => by obtain ⟨p0, p1⟩ := HRo.out _ hW.out; clear hHeld hW; simp only [jA, jB, jC]; go_simp⟩) ?_
          try simp only [Act.put, jA, jB, jC, jD, jE, jF]
          refine tkH 8 (.pointer (some ⟨w.heap.size, 1, none⟩)) rfl (by kernel_rfl) (fun _ _ _ => False.elim) hHeld (Or.inl ⟨by rfl, fun W9 hW => by clear hHeld hW; simp only [jA, jB, jC]; go_simp⟩) ?_
          try simp only [Act.put, jA, jB, jC, jD, jE, jF]
          refine tkH 9 (.int .i64 R.base) rfl (by kernel_rfl) (fun _ _ _ => False.elim) hHeld (Or.inl ⟨by rfl, fun W9 hW => by obtain ⟨q0, q1, q2, q3, q4⟩ := HKR.out _ (HB5.out.trans (hW.out.mono HB5.out.size)); clear hHeld hW; simp only [jA, jB, jC]; go_simp⟩) ?_
          try simp only [Act.put, jA, jB, jC, jD, jE, jF]
          refine tkH 10 (.int .i64 (R.base + 4)) rfl (by kernel_rfl) (fun _ _ _ => False.elim) hHeld (Or.inl ⟨by rfl, fun W9 hW => by clear hHeld hW; simp only [jA, jB, jC]; go_simp⟩) ?_
          try simp only [Act.put, jA, jB, jC, jD, jE, jF]
          refine tkH 11 (.bool false) rfl (by kernel_rfl) (fun _ _ _ => False.elim) hHeld (Or.inl ⟨by rfl, fun W9 hW => by clear hHeld hW; simp only [jA, jB, jC]; go_simp⟩) ?_
          try simp only [Act.put, jA, jB, jC, jD, jE, jF]
          refine tkH 12 (.bool false) rfl (by kernel_rfl) (fun _ _ _ => False.elim) hHeld (Or.inl ⟨by rfl, fun W9 hW => by clear hHeld hW; simp only [jA, jB, jC]; go_simp⟩) ?_
          try simp only [Act.put, jA, jB, jC, jD, jE, jF]
          refine tkH 13 (.bool false) rfl (by kernel_rfl) (fun _ _ _ => False.elim) hHeld (Or.inl ⟨by rfl, fun W9 hW => by clear hHeld hW; simp only [jA, jB, jC]; go_simp⟩) ?_
          try simp only [Act.put, jA, jB, jC, jD, jE, jF]
          refine tkH 14 (.agg #[.int .i64 R.ep, .int .i64 R.base, .slice (some ⟨b1, of1, none⟩) R.sp.length c, .int .i64 R.mv, .slice b R.cut.length d]) rfl (by kernel_rfl) (fun _ _ _ => False.elim) hHeld (Or.inl ⟨by rfl, fun W9 hW => by obtain ⟨q0, q1, q2, q3, q4⟩ := HKR.out _ (HB5.out.trans (hW.out.mono HB5.out.size)); clear hHeld hW; simp only [jA, jB, jC]; go_simp⟩) ?_
          try simp only [Act.put, jA, jB, jC, jD, jE, jF]
          refine tkH 15 (.pointer (some ⟨g5, 0, none⟩)) rfl (by kernel_rfl) (fun _ _ _ => False.elim) hHeld (Or.inl ⟨by rfl, fun W9 hW => by clear hHeld hW; simp only [jA, jB, jC]; go_simp⟩) ?_
          try simp only [Act.put, jA, jB, jC, jD, jE, jF]
          refine tkH 16 (.int .i64 o.g) rfl (by kernel_rfl) (fun _ _ _ => False.elim) hHeld (Or.inl ⟨by rfl, fun W9 hW => by obtain ⟨p0, p1⟩ := HRo.out _ hW.out; clear hHeld hW; simp only [jA, jB, jC]; go_simp⟩) ?_
          try simp only [Act.put, jA, jB, jC, jD, jE, jF]
          refine tkH 18 (.int .i64 (k : Int)) rfl (by kernel_rfl) (fun _ _ _ => False.elim) hHeld (Or.inl ⟨by rfl, fun W9 hW => by clear hHeld hW; simp only [jA, jB, jC]; go_simp⟩) ?_
          try simp only [Act.put, jA, jB, jC, jD, jE, jF]
          refine rdH 17 (by kernel_rfl) rfl fun K hK => ?_
          rw [if_pos (by rfl)]
          go_simp
          have CQ := hid (at_any (R := R) (b := b) (d := d) (HR.out.old (below_step HB5w.out hHeld.out)) o.g)
          go_wp2_with (first | (go_at_call 118; refine CQ.out.mono ?_; rintro en w6 ⟨rfl, hbE⟩; have HBE := hid (below_step hHeld.out hbE)))
          clear CQ hHeld
          refine hK.out _ _ HBE (fun hHeld => ?_)
          clear hK K HBE
          try simp only [Act.put, jA, jB, jC, jD, jE, jF]
          refine tkH 19 (.bool false) rfl (by kernel_rfl) (fun _ _ _ => False.elim) hHeld (Or.inl ⟨by rfl, fun W9 hW => by clear hHeld hW; simp only [jA, jB, jC]; go_simp⟩) ?_
          try simp only [Act.put, jA, jB, jC, jD, jE, jF]
          refine tkH 20 (.bool false) rfl (by kernel_rfl) (fun _ _ _ => False.elim) hHeld (Or.inl ⟨by rfl, fun W9 hW => by clear hHeld hW; simp only [jA, jB, jC]; go_simp⟩) ?_
          try simp only [Act.put, jA, jB, jC, jD, jE, jF]
          refine tkH 21 (.bool false) rfl (by kernel_rfl) (fun _ _ _ => False.elim) hHeld (Or.inl ⟨by rfl, fun W9 hW => by clear hHeld hW; simp only [jA, jB, jC]; go_simp⟩) ?_
          try simp only [Act.put, jA, jB, jC, jD, jE, jF]
          refine tkH 22 (.pointer (some ⟨g5, 1, none⟩)) rfl (by kernel_rfl) (fun _ _ _ => False.elim) hHeld (Or.inl ⟨by rfl, fun W9 hW => by clear hHeld hW; simp only [jA, jB, jC]; go_simp⟩) ?_
          try simp only [Act.put, jA, jB, jC, jD, jE, jF]
          refine tkH 23 (.slice (some ⟨b7, of7, none⟩) o.f.length d5) rfl (by kernel_rfl) (fun _ _ _ => False.elim) hHeld (Or.inl ⟨by rfl, fun W9 hW => by obtain ⟨p0, p1⟩ := HRo.out _ hW.out; clear hHeld hW; simp only [jA, jB, jC]; go_simp⟩) ?_
          try simp only [Act.put, jA, jB, jC, jD, jE, jF]
          refine tkH 24 (.int .i64 (o.f.length : Int)) rfl (by kernel_rfl) (fun _ _ _ => False.elim) hHeld (Or.inl ⟨by rfl, fun W9 hW => by clear hHeld hW; simp only [jA, jB, jC]; go_simp⟩) ?_
          try simp only [Act.put, jA, jB, jC, jD, jE, jF]
          refine tkH 25 (.bool false) rfl (by kernel_rfl) (fun _ _ _ => False.elim) hHeld (Or.inl ⟨by rfl, fun W9 hW => by clear hHeld hW; simp only [jA, jB, jC]; go_simp⟩) ?_
          try simp only [Act.put, jA, jB, jC, jD, jE, jF]
          refine tkH 26 (.bool false) rfl (by kernel_rfl) (fun _ _ _ => False.elim) hHeld (Or.inl ⟨by rfl, fun W9 hW => by clear hHeld hW; simp only [jA, jB, jC]; go_simp⟩) ?_
          try simp only [Act.put, jA, jB, jC, jD, jE, jF]
          refine tkH 27 (.bool false) rfl (by kernel_rfl) (fun _ _ _ => False.elim) hHeld (Or.inl ⟨by rfl, fun W9 hW => by clear hHeld hW; simp only [jA, jB, jC]; go_simp⟩) ?_
          try simp only [Act.put, jA, jB, jC, jD, jE, jF]
          refine tkH 28 (.pointer (some ⟨g5, 1, none⟩)) rfl (by kernel_rfl) (fun _ _ _ => False.elim) hHeld (Or.inl ⟨by rfl, fun W9 hW => by clear hHeld hW; simp only [jA, jB, jC]; go_simp⟩) ?_
          try simp only [Act.put, jA, jB, jC, jD, jE, jF]
          refine tkH 29 (.slice (some ⟨b7, of7, none⟩) o.f.length d5) rfl (by kernel_rfl) (fun _ _ _ => False.elim) hHeld (Or.inl ⟨by rfl, fun W9 hW => by obtain ⟨p0, p1⟩ := HRo.out _ hW.out; clear hHeld hW; simp only [jA, jB, jC]; go_simp⟩) ?_
          try simp only [Act.put, jA, jB, jC, jD, jE, jF]
          refine tkH 30 (.pointer (some ⟨b7, of7, none⟩)) rfl (by kernel_rfl) (fun _ _ _ => False.elim) hHeld (Or.inl ⟨by rfl, fun W9 hW => by clear hHeld hW; simp only [jA, jB, jC]; go_simp⟩) ?_
          try simp only [Act.put, jA, jB, jC, jD, jE, jF]
          refine tkH 31 (.int .u8 (z7.toNat : Int)) rfl (by kernel_rfl) (fun _ _ _ => False.elim) hHeld (Or.inl ⟨by rfl, fun W9 hW => by have p7 := ((below_step HB5w.out hW.out).cell (block_cell HZ7.out)).trans HZ7.out; clear hHeld hW; simp only [jA, jB, jC]; go_simp⟩) ?_
          try simp only [Act.put, jA, jB, jC, jD, jE, jF]
          refine tkH 32 (.bool false) rfl (by kernel_rfl) (fun _ _ _ => False.elim) hHeld (Or.inl ⟨by rfl, fun W9 hW => by clear hHeld hW; simp only [jA, jB, jC]; go_simp⟩) ?_
          try simp only [Act.put, jA, jB, jC, jD, jE, jF]
          refine tkH 33 (.bool false) rfl (by kernel_rfl) (fun _ _ _ => False.elim) hHeld (Or.inl ⟨by rfl, fun W9 hW => by clear hHeld hW; simp only [jA, jB, jC]; go_simp⟩) ?_
          try simp only [Act.put, jA, jB, jC, jD, jE, jF]
          refine tkH 34 (.bool false) rfl (by kernel_rfl) (fun _ _ _ => False.elim) hHeld (Or.inl ⟨by rfl, fun W9 hW => by clear hHeld hW; simp only [jA, jB, jC]; go_simp⟩) ?_
          try simp only [Act.put, jA, jB, jC, jD, jE, jF]
          refine tkH 35 (.pointer (some ⟨g5, 1, none⟩)) rfl (by kernel_rfl) (fun _ _ _ => False.elim) hHeld (Or.inl ⟨by rfl, fun W9 hW => by clear hHeld hW; simp only [jA, jB, jC]; go_simp⟩) ?_
          try simp only [Act.put, jA, jB, jC, jD, jE, jF]
          refine tkH 36 (.slice (some ⟨b7, of7, none⟩) o.f.length d5) rfl (by kernel_rfl) (fun _ _ _ => False.elim) hHeld (Or.inl ⟨by rfl, fun W9 hW => by obtain ⟨p0, p1⟩ := HRo.out _ hW.out; clear hHeld hW; simp only [jA, jB, jC]; go_simp⟩) ?_
          try simp only [Act.put, jA, jB, jC, jD, jE, jF]
          refine tkH 37 (.int .i64 (o.f.length : Int)) rfl (by kernel_rfl) (fun _ _ _ => False.elim) hHeld (Or.inl ⟨by rfl, fun W9 hW => by clear hHeld hW; simp only [jA, jB, jC]; go_simp⟩) ?_
          try simp only [Act.put, jA, jB, jC, jD, jE, jF]
          refine tkH 38 (.bool true) rfl (by kernel_rfl) (fun _ _ _ => False.elim) hHeld (Or.inl ⟨by rfl, fun W9 hW => by clear hHeld hW; simp only [jA, jB, jC]; go_simp⟩) ?_
          try simp only [Act.put, jA, jB, jC, jD, jE, jF]
          refine tkH 39 (.bool true) rfl (by kernel_rfl) (fun _ _ _ => False.elim) hHeld (Or.inl ⟨by rfl, fun W9 hW => by clear hHeld hW; simp only [jA, jB, jC]; go_simp⟩) ?_
          try simp only [Act.put, jA, jB, jC, jD, jE, jF]
          refine tkH 40 (.bool true) rfl (by kernel_rfl) (fun _ _ _ => False.elim) hHeld (Or.inl ⟨by rfl, fun W9 hW => by clear hHeld hW; simp only [jA, jB, jC]; go_simp⟩) ?_
          try simp only [Act.put, jA, jB, jC, jD, jE, jF]
          refine tkH 41 (undef) rfl (by kernel_rfl) (fun _ _ _ => False.elim) hHeld (Or.inr ⟨by rfl, by rfl⟩) ?_
          try simp only [Act.put, jA, jB, jC, jD, jE, jF]
          refine tkH 42 (undef) rfl (by kernel_rfl) (fun _ _ _ => False.elim) hHeld (Or.inr ⟨by rfl, by rfl⟩) ?_
          try simp only [Act.put, jA, jB, jC, jD, jE, jF]
          refine tkH 43 (undef) rfl (by kernel_rfl) (fun _ _ _ => False.elim) hHeld (Or.inr ⟨by rfl, by rfl⟩) ?_
          try simp only [Act.put, jA, jB, jC, jD, jE, jF]
          refine tkH 44 (undef) rfl (by kernel_rfl) (fun _ _ _ => False.elim) hHeld (Or.inr ⟨by rfl, by rfl⟩) ?_
          try simp only [Act.put, jA, jB, jC, jD, jE, jF]
          refine tkH 45 (undef) rfl (by kernel_rfl) (fun _ _ _ => False.elim) hHeld (Or.inr ⟨by rfl, by rfl⟩) ?_
          try simp only [Act.put, jA, jB, jC, jD, jE, jF]
          refine tkH 46 (undef) rfl (by kernel_rfl) (fun _ _ _ => False.elim) hHeld (Or.inr ⟨by rfl, by rfl⟩) ?_
          try simp only [Act.put, jA, jB, jC, jD, jE, jF]
          refine tkH 47 (undef) rfl (by kernel_rfl) (fun _ _ _ => False.elim) hHeld (Or.inr ⟨by rfl, by rfl⟩) ?_
          try simp only [Act.put, jA, jB, jC, jD, jE, jF]
          refine tkH 48 (undef) rfl (by kernel_rfl) (fun _ _ _ => False.elim) hHeld (Or.inr ⟨by rfl, by rfl⟩) ?_
          try simp only [Act.put, jA, jB, jC, jD, jE, jF]
          refine tkH 49 (undef) rfl (by kernel_rfl) (fun _ _ _ => False.elim) hHeld (Or.inr ⟨by rfl, by rfl⟩) ?_
          try simp only [Act.put, jA, jB, jC, jD, jE, jF]
          refine tkH 50 (undef) rfl (by kernel_rfl) (fun _ _ _ => False.elim) hHeld (Or.inr ⟨by rfl, by rfl⟩) ?_
          try simp only [Act.put, jA, jB, jC, jD, jE, jF]
          refine tkH 51 (undef) rfl (by kernel_rfl) (fun _ _ _ => False.elim) hHeld (Or.inr ⟨by rfl, by rfl⟩) ?_
          try simp only [Act.put, jA, jB, jC, jD, jE, jF]
          refine tkH 52 (undef) rfl (by kernel_rfl) (fun _ _ _ => False.elim) hHeld (Or.inr ⟨by rfl, by rfl⟩) ?_
          try simp only [Act.put, jA, jB, jC, jD, jE, jF]
          refine tkH 53 (undef) rfl (by kernel_rfl) (fun _ _ _ => False.elim) hHeld (Or.inr ⟨by rfl, by rfl⟩) ?_
          try simp only [Act.put, jA, jB, jC, jD, jE, jF]
          refine tkH 54 (undef) rfl (by kernel_rfl) (fun _ _ _ => False.elim) hHeld (Or.inr ⟨by rfl, by rfl⟩) ?_
          try simp only [Act.put, jA, jB, jC, jD, jE, jF]
          refine tkH 55 (undef) rfl (by kernel_rfl) (fun _ _ _ => False.elim) hHeld (Or.inr ⟨by rfl, by rfl⟩) ?_
          try simp only [Act.put, jA, jB, jC, jD, jE, jF]
          refine tkH 56 (undef) rfl (by kernel_rfl) (fun _ _ _ => False.elim) hHeld (Or.inr ⟨by rfl, by rfl⟩) ?_
          try simp only [Act.put, jA, jB, jC, jD, jE, jF]
          refine tkH 57 (.bool true) rfl (by kernel_rfl) (fun _ _ _ => False.elim) hHeld (Or.inl ⟨by rfl, fun W9 hW => by clear hHeld hW; simp only [jA, jB, jC]; go_simp⟩) ?_
          try simp only [Act.put, jA, jB, jC, jD, jE, jF]
          refine wpAnyH_done (by kernel_rfl) (NoPanic.normal ?_) _
          have HB9 := hid (below_step HB5w.out hHeld.out)
          go_wp2_with fail
          go_ret
          exact ⟨by rw [HRB2.out, allOk_bad (k := k + 1) (by rw [HST.out, HOK.out]; simp) _ (by omega)]; simp, HB9.out⟩
        have gi11 : ¬ ((o.f.length : Nat) : Int) > 600 := by omega
        rcases Nat.eq_zero_or_pos k with hk0 | hk0
        · have HOK : Hid (okOw R k o = true) := hid (by rw [HOKD.out, hbeg, hk0]; subst hk0; simp [g6, g7, g8, g9, g11, prevB])
          have hk0i : (k : Int) = 0 := by omega
          refine wp_region_noPanic ?_
          refine wp_region_held_drew (S := fun V => Hid (Below w5.heap.size w5 V)) (by kernel_rfl) (hid (Below.drew (Below.refl _ _))) (fun hHeld => ?_)
          generalize w5.drew = Wd at *
          refine tkH 0 (.pointer (some ⟨g5, 0, none⟩)) rfl (by kernel_rfl) (fun _ _ _ => False.elim) hHeld (Or.inl ⟨by rfl, fun W9 hW => by clear hHeld hW; simp only [jA, jB, jC]; go_simp⟩) ?_
          try simp only [Act.put, jA, jB, jC, jD, jE, jF]
          refine tkH 1 (.int .i64 o.g) rfl (by kernel_rfl) (fun _ _ _ => False.elim) hHeld (Or.inl ⟨by rfl, fun W9 hW => by obtain ⟨p0, p1⟩ := HRo.out _ hW.out; clear hHeld hW; simp only [jA, jB, jC]; go_simp⟩) ?_
          try simp only [Act.put, jA, jB, jC, jD, jE, jF]
          refine tkH 2 (.pointer (some ⟨w.heap.size, 1, none⟩)) rfl (by kernel_rfl) (fun _ _ _ => False.elim) hHeld (Or.inl ⟨by rfl, fun W9 hW => by clear hHeld hW; simp only [jA, jB, jC]; go_simp⟩) ?_
          try simp only [Act.put, jA, jB, jC, jD, jE, jF]
          refine tkH 3 (.int .i64 R.base) rfl (by kernel_rfl) (fun _ _ _ => False.elim) hHeld (Or.inl ⟨by rfl, fun W9 hW => by obtain ⟨q0, q1, q2, q3, q4⟩ := HKR.out _ (HB5.out.trans (hW.out.mono HB5.out.size)); clear hHeld hW; simp only [jA, jB, jC]; go_simp⟩) ?_
          try simp only [Act.put, jA, jB, jC, jD, jE, jF]
          refine tkH 4 (.bool false) rfl (by kernel_rfl) (fun _ _ _ => False.elim) hHeld (Or.inl ⟨by rfl, fun W9 hW => by clear hHeld hW; simp only [jA, jB, jC]; go_simp⟩) ?_
          try simp only [Act.put, jA, jB, jC, jD, jE, jF]
          refine tkH 5 (.bool false) rfl (by kernel_rfl) (fun _ _ _ => False.elim) hHeld (Or.inl ⟨by rfl, fun W9 hW => by clear hHeld hW; simp only [jA, jB, jC]; go_simp⟩) ?_
          try simp only [Act.put, jA, jB, jC, jD, jE, jF]
          refine tkH 6 (.pointer (some ⟨g5, 0, none⟩)) rfl (by kernel_rfl) (fun _ _ _ => False.elim) hHeld (Or.inl ⟨by rfl, fun W9 hW => by clear hHeld hW; simp only [jA, jB, jC]; go_simp⟩) ?_
          try simp only [Act.put, jA, jB, jC, jD, jE, jF]
          refine tkH 7 (.int .i64 o.g) rfl (by kernel_rfl) (fun _ _ _ => False.elim) hHeld (Or.inl ⟨by rfl, fun W9 hW => by obtain ⟨p0, p1⟩ := HRo.out _ hW.out; clear hHeld hW; simp only [jA, jB, jC]; go_simp⟩) ?_
          try simp only [Act.put, jA, jB, jC, jD, jE, jF]
          refine tkH 8 (.pointer (some ⟨w.heap.size, 1, none⟩)) rfl (by kernel_rfl) (fun _ _ _ => False.elim) hHeld (Or.inl ⟨by rfl, fun W9 hW => by clear hHeld hW; simp only [jA, jB, jC]; go_simp⟩) ?_
          try simp only [Act.put, jA, jB, jC, jD, jE, jF]
          refine tkH 9 (.int .i64 R.base) rfl (by kernel_rfl) (fun _ _ _ => False.elim) hHeld (Or.inl ⟨by rfl, fun W9 hW => by obtain ⟨q0, q1, q2, q3, q4⟩ := HKR.out _ (HB5.out.trans (hW.out.mono HB5.out.size)); clear hHeld hW; simp only [jA, jB, jC]; go_simp⟩) ?_
          try simp only [Act.put, jA, jB, jC, jD, jE, jF]
          refine tkH 10 (.int .i64 (R.base + 4)) rfl (by kernel_rfl) (fun _ _ _ => False.elim) hHeld (Or.inl ⟨by rfl, fun W9 hW => by clear hHeld hW; simp only [jA, jB, jC]; go_simp⟩) ?_
          try simp only [Act.put, jA, jB, jC, jD, jE, jF]
          refine tkH 11 (.bool false) rfl (by kernel_rfl) (fun _ _ _ => False.elim) hHeld (Or.inl ⟨by rfl, fun W9 hW => by clear hHeld hW; simp only [jA, jB, jC]; go_simp⟩) ?_
          try simp only [Act.put, jA, jB, jC, jD, jE, jF]
          refine tkH 12 (.bool false) rfl (by kernel_rfl) (fun _ _ _ => False.elim) hHeld (Or.inl ⟨by rfl, fun W9 hW => by clear hHeld hW; simp only [jA, jB, jC]; go_simp⟩) ?_
          try simp only [Act.put, jA, jB, jC, jD, jE, jF]
          refine tkH 13 (.bool false) rfl (by kernel_rfl) (fun _ _ _ => False.elim) hHeld (Or.inl ⟨by rfl, fun W9 hW => by clear hHeld hW; simp only [jA, jB, jC]; go_simp⟩) ?_
          try simp only [Act.put, jA, jB, jC, jD, jE, jF]
          refine tkH 14 (.agg #[.int .i64 R.ep, .int .i64 R.base, .slice (some ⟨b1, of1, none⟩) R.sp.length c, .int .i64 R.mv, .slice b R.cut.length d]) rfl (by kernel_rfl) (fun _ _ _ => False.elim) hHeld (Or.inl ⟨by rfl, fun W9 hW => by obtain ⟨q0, q1, q2, q3, q4⟩ := HKR.out _ (HB5.out.trans (hW.out.mono HB5.out.size)); clear hHeld hW; simp only [jA, jB, jC]; go_simp⟩) ?_
          try simp only [Act.put, jA, jB, jC, jD, jE, jF]
          refine tkH 15 (.pointer (some ⟨g5, 0, none⟩)) rfl (by kernel_rfl) (fun _ _ _ => False.elim) hHeld (Or.inl ⟨by rfl, fun W9 hW => by clear hHeld hW; simp only [jA, jB, jC]; go_simp⟩) ?_
          try simp only [Act.put, jA, jB, jC, jD, jE, jF]
          refine tkH 16 (.int .i64 o.g) rfl (by kernel_rfl) (fun _ _ _ => False.elim) hHeld (Or.inl ⟨by rfl, fun W9 hW => by obtain ⟨p0, p1⟩ := HRo.out _ hW.out; clear hHeld hW; simp only [jA, jB, jC]; go_simp⟩) ?_
          try simp only [Act.put, jA, jB, jC, jD, jE, jF]
          refine tkH 18 (.int .i64 (k : Int)) rfl (by kernel_rfl) (fun _ _ _ => False.elim) hHeld (Or.inl ⟨by rfl, fun W9 hW => by clear hHeld hW; simp only [jA, jB, jC]; go_simp⟩) ?_
          try simp only [Act.put, jA, jB, jC, jD, jE, jF]
          refine rdH 17 (by kernel_rfl) rfl fun K hK => ?_
          rw [if_pos (by rfl)]
          go_simp
          have CQ := hid (at_any (R := R) (b := b) (d := d) (HR.out.old (below_step HB5w.out hHeld.out)) o.g)
          go_wp2_with (first | (go_at_call 118; refine CQ.out.mono ?_; rintro en w6 ⟨rfl, hbE⟩; have HBE := hid (below_step hHeld.out hbE)))
          clear CQ hHeld
          refine hK.out _ _ HBE (fun hHeld => ?_)
          clear hK K HBE
          try simp only [Act.put, jA, jB, jC, jD, jE, jF]
          refine tkH 19 (.bool false) rfl (by kernel_rfl) (fun _ _ _ => False.elim) hHeld (Or.inl ⟨by rfl, fun W9 hW => by clear hHeld hW; simp only [jA, jB, jC]; go_simp⟩) ?_
          try simp only [Act.put, jA, jB, jC, jD, jE, jF]
          refine tkH 20 (.bool false) rfl (by kernel_rfl) (fun _ _ _ => False.elim) hHeld (Or.inl ⟨by rfl, fun W9 hW => by clear hHeld hW; simp only [jA, jB, jC]; go_simp⟩) ?_
          try simp only [Act.put, jA, jB, jC, jD, jE, jF]
          refine tkH 21 (.bool false) rfl (by kernel_rfl) (fun _ _ _ => False.elim) hHeld (Or.inl ⟨by rfl, fun W9 hW => by clear hHeld hW; simp only [jA, jB, jC]; go_simp⟩) ?_
          try simp only [Act.put, jA, jB, jC, jD, jE, jF]
          refine tkH 22 (.pointer (some ⟨g5, 1, none⟩)) rfl (by kernel_rfl) (fun _ _ _ => False.elim) hHeld (Or.inl ⟨by rfl, fun W9 hW => by clear hHeld hW; simp only [jA, jB, jC]; go_simp⟩) ?_
          try simp only [Act.put, jA, jB, jC, jD, jE, jF]
          refine tkH 23 (.slice (some ⟨b7, of7, none⟩) o.f.length d5) rfl (by kernel_rfl) (fun _ _ _ => False.elim) hHeld (Or.inl ⟨by rfl, fun W9 hW => by obtain ⟨p0, p1⟩ := HRo.out _ hW.out; clear hHeld hW; simp only [jA, jB, jC]; go_simp⟩) ?_
          try simp only [Act.put, jA, jB, jC, jD, jE, jF]
          refine tkH 24 (.int .i64 (o.f.length : Int)) rfl (by kernel_rfl) (fun _ _ _ => False.elim) hHeld (Or.inl ⟨by rfl, fun W9 hW => by clear hHeld hW; simp only [jA, jB, jC]; go_simp⟩) ?_
          try simp only [Act.put, jA, jB, jC, jD, jE, jF]
          refine tkH 25 (.bool false) rfl (by kernel_rfl) (fun _ _ _ => False.elim) hHeld (Or.inl ⟨by rfl, fun W9 hW => by clear hHeld hW; simp only [jA, jB, jC]; go_simp⟩) ?_
          try simp only [Act.put, jA, jB, jC, jD, jE, jF]
          refine tkH 26 (.bool false) rfl (by kernel_rfl) (fun _ _ _ => False.elim) hHeld (Or.inl ⟨by rfl, fun W9 hW => by clear hHeld hW; simp only [jA, jB, jC]; go_simp⟩) ?_
          try simp only [Act.put, jA, jB, jC, jD, jE, jF]
          refine tkH 27 (.bool false) rfl (by kernel_rfl) (fun _ _ _ => False.elim) hHeld (Or.inl ⟨by rfl, fun W9 hW => by clear hHeld hW; simp only [jA, jB, jC]; go_simp⟩) ?_
          try simp only [Act.put, jA, jB, jC, jD, jE, jF]
          refine tkH 28 (.pointer (some ⟨g5, 1, none⟩)) rfl (by kernel_rfl) (fun _ _ _ => False.elim) hHeld (Or.inl ⟨by rfl, fun W9 hW => by clear hHeld hW; simp only [jA, jB, jC]; go_simp⟩) ?_
          try simp only [Act.put, jA, jB, jC, jD, jE, jF]
          refine tkH 29 (.slice (some ⟨b7, of7, none⟩) o.f.length d5) rfl (by kernel_rfl) (fun _ _ _ => False.elim) hHeld (Or.inl ⟨by rfl, fun W9 hW => by obtain ⟨p0, p1⟩ := HRo.out _ hW.out; clear hHeld hW; simp only [jA, jB, jC]; go_simp⟩) ?_
          try simp only [Act.put, jA, jB, jC, jD, jE, jF]
          refine tkH 30 (.pointer (some ⟨b7, of7, none⟩)) rfl (by kernel_rfl) (fun _ _ _ => False.elim) hHeld (Or.inl ⟨by rfl, fun W9 hW => by clear hHeld hW; simp only [jA, jB, jC]; go_simp⟩) ?_
          try simp only [Act.put, jA, jB, jC, jD, jE, jF]
          refine tkH 31 (.int .u8 (z7.toNat : Int)) rfl (by kernel_rfl) (fun _ _ _ => False.elim) hHeld (Or.inl ⟨by rfl, fun W9 hW => by have p7 := ((below_step HB5w.out hW.out).cell (block_cell HZ7.out)).trans HZ7.out; clear hHeld hW; simp only [jA, jB, jC]; go_simp⟩) ?_
          try simp only [Act.put, jA, jB, jC, jD, jE, jF]
          refine tkH 32 (.bool false) rfl (by kernel_rfl) (fun _ _ _ => False.elim) hHeld (Or.inl ⟨by rfl, fun W9 hW => by clear hHeld hW; simp only [jA, jB, jC]; go_simp⟩) ?_
          try simp only [Act.put, jA, jB, jC, jD, jE, jF]
          refine tkH 33 (.bool false) rfl (by kernel_rfl) (fun _ _ _ => False.elim) hHeld (Or.inl ⟨by rfl, fun W9 hW => by clear hHeld hW; simp only [jA, jB, jC]; go_simp⟩) ?_
          try simp only [Act.put, jA, jB, jC, jD, jE, jF]
          refine tkH 34 (.bool false) rfl (by kernel_rfl) (fun _ _ _ => False.elim) hHeld (Or.inl ⟨by rfl, fun W9 hW => by clear hHeld hW; simp only [jA, jB, jC]; go_simp⟩) ?_
          try simp only [Act.put, jA, jB, jC, jD, jE, jF]
          refine tkH 35 (.pointer (some ⟨g5, 1, none⟩)) rfl (by kernel_rfl) (fun _ _ _ => False.elim) hHeld (Or.inl ⟨by rfl, fun W9 hW => by clear hHeld hW; simp only [jA, jB, jC]; go_simp⟩) ?_
          try simp only [Act.put, jA, jB, jC, jD, jE, jF]
          refine tkH 36 (.slice (some ⟨b7, of7, none⟩) o.f.length d5) rfl (by kernel_rfl) (fun _ _ _ => False.elim) hHeld (Or.inl ⟨by rfl, fun W9 hW => by obtain ⟨p0, p1⟩ := HRo.out _ hW.out; clear hHeld hW; simp only [jA, jB, jC]; go_simp⟩) ?_
          try simp only [Act.put, jA, jB, jC, jD, jE, jF]
          refine tkH 37 (.int .i64 (o.f.length : Int)) rfl (by kernel_rfl) (fun _ _ _ => False.elim) hHeld (Or.inl ⟨by rfl, fun W9 hW => by clear hHeld hW; simp only [jA, jB, jC]; go_simp⟩) ?_
          try simp only [Act.put, jA, jB, jC, jD, jE, jF]
          refine tkH 38 (.bool false) rfl (by kernel_rfl) (fun _ _ _ => False.elim) hHeld (Or.inl ⟨by rfl, fun W9 hW => by clear hHeld hW; simp only [jA, jB, jC]; go_simp⟩) ?_
          try simp only [Act.put, jA, jB, jC, jD, jE, jF]
          refine tkH 39 (.bool false) rfl (by kernel_rfl) (fun _ _ _ => False.elim) hHeld (Or.inl ⟨by rfl, fun W9 hW => by clear hHeld hW; simp only [jA, jB, jC]; go_simp⟩) ?_
          try simp only [Act.put, jA, jB, jC, jD, jE, jF]
          refine tkH 40 (.bool false) rfl (by kernel_rfl) (fun _ _ _ => False.elim) hHeld (Or.inl ⟨by rfl, fun W9 hW => by clear hHeld hW; simp only [jA, jB, jC]; go_simp⟩) ?_
          try simp only [Act.put, jA, jB, jC, jD, jE, jF]
          refine tkH 41 (.int .i64 (k : Int)) rfl (by kernel_rfl) (fun _ _ _ => False.elim) hHeld (Or.inl ⟨by rfl, fun W9 hW => by clear hHeld hW; simp only [jA, jB, jC]; go_simp⟩) ?_
          try simp only [Act.put, jA, jB, jC, jD, jE, jF]
          refine tkH 42 (.bool false) rfl (by kernel_rfl) (fun _ _ _ => False.elim) hHeld (Or.inl ⟨by rfl, fun W9 hW => by clear hHeld hW; simp only [jA, jB, jC]; go_simp⟩) ?_
          try simp only [Act.put, jA, jB, jC, jD, jE, jF]
          refine tkH 43 (.bool false) rfl (by kernel_rfl) (fun _ _ _ => False.elim) hHeld (Or.inl ⟨by rfl, fun W9 hW => by clear hHeld hW; simp only [jA, jB, jC]; go_simp⟩) ?_
          try simp only [Act.put, jA, jB, jC, jD, jE, jF]
          refine tkH 44 (undef) rfl (by kernel_rfl) (fun _ _ _ => False.elim) hHeld (Or.inr ⟨by rfl, by rfl⟩) ?_
          try simp only [Act.put, jA, jB, jC, jD, jE, jF]
          refine tkH 45 (undef) rfl (by kernel_rfl) (fun _ _ _ => False.elim) hHeld (Or.inr ⟨by rfl, by rfl⟩) ?_
          try simp only [Act.put, jA, jB, jC, jD, jE, jF]
          refine tkH 46 (undef) rfl (by kernel_rfl) (fun _ _ _ => False.elim) hHeld (Or.inr ⟨by rfl, by rfl⟩) ?_
          try simp only [Act.put, jA, jB, jC, jD, jE, jF]
          refine tkH 47 (undef) rfl (by kernel_rfl) (fun _ _ _ => False.elim) hHeld (Or.inr ⟨by rfl, by rfl⟩) ?_
          try simp only [Act.put, jA, jB, jC, jD, jE, jF]
          refine tkH 48 (undef) rfl (by kernel_rfl) (fun _ _ _ => False.elim) hHeld (Or.inr ⟨by rfl, by rfl⟩) ?_
          try simp only [Act.put, jA, jB, jC, jD, jE, jF]
          refine tkH 49 (undef) rfl (by kernel_rfl) (fun _ _ _ => False.elim) hHeld (Or.inr ⟨by rfl, by rfl⟩) ?_
          try simp only [Act.put, jA, jB, jC, jD, jE, jF]
          refine tkH 50 (undef) rfl (by kernel_rfl) (fun _ _ _ => False.elim) hHeld (Or.inr ⟨by rfl, by rfl⟩) ?_
          try simp only [Act.put, jA, jB, jC, jD, jE, jF]
          refine tkH 51 (undef) rfl (by kernel_rfl) (fun _ _ _ => False.elim) hHeld (Or.inr ⟨by rfl, by rfl⟩) ?_
          try simp only [Act.put, jA, jB, jC, jD, jE, jF]
          refine tkH 52 (undef) rfl (by kernel_rfl) (fun _ _ _ => False.elim) hHeld (Or.inr ⟨by rfl, by rfl⟩) ?_
          try simp only [Act.put, jA, jB, jC, jD, jE, jF]
          refine tkH 53 (undef) rfl (by kernel_rfl) (fun _ _ _ => False.elim) hHeld (Or.inr ⟨by rfl, by rfl⟩) ?_
          try simp only [Act.put, jA, jB, jC, jD, jE, jF]
          refine tkH 54 (undef) rfl (by kernel_rfl) (fun _ _ _ => False.elim) hHeld (Or.inr ⟨by rfl, by rfl⟩) ?_
          try simp only [Act.put, jA, jB, jC, jD, jE, jF]
          refine tkH 55 (undef) rfl (by kernel_rfl) (fun _ _ _ => False.elim) hHeld (Or.inr ⟨by rfl, by rfl⟩) ?_
          try simp only [Act.put, jA, jB, jC, jD, jE, jF]
          refine tkH 56 (.bool false) rfl (by kernel_rfl) (fun _ _ _ => False.elim) hHeld (Or.inl ⟨by rfl, fun W9 hW => by clear hHeld hW; simp only [jA, jB, jC]; go_simp⟩) ?_
          try simp only [Act.put, jA, jB, jC, jD, jE, jF]
          refine tkH 57 (.bool false) rfl (by kernel_rfl) (fun _ _ _ => False.elim) hHeld (Or.inl ⟨by rfl, fun W9 hW => by clear hHeld hW; simp only [jA, jB, jC]; go_simp⟩) ?_
          try simp only [Act.put, jA, jB, jC, jD, jE, jF]
          refine wpAnyH_done (by kernel_rfl) (NoPanic.normal ?_) _
          have HB9 := hid (HB5.out.trans (hHeld.out.mono HB5.out.size))
          go_wp2_with fail
          go_roundw
          · exact ⟨k + 1, by omega, by go_num, HB9, hid (by rw [HST.out, HOK.out, HA.out]; rfl)⟩
          · simp [intOf]; omega
        obtain ⟨j, rfl⟩ : ∃ j, k = j + 1 := ⟨k - 1, by omega⟩
        obtain ⟨p, hp⟩ : ∃ p, R.sp[j]? = some p := ⟨_, List.getElem?_eq_getElem (by omega)⟩
        have hpv : prevB R.sp (j + 1) o.f = Op.bytesLess p.f o.f := by show (match R.sp[j]? with | some p => Op.bytesLess p.f o.f | none => true) = _; rw [hp]
        obtain ⟨b9, of9, x8, d8, e9, -, c8, r8⟩ := HC.out j p hp
        cases e9
        have HZ8 := hid c8
        have HR8 := hid r8
        clear c8 r8 hp
        have hji : (0 : Int) < ((j + 1 : Nat) : Int) := by omega
        have hms : ((j + 1 : Nat) : Int) - 1 = (j : Int) := by omega
        have hwr : IntKind.i64.wrap (((j + 1 : Nat) : Int) - 1) = (j : Int) := by rw [hms]; exact IntWalk.i64_in _ (by omega)
        have hwm : IntKind.i64.wrap (j : Int) = (j : Int) := IntWalk.i64_in _ (by omega)
        have h0m : (0 : Int) ≤ (j : Int) := by omega
        have hjl : (j : Int) < (R.sp.length : Int) := by omega
        cases g12 : Op.bytesLess p.f o.f with
        | false =>
          have HOK : Hid (okOw R (j + 1) o = false) := hid (by rw [HOKD.out, hpv, g12]; simp)
          have HORD := hid (leq_of g12)
          refine wp_region_noPanic ?_
          refine wp_region_held_drew (S := fun V => Hid (Below w5.heap.size w5 V)) (by kernel_rfl) (hid (Below.drew (Below.refl _ _))) (fun hHeld => ?_)
          generalize w5.drew = Wd at *
          refine tkH 0 (.pointer (some ⟨g5, 0, none⟩)) rfl (by kernel_rfl) (fun _ _ _ => False.elim) hHeld (Or.inl ⟨by rfl, fun W9 hW => by clear hHeld hW; simp only [jA, jB, jC]; go_simp⟩) ?_
          try simp only [Act.put, jA, jB, jC, jD, jE, jF]
          refine tkH 1 (.int .i64 o.g) rfl (by kernel_rfl) (fun _ _ _ => False.elim) hHeld (Or.inl ⟨by rfl, fun W9 hW => by obtain ⟨p0, p1⟩ := HRo.out _ hW.out; clear hHeld hW; simp only [jA, jB, jC]; go_simp⟩) ?_
          try simp only [Act.put, jA, jB, jC, jD, jE, jF]
          refine tkH 2 (.pointer (some ⟨w.heap.size, 1, none⟩)) rfl (by kernel_rfl) (fun _ _ _ => False.elim) hHeld (Or.inl ⟨by rfl, fun W9 hW => by clear hHeld hW; simp only [jA, jB, jC]; go_simp⟩) ?_
          try simp only [Act.put, jA, jB, jC, jD, jE, jF]
          refine tkH 3 (.int .i64 R.base) rfl (by kernel_rfl) (fun _ _ _ => False.elim) hHeld (Or.inl ⟨by rfl, fun W9 hW => by obtain ⟨q0, q1, q2, q3, q4⟩ := HKR.out _ (HB5.out.trans (hW.out.mono HB5.out.size)); clear hHeld hW; simp only [jA, jB, jC]; go_simp⟩) ?_
          try simp only [Act.put, jA, jB, jC, jD, jE, jF]
          refine tkH 4 (.bool false) rfl (by kernel_rfl) (fun _ _ _ => False.elim) hHeld (Or.inl ⟨by rfl, fun W9 hW => by clear hHeld hW; simp only [jA, jB, jC]; go_simp⟩) ?_
          try simp only [Act.put, jA, jB, jC, jD, jE, jF]
          refine tkH 5 (.bool false) rfl (by kernel_rfl) (fun _ _ _ => False.elim) hHeld (Or.inl ⟨by rfl, fun W9 hW => by clear hHeld hW; simp only [jA, jB, jC]; go_simp⟩) ?_
          try simp only [Act.put, jA, jB, jC, jD, jE, jF]
          refine tkH 6 (.pointer (some ⟨g5, 0, none⟩)) rfl (by kernel_rfl) (fun _ _ _ => False.elim) hHeld (Or.inl ⟨by rfl, fun W9 hW => by clear hHeld hW; simp only [jA, jB, jC]; go_simp⟩) ?_
          try simp only [Act.put, jA, jB, jC, jD, jE, jF]
          refine tkH 7 (.int .i64 o.g) rfl (by kernel_rfl) (fun _ _ _ => False.elim) hHeld (Or.inl ⟨by rfl, fun W9 hW => by obtain ⟨p0, p1⟩ := HRo.out _ hW.out; clear hHeld hW; simp only [jA, jB, jC]; go_simp⟩) ?_
          try simp only [Act.put, jA, jB, jC, jD, jE, jF]
          refine tkH 8 (.pointer (some ⟨w.heap.size, 1, none⟩)) rfl (by kernel_rfl) (fun _ _ _ => False.elim) hHeld (Or.inl ⟨by rfl, fun W9 hW => by clear hHeld hW; simp only [jA, jB, jC]; go_simp⟩) ?_
          try simp only [Act.put, jA, jB, jC, jD, jE, jF]
          refine tkH 9 (.int .i64 R.base) rfl (by kernel_rfl) (fun _ _ _ => False.elim) hHeld (Or.inl ⟨by rfl, fun W9 hW => by obtain ⟨q0, q1, q2, q3, q4⟩ := HKR.out _ (HB5.out.trans (hW.out.mono HB5.out.size)); clear hHeld hW; simp only [jA, jB, jC]; go_simp⟩) ?_
          try simp only [Act.put, jA, jB, jC, jD, jE, jF]
          refine tkH 10 (.int .i64 (R.base + 4)) rfl (by kernel_rfl) (fun _ _ _ => False.elim) hHeld (Or.inl ⟨by rfl, fun W9 hW => by clear hHeld hW; simp only [jA, jB, jC]; go_simp⟩) ?_
          try simp only [Act.put, jA, jB, jC, jD, jE, jF]
          refine tkH 11 (.bool false) rfl (by kernel_rfl) (fun _ _ _ => False.elim) hHeld (Or.inl ⟨by rfl, fun W9 hW => by clear hHeld hW; simp only [jA, jB, jC]; go_simp⟩) ?_
          try simp only [Act.put, jA, jB, jC, jD, jE, jF]
          refine tkH 12 (.bool false) rfl (by kernel_rfl) (fun _ _ _ => False.elim) hHeld (Or.inl ⟨by rfl, fun W9 hW => by clear hHeld hW; simp only [jA, jB, jC]; go_simp⟩) ?_
          try simp only [Act.put, jA, jB, jC, jD, jE, jF]
          refine tkH 13 (.bool false) rfl (by kernel_rfl) (fun _ _ _ => False.elim) hHeld (Or.inl ⟨by rfl, fun W9 hW => by clear hHeld hW; simp only [jA, jB, jC]; go_simp⟩) ?_
          try simp only [Act.put, jA, jB, jC, jD, jE, jF]
          refine tkH 14 (.agg #[.int .i64 R.ep, .int .i64 R.base, .slice (some ⟨b1, of1, none⟩) R.sp.length c, .int .i64 R.mv, .slice b R.cut.length d]) rfl (by kernel_rfl) (fun _ _ _ => False.elim) hHeld (Or.inl ⟨by rfl, fun W9 hW => by obtain ⟨q0, q1, q2, q3, q4⟩ := HKR.out _ (HB5.out.trans (hW.out.mono HB5.out.size)); clear hHeld hW; simp only [jA, jB, jC]; go_simp⟩) ?_
          try simp only [Act.put, jA, jB, jC, jD, jE, jF]
          refine tkH 15 (.pointer (some ⟨g5, 0, none⟩)) rfl (by kernel_rfl) (fun _ _ _ => False.elim) hHeld (Or.inl ⟨by rfl, fun W9 hW => by clear hHeld hW; simp only [jA, jB, jC]; go_simp⟩) ?_
          try simp only [Act.put, jA, jB, jC, jD, jE, jF]
          refine tkH 16 (.int .i64 o.g) rfl (by kernel_rfl) (fun _ _ _ => False.elim) hHeld (Or.inl ⟨by rfl, fun W9 hW => by obtain ⟨p0, p1⟩ := HRo.out _ hW.out; clear hHeld hW; simp only [jA, jB, jC]; go_simp⟩) ?_
          try simp only [Act.put, jA, jB, jC, jD, jE, jF]
          refine tkH 18 (.int .i64 ((j + 1 : Nat) : Int)) rfl (by kernel_rfl) (fun _ _ _ => False.elim) hHeld (Or.inl ⟨by rfl, fun W9 hW => by clear hHeld hW; simp only [jA, jB, jC]; go_simp⟩) ?_
          try simp only [Act.put, jA, jB, jC, jD, jE, jF]
          refine rdH 17 (by kernel_rfl) rfl fun K hK => ?_
          rw [if_pos (by rfl)]
          go_simp
          have CQ := hid (at_any (R := R) (b := b) (d := d) (HR.out.old (below_step HB5w.out hHeld.out)) o.g)
          go_wp2_with (first | (go_at_call 118; refine CQ.out.mono ?_; rintro en w6 ⟨rfl, hbE⟩; have HBE := hid (below_step hHeld.out hbE)))
          clear CQ hHeld
          refine hK.out _ _ HBE (fun hHeld => ?_)
          clear hK K HBE
          try simp only [Act.put, jA, jB, jC, jD, jE, jF]
          refine tkH 19 (.bool false) rfl (by kernel_rfl) (fun _ _ _ => False.elim) hHeld (Or.inl ⟨by rfl, fun W9 hW => by clear hHeld hW; simp only [jA, jB, jC]; go_simp⟩) ?_
          try simp only [Act.put, jA, jB, jC, jD, jE, jF]
          refine tkH 20 (.bool false) rfl (by kernel_rfl) (fun _ _ _ => False.elim) hHeld (Or.inl ⟨by rfl, fun W9 hW => by clear hHeld hW; simp only [jA, jB, jC]; go_simp⟩) ?_
          try simp only [Act.put, jA, jB, jC, jD, jE, jF]
          refine tkH 21 (.bool false) rfl (by kernel_rfl) (fun _ _ _ => False.elim) hHeld (Or.inl ⟨by rfl, fun W9 hW => by clear hHeld hW; simp only [jA, jB, jC]; go_simp⟩) ?_
          try simp only [Act.put, jA, jB, jC, jD, jE, jF]
          refine tkH 22 (.pointer (some ⟨g5, 1, none⟩)) rfl (by kernel_rfl) (fun _ _ _ => False.elim) hHeld (Or.inl ⟨by rfl, fun W9 hW => by clear hHeld hW; simp only [jA, jB, jC]; go_simp⟩) ?_
          try simp only [Act.put, jA, jB, jC, jD, jE, jF]
          refine tkH 23 (.slice (some ⟨b7, of7, none⟩) o.f.length d5) rfl (by kernel_rfl) (fun _ _ _ => False.elim) hHeld (Or.inl ⟨by rfl, fun W9 hW => by obtain ⟨p0, p1⟩ := HRo.out _ hW.out; clear hHeld hW; simp only [jA, jB, jC]; go_simp⟩) ?_
          try simp only [Act.put, jA, jB, jC, jD, jE, jF]
          refine tkH 24 (.int .i64 (o.f.length : Int)) rfl (by kernel_rfl) (fun _ _ _ => False.elim) hHeld (Or.inl ⟨by rfl, fun W9 hW => by clear hHeld hW; simp only [jA, jB, jC]; go_simp⟩) ?_
          try simp only [Act.put, jA, jB, jC, jD, jE, jF]
          refine tkH 25 (.bool false) rfl (by kernel_rfl) (fun _ _ _ => False.elim) hHeld (Or.inl ⟨by rfl, fun W9 hW => by clear hHeld hW; simp only [jA, jB, jC]; go_simp⟩) ?_
          try simp only [Act.put, jA, jB, jC, jD, jE, jF]
          refine tkH 26 (.bool false) rfl (by kernel_rfl) (fun _ _ _ => False.elim) hHeld (Or.inl ⟨by rfl, fun W9 hW => by clear hHeld hW; simp only [jA, jB, jC]; go_simp⟩) ?_
          try simp only [Act.put, jA, jB, jC, jD, jE, jF]
          refine tkH 27 (.bool false) rfl (by kernel_rfl) (fun _ _ _ => False.elim) hHeld (Or.inl ⟨by rfl, fun W9 hW => by clear hHeld hW; simp only [jA, jB, jC]; go_simp⟩) ?_
          try simp only [Act.put, jA, jB, jC, jD, jE, jF]
          refine tkH 28 (.pointer (some ⟨g5, 1, none⟩)) rfl (by kernel_rfl) (fun _ _ _ => False.elim) hHeld (Or.inl ⟨by rfl, fun W9 hW => by clear hHeld hW; simp only [jA, jB, jC]; go_simp⟩) ?_
          try simp only [Act.put, jA, jB, jC, jD, jE, jF]
          refine tkH 29 (.slice (some ⟨b7, of7, none⟩) o.f.length d5) rfl (by kernel_rfl) (fun _ _ _ => False.elim) hHeld (Or.inl ⟨by rfl, fun W9 hW => by obtain ⟨p0, p1⟩ := HRo.out _ hW.out; clear hHeld hW; simp only [jA, jB, jC]; go_simp⟩) ?_
          try simp only [Act.put, jA, jB, jC, jD, jE, jF]
          refine tkH 30 (.pointer (some ⟨b7, of7, none⟩)) rfl (by kernel_rfl) (fun _ _ _ => False.elim) hHeld (Or.inl ⟨by rfl, fun W9 hW => by clear hHeld hW; simp only [jA, jB, jC]; go_simp⟩) ?_
          try simp only [Act.put, jA, jB, jC, jD, jE, jF]
          refine tkH 31 (.int .u8 (z7.toNat : Int)) rfl (by kernel_rfl) (fun _ _ _ => False.elim) hHeld (Or.inl ⟨by rfl, fun W9 hW => by have p7 := ((below_step HB5w.out hW.out).cell (block_cell HZ7.out)).trans HZ7.out; clear hHeld hW; simp only [jA, jB, jC]; go_simp⟩) ?_
          try simp only [Act.put, jA, jB, jC, jD, jE, jF]
          refine tkH 32 (.bool false) rfl (by kernel_rfl) (fun _ _ _ => False.elim) hHeld (Or.inl ⟨by rfl, fun W9 hW => by clear hHeld hW; simp only [jA, jB, jC]; go_simp⟩) ?_
          try simp only [Act.put, jA, jB, jC, jD, jE, jF]
          refine tkH 33 (.bool false) rfl (by kernel_rfl) (fun _ _ _ => False.elim) hHeld (Or.inl ⟨by rfl, fun W9 hW => by clear hHeld hW; simp only [jA, jB, jC]; go_simp⟩) ?_
          try simp only [Act.put, jA, jB, jC, jD, jE, jF]
          refine tkH 34 (.bool false) rfl (by kernel_rfl) (fun _ _ _ => False.elim) hHeld (Or.inl ⟨by rfl, fun W9 hW => by clear hHeld hW; simp only [jA, jB, jC]; go_simp⟩) ?_
          try simp only [Act.put, jA, jB, jC, jD, jE, jF]
          refine tkH 35 (.pointer (some ⟨g5, 1, none⟩)) rfl (by kernel_rfl) (fun _ _ _ => False.elim) hHeld (Or.inl ⟨by rfl, fun W9 hW => by clear hHeld hW; simp only [jA, jB, jC]; go_simp⟩) ?_
          try simp only [Act.put, jA, jB, jC, jD, jE, jF]
          refine tkH 36 (.slice (some ⟨b7, of7, none⟩) o.f.length d5) rfl (by kernel_rfl) (fun _ _ _ => False.elim) hHeld (Or.inl ⟨by rfl, fun W9 hW => by obtain ⟨p0, p1⟩ := HRo.out _ hW.out; clear hHeld hW; simp only [jA, jB, jC]; go_simp⟩) ?_
          try simp only [Act.put, jA, jB, jC, jD, jE, jF]
          refine tkH 37 (.int .i64 (o.f.length : Int)) rfl (by kernel_rfl) (fun _ _ _ => False.elim) hHeld (Or.inl ⟨by rfl, fun W9 hW => by clear hHeld hW; simp only [jA, jB, jC]; go_simp⟩) ?_
          try simp only [Act.put, jA, jB, jC, jD, jE, jF]
          refine tkH 38 (.bool false) rfl (by kernel_rfl) (fun _ _ _ => False.elim) hHeld (Or.inl ⟨by rfl, fun W9 hW => by clear hHeld hW; simp only [jA, jB, jC]; go_simp⟩) ?_
          try simp only [Act.put, jA, jB, jC, jD, jE, jF]
          refine tkH 39 (.bool false) rfl (by kernel_rfl) (fun _ _ _ => False.elim) hHeld (Or.inl ⟨by rfl, fun W9 hW => by clear hHeld hW; simp only [jA, jB, jC]; go_simp⟩) ?_
          try simp only [Act.put, jA, jB, jC, jD, jE, jF]
          refine tkH 40 (.bool false) rfl (by kernel_rfl) (fun _ _ _ => False.elim) hHeld (Or.inl ⟨by rfl, fun W9 hW => by clear hHeld hW; simp only [jA, jB, jC]; go_simp⟩) ?_
          try simp only [Act.put, jA, jB, jC, jD, jE, jF]
          refine tkH 41 (.int .i64 ((j + 1 : Nat) : Int)) rfl (by kernel_rfl) (fun _ _ _ => False.elim) hHeld (Or.inl ⟨by rfl, fun W9 hW => by clear hHeld hW; simp only [jA, jB, jC]; go_simp⟩) ?_
          try simp only [Act.put, jA, jB, jC, jD, jE, jF]
          refine tkH 42 (.bool true) rfl (by kernel_rfl) (fun _ _ _ => False.elim) hHeld (Or.inl ⟨by rfl, fun W9 hW => by clear hHeld hW; simp only [jA, jB, jC]; go_simp⟩) ?_
          try simp only [Act.put, jA, jB, jC, jD, jE, jF]
          refine tkH 43 (.bool true) rfl (by kernel_rfl) (fun _ _ _ => False.elim) hHeld (Or.inl ⟨by rfl, fun W9 hW => by clear hHeld hW; simp only [jA, jB, jC]; go_simp⟩) ?_
          try simp only [Act.put, jA, jB, jC, jD, jE, jF]
          refine tkH 44 (.pointer (some ⟨g5, 1, none⟩)) rfl (by kernel_rfl) (fun _ _ _ => False.elim) hHeld (Or.inl ⟨by rfl, fun W9 hW => by clear hHeld hW; simp only [jA, jB, jC]; go_simp⟩) ?_
          try simp only [Act.put, jA, jB, jC, jD, jE, jF]
          refine tkH 45 (.slice (some ⟨b7, of7, none⟩) o.f.length d5) rfl (by kernel_rfl) (fun _ _ _ => False.elim) hHeld (Or.inl ⟨by rfl, fun W9 hW => by obtain ⟨p0, p1⟩ := HRo.out _ hW.out; clear hHeld hW; simp only [jA, jB, jC]; go_simp⟩) ?_
          try simp only [Act.put, jA, jB, jC, jD, jE, jF]
          refine tkH 46 (.string ⟨o.f.toArray⟩) rfl (by kernel_rfl) (fun _ _ _ => False.elim) hHeld (Or.inl ⟨by rfl, fun W9 hW => by have t9 := (HRD.out.old (below_step HB5w.out hW.out)).conv (P := Try.prog) 62 9 5 Try.underlying62 Try.underlying5 Try.underlying9; clear hHeld hW; simp only [jA, jB, jC]; go_simp⟩) ?_
          try simp only [Act.put, jA, jB, jC, jD, jE, jF]
          refine tkH 47 (.pointer (some ⟨w.heap.size, 2, none⟩)) rfl (by kernel_rfl) (fun _ _ _ => False.elim) hHeld (Or.inl ⟨by rfl, fun W9 hW => by clear hHeld hW; simp only [jA, jB, jC]; go_simp⟩) ?_
          try simp only [Act.put, jA, jB, jC, jD, jE, jF]
          refine tkH 48 (.slice (some ⟨b1, of1, none⟩) R.sp.length c) rfl (by kernel_rfl) (fun _ _ _ => False.elim) hHeld (Or.inl ⟨by rfl, fun W9 hW => by obtain ⟨q0, q1, q2, q3, q4⟩ := HKR.out _ (HB5.out.trans (hW.out.mono HB5.out.size)); clear hHeld hW; simp only [jA, jB, jC]; go_simp⟩) ?_
          try simp only [Act.put, jA, jB, jC, jD, jE, jF]
          refine tkH 49 (.int .i64 ((j + 1 : Nat) : Int)) rfl (by kernel_rfl) (fun _ _ _ => False.elim) hHeld (Or.inl ⟨by rfl, fun W9 hW => by clear hHeld hW; simp only [jA, jB, jC]; go_simp⟩) ?_
          try simp only [Act.put, jA, jB, jC, jD, jE, jF]
          refine tkH 50 (.int .i64 (j : Int)) rfl (by kernel_rfl) (fun _ _ _ => False.elim) hHeld (Or.inl ⟨by rfl, fun W9 hW => by clear hHeld hW; simp only [jA, jB, jC]; go_simp⟩) ?_
          try simp only [Act.put, jA, jB, jC, jD, jE, jF]
          refine tkH 51 (.pointer (some ⟨b1, of1 + j * 2, none⟩)) rfl (by kernel_rfl) (fun _ _ _ => False.elim) hHeld (Or.inl ⟨by rfl, fun W9 hW => by clear hHeld hW; simp only [jA, jB, jC]; go_simp⟩) ?_
          try simp only [Act.put, jA, jB, jC, jD, jE, jF]
          refine tkH 52 (.pointer (some ⟨b1, of1 + j * 2 + 1, none⟩)) rfl (by kernel_rfl) (fun _ _ _ => False.elim) hHeld (Or.inl ⟨by rfl, fun W9 hW => by clear hHeld hW; simp only [jA, jB, jC]; go_simp⟩) ?_
          try simp only [Act.put, jA, jB, jC, jD, jE, jF]
          refine tkH 53 (.slice x8 p.f.length d8) rfl (by kernel_rfl) (fun _ _ _ => False.elim) hHeld (Or.inl ⟨by rfl, fun W9 hW => by have p8 := ((below_step HB5w.out hW.out).cell (block_cell HZ8.out)).trans HZ8.out; clear hHeld hW; simp only [jA, jB, jC]; go_simp⟩) ?_
          try simp only [Act.put, jA, jB, jC, jD, jE, jF]
          refine tkH 54 (.string ⟨p.f.toArray⟩) rfl (by kernel_rfl) (fun _ _ _ => False.elim) hHeld (Or.inl ⟨by rfl, fun W9 hW => by have t9 := (HR8.out.old (below_step HB5w.out hW.out)).conv (P := Try.prog) 62 9 5 Try.underlying62 Try.underlying5 Try.underlying9; clear hHeld hW; simp only [jA, jB, jC]; go_simp⟩) ?_
          try simp only [Act.put, jA, jB, jC, jD, jE, jF]
          refine tkH 55 (.bool true) rfl (by kernel_rfl) (fun _ _ _ => False.elim) hHeld (Or.inl ⟨by rfl, fun W9 hW => by clear hHeld hW; simp only [jA, jB, jC]; go_simp; exact HORD.out⟩) ?_
          try simp only [Act.put, jA, jB, jC, jD, jE, jF]
          refine tkH 56 (.bool true) rfl (by kernel_rfl) (fun _ _ _ => False.elim) hHeld (Or.inl ⟨by rfl, fun W9 hW => by clear hHeld hW; simp only [jA, jB, jC]; go_simp⟩) ?_
          try simp only [Act.put, jA, jB, jC, jD, jE, jF]
          refine tkH 57 (.bool true) rfl (by kernel_rfl) (fun _ _ _ => False.elim) hHeld (Or.inl ⟨by rfl, fun W9 hW => by clear hHeld hW; simp only [jA, jB, jC]; go_simp⟩) ?_
          try simp only [Act.put, jA, jB, jC, jD, jE, jF]
          refine wpAnyH_done (by kernel_rfl) (NoPanic.normal ?_) _
          have HB9 := hid (below_step HB5w.out hHeld.out)
          go_wp2_with fail
          go_ret
          exact ⟨by rw [HRB2.out, allOk_bad (k := j + 1 + 1) (by rw [HST.out, HOK.out]; simp) _ (by omega)]; simp, HB9.out⟩
        | true =>
          have HOK : Hid (okOw R (j + 1) o = true) := hid (by rw [HOKD.out, hbeg, hpv, g12]; simp [g6, g7, g8, g9, g11])
          have HORD := hid (leq_not g12)
          refine wp_region_noPanic ?_
          refine wp_region_held_drew (S := fun V => Hid (Below w5.heap.size w5 V)) (by kernel_rfl) (hid (Below.drew (Below.refl _ _))) (fun hHeld => ?_)
          generalize w5.drew = Wd at *
          refine tkH 0 (.pointer (some ⟨g5, 0, none⟩)) rfl (by kernel_rfl) (fun _ _ _ => False.elim) hHeld (Or.inl ⟨by rfl, fun W9 hW => by clear hHeld hW; simp only [jA, jB, jC]; go_simp⟩) ?_
          try simp only [Act.put, jA, jB, jC, jD, jE, jF]
          refine tkH 1 (.int .i64 o.g) rfl (by kernel_rfl) (fun _ _ _ => False.elim) hHeld (Or.inl ⟨by rfl, fun W9 hW => by obtain ⟨p0, p1⟩ := HRo.out _ hW.out; clear hHeld hW; simp only [jA, jB, jC]; go_simp⟩) ?_
          try simp only [Act.put, jA, jB, jC, jD, jE, jF]
          refine tkH 2 (.pointer (some ⟨w.heap.size, 1, none⟩)) rfl (by kernel_rfl) (fun _ _ _ => False.elim) hHeld (Or.inl ⟨by rfl, fun W9 hW => by clear hHeld hW; simp only [jA, jB, jC]; go_simp⟩) ?_
          try simp only [Act.put, jA, jB, jC, jD, jE, jF]
          refine tkH 3 (.int .i64 R.base) rfl (by kernel_rfl) (fun _ _ _ => False.elim) hHeld (Or.inl ⟨by rfl, fun W9 hW => by obtain ⟨q0, q1, q2, q3, q4⟩ := HKR.out _ (HB5.out.trans (hW.out.mono HB5.out.size)); clear hHeld hW; simp only [jA, jB, jC]; go_simp⟩) ?_
          try simp only [Act.put, jA, jB, jC, jD, jE, jF]
          refine tkH 4 (.bool false) rfl (by kernel_rfl) (fun _ _ _ => False.elim) hHeld (Or.inl ⟨by rfl, fun W9 hW => by clear hHeld hW; simp only [jA, jB, jC]; go_simp⟩) ?_
          try simp only [Act.put, jA, jB, jC, jD, jE, jF]
          refine tkH 5 (.bool false) rfl (by kernel_rfl) (fun _ _ _ => False.elim) hHeld (Or.inl ⟨by rfl, fun W9 hW => by clear hHeld hW; simp only [jA, jB, jC]; go_simp⟩) ?_
          try simp only [Act.put, jA, jB, jC, jD, jE, jF]
          refine tkH 6 (.pointer (some ⟨g5, 0, none⟩)) rfl (by kernel_rfl) (fun _ _ _ => False.elim) hHeld (Or.inl ⟨by rfl, fun W9 hW => by clear hHeld hW; simp only [jA, jB, jC]; go_simp⟩) ?_
          try simp only [Act.put, jA, jB, jC, jD, jE, jF]
          refine tkH 7 (.int .i64 o.g) rfl (by kernel_rfl) (fun _ _ _ => False.elim) hHeld (Or.inl ⟨by rfl, fun W9 hW => by obtain ⟨p0, p1⟩ := HRo.out _ hW.out; clear hHeld hW; simp only [jA, jB, jC]; go_simp⟩) ?_
          try simp only [Act.put, jA, jB, jC, jD, jE, jF]
          refine tkH 8 (.pointer (some ⟨w.heap.size, 1, none⟩)) rfl (by kernel_rfl) (fun _ _ _ => False.elim) hHeld (Or.inl ⟨by rfl, fun W9 hW => by clear hHeld hW; simp only [jA, jB, jC]; go_simp⟩) ?_
          try simp only [Act.put, jA, jB, jC, jD, jE, jF]
          refine tkH 9 (.int .i64 R.base) rfl (by kernel_rfl) (fun _ _ _ => False.elim) hHeld (Or.inl ⟨by rfl, fun W9 hW => by obtain ⟨q0, q1, q2, q3, q4⟩ := HKR.out _ (HB5.out.trans (hW.out.mono HB5.out.size)); clear hHeld hW; simp only [jA, jB, jC]; go_simp⟩) ?_
          try simp only [Act.put, jA, jB, jC, jD, jE, jF]
          refine tkH 10 (.int .i64 (R.base + 4)) rfl (by kernel_rfl) (fun _ _ _ => False.elim) hHeld (Or.inl ⟨by rfl, fun W9 hW => by clear hHeld hW; simp only [jA, jB, jC]; go_simp⟩) ?_
          try simp only [Act.put, jA, jB, jC, jD, jE, jF]
          refine tkH 11 (.bool false) rfl (by kernel_rfl) (fun _ _ _ => False.elim) hHeld (Or.inl ⟨by rfl, fun W9 hW => by clear hHeld hW; simp only [jA, jB, jC]; go_simp⟩) ?_
          try simp only [Act.put, jA, jB, jC, jD, jE, jF]
          refine tkH 12 (.bool false) rfl (by kernel_rfl) (fun _ _ _ => False.elim) hHeld (Or.inl ⟨by rfl, fun W9 hW => by clear hHeld hW; simp only [jA, jB, jC]; go_simp⟩) ?_
          try simp only [Act.put, jA, jB, jC, jD, jE, jF]
          refine tkH 13 (.bool false) rfl (by kernel_rfl) (fun _ _ _ => False.elim) hHeld (Or.inl ⟨by rfl, fun W9 hW => by clear hHeld hW; simp only [jA, jB, jC]; go_simp⟩) ?_
          try simp only [Act.put, jA, jB, jC, jD, jE, jF]
          refine tkH 14 (.agg #[.int .i64 R.ep, .int .i64 R.base, .slice (some ⟨b1, of1, none⟩) R.sp.length c, .int .i64 R.mv, .slice b R.cut.length d]) rfl (by kernel_rfl) (fun _ _ _ => False.elim) hHeld (Or.inl ⟨by rfl, fun W9 hW => by obtain ⟨q0, q1, q2, q3, q4⟩ := HKR.out _ (HB5.out.trans (hW.out.mono HB5.out.size)); clear hHeld hW; simp only [jA, jB, jC]; go_simp⟩) ?_
          try simp only [Act.put, jA, jB, jC, jD, jE, jF]
          refine tkH 15 (.pointer (some ⟨g5, 0, none⟩)) rfl (by kernel_rfl) (fun _ _ _ => False.elim) hHeld (Or.inl ⟨by rfl, fun W9 hW => by clear hHeld hW; simp only [jA, jB, jC]; go_simp⟩) ?_
          try simp only [Act.put, jA, jB, jC, jD, jE, jF]
          refine tkH 16 (.int .i64 o.g) rfl (by kernel_rfl) (fun _ _ _ => False.elim) hHeld (Or.inl ⟨by rfl, fun W9 hW => by obtain ⟨p0, p1⟩ := HRo.out _ hW.out; clear hHeld hW; simp only [jA, jB, jC]; go_simp⟩) ?_
          try simp only [Act.put, jA, jB, jC, jD, jE, jF]
          refine tkH 18 (.int .i64 ((j + 1 : Nat) : Int)) rfl (by kernel_rfl) (fun _ _ _ => False.elim) hHeld (Or.inl ⟨by rfl, fun W9 hW => by clear hHeld hW; simp only [jA, jB, jC]; go_simp⟩) ?_
          try simp only [Act.put, jA, jB, jC, jD, jE, jF]
          refine rdH 17 (by kernel_rfl) rfl fun K hK => ?_
          rw [if_pos (by rfl)]
          go_simp
          have CQ := hid (at_any (R := R) (b := b) (d := d) (HR.out.old (below_step HB5w.out hHeld.out)) o.g)
          go_wp2_with (first | (go_at_call 118; refine CQ.out.mono ?_; rintro en w6 ⟨rfl, hbE⟩; have HBE := hid (below_step hHeld.out hbE)))
          clear CQ hHeld
          refine hK.out _ _ HBE (fun hHeld => ?_)
          clear hK K HBE
          try simp only [Act.put, jA, jB, jC, jD, jE, jF]
          refine tkH 19 (.bool false) rfl (by kernel_rfl) (fun _ _ _ => False.elim) hHeld (Or.inl ⟨by rfl, fun W9 hW => by clear hHeld hW; simp only [jA, jB, jC]; go_simp⟩) ?_
          try simp only [Act.put, jA, jB, jC, jD, jE, jF]
          refine tkH 20 (.bool false) rfl (by kernel_rfl) (fun _ _ _ => False.elim) hHeld (Or.inl ⟨by rfl, fun W9 hW => by clear hHeld hW; simp only [jA, jB, jC]; go_simp⟩) ?_
          try simp only [Act.put, jA, jB, jC, jD, jE, jF]
          refine tkH 21 (.bool false) rfl (by kernel_rfl) (fun _ _ _ => False.elim) hHeld (Or.inl ⟨by rfl, fun W9 hW => by clear hHeld hW; simp only [jA, jB, jC]; go_simp⟩) ?_
          try simp only [Act.put, jA, jB, jC, jD, jE, jF]
          refine tkH 22 (.pointer (some ⟨g5, 1, none⟩)) rfl (by kernel_rfl) (fun _ _ _ => False.elim) hHeld (Or.inl ⟨by rfl, fun W9 hW => by clear hHeld hW; simp only [jA, jB, jC]; go_simp⟩) ?_
          try simp only [Act.put, jA, jB, jC, jD, jE, jF]
          refine tkH 23 (.slice (some ⟨b7, of7, none⟩) o.f.length d5) rfl (by kernel_rfl) (fun _ _ _ => False.elim) hHeld (Or.inl ⟨by rfl, fun W9 hW => by obtain ⟨p0, p1⟩ := HRo.out _ hW.out; clear hHeld hW; simp only [jA, jB, jC]; go_simp⟩) ?_
          try simp only [Act.put, jA, jB, jC, jD, jE, jF]
          refine tkH 24 (.int .i64 (o.f.length : Int)) rfl (by kernel_rfl) (fun _ _ _ => False.elim) hHeld (Or.inl ⟨by rfl, fun W9 hW => by clear hHeld hW; simp only [jA, jB, jC]; go_simp⟩) ?_
          try simp only [Act.put, jA, jB, jC, jD, jE, jF]
          refine tkH 25 (.bool false) rfl (by kernel_rfl) (fun _ _ _ => False.elim) hHeld (Or.inl ⟨by rfl, fun W9 hW => by clear hHeld hW; simp only [jA, jB, jC]; go_simp⟩) ?_
          try simp only [Act.put, jA, jB, jC, jD, jE, jF]
          refine tkH 26 (.bool false) rfl (by kernel_rfl) (fun _ _ _ => False.elim) hHeld (Or.inl ⟨by rfl, fun W9 hW => by clear hHeld hW; simp only [jA, jB, jC]; go_simp⟩) ?_
          try simp only [Act.put, jA, jB, jC, jD, jE, jF]
          refine tkH 27 (.bool false) rfl (by kernel_rfl) (fun _ _ _ => False.elim) hHeld (Or.inl ⟨by rfl, fun W9 hW => by clear hHeld hW; simp only [jA, jB, jC]; go_simp⟩) ?_
          try simp only [Act.put, jA, jB, jC, jD, jE, jF]
          refine tkH 28 (.pointer (some ⟨g5, 1, none⟩)) rfl (by kernel_rfl) (fun _ _ _ => False.elim) hHeld (Or.inl ⟨by rfl, fun W9 hW => by clear hHeld hW; simp only [jA, jB, jC]; go_simp⟩) ?_
          try simp only [Act.put, jA, jB, jC, jD, jE, jF]
          refine tkH 29 (.slice (some ⟨b7, of7, none⟩) o.f.length d5) rfl (by kernel_rfl) (fun _ _ _ => False.elim) hHeld (Or.inl ⟨by rfl, fun W9 hW => by obtain ⟨p0, p1⟩ := HRo.out _ hW.out; clear hHeld hW; simp only [jA, jB, jC]; go_simp⟩) ?_
          try simp only [Act.put, jA, jB, jC, jD, jE, jF]
          refine tkH 30 (.pointer (some ⟨b7, of7, none⟩)) rfl (by kernel_rfl) (fun _ _ _ => False.elim) hHeld (Or.inl ⟨by rfl, fun W9 hW => by clear hHeld hW; simp only [jA, jB, jC]; go_simp⟩) ?_
          try simp only [Act.put, jA, jB, jC, jD, jE, jF]
          refine tkH 31 (.int .u8 (z7.toNat : Int)) rfl (by kernel_rfl) (fun _ _ _ => False.elim) hHeld (Or.inl ⟨by rfl, fun W9 hW => by have p7 := ((below_step HB5w.out hW.out).cell (block_cell HZ7.out)).trans HZ7.out; clear hHeld hW; simp only [jA, jB, jC]; go_simp⟩) ?_
          try simp only [Act.put, jA, jB, jC, jD, jE, jF]
          refine tkH 32 (.bool false) rfl (by kernel_rfl) (fun _ _ _ => False.elim) hHeld (Or.inl ⟨by rfl, fun W9 hW => by clear hHeld hW; simp only [jA, jB, jC]; go_simp⟩) ?_
          try simp only [Act.put, jA, jB, jC, jD, jE, jF]
          refine tkH 33 (.bool false) rfl (by kernel_rfl) (fun _ _ _ => False.elim) hHeld (Or.inl ⟨by rfl, fun W9 hW => by clear hHeld hW; simp only [jA, jB, jC]; go_simp⟩) ?_
          try simp only [Act.put, jA, jB, jC, jD, jE, jF]
          refine tkH 34 (.bool false) rfl (by kernel_rfl) (fun _ _ _ => False.elim) hHeld (Or.inl ⟨by rfl, fun W9 hW => by clear hHeld hW; simp only [jA, jB, jC]; go_simp⟩) ?_
          try simp only [Act.put, jA, jB, jC, jD, jE, jF]
          refine tkH 35 (.pointer (some ⟨g5, 1, none⟩)) rfl (by kernel_rfl) (fun _ _ _ => False.elim) hHeld (Or.inl ⟨by rfl, fun W9 hW => by clear hHeld hW; simp only [jA, jB, jC]; go_simp⟩) ?_
          try simp only [Act.put, jA, jB, jC, jD, jE, jF]
          refine tkH 36 (.slice (some ⟨b7, of7, none⟩) o.f.length d5) rfl (by kernel_rfl) (fun _ _ _ => False.elim) hHeld (Or.inl ⟨by rfl, fun W9 hW => by obtain ⟨p0, p1⟩ := HRo.out _ hW.out; clear hHeld hW; simp only [jA, jB, jC]; go_simp⟩) ?_
          try simp only [Act.put, jA, jB, jC, jD, jE, jF]
          refine tkH 37 (.int .i64 (o.f.length : Int)) rfl (by kernel_rfl) (fun _ _ _ => False.elim) hHeld (Or.inl ⟨by rfl, fun W9 hW => by clear hHeld hW; simp only [jA, jB, jC]; go_simp⟩) ?_
          try simp only [Act.put, jA, jB, jC, jD, jE, jF]
          refine tkH 38 (.bool false) rfl (by kernel_rfl) (fun _ _ _ => False.elim) hHeld (Or.inl ⟨by rfl, fun W9 hW => by clear hHeld hW; simp only [jA, jB, jC]; go_simp⟩) ?_
          try simp only [Act.put, jA, jB, jC, jD, jE, jF]
          refine tkH 39 (.bool false) rfl (by kernel_rfl) (fun _ _ _ => False.elim) hHeld (Or.inl ⟨by rfl, fun W9 hW => by clear hHeld hW; simp only [jA, jB, jC]; go_simp⟩) ?_
          try simp only [Act.put, jA, jB, jC, jD, jE, jF]
          refine tkH 40 (.bool false) rfl (by kernel_rfl) (fun _ _ _ => False.elim) hHeld (Or.inl ⟨by rfl, fun W9 hW => by clear hHeld hW; simp only [jA, jB, jC]; go_simp⟩) ?_
          try simp only [Act.put, jA, jB, jC, jD, jE, jF]
          refine tkH 41 (.int .i64 ((j + 1 : Nat) : Int)) rfl (by kernel_rfl) (fun _ _ _ => False.elim) hHeld (Or.inl ⟨by rfl, fun W9 hW => by clear hHeld hW; simp only [jA, jB, jC]; go_simp⟩) ?_
          try simp only [Act.put, jA, jB, jC, jD, jE, jF]
          refine tkH 42 (.bool true) rfl (by kernel_rfl) (fun _ _ _ => False.elim) hHeld (Or.inl ⟨by rfl, fun W9 hW => by clear hHeld hW; simp only [jA, jB, jC]; go_simp⟩) ?_
          try simp only [Act.put, jA, jB, jC, jD, jE, jF]
          refine tkH 43 (.bool true) rfl (by kernel_rfl) (fun _ _ _ => False.elim) hHeld (Or.inl ⟨by rfl, fun W9 hW => by clear hHeld hW; simp only [jA, jB, jC]; go_simp⟩) ?_
          try simp only [Act.put, jA, jB, jC, jD, jE, jF]
          refine tkH 44 (.pointer (some ⟨g5, 1, none⟩)) rfl (by kernel_rfl) (fun _ _ _ => False.elim) hHeld (Or.inl ⟨by rfl, fun W9 hW => by clear hHeld hW; simp only [jA, jB, jC]; go_simp⟩) ?_
          try simp only [Act.put, jA, jB, jC, jD, jE, jF]
          refine tkH 45 (.slice (some ⟨b7, of7, none⟩) o.f.length d5) rfl (by kernel_rfl) (fun _ _ _ => False.elim) hHeld (Or.inl ⟨by rfl, fun W9 hW => by obtain ⟨p0, p1⟩ := HRo.out _ hW.out; clear hHeld hW; simp only [jA, jB, jC]; go_simp⟩) ?_
          try simp only [Act.put, jA, jB, jC, jD, jE, jF]
          refine tkH 46 (.string ⟨o.f.toArray⟩) rfl (by kernel_rfl) (fun _ _ _ => False.elim) hHeld (Or.inl ⟨by rfl, fun W9 hW => by have t9 := (HRD.out.old (below_step HB5w.out hW.out)).conv (P := Try.prog) 62 9 5 Try.underlying62 Try.underlying5 Try.underlying9; clear hHeld hW; simp only [jA, jB, jC]; go_simp⟩) ?_
          try simp only [Act.put, jA, jB, jC, jD, jE, jF]
          refine tkH 47 (.pointer (some ⟨w.heap.size, 2, none⟩)) rfl (by kernel_rfl) (fun _ _ _ => False.elim) hHeld (Or.inl ⟨by rfl, fun W9 hW => by clear hHeld hW; simp only [jA, jB, jC]; go_simp⟩) ?_
          try simp only [Act.put, jA, jB, jC, jD, jE, jF]
          refine tkH 48 (.slice (some ⟨b1, of1, none⟩) R.sp.length c) rfl (by kernel_rfl) (fun _ _ _ => False.elim) hHeld (Or.inl ⟨by rfl, fun W9 hW => by obtain ⟨q0, q1, q2, q3, q4⟩ := HKR.out _ (HB5.out.trans (hW.out.mono HB5.out.size)); clear hHeld hW; simp only [jA, jB, jC]; go_simp⟩) ?_
          try simp only [Act.put, jA, jB, jC, jD, jE, jF]
          refine tkH 49 (.int .i64 ((j + 1 : Nat) : Int)) rfl (by kernel_rfl) (fun _ _ _ => False.elim) hHeld (Or.inl ⟨by rfl, fun W9 hW => by clear hHeld hW; simp only [jA, jB, jC]; go_simp⟩) ?_
          try simp only [Act.put, jA, jB, jC, jD, jE, jF]
          refine tkH 50 (.int .i64 (j : Int)) rfl (by kernel_rfl) (fun _ _ _ => False.elim) hHeld (Or.inl ⟨by rfl, fun W9 hW => by clear hHeld hW; simp only [jA, jB, jC]; go_simp⟩) ?_
          try simp only [Act.put, jA, jB, jC, jD, jE, jF]
          refine tkH 51 (.pointer (some ⟨b1, of1 + j * 2, none⟩)) rfl (by kernel_rfl) (fun _ _ _ => False.elim) hHeld (Or.inl ⟨by rfl, fun W9 hW => by clear hHeld hW; simp only [jA, jB, jC]; go_simp⟩) ?_
          try simp only [Act.put, jA, jB, jC, jD, jE, jF]
          refine tkH 52 (.pointer (some ⟨b1, of1 + j * 2 + 1, none⟩)) rfl (by kernel_rfl) (fun _ _ _ => False.elim) hHeld (Or.inl ⟨by rfl, fun W9 hW => by clear hHeld hW; simp only [jA, jB, jC]; go_simp⟩) ?_
          try simp only [Act.put, jA, jB, jC, jD, jE, jF]
          refine tkH 53 (.slice x8 p.f.length d8) rfl (by kernel_rfl) (fun _ _ _ => False.elim) hHeld (Or.inl ⟨by rfl, fun W9 hW => by have p8 := ((below_step HB5w.out hW.out).cell (block_cell HZ8.out)).trans HZ8.out; clear hHeld hW; simp only [jA, jB, jC]; go_simp⟩) ?_
          try simp only [Act.put, jA, jB, jC, jD, jE, jF]
          refine tkH 54 (.string ⟨p.f.toArray⟩) rfl (by kernel_rfl) (fun _ _ _ => False.elim) hHeld (Or.inl ⟨by rfl, fun W9 hW => by have t9 := (HR8.out.old (below_step HB5w.out hW.out)).conv (P := Try.prog) 62 9 5 Try.underlying62 Try.underlying5 Try.underlying9; clear hHeld hW; simp only [jA, jB, jC]; go_simp⟩) ?_
          try simp only [Act.put, jA, jB, jC, jD, jE, jF]
          refine tkH 55 (.bool false) rfl (by kernel_rfl) (fun _ _ _ => False.elim) hHeld (Or.inl ⟨by rfl, fun W9 hW => by clear hHeld hW; simp only [jA, jB, jC]; go_simp; exact HORD.out⟩) ?_
          try simp only [Act.put, jA, jB, jC, jD, jE, jF]
          refine tkH 56 (.bool false) rfl (by kernel_rfl) (fun _ _ _ => False.elim) hHeld (Or.inl ⟨by rfl, fun W9 hW => by clear hHeld hW; simp only [jA, jB, jC]; go_simp⟩) ?_
          try simp only [Act.put, jA, jB, jC, jD, jE, jF]
          refine tkH 57 (.bool false) rfl (by kernel_rfl) (fun _ _ _ => False.elim) hHeld (Or.inl ⟨by rfl, fun W9 hW => by clear hHeld hW; simp only [jA, jB, jC]; go_simp⟩) ?_
          try simp only [Act.put, jA, jB, jC, jD, jE, jF]
          refine wpAnyH_done (by kernel_rfl) (NoPanic.normal ?_) _
          have HB9 := hid (HB5.out.trans (hHeld.out.mono HB5.out.size))
          go_wp2_with fail
          go_roundw
          · exact ⟨j + 1 + 1, by omega, by go_num, HB9, hid (by rw [HST.out, HOK.out, HA.out]; rfl)⟩
          · simp [intOf]; omega
      · obtain rfl : k = R.sp.length := by omega
        have HRB3 : Hid (rightB R = cutB R) := hid (by rw [HRB2.out, HA.out]; rfl)
        have hcd : cutB R = (if R.mv = 0 then decide (R.cut.length = 0)
          else match R.sp[(plcI R.sp R.mv).toNat]? with
            | some o => decide (0 ≤ plcI R.sp R.mv) && (decide (R.cut.length ≤ 600) && (Op.bytesLess o.f R.cut && inSpan o.f (toL R.sp (plcI R.sp R.mv).toNat) R.cut))
            | none => false) := rfl
        have HCD := hid hcd
        have HBw := hid (below_step HB1.out HBr.out)
        clear hcd
        by_cases h0 : R.mv = 0
        · rw [if_pos h0] at HCD
          have h0b : (R.mv == 0) = true := by simpa using h0
          by_cases hc0 : R.cut.length = 0
          · have hc0i : ((R.cut.length : Nat) : Int) = 0 := by omega
            go_wp2_with fail
            go_ret
            exact ⟨by rw [HRB3.out, HCD.out, decide_eq_true hc0]; rfl, HBw.out⟩
          · have hc0i : ¬ ((R.cut.length : Nat) : Int) = 0 := by omega
            have hc0j : (((R.cut.length : Nat) : Int) == 0) = false := by simpa using hc0i
            go_wp2_with fail
            go_ret
            exact ⟨by rw [HRB3.out, HCD.out, decide_eq_false hc0]; rfl, HBw.out⟩
        rw [if_neg h0] at HCD
        have h0b : (R.mv == 0) = false := by simpa using h0
        have CA := hid (at_any (R := R) (b := b) (d := d) (HR.out.old HBw.out) R.mv)
        go_upto_region 12 with (first | (go_at_call 118; refine CA.out.mono ?_; rintro en w6 ⟨rfl, hb6⟩; have HB6w := hid (below_step HBw.out hb6); have HB6 := hid (HBr.out.trans (hb6.mono HBr.out.size)); clear hb6 q0 q1 q2 q3 q4))
        clear HBr HBw CA
        rcases plc_cases R.sp R.mv with hp | ⟨k, o, hp, hk8⟩
        · have HR0 : Hid (rightB R = false) := hid (by rw [HRB3.out, HCD.out, hp]; split <;> rfl)
          rw [hp]
          refine wp_region_noPanic ?_
          refine wp_region_held_drew (S := fun V => Hid (Below w6.heap.size w6 V)) (by kernel_rfl) (hid (Below.drew (Below.refl _ _))) (fun hHeld => ?_)
          generalize w6.drew = Wd at *
          refine tkH 0 (.int .i64 (-1)) rfl (by kernel_rfl) (fun _ _ _ => False.elim) hHeld (Or.inl ⟨by rfl, fun W9 hW => by clear hHeld hW; simp only [jA, jB, jC]; go_simp⟩) ?_
          try simp only [Act.put, jA, jB, jC, jD, jE, jF]
          refine tkH 1 (.bool false) rfl (by kernel_rfl) (fun _ _ _ => False.elim) hHeld (Or.inl ⟨by rfl, fun W9 hW => by clear hHeld hW; simp only [jA, jB, jC]; go_simp⟩) ?_
          try simp only [Act.put, jA, jB, jC, jD, jE, jF]
          refine tkH 2 (.bool false) rfl (by kernel_rfl) (fun _ _ _ => False.elim) hHeld (Or.inl ⟨by rfl, fun W9 hW => by clear hHeld hW; simp only [jA, jB, jC]; go_simp⟩) ?_
          try simp only [Act.put, jA, jB, jC, jD, jE, jF]
          refine tkH 3 (undef) rfl (by kernel_rfl) (fun _ _ _ => False.elim) hHeld (Or.inr ⟨by rfl, by rfl⟩) ?_
          try simp only [Act.put, jA, jB, jC, jD, jE, jF]
          refine tkH 4 (undef) rfl (by kernel_rfl) (fun _ _ _ => False.elim) hHeld (Or.inr ⟨by rfl, by rfl⟩) ?_
          try simp only [Act.put, jA, jB, jC, jD, jE, jF]
          refine tkH 5 (undef) rfl (by kernel_rfl) (fun _ _ _ => False.elim) hHeld (Or.inr ⟨by rfl, by rfl⟩) ?_
          try simp only [Act.put, jA, jB, jC, jD, jE, jF]
          refine tkH 6 (undef) rfl (by kernel_rfl) (fun _ _ _ => False.elim) hHeld (Or.inr ⟨by rfl, by rfl⟩) ?_
          try simp only [Act.put, jA, jB, jC, jD, jE, jF]
          refine tkH 7 (.bool false) rfl (by kernel_rfl) (fun _ _ _ => False.elim) hHeld (Or.inl ⟨by rfl, fun W9 hW => by clear hHeld hW; simp only [jA, jB, jC]; go_simp⟩) ?_
          try simp only [Act.put, jA, jB, jC, jD, jE, jF]
          refine tkH 8 (.bool false) rfl (by kernel_rfl) (fun _ _ _ => False.elim) hHeld (Or.inl ⟨by rfl, fun W9 hW => by clear hHeld hW; simp only [jA, jB, jC]; go_simp⟩) ?_
          try simp only [Act.put, jA, jB, jC, jD, jE, jF]
          refine tkH 9 (undef) rfl (by kernel_rfl) (fun _ _ _ => False.elim) hHeld (Or.inr ⟨by rfl, by rfl⟩) ?_
          try simp only [Act.put, jA, jB, jC, jD, jE, jF]
          refine tkH 10 (undef) rfl (by kernel_rfl) (fun _ _ _ => False.elim) hHeld (Or.inr ⟨by rfl, by rfl⟩) ?_
          try simp only [Act.put, jA, jB, jC, jD, jE, jF]
          refine tkH 11 (undef) rfl (by kernel_rfl) (fun _ _ _ => False.elim) hHeld (Or.inr ⟨by rfl, by rfl⟩) ?_
          try simp only [Act.put, jA, jB, jC, jD, jE, jF]
          refine tkH 12 (undef) rfl (by kernel_rfl) (fun _ _ _ => False.elim) hHeld (Or.inr ⟨by rfl, by rfl⟩) ?_
          try simp only [Act.put, jA, jB, jC, jD, jE, jF]
          refine tkH 13 (undef) rfl (by kernel_rfl) (fun _ _ _ => False.elim) hHeld (Or.inr ⟨by rfl, by rfl⟩) ?_
          try simp only [Act.put, jA, jB, jC, jD, jE, jF]
          refine tkH 14 (undef) rfl (by kernel_rfl) (fun _ _ _ => False.elim) hHeld (Or.inr ⟨by rfl, by rfl⟩) ?_
          try simp only [Act.put, jA, jB, jC, jD, jE, jF]
          refine tkH 15 (undef) rfl (by kernel_rfl) (fun _ _ _ => False.elim) hHeld (Or.inr ⟨by rfl, by rfl⟩) ?_
          try simp only [Act.put, jA, jB, jC, jD, jE, jF]
          refine tkH 16 (undef) rfl (by kernel_rfl) (fun _ _ _ => False.elim) hHeld (Or.inr ⟨by rfl, by rfl⟩) ?_
          try simp only [Act.put, jA, jB, jC, jD, jE, jF]
          refine tkH 17 (undef) rfl (by kernel_rfl) (fun _ _ _ => False.elim) hHeld (Or.inr ⟨by rfl, by rfl⟩) ?_
          try simp only [Act.put, jA, jB, jC, jD, jE, jF]
          refine tkH 18 (undef) rfl (by kernel_rfl) (fun _ _ _ => False.elim) hHeld (Or.inr ⟨by rfl, by rfl⟩) ?_
          try simp only [Act.put, jA, jB, jC, jD, jE, jF]
          refine tkH 19 (undef) rfl (by kernel_rfl) (fun _ _ _ => False.elim) hHeld (Or.inr ⟨by rfl, by rfl⟩) ?_
          try simp only [Act.put, jA, jB, jC, jD, jE, jF]
          refine tkH 20 (.bool false) rfl (by kernel_rfl) (fun _ _ _ => False.elim) hHeld (Or.inl ⟨by rfl, fun W9 hW => by clear hHeld hW; simp only [jA, jB, jC]; go_simp⟩) ?_
          try simp only [Act.put, jA, jB, jC, jD, jE, jF]
          refine tkH 21 (.bool false) rfl (by kernel_rfl) (fun _ _ _ => False.elim) hHeld (Or.inl ⟨by rfl, fun W9 hW => by clear hHeld hW; simp only [jA, jB, jC]; go_simp⟩) ?_
          try simp only [Act.put, jA, jB, jC, jD, jE, jF]
          refine tkH 22 (undef) rfl (by kernel_rfl) (fun _ _ _ => False.elim) hHeld (Or.inr ⟨by rfl, by rfl⟩) ?_
          try simp only [Act.put, jA, jB, jC, jD, jE, jF]
          refine tkH 23 (undef) rfl (by kernel_rfl) (fun _ _ _ => False.elim) hHeld (Or.inr ⟨by rfl, by rfl⟩) ?_
          try simp only [Act.put, jA, jB, jC, jD, jE, jF]
          refine tkH 25 (undef) rfl (by kernel_rfl) (fun _ _ _ => False.elim) hHeld (Or.inr ⟨by rfl, by rfl⟩) ?_
          try simp only [Act.put, jA, jB, jC, jD, jE, jF]
          refine tkH 26 (undef) rfl (by kernel_rfl) (fun _ _ _ => False.elim) hHeld (Or.inr ⟨by rfl, by rfl⟩) ?_
          try simp only [Act.put, jA, jB, jC, jD, jE, jF]
          refine rdH 24 (by kernel_rfl) rfl fun K hK => ?_
          rw [if_neg (by intro h; exact absurd (show false = true from h) (by decide))]
          refine hK.out _ _ hHeld (fun hHeld => ?_)
          clear hK K
          try simp only [Act.put, jA, jB, jC, jD, jE, jF]
          refine rdH 27 (by kernel_rfl) rfl fun K hK => ?_
          rw [if_neg (by intro h; exact absurd (show false = true from h) (by decide))]
          refine hK.out _ _ hHeld (fun hHeld => ?_)
          clear hK K
          try simp only [Act.put, jA, jB, jC, jD, jE, jF]
          refine tkH 28 (.bool false) rfl (by kernel_rfl) (fun _ _ _ => False.elim) hHeld (Or.inl ⟨by rfl, fun W9 hW => by clear hHeld hW; simp only [jA, jB, jC]; go_simp⟩) ?_
          try simp only [Act.put, jA, jB, jC, jD, jE, jF]
          refine tkH 29 (.bool false) rfl (by kernel_rfl) (fun _ _ _ => False.elim) hHeld (Or.inl ⟨by rfl, fun W9 hW => by clear hHeld hW; simp only [jA, jB, jC]; go_simp⟩) ?_
          try simp only [Act.put, jA, jB, jC, jD, jE, jF]
          refine wpAnyH_done (by kernel_rfl) (NoPanic.normal ?_) _
          have HB9 := hid (below_step HB6w.out hHeld.out)
          go_wp2_with fail
          go_ret
          exact ⟨by rw [HR0.out]; rfl, HB9.out⟩
        have hdd : cutB R = (decide (R.cut.length ≤ 600) && (Op.bytesLess o.f R.cut && inSpan o.f (toL R.sp k) R.cut)) := by
          rw [HCD.out, hp]
          have e9 : ((k : Int)).toNat = k := by omega
          rw [e9, hk8]
          simp
        have HDD := hid hdd
        clear hdd HCD
        rw [hp]
        obtain ⟨b9, of9, x8, d8, e9, -, c8, r8⟩ := HC.out k o hk8
        cases e9
        have HZ8 := hid c8
        have HR8 := hid r8
        have HK8 := hid hk8
        have hki : (k : Int) < (R.sp.length : Int) := by have := (List.getElem?_eq_some_iff.1 hk8).1; omega
        have h0k : (0 : Int) ≤ (k : Int) := by omega
        clear c8 r8 hk8
        by_cases hc6 : R.cut.length ≤ 600
        case neg =>
          have hc6i : ¬ ((R.cut.length : Nat) : Int) ≤ 600 := by omega
          refine wp_region_noPanic ?_
          refine wp_region_held_drew (S := fun V => Hid (Below w6.heap.size w6 V)) (by kernel_rfl) (hid (Below.drew (Below.refl _ _))) (fun hHeld => ?_)
          generalize w6.drew = Wd at *
          refine tkH 0 (.int .i64 (k : Int)) rfl (by kernel_rfl) (fun _ _ _ => False.elim) hHeld (Or.inl ⟨by rfl, fun W9 hW => by clear hHeld hW; simp only [jA, jB, jC]; go_simp⟩) ?_
          try simp only [Act.put, jA, jB, jC, jD, jE, jF]
          refine tkH 1 (.bool true) rfl (by kernel_rfl) (fun _ _ _ => False.elim) hHeld (Or.inl ⟨by rfl, fun W9 hW => by clear hHeld hW; simp only [jA, jB, jC]; go_simp⟩) ?_
          try simp only [Act.put, jA, jB, jC, jD, jE, jF]
          refine tkH 2 (.bool true) rfl (by kernel_rfl) (fun _ _ _ => False.elim) hHeld (Or.inl ⟨by rfl, fun W9 hW => by clear hHeld hW; simp only [jA, jB, jC]; go_simp⟩) ?_
          try simp only [Act.put, jA, jB, jC, jD, jE, jF]
          refine tkH 3 (.pointer (some ⟨w.heap.size, 4, none⟩)) rfl (by kernel_rfl) (fun _ _ _ => False.elim) hHeld (Or.inl ⟨by rfl, fun W9 hW => by clear hHeld hW; simp only [jA, jB, jC]; go_simp⟩) ?_
          try simp only [Act.put, jA, jB, jC, jD, jE, jF]
          refine tkH 4 (.slice b R.cut.length d) rfl (by kernel_rfl) (fun _ _ _ => False.elim) hHeld (Or.inl ⟨by rfl, fun W9 hW => by obtain ⟨q0, q1, q2, q3, q4⟩ := HKR.out _ (HB6.out.trans (hW.out.mono HB6.out.size)); clear hHeld hW; simp only [jA, jB, jC]; go_simp⟩) ?_
          try simp only [Act.put, jA, jB, jC, jD, jE, jF]
          refine tkH 5 (.int .i64 (R.cut.length : Int)) rfl (by kernel_rfl) (fun _ _ _ => False.elim) hHeld (Or.inl ⟨by rfl, fun W9 hW => by clear hHeld hW; simp only [jA, jB, jC]; go_simp⟩) ?_
          try simp only [Act.put, jA, jB, jC, jD, jE, jF]
          refine tkH 6 (.bool false) rfl (by kernel_rfl) (fun _ _ _ => False.elim) hHeld (Or.inl ⟨by rfl, fun W9 hW => by clear hHeld hW; simp only [jA, jB, jC]; go_simp⟩) ?_
          try simp only [Act.put, jA, jB, jC, jD, jE, jF]
          refine tkH 7 (.bool false) rfl (by kernel_rfl) (fun _ _ _ => False.elim) hHeld (Or.inl ⟨by rfl, fun W9 hW => by clear hHeld hW; simp only [jA, jB, jC]; go_simp⟩) ?_
          try simp only [Act.put, jA, jB, jC, jD, jE, jF]
          refine tkH 8 (.bool false) rfl (by kernel_rfl) (fun _ _ _ => False.elim) hHeld (Or.inl ⟨by rfl, fun W9 hW => by clear hHeld hW; simp only [jA, jB, jC]; go_simp⟩) ?_
          try simp only [Act.put, jA, jB, jC, jD, jE, jF]
          refine tkH 9 (undef) rfl (by kernel_rfl) (fun _ _ _ => False.elim) hHeld (Or.inr ⟨by rfl, by rfl⟩) ?_
          try simp only [Act.put, jA, jB, jC, jD, jE, jF]
          refine tkH 10 (undef) rfl (by kernel_rfl) (fun _ _ _ => False.elim) hHeld (Or.inr ⟨by rfl, by rfl⟩) ?_
          try simp only [Act.put, jA, jB, jC, jD, jE, jF]
          refine tkH 11 (undef) rfl (by kernel_rfl) (fun _ _ _ => False.elim) hHeld (Or.inr ⟨by rfl, by rfl⟩) ?_
          try simp only [Act.put, jA, jB, jC, jD, jE, jF]
          refine tkH 12 (undef) rfl (by kernel_rfl) (fun _ _ _ => False.elim) hHeld (Or.inr ⟨by rfl, by rfl⟩) ?_
          try simp only [Act.put, jA, jB, jC, jD, jE, jF]
          refine tkH 13 (undef) rfl (by kernel_rfl) (fun _ _ _ => False.elim) hHeld (Or.inr ⟨by rfl, by rfl⟩) ?_
          try simp only [Act.put, jA, jB, jC, jD, jE, jF]
          refine tkH 14 (undef) rfl (by kernel_rfl) (fun _ _ _ => False.elim) hHeld (Or.inr ⟨by rfl, by rfl⟩) ?_
          try simp only [Act.put, jA, jB, jC, jD, jE, jF]
          refine tkH 15 (undef) rfl (by kernel_rfl) (fun _ _ _ => False.elim) hHeld (Or.inr ⟨by rfl, by rfl⟩) ?_
          try simp only [Act.put, jA, jB, jC, jD, jE, jF]
          refine tkH 16 (undef) rfl (by kernel_rfl) (fun _ _ _ => False.elim) hHeld (Or.inr ⟨by rfl, by rfl⟩) ?_
          try simp only [Act.put, jA, jB, jC, jD, jE, jF]
          refine tkH 17 (undef) rfl (by kernel_rfl) (fun _ _ _ => False.elim) hHeld (Or.inr ⟨by rfl, by rfl⟩) ?_
          try simp only [Act.put, jA, jB, jC, jD, jE, jF]
          refine tkH 18 (undef) rfl (by kernel_rfl) (fun _ _ _ => False.elim) hHeld (Or.inr ⟨by rfl, by rfl⟩) ?_
          try simp only [Act.put, jA, jB, jC, jD, jE, jF]
          refine tkH 19 (undef) rfl (by kernel_rfl) (fun _ _ _ => False.elim) hHeld (Or.inr ⟨by rfl, by rfl⟩) ?_
          try simp only [Act.put, jA, jB, jC, jD, jE, jF]
          refine tkH 20 (.bool false) rfl (by kernel_rfl) (fun _ _ _ => False.elim) hHeld (Or.inl ⟨by rfl, fun W9 hW => by clear hHeld hW; simp only [jA, jB, jC]; go_simp⟩) ?_
          try simp only [Act.put, jA, jB, jC, jD, jE, jF]
          refine tkH 21 (.bool false) rfl (by kernel_rfl) (fun _ _ _ => False.elim) hHeld (Or.inl ⟨by rfl, fun W9 hW => by clear hHeld hW; simp only [jA, jB, jC]; go_simp⟩) ?_
          try simp only [Act.put, jA, jB, jC, jD, jE, jF]
          refine tkH 22 (undef) rfl (by kernel_rfl) (fun _ _ _ => False.elim) hHeld (Or.inr ⟨by rfl, by rfl⟩) ?_
          try simp only [Act.put, jA, jB, jC, jD, jE, jF]
          refine tkH 23 (undef) rfl (by kernel_rfl) (fun _ _ _ => False.elim) hHeld (Or.inr ⟨by rfl, by rfl⟩) ?_
          try simp only [Act.put, jA, jB, jC, jD, jE, jF]
          refine tkH 25 (undef) rfl (by kernel_rfl) (fun _ _ _ => False.elim) hHeld (Or.inr ⟨by rfl, by rfl⟩) ?_
          try simp only [Act.put, jA, jB, jC, jD, jE, jF]
          refine tkH 26 (undef) rfl (by kernel_rfl) (fun _ _ _ => False.elim) hHeld (Or.inr ⟨by rfl, by rfl⟩) ?_
          try simp only [Act.put, jA, jB, jC, jD, jE, jF]
          refine rdH 24 (by kernel_rfl) rfl fun K hK => ?_
          rw [if_neg (by intro h; exact absurd (show false = true from h) (by decide))]
          refine hK.out _ _ hHeld (fun hHeld => ?_)
          clear hK K
          try simp only [Act.put, jA, jB, jC, jD, jE, jF]
          refine rdH 27 (by kernel_rfl) rfl fun K hK => ?_
          rw [if_neg (by intro h; exact absurd (show false = true from h) (by decide))]
          refine hK.out _ _ hHeld (fun hHeld => ?_)
          clear hK K
          try simp only [Act.put, jA, jB, jC, jD, jE, jF]
          refine tkH 28 (.bool false) rfl (by kernel_rfl) (fun _ _ _ => False.elim) hHeld (Or.inl ⟨by rfl, fun W9 hW => by clear hHeld hW; simp only [jA, jB, jC]; go_simp⟩) ?_
          try simp only [Act.put, jA, jB, jC, jD, jE, jF]
          refine tkH 29 (.bool false) rfl (by kernel_rfl) (fun _ _ _ => False.elim) hHeld (Or.inl ⟨by rfl, fun W9 hW => by clear hHeld hW; simp only [jA, jB, jC]; go_simp⟩) ?_
          try simp only [Act.put, jA, jB, jC, jD, jE, jF]
          refine wpAnyH_done (by kernel_rfl) (NoPanic.normal ?_) _
          have HB9 := hid (below_step HB6w.out hHeld.out)
          go_wp2_with fail
          go_ret
          exact ⟨by rw [HRB3.out, HDD.out, decide_eq_false hc6]; rfl, HB9.out⟩
        have hc6i : ((R.cut.length : Nat) : Int) ≤ 600 := by omega
        cases hc7 : Op.bytesLess o.f R.cut with
        | false =>
          have HORD : Hid (Op.bytesLess R.cut o.f = false → R.cut = o.f) := hid (fun h => (leq_of hc7).elim (fun h2 => by rw [h] at h2; cases h2) id)
          refine wp_region_noPanic ?_
          refine wp_region_held_drew (S := fun V => Hid (Below w6.heap.size w6 V)) (by kernel_rfl) (hid (Below.drew (Below.refl _ _))) (fun hHeld => ?_)
          generalize w6.drew = Wd at *
          refine tkH 0 (.int .i64 (k : Int)) rfl (by kernel_rfl) (fun _ _ _ => False.elim) hHeld (Or.inl ⟨by rfl, fun W9 hW => by clear hHeld hW; simp only [jA, jB, jC]; go_simp⟩) ?_
          try simp only [Act.put, jA, jB, jC, jD, jE, jF]
          refine tkH 1 (.bool true) rfl (by kernel_rfl) (fun _ _ _ => False.elim) hHeld (Or.inl ⟨by rfl, fun W9 hW => by clear hHeld hW; simp only [jA, jB, jC]; go_simp⟩) ?_
          try simp only [Act.put, jA, jB, jC, jD, jE, jF]
          refine tkH 2 (.bool true) rfl (by kernel_rfl) (fun _ _ _ => False.elim) hHeld (Or.inl ⟨by rfl, fun W9 hW => by clear hHeld hW; simp only [jA, jB, jC]; go_simp⟩) ?_
          try simp only [Act.put, jA, jB, jC, jD, jE, jF]
          refine tkH 3 (.pointer (some ⟨w.heap.size, 4, none⟩)) rfl (by kernel_rfl) (fun _ _ _ => False.elim) hHeld (Or.inl ⟨by rfl, fun W9 hW => by clear hHeld hW; simp only [jA, jB, jC]; go_simp⟩) ?_
          try simp only [Act.put, jA, jB, jC, jD, jE, jF]
          refine tkH 4 (.slice b R.cut.length d) rfl (by kernel_rfl) (fun _ _ _ => False.elim) hHeld (Or.inl ⟨by rfl, fun W9 hW => by obtain ⟨q0, q1, q2, q3, q4⟩ := HKR.out _ (HB6.out.trans (hW.out.mono HB6.out.size)); clear hHeld hW; simp only [jA, jB, jC]; go_simp⟩) ?_
          try simp only [Act.put, jA, jB, jC, jD, jE, jF]
          refine tkH 5 (.int .i64 (R.cut.length : Int)) rfl (by kernel_rfl) (fun _ _ _ => False.elim) hHeld (Or.inl ⟨by rfl, fun W9 hW => by clear hHeld hW; simp only [jA, jB, jC]; go_simp⟩) ?_
          try simp only [Act.put, jA, jB, jC, jD, jE, jF]
          refine tkH 6 (.bool true) rfl (by kernel_rfl) (fun _ _ _ => False.elim) hHeld (Or.inl ⟨by rfl, fun W9 hW => by clear hHeld hW; simp only [jA, jB, jC]; go_simp⟩) ?_
          try simp only [Act.put, jA, jB, jC, jD, jE, jF]
          refine tkH 7 (.bool true) rfl (by kernel_rfl) (fun _ _ _ => False.elim) hHeld (Or.inl ⟨by rfl, fun W9 hW => by clear hHeld hW; simp only [jA, jB, jC]; go_simp⟩) ?_
          try simp only [Act.put, jA, jB, jC, jD, jE, jF]
          refine tkH 8 (.bool true) rfl (by kernel_rfl) (fun _ _ _ => False.elim) hHeld (Or.inl ⟨by rfl, fun W9 hW => by clear hHeld hW; simp only [jA, jB, jC]; go_simp⟩) ?_
          try simp only [Act.put, jA, jB, jC, jD, jE, jF]
          refine tkH 9 (.pointer (some ⟨w.heap.size, 4, none⟩)) rfl (by kernel_rfl) (fun _ _ _ => False.elim) hHeld (Or.inl ⟨by rfl, fun W9 hW => by clear hHeld hW; simp only [jA, jB, jC]; go_simp⟩) ?_
          try simp only [Act.put, jA, jB, jC, jD, jE, jF]
          refine tkH 10 (.slice b R.cut.length d) rfl (by kernel_rfl) (fun _ _ _ => False.elim) hHeld (Or.inl ⟨by rfl, fun W9 hW => by obtain ⟨q0, q1, q2, q3, q4⟩ := HKR.out _ (HB6.out.trans (hW.out.mono HB6.out.size)); clear hHeld hW; simp only [jA, jB, jC]; go_simp⟩) ?_
          try simp only [Act.put, jA, jB, jC, jD, jE, jF]
          refine tkH 11 (.string ⟨R.cut.toArray⟩) rfl (by kernel_rfl) (fun _ _ _ => False.elim) hHeld (Or.inl ⟨by rfl, fun W9 hW => by have t9 := (HCUT.out.old (below_step HB6w.out hW.out)).conv (P := Try.prog) 62 9 5 Try.underlying62 Try.underlying5 Try.underlying9; clear hHeld hW; simp only [jA, jB, jC]; go_simp⟩) ?_
          try simp only [Act.put, jA, jB, jC, jD, jE, jF]
          refine tkH 12 (.pointer (some ⟨w.heap.size, 2, none⟩)) rfl (by kernel_rfl) (fun _ _ _ => False.elim) hHeld (Or.inl ⟨by rfl, fun W9 hW => by clear hHeld hW; simp only [jA, jB, jC]; go_simp⟩) ?_
          try simp only [Act.put, jA, jB, jC, jD, jE, jF]
          refine tkH 13 (.slice (some ⟨b1, of1, none⟩) R.sp.length c) rfl (by kernel_rfl) (fun _ _ _ => False.elim) hHeld (Or.inl ⟨by rfl, fun W9 hW => by obtain ⟨q0, q1, q2, q3, q4⟩ := HKR.out _ (HB6.out.trans (hW.out.mono HB6.out.size)); clear hHeld hW; simp only [jA, jB, jC]; go_simp⟩) ?_
          try simp only [Act.put, jA, jB, jC, jD, jE, jF]
          refine tkH 14 (.int .i64 (k : Int)) rfl (by kernel_rfl) (fun _ _ _ => False.elim) hHeld (Or.inl ⟨by rfl, fun W9 hW => by clear hHeld hW; simp only [jA, jB, jC]; go_simp⟩) ?_
          try simp only [Act.put, jA, jB, jC, jD, jE, jF]
          refine tkH 15 (.pointer (some ⟨b1, of1 + k * 2, none⟩)) rfl (by kernel_rfl) (fun _ _ _ => False.elim) hHeld (Or.inl ⟨by rfl, fun W9 hW => by clear hHeld hW; simp only [jA, jB, jC]; go_simp⟩) ?_
          try simp only [Act.put, jA, jB, jC, jD, jE, jF]
          refine tkH 16 (.pointer (some ⟨b1, of1 + k * 2 + 1, none⟩)) rfl (by kernel_rfl) (fun _ _ _ => False.elim) hHeld (Or.inl ⟨by rfl, fun W9 hW => by clear hHeld hW; simp only [jA, jB, jC]; go_simp⟩) ?_
          try simp only [Act.put, jA, jB, jC, jD, jE, jF]
          refine tkH 17 (.slice x8 o.f.length d8) rfl (by kernel_rfl) (fun _ _ _ => False.elim) hHeld (Or.inl ⟨by rfl, fun W9 hW => by have p8 := ((below_step HB6w.out hW.out).cell (block_cell HZ8.out)).trans HZ8.out; clear hHeld hW; simp only [jA, jB, jC]; go_simp⟩) ?_
          try simp only [Act.put, jA, jB, jC, jD, jE, jF]
          refine tkH 18 (.string ⟨o.f.toArray⟩) rfl (by kernel_rfl) (fun _ _ _ => False.elim) hHeld (Or.inl ⟨by rfl, fun W9 hW => by have t9 := (HR8.out.old (below_step HB6w.out hW.out)).conv (P := Try.prog) 62 9 5 Try.underlying62 Try.underlying5 Try.underlying9; clear hHeld hW; simp only [jA, jB, jC]; go_simp⟩) ?_
          try simp only [Act.put, jA, jB, jC, jD, jE, jF]
          refine tkH 19 (.bool false) rfl (by kernel_rfl) (fun _ _ _ => False.elim) hHeld (Or.inl ⟨by rfl, fun W9 hW => by clear hHeld hW; simp only [jA, jB, jC]; go_simp; exact HORD.out⟩) ?_
          try simp only [Act.put, jA, jB, jC, jD, jE, jF]
          refine tkH 20 (.bool false) rfl (by kernel_rfl) (fun _ _ _ => False.elim) hHeld (Or.inl ⟨by rfl, fun W9 hW => by clear hHeld hW; simp only [jA, jB, jC]; go_simp⟩) ?_
          try simp only [Act.put, jA, jB, jC, jD, jE, jF]
          refine tkH 21 (.bool false) rfl (by kernel_rfl) (fun _ _ _ => False.elim) hHeld (Or.inl ⟨by rfl, fun W9 hW => by clear hHeld hW; simp only [jA, jB, jC]; go_simp⟩) ?_
          try simp only [Act.put, jA, jB, jC, jD, jE, jF]
          refine tkH 22 (undef) rfl (by kernel_rfl) (fun _ _ _ => False.elim) hHeld (Or.inr ⟨by rfl, by rfl⟩) ?_
          try simp only [Act.put, jA, jB, jC, jD, jE, jF]
          refine tkH 23 (undef) rfl (by kernel_rfl) (fun _ _ _ => False.elim) hHeld (Or.inr ⟨by rfl, by rfl⟩) ?_
          try simp only [Act.put, jA, jB, jC, jD, jE, jF]
          refine tkH 25 (undef) rfl (by kernel_rfl) (fun _ _ _ => False.elim) hHeld (Or.inr ⟨by rfl, by rfl⟩) ?_
          try simp only [Act.put, jA, jB, jC, jD, jE, jF]
          refine tkH 26 (undef) rfl (by kernel_rfl) (fun _ _ _ => False.elim) hHeld (Or.inr ⟨by rfl, by rfl⟩) ?_
          try simp only [Act.put, jA, jB, jC, jD, jE, jF]
          refine rdH 24 (by kernel_rfl) rfl fun K hK => ?_
          rw [if_neg (by intro h; exact absurd (show false = true from h) (by decide))]
          refine hK.out _ _ hHeld (fun hHeld => ?_)
          clear hK K
          try simp only [Act.put, jA, jB, jC, jD, jE, jF]
          refine rdH 27 (by kernel_rfl) rfl fun K hK => ?_
          rw [if_neg (by intro h; exact absurd (show false = true from h) (by decide))]
          refine hK.out _ _ hHeld (fun hHeld => ?_)
          clear hK K
          try simp only [Act.put, jA, jB, jC, jD, jE, jF]
          refine tkH 28 (.bool false) rfl (by kernel_rfl) (fun _ _ _ => False.elim) hHeld (Or.inl ⟨by rfl, fun W9 hW => by clear hHeld hW; simp only [jA, jB, jC]; go_simp⟩) ?_
          try simp only [Act.put, jA, jB, jC, jD, jE, jF]
          refine tkH 29 (.bool false) rfl (by kernel_rfl) (fun _ _ _ => False.elim) hHeld (Or.inl ⟨by rfl, fun W9 hW => by clear hHeld hW; simp only [jA, jB, jC]; go_simp⟩) ?_
          try simp only [Act.put, jA, jB, jC, jD, jE, jF]
          refine wpAnyH_done (by kernel_rfl) (NoPanic.normal ?_) _
          have HB9 := hid (below_step HB6w.out hHeld.out)
          go_wp2_with fail
          go_ret
          exact ⟨by rw [HRB3.out, HDD.out, hc7]; simp, HB9.out⟩
        | true =>
          have HORD := hid (leq_not hc7)
          refine wp_region_noPanic ?_
          refine wp_region_held_drew (S := fun V => Hid (Below w6.heap.size w6 V)) (by kernel_rfl) (hid (Below.drew (Below.refl _ _))) (fun hHeld => ?_)
          generalize w6.drew = Wd at *
          refine tkH 0 (.int .i64 (k : Int)) rfl (by kernel_rfl) (fun _ _ _ => False.elim) hHeld (Or.inl ⟨by rfl, fun W9 hW => by clear hHeld hW; simp only [jA, jB, jC]; go_simp⟩) ?_
          try simp only [Act.put, jA, jB, jC, jD, jE, jF]
          refine tkH 1 (.bool true) rfl (by kernel_rfl) (fun _ _ _ => False.elim) hHeld (Or.inl ⟨by rfl, fun W9 hW => by clear hHeld hW; simp only [jA, jB, jC]; go_simp⟩) ?_
          try simp only [Act.put, jA, jB, jC, jD, jE, jF]
          refine tkH 2 (.bool true) rfl (by kernel_rfl) (fun _ _ _ => False.elim) hHeld (Or.inl ⟨by rfl, fun W9 hW => by clear hHeld hW; simp only [jA, jB, jC]; go_simp⟩) ?_
          try simp only [Act.put, jA, jB, jC, jD, jE, jF]
          refine tkH 3 (.pointer (some ⟨w.heap.size, 4, none⟩)) rfl (by kernel_rfl) (fun _ _ _ => False.elim) hHeld (Or.inl ⟨by rfl, fun W9 hW => by clear hHeld hW; simp only [jA, jB, jC]; go_simp⟩) ?_
          try simp only [Act.put, jA, jB, jC, jD, jE, jF]
          refine tkH 4 (.slice b R.cut.length d) rfl (by kernel_rfl) (fun _ _ _ => False.elim) hHeld (Or.inl ⟨by rfl, fun W9 hW => by obtain ⟨q0, q1, q2, q3, q4⟩ := HKR.out _ (HB6.out.trans (hW.out.mono HB6.out.size)); clear hHeld hW; simp only [jA, jB, jC]; go_simp⟩) ?_
          try simp only [Act.put, jA, jB, jC, jD, jE, jF]
          refine tkH 5 (.int .i64 (R.cut.length : Int)) rfl (by kernel_rfl) (fun _ _ _ => False.elim) hHeld (Or.inl ⟨by rfl, fun W9 hW => by clear hHeld hW; simp only [jA, jB, jC]; go_simp⟩) ?_
          try simp only [Act.put, jA, jB, jC, jD, jE, jF]
          refine tkH 6 (.bool true) rfl (by kernel_rfl) (fun _ _ _ => False.elim) hHeld (Or.inl ⟨by rfl, fun W9 hW => by clear hHeld hW; simp only [jA, jB, jC]; go_simp⟩) ?_
          try simp only [Act.put, jA, jB, jC, jD, jE, jF]
          refine tkH 7 (.bool true) rfl (by kernel_rfl) (fun _ _ _ => False.elim) hHeld (Or.inl ⟨by rfl, fun W9 hW => by clear hHeld hW; simp only [jA, jB, jC]; go_simp⟩) ?_
          try simp only [Act.put, jA, jB, jC, jD, jE, jF]
          refine tkH 8 (.bool true) rfl (by kernel_rfl) (fun _ _ _ => False.elim) hHeld (Or.inl ⟨by rfl, fun W9 hW => by clear hHeld hW; simp only [jA, jB, jC]; go_simp⟩) ?_
          try simp only [Act.put, jA, jB, jC, jD, jE, jF]
          refine tkH 9 (.pointer (some ⟨w.heap.size, 4, none⟩)) rfl (by kernel_rfl) (fun _ _ _ => False.elim) hHeld (Or.inl ⟨by rfl, fun W9 hW => by clear hHeld hW; simp only [jA, jB, jC]; go_simp⟩) ?_
          try simp only [Act.put, jA, jB, jC, jD, jE, jF]
          refine tkH 10 (.slice b R.cut.length d) rfl (by kernel_rfl) (fun _ _ _ => False.elim) hHeld (Or.inl ⟨by rfl, fun W9 hW => by obtain ⟨q0, q1, q2, q3, q4⟩ := HKR.out _ (HB6.out.trans (hW.out.mono HB6.out.size)); clear hHeld hW; simp only [jA, jB, jC]; go_simp⟩) ?_
          try simp only [Act.put, jA, jB, jC, jD, jE, jF]
          refine tkH 11 (.string ⟨R.cut.toArray⟩) rfl (by kernel_rfl) (fun _ _ _ => False.elim) hHeld (Or.inl ⟨by rfl, fun W9 hW => by have t9 := (HCUT.out.old (below_step HB6w.out hW.out)).conv (P := Try.prog) 62 9 5 Try.underlying62 Try.underlying5 Try.underlying9; clear hHeld hW; simp only [jA, jB, jC]; go_simp⟩) ?_
          try simp only [Act.put, jA, jB, jC, jD, jE, jF]
          refine tkH 12 (.pointer (some ⟨w.heap.size, 2, none⟩)) rfl (by kernel_rfl) (fun _ _ _ => False.elim) hHeld (Or.inl ⟨by rfl, fun W9 hW => by clear hHeld hW; simp only [jA, jB, jC]; go_simp⟩) ?_
          try simp only [Act.put, jA, jB, jC, jD, jE, jF]
          refine tkH 13 (.slice (some ⟨b1, of1, none⟩) R.sp.length c) rfl (by kernel_rfl) (fun _ _ _ => False.elim) hHeld (Or.inl ⟨by rfl, fun W9 hW => by obtain ⟨q0, q1, q2, q3, q4⟩ := HKR.out _ (HB6.out.trans (hW.out.mono HB6.out.size)); clear hHeld hW; simp only [jA, jB, jC]; go_simp⟩) ?_
          try simp only [Act.put, jA, jB, jC, jD, jE, jF]
          refine tkH 14 (.int .i64 (k : Int)) rfl (by kernel_rfl) (fun _ _ _ => False.elim) hHeld (Or.inl ⟨by rfl, fun W9 hW => by clear hHeld hW; simp only [jA, jB, jC]; go_simp⟩) ?_
          try simp only [Act.put, jA, jB, jC, jD, jE, jF]
          refine tkH 15 (.pointer (some ⟨b1, of1 + k * 2, none⟩)) rfl (by kernel_rfl) (fun _ _ _ => False.elim) hHeld (Or.inl ⟨by rfl, fun W9 hW => by clear hHeld hW; simp only [jA, jB, jC]; go_simp⟩) ?_
          try simp only [Act.put, jA, jB, jC, jD, jE, jF]
          refine tkH 16 (.pointer (some ⟨b1, of1 + k * 2 + 1, none⟩)) rfl (by kernel_rfl) (fun _ _ _ => False.elim) hHeld (Or.inl ⟨by rfl, fun W9 hW => by clear hHeld hW; simp only [jA, jB, jC]; go_simp⟩) ?_
          try simp only [Act.put, jA, jB, jC, jD, jE, jF]
          refine tkH 17 (.slice x8 o.f.length d8) rfl (by kernel_rfl) (fun _ _ _ => False.elim) hHeld (Or.inl ⟨by rfl, fun W9 hW => by have p8 := ((below_step HB6w.out hW.out).cell (block_cell HZ8.out)).trans HZ8.out; clear hHeld hW; simp only [jA, jB, jC]; go_simp⟩) ?_
          try simp only [Act.put, jA, jB, jC, jD, jE, jF]
          refine tkH 18 (.string ⟨o.f.toArray⟩) rfl (by kernel_rfl) (fun _ _ _ => False.elim) hHeld (Or.inl ⟨by rfl, fun W9 hW => by have t9 := (HR8.out.old (below_step HB6w.out hW.out)).conv (P := Try.prog) 62 9 5 Try.underlying62 Try.underlying5 Try.underlying9; clear hHeld hW; simp only [jA, jB, jC]; go_simp⟩) ?_
          try simp only [Act.put, jA, jB, jC, jD, jE, jF]
          refine tkH 19 (.bool true) rfl (by kernel_rfl) (fun _ _ _ => False.elim) hHeld (Or.inl ⟨by rfl, fun W9 hW => by clear hHeld hW; simp only [jA, jB, jC]; go_simp; exact HORD.out⟩) ?_
          try simp only [Act.put, jA, jB, jC, jD, jE, jF]
          refine tkH 20 (.bool true) rfl (by kernel_rfl) (fun _ _ _ => False.elim) hHeld (Or.inl ⟨by rfl, fun W9 hW => by clear hHeld hW; simp only [jA, jB, jC]; go_simp⟩) ?_
          try simp only [Act.put, jA, jB, jC, jD, jE, jF]
          refine tkH 21 (.bool true) rfl (by kernel_rfl) (fun _ _ _ => False.elim) hHeld (Or.inl ⟨by rfl, fun W9 hW => by clear hHeld hW; simp only [jA, jB, jC]; go_simp⟩) ?_
          try simp only [Act.put, jA, jB, jC, jD, jE, jF]
          refine tkH 22 (.agg #[.int .i64 R.ep, .int .i64 R.base, .slice (some ⟨b1, of1, none⟩) R.sp.length c, .int .i64 R.mv, .slice b R.cut.length d]) rfl (by kernel_rfl) (fun _ _ _ => False.elim) hHeld (Or.inl ⟨by rfl, fun W9 hW => by obtain ⟨q0, q1, q2, q3, q4⟩ := HKR.out _ (HB6.out.trans (hW.out.mono HB6.out.size)); clear hHeld hW; simp only [jA, jB, jC]; go_simp⟩) ?_
          try simp only [Act.put, jA, jB, jC, jD, jE, jF]
          refine tkH 23 (.int .i64 (k : Int)) rfl (by kernel_rfl) (fun _ _ _ => False.elim) hHeld (Or.inl ⟨by rfl, fun W9 hW => by clear hHeld hW; simp only [jA, jB, jC]; go_simp⟩) ?_
          try simp only [Act.put, jA, jB, jC, jD, jE, jF]
          refine tkH 25 (.pointer (some ⟨w.heap.size, 4, none⟩)) rfl (by kernel_rfl) (fun _ _ _ => False.elim) hHeld (Or.inl ⟨by rfl, fun W9 hW => by clear hHeld hW; simp only [jA, jB, jC]; go_simp⟩) ?_
          try simp only [Act.put, jA, jB, jC, jD, jE, jF]
          refine tkH 26 (.slice b R.cut.length d) rfl (by kernel_rfl) (fun _ _ _ => False.elim) hHeld (Or.inl ⟨by rfl, fun W9 hW => by obtain ⟨q0, q1, q2, q3, q4⟩ := HKR.out _ (HB6.out.trans (hW.out.mono HB6.out.size)); clear hHeld hW; simp only [jA, jB, jC]; go_simp⟩) ?_
          try simp only [Act.put, jA, jB, jC, jD, jE, jF]
          refine rdH 24 (by kernel_rfl) rfl fun K hK => ?_
          rw [if_pos (by rfl)]
          go_simp
          have CQ := hid (rspan_any (b := b) (d := d) (HR.out.old (below_step HB6w.out hHeld.out)) HLL.out HK8.out)
          go_wp2_with (first | (go_at_call 119; refine CQ.out.mono ?_; rintro en w7 ⟨a5, c5, a6, c6, rfl, hf, ht, hbE⟩; have HBE := hid (below_step hHeld.out hbE); have HFm := hid hf; have HTm := hid ht; clear hf ht))
          clear CQ hHeld
          refine hK.out _ _ HBE (fun hHeld => ?_)
          clear hK K HBE
          try simp only [Act.put, jA, jB, jC, jD, jE, jF]
          refine rdH 27 (by kernel_rfl) rfl fun K hK => ?_
          rw [if_pos (by rfl)]
          go_simp
          have CQ := hid (within_any _ _ _ _ _ _ _ HFm.out HTm.out (HCUT.out.old (below_step HB6w.out hHeld.out)))
          go_wp2_with (first | (go_at_call 62; refine CQ.out.mono ?_; rintro en w8 ⟨rfl, hbE⟩; have HBE := hid (below_step hHeld.out hbE); ))
          clear CQ hHeld
          refine hK.out _ _ HBE (fun hHeld => ?_)
          clear hK K HBE
          try simp only [Act.put, jA, jB, jC, jD, jE, jF]
          refine tkH 28 (.bool (inSpan o.f (toL R.sp k) R.cut)) rfl (by kernel_rfl) (fun _ _ _ => False.elim) hHeld (Or.inl ⟨by rfl, fun W9 hW => by clear hHeld hW; simp only [jA, jB, jC]; go_simp⟩) ?_
          try simp only [Act.put, jA, jB, jC, jD, jE, jF]
          refine tkH 29 (.bool (inSpan o.f (toL R.sp k) R.cut)) rfl (by kernel_rfl) (fun _ _ _ => False.elim) hHeld (Or.inl ⟨by rfl, fun W9 hW => by clear hHeld hW; simp only [jA, jB, jC]; go_simp⟩) ?_
          try simp only [Act.put, jA, jB, jC, jD, jE, jF]
          refine wpAnyH_done (by kernel_rfl) (NoPanic.normal ?_) _
          have HB9 := hid (below_step HB6w.out hHeld.out)
          go_wp2_with fail
          go_ret
          exact ⟨by rw [HRB3.out, HDD.out, hc7, decide_eq_true hc6]; rfl, HB9.out⟩
end Go.Proofs.Ytafcbelkhhjcoaa

