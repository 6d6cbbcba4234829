import GoSem.Op.String
import Derived.Lib.Bytealg
import Derived.Test.YtafcbelkhhjcoaaRows
import Derived.WalkKit
import Derived.WalkSpells
import Derived.WalkLawsBesides
import Derived.Laws.AppendOwnNone
import Derived.Deep.Slices
import Derived.BigQuiet
import Derived.Deep.QuietTactic
import Derived.Deep.AppendLies
import Derived.Deep.RegionWith
import Derived.Shelf.Abstract
import Derived.Test.YtafcbelkhhjcoaaProg
import Derived.LaidEql
import Derived.Stop.Asserts
import Derived.RowKitTokens
import Derived.Lib.Bytes
import Derived.Deep.OwnRows
import Derived.OwnWalk
import Derived.ProofKit
import Derived.Lib.AppendZeros
import Derived.Deep.CutRange
import Derived.Deep.RegionHeld3
import Derived.OpenShut
import Derived.ShutString
import Derived.ChangeOld
import Derived.Below
import Derived.SizedLaws
import Derived.Deep.Strs
import Derived.Deep.RegionHeld
import Derived.Deep.RegionLaw
import Derived.Laws.OwnMore
import Derived.Laws.ResultCell
import Derived.BigRegion
import Derived.Laws.CopyOwn
import Derived.Lib.AppendZerosOnto
import Derived.Lib.Overlaps
import Derived.Deep.AppendSrc
import Derived.Deep.CutBlock
import Derived.Lib.SlBytesConst
import Derived.RangeFuncNested
import Derived.RangeFuncBound
import Derived.RangeFuncCalls
import Derived.RangeFuncLeaves
import Derived.Shelf.RegionOpen
import Derived.OwnWalkIn
import Derived.TacticsInMore
import Derived.LoopNIn
import Derived.LoopIn
import Derived.Laws.CopyRow
import Derived.Deep.MidRow
import Derived.Laws.MakeOwn
import Derived.IntWalk
import Derived.Test.YtafcbelkhhjcoaaHT1
set_option linter.unusedVariables false
set_option linter.unusedSimpArgs false
set_option linter.unusedVariables false
set_option linter.unusedSimpArgs false
set_option maxRecDepth 100000
namespace Go.Proofs.Ytafcbelkhhjcoaa
open Go.RowKit Go.Deep
theorem ownsRow_base {w : World} {base base' : Nat} {e : TypeId} {size : Nat} {v : Value} {n : Nat} {xs : List Value} (h : w.ownsRow base e size v n xs) (hb : base' ≤ base) : w.ownsRow base' e size v n xs := by
  obtain ⟨h1, h2⟩ := h
  rcases h2 with h2 | ⟨g, cap, cur, hv, hg, r⟩
  · exact ⟨h1, .inl h2⟩
  · exact ⟨h1, .inr ⟨g, cap, cur, hv, Nat.le_trans hb hg, r⟩⟩

theorem own_old {w w' : World} {base : Nat} {e : TypeId} {size : Nat} {v : Value} {n : Nat} {xs : List Value} (h : w.ownsRow base e size v n xs) (hb : Below w.heap.size w w') : w'.ownsRow base e size v n xs :=
  own_keep h (X := fun _ => False) ⟨hb.os, hb.tape, hb.output, hb.size, fun k hk _ => hb.block k hk⟩ (fun _ _ e => e)
def meetB (F1 T1 F2 T2 : List UInt8) : Bool := Op.bytesLess (bothF F1 F2) (bothT T1 T2)
set_option maxHeartbeats 4000000 in
theorem meets_any {w : World} {a1 a2 a3 a4 : Option Addr} {c1 c2 c3 c4 : Nat} {F1 T1 F2 T2 : List UInt8} (h1 : Rd w (.slice a1 F1.length c1) F1) (h2 : Rd w (.slice a2 T1.length c2) T1) (h3 : Rd w (.slice a3 F2.length c3) F2) (h4 : Rd w (.slice a4 T2.length c4) T2) :
    Calls Try.prog 133 #[.agg #[.slice a1 F1.length c1, .slice a2 T1.length c2], .agg #[.slice a3 F2.length c3, .slice a4 T2.length c4]] w (AnsP w (.bool (meetB F1 T1 F2 T2))) := by
  go_enter Try.func133, Try.ntmps133
  go_upto_region 1 with fail
  have hb1 := (Below.refl w.heap.size w).alloc (Nat.le_refl _) (.cells #[.slice a1 F1.length c1, .slice a2 T1.length c2] 66)
  have hz1 := heap_alloc_new w (.cells #[.slice a1 F1.length c1, .slice a2 T1.length c2] 66)
  have hs1 : (w.alloc (.cells #[.slice a1 F1.length c1, .slice a2 T1.length c2] 66)).heap.size = w.heap.size + 1 := by simp
  generalize w.alloc (.cells #[.slice a1 F1.length c1, .slice a2 T1.length c2] 66) = w1 at *
  have hb2 := hb1.alloc (by omega) (.cells #[.slice a3 F2.length c3, .slice a4 T2.length c4] 66)
  have hz2 := heap_alloc_new w1 (.cells #[.slice a3 F2.length c3, .slice a4 T2.length c4] 66)
  have hz12 := (((Below.refl w1.heap.size w1).alloc (Nat.le_refl _) (.cells #[.slice a3 F2.length c3, .slice a4 T2.length c4] 66)).block _ (by omega)).trans hz1
  rw [hs1] at hz2
  generalize w1.alloc (.cells #[.slice a3 F2.length c3, .slice a4 T2.length c4] 66) = w2 at *
  have p0 := cell_in hz12 0 _ rfl
  have fp0 := free_in hz12 0
  have p1 := cell_in hz12 1 _ rfl
  have fp1 := free_in hz12 1
  have q0 := cell_in hz2 0 _ rfl
  have fq0 := free_in hz2 0
  have q1 := cell_in hz2 1 _ rfl
  have fq1 := free_in hz2 1
  have HC := hid (both_any (h1.old hb2) (h2.old hb2) (h3.old hb2) (h4.old hb2))
  have HB := hid hb2
  clear hb1 hz1 hs1 hb2 hz2 hz12 h1 h2 h3 h4
  go_wp2_with (first
    | (go_at_call 124; refine HC.out.mono ?_; rintro en w3 ⟨a5, c5, a6, c6, rfl, hf, ht, hb3⟩; have HF := hid hf; have HT := hid ht; have HB3 := hid (below_step HB.out hb3); clear hf ht hb3)
    | (go_at_call 125; refine (has_any HF.out HT.out).mono ?_; rintro en w4 ⟨rfl, hb4⟩; have HB4 := hid (below_step HB3.out hb4); clear hb4))
  go_ret
  exact ⟨rfl, HB4.out⟩
set_option maxHeartbeats 4000000 in
theorem cspan_any {w : World} {a1 a2 : Option Addr} {c1 c2 : Nat} {F T : List UInt8} (h1 : Rd w (.slice a1 F.length c1) F) (h2 : Rd w (.slice a2 T.length c2) T) (hF : F.length ≤ 140737488355328) (hT : T.length ≤ 140737488355328) :
    Calls Try.prog 126 #[.agg #[.slice a1 F.length c1, .slice a2 T.length c2]] w (SpA w F T) := by
  have HLF := hid hF
  have HLT := hid hT
  go_enter Try.func126, Try.ntmps126
  go_upto_region 1 with fail
  have hb1 := (Below.refl w.heap.size w).alloc (Nat.le_refl _) (.cells #[.slice a1 F.length c1, .slice a2 T.length c2] 66)
  have hz1 := heap_alloc_new w (.cells #[.slice a1 F.length c1, .slice a2 T.length c2] 66)
  have hs1 : (w.alloc (.cells #[.slice a1 F.length c1, .slice a2 T.length c2] 66)).heap.size = w.heap.size + 1 := by simp
  generalize w.alloc (.cells #[.slice a1 F.length c1, .slice a2 T.length c2] 66) = w1 at *
  have hb2 := hb1.alloc (by omega) (.cells #[.slice none 0 0, .slice none 0 0] 66)
  have hz2 := heap_alloc_new w1 (.cells #[.slice none 0 0, .slice none 0 0] 66)
  have hz12 := (((Below.refl w1.heap.size w1).alloc (Nat.le_refl _) (.cells #[.slice none 0 0, .slice none 0 0] 66)).block _ (by omega)).trans hz1
  have hs2 : (w1.alloc (.cells #[.slice none 0 0, .slice none 0 0] 66)).heap.size = w.heap.size + 2 := by simp; omega
  rw [hs1] at hz2
  generalize w1.alloc (.cells #[.slice none 0 0, .slice none 0 0] 66) = w2 at *
  have HB := hid hb2
  have H1 := hid (h1.old hb2)
  have H2 := hid (h2.old hb2)
  have HS := hid hs2
  have HZ2 := hid hz2
  have HP0 := hid (cell_in hz12 0 _ rfl)
  have HP1 := hid (cell_in hz12 1 _ rfl)
  clear hb1 hz1 hs1 hb2 hz2 hz12 h1 h2 hF hT hs2
  have HOd : Hid (Below w2.heap.size w2 w2.drew) := hid (Below.refl w2.heap.size w2).drew
  refine wp_region_noPanic ?_
  refine wp_region_L (S := fun W => Hid (Below w2.heap.size w2 W)) 7 (by kernel_rfl) ?_
  generalize w2.drew = Wd at *
  refine tkV 0 (.pointer (some ⟨w.heap.size, 0, none⟩)) rfl (by kernel_rfl) (fun _ _ _ => False.elim) (Or.inl ⟨by rfl, fun W9 _ => by simp only [jA, jB, jC]; go_simp⟩) (fun _ => HOd) ?_
  try simp only [Act.put, jA, jB, jC, jD, jE, jF]
  refine tkL 1 (.slice a1 F.length c1) [1, 2, 6, 7] rfl (by kernel_rfl) (fun _ _ _ => False.elim) HOd (Or.inl ⟨by rfl, fun W9 hW => by have c9 := (hW.out.cell (block_cell HP0.out)).trans HP0.out; clear hW; simp only [jA, jB, jC]; go_simp⟩) ?_
  try simp only [Act.put, jA, jB, jC, jD, jE, jF]
  refine tkV 3 (.pointer (some ⟨w.heap.size, 1, none⟩)) rfl (by kernel_rfl) (fun _ _ _ => False.elim) (Or.inl ⟨by rfl, fun W9 _ => by simp only [jA, jB, jC]; go_simp⟩) (fun _ => HOd) ?_
  try simp only [Act.put, jA, jB, jC, jD, jE, jF]
  refine tkL 4 (.slice a2 T.length c2) [4, 5, 6, 7] rfl (by kernel_rfl) (fun _ _ _ => False.elim) HOd (Or.inl ⟨by rfl, fun W9 hW => by have c9 := (hW.out.cell (block_cell HP1.out)).trans HP1.out; clear hW; simp only [jA, jB, jC]; go_simp⟩) ?_
  try simp only [Act.put, jA, jB, jC, jD, jE, jF]
  refine rdL 2 (by kernel_rfl) rfl fun K hK => ?_
  go_simp
  go_wp2_with (first | (go_at_call 139; refine (clone_any _ _ _ (H1.out.old HOd.out) HLF.out).mono ?_; rintro en w3 h3; obtain ⟨a5, c5, rfl, ho3, hb3⟩ := h3.elim; have HO3 := hid (ownsRow_base ho3 HOd.out.size); have HB3 := hid (below_step HOd.out hb3); clear h3 ho3 hb3))
  refine hK.out _ _ HB3 fun _ => ?_
  clear hK K HOd
  try simp only [Act.put, jA, jB, jC, jD, jE, jF]
  refine rdL 5 (by kernel_rfl) rfl fun K hK => ?_
  go_simp
  go_wp2_with (first | (go_at_call 139; refine (clone_any _ _ _ (H2.out.old HB3.out) HLT.out).mono ?_; rintro en w4 h4; obtain ⟨a6, c6, rfl, ho4, hb4⟩ := h4.elim; have HO4 := hid (ownsRow_base ho4 HB3.out.size); have HOd := hid (below_step HB3.out hb4); have HO5 := hid (own_old HO3.out hb4); clear h4 ho4 hb4))
  refine hK.out _ _ HOd fun _ => ?_
  clear hK K
  try simp only [Act.put, jA, jB, jC, jD, jE, jF]
  refine tkV 6 (.agg #[.slice a5 F.length c5, .slice a6 T.length c6]) rfl (by kernel_rfl) (fun _ _ _ => False.elim) (Or.inl ⟨by rfl, fun W9 _ => by simp only [jA, jB, jC]; go_simp⟩) (fun _ => HOd) ?_
  try simp only [Act.put, jA, jB, jC, jD, jE, jF]
  have hz9 := (HOd.out.block _ (by have := HS.out; omega)).trans HZ2.out
  have HZ9 := hid hz9
  have r0 := cell_in hz9 0 _ rfl
  have fr0 := free_in hz9 0
  have r1 := cell_in hz9 1 _ rfl
  have fr1 := free_in hz9 1
  clear hz9
  refine rdS (by kernel_rfl) rfl fun K hK => ?_
  go_simp
  refine hK.out _ _ ?_
  clear hK K
  have hb9 : Below w.heap.size w ((w4.setCell ⟨w.heap.size + 1, 0, none⟩ (.slice a5 F.length c5)).setCell ⟨w.heap.size + 1, 1, none⟩ (.slice a6 T.length c6)) := ((below_step HB.out HOd.out).setCell (show w.heap.size ≤ w.heap.size + 1 by omega) _).setCell (show w.heap.size ≤ w.heap.size + 1 by omega) _
  have hlt : w.heap.size + 1 < w2.heap.size := by have := HS.out; omega
  have o5 := ownsRow_setCell_below (ownsRow_setCell_below HO5.out (a := ⟨w.heap.size + 1, 0, none⟩) hlt (.slice a5 F.length c5)) (a := ⟨w.heap.size + 1, 1, none⟩) hlt (.slice a6 T.length c6)
  have o6 := ownsRow_setCell_below (ownsRow_setCell_below HO4.out (a := ⟨w.heap.size + 1, 0, none⟩) hlt (.slice a5 F.length c5)) (a := ⟨w.heap.size + 1, 1, none⟩) hlt (.slice a6 T.length c6)
  have hz10 := put_in (put_in HZ9.out 0 (.slice a5 F.length c5)) 1 (.slice a6 T.length c6)
  generalize (w4.setCell ⟨w.heap.size + 1, 0, none⟩ (.slice a5 F.length c5)).setCell ⟨w.heap.size + 1, 1, none⟩ (.slice a6 T.length c6) = w9 at *
  refine doneL (by kernel_rfl) (NoPanic.normal ?_) _
  try simp only [Act.put, jA, jB, jC, jD, jE, jF]
  go_wp2_with fail
  (try simp only [Exit.inBlock, Exit.then]); refine bodyPost_ret (results_cell_row rfl _ _ (w.heap.size + 1) 66 _ (0, 0) _ rfl hz10 Try.underlying66 rfl (by kernel_rfl)) rfl ?_
  exact ⟨_, _, _, _, rfl, Rd.own o5, Rd.own o6, hb9⟩
/-- A byte lies in no block of slices. -/
theorem rd_not_sl {w : World} {a : Option Addr} {n c q : Nat} {z : UInt8} {x1 x2 : Option Addr} {n1 n2 m1 m2 : Nat} {t : TypeId} (h : Rd w (.slice a n c) [z]) (hq : blk (.slice a n c) = some q) (hk : w.heap[q]? = some (.cells #[.slice x1 n1 m1, .slice x2 n2 m2] t (0, 0))) : False := by
  obtain ⟨b, off, c9, e, -, -, h4⟩ := h.at (by simp)
  cases e
  have h5 := h4 0 (by simp)
  have hq2 : b = q := by simpa [blk] using hq
  subst hq2
  simp only [World.cell?, hk] at h5
  rcases off with _ | _ | off <;> simp at h5
def toL (L : List Ow) (k : Nat) : List UInt8 := match L[k + 1]? with
  | some o => o.f
  | none => [121]
set_option maxHeartbeats 4000000 in
theorem keys_any {w : World} {R : Rou} {ao b : Option Addr} {c d : Nat} (hr : OwsN w (.slice ao R.sp.length c) R.sp) {k : Nat} {o : Ow} (hk : R.sp[k]? = some o) :
    Calls Try.prog 134 #[.agg #[.int .i64 R.ep, .int .i64 R.base, .slice ao R.sp.length c, .int .i64 R.mv, .slice b R.cut.length d], .int .i64 (k : Int)] w (SpA w o.f (toL R.sp k)) := by
  have HR := hid hr
  obtain ⟨ao', c', e, -, hm, hc⟩ := ows_cells hr
  cases e
  have hlen : R.sp.length ≤ 9223372036854775807 := by obtain ⟨M, h1, h2, -⟩ := hr; obtain ⟨_, _, _, _, h5⟩ := h2.form; unfold maxLen at h5; omega
  have hkl := (List.getElem?_eq_some_iff.1 hk).1
  have HC := hid hc
  have HLN := hid hlen
  have HK := hid hk
  clear hr hc hm hlen hk
  go_enter Try.func134, Try.ntmps134
  go_upto_region 1 with fail
  have hb1 := (Below.refl w.heap.size w).alloc (Nat.le_refl _) (.cells #[.int .i64 R.ep, .int .i64 R.base, .slice ao R.sp.length c, .int .i64 R.mv, .slice b R.cut.length d] 64)
  have hz1 := heap_alloc_new w (.cells #[.int .i64 R.ep, .int .i64 R.base, .slice ao R.sp.length c, .int .i64 R.mv, .slice b R.cut.length d] 64)
  have hs1 : (w.alloc (.cells #[.int .i64 R.ep, .int .i64 R.base, .slice ao R.sp.length c, .int .i64 R.mv, .slice b R.cut.length d] 64)).heap.size = w.heap.size + 1 := by simp
  generalize w.alloc (.cells #[.int .i64 R.ep, .int .i64 R.base, .slice ao R.sp.length c, .int .i64 R.mv, .slice b R.cut.length d] 64) = w1 at *
  have hb2 := hb1.alloc (by omega) (.cells #[.slice none 0 0, .slice none 0 0] 66)
  have hz2 := heap_alloc_new w1 (.cells #[.slice none 0 0, .slice none 0 0] 66)
  have hz12 := (((Below.refl w1.heap.size w1).alloc (Nat.le_refl _) (.cells #[.slice none 0 0, .slice none 0 0] 66)).block _ (by omega)).trans hz1
  have hs2 : (w1.alloc (.cells #[.slice none 0 0, .slice none 0 0] 66)).heap.size = w.heap.size + 2 := by simp; omega
  rw [hs1] at hz2
  generalize w1.alloc (.cells #[.slice none 0 0, .slice none 0 0] 66) = w2 at *
  have HB := hid hb2
  have HS := hid hs2
  have HZ1 := hid hz12
  have HZ2 := hid hz2
  clear hb1 hz1 hs1 hb2 hz2 hs2 hz12
  go_upto_region 2 with (first | (go_at_call 123; refine (mark120_any _).mono ?_; rintro en w3 ⟨a5, c5, a6, c6, rfl, hf, ht, hb3⟩; have HF := hid hf; have HT := hid ht; have HB3 := hid hb3; clear hf ht hb3))
  have hb4 := (below_step HB.out HB3.out).alloc (below_step HB.out HB3.out).size (.cells #[.slice a5 1 c5, .slice a6 1 c6] 66)
  have hz4 := heap_alloc_new w3 (.cells #[.slice a5 1 c5, .slice a6 1 c6] 66)
  have hg := HB3.out.size
  have hz14 := (((Below.refl w3.heap.size w3).alloc (Nat.le_refl _) (.cells #[.slice a5 1 c5, .slice a6 1 c6] 66)).block _ (by have := HS.out; omega)).trans ((HB3.out.block _ (by have := HS.out; omega)).trans HZ1.out)
  have hz24 := (((Below.refl w3.heap.size w3).alloc (Nat.le_refl _) (.cells #[.slice a5 1 c5, .slice a6 1 c6] 66)).block _ (by have := HS.out; omega)).trans ((HB3.out.block _ (by have := HS.out; omega)).trans HZ2.out)
  have HG : Hid (w.heap.size + 2 ≤ w3.heap.size) := hid (by have := HS.out; omega)
  have HTT := hid (HT.out.alloc (.cells #[.slice a5 1 c5, .slice a6 1 c6] 66))
  generalize w3.heap.size = g at *
  generalize w3.alloc (.cells #[.slice a5 1 c5, .slice a6 1 c6] 66) = w4 at *
  have HB4 := hid hb4
  have HA1 := hid hz14
  have HA2 := hid hz24
  have HA4 := hid hz4
  clear hb4 hz4 hg hz14 hz24 HF HT HB3 HZ1 HZ2 HS HB
  have q0 := cell_in HA4.out 0 _ rfl
  have fq0 := free_in HA4.out 0
  have q1 := cell_in HA4.out 1 _ rfl
  have fq1 := free_in HA4.out 1
  have r0 := cell_in HA2.out 0 _ rfl
  have fr0 := free_in HA2.out 0
  have r1 := cell_in HA2.out 1 _ rfl
  have fr1 := free_in HA2.out 1
  have p2 := cell_in HA1.out 2 _ rfl
  obtain ⟨b1, of1, x1, d1, rfl, k0, k1, kr⟩ := HC.out k o HK.out
  have e1 := (HB4.out.cell (block_cell k1)).trans k1
  have HKR := hid kr
  have hki : (k : Int) < (R.sp.length : Int) := by omega
  have hlow := block_cell k1
  clear k0 k1 kr
  have hlt4 : w.heap.size ≤ g := by have := HG.out; omega
  have hne : g ≠ w.heap.size + 1 := by have := HG.out; omega
  have hne0 : g ≠ w.heap.size := by have := HG.out; omega
  have hneb : g ≠ b1 := by have := HG.out; have h9 : b1 < w.heap.size := hlow; omega
  by_cases h1 : k + 1 < R.sp.length
  · obtain ⟨o2, ho2⟩ : ∃ o2, R.sp[k + 1]? = some o2 := ⟨_, List.getElem?_eq_getElem h1⟩
    have HT2 : Hid (toL R.sp k = o2.f) := hid (by unfold toL; rw [ho2])
    obtain ⟨b2, of2, x2, d2, e9, k2, k3, kr2⟩ := HC.out (k + 1) o2 ho2
    cases e9
    have e2 := (HB4.out.cell (block_cell k3)).trans k3
    have HKR2 := hid kr2
    have hki2 : (k : Int) + 1 < (R.sp.length : Int) := by omega
    have hwr : IntKind.i64.wrap ((k : Int) + 1) = (k : Int) + 1 := IntWalk.i64_in _ (by have := HLN.out; omega)
    clear k2 k3 kr2
    go_wp2_with fail
    have hz9 := put_in (put_in (off_set (i := 1) (.slice x2 o2.f.length d2) (off_set (i := 0) (.slice x1 o.f.length d1) HA2.out hne) hne) 0 (.slice x1 o.f.length d1)) 1 (.slice x2 o2.f.length d2)
    have hb9 : Below w.heap.size w ((((w4.setCell ⟨g, 0, none⟩ (.slice x1 o.f.length d1)).setCell ⟨g, 1, none⟩ (.slice x2 o2.f.length d2)).setCell ⟨w.heap.size + 1, 0, none⟩ (.slice x1 o.f.length d1)).setCell ⟨w.heap.size + 1, 1, none⟩ (.slice x2 o2.f.length d2)) := (((HB4.out.setCell hlt4 _).setCell hlt4 _).setCell (show w.heap.size ≤ w.heap.size + 1 by omega) _).setCell (show w.heap.size ≤ w.heap.size + 1 by omega) _
    generalize (((w4.setCell ⟨g, 0, none⟩ (.slice x1 o.f.length d1)).setCell ⟨g, 1, none⟩ (.slice x2 o2.f.length d2)).setCell ⟨w.heap.size + 1, 0, none⟩ (.slice x1 o.f.length d1)).setCell ⟨w.heap.size + 1, 1, none⟩ (.slice x2 o2.f.length d2) = w9 at *
    (try simp only [Exit.inBlock, Exit.then]); refine bodyPost_ret (results_cell_row rfl _ _ (w.heap.size + 1) 66 _ (0, 0) _ rfl hz9 Try.underlying66 rfl (by kernel_rfl)) rfl ?_
    rw [HT2.out]
    exact ⟨_, _, _, _, rfl, HKR.out.old hb9, HKR2.out.old hb9, hb9⟩
  · have HT2 : Hid (toL R.sp k = [121]) := hid (by unfold toL; rw [List.getElem?_eq_none (by omega)])
    have hki2 : ¬ (k : Int) + 1 < (R.sp.length : Int) := by omega
    have hwr : IntKind.i64.wrap ((k : Int) + 1) = (k : Int) + 1 := IntWalk.i64_in _ (by have := HLN.out; omega)
    go_wp2_with fail
    have hz9 := put_in (put_in (off_set (i := 0) (.slice x1 o.f.length d1) HA2.out hne) 0 (.slice x1 o.f.length d1)) 1 (.slice a6 1 c6)
    have hb9 : Below w.heap.size w (((w4.setCell ⟨g, 0, none⟩ (.slice x1 o.f.length d1)).setCell ⟨w.heap.size + 1, 0, none⟩ (.slice x1 o.f.length d1)).setCell ⟨w.heap.size + 1, 1, none⟩ (.slice a6 1 c6)) := ((HB4.out.setCell hlt4 _).setCell (show w.heap.size ≤ w.heap.size + 1 by omega) _).setCell (show w.heap.size ≤ w.heap.size + 1 by omega) _
    have hk9 : Keep (fun q => q = g ∨ q = w.heap.size + 1) w4 (((w4.setCell ⟨g, 0, none⟩ (.slice x1 o.f.length d1)).setCell ⟨w.heap.size + 1, 0, none⟩ (.slice x1 o.f.length d1)).setCell ⟨w.heap.size + 1, 1, none⟩ (.slice a6 1 c6)) := ((Keep.set w4 ⟨g, 0, none⟩ _ (Or.inl rfl)).trans (Keep.set _ ⟨w.heap.size + 1, 0, none⟩ _ (Or.inr rfl))).trans (Keep.set _ ⟨w.heap.size + 1, 1, none⟩ _ (Or.inr rfl))
    have hr9 := HTT.out.keep hk9 (fun _ q hq hx => hx.elim (fun e => rd_not_sl HTT.out (hq.trans (by rw [e])) HA4.out) (fun e => rd_not_sl HTT.out (hq.trans (by rw [e])) HA2.out))
    generalize ((w4.setCell ⟨g, 0, none⟩ (.slice x1 o.f.length d1)).setCell ⟨w.heap.size + 1, 0, none⟩ (.slice x1 o.f.length d1)).setCell ⟨w.heap.size + 1, 1, none⟩ (.slice a6 1 c6) = w9 at *
    (try simp only [Exit.inBlock, Exit.then]); refine bodyPost_ret (results_cell_row rfl _ _ (w.heap.size + 1) 66 _ (0, 0) _ rfl hz9 Try.underlying66 rfl (by kernel_rfl)) rfl ?_
    rw [HT2.out]
    exact ⟨_, _, _, _, rfl, HKR.out.old hb9, hr9, hb9⟩
end Go.Proofs.Ytafcbelkhhjcoaa

set_option linter.unusedVariables false
set_option linter.unusedSimpArgs false
set_option maxRecDepth 100000
namespace Go.Proofs.Ytafcbelkhhjcoaa
open Go.RowKit Go.Deep

theorem ows_form {w : World} {ao : Option Addr} {n c : Nat} {L : List Ow} (h : OwsN w (.slice ao n c) L) : L.length ≤ 9223372036854775807 := by
  obtain ⟨M, h1, h2, -⟩ := h; obtain ⟨_, _, _, h4, h5⟩ := h2.form; unfold maxLen at h5; omega
set_option maxHeartbeats 2000000 in
theorem place1_any (w : World) (u : Ow) (a : Option Addr) (n e : Nat) (s : Int) (g : Nat) (hg : w.cell? ⟨g, 0, none⟩ = some (.int .i64 s)) : Calls Try.prog 200 #[.agg #[.int .i64 u.g, .slice a n e], .pointer (some ⟨g, 0, none⟩)] w (AnsP w (.bool (u.g == s))) := by
  go_enter Try.func200, Try.ntmps200
  go_upto_region 1 with fail
  have hb := (Below.refl w.heap.size w).alloc (Nat.le_refl _) (.cells #[.int .i64 u.g, .slice a n e] 140)
  have hz := heap_alloc_new w (.cells #[.int .i64 u.g, .slice a n e] 140)
  generalize w.alloc (.cells #[.int .i64 u.g, .slice a n e] 140) = w1 at *
  have HB := hid hb
  have hg1 := (HB.out.cell (block_cell hg)).trans hg
  have z0 := cell_in hz 0 _ rfl
  clear hb hz hg
  go_wp2_with fail
  go_ret
  exact ⟨rfl, HB.out⟩

set_option maxHeartbeats 4000000 in
theorem placeF_any (w : World) {x : Value} {l : List Ow} (hx : OwsN w x l) (s : Int) (g : Nat) (hg : w.cell? ⟨g, 0, none⟩ = some (.int .i64 s)) : Calls Try.prog 199 #[x, .func (.func 200) #[] #[.pointer (some ⟨g, 0, none⟩)]] w
    (AnsP w (.int .i64 (fidx (fun t => decide (t.g = s)) l))) := by
  obtain ⟨ao, c, rfl, h1, h2, hc⟩ := ows_cells hx
  have hlm : l.length ≤ 9223372036854775807 := by unfold maxLen at h2; omega
  have HC := hid hc
  have HG := hid hg
  clear hx hc hg
  go_enter Try.func199, Try.ntmps199
  go_wp2_with fail
  go_loopw [8] (fun j wr => ∃ k : Nat, k ≤ l.length ∧ j = .int .i64 (k : Int) ∧ Below w.heap.size w wr ∧ (l.take k).any (fun t => decide (t.g = s)) = false)
    (fun j _ => l.length - (intOf j).toNat)
  case atStart => exact ⟨0, by omega, rfl, Below.refl _ _, rfl⟩
  case round =>
    obtain ⟨k, hk, rfl, hb, ha⟩ := hrel
    have HB := hid hb
    have HA := hid ha
    clear hb ha
    by_cases hlt : k < l.length
    · obtain ⟨u, hu⟩ : ∃ u, l[k]? = some u := ⟨_, List.getElem?_eq_getElem hlt⟩
      obtain ⟨b, off, a1, e1, rfl, c0, c1, -⟩ := HC.out k u hu
      have hki : (k : Int) < (l.length : Int) := by omega
      have k0 := (HB.out.cell (block_cell c0)).trans c0
      have k1 := (HB.out.cell (block_cell c1)).trans c1
      clear c0 c1
      have HT := hid (any_take (p := (fun t => decide (t.g = s))) hu HA.out)
      have CF := hid (place1_any wr u a1 u.f.length e1 s g ((HB.out.cell (block_cell HG.out)).trans HG.out))
      cases hq : (u.g == s) with
      | true =>
        have HR := hid (fidx_at (p := (fun t => decide (t.g = s))) hu HA.out (by simpa using hq))
        rw [hq] at CF
        clear HT hu hq
        go_wp2_with (first
          | (go_at_call 200; refine CF.out.mono ?_; rintro en w4 ⟨rfl, hb4⟩
             have HB4 := hid (below_step HB.out hb4)
             clear hb4))
        go_ret
        exact ⟨by rw [HR.out]; rfl, HB4.out⟩
      | false =>
        have HT2 : Hid ((l.take (k + 1)).any (fun t => decide (t.g = s)) = false) := hid (by rw [HT.out]; simpa using hq)
        rw [hq] at CF
        clear HT hu hq
        go_wp2_with (first
          | (go_at_call 200; refine CF.out.mono ?_; rintro en w4 ⟨rfl, hb4⟩
             have HB4 := hid (below_step HB.out hb4)
             clear hb4))
        go_roundw
        case rel => exact ⟨k + 1, by omega, by go_num, HB4.out, HT2.out⟩
        case measure => simp [intOf]; omega
    · obtain rfl : k = l.length := by omega
      rw [List.take_length] at HA
      have HR := hid (fidx_no HA.out)
      go_wp2_with fail
      go_ret
      exact ⟨by rw [HR.out]; rfl, HB.out⟩

def plcI (L : List Ow) (s : Int) : Int := fidx (fun t => decide (t.g = s)) L
set_option maxHeartbeats 2000000 in
theorem place_any {w : World} {R : Rou} {ao b : Option Addr} {c d : Nat} (hr : OwsN w (.slice ao R.sp.length c) R.sp) (s : Int) : Calls Try.prog 136 #[.agg #[.int .i64 R.ep, .int .i64 R.base, .slice ao R.sp.length c, .int .i64 R.mv, .slice b R.cut.length d], .int .i64 s] w (AnsP w (.int .i64 (plcI R.sp s))) := by
  go_enter Try.func136, Try.ntmps136
  go_upto_region 1 with fail
  have hb := (Below.refl w.heap.size w).alloc (Nat.le_refl _) (.cells #[.int .i64 R.ep, .int .i64 R.base, .slice ao R.sp.length c, .int .i64 R.mv, .slice b R.cut.length d] 64)
  have hz := heap_alloc_new w (.cells #[.int .i64 R.ep, .int .i64 R.base, .slice ao R.sp.length c, .int .i64 R.mv, .slice b R.cut.length d] 64)
  have hs : (w.alloc (.cells #[.int .i64 R.ep, .int .i64 R.base, .slice ao R.sp.length c, .int .i64 R.mv, .slice b R.cut.length d] 64)).heap.size = w.heap.size + 1 := by simp
  generalize w.alloc (.cells #[.int .i64 R.ep, .int .i64 R.base, .slice ao R.sp.length c, .int .i64 R.mv, .slice b R.cut.length d] 64) = w1 at *
  have hb2 := hb.alloc hb.size (.cells #[.int .i64 s] 3)
  have hz2 := heap_alloc_new w1 (.cells #[.int .i64 s] 3)
  have hz12 := (((Below.refl w1.heap.size w1).alloc (Nat.le_refl _) (.cells #[.int .i64 s] 3)).block _ (by omega)).trans hz
  rw [hs] at hz2
  generalize w1.alloc (.cells #[.int .i64 s] 3) = w2 at *
  have z2 := cell_in hz12 2 _ rfl
  have CF := hid (placeF_any w2 (hr.old hb2) s (w.heap.size + 1) (cell_in hz2 0 _ rfl))
  have HB := hid hb2
  clear hb hz hs hb2 hz2 hz12 hr
  go_wp2_with (first | (go_at_call 199; refine CF.out.mono ?_; rintro en w3 ⟨rfl, hb3⟩; have HB3 := hid (below_step HB.out hb3); clear hb3))
  go_ret
  exact ⟨rfl, HB3.out⟩

def bfB (z : Int) : Bool := decide (1 ≤ z) && decide (z ≤ 4)
theorem bf_any (w : World) (z : Int) : Calls Try.prog 115 #[.int .i64 z] w (fun e w' => e = .returned (.bool (bfB z)) ∧ w' = w) := by
  unfold bfB
  by_cases h1 : 1 ≤ z
  · rw [decide_eq_true h1]
    go_enter Try.func115, Try.ntmps115
    go_wp2_with fail
    go_ret
    exact ⟨by simp, rfl⟩
  · rw [decide_eq_false h1]
    have h2 : ¬ z ≥ 1 := h1
    go_enter Try.func115, Try.ntmps115
    go_wp2_with fail
    go_ret
    exact ⟨by simp, rfl⟩
def isB (R : Rou) (z : Int) : Bool := bfB R.base && (decide (1 ≤ z) && decide (z ≤ R.base))
set_option maxHeartbeats 2000000 in
theorem isBase_any {w : World} {R : Rou} {ao b : Option Addr} {c d : Nat} (z : Int) (hbf : bfB R.base = true) : Calls Try.prog 122 #[.agg #[.int .i64 R.ep, .int .i64 R.base, .slice ao R.sp.length c, .int .i64 R.mv, .slice b R.cut.length d], .int .i64 z] w (AnsP w (.bool (isB R z))) := by
  have HC := fun W => bf_any W R.base
  rw [hbf] at HC
  have HI : isB R z = (decide (1 ≤ z) && decide (z ≤ R.base)) := by unfold isB; rw [hbf]; rfl
  rw [HI]
  by_cases h1 : 1 ≤ z
  · rw [decide_eq_true h1]
    have h2 : z ≥ 1 := h1
    go_enter Try.func122, Try.ntmps122
    go_upto_region 1 with fail
    have hb := (Below.refl w.heap.size w).alloc (Nat.le_refl _) (.cells #[.int .i64 R.ep, .int .i64 R.base, .slice ao R.sp.length c, .int .i64 R.mv, .slice b R.cut.length d] 64)
    have hz := heap_alloc_new w (.cells #[.int .i64 R.ep, .int .i64 R.base, .slice ao R.sp.length c, .int .i64 R.mv, .slice b R.cut.length d] 64)
    have hs : (w.alloc (.cells #[.int .i64 R.ep, .int .i64 R.base, .slice ao R.sp.length c, .int .i64 R.mv, .slice b R.cut.length d] 64)).heap.size = w.heap.size + 1 := by simp
    generalize w.alloc (.cells #[.int .i64 R.ep, .int .i64 R.base, .slice ao R.sp.length c, .int .i64 R.mv, .slice b R.cut.length d] 64) = w1 at *
    have z1 := cell_in hz 1 _ rfl
    have HB := hid hb
    clear hb hz hs
    go_wp2_with (first | (go_at_call 115; refine (HC _).mono ?_; rintro en w3 ⟨rfl, rfl⟩))
    go_ret
    exact ⟨by simp, HB.out⟩
  · rw [decide_eq_false h1]
    have h2 : ¬ z ≥ 1 := h1
    go_enter Try.func122, Try.ntmps122
    go_upto_region 1 with fail
    have hb := (Below.refl w.heap.size w).alloc (Nat.le_refl _) (.cells #[.int .i64 R.ep, .int .i64 R.base, .slice ao R.sp.length c, .int .i64 R.mv, .slice b R.cut.length d] 64)
    have hz := heap_alloc_new w (.cells #[.int .i64 R.ep, .int .i64 R.base, .slice ao R.sp.length c, .int .i64 R.mv, .slice b R.cut.length d] 64)
    have hs : (w.alloc (.cells #[.int .i64 R.ep, .int .i64 R.base, .slice ao R.sp.length c, .int .i64 R.mv, .slice b R.cut.length d] 64)).heap.size = w.heap.size + 1 := by simp
    generalize w.alloc (.cells #[.int .i64 R.ep, .int .i64 R.base, .slice ao R.sp.length c, .int .i64 R.mv, .slice b R.cut.length d] 64) = w1 at *
    have z1 := cell_in hz 1 _ rfl
    have HB := hid hb
    clear hb hz hs
    go_wp2_with (first | (go_at_call 115; refine (HC _).mono ?_; rintro en w3 ⟨rfl, rfl⟩))
    go_ret
    exact ⟨by simp, HB.out⟩
end Go.Proofs.Ytafcbelkhhjcoaa

set_option linter.unusedVariables false
set_option linter.unusedSimpArgs false
set_option maxRecDepth 100000
namespace Go.Proofs.Ytafcbelkhhjcoaa
open Go.RowKit Go.Deep

theorem wrap64_in {z : Int} (h0 : 0 ≤ z) (h1 : z < 1000000) : wrap64 z = z := by
  unfold wrap64
  omega
def hstep (h : Int) (c : UInt8) : Int := (31 * h % 4294967296 + (c.toNat : Int) % 4294967296) % 4294967296
def hashI (l : List UInt8) : Int := l.foldl hstep 17
theorem hash_in (l : List UInt8) : 0 ≤ hashI l ∧ hashI l < 4294967296 := by
  unfold hashI
  rcases l.eq_nil_or_concat with rfl | ⟨r, c, rfl⟩
  · decide
  · simp only [List.concat_eq_append, List.foldl_append, List.foldl_cons, List.foldl_nil]
    unfold hstep; omega
theorem hash_take {l : List UInt8} {k : Nat} {c : UInt8} (h : l[k]? = some c) : hashI (l.take (k + 1)) = hstep (hashI (l.take k)) c := by
  unfold hashI
  rw [List.take_add_one, h]
  simp
def baseI (b : Int) (l : List UInt8) : Int := hashI l % b + 1
set_option maxHeartbeats 4000000 in
theorem base_any {w : World} {R : Rou} {ao b : Option Addr} {c d : Nat} {x : Value} {l : List UInt8} (hbf : bfB R.base = true) (hx : Rd w x l) : Calls Try.prog 49 #[.agg #[.int .i64 R.ep, .int .i64 R.base, .slice ao R.sp.length c, .int .i64 R.mv, .slice b R.cut.length d], x] w (AnsP w (.int .i64 (baseI R.base l))) := by
  have HC := fun W => bf_any W R.base
  rw [hbf] at HC
  have HX := hid hx
  have hlx := hx.len (P := Try.prog) 62 5 3 Try.underlying62
  have hl9 : l.length ≤ 9223372036854775807 := by obtain ⟨_, _, _, h1, h2, _⟩ := hx; unfold maxLen at h2; omega
  obtain ⟨a9, c9, rfl⟩ := zrd_form hx
  have HL9 := hid hl9
  have hb1 : 1 ≤ R.base ∧ R.base ≤ 4 := by unfold bfB at hbf; simpa using hbf
  have HB1 := hid hb1
  clear hx hbf hb1
  go_enter Try.func49, Try.ntmps49
  go_upto_region 1 with fail
  have hb := (Below.refl w.heap.size w).alloc (Nat.le_refl _) (.cells #[.int .i64 R.ep, .int .i64 R.base, .slice ao R.sp.length c, .int .i64 R.mv, .slice b R.cut.length d] 64)
  have hz := heap_alloc_new w (.cells #[.int .i64 R.ep, .int .i64 R.base, .slice ao R.sp.length c, .int .i64 R.mv, .slice b R.cut.length d] 64)
  have hs : (w.alloc (.cells #[.int .i64 R.ep, .int .i64 R.base, .slice ao R.sp.length c, .int .i64 R.mv, .slice b R.cut.length d] 64)).heap.size = w.heap.size + 1 := by simp
  generalize w.alloc (.cells #[.int .i64 R.ep, .int .i64 R.base, .slice ao R.sp.length c, .int .i64 R.mv, .slice b R.cut.length d] 64) = w1 at *
  have z1 := cell_in hz 1 _ rfl
  have HB := hid hb
  clear hb hz hs
  go_wp2_with (first | (go_at_call 115; refine (HC _).mono ?_; rintro en w3 ⟨rfl, e3⟩; obtain rfl : w1 = w3 := e3.symm))
  go_loopw [14, 5] (fun j h wr => ∃ k : Nat, k ≤ l.length ∧ j = .int .i64 (k : Int) ∧ h = .int .u32 (hashI (l.take k)) ∧ wr = w1)
    (fun j _ _ => l.length - (intOf j).toNat)
  case atStart => exact ⟨0, by omega, rfl, rfl, rfl⟩
  case round =>
    obtain ⟨k, hk, rfl, rfl, rfl⟩ := hrel
    by_cases hlt : k < l.length
    · obtain ⟨q, hq⟩ : ∃ q, l[k]? = some q := ⟨_, List.getElem?_eq_getElem hlt⟩
      have HST := hid (hash_take hq)
      obtain ⟨b1, of1, c1, e1, -, -, h4⟩ := (HX.out.old HB.out).at (by omega)
      cases e1
      have h5 := h4 k hlt
      rw [(List.getElem?_eq_some_iff.1 hq).2] at h5
      have hki : (k : Int) < (l.length : Int) := by omega
      generalize hashI (l.take k) = hv at *
      clear h4
      go_wp2_with fail
      go_roundw
      · exact ⟨k + 1, by omega, by go_num, by rw [HST.out]; rfl, trivial⟩
      · simp [intOf]; omega
    · obtain rfl : k = l.length := by omega
      rw [List.take_length]
      have hki : ¬ (l.length : Int) < (l.length : Int) := by omega
      have HH := hid (hash_in l)
      have hbm : R.base % 4294967296 = R.base := by have := HB1.out; omega
      have hbn : ¬ R.base = 0 := by have := HB1.out; omega
      have HE : Hid (baseI R.base l = hashI l % R.base + 1) := hid rfl
      generalize hashI l = hv at *
      go_wp2_with fail
      have ht : hv.tmod R.base = hv % R.base := Int.tmod_eq_emod_of_nonneg HH.out.1
      have hm0 : 0 ≤ hv % R.base := Int.emod_nonneg _ hbn
      have hm1 : hv % R.base < R.base := Int.emod_lt_of_pos _ (by have := HB1.out; omega)
      rw [ht]
      have hw1 : wrap64 (hv % R.base) = hv % R.base := wrap64_in (by omega) (by have := HB1.out; omega)
      have hw2 : wrap64 (hv % R.base + 1) = hv % R.base + 1 := wrap64_in (by omega) (by have := HB1.out; omega)
      rw [hw1, hw2]
      go_ret
      exact ⟨by rw [HE.out]; rfl, HB.out⟩
/-- The group of an entry's key: the last one not above it; of a key below all the first one. -/
def entG (L : List Ow) (key : List UInt8) : Int := match L with
  | [] => 0
  | o :: r => r.foldl (fun g u => if Op.bytesLess key u.f then g else u.g) o.g
theorem entG_take {L : List Ow} {key : List UInt8} {k : Nat} {u : Ow} (h : L[k]? = some u) : entG (L.take (k + 1)) key = if k = 0 ∨ Op.bytesLess key u.f = false then u.g else entG (L.take k) key := by
  rw [List.take_add_one, h]
  cases k with
  | zero => simp [entG]
  | succ k =>
    cases L with
    | nil => simp at h
    | cons o r =>
      simp only [List.take_succ_cons, entG, List.cons_append, Option.toList_some, List.foldl_append, List.foldl_cons, List.foldl_nil]
      cases Op.bytesLess key u.f <;> simp
theorem cmp_leq (l m : List UInt8) : decide (cmpB l m ≤ 0) = !Op.bytesLess m l := by
  have h := cmp_gtr l m
  rw [← h, Bool.eq_iff_iff]
  simp
set_option maxHeartbeats 4000000 in
theorem entry_any {w : World} {R : Rou} {ao b : Option Addr} {c d : Nat} {x : Value} {l : List UInt8} (hr : OwsN w (.slice ao R.sp.length c) R.sp) (hx : Rd w x l) : Calls Try.prog 51 #[.agg #[.int .i64 R.ep, .int .i64 R.base, .slice ao R.sp.length c, .int .i64 R.mv, .slice b R.cut.length d], x] w (AnsP w (.int .i64 (entG R.sp l))) := by
  have hlm := ows_form hr
  obtain ⟨ao', c', e, -, hm, hc⟩ := ows_cells hr
  cases e
  have HC := hid hc
  have HX := hid hx
  obtain ⟨a9, c9, rfl⟩ := zrd_form hx
  clear hx hr hm hc
  go_enter Try.func51, Try.ntmps51
  go_upto_region 1 with fail
  have hb := (Below.refl w.heap.size w).alloc (Nat.le_refl _) (.cells #[.int .i64 R.ep, .int .i64 R.base, .slice ao R.sp.length c, .int .i64 R.mv, .slice b R.cut.length d] 64)
  have hz := heap_alloc_new w (.cells #[.int .i64 R.ep, .int .i64 R.base, .slice ao R.sp.length c, .int .i64 R.mv, .slice b R.cut.length d] 64)
  have hs : (w.alloc (.cells #[.int .i64 R.ep, .int .i64 R.base, .slice ao R.sp.length c, .int .i64 R.mv, .slice b R.cut.length d] 64)).heap.size = w.heap.size + 1 := by simp
  generalize w.alloc (.cells #[.int .i64 R.ep, .int .i64 R.base, .slice ao R.sp.length c, .int .i64 R.mv, .slice b R.cut.length d] 64) = w1 at *
  have z2 := cell_in hz 2 _ rfl
  have HB := hid hb
  clear hb hz hs
  go_wp2_with fail
  go_loopw [11, 5] (fun j h wr => ∃ k : Nat, k ≤ R.sp.length ∧ j = .int .i64 (k : Int) ∧ h = .int .i64 (entG (R.sp.take k) l) ∧ Hid (Below w.heap.size w wr))
    (fun j _ _ => R.sp.length - (intOf j).toNat)
  case atStart => exact ⟨0, by omega, rfl, rfl, HB.out⟩
  case round =>
    obtain ⟨k, hk, rfl, rfl, HBr⟩ := hrel
    by_cases hlt : k < R.sp.length
    · obtain ⟨u, hu⟩ : ∃ u, R.sp[k]? = some u := ⟨_, List.getElem?_eq_getElem hlt⟩
      have hst := entG_take (key := l) hu
      obtain ⟨b1, of1, x1, d1, rfl, c0, c1, cr⟩ := HC.out k u hu
      have hki : (k : Int) < (R.sp.length : Int) := by omega
      have k0 := (HBr.out.cell (block_cell c0)).trans c0
      have k1 := (HBr.out.cell (block_cell c1)).trans c1
      have HRR := hid (cr.old HBr.out)
      have HXR := hid (HX.out.old HBr.out)
      clear c0 c1 cr
      generalize entG (R.sp.take k) l = gv at *
      go_upto_region 5 with fail
      have hb3 := (Below.refl wr.heap.size wr).alloc (Nat.le_refl _) (.cells #[.int .i64 u.g, .slice x1 u.f.length d1] 140)
      have hz3 := heap_alloc_new wr (.cells #[.int .i64 u.g, .slice x1 u.f.length d1] 140)
      generalize wr.alloc (.cells #[.int .i64 u.g, .slice x1 u.f.length d1] 140) = w3 at *
      have HB3 : Hid (Below w.heap.size w w3) := hid (below_step HBr.out hb3)
      have y0 := cell_in hz3 0 _ rfl
      have y1 := cell_in hz3 1 _ rfl
      have HCC := hid (cmp_call (HRR.out.old hb3) (HXR.out.old hb3))
      have hle := cmp_leq u.f l
      clear hb3 hz3 k0 k1
      by_cases h0 : k = 0
      · rw [if_pos (.inl h0)] at hst
        have hk0 : (k : Int) = 0 := by omega
        have HST := hid hst
        clear hst
        have hk1 : ((k : Int) == 0) = true := by simp [hk0]
        go_wp2_with fail
        go_roundw
        · exact ⟨k + 1, by omega, by go_num, by rw [HST.out], HB3⟩
        · simp [intOf]; omega
      · have hk0 : ¬ (k : Int) = 0 := by omega
        have hk1 : ((k : Int) == 0) = false := by simp; omega
        cases hq : Op.bytesLess l u.f with
        | true =>
          rw [hq, if_neg (by simp [h0])] at hst
          rw [hq] at hle
          have HST := hid hst
          clear hst
          go_wp2_with (first | (go_at_call 129; refine HCC.out.mono ?_; rintro en w4 ⟨rfl, e4⟩; obtain rfl : w3 = w4 := e4.symm))
          go_roundw
          · exact ⟨k + 1, by omega, by go_num, by rw [HST.out], HB3⟩
          · simp [intOf]; omega
        | false =>
          rw [hq, if_pos (.inr rfl)] at hst
          rw [hq] at hle
          have HST := hid hst
          clear hst
          go_wp2_with (first | (go_at_call 129; refine HCC.out.mono ?_; rintro en w4 ⟨rfl, e4⟩; obtain rfl : w3 = w4 := e4.symm))
          go_roundw
          · exact ⟨k + 1, by omega, by go_num, by rw [HST.out], HB3⟩
          · simp [intOf]; omega
    · obtain rfl : k = R.sp.length := by omega
      rw [List.take_length]
      go_wp2_with fail
      go_ret
      exact ⟨rfl, HBr.out⟩

def grpI (R : Rou) (key : List UInt8) : Int := if begB key 114 then baseI R.base key else if begB key 120 then entG R.sp key else 0
set_option maxHeartbeats 4000000 in
theorem group_any {w : World} {R : Rou} {ao b : Option Addr} {c d : Nat} {x : Value} {l : List UInt8} (hbf : bfB R.base = true) (hr : OwsN w (.slice ao R.sp.length c) R.sp) (hx : Rd w x l) : Calls Try.prog 53 #[.agg #[.int .i64 R.ep, .int .i64 R.base, .slice ao R.sp.length c, .int .i64 R.mv, .slice b R.cut.length d], x] w (AnsP w (.int .i64 (grpI R l))) := by
  have HR := hid hr
  have HX := hid hx
  obtain ⟨a9, c9, rfl⟩ := zrd_form hx
  clear hx hr
  go_enter Try.func53, Try.ntmps53
  go_upto_region 1 with fail
  have hb := (Below.refl w.heap.size w).alloc (Nat.le_refl _) (.cells #[.int .i64 R.ep, .int .i64 R.base, .slice ao R.sp.length c, .int .i64 R.mv, .slice b R.cut.length d] 64)
  have hz := heap_alloc_new w (.cells #[.int .i64 R.ep, .int .i64 R.base, .slice ao R.sp.length c, .int .i64 R.mv, .slice b R.cut.length d] 64)
  have hs : (w.alloc (.cells #[.int .i64 R.ep, .int .i64 R.base, .slice ao R.sp.length c, .int .i64 R.mv, .slice b R.cut.length d] 64)).heap.size = w.heap.size + 1 := by simp
  generalize w.alloc (.cells #[.int .i64 R.ep, .int .i64 R.base, .slice ao R.sp.length c, .int .i64 R.mv, .slice b R.cut.length d] 64) = w1 at *
  have z0 := cell_in hz 0 _ rfl
  have f0 := free_in hz 0
  have z1 := cell_in hz 1 _ rfl
  have f1 := free_in hz 1
  have z2 := cell_in hz 2 _ rfl
  have f2 := free_in hz 2
  have z3 := cell_in hz 3 _ rfl
  have f3 := free_in hz 3
  have z4 := cell_in hz 4 _ rfl
  have f4 := free_in hz 4
  have HB := hid hb
  have C1 := hid (beg_any (HX.out.old hb) 114)
  have C2 := hid (beg_any (HX.out.old hb) 120)
  have C3 := hid (base_any (ao := ao) (b := b) (c := c) (d := d) hbf (HX.out.old hb))
  have C4 := hid (entry_any (b := b) (d := d) (HR.out.old hb) (HX.out.old hb))
  have HG : Hid (grpI R l = if begB l 114 then baseI R.base l else if begB l 120 then entG R.sp l else 0) := hid rfl
  clear hb hz hs
  cases q1 : begB l 114 with
  | true =>
    rw [q1] at C1 HG
    go_wp2_with (first
      | (go_at_call 130; refine C1.out.mono ?_; rintro en w4 ⟨rfl, e4⟩; obtain rfl : w1 = w4 := e4.symm)
      | (go_at_call 49; refine C3.out.mono ?_; rintro en w4 ⟨rfl, hb4⟩; have HB4 := hid (below_step HB.out hb4); clear hb4))
    go_ret
    exact ⟨by rw [HG.out]; rfl, HB4.out⟩
  | false =>
    rw [q1] at C1 HG
    cases q2 : begB l 120 with
    | true =>
      rw [q2] at C2 HG
      go_upto_region 3 with (first | (go_at_call 130; refine C1.out.mono ?_; rintro en w4 ⟨rfl, e4⟩; obtain rfl : w1 = w4 := e4.symm))
      go_wp2_with (first
        | (go_at_call 130; refine C2.out.mono ?_; rintro en w4 ⟨rfl, e4⟩; obtain rfl : w1 = w4 := e4.symm)
        | (go_at_call 51; refine C4.out.mono ?_; rintro en w4 ⟨rfl, hb4⟩; have HB4 := hid (below_step HB.out hb4); clear hb4))
      go_ret
      exact ⟨by rw [HG.out]; rfl, HB4.out⟩
    | false =>
      rw [q2] at C2 HG
      go_upto_region 3 with (first | (go_at_call 130; refine C1.out.mono ?_; rintro en w4 ⟨rfl, e4⟩; obtain rfl : w1 = w4 := e4.symm))
      go_wp2_with (first
        | (go_at_call 130; refine C2.out.mono ?_; rintro en w4 ⟨rfl, e4⟩; obtain rfl : w1 = w4 := e4.symm))
      go_ret
      exact ⟨by rw [HG.out]; rfl, HB.out⟩
end Go.Proofs.Ytafcbelkhhjcoaa

set_option linter.unusedVariables false
set_option linter.unusedSimpArgs false
set_option maxRecDepth 100000
namespace Go.Proofs.Ytafcbelkhhjcoaa
open Go.RowKit Go.Deep

/-- Bytes stay, whatever is put into a block of slices. -/
theorem rd_put {w w' : World} {x : Value} {l : List UInt8} (h : Rd w x l) {q : Nat} {x1 x2 : Option Addr} {n1 n2 m1 m2 : Nat} {t : TypeId} (hk : w.heap[q]? = some (.cells #[.slice x1 n1 m1, .slice x2 n2 m2] t (0, 0))) (hw : Keep (· = q) w w') : Rd w' x l := by
  refine h.keep hw (fun hne k hb he => ?_)
  subst he
  obtain ⟨b, off, c9, e, -, -, h4⟩ := h.at (List.length_pos_iff.2 hne)
  have h5 := h4 0 (List.length_pos_iff.2 hne)
  rw [e] at hb
  have hq2 : b = k := by simpa [blk] using hb
  subst hq2
  simp only [World.cell?, hk] at h5
  rcases off with _ | _ | off <;> simp at h5
theorem keep2 (w : World) (q : Nat) (u v : Value) : Keep (· = q) w ((w.setCell ⟨q, 0, none⟩ u).setCell ⟨q, 1, none⟩ v) :=
  Keep.trans (Keep.set (X := (· = q)) w ⟨q, 0, none⟩ u rfl) (Keep.set (X := (· = q)) _ ⟨q, 1, none⟩ v rfl)
set_option maxHeartbeats 4000000 in
theorem owned_none {w : World} {R : Rou} {ao b : Option Addr} {c d : Nat} (hr : OwsN w (.slice ao R.sp.length c) R.sp) {z : Int} (hp : plcI R.sp z = -1) : Calls Try.prog 58 #[.agg #[.int .i64 R.ep, .int .i64 R.base, .slice ao R.sp.length c, .int .i64 R.mv, .slice b R.cut.length d], .int .i64 z] w (SpA w [] []) := by
  have HR := hid hr
  clear hr
  go_enter Try.func58, Try.ntmps58
  go_upto_region 1 with fail
  have hb := (Below.refl w.heap.size w).alloc (Nat.le_refl _) (.cells #[.int .i64 R.ep, .int .i64 R.base, .slice ao R.sp.length c, .int .i64 R.mv, .slice b R.cut.length d] 64)
  have hz := heap_alloc_new w (.cells #[.int .i64 R.ep, .int .i64 R.base, .slice ao R.sp.length c, .int .i64 R.mv, .slice b R.cut.length d] 64)
  have hs : (w.alloc (.cells #[.int .i64 R.ep, .int .i64 R.base, .slice ao R.sp.length c, .int .i64 R.mv, .slice b R.cut.length d] 64)).heap.size = w.heap.size + 1 := by simp
  generalize w.alloc (.cells #[.int .i64 R.ep, .int .i64 R.base, .slice ao R.sp.length c, .int .i64 R.mv, .slice b R.cut.length d] 64) = w1 at *
  have hb2 := hb.alloc hb.size (.cells #[.slice none 0 0, .slice none 0 0] 66)
  have hz2 := heap_alloc_new w1 (.cells #[.slice none 0 0, .slice none 0 0] 66)
  have hz12 := (((Below.refl w1.heap.size w1).alloc (Nat.le_refl _) (.cells #[.slice none 0 0, .slice none 0 0] 66)).block _ (by omega)).trans hz
  have hs2 : (w1.alloc (.cells #[.slice none 0 0, .slice none 0 0] 66)).heap.size = w.heap.size + 2 := by simp; omega
  rw [hs] at hz2
  generalize w1.alloc (.cells #[.slice none 0 0, .slice none 0 0] 66) = w2 at *
  have HB := hid hb2
  have HS := hid hs2
  have HZ1 := hid hz12
  have HZ2 := hid hz2
  have z0 := cell_in hz12 0 _ rfl
  have f0 := free_in hz12 0
  have z1 := cell_in hz12 1 _ rfl
  have f1 := free_in hz12 1
  have z2 := cell_in hz12 2 _ rfl
  have f2 := free_in hz12 2
  have z3 := cell_in hz12 3 _ rfl
  have f3 := free_in hz12 3
  have z4 := cell_in hz12 4 _ rfl
  have f4 := free_in hz12 4
  have CP := hid (place_any (b := b) (d := d) (HR.out.old hb2) z)
  rw [hp] at CP
  clear hb hz hs hb2 hz2 hz12 hs2
  go_upto_region 3 with (first | (go_at_call 136; refine CP.out.mono ?_; rintro en w4 ⟨rfl, hb4⟩; have HB4 := hid (below_step HB.out hb4); have HZ4 := hid ((hb4.block _ (by have := HS.out; omega)).trans HZ2.out); clear hb4 z0 z1 z2 z3 z4 f0 f1 f2 f3 f4))
  have r0 := cell_in HZ4.out 0 _ rfl
  have fr0 := free_in HZ4.out 0
  have r1 := cell_in HZ4.out 1 _ rfl
  have fr1 := free_in HZ4.out 1
  go_wp2_with fail
  have hz9 := put_in (put_in HZ4.out 0 (.slice none 0 0)) 1 (.slice none 0 0)
  have hb9 : Below w.heap.size w ((w4.setCell ⟨w.heap.size + 1, 0, none⟩ (.slice none 0 0)).setCell ⟨w.heap.size + 1, 1, none⟩ (.slice none 0 0)) := (HB4.out.setCell (show w.heap.size ≤ w.heap.size + 1 by omega) _).setCell (show w.heap.size ≤ w.heap.size + 1 by omega) _
  generalize (w4.setCell ⟨w.heap.size + 1, 0, none⟩ (.slice none 0 0)).setCell ⟨w.heap.size + 1, 1, none⟩ (.slice none 0 0) = w9 at *
  (try simp only [Exit.inBlock, Exit.then]); refine bodyPost_ret (results_cell_row rfl _ _ (w.heap.size + 1) 66 _ (0, 0) _ rfl hz9 Try.underlying66 rfl (by kernel_rfl)) rfl ?_
  exact ⟨_, _, _, _, rfl, Rd.nil _, Rd.nil _, hb9⟩

set_option maxHeartbeats 4000000 in
theorem owned_some {w : World} {R : Rou} {ao b : Option Addr} {c d : Nat} (hr : OwsN w (.slice ao R.sp.length c) R.sp) (hL : ∀ o ∈ R.sp, o.f.length ≤ 1000) {z : Int} {k : Nat} {o : Ow} (hp : plcI R.sp z = (k : Int)) (hk : R.sp[k]? = some o) : Calls Try.prog 58 #[.agg #[.int .i64 R.ep, .int .i64 R.base, .slice ao R.sp.length c, .int .i64 R.mv, .slice b R.cut.length d], .int .i64 z] w (SpA w o.f (toL R.sp k)) := by
  have HR := hid hr
  have hl1 : o.f.length ≤ 140737488355328 := by have := hL o (List.mem_of_getElem? hk); omega
  have hl2 : (toL R.sp k).length ≤ 140737488355328 := by
    unfold toL
    cases h9 : R.sp[k + 1]? with
    | none => simp
    | some u => have := hL u (List.mem_of_getElem? h9); simp; omega
  have HL1 := hid hl1
  have HL2 := hid hl2
  have HK := hid hk
  clear hr hl1 hl2 hL hk
  go_enter Try.func58, Try.ntmps58
  go_upto_region 1 with fail
  have hb := (Below.refl w.heap.size w).alloc (Nat.le_refl _) (.cells #[.int .i64 R.ep, .int .i64 R.base, .slice ao R.sp.length c, .int .i64 R.mv, .slice b R.cut.length d] 64)
  have hz := heap_alloc_new w (.cells #[.int .i64 R.ep, .int .i64 R.base, .slice ao R.sp.length c, .int .i64 R.mv, .slice b R.cut.length d] 64)
  have hs : (w.alloc (.cells #[.int .i64 R.ep, .int .i64 R.base, .slice ao R.sp.length c, .int .i64 R.mv, .slice b R.cut.length d] 64)).heap.size = w.heap.size + 1 := by simp
  generalize w.alloc (.cells #[.int .i64 R.ep, .int .i64 R.base, .slice ao R.sp.length c, .int .i64 R.mv, .slice b R.cut.length d] 64) = w1 at *
  have hb2 := hb.alloc hb.size (.cells #[.slice none 0 0, .slice none 0 0] 66)
  have hz2 := heap_alloc_new w1 (.cells #[.slice none 0 0, .slice none 0 0] 66)
  have hz12 := (((Below.refl w1.heap.size w1).alloc (Nat.le_refl _) (.cells #[.slice none 0 0, .slice none 0 0] 66)).block _ (by omega)).trans hz
  have hs2 : (w1.alloc (.cells #[.slice none 0 0, .slice none 0 0] 66)).heap.size = w.heap.size + 2 := by simp; omega
  rw [hs] at hz2
  generalize w1.alloc (.cells #[.slice none 0 0, .slice none 0 0] 66) = w2 at *
  have HB := hid hb2
  have HS := hid hs2
  have HZ1 := hid hz12
  have HZ2 := hid hz2
  have z0 := cell_in hz12 0 _ rfl
  have f0 := free_in hz12 0
  have z1 := cell_in hz12 1 _ rfl
  have f1 := free_in hz12 1
  have z2 := cell_in hz12 2 _ rfl
  have f2 := free_in hz12 2
  have z3 := cell_in hz12 3 _ rfl
  have f3 := free_in hz12 3
  have z4 := cell_in hz12 4 _ rfl
  have f4 := free_in hz12 4
  have CP := hid (place_any (b := b) (d := d) (HR.out.old hb2) z)
  rw [hp] at CP
  have hk0 : ¬ (k : Int) < 0 := by omega
  clear hb hz hs hb2 hz2 hz12 hs2
  go_upto_region 4 with (first | (go_at_call 136; refine CP.out.mono ?_; rintro en w4 ⟨rfl, hb4⟩; have HB4 := hid (below_step HB.out hb4); have HZ4 := hid ((hb4.block _ (by have := HS.out; omega)).trans HZ2.out); have HY4 := hid ((hb4.block _ (by have := HS.out; omega)).trans HZ1.out); clear hb4 z0 z1 z2 z3 z4 f0 f1 f2 f3 f4))
  have z0 := cell_in HY4.out 0 _ rfl
  have f0 := free_in HY4.out 0
  have z1 := cell_in HY4.out 1 _ rfl
  have f1 := free_in HY4.out 1
  have z2 := cell_in HY4.out 2 _ rfl
  have f2 := free_in HY4.out 2
  have z3 := cell_in HY4.out 3 _ rfl
  have f3 := free_in HY4.out 3
  have z4 := cell_in HY4.out 4 _ rfl
  have f4 := free_in HY4.out 4
  have CK := hid (keys_any (b := b) (d := d) (HR.out.old HB4.out) HK.out)
  have HS4 : Hid (w.heap.size + 1 < w4.heap.size) := hid (lt_of_block HZ4.out)
  go_wp2_with (first
    | (go_at_call 134; refine CK.out.mono ?_; rintro en w5 ⟨a5, c5, a6, c6, rfl, hf, ht, hb5⟩; have HB5 := hid (below_step HB4.out hb5); have HZ5 := hid ((hb5.block _ HS4.out).trans HZ4.out); have CC := hid (cspan_any hf ht HL1.out HL2.out); clear hf ht hb5)
    | (go_at_call 126; refine CC.out.mono ?_; rintro en w6 ⟨a7, c7, a8, c8, rfl, hf, ht, hb6⟩; have HB6 := hid (below_step HB5.out hb6); have HF6 := hid hf; have HT6 := hid ht; have hz6 := (hb6.block _ (lt_of_block HZ5.out)).trans HZ5.out; have HZ6 := hid hz6; have r0 := cell_in hz6 0 _ rfl; have r1 := cell_in hz6 1 _ rfl; have fr0 := free_in hz6 0; have fr1 := free_in hz6 1; clear hf ht hb6 hz6))
  have hz9 := put_in (put_in HZ6.out 0 (.slice a7 o.f.length c7)) 1 (.slice a8 (toL R.sp k).length c8)
  have hb9 : Below w.heap.size w ((w6.setCell ⟨w.heap.size + 1, 0, none⟩ (.slice a7 o.f.length c7)).setCell ⟨w.heap.size + 1, 1, none⟩ (.slice a8 (toL R.sp k).length c8)) := (HB6.out.setCell (show w.heap.size ≤ w.heap.size + 1 by omega) _).setCell (show w.heap.size ≤ w.heap.size + 1 by omega) _
  have hf9 := rd_put HF6.out HZ6.out (keep2 w6 (w.heap.size + 1) (.slice a7 o.f.length c7) (.slice a8 (toL R.sp k).length c8))
  have ht9 := rd_put HT6.out HZ6.out (keep2 w6 (w.heap.size + 1) (.slice a7 o.f.length c7) (.slice a8 (toL R.sp k).length c8))
  generalize (w6.setCell ⟨w.heap.size + 1, 0, none⟩ (.slice a7 o.f.length c7)).setCell ⟨w.heap.size + 1, 1, none⟩ (.slice a8 (toL R.sp k).length c8) = w9 at *
  (try simp only [Exit.inBlock, Exit.then]); refine bodyPost_ret (results_cell_row rfl _ _ (w.heap.size + 1) 66 _ (0, 0) _ rfl hz9 Try.underlying66 rfl (by kernel_rfl)) rfl ?_
  exact ⟨_, _, _, _, rfl, hf9, ht9, hb9⟩
/-- A part is told. -/
def PtA (w : World) (F T : List UInt8) (b : Bool) (e : Ending) (w' : World) : Prop :=
  ∃ a1 c1 a2 c2, e = .returned (.tuple #[.agg #[.slice a1 F.length c1, .slice a2 T.length c2], .bool b]) ∧ Rd w' (.slice a1 F.length c1) F ∧ Rd w' (.slice a2 T.length c2) T ∧ Below w.heap.size w w'
theorem results_cell2 {P : Program} {fn : Func} {p u : Tmp} {ty : TypeId} (h : fn.results = #[.cell p ty, .tmp u]) (tmps : Array Value) (w : World) (g : Nat) (t : TypeId) (cs : Array Value) (fr : Nat × Nat) (d : TypeDesc)
    (hp : tmps.getD p undef = .pointer (some ⟨g, 0, none⟩)) (hg : w.heap[g]? = some (.cells cs t fr))
    (hu : P.underlying ty = some d) (hd : (match d with | .struct _ | .array _ _ => true | _ => false) = true) (hi : (P.info? ty).map (·.size) = some cs.size) :
    (results fn tmps).run P w = .ok (.tuple #[.agg cs, tmps.getD u undef]) w := by
  have hp' : tmps[p]?.getD undef = .pointer (some ⟨g, 0, none⟩) := by simpa using hp
  simp [results, h, hp', asAddr, run_loadVar_row w g t ty cs fr d hg hu hd hi]
def AllA (R : Rou) (z : Int) (F2 T2 : List UInt8) : Prop := (isB R z = true ∧ F2 = [114] ∧ T2 = [115] ∧ plcI R.sp z = -1) ∨ (isB R z = false ∧ plcI R.sp z = -1 ∧ F2 = [] ∧ T2 = []) ∨ ∃ (k : Nat) (o : Ow), isB R z = false ∧ plcI R.sp z = (k : Int) ∧ R.sp[k]? = some o ∧ F2 = o.f ∧ T2 = toL R.sp k
set_option maxHeartbeats 8000000 in
theorem part_any {w : World} {R : Rou} {ao b : Option Addr} {c d : Nat} (hbf : bfB R.base = true) (hr : OwsN w (.slice ao R.sp.length c) R.sp) (hL : ∀ o ∈ R.sp, o.f.length ≤ 1000) {a1 a2 : Option Addr} {c1 c2 : Nat} {F1 T1 : List UInt8} (h1 : Rd w (.slice a1 F1.length c1) F1) (h2 : Rd w (.slice a2 T1.length c2) T1)
    (hl1 : F1.length ≤ 140737488355328) (hl2 : T1.length ≤ 140737488355328) {z : Int} {F2 T2 : List UInt8} (hA : AllA R z F2 T2) :
    Calls Try.prog 46 #[.agg #[.int .i64 R.ep, .int .i64 R.base, .slice ao R.sp.length c, .int .i64 R.mv, .slice b R.cut.length d], .int .i64 z, .agg #[.slice a1 F1.length c1, .slice a2 T1.length c2]] w
      (PtA w (if Op.bytesLess (bothF F1 F2) (bothT T1 T2) then bothF F1 F2 else []) (if Op.bytesLess (bothF F1 F2) (bothT T1 T2) then bothT T1 T2 else []) (Op.bytesLess (bothF F1 F2) (bothT T1 T2))) := by
  have HR := hid hr
  have HLL := hid hL
  have H1 := hid h1
  have H2 := hid h2
  have HL1 := hid hl1
  have HL2 := hid hl2
  have HA := hid hA
  have HBF := hid hbf
  have hlb : (bothF F1 F2).length ≤ 140737488355328 ∧ (bothT T1 T2).length ≤ 140737488355328 := by
    have hAA := hA
    have h9 : F2.length ≤ 140737488355328 ∧ T2.length ≤ 140737488355328 := by
      rcases hAA with ⟨q1, rfl, rfl, q4⟩ | ⟨q1, q2, rfl, rfl⟩ | ⟨k, o, q1, q2, q3, rfl, rfl⟩
      · simp
      · simp
      · refine ⟨by have := hL o (List.mem_of_getElem? q3); omega, ?_⟩
        unfold toL
        cases h9 : R.sp[k + 1]? with
        | none => simp
        | some u => have := hL u (List.mem_of_getElem? h9); simp; omega
    unfold bothF bothT
    constructor
    · split <;> omega
    · split <;> omega
  have HLB := hid hlb
  clear hr h1 h2 hl1 hl2 hL hA hbf hlb
  obtain ⟨F9, hF9⟩ : ∃ F9, bothF F1 F2 = F9 := ⟨_, rfl⟩
  obtain ⟨T9, hT9⟩ : ∃ T9, bothT T1 T2 = T9 := ⟨_, rfl⟩
  rw [hF9, hT9] at HLB ⊢
  have HF9 := hid hF9
  have HT9 := hid hT9
  clear hF9 hT9
  obtain ⟨FR, hFR⟩ : ∃ FR, (if Op.bytesLess F9 T9 then F9 else []) = FR := ⟨_, rfl⟩
  obtain ⟨TR, hTR⟩ : ∃ TR, (if Op.bytesLess F9 T9 then T9 else []) = TR := ⟨_, rfl⟩
  rw [hFR, hTR]
  have HFR := hid hFR
  have HTR := hid hTR
  clear hFR hTR
  go_enter Try.func46, Try.ntmps46
  go_upto_region 1 with fail
  have hb := (Below.refl w.heap.size w).alloc (Nat.le_refl _) (.cells #[.int .i64 R.ep, .int .i64 R.base, .slice ao R.sp.length c, .int .i64 R.mv, .slice b R.cut.length d] 64)
  have hz := heap_alloc_new w (.cells #[.int .i64 R.ep, .int .i64 R.base, .slice ao R.sp.length c, .int .i64 R.mv, .slice b R.cut.length d] 64)
  have hs : (w.alloc (.cells #[.int .i64 R.ep, .int .i64 R.base, .slice ao R.sp.length c, .int .i64 R.mv, .slice b R.cut.length d] 64)).heap.size = w.heap.size + 1 := by simp
  generalize w.alloc (.cells #[.int .i64 R.ep, .int .i64 R.base, .slice ao R.sp.length c, .int .i64 R.mv, .slice b R.cut.length d] 64) = w1 at *
  have hb2 := hb.alloc hb.size (.cells #[.slice a1 F1.length c1, .slice a2 T1.length c2] 66)
  have hz2 := heap_alloc_new w1 (.cells #[.slice a1 F1.length c1, .slice a2 T1.length c2] 66)
  have hz12 := (((Below.refl w1.heap.size w1).alloc (Nat.le_refl _) (.cells #[.slice a1 F1.length c1, .slice a2 T1.length c2] 66)).block _ (by omega)).trans hz
  have hs2 : (w1.alloc (.cells #[.slice a1 F1.length c1, .slice a2 T1.length c2] 66)).heap.size = w.heap.size + 2 := by simp; omega
  rw [hs] at hz2
  generalize w1.alloc (.cells #[.slice a1 F1.length c1, .slice a2 T1.length c2] 66) = w2 at *
  have hb3 := hb2.alloc hb2.size (.cells #[.slice none 0 0, .slice none 0 0] 66)
  have hz3 := heap_alloc_new w2 (.cells #[.slice none 0 0, .slice none 0 0] 66)
  have hz13 := (((Below.refl w2.heap.size w2).alloc (Nat.le_refl _) (.cells #[.slice none 0 0, .slice none 0 0] 66)).block _ (by omega)).trans hz12
  have hz23 := (((Below.refl w2.heap.size w2).alloc (Nat.le_refl _) (.cells #[.slice none 0 0, .slice none 0 0] 66)).block _ (by omega)).trans hz2
  have hs3 : (w2.alloc (.cells #[.slice none 0 0, .slice none 0 0] 66)).heap.size = w.heap.size + 3 := by simp; omega
  rw [hs2] at hz3
  generalize w2.alloc (.cells #[.slice none 0 0, .slice none 0 0] 66) = w3 at *
  have HB := hid hb3
  have HS := hid hs3
  have HZ1 := hid hz13
  have HZ2 := hid hz23
  have HZ3 := hid hz3
  clear hb hz hs hb2 hz2 hz12 hs2 hb3 hz3 hz13 hz23 hs3
  have z0 := cell_in HZ1.out 0 _ rfl
  have f0 := free_in HZ1.out 0
  have z1 := cell_in HZ1.out 1 _ rfl
  have f1 := free_in HZ1.out 1
  have z2 := cell_in HZ1.out 2 _ rfl
  have f2 := free_in HZ1.out 2
  have z3 := cell_in HZ1.out 3 _ rfl
  have f3 := free_in HZ1.out 3
  have z4 := cell_in HZ1.out 4 _ rfl
  have f4 := free_in HZ1.out 4
  have hcO : ∃ F0 T0 : List UInt8, Calls Try.prog 58 #[.agg #[.int .i64 R.ep, .int .i64 R.base, .slice ao R.sp.length c, .int .i64 R.mv, .slice b R.cut.length d], .int .i64 z] w3 (SpA w3 F0 T0) ∧ (isB R z = false → F0 = F2 ∧ T0 = T2) ∧ (isB R z = true → F2 = [114] ∧ T2 = [115]) := by
    rcases HA.out with ⟨q1, rfl, rfl, q4⟩ | ⟨q1, q2, rfl, rfl⟩ | ⟨k, o, q1, q2, q3, rfl, rfl⟩
    · exact ⟨[], [], owned_none (HR.out.old HB.out) q4, (fun h => by rw [q1] at h; cases h), fun _ => ⟨rfl, rfl⟩⟩
    · exact ⟨[], [], owned_none (HR.out.old HB.out) q2, fun _ => ⟨rfl, rfl⟩, (fun h => by rw [q1] at h; cases h)⟩
    · exact ⟨_, _, owned_some (HR.out.old HB.out) HLL.out q2 q3, fun _ => ⟨rfl, rfl⟩, (fun h => by rw [q1] at h; cases h)⟩
  obtain ⟨F0, T0, hCO, hE0, hE1⟩ := hcO
  have HCO := hid hCO
  have HE0 := hid hE0
  have HE1 := hid hE1
  clear hCO hE0 hE1
  go_upto_region 2 with (first | (go_at_call 58; refine HCO.out.mono ?_; rintro en w4 ⟨a5, c5, a6, c6, rfl, hf, ht, hb4⟩; have HF := hid hf; have HT := hid ht; have HB4 := hid hb4; clear hf ht hb4))
  have hz5 := heap_alloc_new w4 (.cells #[.slice a5 F0.length c5, .slice a6 T0.length c6] 66)
  have hb5 := (Below.refl w4.heap.size w4).alloc (Nat.le_refl _) (.cells #[.slice a5 F0.length c5, .slice a6 T0.length c6] 66)
  have hg4 := HB4.out.size
  have HG : Hid (w.heap.size + 3 ≤ w4.heap.size) := hid (by have := HS.out; omega)
  have HF5 := hid (HF.out.old hb5)
  have HT5 := hid (HT.out.old hb5)
  have HB5 := hid (below_step (below_step HB.out HB4.out) hb5)
  have HY1 := hid ((hb5.block _ (by have := HG.out; omega)).trans ((HB4.out.block _ (by have := HS.out; omega)).trans HZ1.out))
  have HY2 := hid ((hb5.block _ (by have := HG.out; omega)).trans ((HB4.out.block _ (by have := HS.out; omega)).trans HZ2.out))
  have HY3 := hid ((hb5.block _ (by have := HG.out; omega)).trans ((HB4.out.block _ (by have := HS.out; omega)).trans HZ3.out))
  generalize w4.heap.size = g at *
  generalize w4.alloc (.cells #[.slice a5 F0.length c5, .slice a6 T0.length c6] 66) = w5 at *
  have HYG := hid hz5
  clear hz5 hb5 hg4 HZ1 HZ2 HZ3 HS HF HT HB4 HCO z0 z1 z2 z3 z4 f0 f1 f2 f3 f4
  have z0 := cell_in HY1.out 0 _ rfl
  have f0 := free_in HY1.out 0
  have z1 := cell_in HY1.out 1 _ rfl
  have f1 := free_in HY1.out 1
  have z2 := cell_in HY1.out 2 _ rfl
  have f2 := free_in HY1.out 2
  have z3 := cell_in HY1.out 3 _ rfl
  have f3 := free_in HY1.out 3
  have z4 := cell_in HY1.out 4 _ rfl
  have f4 := free_in HY1.out 4
  have CI := hid (isBase_any (w := w5) (ao := ao) (b := b) (c := c) (d := d) z HBF.out)
  cases hib : isB R z with
  | true =>
    rw [hib] at CI
    go_upto_region 3 with (first | (go_at_call 122; refine CI.out.mono ?_; rintro en w6 ⟨rfl, hb6⟩; have HB6 := hid (below_step HB5.out hb6); have HX2 := hid ((hb6.block _ (lt_of_block HY2.out)).trans HY2.out); have HX3 := hid ((hb6.block _ (lt_of_block HY3.out)).trans HY3.out); have HXG := hid ((hb6.block _ (lt_of_block HYG.out)).trans HYG.out); have HF6 := hid (HF5.out.old hb6); have HT6 := hid (HT5.out.old hb6); clear hb6 z0 z1 z2 z3 z4 f0 f1 f2 f3 f4 CI HY1 HY2 HY3 HYG))
    obtain ⟨rfl, rfl⟩ := HE1.out hib
    go_upto_region 4 with (first | (go_at_call 123; refine (mark114_any _).mono ?_; rintro en w7 ⟨a7, c7, a8, c8, rfl, hf7, ht7, hb7⟩; have HB7 := hid (below_step HB6.out hb7); have HV2 := hid ((hb7.block _ (lt_of_block HX2.out)).trans HX2.out); have HV3 := hid ((hb7.block _ (lt_of_block HX3.out)).trans HX3.out); have hxg7 := (hb7.block _ (lt_of_block HXG.out)).trans HXG.out; have HVG := hid hxg7; have q0 := cell_in hxg7 0 _ rfl; have q1 := cell_in hxg7 1 _ rfl; have fq0 := free_in hxg7 0; have fq1 := free_in hxg7 1; have HF7 := hid hf7; have HT7 := hid ht7; clear hf7 ht7 hb7 hxg7 HX2 HX3 HXG HF6 HT6 HB6))
    clear q0 q1 fq0 fq1
    have hkk := keep2 w7 g (.slice a7 1 c7) (.slice a8 1 c8)
    have hf8 := rd_put HF7.out HVG.out hkk
    have ht8 := rd_put HT7.out HVG.out hkk
    have hvg := put_in (put_in HVG.out 0 (.slice a7 1 c7)) 1 (.slice a8 1 c8)
    have hv2 := off_set (i := 1) (.slice a8 1 c8) (off_set (i := 0) (.slice a7 1 c7) HV2.out (show g ≠ w.heap.size + 1 by have := HG.out; omega)) (show g ≠ w.heap.size + 1 by have := HG.out; omega)
    have hv3 := off_set (i := 1) (.slice a8 1 c8) (off_set (i := 0) (.slice a7 1 c7) HV3.out (show g ≠ w.heap.size + 2 by have := HG.out; omega)) (show g ≠ w.heap.size + 2 by have := HG.out; omega)
    have hb8 : Below w.heap.size w ((w7.setCell ⟨g, 0, none⟩ (.slice a7 1 c7)).setCell ⟨g, 1, none⟩ (.slice a8 1 c8)) := (HB7.out.setCell (show w.heap.size ≤ g by have := HG.out; omega) _).setCell (show w.heap.size ≤ g by have := HG.out; omega) _
    generalize (w7.setCell ⟨g, 0, none⟩ (.slice a7 1 c7)).setCell ⟨g, 1, none⟩ (.slice a8 1 c8) = w8 at *
    clear HV2 HV3 HVG HF7 HT7 HB7 hkk
    have CB := hid (both_any (H1.out.old hb8) (H2.out.old hb8) hf8 ht8)
    rw [HF9.out, HT9.out] at CB
    have HV3 := hid hv3
    have HB8 := hid hb8
    have p0 := cell_in hv2 0 _ rfl
    have fp0 := free_in hv2 0
    have p1 := cell_in hv2 1 _ rfl
    have fp1 := free_in hv2 1
    have q0 := cell_in hvg 0 _ rfl
    have fq0 := free_in hvg 0
    have q1 := cell_in hvg 1 _ rfl
    have fq1 := free_in hvg 1
    clear hf8 ht8 hv2 hv3 hvg hb8
    go_upto_region 5 with (first | (go_at_call 124; refine CB.out.mono ?_; rintro en w9 ⟨a9, c9, a10, c10, rfl, hf, ht, hb9⟩; have HB9 := hid (below_step HB8.out hb9); have HF := hid hf; have HT := hid ht; have HV9 := hid ((hb9.block _ (lt_of_block HV3.out)).trans HV3.out); clear hf ht hb9 CB p0 p1 q0 q1 fp0 fp1 fq0 fq1 HV3 HB8))
    have hz10 := heap_alloc_new w9 (.cells #[.slice a9 F9.length c9, .slice a10 T9.length c10] 66)
    have hb10 := (Below.refl w9.heap.size w9).alloc (Nat.le_refl _) (.cells #[.slice a9 F9.length c9, .slice a10 T9.length c10] 66)
    have HB10 := hid (below_step HB9.out hb10)
    have HV10 := hid ((hb10.block _ (lt_of_block HV9.out)).trans HV9.out)
    have HF10 := hid (HF.out.old hb10)
    have HT10 := hid (HT.out.old hb10)
    generalize w9.alloc (.cells #[.slice a9 F9.length c9, .slice a10 T9.length c10] 66) = w10 at *
    generalize w9.heap.size = g9 at *
    have HZ10 := hid hz10
    have p0 := cell_in HZ10.out 0 _ rfl
    have fp0 := free_in HZ10.out 0
    have p1 := cell_in HZ10.out 1 _ rfl
    have fp1 := free_in HZ10.out 1
    clear hz10 hb10 HV9 HF HT HB9
    have CH := hid (has_any HF10.out HT10.out)
    cases hbb : Op.bytesLess F9 T9 with
    | false =>
      rw [hbb] at CH
      go_upto_region 6 with (first | (go_at_call 125; refine CH.out.mono ?_; rintro en w11 ⟨rfl, hb11⟩; have HB11 := hid (below_step HB10.out hb11); have hv11 := (hb11.block _ (lt_of_block HV10.out)).trans HV10.out; have HV11 := hid hv11; have r0 := cell_in hv11 0 _ rfl; have r1 := cell_in hv11 1 _ rfl; have fr0 := free_in hv11 0; have fr1 := free_in hv11 1; clear hb11 hv11 p0 p1 fp0 fp1 CH))
      go_wp2_with fail
      have hz9 := put_in (put_in HV11.out 0 (.slice none 0 0)) 1 (.slice none 0 0)
      have hb9 : Below w.heap.size w ((w11.setCell ⟨w.heap.size + 2, 0, none⟩ (.slice none 0 0)).setCell ⟨w.heap.size + 2, 1, none⟩ (.slice none 0 0)) := (HB11.out.setCell (show w.heap.size ≤ w.heap.size + 2 by omega) _).setCell (show w.heap.size ≤ w.heap.size + 2 by omega) _
      generalize (w11.setCell ⟨w.heap.size + 2, 0, none⟩ (.slice none 0 0)).setCell ⟨w.heap.size + 2, 1, none⟩ (.slice none 0 0) = w13 at *
      (try simp only [Exit.inBlock, Exit.then]); refine bodyPost_ret (results_cell2 rfl _ _ (w.heap.size + 2) 66 _ (0, 0) _ rfl hz9 Try.underlying66 rfl (by kernel_rfl)) rfl ?_
      rw [hbb]
      have e1 : [] = FR := by rw [← HFR.out, hbb]; rfl
      have e2 : [] = TR := by rw [← HTR.out, hbb]; rfl
      subst e1
      subst e2
      exact ⟨_, _, _, _, rfl, Rd.nil _, Rd.nil _, hb9⟩
    | true =>
      rw [hbb] at CH
      go_upto_region 7 with (first | (go_at_call 125; refine CH.out.mono ?_; rintro en w11 ⟨rfl, hb11⟩; have HB11 := hid (below_step HB10.out hb11); have HV11 := hid ((hb11.block _ (lt_of_block HV10.out)).trans HV10.out); have hz11 := (hb11.block _ (lt_of_block HZ10.out)).trans HZ10.out; have q0 := cell_in hz11 0 _ rfl; have q1 := cell_in hz11 1 _ rfl; have CC := hid (cspan_any (HF10.out.old hb11) (HT10.out.old hb11) HLB.out.1 HLB.out.2); clear hb11 hz11 p0 p1 fp0 fp1 CH))
      go_wp2_with (first | (go_at_call 126; refine CC.out.mono ?_; rintro en w12 ⟨x7, y7, x8, y8, rfl, hf, ht, hb12⟩; have HB12 := hid (below_step HB11.out hb12); have HF12 := hid hf; have HT12 := hid ht; have hv12 := (hb12.block _ (lt_of_block HV11.out)).trans HV11.out; have HV12 := hid hv12; have r0 := cell_in hv12 0 _ rfl; have r1 := cell_in hv12 1 _ rfl; have fr0 := free_in hv12 0; have fr1 := free_in hv12 1; clear hf ht hb12 hv12))
      have hz9 := put_in (put_in HV12.out 0 (.slice x7 F9.length y7)) 1 (.slice x8 T9.length y8)
      have hb9 : Below w.heap.size w ((w12.setCell ⟨w.heap.size + 2, 0, none⟩ (.slice x7 F9.length y7)).setCell ⟨w.heap.size + 2, 1, none⟩ (.slice x8 T9.length y8)) := (HB12.out.setCell (show w.heap.size ≤ w.heap.size + 2 by omega) _).setCell (show w.heap.size ≤ w.heap.size + 2 by omega) _
      have hf9 := rd_put HF12.out HV12.out (keep2 w12 (w.heap.size + 2) (.slice x7 F9.length y7) (.slice x8 T9.length y8))
      have ht9 := rd_put HT12.out HV12.out (keep2 w12 (w.heap.size + 2) (.slice x7 F9.length y7) (.slice x8 T9.length y8))
      generalize (w12.setCell ⟨w.heap.size + 2, 0, none⟩ (.slice x7 F9.length y7)).setCell ⟨w.heap.size + 2, 1, none⟩ (.slice x8 T9.length y8) = w13 at *
      (try simp only [Exit.inBlock, Exit.then]); refine bodyPost_ret (results_cell2 rfl _ _ (w.heap.size + 2) 66 _ (0, 0) _ rfl hz9 Try.underlying66 rfl (by kernel_rfl)) rfl ?_
      rw [hbb]
      have e1 : F9 = FR := by rw [← HFR.out, hbb]; rfl
      have e2 : T9 = TR := by rw [← HTR.out, hbb]; rfl
      rw [← e1, ← e2]
      exact ⟨_, _, _, _, rfl, hf9, ht9, hb9⟩
  | false =>
    rw [hib] at CI
    go_upto_region 4 with (first | (go_at_call 122; refine CI.out.mono ?_; rintro en w6 ⟨rfl, hb6⟩; have HB6 := hid (below_step HB5.out hb6); have HX2 := hid ((hb6.block _ (lt_of_block HY2.out)).trans HY2.out); have HX3 := hid ((hb6.block _ (lt_of_block HY3.out)).trans HY3.out); have HXG := hid ((hb6.block _ (lt_of_block HYG.out)).trans HYG.out); have HF6 := hid (HF5.out.old hb6); have HT6 := hid (HT5.out.old hb6); clear hb6 z0 z1 z2 z3 z4 f0 f1 f2 f3 f4 CI HY1 HY2 HY3 HYG))
    obtain ⟨rfl, rfl⟩ := HE0.out hib
    have hf8 := HF6.out
    have ht8 := HT6.out
    have hvg := HXG.out
    have hv2 := HX2.out
    have hv3 := HX3.out
    have hb8 := HB6.out
    generalize w6 = w8 at *
    clear HX2 HX3 HXG HF6 HT6 HB6
    have CB := hid (both_any (H1.out.old hb8) (H2.out.old hb8) hf8 ht8)
    rw [HF9.out, HT9.out] at CB
    have HV3 := hid hv3
    have HB8 := hid hb8
    have p0 := cell_in hv2 0 _ rfl
    have fp0 := free_in hv2 0
    have p1 := cell_in hv2 1 _ rfl
    have fp1 := free_in hv2 1
    have q0 := cell_in hvg 0 _ rfl
    have fq0 := free_in hvg 0
    have q1 := cell_in hvg 1 _ rfl
    have fq1 := free_in hvg 1
    clear hf8 ht8 hv2 hv3 hvg hb8
    go_upto_region 5 with (first | (go_at_call 124; refine CB.out.mono ?_; rintro en w9 ⟨a9, c9, a10, c10, rfl, hf, ht, hb9⟩; have HB9 := hid (below_step HB8.out hb9); have HF := hid hf; have HT := hid ht; have HV9 := hid ((hb9.block _ (lt_of_block HV3.out)).trans HV3.out); clear hf ht hb9 CB p0 p1 q0 q1 fp0 fp1 fq0 fq1 HV3 HB8))
    have hz10 := heap_alloc_new w9 (.cells #[.slice a9 F9.length c9, .slice a10 T9.length c10] 66)
    have hb10 := (Below.refl w9.heap.size w9).alloc (Nat.le_refl _) (.cells #[.slice a9 F9.length c9, .slice a10 T9.length c10] 66)
    have HB10 := hid (below_step HB9.out hb10)
    have HV10 := hid ((hb10.block _ (lt_of_block HV9.out)).trans HV9.out)
    have HF10 := hid (HF.out.old hb10)
    have HT10 := hid (HT.out.old hb10)
    generalize w9.alloc (.cells #[.slice a9 F9.length c9, .slice a10 T9.length c10] 66) = w10 at *
    generalize w9.heap.size = g9 at *
    have HZ10 := hid hz10
    have p0 := cell_in HZ10.out 0 _ rfl
    have fp0 := free_in HZ10.out 0
    have p1 := cell_in HZ10.out 1 _ rfl
    have fp1 := free_in HZ10.out 1
    clear hz10 hb10 HV9 HF HT HB9
    have CH := hid (has_any HF10.out HT10.out)
    cases hbb : Op.bytesLess F9 T9 with
    | false =>
      rw [hbb] at CH
      go_upto_region 6 with (first | (go_at_call 125; refine CH.out.mono ?_; rintro en w11 ⟨rfl, hb11⟩; have HB11 := hid (below_step HB10.out hb11); have hv11 := (hb11.block _ (lt_of_block HV10.out)).trans HV10.out; have HV11 := hid hv11; have r0 := cell_in hv11 0 _ rfl; have r1 := cell_in hv11 1 _ rfl; have fr0 := free_in hv11 0; have fr1 := free_in hv11 1; clear hb11 hv11 p0 p1 fp0 fp1 CH))
      go_wp2_with fail
      have hz9 := put_in (put_in HV11.out 0 (.slice none 0 0)) 1 (.slice none 0 0)
      have hb9 : Below w.heap.size w ((w11.setCell ⟨w.heap.size + 2, 0, none⟩ (.slice none 0 0)).setCell ⟨w.heap.size + 2, 1, none⟩ (.slice none 0 0)) := (HB11.out.setCell (show w.heap.size ≤ w.heap.size + 2 by omega) _).setCell (show w.heap.size ≤ w.heap.size + 2 by omega) _
      generalize (w11.setCell ⟨w.heap.size + 2, 0, none⟩ (.slice none 0 0)).setCell ⟨w.heap.size + 2, 1, none⟩ (.slice none 0 0) = w13 at *
      (try simp only [Exit.inBlock, Exit.then]); refine bodyPost_ret (results_cell2 rfl _ _ (w.heap.size + 2) 66 _ (0, 0) _ rfl hz9 Try.underlying66 rfl (by kernel_rfl)) rfl ?_
      rw [hbb]
      have e1 : [] = FR := by rw [← HFR.out, hbb]; rfl
      have e2 : [] = TR := by rw [← HTR.out, hbb]; rfl
      subst e1
      subst e2
      exact ⟨_, _, _, _, rfl, Rd.nil _, Rd.nil _, hb9⟩
    | true =>
      rw [hbb] at CH
      go_upto_region 7 with (first | (go_at_call 125; refine CH.out.mono ?_; rintro en w11 ⟨rfl, hb11⟩; have HB11 := hid (below_step HB10.out hb11); have HV11 := hid ((hb11.block _ (lt_of_block HV10.out)).trans HV10.out); have hz11 := (hb11.block _ (lt_of_block HZ10.out)).trans HZ10.out; have q0 := cell_in hz11 0 _ rfl; have q1 := cell_in hz11 1 _ rfl; have CC := hid (cspan_any (HF10.out.old hb11) (HT10.out.old hb11) HLB.out.1 HLB.out.2); clear hb11 hz11 p0 p1 fp0 fp1 CH))
      go_wp2_with (first | (go_at_call 126; refine CC.out.mono ?_; rintro en w12 ⟨x7, y7, x8, y8, rfl, hf, ht, hb12⟩; have HB12 := hid (below_step HB11.out hb12); have HF12 := hid hf; have HT12 := hid ht; have hv12 := (hb12.block _ (lt_of_block HV11.out)).trans HV11.out; have HV12 := hid hv12; have r0 := cell_in hv12 0 _ rfl; have r1 := cell_in hv12 1 _ rfl; have fr0 := free_in hv12 0; have fr1 := free_in hv12 1; clear hf ht hb12 hv12))
      have hz9 := put_in (put_in HV12.out 0 (.slice x7 F9.length y7)) 1 (.slice x8 T9.length y8)
      have hb9 : Below w.heap.size w ((w12.setCell ⟨w.heap.size + 2, 0, none⟩ (.slice x7 F9.length y7)).setCell ⟨w.heap.size + 2, 1, none⟩ (.slice x8 T9.length y8)) := (HB12.out.setCell (show w.heap.size ≤ w.heap.size + 2 by omega) _).setCell (show w.heap.size ≤ w.heap.size + 2 by omega) _
      have hf9 := rd_put HF12.out HV12.out (keep2 w12 (w.heap.size + 2) (.slice x7 F9.length y7) (.slice x8 T9.length y8))
      have ht9 := rd_put HT12.out HV12.out (keep2 w12 (w.heap.size + 2) (.slice x7 F9.length y7) (.slice x8 T9.length y8))
      generalize (w12.setCell ⟨w.heap.size + 2, 0, none⟩ (.slice x7 F9.length y7)).setCell ⟨w.heap.size + 2, 1, none⟩ (.slice x8 T9.length y8) = w13 at *
      (try simp only [Exit.inBlock, Exit.then]); refine bodyPost_ret (results_cell2 rfl _ _ (w.heap.size + 2) 66 _ (0, 0) _ rfl hz9 Try.underlying66 rfl (by kernel_rfl)) rfl ?_
      rw [hbb]
      have e1 : F9 = FR := by rw [← HFR.out, hbb]; rfl
      have e2 : T9 = TR := by rw [← HTR.out, hbb]; rfl
      rw [← e1, ← e2]
      exact ⟨_, _, _, _, rfl, hf9, ht9, hb9⟩
end Go.Proofs.Ytafcbelkhhjcoaa

set_option linter.unusedVariables false
set_option linter.unusedSimpArgs false
set_option maxRecDepth 100000
namespace Go.Proofs.Ytafcbelkhhjcoaa
open Go.RowKit Go.Deep

theorem wpAnyH_low {P : Program} {md : Region.Mode} {ops : Array Oper} {Q : Exit → Act → World → Prop} {S S' : World → Prop} (h : ∀ V, S' V → S V) : ∀ (fuel : Nat) (listed : Array Bool) (a : Act) (w : World),
    wpAnyH P md ops Q S' fuel listed a w → wpAnyH P md ops Q S fuel listed a w
  | 0, _, _, _, H => H
  | fuel + 1, _, _, _, H => ⟨H.1, fun i hi => wpOp_mono (fun a' w' h' => ⟨h _ h'.1, wpAnyH_low h fuel _ _ _ h'.2⟩) (H.2 i hi)⟩
def basesL : Nat → List Int
  | 0 => []
  | n + 1 => basesL n ++ [(n : Int) + 1]
def metL (L : List Ow) (F T : List UInt8) : Nat → List Int
  | 0 => []
  | n + 1 => metL L F T n ++ (match L[n]? with | some o => if meetB F T o.f (toL L n) then [o.g] else [] | none => [])
def overL (R : Rou) (F T : List UInt8) : List Int :=
  (if meetB F T [114] [115] then basesL R.base.toNat else []) ++ (if meetB F T [114] [115] || meetB F T [120] [121] then metL R.sp F T R.sp.length else [])
theorem bases_len : ∀ n, (basesL n).length = n
  | 0 => rfl
  | n + 1 => by simp [basesL, bases_len n]
theorem met_len (L : List Ow) (F T : List UInt8) : ∀ n, (metL L F T n).length ≤ n
  | 0 => Nat.le_refl _
  | n + 1 => by
    have := met_len L F T n
    unfold metL
    rw [List.length_append]
    split
    · split
      · simp; omega
      · simp; omega
    · simp; omega
theorem met_step {L : List Ow} {F T : List UInt8} {n : Nat} {o : Ow} (h : L[n]? = some o) : metL L F T (n + 1) = metL L F T n ++ (if meetB F T o.f (toL L n) then [o.g] else []) := by
  show metL L F T n ++ _ = _
  rw [h]
/-- The groups over a span are told. -/
def OvA (w : World) (L : List Int) (e : Ending) (w' : World) : Prop :=
  ∃ v M, e = .returned v ∧ List.Perm M L ∧ List.Pairwise (· ≤ ·) M ∧ w'.ownsRow w.heap.size 3 1 v M.length (M.map iv) ∧ Below w.heap.size w w'
theorem one_int {w : World} {g : Nat} {z : Int} {t : TypeId} (h : w.heap[g]? = some (.cells #[.int .i64 z] t (0, 0))) : Rws 1 w (.slice (some ⟨g, 0, none⟩) 1 1) [[iv z]] := by
  refine ⟨some ⟨g, 0, none⟩, 1, rfl, by simp, by unfold maxLen; omega, (fun e => by cases e), fun r hr => by rw [List.mem_singleton.1 hr]; exact ⟨rfl, fun u hu => by rw [List.mem_singleton.1 hu]; rfl⟩, fun a ha j u hu => ?_⟩
  cases ha
  cases j with
  | zero => simp at hu; subst hu; exact cell_in h 0 _ rfl
  | succ j => simp at hu
theorem own_below {w w' : World} {base : Nat} {e : TypeId} {x : Value} {n : Nat} {xs : List Value} (h : w.ownsRow base e 1 x n xs) (hw : Keep (fun k => x.ownBlock = some k) w w') (hb : base ≤ w.heap.size) : Below base w w' := by
  refine hw.below hb (fun k hk => ?_)
  obtain ⟨h1, h2⟩ := h
  rcases h2 with ⟨h2, _⟩ | ⟨g', cap, cur, rfl, hb, _⟩
  · subst h2; simp [Value.ownBlock] at hk
  · have : g' = k := by simpa [Value.ownBlock] using hk
    omega

theorem own_from {w : World} {base : Nat} {e : TypeId} {x : Value} {n : Nat} {xs : List Value} (h : w.ownsRow base e 1 x n xs) : ∀ k, x.ownBlock = some k → base ≤ k := by
  intro k hk
  obtain ⟨h1, h2⟩ := h
  rcases h2 with ⟨h2, _⟩ | ⟨g', cap, cur, rfl, hb, _⟩
  · subst h2; simp [Value.ownBlock] at hk
  · have : g' = k := by simpa [Value.ownBlock] using hk
    omega
theorem wp_iapp {w : World} {ops : Array Oper} {rest : List Oper} {o : Oper} {a : Act} {Q : Exit → Act → World → Prop} (hgd : Region.wanted o (yielded ops a.tmps) = true) (s x : Operand)
    (ho : o.op = .call { callee := .builtin .append, args := #[s, x], argTypes := #[31, 31] }) {base : Nat} {v y : Value} {L : List Int} {z : Int} (hs : a.eval s = v) (hown : w.ownsRow base 3 1 v L.length (L.map iv))
    (hx : a.eval x = y) (hr : Rws 1 w y [[iv z]]) (hl : L.length ≤ 1000) (hbase : base ≤ w.heap.size)
    (h : ∀ v' w', w'.ownsRow base 3 1 v' (L ++ [z]).length ((L ++ [z]).map iv) → Below base w w' → wpList Try.prog ops Q rest (a.put o.dst v') w') : wpList Try.prog ops Q (o :: rest) a w := by
  refine wp_rapp hgd s x 31 ho base 1 8 3 Try.underlying31 (.int .i64 0) (by kernel_rfl) (by simp [Value.cells]) (by decide) v L.length (L.map iv) hs hown y [[iv z]] hx hr (by simp; omega) (by unfold maxLen; simp; omega) hbase (fun v' w' h1 h2 => h v' w' (by simpa using h1) ((Below.refl _ _).grown h2 hbase (own_from hown)))

set_option maxHeartbeats 16000000 in
theorem over_any {w : World} {R : Rou} {ao b : Option Addr} {c d : Nat} (hbf : bfB R.base = true) (hr : OwsN w (.slice ao R.sp.length c) R.sp) (hsl : R.sp.length ≤ 4) {a1 a2 : Option Addr} {c1 c2 : Nat} {F T : List UInt8} (h1 : Rd w (.slice a1 F.length c1) F) (h2 : Rd w (.slice a2 T.length c2) T) :
    Calls Try.prog 56 #[.agg #[.int .i64 R.ep, .int .i64 R.base, .slice ao R.sp.length c, .int .i64 R.mv, .slice b R.cut.length d], .agg #[.slice a1 F.length c1, .slice a2 T.length c2]] w (OvA w (overL R F T)) := by
  have hbb : 1 ≤ R.base ∧ R.base ≤ 4 := by unfold bfB at hbf; simpa using hbf
  have hlm := ows_form hr
  obtain ⟨ao', c', e, -, hm, hc⟩ := ows_cells hr
  cases e
  have HC := hid hc
  have HR := hid hr
  have HSL := hid hsl
  have HBB := hid hbb
  have HBF := hid hbf
  have H1 := hid h1
  have H2 := hid h2
  clear hr hm hc hbf hsl h1 h2 hbb
  go_enter Try.func56, Try.ntmps56
  go_upto_region 1 with fail
  have hb := (Below.refl w.heap.size w).alloc (Nat.le_refl _) (.cells #[.int .i64 R.ep, .int .i64 R.base, .slice ao R.sp.length c, .int .i64 R.mv, .slice b R.cut.length d] 64)
  have hz := heap_alloc_new w (.cells #[.int .i64 R.ep, .int .i64 R.base, .slice ao R.sp.length c, .int .i64 R.mv, .slice b R.cut.length d] 64)
  have hs : (w.alloc (.cells #[.int .i64 R.ep, .int .i64 R.base, .slice ao R.sp.length c, .int .i64 R.mv, .slice b R.cut.length d] 64)).heap.size = w.heap.size + 1 := by simp
  generalize w.alloc (.cells #[.int .i64 R.ep, .int .i64 R.base, .slice ao R.sp.length c, .int .i64 R.mv, .slice b R.cut.length d] 64) = w1 at *
  have hb2 := hb.alloc hb.size (.cells #[.slice a1 F.length c1, .slice a2 T.length c2] 66)
  have hz2 := heap_alloc_new w1 (.cells #[.slice a1 F.length c1, .slice a2 T.length c2] 66)
  have hz12 := (((Below.refl w1.heap.size w1).alloc (Nat.le_refl _) (.cells #[.slice a1 F.length c1, .slice a2 T.length c2] 66)).block _ (by omega)).trans hz
  have hs2 : (w1.alloc (.cells #[.slice a1 F.length c1, .slice a2 T.length c2] 66)).heap.size = w.heap.size + 2 := by simp; omega
  rw [hs] at hz2
  generalize w1.alloc (.cells #[.slice a1 F.length c1, .slice a2 T.length c2] 66) = w2 at *
  have HB2 := hid hb2
  have HS2 := hid hs2
  have HKR : Hid (∀ V, Below w2.heap.size w2 V → V.cell? ⟨w.heap.size, 0, none⟩ = some (.int .i64 R.ep) ∧ V.cell? ⟨w.heap.size, 1, none⟩ = some (.int .i64 R.base) ∧ V.cell? ⟨w.heap.size, 2, none⟩ = some (.slice ao R.sp.length c) ∧ V.cell? ⟨w.heap.size, 3, none⟩ = some (.int .i64 R.mv) ∧ V.cell? ⟨w.heap.size, 4, none⟩ = some (.slice b R.cut.length d)) := hid (fun V hV => by
    have h9 := (hV.block _ (by omega)).trans hz12
    exact ⟨cell_in h9 0 _ rfl, cell_in h9 1 _ rfl, cell_in h9 2 _ rfl, cell_in h9 3 _ rfl, cell_in h9 4 _ rfl⟩)
  have HKS : Hid (∀ V, Below w2.heap.size w2 V → V.cell? ⟨w.heap.size + 1, 0, none⟩ = some (.slice a1 F.length c1) ∧ V.cell? ⟨w.heap.size + 1, 1, none⟩ = some (.slice a2 T.length c2)) := hid (fun V hV => by
    have h9 := (hV.block _ (by omega)).trans hz2
    exact ⟨cell_in h9 0 _ rfl, cell_in h9 1 _ rfl⟩)
  clear hb hz hs hb2 hz2 hz12 hs2
  have HCw2 : Hid (Below w2.heap.size w2 w2) := hid (Below.refl _ _)
  have HN0 : Hid (w2.ownsRow w2.heap.size 3 1 (.slice none 0 0) 0 (([] : List Int).map iv)) := hid (World.ownsRow_nil _ _ _ _)
  go_upto_region 2 with fail
  obtain ⟨mr, hmr⟩ : ∃ mr, meetB F T [114] [115] = mr := ⟨_, rfl⟩
  obtain ⟨mx, hmx⟩ : ∃ mx, meetB F T [120] [121] = mx := ⟨_, rfl⟩
  have HOL : Hid (overL R F T = (if mr then basesL R.base.toNat else []) ++ (if mr || mx then metL R.sp F T R.sp.length else [])) := hid (by unfold overL; rw [hmr, hmx])
  have Hmr := hid hmr
  have Hmx := hid hmx
  clear hmr hmx
  refine wp_region_noPanic ?_
  refine wp_region_held_drew (S := fun V => Hid (Below w2.heap.size w2 V)) (by kernel_rfl) (hid (Below.drew (Below.refl _ _))) (fun hHeld => ?_)
  generalize w2.drew = Wd at *
  refine tkH 0 (.agg #[.slice a1 F.length c1, .slice a2 T.length c2]) rfl (by kernel_rfl) (fun _ _ _ => False.elim) hHeld (Or.inl ⟨by rfl, fun W9 hW => by obtain ⟨p0, p1⟩ := HKS.out _ (below_step HCw2.out hW.out); clear hHeld hW; simp only [jA, jB, jC]; go_simp⟩) ?_
  try simp only [Act.put, jA, jB, jC, jD, jE, jF]
  refine rdH 1 (by kernel_rfl) rfl fun K hK => ?_
  go_simp
  have CQ := hid (mark114_any Wd)
  go_wp2_with (first | (go_at_call 123; refine CQ.out.mono ?_; rintro en w3a ⟨a5, c5, a6, c6, rfl, hf, ht, hbE⟩; have HBE := hid (below_step hHeld.out hbE); have HFm := hid hf; have HTm := hid ht; clear hf ht; have HCw3a := hid (below_step HCw2.out HBE.out)))
  clear CQ hHeld
  refine hK.out _ _ HBE (fun hHeld => ?_)
  clear hK K
  try simp only [Act.put, jA, jB, jC, jD, jE, jF]
  refine wpAnyH_low (S' := fun V => Hid (Below w3a.heap.size w3a V)) (fun V hV => hid (below_step HBE.out hV.out)) _ _ _ _ ?_
  clear hHeld HBE
  have hHeld : Hid (Below w3a.heap.size w3a w3a) := hid (Below.refl _ _)
  refine rdH 2 (by kernel_rfl) rfl fun K hK => ?_
  go_simp
  have CQ := hid (meets_any (H1.out.old (below_step HB2.out HCw3a.out)) (H2.out.old (below_step HB2.out HCw3a.out)) HFm.out HTm.out)
  go_wp2_with (first | (go_at_call 133; refine CQ.out.mono ?_; rintro en w3 ⟨rfl, hbE⟩; have HBE := hid (below_step hHeld.out hbE); have HCw3 := hid (below_step HCw3a.out HBE.out)))
  clear CQ hHeld
  refine hK.out _ _ HBE (fun hHeld => ?_)
  clear hK K
  try simp only [Act.put, jA, jB, jC, jD, jE, jF]
  refine wpAnyH_low (S' := fun V => Hid (Below w3.heap.size w3 V)) (fun V hV => hid (below_step HBE.out hV.out)) _ _ _ _ ?_
  clear hHeld HBE
  have hHeld : Hid (Below w3.heap.size w3 w3) := hid (Below.refl _ _)
  clear HFm HTm
  have hmb : meetB F T [114] [115] = mr := by rw [Hmr.out]
  rw [hmb]
  clear hmb
  refine tkH 3 (.bool mr) rfl (by kernel_rfl) (fun _ _ _ => False.elim) hHeld (Or.inl ⟨by rfl, fun W9 hW => by clear hHeld hW; simp only [jA, jB, jC]; go_simp⟩) ?_
  try simp only [Act.put, jA, jB, jC, jD, jE, jF]
  refine wpAnyH_done (by kernel_rfl) (NoPanic.normal ?_) _
  clear hHeld
  cases mr with
  | true =>
    obtain ⟨nb, hnb⟩ : ∃ nb, R.base.toNat = nb := ⟨_, rfl⟩
    rw [hnb] at HOL
    have HNB : Hid ((nb : Int) = R.base) := hid (by have := HBB.out; omega)
    have hnl : nb ≤ 4 := by have := HBB.out; omega
    clear hnb
    go_wp2_with fail
    go_loopw [6, 5] (fun g v wr => ∃ k : Nat, k ≤ nb ∧ g = .int .i64 ((k : Int) + 1) ∧ Hid (wr.ownsRow w2.heap.size 3 1 v (basesL k).length ((basesL k).map iv)) ∧ Hid (Below w2.heap.size w2 wr))
      (fun g _ _ => 6 - (intOf g).toNat)
    case atStart => exact ⟨0, by omega, rfl, own_old HN0.out HCw3.out, HCw3⟩
    case round =>
      obtain ⟨k, hk, rfl, HOr, HBr⟩ := hrel
      obtain ⟨q0, q1, q2, q3, q4⟩ := HKR.out _ HBr.out
      have CI := hid (isBase_any (w := wr) (ao := ao) (b := b) (c := c) (d := d) ((k : Int) + 1) HBF.out)
      by_cases hlt : k < nb
      · have hib : isB R ((k : Int) + 1) = true := by unfold isB; rw [HBF.out]; have := HNB.out; simp; omega
        rw [hib] at CI
        clear hib
        go_upto_region 7 with (first | (go_at_call 122; refine CI.out.mono ?_; rintro en w4 ⟨rfl, hb4⟩; have HB4 := hid (HBr.out.trans (hb4.mono HBr.out.size)); have HO4 := hid (own_old HOr.out hb4); clear hb4 q0 q1 q2 q3 q4 CI))
        have HY := hid (one_int (heap_alloc_new w4 (.cells #[.int .i64 ((k : Int) + 1)] 3)))
        have HO5 := hid (own_old HO4.out ((Below.refl w4.heap.size w4).alloc (Nat.le_refl _) (.cells #[.int .i64 ((k : Int) + 1)] 3)))
        have HB5 := hid (HB4.out.alloc HB4.out.size (.cells #[.int .i64 ((k : Int) + 1)] 3))
        have HLb : Hid ((basesL k).length ≤ 1000) := hid (by rw [bases_len]; omega)
        go_wp2_with (first | (at_builtin; refine wp_iapp (by rfl) _ _ rfl (by rfl) HO5.out (by rfl) HY.out HLb.out HB5.out.size ?_; intro v6 w6 ho6 hb6; have HO6 := hid ho6; have HB6 := hid (HB5.out.trans hb6); clear ho6 hb6))
        go_roundw
        · exact ⟨k + 1, by omega, by go_num, HO6, HB6⟩
        · simp [intOf]; omega
      · obtain rfl : nb = k := by omega
        have hib : isB R ((nb : Int) + 1) = false := by unfold isB; rw [HBF.out]; have := HNB.out; simp; omega
        rw [hib] at CI
        clear hib
        go_wp2_with (first | (go_at_call 122; refine CI.out.mono ?_; rintro en w4 ⟨rfl, hb4⟩; have HB4 := hid (HBr.out.trans (hb4.mono HBr.out.size)); have HO4 := hid (own_old HOr.out hb4); clear hb4 q0 q1 q2 q3 q4 CI; obtain ⟨q0, q1, q2, q3, q4⟩ := HKR.out _ HB4.out))
        go_loopw [29, 5] (fun j v wr => ∃ k : Nat, k ≤ R.sp.length ∧ j = .int .i64 (k : Int) ∧ Hid (wr.ownsRow w2.heap.size 3 1 v (basesL nb ++ metL R.sp F T k).length ((basesL nb ++ metL R.sp F T k).map iv)) ∧ Hid (Below w2.heap.size w2 wr))
          (fun j _ _ => R.sp.length - (intOf j).toNat)
        case atStart => exact ⟨0, by omega, rfl, hid (by have := HO4.out; simpa [metL] using this), HB4⟩
        case round =>
          obtain ⟨k, hk, rfl, HOr, HBr⟩ := hrel
          by_cases hlt : k < R.sp.length
          · obtain ⟨o, hu⟩ : ∃ o, R.sp[k]? = some o := ⟨_, List.getElem?_eq_getElem hlt⟩
            have HST := hid (met_step (F := F) (T := T) hu)
            have HU := hid hu
            obtain ⟨b1, of1, x1, d1, rfl, c0, c1, -⟩ := HC.out k o hu
            have HBw := hid (below_step HB2.out HBr.out)
            have k0 := (HBw.out.cell (block_cell c0)).trans c0
            have k1 := (HBw.out.cell (block_cell c1)).trans c1
            have hki : (k : Int) < (R.sp.length : Int) := by omega
            clear c0 c1 hu
            go_upto_region 11 with fail
            have hb5 := (Below.refl wr.heap.size wr).alloc (Nat.le_refl _) (.cells #[.int .i64 o.g, .slice x1 o.f.length d1] 140)
            have hz5 := heap_alloc_new wr (.cells #[.int .i64 o.g, .slice x1 o.f.length d1] 140)
            have HO5 := hid (own_old HOr.out hb5)
            have HB5 := hid (HBr.out.alloc HBr.out.size (.cells #[.int .i64 o.g, .slice x1 o.f.length d1] 140))
            generalize wr.heap.size = g5 at *
            generalize wr.alloc (.cells #[.int .i64 o.g, .slice x1 o.f.length d1] 140) = w5 at *
            have HZ5 := hid hz5
            have HD5 : Hid (Below w5.heap.size w5 w5) := hid (Below.refl _ _)
            clear hb5 hz5 k0 k1 HBw
            refine wp_region_noPanic ?_
            refine wp_region_held_drew (S := fun V => Hid (Below w5.heap.size w5 V)) (by kernel_rfl) (hid (Below.drew (Below.refl _ _))) (fun hHeld => ?_)
            generalize w5.drew = Wd at *
            refine tkH 0 (.agg #[.slice a1 F.length c1, .slice a2 T.length c2]) rfl (by kernel_rfl) (fun _ _ _ => False.elim) hHeld (Or.inl ⟨by rfl, fun W9 hW => by obtain ⟨p0, p1⟩ := HKS.out _ (below_step HB5.out hW.out); clear hHeld hW; simp only [jA, jB, jC]; go_simp⟩) ?_
            try simp only [Act.put, jA, jB, jC, jD, jE, jF]
            refine tkH 1 (.agg #[.int .i64 R.ep, .int .i64 R.base, .slice (some ⟨b1, of1, none⟩) R.sp.length c, .int .i64 R.mv, .slice b R.cut.length d]) rfl (by kernel_rfl) (fun _ _ _ => False.elim) hHeld (Or.inl ⟨by rfl, fun W9 hW => by obtain ⟨q0, q1, q2, q3, q4⟩ := HKR.out _ (below_step HB5.out hW.out); clear hHeld hW; simp only [jA, jB, jC]; go_simp⟩) ?_
            try simp only [Act.put, jA, jB, jC, jD, jE, jF]
            refine tkH 2 (.int .i64 (k : Int)) rfl (by kernel_rfl) (fun _ _ _ => False.elim) hHeld (Or.inl ⟨by rfl, fun W9 hW => by clear hHeld hW; simp only [jA, jB, jC]; go_simp⟩) ?_
            try simp only [Act.put, jA, jB, jC, jD, jE, jF]
            refine rdH 3 (by kernel_rfl) rfl fun K hK => ?_
            go_simp
            have CQ := hid (keys_any (R := R) (b := b) (d := d) (HR.out.old (below_step HB2.out (below_step HB5.out hHeld.out))) HU.out)
            go_wp2_with (first | (go_at_call 134; refine CQ.out.mono ?_; rintro en w6 ⟨a5, c5, a6, c6, rfl, hf, ht, hbE⟩; have HBE := hid (below_step hHeld.out hbE); have HFm := hid hf; have HTm := hid ht; clear hf ht; have HCw6 := hid (below_step HB5.out HBE.out); have HDw6 := hid (below_step HD5.out HBE.out)))
            clear CQ hHeld
            refine hK.out _ _ HBE (fun hHeld => ?_)
            clear hK K
            try simp only [Act.put, jA, jB, jC, jD, jE, jF]
            refine wpAnyH_low (S' := fun V => Hid (Below w6.heap.size w6 V)) (fun V hV => hid (below_step HBE.out hV.out)) _ _ _ _ ?_
            clear hHeld HBE
            have hHeld : Hid (Below w6.heap.size w6 w6) := hid (Below.refl _ _)
            refine rdH 4 (by kernel_rfl) rfl fun K hK => ?_
            go_simp
            have CQ := hid (meets_any (H1.out.old (below_step HB2.out HCw6.out)) (H2.out.old (below_step HB2.out HCw6.out)) HFm.out HTm.out)
            go_wp2_with (first | (go_at_call 133; refine CQ.out.mono ?_; rintro en w7 ⟨rfl, hbE⟩; have HBE := hid (below_step hHeld.out hbE); have HCw7 := hid (below_step HCw6.out HBE.out); have HDw7 := hid (below_step HDw6.out HBE.out)))
            clear CQ hHeld
            refine hK.out _ _ HBE (fun hHeld => ?_)
            clear hK K
            try simp only [Act.put, jA, jB, jC, jD, jE, jF]
            refine wpAnyH_low (S' := fun V => Hid (Below w7.heap.size w7 V)) (fun V hV => hid (below_step HBE.out hV.out)) _ _ _ _ ?_
            clear hHeld HBE
            have hHeld : Hid (Below w7.heap.size w7 w7) := hid (Below.refl _ _)
            refine wpAnyH_done (by kernel_rfl) (NoPanic.normal ?_) _
            clear hHeld
            clear HFm HTm
            have hz7 := (HDw7.out.block _ (lt_of_block HZ5.out)).trans HZ5.out
            have HO7 := hid (own_old HO5.out HDw7.out)
            have y0 := cell_in hz7 0 _ rfl
            clear hz7
            cases hmb : meetB F T o.f (toL R.sp k) with
            | true =>
              rw [hmb] at HST
              go_upto_region 12 with fail
              have HY := hid (one_int (heap_alloc_new w7 (.cells #[.int .i64 o.g] 3)))
              have HO8 := hid (own_old HO7.out ((Below.refl w7.heap.size w7).alloc (Nat.le_refl _) (.cells #[.int .i64 o.g] 3)))
              have HB8 := hid (HCw7.out.alloc HCw7.out.size (.cells #[.int .i64 o.g] 3))
              have HLb : Hid ((basesL nb ++ metL R.sp F T k).length ≤ 1000) := hid (by have := met_len R.sp F T k; have := HSL.out; rw [List.length_append]; rw [bases_len]; omega)
              go_wp2_with (first | (at_builtin; refine wp_iapp (by rfl) _ _ rfl (by rfl) HO8.out (by rfl) HY.out HLb.out HB8.out.size ?_; intro v9 w9 ho9 hb9; have HO9 := hid ho9; have HB9 := hid (HB8.out.trans hb9); clear ho9 hb9))
              go_roundw
              · refine ⟨k + 1, by omega, by go_num, ?_, HB9⟩
                rw [HST.out, if_pos rfl, ← List.append_assoc]
                exact HO9
              · simp [intOf]; omega
            | false =>
              rw [hmb] at HST
              go_wp2_with fail
              go_roundw
              · refine ⟨k + 1, by omega, by go_num, ?_, HCw7⟩
                rw [HST.out, if_neg (by simp), List.append_nil]
                exact HO7
              · simp [intOf]; omega
          · obtain rfl : k = R.sp.length := by omega
            have hln : (basesL nb ++ metL R.sp F T R.sp.length).length ≤ 8 := by have := met_len R.sp F T R.sp.length; have := HSL.out; rw [List.length_append]; rw [bases_len]; omega
            have CS := hid (sort_any (L := basesL nb ++ metL R.sp F T R.sp.length) HOr.out hln)
            clear hln
            go_wp2_with (first | (go_at_call 135; refine CS.out.mono ?_; rintro en w8 ⟨rfl, M, hp, hso, ho8, hk8⟩; have HP8 := hid hp; have HS8 := hid hso; have HO8 := hid ho8; have HB8 := hid (below_step HB2.out (HBr.out.trans (own_below HOr.out hk8 HBr.out.size))); clear hp hso ho8 hk8))
            go_ret
            refine ⟨_, M, rfl, by rw [HOL.out]; simpa using HP8.out, HS8.out, ?_, HB8.out⟩
            rw [HP8.out.length_eq]
            exact ownsRow_base HO8.out HB2.out.size
  | false =>
    go_upto_region 3 with fail
    refine wp_region_noPanic ?_
    refine wp_region_held_drew (S := fun V => Hid (Below w3.heap.size w3 V)) (by kernel_rfl) (hid (Below.drew (Below.refl _ _))) (fun hHeld => ?_)
    generalize w3.drew = Wd at *
    refine tkH 0 (.agg #[.slice a1 F.length c1, .slice a2 T.length c2]) rfl (by kernel_rfl) (fun _ _ _ => False.elim) hHeld (Or.inl ⟨by rfl, fun W9 hW => by obtain ⟨p0, p1⟩ := HKS.out _ (below_step HCw3.out hW.out); clear hHeld hW; simp only [jA, jB, jC]; go_simp⟩) ?_
    try simp only [Act.put, jA, jB, jC, jD, jE, jF]
    refine rdH 1 (by kernel_rfl) rfl fun K hK => ?_
    go_simp
    have CQ := hid (mark120_any Wd)
    go_wp2_with (first | (go_at_call 123; refine CQ.out.mono ?_; rintro en w4a ⟨a5, c5, a6, c6, rfl, hf, ht, hbE⟩; have HBE := hid (below_step hHeld.out hbE); have HFm := hid hf; have HTm := hid ht; clear hf ht; have HCw4a := hid (below_step HCw3.out HBE.out)))
    clear CQ hHeld
    refine hK.out _ _ HBE (fun hHeld => ?_)
    clear hK K
    try simp only [Act.put, jA, jB, jC, jD, jE, jF]
    refine wpAnyH_low (S' := fun V => Hid (Below w4a.heap.size w4a V)) (fun V hV => hid (below_step HBE.out hV.out)) _ _ _ _ ?_
    clear hHeld HBE
    have hHeld : Hid (Below w4a.heap.size w4a w4a) := hid (Below.refl _ _)
    refine rdH 2 (by kernel_rfl) rfl fun K hK => ?_
    go_simp
    have CQ := hid (meets_any (H1.out.old (below_step HB2.out HCw4a.out)) (H2.out.old (below_step HB2.out HCw4a.out)) HFm.out HTm.out)
    go_wp2_with (first | (go_at_call 133; refine CQ.out.mono ?_; rintro en w4 ⟨rfl, hbE⟩; have HBE := hid (below_step hHeld.out hbE); have HCw4 := hid (below_step HCw4a.out HBE.out)))
    clear CQ hHeld
    refine hK.out _ _ HBE (fun hHeld => ?_)
    clear hK K
    try simp only [Act.put, jA, jB, jC, jD, jE, jF]
    refine wpAnyH_low (S' := fun V => Hid (Below w4.heap.size w4 V)) (fun V hV => hid (below_step HBE.out hV.out)) _ _ _ _ ?_
    clear hHeld HBE
    have hHeld : Hid (Below w4.heap.size w4 w4) := hid (Below.refl _ _)
    clear HFm HTm
    have hmb : meetB F T [120] [121] = mx := by rw [Hmx.out]
    rw [hmb]
    clear hmb
    refine tkH 3 (.bool mx) rfl (by kernel_rfl) (fun _ _ _ => False.elim) hHeld (Or.inl ⟨by rfl, fun W9 hW => by clear hHeld hW; simp only [jA, jB, jC]; go_simp⟩) ?_
    try simp only [Act.put, jA, jB, jC, jD, jE, jF]
    refine wpAnyH_done (by kernel_rfl) (NoPanic.normal ?_) _
    clear hHeld
    cases mx with
    | true =>
      obtain ⟨q0, q1, q2, q3, q4⟩ := HKR.out _ HCw4.out
      have HN4 := hid (own_old HN0.out HCw4.out)
      go_wp2_with fail
      clear q0 q1 q2 q3 q4
      go_loopw [29, 5] (fun j v wr => ∃ k : Nat, k ≤ R.sp.length ∧ j = .int .i64 (k : Int) ∧ Hid (wr.ownsRow w2.heap.size 3 1 v ([] ++ metL R.sp F T k).length (([] ++ metL R.sp F T k).map iv)) ∧ Hid (Below w2.heap.size w2 wr))
        (fun j _ _ => R.sp.length - (intOf j).toNat)
      case atStart => exact ⟨0, by omega, rfl, hid (by have := HN4.out; simpa [metL] using this), HCw4⟩
      case round =>
        obtain ⟨k, hk, rfl, HOr, HBr⟩ := hrel
        by_cases hlt : k < R.sp.length
        · obtain ⟨o, hu⟩ : ∃ o, R.sp[k]? = some o := ⟨_, List.getElem?_eq_getElem hlt⟩
          have HST := hid (met_step (F := F) (T := T) hu)
          have HU := hid hu
          obtain ⟨b1, of1, x1, d1, rfl, c0, c1, -⟩ := HC.out k o hu
          have HBw := hid (below_step HB2.out HBr.out)
          have k0 := (HBw.out.cell (block_cell c0)).trans c0
          have k1 := (HBw.out.cell (block_cell c1)).trans c1
          have hki : (k : Int) < (R.sp.length : Int) := by omega
          clear c0 c1 hu
          go_upto_region 11 with fail
          have hb5 := (Below.refl wr.heap.size wr).alloc (Nat.le_refl _) (.cells #[.int .i64 o.g, .slice x1 o.f.length d1] 140)
          have hz5 := heap_alloc_new wr (.cells #[.int .i64 o.g, .slice x1 o.f.length d1] 140)
          have HO5 := hid (own_old HOr.out hb5)
          have HB5 := hid (HBr.out.alloc HBr.out.size (.cells #[.int .i64 o.g, .slice x1 o.f.length d1] 140))
          generalize wr.heap.size = g5 at *
          generalize wr.alloc (.cells #[.int .i64 o.g, .slice x1 o.f.length d1] 140) = w5 at *
          have HZ5 := hid hz5
          have HD5 : Hid (Below w5.heap.size w5 w5) := hid (Below.refl _ _)
          clear hb5 hz5 k0 k1 HBw
          refine wp_region_noPanic ?_
          refine wp_region_held_drew (S := fun V => Hid (Below w5.heap.size w5 V)) (by kernel_rfl) (hid (Below.drew (Below.refl _ _))) (fun hHeld => ?_)
          generalize w5.drew = Wd at *
          refine tkH 0 (.agg #[.slice a1 F.length c1, .slice a2 T.length c2]) rfl (by kernel_rfl) (fun _ _ _ => False.elim) hHeld (Or.inl ⟨by rfl, fun W9 hW => by obtain ⟨p0, p1⟩ := HKS.out _ (below_step HB5.out hW.out); clear hHeld hW; simp only [jA, jB, jC]; go_simp⟩) ?_
          try simp only [Act.put, jA, jB, jC, jD, jE, jF]
          refine tkH 1 (.agg #[.int .i64 R.ep, .int .i64 R.base, .slice (some ⟨b1, of1, none⟩) R.sp.length c, .int .i64 R.mv, .slice b R.cut.length d]) rfl (by kernel_rfl) (fun _ _ _ => False.elim) hHeld (Or.inl ⟨by rfl, fun W9 hW => by obtain ⟨q0, q1, q2, q3, q4⟩ := HKR.out _ (below_step HB5.out hW.out); clear hHeld hW; simp only [jA, jB, jC]; go_simp⟩) ?_
          try simp only [Act.put, jA, jB, jC, jD, jE, jF]
          refine tkH 2 (.int .i64 (k : Int)) rfl (by kernel_rfl) (fun _ _ _ => False.elim) hHeld (Or.inl ⟨by rfl, fun W9 hW => by clear hHeld hW; simp only [jA, jB, jC]; go_simp⟩) ?_
          try simp only [Act.put, jA, jB, jC, jD, jE, jF]
          refine rdH 3 (by kernel_rfl) rfl fun K hK => ?_
          go_simp
          have CQ := hid (keys_any (R := R) (b := b) (d := d) (HR.out.old (below_step HB2.out (below_step HB5.out hHeld.out))) HU.out)
          go_wp2_with (first | (go_at_call 134; refine CQ.out.mono ?_; rintro en w6 ⟨a5, c5, a6, c6, rfl, hf, ht, hbE⟩; have HBE := hid (below_step hHeld.out hbE); have HFm := hid hf; have HTm := hid ht; clear hf ht; have HCw6 := hid (below_step HB5.out HBE.out); have HDw6 := hid (below_step HD5.out HBE.out)))
          clear CQ hHeld
          refine hK.out _ _ HBE (fun hHeld => ?_)
          clear hK K
          try simp only [Act.put, jA, jB, jC, jD, jE, jF]
          refine wpAnyH_low (S' := fun V => Hid (Below w6.heap.size w6 V)) (fun V hV => hid (below_step HBE.out hV.out)) _ _ _ _ ?_
          clear hHeld HBE
          have hHeld : Hid (Below w6.heap.size w6 w6) := hid (Below.refl _ _)
          refine rdH 4 (by kernel_rfl) rfl fun K hK => ?_
          go_simp
          have CQ := hid (meets_any (H1.out.old (below_step HB2.out HCw6.out)) (H2.out.old (below_step HB2.out HCw6.out)) HFm.out HTm.out)
          go_wp2_with (first | (go_at_call 133; refine CQ.out.mono ?_; rintro en w7 ⟨rfl, hbE⟩; have HBE := hid (below_step hHeld.out hbE); have HCw7 := hid (below_step HCw6.out HBE.out); have HDw7 := hid (below_step HDw6.out HBE.out)))
          clear CQ hHeld
          refine hK.out _ _ HBE (fun hHeld => ?_)
          clear hK K
          try simp only [Act.put, jA, jB, jC, jD, jE, jF]
          refine wpAnyH_low (S' := fun V => Hid (Below w7.heap.size w7 V)) (fun V hV => hid (below_step HBE.out hV.out)) _ _ _ _ ?_
          clear hHeld HBE
          have hHeld : Hid (Below w7.heap.size w7 w7) := hid (Below.refl _ _)
          refine wpAnyH_done (by kernel_rfl) (NoPanic.normal ?_) _
          clear hHeld
          clear HFm HTm
          have hz7 := (HDw7.out.block _ (lt_of_block HZ5.out)).trans HZ5.out
          have HO7 := hid (own_old HO5.out HDw7.out)
          have y0 := cell_in hz7 0 _ rfl
          clear hz7
          cases hmb : meetB F T o.f (toL R.sp k) with
          | true =>
            rw [hmb] at HST
            go_upto_region 12 with fail
            have HY := hid (one_int (heap_alloc_new w7 (.cells #[.int .i64 o.g] 3)))
            have HO8 := hid (own_old HO7.out ((Below.refl w7.heap.size w7).alloc (Nat.le_refl _) (.cells #[.int .i64 o.g] 3)))
            have HB8 := hid (HCw7.out.alloc HCw7.out.size (.cells #[.int .i64 o.g] 3))
            have HLb : Hid (([] ++ metL R.sp F T k).length ≤ 1000) := hid (by have := met_len R.sp F T k; have := HSL.out; rw [List.length_append]; rw [List.length_nil]; omega)
            go_wp2_with (first | (at_builtin; refine wp_iapp (by rfl) _ _ rfl (by rfl) HO8.out (by rfl) HY.out HLb.out HB8.out.size ?_; intro v9 w9 ho9 hb9; have HO9 := hid ho9; have HB9 := hid (HB8.out.trans hb9); clear ho9 hb9))
            go_roundw
            · refine ⟨k + 1, by omega, by go_num, ?_, HB9⟩
              rw [HST.out, if_pos rfl, ← List.append_assoc]
              exact HO9
            · simp [intOf]; omega
          | false =>
            rw [hmb] at HST
            go_wp2_with fail
            go_roundw
            · refine ⟨k + 1, by omega, by go_num, ?_, HCw7⟩
              rw [HST.out, if_neg (by simp), List.append_nil]
              exact HO7
            · simp [intOf]; omega
        · obtain rfl : k = R.sp.length := by omega
          have hln : ([] ++ metL R.sp F T R.sp.length).length ≤ 8 := by have := met_len R.sp F T R.sp.length; have := HSL.out; rw [List.length_append]; rw [List.length_nil]; omega
          have CS := hid (sort_any (L := [] ++ metL R.sp F T R.sp.length) HOr.out hln)
          clear hln
          go_wp2_with (first | (go_at_call 135; refine CS.out.mono ?_; rintro en w8 ⟨rfl, M, hp, hso, ho8, hk8⟩; have HP8 := hid hp; have HS8 := hid hso; have HO8 := hid ho8; have HB8 := hid (below_step HB2.out (HBr.out.trans (own_below HOr.out hk8 HBr.out.size))); clear hp hso ho8 hk8))
          go_ret
          refine ⟨_, M, rfl, by rw [HOL.out]; simpa using HP8.out, HS8.out, ?_, HB8.out⟩
          rw [HP8.out.length_eq]
          exact ownsRow_base HO8.out HB2.out.size
    | false =>
      have HN4 := hid (own_old HN0.out HCw4.out)
      have hln : (([] : List Int)).length ≤ 8 := by simp
      have CS := hid (sort_any (L := ([] : List Int)) HN4.out hln)
      clear hln
      go_wp2_with (first | (go_at_call 135; refine CS.out.mono ?_; rintro en w8 ⟨rfl, M, hp, hso, ho8, hk8⟩; have HP8 := hid hp; have HS8 := hid hso; have HO8 := hid ho8; have HB8 := hid (below_step HB2.out (HCw4.out.trans (own_below HN4.out hk8 HCw4.out.size))); clear hp hso ho8 hk8))
      go_ret
      refine ⟨_, M, rfl, by rw [HOL.out]; simpa using HP8.out, HS8.out, ?_, HB8.out⟩
      rw [HP8.out.length_eq]
      exact ownsRow_base HO8.out HB2.out.size
end Go.Proofs.Ytafcbelkhhjcoaa

set_option linter.unusedVariables false
set_option linter.unusedSimpArgs false
set_option maxRecDepth 100000
namespace Go.Proofs.Ytafcbelkhhjcoaa
open Go.RowKit Go.Deep
set_option maxHeartbeats 4000000 in
theorem at_any {w : World} {R : Rou} {ao b : Option Addr} {c d : Nat} (hr : OwsN w (.slice ao R.sp.length c) R.sp) (s : Int) : Calls Try.prog 118 #[.agg #[.int .i64 R.ep, .int .i64 R.base, .slice ao R.sp.length c, .int .i64 R.mv, .slice b R.cut.length d], .int .i64 s] w (AnsP w (.int .i64 (plcI R.sp s))) := by
  have hlm := ows_form hr
  obtain ⟨ao', c', e, -, hm, hc⟩ := ows_cells hr
  cases e
  have HC := hid hc
  clear hr hm hc
  go_enter Try.func118, Try.ntmps118
  go_upto_region 1 with fail
  have hb := (Below.refl w.heap.size w).alloc (Nat.le_refl _) (.cells #[.int .i64 R.ep, .int .i64 R.base, .slice ao R.sp.length c, .int .i64 R.mv, .slice b R.cut.length d] 64)
  have hz := heap_alloc_new w (.cells #[.int .i64 R.ep, .int .i64 R.base, .slice ao R.sp.length c, .int .i64 R.mv, .slice b R.cut.length d] 64)
  have hs : (w.alloc (.cells #[.int .i64 R.ep, .int .i64 R.base, .slice ao R.sp.length c, .int .i64 R.mv, .slice b R.cut.length d] 64)).heap.size = w.heap.size + 1 := by simp
  generalize w.alloc (.cells #[.int .i64 R.ep, .int .i64 R.base, .slice ao R.sp.length c, .int .i64 R.mv, .slice b R.cut.length d] 64) = w1 at *
  have z2 := cell_in hz 2 _ rfl
  have HB := hid hb
  clear hb hz hs
  go_wp2_with fail
  go_loopw [5] (fun j wr => ∃ k : Nat, k ≤ R.sp.length ∧ j = .int .i64 (k : Int) ∧ wr = w1 ∧ Hid ((R.sp.take k).any (fun t => decide (t.g = s)) = false))
    (fun j _ => R.sp.length - (intOf j).toNat)
  case atStart => exact ⟨0, by omega, rfl, rfl, hid (by simp)⟩
  case round =>
    obtain ⟨k, hk, rfl, rfl, HA⟩ := hrel
    by_cases hlt : k < R.sp.length
    · obtain ⟨u, hu⟩ : ∃ u, R.sp[k]? = some u := ⟨_, List.getElem?_eq_getElem hlt⟩
      obtain ⟨b1, of1, x1, d1, rfl, c0, c1, -⟩ := HC.out k u hu
      have hki : (k : Int) < (R.sp.length : Int) := by omega
      have k0 := (HB.out.cell (block_cell c0)).trans c0
      clear c0 c1
      have HT := hid (any_take (p := (fun t => decide (t.g = s))) hu HA.out)
      cases hq : (u.g == s) with
      | true =>
        have HR := hid (fidx_at (p := (fun t => decide (t.g = s))) hu HA.out (by simpa using hq))
        clear HT hu
        go_wp2_with fail
        go_ret
        exact ⟨by unfold plcI; rw [HR.out]; rfl, HB.out⟩
      | false =>
        have HT2 : Hid ((R.sp.take (k + 1)).any (fun t => decide (t.g = s)) = false) := hid (by rw [HT.out]; simpa using hq)
        clear HT hu
        go_wp2_with fail
        go_roundw
        case rel => exact ⟨k + 1, by omega, by go_num, trivial, HT2⟩
        case measure => simp [intOf]; omega
    · obtain rfl : k = R.sp.length := by omega
      rw [List.take_length] at HA
      have HR := hid (fidx_no HA.out)
      go_wp2_with fail
      go_ret
      exact ⟨by unfold plcI; rw [HR.out]; rfl, HB.out⟩
set_option maxHeartbeats 4000000 in
theorem rspan_any {w : World} {R : Rou} {ao b : Option Addr} {c d : Nat} (hr : OwsN w (.slice ao R.sp.length c) R.sp) (hL : ∀ o ∈ R.sp, o.f.length ≤ 140737488355328) {k : Nat} {o : Ow} (hk : R.sp[k]? = some o) :
    Calls Try.prog 119 #[.agg #[.int .i64 R.ep, .int .i64 R.base, .slice ao R.sp.length c, .int .i64 R.mv, .slice b R.cut.length d], .int .i64 (k : Int)] w (SpA w o.f (toL R.sp k)) := by
  have hlen := ows_form hr
  obtain ⟨ao', c', e, -, hm, hc⟩ := ows_cells hr
  cases e
  have hkl := (List.getElem?_eq_some_iff.1 hk).1
  have HC := hid hc
  have HLN := hid hlen
  have HK := hid hk
  have HLL := hid hL
  clear hr hc hm hlen hk hL
  go_enter Try.func119, Try.ntmps119
  go_upto_region 1 with fail
  have hb := (Below.refl w.heap.size w).alloc (Nat.le_refl _) (.cells #[.int .i64 R.ep, .int .i64 R.base, .slice ao R.sp.length c, .int .i64 R.mv, .slice b R.cut.length d] 64)
  have hz := heap_alloc_new w (.cells #[.int .i64 R.ep, .int .i64 R.base, .slice ao R.sp.length c, .int .i64 R.mv, .slice b R.cut.length d] 64)
  have hs : (w.alloc (.cells #[.int .i64 R.ep, .int .i64 R.base, .slice ao R.sp.length c, .int .i64 R.mv, .slice b R.cut.length d] 64)).heap.size = w.heap.size + 1 := by simp
  generalize w.alloc (.cells #[.int .i64 R.ep, .int .i64 R.base, .slice ao R.sp.length c, .int .i64 R.mv, .slice b R.cut.length d] 64) = w1 at *
  have hb2 := hb.alloc hb.size (.cells #[.slice none 0 0, .slice none 0 0] 66)
  have hz2 := heap_alloc_new w1 (.cells #[.slice none 0 0, .slice none 0 0] 66)
  have hz12 := (((Below.refl w1.heap.size w1).alloc (Nat.le_refl _) (.cells #[.slice none 0 0, .slice none 0 0] 66)).block _ (by omega)).trans hz
  have hs2 : (w1.alloc (.cells #[.slice none 0 0, .slice none 0 0] 66)).heap.size = w.heap.size + 2 := by simp; omega
  rw [hs] at hz2
  generalize w1.alloc (.cells #[.slice none 0 0, .slice none 0 0] 66) = w2 at *
  have HB := hid hb2
  have HS := hid hs2
  have HZ1 := hid hz12
  have HZ2 := hid hz2
  obtain ⟨b1, of1, x1, d1, rfl, k0, k1, kr⟩ := HC.out k o HK.out
  have e1 := (HB.out.cell (block_cell k1)).trans k1
  have p2 := cell_in HZ1.out 2 _ rfl
  have hki : (k : Int) < (R.sp.length : Int) := by omega
  have CC := hid (copyB_any w2 _ _ (kr.old HB.out) (HLL.out o (List.mem_of_getElem? HK.out)))
  have HKR := hid kr
  clear hb hz hs hb2 hz2 hs2 hz12 k0 k1 kr
  go_upto_region 2 with (first | (go_at_call 128; refine CC.out.mono ?_; rintro en w3 h3; obtain ⟨a5, c5, rfl, ho3, hb3⟩ := h3.elim; have HO3 := hid ho3; have HB3 := hid hb3; clear h3 ho3 hb3))
  have hb4 := (Below.refl w3.heap.size w3).alloc (Nat.le_refl _) (.cells #[.int .u8 121] 5)
  have hz4 := heap_alloc_new w3 (.cells #[.int .u8 121] 5)
  have hs4 : (w3.alloc (.cells #[.int .u8 121] 5)).heap.size = w3.heap.size + 1 := by simp
  have hg3 := HB3.out.size
  have HG : Hid (w.heap.size + 2 ≤ w3.heap.size) := hid (by have := HS.out; omega)
  have ho4 := Rd.own (own_old HO3.out hb4)
  have hy1 := (hb4.block _ (by have := HG.out; omega)).trans ((HB3.out.block _ (by have := HS.out; omega)).trans HZ1.out)
  have hy2 := (hb4.block _ (by have := HG.out; omega)).trans ((HB3.out.block _ (by have := HS.out; omega)).trans HZ2.out)
  have hbw4 := below_step (below_step HB.out HB3.out) hb4
  generalize w3.heap.size = g8 at *
  generalize w3.alloc (.cells #[.int .u8 121] 5) = w4 at *
  have hr4 := zrd_one (c := 121) hz4
  have hb5 := (Below.refl w4.heap.size w4).alloc (Nat.le_refl _) (.cells #[.slice a5 o.f.length c5, .slice (some ⟨g8, 0, none⟩) 1 1] 66)
  have hz5 := heap_alloc_new w4 (.cells #[.slice a5 o.f.length c5, .slice (some ⟨g8, 0, none⟩) 1 1] 66)
  have HB5 := hid (below_step hbw4 hb5)
  have HF5 := hid (ho4.old hb5)
  have HT5 := hid (hr4.old hb5)
  have HY1 := hid ((hb5.block _ (by have := HG.out; omega)).trans hy1)
  have HY2 := hid ((hb5.block _ (by have := HG.out; omega)).trans hy2)
  rw [hs4] at hz5
  generalize w4.alloc (.cells #[.slice a5 o.f.length c5, .slice (some ⟨g8, 0, none⟩) 1 1] 66) = w5 at *
  have HZ5 := hid hz5
  clear hb4 hz4 hs4 hg3 ho4 hy1 hy2 hbw4 hr4 hb5 hz5 HO3 HB3 HZ1 HZ2 HS HB p2 e1
  have q0 := cell_in HZ5.out 0 _ rfl
  have fq0 := free_in HZ5.out 0
  have q1 := cell_in HZ5.out 1 _ rfl
  have fq1 := free_in HZ5.out 1
  have z0 := cell_in HY1.out 0 _ rfl
  have f0 := free_in HY1.out 0
  have z1 := cell_in HY1.out 1 _ rfl
  have f1 := free_in HY1.out 1
  have z2 := cell_in HY1.out 2 _ rfl
  have f2 := free_in HY1.out 2
  have z3 := cell_in HY1.out 3 _ rfl
  have f3 := free_in HY1.out 3
  have z4 := cell_in HY1.out 4 _ rfl
  have f4 := free_in HY1.out 4
  have hlt4 : w.heap.size ≤ g8 + 1 := by have := HG.out; omega
  have hne : g8 + 1 ≠ w.heap.size + 1 := by have := HG.out; omega
  have hwr : IntKind.i64.wrap ((k : Int) + 1) = (k : Int) + 1 := IntWalk.i64_in _ (by have := HLN.out; omega)
  by_cases h1 : k + 1 < R.sp.length
  · obtain ⟨o2, ho2⟩ : ∃ o2, R.sp[k + 1]? = some o2 := ⟨_, List.getElem?_eq_getElem h1⟩
    have HT2 : Hid (toL R.sp k = o2.f) := hid (by unfold toL; rw [ho2])
    obtain ⟨b2, of2, x2, d2, e9, k2, k3, kr2⟩ := HC.out (k + 1) o2 ho2
    cases e9
    have e2 := (HB5.out.cell (block_cell k3)).trans k3
    have hki2 : (k : Int) + 1 < (R.sp.length : Int) := by omega
    have CC2 := hid (copyB_any w5 _ _ (kr2.old HB5.out) (HLL.out o2 (List.mem_of_getElem? ho2)))
    clear k2 k3 kr2 CC
    go_upto_region 4 with (first | (go_at_call 128; refine CC2.out.mono ?_; rintro en w6 h6; obtain ⟨a6, c6, rfl, ho6, hb6⟩ := h6.elim; have HF6 := hid (HF5.out.old hb6); have HT6 := hid (Rd.own ho6); have HB6 := hid (below_step HB5.out hb6); have hz6 := (hb6.block _ (lt_of_block HZ5.out)).trans HZ5.out; have HZ6 := hid hz6; have HY6 := hid ((hb6.block _ (lt_of_block HY2.out)).trans HY2.out); have r0 := cell_in hz6 0 _ rfl; have r1 := cell_in hz6 1 _ rfl; have fr0 := free_in hz6 0; have fr1 := free_in hz6 1; clear h6 ho6 hb6 hz6 q0 q1 fq0 fq1))
    clear r0 r1 fr0 fr1
    have hk7 : Keep (· = g8 + 1) w6 (w6.setCell ⟨g8 + 1, 1, none⟩ (.slice a6 o2.f.length c6)) := Keep.set (X := (· = g8 + 1)) w6 ⟨g8 + 1, 1, none⟩ _ rfl
    have HF7 := hid (rd_put HF6.out HZ6.out hk7)
    have HT7 := hid (rd_put HT6.out HZ6.out hk7)
    have hz7 := put_in HZ6.out 1 (.slice a6 o2.f.length c6)
    have hy7 := off_set (i := 1) (.slice a6 o2.f.length c6) HY6.out hne
    have HB7 : Hid (Below w.heap.size w (w6.setCell ⟨g8 + 1, 1, none⟩ (.slice a6 o2.f.length c6))) := hid (HB6.out.setCell hlt4 _)
    generalize w6.setCell ⟨g8 + 1, 1, none⟩ (.slice a6 o2.f.length c6) = w7 at *
    have HY7 := hid hy7
    have r0 := cell_in hz7 0 _ rfl
    have fr0 := free_in hz7 0
    have r1 := cell_in hz7 1 _ rfl
    have fr1 := free_in hz7 1
    have t0 := cell_in hy7 0 _ rfl
    have ft0 := free_in hy7 0
    have t1 := cell_in hy7 1 _ rfl
    have ft1 := free_in hy7 1
    clear hk7 hz7 hy7
    go_wp2_with fail
    have hk9 := keep2 w7 (w.heap.size + 1) (.slice a5 o.f.length c5) (.slice a6 o2.f.length c6)
    have hz9 := put_in (put_in HY7.out 0 (.slice a5 o.f.length c5)) 1 (.slice a6 o2.f.length c6)
    have hf9 := rd_put HF7.out HY7.out hk9
    have ht9 := rd_put HT7.out HY7.out hk9
    have hb9 : Below w.heap.size w ((w7.setCell ⟨w.heap.size + 1, 0, none⟩ (.slice a5 o.f.length c5)).setCell ⟨w.heap.size + 1, 1, none⟩ (.slice a6 o2.f.length c6)) := (HB7.out.setCell (show w.heap.size ≤ w.heap.size + 1 by omega) _).setCell (show w.heap.size ≤ w.heap.size + 1 by omega) _
    generalize (w7.setCell ⟨w.heap.size + 1, 0, none⟩ (.slice a5 o.f.length c5)).setCell ⟨w.heap.size + 1, 1, none⟩ (.slice a6 o2.f.length c6) = w9 at *
    (try simp only [Exit.inBlock, Exit.then]); refine bodyPost_ret (results_cell_row rfl _ _ (w.heap.size + 1) 66 _ (0, 0) _ rfl hz9 Try.underlying66 rfl (by kernel_rfl)) rfl ?_
    rw [HT2.out]
    exact ⟨_, _, _, _, rfl, hf9, ht9, hb9⟩
  · have HT2 : Hid (toL R.sp k = [121]) := hid (by unfold toL; rw [List.getElem?_eq_none (by omega)])
    have hki2 : ¬ (k : Int) + 1 < (R.sp.length : Int) := by omega
    have hy7 := HY2.out
    have t0 := cell_in hy7 0 _ rfl
    have ft0 := free_in hy7 0
    have t1 := cell_in hy7 1 _ rfl
    have ft1 := free_in hy7 1
    clear CC
    go_wp2_with fail
    have hk9 := keep2 w5 (w.heap.size + 1) (.slice a5 o.f.length c5) (.slice (some ⟨g8, 0, none⟩) 1 1)
    have hz9 := put_in (put_in HY2.out 0 (.slice a5 o.f.length c5)) 1 (.slice (some ⟨g8, 0, none⟩) 1 1)
    have hf9 := rd_put HF5.out HY2.out hk9
    have ht9 := rd_put HT5.out HY2.out hk9
    have hb9 : Below w.heap.size w ((w5.setCell ⟨w.heap.size + 1, 0, none⟩ (.slice a5 o.f.length c5)).setCell ⟨w.heap.size + 1, 1, none⟩ (.slice (some ⟨g8, 0, none⟩) 1 1)) := (HB5.out.setCell (show w.heap.size ≤ w.heap.size + 1 by omega) _).setCell (show w.heap.size ≤ w.heap.size + 1 by omega) _
    generalize (w5.setCell ⟨w.heap.size + 1, 0, none⟩ (.slice a5 o.f.length c5)).setCell ⟨w.heap.size + 1, 1, none⟩ (.slice (some ⟨g8, 0, none⟩) 1 1) = w9 at *
    (try simp only [Exit.inBlock, Exit.then]); refine bodyPost_ret (results_cell_row rfl _ _ (w.heap.size + 1) 66 _ (0, 0) _ rfl hz9 Try.underlying66 rfl (by kernel_rfl)) rfl ?_
    rw [HT2.out]
    exact ⟨_, _, _, _, rfl, hf9, ht9, hb9⟩
end Go.Proofs.Ytafcbelkhhjcoaa

