import GoSem.Op.String
import Derived.Lib.Bytealg
import Derived.Test.YthckgokkjlnknaaRows
import Derived.WalkKit
import Derived.WalkSpells
import Derived.WalkLawsBesides
import Derived.Laws.AppendOwnNone
import Derived.Deep.Slices
import Derived.BigQuiet
import Derived.Deep.QuietTactic
import Derived.Deep.AppendLies
import Derived.Deep.RegionWith
import Derived.Shelf.Abstract
import Derived.Test.YthckgokkjlnknaaProg
import Derived.LaidEql
import Derived.Stop.Asserts
import Derived.RowKitTokens
import Derived.Lib.Bytes
import Derived.Deep.OwnRows
import Derived.OwnWalk
import Derived.ProofKit
import Derived.Lib.AppendZeros
import Derived.Deep.CutRange
import Derived.Deep.RegionHeld3
import Derived.OpenShut
import Derived.ShutString
import Derived.ChangeOld
import Derived.Below
import Derived.SizedLaws
import Derived.Deep.Strs
import Derived.Deep.RegionHeld
import Derived.Deep.RegionLaw
import Derived.Laws.OwnMore
import Derived.Laws.ResultCell
import Derived.BigRegion
import Derived.Laws.CopyOwn
import Derived.Lib.AppendZerosOnto
import Derived.Lib.Overlaps
import Derived.Deep.AppendSrc
import Derived.Deep.CutBlock
import Derived.Lib.SlBytesConst
import Derived.RangeFuncNested
import Derived.RangeFuncBound
import Derived.RangeFuncCalls
import Derived.RangeFuncLeaves
import Derived.Shelf.RegionOpen
import Derived.OwnWalkIn
import Derived.TacticsInMore
import Derived.LoopNIn
import Derived.LoopIn
import Derived.Laws.CopyRow
import Derived.Deep.MidRow
import Derived.Laws.MakeOwn
import Derived.IntWalk
import Derived.Test.YthckgokkjlnknaaHA1
import Derived.Test.YthckgokkjlnknaaHA2
import Derived.Test.YthckgokkjlnknaaHA3
set_option linter.unusedVariables false
set_option linter.unusedSimpArgs false
set_option linter.unusedVariables false
set_option linter.unusedSimpArgs false
set_option maxRecDepth 100000
namespace Go.Proofs.Ythckgokkjlnknaa
open Go.RowKit Go.Deep

theorem ows_one {w : World} {g : Nat} {a : Option Addr} {n c : Nat} {z : Int} {f : List UInt8} {t : TypeId} (h : w.heap[g]? = some (.cells #[.int .i64 z, .slice a n c] t (0, 0))) (hn : n = f.length) (hf : Rd w (.slice a n c) f) : OwsN w (.slice (some ⟨g, 0, none⟩) 1 1) [⟨z, f⟩] := by
  subst hn
  refine ⟨[[.int .i64 z, .slice a f.length c]], rfl, ⟨some ⟨g, 0, none⟩, 1, rfl, by simp, by unfold maxLen; omega, (fun e => by cases e), fun r hr => ?_, fun ad ha j u hu => ?_⟩, fun i r o h1 h2 => ?_⟩
  · rw [List.mem_singleton.1 hr]; exact ⟨rfl, fun u hu => by simp at hu; rcases hu with rfl | rfl <;> rfl⟩
  · cases ha
    have hw : (some ⟨g, 0, none⟩ : Option Addr) = some ⟨g, 0, none⟩ := rfl
    rcases j with _ | _ | j
    · simp at hu; subst hu; exact cell_in h 0 _ rfl
    · simp at hu; subst hu; exact cell_in h 1 _ rfl
    · simp at hu
  · cases i with
    | zero => simp at h1 h2; subst h1; subst h2; exact ⟨a, c, rfl, hf⟩
    | succ i => simp at h1
/-- New routes are told. -/
def NewA (w : World) (bs : Int) (e : Ending) (w' : World) : Prop :=
  ∃ ao c, e = .returned (.tuple #[.agg #[.int .i64 0, .int .i64 bs, .slice ao 1 c, .int .i64 0, .slice none 0 0], .int .i64 0]) ∧ OwsN w' (.slice ao 1 c) [⟨bs + 1, [120]⟩] ∧ Below w.heap.size w w'
theorem results_cell5 {P : Program} {fn : Func} {p u : Tmp} {ty : TypeId} (h : fn.results = #[.cell p ty, .tmp u]) (tmps : Array Value) (w : World) (g : Nat) (t : TypeId) (cs : Array Value) (fr : Nat × Nat) (d : TypeDesc)
    (hp : tmps.getD p undef = .pointer (some ⟨g, 0, none⟩)) (hg : w.heap[g]? = some (.cells cs t fr))
    (hu : P.underlying ty = some d) (hd : (match d with | .struct _ | .array _ _ => true | _ => false) = true) (hi : (P.info? ty).map (·.size) = some cs.size) :
    (results fn tmps).run P w = .ok (.tuple #[.agg cs, tmps.getD u undef]) w := by
  have hp' : tmps[p]?.getD undef = .pointer (some ⟨g, 0, none⟩) := by simpa using hp
  simp [results, h, hp', asAddr, run_loadVar_row w g t ty cs fr d hg hu hd hi]
set_option maxHeartbeats 4000000 in
theorem new_ok (w : World) (bs sp : Int) (h1 : bfB bs = true) (h2 : 1 ≤ sp) (h3 : sp ≤ 4) : Calls Try.prog 38 #[.int .i64 bs, .int .i64 sp] w (NewA w bs) := by
  have HC := fun W => bf_any W bs
  rw [h1] at HC
  have hbs : 1 ≤ bs ∧ bs ≤ 4 := by unfold bfB at h1; simpa using h1
  have h2b : ¬ sp < 1 := by omega
  have h3b : ¬ sp > 4 := by omega
  have hbw : IntKind.i64.wrap (bs + 1) = bs + 1 := IntWalk.i64_in _ (by omega)
  go_enter Try.func38, Try.ntmps38
  go_upto_region 1 with fail
  have hb := (Below.refl w.heap.size w).alloc (Nat.le_refl _) (.cells #[.int .i64 0, .int .i64 0, .slice none 0 0, .int .i64 0, .slice none 0 0] 64)
  have hz := heap_alloc_new w (.cells #[.int .i64 0, .int .i64 0, .slice none 0 0, .int .i64 0, .slice none 0 0] 64)
  have hs : (w.alloc (.cells #[.int .i64 0, .int .i64 0, .slice none 0 0, .int .i64 0, .slice none 0 0] 64)).heap.size = w.heap.size + 1 := by simp
  generalize w.alloc (.cells #[.int .i64 0, .int .i64 0, .slice none 0 0, .int .i64 0, .slice none 0 0] 64) = w1 at *
  have HB := hid hb
  have HZ := hid hz
  have HS := hid hs
  have z0 := cell_in hz 0 _ rfl
  have f0 := free_in hz 0
  have z1 := cell_in hz 1 _ rfl
  have f1 := free_in hz 1
  have z2 := cell_in hz 2 _ rfl
  have f2 := free_in hz 2
  have z3 := cell_in hz 3 _ rfl
  have f3 := free_in hz 3
  have z4 := cell_in hz 4 _ rfl
  have f4 := free_in hz 4
  clear hb hz hs
  go_upto_region 3 with (first | (go_at_call 87; refine (HC _).mono ?_; rintro en w3 ⟨rfl, e3⟩; obtain rfl : w1 = w3 := e3.symm))
  have hsz := HS.out
  go_wp2_with fail
  have hz2 := (put_in (put_in (put_in (put_in (put_in HZ.out 0 (.int .i64 0)) 1 (.int .i64 bs)) 2 (.slice (some ⟨w.heap.size + 1 + 1, 0, none⟩) 1 1)) 3 (.int .i64 0)) 4 (.slice none 0 0))
  have hb2 : Below w.heap.size w (((((w1.setCell ⟨w.heap.size, 0, none⟩ (.int .i64 0)).setCell ⟨w.heap.size, 1, none⟩ (.int .i64 bs)).setCell ⟨w.heap.size, 2, none⟩ (.slice (some ⟨w.heap.size + 1 + 1, 0, none⟩) 1 1)).setCell ⟨w.heap.size, 3, none⟩ (.int .i64 0)).setCell ⟨w.heap.size, 4, none⟩ (.slice none 0 0)) := (((((HB.out.setCell (Nat.le_refl _) _).setCell (Nat.le_refl _) _).setCell (Nat.le_refl _) _).setCell (Nat.le_refl _) _).setCell (Nat.le_refl _) _)
  have hs2 : (((((w1.setCell ⟨w.heap.size, 0, none⟩ (.int .i64 0)).setCell ⟨w.heap.size, 1, none⟩ (.int .i64 bs)).setCell ⟨w.heap.size, 2, none⟩ (.slice (some ⟨w.heap.size + 1 + 1, 0, none⟩) 1 1)).setCell ⟨w.heap.size, 3, none⟩ (.int .i64 0)).setCell ⟨w.heap.size, 4, none⟩ (.slice none 0 0)).heap.size = w.heap.size + 1 := by simp [HS.out]
  generalize (((((w1.setCell ⟨w.heap.size, 0, none⟩ (.int .i64 0)).setCell ⟨w.heap.size, 1, none⟩ (.int .i64 bs)).setCell ⟨w.heap.size, 2, none⟩ (.slice (some ⟨w.heap.size + 1 + 1, 0, none⟩) 1 1)).setCell ⟨w.heap.size, 3, none⟩ (.int .i64 0)).setCell ⟨w.heap.size, 4, none⟩ (.slice none 0 0)) = w2 at *
  have k1 := heap_alloc_new w2 (.cells #[.int .u8 120] 5)
  have hb3 := hb2.alloc (by omega) (.cells #[.int .u8 120] 5)
  have k0 := (((Below.refl w2.heap.size w2).alloc (Nat.le_refl _) (.cells #[.int .u8 120] 5)).block _ (by omega)).trans hz2
  have hs3 : (w2.alloc (.cells #[.int .u8 120] 5)).heap.size = w.heap.size + 1 + 1 := by simp; omega
  rw [hs2] at k1
  generalize w2.alloc (.cells #[.int .u8 120] 5) = w3 at *
  have m2 := heap_alloc_new w3 (.cells #[.int .i64 (bs + 1), .slice (some ⟨w.heap.size + 1, 0, none⟩) 1 1] 86)
  have hb4 := hb3.alloc (by omega) (.cells #[.int .i64 (bs + 1), .slice (some ⟨w.heap.size + 1, 0, none⟩) 1 1] 86)
  have m0 := (((Below.refl w3.heap.size w3).alloc (Nat.le_refl _) (.cells #[.int .i64 (bs + 1), .slice (some ⟨w.heap.size + 1, 0, none⟩) 1 1] 86)).block _ (by omega)).trans k0
  have m1 := (((Below.refl w3.heap.size w3).alloc (Nat.le_refl _) (.cells #[.int .i64 (bs + 1), .slice (some ⟨w.heap.size + 1, 0, none⟩) 1 1] 86)).block _ (by omega)).trans k1
  rw [hs3] at m2
  generalize w3.alloc (.cells #[.int .i64 (bs + 1), .slice (some ⟨w.heap.size + 1, 0, none⟩) 1 1] 86) = w4 at *
  refine bodyPost_ret (results_cell5 rfl _ _ w.heap.size 64 _ (0, 0) _ rfl m0 Try.underlying64 rfl (by kernel_rfl)) rfl ?_
  exact ⟨_, _, rfl, ows_one m2 rfl (zrd_one m1), hb4⟩
theorem small_any (w : World) (R : Rou) (ao b : Option Addr) (c d : Nat) (h : R.sp.length < 30) : Calls Try.prog 36 #[.agg #[.int .i64 R.ep, .int .i64 R.base, .slice ao R.sp.length c, .int .i64 R.mv, .slice b R.cut.length d]] w (AnsP w (.bool true)) := by
  have hi : ((R.sp.length : Nat) : Int) < 30 := by omega
  go_enter Try.func36, Try.ntmps36
  go_upto_region 1 with fail
  have hb := (Below.refl w.heap.size w).alloc (Nat.le_refl _) (.cells #[.int .i64 R.ep, .int .i64 R.base, .slice ao R.sp.length c, .int .i64 R.mv, .slice b R.cut.length d] 64)
  have hz := heap_alloc_new w (.cells #[.int .i64 R.ep, .int .i64 R.base, .slice ao R.sp.length c, .int .i64 R.mv, .slice b R.cut.length d] 64)
  have hs : (w.alloc (.cells #[.int .i64 R.ep, .int .i64 R.base, .slice ao R.sp.length c, .int .i64 R.mv, .slice b R.cut.length d] 64)).heap.size = w.heap.size + 1 := by simp
  generalize w.alloc (.cells #[.int .i64 R.ep, .int .i64 R.base, .slice ao R.sp.length c, .int .i64 R.mv, .slice b R.cut.length d] 64) = w1 at *
  have z2 := cell_in hz 2 _ rfl
  have HB := hid hb
  clear hb hz hs
  go_wp2_with fail
  go_ret
  exact ⟨rfl, HB.out⟩
theorem small_no (w : World) (R : Rou) (ao b : Option Addr) (c d : Nat) (h : ¬ R.sp.length < 30) : Calls Try.prog 36 #[.agg #[.int .i64 R.ep, .int .i64 R.base, .slice ao R.sp.length c, .int .i64 R.mv, .slice b R.cut.length d]] w (AnsP w (.bool false)) := by
  have hi : ¬ ((R.sp.length : Nat) : Int) < 30 := by omega
  go_enter Try.func36, Try.ntmps36
  go_upto_region 1 with fail
  have hb := (Below.refl w.heap.size w).alloc (Nat.le_refl _) (.cells #[.int .i64 R.ep, .int .i64 R.base, .slice ao R.sp.length c, .int .i64 R.mv, .slice b R.cut.length d] 64)
  have hz := heap_alloc_new w (.cells #[.int .i64 R.ep, .int .i64 R.base, .slice ao R.sp.length c, .int .i64 R.mv, .slice b R.cut.length d] 64)
  have hs : (w.alloc (.cells #[.int .i64 R.ep, .int .i64 R.base, .slice ao R.sp.length c, .int .i64 R.mv, .slice b R.cut.length d] 64)).heap.size = w.heap.size + 1 := by simp
  generalize w.alloc (.cells #[.int .i64 R.ep, .int .i64 R.base, .slice ao R.sp.length c, .int .i64 R.mv, .slice b R.cut.length d] 64) = w1 at *
  have z2 := cell_in hz 2 _ rfl
  have HB := hid hb
  clear hb hz hs
  go_wp2_with fail
  go_ret
  exact ⟨rfl, HB.out⟩
set_option maxHeartbeats 4000000 in
theorem hspan_any {w : World} {a1 a2 a3 a4 : Option Addr} {c1 c2 c3 c4 : Nat} {F1 T1 F2 T2 : List UInt8} (h1 : Rd w (.slice a1 F1.length c1) F1) (h2 : Rd w (.slice a2 T1.length c2) T1) (h3 : Rd w (.slice a3 F2.length c3) F2) (h4 : Rd w (.slice a4 T2.length c4) T2) :
    Calls Try.prog 45 #[.agg #[.slice a1 F1.length c1, .slice a2 T1.length c2], .agg #[.slice a3 F2.length c3, .slice a4 T2.length c4]] w (AnsP w (.bool ((F1 == F2) && (T1 == T2)))) := by
  go_enter Try.func45, Try.ntmps45
  go_upto_region 1 with fail
  have hb1 := (Below.refl w.heap.size w).alloc (Nat.le_refl _) (.cells #[.slice a1 F1.length c1, .slice a2 T1.length c2] 66)
  have hz1 := heap_alloc_new w (.cells #[.slice a1 F1.length c1, .slice a2 T1.length c2] 66)
  have hs1 : (w.alloc (.cells #[.slice a1 F1.length c1, .slice a2 T1.length c2] 66)).heap.size = w.heap.size + 1 := by simp
  generalize w.alloc (.cells #[.slice a1 F1.length c1, .slice a2 T1.length c2] 66) = w1 at *
  have hb2 := hb1.alloc (by omega) (.cells #[.slice a3 F2.length c3, .slice a4 T2.length c4] 66)
  have hz2 := heap_alloc_new w1 (.cells #[.slice a3 F2.length c3, .slice a4 T2.length c4] 66)
  have hz12 := (((Below.refl w1.heap.size w1).alloc (Nat.le_refl _) (.cells #[.slice a3 F2.length c3, .slice a4 T2.length c4] 66)).block _ (by omega)).trans hz1
  rw [hs1] at hz2
  generalize w1.alloc (.cells #[.slice a3 F2.length c3, .slice a4 T2.length c4] 66) = w2 at *
  have p0 := cell_in hz12 0 _ rfl
  have fp0 := free_in hz12 0
  have p1 := cell_in hz12 1 _ rfl
  have fp1 := free_in hz12 1
  have q0 := cell_in hz2 0 _ rfl
  have fq0 := free_in hz2 0
  have q1 := cell_in hz2 1 _ rfl
  have fq1 := free_in hz2 1
  have CF := hid (zbytes_any w2 (h1.old hb2) (h3.old hb2))
  have CT := hid (zbytes_any w2 (h2.old hb2) (h4.old hb2))
  have HB := hid hb2
  clear hb1 hz1 hs1 hb2 hz2 hz12 h1 h2 h3 h4
  cases hF : (F1 == F2) with
  | false =>
    rw [hF] at CF
    go_wp2_with (first | (go_at_call 63; refine CF.out.mono ?_; rintro en w3 ⟨rfl, e3⟩; obtain rfl : w2 = w3 := e3.symm))
    go_ret
    exact ⟨by rw [hF]; rfl, HB.out⟩
  | true =>
    rw [hF] at CF
    obtain ⟨bt, hbt⟩ : ∃ bt, (T1 == T2) = bt := ⟨_, rfl⟩
    rw [hbt] at CT ⊢
    go_wp2_with (first
      | (go_at_call 63; first
          | (refine CF.out.mono ?_; rintro en w3 ⟨rfl, e3⟩; obtain rfl : w2 = w3 := e3.symm; clear CF)
          | (refine CT.out.mono ?_; rintro en w3 ⟨rfl, e3⟩; obtain rfl : w2 = w3 := e3.symm)))
    go_ret
    exact ⟨by rw [hF, hbt]; simp, HB.out⟩
def R0 : Rou := ⟨0, 2, [⟨3, [120]⟩], 0, []⟩
set_option maxHeartbeats 4000000 in
theorem awake_ok (w : World) : Calls Try.prog 37 #[] w (AnsP w (.bool true)) := by
  go_enter Try.func37, Try.ntmps37
  go_upto_region 2 with (first | (go_at_call 38; refine (new_ok w 2 2 (by decide) (by decide) (by decide)).mono ?_; rintro en w3 ⟨ao, c, rfl, hr, hb3⟩; have HR := hid hr; have HB3 := hid hb3; clear hr hb3))
  have hb4 := (Below.refl w3.heap.size w3).alloc (Nat.le_refl _) (.cells #[.int .i64 0, .int .i64 2, .slice ao 1 c, .int .i64 0, .slice none 0 0] 64)
  have hz4 := heap_alloc_new w3 (.cells #[.int .i64 0, .int .i64 2, .slice ao 1 c, .int .i64 0, .slice none 0 0] 64)
  have HR4 := hid (HR.out.old hb4)
  have HB4 := hid (below_step HB3.out hb4)
  generalize w3.alloc (.cells #[.int .i64 0, .int .i64 2, .slice ao 1 c, .int .i64 0, .slice none 0 0] 64) = w4 at *
  have hlm := ows_form HR4.out
  obtain ⟨ao', c', e, -, hm, hc⟩ := ows_cells HR4.out
  cases e
  obtain ⟨b1, of1, x1, d1, rfl, c0, c1, cr⟩ := hc 0 ⟨3, [120]⟩ rfl
  simp only [Nat.zero_mul, Nat.add_zero] at c0
  have z0 := cell_in hz4 0 _ rfl
  have f0 := free_in hz4 0
  have z1 := cell_in hz4 1 _ rfl
  have f1 := free_in hz4 1
  have z2 := cell_in hz4 2 _ rfl
  have f2 := free_in hz4 2
  have z3 := cell_in hz4 3 _ rfl
  have f3 := free_in hz4 3
  have z4 := cell_in hz4 4 _ rfl
  have f4 := free_in hz4 4
  have hb5 := (Below.refl w4.heap.size w4).alloc (Nat.le_refl _) (.cells #[.int .u8 120] 5)
  have HB5 := hid (below_step HB4.out hb5)
  have CG := hid (group_any (R := R0) (b := none) (d := 0) (by decide) (HR4.out.old hb5) (zrd_one (c := 120) (heap_alloc_new w4 (.cells #[.int .u8 120] 5))))
  have hg : grpI R0 [120] = 3 := by decide
  rw [hg] at CG
  clear hg hb4 hz4 hb5 hc hm c1 cr
  go_wp2_with (first | (go_at_call 50; refine CG.out.mono ?_; rintro en w6 ⟨rfl, hb6⟩; have HB6 := hid (below_step HB5.out hb6); clear hb6))
  go_ret
  exact ⟨rfl, HB6.out⟩
end Go.Proofs.Ythckgokkjlnknaa

set_option linter.unusedVariables false
set_option linter.unusedSimpArgs false
set_option maxRecDepth 100000
namespace Go.Proofs.Ythckgokkjlnknaa
open Go.RowKit Go.ChangeShapes Go.WideShapes Go.ChangeAt Go.Deep

section
variable {H : Type} {enc : TypeId × Value → H} {W : World}

theorem rws_hmap {α : Type} {n : Nat} {x : Value} {M : List (List Value)} {l : List α} (row : α → List Value) (h : Rws n W x M) (hl : M.length = l.length) (hr : ∀ (i : Nat) r a, M[i]? = some r → l[i]? = some a → r = row a) : Rws n W x (l.map row) := by
  have hM : M = l.map row := by
    apply List.ext_getElem?
    intro i
    rcases Nat.lt_or_ge i l.length with hi | hi
    · have a1 : M[i]? = some (M[i]'(by omega)) := List.getElem?_eq_getElem (by omega)
      have a2 : l[i]? = some l[i] := List.getElem?_eq_getElem hi
      rw [List.getElem?_map, a2, a1, hr i _ _ a1 a2]; rfl
    · rw [List.getElem?_eq_none (by omega), List.getElem?_eq_none (by rw [List.length_map]; omega)]
  exact hM ▸ h
theorem flat_bv (l : List UInt8) : (l.map fun z => [bv z]).flatten = l.map bv := by
  induction l with
  | nil => rfl
  | cons q l ih => rw [List.map_cons, List.flatten_cons, ih]; rfl
theorem rd_of_rws {x : Value} {l : List UInt8} (h : Rws 1 W x (l.map fun z => [bv z])) : Rd W x l := by
  obtain ⟨ao, c, h1, h2, h3, h4, -, h6⟩ := h
  rw [List.length_map] at h1 h2
  refine ⟨ao, c, h1, h2, h3, h4, fun a ha j u hu => h6 a ha j u ?_⟩
  rw [flat_bv]; exact hu
theorem bytes_in {f : Nat} {cs : List Value} {y : DataW H × List MemPlace} (hf : DataW.trod enc Try.prog W 0 (fun _ => true) true f 62 cs = some y) :
    ∃ (a : Option Addr) (c : Nat) (l : List UInt8), cs = [.slice a l.length c] ∧ Rd W (.slice a l.length c) l ∧ ∀ K, (∀ k ∈ y.1.weights Try.prog 62, k ≤ K) → l.length ≤ K := by
  obtain ⟨x, M, l, h1, h2, h3, h4, h5, h6, h7⟩ := list_in (enc := enc) (W := W) (fun r (z : UInt8) => r = [bv z]) (fun _ _ => True) 1 62 5 Try.underlying62 (by kernel_rfl) (by decide) (by decide +kernel) (fun m cs y h => by
    obtain ⟨i, rfl, -, hw⟩ := DataW.trod_int Try.underlying5 h
    have hb := bounds_u8 hw
    refine ⟨UInt8.ofNat i.toNat, ?_, ⟨rfl, fun u hu => by simp at hu; subst hu; rfl⟩, fun _ _ => trivial⟩
    unfold bv
    have e : ((UInt8.ofNat i.toNat).toNat : Int) = i := by rw [UInt8.toNat_ofNat']; omega
    rw [e]) hf
  have hr := rd_of_rws (rws_hmap (fun z => [bv z]) h3 h2 h4)
  obtain ⟨a, c, rfl⟩ := zrd_form hr
  exact ⟨a, c, l, h1, hr, fun K hK => (h7 K hK).2⟩
theorem owner_in {m : Nat} {cs : List Value} {y : DataW H × List MemPlace} (h : DataW.trod enc Try.prog W 0 (fun _ => true) true m 86 cs = some y) :
    ∃ o : Ow, OwN W cs o ∧ (cs.length = 2 ∧ ∀ u ∈ cs, u.oneCell' = true) ∧ ∀ K, (∀ k ∈ y.1.weights Try.prog 86, k ≤ K) → o.f.length ≤ K := by
  have hcv : Try.prog.cellsOf 86 = 2 := by kernel_rfl
  obtain ⟨xs, n', rfl, rfl, hlen, hxl, hfd⟩ := DataW.trod_struct Try.underlying86 h
  rw [hcv] at hlen
  match cs, hlen, xs, hxl with
  | [c0, c1], _, [y0, y1], _ =>
    have t0 := part (k := 1) (t := 3) (cs' := [c0]) (by kernel_rfl) (hfd 0 _ rfl) rfl
    have t1 := part (k := 1) (t := 62) (cs' := [c1]) (by kernel_rfl) (hfd 1 _ rfl) rfl
    obtain ⟨i0, e0, f0, g0⟩ := DataW.trod_int Try.underlying3 t0
    obtain ⟨a, c, l, e1, r1, k1⟩ := bytes_in t1
    cases e0; cases e1
    refine ⟨⟨i0, l⟩, ⟨a, c, rfl, r1⟩, ⟨rfl, fun u hu => by simp only [List.mem_cons, List.not_mem_nil, or_false] at hu; rcases hu with rfl | rfl <;> rfl⟩, fun K hK => ?_⟩
    exact k1 K (fun k9 h9 => hK _ (by simp only [DataW.weights, Try.underlying86]; exact DataW.weights_mem_each (j := 1) rfl rfl _ h9))
theorem owners_in {f : Nat} {cs : List Value} {y : DataW H × List MemPlace} (hf : DataW.trod enc Try.prog W 0 (fun _ => true) true f 61 cs = some y) :
    ∃ (ao : Option Addr) (c : Nat) (l : List Ow), cs = [.slice ao l.length c] ∧ OwsN W (.slice ao l.length c) l ∧ ∀ K, (∀ k ∈ y.1.weights Try.prog 61, k ≤ K) → (∀ o ∈ l, o.f.length ≤ K) ∧ l.length ≤ K := by
  letI : Inhabited Ow := ⟨⟨0, []⟩⟩
  obtain ⟨x, M, l, h1, h2, h3, h4, h5, h6, h7⟩ := list_in (enc := enc) (W := W) (fun r (o : Ow) => OwN W r o) (fun o K => o.f.length ≤ K) 2 61 86 Try.underlying61 (by kernel_rfl) (by decide) (by decide +kernel) (fun m cs y h => owner_in h) hf
  obtain ⟨ao, c, rfl, -⟩ := h3.form
  rw [h2] at h1 h3
  exact ⟨ao, c, l, h1, ⟨M, h2, h3, h4⟩, h7⟩
/-- What a routes' parameter is. -/
def RouO (W : World) (v : Value) (R : Rou) : Prop :=
  ∃ ao c b d, v = .agg #[.int .i64 R.ep, .int .i64 R.base, .slice ao R.sp.length c, .int .i64 R.mv, .slice b R.cut.length d] ∧ OwsN W (.slice ao R.sp.length c) R.sp ∧ Rd W (.slice b R.cut.length d) R.cut ∧ i64 R.ep ∧ i64 R.base ∧ i64 R.mv ∧ (∀ o ∈ R.sp, o.f.length ≤ 140737488355328) ∧ R.sp.length ≤ 140737488355328 ∧ R.cut.length ≤ 140737488355328
theorem routes_open {base : Nat} {v : Value} {d : DataW H} {p : List MemPlace} (hw : Value.okWide Try.prog W .any base 64 v) (h : DataW.Trod enc Try.prog W 0 (fun _ => true) true 64 v d p) (hk : ∀ k ∈ d.weights Try.prog 64, k ≤ reachBytes) :
    ∃ R : Rou, RouO W v R := by
  unfold Value.okWide at hw
  rw [Try.underlying64] at hw
  obtain ⟨cs, rfl, hsz, -⟩ := hw
  obtain ⟨fuel, hf⟩ := h
  have hf1 : DataW.trod enc Try.prog W 0 (fun _ => true) true fuel 64 cs.toList = some (d, p) := hf
  have hcv : Try.prog.cellsOf 64 = 5 := by kernel_rfl
  obtain ⟨xs, n', rfl, he, hlen, hxl, hfd⟩ := DataW.trod_struct Try.underlying64 hf1
  rw [hcv] at hlen
  obtain ⟨l, hl⟩ : ∃ l, cs.toList = l := ⟨_, rfl⟩
  have hcs : cs = l.toArray := by rw [← hl]
  rw [hl] at hlen hfd
  subst hcs
  have hK : reachBytes ≤ 140737488355328 := by decide
  match l, hlen, xs, hxl with
  | [c0, c1, c2, c3, c4], _, [y0, y1, y2, y3, y4], _ =>
    have he1 : d = _ := congrArg Prod.fst he
    have t0 := part (k := 1) (t := 3) (cs' := [c0]) (by kernel_rfl) (hfd 0 _ rfl) rfl
    have t1 := part (k := 1) (t := 3) (cs' := [c1]) (by kernel_rfl) (hfd 1 _ rfl) rfl
    have t2 := part (k := 1) (t := 61) (cs' := [c2]) (by kernel_rfl) (hfd 2 _ rfl) rfl
    have t3 := part (k := 1) (t := 3) (cs' := [c3]) (by kernel_rfl) (hfd 3 _ rfl) rfl
    have t4 := part (k := 1) (t := 62) (cs' := [c4]) (by kernel_rfl) (hfd 4 _ rfl) rfl
    obtain ⟨i0, e0, f0, g0⟩ := DataW.trod_int Try.underlying3 t0
    obtain ⟨i1, e1, f1, g1⟩ := DataW.trod_int Try.underlying3 t1
    obtain ⟨ao, c, L, e2, r2, k2⟩ := owners_in t2
    obtain ⟨i3, e3, f3, g3⟩ := DataW.trod_int Try.underlying3 t3
    obtain ⟨b, d4, cut, e4, r4, k4⟩ := bytes_in t4
    cases e0; cases e1; cases e2; cases e3; cases e4
    rw [he1] at hk
    have w2 := k2 reachBytes (fun k9 h9 => hk _ (by simp only [DataW.weights, Try.underlying64]; exact DataW.weights_mem_each (j := 2) rfl rfl _ h9))
    have w4 := k4 reachBytes (fun k9 h9 => hk _ (by simp only [DataW.weights, Try.underlying64]; exact DataW.weights_mem_each (j := 4) rfl rfl _ h9))
    exact ⟨⟨i0, i1, L, i3, cut⟩, ao, c, b, d4, rfl, r2, r4, i64_in g0, i64_in g1, i64_in g3, fun o ho => Nat.le_trans (w2.1 o ho) hK, Nat.le_trans w2.2 hK, Nat.le_trans w4 hK⟩
theorem hbytes_open {base : Nat} {v : Value} {d : DataW H} {p : List MemPlace} (hw : Value.okWide Try.prog W .any base 62 v) (h : DataW.Trod enc Try.prog W 0 (fun _ => true) true 62 v d p) (hk : ∀ k ∈ d.weights Try.prog 62, k ≤ reachBytes) :
    ∃ (a : Option Addr) (c : Nat) (l : List UInt8), v = .slice a l.length c ∧ Rd W (.slice a l.length c) l ∧ l.length ≤ 140737488355328 := by
  unfold Value.okWide at hw
  rw [Try.underlying62] at hw
  obtain ⟨a0, n0, c0, rfl⟩ : ∃ a0 n0 c0, v = .slice a0 n0 c0 := by
    cases v <;> first | exact ⟨_, _, _, rfl⟩ | (exfalso; revert hw; simp [Cell.okWide, Cell.ok, Try.underlying62])
  obtain ⟨fuel, hf⟩ := h
  have hf1 : DataW.trod enc Try.prog W 0 (fun _ => true) true fuel 62 [.slice a0 n0 c0] = some (d, p) := hf
  obtain ⟨a, c, l, e, hr, hb⟩ := bytes_in hf1
  cases e
  exact ⟨_, _, l, rfl, hr, Nat.le_trans (hb reachBytes hk) (by decide)⟩
end
end Go.Proofs.Ythckgokkjlnknaa

set_option linter.unusedVariables false
set_option linter.unusedSimpArgs false
set_option maxRecDepth 100000
namespace Go.Proofs.Ythckgokkjlnknaa
open Go.RowKit Go.Deep

/-- Where the keys behind a place begin. -/
def atL (L : List Ow) (k : Nat) : List UInt8 := match L[k]? with
  | some o => o.f
  | none => [121]
theorem toL_eq (L : List Ow) (k : Nat) : toL L k = atL L (k + 1) := rfl
theorem atL_lt {L : List Ow} {k : Nat} {o : Ow} (h : L[k]? = some o) : atL L k = o.f := by unfold atL; rw [h]
theorem atL_ge {L : List Ow} {k : Nat} (h : L.length ≤ k) : atL L k = [121] := by unfold atL; rw [List.getElem?_eq_none h]

structure RtOk (R : Rou) : Prop where
  ep : 0 ≤ R.ep
  bf : bfB R.base = true
  len1 : 1 ≤ R.sp.length
  len4 : R.sp.length ≤ 4
  first : atL R.sp 0 = [120]
  grp : ∀ (k : Nat) o, R.sp[k]? = some o → R.base < o.g ∧ o.g ≤ R.base + 4 ∧ plcI R.sp o.g = (k : Int)
  beg : ∀ (k : Nat) o, R.sp[k]? = some o → begB o.f 120 = true ∧ o.f.length ≤ 600 ∧ 1 ≤ o.f.length
  rise : ∀ (k : Nat) o, R.sp[k]? = some o → Op.bytesLess o.f (atL R.sp (k + 1)) = true

theorem allOk_at {R : Rou} : ∀ (n : Nat), allOk R n = true → ∀ (k : Nat) o, k < n → R.sp[k]? = some o → okOw R k o = true
  | 0, _, k, o, hk, _ => by omega
  | n + 1, h, k, o, hk, ho => by
    have h2 : (allOk R n && (match R.sp[n]? with | some o => okOw R n o | none => true)) = true := h
    rw [Bool.and_eq_true] at h2
    rcases Nat.lt_or_ge k n with hlt | hge
    · exact allOk_at n h2.1 k o hlt ho
    · obtain rfl : k = n := by omega
      have h3 := h2.2
      rw [ho] at h3
      exact h3
theorem beg_less {l : List UInt8} (h : begB l 120 = true) : Op.bytesLess l [121] = true := by
  cases l with
  | nil => cases h
  | cons q l =>
    have hq : ((q.toNat : Int) == 120) = true := h
    have hq2 : q.toNat = 120 := by have h9 : (q.toNat : Int) = 120 := by simpa using hq
                                   omega
    have hq3 : q = 120 := UInt8.toNat_inj.1 (by rw [hq2]; rfl)
    subst hq3
    rw [lt_less]
    exact cb_lt (by decide) l []
theorem right_ok {R : Rou} (h : rightB R = true) : RtOk R := by
  unfold rightB at h
  simp only [Bool.and_eq_true, Bool.not_eq_true', decide_eq_false_iff_not, Int.not_lt, gt_iff_lt, Nat.not_lt] at h
  obtain ⟨h1, h2, h3, h4, h5, h6, h7, h8⟩ := h
  obtain ⟨o0, ho0⟩ : ∃ o0, R.sp[0]? = some o0 := ⟨_, List.getElem?_eq_getElem (by omega)⟩
  rw [ho0] at h6
  have h60 : o0.f = [120] := by simpa using h6
  have hok : ∀ (k : Nat) o, R.sp[k]? = some o → okOw R k o = true := fun k o hk => allOk_at _ h7 k o (List.getElem?_eq_some_iff.1 hk).1 hk
  have hun : ∀ (k : Nat) o, R.sp[k]? = some o → R.base < o.g ∧ o.g ≤ R.base + 4 ∧ plcI R.sp o.g = (k : Int) ∧ 1 ≤ o.f.length ∧ begB o.f 120 = true ∧ o.f.length ≤ 600 ∧ prevB R.sp k o.f = true := fun k o hk => by
    have h := hok k o hk
    unfold okOw at h
    simp only [Bool.and_eq_true, Bool.not_eq_true', decide_eq_false_iff_not, Int.not_lt, gt_iff_lt, Nat.not_lt, Int.not_le, decide_eq_true_eq] at h
    exact ⟨by omega, by omega, h.2.2.1, by omega, h.2.2.2.2.1, by omega, h.2.2.2.2.2.2⟩
  refine ⟨h1, by unfold bfB; simp; omega, h4, h5, by rw [atL_lt ho0, h60], fun k o hk => ⟨(hun k o hk).1, (hun k o hk).2.1, (hun k o hk).2.2.1⟩, fun k o hk => ⟨(hun k o hk).2.2.2.2.1, (hun k o hk).2.2.2.2.2.1, (hun k o hk).2.2.2.1⟩, fun k o hk => ?_⟩
  rcases Nat.lt_or_ge (k + 1) R.sp.length with hlt | hge
  · obtain ⟨o2, ho2⟩ : ∃ o2, R.sp[k + 1]? = some o2 := ⟨_, List.getElem?_eq_getElem hlt⟩
    rw [atL_lt ho2]
    have h9 := (hun (k + 1) o2 ho2).2.2.2.2.2.2
    have h10 : (match R.sp[k]? with | some p => Op.bytesLess p.f o2.f | none => true) = true := h9
    rw [hk] at h10
    exact h10
  · rw [atL_ge hge]
    exact beg_less (hun k o hk).2.2.2.2.1
theorem RtOk.lens {R : Rou} (h : RtOk R) : ∀ o ∈ R.sp, o.f.length ≤ 1000 := fun o ho => by
  obtain ⟨k, hk⟩ := List.getElem?_of_mem ho
  have := (h.beg k o hk).2.1
  omega
theorem RtOk.noplace {R : Rou} (h : RtOk R) {z : Int} (hz : z ≤ R.base) : plcI R.sp z = -1 := by
  refine fidx_no ?_
  rw [List.any_eq_false]
  intro o ho hq
  obtain ⟨k, hk⟩ := List.getElem?_of_mem ho
  have := (h.grp k o hk).1
  have h2 : o.g = z := by simpa using hq
  omega
end Go.Proofs.Ythckgokkjlnknaa

set_option linter.unusedVariables false
set_option linter.unusedSimpArgs false
set_option maxRecDepth 100000
namespace Go.Proofs.Ythckgokkjlnknaa
open Go.RowKit Go.Deep

theorem RtOk.base {R : Rou} (h : RtOk R) : 1 ≤ R.base ∧ R.base ≤ 4 := by have := h.bf; unfold bfB at this; simpa using this
theorem part_base {w : World} {R : Rou} {ao b : Option Addr} {c d : Nat} (h : RtOk R) (hr : OwsN w (.slice ao R.sp.length c) R.sp) {z : Int} (h1 : 1 ≤ z) (h2 : z ≤ R.base) :
    Calls Try.prog 43 #[.agg #[.int .i64 R.ep, .int .i64 R.base, .slice ao R.sp.length c, .int .i64 R.mv, .slice b R.cut.length d], .int .i64 z, .agg #[.slice none 0 0, .slice none 0 0]] w (PtA w [114] [115] true) := by
  have hi : isB R z = true := by unfold isB; rw [h.bf]; simp; omega
  exact part_any (F1 := []) (T1 := []) (a1 := none) (a2 := none) (c1 := 0) (c2 := 0) (F2 := [114]) (T2 := [115]) h.bf hr h.lens (Rd.nil _) (Rd.nil _) (by simp) (by simp) (.inl ⟨hi, rfl, rfl, h.noplace h2⟩)
theorem beg_more {l : List UInt8} (h : begB l 120 = true) : Op.bytesLess l [115] = false ∧ Op.bytesLess l [114] = false := by
  cases l with
  | nil => cases h
  | cons q l =>
    have hq : ((q.toNat : Int) == 120) = true := h
    have hq2 : q.toNat = 120 := by have h9 : (q.toNat : Int) = 120 := by simpa using hq
                                   omega
    have hq3 : q = 120 := UInt8.toNat_inj.1 (by rw [hq2]; rfl)
    subst hq3
    have e1 := cb_gt (a := 120) (b := 115) (by decide) l []
    have e2 := cb_gt (a := 120) (b := 114) (by decide) l []
    rw [less_eq, less_eq, e1, e2]
    exact ⟨by decide, by decide⟩
theorem not_less_trans {a b c : List UInt8} (h : Op.bytesLess a b = false) (k : Op.bytesLess a c = true) : Op.bytesLess b c = true := lt_less.2 (lt_of_not' (less_lt.1 h) (lt_less.1 k))
theorem row_meets {F T : List UInt8} (hF : begB F 120 = true) (hT : Op.bytesLess F T = true) : meetB [114] [115] F T = false := by
  obtain ⟨h1, h2⟩ := beg_more hF
  have h3 : Op.bytesLess [115] T = true := not_less_trans h1 hT
  unfold meetB bothF bothT
  rw [h2, h3]
  exact h1
theorem met_rows {R : Rou} (h : RtOk R) : ∀ n, n ≤ R.sp.length → metL R.sp [114] [115] n = []
  | 0, _ => rfl
  | n + 1, hn => by
    obtain ⟨o, ho⟩ : ∃ o, R.sp[n]? = some o := ⟨_, List.getElem?_eq_getElem (by omega)⟩
    rw [met_step ho, met_rows h n (by omega), row_meets (h.beg n o ho).1 (by rw [toL_eq]; exact h.rise n o ho)]
    rfl
theorem over_rows {R : Rou} (h : RtOk R) : overL R [114] [115] = basesL R.base.toNat := by
  have e : meetB [114] [115] [114] [115] = true := by decide
  unfold overL
  rw [e, met_rows h _ (Nat.le_refl _)]
  simp
theorem base_in {R : Rou} (h : RtOk R) (l : List UInt8) : 1 ≤ baseI R.base l ∧ baseI R.base l ≤ R.base := by
  have hb := h.base
  have h0 := hash_in l
  unfold baseI
  have h1 := Int.emod_nonneg (hashI l) (show R.base ≠ 0 by omega)
  have h2 := Int.emod_lt_of_pos (hashI l) (show 0 < R.base by omega)
  omega
end Go.Proofs.Ythckgokkjlnknaa

