import Derived.Deep.CutRange
import Derived.WalkKit
import Derived.OpenShut
import Derived.Test.YtddnleofflobhaaGreatDoorRows
import Derived.WalkSpells
import Derived.WalkLawsBesides
import Derived.Laws.AppendOwnNone
import Derived.BigQuiet
import Derived.Deep.QuietTactic
import Derived.Deep.MidRow
import Derived.Laws.MakeOwn
import Derived.Deep.CutBlock
import Derived.Sort.CutIn
import Derived.RangeFuncNested
import Derived.RangeFuncBound
import Derived.RangeFuncCalls
import Derived.RangeFuncLeaves
import Derived.RangeFuncBox
import Derived.Shelf.Abstract
import Derived.Shelf.RegionOpen
import Derived.OwnWalkIn
import Derived.TacticsInMore
import Derived.LoopNIn
import Derived.LoopIn
import Derived.OrdersIn
import Derived.LaidEql
import Derived.Stop.Asserts
import Derived.RowKitTokens
import Derived.Lib.Bytes
import Derived.Deep.RegionHeld3
import Derived.Deep.WholeRow
import Derived.BigRegion
import Derived.Great.BuildSlice
import Derived.Deep.AppendLies
import Derived.StillTailTactics
import Derived.Deep.RegionLaw
import Derived.Great.FillDense
import Derived.Laws.Tables
import Derived.LoopN
import Derived.Deep.OwnRows
import Derived.OwnWalk
import Derived.Deep.Slices
import Derived.Lib.AppendZeros
import Derived.Deep.LoopGhost
import Derived.Deep.RegionWith
import Derived.ArgAppend
import Derived.Lib.SliceRun
import Derived.Deep.RegionHeldLaw
import Derived.ProofKit
import Derived.Deep.Matrix
import Derived.Deep.Grids
import Derived.Test.YtddnleofflobhaaGreatDoorVG1
import Derived.Test.YtddnleofflobhaaGreatDoorVG2
import Derived.Test.YtddnleofflobhaaGreatDoorVG3
import Derived.Test.YtddnleofflobhaaGreatDoorVG4
import Derived.Test.YtddnleofflobhaaGreatDoorVG5
import Derived.Test.YtddnleofflobhaaGreatDoorVG6
import Derived.Test.YtddnleofflobhaaGreatDoorVG7
import Derived.Test.YtddnleofflobhaaGreatDoorVG8
import Derived.Test.YtddnleofflobhaaGreatDoorVG9
import Derived.Test.YtddnleofflobhaaGreatDoorVG10
import Derived.Test.YtddnleofflobhaaGreatDoorVG11
import Derived.Test.YtddnleofflobhaaGreatDoorVG12
import Derived.Test.YtddnleofflobhaaGreatDoorVG13
import Derived.Test.YtddnleofflobhaaGreatDoorVG14
import Derived.Test.YtddnleofflobhaaGreatDoorVG15
import Derived.Test.YtddnleofflobhaaGreatDoorVG16
import Derived.Test.YtddnleofflobhaaGreatDoorVG17
import Derived.Test.YtddnleofflobhaaGreatDoorVG18
import Derived.Test.YtddnleofflobhaaGreatDoorVG19
import Derived.Test.YtddnleofflobhaaGreatDoorVG20
set_option linter.unusedVariables false
set_option linter.unusedSimpArgs false
set_option linter.unusedVariables false
set_option linter.unusedSimpArgs false
set_option maxRecDepth 100000
namespace Go.Proofs.YtddnleofflobhaaGreatDoor
open Go.RowKit Go.Deep

/-- A record of a whole difference. -/
def recV (k : Nat) (d : List UInt8) : List UInt8 := textL [118, 97, 117, 108, 116] ++ (numL k ++ (numL 0 ++ textL d))
/-- What records comes to, where one is enough. -/
def VRecA (k : Nat) (d : List UInt8) (w : World) (en : Ending) (w' : World) : Prop :=
  ∃ (lo : Option Addr) (lc : Nat) (r0 : Rc), en = .returned (.slice lo 1 lc) ∧ r0.b = recV k d ∧ Bss w' (.slice lo 1 lc) [r0] ∧ Below w.heap.size w w' ∧ (∀ j, blk (.slice lo 1 lc) = some j → w.heap.size ≤ j) ∧ ∀ a, r0.a = some a → w.heap.size ≤ a.block
/-- That it is so. -/
def RecsOk : Prop := ∀ (k : Nat) (ao : Option Addr) (c : Nat) (d : List UInt8) (W : World), k ≤ 2 → Rd W (.slice ao d.length c) d → 1 ≤ d.length → d.length ≤ 32752 → Calls Tryz.prog 70 #[.int .i64 (k : Int), .slice ao d.length c] W (VRecA k d W)

section
variable {base : Nat} {w w' : World} {vb lb db sb n t q T m third used : Nat} {vw rv vw' rv' : Value} {R : List Rc} {l0 l : Lo}
/-- What a put comes to. -/
def VPut (base vb lb db sb n : Nat) (vw rv : Value) (R : List Rc) (t T third used : Nat) (l : PL) (x : List UInt8) (w w' : World) : Prop :=
  ∃ vw' rv' r l', r.b = x ∧ l'.pl = l ∧ Vt base w' vb lb db sb n vw' rv' (R ++ [r]) (t + 1) 0 (T + secs x.length) (R ++ [r]).length third (used + cntN x.length) l' ∧ Keep (fun k => GL db sb vw lb rv k ∨ k = vb) w w' ∧ ∀ k, GL db sb vw' lb rv' k → GL db sb vw lb rv k ∨ w.heap.size ≤ k

theorem six_put {V : World} {g : Nat} {l' : Lo} (h : V.heap[g]? = some (.cells #[.pointer (some ⟨lb, 0, none⟩), .int .i64 (third : Int), .int .u64 (l0.ht : Int), .int .i64 l0.hv, .int .u64 (l0.si : Int), .int .u64 (l0.st : Int), .slice l0.sd.a l0.sd.b.length l0.sd.c, .slice l0.eo l0.es.length l0.ec, .int .u64 0, .int .i64 (used : Int), .slice none 0 0, .bool false] 81 (0, 0))) :
    ((((((V.setCell ⟨g, 2, none⟩ (.int .u64 (l'.ht : Int))).setCell ⟨g, 3, none⟩ (.int .i64 l'.hv)).setCell ⟨g, 4, none⟩ (.int .u64 (l'.si : Int))).setCell ⟨g, 5, none⟩ (.int .u64 (l'.st : Int))).setCell ⟨g, 6, none⟩ (.slice l'.sd.a l'.sd.b.length l'.sd.c)).setCell ⟨g, 7, none⟩ (.slice l'.eo l'.es.length l'.ec)).heap[g]? = some (.cells #[.pointer (some ⟨lb, 0, none⟩), .int .i64 (third : Int), .int .u64 (l'.ht : Int), .int .i64 l'.hv, .int .u64 (l'.si : Int), .int .u64 (l'.st : Int), .slice l'.sd.a l'.sd.b.length l'.sd.c, .slice l'.eo l'.es.length l'.ec, .int .u64 0, .int .i64 (used : Int), .slice none 0 0, .bool false] 81 (0, 0)) ∧
    Keep (fun j => j = g) V ((((((V.setCell ⟨g, 2, none⟩ (.int .u64 (l'.ht : Int))).setCell ⟨g, 3, none⟩ (.int .i64 l'.hv)).setCell ⟨g, 4, none⟩ (.int .u64 (l'.si : Int))).setCell ⟨g, 5, none⟩ (.int .u64 (l'.st : Int))).setCell ⟨g, 6, none⟩ (.slice l'.sd.a l'.sd.b.length l'.sd.c)).setCell ⟨g, 7, none⟩ (.slice l'.eo l'.es.length l'.ec)) := by
  have q2 : (V.setCell ⟨g, 2, none⟩ (.int .u64 (l'.ht : Int))).heap[g]? = some (.cells #[.pointer (some ⟨lb, 0, none⟩), .int .i64 (third : Int), .int .u64 (l'.ht : Int), .int .i64 l0.hv, .int .u64 (l0.si : Int), .int .u64 (l0.st : Int), .slice l0.sd.a l0.sd.b.length l0.sd.c, .slice l0.eo l0.es.length l0.ec, .int .u64 0, .int .i64 (used : Int), .slice none 0 0, .bool false] 81 (0, 0)) := set_at (k := 2) (.int .u64 (l'.ht : Int)) h
  have k2 : Keep (fun j => j = g) V (V.setCell ⟨g, 2, none⟩ (.int .u64 (l'.ht : Int))) := Keep.set (X := fun j => j = g) V ⟨g, 2, none⟩ (.int .u64 (l'.ht : Int)) rfl
  have q3 : ((V.setCell ⟨g, 2, none⟩ (.int .u64 (l'.ht : Int))).setCell ⟨g, 3, none⟩ (.int .i64 l'.hv)).heap[g]? = some (.cells #[.pointer (some ⟨lb, 0, none⟩), .int .i64 (third : Int), .int .u64 (l'.ht : Int), .int .i64 l'.hv, .int .u64 (l0.si : Int), .int .u64 (l0.st : Int), .slice l0.sd.a l0.sd.b.length l0.sd.c, .slice l0.eo l0.es.length l0.ec, .int .u64 0, .int .i64 (used : Int), .slice none 0 0, .bool false] 81 (0, 0)) := set_at (k := 3) (.int .i64 l'.hv) q2
  have k3 : Keep (fun j => j = g) V ((V.setCell ⟨g, 2, none⟩ (.int .u64 (l'.ht : Int))).setCell ⟨g, 3, none⟩ (.int .i64 l'.hv)) := k2.trans (Keep.set (X := fun j => j = g) (V.setCell ⟨g, 2, none⟩ (.int .u64 (l'.ht : Int))) ⟨g, 3, none⟩ (.int .i64 l'.hv) rfl)
  have q4 : (((V.setCell ⟨g, 2, none⟩ (.int .u64 (l'.ht : Int))).setCell ⟨g, 3, none⟩ (.int .i64 l'.hv)).setCell ⟨g, 4, none⟩ (.int .u64 (l'.si : Int))).heap[g]? = some (.cells #[.pointer (some ⟨lb, 0, none⟩), .int .i64 (third : Int), .int .u64 (l'.ht : Int), .int .i64 l'.hv, .int .u64 (l'.si : Int), .int .u64 (l0.st : Int), .slice l0.sd.a l0.sd.b.length l0.sd.c, .slice l0.eo l0.es.length l0.ec, .int .u64 0, .int .i64 (used : Int), .slice none 0 0, .bool false] 81 (0, 0)) := set_at (k := 4) (.int .u64 (l'.si : Int)) q3
  have k4 : Keep (fun j => j = g) V (((V.setCell ⟨g, 2, none⟩ (.int .u64 (l'.ht : Int))).setCell ⟨g, 3, none⟩ (.int .i64 l'.hv)).setCell ⟨g, 4, none⟩ (.int .u64 (l'.si : Int))) := k3.trans (Keep.set (X := fun j => j = g) ((V.setCell ⟨g, 2, none⟩ (.int .u64 (l'.ht : Int))).setCell ⟨g, 3, none⟩ (.int .i64 l'.hv)) ⟨g, 4, none⟩ (.int .u64 (l'.si : Int)) rfl)
  have q5 : ((((V.setCell ⟨g, 2, none⟩ (.int .u64 (l'.ht : Int))).setCell ⟨g, 3, none⟩ (.int .i64 l'.hv)).setCell ⟨g, 4, none⟩ (.int .u64 (l'.si : Int))).setCell ⟨g, 5, none⟩ (.int .u64 (l'.st : Int))).heap[g]? = some (.cells #[.pointer (some ⟨lb, 0, none⟩), .int .i64 (third : Int), .int .u64 (l'.ht : Int), .int .i64 l'.hv, .int .u64 (l'.si : Int), .int .u64 (l'.st : Int), .slice l0.sd.a l0.sd.b.length l0.sd.c, .slice l0.eo l0.es.length l0.ec, .int .u64 0, .int .i64 (used : Int), .slice none 0 0, .bool false] 81 (0, 0)) := set_at (k := 5) (.int .u64 (l'.st : Int)) q4
  have k5 : Keep (fun j => j = g) V ((((V.setCell ⟨g, 2, none⟩ (.int .u64 (l'.ht : Int))).setCell ⟨g, 3, none⟩ (.int .i64 l'.hv)).setCell ⟨g, 4, none⟩ (.int .u64 (l'.si : Int))).setCell ⟨g, 5, none⟩ (.int .u64 (l'.st : Int))) := k4.trans (Keep.set (X := fun j => j = g) (((V.setCell ⟨g, 2, none⟩ (.int .u64 (l'.ht : Int))).setCell ⟨g, 3, none⟩ (.int .i64 l'.hv)).setCell ⟨g, 4, none⟩ (.int .u64 (l'.si : Int))) ⟨g, 5, none⟩ (.int .u64 (l'.st : Int)) rfl)
  have q6 : (((((V.setCell ⟨g, 2, none⟩ (.int .u64 (l'.ht : Int))).setCell ⟨g, 3, none⟩ (.int .i64 l'.hv)).setCell ⟨g, 4, none⟩ (.int .u64 (l'.si : Int))).setCell ⟨g, 5, none⟩ (.int .u64 (l'.st : Int))).setCell ⟨g, 6, none⟩ (.slice l'.sd.a l'.sd.b.length l'.sd.c)).heap[g]? = some (.cells #[.pointer (some ⟨lb, 0, none⟩), .int .i64 (third : Int), .int .u64 (l'.ht : Int), .int .i64 l'.hv, .int .u64 (l'.si : Int), .int .u64 (l'.st : Int), .slice l'.sd.a l'.sd.b.length l'.sd.c, .slice l0.eo l0.es.length l0.ec, .int .u64 0, .int .i64 (used : Int), .slice none 0 0, .bool false] 81 (0, 0)) := set_at (k := 6) (.slice l'.sd.a l'.sd.b.length l'.sd.c) q5
  have k6 : Keep (fun j => j = g) V (((((V.setCell ⟨g, 2, none⟩ (.int .u64 (l'.ht : Int))).setCell ⟨g, 3, none⟩ (.int .i64 l'.hv)).setCell ⟨g, 4, none⟩ (.int .u64 (l'.si : Int))).setCell ⟨g, 5, none⟩ (.int .u64 (l'.st : Int))).setCell ⟨g, 6, none⟩ (.slice l'.sd.a l'.sd.b.length l'.sd.c)) := k5.trans (Keep.set (X := fun j => j = g) ((((V.setCell ⟨g, 2, none⟩ (.int .u64 (l'.ht : Int))).setCell ⟨g, 3, none⟩ (.int .i64 l'.hv)).setCell ⟨g, 4, none⟩ (.int .u64 (l'.si : Int))).setCell ⟨g, 5, none⟩ (.int .u64 (l'.st : Int))) ⟨g, 6, none⟩ (.slice l'.sd.a l'.sd.b.length l'.sd.c) rfl)
  have q7 : ((((((V.setCell ⟨g, 2, none⟩ (.int .u64 (l'.ht : Int))).setCell ⟨g, 3, none⟩ (.int .i64 l'.hv)).setCell ⟨g, 4, none⟩ (.int .u64 (l'.si : Int))).setCell ⟨g, 5, none⟩ (.int .u64 (l'.st : Int))).setCell ⟨g, 6, none⟩ (.slice l'.sd.a l'.sd.b.length l'.sd.c)).setCell ⟨g, 7, none⟩ (.slice l'.eo l'.es.length l'.ec)).heap[g]? = some (.cells #[.pointer (some ⟨lb, 0, none⟩), .int .i64 (third : Int), .int .u64 (l'.ht : Int), .int .i64 l'.hv, .int .u64 (l'.si : Int), .int .u64 (l'.st : Int), .slice l'.sd.a l'.sd.b.length l'.sd.c, .slice l'.eo l'.es.length l'.ec, .int .u64 0, .int .i64 (used : Int), .slice none 0 0, .bool false] 81 (0, 0)) := set_at (k := 7) (.slice l'.eo l'.es.length l'.ec) q6
  have k7 : Keep (fun j => j = g) V ((((((V.setCell ⟨g, 2, none⟩ (.int .u64 (l'.ht : Int))).setCell ⟨g, 3, none⟩ (.int .i64 l'.hv)).setCell ⟨g, 4, none⟩ (.int .u64 (l'.si : Int))).setCell ⟨g, 5, none⟩ (.int .u64 (l'.st : Int))).setCell ⟨g, 6, none⟩ (.slice l'.sd.a l'.sd.b.length l'.sd.c)).setCell ⟨g, 7, none⟩ (.slice l'.eo l'.es.length l'.ec)) := k6.trans (Keep.set (X := fun j => j = g) (((((V.setCell ⟨g, 2, none⟩ (.int .u64 (l'.ht : Int))).setCell ⟨g, 3, none⟩ (.int .i64 l'.hv)).setCell ⟨g, 4, none⟩ (.int .u64 (l'.si : Int))).setCell ⟨g, 5, none⟩ (.int .u64 (l'.st : Int))).setCell ⟨g, 6, none⟩ (.slice l'.sd.a l'.sd.b.length l'.sd.c)) ⟨g, 7, none⟩ (.slice l'.eo l'.es.length l'.ec) rfl)
  exact ⟨q7, k7⟩

set_option maxHeartbeats 16000000 in
theorem vput1_any (hrec : RecsOk) (h : Vt base w vb lb db sb n vw rv R t q T m third used l0) (hl : LoAt w l) (hloff : LoOff l (GL db sb vw lb rv)) (hlov : LoOff l (fun k => k = vb)) (hne : l0.pl ≠ l.pl) (hr : rightP l.pl = true) (hlong : longP l.pl ≤ 1000000000000) (hroom : cntsN (longP l.pl) ≤ third)
    (hd1 : 1 ≤ (diffB l0.pl l.pl).length ∧ (diffB l0.pl l.pl).length ≤ 32752) (hu2 : used + cntsN (diffB l0.pl l.pl).length ≤ 2 * third) (hn : 3 ≤ n) (ht : t < 1000000000) (hT : T + secs (recV 1 (diffB l0.pl l.pl)).length < n - 2) (hrl : (recV 1 (diffB l0.pl l.pl)).length ≤ 32768) (hR : R.length + 1 ≤ 1000000) (hu : used ≤ 1000000) (hth : third ≤ 65536) :
    Calls Tryz.prog 43 #[.pointer (some ⟨vb, 0, none⟩), l.v] w (fun e w' => e = .returned .nilIface ∧ VPut base vb lb db sb n vw rv R t T third used l.pl (recV 1 (diffB l0.pl l.pl)) w w') := by
  have hb : Below w.heap.size w (w.alloc (.cells #[.int .u64 (l.ht : Int), .int .i64 l.hv, .int .u64 (l.si : Int), .int .u64 (l.st : Int), .slice l.sd.a l.sd.b.length l.sd.c, .slice l.eo l.es.length l.ec] 30)) := (Below.refl _ _).alloc (Nat.le_refl _) _
  have h0 := heap_alloc_new w (.cells #[.int .u64 (l.ht : Int), .int .i64 l.hv, .int .u64 (l.si : Int), .int .u64 (l.st : Int), .slice l.sd.a l.sd.b.length l.sd.c, .slice l.eo l.es.length l.ec] 30)
  have HV := hid h
  have HL := hid hl
  have HLF := hid hloff
  have HLV := hid hlov
  have HREC := hid hrec
  have HVB := hid (lt_of_block h.v)
  have HRB : Hid (∀ k, GL db sb vw lb rv k → k < w.heap.size) := hid fun k hk => by
    obtain ⟨S, Q, L, m', h9, -⟩ := h.log
    exact (h9.g.lt k hk).2
  obtain ⟨D, hD⟩ : ∃ D, D = diffB l0.pl l.pl := ⟨_, rfl⟩
  have HDD := hid hD
  rw [← hD] at hd1 hu2 hT hrl ⊢
  simp only [Lo.v]
  clear h hl hD hloff hlov hrec
  go_enter Tryz.func43, Tryz.ntmps43
  go_upto_region 1 with fail
  generalize w.alloc (.cells #[.int .u64 (l.ht : Int), .int .i64 l.hv, .int .u64 (l.si : Int), .int .u64 (l.st : Int), .slice l.sd.a l.sd.b.length l.sd.c, .slice l.eo l.es.length l.ec] 30) = w1 at *
  have HB := hid hb
  have H0 := hid h0
  have CCut := hid (vcut_any (HV.out.old hb) (by omega))
  clear hb h0
  go_upto_region 4 with (first | (go_at_call 63; refine CCut.out.mono ?_; rintro en w2 ⟨rfl, vw2, hV2, hG2⟩; have HV2 := hid hV2; have HG2 := hid hG2; clear hV2 hG2))
  have HBX : Hid (w2.heap[w.heap.size]? = some (.cells #[.int .u64 (l.ht : Int), .int .i64 l.hv, .int .u64 (l.si : Int), .int .u64 (l.st : Int), .slice l.sd.a l.sd.b.length l.sd.c, .slice l.eo l.es.length l.ec] 30 (0, 0))) := hid ((HG2.out.keep.block _ (lt_of_block H0.out) (fun e => by have := HRB.out _ e; omega)).trans H0.out)
  have HL2 : Hid (LoAt w2 l) := hid ((HL.out.old HB.out).kept HG2.out.keep HLF.out)
  obtain ⟨S9, hS9⟩ : ∃ S9 : World → Prop, S9 = fun V => Below w2.heap.size w2 V := ⟨_, rfl⟩
  have HS : Hid (∀ V, Below w2.heap.size w2 V → S9 V) := hid fun V h => by rw [hS9]; exact h
  have HZ : Hid (∀ V, S9 V → (V.cell? ⟨vb, 1, none⟩ = some (.int .i64 (third : Int)) ∧ V.cell? ⟨vb, 2, none⟩ = some (.int .u64 (l0.ht : Int)) ∧ V.cell? ⟨vb, 3, none⟩ = some (.int .i64 l0.hv) ∧ V.cell? ⟨vb, 4, none⟩ = some (.int .u64 (l0.si : Int)) ∧ V.cell? ⟨vb, 5, none⟩ = some (.int .u64 (l0.st : Int)) ∧ V.cell? ⟨vb, 6, none⟩ = some (.slice l0.sd.a l0.sd.b.length l0.sd.c) ∧ V.cell? ⟨vb, 7, none⟩ = some (.slice l0.eo l0.es.length l0.ec) ∧ V.cell? ⟨vb, 9, none⟩ = some (.int .i64 (used : Int)))) := hid fun V h => by
    rw [hS9] at h
    have h9 := (h.block _ (lt_of_block HV2.out.v)).trans HV2.out.v
    simp [World.cell?, h9]
  have HX : Hid (∀ V, S9 V → (V.cell? ⟨w.heap.size, 0, none⟩ = some (.int .u64 (l.ht : Int)) ∧ V.cell? ⟨w.heap.size, 1, none⟩ = some (.int .i64 l.hv) ∧ V.cell? ⟨w.heap.size, 2, none⟩ = some (.int .u64 (l.si : Int)) ∧ V.cell? ⟨w.heap.size, 3, none⟩ = some (.int .u64 (l.st : Int)) ∧ V.cell? ⟨w.heap.size, 4, none⟩ = some (.slice l.sd.a l.sd.b.length l.sd.c) ∧ V.cell? ⟨w.heap.size, 5, none⟩ = some (.slice l.eo l.es.length l.ec))) := hid fun V h => by
    rw [hS9] at h
    exact six_cells ((h.block _ (lt_of_block HBX.out)).trans HBX.out)
  have CSm : Hid (∀ V, Below w2.heap.size w2 V → Calls Tryz.prog 64 #[.agg #[.int .u64 (l0.ht : Int), .int .i64 l0.hv, .int .u64 (l0.si : Int), .int .u64 (l0.st : Int), .slice l0.sd.a l0.sd.b.length l0.sd.c, .slice l0.eo l0.es.length l0.ec], .agg #[.int .u64 (l.ht : Int), .int .i64 l.hv, .int .u64 (l.si : Int), .int .u64 (l.st : Int), .slice l.sd.a l.sd.b.length l.sd.c, .slice l.eo l.es.length l.ec]] V (fun en w' => en = .returned (.bool false) ∧ Below V.heap.size V w')) := hid fun V hV => by
    have := same_any l0 l V (HV2.out.lo.old hV) (HL2.out.old hV)
    rw [show decide (l0.pl = l.pl) = false from by simp [hne]] at this
    exact this
  have CLo : Hid (∀ V, Below w2.heap.size w2 V → Calls Tryz.prog 66 #[.agg #[.int .u64 (l.ht : Int), .int .i64 l.hv, .int .u64 (l.si : Int), .int .u64 (l.st : Int), .slice l.sd.a l.sd.b.length l.sd.c, .slice l.eo l.es.length l.ec]] V (fun en w' => en = .returned (.int .i64 (longP l.pl : Int)) ∧ Below V.heap.size V w')) := hid fun V hV => longest_any l V (HL2.out.old hV) (by omega)
  have CDf : Hid (∀ V, Below w2.heap.size w2 V → Calls Tryz.prog 67 #[.agg #[.int .u64 (l0.ht : Int), .int .i64 l0.hv, .int .u64 (l0.si : Int), .int .u64 (l0.st : Int), .slice l0.sd.a l0.sd.b.length l0.sd.c, .slice l0.eo l0.es.length l0.ec], .agg #[.int .u64 (l.ht : Int), .int .i64 l.hv, .int .u64 (l.si : Int), .int .u64 (l.st : Int), .slice l.sd.a l.sd.b.length l.sd.c, .slice l.eo l.es.length l.ec]] V (Gives 5 V D)) := hid fun V hV => by
    have := diff_any l0 l V (HV2.out.lo.old hV) (HL2.out.old hV) hr hlong
    rw [← HDD.out] at this
    exact this
  obtain ⟨lg, hlg⟩ : ∃ lg, lg = longP l.pl := ⟨_, rfl⟩
  have HLG := hid hlg
  rw [← hlg] at hroom hlong CLo
  have CCt : Hid (∀ V, Calls Tryz.prog 65 #[.int .i64 (lg : Int)] V (fun e w' => e = .returned (.int .i64 (cntsN lg : Int)) ∧ w' = V)) := hid fun V => counts_any lg (by omega) V
  have CCd : Hid (∀ V, Calls Tryz.prog 65 #[.int .i64 (D.length : Int)] V (fun e w' => e = .returned (.int .i64 (cntsN D.length : Int)) ∧ w' = V)) := hid fun V => counts_any D.length (by omega) V
  have hlb := fun W a n c => run_len_slice (P := Tryz.prog) W 25 3 a n c Tryz.underlying25
  have hg6 : ¬ ((cntsN lg : Int) > (third : Int)) := by omega
  have hg6b : decide ((third : Int) < (cntsN lg : Int)) = false := by simp; omega
  have hg9 : ¬ ((used : Int) + (cntsN D.length : Int) > 2 * (third : Int)) := by omega
  have hg9b : decide (2 * (third : Int) < (used : Int) + (cntsN D.length : Int)) = false := by simp; omega
  have hw9 : IntKind.i64.wrap ((used : Int) + (cntsN D.length : Int)) = (used : Int) + (cntsN D.length : Int) := by rw [IntKind.wrap_i64]; omega
  have hw8 : IntKind.i64.wrap (2 * (third : Int)) = 2 * (third : Int) := by rw [IntKind.wrap_i64]; omega
  obtain ⟨c6, hc6⟩ : ∃ c6, c6 = cntsN lg := ⟨_, rfl⟩
  obtain ⟨c9, hc9⟩ : ∃ c9, c9 = cntsN D.length := ⟨_, rfl⟩
  rw [← hc6] at CCt hg6 hg6b hroom
  rw [← hc9] at CCd hg9 hg9b hw9 hu2
  clear hS9 hlg hc6 hc9
  have HWa : Hid (Below w2.heap.size w2 w2.drew) := hid (⟨rfl, rfl, rfl, Nat.le_refl _, fun _ _ => rfl⟩)
  refine wp_region_noPanic ?_
  refine wp_region_held_drew (S := S9) (by kernel_rfl) (HS.out _ HWa.out) (fun hHeld => ?_)
  have HDa : Hid (Below w2.heap.size w2 w2.drew) := hid ⟨rfl, rfl, rfl, Nat.le_refl _, fun _ _ => rfl⟩
  generalize w2.drew = Wa at *
  refine wpAnyH_take (i := 0) (v := (.pointer (some ⟨vb, 0, none⟩))) rfl (by kernel_rfl) (by kernel_rfl) (by kernel_rfl) (fun _ _ _ h => (show False from h).elim) ?xyVX1 ?xhVX1 ?xrVX1
  case xhVX1 => exact hHeld
  case xyVX1 => exact Or.inl ⟨by rfl, fun W9 hW => by clear hHeld; simp only [List.getElem_toArray, List.getElem_cons_succ, List.getElem_cons_zero]; go_simp⟩
  simp only [Act.put, List.getElem_toArray, List.getElem_cons_succ, List.getElem_cons_zero, List.setIfInBounds_toArray, List.set_cons_succ, List.set_cons_zero]
  refine wpAnyH_take (i := 1) (v := (.pointer (some ⟨vb, 0, none⟩))) rfl (by kernel_rfl) (by kernel_rfl) (by kernel_rfl) (fun _ _ _ h => (show False from h).elim) ?xyVX2 ?xhVX2 ?xrVX2
  case xhVX2 => exact hHeld
  case xyVX2 => exact Or.inl ⟨by rfl, fun W9 hW => by clear hHeld; simp only [List.getElem_toArray, List.getElem_cons_succ, List.getElem_cons_zero]; go_simp⟩
  simp only [Act.put, List.getElem_toArray, List.getElem_cons_succ, List.getElem_cons_zero, List.setIfInBounds_toArray, List.set_cons_succ, List.set_cons_zero]
  refine wpAnyH_take (i := 2) (v := (.pointer (some ⟨vb, 2, none⟩))) rfl (by kernel_rfl) (by kernel_rfl) (by kernel_rfl) (fun _ _ _ h => (show False from h).elim) ?xyVX3 ?xhVX3 ?xrVX3
  case xhVX3 => exact hHeld
  case xyVX3 => exact Or.inl ⟨by rfl, fun W9 hW => by clear hHeld; simp only [List.getElem_toArray, List.getElem_cons_succ, List.getElem_cons_zero]; go_simp⟩
  simp only [Act.put, List.getElem_toArray, List.getElem_cons_succ, List.getElem_cons_zero, List.setIfInBounds_toArray, List.set_cons_succ, List.set_cons_zero]
  refine wpAnyH_take (i := 3) (v := (.agg #[.int .u64 (l0.ht : Int), .int .i64 l0.hv, .int .u64 (l0.si : Int), .int .u64 (l0.st : Int), .slice l0.sd.a l0.sd.b.length l0.sd.c, .slice l0.eo l0.es.length l0.ec])) rfl (by kernel_rfl) (by kernel_rfl) (by kernel_rfl) (fun _ _ _ h => (show False from h).elim) ?xyVX4 ?xhVX4 ?xrVX4
  case xhVX4 => exact hHeld
  case xyVX4 => exact Or.inl ⟨by rfl, fun W9 hW => by obtain ⟨y1, y2, y3, y4, y5, y6, y7, y9⟩ := HZ.out _ hW; clear hHeld; simp only [List.getElem_toArray, List.getElem_cons_succ, List.getElem_cons_zero]; go_simp⟩
  simp only [Act.put, List.getElem_toArray, List.getElem_cons_succ, List.getElem_cons_zero, List.setIfInBounds_toArray, List.set_cons_succ, List.set_cons_zero]
  refine wpAnyH_take (i := 4) (v := (.agg #[.int .u64 (l.ht : Int), .int .i64 l.hv, .int .u64 (l.si : Int), .int .u64 (l.st : Int), .slice l.sd.a l.sd.b.length l.sd.c, .slice l.eo l.es.length l.ec])) rfl (by kernel_rfl) (by kernel_rfl) (by kernel_rfl) (fun _ _ _ h => (show False from h).elim) ?xyVX5 ?xhVX5 ?xrVX5
  case xhVX5 => exact hHeld
  case xyVX5 => exact Or.inl ⟨by rfl, fun W9 hW => by obtain ⟨x0, x1, x2, x3, x4, x5⟩ := HX.out _ hW; clear hHeld; simp only [List.getElem_toArray, List.getElem_cons_succ, List.getElem_cons_zero]; go_simp⟩
  simp only [Act.put, List.getElem_toArray, List.getElem_cons_succ, List.getElem_cons_zero, List.setIfInBounds_toArray, List.set_cons_succ, List.set_cons_zero]
  have CSa := hid (CSm.out _ HWa.out)
  refine wpAnyH_ready (rs := [5]) (by kernel_rfl) (by simp) ?_
  refine AllReadyH.cons rfl (fun K hK => ?_) AllReadyH.nil
  go_simp
  go_wp2_with (first | (go_at_call 64; refine CSa.out.mono ?_; rintro en w3 ⟨rfl, hb3⟩; have HB3 := hid (HWa.out.trans (hb3.mono HWa.out.size)); clear hb3))
  refine hK.out _ _ (HS.out _ HB3.out) (fun hHeld => ?_)
  clear hK K
  refine wpAnyH_done (by kernel_rfl) ?_ _
  refine NoPanic.normal ?_
  go_upto_region 6 with fail
  have HWb : Hid (Below w2.heap.size w2 w3.drew) := hid ((HB3.out.trans (Below.mono (B := w3.heap.size) ⟨rfl, rfl, rfl, Nat.le_refl _, fun _ _ => rfl⟩ HB3.out.size)))
  refine wp_region_noPanic ?_
  refine wp_region_held_drew (S := S9) (by kernel_rfl) (HS.out _ HWb.out) (fun hHeld => ?_)
  have HDb : Hid (Below w3.heap.size w3 w3.drew) := hid ⟨rfl, rfl, rfl, Nat.le_refl _, fun _ _ => rfl⟩
  generalize w3.drew = Wb at *
  refine wpAnyH_take (i := 0) (v := (.agg #[.int .u64 (l.ht : Int), .int .i64 l.hv, .int .u64 (l.si : Int), .int .u64 (l.st : Int), .slice l.sd.a l.sd.b.length l.sd.c, .slice l.eo l.es.length l.ec])) rfl (by kernel_rfl) (by kernel_rfl) (by kernel_rfl) (fun _ _ _ h => (show False from h).elim) ?xyVX6 ?xhVX6 ?xrVX6
  case xhVX6 => exact hHeld
  case xyVX6 => exact Or.inl ⟨by rfl, fun W9 hW => by obtain ⟨x0, x1, x2, x3, x4, x5⟩ := HX.out _ hW; clear hHeld; simp only [List.getElem_toArray, List.getElem_cons_succ, List.getElem_cons_zero]; go_simp⟩
  simp only [Act.put, List.getElem_toArray, List.getElem_cons_succ, List.getElem_cons_zero, List.setIfInBounds_toArray, List.set_cons_succ, List.set_cons_zero]
  refine wpAnyH_take (i := 3) (v := (.pointer (some ⟨vb, 0, none⟩))) rfl (by kernel_rfl) (by kernel_rfl) (by kernel_rfl) (fun _ _ _ h => (show False from h).elim) ?xyVX7 ?xhVX7 ?xrVX7
  case xhVX7 => exact hHeld
  case xyVX7 => exact Or.inl ⟨by rfl, fun W9 hW => by clear hHeld; simp only [List.getElem_toArray, List.getElem_cons_succ, List.getElem_cons_zero]; go_simp⟩
  simp only [Act.put, List.getElem_toArray, List.getElem_cons_succ, List.getElem_cons_zero, List.setIfInBounds_toArray, List.set_cons_succ, List.set_cons_zero]
  refine wpAnyH_take (i := 4) (v := (.pointer (some ⟨vb, 0, none⟩))) rfl (by kernel_rfl) (by kernel_rfl) (by kernel_rfl) (fun _ _ _ h => (show False from h).elim) ?xyVX8 ?xhVX8 ?xrVX8
  case xhVX8 => exact hHeld
  case xyVX8 => exact Or.inl ⟨by rfl, fun W9 hW => by clear hHeld; simp only [List.getElem_toArray, List.getElem_cons_succ, List.getElem_cons_zero]; go_simp⟩
  simp only [Act.put, List.getElem_toArray, List.getElem_cons_succ, List.getElem_cons_zero, List.setIfInBounds_toArray, List.set_cons_succ, List.set_cons_zero]
  refine wpAnyH_take (i := 5) (v := (.pointer (some ⟨vb, 1, none⟩))) rfl (by kernel_rfl) (by kernel_rfl) (by kernel_rfl) (fun _ _ _ h => (show False from h).elim) ?xyVX9 ?xhVX9 ?xrVX9
  case xhVX9 => exact hHeld
  case xyVX9 => exact Or.inl ⟨by rfl, fun W9 hW => by clear hHeld; simp only [List.getElem_toArray, List.getElem_cons_succ, List.getElem_cons_zero]; go_simp⟩
  simp only [Act.put, List.getElem_toArray, List.getElem_cons_succ, List.getElem_cons_zero, List.setIfInBounds_toArray, List.set_cons_succ, List.set_cons_zero]
  refine wpAnyH_take (i := 6) (v := (.int .i64 (third : Int))) rfl (by kernel_rfl) (by kernel_rfl) (by kernel_rfl) (fun _ _ _ h => (show False from h).elim) ?xyVX10 ?xhVX10 ?xrVX10
  case xhVX10 => exact hHeld
  case xyVX10 => exact Or.inl ⟨by rfl, fun W9 hW => by obtain ⟨y1, y2, y3, y4, y5, y6, y7, y9⟩ := HZ.out _ hW; clear hHeld; simp only [List.getElem_toArray, List.getElem_cons_succ, List.getElem_cons_zero]; go_simp⟩
  simp only [Act.put, List.getElem_toArray, List.getElem_cons_succ, List.getElem_cons_zero, List.setIfInBounds_toArray, List.set_cons_succ, List.set_cons_zero]
  have CLb := hid (CLo.out _ HWb.out)
  refine wpAnyH_ready (rs := [1]) (by kernel_rfl) (by simp) ?_
  refine AllReadyH.cons rfl (fun K hK => ?_) AllReadyH.nil
  go_simp
  go_wp2_with (first | (go_at_call 66; refine CLb.out.mono ?_; rintro en w4 ⟨rfl, hb4⟩; have HB4 := hid (HWb.out.trans (hb4.mono HWb.out.size)); clear hb4))
  refine hK.out _ _ (HS.out _ HB4.out) (fun hHeld => ?_)
  clear hK K
  refine wpAnyH_ready (rs := [2]) (by kernel_rfl) (by simp) ?_
  refine AllReadyH.cons rfl (fun K hK => ?_) AllReadyH.nil
  go_simp
  go_wp2_with (first | (go_at_call 65; refine (CCt.out _).mono ?_; rintro en w5 ⟨rfl, hw5⟩; subst hw5))
  refine hK.out _ _ (HS.out _ HB4.out) (fun hHeld => ?_)
  clear hK K
  refine wpAnyH_take (i := 7) (v := (.bool false)) rfl (by kernel_rfl) (by kernel_rfl) (by kernel_rfl) (fun _ _ _ h => (show False from h).elim) ?xyVX11 ?xhVX11 ?xrVX11
  case xhVX11 => exact hHeld
  case xyVX11 => exact Or.inl ⟨by rfl, fun W9 hW => by clear hHeld; simp only [List.getElem_toArray, List.getElem_cons_succ, List.getElem_cons_zero]; go_simp⟩
  simp only [Act.put, List.getElem_toArray, List.getElem_cons_succ, List.getElem_cons_zero, List.setIfInBounds_toArray, List.set_cons_succ, List.set_cons_zero]
  refine wpAnyH_done (by kernel_rfl) ?_ _
  refine NoPanic.normal ?_
  go_upto_region 8 with fail
  have HWc : Hid (Below w2.heap.size w2 w5.drew) := hid ((HB4.out.trans (Below.mono (B := w5.heap.size) ⟨rfl, rfl, rfl, Nat.le_refl _, fun _ _ => rfl⟩ HB4.out.size)))
  refine wp_region_noPanic ?_
  refine wp_region_held_drew (S := S9) (by kernel_rfl) (HS.out _ HWc.out) (fun hHeld => ?_)
  have HDc : Hid (Below w5.heap.size w5 w5.drew) := hid ⟨rfl, rfl, rfl, Nat.le_refl _, fun _ _ => rfl⟩
  generalize w5.drew = Wc at *
  refine wpAnyH_take (i := 0) (v := (.pointer (some ⟨vb, 0, none⟩))) rfl (by kernel_rfl) (by kernel_rfl) (by kernel_rfl) (fun _ _ _ h => (show False from h).elim) ?xyVX12 ?xhVX12 ?xrVX12
  case xhVX12 => exact hHeld
  case xyVX12 => exact Or.inl ⟨by rfl, fun W9 hW => by clear hHeld; simp only [List.getElem_toArray, List.getElem_cons_succ, List.getElem_cons_zero]; go_simp⟩
  simp only [Act.put, List.getElem_toArray, List.getElem_cons_succ, List.getElem_cons_zero, List.setIfInBounds_toArray, List.set_cons_succ, List.set_cons_zero]
  refine wpAnyH_take (i := 1) (v := (.pointer (some ⟨vb, 0, none⟩))) rfl (by kernel_rfl) (by kernel_rfl) (by kernel_rfl) (fun _ _ _ h => (show False from h).elim) ?xyVX13 ?xhVX13 ?xrVX13
  case xhVX13 => exact hHeld
  case xyVX13 => exact Or.inl ⟨by rfl, fun W9 hW => by clear hHeld; simp only [List.getElem_toArray, List.getElem_cons_succ, List.getElem_cons_zero]; go_simp⟩
  simp only [Act.put, List.getElem_toArray, List.getElem_cons_succ, List.getElem_cons_zero, List.setIfInBounds_toArray, List.set_cons_succ, List.set_cons_zero]
  refine wpAnyH_take (i := 2) (v := (.pointer (some ⟨vb, 2, none⟩))) rfl (by kernel_rfl) (by kernel_rfl) (by kernel_rfl) (fun _ _ _ h => (show False from h).elim) ?xyVX14 ?xhVX14 ?xrVX14
  case xhVX14 => exact hHeld
  case xyVX14 => exact Or.inl ⟨by rfl, fun W9 hW => by clear hHeld; simp only [List.getElem_toArray, List.getElem_cons_succ, List.getElem_cons_zero]; go_simp⟩
  simp only [Act.put, List.getElem_toArray, List.getElem_cons_succ, List.getElem_cons_zero, List.setIfInBounds_toArray, List.set_cons_succ, List.set_cons_zero]
  refine wpAnyH_take (i := 3) (v := (.agg #[.int .u64 (l0.ht : Int), .int .i64 l0.hv, .int .u64 (l0.si : Int), .int .u64 (l0.st : Int), .slice l0.sd.a l0.sd.b.length l0.sd.c, .slice l0.eo l0.es.length l0.ec])) rfl (by kernel_rfl) (by kernel_rfl) (by kernel_rfl) (fun _ _ _ h => (show False from h).elim) ?xyVX15 ?xhVX15 ?xrVX15
  case xhVX15 => exact hHeld
  case xyVX15 => exact Or.inl ⟨by rfl, fun W9 hW => by obtain ⟨y1, y2, y3, y4, y5, y6, y7, y9⟩ := HZ.out _ hW; clear hHeld; simp only [List.getElem_toArray, List.getElem_cons_succ, List.getElem_cons_zero]; go_simp⟩
  simp only [Act.put, List.getElem_toArray, List.getElem_cons_succ, List.getElem_cons_zero, List.setIfInBounds_toArray, List.set_cons_succ, List.set_cons_zero]
  refine wpAnyH_take (i := 4) (v := (.agg #[.int .u64 (l.ht : Int), .int .i64 l.hv, .int .u64 (l.si : Int), .int .u64 (l.st : Int), .slice l.sd.a l.sd.b.length l.sd.c, .slice l.eo l.es.length l.ec])) rfl (by kernel_rfl) (by kernel_rfl) (by kernel_rfl) (fun _ _ _ h => (show False from h).elim) ?xyVX16 ?xhVX16 ?xrVX16
  case xhVX16 => exact hHeld
  case xyVX16 => exact Or.inl ⟨by rfl, fun W9 hW => by obtain ⟨x0, x1, x2, x3, x4, x5⟩ := HX.out _ hW; clear hHeld; simp only [List.getElem_toArray, List.getElem_cons_succ, List.getElem_cons_zero]; go_simp⟩
  simp only [Act.put, List.getElem_toArray, List.getElem_cons_succ, List.getElem_cons_zero, List.setIfInBounds_toArray, List.set_cons_succ, List.set_cons_zero]
  have CDc := hid (CDf.out _ HWc.out)
  refine wpAnyH_ready (rs := [5]) (by kernel_rfl) (by simp) ?_
  refine AllReadyH.cons rfl (fun K hK => ?_) AllReadyH.nil
  go_simp
  go_wp2_with (first | (go_at_call 67; refine CDc.out.mono ?_; rintro en w6 ⟨vD, rfl, hoD, hbD⟩; obtain ⟨da, dc, rfl, hrD⟩ := gives_rd hoD; have HRD := hid hrD; have HOD : Hid (∀ a, da = some a → Wc.heap.size ≤ a.block) := hid (fun a ha => by subst ha; exact (hoD.lt a.block rfl).1); have HB6 := hid (HWc.out.trans (hbD.mono HWc.out.size)); clear hbD hrD hoD))
  refine hK.out _ _ (HS.out _ HB6.out) (fun hHeld => ?_)
  clear hK K
  refine wpAnyH_take (i := 6) (v := (.slice da D.length dc)) rfl (by kernel_rfl) (by kernel_rfl) (by kernel_rfl) (fun _ _ _ h => (show False from h).elim) ?xyVX17 ?xhVX17 ?xrVX17
  case xhVX17 => exact hHeld
  case xyVX17 => exact Or.inl ⟨by rfl, fun W9 hW => by clear hHeld; simp only [List.getElem_toArray, List.getElem_cons_succ, List.getElem_cons_zero]; go_simp⟩
  simp only [Act.put, List.getElem_toArray, List.getElem_cons_succ, List.getElem_cons_zero, List.setIfInBounds_toArray, List.set_cons_succ, List.set_cons_zero]
  refine wpAnyH_done (by kernel_rfl) ?_ _
  refine NoPanic.normal ?_
  go_upto_region 9 with fail
  have HWd : Hid (Below w2.heap.size w2 w6.drew) := hid ((HB6.out.trans (Below.mono (B := w6.heap.size) ⟨rfl, rfl, rfl, Nat.le_refl _, fun _ _ => rfl⟩ HB6.out.size)))
  refine wp_region_noPanic ?_
  refine wp_region_held_drew (S := S9) (by kernel_rfl) (HS.out _ HWd.out) (fun hHeld => ?_)
  have HDd : Hid (Below w6.heap.size w6 w6.drew) := hid ⟨rfl, rfl, rfl, Nat.le_refl _, fun _ _ => rfl⟩
  generalize w6.drew = Wd at *
  refine wpAnyH_take (i := 0) (v := (.pointer (some ⟨vb, 0, none⟩))) rfl (by kernel_rfl) (by kernel_rfl) (by kernel_rfl) (fun _ _ _ h => (show False from h).elim) ?xyVX18 ?xhVX18 ?xrVX18
  case xhVX18 => exact hHeld
  case xyVX18 => exact Or.inl ⟨by rfl, fun W9 hW => by clear hHeld; simp only [List.getElem_toArray, List.getElem_cons_succ, List.getElem_cons_zero]; go_simp⟩
  simp only [Act.put, List.getElem_toArray, List.getElem_cons_succ, List.getElem_cons_zero, List.setIfInBounds_toArray, List.set_cons_succ, List.set_cons_zero]
  refine wpAnyH_take (i := 1) (v := (.pointer (some ⟨vb, 0, none⟩))) rfl (by kernel_rfl) (by kernel_rfl) (by kernel_rfl) (fun _ _ _ h => (show False from h).elim) ?xyVX19 ?xhVX19 ?xrVX19
  case xhVX19 => exact hHeld
  case xyVX19 => exact Or.inl ⟨by rfl, fun W9 hW => by clear hHeld; simp only [List.getElem_toArray, List.getElem_cons_succ, List.getElem_cons_zero]; go_simp⟩
  simp only [Act.put, List.getElem_toArray, List.getElem_cons_succ, List.getElem_cons_zero, List.setIfInBounds_toArray, List.set_cons_succ, List.set_cons_zero]
  refine wpAnyH_take (i := 2) (v := (.pointer (some ⟨vb, 9, none⟩))) rfl (by kernel_rfl) (by kernel_rfl) (by kernel_rfl) (fun _ _ _ h => (show False from h).elim) ?xyVX20 ?xhVX20 ?xrVX20
  case xhVX20 => exact hHeld
  case xyVX20 => exact Or.inl ⟨by rfl, fun W9 hW => by clear hHeld; simp only [List.getElem_toArray, List.getElem_cons_succ, List.getElem_cons_zero]; go_simp⟩
  simp only [Act.put, List.getElem_toArray, List.getElem_cons_succ, List.getElem_cons_zero, List.setIfInBounds_toArray, List.set_cons_succ, List.set_cons_zero]
  refine wpAnyH_take (i := 3) (v := (.int .i64 (used : Int))) rfl (by kernel_rfl) (by kernel_rfl) (by kernel_rfl) (fun _ _ _ h => (show False from h).elim) ?xyVX21 ?xhVX21 ?xrVX21
  case xhVX21 => exact hHeld
  case xyVX21 => exact Or.inl ⟨by rfl, fun W9 hW => by obtain ⟨y1, y2, y3, y4, y5, y6, y7, y9⟩ := HZ.out _ hW; clear hHeld; simp only [List.getElem_toArray, List.getElem_cons_succ, List.getElem_cons_zero]; go_simp⟩
  simp only [Act.put, List.getElem_toArray, List.getElem_cons_succ, List.getElem_cons_zero, List.setIfInBounds_toArray, List.set_cons_succ, List.set_cons_zero]
  refine wpAnyH_take (i := 4) (v := (.slice da D.length dc)) rfl (by kernel_rfl) (by kernel_rfl) (by kernel_rfl) (fun _ _ _ h => (show False from h).elim) ?xyVX22 ?xhVX22 ?xrVX22
  case xhVX22 => exact hHeld
  case xyVX22 => exact Or.inl ⟨by rfl, fun W9 hW => by clear hHeld; simp only [List.getElem_toArray, List.getElem_cons_succ, List.getElem_cons_zero]; go_simp⟩
  simp only [Act.put, List.getElem_toArray, List.getElem_cons_succ, List.getElem_cons_zero, List.setIfInBounds_toArray, List.set_cons_succ, List.set_cons_zero]
  refine wpAnyH_take (i := 5) (v := (.int .i64 (D.length : Int))) rfl (by kernel_rfl) (by kernel_rfl) (by kernel_rfl) (fun _ _ _ h => (show False from h).elim) ?xyVX23 ?xhVX23 ?xrVX23
  case xhVX23 => exact hHeld
  case xyVX23 => exact Or.inl ⟨by rfl, fun W9 hW => by clear hHeld; simp only [List.getElem_toArray, List.getElem_cons_succ, List.getElem_cons_zero]; go_simp⟩
  simp only [Act.put, List.getElem_toArray, List.getElem_cons_succ, List.getElem_cons_zero, List.setIfInBounds_toArray, List.set_cons_succ, List.set_cons_zero]
  refine wpAnyH_take (i := 8) (v := (.pointer (some ⟨vb, 0, none⟩))) rfl (by kernel_rfl) (by kernel_rfl) (by kernel_rfl) (fun _ _ _ h => (show False from h).elim) ?xyVX24 ?xhVX24 ?xrVX24
  case xhVX24 => exact hHeld
  case xyVX24 => exact Or.inl ⟨by rfl, fun W9 hW => by clear hHeld; simp only [List.getElem_toArray, List.getElem_cons_succ, List.getElem_cons_zero]; go_simp⟩
  simp only [Act.put, List.getElem_toArray, List.getElem_cons_succ, List.getElem_cons_zero, List.setIfInBounds_toArray, List.set_cons_succ, List.set_cons_zero]
  refine wpAnyH_take (i := 9) (v := (.pointer (some ⟨vb, 0, none⟩))) rfl (by kernel_rfl) (by kernel_rfl) (by kernel_rfl) (fun _ _ _ h => (show False from h).elim) ?xyVX25 ?xhVX25 ?xrVX25
  case xhVX25 => exact hHeld
  case xyVX25 => exact Or.inl ⟨by rfl, fun W9 hW => by clear hHeld; simp only [List.getElem_toArray, List.getElem_cons_succ, List.getElem_cons_zero]; go_simp⟩
  simp only [Act.put, List.getElem_toArray, List.getElem_cons_succ, List.getElem_cons_zero, List.setIfInBounds_toArray, List.set_cons_succ, List.set_cons_zero]
  refine wpAnyH_take (i := 10) (v := (.pointer (some ⟨vb, 1, none⟩))) rfl (by kernel_rfl) (by kernel_rfl) (by kernel_rfl) (fun _ _ _ h => (show False from h).elim) ?xyVX26 ?xhVX26 ?xrVX26
  case xhVX26 => exact hHeld
  case xyVX26 => exact Or.inl ⟨by rfl, fun W9 hW => by clear hHeld; simp only [List.getElem_toArray, List.getElem_cons_succ, List.getElem_cons_zero]; go_simp⟩
  simp only [Act.put, List.getElem_toArray, List.getElem_cons_succ, List.getElem_cons_zero, List.setIfInBounds_toArray, List.set_cons_succ, List.set_cons_zero]
  refine wpAnyH_take (i := 11) (v := (.int .i64 (third : Int))) rfl (by kernel_rfl) (by kernel_rfl) (by kernel_rfl) (fun _ _ _ h => (show False from h).elim) ?xyVX27 ?xhVX27 ?xrVX27
  case xhVX27 => exact hHeld
  case xyVX27 => exact Or.inl ⟨by rfl, fun W9 hW => by obtain ⟨y1, y2, y3, y4, y5, y6, y7, y9⟩ := HZ.out _ hW; clear hHeld; simp only [List.getElem_toArray, List.getElem_cons_succ, List.getElem_cons_zero]; go_simp⟩
  simp only [Act.put, List.getElem_toArray, List.getElem_cons_succ, List.getElem_cons_zero, List.setIfInBounds_toArray, List.set_cons_succ, List.set_cons_zero]
  refine wpAnyH_take (i := 12) (v := (.int .i64 (2 * (third : Int)))) rfl (by kernel_rfl) (by kernel_rfl) (by kernel_rfl) (fun _ _ _ h => (show False from h).elim) ?xyVX28 ?xhVX28 ?xrVX28
  case xhVX28 => exact hHeld
  case xyVX28 => exact Or.inl ⟨by rfl, fun W9 hW => by clear hHeld; simp only [List.getElem_toArray, List.getElem_cons_succ, List.getElem_cons_zero]; go_simp⟩
  simp only [Act.put, List.getElem_toArray, List.getElem_cons_succ, List.getElem_cons_zero, List.setIfInBounds_toArray, List.set_cons_succ, List.set_cons_zero]
  refine wpAnyH_ready (rs := [6]) (by kernel_rfl) (by simp) ?_
  refine AllReadyH.cons rfl (fun K hK => ?_) AllReadyH.nil
  go_simp
  go_wp2_with (first | (go_at_call 65; refine (CCd.out _).mono ?_; rintro en w7 ⟨rfl, hw7⟩; subst hw7))
  refine hK.out _ _ (HS.out _ HWd.out) (fun hHeld => ?_)
  clear hK K
  refine wpAnyH_take (i := 7) (v := (.int .i64 ((used : Int) + (c9 : Int)))) rfl (by kernel_rfl) (by kernel_rfl) (by kernel_rfl) (fun _ _ _ h => (show False from h).elim) ?xyVX29 ?xhVX29 ?xrVX29
  case xhVX29 => exact hHeld
  case xyVX29 => exact Or.inl ⟨by rfl, fun W9 hW => by clear hHeld; simp only [List.getElem_toArray, List.getElem_cons_succ, List.getElem_cons_zero]; go_simp⟩
  simp only [Act.put, List.getElem_toArray, List.getElem_cons_succ, List.getElem_cons_zero, List.setIfInBounds_toArray, List.set_cons_succ, List.set_cons_zero]
  refine wpAnyH_take (i := 13) (v := (.bool false)) rfl (by kernel_rfl) (by kernel_rfl) (by kernel_rfl) (fun _ _ _ h => (show False from h).elim) ?xyVX30 ?xhVX30 ?xrVX30
  case xhVX30 => exact hHeld
  case xyVX30 => exact Or.inl ⟨by rfl, fun W9 hW => by clear hHeld; simp only [List.getElem_toArray, List.getElem_cons_succ, List.getElem_cons_zero]; go_simp⟩
  simp only [Act.put, List.getElem_toArray, List.getElem_cons_succ, List.getElem_cons_zero, List.setIfInBounds_toArray, List.set_cons_succ, List.set_cons_zero]
  refine wpAnyH_done (by kernel_rfl) ?_ _
  refine NoPanic.normal ?_
  have HV7 := hid (HV2.out.old HWd.out)
  have HR2 : Hid (∀ k, GL db sb vw2 lb rv k → k < w2.heap.size) := hid fun k hk => by
    obtain ⟨S, Q, L, m', h9, -⟩ := HV2.out.log
    exact (h9.g.lt k hk).2
  have HR7 : Hid (∀ k, GL db sb vw2 lb rv k → k < w7.heap.size) := hid fun k hk => Nat.lt_of_lt_of_le (HR2.out k hk) HWd.out.size
  have HRD7 : Hid (Rd w7 (.slice da D.length dc) D) := hid (HRD.out.old HDd.out)
  have HDA : Hid (∀ a, da = some a → w2.heap.size ≤ a.block) := hid fun a ha => by have := HOD.out a ha; have := HWc.out.size; omega
  have HDL : Hid (∀ a, da = some a → a.block < w7.heap.size) := hid fun a ha => rd_block HRD7.out (fun e => by have := hd1.1; rw [e] at this; simp at this) a ha
  have CRc : Hid (Calls Tryz.prog 70 #[.int .i64 1, .slice da D.length dc] w7 (VRecA 1 D w7)) := hid (HREC.out 1 da dc D w7 (by omega) HRD7.out hd1.1 hd1.2)
  obtain ⟨x9, hx9⟩ : ∃ x9, x9 = recV 1 D := ⟨_, rfl⟩
  have HX9 := hid hx9
  rw [← hx9] at hT hrl
  clear hx9
  go_upto_region 14 with (first
    | (go_at_call 70; refine CRc.out.mono ?_; rintro en w8 ⟨lo8, lc8, r0, rfl, hr0, hBs, hb8, hlo8, hro8⟩; rw [← HX9.out] at hr0; subst hr0; have HB8 := hid hb8; have CLay0 := vlay1_any (HV7.out.old hb8) lo8 lc8 r0 hBs hrl hn ht (Nat.zero_le _) hT hR hu (fun _ a ha => ⟨fun e => by have := HR7.out _ e; have := hro8 a ha; omega, fun e => by have := lt_of_block HV7.out.v; have := hro8 a ha; omega⟩) (fun k hk e => by have := lt_of_block HV7.out.v; have := hlo8 k hk; omega); have CLay := hid CLay0; clear CLay0 hBs hb8 hlo8 hro8)
    | (go_at_call 69; refine CLay.out.mono ?_; rintro en w9 ⟨rfl, hA9⟩; have HA9 := hid hA9; clear hA9))
  obtain ⟨vw9, rv9, r9, e9, hV9, hK9, hN9⟩ := HA9.out
  have HE9 := hid e9
  have HV9 := hid hV9
  have HK9 := hid hK9
  have HN9 := hid hN9
  have CSy := hid (vsync_any hV9)
  clear e9 hV9 hK9 hN9 HA9
  go_upto_region 17 with (first
    | (go_at_call 71; refine CSy.out.mono ?_; rintro en w10 ⟨rfl, vwA, hVA, hGA⟩; have HVA := hid hVA; have HGA := hid hGA; clear hVA hGA))
  have HOA : Hid (∀ k, GL db sb vw9 lb rv9 k → GL db sb vw2 lb rv k ∨ w8.heap.size ≤ k) := hid fun k hk => HN9.out k hk
  have h78 : w7.heap.size ≤ w8.heap.size := HB8.out.size
  have H78 := hid h78
  have HRDA : Hid (Rd w10 (.slice da D.length dc) D) := hid (((HRD7.out.old HB8.out).keep HK9.out (fun _ k hk e => by
    obtain ⟨a, ha, hak⟩ := blk_of hk
    have h1 := HDA.out a ha
    have h2 := HDL.out a ha
    rcases e with e | e
    · have := HR2.out k e; omega
    · have := lt_of_block HV2.out.v; omega)).keep HGA.out.keep (fun _ k hk e => by
    obtain ⟨a, ha, hak⟩ := blk_of hk
    have h1 := HDA.out a ha
    have h2 := HDL.out a ha
    rcases HOA.out k e with e | e
    · have := HR2.out k e; omega
    · omega))
  have CCh0 := changed_any l0 l.pl da D.length dc w10 HVA.out.lo (by rw [HDD.out]) (by rw [← HDD.out]; exact HRDA.out) hr HL2.out.ht (by rw [← HLG.out]; exact hlong)
  simp only [Lo.v] at CCh0
  have CCh := hid CCh0
  have hcc : w10.cell? ⟨vb, 2, none⟩ = some (.int .u64 (l0.ht : Int)) ∧ w10.cell? ⟨vb, 3, none⟩ = some (.int .i64 l0.hv) ∧ w10.cell? ⟨vb, 4, none⟩ = some (.int .u64 (l0.si : Int)) ∧ w10.cell? ⟨vb, 5, none⟩ = some (.int .u64 (l0.st : Int)) ∧ w10.cell? ⟨vb, 6, none⟩ = some (.slice l0.sd.a l0.sd.b.length l0.sd.c) ∧ w10.cell? ⟨vb, 7, none⟩ = some (.slice l0.eo l0.es.length l0.ec) := by
    have h9 := HVA.out.v
    simp [World.cell?, h9]
  obtain ⟨d2, d3, d4, d5, d6, d7⟩ := hcc
  clear CCh0 hg6 hg6b hg9 hg9b hw9 hw8 hlb
  go_wp2_with (first | (go_at_call 55; refine CCh.out.mono ?_; rintro en w11 ⟨is, rfl, hpl, hlo, hb11, hof⟩; have HPL := hid hpl; have HLO := hid hlo; have HB11 := hid hb11; have HOF := hid hof; have hv11 := (hb11.block _ (lt_of_block HVA.out.v)).trans HVA.out.v; have HV11 := hid hv11; have hce : w11.cell? ⟨vb, 2, none⟩ = some (.int .u64 (l0.ht : Int)) ∧ w11.cell? ⟨vb, 3, none⟩ = some (.int .i64 l0.hv) ∧ w11.cell? ⟨vb, 4, none⟩ = some (.int .u64 (l0.si : Int)) ∧ w11.cell? ⟨vb, 5, none⟩ = some (.int .u64 (l0.st : Int)) ∧ w11.cell? ⟨vb, 6, none⟩ = some (.slice l0.sd.a l0.sd.b.length l0.sd.c) ∧ w11.cell? ⟨vb, 7, none⟩ = some (.slice l0.eo l0.es.length l0.ec) := (by simp [World.cell?, hv11]); obtain ⟨e2, e3, e4, e5, e6, e7⟩ := hce; have g2 : w11.frozen? ⟨vb, 2, none⟩ = false := (by simp [World.frozen?, hv11]); have g3 : w11.frozen? ⟨vb, 3, none⟩ = false := (by simp [World.frozen?, hv11]); have g4 : w11.frozen? ⟨vb, 4, none⟩ = false := (by simp [World.frozen?, hv11]); have g5 : w11.frozen? ⟨vb, 5, none⟩ = false := (by simp [World.frozen?, hv11]); have g6 : w11.frozen? ⟨vb, 6, none⟩ = false := (by simp [World.frozen?, hv11]); have g7 : w11.frozen? ⟨vb, 7, none⟩ = false := (by simp [World.frozen?, hv11]); clear hpl hlo hb11 hof hv11; simp only [Lo.v]))
  go_ret
  obtain ⟨hset, hks⟩ := six_put (l' := is) HV11.out
  refine ⟨rfl, vwA, rv9, r9, is, HE9.out.trans HX9.out, HPL.out, ?_, ?_, ?_⟩
  · rw [← HX9.out]
    exact ⟨(HVA.out.log.old HB11.out).kept hks (fun k hk e => HVA.out.nv (by rw [← e]; exact hk)) (fun r hr hne a ha e => HVA.out.rb r hr hne a ha e), hset, HLO.out.kept hks (HOF.out _ (fun k e => by have := lt_of_block HVA.out.v; omega) HVA.out.ov), HVA.out.nv, HOF.out _ (fun k hk => by
      obtain ⟨S, Q, L, m', h9, -⟩ := HVA.out.log
      exact (h9.g.lt k hk).2) HVA.out.off, HOF.out _ (fun k e => by have := lt_of_block HVA.out.v; omega) HVA.out.ov, HVA.out.rb⟩
  · have hw1 := HB.out.size
    have k2 : Keep (fun k => GL db sb vw lb rv k ∨ k = vb) w w2 := (Keep.of_below HB.out).trans (HG2.out.keep.mono (fun k _ e => .inl e))
    have k8 := k2.trans (Keep.of_below (HWd.out.trans (HB8.out.mono HWd.out.size)))
    have hn2 : ∀ i, GL db sb vw2 lb rv i → (GL db sb vw lb rv i ∨ i = vb) ∨ w.heap.size ≤ i := fun i hi => (HG2.out.new i hi).elim (fun e => .inl (.inl e)) (fun e => .inr (by omega))
    have k9 := k8.trans2 HK9.out (fun i hi => hi.elim (hn2 i) (fun e => .inl (.inr e)))
    have h8 : w.heap.size ≤ w8.heap.size := k8.size
    have kA := k9.trans2 HGA.out.keep (fun i hi => (HOA.out i hi).elim (hn2 i) (fun e => .inr (by omega)))
    exact (kA.trans (Keep.of_below HB11.out)).trans (hks.mono (fun k _ e => .inr e))
  · intro k hk
    have hw1 := HB.out.size
    have h2 := HG2.out.keep.size
    have h7 := HWd.out.size
    have h8 := H78.out
    have h9 := HK9.out.size
    rcases HGA.out.new k hk with e | e
    · rcases HOA.out k e with e | e
      · exact (HG2.out.new k e).imp id (fun e => by omega)
      · exact .inr (by omega)
    · exact .inr (by omega)
end
end Go.Proofs.YtddnleofflobhaaGreatDoor

