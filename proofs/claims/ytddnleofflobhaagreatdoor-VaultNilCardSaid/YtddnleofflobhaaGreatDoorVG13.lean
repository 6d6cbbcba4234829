import Derived.Deep.LoopGhost
import Derived.WalkKit
import Derived.OpenShut
import Derived.Test.YtddnleofflobhaaGreatDoorRows
import Derived.WalkSpells
import Derived.WalkLawsBesides
import Derived.Laws.AppendOwnNone
import Derived.BigQuiet
import Derived.Deep.QuietTactic
import Derived.Deep.MidRow
import Derived.Laws.MakeOwn
import Derived.Deep.CutBlock
import Derived.Deep.CutRange
import Derived.Sort.CutIn
import Derived.RangeFuncNested
import Derived.RangeFuncBound
import Derived.RangeFuncCalls
import Derived.RangeFuncLeaves
import Derived.RangeFuncBox
import Derived.Shelf.Abstract
import Derived.Shelf.RegionOpen
import Derived.OwnWalkIn
import Derived.TacticsInMore
import Derived.LoopNIn
import Derived.LoopIn
import Derived.OrdersIn
import Derived.LaidEql
import Derived.Stop.Asserts
import Derived.RowKitTokens
import Derived.Lib.Bytes
import Derived.Deep.RegionHeld3
import Derived.Deep.WholeRow
import Derived.BigRegion
import Derived.Great.BuildSlice
import Derived.Deep.AppendLies
import Derived.StillTailTactics
import Derived.Deep.RegionLaw
import Derived.Great.FillDense
import Derived.Laws.Tables
import Derived.LoopN
import Derived.Deep.OwnRows
import Derived.OwnWalk
import Derived.Deep.Slices
import Derived.Lib.AppendZeros
import Derived.Deep.RegionWith
import Derived.Lib.SliceRun
import Derived.ProofKit
import Derived.Deep.Matrix
import Derived.Deep.Grids
import Derived.Test.YtddnleofflobhaaGreatDoorVG1
import Derived.Test.YtddnleofflobhaaGreatDoorVG2
import Derived.Test.YtddnleofflobhaaGreatDoorVG3
import Derived.Test.YtddnleofflobhaaGreatDoorVG4
import Derived.Test.YtddnleofflobhaaGreatDoorVG5
import Derived.Test.YtddnleofflobhaaGreatDoorVG6
import Derived.Test.YtddnleofflobhaaGreatDoorVG7
import Derived.Test.YtddnleofflobhaaGreatDoorVG8
import Derived.Test.YtddnleofflobhaaGreatDoorVG9
import Derived.Test.YtddnleofflobhaaGreatDoorVG10
import Derived.Test.YtddnleofflobhaaGreatDoorVG11
import Derived.Test.YtddnleofflobhaaGreatDoorVG12
set_option linter.unusedVariables false
set_option linter.unusedSimpArgs false
set_option linter.unusedVariables false
set_option linter.unusedSimpArgs false
set_option maxRecDepth 100000
namespace Go.Proofs.YtddnleofflobhaaGreatDoor
open Go.RowKit Go.Deep Go.Shelf

theorem info_entry : (Tryz.prog.info? 63).map (fun i => (i.zero, i.size, i.bytes)) = some (some (.agg #[.int .u64 0, .int .u64 0, .slice none 0 0]), 3, 40) := by kernel_rfl
set_option maxHeartbeats 2000000 in
theorem cloneE_any (x : Value) (L : List (List Value)) (w : World) (h : Rws 3 w x L) (hn : L.length ≤ 1000000000000) :
    Calls Tryz.prog 62 #[x] w (fun e w' => ∃ y, e = .returned y ∧ w'.ownsRow w.heap.size 63 3 y L.length L.flatten ∧ Below w.heap.size w w') := by
  have hx := h
  obtain ⟨ao, c, rfl, h1, h2, h3, -, -⟩ := hx
  have heq := fun W => Lib.run_eql_slice_nil (P := Tryz.prog) W 28 63 ao L.length c 0 0 Tryz.underlying28
  cases ao with
  | none =>
    have hc := h3 rfl
    obtain rfl : L = [] := List.eq_nil_of_length_eq_zero (by omega)
    subst hc
    simp only [List.length_nil] at heq ⊢
    clear h
    go_enter Tryz.func62, Tryz.ntmps62
    go_wp2_with fail
    go_ret
    exact ⟨_, rfl, World.ownsRow_nil _ _ _ _, Below.refl _ _⟩
  | some a =>
    have HR := hid (h.old ((Below.refl w.heap.size w).alloc (Nat.le_refl _) (.cells #[] 63)))
    have hown : (w.alloc (.cells #[] 63)).ownsRow w.heap.size 63 3 (.slice (some ⟨w.heap.size, 0, none⟩) 0 0) 0 [] := World.ownsRow_made w #[] 0 (Nat.le_refl _) (by decide) rfl
    have HO := hid hown
    clear h hown
    go_enter Tryz.func62, Tryz.ntmps62
    go_wp2_with (first
      | (at_builtin; refine wp_rapp rfl _ _ 28 rfl w.heap.size 3 40 63 Tryz.underlying28 _ info_entry (by simp [Value.cells]) (by decide) _ _ _ rfl HO.out _ L rfl HR.out ?c1 ?c2 ?c3 ?_))
    case c1 => omega
    case c2 => unfold maxLen; omega
    case c3 => simp
    intro v' w1 o1 g1
    have HO1 := hid o1
    have HB1 : Hid (Below w.heap.size w w1) := ((Below.refl _ _).alloc (Nat.le_refl _) _).grown g1 (by simp) (fun k hk => by simp [Value.ownBlock] at hk; omega)
    clear o1 g1
    go_wp2_with fail
    go_ret
    have := HO1.out
    try simp only [Nat.zero_add, List.nil_append] at this
    exact ⟨_, rfl, this, HB1.out⟩

/-- What stands while a difference is read. -/
structure Chg (w V : World) (bw br R Ib : Nat) (was : Lo) (cs : Array Value) (rest : List UInt8) : Prop where
  hw : V.heap[bw]? = some (.cells was.cs 30 (0, 0))
  hr : V.heap[br]? = some (.cells #[.int .u64 0, .int .i64 0, .int .u64 0, .int .u64 0, .slice none 0 0, .slice none 0 0] 30 (0, 0))
  hi : V.heap[Ib]? = some (.cells cs 30 (0, 0))
  rd : RAt V R rest 0
  lt : bw < R ∧ br < R ∧ R < Ib ∧ w.heap.size ≤ bw ∧ w.heap.size ≤ br ∧ bw < br
  below : Below w.heap.size w V
section
variable {w V V' : World} {bw br R Ib : Nat} {was : Lo} {cs : Array Value} {rest rest' : List UInt8}
theorem Chg.grown (h : Chg w V bw br R Ib was cs rest) (hg : V.grownBy V' (some R)) (hr : RAt V' R rest' 0) : Chg w V' bw br R Ib was cs rest' :=
  ⟨heap_kept hg h.hw (fun e => by have := h.lt; simp only [Option.some.injEq] at e; omega), heap_kept hg h.hr (fun e => by have := h.lt; simp only [Option.some.injEq] at e; omega), heap_kept hg h.hi (fun e => by have := h.lt; simp only [Option.some.injEq] at e; omega), hr, h.lt, h.below.grown hg h.below.size (fun k e => by have := h.lt; cases e; omega)⟩
theorem Chg.old (h : Chg w V bw br R Ib was cs rest) (hb : Below V.heap.size V V') : Chg w V' bw br R Ib was cs rest :=
  ⟨(hb.block _ (lt_of_block h.hw)).trans h.hw, (hb.block _ (lt_of_block h.hr)).trans h.hr, (hb.block _ (lt_of_block h.hi)).trans h.hi, h.rd.old hb, h.lt, h.below.trans (hb.mono h.below.size)⟩
theorem Chg.set (h : Chg w V bw br R Ib was cs rest) (k : Nat) (v : Value) : Chg w (V.setCell ⟨Ib, k, none⟩ v) bw br R Ib was (cs.setIfInBounds k v) rest := by
  have hl := h.lt
  have hg := grown_set V ⟨Ib, k, none⟩ v
  exact ⟨heap_kept hg h.hw (fun e => by simp only [Option.some.injEq] at e; omega), heap_kept hg h.hr (fun e => by simp only [Option.some.injEq] at e; omega), set_at (k := k) v h.hi, h.rd.kept hg (fun j e => by cases e; show R < Ib; omega), h.lt, h.below.grown hg h.below.size (fun j e => by cases e; show w.heap.size ≤ Ib; omega)⟩
end

theorem smallR_back (w : World) (R v : Nat) (r : List UInt8) (z : Int) (hz : (Lit.int .i64 z).wf = true) (hv : v < 2 ^ 64) (hm : v ≤ nn z) (h : RAt w R (numL v ++ r) 0) :
    Calls Tryz.prog 81 #[.pointer (some ⟨R, 0, none⟩), .int .i64 z] w fun en w' => en = .returned (.int .i64 (v : Int)) ∧ RAt w' R r 0 ∧ w.grownBy w' (some R) := by
  refine (smallR_any w R _ 0 z hz h).mono ?_
  rintro en w' ⟨h1, h2, h3⟩
  rw [lookS_back hv hm] at h1 h2
  exact ⟨h1, by simpa using h2, h3⟩
/-- Neither bytes nor entries lie in a reader's block. -/
def Kps (V V' : World) : Prop := (∀ xo xc (b : List UInt8), Rd V (.slice xo b.length xc) b → Rd V' (.slice xo b.length xc) b) ∧ ∀ xo n c E, n = E.length → Ents V (.slice xo n c) E → Ents V' (.slice xo n c) E
theorem rat_off {V : World} {R : Nat} {l : List UInt8} {e : Int} (h : RAt V R l e) {a : Addr} {v : Value} (hR : a.block = R) (hc : V.cell? a = some v) : (∃ x n c, v = .slice x n c) ∨ v = .int .i64 e := by
  obtain ⟨ao, c, h1, -⟩ := h
  obtain ⟨b, off, sp⟩ := a
  simp only at hR
  subst hR
  cases sp with
  | some s =>
    unfold World.cell? at hc
    simp [h1] at hc
  | none =>
    unfold World.cell? at hc
    rw [h1] at hc
    change (#[Value.slice ao l.length c, Value.int .i64 e] : Array Value)[off]? = _ at hc
    rcases off with _ | _ | off
    · simp at hc; exact .inl ⟨_, _, _, hc.symm⟩
    · simp at hc; exact .inr hc.symm
    · simp at hc
theorem kps_grown {V V' : World} {R : Nat} {l : List UInt8} {e : Int} (h : RAt V R l e) (hg : V.grownBy V' (some R)) : Kps V V' := by
  have hk : Keep (fun j => j = R) V V' := Keep.of_grown hg (fun j e => by cases e; rfl)
  have hb : ∀ xo xc (b : List UInt8), Rd V (.slice xo b.length xc) b → Rd V' (.slice xo b.length xc) b := fun xo xc b hx => hx.keep hk (fun hne j hj e => by
    obtain ⟨u, hu⟩ : ∃ u, b[0]? = some u := ⟨_, List.getElem?_eq_getElem (List.length_pos_iff.2 hne)⟩
    obtain ⟨b0, off, e2, hc⟩ := rd_get hx hu
    obtain ⟨a9, ha9, hak⟩ := blk_of hj
    rw [e2] at ha9
    cases ha9
    rcases rat_off h (by rw [← e, ← hak]) hc with ⟨_, _, _, h9⟩ | h9 <;> simp [bv] at h9)
  refine ⟨hb, fun xo n c E hn hx => ⟨hx.1.keep hk (fun hne j hj e => ?_), fun x hxm => ⟨hb _ _ _ (hx.2 x hxm).1, (hx.2 x hxm).2⟩⟩⟩
  obtain ⟨x, hx0⟩ : ∃ x, E[0]? = some x := ⟨_, List.getElem?_eq_getElem (List.length_pos_iff.2 (fun h9 => hne (by rw [h9]; rfl)))⟩
  obtain ⟨b1, o1, e1, c0, -⟩ := hx.get hx0
  obtain ⟨a9, ha9, hak⟩ := blk_of hj
  rw [e1] at ha9
  cases ha9
  rcases rat_off h (by rw [← e, ← hak]) c0 with ⟨_, _, _, h9⟩ | h9 <;> simp at h9
theorem Kps.trans {A B C : World} (h : Kps A B) (k : Kps B C) : Kps A C := ⟨fun x c b hx => k.1 x c b (h.1 x c b hx), fun x n c E hn hx => k.2 x n c E hn (h.2 x n c E hn hx)⟩
/-- What a Chg gives at a call of the reader. -/
theorem Chg.num {w V : World} {bw br R Ib : Nat} {was : Lo} {cs : Array Value} {v : Nat} {rest : List UInt8} (h : Chg w V bw br R Ib was cs (numL v ++ rest)) (hv : v < 2 ^ 64) :
    Calls Tryz.prog 80 #[.pointer (some ⟨R, 0, none⟩)] V fun en w' => en = .returned (.int .u64 (v : Int)) ∧ Hid (Chg w w' bw br R Ib was cs rest) ∧ Hid (Kps V w' ∧ V.grownBy w' (some R)) :=
  (numR_back V R v rest hv h.rd).mono fun _ _ ⟨a, b, c⟩ => ⟨a, hid (h.grown c b), hid ⟨kps_grown h.rd c, c⟩⟩
theorem Chg.small {w V : World} {bw br R Ib : Nat} {was : Lo} {cs : Array Value} {v : Nat} {rest : List UInt8} (h : Chg w V bw br R Ib was cs (numL v ++ rest)) (z : Int) (hz : (Lit.int .i64 z).wf = true) (hv : v < 2 ^ 64) (hm : v ≤ nn z) :
    Calls Tryz.prog 81 #[.pointer (some ⟨R, 0, none⟩), .int .i64 z] V fun en w' => en = .returned (.int .i64 (v : Int)) ∧ Hid (Chg w w' bw br R Ib was cs rest) ∧ Hid (Kps V w') :=
  (smallR_back V R v rest z hz hv hm h.rd).mono fun _ _ ⟨a, b, c⟩ => ⟨a, hid (h.grown c b), hid (kps_grown h.rd c)⟩
theorem Chg.text {w V : World} {bw br R Ib : Nat} {was : Lo} {cs : Array Value} {b rest : List UInt8} (h : Chg w V bw br R Ib was cs (textL b ++ rest)) (hb : b.length ≤ 32668) (hl : (textL b ++ rest).length ≤ 140737488355328) :
    Calls Tryz.prog 82 #[.pointer (some ⟨R, 0, none⟩), .int .i64 32668] V fun en w' => ∃ (ao : Option Addr) (c : Nat), en = .returned (.slice ao b.length c) ∧ Hid (Rd w' (.slice ao b.length c) b) ∧ Hid (Chg w w' bw br R Ib was cs rest) ∧ Hid (Kps V w' ∧ V.grownBy w' (some R) ∧ ∀ a, ao = some a → V.heap.size ≤ a.block) :=
  (textR_back V R b rest 32668 (by decide) (by show b.length ≤ nn 32668; unfold nn; simpa using hb) h.rd hl).mono fun _ _ ⟨ao, c, a, o, r, g⟩ => ⟨ao, c, a, hid (Rd.own o), hid (h.grown g r), hid ⟨kps_grown h.rd g, g, fun a9 ha9 => by subst ha9; exact (o.lt a9.block rfl).1⟩⟩
theorem Chg.cells {w V : World} {bw br R Ib : Nat} {was : Lo} {x0 x1 x2 x3 x4 x5 : Value} {rest : List UInt8} (h : Chg w V bw br R Ib was #[x0, x1, x2, x3, x4, x5] rest) : (V.cell? ⟨bw, 0, none⟩ = some (.int .u64 (was.ht : Int)) ∧ V.cell? ⟨bw, 1, none⟩ = some (.int .i64 was.hv) ∧ V.cell? ⟨bw, 2, none⟩ = some (.int .u64 (was.si : Int)) ∧ V.cell? ⟨bw, 3, none⟩ = some (.int .u64 (was.st : Int)) ∧ V.cell? ⟨bw, 4, none⟩ = some (.slice was.sd.a was.sd.b.length was.sd.c) ∧ V.cell? ⟨bw, 5, none⟩ = some (.slice was.eo was.es.length was.ec)) ∧ (V.cell? ⟨Ib, 0, none⟩ = some x0 ∧ V.cell? ⟨Ib, 1, none⟩ = some x1 ∧ V.cell? ⟨Ib, 2, none⟩ = some x2 ∧ V.cell? ⟨Ib, 3, none⟩ = some x3 ∧ V.cell? ⟨Ib, 4, none⟩ = some x4 ∧ V.cell? ⟨Ib, 5, none⟩ = some x5) ∧ (∀ k, V.frozen? ⟨Ib, k, none⟩ = false) ∧ ∀ k, V.frozen? ⟨br, k, none⟩ = false :=
  ⟨six_cells h.hw, six_cells h.hi, fun k => by simp [World.frozen?, h.hi], fun k => by simp [World.frozen?, h.hr]⟩

theorem Chg.s0 {w V : World} {bw br R Ib : Nat} {was : Lo} {a b c d e f : Value} {rest : List UInt8} (h : Chg w V bw br R Ib was #[a, b, c, d, e, f] rest) (v : Value) : Hid (Chg w (V.setCell ⟨Ib, 0, none⟩ v) bw br R Ib was #[v, b, c, d, e, f] rest) := by
  have := h.set 0 v
  simp only [List.setIfInBounds_toArray, List.set_cons_succ, List.set_cons_zero] at this
  exact this
theorem Chg.s1 {w V : World} {bw br R Ib : Nat} {was : Lo} {a b c d e f : Value} {rest : List UInt8} (h : Chg w V bw br R Ib was #[a, b, c, d, e, f] rest) (v : Value) : Hid (Chg w (V.setCell ⟨Ib, 1, none⟩ v) bw br R Ib was #[a, v, c, d, e, f] rest) := by
  have := h.set 1 v
  simp only [List.setIfInBounds_toArray, List.set_cons_succ, List.set_cons_zero] at this
  exact this
theorem Chg.s2 {w V : World} {bw br R Ib : Nat} {was : Lo} {a b c d e f : Value} {rest : List UInt8} (h : Chg w V bw br R Ib was #[a, b, c, d, e, f] rest) (v : Value) : Hid (Chg w (V.setCell ⟨Ib, 2, none⟩ v) bw br R Ib was #[a, b, v, d, e, f] rest) := by
  have := h.set 2 v
  simp only [List.setIfInBounds_toArray, List.set_cons_succ, List.set_cons_zero] at this
  exact this
theorem Chg.s3 {w V : World} {bw br R Ib : Nat} {was : Lo} {a b c d e f : Value} {rest : List UInt8} (h : Chg w V bw br R Ib was #[a, b, c, d, e, f] rest) (v : Value) : Hid (Chg w (V.setCell ⟨Ib, 3, none⟩ v) bw br R Ib was #[a, b, c, v, e, f] rest) := by
  have := h.set 3 v
  simp only [List.setIfInBounds_toArray, List.set_cons_succ, List.set_cons_zero] at this
  exact this
theorem Chg.s4 {w V : World} {bw br R Ib : Nat} {was : Lo} {a b c d e f : Value} {rest : List UInt8} (h : Chg w V bw br R Ib was #[a, b, c, d, e, f] rest) (v : Value) : Hid (Chg w (V.setCell ⟨Ib, 4, none⟩ v) bw br R Ib was #[a, b, c, d, v, f] rest) := by
  have := h.set 4 v
  simp only [List.setIfInBounds_toArray, List.set_cons_succ, List.set_cons_zero] at this
  exact this
theorem Chg.s5 {w V : World} {bw br R Ib : Nat} {was : Lo} {a b c d e f : Value} {rest : List UInt8} (h : Chg w V bw br R Ib was #[a, b, c, d, e, f] rest) (v : Value) : Hid (Chg w (V.setCell ⟨Ib, 5, none⟩ v) bw br R Ib was #[a, b, c, d, e, v] rest) := by
  have := h.set 5 v
  simp only [List.setIfInBounds_toArray, List.set_cons_succ, List.set_cons_zero] at this
  exact this

/-- Bytes do not lie in the log's own block: what is stored there leaves them alone. -/
theorem Chg.rd' {w V : World} {bw br R Ib : Nat} {was : Lo} {a b d : Nat} {z : Int} {ao eo : Option Addr} {n1 c1 n2 c2 : Nat} {rest : List UInt8} (h : Chg w V bw br R Ib was #[.int .u64 (a : Int), .int .i64 z, .int .u64 (b : Int), .int .u64 (d : Int), .slice ao n1 c1, .slice eo n2 c2] rest) {xo : Option Addr} {xc : Nat} {l : List UInt8} (hx : Rd V (.slice xo l.length xc) l) (k : Nat) (v : Value) : Rd (V.setCell ⟨Ib, k, none⟩ v) (.slice xo l.length xc) l := by
  refine hx.keep (Keep.set (X := fun j => j = Ib) V ⟨Ib, k, none⟩ v rfl) (fun hne j hj e => ?_)
  subst e
  obtain ⟨u, hu⟩ : ∃ u, l[0]? = some u := ⟨_, List.getElem?_eq_getElem (List.length_pos_iff.2 hne)⟩
  obtain ⟨b0, off, e2, hc⟩ := rd_get hx hu
  obtain ⟨a9, ha9, hak⟩ := blk_of hj
  rw [e2] at ha9
  cases ha9
  simp only at hak
  subst hak
  unfold World.cell? at hc
  rw [h.hi] at hc
  change (#[Value.int .u64 (a : Int), .int .i64 z, .int .u64 (b : Int), .int .u64 (d : Int), .slice ao n1 c1, .slice eo n2 c2] : Array Value)[off + 0]? = _ at hc
  rw [Nat.add_zero] at hc
  rcases off with _ | _ | _ | _ | _ | _ | off <;> simp [bv] at hc

theorem Chg.row {w V V' : World} {bw br R Ib : Nat} {was : Lo} {cs : Array Value} {rest : List UInt8} {row : Option Nat} (h : Chg w V bw br R Ib was cs rest) (hg : V.grownBy V' row) (hr : ∀ j, row = some j → Ib < j) : Chg w V' bw br R Ib was cs rest :=
  ⟨heap_kept hg h.hw (fun e => by have := h.lt; have := hr _ e.symm; omega), heap_kept hg h.hr (fun e => by have := h.lt; have := hr _ e.symm; omega), heap_kept hg h.hi (fun e => by have := hr _ e.symm; omega), h.rd.kept hg (fun j e => by have := h.lt; have := hr _ e; omega), h.lt, h.below.grown hg h.below.size (fun j e => by have := h.lt; have := hr _ e; omega)⟩
theorem wf64 {z : Int} (h1 : -9223372036854775808 ≤ z) (h2 : z ≤ 9223372036854775807) : (Lit.int .i64 z).wf = true := by
  simp only [Lit.wf, Bool.and_eq_true, decide_eq_true_eq]
  exact ⟨h1, h2⟩
theorem ents_own {V : World} {B : Nat} {ao : Option Addr} {c : Nat} {E : List En} (h : V.ownsRow B 63 3 (.slice ao E.length c) E.length (E.map rowE).flatten) (hE : ∀ e ∈ E, Rd V (rcv e.r) e.r.b ∧ e.t < 18446744073709551616 ∧ e.i < 18446744073709551616 ∧ e.r.b.length ≤ 140737488355328) : Ents V (.slice ao E.length c) E := by
  refine ⟨Rws.own (base := B) (e := 63) (by rw [List.length_map]; exact h) (fun r hr => ?_), hE⟩
  obtain ⟨e, -, rfl⟩ := List.mem_map.1 hr
  refine ⟨rfl, fun u hu => ?_⟩
  simp only [rowE, rcv, List.mem_cons, List.not_mem_nil, or_false] at hu
  rcases hu with rfl | rfl | rfl <;> rfl

theorem step_rapp9 {P : Program} {w : World} {ops : Array Oper} {o : Oper} {a : Act} {K : Act → World → Prop} {Q : Exit → Act → World → Prop} {E : Prop} (s x : Operand) (t : TypeId)
    (ho : o.op = .call { callee := .builtin .append, args := #[s, x], argTypes := #[t, t] })
    (base size bytes : Nat) (e : TypeId) (ht : P.underlying t = some (.slice e)) (z : Value) (hinfo : (P.info? e).map (fun i => (i.zero, i.size, i.bytes)) = some (some z, size, bytes)) (hzs : z.cells.size = size) (hsz : 0 < size)
    (v : Value) (n : Nat) (xs : List Value) (hs : a.eval s = v) (hown : w.ownsRow base e size v n xs)
    (y : Value) (L : List (List Value)) (hx : a.eval x = y) (hr : Rws size w y L) (hn : (n + L.length) * bytes ≤ 140737488355328) (hm : n + L.length ≤ maxLen) (hbase : base ≤ w.heap.size)
    (hgd : Region.wanted o (yielded ops a.tmps) = true)
    (h : ∀ v' w', w'.ownsRow base e size v' (n + L.length) (xs ++ L.flatten) → w.grownBy w' v.ownBlock → (∀ k, v'.ownBlock = some k → v.ownBlock = some k ∨ w.heap.size ≤ k) → K (a.put o.dst v') w') :
    if Region.wanted o (yielded ops a.tmps) = true then Oper.wp P o a w K Q else E := by
  rw [if_pos hgd]
  exact step_rapp s x t ho base size bytes e ht z hinfo hzs hsz v n xs hs hown y L hx hr hn hm hbase h

/-- What the rounds keep. -/
structure ChL (w V : World) (bw br R Ib : Nat) (was : Lo) (PI : PL) (nv : Nat) (sa : Option Addr) (sc : Nat) (E : List En) (eo : Option Addr) (ec m : Nat) (rest : List UInt8) : Prop where
  chg : Chg w V bw br R Ib was #[.int .u64 (PI.ht : Int), .int .i64 (nv : Int), .int .u64 (PI.si : Int), .int .u64 (PI.st : Int), .slice sa PI.sd.length sc, .slice eo m ec] rest
  len : E.length = m
  pe : E.map En.pe = PI.es.take m
  own : V.ownsRow (Ib + 1) 63 3 (.slice eo m ec) m (E.map rowE).flatten
  each : ∀ e ∈ E, Rd V (rcv e.r) e.r.b ∧ e.t < 18446744073709551616 ∧ e.i < 18446744073709551616 ∧ e.r.b.length ≤ 140737488355328
  boff : ∀ e ∈ E, e.r.b ≠ [] → ∀ a, e.r.a = some a → (Value.slice eo m ec).ownBlock ≠ some a.block
  sd : Rd V (.slice sa PI.sd.length sc) PI.sd
  soff : PI.sd ≠ [] → ∀ a, sa = some a → (Value.slice eo m ec).ownBlock ≠ some a.block
  xe : ∀ X : Nat → Prop, (∀ k, X k → k < w.heap.size) → LoOff was X → ∀ e ∈ E, e.r.b ≠ [] → ∀ a, e.r.a = some a → ¬ X a.block
  xs : ∀ X : Nat → Prop, (∀ k, X k → k < w.heap.size) → LoOff was X → PI.sd ≠ [] → ∀ a, sa = some a → ¬ X a.block
section
variable {w V V' : World} {bw br R Ib : Nat} {was : Lo} {PI : PL} {nv : Nat} {sa : Option Addr} {sc : Nat} {E : List En} {eo : Option Addr} {ec m : Nat} {rest rest' : List UInt8}
theorem ChL.move (h : ChL w V bw br R Ib was PI nv sa sc E eo ec m rest) (hk : Kps V V') (hg : V.grownBy V' (some R)) (hc : Chg w V' bw br R Ib was #[.int .u64 (PI.ht : Int), .int .i64 (nv : Int), .int .u64 (PI.si : Int), .int .u64 (PI.st : Int), .slice sa PI.sd.length sc, .slice eo m ec] rest') : ChL w V' bw br R Ib was PI nv sa sc E eo ec m rest' :=
  ⟨hc, h.len, h.pe, own_keep h.own (Keep.of_grown (X := fun j => j = R) hg (fun j e => by cases e; rfl)) (fun j hj e => by have := (h.own.lt j hj).1; have := h.chg.lt; omega), fun e he => ⟨hk.1 _ _ _ (h.each e he).1, (h.each e he).2⟩, h.boff, hk.1 _ _ _ h.sd, h.soff, h.xe, h.xs⟩
theorem ChL.old (h : ChL w V bw br R Ib was PI nv sa sc E eo ec m rest) (hb : Below V.heap.size V V') : ChL w V' bw br R Ib was PI nv sa sc E eo ec m rest :=
  ⟨h.chg.old hb, h.len, h.pe, own_old h.own hb, fun e he => ⟨(h.each e he).1.old hb, (h.each e he).2⟩, h.boff, h.sd.old hb, h.soff, h.xe, h.xs⟩
theorem ChL.next (h : ChL w V bw br R Ib was PI nv sa sc E eo ec m rest) (e : En) (p : Pe) (hp : PI.es[m]? = some p) (hep : e.pe = p) (he : Rd V (rcv e.r) e.r.b ∧ e.t < 18446744073709551616 ∧ e.i < 18446744073709551616 ∧ e.r.b.length ≤ 140737488355328) (heo : ∀ a, e.r.a = some a → (Value.slice eo m ec).ownBlock ≠ some a.block ∧ w.heap.size ≤ a.block) (o : Obj) {v' : Value} {V' : World}
    (o5 : V'.ownsRow (Ib + 1) 63 3 v' (m + [rowE e].length) ((E.map rowE).flatten ++ [rowE e].flatten)) (g5 : (V.alloc o).grownBy V' (Value.slice eo m ec).ownBlock) (f5 : ∀ j, v'.ownBlock = some j → (Value.slice eo m ec).ownBlock = some j ∨ (V.alloc o).heap.size ≤ j) :
    ∃ po pc, v' = .slice po (m + 1) pc ∧ (∃ u, V'.cell? ⟨Ib, 5, none⟩ = some u) ∧ V'.frozen? ⟨Ib, 5, none⟩ = false ∧ Hid (ChL w (V'.setCell ⟨Ib, 5, none⟩ (.slice po (m + 1) pc)) bw br R Ib was PI nv sa sc (E ++ [e]) po pc (m + 1) rest) := by
  have hba : Below V.heap.size V (V.alloc o) := (Below.refl _ _).alloc (Nat.le_refl _) _
  have hlt := h.chg.lt
  have hrow : ∀ j, (Value.slice eo m ec).ownBlock = some j → Ib < j := fun j hj => by have := (h.own.lt j hj).1; omega
  have hc1 := (h.chg.old hba).row g5 hrow
  have hsz : (V.alloc o).heap.size = V.heap.size + 1 := by simp
  obtain ⟨po, pc, rfl⟩ := own_form o5
  have hL : m + [rowE e].length = m + 1 := rfl
  rw [hL] at o5 f5 ⊢
  have hk5 : Keep (fun j => (Value.slice eo m ec).ownBlock = some j) (V.alloc o) V' := Keep.of_grown g5 (fun _ e => e)
  have hcx := hc1.s5 (.slice po (m + 1) pc)
  have hrd : ∀ xo xc (b : List UInt8), Rd V (.slice xo b.length xc) b → (b ≠ [] → ∀ a, xo = some a → (Value.slice eo m ec).ownBlock ≠ some a.block) → Rd (V'.setCell ⟨Ib, 5, none⟩ (.slice po (m + 1) pc)) (.slice xo b.length xc) b := fun xo xc b hx hoff =>
    hc1.rd' ((hx.old hba).keep hk5 (fun hne j hj e9 => by
      obtain ⟨a9, ha9, hak⟩ := blk_of hj
      exact hoff hne a9 ha9 (by rw [hak]; exact e9))) 5 _
  have hlow : ∀ xo xc (b : List UInt8), Rd V (.slice xo b.length xc) b → b ≠ [] → ∀ a, xo = some a → a.block < V.heap.size := fun xo xc b hx hne a ha => rd_block hx hne a ha
  have hall : ∀ x ∈ E ++ [e], (Rd V (rcv x.r) x.r.b ∧ x.t < 18446744073709551616 ∧ x.i < 18446744073709551616 ∧ x.r.b.length ≤ 140737488355328) ∧ (x.r.b ≠ [] → ∀ a, x.r.a = some a → (Value.slice eo m ec).ownBlock ≠ some a.block) := fun x hx => by
    rcases List.mem_append.1 hx with hx | hx
    · exact ⟨h.each x hx, h.boff x hx⟩
    · obtain rfl := List.mem_singleton.1 hx
      exact ⟨he, fun _ a ha => (heo a ha).1⟩
  refine ⟨po, pc, rfl, ⟨_, (six_cells hc1.hi).2.2.2.2.2⟩, by simp [World.frozen?, hc1.hi], hcx.out, by rw [List.length_append, h.len]; rfl, ?_, own_keep (X := fun j => j = Ib) ?_ (Keep.set (X := fun j => j = Ib) V' ⟨Ib, 5, none⟩ _ rfl) (fun j hj e9 => by have := (o5.lt j hj).1; omega), fun x hx => ⟨hrd _ _ _ (hall x hx).1.1 (hall x hx).2, (hall x hx).1.2⟩, fun x hx hne a ha e9 => ?_, hrd _ _ _ h.sd h.soff, fun hne a ha e9 => ?_, fun X hX hW x hx hne a ha hxa => ?_, h.xs⟩
  · rw [List.map_append, h.pe, List.take_add_one, hp, ← hep]
    rfl
  · rw [List.map_append, List.flatten_append]
    exact o5
  · rcases f5 _ e9 with e8 | e8
    · exact (hall x hx).2 hne a ha e8
    · have := hlow _ _ _ (hall x hx).1.1 hne a ha
      omega
  · rcases f5 _ e9 with e8 | e8
    · exact h.soff hne a ha e8
    · have := hlow _ _ _ h.sd hne a ha
      omega
  · rcases List.mem_append.1 hx with hx | hx
    · exact h.xe X hX hW x hx hne a ha hxa
    · obtain rfl := List.mem_singleton.1 hx
      have := hX _ hxa
      have := (heo a ha).2
      omega
/-- Bytes do not lie in a log's block. -/
theorem off_log {V : World} {g a b d : Nat} {z : Int} {ao eo : Option Addr} {n1 c1 n2 c2 : Nat} {t : TypeId} (hg : V.heap[g]? = some (.cells #[.int .u64 (a : Int), .int .i64 z, .int .u64 (b : Int), .int .u64 (d : Int), .slice ao n1 c1, .slice eo n2 c2] t (0, 0))) {xo : Option Addr} {xc : Nat} {l : List UInt8} (hx : Rd V (.slice xo l.length xc) l) : l ≠ [] → ∀ k, blk (.slice xo l.length xc) = some k → k ≠ g := fun hne k hk e => by
  subst e
  obtain ⟨u, hu⟩ : ∃ u, l[0]? = some u := ⟨_, List.getElem?_eq_getElem (List.length_pos_iff.2 hne)⟩
  obtain ⟨b0, off, e2, hc⟩ := rd_get hx hu
  obtain ⟨a9, ha9, hak⟩ := blk_of hk
  rw [e2] at ha9
  cases ha9
  simp only at hak
  subst hak
  unfold World.cell? at hc
  rw [hg] at hc
  change (#[Value.int .u64 (a : Int), .int .i64 z, .int .u64 (b : Int), .int .u64 (d : Int), .slice ao n1 c1, .slice eo n2 c2] : Array Value)[off + 0]? = _ at hc
  rw [Nat.add_zero] at hc
  rcases off with _ | _ | _ | _ | _ | _ | off <;> simp [bv] at hc
theorem ChL.lo (h : ChL w V bw br R Ib was PI nv sa sc E eo ec m rest) (hm : PI.es.length ≤ m) (hnv : PI.hv = (nv : Int)) (hn5 : nv ≤ 5) (h1 : PI.ht < 18446744073709551616) (h2 : PI.si < 18446744073709551616) (h3 : PI.st < 18446744073709551616) (h4 : PI.sd.length ≤ 140737488355328) (h5 : m ≤ 140737488355328) :
    Lo.pl ⟨PI.ht, (nv : Int), PI.si, PI.st, ⟨sa, sc, PI.sd⟩, eo, ec, E⟩ = PI ∧ LoAt V ⟨PI.ht, (nv : Int), PI.si, PI.st, ⟨sa, sc, PI.sd⟩, eo, ec, E⟩ := by
  have hE : Ents V (.slice eo E.length ec) E := ents_own (B := Ib + 1) (by have h9 := h.own; rw [← h.len] at h9; exact h9) h.each
  refine ⟨?_, ⟨h.sd, hE, h1, h2, h3, by show _ ∧ _; simp only; omega, h4, by show E.length ≤ _; rw [h.len]; exact h5⟩⟩
  unfold Lo.pl
  simp only
  rw [← hnv, h.pe, List.take_of_length_le hm]
theorem six_set {V : World} {g : Nat} {x y z u p q : Value} {t : TypeId} (h : V.heap[g]? = some (.cells #[x, y, z, u, p, q] t (0, 0))) (x' y' z' u' p' q' : Value) :
    ((((((V.setCell ⟨g, 0, none⟩ x').setCell ⟨g, 1, none⟩ y').setCell ⟨g, 2, none⟩ z').setCell ⟨g, 3, none⟩ u').setCell ⟨g, 4, none⟩ p').setCell ⟨g, 5, none⟩ q').heap[g]? = some (.cells #[x', y', z', u', p', q'] t (0, 0)) :=
  set_at (k := 5) q' (set_at (k := 4) p' (set_at (k := 3) u' (set_at (k := 2) z' (set_at (k := 1) y' (set_at (k := 0) x' h)))))
theorem keep_six (V : World) (g : Nat) (x' y' z' u' p' q' : Value) : Keep (fun j => j = g) V ((((((V.setCell ⟨g, 0, none⟩ x').setCell ⟨g, 1, none⟩ y').setCell ⟨g, 2, none⟩ z').setCell ⟨g, 3, none⟩ u').setCell ⟨g, 4, none⟩ p').setCell ⟨g, 5, none⟩ q') :=
  (((((Keep.set (X := fun j => j = g) V ⟨g, 0, none⟩ x' rfl).trans (Keep.set (X := fun j => j = g) _ ⟨g, 1, none⟩ y' rfl)).trans (Keep.set (X := fun j => j = g) _ ⟨g, 2, none⟩ z' rfl)).trans (Keep.set (X := fun j => j = g) _ ⟨g, 3, none⟩ u' rfl)).trans (Keep.set (X := fun j => j = g) _ ⟨g, 4, none⟩ p' rfl)).trans (Keep.set (X := fun j => j = g) _ ⟨g, 5, none⟩ q' rfl)
/-- The result's cells are written. -/
theorem ChL.done (h : ChL w V bw br R Ib was PI nv sa sc E eo ec m rest) (x' y' z' u' p' q' : Value) :
    ChL w V bw br R Ib was PI nv sa sc E eo ec m rest ∧ (∀ V6, V6 = ((((((V.setCell ⟨br, 0, none⟩ x').setCell ⟨br, 1, none⟩ y').setCell ⟨br, 2, none⟩ z').setCell ⟨br, 3, none⟩ u').setCell ⟨br, 4, none⟩ p').setCell ⟨br, 5, none⟩ q') → LoAt V ⟨PI.ht, (nv : Int), PI.si, PI.st, ⟨sa, sc, PI.sd⟩, eo, ec, E⟩ → V6.heap[br]? = some (.cells #[x', y', z', u', p', q'] 30 (0, 0)) ∧ LoAt V6 ⟨PI.ht, (nv : Int), PI.si, PI.st, ⟨sa, sc, PI.sd⟩, eo, ec, E⟩ ∧ Below w.heap.size w V6) := by
  refine ⟨h, fun V6 hV hL => ?_⟩
  subst hV
  have hk := keep_six V br x' y' z' u' p' q'
  have hlt := h.chg.lt
  have hbo : ∀ xo xc (b : List UInt8), Rd V (.slice xo b.length xc) b → Rd _ (.slice xo b.length xc) b := fun xo xc b hx => hx.keep hk (fun hne j hj e => off_log (a := 0) (b := 0) (d := 0) h.chg.hr hx hne j hj e)
  refine ⟨six_set h.chg.hr _ _ _ _ _ _, ⟨hbo _ _ _ hL.sd, ?_, hL.ht, hL.si, hL.st, hL.hv, hL.sl, hL.el⟩, h.chg.below.trans ((hk.below h.chg.below.size (fun j e => by rw [e]; omega)))⟩
  refine ents_own (B := Ib + 1) (own_keep (by have h9 := h.own; rw [← h.len] at h9; exact h9) hk (fun j hj e => ?_)) (fun x hx => ⟨hbo _ _ _ (h.each x hx).1, (h.each x hx).2⟩)
  have h9 : (Value.slice eo E.length ec).ownBlock = some j := hj
  rw [h.len] at h9
  have := (h.own.lt j h9).1
  omega
end
theorem results_cell2 {P : Program} {fn : Func} {p u : Tmp} {ty : TypeId} (h : fn.results = #[.cell p ty, .tmp u]) (tmps : Array Value) (w : World) (g : Nat) (t : TypeId) (cs : Array Value) (fr : Nat × Nat) (d : TypeDesc)
    (hp : tmps.getD p undef = .pointer (some ⟨g, 0, none⟩)) (hg : w.heap[g]? = some (.cells cs t fr))
    (hu : P.underlying ty = some d) (hd : (match d with | .struct _ | .array _ _ => true | _ => false) = true) (hi : (P.info? ty).map (·.size) = some cs.size) :
    (results fn tmps).run P w = .ok (.tuple #[.agg cs, tmps.getD u undef]) w := by
  have hp' : tmps[p]?.getD undef = .pointer (some ⟨g, 0, none⟩) := by simpa using hp
  simp [results, h, hp', asAddr, run_loadVar_row w g t ty cs fr d hg hu hd hi]
theorem flat_drop (L : List Pe) (j : Nat) : ((L.drop j).flatMap entB).length ≤ (L.flatMap entB).length := by
  conv => rhs; rw [← List.take_append_drop j L, List.flatMap_append, List.length_append]
  omega

/-- What changed gives. -/
def ChaA (was : Lo) (PI : PL) (w : World) (en : Ending) (w' : World) : Prop := ∃ is : Lo, en = .returned (.tuple #[is.v, .bool true]) ∧ is.pl = PI ∧ LoAt w' is ∧ Below w.heap.size w w' ∧ ∀ X : Nat → Prop, (∀ k, X k → k < w.heap.size) → LoOff was X → LoOff is X

set_option maxHeartbeats 16000000 in
theorem changed_any (was : Lo) (PI : PL) (ao : Option Addr) (n c : Nat) (w : World) (hw : LoAt w was) (hn : n = (diffB was.pl PI).length) (hx : Rd w (.slice ao n c) (diffB was.pl PI)) (hr : rightP PI = true) (hht : PI.ht < 18446744073709551616) (hlong : longP PI ≤ 1000000000000) : Calls Tryz.prog 55 #[was.v, .slice ao n c] w (ChaA was PI w) := by
  have hrx := hr
  unfold rightP rightS at hrx
  simp only [Bool.and_eq_true, decide_eq_true_eq] at hrx
  obtain ⟨⟨hv5, hsi, hst, hz0, hsd⟩, hrE⟩ := hrx
  have hesl : PI.es.length ≤ 1000000000000 := by unfold longP at hlong; have : PI.es.length ≤ ((PI.es.map fun e : Pe => 13 + e.b.length).sum) := by { generalize PI.es = E; induction E with | nil => simp | cons x E ih => simp only [List.map_cons, List.sum_cons, List.length_cons]; omega }; omega
  have hdl := diff_len was.pl PI hr hht (by omega)
  obtain ⟨nv, hnv⟩ : ∃ nv, nv = PI.hv.toNat := ⟨_, rfl⟩
  have hnv2 : PI.hv = (nv : Int) := by omega
  have hnv5 : nv ≤ 5 := by omega
  obtain ⟨K, hK⟩ : ∃ K, K = keepP was.pl PI := ⟨_, rfl⟩
  obtain ⟨SNB, hSNB⟩ : ∃ SNB, SNB = snapB was.pl PI := ⟨_, rfl⟩
  obtain ⟨FL, hFL⟩ : ∃ FL, FL = (PI.es.drop K).flatMap entB := ⟨_, rfl⟩
  have hdB : diffB was.pl PI = numL PI.ht ++ (numL nv ++ (SNB ++ (numL K ++ FL))) := by rw [hnv, hSNB, hFL, hK]; rfl
  rw [hdB] at hx hn hdl
  have HDL : Hid ((numL PI.ht ++ (numL nv ++ (SNB ++ (numL K ++ FL)))).length ≤ 1000000000000) := Nat.le_trans hdl hlong
  have hnl : n ≤ 140737488355328 := by rw [hn]; exact Nat.le_trans (Nat.le_trans hdl hlong) (by omega)
  have hb : Below w.heap.size w ((w.alloc (.cells #[.int .u64 (was.ht : Int), .int .i64 was.hv, .int .u64 (was.si : Int), .int .u64 (was.st : Int), .slice was.sd.a was.sd.b.length was.sd.c, .slice was.eo was.es.length was.ec] 30)).alloc (.cells #[.int .u64 0, .int .i64 0, .int .u64 0, .int .u64 0, .slice none 0 0, .slice none 0 0] 30)) := ((Below.refl _ _).alloc (Nat.le_refl _) _).alloc (by simp) _
  have h0 := (Below.heap_alloc (w.alloc (.cells #[.int .u64 (was.ht : Int), .int .i64 was.hv, .int .u64 (was.si : Int), .int .u64 (was.st : Int), .slice was.sd.a was.sd.b.length was.sd.c, .slice was.eo was.es.length was.ec] 30)) (.cells #[.int .u64 0, .int .i64 0, .int .u64 0, .int .u64 0, .slice none 0 0, .slice none 0 0] 30) w.heap.size (by simp)).trans (heap_alloc_new w (.cells #[.int .u64 (was.ht : Int), .int .i64 was.hv, .int .u64 (was.si : Int), .int .u64 (was.st : Int), .slice was.sd.a was.sd.b.length was.sd.c, .slice was.eo was.es.length was.ec] 30))
  have h1 := heap_alloc2_new w (.cells #[.int .u64 (was.ht : Int), .int .i64 was.hv, .int .u64 (was.si : Int), .int .u64 (was.st : Int), .slice was.sd.a was.sd.b.length was.sd.c, .slice was.eo was.es.length was.ec] 30) (.cells #[.int .u64 0, .int .i64 0, .int .u64 0, .int .u64 0, .slice none 0 0, .slice none 0 0] 30)
  have HW := hid hw
  have HX := hid hx
  have HR := hid hr
  have HRE := hid hrE
  have HSNB := hid hSNB
  have HFL := hid hFL
  have HK := hid hK
  have HN := hid hn
  have HNV := hid hnv2
  have HLONG := hid hlong
  have HZ0 := hid hz0
  clear hw hx hr hrE hSNB hFL hK hn hdB hdl hnv hnv2 hlong hz0
  simp only [Lo.v]
  go_enter Tryz.func55, Tryz.ntmps55
  go_upto_region 1 with fail
  generalize (w.alloc (.cells #[.int .u64 (was.ht : Int), .int .i64 was.hv, .int .u64 (was.si : Int), .int .u64 (was.st : Int), .slice was.sd.a was.sd.b.length was.sd.c, .slice was.eo was.es.length was.ec] 30)).alloc (.cells #[.int .u64 0, .int .i64 0, .int .u64 0, .int .u64 0, .slice none 0 0, .slice none 0 0] 30) = w1 at *
  have CN := hid (cnew_any w1 _ _ (HX.out.old hb) (by rw [← HN.out]; exact hnl))
  have HB1 := hid hb
  have H0 := hid h0
  have H1 := hid h1
  clear hb h0 h1
  go_upto_region 2 with (first | (go_at_call 79; refine CN.out.mono ?_; rintro en w2 ⟨R, rfl, hR1, hRA, hb2⟩))
  obtain ⟨z0, z1, z2, z3, z4, z5⟩ := six_cells ((hb2.block _ (lt_of_block H0.out)).trans H0.out)
  have HRA := hid hRA
  have HB2 := hid hb2
  have HR1 := hid hR1
  clear hRA hb2 hR1 CN
  go_upto_region 3 with fail
  obtain ⟨bw, hbw⟩ : ∃ bw, bw = w.heap.size := ⟨_, rfl⟩
  obtain ⟨br, hbr⟩ : ∃ br, br = w.heap.size + 1 := ⟨_, rfl⟩
  obtain ⟨Ib, hIb⟩ : ∃ Ib, Ib = w2.heap.size := ⟨_, rfl⟩
  have hba : Below w2.heap.size w2 (w2.alloc (.cells #[.int .u64 0, .int .i64 0, .int .u64 (was.si : Int), .int .u64 (was.st : Int), .slice was.sd.a was.sd.b.length was.sd.c, .slice none 0 0] 30)) := (Below.refl _ _).alloc (Nat.le_refl _) _
  have hC3 : Chg w (w2.alloc (.cells #[.int .u64 0, .int .i64 0, .int .u64 (was.si : Int), .int .u64 (was.st : Int), .slice was.sd.a was.sd.b.length was.sd.c, .slice none 0 0] 30)) w.heap.size (w.heap.size + 1) R w2.heap.size was #[.int .u64 0, .int .i64 0, .int .u64 (was.si : Int), .int .u64 (was.st : Int), .slice was.sd.a was.sd.b.length was.sd.c, .slice none 0 0] (numL PI.ht ++ (numL nv ++ (SNB ++ (numL K ++ FL)))) := by
    have hb12 := HB1.out.trans (HB2.out.mono HB1.out.size)
    exact ⟨(hba.block _ (Nat.lt_of_lt_of_le (lt_of_block H0.out) HB2.out.size)).trans ((HB2.out.block _ (lt_of_block H0.out)).trans H0.out), (hba.block _ (Nat.lt_of_lt_of_le (lt_of_block H1.out) HB2.out.size)).trans ((HB2.out.block _ (lt_of_block H1.out)).trans H1.out), heap_alloc_new _ _, HRA.out.old hba, ⟨by have := HR1.out; have := lt_of_block H1.out; omega, by have := HR1.out; have := lt_of_block H1.out; omega, HRA.out.lt, Nat.le_refl _, by omega, by omega⟩, hb12.trans (hba.mono hb12.size)⟩
  rw [← hbr, ← hbw, ← hIb] at hC3
  rw [← hIb] at hba
  rw [← hbr, ← hbw, ← hIb]
  have HBW : Hid (bw = w.heap.size) := hbw
  clear hbw hbr hIb z0 z1 z2 z3 z4 z5
  have HC3 := hid hC3
  clear hC3 hba HRA HB2 HR1
  generalize w2.alloc (.cells #[.int .u64 0, .int .i64 0, .int .u64 (was.si : Int), .int .u64 (was.st : Int), .slice was.sd.a was.sd.b.length was.sd.c, .slice none 0 0] 30) = w3 at *
  have CN3 := hid (HC3.out.num (by omega))
  go_upto_region 4 with (first | (go_at_call 80; refine CN3.out.mono ?_; rintro en w4 ⟨rfl, HC4, -⟩; obtain ⟨-, ⟨x0, x1, x2, x3, x4, x5⟩, fz, -⟩ := HC4.out.cells; have f0 := fz 0; clear fz x1 x2 x3 x4 x5))
  have HC4' := HC4.out.s0 (.int .u64 (PI.ht : Int))
  clear x0 f0 HC3 CN3
  generalize w4.setCell ⟨Ib, 0, none⟩ (.int .u64 (PI.ht : Int)) = w4' at *
  have CN4 := hid (HC4'.out.small 5 (by decide) (by omega) (by unfold nn; simp; have := HNV.out; omega))
  go_upto_region 5 with (first | (go_at_call 81; refine CN4.out.mono ?_; rintro en w5 ⟨rfl, HC5, -⟩; obtain ⟨-, ⟨x0, x1, x2, x3, x4, x5⟩, fz, -⟩ := HC5.out.cells; have f1 := fz 1; clear fz x0 x2 x3 x4 x5))
  have HC5' := HC5.out.s1 (.int .i64 (nv : Int))
  clear x1 f1 HC4 HC4' CN4
  generalize w5.setCell ⟨Ib, 1, none⟩ (.int .i64 (nv : Int)) = w5' at *
  obtain ⟨sb, hsb⟩ : ∃ sb, sb = decide (was.pl.si = PI.si ∧ was.pl.st = PI.st ∧ was.pl.sd = PI.sd) := ⟨_, rfl⟩
  have HS1 : Hid (sb = true → (was.si = PI.si ∧ was.st = PI.st ∧ was.sd.b = PI.sd) ∧ SNB = numL 0) := fun h => by rw [HSNB.out]; exact ⟨of_decide_eq_true (hsb.symm.trans h), if_pos (of_decide_eq_true (hsb.symm.trans h))⟩
  have HS2 : Hid (sb = false → SNB = numL 1 ++ (numL PI.si ++ (numL PI.st ++ textL PI.sd))) := fun h => by rw [HSNB.out]; exact if_neg (of_decide_eq_false (hsb.symm.trans h))
  clear hsb
  obtain ⟨fl, RS, hfl, hRS, hfs⟩ : ∃ (fl : Nat) (RS : List UInt8), fl ≤ 1 ∧ SNB = numL fl ++ RS ∧ ((fl = 0 ∧ RS = [] ∧ was.si = PI.si ∧ was.st = PI.st ∧ was.sd.b = PI.sd) ∨ (fl = 1 ∧ RS = numL PI.si ++ (numL PI.st ++ textL PI.sd))) := by
    cases sb with
    | true => exact ⟨0, [], by omega, by rw [(HS1.out rfl).2, List.append_nil], .inl ⟨rfl, rfl, (HS1.out rfl).1⟩⟩
    | false => exact ⟨1, _, by omega, HS2.out rfl, .inr ⟨rfl, rfl⟩⟩
  have hC5 : Chg w w5' bw br R Ib was #[.int .u64 (PI.ht : Int), .int .i64 (nv : Int), .int .u64 (was.si : Int), .int .u64 (was.st : Int), .slice was.sd.a was.sd.b.length was.sd.c, .slice none 0 0] (numL fl ++ (RS ++ (numL K ++ FL))) := by have h9 := HC5'.out; rw [hRS, List.append_assoc] at h9; exact h9
  have CN5 := hid (hC5.small 1 (by decide) (by omega) (by unfold nn; simp; omega))
  have HRS := hid hRS
  have HFS := hid hfs
  clear hC5 HC5 HC5' hRS hfs HS1 HS2
  go_upto_if 25 with (first | (go_at_call 81; refine CN5.out.mono ?_; rintro en w6 ⟨rfl, HC6, -⟩))
  have hsd2 : PI.sd.length ≤ 32668 := hsd
  go_cut [] from 25 to 37 (fun wx => ∃ sa sc, Hid (Chg w wx bw br R Ib was #[.int .u64 (PI.ht : Int), .int .i64 (nv : Int), .int .u64 (PI.si : Int), .int .u64 (PI.st : Int), .slice sa PI.sd.length sc, .slice none 0 0] (numL K ++ FL)) ∧ Hid (Rd wx (.slice sa PI.sd.length sc) PI.sd) ∧ Hid (∀ X : Nat → Prop, (∀ k, X k → k < w.heap.size) → LoOff was X → PI.sd ≠ [] → ∀ a, sa = some a → ¬ X a.block))
  case first =>
    rcases HFS.out with ⟨rfl, hrs, e1, e2, e3⟩ | ⟨rfl, hrs⟩
    · have hC6 := HC6.out
      rw [hrs, List.nil_append, e1, e2] at hC6
      have HC6' : Hid (Chg w w6 bw br R Ib was #[.int .u64 (PI.ht : Int), .int .i64 (nv : Int), .int .u64 (PI.si : Int), .int .u64 (PI.st : Int), .slice was.sd.a PI.sd.length was.sd.c, .slice none 0 0] (numL K ++ FL)) := by rw [e3] at hC6; exact hC6
      have HRd : Hid (Rd w6 (.slice was.sd.a PI.sd.length was.sd.c) PI.sd) := by have h9 := HW.out.sd.old HC6.out.below; rw [e3] at h9; exact h9
      have HXS : Hid (∀ X : Nat → Prop, (∀ k, X k → k < w.heap.size) → LoOff was X → PI.sd ≠ [] → ∀ a, was.sd.a = some a → ¬ X a.block) := fun X _ hW hne a ha => hW.1 (by rw [e3]; exact hne) a ha
      clear hC6 hrs e1 e2 e3 HC6 HFS CN5
      go_wp2_with fail
      go_meet
      exact ⟨_, _, HC6', HRd, HXS⟩
    · have hC6 := HC6.out
      rw [hrs, List.append_assoc, List.append_assoc] at hC6
      have CN6 := hid (hC6.num (by have := HR.out; omega))
      clear hC6 hrs HC6 HFS CN5
      go_upto_region 7 with (first | (go_at_call 80; refine CN6.out.mono ?_; rintro en w7 ⟨rfl, HC7, -⟩; obtain ⟨-, ⟨x0, x1, x2, x3, x4, x5⟩, fz, -⟩ := HC7.out.cells; have f2 := fz 2; clear fz x0 x1 x3 x4 x5))
      have HC7' := HC7.out.s2 (.int .u64 (PI.si : Int))
      clear x2 f2 HC7 CN6
      generalize w7.setCell ⟨Ib, 2, none⟩ (.int .u64 (PI.si : Int)) = w7' at *
      have CN7 := hid (HC7'.out.num (by omega))
      go_upto_region 8 with (first | (go_at_call 80; refine CN7.out.mono ?_; rintro en w8 ⟨rfl, HC8, -⟩; obtain ⟨-, ⟨x0, x1, x2, x3, x4, x5⟩, fz, -⟩ := HC8.out.cells; have f3 := fz 3; clear fz x0 x1 x2 x4 x5))
      have HC8' := HC8.out.s3 (.int .u64 (PI.st : Int))
      clear x3 f3 HC7' HC8 CN7
      generalize w8.setCell ⟨Ib, 3, none⟩ (.int .u64 (PI.st : Int)) = w8' at *
      have CN8 := hid (HC8'.out.text hsd2 (by have h9 := HDL.out; have h8 := numL_len10 (v := PI.sd.length) (by omega); simp only [List.length_append, textL] at h9 ⊢; omega))
      go_wp2_with (first | (go_at_call 82; refine CN8.out.mono ?_; rintro en w9 ⟨sa, sc, rfl, HRd, HC9, HT9⟩; obtain ⟨-, ⟨x0, x1, x2, x3, x4, x5⟩, fz, -⟩ := HC9.out.cells; have f4 := fz 4; clear fz x0 x1 x2 x3 x5; have HC9' := HC9.out.s4 (.slice sa PI.sd.length sc); have HRd' : Hid (Rd (w9.setCell ⟨Ib, 4, none⟩ (.slice sa PI.sd.length sc)) (.slice sa PI.sd.length sc) PI.sd)  := hid (HC9.out.rd' HRd.out 4 _)))
      have HXS : Hid (∀ X : Nat → Prop, (∀ k, X k → k < w.heap.size) → LoOff was X → PI.sd ≠ [] → ∀ a, sa = some a → ¬ X a.block) := fun X hX _ _ a ha hxa => by have := hX _ hxa; have := HT9.out.2.2 a ha; have := HC8'.out.below.size; omega
      go_meet
      exact ⟨_, _, HC9', HRd', HXS⟩
  case rest =>
  obtain ⟨sa, sc, HC10, HRd, HXS⟩ := hcut
  generalize wc = w10 at *
  clear HFS HC6 CN5 HRS
  have hrS : rightS (Lo.pl (⟨PI.ht, (nv : Int), PI.si, PI.st, ⟨sa, sc, PI.sd⟩, none, 0, []⟩ : Lo)) = true := by
    unfold rightS Lo.pl
    simp only [decide_eq_true_eq]
    exact ⟨hsi, hst, HZ0.out, hsd2⟩
  have CR10 := rightS_any (⟨PI.ht, (nv : Int), PI.si, PI.st, ⟨sa, sc, PI.sd⟩, none, 0, []⟩ : Lo) (by show PI.sd.length ≤ _; omega) w10
  rw [hrS] at CR10
  simp only [Lo.v, List.length_nil] at CR10
  have CR := hid CR10
  clear CR10 hrS
  obtain ⟨-, ⟨x0, x1, x2, x3, x4, x5⟩, -, -⟩ := HC10.out.cells
  go_upto_region 11 with (first | (go_at_call 27; refine CR.out.mono ?_; rintro en w11 ⟨rfl, hb11⟩; have HC11 := hid (HC10.out.old hb11); have HRd11 := hid (HRd.out.old hb11)))
  clear x0 x1 x2 x3 x4 x5 hb11 CR HC10 HRd
  have CB11 := hid (behind_any was PI.si w11 (HW.out.old HC11.out.below) (by omega))
  obtain ⟨⟨y0, y1, y2, y3, y4, y5⟩, ⟨x0, x1, x2, x3, x4, x5⟩, -, -⟩ := HC11.out.cells
  clear x0 x1 x3 x4 x5
  go_upto_region 12 with (first | (go_at_call 83; refine CB11.out.mono ?_; unfold BehA; rintro en w12 ⟨dd, ba, bn, bc, hdd, hbd, hbn, rfl, hE12, hb12⟩; have HBN := hid hbn; have HBD := hid hbd; clear hbn hbd))
  have HC12 := hid (HC11.out.old hb12)
  have HRd12 := hid (HRd11.out.old hb12)
  have HE12 := hid (hE12.out.old hb12)
  have hKle := (alike_le (behindP was.pl PI.si) PI.es)
  have hKb : K ≤ bn := by rw [HK.out, HBN.out]; have h9 := hKle.1; unfold keepP; rw [← HBD.out, List.length_map] at h9; rw [← HBD.out]; exact h9
  have hKe : K ≤ PI.es.length := by rw [HK.out]; exact hKle.2
  have HTK : Hid (((was.es.drop dd).take K).map En.pe = PI.es.take K) := by show _ = _; rw [List.map_take, HBD.out, HK.out]; exact alike_take _ _
  have hbnl : bn ≤ 140737488355328 := by rw [HBN.out, List.length_drop]; have := HW.out.el; omega
  clear y0 y1 y2 y3 y4 y5 x2 hE12 hb12 HBD hdd hKle CB11 HC11 HRd11
  have hlb := fun W => run_len_slice (P := Tryz.prog) W 28 3 ba bn bc Tryz.underlying28
  have CS12 := hid (HC12.out.small (bn : Int) (wf64 (by omega) (by omega)) (by omega) (by unfold nn; simp; exact hKb))
  obtain ⟨zo, zc, hzs, hzb, -⟩ := HE12.out.1.head (P := Tryz.prog) 28 63 Tryz.underlying28 (by kernel_rfl) K (by rw [List.length_map, ← HBN.out]; exact hKb)
  have hzs2 : ∀ W, (Instr.slice 28 (.slice ba bn bc) none (some (.int .i64 (K : Int))) none).run Tryz.prog W = .ok (.slice zo K zc) W := fun W => hzs _ W
  obtain ⟨E0, hE0⟩ : ∃ E0, E0 = (was.es.drop dd).take K := ⟨_, rfl⟩
  have hzb2 : Rws 3 w12 (.slice zo K zc) (E0.map rowE) := by rw [hE0, List.map_take]; exact hzb
  have HXE : Hid (∀ e ∈ E0, e ∈ was.es) := fun e he => List.mem_of_mem_drop (List.mem_of_mem_take (by rw [← hE0]; exact he))
  have HE0 : Hid (E0.length = K ∧ E0.map En.pe = PI.es.take K ∧ ∀ e ∈ E0, Rd w12 (rcv e.r) e.r.b ∧ e.t < 18446744073709551616 ∧ e.i < 18446744073709551616 ∧ e.r.b.length ≤ 140737488355328) := ⟨by rw [hE0, List.length_take, ← HBN.out]; omega, by rw [hE0]; exact HTK.out, fun e he => HE12.out.2 e (List.mem_of_mem_take (by rw [← hE0]; exact he))⟩
  have HZB := hid hzb2
  have hkbI : (K : Int) ≤ (bn : Int) := by omega
  clear hzs hzb hzb2 hE0 HTK HE12
  obtain ⟨-, ⟨x0, x1, x2, x3, x4, x5⟩, fz, -⟩ := HC12.out.cells
  clear x0 x1 x2 x3 x4 x5 fz
  go_wp2_with (first | (go_at_call 81; refine CS12.out.mono ?_; rintro en w13 ⟨rfl, HC13, HP13⟩))
  have HRd13 : Hid (Rd w13 (.slice sa PI.sd.length sc) PI.sd) := HP13.out.1 _ _ _ HRd12.out
  have HE13 : Hid (Ents w13 (.slice zo K zc) E0) := HP13.out.2 _ _ _ _ HE0.out.1.symm ⟨HZB.out, HE0.out.2.2⟩
  have CC13 := hid (cloneE_any (.slice zo K zc) (E0.map rowE) w13 HE13.out.1 (by rw [List.length_map, HE0.out.1]; omega))
  clear CS12 HP13 HRd12 HZB HC12
  go_upto_region 13 with (first | (go_at_call 62; refine CC13.out.mono ?_; rintro en w14 ⟨y14, rfl, ho14, hb14⟩; have HC14 := hid (HC13.out.old hb14); have HO14 : Hid (w14.ownsRow w13.heap.size 63 3 y14 K (E0.map rowE).flatten) := (by have h9 := ho14; rw [List.length_map, HE0.out.1] at h9; exact h9); have HB14 := hid hb14; clear ho14 hb14; obtain ⟨yo, yc, rfl⟩ := own_form HO14.out; obtain ⟨-, ⟨x0, x1, x2, x3, x4, x5⟩, fz, -⟩ := HC14.out.cells; have f5 := fz 5; clear x0 x1 x2 x3 x4 fz))
  have HC15 := HC14.out.s5 (.slice yo K yc)
  have hL0 : ChL w (w14.setCell ⟨Ib, 5, none⟩ (.slice yo K yc)) bw br R Ib was PI nv sa sc E0 yo yc K FL := by
    have hib : Ib + 1 ≤ w13.heap.size := by have := lt_of_block HC13.out.hi; omega
    have hown := ownsRow_base HO14.out hib
    have hlow : ∀ xo xc (b : List UInt8), Rd w13 (.slice xo b.length xc) b → b ≠ [] → ∀ a, xo = some a → (Value.slice yo K yc).ownBlock ≠ some a.block := fun xo xc b hx hne a ha e9 => by have := rd_block hx hne a ha; have := (HO14.out.lt _ e9).1; omega
    exact ⟨HC15.out, HE0.out.1, HE0.out.2.1, own_keep hown (Keep.set (X := fun j => j = Ib) w14 ⟨Ib, 5, none⟩ _ rfl) (fun j hj e9 => by have := (hown.lt j hj).1; omega), fun x hx => ⟨HC14.out.rd' (((HE13.out.2 x hx).1).old HB14.out) 5 _, (HE13.out.2 x hx).2⟩, fun x hx => hlow _ _ _ (HE13.out.2 x hx).1, HC14.out.rd' (HRd13.out.old HB14.out) 5 _, hlow _ _ _ HRd13.out, fun X _ hW x hx hne a ha => hW.2.1 x (HXE.out x hx) hne a ha, HXS.out⟩
  have HL0 := hid hL0
  clear hL0 HC15 HO14 HB14 HC14 HE13 HC13 HRd13 CC13 HE0 hlb hzs2 hkbI f5 x5
  generalize w14.setCell ⟨Ib, 5, none⟩ (.slice yo K yc) = w15 at *
  obtain ⟨ES, hES⟩ : ∃ ES, ES = PI.es := ⟨_, rfl⟩
  have HES := hid hES
  obtain ⟨N0, hN0⟩ : ∃ N0, N0 = ES.length := ⟨_, rfl⟩
  have HN0 := hid hN0
  rw [← hES, ← hN0] at hKe hesl
  have HFL2 : Hid (FL = (ES.drop K).flatMap entB) := by show _ = _; rw [hES]; exact HFL.out
  clear hES hN0
  go_loopg [] (N0 + 1) (fun gk wr => ∃ (m : Nat) (E : List En) (eo : Option Addr) (ec : Nat), m + gk = N0 + 1 + K ∧ K ≤ m ∧ m ≤ N0 ∧ Hid (ChL w wr bw br R Ib was PI nv sa sc E eo ec m ((ES.drop m).flatMap entB)))
  case atStart => exact ⟨K, E0, yo, yc, by omega, Nat.le_refl _, hKe, by rw [← HFL2.out]; exact HL0⟩
  case round =>
    obtain ⟨m, E, eo, ec, hmg, hKm, hmN, HL⟩ := hrel
    have CLe := hid (left_any wr R _ 0 HL.out.chg.rd)
    have CEr := hid (err_any wr R _ 0 HL.out.chg.rd)
    by_cases hlt : m < N0
    · have hv := List.getElem?_eq_getElem (l := ES) (i := m) (by have := HN0.out; omega)
      generalize ES[m]'_ = p at hv
      obtain ⟨RSm, hRSm⟩ : ∃ RSm, RSm = (ES.drop (m + 1)).flatMap entB := ⟨_, rfl⟩
      have hdr : (ES.drop m).flatMap entB = numL p.t ++ (textL p.b ++ RSm) := by
        have hm9 : m < ES.length := (List.getElem?_eq_some_iff.1 hv).1
        rw [List.drop_eq_getElem_cons hm9, (List.getElem?_eq_some_iff.1 hv).2, List.flatMap_cons, hRSm]
        unfold entB textL
        simp only [List.append_assoc]
      rw [hdr] at CLe
      have HLm : Hid (ChL w wr bw br R Ib was PI nv sa sc E eo ec m (numL p.t ++ (textL p.b ++ RSm))) := by have h9 := HL.out; rw [hdr] at h9; exact h9
      have hpos : 0 < (numL p.t ++ (textL p.b ++ RSm)).length := by have := numL_pos p.t; rw [List.length_append]; omega
      obtain ⟨ll, hll⟩ : ∃ ll, ll = (numL p.t ++ (textL p.b ++ RSm)).length := ⟨_, rfl⟩
      rw [← hll] at CLe hpos
      have hposI : (0 : Int) < (ll : Int) := by omega
      have hpr := rightE_get HRE.out m p (by rw [← HES.out]; exact hv)
      have hpt : p.t < 18446744073709551616 := by have := hpr.2.2.1; omega
      have hpb : p.b.length ≤ 32668 := hpr.2.2.2
      have hpi : p.i = PI.si + m + 1 := hpr.1
      have HPI := hid hpi
      have hRS := hid hRSm
      have HPV : Hid (PI.es[m]? = some p) := by show _ = _; rw [← HES.out]; exact hv
      have HTL9 : Hid ((textL p.b ++ RSm).length ≤ 140737488355328) := by
        have h9 := HDL.out
        have h8 : ((ES.drop m).flatMap entB).length ≤ FL.length := by
          rw [HFL2.out, show ES.drop m = (ES.drop K).drop (m - K) from by rw [List.drop_drop]; congr 1; omega]
          exact flat_drop _ _
        rw [hdr] at h8
        simp only [List.length_append] at h8 h9 ⊢
        show _ ≤ _
        omega
      have hm64 : IntKind.u64.wrap (m : Int) = (m : Int) := by rw [wrap_u64]; omega
      have hs1 : IntKind.u64.wrap ((PI.si : Int) + (m : Int)) = (PI.si : Int) + (m : Int) := by rw [wrap_u64]; omega
      have hs2 : IntKind.u64.wrap ((PI.si : Int) + (m : Int) + 1) = (PI.si : Int) + (m : Int) + 1 := by rw [wrap_u64]; omega
      have hsi2 : PI.si ≤ 4611686018427387904 := hsi
      have hml : m ≤ 1000000000000 := by omega
      have hlm := fun W => run_len_slice (P := Tryz.prog) W 28 3 eo m ec Tryz.underlying28
      obtain ⟨-, ⟨x0, x1, x2, x3, x4, x5⟩, -, -⟩ := HLm.out.chg.cells
      obtain ⟨gk1, hgk1⟩ : ∃ gk1, gk1 = gk - 1 := ⟨_, rfl⟩
      clear hdr hv hRSm hll hpr hpos HL x0 x1 x3 x4
      go_upto_region 15 with (first | (go_at_call 84; refine CLe.out.mono ?_; rintro en w' ⟨rfl, rfl⟩) | (go_at_call 85; refine CEr.out.mono ?_; rintro en w' ⟨rfl, rfl⟩))
      clear x2 x5 hposI hm64 hs1 hs2 hlm CLe CEr
      obtain ⟨ix, hix⟩ : ∃ ix : Nat, ix = PI.si + m + 1 := ⟨_, rfl⟩
      have hixI : (PI.si : Int) + (m : Int) + 1 = (ix : Int) := by omega
      rw [hixI]
      have HIX := hid hix
      have hixl : ix < 18446744073709551616 := by omega
      clear hixI hix hpi
      have HLd : Hid (ChL w wr.drew bw br R Ib was PI nv sa sc E eo ec m (numL p.t ++ (textL p.b ++ RSm))) := HLm.out.old ⟨rfl, rfl, rfl, Nat.le_refl _, fun _ _ => rfl⟩
      refine wp_region_noPanic ?_
      refine wp_region_held_drew (S := fun _ => Hid True) (by kernel_rfl) (hid trivial) (fun hHeld => ?_)
      generalize wr.drew = Wd at *
      have CNm := hid (HLd.out.chg.num (by omega))
      have q5d := HLd.out.chg.cells.2.1.2.2.2.2.2
      refine wpAnyH_take (i := 0) (v := (.pointer (some ⟨Ib, 5, none⟩))) rfl (by kernel_rfl) (by kernel_rfl) (by kernel_rfl) (fun _ _ _ h => (show False from h).elim) ?xyVG1 ?xhVG1 ?xrVG1
      case xhVG1 => exact hHeld
      case xyVG1 => exact Or.inl ⟨by rfl, fun W9 hW => by clear hHeld; simp only [List.getElem_toArray, List.getElem_cons_succ, List.getElem_cons_zero]; go_simp⟩
      simp only [Act.put, List.getElem_toArray, List.getElem_cons_succ, List.getElem_cons_zero, List.setIfInBounds_toArray, List.set_cons_succ, List.set_cons_zero]
      refine wpAnyH_take (i := 2) (v := (.int .u64 (ix : Int))) rfl (by kernel_rfl) (by kernel_rfl) (by kernel_rfl) (fun _ _ _ h => (show False from h).elim) ?xyVG2 ?xhVG2 ?xrVG2
      case xhVG2 => exact hHeld
      case xyVG2 => exact Or.inl ⟨by rfl, fun W9 hW => by clear hHeld; simp only [List.getElem_toArray, List.getElem_cons_succ, List.getElem_cons_zero]; go_simp⟩
      simp only [Act.put, List.getElem_toArray, List.getElem_cons_succ, List.getElem_cons_zero, List.setIfInBounds_toArray, List.set_cons_succ, List.set_cons_zero]
      refine wpAnyH_take (i := 3) (v := (.pointer (some ⟨R, 0, none⟩))) rfl (by kernel_rfl) (by kernel_rfl) (by kernel_rfl) (fun _ _ _ h => (show False from h).elim) ?xyVG3 ?xhVG3 ?xrVG3
      case xhVG3 => exact hHeld
      case xyVG3 => exact Or.inl ⟨by rfl, fun W9 hW => by clear hHeld; simp only [List.getElem_toArray, List.getElem_cons_succ, List.getElem_cons_zero]; go_simp⟩
      simp only [Act.put, List.getElem_toArray, List.getElem_cons_succ, List.getElem_cons_zero, List.setIfInBounds_toArray, List.set_cons_succ, List.set_cons_zero]
      refine wpAnyH_take (i := 5) (v := (.pointer (some ⟨R, 0, none⟩))) rfl (by kernel_rfl) (by kernel_rfl) (by kernel_rfl) (fun _ _ _ h => (show False from h).elim) ?xyVG4 ?xhVG4 ?xrVG4
      case xhVG4 => exact hHeld
      case xyVG4 => exact Or.inl ⟨by rfl, fun W9 hW => by clear hHeld; simp only [List.getElem_toArray, List.getElem_cons_succ, List.getElem_cons_zero]; go_simp⟩
      simp only [Act.put, List.getElem_toArray, List.getElem_cons_succ, List.getElem_cons_zero, List.setIfInBounds_toArray, List.set_cons_succ, List.set_cons_zero]
      refine wpAnyH_ready (rs := [1, 4]) (by kernel_rfl) (by simp) ?_
      refine AllReadyH.cons rfl (fun K hK => ?_) (AllReadyH.cons rfl (fun K hK => ?_) AllReadyH.nil)
      · go_simp
        refine hK.out _ _ (hid trivial) (fun hHeld => ?_)
        clear hK K
        refine wpAnyH_ready (rs := [4]) (by kernel_rfl) (by simp) ?_
        refine AllReadyH.cons rfl (fun K hK => ?_) AllReadyH.nil
        go_simp
        go_wp2_with (first | (go_at_call 80; refine CNm.out.mono ?_; rintro en wA ⟨rfl, HCA, HPA⟩; have HLA := hid (HLd.out.move HPA.out.1 HPA.out.2 HCA.out); have CTx := hid (HLA.out.chg.text hpb HTL9.out); have q5a := HLA.out.chg.cells.2.1.2.2.2.2.2))
        refine hK.out _ _ (hid trivial) (fun hHeld => ?_)
        clear hK K
        refine wpAnyH_ready (rs := [6]) (by kernel_rfl) (by simp) ?_
        refine AllReadyH.cons rfl (fun K hK => ?_) AllReadyH.nil
        go_simp
        go_wp2_with (first | (go_at_call 82; refine CTx.out.mono ?_; rintro en wT ⟨ta, tc, rfl, HRT, HCT, HPT⟩; have HLT := hid (HLA.out.move HPT.out.1 HPT.out.2.1 HCT.out); have q5t := HLT.out.chg.cells.2.1.2.2.2.2.2; have HTO : Hid (∀ a, ta = some a → (Value.slice eo m ec).ownBlock ≠ some a.block ∧ w.heap.size ≤ a.block) := hid fun a ha => ⟨fun e9 => (by have := HPT.out.2.2 a ha; have := (HLA.out.own.lt _ e9).2; omega), (by have := HPT.out.2.2 a ha; have := HLA.out.chg.below.size; omega)⟩))
        refine hK.out _ _ (hid trivial) (fun hHeld => ?_)
        clear hK K
        refine wpAnyH_take (i := 7) (v := (.agg #[.int .u64 (p.t : Int), .int .u64 (ix : Int), .slice ta p.b.length tc])) rfl (by kernel_rfl) (by kernel_rfl) (by kernel_rfl) (fun _ _ _ h => (show False from h).elim) ?xyVG5 ?xhVG5 ?xrVG5
        case xhVG5 => exact hHeld
        case xyVG5 => exact Or.inl ⟨by rfl, fun W9 hW => by clear hHeld; simp only [List.getElem_toArray, List.getElem_cons_succ, List.getElem_cons_zero]; go_simp⟩
        simp only [Act.put, List.getElem_toArray, List.getElem_cons_succ, List.getElem_cons_zero, List.setIfInBounds_toArray, List.set_cons_succ, List.set_cons_zero]
        refine wpAnyH_ready (rs := [8]) (by kernel_rfl) (by simp) ?_
        refine AllReadyH.cons rfl (fun K hK => ?_) AllReadyH.nil
        go_simp
        refine hK.out _ _ (hid trivial) (fun hHeld => ?_)
        clear hK K
        have hbu : Below wT.heap.size wT (wT.alloc (.cells #[.int .u64 (p.t : Int), .int .u64 (ix : Int), .slice ta p.b.length tc] 63)) := (Below.refl _ _).alloc (Nat.le_refl _) _
        have HEV : Hid (Rd wT (rcv ((⟨p.t, ix, ⟨ta, tc, p.b⟩⟩ : En) : En).r) ((⟨p.t, ix, ⟨ta, tc, p.b⟩⟩ : En) : En).r.b ∧ ((⟨p.t, ix, ⟨ta, tc, p.b⟩⟩ : En) : En).t < 18446744073709551616 ∧ ((⟨p.t, ix, ⟨ta, tc, p.b⟩⟩ : En) : En).i < 18446744073709551616 ∧ ((⟨p.t, ix, ⟨ta, tc, p.b⟩⟩ : En) : En).r.b.length ≤ 140737488355328) := ⟨HRT.out, hpt, hixl, by show p.b.length ≤ _; omega⟩
        have HRW : Hid (Rws 3 (wT.alloc (.cells #[.int .u64 (p.t : Int), .int .u64 (ix : Int), .slice ta p.b.length tc] 63)) (.slice (some ⟨wT.heap.size, 0, none⟩) 1 1) [rowE (⟨p.t, ix, ⟨ta, tc, p.b⟩⟩ : En)]) := Rws.one (r := rowE (⟨p.t, ix, ⟨ta, tc, p.b⟩⟩ : En)) rfl ⟨rfl, fun u hu => by simp only [rowE, rcv, List.mem_cons, List.not_mem_nil, or_false] at hu; rcases hu with rfl | rfl | rfl <;> rfl⟩
        have HOW := hid (own_old HLT.out.own hbu)
        have HSW : Hid (Ib + 1 ≤ (wT.alloc (.cells #[.int .u64 (p.t : Int), .int .u64 (ix : Int), .slice ta p.b.length tc] 63)).heap.size) := by have := lt_of_block HLT.out.chg.hi; have := hbu.size; show _ ≤ _; omega
        have q5u := cell_alloc q5t (.cells #[.int .u64 (p.t : Int), .int .u64 (ix : Int), .slice ta p.b.length tc] 63)
        clear hbu
        refine wpAnyH_ready (rs := [9]) (by kernel_rfl) (by simp) ?_
        refine AllReadyH.cons rfl (fun K hK => ?_) AllReadyH.nil
        refine step_rapp9 (.tmp 73) (.tmp 80) 28 (by rfl) (Ib + 1) 3 40 63 Tryz.underlying28 _ info_entry (by simp [Value.cells]) (by decide) _ m (E.map rowE).flatten (by rfl) HOW.out _ [rowE (⟨p.t, ix, ⟨ta, tc, p.b⟩⟩ : En)] (by rfl) HRW.out (by simp; omega) (by simp [maxLen]; omega) HSW.out (by first | rfl | (simp [Region.wanted, yielded]; done)) (fun v' w' o5 g5 f5 => ?_)
        obtain ⟨po, pc, rfl, ⟨u5, cu5⟩, fu5, HNX⟩ := HLT.out.next (⟨p.t, ix, ⟨ta, tc, p.b⟩⟩ : En) p HPV.out (by show Pe.mk _ _ _ = p; rw [HIX.out]; cases p; simp only at HPI; rw [HPI.out]) HEV.out HTO.out (.cells #[.int .u64 (p.t : Int), .int .u64 (ix : Int), .slice ta p.b.length tc] 63) o5 g5 f5
        refine hK.out _ _ (hid trivial) (fun hHeld => ?_)
        clear hK K
        clear o5 g5 f5 q5u
        simp only [Act.put, List.getElem_toArray, List.getElem_cons_succ, List.getElem_cons_zero, List.setIfInBounds_toArray, List.set_cons_succ, List.set_cons_zero]
        refine wpAnyH_take (i := 10) (v := (.pointer (some ⟨Ib, 5, none⟩))) rfl (by kernel_rfl) (by kernel_rfl) (by kernel_rfl) (fun _ _ _ h => (show False from h).elim) ?xyVG6 ?xhVG6 ?xrVG6
        case xhVG6 => exact hHeld
        case xyVG6 => exact Or.inl ⟨by rfl, fun W9 hW => by clear hHeld; simp only [List.getElem_toArray, List.getElem_cons_succ, List.getElem_cons_zero]; go_simp⟩
        simp only [Act.put, List.getElem_toArray, List.getElem_cons_succ, List.getElem_cons_zero, List.setIfInBounds_toArray, List.set_cons_succ, List.set_cons_zero]
        refine wpAnyH_ready (rs := [11]) (by kernel_rfl) (by simp) ?_
        refine AllReadyH.cons rfl (fun K hK => ?_) AllReadyH.nil
        go_simp
        refine hK.out _ _ (hid trivial) (fun hHeld => ?_)
        clear hK K
        refine wpAnyH_done (by kernel_rfl) ?_ _
        refine NoPanic.normal ?_
        go_wp2_with fail
        go_roundg gk1
        case measure => omega
        case rel => exact ⟨m + 1, _, po, pc, by omega, by omega, by omega, by rw [← hRS.out]; exact HNX⟩
      · skip
        go_simp
        go_wp2_with (first | (go_at_call 80; refine CNm.out.mono ?_; rintro en wA ⟨rfl, HCA, HPA⟩; have HLA := hid (HLd.out.move HPA.out.1 HPA.out.2 HCA.out); have CTx := hid (HLA.out.chg.text hpb HTL9.out); have q5a := HLA.out.chg.cells.2.1.2.2.2.2.2))
        refine hK.out _ _ (hid trivial) (fun hHeld => ?_)
        clear hK K
        refine wpAnyH_ready (rs := [1, 6]) (by kernel_rfl) (by simp) ?_
        refine AllReadyH.cons rfl (fun K hK => ?_) (AllReadyH.cons rfl (fun K hK => ?_) AllReadyH.nil)
        · go_simp
          refine hK.out _ _ (hid trivial) (fun hHeld => ?_)
          clear hK K
          refine wpAnyH_ready (rs := [6]) (by kernel_rfl) (by simp) ?_
          refine AllReadyH.cons rfl (fun K hK => ?_) AllReadyH.nil
          go_simp
          go_wp2_with (first | (go_at_call 82; refine CTx.out.mono ?_; rintro en wT ⟨ta, tc, rfl, HRT, HCT, HPT⟩; have HLT := hid (HLA.out.move HPT.out.1 HPT.out.2.1 HCT.out); have q5t := HLT.out.chg.cells.2.1.2.2.2.2.2; have HTO : Hid (∀ a, ta = some a → (Value.slice eo m ec).ownBlock ≠ some a.block ∧ w.heap.size ≤ a.block) := hid fun a ha => ⟨fun e9 => (by have := HPT.out.2.2 a ha; have := (HLA.out.own.lt _ e9).2; omega), (by have := HPT.out.2.2 a ha; have := HLA.out.chg.below.size; omega)⟩))
          refine hK.out _ _ (hid trivial) (fun hHeld => ?_)
          clear hK K
          refine wpAnyH_take (i := 7) (v := (.agg #[.int .u64 (p.t : Int), .int .u64 (ix : Int), .slice ta p.b.length tc])) rfl (by kernel_rfl) (by kernel_rfl) (by kernel_rfl) (fun _ _ _ h => (show False from h).elim) ?xyVG7 ?xhVG7 ?xrVG7
          case xhVG7 => exact hHeld
          case xyVG7 => exact Or.inl ⟨by rfl, fun W9 hW => by clear hHeld; simp only [List.getElem_toArray, List.getElem_cons_succ, List.getElem_cons_zero]; go_simp⟩
          simp only [Act.put, List.getElem_toArray, List.getElem_cons_succ, List.getElem_cons_zero, List.setIfInBounds_toArray, List.set_cons_succ, List.set_cons_zero]
          refine wpAnyH_ready (rs := [8]) (by kernel_rfl) (by simp) ?_
          refine AllReadyH.cons rfl (fun K hK => ?_) AllReadyH.nil
          go_simp
          refine hK.out _ _ (hid trivial) (fun hHeld => ?_)
          clear hK K
          have hbu : Below wT.heap.size wT (wT.alloc (.cells #[.int .u64 (p.t : Int), .int .u64 (ix : Int), .slice ta p.b.length tc] 63)) := (Below.refl _ _).alloc (Nat.le_refl _) _
          have HEV : Hid (Rd wT (rcv ((⟨p.t, ix, ⟨ta, tc, p.b⟩⟩ : En) : En).r) ((⟨p.t, ix, ⟨ta, tc, p.b⟩⟩ : En) : En).r.b ∧ ((⟨p.t, ix, ⟨ta, tc, p.b⟩⟩ : En) : En).t < 18446744073709551616 ∧ ((⟨p.t, ix, ⟨ta, tc, p.b⟩⟩ : En) : En).i < 18446744073709551616 ∧ ((⟨p.t, ix, ⟨ta, tc, p.b⟩⟩ : En) : En).r.b.length ≤ 140737488355328) := ⟨HRT.out, hpt, hixl, by show p.b.length ≤ _; omega⟩
          have HRW : Hid (Rws 3 (wT.alloc (.cells #[.int .u64 (p.t : Int), .int .u64 (ix : Int), .slice ta p.b.length tc] 63)) (.slice (some ⟨wT.heap.size, 0, none⟩) 1 1) [rowE (⟨p.t, ix, ⟨ta, tc, p.b⟩⟩ : En)]) := Rws.one (r := rowE (⟨p.t, ix, ⟨ta, tc, p.b⟩⟩ : En)) rfl ⟨rfl, fun u hu => by simp only [rowE, rcv, List.mem_cons, List.not_mem_nil, or_false] at hu; rcases hu with rfl | rfl | rfl <;> rfl⟩
          have HOW := hid (own_old HLT.out.own hbu)
          have HSW : Hid (Ib + 1 ≤ (wT.alloc (.cells #[.int .u64 (p.t : Int), .int .u64 (ix : Int), .slice ta p.b.length tc] 63)).heap.size) := by have := lt_of_block HLT.out.chg.hi; have := hbu.size; show _ ≤ _; omega
          have q5u := cell_alloc q5t (.cells #[.int .u64 (p.t : Int), .int .u64 (ix : Int), .slice ta p.b.length tc] 63)
          clear hbu
          refine wpAnyH_ready (rs := [9]) (by kernel_rfl) (by simp) ?_
          refine AllReadyH.cons rfl (fun K hK => ?_) AllReadyH.nil
          refine step_rapp9 (.tmp 73) (.tmp 80) 28 (by rfl) (Ib + 1) 3 40 63 Tryz.underlying28 _ info_entry (by simp [Value.cells]) (by decide) _ m (E.map rowE).flatten (by rfl) HOW.out _ [rowE (⟨p.t, ix, ⟨ta, tc, p.b⟩⟩ : En)] (by rfl) HRW.out (by simp; omega) (by simp [maxLen]; omega) HSW.out (by first | rfl | (simp [Region.wanted, yielded]; done)) (fun v' w' o5 g5 f5 => ?_)
          obtain ⟨po, pc, rfl, ⟨u5, cu5⟩, fu5, HNX⟩ := HLT.out.next (⟨p.t, ix, ⟨ta, tc, p.b⟩⟩ : En) p HPV.out (by show Pe.mk _ _ _ = p; rw [HIX.out]; cases p; simp only at HPI; rw [HPI.out]) HEV.out HTO.out (.cells #[.int .u64 (p.t : Int), .int .u64 (ix : Int), .slice ta p.b.length tc] 63) o5 g5 f5
          refine hK.out _ _ (hid trivial) (fun hHeld => ?_)
          clear hK K
          clear o5 g5 f5 q5u
          simp only [Act.put, List.getElem_toArray, List.getElem_cons_succ, List.getElem_cons_zero, List.setIfInBounds_toArray, List.set_cons_succ, List.set_cons_zero]
          refine wpAnyH_take (i := 10) (v := (.pointer (some ⟨Ib, 5, none⟩))) rfl (by kernel_rfl) (by kernel_rfl) (by kernel_rfl) (fun _ _ _ h => (show False from h).elim) ?xyVG8 ?xhVG8 ?xrVG8
          case xhVG8 => exact hHeld
          case xyVG8 => exact Or.inl ⟨by rfl, fun W9 hW => by clear hHeld; simp only [List.getElem_toArray, List.getElem_cons_succ, List.getElem_cons_zero]; go_simp⟩
          simp only [Act.put, List.getElem_toArray, List.getElem_cons_succ, List.getElem_cons_zero, List.setIfInBounds_toArray, List.set_cons_succ, List.set_cons_zero]
          refine wpAnyH_ready (rs := [11]) (by kernel_rfl) (by simp) ?_
          refine AllReadyH.cons rfl (fun K hK => ?_) AllReadyH.nil
          go_simp
          refine hK.out _ _ (hid trivial) (fun hHeld => ?_)
          clear hK K
          refine wpAnyH_done (by kernel_rfl) ?_ _
          refine NoPanic.normal ?_
          go_wp2_with fail
          go_roundg gk1
          case measure => omega
          case rel => exact ⟨m + 1, _, po, pc, by omega, by omega, by omega, by rw [← hRS.out]; exact HNX⟩
        · skip
          go_simp
          go_wp2_with (first | (go_at_call 82; refine CTx.out.mono ?_; rintro en wT ⟨ta, tc, rfl, HRT, HCT, HPT⟩; have HLT := hid (HLA.out.move HPT.out.1 HPT.out.2.1 HCT.out); have q5t := HLT.out.chg.cells.2.1.2.2.2.2.2; have HTO : Hid (∀ a, ta = some a → (Value.slice eo m ec).ownBlock ≠ some a.block ∧ w.heap.size ≤ a.block) := hid fun a ha => ⟨fun e9 => (by have := HPT.out.2.2 a ha; have := (HLA.out.own.lt _ e9).2; omega), (by have := HPT.out.2.2 a ha; have := HLA.out.chg.below.size; omega)⟩))
          refine hK.out _ _ (hid trivial) (fun hHeld => ?_)
          clear hK K
          refine wpAnyH_take (i := 7) (v := (.agg #[.int .u64 (p.t : Int), .int .u64 (ix : Int), .slice ta p.b.length tc])) rfl (by kernel_rfl) (by kernel_rfl) (by kernel_rfl) (fun _ _ _ h => (show False from h).elim) ?xyVG9 ?xhVG9 ?xrVG9
          case xhVG9 => exact hHeld
          case xyVG9 => exact Or.inl ⟨by rfl, fun W9 hW => by clear hHeld; simp only [List.getElem_toArray, List.getElem_cons_succ, List.getElem_cons_zero]; go_simp⟩
          simp only [Act.put, List.getElem_toArray, List.getElem_cons_succ, List.getElem_cons_zero, List.setIfInBounds_toArray, List.set_cons_succ, List.set_cons_zero]
          refine wpAnyH_ready (rs := [1, 8]) (by kernel_rfl) (by simp) ?_
          refine AllReadyH.cons rfl (fun K hK => ?_) (AllReadyH.cons rfl (fun K hK => ?_) AllReadyH.nil)
          · go_simp
            refine hK.out _ _ (hid trivial) (fun hHeld => ?_)
            clear hK K
            refine wpAnyH_ready (rs := [8]) (by kernel_rfl) (by simp) ?_
            refine AllReadyH.cons rfl (fun K hK => ?_) AllReadyH.nil
            go_simp
            refine hK.out _ _ (hid trivial) (fun hHeld => ?_)
            clear hK K
            have hbu : Below wT.heap.size wT (wT.alloc (.cells #[.int .u64 (p.t : Int), .int .u64 (ix : Int), .slice ta p.b.length tc] 63)) := (Below.refl _ _).alloc (Nat.le_refl _) _
            have HEV : Hid (Rd wT (rcv ((⟨p.t, ix, ⟨ta, tc, p.b⟩⟩ : En) : En).r) ((⟨p.t, ix, ⟨ta, tc, p.b⟩⟩ : En) : En).r.b ∧ ((⟨p.t, ix, ⟨ta, tc, p.b⟩⟩ : En) : En).t < 18446744073709551616 ∧ ((⟨p.t, ix, ⟨ta, tc, p.b⟩⟩ : En) : En).i < 18446744073709551616 ∧ ((⟨p.t, ix, ⟨ta, tc, p.b⟩⟩ : En) : En).r.b.length ≤ 140737488355328) := ⟨HRT.out, hpt, hixl, by show p.b.length ≤ _; omega⟩
            have HRW : Hid (Rws 3 (wT.alloc (.cells #[.int .u64 (p.t : Int), .int .u64 (ix : Int), .slice ta p.b.length tc] 63)) (.slice (some ⟨wT.heap.size, 0, none⟩) 1 1) [rowE (⟨p.t, ix, ⟨ta, tc, p.b⟩⟩ : En)]) := Rws.one (r := rowE (⟨p.t, ix, ⟨ta, tc, p.b⟩⟩ : En)) rfl ⟨rfl, fun u hu => by simp only [rowE, rcv, List.mem_cons, List.not_mem_nil, or_false] at hu; rcases hu with rfl | rfl | rfl <;> rfl⟩
            have HOW := hid (own_old HLT.out.own hbu)
            have HSW : Hid (Ib + 1 ≤ (wT.alloc (.cells #[.int .u64 (p.t : Int), .int .u64 (ix : Int), .slice ta p.b.length tc] 63)).heap.size) := by have := lt_of_block HLT.out.chg.hi; have := hbu.size; show _ ≤ _; omega
            have q5u := cell_alloc q5t (.cells #[.int .u64 (p.t : Int), .int .u64 (ix : Int), .slice ta p.b.length tc] 63)
            clear hbu
            refine wpAnyH_ready (rs := [9]) (by kernel_rfl) (by simp) ?_
            refine AllReadyH.cons rfl (fun K hK => ?_) AllReadyH.nil
            refine step_rapp9 (.tmp 73) (.tmp 80) 28 (by rfl) (Ib + 1) 3 40 63 Tryz.underlying28 _ info_entry (by simp [Value.cells]) (by decide) _ m (E.map rowE).flatten (by rfl) HOW.out _ [rowE (⟨p.t, ix, ⟨ta, tc, p.b⟩⟩ : En)] (by rfl) HRW.out (by simp; omega) (by simp [maxLen]; omega) HSW.out (by first | rfl | (simp [Region.wanted, yielded]; done)) (fun v' w' o5 g5 f5 => ?_)
            obtain ⟨po, pc, rfl, ⟨u5, cu5⟩, fu5, HNX⟩ := HLT.out.next (⟨p.t, ix, ⟨ta, tc, p.b⟩⟩ : En) p HPV.out (by show Pe.mk _ _ _ = p; rw [HIX.out]; cases p; simp only at HPI; rw [HPI.out]) HEV.out HTO.out (.cells #[.int .u64 (p.t : Int), .int .u64 (ix : Int), .slice ta p.b.length tc] 63) o5 g5 f5
            refine hK.out _ _ (hid trivial) (fun hHeld => ?_)
            clear hK K
            clear o5 g5 f5 q5u
            simp only [Act.put, List.getElem_toArray, List.getElem_cons_succ, List.getElem_cons_zero, List.setIfInBounds_toArray, List.set_cons_succ, List.set_cons_zero]
            refine wpAnyH_take (i := 10) (v := (.pointer (some ⟨Ib, 5, none⟩))) rfl (by kernel_rfl) (by kernel_rfl) (by kernel_rfl) (fun _ _ _ h => (show False from h).elim) ?xyVG10 ?xhVG10 ?xrVG10
            case xhVG10 => exact hHeld
            case xyVG10 => exact Or.inl ⟨by rfl, fun W9 hW => by clear hHeld; simp only [List.getElem_toArray, List.getElem_cons_succ, List.getElem_cons_zero]; go_simp⟩
            simp only [Act.put, List.getElem_toArray, List.getElem_cons_succ, List.getElem_cons_zero, List.setIfInBounds_toArray, List.set_cons_succ, List.set_cons_zero]
            refine wpAnyH_ready (rs := [11]) (by kernel_rfl) (by simp) ?_
            refine AllReadyH.cons rfl (fun K hK => ?_) AllReadyH.nil
            go_simp
            refine hK.out _ _ (hid trivial) (fun hHeld => ?_)
            clear hK K
            refine wpAnyH_done (by kernel_rfl) ?_ _
            refine NoPanic.normal ?_
            go_wp2_with fail
            go_roundg gk1
            case measure => omega
            case rel => exact ⟨m + 1, _, po, pc, by omega, by omega, by omega, by rw [← hRS.out]; exact HNX⟩
          · skip
            go_simp
            refine hK.out _ _ (hid trivial) (fun hHeld => ?_)
            clear hK K
            have hbu : Below wT.heap.size wT (wT.alloc (.cells #[.int .u64 (p.t : Int), .int .u64 (ix : Int), .slice ta p.b.length tc] 63)) := (Below.refl _ _).alloc (Nat.le_refl _) _
            have HEV : Hid (Rd wT (rcv ((⟨p.t, ix, ⟨ta, tc, p.b⟩⟩ : En) : En).r) ((⟨p.t, ix, ⟨ta, tc, p.b⟩⟩ : En) : En).r.b ∧ ((⟨p.t, ix, ⟨ta, tc, p.b⟩⟩ : En) : En).t < 18446744073709551616 ∧ ((⟨p.t, ix, ⟨ta, tc, p.b⟩⟩ : En) : En).i < 18446744073709551616 ∧ ((⟨p.t, ix, ⟨ta, tc, p.b⟩⟩ : En) : En).r.b.length ≤ 140737488355328) := ⟨HRT.out, hpt, hixl, by show p.b.length ≤ _; omega⟩
            have HRW : Hid (Rws 3 (wT.alloc (.cells #[.int .u64 (p.t : Int), .int .u64 (ix : Int), .slice ta p.b.length tc] 63)) (.slice (some ⟨wT.heap.size, 0, none⟩) 1 1) [rowE (⟨p.t, ix, ⟨ta, tc, p.b⟩⟩ : En)]) := Rws.one (r := rowE (⟨p.t, ix, ⟨ta, tc, p.b⟩⟩ : En)) rfl ⟨rfl, fun u hu => by simp only [rowE, rcv, List.mem_cons, List.not_mem_nil, or_false] at hu; rcases hu with rfl | rfl | rfl <;> rfl⟩
            have HOW := hid (own_old HLT.out.own hbu)
            have HSW : Hid (Ib + 1 ≤ (wT.alloc (.cells #[.int .u64 (p.t : Int), .int .u64 (ix : Int), .slice ta p.b.length tc] 63)).heap.size) := by have := lt_of_block HLT.out.chg.hi; have := hbu.size; show _ ≤ _; omega
            have q5u := cell_alloc q5t (.cells #[.int .u64 (p.t : Int), .int .u64 (ix : Int), .slice ta p.b.length tc] 63)
            clear hbu
            refine wpAnyH_ready (rs := [1]) (by kernel_rfl) (by simp) ?_
            refine AllReadyH.cons rfl (fun K hK => ?_) AllReadyH.nil
            go_simp
            refine hK.out _ _ (hid trivial) (fun hHeld => ?_)
            clear hK K
            refine wpAnyH_ready (rs := [9]) (by kernel_rfl) (by simp) ?_
            refine AllReadyH.cons rfl (fun K hK => ?_) AllReadyH.nil
            refine step_rapp9 (.tmp 73) (.tmp 80) 28 (by rfl) (Ib + 1) 3 40 63 Tryz.underlying28 _ info_entry (by simp [Value.cells]) (by decide) _ m (E.map rowE).flatten (by rfl) HOW.out _ [rowE (⟨p.t, ix, ⟨ta, tc, p.b⟩⟩ : En)] (by rfl) HRW.out (by simp; omega) (by simp [maxLen]; omega) HSW.out (by first | rfl | (simp [Region.wanted, yielded]; done)) (fun v' w' o5 g5 f5 => ?_)
            obtain ⟨po, pc, rfl, ⟨u5, cu5⟩, fu5, HNX⟩ := HLT.out.next (⟨p.t, ix, ⟨ta, tc, p.b⟩⟩ : En) p HPV.out (by show Pe.mk _ _ _ = p; rw [HIX.out]; cases p; simp only at HPI; rw [HPI.out]) HEV.out HTO.out (.cells #[.int .u64 (p.t : Int), .int .u64 (ix : Int), .slice ta p.b.length tc] 63) o5 g5 f5
            refine hK.out _ _ (hid trivial) (fun hHeld => ?_)
            clear hK K
            clear o5 g5 f5 q5u
            simp only [Act.put, List.getElem_toArray, List.getElem_cons_succ, List.getElem_cons_zero, List.setIfInBounds_toArray, List.set_cons_succ, List.set_cons_zero]
            refine wpAnyH_take (i := 10) (v := (.pointer (some ⟨Ib, 5, none⟩))) rfl (by kernel_rfl) (by kernel_rfl) (by kernel_rfl) (fun _ _ _ h => (show False from h).elim) ?xyVG11 ?xhVG11 ?xrVG11
            case xhVG11 => exact hHeld
            case xyVG11 => exact Or.inl ⟨by rfl, fun W9 hW => by clear hHeld; simp only [List.getElem_toArray, List.getElem_cons_succ, List.getElem_cons_zero]; go_simp⟩
            simp only [Act.put, List.getElem_toArray, List.getElem_cons_succ, List.getElem_cons_zero, List.setIfInBounds_toArray, List.set_cons_succ, List.set_cons_zero]
            refine wpAnyH_ready (rs := [11]) (by kernel_rfl) (by simp) ?_
            refine AllReadyH.cons rfl (fun K hK => ?_) AllReadyH.nil
            go_simp
            refine hK.out _ _ (hid trivial) (fun hHeld => ?_)
            clear hK K
            refine wpAnyH_done (by kernel_rfl) ?_ _
            refine NoPanic.normal ?_
            go_wp2_with fail
            go_roundg gk1
            case measure => omega
            case rel => exact ⟨m + 1, _, po, pc, by omega, by omega, by omega, by rw [← hRS.out]; exact HNX⟩
    · obtain rfl : m = N0 := by omega
      have hrest : (ES.drop m).flatMap entB = [] := by rw [List.drop_of_length_le (by have := HN0.out; omega)]; rfl
      rw [hrest] at CLe HL
      have CEn := hid (endR_any wr R [] 0 HL.out.chg.rd)
      have hE0 : endS [] 0 = 0 := rfl
      rw [hE0] at CEn
      obtain ⟨hpl, hLo⟩ := HL.out.lo (by have := HN0.out; have := HES.out; rw [← HES.out]; omega) HNV.out hnv5 hht (by omega) (by omega) (by omega) (by omega)
      have CR0 := right_any _ wr hLo
      rw [hpl, HR.out] at CR0
      simp only [Lo.v] at CR0
      rw [HL.out.len] at CR0
      have CRt := hid CR0
      have HPLo := hid hpl
      have HLo := hid hLo
      obtain ⟨-, ⟨x0, x1, x2, x3, x4, x5⟩, -, -⟩ := HL.out.chg.cells
      clear hrest hE0 CR0 hpl hLo CEr
      simp only [List.length_nil] at CLe
      go_upto_region 18 with (first | (go_at_call 84; refine CLe.out.mono ?_; rintro en w' ⟨rfl, rfl⟩) | (go_at_call 86; refine CEn.out.mono ?_; rintro en w' ⟨rfl, rfl⟩) | (go_at_call 11; refine CRt.out.mono ?_; rintro en w19 ⟨rfl, hb19⟩))
      have HL19 := hid (HL.out.old hb19)
      have HLo19 := hid (HLo.out.old hb19)
      obtain ⟨-, ⟨x0', x1', x2', x3', x4', x5'⟩, -, fb⟩ := HL19.out.chg.cells
      obtain ⟨r0, r1, r2, r3, r4, r5⟩ := six_cells HL19.out.chg.hr
      have f0 := fb 0
      have f1 := fb 1
      have f2 := fb 2
      have f3 := fb 3
      have f4 := fb 4
      have f5 := fb 5
      have hbi : br ≠ Ib := by have := HL19.out.chg.lt; omega
      clear hb19 x0 x1 x2 x3 x4 x5 fb CLe CEn CRt
      go_wp2_with fail
      obtain ⟨d1, d2⟩ := HL19.out.done (.int .u64 (PI.ht : Int)) (.int .i64 (nv : Int)) (.int .u64 (PI.si : Int)) (.int .u64 (PI.st : Int)) (.slice sa PI.sd.length sc) (.slice eo m ec)
      obtain ⟨g1, g2, g3⟩ := d2 _ rfl HLo19.out
      refine bodyPost_ret (results_cell2 rfl _ _ br 30 _ (0, 0) _ rfl g1 Tryz.underlying30 rfl (by kernel_rfl)) rfl ?_
      refine ⟨_, ?_, HPLo.out, g2, g3, fun X hX hW => ⟨HL19.out.xs X hX hW, HL19.out.xe X hX hW, fun hne a ha hxa => ?_⟩⟩
      · simp only [Lo.v]
        rw [HL19.out.len]
        rfl
      · have h8 : eo = some a := ha
        have h9 := (HL19.out.own.lt a.block (by rw [h8]; rfl)).1
        have := hX _ hxa
        have := HL19.out.chg.lt
        omega
end Go.Proofs.YtddnleofflobhaaGreatDoor

