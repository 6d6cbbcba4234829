import Derived.Great.BuildSlice
import Derived.Deep.RegionWith
import Derived.WalkKit
import Derived.OpenShut
import Derived.Test.YtnjmhlmimpdahaaRows
import Derived.WalkSpells
import Derived.WalkLawsBesides
import Derived.Laws.AppendOwnNone
import Derived.ProofKit
import Derived.ShutString
import Derived.ChangeOld
import Derived.Below
import Derived.SizedLaws
import Derived.Deep.Slices
import Derived.Deep.AppendLies
import Derived.Deep.RegionLaw
import Derived.BigRegion
import Derived.Maps.OwnOps
import Derived.Maps.OwnSet
import Derived.Maps.Views
import Derived.Deep.Strs
import Derived.Deep.RegionHeld3
import Derived.Lib.ConvBytes
import Derived.Laws.AppendOwn
import Derived.Deep.CutRange
import Derived.Deep.MidRow
import Derived.Great.Walk
import Derived.Lib.SlBytesConst
import Derived.Deep.Matrix
import Derived.Deep.Grids
import Derived.Test.YtnjmhlmimpdahaaWA1
import Derived.Test.YtnjmhlmimpdahaaWA2
import Derived.Test.YtnjmhlmimpdahaaWA3
import Derived.Test.YtnjmhlmimpdahaaWA4
set_option linter.unusedVariables false
set_option linter.unusedSimpArgs false
set_option linter.unusedVariables false
set_option linter.unusedSimpArgs false
set_option maxRecDepth 100000
namespace Go.Proofs.Ytnjmhlmimpdahaa
open Go.RowKit Go.Deep

/-- What a call is answered, and what is kept then. -/
def doS (f : Nat → Option (Nat × List UInt8)) (c : Nat) : Nat := ((f c).map (·.1)).getD 0
def doA (f : Nat → Option (Nat × List UInt8)) (c : Nat) : List UInt8 := ((f c).map (·.2)).getD []
def updF (f : Nat → Option (Nat × List UInt8)) (c : Nat) (x : Nat × List UInt8) : Nat → Option (Nat × List UInt8) := fun k => if k = c then some x else f k
def doOut (f : Nat → Option (Nat × List UInt8)) (L : List (List UInt8)) (cl sq : Nat) (l : List UInt8) : List UInt8 := if sq < doS f cl then [] else if sq = doS f cl then doA f cl else ansL (L.length + 1) l
def doF (f : Nat → Option (Nat × List UInt8)) (L : List (List UInt8)) (cl sq : Nat) (l : List UInt8) : Nat → Option (Nat × List UInt8) := if doS f cl < sq then updF f cl (sq, ansL (L.length + 1) l) else f
def doL (f : Nat → Option (Nat × List UInt8)) (L : List (List UInt8)) (cl sq : Nat) (l : List UInt8) : List (List UInt8) := if doS f cl < sq then L ++ [l] else L

/-- What Do leaves. -/
def DoP (w : World) (d mb tp : Nat) (v : Value) (n : Nat) (f : Nat → Option (Nat × List UInt8)) (L : List (List UInt8)) (base cl sq : Nat) (l : List UInt8) (en : Ending) (w' : World) : Prop :=
  ∃ out v', en = .returned out ∧ w'.ownsRow w.heap.size 5 1 out (doOut f L cl sq l).length ((doOut f L cl sq l).map bv) ∧ Mch w' d mb tp v' (n + 1) (doF f L cl sq l) (doL f L cl sq l) base ∧ (v'.ownBlock = v.ownBlock ∨ ∃ g, v'.ownBlock = some g ∧ w.heap.size ≤ g) ∧ Keep (fun k => k = mb ∨ k = tp ∨ v.ownBlock = some k) w w' ∧ (sq ≤ doS f cl → v' = v ∧ Below w.heap.size w w')

theorem three_cells9 {w : World} {b : Nat} {p q r : Value} {t : TypeId} (h : w.heap[b]? = some (.cells #[p, q, r] t (0, 0))) : w.cell? ⟨b, 0, none⟩ = some p ∧ w.cell? ⟨b, 1, none⟩ = some q ∧ w.cell? ⟨b, 2, none⟩ = some r :=
  ⟨by simp [World.cell?, h], by simp [World.cell?, h], by simp [World.cell?, h]⟩
theorem Mpp.mono {w : World} {b n m : Nat} {f : Nat → Option Value} (h : Mpp w b n f) (hn : n ≤ m) : Mpp w b m f := by
  obtain ⟨D, h1, h2⟩ := h; exact ⟨D, h1.mono hn, h2⟩
theorem Mch.mono {w : World} {d mb tp n m base : Nat} {v : Value} {f : Nat → Option (Nat × List UInt8)} {L : List (List UInt8)} (h : Mch w d mb tp v n f L base) (hn : n ≤ m) : Mch w d mb tp v m f L base := by
  obtain ⟨g, hm, ha⟩ := h.hm
  exact ⟨h.hd, h.ht, h.hv, ⟨g, hm.mono hn, ha⟩, h.hb⟩
/-- Nothing turns. -/
theorem DoP.same {w w' : World} {d mb tp n base cl sq : Nat} {v out : Value} {f : Nat → Option (Nat × List UInt8)} {L : List (List UInt8)} {l : List UInt8} (h : Mch w d mb tp v n f L base) (hs : sq ≤ doS f cl) (hb : Below w.heap.size w w') (ho : w'.ownsRow w.heap.size 5 1 out (doOut f L cl sq l).length ((doOut f L cl sq l).map bv)) : DoP w d mb tp v n f L base cl sq l (.returned out) w' := by
  have e1 : doF f L cl sq l = f := if_neg (by omega)
  have e2 : doL f L cl sq l = L := if_neg (by omega)
  exact ⟨out, v, rfl, ho, by rw [e1, e2]; exact (h.kept hb).mono (by omega), .inl rfl, Keep.of_below hb, fun _ => ⟨rfl, hb⟩⟩

def zCall9 : List Value := [.int .u64 0, .int .u64 0, .slice none 0 0]
theorem alloc_Call9 (ρ : Operand → Value) (w : World) (d : Option Tmp) (t : TypeId) (p : String) (af : Array Edge) : (execOp ρ { dst := d, op := .alloc 37, type := t, pos := p, after := af, guard := none }).run Try.prog w = .ok (.value (.pointer (some ⟨w.heap.size, 0, none⟩))) (w.alloc (.cells zCall9.toArray 37)) := by as_aux_lemma => kernel_rfl
theorem wpList_callAny {P : Program} {ops : Array Oper} {rest : List Oper} {o : Oper} {a : Act} {w : World} {Q : Exit → Act → World → Prop} (hg : o.guard = none) (d : Option Tmp) (hd : o.dst = d)
    (f : FuncId) (args : Array Value) (hrun : (execOp a.eval o).run P w = .ok (.enter f args) w) {F : Ending → World → Prop} (hc : Calls P f args w F)
    (h : ∀ e w'', F e w'' → ∃ v, e = .returned v ∧ wpList P ops Q rest (a.put d v) w'') : wpList P ops Q (o :: rest) a w := by
  subst hd
  refine wpList_plain hg fun K hK => ?_
  unfold Oper.wp
  rw [hrun, Oper.upon_enter]
  refine hc.mono fun e w'' hh => ?_
  obtain ⟨v, rfl, h9⟩ := h e w'' hh
  exact hK _ _ h9

/-- What a client's last call is in memory. -/
theorem was_open {w : World} {base : Nat} {a : Option (Nat × List UInt8)} {x : Option Value} (h : Ans w base a x) : ∃ (s : Nat) (yo : Option Addr) (yc : Nat) (l : List UInt8), x.getD (.agg #[.int .u64 0, .slice none 0 0]) = .agg #[.int .u64 (s : Int), .slice yo l.length yc] ∧ s < 18446744073709551616 ∧ s = (a.map (·.1)).getD 0 ∧ l = (a.map (·.2)).getD [] ∧ w.ownsRow base 5 1 (.slice yo l.length yc) l.length (l.map bv) ∧ l.length ≤ maxLen := by
  cases a with
  | none =>
    cases x with
    | some x => exact h.elim
    | none => exact ⟨0, none, 0, [], rfl, by decide, rfl, rfl, World.ownsRow_nil _ _ _ _, Nat.zero_le _⟩
  | some a =>
    obtain ⟨s, l⟩ := a
    cases x with
    | none => exact h.elim
    | some x =>
      obtain ⟨h1, h2, y, rfl, h3⟩ := h
      obtain ⟨ao, c, rfl, h4, h5, -⟩ := Rd.own h3
      exact ⟨s, ao, c, l, rfl, h2, rfl, rfl, h3, Nat.le_trans h4 h5⟩

theorem method_do (a : Addr) (w : World) : (method 264 24 (.pointer (some a)) "Do").run Try.prog w = .ok (37, .pointer (some a)) w := by kernel_rfl

set_option maxHeartbeats 16000000 in
theorem do_any {w : World} {d mb tp n base cl sq : Nat} {v x : Value} {f : Nat → Option (Nat × List UInt8)} {L : List (List UInt8)} {lx data : List UInt8} (h : Mch w d mb tp v n f L base) (hx : Rd w x lx) (hlx : lx.length ≤ 140737488355328)
    (hr : rdF sCall (lx, 0) = (numL cl ++ (numL sq ++ textL data), [], 0)) (hcl : cl < 18446744073709551616) (hsq : sq < 18446744073709551616) (hdl : data.length ≤ 1000) (hn : n ≤ 1000) (hL : L.length ≤ 1000) (hal : (doA f cl).length ≤ 100000) :
    Calls Try.prog 16 #[.pointer (some ⟨d, 0, none⟩), x] w (DoP w d mb tp v n f L base cl sq data) := by
  have HM := hid h
  have CT := hid (takeCall_any x lx w hx hlx)
  have HR := hid hr
  have HN := hid (And.intro hn (And.intro hL (And.intro hdl hal)))
  clear hx hlx hr hn hL hal h
  go_enter Try.func16, Try.ntmps16
  go_upto_region 3 with (first | (go_at_call 21; refine (dnone_any HM.out).mono ?_; rintro en w1 ⟨rfl, rfl⟩))
  apply wp_region_lit
  refine Great.wpList_readTo rfl (some 11) rfl x (by as_aux_lemma => kernel_rfl) ?_
  simp only [Act.put, List.getElem_toArray, List.getElem_cons_succ, List.getElem_cons_zero, List.setIfInBounds_toArray, List.set_cons_succ, List.set_cons_zero]
  refine wpList_callAny rfl (some 12) rfl 33 #[x] (by as_aux_lemma => kernel_rfl) CT.out ?_
  rintro en w1 ⟨cs, rfl, h1, h2, hb1⟩
  rw [HR.out] at h1 h2 ⊢
  obtain ⟨y, rfl, hry, hNy, hoy⟩ := call_open hcl hsq (by omega) (h1 rfl)
  obtain ⟨yo, yc, rfl, hyc⟩ := hry.form9
  refine ⟨_, rfl, ?_⟩
  simp only [Act.put, List.getElem_toArray, List.getElem_cons_succ, List.getElem_cons_zero, List.setIfInBounds_toArray, List.set_cons_succ, List.set_cons_zero]
  clear h1 h2
  have HY := hid (And.intro hry hNy)
  have HB1 := hid hb1
  clear hry hNy hb1
  refine Great.wpList_readTo rfl (some 10) rfl (.tuple #[.agg #[.int .u64 (cl : Int), .int .u64 (sq : Int), .slice yo data.length yc], .int .i64 0]) (by as_aux_lemma => kernel_rfl) ?_
  simp only [Act.put, List.getElem_toArray, List.getElem_cons_succ, List.getElem_cons_zero, List.setIfInBounds_toArray, List.set_cons_succ, List.set_cons_zero]
  refine Great.wpList_readTo rfl (some 13) rfl (.agg #[.int .u64 (cl : Int), .int .u64 (sq : Int), .slice yo data.length yc]) (by as_aux_lemma => kernel_rfl) ?_
  simp only [Act.put, List.getElem_toArray, List.getElem_cons_succ, List.getElem_cons_zero, List.setIfInBounds_toArray, List.set_cons_succ, List.set_cons_zero]
  refine Great.wpList_readTo rfl (some 14) rfl (.int .i64 0) (by as_aux_lemma => kernel_rfl) ?_
  simp only [Act.put, List.getElem_toArray, List.getElem_cons_succ, List.getElem_cons_zero, List.setIfInBounds_toArray, List.set_cons_succ, List.set_cons_zero]
  refine Great.wpList_allocTo rfl (some 5) rfl _ _ (alloc_Call9 _ w1 _ _ _ _) ?_
  simp only [Act.put, List.getElem_toArray, List.getElem_cons_succ, List.getElem_cons_zero, List.setIfInBounds_toArray, List.set_cons_succ, List.set_cons_zero]
  have hx1 := heap_alloc_new w1 (.cells zCall9.toArray 37)
  have hbb : Below w1.heap.size w1 (w1.alloc (.cells zCall9.toArray 37)) := (Below.refl _ _).alloc (Nat.le_refl _) _
  refine Go.wpList_store_rowTo rfl 37 _ _ rfl rfl w1.heap.size #[.int .u64 (cl : Int), .int .u64 (sq : Int), .slice yo data.length yc] rfl rfl 37 zCall9.toArray hx1 (by as_aux_lemma => kernel_rfl) rfl (by simp [Value.oneCell']) ?_
  have hbK : Below w1.heap.size w1 ((w1.alloc (.cells zCall9.toArray 37)).setRow w1.heap.size #[.int .u64 (cl : Int), .int .u64 (sq : Int), .slice yo data.length yc]) := ((Keep.of_below (X := fun j => j = w1.heap.size) hbb).trans (setRow_keep _ _ _)).below (Nat.le_refl _) (fun k e => by have e9 : k = w1.heap.size := e; omega)
  have hxx := setRow_heap (w1.alloc (.cells zCall9.toArray 37)) w1.heap.size _ #[.int .u64 (cl : Int), .int .u64 (sq : Int), .slice yo data.length yc] _ _ hx1
  obtain ⟨B, hB⟩ : ∃ B, B = w1.heap.size := ⟨_, rfl⟩
  rw [← hB] at hxx hbK ⊢
  generalize (w1.alloc (.cells zCall9.toArray 37)).setRow B #[.int .u64 (cl : Int), .int .u64 (sq : Int), .slice yo data.length yc] = w2 at *
  rw [hB] at hbK
  have HB2 := hid (HB1.out.trans (hbK.mono HB1.out.size))
  have HM2 := hid (HM.out.kept HB2.out)
  have HY2 := hid (And.intro (HY.out.1.old hbK) HY.out.2)
  have HC := hid hxx
  have HBB : Hid (w.heap.size ≤ B ∧ w1.heap.size = B) := hid ⟨by rw [hB]; exact HB1.out.size, hB.symm⟩
  clear hx1 hbb hbK hxx hB CT
  refine Great.wpList_readTo rfl (some 6) rfl (.int .i64 0) (by as_aux_lemma => kernel_rfl) ?_
  simp only [Act.put, List.getElem_toArray, List.getElem_cons_succ, List.getElem_cons_zero, List.setIfInBounds_toArray, List.set_cons_succ, List.set_cons_zero]
  go_upto_region 6 with fail
  obtain ⟨g, hm, ha⟩ := HM2.out.hm
  obtain ⟨s0, ao, ac, a0, hg0, hs0, hse, hae, hao, ham⟩ := was_open (ha cl)
  obtain ⟨c0, c1, c2⟩ := three_cells9 HC.out
  obtain ⟨d0, d1⟩ := two_cells HM2.out.hd
  obtain ⟨e0, e1, e2⟩ := three_cells9 (w := w2.alloc (.cells #[.int .u64 0, .slice none 0 0] 72)) ((Below.heap_alloc w2 _ B (lt_of_block HC.out)).trans HC.out)
  obtain ⟨f0, f1⟩ := two_cells (w := w2.alloc (.cells #[.int .u64 0, .slice none 0 0] 72)) ((Below.heap_alloc w2 _ d (lt_of_block HM2.out.hd)).trans HM2.out.hd)
  have hm1 : Mpp w2.drew mb n g := hm.kept (X := fun _ => False) ⟨rfl, rfl, rfl, Nat.le_refl _, fun _ _ _ => rfl⟩ (fun e => e)
  have hm2 : Mpp (w2.drew.alloc (.cells #[.int .u64 0, .slice none 0 0] 72)) mb n g := hm1.kept (Keep.of_below (X := fun _ => False) ((Below.refl _ _).alloc (Nat.le_refl _) _)) (fun e => e)
  have k1 := hm1.look hcl _ (zeroLast _)
  have k2 := hm2.look hcl _ (zeroLast _)
  have k3 := (hm.kept (X := fun _ => False) (w' := (w2.alloc (.cells #[.int .u64 0, .slice none 0 0] 72)).drew) (Keep.of_below (below_alloc_drew _ _)) (fun e => e)).look hcl _ (zeroLast _)
  rw [hg0] at k1 k2 k3
  have HG := hid (And.intro hm (And.intro ha (And.intro hs0 (And.intro hse (And.intro hae (And.intro hao ham))))))
  clear hm ha hg0 hs0 hse hae hao ham hm1 hm2
  go_region
  · have hbw : Below w2.heap.size w2 (w2.alloc (.cells #[.int .u64 (s0 : Int), .slice ao a0.length ac] 72)).drew := below_alloc_drew _ _
    have hwx : (w2.alloc (.cells #[.int .u64 (s0 : Int), .slice ao a0.length ac] 72)).drew.heap[w2.heap.size]? = some (.cells #[.int .u64 (s0 : Int), .slice ao a0.length ac] 72 (0, 0)) := heap_alloc_new w2 _
    obtain ⟨E, hE⟩ : ∃ E, E = w2.heap.size := ⟨_, rfl⟩
    rw [← hE] at hwx
    have hEB : B < E := by rw [hE]; exact lt_of_block HC.out
    clear c0 c1 c2 d0 d1 e0 e1 e2 f0 f1 k1 k2 k3
    generalize (w2.alloc (.cells #[.int .u64 (s0 : Int), .slice ao a0.length ac] 72)).drew = w3 at *
    try rw [← hE]
    have HE := hid hE
    clear hE
    have HB3 := hid (HB2.out.trans (hbw.mono HB2.out.size))
    have HM3 := hid (HM.out.kept HB3.out)
    have HY3 := hid (And.intro (HY2.out.1.old hbw) HY2.out.2)
    have HC3 := hid ((hbw.block _ (lt_of_block HC.out)).trans HC.out)
    have HA3 := hid (own_old HG.out.2.2.2.2.2.1 hbw)
    have HW3 := hid hwx
    have hS : s0 = doS f cl := HG.out.2.2.2.1
    have hAA : a0 = doA f cl := HG.out.2.2.2.2.1
    have HSA := hid (And.intro hS hAA)
    clear hS hAA hbw hwx HC HY2
    obtain ⟨c0, c1, c2⟩ := three_cells9 HC3.out
    obtain ⟨g0, g1⟩ := two_cells HW3.out
    by_cases qA : (sq : Int) < (s0 : Int)
    · go_wp2_with fail
      go_ret
      exact DoP.same HM.out (by have := HSA.out.1; omega) HB3.out (by have e : doOut f L cl sq data = [] := if_pos (by have := HSA.out.1; omega); rw [e]; exact World.ownsRow_nil _ _ _ _)
    by_cases qB : (s0 : Int) < (sq : Int)
    · have hxb : ∀ k, blk (.slice yo data.length yc) = some k → ¬ (k = tp ∨ v.ownBlock = some k) := fun k hk e => by
        have h1 := (HY3.out.2 k hk).1
        rcases e with e | e
        · have := lt_of_block HM.out.ht; omega
        · have := (HM.out.hv.lt k e).2; omega
      have CT := hid (tapeDo_any (w := w3.drew) (tp := tp) (base := base) HM3.out.ht HM3.out.hv (HY3.out.1.old (w' := w3.drew) ⟨rfl, rfl, rfl, Nat.le_refl _, fun _ _ => rfl⟩) HN.out.2.2.1 HN.out.2.1 HM3.out.hb.2.2.2 hxb)
      clear hxb
      go_upto_region 10 with fail
      clear g0 g1
      have hmd := method_do ⟨tp, 0, none⟩ w3.drew
      obtain ⟨d0, d1⟩ := two_cells HM3.out.hd
      obtain ⟨S9, hS9⟩ : ∃ S9 : World → Prop, S9 = fun V => V.heap[B]? = some (.cells #[.int .u64 (cl : Int), .int .u64 (sq : Int), .slice yo data.length yc] 37 (0, 0)) ∧ V.heap[d]? = some (.cells #[.iface 24 (.pointer (some ⟨tp, 0, none⟩)), .map (some mb)] 64 (0, 0)) := ⟨_, rfl⟩
      have HS : Hid (∀ V, V.heap[B]? = some (.cells #[.int .u64 (cl : Int), .int .u64 (sq : Int), .slice yo data.length yc] 37 (0, 0)) → V.heap[d]? = some (.cells #[.iface 24 (.pointer (some ⟨tp, 0, none⟩)), .map (some mb)] 64 (0, 0)) → S9 V) := hid fun V h1 h2 => by rw [hS9]; exact ⟨h1, h2⟩
      have HSI : Hid (∀ V, S9 V → (V.cell? ⟨B, 0, none⟩ = some (.int .u64 (cl : Int)) ∧ V.cell? ⟨B, 1, none⟩ = some (.int .u64 (sq : Int)) ∧ V.cell? ⟨B, 2, none⟩ = some (.slice yo data.length yc)) ∧ V.cell? ⟨d, 0, none⟩ = some (.iface 24 (.pointer (some ⟨tp, 0, none⟩)))) := hid fun V h => by rw [hS9] at h; exact ⟨three_cells9 h.1, (two_cells h.2).1⟩
      clear hS9 d0 d1 c0 c1 c2
      refine wp_region_noPanic ?_
      refine wp_region_held_drew (S := S9) (by kernel_rfl) (HS.out _ HC3.out HM3.out.hd) (fun hHeld => ?_)
      have HMd : Hid (Mch w3.drew d mb tp v n f L base) := hid (HM3.out.kept ⟨rfl, rfl, rfl, Nat.le_refl _, fun _ _ => rfl⟩)
      have HCd : Hid (w3.drew.heap[B]? = some (.cells #[.int .u64 (cl : Int), .int .u64 (sq : Int), .slice yo data.length yc] 37 (0, 0))) := HC3
      have HEd : Hid (w3.drew.heap[E]? = some (.cells #[.int .u64 (s0 : Int), .slice ao a0.length ac] 72 (0, 0))) := HW3
      have HBd : Hid (Below w.heap.size w w3.drew) := hid (HB3.out.trans ((show Below w3.heap.size w3 w3.drew from ⟨rfl, rfl, rfl, Nat.le_refl _, fun _ _ => rfl⟩).mono HB3.out.size))
      have hdt : d ≠ tp := fun e => by have h1 := HM3.out.hd; rw [e, HM3.out.ht] at h1; injection h1 with h1; injection h1 with h1 h2; exact absurd h2 (by decide)
      have hvd : v.ownBlock ≠ some d := row_ne HM3.out.hv HM3.out.hd (by decide)
      have hvl : ∀ k, v.ownBlock = some k → k < w.heap.size := fun k e => (HM.out.hv.lt k e).2
      have htl : tp < w.heap.size ∧ d < w.heap.size ∧ mb < w.heap.size := ⟨lt_of_block HM.out.ht, lt_of_block HM.out.hd, by obtain ⟨g9, hm9, _⟩ := HM.out.hm; exact hm9.lt⟩
      have HNE := hid (And.intro hdt (And.intro hvd (And.intro hvl htl)))
      clear hdt hvd hvl htl
      generalize w3.drew = Wd at *
      refine wpAnyH_take (i := 0) (v := (.pointer (some ⟨B, 1, none⟩))) rfl (by kernel_rfl) (by kernel_rfl) (by kernel_rfl) (fun _ _ _ h => (show False from h).elim) ?xyDA1 ?xhDA1 ?xrDA1
      case xhDA1 => exact hHeld
      case xyDA1 => exact Or.inl ⟨by rfl, fun W9 hW => by clear hHeld; simp only [List.getElem_toArray, List.getElem_cons_succ, List.getElem_cons_zero]; go_simp⟩
      simp only [Act.put, List.getElem_toArray, List.getElem_cons_succ, List.getElem_cons_zero, List.setIfInBounds_toArray, List.set_cons_succ, List.set_cons_zero]
      refine wpAnyH_take (i := 1) (v := (.int .u64 (sq : Int))) rfl (by kernel_rfl) (by kernel_rfl) (by kernel_rfl) (fun _ _ _ h => (show False from h).elim) ?xyDA2 ?xhDA2 ?xrDA2
      case xhDA2 => exact hHeld
      case xyDA2 => exact Or.inl ⟨by rfl, fun W9 hW => by obtain ⟨⟨y0, y1, y2⟩, y3⟩ := HSI.out _ hW; clear hHeld; simp only [List.getElem_toArray, List.getElem_cons_succ, List.getElem_cons_zero]; go_simp⟩
      simp only [Act.put, List.getElem_toArray, List.getElem_cons_succ, List.getElem_cons_zero, List.setIfInBounds_toArray, List.set_cons_succ, List.set_cons_zero]
      refine wpAnyH_take (i := 2) (v := (.pointer (some ⟨d, 0, none⟩))) rfl (by kernel_rfl) (by kernel_rfl) (by kernel_rfl) (fun _ _ _ h => (show False from h).elim) ?xyDA3 ?xhDA3 ?xrDA3
      case xhDA3 => exact hHeld
      case xyDA3 => exact Or.inl ⟨by rfl, fun W9 hW => by clear hHeld; simp only [List.getElem_toArray, List.getElem_cons_succ, List.getElem_cons_zero]; go_simp⟩
      simp only [Act.put, List.getElem_toArray, List.getElem_cons_succ, List.getElem_cons_zero, List.setIfInBounds_toArray, List.set_cons_succ, List.set_cons_zero]
      refine wpAnyH_take (i := 3) (v := (.pointer (some ⟨d, 0, none⟩))) rfl (by kernel_rfl) (by kernel_rfl) (by kernel_rfl) (fun _ _ _ h => (show False from h).elim) ?xyDA4 ?xhDA4 ?xrDA4
      case xhDA4 => exact hHeld
      case xyDA4 => exact Or.inl ⟨by rfl, fun W9 hW => by clear hHeld; simp only [List.getElem_toArray, List.getElem_cons_succ, List.getElem_cons_zero]; go_simp⟩
      simp only [Act.put, List.getElem_toArray, List.getElem_cons_succ, List.getElem_cons_zero, List.setIfInBounds_toArray, List.set_cons_succ, List.set_cons_zero]
      refine wpAnyH_take (i := 4) (v := (.pointer (some ⟨d, 0, none⟩))) rfl (by kernel_rfl) (by kernel_rfl) (by kernel_rfl) (fun _ _ _ h => (show False from h).elim) ?xyDA5 ?xhDA5 ?xrDA5
      case xhDA5 => exact hHeld
      case xyDA5 => exact Or.inl ⟨by rfl, fun W9 hW => by clear hHeld; simp only [List.getElem_toArray, List.getElem_cons_succ, List.getElem_cons_zero]; go_simp⟩
      simp only [Act.put, List.getElem_toArray, List.getElem_cons_succ, List.getElem_cons_zero, List.setIfInBounds_toArray, List.set_cons_succ, List.set_cons_zero]
      refine wpAnyH_take (i := 5) (v := (.iface 24 (.pointer (some ⟨tp, 0, none⟩)))) rfl (by kernel_rfl) (by kernel_rfl) (by kernel_rfl) (fun _ _ _ h => (show False from h).elim) ?xyDA6 ?xhDA6 ?xrDA6
      case xhDA6 => exact hHeld
      case xyDA6 => exact Or.inl ⟨by rfl, fun W9 hW => by obtain ⟨⟨y0, y1, y2⟩, y3⟩ := HSI.out _ hW; clear hHeld; simp only [List.getElem_toArray, List.getElem_cons_succ, List.getElem_cons_zero]; go_simp⟩
      simp only [Act.put, List.getElem_toArray, List.getElem_cons_succ, List.getElem_cons_zero, List.setIfInBounds_toArray, List.set_cons_succ, List.set_cons_zero]
      refine wpAnyH_take (i := 6) (v := (.pointer (some ⟨B, 2, none⟩))) rfl (by kernel_rfl) (by kernel_rfl) (by kernel_rfl) (fun _ _ _ h => (show False from h).elim) ?xyDA7 ?xhDA7 ?xrDA7
      case xhDA7 => exact hHeld
      case xyDA7 => exact Or.inl ⟨by rfl, fun W9 hW => by clear hHeld; simp only [List.getElem_toArray, List.getElem_cons_succ, List.getElem_cons_zero]; go_simp⟩
      simp only [Act.put, List.getElem_toArray, List.getElem_cons_succ, List.getElem_cons_zero, List.setIfInBounds_toArray, List.set_cons_succ, List.set_cons_zero]
      refine wpAnyH_take (i := 7) (v := (.slice yo data.length yc)) rfl (by kernel_rfl) (by kernel_rfl) (by kernel_rfl) (fun _ _ _ h => (show False from h).elim) ?xyDA8 ?xhDA8 ?xrDA8
      case xhDA8 => exact hHeld
      case xyDA8 => exact Or.inl ⟨by rfl, fun W9 hW => by obtain ⟨⟨y0, y1, y2⟩, y3⟩ := HSI.out _ hW; clear hHeld; simp only [List.getElem_toArray, List.getElem_cons_succ, List.getElem_cons_zero]; go_simp⟩
      simp only [Act.put, List.getElem_toArray, List.getElem_cons_succ, List.getElem_cons_zero, List.setIfInBounds_toArray, List.set_cons_succ, List.set_cons_zero]
      refine wpAnyH_ready (rs := [8]) (by kernel_rfl) (by simp) ?_
      refine AllReadyH.cons rfl (fun K hK => ?_) AllReadyH.nil
      go_simp
      go_wp2_with (first | (go_at_call 37; refine CT.out.mono ?_; rintro en w4 ⟨o4, v4, rfl, h1, h2, h3, h4, h5⟩; have H4 := hid (And.intro h1 (And.intro h2 (And.intro h3 (And.intro h4 h5)))); have CL := hid (clone_any w4 o4 _ (Rd.own h1) (by simp [ansL]; have := HN.out.2.2.1; omega)); have hk4 : w4.heap[B]? = _ ∧ w4.heap[d]? = _ ∧ w4.heap[E]? = _ := ⟨(h5.block B (lt_of_block HCd.out) (fun e => e.elim (fun e => by have e9 : B = tp := e; have := HNE.out.2.2.2.1; have := HBB.out.1; omega) (fun e => by have := HNE.out.2.2.1 B e; have := HBB.out.1; omega))).trans HCd.out, (h5.block d (lt_of_block HMd.out.hd) (fun e => e.elim (fun e => HNE.out.1 e) (fun e => HNE.out.2.1 e))).trans HMd.out.hd, (h5.block E (lt_of_block HEd.out) (fun e => e.elim (fun e => by have e9 : E = tp := e; have := HNE.out.2.2.2.1; have := HBB.out.1; omega) (fun e => by have := HNE.out.2.2.1 E e; have := HBB.out.1; omega))).trans HEd.out⟩; have HK4 := hid hk4; clear h1 h2 h3 h4 h5 hk4))
      refine hK.out _ _ (HS.out _ HK4.out.1 HK4.out.2.1) (fun hHeld => ?_)
      clear hK K
      refine wpAnyH_ready (rs := [9]) (by kernel_rfl) (by simp) ?_
      refine AllReadyH.cons rfl (fun K hK => ?_) AllReadyH.nil
      go_simp
      go_wp2_with (first | (go_at_call 34; refine CL.out.mono ?_; rintro en w5 ⟨xx, rfl, ho5, hb5⟩; obtain ⟨xo, xc, rfl, hrx⟩ := gives_rd ho5; have HO5 := hid ho5; have HB5 := hid hb5; have HK5 := hid (And.intro ((hb5.block B (lt_of_block HK4.out.1)).trans HK4.out.1) (And.intro ((hb5.block d (lt_of_block HK4.out.2.1)).trans HK4.out.2.1) ((hb5.block E (lt_of_block HK4.out.2.2)).trans HK4.out.2.2))); clear ho5 hb5 hrx))
      refine hK.out _ _ (HS.out _ HK5.out.1 HK5.out.2.1) (fun hHeld => ?_)
      clear hK K
      refine wpAnyH_take (i := 10) (v := (.agg #[.int .u64 (sq : Int), .slice xo (ansL (L.length + 1) data).length xc])) rfl (by kernel_rfl) (by kernel_rfl) (by kernel_rfl) (fun _ _ _ h => (show False from h).elim) ?xyDA9 ?xhDA9 ?xrDA9
      case xhDA9 => exact hHeld
      case xyDA9 => exact Or.inl ⟨by rfl, fun W9 hW => by clear hHeld; simp only [List.getElem_toArray, List.getElem_cons_succ, List.getElem_cons_zero]; go_simp⟩
      simp only [Act.put, List.getElem_toArray, List.getElem_cons_succ, List.getElem_cons_zero, List.setIfInBounds_toArray, List.set_cons_succ, List.set_cons_zero]
      obtain ⟨g0, g1, g2, g3⟩ := two_cells HK5.out.2.2
      have hb6 : Keep (fun k => k = E) w5 ((w5.setCell ⟨E, 0, none⟩ (.int .u64 (sq : Int))).setCell ⟨E, 1, none⟩ (.slice xo (ansL (L.length + 1) data).length xc)) := (Keep.set (X := fun k => k = E) w5 ⟨E, 0, none⟩ _ rfl).trans (Keep.set (X := fun k => k = E) _ ⟨E, 1, none⟩ _ rfl)
      have hx6 := two_set1 (x := .slice xo (ansL (L.length + 1) data).length xc) (two_set0 (x := .int .u64 (sq : Int)) HK5.out.2.2)
      refine wpAnyH_ready (rs := [11]) (by kernel_rfl) (by simp) ?_
      refine AllReadyH.cons rfl (fun K hK => ?_) AllReadyH.nil
      go_simp
      clear g0 g1 g2 g3
      have HX6 := hid hx6
      have HK6 := hid hb6
      clear hx6 hb6
      generalize (w5.setCell ⟨E, 0, none⟩ (.int .u64 (sq : Int))).setCell ⟨E, 1, none⟩ (.slice xo (ansL (L.length + 1) data).length xc) = w6 at *
      refine hK.out _ _ (HS.out _ ((HK6.out.block B (lt_of_block HK5.out.1) (fun e => by have e9 : B = E := e; omega)).trans HK5.out.1) ((HK6.out.block d (lt_of_block HK5.out.2.1) (fun e => by have e9 : d = E := e; have := HNE.out.2.2.2.2.1; have := HBB.out.1; omega)).trans HK5.out.2.1)) (fun hHeld => ?_)
      clear hK K
      refine wpAnyH_done (by kernel_rfl) ?_ _
      refine NoPanic.normal ?_
      have hXE : w.heap.size ≤ E := by have := HBB.out.1; omega
      have hk2 : Keep (fun k => (k = tp ∨ v.ownBlock = some k) ∨ k = E) Wd w6 := ((H4.out.2.2.2.2.mono (fun k _ e => .inl e)).trans (Keep.of_below HB5.out)).trans (HK6.out.mono (fun k _ e => .inr e))
      have hkw : Keep (fun k => k = tp ∨ v.ownBlock = some k) w w6 := (((Keep.of_below HBd.out).trans H4.out.2.2.2.2).trans (Keep.of_below HB5.out)).trans2 HK6.out (fun j e => .inr (by have e9 : j = E := e; omega))
      obtain ⟨g7, hm7, ha7⟩ := HMd.out.hm
      have hmt : mb ≠ tp := map_ne hm7 HMd.out.ht
      have hmd : mb ≠ d := map_ne hm7 HMd.out.hd
      have hmv : v.ownBlock ≠ some mb := row_map HMd.out.hv hm7
      have hmE : mb ≠ E := by have := HNE.out.2.2.2.2.2; omega
      have hmB : mb ≠ B := by have := HNE.out.2.2.2.2.2; have := HBB.out.1; omega
      have hm6 : Mpp w6 mb n g7 := hm7.kept hk2 (fun e => e.elim (fun e => e.elim hmt hmv) hmE)
      have ha6 : ∀ c, Ans w6 base (f c) (g7 c) := fun c => (ha7 c).kept hk2 (fun y l k ho hy e => e.elim (fun e => e.elim (fun e => row_ne ho HMd.out.ht (by decide) (by rw [hy]; exact congrArg some e)) (fun e => rows_ne ho HMd.out.hv (by decide) hy e)) (fun e => row_ne ho HEd.out (by decide) (by rw [hy]; exact congrArg some e)))
      have hd6 : w6.heap[d]? = some (.cells #[.iface 24 (.pointer (some ⟨tp, 0, none⟩)), .map (some mb)] 64 (0, 0)) := (HK6.out.block d (lt_of_block HK5.out.2.1) (fun e => by have e9 : d = E := e; have := HNE.out.2.2.2.2.1; omega)).trans HK5.out.2.1
      have hB6 : w6.heap[B]? = some (.cells #[.int .u64 (cl : Int), .int .u64 (sq : Int), .slice yo data.length yc] 37 (0, 0)) := (HK6.out.block B (lt_of_block HK5.out.1) (fun e => by have e9 : B = E := e; omega)).trans HK5.out.1
      have ht5 : w5.heap[tp]? = some (.cells #[v4] 27 (0, 0)) := (HB5.out.block tp (lt_of_block H4.out.2.1)).trans H4.out.2.1
      have ht6 : w6.heap[tp]? = some (.cells #[v4] 27 (0, 0)) := (HK6.out.block tp (lt_of_block ht5) (fun e => by have e9 : tp = E := e; have := HNE.out.2.2.2.1; omega)).trans ht5
      have hr5 := own_old H4.out.2.2.1 HB5.out
      have hr6 := own_keep hr5 HK6.out (fun j e e9 => row_ne hr5 HK5.out.2.2 (by decide) (by rw [e]; exact congrArg some e9))
      have ho6 := own_keep HO5.out HK6.out (fun j e e9 => row_ne HO5.out HK5.out.2.2 (by decide) (by rw [e]; exact congrArg some e9))
      have hmD : Mpp w6.drew mb n g7 := hm6.kept (X := fun _ => False) ⟨rfl, rfl, rfl, Nat.le_refl _, fun _ _ _ => rfl⟩ (fun e => e)
      obtain ⟨w7, hup, hm8, hk7⟩ := hmD.store hcl (by have := HN.out.1; unfold maxLen; omega) (.agg #[.int .u64 (sq : Int), .slice xo (ansL (L.length + 1) data).length xc])
      have hk67 : Keep (fun k => k = mb) w6 w7 := ⟨hk7.os, hk7.tape, hk7.output, hk7.size, hk7.block⟩
      obtain ⟨c0, c1, c2⟩ := three_cells9 hB6
      obtain ⟨d0, d1⟩ := two_cells hd6
      obtain ⟨g0, g1⟩ := two_cells HX6.out
      have hX7 : w7.heap[E]? = some (.cells #[.int .u64 (sq : Int), .slice xo (ansL (L.length + 1) data).length xc] 72 (0, 0)) := (hk67.block E (lt_of_block HX6.out) (fun e => hmE e.symm)).trans HX6.out
      have ho7 := own_keep ho6 hk67 (fun j e e9 => row_map ho6 hm6 (by rw [e]; exact congrArg some e9))
      have hlt7 : doS f cl < sq := by have := HSA.out.1; omega
      have hM7 : Mch w7 d mb tp v4 (n + 1) (doF f L cl sq data) (doL f L cl sq data) base := by
        have e1 : doF f L cl sq data = updF f cl (sq, ansL (L.length + 1) data) := if_pos hlt7
        have e2 : doL f L cl sq data = L ++ [data] := if_pos hlt7
        rw [e1, e2]
        refine ⟨(hk67.block d (lt_of_block hd6) (fun e => hmd e.symm)).trans hd6, (hk67.block tp (lt_of_block ht6) (fun e => hmt e.symm)).trans ht6, ?_, ⟨_, hm8, fun c => ?_⟩, HM.out.hb.1, HM.out.hb.2.1, HM.out.hb.2.2.1, Nat.le_trans HM.out.hb.2.2.2 (Nat.le_trans hkw.size hk67.size)⟩
        · have h9 := own_keep hr6 hk67 (fun j e e9 => row_map hr6 hm6 (by rw [e]; exact congrArg some e9))
          simpa using h9
        · unfold updF
          by_cases ec : c = cl
          · rw [if_pos ec, if_pos ec]
            exact ⟨by omega, hsq, _, rfl, ownsRow_base ho7 (Nat.le_trans HM.out.hb.2.2.2 (Nat.le_trans HBd.out.size H4.out.2.2.2.2.size))⟩
          · rw [if_neg ec, if_neg ec]
            exact (ha6 c).kept hk67 (fun y l k ho hy e => row_map ho hm6 (by rw [hy]; exact congrArg some e))
      have hkF : Keep (fun k => k = mb ∨ k = tp ∨ v.ownBlock = some k) w w7 := (hkw.mono (fun k _ e => .inr e)).trans (hk67.mono (fun k _ e => .inl e))
      have hvF : v4.ownBlock = v.ownBlock ∨ ∃ g, v4.ownBlock = some g ∧ w.heap.size ≤ g := H4.out.2.2.2.1.elim .inl (fun ⟨g, e1, e2⟩ => .inr ⟨g, e1, Nat.le_trans HBd.out.size e2⟩)
      have HF := hid (And.intro hM7 (And.intro hkF (And.intro hvF hlt7)))
      have HX7 := hid hX7
      have CL7 := hid (clone_any w7 _ _ (Rd.own ho7) (by simp [ansL]; have := HN.out.2.2.1; omega))
      clear hXE hk2 hkw hm7 ha7 hmt hmd hmv hmE hmB hm6 ha6 hd6 hB6 ht5 ht6 hr5 hr6 ho6 hmD hm8 hk7 hk67 hX7 ho7 hlt7 hM7 hkF hvF
      go_upto_region 11 with fail
      go_region
      clear c0 c1 c2 d0 d1 g0 g1 hup
      obtain ⟨g0, g1⟩ := two_cells HX7.out
      go_wp2_with (first | (go_at_call 34; refine CL7.out.mono ?_; rintro en w8 ⟨xz, rfl, ho8, hb8⟩; have HO8 := hid ho8; have HB8 := hid hb8; clear ho8 hb8))
      go_ret
      have eO : doOut f L cl sq data = ansL (L.length + 1) data := by have := HF.out.2.2.2; unfold doOut; rw [if_neg (by omega), if_neg (by omega)]
      refine ⟨_, v4, rfl, ?_, HF.out.1.kept HB8.out, HF.out.2.2.1, HF.out.2.1.trans (Keep.of_below HB8.out), fun h9 => absurd HF.out.2.2.2 (by omega)⟩
      rw [eO]
      exact ownsRow_base HO8.out HF.out.2.1.size
    · have CL := hid (clone_any w3 (.slice ao a0.length ac) a0 (Rd.own HA3.out) (by have := HN.out.2.2.2; rw [HSA.out.2]; omega))
      go_wp2_with (first | (go_at_call 34; refine CL.out.mono ?_; rintro en w5 ⟨xo, rfl, ho5, hb5⟩; have HO5 := hid ho5; have HB5 := hid hb5; clear ho5 hb5))
      go_ret
      have e : doOut f L cl sq data = a0 := by have := HSA.out.1; unfold doOut; rw [if_neg (by omega), if_pos (by omega)]; exact HSA.out.2.symm
      exact DoP.same HM.out (by have := HSA.out.1; omega) (HB3.out.trans (HB5.out.mono HB3.out.size)) (by rw [e]; exact ownsRow_base HO5.out HB3.out.size)
  · have hbw : Below w2.heap.size w2 (w2.alloc (.cells #[.int .u64 (s0 : Int), .slice ao a0.length ac] 72)).drew := below_alloc_drew _ _
    have hwx : (w2.alloc (.cells #[.int .u64 (s0 : Int), .slice ao a0.length ac] 72)).drew.heap[w2.heap.size]? = some (.cells #[.int .u64 (s0 : Int), .slice ao a0.length ac] 72 (0, 0)) := heap_alloc_new w2 _
    obtain ⟨E, hE⟩ : ∃ E, E = w2.heap.size := ⟨_, rfl⟩
    rw [← hE] at hwx
    have hEB : B < E := by rw [hE]; exact lt_of_block HC.out
    clear c0 c1 c2 d0 d1 e0 e1 e2 f0 f1 k1 k2 k3
    generalize (w2.alloc (.cells #[.int .u64 (s0 : Int), .slice ao a0.length ac] 72)).drew = w3 at *
    try rw [← hE]
    have HE := hid hE
    clear hE
    have HB3 := hid (HB2.out.trans (hbw.mono HB2.out.size))
    have HM3 := hid (HM.out.kept HB3.out)
    have HY3 := hid (And.intro (HY2.out.1.old hbw) HY2.out.2)
    have HC3 := hid ((hbw.block _ (lt_of_block HC.out)).trans HC.out)
    have HA3 := hid (own_old HG.out.2.2.2.2.2.1 hbw)
    have HW3 := hid hwx
    have hS : s0 = doS f cl := HG.out.2.2.2.1
    have hAA : a0 = doA f cl := HG.out.2.2.2.2.1
    have HSA := hid (And.intro hS hAA)
    clear hS hAA hbw hwx HC HY2
    obtain ⟨c0, c1, c2⟩ := three_cells9 HC3.out
    obtain ⟨g0, g1⟩ := two_cells HW3.out
    by_cases qA : (sq : Int) < (s0 : Int)
    · go_wp2_with fail
      go_ret
      exact DoP.same HM.out (by have := HSA.out.1; omega) HB3.out (by have e : doOut f L cl sq data = [] := if_pos (by have := HSA.out.1; omega); rw [e]; exact World.ownsRow_nil _ _ _ _)
    by_cases qB : (s0 : Int) < (sq : Int)
    · have hxb : ∀ k, blk (.slice yo data.length yc) = some k → ¬ (k = tp ∨ v.ownBlock = some k) := fun k hk e => by
        have h1 := (HY3.out.2 k hk).1
        rcases e with e | e
        · have := lt_of_block HM.out.ht; omega
        · have := (HM.out.hv.lt k e).2; omega
      have CT := hid (tapeDo_any (w := w3.drew) (tp := tp) (base := base) HM3.out.ht HM3.out.hv (HY3.out.1.old (w' := w3.drew) ⟨rfl, rfl, rfl, Nat.le_refl _, fun _ _ => rfl⟩) HN.out.2.2.1 HN.out.2.1 HM3.out.hb.2.2.2 hxb)
      clear hxb
      go_upto_region 10 with fail
      clear g0 g1
      have hmd := method_do ⟨tp, 0, none⟩ w3.drew
      obtain ⟨d0, d1⟩ := two_cells HM3.out.hd
      obtain ⟨S9, hS9⟩ : ∃ S9 : World → Prop, S9 = fun V => V.heap[B]? = some (.cells #[.int .u64 (cl : Int), .int .u64 (sq : Int), .slice yo data.length yc] 37 (0, 0)) ∧ V.heap[d]? = some (.cells #[.iface 24 (.pointer (some ⟨tp, 0, none⟩)), .map (some mb)] 64 (0, 0)) := ⟨_, rfl⟩
      have HS : Hid (∀ V, V.heap[B]? = some (.cells #[.int .u64 (cl : Int), .int .u64 (sq : Int), .slice yo data.length yc] 37 (0, 0)) → V.heap[d]? = some (.cells #[.iface 24 (.pointer (some ⟨tp, 0, none⟩)), .map (some mb)] 64 (0, 0)) → S9 V) := hid fun V h1 h2 => by rw [hS9]; exact ⟨h1, h2⟩
      have HSI : Hid (∀ V, S9 V → (V.cell? ⟨B, 0, none⟩ = some (.int .u64 (cl : Int)) ∧ V.cell? ⟨B, 1, none⟩ = some (.int .u64 (sq : Int)) ∧ V.cell? ⟨B, 2, none⟩ = some (.slice yo data.length yc)) ∧ V.cell? ⟨d, 0, none⟩ = some (.iface 24 (.pointer (some ⟨tp, 0, none⟩)))) := hid fun V h => by rw [hS9] at h; exact ⟨three_cells9 h.1, (two_cells h.2).1⟩
      clear hS9 d0 d1 c0 c1 c2
      refine wp_region_noPanic ?_
      refine wp_region_held_drew (S := S9) (by kernel_rfl) (HS.out _ HC3.out HM3.out.hd) (fun hHeld => ?_)
      have HMd : Hid (Mch w3.drew d mb tp v n f L base) := hid (HM3.out.kept ⟨rfl, rfl, rfl, Nat.le_refl _, fun _ _ => rfl⟩)
      have HCd : Hid (w3.drew.heap[B]? = some (.cells #[.int .u64 (cl : Int), .int .u64 (sq : Int), .slice yo data.length yc] 37 (0, 0))) := HC3
      have HEd : Hid (w3.drew.heap[E]? = some (.cells #[.int .u64 (s0 : Int), .slice ao a0.length ac] 72 (0, 0))) := HW3
      have HBd : Hid (Below w.heap.size w w3.drew) := hid (HB3.out.trans ((show Below w3.heap.size w3 w3.drew from ⟨rfl, rfl, rfl, Nat.le_refl _, fun _ _ => rfl⟩).mono HB3.out.size))
      have hdt : d ≠ tp := fun e => by have h1 := HM3.out.hd; rw [e, HM3.out.ht] at h1; injection h1 with h1; injection h1 with h1 h2; exact absurd h2 (by decide)
      have hvd : v.ownBlock ≠ some d := row_ne HM3.out.hv HM3.out.hd (by decide)
      have hvl : ∀ k, v.ownBlock = some k → k < w.heap.size := fun k e => (HM.out.hv.lt k e).2
      have htl : tp < w.heap.size ∧ d < w.heap.size ∧ mb < w.heap.size := ⟨lt_of_block HM.out.ht, lt_of_block HM.out.hd, by obtain ⟨g9, hm9, _⟩ := HM.out.hm; exact hm9.lt⟩
      have HNE := hid (And.intro hdt (And.intro hvd (And.intro hvl htl)))
      clear hdt hvd hvl htl
      generalize w3.drew = Wd at *
      refine wpAnyH_take (i := 0) (v := (.pointer (some ⟨B, 1, none⟩))) rfl (by kernel_rfl) (by kernel_rfl) (by kernel_rfl) (fun _ _ _ h => (show False from h).elim) ?xyDB1 ?xhDB1 ?xrDB1
      case xhDB1 => exact hHeld
      case xyDB1 => exact Or.inl ⟨by rfl, fun W9 hW => by clear hHeld; simp only [List.getElem_toArray, List.getElem_cons_succ, List.getElem_cons_zero]; go_simp⟩
      simp only [Act.put, List.getElem_toArray, List.getElem_cons_succ, List.getElem_cons_zero, List.setIfInBounds_toArray, List.set_cons_succ, List.set_cons_zero]
      refine wpAnyH_take (i := 1) (v := (.int .u64 (sq : Int))) rfl (by kernel_rfl) (by kernel_rfl) (by kernel_rfl) (fun _ _ _ h => (show False from h).elim) ?xyDB2 ?xhDB2 ?xrDB2
      case xhDB2 => exact hHeld
      case xyDB2 => exact Or.inl ⟨by rfl, fun W9 hW => by obtain ⟨⟨y0, y1, y2⟩, y3⟩ := HSI.out _ hW; clear hHeld; simp only [List.getElem_toArray, List.getElem_cons_succ, List.getElem_cons_zero]; go_simp⟩
      simp only [Act.put, List.getElem_toArray, List.getElem_cons_succ, List.getElem_cons_zero, List.setIfInBounds_toArray, List.set_cons_succ, List.set_cons_zero]
      refine wpAnyH_take (i := 2) (v := (.pointer (some ⟨d, 0, none⟩))) rfl (by kernel_rfl) (by kernel_rfl) (by kernel_rfl) (fun _ _ _ h => (show False from h).elim) ?xyDB3 ?xhDB3 ?xrDB3
      case xhDB3 => exact hHeld
      case xyDB3 => exact Or.inl ⟨by rfl, fun W9 hW => by clear hHeld; simp only [List.getElem_toArray, List.getElem_cons_succ, List.getElem_cons_zero]; go_simp⟩
      simp only [Act.put, List.getElem_toArray, List.getElem_cons_succ, List.getElem_cons_zero, List.setIfInBounds_toArray, List.set_cons_succ, List.set_cons_zero]
      refine wpAnyH_take (i := 3) (v := (.pointer (some ⟨d, 0, none⟩))) rfl (by kernel_rfl) (by kernel_rfl) (by kernel_rfl) (fun _ _ _ h => (show False from h).elim) ?xyDB4 ?xhDB4 ?xrDB4
      case xhDB4 => exact hHeld
      case xyDB4 => exact Or.inl ⟨by rfl, fun W9 hW => by clear hHeld; simp only [List.getElem_toArray, List.getElem_cons_succ, List.getElem_cons_zero]; go_simp⟩
      simp only [Act.put, List.getElem_toArray, List.getElem_cons_succ, List.getElem_cons_zero, List.setIfInBounds_toArray, List.set_cons_succ, List.set_cons_zero]
      refine wpAnyH_take (i := 4) (v := (.pointer (some ⟨d, 0, none⟩))) rfl (by kernel_rfl) (by kernel_rfl) (by kernel_rfl) (fun _ _ _ h => (show False from h).elim) ?xyDB5 ?xhDB5 ?xrDB5
      case xhDB5 => exact hHeld
      case xyDB5 => exact Or.inl ⟨by rfl, fun W9 hW => by clear hHeld; simp only [List.getElem_toArray, List.getElem_cons_succ, List.getElem_cons_zero]; go_simp⟩
      simp only [Act.put, List.getElem_toArray, List.getElem_cons_succ, List.getElem_cons_zero, List.setIfInBounds_toArray, List.set_cons_succ, List.set_cons_zero]
      refine wpAnyH_take (i := 5) (v := (.iface 24 (.pointer (some ⟨tp, 0, none⟩)))) rfl (by kernel_rfl) (by kernel_rfl) (by kernel_rfl) (fun _ _ _ h => (show False from h).elim) ?xyDB6 ?xhDB6 ?xrDB6
      case xhDB6 => exact hHeld
      case xyDB6 => exact Or.inl ⟨by rfl, fun W9 hW => by obtain ⟨⟨y0, y1, y2⟩, y3⟩ := HSI.out _ hW; clear hHeld; simp only [List.getElem_toArray, List.getElem_cons_succ, List.getElem_cons_zero]; go_simp⟩
      simp only [Act.put, List.getElem_toArray, List.getElem_cons_succ, List.getElem_cons_zero, List.setIfInBounds_toArray, List.set_cons_succ, List.set_cons_zero]
      refine wpAnyH_take (i := 6) (v := (.pointer (some ⟨B, 2, none⟩))) rfl (by kernel_rfl) (by kernel_rfl) (by kernel_rfl) (fun _ _ _ h => (show False from h).elim) ?xyDB7 ?xhDB7 ?xrDB7
      case xhDB7 => exact hHeld
      case xyDB7 => exact Or.inl ⟨by rfl, fun W9 hW => by clear hHeld; simp only [List.getElem_toArray, List.getElem_cons_succ, List.getElem_cons_zero]; go_simp⟩
      simp only [Act.put, List.getElem_toArray, List.getElem_cons_succ, List.getElem_cons_zero, List.setIfInBounds_toArray, List.set_cons_succ, List.set_cons_zero]
      refine wpAnyH_take (i := 7) (v := (.slice yo data.length yc)) rfl (by kernel_rfl) (by kernel_rfl) (by kernel_rfl) (fun _ _ _ h => (show False from h).elim) ?xyDB8 ?xhDB8 ?xrDB8
      case xhDB8 => exact hHeld
      case xyDB8 => exact Or.inl ⟨by rfl, fun W9 hW => by obtain ⟨⟨y0, y1, y2⟩, y3⟩ := HSI.out _ hW; clear hHeld; simp only [List.getElem_toArray, List.getElem_cons_succ, List.getElem_cons_zero]; go_simp⟩
      simp only [Act.put, List.getElem_toArray, List.getElem_cons_succ, List.getElem_cons_zero, List.setIfInBounds_toArray, List.set_cons_succ, List.set_cons_zero]
      refine wpAnyH_ready (rs := [8]) (by kernel_rfl) (by simp) ?_
      refine AllReadyH.cons rfl (fun K hK => ?_) AllReadyH.nil
      go_simp
      go_wp2_with (first | (go_at_call 37; refine CT.out.mono ?_; rintro en w4 ⟨o4, v4, rfl, h1, h2, h3, h4, h5⟩; have H4 := hid (And.intro h1 (And.intro h2 (And.intro h3 (And.intro h4 h5)))); have CL := hid (clone_any w4 o4 _ (Rd.own h1) (by simp [ansL]; have := HN.out.2.2.1; omega)); have hk4 : w4.heap[B]? = _ ∧ w4.heap[d]? = _ ∧ w4.heap[E]? = _ := ⟨(h5.block B (lt_of_block HCd.out) (fun e => e.elim (fun e => by have e9 : B = tp := e; have := HNE.out.2.2.2.1; have := HBB.out.1; omega) (fun e => by have := HNE.out.2.2.1 B e; have := HBB.out.1; omega))).trans HCd.out, (h5.block d (lt_of_block HMd.out.hd) (fun e => e.elim (fun e => HNE.out.1 e) (fun e => HNE.out.2.1 e))).trans HMd.out.hd, (h5.block E (lt_of_block HEd.out) (fun e => e.elim (fun e => by have e9 : E = tp := e; have := HNE.out.2.2.2.1; have := HBB.out.1; omega) (fun e => by have := HNE.out.2.2.1 E e; have := HBB.out.1; omega))).trans HEd.out⟩; have HK4 := hid hk4; clear h1 h2 h3 h4 h5 hk4))
      refine hK.out _ _ (HS.out _ HK4.out.1 HK4.out.2.1) (fun hHeld => ?_)
      clear hK K
      refine wpAnyH_ready (rs := [9]) (by kernel_rfl) (by simp) ?_
      refine AllReadyH.cons rfl (fun K hK => ?_) AllReadyH.nil
      go_simp
      go_wp2_with (first | (go_at_call 34; refine CL.out.mono ?_; rintro en w5 ⟨xx, rfl, ho5, hb5⟩; obtain ⟨xo, xc, rfl, hrx⟩ := gives_rd ho5; have HO5 := hid ho5; have HB5 := hid hb5; have HK5 := hid (And.intro ((hb5.block B (lt_of_block HK4.out.1)).trans HK4.out.1) (And.intro ((hb5.block d (lt_of_block HK4.out.2.1)).trans HK4.out.2.1) ((hb5.block E (lt_of_block HK4.out.2.2)).trans HK4.out.2.2))); clear ho5 hb5 hrx))
      refine hK.out _ _ (HS.out _ HK5.out.1 HK5.out.2.1) (fun hHeld => ?_)
      clear hK K
      refine wpAnyH_take (i := 10) (v := (.agg #[.int .u64 (sq : Int), .slice xo (ansL (L.length + 1) data).length xc])) rfl (by kernel_rfl) (by kernel_rfl) (by kernel_rfl) (fun _ _ _ h => (show False from h).elim) ?xyDB9 ?xhDB9 ?xrDB9
      case xhDB9 => exact hHeld
      case xyDB9 => exact Or.inl ⟨by rfl, fun W9 hW => by clear hHeld; simp only [List.getElem_toArray, List.getElem_cons_succ, List.getElem_cons_zero]; go_simp⟩
      simp only [Act.put, List.getElem_toArray, List.getElem_cons_succ, List.getElem_cons_zero, List.setIfInBounds_toArray, List.set_cons_succ, List.set_cons_zero]
      obtain ⟨g0, g1, g2, g3⟩ := two_cells HK5.out.2.2
      have hb6 : Keep (fun k => k = E) w5 ((w5.setCell ⟨E, 0, none⟩ (.int .u64 (sq : Int))).setCell ⟨E, 1, none⟩ (.slice xo (ansL (L.length + 1) data).length xc)) := (Keep.set (X := fun k => k = E) w5 ⟨E, 0, none⟩ _ rfl).trans (Keep.set (X := fun k => k = E) _ ⟨E, 1, none⟩ _ rfl)
      have hx6 := two_set1 (x := .slice xo (ansL (L.length + 1) data).length xc) (two_set0 (x := .int .u64 (sq : Int)) HK5.out.2.2)
      refine wpAnyH_ready (rs := [11]) (by kernel_rfl) (by simp) ?_
      refine AllReadyH.cons rfl (fun K hK => ?_) AllReadyH.nil
      go_simp
      clear g0 g1 g2 g3
      have HX6 := hid hx6
      have HK6 := hid hb6
      clear hx6 hb6
      generalize (w5.setCell ⟨E, 0, none⟩ (.int .u64 (sq : Int))).setCell ⟨E, 1, none⟩ (.slice xo (ansL (L.length + 1) data).length xc) = w6 at *
      refine hK.out _ _ (HS.out _ ((HK6.out.block B (lt_of_block HK5.out.1) (fun e => by have e9 : B = E := e; omega)).trans HK5.out.1) ((HK6.out.block d (lt_of_block HK5.out.2.1) (fun e => by have e9 : d = E := e; have := HNE.out.2.2.2.2.1; have := HBB.out.1; omega)).trans HK5.out.2.1)) (fun hHeld => ?_)
      clear hK K
      refine wpAnyH_done (by kernel_rfl) ?_ _
      refine NoPanic.normal ?_
      have hXE : w.heap.size ≤ E := by have := HBB.out.1; omega
      have hk2 : Keep (fun k => (k = tp ∨ v.ownBlock = some k) ∨ k = E) Wd w6 := ((H4.out.2.2.2.2.mono (fun k _ e => .inl e)).trans (Keep.of_below HB5.out)).trans (HK6.out.mono (fun k _ e => .inr e))
      have hkw : Keep (fun k => k = tp ∨ v.ownBlock = some k) w w6 := (((Keep.of_below HBd.out).trans H4.out.2.2.2.2).trans (Keep.of_below HB5.out)).trans2 HK6.out (fun j e => .inr (by have e9 : j = E := e; omega))
      obtain ⟨g7, hm7, ha7⟩ := HMd.out.hm
      have hmt : mb ≠ tp := map_ne hm7 HMd.out.ht
      have hmd : mb ≠ d := map_ne hm7 HMd.out.hd
      have hmv : v.ownBlock ≠ some mb := row_map HMd.out.hv hm7
      have hmE : mb ≠ E := by have := HNE.out.2.2.2.2.2; omega
      have hmB : mb ≠ B := by have := HNE.out.2.2.2.2.2; have := HBB.out.1; omega
      have hm6 : Mpp w6 mb n g7 := hm7.kept hk2 (fun e => e.elim (fun e => e.elim hmt hmv) hmE)
      have ha6 : ∀ c, Ans w6 base (f c) (g7 c) := fun c => (ha7 c).kept hk2 (fun y l k ho hy e => e.elim (fun e => e.elim (fun e => row_ne ho HMd.out.ht (by decide) (by rw [hy]; exact congrArg some e)) (fun e => rows_ne ho HMd.out.hv (by decide) hy e)) (fun e => row_ne ho HEd.out (by decide) (by rw [hy]; exact congrArg some e)))
      have hd6 : w6.heap[d]? = some (.cells #[.iface 24 (.pointer (some ⟨tp, 0, none⟩)), .map (some mb)] 64 (0, 0)) := (HK6.out.block d (lt_of_block HK5.out.2.1) (fun e => by have e9 : d = E := e; have := HNE.out.2.2.2.2.1; omega)).trans HK5.out.2.1
      have hB6 : w6.heap[B]? = some (.cells #[.int .u64 (cl : Int), .int .u64 (sq : Int), .slice yo data.length yc] 37 (0, 0)) := (HK6.out.block B (lt_of_block HK5.out.1) (fun e => by have e9 : B = E := e; omega)).trans HK5.out.1
      have ht5 : w5.heap[tp]? = some (.cells #[v4] 27 (0, 0)) := (HB5.out.block tp (lt_of_block H4.out.2.1)).trans H4.out.2.1
      have ht6 : w6.heap[tp]? = some (.cells #[v4] 27 (0, 0)) := (HK6.out.block tp (lt_of_block ht5) (fun e => by have e9 : tp = E := e; have := HNE.out.2.2.2.1; omega)).trans ht5
      have hr5 := own_old H4.out.2.2.1 HB5.out
      have hr6 := own_keep hr5 HK6.out (fun j e e9 => row_ne hr5 HK5.out.2.2 (by decide) (by rw [e]; exact congrArg some e9))
      have ho6 := own_keep HO5.out HK6.out (fun j e e9 => row_ne HO5.out HK5.out.2.2 (by decide) (by rw [e]; exact congrArg some e9))
      have hmD : Mpp w6.drew mb n g7 := hm6.kept (X := fun _ => False) ⟨rfl, rfl, rfl, Nat.le_refl _, fun _ _ _ => rfl⟩ (fun e => e)
      obtain ⟨w7, hup, hm8, hk7⟩ := hmD.store hcl (by have := HN.out.1; unfold maxLen; omega) (.agg #[.int .u64 (sq : Int), .slice xo (ansL (L.length + 1) data).length xc])
      have hk67 : Keep (fun k => k = mb) w6 w7 := ⟨hk7.os, hk7.tape, hk7.output, hk7.size, hk7.block⟩
      obtain ⟨c0, c1, c2⟩ := three_cells9 hB6
      obtain ⟨d0, d1⟩ := two_cells hd6
      obtain ⟨g0, g1⟩ := two_cells HX6.out
      have hX7 : w7.heap[E]? = some (.cells #[.int .u64 (sq : Int), .slice xo (ansL (L.length + 1) data).length xc] 72 (0, 0)) := (hk67.block E (lt_of_block HX6.out) (fun e => hmE e.symm)).trans HX6.out
      have ho7 := own_keep ho6 hk67 (fun j e e9 => row_map ho6 hm6 (by rw [e]; exact congrArg some e9))
      have hlt7 : doS f cl < sq := by have := HSA.out.1; omega
      have hM7 : Mch w7 d mb tp v4 (n + 1) (doF f L cl sq data) (doL f L cl sq data) base := by
        have e1 : doF f L cl sq data = updF f cl (sq, ansL (L.length + 1) data) := if_pos hlt7
        have e2 : doL f L cl sq data = L ++ [data] := if_pos hlt7
        rw [e1, e2]
        refine ⟨(hk67.block d (lt_of_block hd6) (fun e => hmd e.symm)).trans hd6, (hk67.block tp (lt_of_block ht6) (fun e => hmt e.symm)).trans ht6, ?_, ⟨_, hm8, fun c => ?_⟩, HM.out.hb.1, HM.out.hb.2.1, HM.out.hb.2.2.1, Nat.le_trans HM.out.hb.2.2.2 (Nat.le_trans hkw.size hk67.size)⟩
        · have h9 := own_keep hr6 hk67 (fun j e e9 => row_map hr6 hm6 (by rw [e]; exact congrArg some e9))
          simpa using h9
        · unfold updF
          by_cases ec : c = cl
          · rw [if_pos ec, if_pos ec]
            exact ⟨by omega, hsq, _, rfl, ownsRow_base ho7 (Nat.le_trans HM.out.hb.2.2.2 (Nat.le_trans HBd.out.size H4.out.2.2.2.2.size))⟩
          · rw [if_neg ec, if_neg ec]
            exact (ha6 c).kept hk67 (fun y l k ho hy e => row_map ho hm6 (by rw [hy]; exact congrArg some e))
      have hkF : Keep (fun k => k = mb ∨ k = tp ∨ v.ownBlock = some k) w w7 := (hkw.mono (fun k _ e => .inr e)).trans (hk67.mono (fun k _ e => .inl e))
      have hvF : v4.ownBlock = v.ownBlock ∨ ∃ g, v4.ownBlock = some g ∧ w.heap.size ≤ g := H4.out.2.2.2.1.elim .inl (fun ⟨g, e1, e2⟩ => .inr ⟨g, e1, Nat.le_trans HBd.out.size e2⟩)
      have HF := hid (And.intro hM7 (And.intro hkF (And.intro hvF hlt7)))
      have HX7 := hid hX7
      have CL7 := hid (clone_any w7 _ _ (Rd.own ho7) (by simp [ansL]; have := HN.out.2.2.1; omega))
      clear hXE hk2 hkw hm7 ha7 hmt hmd hmv hmE hmB hm6 ha6 hd6 hB6 ht5 ht6 hr5 hr6 ho6 hmD hm8 hk7 hk67 hX7 ho7 hlt7 hM7 hkF hvF
      go_upto_region 11 with fail
      go_region
      clear c0 c1 c2 d0 d1 g0 g1 hup
      obtain ⟨g0, g1⟩ := two_cells HX7.out
      go_wp2_with (first | (go_at_call 34; refine CL7.out.mono ?_; rintro en w8 ⟨xz, rfl, ho8, hb8⟩; have HO8 := hid ho8; have HB8 := hid hb8; clear ho8 hb8))
      go_ret
      have eO : doOut f L cl sq data = ansL (L.length + 1) data := by have := HF.out.2.2.2; unfold doOut; rw [if_neg (by omega), if_neg (by omega)]
      refine ⟨_, v4, rfl, ?_, HF.out.1.kept HB8.out, HF.out.2.2.1, HF.out.2.1.trans (Keep.of_below HB8.out), fun h9 => absurd HF.out.2.2.2 (by omega)⟩
      rw [eO]
      exact ownsRow_base HO8.out HF.out.2.1.size
    · have CL := hid (clone_any w3 (.slice ao a0.length ac) a0 (Rd.own HA3.out) (by have := HN.out.2.2.2; rw [HSA.out.2]; omega))
      go_wp2_with (first | (go_at_call 34; refine CL.out.mono ?_; rintro en w5 ⟨xo, rfl, ho5, hb5⟩; have HO5 := hid ho5; have HB5 := hid hb5; clear ho5 hb5))
      go_ret
      have e : doOut f L cl sq data = a0 := by have := HSA.out.1; unfold doOut; rw [if_neg (by omega), if_pos (by omega)]; exact HSA.out.2.symm
      exact DoP.same HM.out (by have := HSA.out.1; omega) (HB3.out.trans (HB5.out.mono HB3.out.size)) (by rw [e]; exact ownsRow_base HO5.out HB3.out.size)
end Go.Proofs.Ytnjmhlmimpdahaa

set_option linter.unusedVariables false
set_option linter.unusedSimpArgs false
set_option maxRecDepth 100000
namespace Go.Proofs.Ytnjmhlmimpdahaa
open Go.RowKit Go.Deep

theorem rdLF_more9 (f : Rst → List UInt8 × Rst) (n : Nat) (st : Rst) (h : (f st).2.2 = 0) : rdLF f (n + 1) st = ((rdLF f n (f st).2).1 + 1, (f st).1 ++ (rdLF f n (f st).2).2.1, (rdLF f n (f st).2).2.2) := by
  rw [rdLF, if_neg (by simpa using h)]
def Sh.full : Sh → Bool
  | .nil => false
  | .cons s r => s.full || r.full
  | _ => true
def Sh.good : Sh → Bool
  | .list s => s.full && s.good
  | .cons s r => s.good && r.good
  | _ => true

theorem full_pos {W : World} : ∀ (s : Sh) {cs : List Value} {b : List UInt8}, s.full = true → Enc W s cs b → 1 ≤ b.length
  | .num, cs, b, _, h => by obtain ⟨n, _, _, rfl⟩ := h; exact numL_pos _
  | .int, cs, b, _, h => by obtain ⟨n, _, _, rfl⟩ := h; exact numL_pos _
  | .bool, cs, b, _, h => by obtain ⟨n, _, rfl⟩ := h; exact numL_pos _
  | .data, cs, b, _, h => by obtain ⟨x, l, _, _, _, _, rfl⟩ := h; unfold textL; rw [List.length_append]; have := numL_pos l.length; omega
  | .name, cs, b, _, h => by obtain ⟨l, _, _, rfl⟩ := h; unfold textL; rw [List.length_append]; have := numL_pos l.length; omega
  | .list s, cs, b, _, h => by obtain ⟨a, c, M, _, _, _, _, rfl⟩ := h; rw [List.length_append]; have := numL_pos M.length; omega
  | .nil, cs, b, hf, h => by cases hf
  | .cons s r, cs, b, hf, h => by
    obtain ⟨c1, c2, b1, b2, _, rfl, h1, h2⟩ := h
    simp only [Sh.full, Bool.or_eq_true] at hf
    rw [List.length_append]
    rcases hf with hf | hf
    · have := full_pos s hf h1; omega
    · have := full_pos r hf h2; omega

/-- What is written is read. -/
theorem rd_back {W : World} : ∀ (s : Sh) {cs : List Value} {b : List UInt8} (r : List UInt8), s.good = true → Enc W s cs b → b.length ≤ 5000 → rdF s (b ++ r, 0) = (b, r, 0)
  | .num, cs, b, r, _, h, hl => by
    obtain ⟨n, hn, _, rfl⟩ := h
    simp only [rdF, lookS_back (v := n) (m := maxU) (by omega) (by unfold maxU; omega) r, List.drop_left]
  | .int, cs, b, r, _, h, hl => by
    obtain ⟨z, hz, _, rfl⟩ := h
    have := zig_lt hz
    simp only [rdF, lookS_back (v := zig z) (m := maxU) (by omega) (by unfold maxU; omega) r, List.drop_left, unzig_zig hz]
  | .bool, cs, b, r, _, h, hl => by
    obtain ⟨q, _, rfl⟩ := h
    cases q <;> simp [rdF, lookS_back (v := 0) (m := 1) (by omega) (by omega) r, lookS_back (v := 1) (m := 1) (by omega) (by omega) r, List.drop_left]
  | .data, cs, b, r, _, h, hl => by
    obtain ⟨x, l, _, _, _, _, rfl⟩ := h
    have : l.length ≤ 5000 := by unfold textL at hl; rw [List.length_append] at hl; omega
    simp only [rdF, textS_back (b := l) (m := 65536) (by omega) (by omega) r, List.drop_left]
  | .name, cs, b, r, _, h, hl => by
    obtain ⟨l, _, _, rfl⟩ := h
    have : l.length ≤ 5000 := by unfold textL at hl; rw [List.length_append] at hl; omega
    simp only [rdF, textS_back (b := l) (m := 65536) (by omega) (by omega) r, List.drop_left]
  | .list s, cs, b, r, hg, h, hl => by
    obtain ⟨a, c, M, _, _, hM, _, rfl⟩ := h
    simp only [Sh.good, Bool.and_eq_true] at hg
    have hfl : (M.map (·.2)).flatten.length ≤ 5000 := by rw [List.length_append] at hl; omega
    have hle0 : ∀ L : List (List Value × List UInt8), (∀ m ∈ L, Enc W s m.1 m.2) → L.length ≤ (L.map (·.2)).flatten.length := fun L => by
      induction L with
      | nil => intro _; simp
      | cons m L ih =>
        intro hL
        have h1 := full_pos s hg.1 (hL m (by simp))
        have h2 := ih (fun x hx => hL x (by simp [hx]))
        simp only [List.map_cons, List.flatten_cons, List.length_append, List.length_cons]
        omega
    have hle := hle0 M hM
    have key : ∀ L : List (List Value × List UInt8), (∀ m ∈ L, Enc W s m.1 m.2) → (L.map (·.2)).flatten.length ≤ 5000 → rdLF (rdF s) L.length ((L.map (·.2)).flatten ++ r, 0) = (L.length, (L.map (·.2)).flatten, r, 0) := fun L => by
      induction L with
      | nil => intro _ _; rfl
      | cons m L ih =>
        intro hL hq
        simp only [List.map_cons, List.flatten_cons, List.length_append] at hq
        have h1 := rd_back s ((L.map (·.2)).flatten ++ r) hg.2 (hL m (by simp)) (by omega)
        have h2 := ih (fun x hx => hL x (by simp [hx])) (by omega)
        simp only [List.map_cons, List.flatten_cons, List.length_cons, List.append_assoc]
        rw [rdLF_more9 _ _ _ (by rw [h1]), h1, h2]
    have hk := key M hM hfl
    simp only [rdF, List.append_assoc, lookS_back (v := M.length) (m := 5000) (by omega) (by omega) ((M.map (·.2)).flatten ++ r), List.drop_left, hk]
  | .nil, cs, b, r, _, h, hl => by obtain ⟨_, rfl⟩ := h; rfl
  | .cons s t, cs, b, r, hg, h, hl => by
    obtain ⟨c1, c2, b1, b2, _, rfl, h1, h2⟩ := h
    simp only [Sh.good, Bool.and_eq_true] at hg
    rw [List.length_append] at hl
    have e1 := rd_back s (b2 ++ r) hg.1 h1 (by omega)
    have e2 := rd_back t r hg.2 h2 (by omega)
    simp only [rdF, List.append_assoc, e1, e2]
end Go.Proofs.Ytnjmhlmimpdahaa

set_option linter.unusedVariables false
set_option linter.unusedSimpArgs false
set_option maxRecDepth 100000
namespace Go.Proofs.Ytnjmhlmimpdahaa
open Go.RowKit Go.Deep

theorem rd_new (W : World) (l : List UInt8) (t : TypeId) (z : Nat × Nat) (n : Nat) (hn : n = l.length) (hl : l.length ≤ 1000) : Rd (W.alloc (.cells (l.map bv).toArray t z)) (.slice (some ⟨W.heap.size, 0, none⟩) n n) l := by
  subst hn
  refine ⟨some ⟨W.heap.size, 0, none⟩, l.length, rfl, Nat.le_refl _, by unfold maxLen; omega, (fun h => by cases h), fun a ha j u hu => ?_⟩
  cases ha
  rw [show Addr.add ⟨W.heap.size, 0, none⟩ j = ⟨W.heap.size, j, none⟩ from by simp [Addr.add]; omega]
  unfold World.cell?
  rw [heap_alloc_new]
  show ((l.map bv).toArray)[j]? = _
  rw [List.getElem?_toArray]
  first | exact hu | (rw [List.getElem?_map, hu]; rfl)

/-- The bytes of a call. -/
def callB (cl sq : Nat) (l : List UInt8) : List UInt8 := numL cl ++ (numL sq ++ textL l)
theorem callB_len {cl sq : Nat} {l : List UInt8} (hc : cl < 18446744073709551616) (hs : sq < 18446744073709551616) (hl : l.length ≤ 1000) : (callB cl sq l).length ≤ 1030 := by
  have h1 := numL_len10 (v := cl) (by omega)
  have h2 := numL_len10 (v := sq) (by omega)
  have h3 := numL_len10 (v := l.length) (by omega)
  unfold callB textL
  simp only [List.length_append]
  omega
theorem callB_enc (W : World) {cl sq : Nat} {y : Value} {l : List UInt8} (hc : cl < 18446744073709551616) (hs : sq < 18446744073709551616) (hl : l.length ≤ 1000) (hy : Rd W y l) (ho : y.oneCell' = true) : Enc W sCall [.int .u64 (cl : Int), .int .u64 (sq : Int), y] (callB cl sq l) :=
  ⟨[.int .u64 (cl : Int)], [.int .u64 (sq : Int), y], _, _, rfl, rfl, ⟨cl, hc, rfl, rfl⟩, [.int .u64 (sq : Int)], [y], _, _, rfl, rfl, ⟨sq, hs, rfl, rfl⟩, [y], [], _, [], rfl, by simp, ⟨y, l, rfl, ho, hy, by omega, rfl⟩, rfl, rfl⟩
theorem callB_rd {cl sq : Nat} {l : List UInt8} (hc : cl < 18446744073709551616) (hs : sq < 18446744073709551616) (hl : l.length ≤ 1000) : rdF sCall (callB cl sq l, 0) = (callB cl sq l, [], 0) := by
  have h := rd_back sCall [] (by decide) (callB_enc ((default : World).alloc (.cells (l.map bv).toArray 5 (0, 0))) hc hs hl (rd_new default l 5 (0, 0) l.length rfl hl) rfl) (by have := callB_len hc hs hl; omega)
  rw [List.append_nil] at h
  exact h

/-- The document's Call. -/
theorem refCall_any {W : World} {cl sq : Nat} {y : Value} {l : List UInt8} (hc : cl < 18446744073709551616) (hs : sq < 18446744073709551616) (hl : l.length ≤ 1000) (hy : Rd W y l) (ho : y.oneCell' = true) : Calls Try.prog 14 #[.agg #[.int .u64 (cl : Int), .int .u64 (sq : Int), y]] W (Gives 5 W (callB cl sq l)) :=
  rtopCall_any (b0 := numL cl) (b1 := numL sq) (b2 := textL l) ⟨cl, hc, rfl, rfl⟩ ⟨sq, hs, rfl, rfl⟩ ⟨y, l, rfl, ho, hy, by omega, rfl⟩ (by have := callB_len hc hs hl; unfold callB at this; omega)

/-- What Told leaves. -/
def tdOk (f : Nat → Option (Nat × List UInt8)) (c s : Nat) : Bool := (f c).isSome && decide (doS f c = s)
def TdP (w : World) (f : Nat → Option (Nat × List UInt8)) (c s : Nat) (en : Ending) (w' : World) : Prop :=
  ∃ out, en = .returned (.tuple #[out, .bool (tdOk f c s)]) ∧ w'.ownsRow w.heap.size 5 1 out (if tdOk f c s then doA f c else []).length ((if tdOk f c s then doA f c else []).map bv) ∧ Below w.heap.size w w'

theorem ans_some {w : World} {base : Nat} {a : Option (Nat × List UInt8)} {x : Option Value} (h : Ans w base a x) : x.isSome = a.isSome := by
  cases a <;> cases x <;> first | rfl | exact h.elim

set_option maxHeartbeats 4000000 in
theorem told_any {w : World} {d mb tp n base c s : Nat} {v : Value} {f : Nat → Option (Nat × List UInt8)} {L : List (List UInt8)} (h : Mch w d mb tp v n f L base) (hc : c < 18446744073709551616) (hal : (doA f c).length ≤ 100000) :
    Calls Try.prog 20 #[.pointer (some ⟨d, 0, none⟩), .int .u64 (c : Int), .int .u64 (s : Int)] w (TdP w f c s) := by
  have HM := hid h
  obtain ⟨g, hm, ha⟩ := h.hm
  obtain ⟨s0, ao, ac, a0, hg0, hs0, hse, hae, hao, ham⟩ := was_open (ha c)
  have his := ans_some (ha c)
  have k1 := hm.look_ok hc _ (zeroLast _)
  rw [hg0, his] at k1
  obtain ⟨d0, d1, -⟩ := two_cells h.hd
  obtain ⟨q, hq⟩ : ∃ q, q = (f c).isSome := ⟨_, rfl⟩
  rw [← hq] at k1
  have hb : Below w.heap.size w (w.alloc (.cells #[.int .u64 (s0 : Int), .slice ao a0.length ac] 72)) := (Below.refl _ _).alloc (Nat.le_refl _) _
  have HF := hid (And.intro hq (And.intro (show s0 = doS f c from hse) (show a0 = doA f c from hae)))
  have CL := hid (clone_any _ (.slice ao a0.length ac) a0 (Rd.own (own_old hao hb)) (by rw [show a0 = doA f c from hae]; omega))
  have HB := hid hb
  clear hm ha hg0 hs0 hse hae hao ham his hq h hal hb
  go_enter Try.func20, Try.ntmps20
  cases q with
  | false =>
    go_wp2_with (first | (go_at_call 21; refine (dnone_any HM.out).mono ?_; rintro en w1 ⟨rfl, rfl⟩))
    go_ret2
    have e : tdOk f c s = false := by unfold tdOk; rw [← HF.out.1]; rfl
    exact ⟨_, by rw [e]; rfl, by rw [e]; exact World.ownsRow_nil _ _ _ _, HB.out⟩
  | true =>
    by_cases hs : s0 = s
    · subst hs
      have hne : ((s0 : Int) != (s0 : Int)) = false := by simp
      go_wp2_with (first | (go_at_call 21; refine (dnone_any HM.out).mono ?_; rintro en w1 ⟨rfl, rfl⟩) | (go_at_call 34; refine CL.out.mono ?_; rintro en w8 ⟨xz, rfl, ho8, hb8⟩; have HO8 := hid ho8; have HB8 := hid (HB.out.trans (hb8.mono HB.out.size)); clear ho8 hb8))
      go_ret2
      have e : tdOk f c s0 = true := by unfold tdOk; rw [← HF.out.1]; have := HF.out.2.1; simp; omega
      exact ⟨_, by rw [e]; rfl, by rw [e, if_pos rfl, ← HF.out.2.2]; exact ownsRow_base HO8.out HB.out.size, HB8.out⟩
    · have hne : ((s0 : Int) != (s : Int)) = true := by simp; omega
      go_wp2_with (first | (go_at_call 21; refine (dnone_any HM.out).mono ?_; rintro en w1 ⟨rfl, rfl⟩))
      go_ret2
      have e : tdOk f c s = false := by unfold tdOk; have := HF.out.2.1; rw [Bool.and_eq_false_iff]; right; simp; omega
      exact ⟨_, by rw [e]; rfl, by rw [e]; exact World.ownsRow_nil _ _ _ _, HB.out⟩

theorem callB_x : callB 1 1 [120] = [1, 1, 1, 120] := by
  show numL 1 ++ (numL 1 ++ (numL 1 ++ [120])) = _
  rw [numL_lt (by decide)]
  decide
theorem Mch.below {w w' : World} {d mb tp n base : Nat} {v : Value} {f : Nat → Option (Nat × List UInt8)} {L : List (List UInt8)} (h : Mch w d mb tp v n f L base) (hk : Keep (fun k => k = mb ∨ k = tp ∨ v.ownBlock = some k) w w') : Below base w w' :=
  hk.below h.hb.2.2.2 (fun k e => e.elim (fun e => by have := h.hb.2.1; omega) (fun e => e.elim (fun e => by have := h.hb.2.2.1; omega) (fun e => (h.hv.lt k e).1)))
/-- Bytes stay behind what turns a machine. -/
theorem Mch.row {w w' : World} {d mb tp n base b0 : Nat} {v y : Value} {f : Nat → Option (Nat × List UInt8)} {L : List (List UInt8)} {l : List UInt8} (h : Mch w d mb tp v n f L base) (hk : Keep (fun k => k = mb ∨ k = tp ∨ v.ownBlock = some k) w w') (ho : w.ownsRow b0 5 1 y l.length (l.map bv)) : w'.ownsRow b0 5 1 y l.length (l.map bv) := by
  obtain ⟨g, hm, -⟩ := h.hm
  exact own_keep ho hk (fun j e e9 => e9.elim (fun e9 => row_map ho hm (by rw [e]; exact congrArg some e9)) (fun e9 => e9.elim (fun e9 => row_ne ho h.ht (by decide) (by rw [e]; exact congrArg some e9)) (fun e9 => rows_ne ho h.hv (by decide) e e9)))

/-- A new tape. -/
theorem tape_new {w : World} : (w.alloc (.cells #[.slice none 0 0] 27)).heap[w.heap.size]? = some (.cells #[.slice none 0 0] 27 (0, 0)) := heap_alloc_new _ _

set_option maxHeartbeats 8000000 in
theorem dawake_any (w : World) : Calls Try.prog 9 #[] w fun e w' => e = .returned (.bool true) ∧ Below w.heap.size w w' := by
  have cv := fun W => Lib.run_convert_bytes_const (P := Try.prog) W 35 5 #[.int .u8 120] 1 1 Try.underlying35 Try.underlying5
  simp only [List.size_toArray, List.length_cons, List.length_nil, Nat.reduceAdd] at cv
  have hb0 : Below w.heap.size w (w.alloc (.cells #[.slice none 0 0] 27)) := (Below.refl _ _).alloc (Nat.le_refl _) _
  have CN := hid (dnew_any (w := w.alloc (.cells #[.slice none 0 0] 27)) (tp := w.heap.size) (v := .slice none 0 0) (L := []) (base := w.heap.size) tape_new (World.ownsRow_nil _ _ _ _) (Nat.le_refl _))
  have HB0 := hid hb0
  clear hb0
  go_enter Try.func9, Try.ntmps9
  go_upto_region 4 with (first | (go_at_call 8; refine CN.out.mono ?_; rintro en w1 ⟨d, mb, rfl, hd1, hm1, hM, hb1⟩; have HM := hid hM; have HB1 := hid (HB0.out.trans (hb1.mono HB0.out.size)); clear hd1 hm1 hM hb1))
  have cv1 := cv w1
  clear cv
  have hb2 : Below w1.heap.size w1 (w1.alloc (.cells #[.int .u8 120] 5 (1, 2))) := (Below.refl _ _).alloc (Nat.le_refl _) _
  have hr2 : Rd (w1.alloc (.cells #[.int .u8 120] 5 (1, 2))) (.slice (some ⟨w1.heap.size, 0, none⟩) 1 1) [120] := rd_new w1 [120] 5 (1, 2) 1 rfl (by decide)
  have CC := hid (refCall_any (cl := 1) (sq := 1) (y := .slice (some ⟨w1.heap.size, 0, none⟩) 1 1) (l := [120]) (by decide) (by decide) (by decide) hr2 rfl)
  have HB2 := hid (HB1.out.trans (hb2.mono HB1.out.size))
  have HM2 := hid (HM.out.kept hb2)
  clear hb2 hr2
  go_upto_region 5 with (first | (go_at_call 14; refine CC.out.mono ?_; rintro en w3 ⟨xx, rfl, ho, hb3⟩; obtain ⟨xo, xc, rfl, hrx⟩ := gives_rd ho; have HR3 := hid hrx; have HO3 := hid ho; have HB3 := hid (HB2.out.trans (hb3.mono HB2.out.size)); have HM3 := hid (HM2.out.kept hb3); clear ho hrx hb3))
  clear cv1
  have hc := callB_rd (cl := 1) (sq := 1) (l := [120]) (by decide) (by decide) (by decide)
  have D1 := hid (do_any (cl := 1) (sq := 1) (data := [120]) HM3.out HR3.out (by rw [callB_x]; decide) hc (by decide) (by decide) (by decide) (by decide) (by decide) (by decide))
  have HC := hid hc
  clear hc
  have e1 : doOut (fun _ => none) [] 1 1 [120] = [1, 0, 120] := by decide
  have f1 : doF (fun _ => none) [] 1 1 [120] = updF (fun _ => none) 1 (1, [1, 0, 120]) := if_pos (by decide)
  have l1 : doL (fun _ => none) [] 1 1 [120] = [[120]] := by decide
  have e2 : doOut (updF (fun _ => none) 1 (1, [1, 0, 120])) [[120]] 1 1 [120] = [1, 0, 120] := by decide
  have HEE := hid (And.intro e1 (And.intro f1 (And.intro l1 e2)))
  clear e1 f1 l1 e2
  go_wp2_with (first
    | (go_at_call 16; refine D1.out.mono ?_; rintro en w4 ⟨o4, v4, rfl, ho4, hM4, hv4, hk4, -⟩; rw [HEE.out.1] at ho4; rw [HEE.out.2.1, HEE.out.2.2.1] at hM4; have hb4 := HB3.out.trans (HM3.out.below hk4); have D2 := hid (do_any (cl := 1) (sq := 1) (data := [120]) hM4 (Rd.own (HM3.out.row hk4 HO3.out)) (by rw [callB_x]; decide) HC.out (by decide) (by decide) (by decide) (by decide) (by decide) (by decide)); have c4 := (Rd.own ho4).conv (P := Try.prog) 35 9 5 Try.underlying35 Try.underlying5 Try.underlying9; have HB4 := hid hb4; have HM4 := hid hM4; clear ho4 hM4 hv4 hk4 hb4)
    | (go_at_call 16; refine D2.out.mono ?_; rintro en w5 ⟨o5, v5, rfl, ho5, hM5, hv5, hk5, -⟩; rw [HEE.out.2.2.2] at ho5; have c5 := (Rd.own ho5).conv (P := Try.prog) 35 9 5 Try.underlying35 Try.underlying5 Try.underlying9; have hb5 := HB4.out.trans (HM4.out.below hk5); have HB5 := hid hb5; clear ho5 hM5 hv5 hk5 hb5))
  go_ret
  exact ⟨rfl, HB5.out⟩

end Go.Proofs.Ytnjmhlmimpdahaa

set_option linter.unusedVariables false
set_option linter.unusedSimpArgs false
set_option maxRecDepth 100000
namespace Go.Proofs.Ytnjmhlmimpdahaa
open Go.RowKit Go.ChangeShapes Go.WideShapes Go.ChangeAt Go.Deep

section
variable {H : Type} {enc : TypeId × Value → H} {W : World}
theorem bytes_cells {m : Nat} {cs : List Value} {y : DataW H × List MemPlace} (h : DataW.trod enc Try.prog W 0 (fun _ => true) true m 35 cs = some y) :
    ∃ (a : Option Addr) (c : Nat) (l : List UInt8), cs = [.slice a l.length c] ∧ Rd W (.slice a l.length c) l := by
  rcases open_ints Try.underlying35 Try.underlying5 (by kernel_rfl) h with ⟨hcs, hx⟩ | ⟨x, l, c, zs, hcs, _, hl, hm, hz, hx, hcell, hwz⟩
  · exact ⟨none, 0, [], hcs, Rd.nil W⟩
  · have hz' : zs.length = c := by simpa using hz
    obtain ⟨b, hb, hr⟩ := rd_of_row (w := W) (a := some x) (len := l) (cap := c) (zs := zs) (.inr ⟨_, rfl, hl, hm, hz', hcell, hwz⟩)
    subst hb
    exact ⟨some x, c, b, hcs, hr⟩

/-- A call that came in: its numbers, its bytes. -/
structure Cl where
  c : Nat
  s : Nat
  a : Option Addr
  k : Nat
  b : List UInt8
def Cl.v (q : Cl) : Value := .slice q.a q.b.length q.k

theorem nat_of_u64 {z : Int} (h : (Lit.int .u64 z).wf = true) : ∃ n : Nat, z = (n : Int) ∧ n < 18446744073709551616 := by
  simp only [Lit.wf, Bool.and_eq_true, decide_eq_true_eq] at h
  have h1 : (0 : Int) ≤ z := h.1
  have h2 : z ≤ 18446744073709551615 := h.2
  exact ⟨z.toNat, by omega, by omega⟩

theorem call_cells9 {m : Nat} {cs : List Value} {y : DataW H × List MemPlace} (h : DataW.trod enc Try.prog W 0 (fun _ => true) true m 37 cs = some y) : ∃ q : Cl, cs = [.int .u64 (q.c : Int), .int .u64 (q.s : Int), q.v] ∧ Rd W q.v q.b ∧ q.c < 18446744073709551616 ∧ q.s < 18446744073709551616 := by
  have hc1 : Try.prog.cellsOf 23 = 1 := by kernel_rfl
  have hc2 : Try.prog.cellsOf 35 = 1 := by kernel_rfl
  have hcv : Try.prog.cellsOf 37 = 3 := by kernel_rfl
  obtain ⟨y0, y1, y2, n', hy, hlen, t0, t1, t2⟩ := trod_struct3 Try.underlying37 h
  have t0' : DataW.trod enc Try.prog W 0 (fun _ => true) true n' 23 ((cs.drop 0).take 1) = some y0 := by rw [← hc1]; exact t0
  have t1' : DataW.trod enc Try.prog W 0 (fun _ => true) true n' 23 ((cs.drop 1).take 1) = some y1 := by rw [← hc1]; exact t1
  have t2' : DataW.trod enc Try.prog W 0 (fun _ => true) true n' 35 ((cs.drop 2).take 1) = some y2 := by rw [← hc2]; exact t2
  obtain ⟨i, hi, -, hwi⟩ := DataW.trod_int Try.underlying23 t0'
  obtain ⟨j, hj, -, hwj⟩ := DataW.trod_int Try.underlying23 t1'
  obtain ⟨ka, kc, key, hk, rk⟩ := bytes_cells t2'
  obtain ⟨n1, rfl, hn1⟩ := nat_of_u64 hwi
  obtain ⟨n2, rfl, hn2⟩ := nat_of_u64 hwj
  rw [hcv] at hlen
  match cs, hlen with
  | [u0, u1, u2], _ =>
    simp at hk hi hj
    subst hk; subst hi; subst hj
    exact ⟨⟨n1, n2, ka, kc, key⟩, rfl, rk, hn1, hn2⟩

/-- Each of a list of calls that came in. -/
theorem calls_open {a : Option Addr} {len cap : Nat} {d : DataW H} {p : List MemPlace} (h : DataW.Trod enc Try.prog W 0 (fun _ => true) true 54 (.slice a len cap) d p) : len ≤ cap ∧ cap ≤ maxLen ∧ ∀ i, i < len → ∃ (b off : Nat) (q : Cl), a = some ⟨b, off, none⟩ ∧ Rd W q.v q.b ∧ q.c < 18446744073709551616 ∧ q.s < 18446744073709551616 ∧ W.cell? ⟨b, off + i * 3, none⟩ = some (.int .u64 (q.c : Int)) ∧ W.cell? ⟨b, off + i * 3 + 1, none⟩ = some (.int .u64 (q.s : Int)) ∧ W.cell? ⟨b, off + i * 3 + 2, none⟩ = some q.v := by
  obtain ⟨fuel, hf⟩ := h
  rcases open_slice Try.underlying54 hf with ⟨hcs, hx⟩ | ⟨x, l, c, m, n, D, Pl, hcs, _, hl, hm, hmm, hx, hcell⟩
  · simp [Value.cells] at hcs
    obtain ⟨rfl, rfl, rfl⟩ := hcs
    exact ⟨Nat.le_refl _, Nat.zero_le _, fun i hi => absurd hi (Nat.not_lt_zero i)⟩
  · simp [Value.cells] at hcs
    obtain ⟨rfl, rfl, rfl⟩ := hcs
    have hcv : Try.prog.cellsOf 37 = 3 := by kernel_rfl
    rw [hcv] at hcell
    refine ⟨hl, hm, fun i hi => ?_⟩
    obtain ⟨cs', h1, h2⟩ := hcell i (by rw [hmm]; simp; omega)
    obtain ⟨q, rfl, hr, hc, hs⟩ := call_cells9 h2
    obtain ⟨_, hl2, hcc⟩ := World.cells?_some h1
    have k0 := hcc 0 (by simp)
    have k1 := hcc 1 (by simp)
    have k2 := hcc 2 (by simp)
    rw [add_add] at k0 k1 k2
    obtain ⟨b, off, spot⟩ := x
    have hs0 : spot = none := by
      obtain ⟨cs0, g1, g2⟩ := hcell 0 (by rw [hmm]; simp; omega)
      obtain ⟨q0, rfl, -⟩ := call_cells9 g2
      obtain ⟨_, _, gc⟩ := World.cells?_some g1
      have g0 := gc 0 (by simp)
      simpa [Addr.add] using World.cell?_spot g0
    subst hs0
    rw [WideShapes.add_plain] at k0 k1 k2
    refine ⟨b, off, q, rfl, hr, hc, hs, by simpa using k0, by simpa [Nat.add_assoc] using k1, by simpa [Nat.add_assoc] using k2⟩
end

/-- What two machines keep of a client that called both alike. -/
def Alk (x y : Option (Nat × List UInt8)) : Prop := (x = none ∧ y = none) ∨ ∃ s n m l, x = some (s, ansL n l) ∧ y = some (s, ansL m l) ∧ l.length ≤ 200
def Small (f : Nat → Option (Nat × List UInt8)) : Prop := ∀ c, (doA f c).length ≤ 300

theorem ansL_len (n : Nat) (l : List UInt8) : (ansL n l).length = l.length + 2 := by simp [ansL]
theorem Small.next {f : Nat → Option (Nat × List UInt8)} (h : Small f) (L : List (List UInt8)) (c s : Nat) {l : List UInt8} (hl : l.length ≤ 200) : Small (doF f L c s l) := by
  intro k
  unfold doF
  split
  · unfold doA updF
    by_cases e : k = c
    · rw [if_pos e]; show (ansL _ l).length ≤ 300; rw [ansL_len]; omega
    · rw [if_neg e]; exact h k
  · exact h k
theorem doF_other (f : Nat → Option (Nat × List UInt8)) (L : List (List UInt8)) {c k : Nat} (s : Nat) (l : List UInt8) (h : k ≠ c) : doF f L c s l k = f k := by
  unfold doF
  split
  · unfold updF; rw [if_neg h]
  · rfl
theorem doL_len (f : Nat → Option (Nat × List UInt8)) (L : List (List UInt8)) (c s : Nat) (l : List UInt8) : (doL f L c s l).length ≤ L.length + 1 := by
  unfold doL
  split
  · simp
  · omega
theorem Alk.seq {f g : Nat → Option (Nat × List UInt8)} {c : Nat} (h : Alk (f c) (g c)) : doS f c = doS g c ∧ (f c).isSome = (g c).isSome := by
  unfold doS
  rcases h with ⟨e1, e2⟩ | ⟨s, n, m, l, e1, e2, -⟩ <;> rw [e1, e2] <;> exact ⟨rfl, rfl⟩
/-- Called alike they are answered alike, but for the place; and keep alike. -/
theorem Alk.next {f g : Nat → Option (Nat × List UInt8)} {c : Nat} (h : Alk (f c) (g c)) (L M : List (List UInt8)) (s : Nat) {l : List UInt8} (hl : l.length ≤ 200) :
    Alk (doF f L c s l c) (doF g M c s l c) ∧ ((doOut f L c s l = [] ∧ doOut g M c s l = []) ∨ ∃ n m q, doOut f L c s l = ansL n q ∧ doOut g M c s l = ansL m q ∧ q.length ≤ 200) := by
  obtain ⟨hs, hi⟩ := h.seq
  unfold doF doOut
  rw [hs]
  by_cases h1 : s < doS g c
  · rw [if_neg (by omega), if_neg (by omega), if_pos h1, if_pos h1]
    exact ⟨h, .inl ⟨rfl, rfl⟩⟩
  · by_cases h2 : s = doS g c
    · rw [if_neg (by omega), if_neg (by omega), if_neg h1, if_neg h1, if_pos h2, if_pos h2]
      refine ⟨h, ?_⟩
      unfold doA
      rcases h with ⟨e1, e2⟩ | ⟨s', n, m, q, e1, e2, hq⟩
      · rw [e1, e2]; exact .inl ⟨rfl, rfl⟩
      · rw [e1, e2]; exact .inr ⟨n, m, q, rfl, rfl, hq⟩
    · rw [if_pos (by omega), if_pos (by omega), if_neg h1, if_neg h1, if_neg h2, if_neg h2]
      refine ⟨.inr ⟨s, L.length + 1, M.length + 1, l, ?_, ?_, hl⟩, .inr ⟨_, _, l, rfl, rfl, hl⟩⟩
      · unfold updF; rw [if_pos rfl]
      · unfold updF; rw [if_pos rfl]
theorem Alk.told {f g : Nat → Option (Nat × List UInt8)} {c : Nat} (h : Alk (f c) (g c)) (s : Nat) : tdOk f c s = tdOk g c s := by
  obtain ⟨h1, h2⟩ := h.seq
  unfold tdOk
  rw [h1, h2]

/-- A machine stays while another one's blocks turn. -/
theorem Mch.apart {w w' : World} {d mb tp n base : Nat} {v : Value} {f : Nat → Option (Nat × List UInt8)} {L : List (List UInt8)} {X : Nat → Prop} (h : Mch w d mb tp v n f L base) (hk : Keep X w w') (h1 : ¬ X d) (h2 : ¬ X mb) (h3 : ¬ X tp) (h4 : ∀ k, v.ownBlock = some k → ¬ X k) (h5 : ∀ y (l : List UInt8) k, w.ownsRow base 5 1 y l.length (l.map bv) → y.ownBlock = some k → ¬ X k) : Mch w' d mb tp v n f L base := by
  obtain ⟨g, hm, ha⟩ := h.hm
  exact ⟨(hk.block d (lt_of_block h.hd) h1).trans h.hd, (hk.block tp (lt_of_block h.ht) h3).trans h.ht, own_keep h.hv hk (fun j e e9 => h4 j e e9), ⟨g, hm.kept hk h2, fun c => (ha c).kept hk h5⟩, h.hb.1, h.hb.2.1, h.hb.2.2.1, Nat.le_trans h.hb.2.2.2 hk.size⟩
/-- A call's own block stays while a machine turns. -/
theorem Mch.cell {w w' : World} {d mb tp n base B : Nat} {v : Value} {f : Nat → Option (Nat × List UInt8)} {L : List (List UInt8)} {cs : Array Value} (h : Mch w d mb tp v n f L base) (hk : Keep (fun k => k = mb ∨ k = tp ∨ v.ownBlock = some k) w w') (hc : w.heap[B]? = some (.cells cs 37 (0, 0))) : w'.heap[B]? = some (.cells cs 37 (0, 0)) := by
  obtain ⟨g, hg, ha⟩ := h.hm
  refine (hk.block B (lt_of_block hc) ?_).trans hc
  rintro (e | e | e)
  · exact map_ne hg hc e.symm
  · have h1 := h.ht; rw [← e, hc] at h1; injection h1 with h1; injection h1 with h1 h9; exact absurd h9 (by decide)
  · exact row_ne h.hv hc (by decide) e
/-- Two machines whose maps, tapes and rows are apart. -/
theorem Mch.beside {w w' : World} {d mb tp n base d2 mb2 tp2 n2 base2 : Nat} {v v2 : Value} {f f2 : Nat → Option (Nat × List UInt8)} {L L2 : List (List UInt8)} (h : Mch w d mb tp v n f L base) (h2 : Mch w d2 mb2 tp2 v2 n2 f2 L2 base2) (hm : mb ≠ mb2) (ht : tp ≠ tp2) (hv : ∀ k, v.ownBlock = some k → v2.ownBlock ≠ some k)
    (hk : Keep (fun k => k = mb2 ∨ k = tp2 ∨ v2.ownBlock = some k) w w') : Mch w' d mb tp v n f L base := by
  obtain ⟨g, hg, ha⟩ := h.hm
  obtain ⟨g2, hg2, ha2⟩ := h2.hm
  have ne1 : d ≠ tp2 := fun e => by
    have h1 := h.hd; rw [e, h2.ht] at h1; injection h1 with h1; injection h1 with h1 h9; exact absurd h9 (by decide)
  refine h.apart hk ?_ ?_ ?_ ?_ ?_
  · rintro (e | e | e)
    · exact map_ne hg2 h.hd e.symm
    · exact ne1 e
    · exact row_ne h2.hv h.hd (by decide) e
  · rintro (e | e | e)
    · exact hm e
    · exact map_ne hg h2.ht e
    · exact row_map h2.hv hg e
  · rintro (e | e | e)
    · exact map_ne hg2 h.ht e.symm
    · exact ht e
    · exact row_ne h2.hv h.ht (by decide) e
  · intro k hk2
    rintro (e | e | e)
    · exact row_map h.hv hg2 (by rw [hk2]; exact congrArg some e)
    · exact row_ne h.hv h2.ht (by decide) (by rw [hk2]; exact congrArg some e)
    · exact hv k hk2 e
  · intro y l k ho hy
    rintro (e | e | e)
    · exact row_map ho hg2 (by rw [hy]; exact congrArg some e)
    · exact row_ne ho h2.ht (by decide) (by rw [hy]; exact congrArg some e)
    · exact rows_ne ho h2.hv (by decide) hy e
end Go.Proofs.Ytnjmhlmimpdahaa

