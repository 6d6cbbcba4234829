import Derived.Lib.SlBytesConst
import Derived.WalkKit
import Derived.OpenShut
import Derived.Test.YtddnleofflobhaaGreatDoorRows
import Derived.WalkSpells
import Derived.WalkLawsBesides
import Derived.Laws.AppendOwnNone
import Derived.BigQuiet
import Derived.Deep.QuietTactic
import Derived.Deep.MidRow
import Derived.Laws.MakeOwn
import Derived.Deep.CutBlock
import Derived.Deep.CutRange
import Derived.Sort.CutIn
import Derived.RangeFuncNested
import Derived.RangeFuncBound
import Derived.RangeFuncCalls
import Derived.RangeFuncLeaves
import Derived.RangeFuncBox
import Derived.Shelf.Abstract
import Derived.Shelf.RegionOpen
import Derived.OwnWalkIn
import Derived.TacticsInMore
import Derived.LoopNIn
import Derived.LoopIn
import Derived.OrdersIn
import Derived.LaidEql
import Derived.Stop.Asserts
import Derived.RowKitTokens
import Derived.Lib.Bytes
import Derived.Deep.RegionHeld3
import Derived.Deep.WholeRow
import Derived.BigRegion
import Derived.Great.BuildSlice
import Derived.Deep.AppendLies
import Derived.StillTailTactics
import Derived.Deep.RegionLaw
import Derived.Great.FillDense
import Derived.Laws.Tables
import Derived.LoopN
import Derived.Deep.OwnRows
import Derived.OwnWalk
import Derived.Deep.Slices
import Derived.Lib.AppendZeros
import Derived.Deep.LoopGhost
import Derived.Deep.RegionWith
import Derived.ArgAppend
import Derived.Lib.SliceRun
import Derived.Deep.RegionHeldLaw
import Derived.ProofKit
import Derived.Deep.Matrix
import Derived.Deep.Grids
import Derived.Test.YtddnleofflobhaaGreatDoorVG1
import Derived.Test.YtddnleofflobhaaGreatDoorVG2
import Derived.Test.YtddnleofflobhaaGreatDoorVG3
import Derived.Test.YtddnleofflobhaaGreatDoorVG4
import Derived.Test.YtddnleofflobhaaGreatDoorVG5
import Derived.Test.YtddnleofflobhaaGreatDoorVG6
import Derived.Test.YtddnleofflobhaaGreatDoorVG7
import Derived.Test.YtddnleofflobhaaGreatDoorVG8
import Derived.Test.YtddnleofflobhaaGreatDoorVG9
import Derived.Test.YtddnleofflobhaaGreatDoorVG10
import Derived.Test.YtddnleofflobhaaGreatDoorVG11
import Derived.Test.YtddnleofflobhaaGreatDoorVG12
import Derived.Test.YtddnleofflobhaaGreatDoorVG13
import Derived.Test.YtddnleofflobhaaGreatDoorVG14
import Derived.Test.YtddnleofflobhaaGreatDoorVG15
import Derived.Test.YtddnleofflobhaaGreatDoorVG16
import Derived.Test.YtddnleofflobhaaGreatDoorVG17
import Derived.Test.YtddnleofflobhaaGreatDoorVG18
import Derived.Test.YtddnleofflobhaaGreatDoorVG19
import Derived.Test.YtddnleofflobhaaGreatDoorVG20
import Derived.Test.YtddnleofflobhaaGreatDoorVG21
import Derived.Test.YtddnleofflobhaaGreatDoorVG23
set_option linter.unusedVariables false
set_option linter.unusedSimpArgs false
set_option linter.unusedVariables false
set_option linter.unusedSimpArgs false
set_option maxRecDepth 100000
namespace Go.Proofs.YtddnleofflobhaaGreatDoor
open Go.RowKit Go.Shelf Go.Deep

theorem conv_noRow {P : Program} {o : Oper} {s d : TypeId} {x : Operand} (h : o.op = .convert s d x) (ρ : Operand → Value) (w : World) (row : String) (args : Array Value) (w' : World) : (execOp ρ o).run P w ≠ .ok (.row row args) w' := by
  unfold execOp
  rw [h]
  exact noRow_v _
theorem bslice_noRow {P : Program} {o : Oper} {t : TypeId} {n : Nat} {x : Array (Nat × Operand)} (h : o.op = .buildSlice t n x) (ρ : Operand → Value) (w : World) (row : String) (args : Array Value) (w' : World) : (execOp ρ o).run P w ≠ .ok (.row row args) w' := by
  unfold execOp
  rw [h]
  exact noRow_v _
theorem binop_noRow {P : Program} {o : Oper} {b : BinOp} {s d : TypeId} {x y : Operand} (h : o.op = .binOp b s x y d) (ρ : Operand → Value) (w : World) (row : String) (args : Array Value) (w' : World) : (execOp ρ o).run P w ≠ .ok (.row row args) w' := by
  unfold execOp
  rw [h]
  exact noRow_v _
theorem append_noRow {P : Program} {o : Oper} {xs : Array Operand} {ts : Array TypeId} (h : o.op = .call { callee := .builtin .append, args := xs, argTypes := ts }) (ρ : Operand → Value) (w : World) (row : String) (args : Array Value) (w' : World) : (execOp ρ o).run P w ≠ .ok (.row row args) w' := by
  unfold execOp
  rw [h]
  dsimp only
  simp only [resolve, Sem.run_bind, Sem.run_pure, Result.andThen_ok, invoke, builtin]
  cases Sem.run P (Builtin.append_ ts o.type (Array.map ρ xs)) w with
  | ok v w2 => intro h9; simp [Result.andThen] at h9
  | halt x w2 => intro h9; simp [Result.andThen] at h9

theorem wpListIn_assign {F : Fence} {n : Nat} {P : Program} {w : World} {ops : Array Oper} {rest : List Oper} {o : Oper} {a : Act} {Q : Exit → Act → World → Prop}
    (hg : o.guard = none) (x : Operand) (hop : o.op = Op.assign x)
    (hK : wpListIn F n P ops Q rest (a.put o.dst (a.eval x)) w) : wpListIn F n P ops Q (o :: rest) a w := by
  refine wpListIn_plain hg fun K hK' => ?_
  unfold Oper.wpIn
  refine ⟨?_, ?_⟩
  · simp [Oper.about, hop]
  · rw [Oper.semAt_plain F _ _ (by rw [hop]; intro c hc'; cases hc')]
    have h8 : (execOp a.eval o).run P w = .ok (.value (a.eval x)) w := by
      unfold execOp
      rw [hop]
      rfl
    rw [h8]
    exact hK' _ _ hK

theorem rd_new (W : World) (l : List UInt8) (t : TypeId) (z : Nat × Nat) (n : Nat) (hn : n = l.length) (hl : l.length ≤ 1000) : Rd (W.alloc (.cells (l.map bv).toArray t z)) (.slice (some ⟨W.heap.size, 0, none⟩) n n) l := by
  subst hn
  refine ⟨some ⟨W.heap.size, 0, none⟩, l.length, rfl, Nat.le_refl _, by unfold maxLen; omega, (fun h => by cases h), fun a ha j u hu => ?_⟩
  cases ha
  rw [show Addr.add ⟨W.heap.size, 0, none⟩ j = ⟨W.heap.size, j, none⟩ from by simp [Addr.add]; omega]
  unfold World.cell?
  rw [heap_alloc_new]
  show ((l.map bv).toArray)[j]? = _
  rw [List.getElem?_toArray]
  first | exact hu | (rw [List.getElem?_map, hu]; rfl)
theorem ops_all {P : Program} {L : List Oper} (fs : List Nat) (hf : ∀ k ∈ fs, ∀ args w, (callFunc k args).run P w = .ok (.enter k args) w) (h : ∀ o ∈ L, simpleOp o.op = true ∨ (∃ s d x, o.op = .convert s d x) ∨ (∃ t n x, o.op = .buildSlice t n x) ∨ (∃ xs ts, o.op = .call { callee := .builtin .append, args := xs, argTypes := ts }) ∨ ∃ k xs ts, k ∈ fs ∧ o.op = .call { callee := .value (.func k), args := xs, argTypes := ts }) :
    ∀ (i : Nat) (o : Oper), L.toArray[i]? = some o → (∀ c, o.op ≠ .defer c) ∧ ∀ (a : Act) (w : World) row args w', (execOp a.eval o).run P w ≠ .ok (.row row args) w' := fun i o ho => by
  have hm : o ∈ L := by
    rw [List.getElem?_toArray] at ho
    exact List.mem_of_getElem? ho
  rcases h o hm with h1 | ⟨s, d, x, h1⟩ | ⟨t, n, x, h1⟩ | ⟨xs, ts, h1⟩ | ⟨k, xs, ts, hk, h1⟩
  · exact ⟨fun c hc => (by rw [hc] at h1; cases h1), fun a w row args w' => simple_noRow h1 a.eval w row args w'⟩
  · exact ⟨fun c hc => (by rw [hc] at h1; cases h1), fun a w row args w' => conv_noRow h1 a.eval w row args w'⟩
  · exact ⟨fun c hc => (by rw [hc] at h1; cases h1), fun a w row args w' => bslice_noRow h1 a.eval w row args w'⟩
  · exact ⟨fun c hc => (by rw [hc] at h1; cases h1), fun a w row args w' => append_noRow h1 a.eval w row args w'⟩
  · exact calls_all (L := [o]) fs hf (fun q hq => by obtain rfl := List.mem_singleton.1 hq; exact .inr (.inr ⟨k, xs, ts, hk, h1⟩)) 0 o rfl

/-- What stands ahead of the round, or behind it. -/
structure RecI (w4 : World) (kb : Nat) (k : Nat) (d : List UInt8) (j : Nat) (V : World) : Prop where
  keep : KpP (fun i => i = kb ∨ i = kb + 1 ∨ i = kb + 2) w4.heap.size w4 V
  st : (j = 0 ∧ V.heap[kb]? = some (.cells #[.int .i64 (k : Int)] 3 (0, 0)) ∧ V.heap[kb + 1]? = some (.cells #[.slice none 0 0] 60 (0, 0)) ∧ V.heap[kb + 2]? = some (.cells #[.int .i64 0] 3 (0, 0))) ∨
    (j = 1 ∧ ∃ (lo : Option Addr) (lc : Nat) (r0 : Rc), V.heap[kb + 1]? = some (.cells #[.slice lo 1 lc] 60 (0, 0)) ∧ r0.b = recV k d ∧ V.ownsRow w4.heap.size 25 1 (.slice lo 1 lc) 1 [rcv r0] ∧ V.ownsRow w4.heap.size 5 1 (rcv r0) r0.b.length (r0.b.map bv))
theorem own_apart {V V' : World} {B : Nat} {e : TypeId} {s n : Nat} {v : Value} {xs : List Value} (h : V.ownsRow B e s v n xs) {row : Option Nat} (hg : V.grownBy V' row) (hr : ∀ r, row = some r → ∃ o : Obj, V.heap[r]? = some o ∧ o.isCells = false) : V'.ownsRow B e s v n xs := by
  refine own_keep h (Keep.of_grown (X := fun i => row = some i) hg (fun _ e => e)) (fun i hi e9 => ?_)
  obtain ⟨o, ho, hc⟩ := hr i e9
  rcases h.2 with ⟨e1, _⟩ | ⟨g, cap, cur, e1, _, hb, _⟩
  · rw [e1] at hi; cases hi
  · rw [e1] at hi
    simp only [Value.ownBlock, Option.some.injEq] at hi
    subst hi
    rw [hb] at ho
    cases ho
    cases hc
theorem RecI.grown {w4 V V' : World} {kb k j : Nat} {d : List UInt8} (h : RecI w4 kb k d j V) {row : Option Nat} (hg : V.grownBy V' row) (hr : ∀ r, row = some r → w4.heap.size ≤ r ∧ ∃ o : Obj, V.heap[r]? = some o ∧ o.isCells = false) : RecI w4 kb k d j V' := by
  have hne : ∀ {i : Nat} {c : Array Value} {t : TypeId}, V.heap[i]? = some (.cells c t (0, 0)) → some i ≠ row := fun hi e => by
    obtain ⟨_, o, ho, hc⟩ := hr _ e.symm
    rw [hi] at ho
    cases ho
    cases hc
  refine ⟨h.keep.trans (KpP.grown hg h.keep.size (fun i e => .inl (hr i e).1)), h.st.imp (fun ⟨a, b, c, e⟩ => ⟨a, heap_kept hg b (hne b), heap_kept hg c (hne c), heap_kept hg e (hne e)⟩) (fun ⟨a, lo, lc, r0, b, c, e, f⟩ => ⟨a, lo, lc, r0, heap_kept hg b (hne b), c, own_apart e hg (fun r e => (hr r e).2), own_apart f hg (fun r e => (hr r e).2)⟩)⟩

theorem recV_le (k : Nat) (d : List UInt8) (hk : k ≤ 2) (hd : d.length ≤ 32752) : (recV k d).length ≤ 140737488355328 := by
  have h1 := numL_len10 (v := k) (by omega)
  have h2 := numL_len10 (v := 0) (by omega)
  have h3 := numL_len10 (v := d.length) (by omega)
  have h4 := numL_len10 (v := 0 + 1 + 1 + 1 + 1 + 1) (by omega)
  unfold recV textL
  simp only [List.length_append, List.length_cons, List.length_nil]
  omega
theorem rec_app (VG : World) (aG : Option Addr) (cG : Nat) (l : List UInt8) (B0 B : Nat) (ho : VG.ownsRow B0 5 1 (.slice aG l.length cG) l.length (l.map bv)) (h0 : B0 ≤ VG.heap.size) (hB : B ≤ B0) :
    ∃ po pc VE, (Builtin.append_ #[60, 60] 60 #[.slice none 0 0, .slice (some ⟨VG.heap.size, 0, none⟩) 1 1]).run Tryz.prog (VG.alloc (.cells #[.slice aG l.length cG] 25)) = .ok (.slice po 1 pc) VE ∧ VE.ownsRow B 25 1 (.slice po 1 pc) 1 [.slice aG l.length cG] ∧ Below (VG.alloc (.cells #[.slice aG l.length cG] 25)).heap.size (VG.alloc (.cells #[.slice aG l.length cG] 25)) VE ∧ VE.ownsRow B 5 1 (.slice aG l.length cG) l.length (l.map bv) := by
  obtain ⟨i0, hi, hz0, hz1, hz2⟩ := info_parts (show (Tryz.prog.info? 25).map (fun i => (i.zero, i.size, i.bytes)) = some (some (.slice none 0 0), 1, 24) by kernel_rfl)
  have hba : Below VG.heap.size VG (VG.alloc (.cells #[.slice aG l.length cG] 25)) := (Below.refl _ _).alloc (Nat.le_refl _) _
  have hq : (VG.alloc (.cells #[.slice aG l.length cG] 25)).cell? ⟨VG.heap.size, 0, none⟩ = some (.slice aG l.length cG) := by
    unfold World.cell?
    rw [heap_alloc_new]
    rfl
  obtain ⟨v', w', hrun, hov, hgr, -⟩ := run_append_own (P := Tryz.prog) (VG.alloc (.cells #[.slice aG l.length cG] 25)) B 60 60 25 i0 _ 1 24 Tryz.underlying60 hi hz0 hz1 hz2 rfl (by decide) _ 0 [] (World.ownsRow_nil _ B 25 1) ⟨VG.heap.size, 0, none⟩ 1 1 [.slice aG l.length cG] (by rfl) (fun j u hu => by
      rcases j with _ | j
      · simp only [List.getElem?_cons_zero, Option.some.injEq] at hu; subst hu; exact hq
      · simp at hu) (fun u hu => by obtain rfl := List.mem_singleton.1 hu; rfl) (by decide) (by decide) (by have := hba.size; omega)
  have hov2 : w'.ownsRow B 25 1 v' 1 [.slice aG l.length cG] := by simpa using hov
  have hbw : Below (VG.alloc (.cells #[.slice aG l.length cG] 25)).heap.size (VG.alloc (.cells #[.slice aG l.length cG] 25)) w' := (Below.refl _ _).grown hgr (Nat.le_refl _) (fun k e => by cases e)
  obtain ⟨g, c, rfl⟩ := ownsRow_succ hov2
  exact ⟨_, _, _, hrun, hov2, hbw, own_old (own_old (ownsRow_base ho hB) hba) hbw⟩

theorem rec_fin {w4 Wb VE VD VF : World} {b k j pc cG : Nat} {d : List UInt8} {po aG : Option Addr} (hE : Below Wb.heap.size Wb VE)
    (hoE : VE.ownsRow w4.heap.size 25 1 (.slice po 1 pc) 1 [.slice aG (recV k d).length cG]) (hoG : VE.ownsRow w4.heap.size 5 1 (.slice aG (recV k d).length cG) (recV k d).length ((recV k d).map bv))
    (hK1 : Keep (fun i => i = b + 1) VE VD) (h1 : VD.heap[b + 1]? = some (.cells #[.slice po 1 pc] 60 (0, 0))) (hK2 : Keep (fun i => i = b ∨ i = b + 2) VD VF)
    (hkp : KpP (fun i => i = b ∨ i = b + 1 ∨ i = b + 2) w4.heap.size w4 Wb) (hsz : w4.heap.size ≤ Wb.heap.size) (h3 : b + 3 ≤ w4.heap.size) (hj : j = 1) :
    KeepsFrom w4.heap.size Wb VF ∧ KpP (fun i => i = b ∨ i = b + 1 ∨ i = b + 2) w4.heap.size Wb VF ∧ RecI w4 b k d j VF := by
  have hall : Keep (fun i => i = b ∨ i = b + 1 ∨ i = b + 2) Wb VF := (((Keep.of_below hE : Keep (fun _ => False) Wb VE).mono (fun i _ e => e.elim)).trans (hK1.mono (fun i _ e => .inr (.inl e)))).trans (hK2.mono (fun i _ e => e.imp id (fun e => .inr e)))
  have hkk := KpP.of_keep hall hsz (fun i e h9 => e)
  refine ⟨⟨hall.size, fun i o q1 q2 q3 => (hall.block i (lt_of_block q2) (by omega)).trans q2⟩, hkk, ⟨hkp.trans hkk, .inr ⟨hj, po, pc, ⟨aG, cG, recV k d⟩, (hK2.block (b + 1) (lt_of_block h1) (by omega)).trans h1, rfl, ?_, ?_⟩⟩⟩
  · have o1 := own_keep hoE hK1 (fun i hi e => by have := (hoE.lt i hi).1; omega)
    exact own_keep o1 hK2 (fun i hi e => by have := (hoE.lt i hi).1; omega)
  · have o1 := own_keep hoG hK1 (fun i hi e => by have := (hoG.lt i hi).1; omega)
    exact own_keep o1 hK2 (fun i hi e => by have := (hoG.lt i hi).1; omega)

set_option maxHeartbeats 16000000 in
theorem records1_any : RecsOk := by
  intro k ao c d w hk hd hd1 hd2
  have hlb := fun W => run_len_slice (P := Tryz.prog) W 25 3 ao d.length c Tryz.underlying25
  have HD := hid hd
  have CPc : Hid (∀ W, Calls Tryz.prog 102 #[.int .i64 (d.length : Int)] W (fun e w' => e = .returned (.int .i64 1) ∧ w' = W)) := hid fun W => by
    have := vpieces_any d.length (by omega) W
    rw [show (d.length + 32751) / 32752 = 1 from by omega] at this
    exact this
  obtain ⟨m, hm⟩ : ∃ m, m = d.length := ⟨_, rfl⟩
  have HM := hid hm
  rw [← hm] at hlb CPc hd1 hd2 ⊢
  clear hd hm
  refine calls_marks Tryz.func70 rfl ?_
  simp only [Tryz.ntmps70, List.size_toArray, List.length_cons, List.length_nil, Nat.reduceAdd, Nat.reduceSub, Array.replicate_succ, Array.replicate_zero, List.push_toArray, List.append_toArray, List.nil_append, List.cons_append]
  go_upto_region 3 with (first | (go_at_call 102; refine (CPc.out _).mono ?_; rintro en w2 ⟨rfl, hw2⟩; subst hw2))
  have hb3 : Below w.heap.size w (((w.alloc (.cells #[.int .i64 (k : Int)] 3)).alloc (.cells #[.slice none 0 0] 60)).alloc (.cells #[.int .i64 0] 3)) := (((Below.refl _ _).alloc (Nat.le_refl _) _).alloc (by simp) _).alloc (by simp; omega) _
  have e0 : (((w.alloc (.cells #[.int .i64 (k : Int)] 3)).alloc (.cells #[.slice none 0 0] 60)).alloc (.cells #[.int .i64 0] 3)).heap[w.heap.size]? = some (.cells #[.int .i64 (k : Int)] 3 (0, 0)) := (Below.heap_alloc _ _ _ (by simp; omega)).trans ((Below.heap_alloc _ _ _ (by simp)).trans (heap_alloc_new _ _))
  have e1 : (((w.alloc (.cells #[.int .i64 (k : Int)] 3)).alloc (.cells #[.slice none 0 0] 60)).alloc (.cells #[.int .i64 0] 3)).heap[w.heap.size + 1]? = some (.cells #[.slice none 0 0] 60 (0, 0)) := (Below.heap_alloc _ _ _ (by simp)).trans (heap_alloc2_new w _ _)
  have e2 : (((w.alloc (.cells #[.int .i64 (k : Int)] 3)).alloc (.cells #[.slice none 0 0] 60)).alloc (.cells #[.int .i64 0] 3)).heap[w.heap.size + 2]? = some (.cells #[.int .i64 0] 3 (0, 0)) := by
    have h9 := heap_alloc2_new (w.alloc (.cells #[.int .i64 (k : Int)] 3)) (.cells #[.slice none 0 0] 60) (.cells #[.int .i64 0] 3)
    rw [show (w.alloc (.cells #[.int .i64 (k : Int)] 3)).heap.size = w.heap.size + 1 from by simp] at h9
    exact h9
  have hs3 : (((w.alloc (.cells #[.int .i64 (k : Int)] 3)).alloc (.cells #[.slice none 0 0] 60)).alloc (.cells #[.int .i64 0] 3)).heap.size = w.heap.size + 3 := by simp
  generalize ((w.alloc (.cells #[.int .i64 (k : Int)] 3)).alloc (.cells #[.slice none 0 0] 60)).alloc (.cells #[.int .i64 0] 3) = w3 at *
  have HB3 := hid hb3
  have HS3 := hid hs3
  have E3 := hid (And.intro e0 (And.intro e1 e2))
  clear hb3 hs3 e0 e1 e2
  go_wp2_with (first | (go_at_call 103; refine (vchunk_any _ _ _ _).mono ?_; rintro e w4 ⟨Bs, Bn, rfl, hBs, hBn, hs4, hn4, hb4⟩))
  have HB4 := hid (HB3.out.trans (hb4.mono HB3.out.size))
  have HD4 : Hid (Rd w4 (.slice ao d.length c) d) := hid (HD.out.old HB4.out)
  have hs3 := HS3.out
  have hs34 := hb4.size
  have E4 := hid (And.intro ((hb4.block _ (lt_of_block E3.out.1)).trans E3.out.1) (And.intro ((hb4.block _ (lt_of_block E3.out.2.1)).trans E3.out.2.1) ((hb4.block _ (lt_of_block E3.out.2.2)).trans E3.out.2.2)))
  have hnx : ∀ i, w3.heap.size ≤ i → ¬ (i = w.heap.size ∨ i = w.heap.size + 1 ∨ i = w.heap.size + 2) := fun i hi e => by omega
  refine wpIn_wide.1 (range_outer (n := 9) rfl (by omega) (gf := 119) (lb := #[.pointer (some ⟨Bs, 0, none⟩), .pointer (some ⟨Bn, 0, none⟩)]) ?hg trivial (enters_of Tryz.func119 (by kernel_rfl) rfl)
    (encs := fun k : Nat => #[vpcv ao d k]) (Kp := KpP (fun i => i = w.heap.size ∨ i = w.heap.size + 1 ∨ i = w.heap.size + 2) w4.heap.size) (Rx := VxC ao d) (S := fun xs => xs = List.range ((d.length + 32751) / 32752)) (Sp := fun _ => True) (w0 := w4)
    ?hseq (fun h k => h.trans k) (fun W W' l hl ht => KpP.turn ht hl) (Below.refl _ _) (fun _ => rfl)
    (fun pre W => RecI w4 w.heap.size k d pre.length W) (fun _ _ _ => False)
    ?hI (fun c pre W W' row hs _ _ => hs) ?h0 ?round ?done (fun D c pre W _ _ h _ => h.elim))
  case hg => rfl
  case hseq =>
    intro l J Jx W hW hJo hJxo hY h0
    refine (vchunk_in (9 - 1) (by omega) l Bs Bn ao c d (KpP (fun i => i = w.heap.size ∨ i = w.heap.size + 1 ∨ i = w.heap.size + 2) w4.heap.size) J Jx W (by have := HM.out; omega) (KpP.refl _ _ _) (fun h k => h.trans k) (fun A C hA hb => KpP.of hb (Nat.le_trans hW.size hA.size)) (fun A C h => h.size) (fun p A C hp hb => own_below hJo hp hb) hY (fun W' hk => ?_) h0).mono ?_
    · have hk2 : KpP (fun i => i = w.heap.size ∨ i = w.heap.size + 1 ∨ i = w.heap.size + 2) w4.heap.size w4 W' := (KpP.of hW (Nat.le_refl _)).trans hk
      have e1 := (hk2.block Bs (lt_of_block hs4) (hnx _ hBs)).trans hs4
      have e2 := (hk2.block Bn (lt_of_block hn4) (hnx _ hBn)).trans hn4
      rw [HM.out] at e1
      refine ⟨by simp [World.cell?, e1], by simp [World.cell?, e2], HD4.out.keep hk2.toKeep (fun hne i hb e => ?_)⟩
      obtain ⟨a, ha, hak⟩ := blk_of hb
      have h9 := rd_block HD.out hne a ha
      rcases e with e | e
      · have := HB4.out.size; omega
      · omega
    · rintro e W' ⟨h1, h2 | ⟨pre, h2⟩⟩
      · exact ⟨h1, .inl h2⟩
      · exact ⟨h1, .inr ⟨pre, trivial, h2⟩⟩
  case hI =>
    intro pre W W' row hs hg hr
    exact hs.grown hg hr
  case h0 => exact ⟨KpP.refl _ _ _, .inl ⟨rfl, E4.out.1, E4.out.2.1, E4.out.2.2⟩⟩
  case round =>
    rintro l9 pre kk W hl9 hr hI hX9
    refine wpIn_region_lit (wpListIn_assign rfl (.tmp 14) rfl (wpListIn_nil ?_))
    simp only [Act.put, List.getElem_toArray, List.getElem_cons_succ, List.getElem_cons_zero, List.setIfInBounds_toArray, List.set_cons_succ, List.set_cons_zero]
    refine ⟨KeepsFrom.refl _ _, KpP.refl _ _ _, fun Wb hT => ?_⟩
    have hIb := hI.grown hT.grown (fun r e => by cases e; exact ⟨hl9, hT.old⟩)
    obtain ⟨hkk, hkB, hrd⟩ := hX9
    have hk0 : kk = 0 := by have := HM.out; omega
    have hp0 : pre.length = 0 := by omega
    subst hk0
    have hvd : vpc d 0 = d := by unfold vpc; rw [Nat.mul_zero, List.drop_zero]; exact List.take_of_length_le (by have := HM.out; omega)
    have hrdb : Rd Wb (vpcv ao d 0) (vpc d 0) := hrd.keep (Keep.of_grown (X := fun i => some l9 = some i) hT.grown (fun _ e => e)) (fun hne i hb e => by
      cases e
      obtain ⟨a, ha, hak⟩ := blk_of hb
      cases ao with
      | none => cases ha
      | some a0 =>
        have h9 := rd_block HD4.out (by rw [← hvd]; exact hne) a0 rfl
        simp at ha
        rw [← ha, add_block] at hak
        omega)
    rw [hvd] at hrdb
    rw [hp0] at hIb
    rcases hIb with ⟨hkp, ⟨-, k0, k1, k2⟩ | ⟨e9, -⟩⟩
    · have e0 : Wb.cell? ⟨w.heap.size, 0, none⟩ = some (.int .i64 (k : Int)) := by simp [World.cell?, k0]
      have e1 : Wb.cell? ⟨w.heap.size + 1, 0, none⟩ = some (.slice none 0 0) := by simp [World.cell?, k1]
      have e2 : Wb.cell? ⟨w.heap.size + 2, 0, none⟩ = some (.int .i64 0) := by simp [World.cell?, k2]
      have hmk : m ≤ 32752 := hd2
      have hdl : d.length ≤ 32752 := by have := HM.out; omega
      obtain ⟨xa, xn, xc, hxd⟩ : ∃ xa xn xc, vpcv ao d 0 = .slice xa xn xc := ⟨_, _, _, rfl⟩
      rw [hxd] at hrdb ⊢
      have HKP := hid hkp
      have HK1 := hid k1
      have HK0 := hid k0
      have HK2 := hid k2
      have HRD := hid hrdb
      have HTT := hid hT
      have HP0 := hid hp0
      have HL9 := hid hl9
      obtain ⟨S9, hS9⟩ : ∃ S9 : World → Prop, S9 = fun V => V.cell? ⟨w.heap.size, 0, none⟩ = some (.int .i64 (k : Int)) ∧ V.cell? ⟨w.heap.size + 2, 0, none⟩ = some (.int .i64 0) := ⟨_, rfl⟩
      have hY : ∀ V, S9 V → V.cell? ⟨w.heap.size, 0, none⟩ = some (.int .i64 (k : Int)) ∧ V.cell? ⟨w.heap.size + 2, 0, none⟩ = some (.int .i64 0) := fun V h => by rw [hS9] at h; exact h
      have hY2 : ∀ V, V.cell? ⟨w.heap.size, 0, none⟩ = some (.int .i64 (k : Int)) → V.cell? ⟨w.heap.size + 2, 0, none⟩ = some (.int .i64 0) → S9 V := fun V h1 h2 => by rw [hS9]; exact ⟨h1, h2⟩
      have HS : Hid (∀ V, Below Wb.heap.size Wb V → S9 V) := hid fun V hb => hY2 V ((World.cell?_of_block (w := Wb) (a := ⟨w.heap.size, 0, none⟩) (hb.block _ (World.block_lt_of_cell? Wb _ e0))).trans e0) ((World.cell?_of_block (w := Wb) (a := ⟨w.heap.size + 2, 0, none⟩) (hb.block _ (World.block_lt_of_cell? Wb _ e2))).trans e2)
      have HL : Hid (∀ V, Below Wb.heap.size Wb V → V.cell? ⟨w.heap.size + 1, 0, none⟩ = some (.slice none 0 0)) := hid fun V hb => (World.cell?_of_block (w := Wb) (a := ⟨w.heap.size + 1, 0, none⟩) (hb.block _ (World.block_lt_of_cell? Wb _ e1))).trans e1
      have hwk : IntKind.u64.wrap (k : Int) = (k : Int) := by rw [IntKind.wrap_u64]; omega
      have hsz9 : w4.heap.size ≤ Wb.heap.size := HKP.out.size
      clear hS9 hkp k0 k1 k2 hrdb hT hp0 hl9 hr hI hrd hxd hvd hkk hkB hnx
      obtain ⟨vb9, hvb⟩ : ∃ vb9 : List UInt8, vb9 = [118, 97, 117, 108, 116] := ⟨_, rfl⟩
      obtain ⟨tv9, htv⟩ : ∃ tv9, tv9 = textL vb9 := ⟨_, rfl⟩
      obtain ⟨nk9, hnk⟩ : ∃ nk9, nk9 = numL k := ⟨_, rfl⟩
      obtain ⟨nz9, hnz⟩ : ∃ nz9, nz9 = numL 0 := ⟨_, rfl⟩
      obtain ⟨td9, htd⟩ : ∃ td9, td9 = textL d := ⟨_, rfl⟩
      have RECV : Hid (tv9 ++ (nk9 ++ (nz9 ++ td9)) = recV k d) := hid (by rw [htv, hnk, hnz, htd, hvb]; rfl)
      have HTV : Hid (∀ W x, Rd W x vb9 → Calls Tryz.prog 96 #[x] W (Gives 5 W tv9)) := hid fun W x h => by rw [htv]; exact text_any x vb9 W h (by rw [hvb]; simp)
      have HNK : Hid (∀ W, Calls Tryz.prog 95 #[.int .u64 (k : Int)] W (Gives 5 W nk9)) := hid fun W => by rw [hnk]; exact num_any k W (numL_len10 (by omega))
      have HNZ : Hid (∀ W, Calls Tryz.prog 95 #[.int .u64 0] W (Gives 5 W nz9)) := hid fun W => by rw [hnz]; exact num_any 0 W (numL_len10 (by omega))
      have HTD : Hid (∀ W x, Rd W x d → Calls Tryz.prog 96 #[x] W (Gives 5 W td9)) := hid fun W x h => by rw [htd]; exact text_any x d W h (by omega)
      have HVB := hid hvb
      clear hvb htv hnk hnz htd
      gi_upto_region 5 with fail
      refine region_held_in (S := S9) (by kernel_rfl) ?hlo (ops_all [96, 95, 94] ?hfs ?hops) (hY2 _ e0 e2) (fun hHeld => ?_)
      case hlo =>
        rintro ⟨a9, w9, h9⟩
        exact h9
      case hfs =>
        intro f hf
        simp only [List.mem_cons, List.not_mem_nil, or_false] at hf
        rcases hf with rfl | rfl | rfl
        · exact enters_of Tryz.func96 (by kernel_rfl) rfl
        · exact enters_of Tryz.func95 (by kernel_rfl) rfl
        · exact enters_of Tryz.func94 (by kernel_rfl) rfl
      case hops =>
        intro o ho9
        simp only [List.mem_cons, List.not_mem_nil, or_false] at ho9
        rcases ho9 with rfl | rfl | rfl | rfl | rfl | rfl | rfl | rfl | rfl | rfl | rfl | rfl | rfl | rfl | rfl | rfl | rfl
        all_goals first | exact .inl rfl | exact .inr (.inl ⟨_, _, _, rfl⟩) | exact .inr (.inr (.inl ⟨_, _, _, rfl⟩)) | exact .inr (.inr (.inr (.inl ⟨_, _, rfl⟩))) | exact .inr (.inr (.inr (.inr ⟨_, _, _, by simp, rfl⟩)))
      --GEN
      refine wpAnyH_take (i := 4) (v := (.int .i64 (k : Int))) rfl (by kernel_rfl) (by kernel_rfl) (by kernel_rfl) (fun _ _ _ h => (show False from h).elim) ?xyQ4x1 ?xhQ4x1 ?xrQ4x1
      case xhQ4x1 => exact hHeld
      case xyQ4x1 => exact Or.inl ⟨by rfl, fun W9 hW => by obtain ⟨hc1, hc2⟩ := hY W9 hW; clear hY hY2 hHeld; simp only [List.getElem_toArray, List.getElem_cons_succ, List.getElem_cons_zero]; go_simp⟩
      simp only [Act.put, List.getElem_toArray, List.getElem_cons_succ, List.getElem_cons_zero, List.setIfInBounds_toArray, List.set_cons_succ, List.set_cons_zero]
      refine wpAnyH_take (i := 5) (v := (.int .u64 (k : Int))) rfl (by kernel_rfl) (by kernel_rfl) (by kernel_rfl) (fun _ _ _ h => (show False from h).elim) ?xyQ5x2 ?xhQ5x2 ?xrQ5x2
      case xhQ5x2 => exact hHeld
      case xyQ5x2 => exact Or.inl ⟨by rfl, fun W9 hW => by obtain ⟨hc1, hc2⟩ := hY W9 hW; clear hY hY2 hHeld; simp only [List.getElem_toArray, List.getElem_cons_succ, List.getElem_cons_zero]; go_simp⟩
      simp only [Act.put, List.getElem_toArray, List.getElem_cons_succ, List.getElem_cons_zero, List.setIfInBounds_toArray, List.set_cons_succ, List.set_cons_zero]
      refine wpAnyH_take (i := 7) (v := (.int .i64 0)) rfl (by kernel_rfl) (by kernel_rfl) (by kernel_rfl) (fun _ _ _ h => (show False from h).elim) ?xyQ7x3 ?xhQ7x3 ?xrQ7x3
      case xhQ7x3 => exact hHeld
      case xyQ7x3 => exact Or.inl ⟨by rfl, fun W9 hW => by obtain ⟨hc1, hc2⟩ := hY W9 hW; clear hY hY2 hHeld; simp only [List.getElem_toArray, List.getElem_cons_succ, List.getElem_cons_zero]; go_simp⟩
      simp only [Act.put, List.getElem_toArray, List.getElem_cons_succ, List.getElem_cons_zero, List.setIfInBounds_toArray, List.set_cons_succ, List.set_cons_zero]
      refine wpAnyH_take (i := 8) (v := (.int .u64 0)) rfl (by kernel_rfl) (by kernel_rfl) (by kernel_rfl) (fun _ _ _ h => (show False from h).elim) ?xyQ8x4 ?xhQ8x4 ?xrQ8x4
      case xhQ8x4 => exact hHeld
      case xyQ8x4 => exact Or.inl ⟨by rfl, fun W9 hW => by obtain ⟨hc1, hc2⟩ := hY W9 hW; clear hY hY2 hHeld; simp only [List.getElem_toArray, List.getElem_cons_succ, List.getElem_cons_zero]; go_simp; rfl⟩
      simp only [Act.put, List.getElem_toArray, List.getElem_cons_succ, List.getElem_cons_zero, List.setIfInBounds_toArray, List.set_cons_succ, List.set_cons_zero]
      refine wpAnyH_take (i := 10) (v := (.slice xa xn xc)) rfl (by kernel_rfl) (by kernel_rfl) (by kernel_rfl) (fun _ _ _ h => (show False from h).elim) ?xyQ10x5 ?xhQ10x5 ?xrQ10x5
      case xhQ10x5 => exact hHeld
      case xyQ10x5 => exact Or.inl ⟨by rfl, fun W9 hW => by obtain ⟨hc1, hc2⟩ := hY W9 hW; clear hY hY2 hHeld; simp only [List.getElem_toArray, List.getElem_cons_succ, List.getElem_cons_zero]; go_simp⟩
      simp only [Act.put, List.getElem_toArray, List.getElem_cons_succ, List.getElem_cons_zero, List.setIfInBounds_toArray, List.set_cons_succ, List.set_cons_zero]
      have HDW := hid ((Below.refl Wb.heap.size Wb).drew)
      generalize Wb.drew = Wd at *
      refine wpAnyH_ready (rs := [0, 1]) (by kernel_rfl) (by simp) ?_
      refine AllReadyH.cons rfl (fun K hK => ?ra6) (AllReadyH.cons rfl (fun K hK => ?rb6) AllReadyH.nil)
      case ra6 =>
        have hcl := HL.out _ HDW.out
        go_simp
        clear hcl
        refine hK.out _ _ (HS.out _ HDW.out) (fun hHeld => ?_)
        clear hK K
        refine wpAnyH_ready (rs := [1]) (by kernel_rfl) (by simp) ?_
        refine AllReadyH.cons rfl (fun K hK => ?_) AllReadyH.nil
        have H1 := hid (HDW.out.trans (((Below.refl Wd.heap.size Wd).alloc (Nat.le_refl _) (.cells #[.int .u8 118, .int .u8 97, .int .u8 117, .int .u8 108, .int .u8 116] 5)).mono HDW.out.size))
        go_simp
        refine hK.out _ _ (HS.out _ H1.out) (fun hHeld => ?_)
        clear hK K
        refine wpAnyH_ready (rs := [2]) (by kernel_rfl) (by simp) ?_
        refine AllReadyH.cons rfl (fun K hK => ?_) AllReadyH.nil
        have H2 := hid (HDW.out.trans (((Below.refl Wd.heap.size Wd).alloc (Nat.le_refl _) (.cells #[.int .u8 118, .int .u8 97, .int .u8 117, .int .u8 108, .int .u8 116] 5 (5, 6))).mono HDW.out.size))
        have R1 : Hid (Rd (Wd.alloc (.cells #[.int .u8 118, .int .u8 97, .int .u8 117, .int .u8 108, .int .u8 116] 5 (5, 6))) (.slice (some ⟨Wd.heap.size, 0, none⟩) 5 5) vb9) := by rw [HVB.out]; exact rd_new Wd [118, 97, 117, 108, 116] 5 (5, 6) 5 rfl (by decide)
        have cv := Lib.run_convert_bytes_const (P := Tryz.prog) Wd 25 5 #[.int .u8 118, .int .u8 97, .int .u8 117, .int .u8 108, .int .u8 116] 5 5 Tryz.underlying25 Tryz.underlying5
        simp only [List.size_toArray, List.length_cons, List.length_nil, Nat.reduceAdd] at cv
        go_simp
        clear cv
        refine hK.out _ _ (HS.out _ H2.out) (fun hHeld => ?_)
        clear hK K
        generalize Wd.alloc (.cells #[.int .u8 118, .int .u8 97, .int .u8 117, .int .u8 108, .int .u8 116] 5 (5, 6)) = V1 at *
        refine wpAnyH_ready (rs := [3]) (by kernel_rfl) (by simp) ?_
        refine AllReadyH.cons rfl (fun K hK => ?_) AllReadyH.nil
        have CN := hid (HTV.out V1 _ R1.out)
        refine wp_callop 96 _ _ rfl (enters_of Tryz.func96 (by kernel_rfl) rfl) (args := #[.slice (some ⟨Wd.heap.size, 0, none⟩) 5 5]) (by simp only [List.map_toArray, List.map_cons, List.map_nil]; rfl) CN.out (fun e V3 hP9 => ?_)
        obtain ⟨vv, rfl, hoo, hbb⟩ := hP9
        have H3 := hid (H2.out.trans (hbb.mono H2.out.size))
        obtain ⟨a3, c3, rfl, h3⟩ := gives_rd hoo
        have R3 := hid h3
        clear h3
        clear hbb hoo
        refine ⟨_, rfl, ?_⟩
        clear CN
        refine hK.out _ _ (HS.out _ H3.out) (fun hHeld => ?_)
        clear hK K
        simp only [Act.put, List.getElem_toArray, List.getElem_cons_succ, List.getElem_cons_zero, List.setIfInBounds_toArray, List.set_cons_succ, List.set_cons_zero]
        refine wpAnyH_ready (rs := [6]) (by kernel_rfl) (by simp) ?_
        refine AllReadyH.cons rfl (fun K hK => ?_) AllReadyH.nil
        have CN := hid (HNK.out V3)
        refine wp_callop 95 _ _ rfl (enters_of Tryz.func95 (by kernel_rfl) rfl) (args := #[.int .u64 (k : Int)]) (by simp only [List.map_toArray, List.map_cons, List.map_nil]; rfl) CN.out (fun e V6 hP9 => ?_)
        obtain ⟨vv, rfl, hoo, hbb⟩ := hP9
        have H6 := hid (H3.out.trans (hbb.mono H3.out.size))
        obtain ⟨a6, c6, rfl, h6⟩ := gives_rd hoo
        have R6 := hid h6
        clear h6
        have R3b := hid (R3.out.old hbb)
        clear R3
        have R3 := R3b
        clear R3b
        clear hbb hoo
        refine ⟨_, rfl, ?_⟩
        clear CN
        refine hK.out _ _ (HS.out _ H6.out) (fun hHeld => ?_)
        clear hK K
        simp only [Act.put, List.getElem_toArray, List.getElem_cons_succ, List.getElem_cons_zero, List.setIfInBounds_toArray, List.set_cons_succ, List.set_cons_zero]
        refine wpAnyH_ready (rs := [9]) (by kernel_rfl) (by simp) ?_
        refine AllReadyH.cons rfl (fun K hK => ?_) AllReadyH.nil
        have CN := hid (HNZ.out V6)
        refine wp_callop 95 _ _ rfl (enters_of Tryz.func95 (by kernel_rfl) rfl) (args := #[.int .u64 0]) (by simp only [List.map_toArray, List.map_cons, List.map_nil]; rfl) CN.out (fun e V9 hP9 => ?_)
        obtain ⟨vv, rfl, hoo, hbb⟩ := hP9
        have H9 := hid (H6.out.trans (hbb.mono H6.out.size))
        obtain ⟨a9, c9, rfl, h9⟩ := gives_rd hoo
        have R9 := hid h9
        clear h9
        have R3 := hid (R3.out.old hbb)
        have R6 := hid (R6.out.old hbb)
        clear hbb hoo
        refine ⟨_, rfl, ?_⟩
        clear CN
        refine hK.out _ _ (HS.out _ H9.out) (fun hHeld => ?_)
        clear hK K
        simp only [Act.put, List.getElem_toArray, List.getElem_cons_succ, List.getElem_cons_zero, List.setIfInBounds_toArray, List.set_cons_succ, List.set_cons_zero]
        refine wpAnyH_ready (rs := [11]) (by kernel_rfl) (by simp) ?_
        refine AllReadyH.cons rfl (fun K hK => ?_) AllReadyH.nil
        have CN := hid (HTD.out V9 _ (HRD.out.old H9.out))
        refine wp_callop 96 _ _ rfl (enters_of Tryz.func96 (by kernel_rfl) rfl) (args := #[.slice xa xn xc]) (by simp only [List.map_toArray, List.map_cons, List.map_nil]; rfl) CN.out (fun e VT hP9 => ?_)
        obtain ⟨vv, rfl, hoo, hbb⟩ := hP9
        have HT9 := hid (H9.out.trans (hbb.mono H9.out.size))
        obtain ⟨aT, cT, rfl, hT9⟩ := gives_rd hoo
        have RT := hid hT9
        clear hT9
        have R3 := hid (R3.out.old hbb)
        have R6 := hid (R6.out.old hbb)
        have R9 := hid (R9.out.old hbb)
        clear hbb hoo
        refine ⟨_, rfl, ?_⟩
        clear CN
        refine hK.out _ _ (HS.out _ HT9.out) (fun hHeld => ?_)
        clear hK K
        simp only [Act.put, List.getElem_toArray, List.getElem_cons_succ, List.getElem_cons_zero, List.setIfInBounds_toArray, List.set_cons_succ, List.set_cons_zero]
        refine wpAnyH_ready (rs := [12]) (by kernel_rfl) (by simp) ?_
        refine AllReadyH.cons rfl (fun K hK => ?_) AllReadyH.nil
        have HC := hid (HT9.out.trans (((Below.refl VT.heap.size VT).alloc (Nat.le_refl _) (.cells #[.slice a3 (tv9).length c3, .slice a6 (nk9).length c6, .slice a9 (nz9).length c9, .slice aT (td9).length cT] 25)).mono HT9.out.size))
        have BC : Hid (Bss (VT.alloc (.cells #[.slice a3 (tv9).length c3, .slice a6 (nk9).length c6, .slice a9 (nz9).length c9, .slice aT (td9).length cT] 25)) (.slice (some ⟨VT.heap.size, 0, none⟩) 4 4) [⟨a3, c3, tv9⟩, ⟨a6, c6, nk9⟩, ⟨a9, c9, nz9⟩, ⟨aT, cT, td9⟩]) := bss_lit [⟨a3, c3, tv9⟩, ⟨a6, c6, nk9⟩, ⟨a9, c9, nz9⟩, ⟨aT, cT, td9⟩] (by simp) (by simp only [List.mem_cons, List.not_mem_nil, or_false, forall_eq_or_imp, forall_eq]; exact ⟨R3.out, R6.out, R9.out, RT.out⟩)
        go_simp
        refine hK.out _ _ (HS.out _ HC.out) (fun hHeld => ?_)
        clear hK K
        generalize VT.alloc (.cells #[.slice a3 (tv9).length c3, .slice a6 (nk9).length c6, .slice a9 (nz9).length c9, .slice aT (td9).length cT] 25) = VC at *
        refine wpAnyH_ready (rs := [13]) (by kernel_rfl) (by simp) ?_
        refine AllReadyH.cons rfl (fun K hK => ?_) AllReadyH.nil
        have CN := hid (concat_any (some ⟨VT.heap.size, 0, none⟩) 4 4 [⟨a3, c3, tv9⟩, ⟨a6, c6, nk9⟩, ⟨a9, c9, nz9⟩, ⟨aT, cT, td9⟩] VC rfl BC.out (by unfold catB; simp only [List.take_succ_cons, List.take_zero, List.flatMap_cons, List.flatMap_nil, List.append_nil]; rw [RECV.out]; exact recV_le k d hk hdl) (by omega))
        refine wp_callop 94 _ _ rfl (enters_of Tryz.func94 (by kernel_rfl) rfl) (args := #[.slice (some ⟨VT.heap.size, 0, none⟩) 4 4]) (by simp only [List.map_toArray, List.map_cons, List.map_nil]; rfl) CN.out (fun e VG hP9 => ?_)
        obtain ⟨vv, rfl, hoo, hbb⟩ := hP9
        have HG := hid (HC.out.trans (hbb.mono HC.out.size))
        have hoo : VG.ownsRow VC.heap.size 5 1 vv (recV k d).length ((recV k d).map bv) := (by have h9 := hoo; simp only [List.flatMap_cons, List.flatMap_nil, List.append_nil] at h9; rw [RECV.out] at h9; exact h9)
        obtain ⟨aG, cG, rfl⟩ := own_form hoo
        have OG := hid (ownsRow_base hoo HC.out.size)
        clear hbb hoo
        refine ⟨_, rfl, ?_⟩
        clear CN
        refine hK.out _ _ (HS.out _ HG.out) (fun hHeld => ?_)
        clear hK K
        simp only [Act.put, List.getElem_toArray, List.getElem_cons_succ, List.getElem_cons_zero, List.setIfInBounds_toArray, List.set_cons_succ, List.set_cons_zero]
        refine wpAnyH_ready (rs := [14]) (by kernel_rfl) (by simp) ?_
        refine AllReadyH.cons rfl (fun K hK => ?_) AllReadyH.nil
        have HD9 := hid (HG.out.trans (((Below.refl VG.heap.size VG).alloc (Nat.le_refl _) (.cells #[.slice aG (recV k d).length cG] 25)).mono HG.out.size))
        obtain ⟨po, pc, VE, hrun, hoE, hbE, hoG9⟩ := rec_app VG aG cG (recV k d) Wb.heap.size w4.heap.size OG.out HG.out.size hsz9
        go_simp
        refine hK.out _ _ (HS.out _ HD9.out) (fun hHeld => ?_)
        clear hK K
        refine wpAnyH_ready (rs := [15]) (by kernel_rfl) (by simp) ?_
        refine AllReadyH.cons rfl (fun K hK => ?_) AllReadyH.nil
        have HE9 := hid (HD9.out.trans (hbE.mono HD9.out.size))
        refine step_known (.tmp 15) (.tmp 29) 60 (by rfl) (by rfl) _ _ _ (by rfl) (by rfl) hrun (by first | rfl | (simp [Region.wanted, yielded]; done)) ?_
        refine hK.out _ _ (HS.out _ HE9.out) (fun hHeld => ?_)
        clear hK K
        simp only [Act.put, List.getElem_toArray, List.getElem_cons_succ, List.getElem_cons_zero, List.setIfInBounds_toArray, List.set_cons_succ, List.set_cons_zero]
        refine wpAnyH_ready (rs := [16]) (by kernel_rfl) (by simp) ?_
        refine AllReadyH.cons rfl (fun K hK => ?_) AllReadyH.nil
        have hlist : VE.heap[w.heap.size + 1]? = some (.cells #[.slice none 0 0] 60 (0, 0)) := (HE9.out.block _ (lt_of_block HK1.out)).trans HK1.out
        have hlc : VE.cell? ⟨w.heap.size + 1, 0, none⟩ = some (.slice none 0 0) := by simp [World.cell?, hlist]
        have hlf : VE.frozen? ⟨w.heap.size + 1, 0, none⟩ = false := by simp [World.frozen?, hlist]
        go_simp
        refine hK.out _ _ (hY2 _ (by rw [cell_set_other _ _ _ _ (show w.heap.size ≠ w.heap.size + 1 from by omega)]; exact (hY _ (HS.out _ HE9.out)).1) (by rw [cell_set_other _ _ _ _ (show w.heap.size + 2 ≠ w.heap.size + 1 from by omega)]; exact (hY _ (HS.out _ HE9.out)).2)) (fun hHeld => ?_)
        clear hK K
        refine wpAnyH_done (by kernel_rfl) ?_ _
        have hsE := HE9.out.size
        have y0 := (HE9.out.block _ (lt_of_block HK0.out)).trans HK0.out
        have y2 := (HE9.out.block _ (lt_of_block HK2.out)).trans HK2.out
        have z0 : (VE.setCell ⟨w.heap.size + 1, 0, none⟩ (.slice po 1 pc)).heap[w.heap.size]? = some (.cells #[.int .i64 (k : Int)] 3 (0, 0)) := (Below.heap_setCell _ ⟨w.heap.size + 1, 0, none⟩ _ w.heap.size (by show w.heap.size ≠ w.heap.size + 1; omega)).trans y0
        have z2 : (VE.setCell ⟨w.heap.size + 1, 0, none⟩ (.slice po 1 pc)).heap[w.heap.size + 2]? = some (.cells #[.int .i64 0] 3 (0, 0)) := (Below.heap_setCell _ ⟨w.heap.size + 1, 0, none⟩ _ (w.heap.size + 2) (by show w.heap.size + 2 ≠ w.heap.size + 1; omega)).trans y2
        have z1 := set_at (k := 0) (.slice po 1 pc) hlist
        have HZ0 := hid z0
        have HZ1 := hid z1
        have HZ2 := hid z2
        have HOE := hid hoE
        have HOG := hid hoG9
        have HLI := hid hlist
        have f0 : (VE.setCell ⟨w.heap.size + 1, 0, none⟩ (.slice po 1 pc)).frozen? ⟨w.heap.size, 0, none⟩ = false := by simp [World.frozen?, z0]
        have f2 : (VE.setCell ⟨w.heap.size + 1, 0, none⟩ (.slice po 1 pc)).frozen? ⟨w.heap.size + 2, 0, none⟩ = false := by simp [World.frozen?, z2]
        have g0 : (VE.setCell ⟨w.heap.size + 1, 0, none⟩ (.slice po 1 pc)).cell? ⟨w.heap.size, 0, none⟩ = some (.int .i64 (k : Int)) := by simp [World.cell?, z0]
        have g2 : (VE.setCell ⟨w.heap.size + 1, 0, none⟩ (.slice po 1 pc)).cell? ⟨w.heap.size + 2, 0, none⟩ = some (.int .i64 0) := by simp [World.cell?, z2]
        have kE : Keep (fun i => i = w.heap.size + 1) VE (VE.setCell ⟨w.heap.size + 1, 0, none⟩ (.slice po 1 pc)) := Keep.set VE ⟨w.heap.size + 1, 0, none⟩ _ rfl
        have HKE := hid kE
        clear hoE hoG9 hlist hlc hlf y0 y2 z0 z1 z2 hHeld hY hY2 hrun hbE e0 e1 e2 kE
        generalize VE.setCell ⟨w.heap.size + 1, 0, none⟩ (.slice po 1 pc) = VF at *
        gi_upto_region 6 with fail
        refine region_held_in (S := fun _ => Hid True) (by kernel_rfl) ?hlo6 ?hops6 trivial (fun hHeld => ?_)
        case hlo6 =>
          rintro ⟨a9, w9, h9⟩
          exact h9
        case hops6 =>
          intro i o ho
          rw [List.getElem?_toArray] at ho
          have hm := List.mem_of_getElem? ho
          simp only [List.mem_cons, List.not_mem_nil, or_false] at hm
          rcases hm with rfl | rfl | rfl | rfl
          all_goals refine ⟨fun c hc => (by cases hc), fun a w row args w' => ?_⟩
          all_goals first | exact simple_noRow (by rfl) a.eval w row args w' | exact binop_noRow rfl a.eval w row args w'
        have g0 : VF.drew.cell? ⟨w.heap.size, 0, none⟩ = some (.int .i64 (k : Int)) := g0
        have g2 : VF.drew.cell? ⟨w.heap.size + 2, 0, none⟩ = some (.int .i64 0) := g2
        have f0 : VF.drew.frozen? ⟨w.heap.size, 0, none⟩ = false := f0
        have f2 : VF.drew.frozen? ⟨w.heap.size + 2, 0, none⟩ = false := f2
        have HZ0 : Hid (VF.drew.heap[w.heap.size]? = some (.cells #[.int .i64 (k : Int)] 3 (0, 0))) := HZ0
        have HZ1 : Hid (VF.drew.heap[w.heap.size + 1]? = some (.cells #[.slice po 1 pc] 60 (0, 0))) := HZ1
        have HZ2 : Hid (VF.drew.heap[w.heap.size + 2]? = some (.cells #[.int .i64 0] 3 (0, 0))) := HZ2
        have HKE : Hid (Keep (fun i => i = w.heap.size + 1) VE VF.drew) := ⟨HKE.out.os, HKE.out.tape, HKE.out.output, HKE.out.size, HKE.out.block⟩
        generalize VF.drew = VD at *
        have hlp : (pre ++ [0]).length = 1 := by rw [List.length_append, HP0.out]; rfl
        have c6a : Keep (fun i => i = w.heap.size ∨ i = w.heap.size + 2) VD ((VD.setCell ⟨w.heap.size, 0, none⟩ (.int .i64 0)).setCell ⟨w.heap.size + 1 + 1, 0, none⟩ (.int .i64 (-1))) := (Keep.set (X := fun i => i = w.heap.size ∨ i = w.heap.size + 2) VD ⟨w.heap.size, 0, none⟩ _ (.inl rfl)).trans (Keep.set (X := fun i => i = w.heap.size ∨ i = w.heap.size + 2) _ ⟨w.heap.size + 1 + 1, 0, none⟩ _ (.inr rfl))
        have FIN := rec_fin HE9.out HOE.out HOG.out HKE.out HZ1.out c6a HKP.out hsz9 (by have := HS3.out; omega) hlp
        refine wpAnyH_ready (rs := [0, 2]) (by kernel_rfl) (by simp) ?_
        refine AllReadyH.cons rfl (fun K hK => ?ra7) (AllReadyH.cons rfl (fun K hK => ?rb7) AllReadyH.nil)
        case ra7 =>
          go_simp
          refine hK.out _ _ trivial (fun hHeld => ?_)
          clear hK K
          refine wpAnyH_take (i := 1) (v := (.int .i64 (-1))) rfl (by kernel_rfl) (by kernel_rfl) (by kernel_rfl) (fun _ _ _ h => (show False from h).elim) ?xyQ1y8 ?xhQ1y8 ?xrQ1y8
          case xhQ1y8 => exact hHeld
          case xyQ1y8 => exact Or.inl ⟨by rfl, fun W9 hW => by clear hHeld; simp only [List.getElem_toArray, List.getElem_cons_succ, List.getElem_cons_zero]; go_simp; first | rfl | decide⟩
          simp only [Act.put, List.getElem_toArray, List.getElem_cons_succ, List.getElem_cons_zero, List.setIfInBounds_toArray, List.set_cons_succ, List.set_cons_zero]
          refine wpAnyH_ready (rs := [2]) (by kernel_rfl) (by simp) ?_
          refine AllReadyH.cons rfl (fun K hK => ?_) AllReadyH.nil
          go_simp
          refine hK.out _ _ trivial (fun hHeld => ?_)
          clear hK K
          refine wpAnyH_ready (rs := [3]) (by kernel_rfl) (by simp) ?_
          refine AllReadyH.cons rfl (fun K hK => ?_) AllReadyH.nil
          go_simp
          refine hK.out _ _ trivial (fun hHeld => ?_)
          clear hK K
          refine wpAnyH_done (by kernel_rfl) ?_ _
          exact FIN
        case rb7 =>
          go_simp
          refine hK.out _ _ trivial (fun hHeld => ?_)
          clear hK K
          refine wpAnyH_ready (rs := [0]) (by kernel_rfl) (by simp) ?_
          refine AllReadyH.cons rfl (fun K hK => ?_) AllReadyH.nil
          go_simp
          refine hK.out _ _ trivial (fun hHeld => ?_)
          clear hK K
          refine wpAnyH_take (i := 1) (v := (.int .i64 (-1))) rfl (by kernel_rfl) (by kernel_rfl) (by kernel_rfl) (fun _ _ _ h => (show False from h).elim) ?xyQ1y9 ?xhQ1y9 ?xrQ1y9
          case xhQ1y9 => exact hHeld
          case xyQ1y9 => exact Or.inl ⟨by rfl, fun W9 hW => by clear hHeld; simp only [List.getElem_toArray, List.getElem_cons_succ, List.getElem_cons_zero]; go_simp; first | rfl | decide⟩
          simp only [Act.put, List.getElem_toArray, List.getElem_cons_succ, List.getElem_cons_zero, List.setIfInBounds_toArray, List.set_cons_succ, List.set_cons_zero]
          refine wpAnyH_ready (rs := [3]) (by kernel_rfl) (by simp) ?_
          refine AllReadyH.cons rfl (fun K hK => ?_) AllReadyH.nil
          go_simp
          refine hK.out _ _ trivial (fun hHeld => ?_)
          clear hK K
          refine wpAnyH_done (by kernel_rfl) ?_ _
          exact FIN
      case rb6 =>
        have H1 := hid (HDW.out.trans (((Below.refl Wd.heap.size Wd).alloc (Nat.le_refl _) (.cells #[.int .u8 118, .int .u8 97, .int .u8 117, .int .u8 108, .int .u8 116] 5)).mono HDW.out.size))
        go_simp
        refine hK.out _ _ (HS.out _ H1.out) (fun hHeld => ?_)
        clear hK K
        refine wpAnyH_ready (rs := [0, 2]) (by kernel_rfl) (by simp) ?_
        refine AllReadyH.cons rfl (fun K hK => ?ra10) (AllReadyH.cons rfl (fun K hK => ?rb10) AllReadyH.nil)
        case ra10 =>
          have hcl := HL.out _ H1.out
          go_simp
          clear hcl
          refine hK.out _ _ (HS.out _ H1.out) (fun hHeld => ?_)
          clear hK K
          refine wpAnyH_ready (rs := [2]) (by kernel_rfl) (by simp) ?_
          refine AllReadyH.cons rfl (fun K hK => ?_) AllReadyH.nil
          have H2 := hid (HDW.out.trans (((Below.refl Wd.heap.size Wd).alloc (Nat.le_refl _) (.cells #[.int .u8 118, .int .u8 97, .int .u8 117, .int .u8 108, .int .u8 116] 5 (5, 6))).mono HDW.out.size))
          have R1 : Hid (Rd (Wd.alloc (.cells #[.int .u8 118, .int .u8 97, .int .u8 117, .int .u8 108, .int .u8 116] 5 (5, 6))) (.slice (some ⟨Wd.heap.size, 0, none⟩) 5 5) vb9) := by rw [HVB.out]; exact rd_new Wd [118, 97, 117, 108, 116] 5 (5, 6) 5 rfl (by decide)
          have cv := Lib.run_convert_bytes_const (P := Tryz.prog) Wd 25 5 #[.int .u8 118, .int .u8 97, .int .u8 117, .int .u8 108, .int .u8 116] 5 5 Tryz.underlying25 Tryz.underlying5
          simp only [List.size_toArray, List.length_cons, List.length_nil, Nat.reduceAdd] at cv
          go_simp
          clear cv
          refine hK.out _ _ (HS.out _ H2.out) (fun hHeld => ?_)
          clear hK K
          generalize Wd.alloc (.cells #[.int .u8 118, .int .u8 97, .int .u8 117, .int .u8 108, .int .u8 116] 5 (5, 6)) = V1 at *
          refine wpAnyH_ready (rs := [3]) (by kernel_rfl) (by simp) ?_
          refine AllReadyH.cons rfl (fun K hK => ?_) AllReadyH.nil
          have CN := hid (HTV.out V1 _ R1.out)
          refine wp_callop 96 _ _ rfl (enters_of Tryz.func96 (by kernel_rfl) rfl) (args := #[.slice (some ⟨Wd.heap.size, 0, none⟩) 5 5]) (by simp only [List.map_toArray, List.map_cons, List.map_nil]; rfl) CN.out (fun e V3 hP9 => ?_)
          obtain ⟨vv, rfl, hoo, hbb⟩ := hP9
          have H3 := hid (H2.out.trans (hbb.mono H2.out.size))
          obtain ⟨a3, c3, rfl, h3⟩ := gives_rd hoo
          have R3 := hid h3
          clear h3
          clear hbb hoo
          refine ⟨_, rfl, ?_⟩
          clear CN
          refine hK.out _ _ (HS.out _ H3.out) (fun hHeld => ?_)
          clear hK K
          simp only [Act.put, List.getElem_toArray, List.getElem_cons_succ, List.getElem_cons_zero, List.setIfInBounds_toArray, List.set_cons_succ, List.set_cons_zero]
          refine wpAnyH_ready (rs := [6]) (by kernel_rfl) (by simp) ?_
          refine AllReadyH.cons rfl (fun K hK => ?_) AllReadyH.nil
          have CN := hid (HNK.out V3)
          refine wp_callop 95 _ _ rfl (enters_of Tryz.func95 (by kernel_rfl) rfl) (args := #[.int .u64 (k : Int)]) (by simp only [List.map_toArray, List.map_cons, List.map_nil]; rfl) CN.out (fun e V6 hP9 => ?_)
          obtain ⟨vv, rfl, hoo, hbb⟩ := hP9
          have H6 := hid (H3.out.trans (hbb.mono H3.out.size))
          obtain ⟨a6, c6, rfl, h6⟩ := gives_rd hoo
          have R6 := hid h6
          clear h6
          have R3b := hid (R3.out.old hbb)
          clear R3
          have R3 := R3b
          clear R3b
          clear hbb hoo
          refine ⟨_, rfl, ?_⟩
          clear CN
          refine hK.out _ _ (HS.out _ H6.out) (fun hHeld => ?_)
          clear hK K
          simp only [Act.put, List.getElem_toArray, List.getElem_cons_succ, List.getElem_cons_zero, List.setIfInBounds_toArray, List.set_cons_succ, List.set_cons_zero]
          refine wpAnyH_ready (rs := [9]) (by kernel_rfl) (by simp) ?_
          refine AllReadyH.cons rfl (fun K hK => ?_) AllReadyH.nil
          have CN := hid (HNZ.out V6)
          refine wp_callop 95 _ _ rfl (enters_of Tryz.func95 (by kernel_rfl) rfl) (args := #[.int .u64 0]) (by simp only [List.map_toArray, List.map_cons, List.map_nil]; rfl) CN.out (fun e V9 hP9 => ?_)
          obtain ⟨vv, rfl, hoo, hbb⟩ := hP9
          have H9 := hid (H6.out.trans (hbb.mono H6.out.size))
          obtain ⟨a9, c9, rfl, h9⟩ := gives_rd hoo
          have R9 := hid h9
          clear h9
          have R3 := hid (R3.out.old hbb)
          have R6 := hid (R6.out.old hbb)
          clear hbb hoo
          refine ⟨_, rfl, ?_⟩
          clear CN
          refine hK.out _ _ (HS.out _ H9.out) (fun hHeld => ?_)
          clear hK K
          simp only [Act.put, List.getElem_toArray, List.getElem_cons_succ, List.getElem_cons_zero, List.setIfInBounds_toArray, List.set_cons_succ, List.set_cons_zero]
          refine wpAnyH_ready (rs := [11]) (by kernel_rfl) (by simp) ?_
          refine AllReadyH.cons rfl (fun K hK => ?_) AllReadyH.nil
          have CN := hid (HTD.out V9 _ (HRD.out.old H9.out))
          refine wp_callop 96 _ _ rfl (enters_of Tryz.func96 (by kernel_rfl) rfl) (args := #[.slice xa xn xc]) (by simp only [List.map_toArray, List.map_cons, List.map_nil]; rfl) CN.out (fun e VT hP9 => ?_)
          obtain ⟨vv, rfl, hoo, hbb⟩ := hP9
          have HT9 := hid (H9.out.trans (hbb.mono H9.out.size))
          obtain ⟨aT, cT, rfl, hT9⟩ := gives_rd hoo
          have RT := hid hT9
          clear hT9
          have R3 := hid (R3.out.old hbb)
          have R6 := hid (R6.out.old hbb)
          have R9 := hid (R9.out.old hbb)
          clear hbb hoo
          refine ⟨_, rfl, ?_⟩
          clear CN
          refine hK.out _ _ (HS.out _ HT9.out) (fun hHeld => ?_)
          clear hK K
          simp only [Act.put, List.getElem_toArray, List.getElem_cons_succ, List.getElem_cons_zero, List.setIfInBounds_toArray, List.set_cons_succ, List.set_cons_zero]
          refine wpAnyH_ready (rs := [12]) (by kernel_rfl) (by simp) ?_
          refine AllReadyH.cons rfl (fun K hK => ?_) AllReadyH.nil
          have HC := hid (HT9.out.trans (((Below.refl VT.heap.size VT).alloc (Nat.le_refl _) (.cells #[.slice a3 (tv9).length c3, .slice a6 (nk9).length c6, .slice a9 (nz9).length c9, .slice aT (td9).length cT] 25)).mono HT9.out.size))
          have BC : Hid (Bss (VT.alloc (.cells #[.slice a3 (tv9).length c3, .slice a6 (nk9).length c6, .slice a9 (nz9).length c9, .slice aT (td9).length cT] 25)) (.slice (some ⟨VT.heap.size, 0, none⟩) 4 4) [⟨a3, c3, tv9⟩, ⟨a6, c6, nk9⟩, ⟨a9, c9, nz9⟩, ⟨aT, cT, td9⟩]) := bss_lit [⟨a3, c3, tv9⟩, ⟨a6, c6, nk9⟩, ⟨a9, c9, nz9⟩, ⟨aT, cT, td9⟩] (by simp) (by simp only [List.mem_cons, List.not_mem_nil, or_false, forall_eq_or_imp, forall_eq]; exact ⟨R3.out, R6.out, R9.out, RT.out⟩)
          go_simp
          refine hK.out _ _ (HS.out _ HC.out) (fun hHeld => ?_)
          clear hK K
          generalize VT.alloc (.cells #[.slice a3 (tv9).length c3, .slice a6 (nk9).length c6, .slice a9 (nz9).length c9, .slice aT (td9).length cT] 25) = VC at *
          refine wpAnyH_ready (rs := [13]) (by kernel_rfl) (by simp) ?_
          refine AllReadyH.cons rfl (fun K hK => ?_) AllReadyH.nil
          have CN := hid (concat_any (some ⟨VT.heap.size, 0, none⟩) 4 4 [⟨a3, c3, tv9⟩, ⟨a6, c6, nk9⟩, ⟨a9, c9, nz9⟩, ⟨aT, cT, td9⟩] VC rfl BC.out (by unfold catB; simp only [List.take_succ_cons, List.take_zero, List.flatMap_cons, List.flatMap_nil, List.append_nil]; rw [RECV.out]; exact recV_le k d hk hdl) (by omega))
          refine wp_callop 94 _ _ rfl (enters_of Tryz.func94 (by kernel_rfl) rfl) (args := #[.slice (some ⟨VT.heap.size, 0, none⟩) 4 4]) (by simp only [List.map_toArray, List.map_cons, List.map_nil]; rfl) CN.out (fun e VG hP9 => ?_)
          obtain ⟨vv, rfl, hoo, hbb⟩ := hP9
          have HG := hid (HC.out.trans (hbb.mono HC.out.size))
          have hoo : VG.ownsRow VC.heap.size 5 1 vv (recV k d).length ((recV k d).map bv) := (by have h9 := hoo; simp only [List.flatMap_cons, List.flatMap_nil, List.append_nil] at h9; rw [RECV.out] at h9; exact h9)
          obtain ⟨aG, cG, rfl⟩ := own_form hoo
          have OG := hid (ownsRow_base hoo HC.out.size)
          clear hbb hoo
          refine ⟨_, rfl, ?_⟩
          clear CN
          refine hK.out _ _ (HS.out _ HG.out) (fun hHeld => ?_)
          clear hK K
          simp only [Act.put, List.getElem_toArray, List.getElem_cons_succ, List.getElem_cons_zero, List.setIfInBounds_toArray, List.set_cons_succ, List.set_cons_zero]
          refine wpAnyH_ready (rs := [14]) (by kernel_rfl) (by simp) ?_
          refine AllReadyH.cons rfl (fun K hK => ?_) AllReadyH.nil
          have HD9 := hid (HG.out.trans (((Below.refl VG.heap.size VG).alloc (Nat.le_refl _) (.cells #[.slice aG (recV k d).length cG] 25)).mono HG.out.size))
          obtain ⟨po, pc, VE, hrun, hoE, hbE, hoG9⟩ := rec_app VG aG cG (recV k d) Wb.heap.size w4.heap.size OG.out HG.out.size hsz9
          go_simp
          refine hK.out _ _ (HS.out _ HD9.out) (fun hHeld => ?_)
          clear hK K
          refine wpAnyH_ready (rs := [15]) (by kernel_rfl) (by simp) ?_
          refine AllReadyH.cons rfl (fun K hK => ?_) AllReadyH.nil
          have HE9 := hid (HD9.out.trans (hbE.mono HD9.out.size))
          refine step_known (.tmp 15) (.tmp 29) 60 (by rfl) (by rfl) _ _ _ (by rfl) (by rfl) hrun (by first | rfl | (simp [Region.wanted, yielded]; done)) ?_
          refine hK.out _ _ (HS.out _ HE9.out) (fun hHeld => ?_)
          clear hK K
          simp only [Act.put, List.getElem_toArray, List.getElem_cons_succ, List.getElem_cons_zero, List.setIfInBounds_toArray, List.set_cons_succ, List.set_cons_zero]
          refine wpAnyH_ready (rs := [16]) (by kernel_rfl) (by simp) ?_
          refine AllReadyH.cons rfl (fun K hK => ?_) AllReadyH.nil
          have hlist : VE.heap[w.heap.size + 1]? = some (.cells #[.slice none 0 0] 60 (0, 0)) := (HE9.out.block _ (lt_of_block HK1.out)).trans HK1.out
          have hlc : VE.cell? ⟨w.heap.size + 1, 0, none⟩ = some (.slice none 0 0) := by simp [World.cell?, hlist]
          have hlf : VE.frozen? ⟨w.heap.size + 1, 0, none⟩ = false := by simp [World.frozen?, hlist]
          go_simp
          refine hK.out _ _ (hY2 _ (by rw [cell_set_other _ _ _ _ (show w.heap.size ≠ w.heap.size + 1 from by omega)]; exact (hY _ (HS.out _ HE9.out)).1) (by rw [cell_set_other _ _ _ _ (show w.heap.size + 2 ≠ w.heap.size + 1 from by omega)]; exact (hY _ (HS.out _ HE9.out)).2)) (fun hHeld => ?_)
          clear hK K
          refine wpAnyH_done (by kernel_rfl) ?_ _
          have hsE := HE9.out.size
          have y0 := (HE9.out.block _ (lt_of_block HK0.out)).trans HK0.out
          have y2 := (HE9.out.block _ (lt_of_block HK2.out)).trans HK2.out
          have z0 : (VE.setCell ⟨w.heap.size + 1, 0, none⟩ (.slice po 1 pc)).heap[w.heap.size]? = some (.cells #[.int .i64 (k : Int)] 3 (0, 0)) := (Below.heap_setCell _ ⟨w.heap.size + 1, 0, none⟩ _ w.heap.size (by show w.heap.size ≠ w.heap.size + 1; omega)).trans y0
          have z2 : (VE.setCell ⟨w.heap.size + 1, 0, none⟩ (.slice po 1 pc)).heap[w.heap.size + 2]? = some (.cells #[.int .i64 0] 3 (0, 0)) := (Below.heap_setCell _ ⟨w.heap.size + 1, 0, none⟩ _ (w.heap.size + 2) (by show w.heap.size + 2 ≠ w.heap.size + 1; omega)).trans y2
          have z1 := set_at (k := 0) (.slice po 1 pc) hlist
          have HZ0 := hid z0
          have HZ1 := hid z1
          have HZ2 := hid z2
          have HOE := hid hoE
          have HOG := hid hoG9
          have HLI := hid hlist
          have f0 : (VE.setCell ⟨w.heap.size + 1, 0, none⟩ (.slice po 1 pc)).frozen? ⟨w.heap.size, 0, none⟩ = false := by simp [World.frozen?, z0]
          have f2 : (VE.setCell ⟨w.heap.size + 1, 0, none⟩ (.slice po 1 pc)).frozen? ⟨w.heap.size + 2, 0, none⟩ = false := by simp [World.frozen?, z2]
          have g0 : (VE.setCell ⟨w.heap.size + 1, 0, none⟩ (.slice po 1 pc)).cell? ⟨w.heap.size, 0, none⟩ = some (.int .i64 (k : Int)) := by simp [World.cell?, z0]
          have g2 : (VE.setCell ⟨w.heap.size + 1, 0, none⟩ (.slice po 1 pc)).cell? ⟨w.heap.size + 2, 0, none⟩ = some (.int .i64 0) := by simp [World.cell?, z2]
          have kE : Keep (fun i => i = w.heap.size + 1) VE (VE.setCell ⟨w.heap.size + 1, 0, none⟩ (.slice po 1 pc)) := Keep.set VE ⟨w.heap.size + 1, 0, none⟩ _ rfl
          have HKE := hid kE
          clear hoE hoG9 hlist hlc hlf y0 y2 z0 z1 z2 hHeld hY hY2 hrun hbE e0 e1 e2 kE
          generalize VE.setCell ⟨w.heap.size + 1, 0, none⟩ (.slice po 1 pc) = VF at *
          gi_upto_region 6 with fail
          refine region_held_in (S := fun _ => Hid True) (by kernel_rfl) ?hlo6 ?hops6 trivial (fun hHeld => ?_)
          case hlo6 =>
            rintro ⟨a9, w9, h9⟩
            exact h9
          case hops6 =>
            intro i o ho
            rw [List.getElem?_toArray] at ho
            have hm := List.mem_of_getElem? ho
            simp only [List.mem_cons, List.not_mem_nil, or_false] at hm
            rcases hm with rfl | rfl | rfl | rfl
            all_goals refine ⟨fun c hc => (by cases hc), fun a w row args w' => ?_⟩
            all_goals first | exact simple_noRow (by rfl) a.eval w row args w' | exact binop_noRow rfl a.eval w row args w'
          have g0 : VF.drew.cell? ⟨w.heap.size, 0, none⟩ = some (.int .i64 (k : Int)) := g0
          have g2 : VF.drew.cell? ⟨w.heap.size + 2, 0, none⟩ = some (.int .i64 0) := g2
          have f0 : VF.drew.frozen? ⟨w.heap.size, 0, none⟩ = false := f0
          have f2 : VF.drew.frozen? ⟨w.heap.size + 2, 0, none⟩ = false := f2
          have HZ0 : Hid (VF.drew.heap[w.heap.size]? = some (.cells #[.int .i64 (k : Int)] 3 (0, 0))) := HZ0
          have HZ1 : Hid (VF.drew.heap[w.heap.size + 1]? = some (.cells #[.slice po 1 pc] 60 (0, 0))) := HZ1
          have HZ2 : Hid (VF.drew.heap[w.heap.size + 2]? = some (.cells #[.int .i64 0] 3 (0, 0))) := HZ2
          have HKE : Hid (Keep (fun i => i = w.heap.size + 1) VE VF.drew) := ⟨HKE.out.os, HKE.out.tape, HKE.out.output, HKE.out.size, HKE.out.block⟩
          generalize VF.drew = VD at *
          have hlp : (pre ++ [0]).length = 1 := by rw [List.length_append, HP0.out]; rfl
          have c6a : Keep (fun i => i = w.heap.size ∨ i = w.heap.size + 2) VD ((VD.setCell ⟨w.heap.size, 0, none⟩ (.int .i64 0)).setCell ⟨w.heap.size + 1 + 1, 0, none⟩ (.int .i64 (-1))) := (Keep.set (X := fun i => i = w.heap.size ∨ i = w.heap.size + 2) VD ⟨w.heap.size, 0, none⟩ _ (.inl rfl)).trans (Keep.set (X := fun i => i = w.heap.size ∨ i = w.heap.size + 2) _ ⟨w.heap.size + 1 + 1, 0, none⟩ _ (.inr rfl))
          have FIN := rec_fin HE9.out HOE.out HOG.out HKE.out HZ1.out c6a HKP.out hsz9 (by have := HS3.out; omega) hlp
          refine wpAnyH_ready (rs := [0, 2]) (by kernel_rfl) (by simp) ?_
          refine AllReadyH.cons rfl (fun K hK => ?ra11) (AllReadyH.cons rfl (fun K hK => ?rb11) AllReadyH.nil)
          case ra11 =>
            go_simp
            refine hK.out _ _ trivial (fun hHeld => ?_)
            clear hK K
            refine wpAnyH_take (i := 1) (v := (.int .i64 (-1))) rfl (by kernel_rfl) (by kernel_rfl) (by kernel_rfl) (fun _ _ _ h => (show False from h).elim) ?xyQ1y12 ?xhQ1y12 ?xrQ1y12
            case xhQ1y12 => exact hHeld
            case xyQ1y12 => exact Or.inl ⟨by rfl, fun W9 hW => by clear hHeld; simp only [List.getElem_toArray, List.getElem_cons_succ, List.getElem_cons_zero]; go_simp; first | rfl | decide⟩
            simp only [Act.put, List.getElem_toArray, List.getElem_cons_succ, List.getElem_cons_zero, List.setIfInBounds_toArray, List.set_cons_succ, List.set_cons_zero]
            refine wpAnyH_ready (rs := [2]) (by kernel_rfl) (by simp) ?_
            refine AllReadyH.cons rfl (fun K hK => ?_) AllReadyH.nil
            go_simp
            refine hK.out _ _ trivial (fun hHeld => ?_)
            clear hK K
            refine wpAnyH_ready (rs := [3]) (by kernel_rfl) (by simp) ?_
            refine AllReadyH.cons rfl (fun K hK => ?_) AllReadyH.nil
            go_simp
            refine hK.out _ _ trivial (fun hHeld => ?_)
            clear hK K
            refine wpAnyH_done (by kernel_rfl) ?_ _
            exact FIN
          case rb11 =>
            go_simp
            refine hK.out _ _ trivial (fun hHeld => ?_)
            clear hK K
            refine wpAnyH_ready (rs := [0]) (by kernel_rfl) (by simp) ?_
            refine AllReadyH.cons rfl (fun K hK => ?_) AllReadyH.nil
            go_simp
            refine hK.out _ _ trivial (fun hHeld => ?_)
            clear hK K
            refine wpAnyH_take (i := 1) (v := (.int .i64 (-1))) rfl (by kernel_rfl) (by kernel_rfl) (by kernel_rfl) (fun _ _ _ h => (show False from h).elim) ?xyQ1y13 ?xhQ1y13 ?xrQ1y13
            case xhQ1y13 => exact hHeld
            case xyQ1y13 => exact Or.inl ⟨by rfl, fun W9 hW => by clear hHeld; simp only [List.getElem_toArray, List.getElem_cons_succ, List.getElem_cons_zero]; go_simp; first | rfl | decide⟩
            simp only [Act.put, List.getElem_toArray, List.getElem_cons_succ, List.getElem_cons_zero, List.setIfInBounds_toArray, List.set_cons_succ, List.set_cons_zero]
            refine wpAnyH_ready (rs := [3]) (by kernel_rfl) (by simp) ?_
            refine AllReadyH.cons rfl (fun K hK => ?_) AllReadyH.nil
            go_simp
            refine hK.out _ _ trivial (fun hHeld => ?_)
            clear hK K
            refine wpAnyH_done (by kernel_rfl) ?_ _
            exact FIN
        case rb10 =>
          have H2 := hid (HDW.out.trans (((Below.refl Wd.heap.size Wd).alloc (Nat.le_refl _) (.cells #[.int .u8 118, .int .u8 97, .int .u8 117, .int .u8 108, .int .u8 116] 5 (5, 6))).mono HDW.out.size))
          have R1 : Hid (Rd (Wd.alloc (.cells #[.int .u8 118, .int .u8 97, .int .u8 117, .int .u8 108, .int .u8 116] 5 (5, 6))) (.slice (some ⟨Wd.heap.size, 0, none⟩) 5 5) vb9) := by rw [HVB.out]; exact rd_new Wd [118, 97, 117, 108, 116] 5 (5, 6) 5 rfl (by decide)
          have cv := Lib.run_convert_bytes_const (P := Tryz.prog) Wd 25 5 #[.int .u8 118, .int .u8 97, .int .u8 117, .int .u8 108, .int .u8 116] 5 5 Tryz.underlying25 Tryz.underlying5
          simp only [List.size_toArray, List.length_cons, List.length_nil, Nat.reduceAdd] at cv
          go_simp
          clear cv
          refine hK.out _ _ (HS.out _ H2.out) (fun hHeld => ?_)
          clear hK K
          generalize Wd.alloc (.cells #[.int .u8 118, .int .u8 97, .int .u8 117, .int .u8 108, .int .u8 116] 5 (5, 6)) = V1 at *
          refine wpAnyH_ready (rs := [0, 3]) (by kernel_rfl) (by simp) ?_
          refine AllReadyH.cons rfl (fun K hK => ?ra14) (AllReadyH.cons rfl (fun K hK => ?rb14) AllReadyH.nil)
          case ra14 =>
            have hcl := HL.out _ H2.out
            go_simp
            clear hcl
            refine hK.out _ _ (HS.out _ H2.out) (fun hHeld => ?_)
            clear hK K
            refine wpAnyH_ready (rs := [3]) (by kernel_rfl) (by simp) ?_
            refine AllReadyH.cons rfl (fun K hK => ?_) AllReadyH.nil
            have CN := hid (HTV.out V1 _ R1.out)
            refine wp_callop 96 _ _ rfl (enters_of Tryz.func96 (by kernel_rfl) rfl) (args := #[.slice (some ⟨Wd.heap.size, 0, none⟩) 5 5]) (by simp only [List.map_toArray, List.map_cons, List.map_nil]; rfl) CN.out (fun e V3 hP9 => ?_)
            obtain ⟨vv, rfl, hoo, hbb⟩ := hP9
            have H3 := hid (H2.out.trans (hbb.mono H2.out.size))
            obtain ⟨a3, c3, rfl, h3⟩ := gives_rd hoo
            have R3 := hid h3
            clear h3
            clear hbb hoo
            refine ⟨_, rfl, ?_⟩
            clear CN
            refine hK.out _ _ (HS.out _ H3.out) (fun hHeld => ?_)
            clear hK K
            simp only [Act.put, List.getElem_toArray, List.getElem_cons_succ, List.getElem_cons_zero, List.setIfInBounds_toArray, List.set_cons_succ, List.set_cons_zero]
            refine wpAnyH_ready (rs := [6]) (by kernel_rfl) (by simp) ?_
            refine AllReadyH.cons rfl (fun K hK => ?_) AllReadyH.nil
            have CN := hid (HNK.out V3)
            refine wp_callop 95 _ _ rfl (enters_of Tryz.func95 (by kernel_rfl) rfl) (args := #[.int .u64 (k : Int)]) (by simp only [List.map_toArray, List.map_cons, List.map_nil]; rfl) CN.out (fun e V6 hP9 => ?_)
            obtain ⟨vv, rfl, hoo, hbb⟩ := hP9
            have H6 := hid (H3.out.trans (hbb.mono H3.out.size))
            obtain ⟨a6, c6, rfl, h6⟩ := gives_rd hoo
            have R6 := hid h6
            clear h6
            have R3b := hid (R3.out.old hbb)
            clear R3
            have R3 := R3b
            clear R3b
            clear hbb hoo
            refine ⟨_, rfl, ?_⟩
            clear CN
            refine hK.out _ _ (HS.out _ H6.out) (fun hHeld => ?_)
            clear hK K
            simp only [Act.put, List.getElem_toArray, List.getElem_cons_succ, List.getElem_cons_zero, List.setIfInBounds_toArray, List.set_cons_succ, List.set_cons_zero]
            refine wpAnyH_ready (rs := [9]) (by kernel_rfl) (by simp) ?_
            refine AllReadyH.cons rfl (fun K hK => ?_) AllReadyH.nil
            have CN := hid (HNZ.out V6)
            refine wp_callop 95 _ _ rfl (enters_of Tryz.func95 (by kernel_rfl) rfl) (args := #[.int .u64 0]) (by simp only [List.map_toArray, List.map_cons, List.map_nil]; rfl) CN.out (fun e V9 hP9 => ?_)
            obtain ⟨vv, rfl, hoo, hbb⟩ := hP9
            have H9 := hid (H6.out.trans (hbb.mono H6.out.size))
            obtain ⟨a9, c9, rfl, h9⟩ := gives_rd hoo
            have R9 := hid h9
            clear h9
            have R3 := hid (R3.out.old hbb)
            have R6 := hid (R6.out.old hbb)
            clear hbb hoo
            refine ⟨_, rfl, ?_⟩
            clear CN
            refine hK.out _ _ (HS.out _ H9.out) (fun hHeld => ?_)
            clear hK K
            simp only [Act.put, List.getElem_toArray, List.getElem_cons_succ, List.getElem_cons_zero, List.setIfInBounds_toArray, List.set_cons_succ, List.set_cons_zero]
            refine wpAnyH_ready (rs := [11]) (by kernel_rfl) (by simp) ?_
            refine AllReadyH.cons rfl (fun K hK => ?_) AllReadyH.nil
            have CN := hid (HTD.out V9 _ (HRD.out.old H9.out))
            refine wp_callop 96 _ _ rfl (enters_of Tryz.func96 (by kernel_rfl) rfl) (args := #[.slice xa xn xc]) (by simp only [List.map_toArray, List.map_cons, List.map_nil]; rfl) CN.out (fun e VT hP9 => ?_)
            obtain ⟨vv, rfl, hoo, hbb⟩ := hP9
            have HT9 := hid (H9.out.trans (hbb.mono H9.out.size))
            obtain ⟨aT, cT, rfl, hT9⟩ := gives_rd hoo
            have RT := hid hT9
            clear hT9
            have R3 := hid (R3.out.old hbb)
            have R6 := hid (R6.out.old hbb)
            have R9 := hid (R9.out.old hbb)
            clear hbb hoo
            refine ⟨_, rfl, ?_⟩
            clear CN
            refine hK.out _ _ (HS.out _ HT9.out) (fun hHeld => ?_)
            clear hK K
            simp only [Act.put, List.getElem_toArray, List.getElem_cons_succ, List.getElem_cons_zero, List.setIfInBounds_toArray, List.set_cons_succ, List.set_cons_zero]
            refine wpAnyH_ready (rs := [12]) (by kernel_rfl) (by simp) ?_
            refine AllReadyH.cons rfl (fun K hK => ?_) AllReadyH.nil
            have HC := hid (HT9.out.trans (((Below.refl VT.heap.size VT).alloc (Nat.le_refl _) (.cells #[.slice a3 (tv9).length c3, .slice a6 (nk9).length c6, .slice a9 (nz9).length c9, .slice aT (td9).length cT] 25)).mono HT9.out.size))
            have BC : Hid (Bss (VT.alloc (.cells #[.slice a3 (tv9).length c3, .slice a6 (nk9).length c6, .slice a9 (nz9).length c9, .slice aT (td9).length cT] 25)) (.slice (some ⟨VT.heap.size, 0, none⟩) 4 4) [⟨a3, c3, tv9⟩, ⟨a6, c6, nk9⟩, ⟨a9, c9, nz9⟩, ⟨aT, cT, td9⟩]) := bss_lit [⟨a3, c3, tv9⟩, ⟨a6, c6, nk9⟩, ⟨a9, c9, nz9⟩, ⟨aT, cT, td9⟩] (by simp) (by simp only [List.mem_cons, List.not_mem_nil, or_false, forall_eq_or_imp, forall_eq]; exact ⟨R3.out, R6.out, R9.out, RT.out⟩)
            go_simp
            refine hK.out _ _ (HS.out _ HC.out) (fun hHeld => ?_)
            clear hK K
            generalize VT.alloc (.cells #[.slice a3 (tv9).length c3, .slice a6 (nk9).length c6, .slice a9 (nz9).length c9, .slice aT (td9).length cT] 25) = VC at *
            refine wpAnyH_ready (rs := [13]) (by kernel_rfl) (by simp) ?_
            refine AllReadyH.cons rfl (fun K hK => ?_) AllReadyH.nil
            have CN := hid (concat_any (some ⟨VT.heap.size, 0, none⟩) 4 4 [⟨a3, c3, tv9⟩, ⟨a6, c6, nk9⟩, ⟨a9, c9, nz9⟩, ⟨aT, cT, td9⟩] VC rfl BC.out (by unfold catB; simp only [List.take_succ_cons, List.take_zero, List.flatMap_cons, List.flatMap_nil, List.append_nil]; rw [RECV.out]; exact recV_le k d hk hdl) (by omega))
            refine wp_callop 94 _ _ rfl (enters_of Tryz.func94 (by kernel_rfl) rfl) (args := #[.slice (some ⟨VT.heap.size, 0, none⟩) 4 4]) (by simp only [List.map_toArray, List.map_cons, List.map_nil]; rfl) CN.out (fun e VG hP9 => ?_)
            obtain ⟨vv, rfl, hoo, hbb⟩ := hP9
            have HG := hid (HC.out.trans (hbb.mono HC.out.size))
            have hoo : VG.ownsRow VC.heap.size 5 1 vv (recV k d).length ((recV k d).map bv) := (by have h9 := hoo; simp only [List.flatMap_cons, List.flatMap_nil, List.append_nil] at h9; rw [RECV.out] at h9; exact h9)
            obtain ⟨aG, cG, rfl⟩ := own_form hoo
            have OG := hid (ownsRow_base hoo HC.out.size)
            clear hbb hoo
            refine ⟨_, rfl, ?_⟩
            clear CN
            refine hK.out _ _ (HS.out _ HG.out) (fun hHeld => ?_)
            clear hK K
            simp only [Act.put, List.getElem_toArray, List.getElem_cons_succ, List.getElem_cons_zero, List.setIfInBounds_toArray, List.set_cons_succ, List.set_cons_zero]
            refine wpAnyH_ready (rs := [14]) (by kernel_rfl) (by simp) ?_
            refine AllReadyH.cons rfl (fun K hK => ?_) AllReadyH.nil
            have HD9 := hid (HG.out.trans (((Below.refl VG.heap.size VG).alloc (Nat.le_refl _) (.cells #[.slice aG (recV k d).length cG] 25)).mono HG.out.size))
            obtain ⟨po, pc, VE, hrun, hoE, hbE, hoG9⟩ := rec_app VG aG cG (recV k d) Wb.heap.size w4.heap.size OG.out HG.out.size hsz9
            go_simp
            refine hK.out _ _ (HS.out _ HD9.out) (fun hHeld => ?_)
            clear hK K
            refine wpAnyH_ready (rs := [15]) (by kernel_rfl) (by simp) ?_
            refine AllReadyH.cons rfl (fun K hK => ?_) AllReadyH.nil
            have HE9 := hid (HD9.out.trans (hbE.mono HD9.out.size))
            refine step_known (.tmp 15) (.tmp 29) 60 (by rfl) (by rfl) _ _ _ (by rfl) (by rfl) hrun (by first | rfl | (simp [Region.wanted, yielded]; done)) ?_
            refine hK.out _ _ (HS.out _ HE9.out) (fun hHeld => ?_)
            clear hK K
            simp only [Act.put, List.getElem_toArray, List.getElem_cons_succ, List.getElem_cons_zero, List.setIfInBounds_toArray, List.set_cons_succ, List.set_cons_zero]
            refine wpAnyH_ready (rs := [16]) (by kernel_rfl) (by simp) ?_
            refine AllReadyH.cons rfl (fun K hK => ?_) AllReadyH.nil
            have hlist : VE.heap[w.heap.size + 1]? = some (.cells #[.slice none 0 0] 60 (0, 0)) := (HE9.out.block _ (lt_of_block HK1.out)).trans HK1.out
            have hlc : VE.cell? ⟨w.heap.size + 1, 0, none⟩ = some (.slice none 0 0) := by simp [World.cell?, hlist]
            have hlf : VE.frozen? ⟨w.heap.size + 1, 0, none⟩ = false := by simp [World.frozen?, hlist]
            go_simp
            refine hK.out _ _ (hY2 _ (by rw [cell_set_other _ _ _ _ (show w.heap.size ≠ w.heap.size + 1 from by omega)]; exact (hY _ (HS.out _ HE9.out)).1) (by rw [cell_set_other _ _ _ _ (show w.heap.size + 2 ≠ w.heap.size + 1 from by omega)]; exact (hY _ (HS.out _ HE9.out)).2)) (fun hHeld => ?_)
            clear hK K
            refine wpAnyH_done (by kernel_rfl) ?_ _
            have hsE := HE9.out.size
            have y0 := (HE9.out.block _ (lt_of_block HK0.out)).trans HK0.out
            have y2 := (HE9.out.block _ (lt_of_block HK2.out)).trans HK2.out
            have z0 : (VE.setCell ⟨w.heap.size + 1, 0, none⟩ (.slice po 1 pc)).heap[w.heap.size]? = some (.cells #[.int .i64 (k : Int)] 3 (0, 0)) := (Below.heap_setCell _ ⟨w.heap.size + 1, 0, none⟩ _ w.heap.size (by show w.heap.size ≠ w.heap.size + 1; omega)).trans y0
            have z2 : (VE.setCell ⟨w.heap.size + 1, 0, none⟩ (.slice po 1 pc)).heap[w.heap.size + 2]? = some (.cells #[.int .i64 0] 3 (0, 0)) := (Below.heap_setCell _ ⟨w.heap.size + 1, 0, none⟩ _ (w.heap.size + 2) (by show w.heap.size + 2 ≠ w.heap.size + 1; omega)).trans y2
            have z1 := set_at (k := 0) (.slice po 1 pc) hlist
            have HZ0 := hid z0
            have HZ1 := hid z1
            have HZ2 := hid z2
            have HOE := hid hoE
            have HOG := hid hoG9
            have HLI := hid hlist
            have f0 : (VE.setCell ⟨w.heap.size + 1, 0, none⟩ (.slice po 1 pc)).frozen? ⟨w.heap.size, 0, none⟩ = false := by simp [World.frozen?, z0]
            have f2 : (VE.setCell ⟨w.heap.size + 1, 0, none⟩ (.slice po 1 pc)).frozen? ⟨w.heap.size + 2, 0, none⟩ = false := by simp [World.frozen?, z2]
            have g0 : (VE.setCell ⟨w.heap.size + 1, 0, none⟩ (.slice po 1 pc)).cell? ⟨w.heap.size, 0, none⟩ = some (.int .i64 (k : Int)) := by simp [World.cell?, z0]
            have g2 : (VE.setCell ⟨w.heap.size + 1, 0, none⟩ (.slice po 1 pc)).cell? ⟨w.heap.size + 2, 0, none⟩ = some (.int .i64 0) := by simp [World.cell?, z2]
            have kE : Keep (fun i => i = w.heap.size + 1) VE (VE.setCell ⟨w.heap.size + 1, 0, none⟩ (.slice po 1 pc)) := Keep.set VE ⟨w.heap.size + 1, 0, none⟩ _ rfl
            have HKE := hid kE
            clear hoE hoG9 hlist hlc hlf y0 y2 z0 z1 z2 hHeld hY hY2 hrun hbE e0 e1 e2 kE
            generalize VE.setCell ⟨w.heap.size + 1, 0, none⟩ (.slice po 1 pc) = VF at *
            gi_upto_region 6 with fail
            refine region_held_in (S := fun _ => Hid True) (by kernel_rfl) ?hlo6 ?hops6 trivial (fun hHeld => ?_)
            case hlo6 =>
              rintro ⟨a9, w9, h9⟩
              exact h9
            case hops6 =>
              intro i o ho
              rw [List.getElem?_toArray] at ho
              have hm := List.mem_of_getElem? ho
              simp only [List.mem_cons, List.not_mem_nil, or_false] at hm
              rcases hm with rfl | rfl | rfl | rfl
              all_goals refine ⟨fun c hc => (by cases hc), fun a w row args w' => ?_⟩
              all_goals first | exact simple_noRow (by rfl) a.eval w row args w' | exact binop_noRow rfl a.eval w row args w'
            have g0 : VF.drew.cell? ⟨w.heap.size, 0, none⟩ = some (.int .i64 (k : Int)) := g0
            have g2 : VF.drew.cell? ⟨w.heap.size + 2, 0, none⟩ = some (.int .i64 0) := g2
            have f0 : VF.drew.frozen? ⟨w.heap.size, 0, none⟩ = false := f0
            have f2 : VF.drew.frozen? ⟨w.heap.size + 2, 0, none⟩ = false := f2
            have HZ0 : Hid (VF.drew.heap[w.heap.size]? = some (.cells #[.int .i64 (k : Int)] 3 (0, 0))) := HZ0
            have HZ1 : Hid (VF.drew.heap[w.heap.size + 1]? = some (.cells #[.slice po 1 pc] 60 (0, 0))) := HZ1
            have HZ2 : Hid (VF.drew.heap[w.heap.size + 2]? = some (.cells #[.int .i64 0] 3 (0, 0))) := HZ2
            have HKE : Hid (Keep (fun i => i = w.heap.size + 1) VE VF.drew) := ⟨HKE.out.os, HKE.out.tape, HKE.out.output, HKE.out.size, HKE.out.block⟩
            generalize VF.drew = VD at *
            have hlp : (pre ++ [0]).length = 1 := by rw [List.length_append, HP0.out]; rfl
            have c6a : Keep (fun i => i = w.heap.size ∨ i = w.heap.size + 2) VD ((VD.setCell ⟨w.heap.size, 0, none⟩ (.int .i64 0)).setCell ⟨w.heap.size + 1 + 1, 0, none⟩ (.int .i64 (-1))) := (Keep.set (X := fun i => i = w.heap.size ∨ i = w.heap.size + 2) VD ⟨w.heap.size, 0, none⟩ _ (.inl rfl)).trans (Keep.set (X := fun i => i = w.heap.size ∨ i = w.heap.size + 2) _ ⟨w.heap.size + 1 + 1, 0, none⟩ _ (.inr rfl))
            have FIN := rec_fin HE9.out HOE.out HOG.out HKE.out HZ1.out c6a HKP.out hsz9 (by have := HS3.out; omega) hlp
            refine wpAnyH_ready (rs := [0, 2]) (by kernel_rfl) (by simp) ?_
            refine AllReadyH.cons rfl (fun K hK => ?ra15) (AllReadyH.cons rfl (fun K hK => ?rb15) AllReadyH.nil)
            case ra15 =>
              go_simp
              refine hK.out _ _ trivial (fun hHeld => ?_)
              clear hK K
              refine wpAnyH_take (i := 1) (v := (.int .i64 (-1))) rfl (by kernel_rfl) (by kernel_rfl) (by kernel_rfl) (fun _ _ _ h => (show False from h).elim) ?xyQ1y16 ?xhQ1y16 ?xrQ1y16
              case xhQ1y16 => exact hHeld
              case xyQ1y16 => exact Or.inl ⟨by rfl, fun W9 hW => by clear hHeld; simp only [List.getElem_toArray, List.getElem_cons_succ, List.getElem_cons_zero]; go_simp; first | rfl | decide⟩
              simp only [Act.put, List.getElem_toArray, List.getElem_cons_succ, List.getElem_cons_zero, List.setIfInBounds_toArray, List.set_cons_succ, List.set_cons_zero]
              refine wpAnyH_ready (rs := [2]) (by kernel_rfl) (by simp) ?_
              refine AllReadyH.cons rfl (fun K hK => ?_) AllReadyH.nil
              go_simp
              refine hK.out _ _ trivial (fun hHeld => ?_)
              clear hK K
              refine wpAnyH_ready (rs := [3]) (by kernel_rfl) (by simp) ?_
              refine AllReadyH.cons rfl (fun K hK => ?_) AllReadyH.nil
              go_simp
              refine hK.out _ _ trivial (fun hHeld => ?_)
              clear hK K
              refine wpAnyH_done (by kernel_rfl) ?_ _
              exact FIN
            case rb15 =>
              go_simp
              refine hK.out _ _ trivial (fun hHeld => ?_)
              clear hK K
              refine wpAnyH_ready (rs := [0]) (by kernel_rfl) (by simp) ?_
              refine AllReadyH.cons rfl (fun K hK => ?_) AllReadyH.nil
              go_simp
              refine hK.out _ _ trivial (fun hHeld => ?_)
              clear hK K
              refine wpAnyH_take (i := 1) (v := (.int .i64 (-1))) rfl (by kernel_rfl) (by kernel_rfl) (by kernel_rfl) (fun _ _ _ h => (show False from h).elim) ?xyQ1y17 ?xhQ1y17 ?xrQ1y17
              case xhQ1y17 => exact hHeld
              case xyQ1y17 => exact Or.inl ⟨by rfl, fun W9 hW => by clear hHeld; simp only [List.getElem_toArray, List.getElem_cons_succ, List.getElem_cons_zero]; go_simp; first | rfl | decide⟩
              simp only [Act.put, List.getElem_toArray, List.getElem_cons_succ, List.getElem_cons_zero, List.setIfInBounds_toArray, List.set_cons_succ, List.set_cons_zero]
              refine wpAnyH_ready (rs := [3]) (by kernel_rfl) (by simp) ?_
              refine AllReadyH.cons rfl (fun K hK => ?_) AllReadyH.nil
              go_simp
              refine hK.out _ _ trivial (fun hHeld => ?_)
              clear hK K
              refine wpAnyH_done (by kernel_rfl) ?_ _
              exact FIN
          case rb14 =>
            have CN := hid (HTV.out V1 _ R1.out)
            refine wp_callop 96 _ _ rfl (enters_of Tryz.func96 (by kernel_rfl) rfl) (args := #[.slice (some ⟨Wd.heap.size, 0, none⟩) 5 5]) (by simp only [List.map_toArray, List.map_cons, List.map_nil]; rfl) CN.out (fun e V3 hP9 => ?_)
            obtain ⟨vv, rfl, hoo, hbb⟩ := hP9
            have H3 := hid (H2.out.trans (hbb.mono H2.out.size))
            obtain ⟨a3, c3, rfl, h3⟩ := gives_rd hoo
            have R3 := hid h3
            clear h3
            clear hbb hoo
            refine ⟨_, rfl, ?_⟩
            clear CN
            refine hK.out _ _ (HS.out _ H3.out) (fun hHeld => ?_)
            clear hK K
            simp only [Act.put, List.getElem_toArray, List.getElem_cons_succ, List.getElem_cons_zero, List.setIfInBounds_toArray, List.set_cons_succ, List.set_cons_zero]
            refine wpAnyH_ready (rs := [0, 6]) (by kernel_rfl) (by simp) ?_
            refine AllReadyH.cons rfl (fun K hK => ?ra18) (AllReadyH.cons rfl (fun K hK => ?rb18) AllReadyH.nil)
            case ra18 =>
              have hcl := HL.out _ H3.out
              go_simp
              clear hcl
              refine hK.out _ _ (HS.out _ H3.out) (fun hHeld => ?_)
              clear hK K
              refine wpAnyH_ready (rs := [6]) (by kernel_rfl) (by simp) ?_
              refine AllReadyH.cons rfl (fun K hK => ?_) AllReadyH.nil
              have CN := hid (HNK.out V3)
              refine wp_callop 95 _ _ rfl (enters_of Tryz.func95 (by kernel_rfl) rfl) (args := #[.int .u64 (k : Int)]) (by simp only [List.map_toArray, List.map_cons, List.map_nil]; rfl) CN.out (fun e V6 hP9 => ?_)
              obtain ⟨vv, rfl, hoo, hbb⟩ := hP9
              have H6 := hid (H3.out.trans (hbb.mono H3.out.size))
              obtain ⟨a6, c6, rfl, h6⟩ := gives_rd hoo
              have R6 := hid h6
              clear h6
              have R3b := hid (R3.out.old hbb)
              clear R3
              have R3 := R3b
              clear R3b
              clear hbb hoo
              refine ⟨_, rfl, ?_⟩
              clear CN
              refine hK.out _ _ (HS.out _ H6.out) (fun hHeld => ?_)
              clear hK K
              simp only [Act.put, List.getElem_toArray, List.getElem_cons_succ, List.getElem_cons_zero, List.setIfInBounds_toArray, List.set_cons_succ, List.set_cons_zero]
              refine wpAnyH_ready (rs := [9]) (by kernel_rfl) (by simp) ?_
              refine AllReadyH.cons rfl (fun K hK => ?_) AllReadyH.nil
              have CN := hid (HNZ.out V6)
              refine wp_callop 95 _ _ rfl (enters_of Tryz.func95 (by kernel_rfl) rfl) (args := #[.int .u64 0]) (by simp only [List.map_toArray, List.map_cons, List.map_nil]; rfl) CN.out (fun e V9 hP9 => ?_)
              obtain ⟨vv, rfl, hoo, hbb⟩ := hP9
              have H9 := hid (H6.out.trans (hbb.mono H6.out.size))
              obtain ⟨a9, c9, rfl, h9⟩ := gives_rd hoo
              have R9 := hid h9
              clear h9
              have R3 := hid (R3.out.old hbb)
              have R6 := hid (R6.out.old hbb)
              clear hbb hoo
              refine ⟨_, rfl, ?_⟩
              clear CN
              refine hK.out _ _ (HS.out _ H9.out) (fun hHeld => ?_)
              clear hK K
              simp only [Act.put, List.getElem_toArray, List.getElem_cons_succ, List.getElem_cons_zero, List.setIfInBounds_toArray, List.set_cons_succ, List.set_cons_zero]
              refine wpAnyH_ready (rs := [11]) (by kernel_rfl) (by simp) ?_
              refine AllReadyH.cons rfl (fun K hK => ?_) AllReadyH.nil
              have CN := hid (HTD.out V9 _ (HRD.out.old H9.out))
              refine wp_callop 96 _ _ rfl (enters_of Tryz.func96 (by kernel_rfl) rfl) (args := #[.slice xa xn xc]) (by simp only [List.map_toArray, List.map_cons, List.map_nil]; rfl) CN.out (fun e VT hP9 => ?_)
              obtain ⟨vv, rfl, hoo, hbb⟩ := hP9
              have HT9 := hid (H9.out.trans (hbb.mono H9.out.size))
              obtain ⟨aT, cT, rfl, hT9⟩ := gives_rd hoo
              have RT := hid hT9
              clear hT9
              have R3 := hid (R3.out.old hbb)
              have R6 := hid (R6.out.old hbb)
              have R9 := hid (R9.out.old hbb)
              clear hbb hoo
              refine ⟨_, rfl, ?_⟩
              clear CN
              refine hK.out _ _ (HS.out _ HT9.out) (fun hHeld => ?_)
              clear hK K
              simp only [Act.put, List.getElem_toArray, List.getElem_cons_succ, List.getElem_cons_zero, List.setIfInBounds_toArray, List.set_cons_succ, List.set_cons_zero]
              refine wpAnyH_ready (rs := [12]) (by kernel_rfl) (by simp) ?_
              refine AllReadyH.cons rfl (fun K hK => ?_) AllReadyH.nil
              have HC := hid (HT9.out.trans (((Below.refl VT.heap.size VT).alloc (Nat.le_refl _) (.cells #[.slice a3 (tv9).length c3, .slice a6 (nk9).length c6, .slice a9 (nz9).length c9, .slice aT (td9).length cT] 25)).mono HT9.out.size))
              have BC : Hid (Bss (VT.alloc (.cells #[.slice a3 (tv9).length c3, .slice a6 (nk9).length c6, .slice a9 (nz9).length c9, .slice aT (td9).length cT] 25)) (.slice (some ⟨VT.heap.size, 0, none⟩) 4 4) [⟨a3, c3, tv9⟩, ⟨a6, c6, nk9⟩, ⟨a9, c9, nz9⟩, ⟨aT, cT, td9⟩]) := bss_lit [⟨a3, c3, tv9⟩, ⟨a6, c6, nk9⟩, ⟨a9, c9, nz9⟩, ⟨aT, cT, td9⟩] (by simp) (by simp only [List.mem_cons, List.not_mem_nil, or_false, forall_eq_or_imp, forall_eq]; exact ⟨R3.out, R6.out, R9.out, RT.out⟩)
              go_simp
              refine hK.out _ _ (HS.out _ HC.out) (fun hHeld => ?_)
              clear hK K
              generalize VT.alloc (.cells #[.slice a3 (tv9).length c3, .slice a6 (nk9).length c6, .slice a9 (nz9).length c9, .slice aT (td9).length cT] 25) = VC at *
              refine wpAnyH_ready (rs := [13]) (by kernel_rfl) (by simp) ?_
              refine AllReadyH.cons rfl (fun K hK => ?_) AllReadyH.nil
              have CN := hid (concat_any (some ⟨VT.heap.size, 0, none⟩) 4 4 [⟨a3, c3, tv9⟩, ⟨a6, c6, nk9⟩, ⟨a9, c9, nz9⟩, ⟨aT, cT, td9⟩] VC rfl BC.out (by unfold catB; simp only [List.take_succ_cons, List.take_zero, List.flatMap_cons, List.flatMap_nil, List.append_nil]; rw [RECV.out]; exact recV_le k d hk hdl) (by omega))
              refine wp_callop 94 _ _ rfl (enters_of Tryz.func94 (by kernel_rfl) rfl) (args := #[.slice (some ⟨VT.heap.size, 0, none⟩) 4 4]) (by simp only [List.map_toArray, List.map_cons, List.map_nil]; rfl) CN.out (fun e VG hP9 => ?_)
              obtain ⟨vv, rfl, hoo, hbb⟩ := hP9
              have HG := hid (HC.out.trans (hbb.mono HC.out.size))
              have hoo : VG.ownsRow VC.heap.size 5 1 vv (recV k d).length ((recV k d).map bv) := (by have h9 := hoo; simp only [List.flatMap_cons, List.flatMap_nil, List.append_nil] at h9; rw [RECV.out] at h9; exact h9)
              obtain ⟨aG, cG, rfl⟩ := own_form hoo
              have OG := hid (ownsRow_base hoo HC.out.size)
              clear hbb hoo
              refine ⟨_, rfl, ?_⟩
              clear CN
              refine hK.out _ _ (HS.out _ HG.out) (fun hHeld => ?_)
              clear hK K
              simp only [Act.put, List.getElem_toArray, List.getElem_cons_succ, List.getElem_cons_zero, List.setIfInBounds_toArray, List.set_cons_succ, List.set_cons_zero]
              refine wpAnyH_ready (rs := [14]) (by kernel_rfl) (by simp) ?_
              refine AllReadyH.cons rfl (fun K hK => ?_) AllReadyH.nil
              have HD9 := hid (HG.out.trans (((Below.refl VG.heap.size VG).alloc (Nat.le_refl _) (.cells #[.slice aG (recV k d).length cG] 25)).mono HG.out.size))
              obtain ⟨po, pc, VE, hrun, hoE, hbE, hoG9⟩ := rec_app VG aG cG (recV k d) Wb.heap.size w4.heap.size OG.out HG.out.size hsz9
              go_simp
              refine hK.out _ _ (HS.out _ HD9.out) (fun hHeld => ?_)
              clear hK K
              refine wpAnyH_ready (rs := [15]) (by kernel_rfl) (by simp) ?_
              refine AllReadyH.cons rfl (fun K hK => ?_) AllReadyH.nil
              have HE9 := hid (HD9.out.trans (hbE.mono HD9.out.size))
              refine step_known (.tmp 15) (.tmp 29) 60 (by rfl) (by rfl) _ _ _ (by rfl) (by rfl) hrun (by first | rfl | (simp [Region.wanted, yielded]; done)) ?_
              refine hK.out _ _ (HS.out _ HE9.out) (fun hHeld => ?_)
              clear hK K
              simp only [Act.put, List.getElem_toArray, List.getElem_cons_succ, List.getElem_cons_zero, List.setIfInBounds_toArray, List.set_cons_succ, List.set_cons_zero]
              refine wpAnyH_ready (rs := [16]) (by kernel_rfl) (by simp) ?_
              refine AllReadyH.cons rfl (fun K hK => ?_) AllReadyH.nil
              have hlist : VE.heap[w.heap.size + 1]? = some (.cells #[.slice none 0 0] 60 (0, 0)) := (HE9.out.block _ (lt_of_block HK1.out)).trans HK1.out
              have hlc : VE.cell? ⟨w.heap.size + 1, 0, none⟩ = some (.slice none 0 0) := by simp [World.cell?, hlist]
              have hlf : VE.frozen? ⟨w.heap.size + 1, 0, none⟩ = false := by simp [World.frozen?, hlist]
              go_simp
              refine hK.out _ _ (hY2 _ (by rw [cell_set_other _ _ _ _ (show w.heap.size ≠ w.heap.size + 1 from by omega)]; exact (hY _ (HS.out _ HE9.out)).1) (by rw [cell_set_other _ _ _ _ (show w.heap.size + 2 ≠ w.heap.size + 1 from by omega)]; exact (hY _ (HS.out _ HE9.out)).2)) (fun hHeld => ?_)
              clear hK K
              refine wpAnyH_done (by kernel_rfl) ?_ _
              have hsE := HE9.out.size
              have y0 := (HE9.out.block _ (lt_of_block HK0.out)).trans HK0.out
              have y2 := (HE9.out.block _ (lt_of_block HK2.out)).trans HK2.out
              have z0 : (VE.setCell ⟨w.heap.size + 1, 0, none⟩ (.slice po 1 pc)).heap[w.heap.size]? = some (.cells #[.int .i64 (k : Int)] 3 (0, 0)) := (Below.heap_setCell _ ⟨w.heap.size + 1, 0, none⟩ _ w.heap.size (by show w.heap.size ≠ w.heap.size + 1; omega)).trans y0
              have z2 : (VE.setCell ⟨w.heap.size + 1, 0, none⟩ (.slice po 1 pc)).heap[w.heap.size + 2]? = some (.cells #[.int .i64 0] 3 (0, 0)) := (Below.heap_setCell _ ⟨w.heap.size + 1, 0, none⟩ _ (w.heap.size + 2) (by show w.heap.size + 2 ≠ w.heap.size + 1; omega)).trans y2
              have z1 := set_at (k := 0) (.slice po 1 pc) hlist
              have HZ0 := hid z0
              have HZ1 := hid z1
              have HZ2 := hid z2
              have HOE := hid hoE
              have HOG := hid hoG9
              have HLI := hid hlist
              have f0 : (VE.setCell ⟨w.heap.size + 1, 0, none⟩ (.slice po 1 pc)).frozen? ⟨w.heap.size, 0, none⟩ = false := by simp [World.frozen?, z0]
              have f2 : (VE.setCell ⟨w.heap.size + 1, 0, none⟩ (.slice po 1 pc)).frozen? ⟨w.heap.size + 2, 0, none⟩ = false := by simp [World.frozen?, z2]
              have g0 : (VE.setCell ⟨w.heap.size + 1, 0, none⟩ (.slice po 1 pc)).cell? ⟨w.heap.size, 0, none⟩ = some (.int .i64 (k : Int)) := by simp [World.cell?, z0]
              have g2 : (VE.setCell ⟨w.heap.size + 1, 0, none⟩ (.slice po 1 pc)).cell? ⟨w.heap.size + 2, 0, none⟩ = some (.int .i64 0) := by simp [World.cell?, z2]
              have kE : Keep (fun i => i = w.heap.size + 1) VE (VE.setCell ⟨w.heap.size + 1, 0, none⟩ (.slice po 1 pc)) := Keep.set VE ⟨w.heap.size + 1, 0, none⟩ _ rfl
              have HKE := hid kE
              clear hoE hoG9 hlist hlc hlf y0 y2 z0 z1 z2 hHeld hY hY2 hrun hbE e0 e1 e2 kE
              generalize VE.setCell ⟨w.heap.size + 1, 0, none⟩ (.slice po 1 pc) = VF at *
              gi_upto_region 6 with fail
              refine region_held_in (S := fun _ => Hid True) (by kernel_rfl) ?hlo6 ?hops6 trivial (fun hHeld => ?_)
              case hlo6 =>
                rintro ⟨a9, w9, h9⟩
                exact h9
              case hops6 =>
                intro i o ho
                rw [List.getElem?_toArray] at ho
                have hm := List.mem_of_getElem? ho
                simp only [List.mem_cons, List.not_mem_nil, or_false] at hm
                rcases hm with rfl | rfl | rfl | rfl
                all_goals refine ⟨fun c hc => (by cases hc), fun a w row args w' => ?_⟩
                all_goals first | exact simple_noRow (by rfl) a.eval w row args w' | exact binop_noRow rfl a.eval w row args w'
              have g0 : VF.drew.cell? ⟨w.heap.size, 0, none⟩ = some (.int .i64 (k : Int)) := g0
              have g2 : VF.drew.cell? ⟨w.heap.size + 2, 0, none⟩ = some (.int .i64 0) := g2
              have f0 : VF.drew.frozen? ⟨w.heap.size, 0, none⟩ = false := f0
              have f2 : VF.drew.frozen? ⟨w.heap.size + 2, 0, none⟩ = false := f2
              have HZ0 : Hid (VF.drew.heap[w.heap.size]? = some (.cells #[.int .i64 (k : Int)] 3 (0, 0))) := HZ0
              have HZ1 : Hid (VF.drew.heap[w.heap.size + 1]? = some (.cells #[.slice po 1 pc] 60 (0, 0))) := HZ1
              have HZ2 : Hid (VF.drew.heap[w.heap.size + 2]? = some (.cells #[.int .i64 0] 3 (0, 0))) := HZ2
              have HKE : Hid (Keep (fun i => i = w.heap.size + 1) VE VF.drew) := ⟨HKE.out.os, HKE.out.tape, HKE.out.output, HKE.out.size, HKE.out.block⟩
              generalize VF.drew = VD at *
              have hlp : (pre ++ [0]).length = 1 := by rw [List.length_append, HP0.out]; rfl
              have c6a : Keep (fun i => i = w.heap.size ∨ i = w.heap.size + 2) VD ((VD.setCell ⟨w.heap.size, 0, none⟩ (.int .i64 0)).setCell ⟨w.heap.size + 1 + 1, 0, none⟩ (.int .i64 (-1))) := (Keep.set (X := fun i => i = w.heap.size ∨ i = w.heap.size + 2) VD ⟨w.heap.size, 0, none⟩ _ (.inl rfl)).trans (Keep.set (X := fun i => i = w.heap.size ∨ i = w.heap.size + 2) _ ⟨w.heap.size + 1 + 1, 0, none⟩ _ (.inr rfl))
              have FIN := rec_fin HE9.out HOE.out HOG.out HKE.out HZ1.out c6a HKP.out hsz9 (by have := HS3.out; omega) hlp
              refine wpAnyH_ready (rs := [0, 2]) (by kernel_rfl) (by simp) ?_
              refine AllReadyH.cons rfl (fun K hK => ?ra19) (AllReadyH.cons rfl (fun K hK => ?rb19) AllReadyH.nil)
              case ra19 =>
                go_simp
                refine hK.out _ _ trivial (fun hHeld => ?_)
                clear hK K
                refine wpAnyH_take (i := 1) (v := (.int .i64 (-1))) rfl (by kernel_rfl) (by kernel_rfl) (by kernel_rfl) (fun _ _ _ h => (show False from h).elim) ?xyQ1y20 ?xhQ1y20 ?xrQ1y20
                case xhQ1y20 => exact hHeld
                case xyQ1y20 => exact Or.inl ⟨by rfl, fun W9 hW => by clear hHeld; simp only [List.getElem_toArray, List.getElem_cons_succ, List.getElem_cons_zero]; go_simp; first | rfl | decide⟩
                simp only [Act.put, List.getElem_toArray, List.getElem_cons_succ, List.getElem_cons_zero, List.setIfInBounds_toArray, List.set_cons_succ, List.set_cons_zero]
                refine wpAnyH_ready (rs := [2]) (by kernel_rfl) (by simp) ?_
                refine AllReadyH.cons rfl (fun K hK => ?_) AllReadyH.nil
                go_simp
                refine hK.out _ _ trivial (fun hHeld => ?_)
                clear hK K
                refine wpAnyH_ready (rs := [3]) (by kernel_rfl) (by simp) ?_
                refine AllReadyH.cons rfl (fun K hK => ?_) AllReadyH.nil
                go_simp
                refine hK.out _ _ trivial (fun hHeld => ?_)
                clear hK K
                refine wpAnyH_done (by kernel_rfl) ?_ _
                exact FIN
              case rb19 =>
                go_simp
                refine hK.out _ _ trivial (fun hHeld => ?_)
                clear hK K
                refine wpAnyH_ready (rs := [0]) (by kernel_rfl) (by simp) ?_
                refine AllReadyH.cons rfl (fun K hK => ?_) AllReadyH.nil
                go_simp
                refine hK.out _ _ trivial (fun hHeld => ?_)
                clear hK K
                refine wpAnyH_take (i := 1) (v := (.int .i64 (-1))) rfl (by kernel_rfl) (by kernel_rfl) (by kernel_rfl) (fun _ _ _ h => (show False from h).elim) ?xyQ1y21 ?xhQ1y21 ?xrQ1y21
                case xhQ1y21 => exact hHeld
                case xyQ1y21 => exact Or.inl ⟨by rfl, fun W9 hW => by clear hHeld; simp only [List.getElem_toArray, List.getElem_cons_succ, List.getElem_cons_zero]; go_simp; first | rfl | decide⟩
                simp only [Act.put, List.getElem_toArray, List.getElem_cons_succ, List.getElem_cons_zero, List.setIfInBounds_toArray, List.set_cons_succ, List.set_cons_zero]
                refine wpAnyH_ready (rs := [3]) (by kernel_rfl) (by simp) ?_
                refine AllReadyH.cons rfl (fun K hK => ?_) AllReadyH.nil
                go_simp
                refine hK.out _ _ trivial (fun hHeld => ?_)
                clear hK K
                refine wpAnyH_done (by kernel_rfl) ?_ _
                exact FIN
            case rb18 =>
              have CN := hid (HNK.out V3)
              refine wp_callop 95 _ _ rfl (enters_of Tryz.func95 (by kernel_rfl) rfl) (args := #[.int .u64 (k : Int)]) (by simp only [List.map_toArray, List.map_cons, List.map_nil]; rfl) CN.out (fun e V6 hP9 => ?_)
              obtain ⟨vv, rfl, hoo, hbb⟩ := hP9
              have H6 := hid (H3.out.trans (hbb.mono H3.out.size))
              obtain ⟨a6, c6, rfl, h6⟩ := gives_rd hoo
              have R6 := hid h6
              clear h6
              have R3b := hid (R3.out.old hbb)
              clear R3
              have R3 := R3b
              clear R3b
              clear hbb hoo
              refine ⟨_, rfl, ?_⟩
              clear CN
              refine hK.out _ _ (HS.out _ H6.out) (fun hHeld => ?_)
              clear hK K
              simp only [Act.put, List.getElem_toArray, List.getElem_cons_succ, List.getElem_cons_zero, List.setIfInBounds_toArray, List.set_cons_succ, List.set_cons_zero]
              refine wpAnyH_ready (rs := [0, 9]) (by kernel_rfl) (by simp) ?_
              refine AllReadyH.cons rfl (fun K hK => ?ra22) (AllReadyH.cons rfl (fun K hK => ?rb22) AllReadyH.nil)
              case ra22 =>
                have hcl := HL.out _ H6.out
                go_simp
                clear hcl
                refine hK.out _ _ (HS.out _ H6.out) (fun hHeld => ?_)
                clear hK K
                refine wpAnyH_ready (rs := [9]) (by kernel_rfl) (by simp) ?_
                refine AllReadyH.cons rfl (fun K hK => ?_) AllReadyH.nil
                have CN := hid (HNZ.out V6)
                refine wp_callop 95 _ _ rfl (enters_of Tryz.func95 (by kernel_rfl) rfl) (args := #[.int .u64 0]) (by simp only [List.map_toArray, List.map_cons, List.map_nil]; rfl) CN.out (fun e V9 hP9 => ?_)
                obtain ⟨vv, rfl, hoo, hbb⟩ := hP9
                have H9 := hid (H6.out.trans (hbb.mono H6.out.size))
                obtain ⟨a9, c9, rfl, h9⟩ := gives_rd hoo
                have R9 := hid h9
                clear h9
                have R3 := hid (R3.out.old hbb)
                have R6 := hid (R6.out.old hbb)
                clear hbb hoo
                refine ⟨_, rfl, ?_⟩
                clear CN
                refine hK.out _ _ (HS.out _ H9.out) (fun hHeld => ?_)
                clear hK K
                simp only [Act.put, List.getElem_toArray, List.getElem_cons_succ, List.getElem_cons_zero, List.setIfInBounds_toArray, List.set_cons_succ, List.set_cons_zero]
                refine wpAnyH_ready (rs := [11]) (by kernel_rfl) (by simp) ?_
                refine AllReadyH.cons rfl (fun K hK => ?_) AllReadyH.nil
                have CN := hid (HTD.out V9 _ (HRD.out.old H9.out))
                refine wp_callop 96 _ _ rfl (enters_of Tryz.func96 (by kernel_rfl) rfl) (args := #[.slice xa xn xc]) (by simp only [List.map_toArray, List.map_cons, List.map_nil]; rfl) CN.out (fun e VT hP9 => ?_)
                obtain ⟨vv, rfl, hoo, hbb⟩ := hP9
                have HT9 := hid (H9.out.trans (hbb.mono H9.out.size))
                obtain ⟨aT, cT, rfl, hT9⟩ := gives_rd hoo
                have RT := hid hT9
                clear hT9
                have R3 := hid (R3.out.old hbb)
                have R6 := hid (R6.out.old hbb)
                have R9 := hid (R9.out.old hbb)
                clear hbb hoo
                refine ⟨_, rfl, ?_⟩
                clear CN
                refine hK.out _ _ (HS.out _ HT9.out) (fun hHeld => ?_)
                clear hK K
                simp only [Act.put, List.getElem_toArray, List.getElem_cons_succ, List.getElem_cons_zero, List.setIfInBounds_toArray, List.set_cons_succ, List.set_cons_zero]
                refine wpAnyH_ready (rs := [12]) (by kernel_rfl) (by simp) ?_
                refine AllReadyH.cons rfl (fun K hK => ?_) AllReadyH.nil
                have HC := hid (HT9.out.trans (((Below.refl VT.heap.size VT).alloc (Nat.le_refl _) (.cells #[.slice a3 (tv9).length c3, .slice a6 (nk9).length c6, .slice a9 (nz9).length c9, .slice aT (td9).length cT] 25)).mono HT9.out.size))
                have BC : Hid (Bss (VT.alloc (.cells #[.slice a3 (tv9).length c3, .slice a6 (nk9).length c6, .slice a9 (nz9).length c9, .slice aT (td9).length cT] 25)) (.slice (some ⟨VT.heap.size, 0, none⟩) 4 4) [⟨a3, c3, tv9⟩, ⟨a6, c6, nk9⟩, ⟨a9, c9, nz9⟩, ⟨aT, cT, td9⟩]) := bss_lit [⟨a3, c3, tv9⟩, ⟨a6, c6, nk9⟩, ⟨a9, c9, nz9⟩, ⟨aT, cT, td9⟩] (by simp) (by simp only [List.mem_cons, List.not_mem_nil, or_false, forall_eq_or_imp, forall_eq]; exact ⟨R3.out, R6.out, R9.out, RT.out⟩)
                go_simp
                refine hK.out _ _ (HS.out _ HC.out) (fun hHeld => ?_)
                clear hK K
                generalize VT.alloc (.cells #[.slice a3 (tv9).length c3, .slice a6 (nk9).length c6, .slice a9 (nz9).length c9, .slice aT (td9).length cT] 25) = VC at *
                refine wpAnyH_ready (rs := [13]) (by kernel_rfl) (by simp) ?_
                refine AllReadyH.cons rfl (fun K hK => ?_) AllReadyH.nil
                have CN := hid (concat_any (some ⟨VT.heap.size, 0, none⟩) 4 4 [⟨a3, c3, tv9⟩, ⟨a6, c6, nk9⟩, ⟨a9, c9, nz9⟩, ⟨aT, cT, td9⟩] VC rfl BC.out (by unfold catB; simp only [List.take_succ_cons, List.take_zero, List.flatMap_cons, List.flatMap_nil, List.append_nil]; rw [RECV.out]; exact recV_le k d hk hdl) (by omega))
                refine wp_callop 94 _ _ rfl (enters_of Tryz.func94 (by kernel_rfl) rfl) (args := #[.slice (some ⟨VT.heap.size, 0, none⟩) 4 4]) (by simp only [List.map_toArray, List.map_cons, List.map_nil]; rfl) CN.out (fun e VG hP9 => ?_)
                obtain ⟨vv, rfl, hoo, hbb⟩ := hP9
                have HG := hid (HC.out.trans (hbb.mono HC.out.size))
                have hoo : VG.ownsRow VC.heap.size 5 1 vv (recV k d).length ((recV k d).map bv) := (by have h9 := hoo; simp only [List.flatMap_cons, List.flatMap_nil, List.append_nil] at h9; rw [RECV.out] at h9; exact h9)
                obtain ⟨aG, cG, rfl⟩ := own_form hoo
                have OG := hid (ownsRow_base hoo HC.out.size)
                clear hbb hoo
                refine ⟨_, rfl, ?_⟩
                clear CN
                refine hK.out _ _ (HS.out _ HG.out) (fun hHeld => ?_)
                clear hK K
                simp only [Act.put, List.getElem_toArray, List.getElem_cons_succ, List.getElem_cons_zero, List.setIfInBounds_toArray, List.set_cons_succ, List.set_cons_zero]
                refine wpAnyH_ready (rs := [14]) (by kernel_rfl) (by simp) ?_
                refine AllReadyH.cons rfl (fun K hK => ?_) AllReadyH.nil
                have HD9 := hid (HG.out.trans (((Below.refl VG.heap.size VG).alloc (Nat.le_refl _) (.cells #[.slice aG (recV k d).length cG] 25)).mono HG.out.size))
                obtain ⟨po, pc, VE, hrun, hoE, hbE, hoG9⟩ := rec_app VG aG cG (recV k d) Wb.heap.size w4.heap.size OG.out HG.out.size hsz9
                go_simp
                refine hK.out _ _ (HS.out _ HD9.out) (fun hHeld => ?_)
                clear hK K
                refine wpAnyH_ready (rs := [15]) (by kernel_rfl) (by simp) ?_
                refine AllReadyH.cons rfl (fun K hK => ?_) AllReadyH.nil
                have HE9 := hid (HD9.out.trans (hbE.mono HD9.out.size))
                refine step_known (.tmp 15) (.tmp 29) 60 (by rfl) (by rfl) _ _ _ (by rfl) (by rfl) hrun (by first | rfl | (simp [Region.wanted, yielded]; done)) ?_
                refine hK.out _ _ (HS.out _ HE9.out) (fun hHeld => ?_)
                clear hK K
                simp only [Act.put, List.getElem_toArray, List.getElem_cons_succ, List.getElem_cons_zero, List.setIfInBounds_toArray, List.set_cons_succ, List.set_cons_zero]
                refine wpAnyH_ready (rs := [16]) (by kernel_rfl) (by simp) ?_
                refine AllReadyH.cons rfl (fun K hK => ?_) AllReadyH.nil
                have hlist : VE.heap[w.heap.size + 1]? = some (.cells #[.slice none 0 0] 60 (0, 0)) := (HE9.out.block _ (lt_of_block HK1.out)).trans HK1.out
                have hlc : VE.cell? ⟨w.heap.size + 1, 0, none⟩ = some (.slice none 0 0) := by simp [World.cell?, hlist]
                have hlf : VE.frozen? ⟨w.heap.size + 1, 0, none⟩ = false := by simp [World.frozen?, hlist]
                go_simp
                refine hK.out _ _ (hY2 _ (by rw [cell_set_other _ _ _ _ (show w.heap.size ≠ w.heap.size + 1 from by omega)]; exact (hY _ (HS.out _ HE9.out)).1) (by rw [cell_set_other _ _ _ _ (show w.heap.size + 2 ≠ w.heap.size + 1 from by omega)]; exact (hY _ (HS.out _ HE9.out)).2)) (fun hHeld => ?_)
                clear hK K
                refine wpAnyH_done (by kernel_rfl) ?_ _
                have hsE := HE9.out.size
                have y0 := (HE9.out.block _ (lt_of_block HK0.out)).trans HK0.out
                have y2 := (HE9.out.block _ (lt_of_block HK2.out)).trans HK2.out
                have z0 : (VE.setCell ⟨w.heap.size + 1, 0, none⟩ (.slice po 1 pc)).heap[w.heap.size]? = some (.cells #[.int .i64 (k : Int)] 3 (0, 0)) := (Below.heap_setCell _ ⟨w.heap.size + 1, 0, none⟩ _ w.heap.size (by show w.heap.size ≠ w.heap.size + 1; omega)).trans y0
                have z2 : (VE.setCell ⟨w.heap.size + 1, 0, none⟩ (.slice po 1 pc)).heap[w.heap.size + 2]? = some (.cells #[.int .i64 0] 3 (0, 0)) := (Below.heap_setCell _ ⟨w.heap.size + 1, 0, none⟩ _ (w.heap.size + 2) (by show w.heap.size + 2 ≠ w.heap.size + 1; omega)).trans y2
                have z1 := set_at (k := 0) (.slice po 1 pc) hlist
                have HZ0 := hid z0
                have HZ1 := hid z1
                have HZ2 := hid z2
                have HOE := hid hoE
                have HOG := hid hoG9
                have HLI := hid hlist
                have f0 : (VE.setCell ⟨w.heap.size + 1, 0, none⟩ (.slice po 1 pc)).frozen? ⟨w.heap.size, 0, none⟩ = false := by simp [World.frozen?, z0]
                have f2 : (VE.setCell ⟨w.heap.size + 1, 0, none⟩ (.slice po 1 pc)).frozen? ⟨w.heap.size + 2, 0, none⟩ = false := by simp [World.frozen?, z2]
                have g0 : (VE.setCell ⟨w.heap.size + 1, 0, none⟩ (.slice po 1 pc)).cell? ⟨w.heap.size, 0, none⟩ = some (.int .i64 (k : Int)) := by simp [World.cell?, z0]
                have g2 : (VE.setCell ⟨w.heap.size + 1, 0, none⟩ (.slice po 1 pc)).cell? ⟨w.heap.size + 2, 0, none⟩ = some (.int .i64 0) := by simp [World.cell?, z2]
                have kE : Keep (fun i => i = w.heap.size + 1) VE (VE.setCell ⟨w.heap.size + 1, 0, none⟩ (.slice po 1 pc)) := Keep.set VE ⟨w.heap.size + 1, 0, none⟩ _ rfl
                have HKE := hid kE
                clear hoE hoG9 hlist hlc hlf y0 y2 z0 z1 z2 hHeld hY hY2 hrun hbE e0 e1 e2 kE
                generalize VE.setCell ⟨w.heap.size + 1, 0, none⟩ (.slice po 1 pc) = VF at *
                gi_upto_region 6 with fail
                refine region_held_in (S := fun _ => Hid True) (by kernel_rfl) ?hlo6 ?hops6 trivial (fun hHeld => ?_)
                case hlo6 =>
                  rintro ⟨a9, w9, h9⟩
                  exact h9
                case hops6 =>
                  intro i o ho
                  rw [List.getElem?_toArray] at ho
                  have hm := List.mem_of_getElem? ho
                  simp only [List.mem_cons, List.not_mem_nil, or_false] at hm
                  rcases hm with rfl | rfl | rfl | rfl
                  all_goals refine ⟨fun c hc => (by cases hc), fun a w row args w' => ?_⟩
                  all_goals first | exact simple_noRow (by rfl) a.eval w row args w' | exact binop_noRow rfl a.eval w row args w'
                have g0 : VF.drew.cell? ⟨w.heap.size, 0, none⟩ = some (.int .i64 (k : Int)) := g0
                have g2 : VF.drew.cell? ⟨w.heap.size + 2, 0, none⟩ = some (.int .i64 0) := g2
                have f0 : VF.drew.frozen? ⟨w.heap.size, 0, none⟩ = false := f0
                have f2 : VF.drew.frozen? ⟨w.heap.size + 2, 0, none⟩ = false := f2
                have HZ0 : Hid (VF.drew.heap[w.heap.size]? = some (.cells #[.int .i64 (k : Int)] 3 (0, 0))) := HZ0
                have HZ1 : Hid (VF.drew.heap[w.heap.size + 1]? = some (.cells #[.slice po 1 pc] 60 (0, 0))) := HZ1
                have HZ2 : Hid (VF.drew.heap[w.heap.size + 2]? = some (.cells #[.int .i64 0] 3 (0, 0))) := HZ2
                have HKE : Hid (Keep (fun i => i = w.heap.size + 1) VE VF.drew) := ⟨HKE.out.os, HKE.out.tape, HKE.out.output, HKE.out.size, HKE.out.block⟩
                generalize VF.drew = VD at *
                have hlp : (pre ++ [0]).length = 1 := by rw [List.length_append, HP0.out]; rfl
                have c6a : Keep (fun i => i = w.heap.size ∨ i = w.heap.size + 2) VD ((VD.setCell ⟨w.heap.size, 0, none⟩ (.int .i64 0)).setCell ⟨w.heap.size + 1 + 1, 0, none⟩ (.int .i64 (-1))) := (Keep.set (X := fun i => i = w.heap.size ∨ i = w.heap.size + 2) VD ⟨w.heap.size, 0, none⟩ _ (.inl rfl)).trans (Keep.set (X := fun i => i = w.heap.size ∨ i = w.heap.size + 2) _ ⟨w.heap.size + 1 + 1, 0, none⟩ _ (.inr rfl))
                have FIN := rec_fin HE9.out HOE.out HOG.out HKE.out HZ1.out c6a HKP.out hsz9 (by have := HS3.out; omega) hlp
                refine wpAnyH_ready (rs := [0, 2]) (by kernel_rfl) (by simp) ?_
                refine AllReadyH.cons rfl (fun K hK => ?ra23) (AllReadyH.cons rfl (fun K hK => ?rb23) AllReadyH.nil)
                case ra23 =>
                  go_simp
                  refine hK.out _ _ trivial (fun hHeld => ?_)
                  clear hK K
                  refine wpAnyH_take (i := 1) (v := (.int .i64 (-1))) rfl (by kernel_rfl) (by kernel_rfl) (by kernel_rfl) (fun _ _ _ h => (show False from h).elim) ?xyQ1y24 ?xhQ1y24 ?xrQ1y24
                  case xhQ1y24 => exact hHeld
                  case xyQ1y24 => exact Or.inl ⟨by rfl, fun W9 hW => by clear hHeld; simp only [List.getElem_toArray, List.getElem_cons_succ, List.getElem_cons_zero]; go_simp; first | rfl | decide⟩
                  simp only [Act.put, List.getElem_toArray, List.getElem_cons_succ, List.getElem_cons_zero, List.setIfInBounds_toArray, List.set_cons_succ, List.set_cons_zero]
                  refine wpAnyH_ready (rs := [2]) (by kernel_rfl) (by simp) ?_
                  refine AllReadyH.cons rfl (fun K hK => ?_) AllReadyH.nil
                  go_simp
                  refine hK.out _ _ trivial (fun hHeld => ?_)
                  clear hK K
                  refine wpAnyH_ready (rs := [3]) (by kernel_rfl) (by simp) ?_
                  refine AllReadyH.cons rfl (fun K hK => ?_) AllReadyH.nil
                  go_simp
                  refine hK.out _ _ trivial (fun hHeld => ?_)
                  clear hK K
                  refine wpAnyH_done (by kernel_rfl) ?_ _
                  exact FIN
                case rb23 =>
                  go_simp
                  refine hK.out _ _ trivial (fun hHeld => ?_)
                  clear hK K
                  refine wpAnyH_ready (rs := [0]) (by kernel_rfl) (by simp) ?_
                  refine AllReadyH.cons rfl (fun K hK => ?_) AllReadyH.nil
                  go_simp
                  refine hK.out _ _ trivial (fun hHeld => ?_)
                  clear hK K
                  refine wpAnyH_take (i := 1) (v := (.int .i64 (-1))) rfl (by kernel_rfl) (by kernel_rfl) (by kernel_rfl) (fun _ _ _ h => (show False from h).elim) ?xyQ1y25 ?xhQ1y25 ?xrQ1y25
                  case xhQ1y25 => exact hHeld
                  case xyQ1y25 => exact Or.inl ⟨by rfl, fun W9 hW => by clear hHeld; simp only [List.getElem_toArray, List.getElem_cons_succ, List.getElem_cons_zero]; go_simp; first | rfl | decide⟩
                  simp only [Act.put, List.getElem_toArray, List.getElem_cons_succ, List.getElem_cons_zero, List.setIfInBounds_toArray, List.set_cons_succ, List.set_cons_zero]
                  refine wpAnyH_ready (rs := [3]) (by kernel_rfl) (by simp) ?_
                  refine AllReadyH.cons rfl (fun K hK => ?_) AllReadyH.nil
                  go_simp
                  refine hK.out _ _ trivial (fun hHeld => ?_)
                  clear hK K
                  refine wpAnyH_done (by kernel_rfl) ?_ _
                  exact FIN
              case rb22 =>
                have CN := hid (HNZ.out V6)
                refine wp_callop 95 _ _ rfl (enters_of Tryz.func95 (by kernel_rfl) rfl) (args := #[.int .u64 0]) (by simp only [List.map_toArray, List.map_cons, List.map_nil]; rfl) CN.out (fun e V9 hP9 => ?_)
                obtain ⟨vv, rfl, hoo, hbb⟩ := hP9
                have H9 := hid (H6.out.trans (hbb.mono H6.out.size))
                obtain ⟨a9, c9, rfl, h9⟩ := gives_rd hoo
                have R9 := hid h9
                clear h9
                have R3 := hid (R3.out.old hbb)
                have R6 := hid (R6.out.old hbb)
                clear hbb hoo
                refine ⟨_, rfl, ?_⟩
                clear CN
                refine hK.out _ _ (HS.out _ H9.out) (fun hHeld => ?_)
                clear hK K
                simp only [Act.put, List.getElem_toArray, List.getElem_cons_succ, List.getElem_cons_zero, List.setIfInBounds_toArray, List.set_cons_succ, List.set_cons_zero]
                refine wpAnyH_ready (rs := [0, 11]) (by kernel_rfl) (by simp) ?_
                refine AllReadyH.cons rfl (fun K hK => ?ra26) (AllReadyH.cons rfl (fun K hK => ?rb26) AllReadyH.nil)
                case ra26 =>
                  have hcl := HL.out _ H9.out
                  go_simp
                  clear hcl
                  refine hK.out _ _ (HS.out _ H9.out) (fun hHeld => ?_)
                  clear hK K
                  refine wpAnyH_ready (rs := [11]) (by kernel_rfl) (by simp) ?_
                  refine AllReadyH.cons rfl (fun K hK => ?_) AllReadyH.nil
                  have CN := hid (HTD.out V9 _ (HRD.out.old H9.out))
                  refine wp_callop 96 _ _ rfl (enters_of Tryz.func96 (by kernel_rfl) rfl) (args := #[.slice xa xn xc]) (by simp only [List.map_toArray, List.map_cons, List.map_nil]; rfl) CN.out (fun e VT hP9 => ?_)
                  obtain ⟨vv, rfl, hoo, hbb⟩ := hP9
                  have HT9 := hid (H9.out.trans (hbb.mono H9.out.size))
                  obtain ⟨aT, cT, rfl, hT9⟩ := gives_rd hoo
                  have RT := hid hT9
                  clear hT9
                  have R3 := hid (R3.out.old hbb)
                  have R6 := hid (R6.out.old hbb)
                  have R9 := hid (R9.out.old hbb)
                  clear hbb hoo
                  refine ⟨_, rfl, ?_⟩
                  clear CN
                  refine hK.out _ _ (HS.out _ HT9.out) (fun hHeld => ?_)
                  clear hK K
                  simp only [Act.put, List.getElem_toArray, List.getElem_cons_succ, List.getElem_cons_zero, List.setIfInBounds_toArray, List.set_cons_succ, List.set_cons_zero]
                  refine wpAnyH_ready (rs := [12]) (by kernel_rfl) (by simp) ?_
                  refine AllReadyH.cons rfl (fun K hK => ?_) AllReadyH.nil
                  have HC := hid (HT9.out.trans (((Below.refl VT.heap.size VT).alloc (Nat.le_refl _) (.cells #[.slice a3 (tv9).length c3, .slice a6 (nk9).length c6, .slice a9 (nz9).length c9, .slice aT (td9).length cT] 25)).mono HT9.out.size))
                  have BC : Hid (Bss (VT.alloc (.cells #[.slice a3 (tv9).length c3, .slice a6 (nk9).length c6, .slice a9 (nz9).length c9, .slice aT (td9).length cT] 25)) (.slice (some ⟨VT.heap.size, 0, none⟩) 4 4) [⟨a3, c3, tv9⟩, ⟨a6, c6, nk9⟩, ⟨a9, c9, nz9⟩, ⟨aT, cT, td9⟩]) := bss_lit [⟨a3, c3, tv9⟩, ⟨a6, c6, nk9⟩, ⟨a9, c9, nz9⟩, ⟨aT, cT, td9⟩] (by simp) (by simp only [List.mem_cons, List.not_mem_nil, or_false, forall_eq_or_imp, forall_eq]; exact ⟨R3.out, R6.out, R9.out, RT.out⟩)
                  go_simp
                  refine hK.out _ _ (HS.out _ HC.out) (fun hHeld => ?_)
                  clear hK K
                  generalize VT.alloc (.cells #[.slice a3 (tv9).length c3, .slice a6 (nk9).length c6, .slice a9 (nz9).length c9, .slice aT (td9).length cT] 25) = VC at *
                  refine wpAnyH_ready (rs := [13]) (by kernel_rfl) (by simp) ?_
                  refine AllReadyH.cons rfl (fun K hK => ?_) AllReadyH.nil
                  have CN := hid (concat_any (some ⟨VT.heap.size, 0, none⟩) 4 4 [⟨a3, c3, tv9⟩, ⟨a6, c6, nk9⟩, ⟨a9, c9, nz9⟩, ⟨aT, cT, td9⟩] VC rfl BC.out (by unfold catB; simp only [List.take_succ_cons, List.take_zero, List.flatMap_cons, List.flatMap_nil, List.append_nil]; rw [RECV.out]; exact recV_le k d hk hdl) (by omega))
                  refine wp_callop 94 _ _ rfl (enters_of Tryz.func94 (by kernel_rfl) rfl) (args := #[.slice (some ⟨VT.heap.size, 0, none⟩) 4 4]) (by simp only [List.map_toArray, List.map_cons, List.map_nil]; rfl) CN.out (fun e VG hP9 => ?_)
                  obtain ⟨vv, rfl, hoo, hbb⟩ := hP9
                  have HG := hid (HC.out.trans (hbb.mono HC.out.size))
                  have hoo : VG.ownsRow VC.heap.size 5 1 vv (recV k d).length ((recV k d).map bv) := (by have h9 := hoo; simp only [List.flatMap_cons, List.flatMap_nil, List.append_nil] at h9; rw [RECV.out] at h9; exact h9)
                  obtain ⟨aG, cG, rfl⟩ := own_form hoo
                  have OG := hid (ownsRow_base hoo HC.out.size)
                  clear hbb hoo
                  refine ⟨_, rfl, ?_⟩
                  clear CN
                  refine hK.out _ _ (HS.out _ HG.out) (fun hHeld => ?_)
                  clear hK K
                  simp only [Act.put, List.getElem_toArray, List.getElem_cons_succ, List.getElem_cons_zero, List.setIfInBounds_toArray, List.set_cons_succ, List.set_cons_zero]
                  refine wpAnyH_ready (rs := [14]) (by kernel_rfl) (by simp) ?_
                  refine AllReadyH.cons rfl (fun K hK => ?_) AllReadyH.nil
                  have HD9 := hid (HG.out.trans (((Below.refl VG.heap.size VG).alloc (Nat.le_refl _) (.cells #[.slice aG (recV k d).length cG] 25)).mono HG.out.size))
                  obtain ⟨po, pc, VE, hrun, hoE, hbE, hoG9⟩ := rec_app VG aG cG (recV k d) Wb.heap.size w4.heap.size OG.out HG.out.size hsz9
                  go_simp
                  refine hK.out _ _ (HS.out _ HD9.out) (fun hHeld => ?_)
                  clear hK K
                  refine wpAnyH_ready (rs := [15]) (by kernel_rfl) (by simp) ?_
                  refine AllReadyH.cons rfl (fun K hK => ?_) AllReadyH.nil
                  have HE9 := hid (HD9.out.trans (hbE.mono HD9.out.size))
                  refine step_known (.tmp 15) (.tmp 29) 60 (by rfl) (by rfl) _ _ _ (by rfl) (by rfl) hrun (by first | rfl | (simp [Region.wanted, yielded]; done)) ?_
                  refine hK.out _ _ (HS.out _ HE9.out) (fun hHeld => ?_)
                  clear hK K
                  simp only [Act.put, List.getElem_toArray, List.getElem_cons_succ, List.getElem_cons_zero, List.setIfInBounds_toArray, List.set_cons_succ, List.set_cons_zero]
                  refine wpAnyH_ready (rs := [16]) (by kernel_rfl) (by simp) ?_
                  refine AllReadyH.cons rfl (fun K hK => ?_) AllReadyH.nil
                  have hlist : VE.heap[w.heap.size + 1]? = some (.cells #[.slice none 0 0] 60 (0, 0)) := (HE9.out.block _ (lt_of_block HK1.out)).trans HK1.out
                  have hlc : VE.cell? ⟨w.heap.size + 1, 0, none⟩ = some (.slice none 0 0) := by simp [World.cell?, hlist]
                  have hlf : VE.frozen? ⟨w.heap.size + 1, 0, none⟩ = false := by simp [World.frozen?, hlist]
                  go_simp
                  refine hK.out _ _ (hY2 _ (by rw [cell_set_other _ _ _ _ (show w.heap.size ≠ w.heap.size + 1 from by omega)]; exact (hY _ (HS.out _ HE9.out)).1) (by rw [cell_set_other _ _ _ _ (show w.heap.size + 2 ≠ w.heap.size + 1 from by omega)]; exact (hY _ (HS.out _ HE9.out)).2)) (fun hHeld => ?_)
                  clear hK K
                  refine wpAnyH_done (by kernel_rfl) ?_ _
                  have hsE := HE9.out.size
                  have y0 := (HE9.out.block _ (lt_of_block HK0.out)).trans HK0.out
                  have y2 := (HE9.out.block _ (lt_of_block HK2.out)).trans HK2.out
                  have z0 : (VE.setCell ⟨w.heap.size + 1, 0, none⟩ (.slice po 1 pc)).heap[w.heap.size]? = some (.cells #[.int .i64 (k : Int)] 3 (0, 0)) := (Below.heap_setCell _ ⟨w.heap.size + 1, 0, none⟩ _ w.heap.size (by show w.heap.size ≠ w.heap.size + 1; omega)).trans y0
                  have z2 : (VE.setCell ⟨w.heap.size + 1, 0, none⟩ (.slice po 1 pc)).heap[w.heap.size + 2]? = some (.cells #[.int .i64 0] 3 (0, 0)) := (Below.heap_setCell _ ⟨w.heap.size + 1, 0, none⟩ _ (w.heap.size + 2) (by show w.heap.size + 2 ≠ w.heap.size + 1; omega)).trans y2
                  have z1 := set_at (k := 0) (.slice po 1 pc) hlist
                  have HZ0 := hid z0
                  have HZ1 := hid z1
                  have HZ2 := hid z2
                  have HOE := hid hoE
                  have HOG := hid hoG9
                  have HLI := hid hlist
                  have f0 : (VE.setCell ⟨w.heap.size + 1, 0, none⟩ (.slice po 1 pc)).frozen? ⟨w.heap.size, 0, none⟩ = false := by simp [World.frozen?, z0]
                  have f2 : (VE.setCell ⟨w.heap.size + 1, 0, none⟩ (.slice po 1 pc)).frozen? ⟨w.heap.size + 2, 0, none⟩ = false := by simp [World.frozen?, z2]
                  have g0 : (VE.setCell ⟨w.heap.size + 1, 0, none⟩ (.slice po 1 pc)).cell? ⟨w.heap.size, 0, none⟩ = some (.int .i64 (k : Int)) := by simp [World.cell?, z0]
                  have g2 : (VE.setCell ⟨w.heap.size + 1, 0, none⟩ (.slice po 1 pc)).cell? ⟨w.heap.size + 2, 0, none⟩ = some (.int .i64 0) := by simp [World.cell?, z2]
                  have kE : Keep (fun i => i = w.heap.size + 1) VE (VE.setCell ⟨w.heap.size + 1, 0, none⟩ (.slice po 1 pc)) := Keep.set VE ⟨w.heap.size + 1, 0, none⟩ _ rfl
                  have HKE := hid kE
                  clear hoE hoG9 hlist hlc hlf y0 y2 z0 z1 z2 hHeld hY hY2 hrun hbE e0 e1 e2 kE
                  generalize VE.setCell ⟨w.heap.size + 1, 0, none⟩ (.slice po 1 pc) = VF at *
                  gi_upto_region 6 with fail
                  refine region_held_in (S := fun _ => Hid True) (by kernel_rfl) ?hlo6 ?hops6 trivial (fun hHeld => ?_)
                  case hlo6 =>
                    rintro ⟨a9, w9, h9⟩
                    exact h9
                  case hops6 =>
                    intro i o ho
                    rw [List.getElem?_toArray] at ho
                    have hm := List.mem_of_getElem? ho
                    simp only [List.mem_cons, List.not_mem_nil, or_false] at hm
                    rcases hm with rfl | rfl | rfl | rfl
                    all_goals refine ⟨fun c hc => (by cases hc), fun a w row args w' => ?_⟩
                    all_goals first | exact simple_noRow (by rfl) a.eval w row args w' | exact binop_noRow rfl a.eval w row args w'
                  have g0 : VF.drew.cell? ⟨w.heap.size, 0, none⟩ = some (.int .i64 (k : Int)) := g0
                  have g2 : VF.drew.cell? ⟨w.heap.size + 2, 0, none⟩ = some (.int .i64 0) := g2
                  have f0 : VF.drew.frozen? ⟨w.heap.size, 0, none⟩ = false := f0
                  have f2 : VF.drew.frozen? ⟨w.heap.size + 2, 0, none⟩ = false := f2
                  have HZ0 : Hid (VF.drew.heap[w.heap.size]? = some (.cells #[.int .i64 (k : Int)] 3 (0, 0))) := HZ0
                  have HZ1 : Hid (VF.drew.heap[w.heap.size + 1]? = some (.cells #[.slice po 1 pc] 60 (0, 0))) := HZ1
                  have HZ2 : Hid (VF.drew.heap[w.heap.size + 2]? = some (.cells #[.int .i64 0] 3 (0, 0))) := HZ2
                  have HKE : Hid (Keep (fun i => i = w.heap.size + 1) VE VF.drew) := ⟨HKE.out.os, HKE.out.tape, HKE.out.output, HKE.out.size, HKE.out.block⟩
                  generalize VF.drew = VD at *
                  have hlp : (pre ++ [0]).length = 1 := by rw [List.length_append, HP0.out]; rfl
                  have c6a : Keep (fun i => i = w.heap.size ∨ i = w.heap.size + 2) VD ((VD.setCell ⟨w.heap.size, 0, none⟩ (.int .i64 0)).setCell ⟨w.heap.size + 1 + 1, 0, none⟩ (.int .i64 (-1))) := (Keep.set (X := fun i => i = w.heap.size ∨ i = w.heap.size + 2) VD ⟨w.heap.size, 0, none⟩ _ (.inl rfl)).trans (Keep.set (X := fun i => i = w.heap.size ∨ i = w.heap.size + 2) _ ⟨w.heap.size + 1 + 1, 0, none⟩ _ (.inr rfl))
                  have FIN := rec_fin HE9.out HOE.out HOG.out HKE.out HZ1.out c6a HKP.out hsz9 (by have := HS3.out; omega) hlp
                  refine wpAnyH_ready (rs := [0, 2]) (by kernel_rfl) (by simp) ?_
                  refine AllReadyH.cons rfl (fun K hK => ?ra27) (AllReadyH.cons rfl (fun K hK => ?rb27) AllReadyH.nil)
                  case ra27 =>
                    go_simp
                    refine hK.out _ _ trivial (fun hHeld => ?_)
                    clear hK K
                    refine wpAnyH_take (i := 1) (v := (.int .i64 (-1))) rfl (by kernel_rfl) (by kernel_rfl) (by kernel_rfl) (fun _ _ _ h => (show False from h).elim) ?xyQ1y28 ?xhQ1y28 ?xrQ1y28
                    case xhQ1y28 => exact hHeld
                    case xyQ1y28 => exact Or.inl ⟨by rfl, fun W9 hW => by clear hHeld; simp only [List.getElem_toArray, List.getElem_cons_succ, List.getElem_cons_zero]; go_simp; first | rfl | decide⟩
                    simp only [Act.put, List.getElem_toArray, List.getElem_cons_succ, List.getElem_cons_zero, List.setIfInBounds_toArray, List.set_cons_succ, List.set_cons_zero]
                    refine wpAnyH_ready (rs := [2]) (by kernel_rfl) (by simp) ?_
                    refine AllReadyH.cons rfl (fun K hK => ?_) AllReadyH.nil
                    go_simp
                    refine hK.out _ _ trivial (fun hHeld => ?_)
                    clear hK K
                    refine wpAnyH_ready (rs := [3]) (by kernel_rfl) (by simp) ?_
                    refine AllReadyH.cons rfl (fun K hK => ?_) AllReadyH.nil
                    go_simp
                    refine hK.out _ _ trivial (fun hHeld => ?_)
                    clear hK K
                    refine wpAnyH_done (by kernel_rfl) ?_ _
                    exact FIN
                  case rb27 =>
                    go_simp
                    refine hK.out _ _ trivial (fun hHeld => ?_)
                    clear hK K
                    refine wpAnyH_ready (rs := [0]) (by kernel_rfl) (by simp) ?_
                    refine AllReadyH.cons rfl (fun K hK => ?_) AllReadyH.nil
                    go_simp
                    refine hK.out _ _ trivial (fun hHeld => ?_)
                    clear hK K
                    refine wpAnyH_take (i := 1) (v := (.int .i64 (-1))) rfl (by kernel_rfl) (by kernel_rfl) (by kernel_rfl) (fun _ _ _ h => (show False from h).elim) ?xyQ1y29 ?xhQ1y29 ?xrQ1y29
                    case xhQ1y29 => exact hHeld
                    case xyQ1y29 => exact Or.inl ⟨by rfl, fun W9 hW => by clear hHeld; simp only [List.getElem_toArray, List.getElem_cons_succ, List.getElem_cons_zero]; go_simp; first | rfl | decide⟩
                    simp only [Act.put, List.getElem_toArray, List.getElem_cons_succ, List.getElem_cons_zero, List.setIfInBounds_toArray, List.set_cons_succ, List.set_cons_zero]
                    refine wpAnyH_ready (rs := [3]) (by kernel_rfl) (by simp) ?_
                    refine AllReadyH.cons rfl (fun K hK => ?_) AllReadyH.nil
                    go_simp
                    refine hK.out _ _ trivial (fun hHeld => ?_)
                    clear hK K
                    refine wpAnyH_done (by kernel_rfl) ?_ _
                    exact FIN
                case rb26 =>
                  have CN := hid (HTD.out V9 _ (HRD.out.old H9.out))
                  refine wp_callop 96 _ _ rfl (enters_of Tryz.func96 (by kernel_rfl) rfl) (args := #[.slice xa xn xc]) (by simp only [List.map_toArray, List.map_cons, List.map_nil]; rfl) CN.out (fun e VT hP9 => ?_)
                  obtain ⟨vv, rfl, hoo, hbb⟩ := hP9
                  have HT9 := hid (H9.out.trans (hbb.mono H9.out.size))
                  obtain ⟨aT, cT, rfl, hT9⟩ := gives_rd hoo
                  have RT := hid hT9
                  clear hT9
                  have R3 := hid (R3.out.old hbb)
                  have R6 := hid (R6.out.old hbb)
                  have R9 := hid (R9.out.old hbb)
                  clear hbb hoo
                  refine ⟨_, rfl, ?_⟩
                  clear CN
                  refine hK.out _ _ (HS.out _ HT9.out) (fun hHeld => ?_)
                  clear hK K
                  simp only [Act.put, List.getElem_toArray, List.getElem_cons_succ, List.getElem_cons_zero, List.setIfInBounds_toArray, List.set_cons_succ, List.set_cons_zero]
                  refine wpAnyH_ready (rs := [0, 12]) (by kernel_rfl) (by simp) ?_
                  refine AllReadyH.cons rfl (fun K hK => ?ra30) (AllReadyH.cons rfl (fun K hK => ?rb30) AllReadyH.nil)
                  case ra30 =>
                    have hcl := HL.out _ HT9.out
                    go_simp
                    clear hcl
                    refine hK.out _ _ (HS.out _ HT9.out) (fun hHeld => ?_)
                    clear hK K
                    refine wpAnyH_ready (rs := [12]) (by kernel_rfl) (by simp) ?_
                    refine AllReadyH.cons rfl (fun K hK => ?_) AllReadyH.nil
                    have HC := hid (HT9.out.trans (((Below.refl VT.heap.size VT).alloc (Nat.le_refl _) (.cells #[.slice a3 (tv9).length c3, .slice a6 (nk9).length c6, .slice a9 (nz9).length c9, .slice aT (td9).length cT] 25)).mono HT9.out.size))
                    have BC : Hid (Bss (VT.alloc (.cells #[.slice a3 (tv9).length c3, .slice a6 (nk9).length c6, .slice a9 (nz9).length c9, .slice aT (td9).length cT] 25)) (.slice (some ⟨VT.heap.size, 0, none⟩) 4 4) [⟨a3, c3, tv9⟩, ⟨a6, c6, nk9⟩, ⟨a9, c9, nz9⟩, ⟨aT, cT, td9⟩]) := bss_lit [⟨a3, c3, tv9⟩, ⟨a6, c6, nk9⟩, ⟨a9, c9, nz9⟩, ⟨aT, cT, td9⟩] (by simp) (by simp only [List.mem_cons, List.not_mem_nil, or_false, forall_eq_or_imp, forall_eq]; exact ⟨R3.out, R6.out, R9.out, RT.out⟩)
                    go_simp
                    refine hK.out _ _ (HS.out _ HC.out) (fun hHeld => ?_)
                    clear hK K
                    generalize VT.alloc (.cells #[.slice a3 (tv9).length c3, .slice a6 (nk9).length c6, .slice a9 (nz9).length c9, .slice aT (td9).length cT] 25) = VC at *
                    refine wpAnyH_ready (rs := [13]) (by kernel_rfl) (by simp) ?_
                    refine AllReadyH.cons rfl (fun K hK => ?_) AllReadyH.nil
                    have CN := hid (concat_any (some ⟨VT.heap.size, 0, none⟩) 4 4 [⟨a3, c3, tv9⟩, ⟨a6, c6, nk9⟩, ⟨a9, c9, nz9⟩, ⟨aT, cT, td9⟩] VC rfl BC.out (by unfold catB; simp only [List.take_succ_cons, List.take_zero, List.flatMap_cons, List.flatMap_nil, List.append_nil]; rw [RECV.out]; exact recV_le k d hk hdl) (by omega))
                    refine wp_callop 94 _ _ rfl (enters_of Tryz.func94 (by kernel_rfl) rfl) (args := #[.slice (some ⟨VT.heap.size, 0, none⟩) 4 4]) (by simp only [List.map_toArray, List.map_cons, List.map_nil]; rfl) CN.out (fun e VG hP9 => ?_)
                    obtain ⟨vv, rfl, hoo, hbb⟩ := hP9
                    have HG := hid (HC.out.trans (hbb.mono HC.out.size))
                    have hoo : VG.ownsRow VC.heap.size 5 1 vv (recV k d).length ((recV k d).map bv) := (by have h9 := hoo; simp only [List.flatMap_cons, List.flatMap_nil, List.append_nil] at h9; rw [RECV.out] at h9; exact h9)
                    obtain ⟨aG, cG, rfl⟩ := own_form hoo
                    have OG := hid (ownsRow_base hoo HC.out.size)
                    clear hbb hoo
                    refine ⟨_, rfl, ?_⟩
                    clear CN
                    refine hK.out _ _ (HS.out _ HG.out) (fun hHeld => ?_)
                    clear hK K
                    simp only [Act.put, List.getElem_toArray, List.getElem_cons_succ, List.getElem_cons_zero, List.setIfInBounds_toArray, List.set_cons_succ, List.set_cons_zero]
                    refine wpAnyH_ready (rs := [14]) (by kernel_rfl) (by simp) ?_
                    refine AllReadyH.cons rfl (fun K hK => ?_) AllReadyH.nil
                    have HD9 := hid (HG.out.trans (((Below.refl VG.heap.size VG).alloc (Nat.le_refl _) (.cells #[.slice aG (recV k d).length cG] 25)).mono HG.out.size))
                    obtain ⟨po, pc, VE, hrun, hoE, hbE, hoG9⟩ := rec_app VG aG cG (recV k d) Wb.heap.size w4.heap.size OG.out HG.out.size hsz9
                    go_simp
                    refine hK.out _ _ (HS.out _ HD9.out) (fun hHeld => ?_)
                    clear hK K
                    refine wpAnyH_ready (rs := [15]) (by kernel_rfl) (by simp) ?_
                    refine AllReadyH.cons rfl (fun K hK => ?_) AllReadyH.nil
                    have HE9 := hid (HD9.out.trans (hbE.mono HD9.out.size))
                    refine step_known (.tmp 15) (.tmp 29) 60 (by rfl) (by rfl) _ _ _ (by rfl) (by rfl) hrun (by first | rfl | (simp [Region.wanted, yielded]; done)) ?_
                    refine hK.out _ _ (HS.out _ HE9.out) (fun hHeld => ?_)
                    clear hK K
                    simp only [Act.put, List.getElem_toArray, List.getElem_cons_succ, List.getElem_cons_zero, List.setIfInBounds_toArray, List.set_cons_succ, List.set_cons_zero]
                    refine wpAnyH_ready (rs := [16]) (by kernel_rfl) (by simp) ?_
                    refine AllReadyH.cons rfl (fun K hK => ?_) AllReadyH.nil
                    have hlist : VE.heap[w.heap.size + 1]? = some (.cells #[.slice none 0 0] 60 (0, 0)) := (HE9.out.block _ (lt_of_block HK1.out)).trans HK1.out
                    have hlc : VE.cell? ⟨w.heap.size + 1, 0, none⟩ = some (.slice none 0 0) := by simp [World.cell?, hlist]
                    have hlf : VE.frozen? ⟨w.heap.size + 1, 0, none⟩ = false := by simp [World.frozen?, hlist]
                    go_simp
                    refine hK.out _ _ (hY2 _ (by rw [cell_set_other _ _ _ _ (show w.heap.size ≠ w.heap.size + 1 from by omega)]; exact (hY _ (HS.out _ HE9.out)).1) (by rw [cell_set_other _ _ _ _ (show w.heap.size + 2 ≠ w.heap.size + 1 from by omega)]; exact (hY _ (HS.out _ HE9.out)).2)) (fun hHeld => ?_)
                    clear hK K
                    refine wpAnyH_done (by kernel_rfl) ?_ _
                    have hsE := HE9.out.size
                    have y0 := (HE9.out.block _ (lt_of_block HK0.out)).trans HK0.out
                    have y2 := (HE9.out.block _ (lt_of_block HK2.out)).trans HK2.out
                    have z0 : (VE.setCell ⟨w.heap.size + 1, 0, none⟩ (.slice po 1 pc)).heap[w.heap.size]? = some (.cells #[.int .i64 (k : Int)] 3 (0, 0)) := (Below.heap_setCell _ ⟨w.heap.size + 1, 0, none⟩ _ w.heap.size (by show w.heap.size ≠ w.heap.size + 1; omega)).trans y0
                    have z2 : (VE.setCell ⟨w.heap.size + 1, 0, none⟩ (.slice po 1 pc)).heap[w.heap.size + 2]? = some (.cells #[.int .i64 0] 3 (0, 0)) := (Below.heap_setCell _ ⟨w.heap.size + 1, 0, none⟩ _ (w.heap.size + 2) (by show w.heap.size + 2 ≠ w.heap.size + 1; omega)).trans y2
                    have z1 := set_at (k := 0) (.slice po 1 pc) hlist
                    have HZ0 := hid z0
                    have HZ1 := hid z1
                    have HZ2 := hid z2
                    have HOE := hid hoE
                    have HOG := hid hoG9
                    have HLI := hid hlist
                    have f0 : (VE.setCell ⟨w.heap.size + 1, 0, none⟩ (.slice po 1 pc)).frozen? ⟨w.heap.size, 0, none⟩ = false := by simp [World.frozen?, z0]
                    have f2 : (VE.setCell ⟨w.heap.size + 1, 0, none⟩ (.slice po 1 pc)).frozen? ⟨w.heap.size + 2, 0, none⟩ = false := by simp [World.frozen?, z2]
                    have g0 : (VE.setCell ⟨w.heap.size + 1, 0, none⟩ (.slice po 1 pc)).cell? ⟨w.heap.size, 0, none⟩ = some (.int .i64 (k : Int)) := by simp [World.cell?, z0]
                    have g2 : (VE.setCell ⟨w.heap.size + 1, 0, none⟩ (.slice po 1 pc)).cell? ⟨w.heap.size + 2, 0, none⟩ = some (.int .i64 0) := by simp [World.cell?, z2]
                    have kE : Keep (fun i => i = w.heap.size + 1) VE (VE.setCell ⟨w.heap.size + 1, 0, none⟩ (.slice po 1 pc)) := Keep.set VE ⟨w.heap.size + 1, 0, none⟩ _ rfl
                    have HKE := hid kE
                    clear hoE hoG9 hlist hlc hlf y0 y2 z0 z1 z2 hHeld hY hY2 hrun hbE e0 e1 e2 kE
                    generalize VE.setCell ⟨w.heap.size + 1, 0, none⟩ (.slice po 1 pc) = VF at *
                    gi_upto_region 6 with fail
                    refine region_held_in (S := fun _ => Hid True) (by kernel_rfl) ?hlo6 ?hops6 trivial (fun hHeld => ?_)
                    case hlo6 =>
                      rintro ⟨a9, w9, h9⟩
                      exact h9
                    case hops6 =>
                      intro i o ho
                      rw [List.getElem?_toArray] at ho
                      have hm := List.mem_of_getElem? ho
                      simp only [List.mem_cons, List.not_mem_nil, or_false] at hm
                      rcases hm with rfl | rfl | rfl | rfl
                      all_goals refine ⟨fun c hc => (by cases hc), fun a w row args w' => ?_⟩
                      all_goals first | exact simple_noRow (by rfl) a.eval w row args w' | exact binop_noRow rfl a.eval w row args w'
                    have g0 : VF.drew.cell? ⟨w.heap.size, 0, none⟩ = some (.int .i64 (k : Int)) := g0
                    have g2 : VF.drew.cell? ⟨w.heap.size + 2, 0, none⟩ = some (.int .i64 0) := g2
                    have f0 : VF.drew.frozen? ⟨w.heap.size, 0, none⟩ = false := f0
                    have f2 : VF.drew.frozen? ⟨w.heap.size + 2, 0, none⟩ = false := f2
                    have HZ0 : Hid (VF.drew.heap[w.heap.size]? = some (.cells #[.int .i64 (k : Int)] 3 (0, 0))) := HZ0
                    have HZ1 : Hid (VF.drew.heap[w.heap.size + 1]? = some (.cells #[.slice po 1 pc] 60 (0, 0))) := HZ1
                    have HZ2 : Hid (VF.drew.heap[w.heap.size + 2]? = some (.cells #[.int .i64 0] 3 (0, 0))) := HZ2
                    have HKE : Hid (Keep (fun i => i = w.heap.size + 1) VE VF.drew) := ⟨HKE.out.os, HKE.out.tape, HKE.out.output, HKE.out.size, HKE.out.block⟩
                    generalize VF.drew = VD at *
                    have hlp : (pre ++ [0]).length = 1 := by rw [List.length_append, HP0.out]; rfl
                    have c6a : Keep (fun i => i = w.heap.size ∨ i = w.heap.size + 2) VD ((VD.setCell ⟨w.heap.size, 0, none⟩ (.int .i64 0)).setCell ⟨w.heap.size + 1 + 1, 0, none⟩ (.int .i64 (-1))) := (Keep.set (X := fun i => i = w.heap.size ∨ i = w.heap.size + 2) VD ⟨w.heap.size, 0, none⟩ _ (.inl rfl)).trans (Keep.set (X := fun i => i = w.heap.size ∨ i = w.heap.size + 2) _ ⟨w.heap.size + 1 + 1, 0, none⟩ _ (.inr rfl))
                    have FIN := rec_fin HE9.out HOE.out HOG.out HKE.out HZ1.out c6a HKP.out hsz9 (by have := HS3.out; omega) hlp
                    refine wpAnyH_ready (rs := [0, 2]) (by kernel_rfl) (by simp) ?_
                    refine AllReadyH.cons rfl (fun K hK => ?ra31) (AllReadyH.cons rfl (fun K hK => ?rb31) AllReadyH.nil)
                    case ra31 =>
                      go_simp
                      refine hK.out _ _ trivial (fun hHeld => ?_)
                      clear hK K
                      refine wpAnyH_take (i := 1) (v := (.int .i64 (-1))) rfl (by kernel_rfl) (by kernel_rfl) (by kernel_rfl) (fun _ _ _ h => (show False from h).elim) ?xyQ1y32 ?xhQ1y32 ?xrQ1y32
                      case xhQ1y32 => exact hHeld
                      case xyQ1y32 => exact Or.inl ⟨by rfl, fun W9 hW => by clear hHeld; simp only [List.getElem_toArray, List.getElem_cons_succ, List.getElem_cons_zero]; go_simp; first | rfl | decide⟩
                      simp only [Act.put, List.getElem_toArray, List.getElem_cons_succ, List.getElem_cons_zero, List.setIfInBounds_toArray, List.set_cons_succ, List.set_cons_zero]
                      refine wpAnyH_ready (rs := [2]) (by kernel_rfl) (by simp) ?_
                      refine AllReadyH.cons rfl (fun K hK => ?_) AllReadyH.nil
                      go_simp
                      refine hK.out _ _ trivial (fun hHeld => ?_)
                      clear hK K
                      refine wpAnyH_ready (rs := [3]) (by kernel_rfl) (by simp) ?_
                      refine AllReadyH.cons rfl (fun K hK => ?_) AllReadyH.nil
                      go_simp
                      refine hK.out _ _ trivial (fun hHeld => ?_)
                      clear hK K
                      refine wpAnyH_done (by kernel_rfl) ?_ _
                      exact FIN
                    case rb31 =>
                      go_simp
                      refine hK.out _ _ trivial (fun hHeld => ?_)
                      clear hK K
                      refine wpAnyH_ready (rs := [0]) (by kernel_rfl) (by simp) ?_
                      refine AllReadyH.cons rfl (fun K hK => ?_) AllReadyH.nil
                      go_simp
                      refine hK.out _ _ trivial (fun hHeld => ?_)
                      clear hK K
                      refine wpAnyH_take (i := 1) (v := (.int .i64 (-1))) rfl (by kernel_rfl) (by kernel_rfl) (by kernel_rfl) (fun _ _ _ h => (show False from h).elim) ?xyQ1y33 ?xhQ1y33 ?xrQ1y33
                      case xhQ1y33 => exact hHeld
                      case xyQ1y33 => exact Or.inl ⟨by rfl, fun W9 hW => by clear hHeld; simp only [List.getElem_toArray, List.getElem_cons_succ, List.getElem_cons_zero]; go_simp; first | rfl | decide⟩
                      simp only [Act.put, List.getElem_toArray, List.getElem_cons_succ, List.getElem_cons_zero, List.setIfInBounds_toArray, List.set_cons_succ, List.set_cons_zero]
                      refine wpAnyH_ready (rs := [3]) (by kernel_rfl) (by simp) ?_
                      refine AllReadyH.cons rfl (fun K hK => ?_) AllReadyH.nil
                      go_simp
                      refine hK.out _ _ trivial (fun hHeld => ?_)
                      clear hK K
                      refine wpAnyH_done (by kernel_rfl) ?_ _
                      exact FIN
                  case rb30 =>
                    have HC := hid (HT9.out.trans (((Below.refl VT.heap.size VT).alloc (Nat.le_refl _) (.cells #[.slice a3 (tv9).length c3, .slice a6 (nk9).length c6, .slice a9 (nz9).length c9, .slice aT (td9).length cT] 25)).mono HT9.out.size))
                    have BC : Hid (Bss (VT.alloc (.cells #[.slice a3 (tv9).length c3, .slice a6 (nk9).length c6, .slice a9 (nz9).length c9, .slice aT (td9).length cT] 25)) (.slice (some ⟨VT.heap.size, 0, none⟩) 4 4) [⟨a3, c3, tv9⟩, ⟨a6, c6, nk9⟩, ⟨a9, c9, nz9⟩, ⟨aT, cT, td9⟩]) := bss_lit [⟨a3, c3, tv9⟩, ⟨a6, c6, nk9⟩, ⟨a9, c9, nz9⟩, ⟨aT, cT, td9⟩] (by simp) (by simp only [List.mem_cons, List.not_mem_nil, or_false, forall_eq_or_imp, forall_eq]; exact ⟨R3.out, R6.out, R9.out, RT.out⟩)
                    go_simp
                    refine hK.out _ _ (HS.out _ HC.out) (fun hHeld => ?_)
                    clear hK K
                    generalize VT.alloc (.cells #[.slice a3 (tv9).length c3, .slice a6 (nk9).length c6, .slice a9 (nz9).length c9, .slice aT (td9).length cT] 25) = VC at *
                    refine wpAnyH_ready (rs := [0, 13]) (by kernel_rfl) (by simp) ?_
                    refine AllReadyH.cons rfl (fun K hK => ?ra34) (AllReadyH.cons rfl (fun K hK => ?rb34) AllReadyH.nil)
                    case ra34 =>
                      have hcl := HL.out _ HC.out
                      go_simp
                      clear hcl
                      refine hK.out _ _ (HS.out _ HC.out) (fun hHeld => ?_)
                      clear hK K
                      refine wpAnyH_ready (rs := [13]) (by kernel_rfl) (by simp) ?_
                      refine AllReadyH.cons rfl (fun K hK => ?_) AllReadyH.nil
                      have CN := hid (concat_any (some ⟨VT.heap.size, 0, none⟩) 4 4 [⟨a3, c3, tv9⟩, ⟨a6, c6, nk9⟩, ⟨a9, c9, nz9⟩, ⟨aT, cT, td9⟩] VC rfl BC.out (by unfold catB; simp only [List.take_succ_cons, List.take_zero, List.flatMap_cons, List.flatMap_nil, List.append_nil]; rw [RECV.out]; exact recV_le k d hk hdl) (by omega))
                      refine wp_callop 94 _ _ rfl (enters_of Tryz.func94 (by kernel_rfl) rfl) (args := #[.slice (some ⟨VT.heap.size, 0, none⟩) 4 4]) (by simp only [List.map_toArray, List.map_cons, List.map_nil]; rfl) CN.out (fun e VG hP9 => ?_)
                      obtain ⟨vv, rfl, hoo, hbb⟩ := hP9
                      have HG := hid (HC.out.trans (hbb.mono HC.out.size))
                      have hoo : VG.ownsRow VC.heap.size 5 1 vv (recV k d).length ((recV k d).map bv) := (by have h9 := hoo; simp only [List.flatMap_cons, List.flatMap_nil, List.append_nil] at h9; rw [RECV.out] at h9; exact h9)
                      obtain ⟨aG, cG, rfl⟩ := own_form hoo
                      have OG := hid (ownsRow_base hoo HC.out.size)
                      clear hbb hoo
                      refine ⟨_, rfl, ?_⟩
                      clear CN
                      refine hK.out _ _ (HS.out _ HG.out) (fun hHeld => ?_)
                      clear hK K
                      simp only [Act.put, List.getElem_toArray, List.getElem_cons_succ, List.getElem_cons_zero, List.setIfInBounds_toArray, List.set_cons_succ, List.set_cons_zero]
                      refine wpAnyH_ready (rs := [14]) (by kernel_rfl) (by simp) ?_
                      refine AllReadyH.cons rfl (fun K hK => ?_) AllReadyH.nil
                      have HD9 := hid (HG.out.trans (((Below.refl VG.heap.size VG).alloc (Nat.le_refl _) (.cells #[.slice aG (recV k d).length cG] 25)).mono HG.out.size))
                      obtain ⟨po, pc, VE, hrun, hoE, hbE, hoG9⟩ := rec_app VG aG cG (recV k d) Wb.heap.size w4.heap.size OG.out HG.out.size hsz9
                      go_simp
                      refine hK.out _ _ (HS.out _ HD9.out) (fun hHeld => ?_)
                      clear hK K
                      refine wpAnyH_ready (rs := [15]) (by kernel_rfl) (by simp) ?_
                      refine AllReadyH.cons rfl (fun K hK => ?_) AllReadyH.nil
                      have HE9 := hid (HD9.out.trans (hbE.mono HD9.out.size))
                      refine step_known (.tmp 15) (.tmp 29) 60 (by rfl) (by rfl) _ _ _ (by rfl) (by rfl) hrun (by first | rfl | (simp [Region.wanted, yielded]; done)) ?_
                      refine hK.out _ _ (HS.out _ HE9.out) (fun hHeld => ?_)
                      clear hK K
                      simp only [Act.put, List.getElem_toArray, List.getElem_cons_succ, List.getElem_cons_zero, List.setIfInBounds_toArray, List.set_cons_succ, List.set_cons_zero]
                      refine wpAnyH_ready (rs := [16]) (by kernel_rfl) (by simp) ?_
                      refine AllReadyH.cons rfl (fun K hK => ?_) AllReadyH.nil
                      have hlist : VE.heap[w.heap.size + 1]? = some (.cells #[.slice none 0 0] 60 (0, 0)) := (HE9.out.block _ (lt_of_block HK1.out)).trans HK1.out
                      have hlc : VE.cell? ⟨w.heap.size + 1, 0, none⟩ = some (.slice none 0 0) := by simp [World.cell?, hlist]
                      have hlf : VE.frozen? ⟨w.heap.size + 1, 0, none⟩ = false := by simp [World.frozen?, hlist]
                      go_simp
                      refine hK.out _ _ (hY2 _ (by rw [cell_set_other _ _ _ _ (show w.heap.size ≠ w.heap.size + 1 from by omega)]; exact (hY _ (HS.out _ HE9.out)).1) (by rw [cell_set_other _ _ _ _ (show w.heap.size + 2 ≠ w.heap.size + 1 from by omega)]; exact (hY _ (HS.out _ HE9.out)).2)) (fun hHeld => ?_)
                      clear hK K
                      refine wpAnyH_done (by kernel_rfl) ?_ _
                      have hsE := HE9.out.size
                      have y0 := (HE9.out.block _ (lt_of_block HK0.out)).trans HK0.out
                      have y2 := (HE9.out.block _ (lt_of_block HK2.out)).trans HK2.out
                      have z0 : (VE.setCell ⟨w.heap.size + 1, 0, none⟩ (.slice po 1 pc)).heap[w.heap.size]? = some (.cells #[.int .i64 (k : Int)] 3 (0, 0)) := (Below.heap_setCell _ ⟨w.heap.size + 1, 0, none⟩ _ w.heap.size (by show w.heap.size ≠ w.heap.size + 1; omega)).trans y0
                      have z2 : (VE.setCell ⟨w.heap.size + 1, 0, none⟩ (.slice po 1 pc)).heap[w.heap.size + 2]? = some (.cells #[.int .i64 0] 3 (0, 0)) := (Below.heap_setCell _ ⟨w.heap.size + 1, 0, none⟩ _ (w.heap.size + 2) (by show w.heap.size + 2 ≠ w.heap.size + 1; omega)).trans y2
                      have z1 := set_at (k := 0) (.slice po 1 pc) hlist
                      have HZ0 := hid z0
                      have HZ1 := hid z1
                      have HZ2 := hid z2
                      have HOE := hid hoE
                      have HOG := hid hoG9
                      have HLI := hid hlist
                      have f0 : (VE.setCell ⟨w.heap.size + 1, 0, none⟩ (.slice po 1 pc)).frozen? ⟨w.heap.size, 0, none⟩ = false := by simp [World.frozen?, z0]
                      have f2 : (VE.setCell ⟨w.heap.size + 1, 0, none⟩ (.slice po 1 pc)).frozen? ⟨w.heap.size + 2, 0, none⟩ = false := by simp [World.frozen?, z2]
                      have g0 : (VE.setCell ⟨w.heap.size + 1, 0, none⟩ (.slice po 1 pc)).cell? ⟨w.heap.size, 0, none⟩ = some (.int .i64 (k : Int)) := by simp [World.cell?, z0]
                      have g2 : (VE.setCell ⟨w.heap.size + 1, 0, none⟩ (.slice po 1 pc)).cell? ⟨w.heap.size + 2, 0, none⟩ = some (.int .i64 0) := by simp [World.cell?, z2]
                      have kE : Keep (fun i => i = w.heap.size + 1) VE (VE.setCell ⟨w.heap.size + 1, 0, none⟩ (.slice po 1 pc)) := Keep.set VE ⟨w.heap.size + 1, 0, none⟩ _ rfl
                      have HKE := hid kE
                      clear hoE hoG9 hlist hlc hlf y0 y2 z0 z1 z2 hHeld hY hY2 hrun hbE e0 e1 e2 kE
                      generalize VE.setCell ⟨w.heap.size + 1, 0, none⟩ (.slice po 1 pc) = VF at *
                      gi_upto_region 6 with fail
                      refine region_held_in (S := fun _ => Hid True) (by kernel_rfl) ?hlo6 ?hops6 trivial (fun hHeld => ?_)
                      case hlo6 =>
                        rintro ⟨a9, w9, h9⟩
                        exact h9
                      case hops6 =>
                        intro i o ho
                        rw [List.getElem?_toArray] at ho
                        have hm := List.mem_of_getElem? ho
                        simp only [List.mem_cons, List.not_mem_nil, or_false] at hm
                        rcases hm with rfl | rfl | rfl | rfl
                        all_goals refine ⟨fun c hc => (by cases hc), fun a w row args w' => ?_⟩
                        all_goals first | exact simple_noRow (by rfl) a.eval w row args w' | exact binop_noRow rfl a.eval w row args w'
                      have g0 : VF.drew.cell? ⟨w.heap.size, 0, none⟩ = some (.int .i64 (k : Int)) := g0
                      have g2 : VF.drew.cell? ⟨w.heap.size + 2, 0, none⟩ = some (.int .i64 0) := g2
                      have f0 : VF.drew.frozen? ⟨w.heap.size, 0, none⟩ = false := f0
                      have f2 : VF.drew.frozen? ⟨w.heap.size + 2, 0, none⟩ = false := f2
                      have HZ0 : Hid (VF.drew.heap[w.heap.size]? = some (.cells #[.int .i64 (k : Int)] 3 (0, 0))) := HZ0
                      have HZ1 : Hid (VF.drew.heap[w.heap.size + 1]? = some (.cells #[.slice po 1 pc] 60 (0, 0))) := HZ1
                      have HZ2 : Hid (VF.drew.heap[w.heap.size + 2]? = some (.cells #[.int .i64 0] 3 (0, 0))) := HZ2
                      have HKE : Hid (Keep (fun i => i = w.heap.size + 1) VE VF.drew) := ⟨HKE.out.os, HKE.out.tape, HKE.out.output, HKE.out.size, HKE.out.block⟩
                      generalize VF.drew = VD at *
                      have hlp : (pre ++ [0]).length = 1 := by rw [List.length_append, HP0.out]; rfl
                      have c6a : Keep (fun i => i = w.heap.size ∨ i = w.heap.size + 2) VD ((VD.setCell ⟨w.heap.size, 0, none⟩ (.int .i64 0)).setCell ⟨w.heap.size + 1 + 1, 0, none⟩ (.int .i64 (-1))) := (Keep.set (X := fun i => i = w.heap.size ∨ i = w.heap.size + 2) VD ⟨w.heap.size, 0, none⟩ _ (.inl rfl)).trans (Keep.set (X := fun i => i = w.heap.size ∨ i = w.heap.size + 2) _ ⟨w.heap.size + 1 + 1, 0, none⟩ _ (.inr rfl))
                      have FIN := rec_fin HE9.out HOE.out HOG.out HKE.out HZ1.out c6a HKP.out hsz9 (by have := HS3.out; omega) hlp
                      refine wpAnyH_ready (rs := [0, 2]) (by kernel_rfl) (by simp) ?_
                      refine AllReadyH.cons rfl (fun K hK => ?ra35) (AllReadyH.cons rfl (fun K hK => ?rb35) AllReadyH.nil)
                      case ra35 =>
                        go_simp
                        refine hK.out _ _ trivial (fun hHeld => ?_)
                        clear hK K
                        refine wpAnyH_take (i := 1) (v := (.int .i64 (-1))) rfl (by kernel_rfl) (by kernel_rfl) (by kernel_rfl) (fun _ _ _ h => (show False from h).elim) ?xyQ1y36 ?xhQ1y36 ?xrQ1y36
                        case xhQ1y36 => exact hHeld
                        case xyQ1y36 => exact Or.inl ⟨by rfl, fun W9 hW => by clear hHeld; simp only [List.getElem_toArray, List.getElem_cons_succ, List.getElem_cons_zero]; go_simp; first | rfl | decide⟩
                        simp only [Act.put, List.getElem_toArray, List.getElem_cons_succ, List.getElem_cons_zero, List.setIfInBounds_toArray, List.set_cons_succ, List.set_cons_zero]
                        refine wpAnyH_ready (rs := [2]) (by kernel_rfl) (by simp) ?_
                        refine AllReadyH.cons rfl (fun K hK => ?_) AllReadyH.nil
                        go_simp
                        refine hK.out _ _ trivial (fun hHeld => ?_)
                        clear hK K
                        refine wpAnyH_ready (rs := [3]) (by kernel_rfl) (by simp) ?_
                        refine AllReadyH.cons rfl (fun K hK => ?_) AllReadyH.nil
                        go_simp
                        refine hK.out _ _ trivial (fun hHeld => ?_)
                        clear hK K
                        refine wpAnyH_done (by kernel_rfl) ?_ _
                        exact FIN
                      case rb35 =>
                        go_simp
                        refine hK.out _ _ trivial (fun hHeld => ?_)
                        clear hK K
                        refine wpAnyH_ready (rs := [0]) (by kernel_rfl) (by simp) ?_
                        refine AllReadyH.cons rfl (fun K hK => ?_) AllReadyH.nil
                        go_simp
                        refine hK.out _ _ trivial (fun hHeld => ?_)
                        clear hK K
                        refine wpAnyH_take (i := 1) (v := (.int .i64 (-1))) rfl (by kernel_rfl) (by kernel_rfl) (by kernel_rfl) (fun _ _ _ h => (show False from h).elim) ?xyQ1y37 ?xhQ1y37 ?xrQ1y37
                        case xhQ1y37 => exact hHeld
                        case xyQ1y37 => exact Or.inl ⟨by rfl, fun W9 hW => by clear hHeld; simp only [List.getElem_toArray, List.getElem_cons_succ, List.getElem_cons_zero]; go_simp; first | rfl | decide⟩
                        simp only [Act.put, List.getElem_toArray, List.getElem_cons_succ, List.getElem_cons_zero, List.setIfInBounds_toArray, List.set_cons_succ, List.set_cons_zero]
                        refine wpAnyH_ready (rs := [3]) (by kernel_rfl) (by simp) ?_
                        refine AllReadyH.cons rfl (fun K hK => ?_) AllReadyH.nil
                        go_simp
                        refine hK.out _ _ trivial (fun hHeld => ?_)
                        clear hK K
                        refine wpAnyH_done (by kernel_rfl) ?_ _
                        exact FIN
                    case rb34 =>
                      have CN := hid (concat_any (some ⟨VT.heap.size, 0, none⟩) 4 4 [⟨a3, c3, tv9⟩, ⟨a6, c6, nk9⟩, ⟨a9, c9, nz9⟩, ⟨aT, cT, td9⟩] VC rfl BC.out (by unfold catB; simp only [List.take_succ_cons, List.take_zero, List.flatMap_cons, List.flatMap_nil, List.append_nil]; rw [RECV.out]; exact recV_le k d hk hdl) (by omega))
                      refine wp_callop 94 _ _ rfl (enters_of Tryz.func94 (by kernel_rfl) rfl) (args := #[.slice (some ⟨VT.heap.size, 0, none⟩) 4 4]) (by simp only [List.map_toArray, List.map_cons, List.map_nil]; rfl) CN.out (fun e VG hP9 => ?_)
                      obtain ⟨vv, rfl, hoo, hbb⟩ := hP9
                      have HG := hid (HC.out.trans (hbb.mono HC.out.size))
                      have hoo : VG.ownsRow VC.heap.size 5 1 vv (recV k d).length ((recV k d).map bv) := (by have h9 := hoo; simp only [List.flatMap_cons, List.flatMap_nil, List.append_nil] at h9; rw [RECV.out] at h9; exact h9)
                      obtain ⟨aG, cG, rfl⟩ := own_form hoo
                      have OG := hid (ownsRow_base hoo HC.out.size)
                      clear hbb hoo
                      refine ⟨_, rfl, ?_⟩
                      clear CN
                      refine hK.out _ _ (HS.out _ HG.out) (fun hHeld => ?_)
                      clear hK K
                      simp only [Act.put, List.getElem_toArray, List.getElem_cons_succ, List.getElem_cons_zero, List.setIfInBounds_toArray, List.set_cons_succ, List.set_cons_zero]
                      refine wpAnyH_ready (rs := [0, 14]) (by kernel_rfl) (by simp) ?_
                      refine AllReadyH.cons rfl (fun K hK => ?ra38) (AllReadyH.cons rfl (fun K hK => ?rb38) AllReadyH.nil)
                      case ra38 =>
                        have hcl := HL.out _ HG.out
                        go_simp
                        clear hcl
                        refine hK.out _ _ (HS.out _ HG.out) (fun hHeld => ?_)
                        clear hK K
                        refine wpAnyH_ready (rs := [14]) (by kernel_rfl) (by simp) ?_
                        refine AllReadyH.cons rfl (fun K hK => ?_) AllReadyH.nil
                        have HD9 := hid (HG.out.trans (((Below.refl VG.heap.size VG).alloc (Nat.le_refl _) (.cells #[.slice aG (recV k d).length cG] 25)).mono HG.out.size))
                        obtain ⟨po, pc, VE, hrun, hoE, hbE, hoG9⟩ := rec_app VG aG cG (recV k d) Wb.heap.size w4.heap.size OG.out HG.out.size hsz9
                        go_simp
                        refine hK.out _ _ (HS.out _ HD9.out) (fun hHeld => ?_)
                        clear hK K
                        refine wpAnyH_ready (rs := [15]) (by kernel_rfl) (by simp) ?_
                        refine AllReadyH.cons rfl (fun K hK => ?_) AllReadyH.nil
                        have HE9 := hid (HD9.out.trans (hbE.mono HD9.out.size))
                        refine step_known (.tmp 15) (.tmp 29) 60 (by rfl) (by rfl) _ _ _ (by rfl) (by rfl) hrun (by first | rfl | (simp [Region.wanted, yielded]; done)) ?_
                        refine hK.out _ _ (HS.out _ HE9.out) (fun hHeld => ?_)
                        clear hK K
                        simp only [Act.put, List.getElem_toArray, List.getElem_cons_succ, List.getElem_cons_zero, List.setIfInBounds_toArray, List.set_cons_succ, List.set_cons_zero]
                        refine wpAnyH_ready (rs := [16]) (by kernel_rfl) (by simp) ?_
                        refine AllReadyH.cons rfl (fun K hK => ?_) AllReadyH.nil
                        have hlist : VE.heap[w.heap.size + 1]? = some (.cells #[.slice none 0 0] 60 (0, 0)) := (HE9.out.block _ (lt_of_block HK1.out)).trans HK1.out
                        have hlc : VE.cell? ⟨w.heap.size + 1, 0, none⟩ = some (.slice none 0 0) := by simp [World.cell?, hlist]
                        have hlf : VE.frozen? ⟨w.heap.size + 1, 0, none⟩ = false := by simp [World.frozen?, hlist]
                        go_simp
                        refine hK.out _ _ (hY2 _ (by rw [cell_set_other _ _ _ _ (show w.heap.size ≠ w.heap.size + 1 from by omega)]; exact (hY _ (HS.out _ HE9.out)).1) (by rw [cell_set_other _ _ _ _ (show w.heap.size + 2 ≠ w.heap.size + 1 from by omega)]; exact (hY _ (HS.out _ HE9.out)).2)) (fun hHeld => ?_)
                        clear hK K
                        refine wpAnyH_done (by kernel_rfl) ?_ _
                        have hsE := HE9.out.size
                        have y0 := (HE9.out.block _ (lt_of_block HK0.out)).trans HK0.out
                        have y2 := (HE9.out.block _ (lt_of_block HK2.out)).trans HK2.out
                        have z0 : (VE.setCell ⟨w.heap.size + 1, 0, none⟩ (.slice po 1 pc)).heap[w.heap.size]? = some (.cells #[.int .i64 (k : Int)] 3 (0, 0)) := (Below.heap_setCell _ ⟨w.heap.size + 1, 0, none⟩ _ w.heap.size (by show w.heap.size ≠ w.heap.size + 1; omega)).trans y0
                        have z2 : (VE.setCell ⟨w.heap.size + 1, 0, none⟩ (.slice po 1 pc)).heap[w.heap.size + 2]? = some (.cells #[.int .i64 0] 3 (0, 0)) := (Below.heap_setCell _ ⟨w.heap.size + 1, 0, none⟩ _ (w.heap.size + 2) (by show w.heap.size + 2 ≠ w.heap.size + 1; omega)).trans y2
                        have z1 := set_at (k := 0) (.slice po 1 pc) hlist
                        have HZ0 := hid z0
                        have HZ1 := hid z1
                        have HZ2 := hid z2
                        have HOE := hid hoE
                        have HOG := hid hoG9
                        have HLI := hid hlist
                        have f0 : (VE.setCell ⟨w.heap.size + 1, 0, none⟩ (.slice po 1 pc)).frozen? ⟨w.heap.size, 0, none⟩ = false := by simp [World.frozen?, z0]
                        have f2 : (VE.setCell ⟨w.heap.size + 1, 0, none⟩ (.slice po 1 pc)).frozen? ⟨w.heap.size + 2, 0, none⟩ = false := by simp [World.frozen?, z2]
                        have g0 : (VE.setCell ⟨w.heap.size + 1, 0, none⟩ (.slice po 1 pc)).cell? ⟨w.heap.size, 0, none⟩ = some (.int .i64 (k : Int)) := by simp [World.cell?, z0]
                        have g2 : (VE.setCell ⟨w.heap.size + 1, 0, none⟩ (.slice po 1 pc)).cell? ⟨w.heap.size + 2, 0, none⟩ = some (.int .i64 0) := by simp [World.cell?, z2]
                        have kE : Keep (fun i => i = w.heap.size + 1) VE (VE.setCell ⟨w.heap.size + 1, 0, none⟩ (.slice po 1 pc)) := Keep.set VE ⟨w.heap.size + 1, 0, none⟩ _ rfl
                        have HKE := hid kE
                        clear hoE hoG9 hlist hlc hlf y0 y2 z0 z1 z2 hHeld hY hY2 hrun hbE e0 e1 e2 kE
                        generalize VE.setCell ⟨w.heap.size + 1, 0, none⟩ (.slice po 1 pc) = VF at *
                        gi_upto_region 6 with fail
                        refine region_held_in (S := fun _ => Hid True) (by kernel_rfl) ?hlo6 ?hops6 trivial (fun hHeld => ?_)
                        case hlo6 =>
                          rintro ⟨a9, w9, h9⟩
                          exact h9
                        case hops6 =>
                          intro i o ho
                          rw [List.getElem?_toArray] at ho
                          have hm := List.mem_of_getElem? ho
                          simp only [List.mem_cons, List.not_mem_nil, or_false] at hm
                          rcases hm with rfl | rfl | rfl | rfl
                          all_goals refine ⟨fun c hc => (by cases hc), fun a w row args w' => ?_⟩
                          all_goals first | exact simple_noRow (by rfl) a.eval w row args w' | exact binop_noRow rfl a.eval w row args w'
                        have g0 : VF.drew.cell? ⟨w.heap.size, 0, none⟩ = some (.int .i64 (k : Int)) := g0
                        have g2 : VF.drew.cell? ⟨w.heap.size + 2, 0, none⟩ = some (.int .i64 0) := g2
                        have f0 : VF.drew.frozen? ⟨w.heap.size, 0, none⟩ = false := f0
                        have f2 : VF.drew.frozen? ⟨w.heap.size + 2, 0, none⟩ = false := f2
                        have HZ0 : Hid (VF.drew.heap[w.heap.size]? = some (.cells #[.int .i64 (k : Int)] 3 (0, 0))) := HZ0
                        have HZ1 : Hid (VF.drew.heap[w.heap.size + 1]? = some (.cells #[.slice po 1 pc] 60 (0, 0))) := HZ1
                        have HZ2 : Hid (VF.drew.heap[w.heap.size + 2]? = some (.cells #[.int .i64 0] 3 (0, 0))) := HZ2
                        have HKE : Hid (Keep (fun i => i = w.heap.size + 1) VE VF.drew) := ⟨HKE.out.os, HKE.out.tape, HKE.out.output, HKE.out.size, HKE.out.block⟩
                        generalize VF.drew = VD at *
                        have hlp : (pre ++ [0]).length = 1 := by rw [List.length_append, HP0.out]; rfl
                        have c6a : Keep (fun i => i = w.heap.size ∨ i = w.heap.size + 2) VD ((VD.setCell ⟨w.heap.size, 0, none⟩ (.int .i64 0)).setCell ⟨w.heap.size + 1 + 1, 0, none⟩ (.int .i64 (-1))) := (Keep.set (X := fun i => i = w.heap.size ∨ i = w.heap.size + 2) VD ⟨w.heap.size, 0, none⟩ _ (.inl rfl)).trans (Keep.set (X := fun i => i = w.heap.size ∨ i = w.heap.size + 2) _ ⟨w.heap.size + 1 + 1, 0, none⟩ _ (.inr rfl))
                        have FIN := rec_fin HE9.out HOE.out HOG.out HKE.out HZ1.out c6a HKP.out hsz9 (by have := HS3.out; omega) hlp
                        refine wpAnyH_ready (rs := [0, 2]) (by kernel_rfl) (by simp) ?_
                        refine AllReadyH.cons rfl (fun K hK => ?ra39) (AllReadyH.cons rfl (fun K hK => ?rb39) AllReadyH.nil)
                        case ra39 =>
                          go_simp
                          refine hK.out _ _ trivial (fun hHeld => ?_)
                          clear hK K
                          refine wpAnyH_take (i := 1) (v := (.int .i64 (-1))) rfl (by kernel_rfl) (by kernel_rfl) (by kernel_rfl) (fun _ _ _ h => (show False from h).elim) ?xyQ1y40 ?xhQ1y40 ?xrQ1y40
                          case xhQ1y40 => exact hHeld
                          case xyQ1y40 => exact Or.inl ⟨by rfl, fun W9 hW => by clear hHeld; simp only [List.getElem_toArray, List.getElem_cons_succ, List.getElem_cons_zero]; go_simp; first | rfl | decide⟩
                          simp only [Act.put, List.getElem_toArray, List.getElem_cons_succ, List.getElem_cons_zero, List.setIfInBounds_toArray, List.set_cons_succ, List.set_cons_zero]
                          refine wpAnyH_ready (rs := [2]) (by kernel_rfl) (by simp) ?_
                          refine AllReadyH.cons rfl (fun K hK => ?_) AllReadyH.nil
                          go_simp
                          refine hK.out _ _ trivial (fun hHeld => ?_)
                          clear hK K
                          refine wpAnyH_ready (rs := [3]) (by kernel_rfl) (by simp) ?_
                          refine AllReadyH.cons rfl (fun K hK => ?_) AllReadyH.nil
                          go_simp
                          refine hK.out _ _ trivial (fun hHeld => ?_)
                          clear hK K
                          refine wpAnyH_done (by kernel_rfl) ?_ _
                          exact FIN
                        case rb39 =>
                          go_simp
                          refine hK.out _ _ trivial (fun hHeld => ?_)
                          clear hK K
                          refine wpAnyH_ready (rs := [0]) (by kernel_rfl) (by simp) ?_
                          refine AllReadyH.cons rfl (fun K hK => ?_) AllReadyH.nil
                          go_simp
                          refine hK.out _ _ trivial (fun hHeld => ?_)
                          clear hK K
                          refine wpAnyH_take (i := 1) (v := (.int .i64 (-1))) rfl (by kernel_rfl) (by kernel_rfl) (by kernel_rfl) (fun _ _ _ h => (show False from h).elim) ?xyQ1y41 ?xhQ1y41 ?xrQ1y41
                          case xhQ1y41 => exact hHeld
                          case xyQ1y41 => exact Or.inl ⟨by rfl, fun W9 hW => by clear hHeld; simp only [List.getElem_toArray, List.getElem_cons_succ, List.getElem_cons_zero]; go_simp; first | rfl | decide⟩
                          simp only [Act.put, List.getElem_toArray, List.getElem_cons_succ, List.getElem_cons_zero, List.setIfInBounds_toArray, List.set_cons_succ, List.set_cons_zero]
                          refine wpAnyH_ready (rs := [3]) (by kernel_rfl) (by simp) ?_
                          refine AllReadyH.cons rfl (fun K hK => ?_) AllReadyH.nil
                          go_simp
                          refine hK.out _ _ trivial (fun hHeld => ?_)
                          clear hK K
                          refine wpAnyH_done (by kernel_rfl) ?_ _
                          exact FIN
                      case rb38 =>
                        have HD9 := hid (HG.out.trans (((Below.refl VG.heap.size VG).alloc (Nat.le_refl _) (.cells #[.slice aG (recV k d).length cG] 25)).mono HG.out.size))
                        obtain ⟨po, pc, VE, hrun, hoE, hbE, hoG9⟩ := rec_app VG aG cG (recV k d) Wb.heap.size w4.heap.size OG.out HG.out.size hsz9
                        go_simp
                        refine hK.out _ _ (HS.out _ HD9.out) (fun hHeld => ?_)
                        clear hK K
                        refine wpAnyH_ready (rs := [0]) (by kernel_rfl) (by simp) ?_
                        refine AllReadyH.cons rfl (fun K hK => ?_) AllReadyH.nil
                        have hcl := HL.out _ HD9.out
                        go_simp
                        clear hcl
                        refine hK.out _ _ (HS.out _ HD9.out) (fun hHeld => ?_)
                        clear hK K
                        refine wpAnyH_ready (rs := [15]) (by kernel_rfl) (by simp) ?_
                        refine AllReadyH.cons rfl (fun K hK => ?_) AllReadyH.nil
                        have HE9 := hid (HD9.out.trans (hbE.mono HD9.out.size))
                        refine step_known (.tmp 15) (.tmp 29) 60 (by rfl) (by rfl) _ _ _ (by rfl) (by rfl) hrun (by first | rfl | (simp [Region.wanted, yielded]; done)) ?_
                        refine hK.out _ _ (HS.out _ HE9.out) (fun hHeld => ?_)
                        clear hK K
                        simp only [Act.put, List.getElem_toArray, List.getElem_cons_succ, List.getElem_cons_zero, List.setIfInBounds_toArray, List.set_cons_succ, List.set_cons_zero]
                        refine wpAnyH_ready (rs := [16]) (by kernel_rfl) (by simp) ?_
                        refine AllReadyH.cons rfl (fun K hK => ?_) AllReadyH.nil
                        have hlist : VE.heap[w.heap.size + 1]? = some (.cells #[.slice none 0 0] 60 (0, 0)) := (HE9.out.block _ (lt_of_block HK1.out)).trans HK1.out
                        have hlc : VE.cell? ⟨w.heap.size + 1, 0, none⟩ = some (.slice none 0 0) := by simp [World.cell?, hlist]
                        have hlf : VE.frozen? ⟨w.heap.size + 1, 0, none⟩ = false := by simp [World.frozen?, hlist]
                        go_simp
                        refine hK.out _ _ (hY2 _ (by rw [cell_set_other _ _ _ _ (show w.heap.size ≠ w.heap.size + 1 from by omega)]; exact (hY _ (HS.out _ HE9.out)).1) (by rw [cell_set_other _ _ _ _ (show w.heap.size + 2 ≠ w.heap.size + 1 from by omega)]; exact (hY _ (HS.out _ HE9.out)).2)) (fun hHeld => ?_)
                        clear hK K
                        refine wpAnyH_done (by kernel_rfl) ?_ _
                        have hsE := HE9.out.size
                        have y0 := (HE9.out.block _ (lt_of_block HK0.out)).trans HK0.out
                        have y2 := (HE9.out.block _ (lt_of_block HK2.out)).trans HK2.out
                        have z0 : (VE.setCell ⟨w.heap.size + 1, 0, none⟩ (.slice po 1 pc)).heap[w.heap.size]? = some (.cells #[.int .i64 (k : Int)] 3 (0, 0)) := (Below.heap_setCell _ ⟨w.heap.size + 1, 0, none⟩ _ w.heap.size (by show w.heap.size ≠ w.heap.size + 1; omega)).trans y0
                        have z2 : (VE.setCell ⟨w.heap.size + 1, 0, none⟩ (.slice po 1 pc)).heap[w.heap.size + 2]? = some (.cells #[.int .i64 0] 3 (0, 0)) := (Below.heap_setCell _ ⟨w.heap.size + 1, 0, none⟩ _ (w.heap.size + 2) (by show w.heap.size + 2 ≠ w.heap.size + 1; omega)).trans y2
                        have z1 := set_at (k := 0) (.slice po 1 pc) hlist
                        have HZ0 := hid z0
                        have HZ1 := hid z1
                        have HZ2 := hid z2
                        have HOE := hid hoE
                        have HOG := hid hoG9
                        have HLI := hid hlist
                        have f0 : (VE.setCell ⟨w.heap.size + 1, 0, none⟩ (.slice po 1 pc)).frozen? ⟨w.heap.size, 0, none⟩ = false := by simp [World.frozen?, z0]
                        have f2 : (VE.setCell ⟨w.heap.size + 1, 0, none⟩ (.slice po 1 pc)).frozen? ⟨w.heap.size + 2, 0, none⟩ = false := by simp [World.frozen?, z2]
                        have g0 : (VE.setCell ⟨w.heap.size + 1, 0, none⟩ (.slice po 1 pc)).cell? ⟨w.heap.size, 0, none⟩ = some (.int .i64 (k : Int)) := by simp [World.cell?, z0]
                        have g2 : (VE.setCell ⟨w.heap.size + 1, 0, none⟩ (.slice po 1 pc)).cell? ⟨w.heap.size + 2, 0, none⟩ = some (.int .i64 0) := by simp [World.cell?, z2]
                        have kE : Keep (fun i => i = w.heap.size + 1) VE (VE.setCell ⟨w.heap.size + 1, 0, none⟩ (.slice po 1 pc)) := Keep.set VE ⟨w.heap.size + 1, 0, none⟩ _ rfl
                        have HKE := hid kE
                        clear hoE hoG9 hlist hlc hlf y0 y2 z0 z1 z2 hHeld hY hY2 hrun hbE e0 e1 e2 kE
                        generalize VE.setCell ⟨w.heap.size + 1, 0, none⟩ (.slice po 1 pc) = VF at *
                        gi_upto_region 6 with fail
                        refine region_held_in (S := fun _ => Hid True) (by kernel_rfl) ?hlo6 ?hops6 trivial (fun hHeld => ?_)
                        case hlo6 =>
                          rintro ⟨a9, w9, h9⟩
                          exact h9
                        case hops6 =>
                          intro i o ho
                          rw [List.getElem?_toArray] at ho
                          have hm := List.mem_of_getElem? ho
                          simp only [List.mem_cons, List.not_mem_nil, or_false] at hm
                          rcases hm with rfl | rfl | rfl | rfl
                          all_goals refine ⟨fun c hc => (by cases hc), fun a w row args w' => ?_⟩
                          all_goals first | exact simple_noRow (by rfl) a.eval w row args w' | exact binop_noRow rfl a.eval w row args w'
                        have g0 : VF.drew.cell? ⟨w.heap.size, 0, none⟩ = some (.int .i64 (k : Int)) := g0
                        have g2 : VF.drew.cell? ⟨w.heap.size + 2, 0, none⟩ = some (.int .i64 0) := g2
                        have f0 : VF.drew.frozen? ⟨w.heap.size, 0, none⟩ = false := f0
                        have f2 : VF.drew.frozen? ⟨w.heap.size + 2, 0, none⟩ = false := f2
                        have HZ0 : Hid (VF.drew.heap[w.heap.size]? = some (.cells #[.int .i64 (k : Int)] 3 (0, 0))) := HZ0
                        have HZ1 : Hid (VF.drew.heap[w.heap.size + 1]? = some (.cells #[.slice po 1 pc] 60 (0, 0))) := HZ1
                        have HZ2 : Hid (VF.drew.heap[w.heap.size + 2]? = some (.cells #[.int .i64 0] 3 (0, 0))) := HZ2
                        have HKE : Hid (Keep (fun i => i = w.heap.size + 1) VE VF.drew) := ⟨HKE.out.os, HKE.out.tape, HKE.out.output, HKE.out.size, HKE.out.block⟩
                        generalize VF.drew = VD at *
                        have hlp : (pre ++ [0]).length = 1 := by rw [List.length_append, HP0.out]; rfl
                        have c6a : Keep (fun i => i = w.heap.size ∨ i = w.heap.size + 2) VD ((VD.setCell ⟨w.heap.size, 0, none⟩ (.int .i64 0)).setCell ⟨w.heap.size + 1 + 1, 0, none⟩ (.int .i64 (-1))) := (Keep.set (X := fun i => i = w.heap.size ∨ i = w.heap.size + 2) VD ⟨w.heap.size, 0, none⟩ _ (.inl rfl)).trans (Keep.set (X := fun i => i = w.heap.size ∨ i = w.heap.size + 2) _ ⟨w.heap.size + 1 + 1, 0, none⟩ _ (.inr rfl))
                        have FIN := rec_fin HE9.out HOE.out HOG.out HKE.out HZ1.out c6a HKP.out hsz9 (by have := HS3.out; omega) hlp
                        refine wpAnyH_ready (rs := [0, 2]) (by kernel_rfl) (by simp) ?_
                        refine AllReadyH.cons rfl (fun K hK => ?ra42) (AllReadyH.cons rfl (fun K hK => ?rb42) AllReadyH.nil)
                        case ra42 =>
                          go_simp
                          refine hK.out _ _ trivial (fun hHeld => ?_)
                          clear hK K
                          refine wpAnyH_take (i := 1) (v := (.int .i64 (-1))) rfl (by kernel_rfl) (by kernel_rfl) (by kernel_rfl) (fun _ _ _ h => (show False from h).elim) ?xyQ1y43 ?xhQ1y43 ?xrQ1y43
                          case xhQ1y43 => exact hHeld
                          case xyQ1y43 => exact Or.inl ⟨by rfl, fun W9 hW => by clear hHeld; simp only [List.getElem_toArray, List.getElem_cons_succ, List.getElem_cons_zero]; go_simp; first | rfl | decide⟩
                          simp only [Act.put, List.getElem_toArray, List.getElem_cons_succ, List.getElem_cons_zero, List.setIfInBounds_toArray, List.set_cons_succ, List.set_cons_zero]
                          refine wpAnyH_ready (rs := [2]) (by kernel_rfl) (by simp) ?_
                          refine AllReadyH.cons rfl (fun K hK => ?_) AllReadyH.nil
                          go_simp
                          refine hK.out _ _ trivial (fun hHeld => ?_)
                          clear hK K
                          refine wpAnyH_ready (rs := [3]) (by kernel_rfl) (by simp) ?_
                          refine AllReadyH.cons rfl (fun K hK => ?_) AllReadyH.nil
                          go_simp
                          refine hK.out _ _ trivial (fun hHeld => ?_)
                          clear hK K
                          refine wpAnyH_done (by kernel_rfl) ?_ _
                          exact FIN
                        case rb42 =>
                          go_simp
                          refine hK.out _ _ trivial (fun hHeld => ?_)
                          clear hK K
                          refine wpAnyH_ready (rs := [0]) (by kernel_rfl) (by simp) ?_
                          refine AllReadyH.cons rfl (fun K hK => ?_) AllReadyH.nil
                          go_simp
                          refine hK.out _ _ trivial (fun hHeld => ?_)
                          clear hK K
                          refine wpAnyH_take (i := 1) (v := (.int .i64 (-1))) rfl (by kernel_rfl) (by kernel_rfl) (by kernel_rfl) (fun _ _ _ h => (show False from h).elim) ?xyQ1y44 ?xhQ1y44 ?xrQ1y44
                          case xhQ1y44 => exact hHeld
                          case xyQ1y44 => exact Or.inl ⟨by rfl, fun W9 hW => by clear hHeld; simp only [List.getElem_toArray, List.getElem_cons_succ, List.getElem_cons_zero]; go_simp; first | rfl | decide⟩
                          simp only [Act.put, List.getElem_toArray, List.getElem_cons_succ, List.getElem_cons_zero, List.setIfInBounds_toArray, List.set_cons_succ, List.set_cons_zero]
                          refine wpAnyH_ready (rs := [3]) (by kernel_rfl) (by simp) ?_
                          refine AllReadyH.cons rfl (fun K hK => ?_) AllReadyH.nil
                          go_simp
                          refine hK.out _ _ trivial (fun hHeld => ?_)
                          clear hK K
                          refine wpAnyH_done (by kernel_rfl) ?_ _
                          exact FIN
      --END
    · omega
  case done =>
    rintro D xs W hDs hxs hI hKD
    have hx1 : xs.length = 1 := by
      rw [hxs, List.length_range]
      have := HM.out
      omega
    rw [hx1] at hI
    rcases hI with ⟨hkeep, ⟨e9, -⟩ | ⟨-, lo, lc, r0, hcell, hr0, hro, hrb⟩⟩
    · omega
    have HK := hid hkeep
    have HRO := hid hro
    have HRB := hid hrb
    have HR0 := hid hr0
    have hp : W.cell? ⟨w.heap.size + 1, 0, none⟩ = some (.slice lo 1 lc) := by simp [World.cell?, hcell]
    clear hkeep hro hrb hr0 hx1 hcell
    have HDS := hid hDs
    have HKD := hid hKD
    clear hDs hKD
    go_wp2_with fail
    refine ⟨by simp, .inl ⟨_, _, rfl, run_takeDeferred HKD.out, ?_⟩⟩
    have hsz4 : w.heap.size ≤ w4.heap.size := HB4.out.size
    have hkz : Keep (fun k => k = D) W (W.putObj D (.deferred none)) := Keep.of_grown (grownBy_putObj' W D _) (fun k e => by cases e; rfl)
    have hDd : ∀ i, W.heap[i]? = some (.deferred (some [])) → ∀ {v : Value} {e : TypeId} {s n : Nat} {xs : List Value} {B : Nat}, W.ownsRow B e s v n xs → v.ownBlock ≠ some i := fun i hi v e s n xs B h e9 => by
      rcases h.2 with ⟨e1, _⟩ | ⟨g, cap, cur, e1, _, hb, _⟩
      · rw [e1] at e9; cases e9
      · rw [e1] at e9
        simp only [Value.ownBlock, Option.some.injEq] at e9
        subst e9
        rw [hb] at hi
        cases hi
    have o1 := own_keep HRO.out hkz (fun i hi e9 => by subst e9; exact hDd _ HKD.out HRO.out hi)
    have o2 := own_keep HRB.out hkz (fun i hi e9 => by subst e9; exact hDd _ HKD.out HRB.out hi)
    refine ⟨_, results_tmp rfl _ _ _, lo, lc, r0, rfl, HR0.out, ⟨Rws.own o1 ?_, ?_⟩, ?_, ?_, ?_⟩
    · intro r hr
      obtain rfl := List.mem_singleton.1 hr
      exact ⟨rfl, fun u hu => by obtain rfl := List.mem_singleton.1 hu; rfl⟩
    · intro r hr
      obtain rfl := List.mem_singleton.1 hr
      exact Rd.own o2
    · exact (HB4.out.trans (HK.out.toKeep.below hsz4 (fun i e => by omega))).trans (hkz.below (Nat.le_trans hsz4 HK.out.size) (fun i e => by have := HDS.out; omega))
    · intro j hj
      exact Nat.le_trans hsz4 (HRO.out.lt j (by rcases lo with _ | a; cases hj; exact hj)).1
    · intro a ha
      exact Nat.le_trans hsz4 (HRB.out.lt a.block (by unfold rcv; rw [ha]; rfl)).1
end Go.Proofs.YtddnleofflobhaaGreatDoor

