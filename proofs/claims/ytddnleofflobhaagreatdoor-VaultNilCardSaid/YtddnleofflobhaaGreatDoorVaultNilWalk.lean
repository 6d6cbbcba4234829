/-
  THE LAW VaultNil: its walk.
-/
import Derived.Test.YtddnleofflobhaaGreatDoorKx
import Derived.Test.YtddnleofflobhaaGreatDoorVG25
set_option linter.unusedVariables false
set_option linter.unusedSimpArgs false
set_option maxRecDepth 100000
namespace Go.Proofs.YtddnleofflobhaaGreatDoor
open Go.RowKit Go.ChangeShapes Go.WideShapes Go.ChangeAt

namespace vaultNil
theorem wopen_nil (w : World) : Calls Tryz.prog 32 #[.pointer none] w (fun e w' => e = .returned (.tuple #[.pointer none, .int .i64 2]) ∧ w' = w) := by
  go_enter Tryz.func32, Tryz.ntmps32
  go_wp2_with fail
  go_ret2
  exact ⟨rfl, rfl⟩
theorem none_nil (w : World) : Calls Tryz.prog 41 #[.pointer none] w (fun e w' => e = .returned (.bool true) ∧ w' = w) := by
  go_enter Tryz.func41, Tryz.ntmps41
  go_wp2_with fail
  go_ret
  exact ⟨rfl, rfl⟩
theorem log_nil (w : World) : Calls Tryz.prog 19 #[.pointer none] w (fun e w' => e = .returned (.agg #[.int .u64 0, .int .i64 0, .int .u64 0, .int .u64 0, .slice none 0 0, .slice none 0 0]) ∧ Below w.heap.size w w') := by
  have h0 := heap_alloc_new w (.cells #[.int .u64 0, .int .i64 0, .int .u64 0, .int .u64 0, .slice none 0 0, .slice none 0 0] 30)
  go_enter Tryz.func19, Tryz.ntmps19
  go_wp2_with fail
  refine bodyPost_ret (results_cell_row rfl _ _ w.heap.size 30 _ (0, 0) _ rfl h0 Tryz.underlying30 rfl (by kernel_rfl)) rfl ?_
  exact ⟨rfl, (Below.refl _ _).alloc (Nat.le_refl _) _⟩
theorem fnew_any (n : Int) (hn : n ≠ 0) (s : ByteArray) (w : World) : Calls Tryz.prog 34 #[.int .i64 n, .string s] w fun e w' =>
    e = .returned (.iface 92 (.pointer (some ⟨w.heap.size, 0, none⟩))) ∧ w' = w.alloc (.cells #[.string s, .iface 38 (.int .i64 n)] 94) := by
  have hd : (n == 0) = false := by simp [hn]
  go_enter Tryz.func34, Tryz.ntmps34
  go_wp2_with (go_at_call 33; refine (wrap_any _ _ _ _).mono ?_; rintro e w' ⟨rfl, rfl⟩)
  go_ret
  exact ⟨rfl, rfl⟩

/-- An error that is a code within faults. -/
def ErrP (w : World) (n : Int) (v : Value) (w' : World) : Prop := ∃ l, Chain w' l (.code n) v ∧ Below w.heap.size w w'

theorem open_nil (w : World) (h0 : 0 < w.heap.size) : Calls Tryz.prog 15 #[.pointer none] w (fun e w' => ∃ v, e = .returned (.tuple #[.pointer none, v]) ∧ ErrP w 2 v w') := by
  have hb1 : Below w.heap.size w (w.alloc (.cells #[.string ⟨#[119, 97, 108]⟩, .iface 38 (.int .i64 2)] 94)) := (Below.refl _ _).alloc (Nat.le_refl _) _
  have c1 := Chain.first (w := w) 2 h0 ⟨#[119, 97, 108]⟩
  have c2 := Chain.cons c1 (by simp) ⟨#[118, 97, 117, 108, 116]⟩
  have hb2 := hb1.alloc hb1.size (.cells #[.string ⟨#[118, 97, 117, 108, 116]⟩, .iface 92 (.pointer (some ⟨w.heap.size, 0, none⟩))] 94)
  rw [show (w.alloc (.cells #[.string ⟨#[119, 97, 108]⟩, .iface 38 (.int .i64 2)] 94)).heap.size = w.heap.size + 1 from by simp] at c2
  have C2 := hid c2
  have HB := hid hb2
  clear c1 c2 hb1 hb2
  go_enter Tryz.func15, Tryz.ntmps15
  go_wp2_with (first
    | (go_at_call 32; refine (wopen_nil _).mono ?_; rintro en w9 ⟨rfl, rfl⟩)
    | (go_at_call 34; refine (fnew_any 2 (by decide) _ _).mono ?_; rintro en w9 ⟨rfl, rfl⟩)
    | (go_at_call 33; refine (wrap_any _ _ _ _).mono ?_; rintro en w9 ⟨rfl, rfl⟩))
  go_ret2
  exact ⟨_, rfl, _, C2.out, HB.out⟩

theorem put_nil (l : Lo) (w : World) (h0 : 0 < w.heap.size) : Calls Tryz.prog 23 #[.pointer none, .agg #[.int .u64 (l.ht : Int), .int .i64 l.hv, .int .u64 (l.si : Int), .int .u64 (l.st : Int), .slice l.sd.a l.sd.b.length l.sd.c, .slice l.eo l.es.length l.ec]] w (fun e w' => ∃ v, e = .returned v ∧ ErrP w 2 v w') := by
  have hb1 : Below w.heap.size w (w.alloc (.cells #[.int .u64 (l.ht : Int), .int .i64 l.hv, .int .u64 (l.si : Int), .int .u64 (l.st : Int), .slice l.sd.a l.sd.b.length l.sd.c, .slice l.eo l.es.length l.ec] 30)) := (Below.refl _ _).alloc (Nat.le_refl _) _
  go_enter Tryz.func23, Tryz.ntmps23
  go_upto_region 1 with fail
  generalize w.alloc (.cells #[.int .u64 (l.ht : Int), .int .i64 l.hv, .int .u64 (l.si : Int), .int .u64 (l.st : Int), .slice l.sd.a l.sd.b.length l.sd.c, .slice l.eo l.es.length l.ec] 30) = w1 at *
  have h1 : 0 < w1.heap.size := Nat.lt_of_lt_of_le h0 hb1.size
  have c1 := Chain.first (w := w1) 2 h1 ⟨#[118, 97, 117, 108, 116]⟩
  have C1 := hid c1
  have HB := hid (hb1.alloc hb1.size (.cells #[.string ⟨#[118, 97, 117, 108, 116]⟩, .iface 38 (.int .i64 2)] 94))
  clear hb1 c1
  go_wp2_with (first
    | (go_at_call 41; refine (none_nil _).mono ?_; rintro en w9 ⟨rfl, rfl⟩)
    | (go_at_call 34; refine (fnew_any 2 (by decide) _ _).mono ?_; rintro en w9 ⟨rfl, rfl⟩))
  go_ret
  exact ⟨_, rfl, _, C1.out, HB.out⟩

set_option maxHeartbeats 8000000 in
theorem walk0 (l : Lo) (w : World) (hr : Ready w) : Calls Tryz.prog 6 #[.agg #[.int .u64 (l.ht : Int), .int .i64 l.hv, .int .u64 (l.si : Int), .int .u64 (l.st : Int), .slice l.sd.a l.sd.b.length l.sd.c, .slice l.eo l.es.length l.ec]] w (fun e w' => e = .returned (.bool true) ∧ Below w.heap.size w w') := by
  have hb : Below w.heap.size w (w.alloc (.cells #[.int .u64 (l.ht : Int), .int .i64 l.hv, .int .u64 (l.si : Int), .int .u64 (l.st : Int), .slice l.sd.a l.sd.b.length l.sd.c, .slice l.eo l.es.length l.ec] 30)) := (Below.refl _ _).alloc (Nat.le_refl _) _
  have h0 := heap_alloc_new w (.cells #[.int .u64 (l.ht : Int), .int .i64 l.hv, .int .u64 (l.si : Int), .int .u64 (l.st : Int), .slice l.sd.a l.sd.b.length l.sd.c, .slice l.eo l.es.length l.ec] 30)
  have CL : Hid (∀ V, Calls Tryz.prog 13 #[.agg #[.int .u64 0, .int .i64 0, .int .u64 0, .int .u64 0, .slice none 0 0, .slice none 0 0], .agg #[.int .u64 0, .int .i64 0, .int .u64 0, .int .u64 0, .slice none 0 0, .slice none 0 0]] V (fun en w' => en = .returned (.bool true) ∧ Below V.heap.size V w')) := hid fun V => by
    have hz : LoAt V ⟨0, 0, 0, 0, ⟨none, 0, []⟩, none, 0, []⟩ := ⟨Rd.nil V, ⟨Rws.nil 3 V, fun e he => by cases he⟩, by decide, by decide, by decide, by decide, by decide, by decide⟩
    have := hlog_any ⟨0, 0, 0, 0, ⟨none, 0, []⟩, none, 0, []⟩ ⟨0, 0, 0, 0, ⟨none, 0, []⟩, none, 0, []⟩ V hz hz
    simpa [Lo.v] using this
  have HR0 := hid hr
  have hlt := hr.lt
  have HLT := hid hlt
  clear hr hlt
  go_enter Tryz.func6, Tryz.ntmps6
  go_upto_region 2 with fail
  generalize w.alloc (.cells #[.int .u64 (l.ht : Int), .int .i64 l.hv, .int .u64 (l.si : Int), .int .u64 (l.st : Int), .slice l.sd.a l.sd.b.length l.sd.c, .slice l.eo l.es.length l.ec] 30) = w1 at *
  have HB := hid hb
  have H0 := hid h0
  have RD : Hid (∀ V, Below w.heap.size w V → Ready V) := hid fun V hV => HR0.out.kept (Keeps.below hV HLT.out)
  have LT : Hid (∀ V, Below w.heap.size w V → 0 < V.heap.size) := hid fun V hV => Nat.lt_of_lt_of_le HLT.out hV.size
  clear hb h0
  have CO := hid (open_nil w1 (LT.out _ HB.out))
  go_upto_region 3 with (first | (go_at_call 15; refine CO.out.mono ?_; rintro en w2 ⟨ve, rfl, le, hce, hbe⟩; have HCE := hid hce; have HB2 := hid (HB.out.trans (hbe.mono HB.out.size)); have H02 := hid ((hbe.block _ (lt_of_block H0.out)).trans H0.out); clear hce hbe))
  obtain ⟨Te, xe, rfl⟩ := HCE.out.shape
  go_wp2_with (first
    | (go_at_call 9; refine (vawake_any records1_any _).mono ?_; rintro en w3 ⟨rfl, hb3⟩; have HB3 := hid (HB2.out.trans (hb3.mono HB2.out.size)); have HC3 := hid (HCE.out.kept (Keeps.below hb3 (LT.out _ HB2.out))); have H03 := hid ((hb3.block _ (lt_of_block H02.out)).trans H02.out); have CC1 := hid (code_any _ _ _ _ (RD.out _ HB3.out) HC3.out); clear hb3)
    | (go_at_call 18; refine CC1.out.mono ?_; rintro en w4 ⟨rfl, hb4⟩; have HB4 := hid (HB3.out.trans (hb4.mono HB3.out.size)); have H04 := hid ((hb4.block _ (lt_of_block H03.out)).trans H03.out); obtain ⟨z0, z1, z2, z3, z4, z5⟩ := six_cells H04.out; have CP := hid (put_nil l _ (LT.out _ HB4.out)); clear hb4 CC1)
    | (go_at_call 23; refine CP.out.mono ?_; rintro en w5 ⟨vp, rfl, lp, hcp, hb5⟩; have HB5 := hid (HB4.out.trans (hb5.mono HB4.out.size)); have CC2 := hid (code_any _ _ _ _ (RD.out _ HB5.out) hcp); obtain ⟨Tp, xp, rfl⟩ := hcp.shape; clear hb5 hcp)
    | (go_at_call 18; refine CC2.out.mono ?_; rintro en w6 ⟨rfl, hb6⟩; have HB6 := hid (HB5.out.trans (hb6.mono HB5.out.size)); clear hb6 CC2)
    | (go_at_call 19; refine (log_nil _).mono ?_; rintro en w7 ⟨rfl, hb7⟩; have HB7 := hid (HB6.out.trans (hb7.mono HB6.out.size)); clear hb7)
    | (go_at_call 13; refine (CL.out _).mono ?_; rintro en w8 ⟨rfl, hb8⟩; have HB8 := hid (HB7.out.trans (hb8.mono HB7.out.size)); clear hb8))
  go_ret
  exact ⟨rfl, HB8.out⟩
theorem walk {H : Type} {enc : TypeId × Value → H} (v : Value) (w : World) (hr : Ready w) {base : Nat} {d : DataW H} {p : List MemPlace} (hw : Value.okWide Tryz.prog w .any base 30 v) (h : DataW.Trod enc Tryz.prog w 0 (fun _ => true) true 30 v d p)
    (hs : ∀ n ∈ d.weights Tryz.prog 30, n ≤ reachBytes) : Calls Tryz.prog 6 #[v] w (fun e w' => e = .returned (.bool true) ∧ Below w.heap.size w w') := by
  obtain ⟨l, rfl, -⟩ := log_open hw h
  exact walk0 l w hr
end vaultNil

theorem etNamed : Tryz.prog.globalNamed "errors.errorType" = some 0 := by kernel_rfl
theorem rtNamed : (Tryz.prog.cutTypes.find? (·.1 == "internal/reflectlite.rtype")).map (·.2) = some 144 := by kernel_rfl
theorem typesSize : Tryz.prog.types.size = 332 - 100 := by kernel_rfl
theorem oneRow : ((List.range (332 - 100)).filter fun t => Tryz.prog.rowNamed t [101, 114, 114, 111, 114]) = [43] := by kernel_rfl

/-- WHAT THE CONDITION GIVES: the variable's one cell. -/
theorem ready_of_laid {W : World} (h : laidMetH Tryz.prog Rows.vaultNilRow.laid W) : Ready W := by
  have h' : laidMet Tryz.prog (Rows.vaultNilRow.laid.filter fun x => x.2.handleName?.isNone) W ∧ handlesMet Tryz.prog [("errors.errorType", Rows.laid_errors_errorType)] W := h
  obtain ⟨name, u, ty, e1, e2, e3, e4, e5⟩ := h'.2 _ (List.mem_singleton.2 rfl)
  have en : name = [101, 114, 114, 111, 114] := (Option.some.inj e1).symm
  subst en
  obtain rfl := Option.some.inj (rtNamed.symm.trans e2)
  have hm : ty ∈ (List.range (332 - 100)).filter fun t => Tryz.prog.rowNamed t [101, 114, 114, 111, 114] := List.mem_filter.2 ⟨List.mem_range.2 (by rw [← typesSize]; exact e3), e4⟩
  rw [oneRow] at hm
  obtain rfl := List.mem_singleton.1 hm
  have hh : typeHandle Tryz.prog 43 = .pointer (some ⟨4, 43, none⟩) := by kernel_rfl
  rw [hh] at e5
  simpa [Ready] using World.var?_cell etNamed e5 0
end Go.Proofs.YtddnleofflobhaaGreatDoor
