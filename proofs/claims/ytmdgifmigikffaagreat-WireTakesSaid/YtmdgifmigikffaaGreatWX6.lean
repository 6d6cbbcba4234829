import Derived.WalkKit
import Derived.OpenShut
import Derived.Test.YtmdgifmigikffaaGreatRows
import Derived.WalkSpells
import Derived.WalkLawsBesides
import Derived.Laws.AppendOwnNone
import Derived.ProofKit
import Derived.ShutString
import Derived.ChangeOld
import Derived.Below
import Derived.SizedLaws
import Derived.Deep.Slices
import Derived.Deep.AppendLies
import Derived.Deep.RegionHeld
import Derived.Deep.Strs
import Derived.Deep.RegionHeld3
import Derived.Lib.ConvBytes
import Derived.Laws.AppendOwn
import Derived.Deep.CutRange
import Derived.Deep.MidRow
import Derived.Great.Walk
import Derived.Great.BuildSlice
import Derived.Test.YtmdgifmigikffaaGreatWX1
import Derived.Test.YtmdgifmigikffaaGreatWX2
import Derived.Test.YtmdgifmigikffaaGreatWX3
import Derived.Test.YtmdgifmigikffaaGreatWX4
import Derived.Test.YtmdgifmigikffaaGreatWX5
set_option linter.unusedVariables false
set_option linter.unusedSimpArgs false
set_option maxRecDepth 100000
namespace Go.Proofs.YtmdgifmigikffaaGreat
open Go.RowKit Go.Deep
theorem results_cell2 {P : Program} {fn : Func} {p u : Tmp} {ty : TypeId} (h : fn.results = #[.cell p ty, .tmp u]) (tmps : Array Value) (w : World) (g : Nat) (t : TypeId) (cs : Array Value) (fr : Nat × Nat) (d : TypeDesc)
 (hp : tmps.getD p undef = .pointer (some ⟨g, 0, none⟩)) (hg : w.heap[g]? = some (.cells cs t fr))
 (hu : P.underlying ty = some d) (hd : (match d with | .struct _ | .array _ _ => true | _ => false) = true) (hi : (P.info? ty).map (·.size) = some cs.size) :
 (results fn tmps).run P w = .ok (.tuple #[.agg cs, tmps.getD u undef]) w := by
 have hp' : tmps[p]?.getD undef = .pointer (some ⟨g, 0, none⟩) := by simpa using hp
 simp [results, h, hp', asAddr, run_loadVar_row w g t ty cs fr d hg hu hd hi]
def AlCatalog (R : Nat) (w : World) (st : Rst) (en : Ending) (w' : World) : Prop := ∃ cs : List Value, en = .returned (.tuple #[.agg cs.toArray, .int .i64 (endS (rdF sCatalog st).2.1 (rdF sCatalog st).2.2)]) ∧ ((endS (rdF sCatalog st).2.1 (rdF sCatalog st).2.2) = 0 → EncN (fun j => w.heap.size ≤ j ∧ j < w'.heap.size) w' sCatalog cs (rdF sCatalog st).1) ∧ ((endS (rdF sCatalog st).2.1 (rdF sCatalog st).2.2) ≠ 0 → cs = [.int .i64 0, .int .i64 0, .slice none 0 0, .slice none 0 0]) ∧ Keep (fun j => j = R) w w'
set_option maxHeartbeats 8000000 in
theorem aloneCatalog_any {w : World} {R : Nat} {st : Rst} (h : RAt w R st.1 st.2) (hl : st.1.length ≤ 140737488355328) :
 Calls Tryz.prog 47 #[.agg #[.pointer (some ⟨R, 0, none⟩)], (.func (.func 48) #[.agg #[.pointer (some ⟨R, 0, none⟩)]] #[])] w (AlCatalog R w st) := by
 have hb : Below w.heap.size w ((w.alloc (.cells #[.pointer (some ⟨R, 0, none⟩)] 79)).alloc (.cells #[.int .i64 0, .int .i64 0, .slice none 0 0, .slice none 0 0] 50)) := ((Below.refl _ _).alloc (Nat.le_refl _) _).alloc (by simp) _
 have hz := (Below.heap_alloc (w.alloc (.cells #[.pointer (some ⟨R, 0, none⟩)] 79)) (.cells #[.int .i64 0, .int .i64 0, .slice none 0 0, .slice none 0 0] 50) w.heap.size (by simp)).trans (heap_alloc_new w (.cells #[.pointer (some ⟨R, 0, none⟩)] 79))
 have hB := heap_alloc2_new w (.cells #[.pointer (some ⟨R, 0, none⟩)] 79) (.cells #[.int .i64 0, .int .i64 0, .slice none 0 0, .slice none 0 0] 50)
 obtain ⟨B, hBe⟩ : ∃ B, B = w.heap.size + 1 := ⟨_, rfl⟩
 have hRw := h.lt
 have hRB : R < B := by omega
 have HR0 := hid (h.old hb)
 rw [← hBe] at hB
 have HB0 := hid hB
 have HX0 := hid hz
 have HBW := hid hb
 have HL0 := hid hl
 clear h hb hz hB hl
 go_enter Tryz.func47, Tryz.ntmps47
 go_upto_region 1 with fail
 generalize (w.alloc (.cells #[.pointer (some ⟨R, 0, none⟩)] 79)).alloc (.cells #[.int .i64 0, .int .i64 0, .slice none 0 0, .slice none 0 0] 50) = w0 at *
 try rw [← hBe]
 have HBE := hid hBe
 clear hBe
 have CQ := hid (rCatalog_any HR0.out HL0.out)
 go_upto_region 2 with (first | (go_at_call 48; refine CQ.out.mono ?_; rintro en w1 ⟨mc, rfl, hv⟩; obtain ⟨u0, u1, u2, u3, b0, b1, b2, b3, rfl, _, e0, e1, e2, e3⟩ := Catalog_cells (EncN.enc _ hv.1); obtain ⟨y0, rfl⟩ := form_int e0; obtain ⟨y1, rfl⟩ := form_int e1; obtain ⟨y2, j2, c2, rfl⟩ := form_list e2; obtain ⟨y3, j3, c3, rfl⟩ := form_list e3; clear e0 e1 e2 e3; have HV := hid hv; clear hv))
 have hb2 : Below w1.heap.size w1 (w1.alloc (.cells #[(.int .i64 y0), (.int .i64 y1), (.slice y2 j2 c2), (.slice y3 j3 c3)] 50)) := (Below.refl _ _).alloc (Nat.le_refl _) _
 have hx2 := heap_alloc_new w1 (.cells #[(.int .i64 y0), (.int .i64 y1), (.slice y2 j2 c2), (.slice y3 j3 c3)] 50)
 have HV2 := hid (EncN.mono (fun j hj => (⟨hj.1, Nat.lt_of_lt_of_le hj.2 hb2.size⟩ : w0.heap.size ≤ j ∧ j < (w1.alloc (.cells #[(.int .i64 y0), (.int .i64 y1), (.slice y2 j2 c2), (.slice y3 j3 c3)] 50)).heap.size)) _ (EncN.keep (Keep.of_below (X := fun _ => False) hb2) (fun _ _ e => e) _ HV.out.1))
 have HR2 := hid (HV.out.2.1.old hb2)
 have HB2 : Hid ((w1.alloc (.cells #[(.int .i64 y0), (.int .i64 y1), (.slice y2 j2 c2), (.slice y3 j3 c3)] 50)).heap[B]? = some (.cells ([.int .i64 0, .int .i64 0, .slice none 0 0, .slice none 0 0] : List Value).toArray 50 (0, 0))) := hid ((hb2.block B (Nat.lt_of_lt_of_le (lt_of_block HB0.out) HV.out.2.2.size)).trans ((HV.out.2.2.block B (lt_of_block HB0.out) (fun e => by have e9 : B = R := e; omega)).trans HB0.out))
 have HX2 := hid ((hb2.block w.heap.size (Nat.lt_of_lt_of_le (lt_of_block HX0.out) HV.out.2.2.size)).trans ((HV.out.2.2.block w.heap.size (lt_of_block HX0.out) (fun e => by have e9 : w.heap.size = R := e; omega)).trans HX0.out))
 have HXX : Hid ((w1.alloc (.cells #[(.int .i64 y0), (.int .i64 y1), (.slice y2 j2 c2), (.slice y3 j3 c3)] 50)).heap[w1.heap.size]? = some (.cells ([(.int .i64 y0), (.int .i64 y1), (.slice y2 j2 c2), (.slice y3 j3 c3)] : List Value).toArray 50 (0, 0))) := hid hx2
 have HK2 : Hid (Keep (fun j => j = R) w0 (w1.alloc (.cells #[(.int .i64 y0), (.int .i64 y1), (.slice y2 j2 c2), (.slice y3 j3 c3)] 50))) := hid (HV.out.2.2.trans (Keep.of_below hb2))
 have HS1 : Hid (B < w1.heap.size) := hid (Nat.lt_of_lt_of_le (lt_of_block HB0.out) HV.out.2.2.size)
 clear hb2 hx2 CQ
 obtain ⟨X, hX⟩ : ∃ X, X = w1.heap.size := ⟨_, rfl⟩
 rw [← hX] at HXX HS1
 generalize w1.alloc (.cells #[(.int .i64 y0), (.int .i64 y1), (.slice y2 j2 c2), (.slice y3 j3 c3)] 50) = w2 at *
 try rw [← hX]
 clear hX
 obtain ⟨ev, hev⟩ : ∃ ev, ev = (endS (rdF sCatalog st).2.1 (rdF sCatalog st).2.2) := ⟨_, rfl⟩
 have CE : Hid (Calls Tryz.prog 71 #[.pointer (some ⟨R, 0, none⟩)] w2 (fun en w' => en = .returned (.int .i64 ev) ∧ w2 = w')) := hid (by rw [hev]; exact endR_any w2 R _ _ HR2.out)
 have HEV := hid hev
 clear hev
 have x0 := (one_cell HX2.out).1
 by_cases h0 : ev = 0
 · subst h0
   obtain ⟨p0, m0⟩ := row_at HXX.out (i := 0) rfl
   obtain ⟨p1, m1⟩ := row_at HXX.out (i := 1) rfl
   obtain ⟨p2, m2⟩ := row_at HXX.out (i := 2) rfl
   obtain ⟨p3, m3⟩ := row_at HXX.out (i := 3) rfl
   obtain ⟨q0, r0⟩ := row_at HB2.out (i := 0) rfl
   obtain ⟨q1, r1⟩ := row_at HB2.out (i := 1) rfl
   obtain ⟨q2, r2⟩ := row_at HB2.out (i := 2) rfl
   obtain ⟨q3, r3⟩ := row_at HB2.out (i := 3) rfl
   have hs0 := HB2.out
   have hs1 := row_put hs0 0 (.int .i64 y0)
   have hs2 := row_put hs1 1 (.int .i64 y1)
   have hs3 := row_put hs2 2 (.slice y2 j2 c2)
   have hs4 := row_put hs3 3 (.slice y3 j3 c3)
   have HSF : Hid (((((w2.setCell ⟨B, 0, none⟩ (.int .i64 y0)).setCell ⟨B, 1, none⟩ (.int .i64 y1)).setCell ⟨B, 2, none⟩ (.slice y2 j2 c2)).setCell ⟨B, 3, none⟩ (.slice y3 j3 c3)).heap[B]? = some (.cells #[(.int .i64 y0), (.int .i64 y1), (.slice y2 j2 c2), (.slice y3 j3 c3)] 50 (0, 0))) := hs4
   have HKS : Hid (Keep (fun j => j = B) w2 ((((w2.setCell ⟨B, 0, none⟩ (.int .i64 y0)).setCell ⟨B, 1, none⟩ (.int .i64 y1)).setCell ⟨B, 2, none⟩ (.slice y2 j2 c2)).setCell ⟨B, 3, none⟩ (.slice y3 j3 c3))) := hid (((((Keep.refl (fun j => j = B) _).trans (Keep.set (X := fun j => j = B) _ ⟨B, 0, none⟩ (.int .i64 y0) rfl)).trans (Keep.set (X := fun j => j = B) _ ⟨B, 1, none⟩ (.int .i64 y1) rfl)).trans (Keep.set (X := fun j => j = B) _ ⟨B, 2, none⟩ (.slice y2 j2 c2) rfl)).trans (Keep.set (X := fun j => j = B) _ ⟨B, 3, none⟩ (.slice y3 j3 c3) rfl))
   clear hs0 hs1 hs2 hs3 hs4
   go_wp2_with (first | (go_at_call 71; refine CE.out.mono ?_; rintro en w3 ⟨rfl, rfl⟩))
   refine bodyPost_ret (results_cell2 rfl _ _ B 50 _ (0, 0) _ rfl HSF.out Tryz.underlying50 rfl (by kernel_rfl)) rfl ?_
   refine ⟨[(.int .i64 y0), (.int .i64 y1), (.slice y2 j2 c2), (.slice y3 j3 c3)], by rw [← HEV.out]; rfl, fun _ => EncN.mono (fun j hj => ⟨Nat.le_trans HBW.out.size hj.1, Nat.lt_of_lt_of_le hj.2 HKS.out.size⟩) _ (EncN.keep HKS.out (fun j hj e => by have e9 : j = B := e; have a9 := lt_of_block HB0.out; have := hj.1; omega) _ HV2.out), fun h9 => absurd HEV.out.symm h9, ?_⟩
   exact ((Keep.of_below HBW.out).trans HK2.out).trans2 HKS.out (fun j e => .inr (by have e9 : j = B := e; have := HBE.out; omega))
 · have hbe : (ev != 0) = true := by simp [h0]
   have hb3 : Below w2.heap.size w2 (w2.alloc (.cells #[.int .i64 0, .int .i64 0, .slice none 0 0, .slice none 0 0] 50)) := (Below.refl _ _).alloc (Nat.le_refl _) _
   have hx3 : (w2.alloc (.cells #[.int .i64 0, .int .i64 0, .slice none 0 0, .slice none 0 0] 50)).heap[w2.heap.size]? = some (.cells ([.int .i64 0, .int .i64 0, .slice none 0 0, .slice none 0 0] : List Value).toArray 50 (0, 0)) := heap_alloc_new w2 (.cells #[.int .i64 0, .int .i64 0, .slice none 0 0, .slice none 0 0] 50)
   have hB3 := (hb3.block B (lt_of_block HB2.out)).trans HB2.out
   have HB3 := hid hb3
   obtain ⟨p0, m0⟩ := row_at hx3 (i := 0) rfl
   obtain ⟨p1, m1⟩ := row_at hx3 (i := 1) rfl
   obtain ⟨p2, m2⟩ := row_at hx3 (i := 2) rfl
   obtain ⟨p3, m3⟩ := row_at hx3 (i := 3) rfl
   obtain ⟨q0, r0⟩ := row_at hB3 (i := 0) rfl
   obtain ⟨q1, r1⟩ := row_at hB3 (i := 1) rfl
   obtain ⟨q2, r2⟩ := row_at hB3 (i := 2) rfl
   obtain ⟨q3, r3⟩ := row_at hB3 (i := 3) rfl
   have hs0 := hB3
   have hs1 := row_put hs0 0 (.int .i64 0)
   have hs2 := row_put hs1 1 (.int .i64 0)
   have hs3 := row_put hs2 2 (.slice none 0 0)
   have hs4 := row_put hs3 3 (.slice none 0 0)
   have HSF : Hid ((((((w2.alloc (.cells #[.int .i64 0, .int .i64 0, .slice none 0 0, .slice none 0 0] 50)).setCell ⟨B, 0, none⟩ (.int .i64 0)).setCell ⟨B, 1, none⟩ (.int .i64 0)).setCell ⟨B, 2, none⟩ (.slice none 0 0)).setCell ⟨B, 3, none⟩ (.slice none 0 0)).heap[B]? = some (.cells #[.int .i64 0, .int .i64 0, .slice none 0 0, .slice none 0 0] 50 (0, 0))) := hs4
   have HKS : Hid (Keep (fun j => j = B) (w2.alloc (.cells #[.int .i64 0, .int .i64 0, .slice none 0 0, .slice none 0 0] 50)) (((((w2.alloc (.cells #[.int .i64 0, .int .i64 0, .slice none 0 0, .slice none 0 0] 50)).setCell ⟨B, 0, none⟩ (.int .i64 0)).setCell ⟨B, 1, none⟩ (.int .i64 0)).setCell ⟨B, 2, none⟩ (.slice none 0 0)).setCell ⟨B, 3, none⟩ (.slice none 0 0))) := hid (((((Keep.refl (fun j => j = B) _).trans (Keep.set (X := fun j => j = B) _ ⟨B, 0, none⟩ (.int .i64 0) rfl)).trans (Keep.set (X := fun j => j = B) _ ⟨B, 1, none⟩ (.int .i64 0) rfl)).trans (Keep.set (X := fun j => j = B) _ ⟨B, 2, none⟩ (.slice none 0 0) rfl)).trans (Keep.set (X := fun j => j = B) _ ⟨B, 3, none⟩ (.slice none 0 0) rfl))
   clear hb3 hx3 hB3 hs0 hs1 hs2 hs3 hs4
   go_wp2_with (first | (go_at_call 71; refine CE.out.mono ?_; rintro en w3 ⟨rfl, rfl⟩))
   refine bodyPost_ret (results_cell2 rfl _ _ B 50 _ (0, 0) _ rfl HSF.out Tryz.underlying50 rfl (by kernel_rfl)) rfl ?_
   refine ⟨[.int .i64 0, .int .i64 0, .slice none 0 0, .slice none 0 0], by rw [← HEV.out]; rfl, fun h9 => absurd (HEV.out.trans h9) h0, fun _ => rfl, ?_⟩
   exact (((Keep.of_below HBW.out).trans HK2.out).trans (Keep.of_below HB3.out)).trans2 HKS.out (fun j e => .inr (by have e9 : j = B := e; have := HBE.out; omega))
theorem AlCatalog_forms {E : Int} {N : Nat → Prop} {w : World} {cs : List Value} {bs : List UInt8} (h1 : E = 0 → EncN N w sCatalog cs bs) (h2 : E ≠ 0 → cs = [.int .i64 0, .int .i64 0, .slice none 0 0, .slice none 0 0]) : ∃ (y0 : Int) (y1 : Int) (y2 : Option Addr) (j2 : Nat) (c2 : Nat) (y3 : Option Addr) (j3 : Nat) (c3 : Nat), cs = [.int .i64 y0, .int .i64 y1, .slice y2 j2 c2, .slice y3 j3 c3] := by
 by_cases h : E = 0
 · obtain ⟨u0, u1, u2, u3, b0, b1, b2, b3, rfl, _, e0, e1, e2, e3⟩ := Catalog_cells (EncN.enc _ (h1 h))
   obtain ⟨y0, rfl⟩ := form_int e0
   obtain ⟨y1, rfl⟩ := form_int e1
   obtain ⟨y2, j2, c2, rfl⟩ := form_list e2
   obtain ⟨y3, j3, c3, rfl⟩ := form_list e3
   exact ⟨y0, y1, y2, j2, c2, y3, j3, c3, rfl⟩
 · exact ⟨_, _, _, _, _, _, _, _, h2 h⟩
def TkCatalog (w : World) (l : List UInt8) (en : Ending) (w' : World) : Prop := ∃ cs : List Value, en = .returned (.tuple #[.agg cs.toArray, .int .i64 (endS (rdF sCatalog (l, 0)).2.1 (rdF sCatalog (l, 0)).2.2)]) ∧ ((endS (rdF sCatalog (l, 0)).2.1 (rdF sCatalog (l, 0)).2.2) = 0 → EncN (fun j => w.heap.size ≤ j ∧ j < w'.heap.size) w' sCatalog cs (rdF sCatalog (l, 0)).1) ∧ ((endS (rdF sCatalog (l, 0)).2.1 (rdF sCatalog (l, 0)).2.2) ≠ 0 → cs = [.int .i64 0, .int .i64 0, .slice none 0 0, .slice none 0 0]) ∧ Below w.heap.size w w'
set_option maxHeartbeats 8000000 in
theorem takeCatalog_any (x : Value) (l : List UInt8) (w : World) (hx : Rd w x l) (hl : l.length ≤ 140737488355328) : Calls Tryz.prog 12 #[x] w (TkCatalog w l) := by
 have hb : Below w.heap.size w (w.alloc (.cells #[.int .i64 0, .int .i64 0, .slice none 0 0, .slice none 0 0] 50)) := (Below.refl _ _).alloc (Nat.le_refl _) _
 have hB : (w.alloc (.cells #[.int .i64 0, .int .i64 0, .slice none 0 0, .slice none 0 0] 50)).heap[w.heap.size]? = some (.cells ([.int .i64 0, .int .i64 0, .slice none 0 0, .slice none 0 0] : List Value).toArray 50 (0, 0)) := heap_alloc_new w (.cells #[.int .i64 0, .int .i64 0, .slice none 0 0, .slice none 0 0] 50)
 have CN := hid (new_any (w.alloc (.cells #[.int .i64 0, .int .i64 0, .slice none 0 0, .slice none 0 0] 50)) x l (hx.old hb) hl)
 have HB := hid hB
 have HBW := hid hb
 have HL := hid hl
 clear hb hB hx hl
 go_enter Tryz.func12, Tryz.ntmps12
 go_upto_region 1 with fail
 generalize w.alloc (.cells #[.int .i64 0, .int .i64 0, .slice none 0 0, .slice none 0 0] 50) = w1 at *
 go_upto_region 2 with (first | (go_at_call 24; refine CN.out.mono ?_; rintro en w2 ⟨R, rfl, hR1, hr, hb2⟩; have HR := hid hr; have HRB := hid (Nat.lt_of_lt_of_le (lt_of_block HB.out) hR1); have HB2 := hid ((hb2.block _ (lt_of_block HB.out)).trans HB.out); have HW2 := hid hb2; clear hr hR1 hb2))
 have hb3 : Below w2.heap.size w2 (w2.alloc (.cells #[.pointer (some ⟨R, 0, none⟩)] 79)) := (Below.refl _ _).alloc (Nat.le_refl _) _
 have HX3 := hid (heap_alloc_new w2 (.cells #[.pointer (some ⟨R, 0, none⟩)] 79))
 have HR3 := hid (HR.out.old hb3)
 have HB3 := hid ((hb3.block _ (lt_of_block HB2.out)).trans HB2.out)
 have HW3 := hid (HW2.out.trans (hb3.mono HW2.out.size))
 clear hb3
 obtain ⟨X, hX⟩ : ∃ X, X = w2.heap.size := ⟨_, rfl⟩
 rw [← hX] at HX3
 generalize w2.alloc (.cells #[.pointer (some ⟨R, 0, none⟩)] 79) = w3 at *
 try rw [← hX]
 clear hX
 have CA := hid (aloneCatalog_any (st := (l, 0)) HR3.out HL.out)
 have z0 := (one_cell HX3.out).1
 go_wp2_with (first | (go_at_call 47; refine CA.out.mono ?_; rintro en w4 ⟨cs, rfl, h1, h2, hk⟩; obtain ⟨y0, y1, y2, j2, c2, y3, j3, c3, rfl⟩ := AlCatalog_forms h1 h2; have H1 := hid h1; have H2 := hid h2; have HK := hid hk; have hB4 := (hk.block _ (lt_of_block HB3.out) (fun e => by have e9 : w.heap.size = R := e; have := HRB.out; omega)).trans HB3.out; obtain ⟨q0, r0⟩ := row_at hB4 (i := 0) rfl; obtain ⟨q1, r1⟩ := row_at hB4 (i := 1) rfl; obtain ⟨q2, r2⟩ := row_at hB4 (i := 2) rfl; obtain ⟨q3, r3⟩ := row_at hB4 (i := 3) rfl; have HB4 := hid hB4; clear h1 h2 hk hB4))
 have hs0 := HB4.out
 have hs1 := row_put hs0 0 (.int .i64 y0)
 have hs2 := row_put hs1 1 (.int .i64 y1)
 have hs3 := row_put hs2 2 (.slice y2 j2 c2)
 have hs4 := row_put hs3 3 (.slice y3 j3 c3)
 have HSF : Hid (((((w4.setCell ⟨w.heap.size, 0, none⟩ (.int .i64 y0)).setCell ⟨w.heap.size, 1, none⟩ (.int .i64 y1)).setCell ⟨w.heap.size, 2, none⟩ (.slice y2 j2 c2)).setCell ⟨w.heap.size, 3, none⟩ (.slice y3 j3 c3)).heap[w.heap.size]? = some (.cells #[.int .i64 y0, .int .i64 y1, .slice y2 j2 c2, .slice y3 j3 c3] 50 (0, 0))) := hs4
 have HKS : Hid (Keep (fun j => j = w.heap.size) w4 ((((w4.setCell ⟨w.heap.size, 0, none⟩ (.int .i64 y0)).setCell ⟨w.heap.size, 1, none⟩ (.int .i64 y1)).setCell ⟨w.heap.size, 2, none⟩ (.slice y2 j2 c2)).setCell ⟨w.heap.size, 3, none⟩ (.slice y3 j3 c3))) := hid (((((Keep.refl (fun j => j = w.heap.size) _).trans (Keep.set (X := fun j => j = w.heap.size) _ ⟨w.heap.size, 0, none⟩ (.int .i64 y0) rfl)).trans (Keep.set (X := fun j => j = w.heap.size) _ ⟨w.heap.size, 1, none⟩ (.int .i64 y1) rfl)).trans (Keep.set (X := fun j => j = w.heap.size) _ ⟨w.heap.size, 2, none⟩ (.slice y2 j2 c2) rfl)).trans (Keep.set (X := fun j => j = w.heap.size) _ ⟨w.heap.size, 3, none⟩ (.slice y3 j3 c3) rfl))
 clear hs0 hs1 hs2 hs3 hs4
 refine bodyPost_ret (results_cell2 rfl _ _ w.heap.size 50 _ (0, 0) _ rfl HSF.out Tryz.underlying50 rfl (by kernel_rfl)) rfl ?_
 have a1 := HBW.out.size
 have a2 := lt_of_block HB.out
 have a3 := HW3.out.size
 refine ⟨_, rfl, fun h0 => EncN.mono (fun j hj => ⟨by have := hj.1; omega, Nat.lt_of_lt_of_le hj.2 HKS.out.size⟩) _ (EncN.keep HKS.out (fun j hj e => by have e9 : j = w.heap.size := e; have := hj.1; omega) _ (H1.out h0)), H2.out, ?_⟩
 exact (((Keep.of_below (X := fun _ => False) HBW.out).trans (Keep.of_below (X := fun _ => False) (HW3.out.mono (Nat.le_refl _)))).trans2 HK.out (fun j e => .inr (by have e9 : j = R := e; have := HRB.out; omega))).trans2 HKS.out (fun j e => .inr (by have e9 : j = w.heap.size := e; omega)) |>.below (Nat.le_refl _) (fun k e => e.elim)
end Go.Proofs.YtmdgifmigikffaaGreat
namespace Go.Proofs.YtmdgifmigikffaaGreat
open Go.RowKit Go.Deep
theorem setRow_keep (w : World) (B : Nat) (cs : Array Value) : Keep (fun k => k = B) w (w.setRow B cs) := by
 refine ⟨rfl, rfl, rfl, ?_, ?_⟩
 · show w.heap.size ≤ (w.heap.modify B _).size
   simp
 · intro k hk hx
   show (w.heap.modify B _)[k]? = _
   rw [Array.getElem?_modify, if_neg (fun e => hx e.symm)]
end Go.Proofs.YtmdgifmigikffaaGreat
namespace Go.Proofs.YtmdgifmigikffaaGreat
open Go.RowKit Go.Deep
theorem numb_inj {a b : Nat} {r1 r2 : List UInt8} (ha : a < 2 ^ 64) (hb : b < 2 ^ 64) (h : numL a ++ r1 = numL b ++ r2) : a = b ∧ r1 = r2 := by
 have e1 := rdN_back ha r1
 have e2 := rdN_back hb r2
 rw [h, e2] at e1
 simp only [Prod.mk.injEq] at e1
 obtain ⟨rfl, -⟩ := e1
 exact ⟨rfl, List.append_cancel_left h⟩
theorem text_inj {a b r1 r2 : List UInt8} (ha : a.length < 2 ^ 64) (hb : b.length < 2 ^ 64) (h : textL a ++ r1 = textL b ++ r2) : a = b ∧ r1 = r2 := by
 unfold textL at h
 rw [List.append_assoc, List.append_assoc] at h
 obtain ⟨h1, h2⟩ := numb_inj ha hb h
 exact List.append_inj h2 h1
theorem tw_inj {W W' : World} : ∀ (s : Sh) {c1 c2 : List Value} {b1 b2 r1 r2 : List UInt8}, Enc W s c1 b1 → Enc W' s c2 b2 → b1 ++ r1 = b2 ++ r2 → b1 = b2 ∧ r1 = r2
 | .num, c1, c2, b1, b2, r1, r2, h1, h2, h => by
  obtain ⟨n, hn, _, rfl⟩ := h1
  obtain ⟨m, hm, _, rfl⟩ := h2
  obtain ⟨rfl, p⟩ := numb_inj (by omega) (by omega) h
  exact ⟨rfl, p⟩
 | .int, c1, c2, b1, b2, r1, r2, h1, h2, h => by
  obtain ⟨n, hn, _, rfl⟩ := h1
  obtain ⟨m, hm, _, rfl⟩ := h2
  obtain ⟨e, p⟩ := numb_inj (by have := zig_lt hn; omega) (by have := zig_lt hm; omega) h
  exact ⟨by rw [e], p⟩
 | .bool, c1, c2, b1, b2, r1, r2, h1, h2, h => by
  obtain ⟨n, _, rfl⟩ := h1
  obtain ⟨m, _, rfl⟩ := h2
  obtain ⟨e, p⟩ := numb_inj (by split <;> decide) (by split <;> decide) h
  exact ⟨by rw [e], p⟩
 | .data, c1, c2, b1, b2, r1, r2, h1, h2, h => by
  obtain ⟨_, n, _, _, _, hn, rfl⟩ := h1
  obtain ⟨_, m, _, _, _, hm, rfl⟩ := h2
  obtain ⟨rfl, p⟩ := text_inj (by omega) (by omega) h
  exact ⟨rfl, p⟩
 | .name, c1, c2, b1, b2, r1, r2, h1, h2, h => by
  obtain ⟨n, _, hn, rfl⟩ := h1
  obtain ⟨m, _, hm, rfl⟩ := h2
  obtain ⟨rfl, p⟩ := text_inj (by omega) (by omega) h
  exact ⟨rfl, p⟩
 | .list s, c1, c2, b1, b2, r1, r2, h1, h2, h => by
  obtain ⟨_, _, M1, _, _, g1, l1, rfl⟩ := h1
  obtain ⟨_, _, M2, _, _, g2, l2, rfl⟩ := h2
  rw [List.append_assoc, List.append_assoc] at h
  obtain ⟨hn, h⟩ := numb_inj (by omega) (by omega) h
  rw [hn]
  suffices key : ∀ (L1 L2 : List (List Value × List UInt8)), (∀ m ∈ L1, Enc W s m.1 m.2) → (∀ m ∈ L2, Enc W' s m.1 m.2) → L1.length = L2.length → (L1.map (·.2)).flatten ++ r1 = (L2.map (·.2)).flatten ++ r2 → (L1.map (·.2)).flatten = (L2.map (·.2)).flatten ∧ r1 = r2 by
   obtain ⟨p, q⟩ := key M1 M2 g1 g2 hn h
   exact ⟨by rw [p], q⟩
  clear h hn l1 l2 g1 g2
  intro L1
  induction L1 with
  | nil => intro L2 _ _ h e; cases L2 with | nil => exact ⟨rfl, e⟩ | cons x r => cases h
  | cons m L1 ih =>
   intro L2 g1 g2 h hf
   cases L2 with
   | nil => cases h
   | cons x L2 =>
    simp only [List.map_cons, List.flatten_cons, List.append_assoc] at hf ⊢
    obtain ⟨p1, p2⟩ := tw_inj s (g1 m (by simp)) (g2 x (by simp)) hf
    obtain ⟨q1, q2⟩ := ih L2 (fun y hy => g1 y (by simp [hy])) (fun y hy => g2 y (by simp [hy])) (by simpa using h) p2
    exact ⟨by rw [p1, q1], q2⟩
 | .nil, c1, c2, b1, b2, r1, r2, h1, h2, h => by
  obtain ⟨_, rfl⟩ := h1
  obtain ⟨_, rfl⟩ := h2
  exact ⟨rfl, h⟩
 | .cons s r, c1, c2, b1, b2, r1, r2, h1, h2, h => by
  obtain ⟨_, _, p1, p2, _, rfl, f1, f2⟩ := h1
  obtain ⟨_, _, q1, q2, _, rfl, g1, g2⟩ := h2
  rw [List.append_assoc, List.append_assoc] at h
  obtain ⟨e1, h3⟩ := tw_inj s f1 g1 h
  obtain ⟨e2, h4⟩ := tw_inj r f2 g2 h3
  exact ⟨by rw [e1, e2], h4⟩
def Twin (W : World) (s : Sh) (c1 c2 : List Value) : Prop := ∃ b, Enc W s c1 b ∧ Enc W s c2 b
theorem Twin.old {W W' : World} {s : Sh} {c1 c2 : List Value} (h : Twin W s c1 c2) (hb : Below W.heap.size W W') : Twin W' s c1 c2 := by
 obtain ⟨b, h1, h2⟩ := h
 exact ⟨b, h1.old hb, h2.old hb⟩
theorem Twin.nil {W : World} {c1 c2 : List Value} (h : Twin W .nil c1 c2) : c1 = [] ∧ c2 = [] := by
 obtain ⟨b, h1, h2⟩ := h
 exact ⟨h1.1, h2.1⟩
theorem Twin.cons {W : World} {s r : Sh} {c1 c2 : List Value} (h : Twin W (.cons s r) c1 c2) : ∃ x1 y1 x2 y2, c1 = x1 ++ y1 ∧ c2 = x2 ++ y2 ∧ Twin W s x1 x2 ∧ Twin W r y1 y2 := by
 obtain ⟨b, ⟨x1, y1, p1, p2, rfl, rfl, f1, f2⟩, ⟨x2, y2, q1, q2, rfl, hb, g1, g2⟩⟩ := h
 obtain ⟨rfl, h⟩ := tw_inj s f1 g1 hb
 obtain ⟨rfl, -⟩ := tw_inj r (r1 := []) (r2 := []) f2 g2 (by simpa using h)
 exact ⟨x1, y1, x2, y2, rfl, rfl, ⟨_, f1, g1⟩, ⟨_, f2, g2⟩⟩
theorem Twin.one {W : World} {s : Sh} {c1 c2 : List Value} (h : Twin W s c1 c2) (hs : s.wid = 1) : ∃ v u, c1 = [v] ∧ c2 = [u] ∧ Twin W s [v] [u] := by
 obtain ⟨b, h1, h2⟩ := h
 obtain ⟨v, rfl⟩ := one_of h1 hs
 obtain ⟨u, rfl⟩ := one_of h2 hs
 exact ⟨v, u, rfl, rfl, b, h1, h2⟩
theorem Twin.row {W : World} {s : Sh} {c1 c2 : List Value} (h : Twin W s c1 c2) : c1.length = s.wid ∧ c2.length = s.wid := by
 obtain ⟨b, h1, h2⟩ := h
 exact ⟨h1.wide.1, h2.wide.1⟩
theorem tw_num {W : World} {v v' : Value} (h : Twin W .num [v] [v']) : ∃ z : Nat, v = .int .u64 (z : Int) ∧ v' = .int .u64 (z : Int) := by
 obtain ⟨b, ⟨z, hz, hv, rfl⟩, ⟨y, hy, hv', e⟩⟩ := h
 cases hv; cases hv'
 have q := (numb_inj (a := z) (b := y) (r1 := []) (r2 := []) (by omega) (by omega) (by simp [e])).1
 exact ⟨z, rfl, by rw [q]⟩
theorem tw_int {W : World} {v v' : Value} (h : Twin W .int [v] [v']) : ∃ z : Int, v = .int .i64 z ∧ v' = .int .i64 z := by
 obtain ⟨b, ⟨z, hz, hv, rfl⟩, ⟨y, hy, hv', e⟩⟩ := h
 cases hv; cases hv'
 have := (numb_inj (r1 := []) (r2 := []) (by have := zig_lt hz; omega) (by have := zig_lt hy; omega) (by simpa using e)).1
 have q := congrArg unzig this
 rw [unzig_zig hz, unzig_zig hy] at q
 exact ⟨z, rfl, by rw [q]⟩
theorem tw_bool {W : World} {v v' : Value} (h : Twin W .bool [v] [v']) : ∃ q : Bool, v = .bool q ∧ v' = .bool q := by
 obtain ⟨b, ⟨q, hv, rfl⟩, ⟨p, hv', e⟩⟩ := h
 cases hv; cases hv'
 have := (numb_inj (a := if q then 1 else 0) (b := if p then 1 else 0) (r1 := []) (r2 := []) (by split <;> decide) (by split <;> decide) (by simpa using e)).1
 refine ⟨q, rfl, ?_⟩
 cases q <;> cases p <;> simp_all
theorem tw_name {W : World} {v v' : Value} (h : Twin W .name [v] [v']) : ∃ s : ByteArray, v = .string s ∧ v' = .string s := by
 obtain ⟨b, ⟨l, hv, hl, rfl⟩, ⟨m, hv', hm, e⟩⟩ := h
 cases hv; cases hv'
 have := (text_inj (a := l) (b := m) (r1 := []) (r2 := []) (by omega) (by omega) (by simpa using e)).1
 exact ⟨_, rfl, by rw [this]⟩
theorem tw_data {W : World} {v v' : Value} (h : Twin W .data [v] [v']) : ∃ l : List UInt8, Rd W v l ∧ Rd W v' l := by
 obtain ⟨b, ⟨x, l, hv, _, hr, hl, rfl⟩, ⟨y, m, hv', _, hr', hm, e⟩⟩ := h
 cases hv; cases hv'
 have := (text_inj (a := l) (b := m) (r1 := []) (r2 := []) (by omega) (by omega) (by simpa using e)).1
 subst this
 exact ⟨l, hr, hr'⟩
theorem tw_Bytes {w : World} {v u : Value} (h : Twin w .data [v] [u]) : Calls Tryz.prog 52 #[v, u] w (fun e w' => e = .returned (.bool true) ∧ Below w.heap.size w w') := by
 obtain ⟨l, h1, h2⟩ := tw_data h
 refine (bytes_any v u l l w h1 h2).mono ?_
 rintro e w' ⟨rfl, rfl⟩
 exact ⟨by simp, Below.refl _ _⟩
theorem tw_list {W : World} {s : Sh} {v u : Value} (h : Twin W (.list s) [v] [u]) : ∃ (a1 a2 : Option Addr) (n c1 c2 : Nat) (M1 M2 : List (List Value × List UInt8)), v = .slice a1 n c1 ∧ u = .slice a2 n c2 ∧ Lst W s a1 n c1 M1 ∧ Lst W s a2 n c2 M2 ∧ M1.map (·.2) = M2.map (·.2) := by
 obtain ⟨b, h1, h2⟩ := h
 obtain ⟨a1, n, c1, M1, rfl, hL1, rfl⟩ := list_open h1
 obtain ⟨a2, n2, c2, M2, rfl, hL2, hb⟩ := list_open h2
 have k1 := hL1.2.2.2
 have k2 := hL2.2.2.2
 obtain ⟨rfl, ht⟩ := numb_inj (by omega) (by omega) hb
 refine ⟨a1, a2, n, c1, c2, M1, M2, rfl, rfl, hL1, hL2, ?_⟩
 obtain ⟨-, e1, l1, -⟩ := hL1
 obtain ⟨-, e2, l2, -⟩ := hL2
 unfold takeB at ht
 have hlen : M1.length = M2.length := by omega
 rw [← l1, List.take_length, hlen, List.take_length] at ht
 clear hb l1 l2 k1 k2 h1 h2
 have key : ∀ (L1 L2 : List (List Value × List UInt8)), (∀ m ∈ L1, Enc W s m.1 m.2) → (∀ m ∈ L2, Enc W s m.1 m.2) → L1.length = L2.length → (L1.map (·.2)).flatten = (L2.map (·.2)).flatten → L1.map (·.2) = L2.map (·.2) := fun L1 => by
  induction L1 with
  | nil => intro L2 _ _ h _; cases L2 with | nil => rfl | cons x r => cases h
  | cons m L1 ih =>
   intro L2 g1 g2 h hf
   cases L2 with
   | nil => cases h
   | cons x L2 =>
    simp only [List.map_cons, List.flatten_cons] at hf ⊢
    obtain ⟨p1, p2⟩ := tw_inj s (g1 m (by simp)) (g2 x (by simp)) hf
    rw [p1, ih L2 (fun y hy => g1 y (by simp [hy])) (fun y hy => g2 y (by simp [hy])) (by simpa using h) p2]
 exact key M1 M2 e1 e2 hlen ht
theorem tw_get {W : World} {s : Sh} {a1 a2 : Option Addr} {n c1 c2 k : Nat} {M1 M2 : List (List Value × List UInt8)} (h1 : Lst W s a1 n c1 M1) (h2 : Lst W s a2 n c2 M2) (hm : M1.map (·.2) = M2.map (·.2)) (hs : 0 < s.wid) (hk : k < n) :
 ∃ (x y : List Value) (bk1 o1 bk2 o2 : Nat), Twin W s x y ∧ a1 = some ⟨bk1, o1, none⟩ ∧ a2 = some ⟨bk2, o2, none⟩ ∧ (∀ V, Below W.heap.size W V → ∀ (j : Nat) u, x[j]? = some u → V.cell? ⟨bk1, o1 + k * s.wid + j, none⟩ = some u) ∧ (∀ V, Below W.heap.size W V → ∀ (j : Nat) u, y[j]? = some u → V.cell? ⟨bk2, o2 + k * s.wid + j, none⟩ = some u) := by
 obtain ⟨p1, e1, l1, k1⟩ := h1
 obtain ⟨p2, e2, l2, k2⟩ := h2
 have g1 : M1[k]? = some (M1[k]'(by omega)) := List.getElem?_eq_getElem (by omega)
 have g2 : M2[k]? = some (M2[k]'(by omega)) := List.getElem?_eq_getElem (by omega)
 obtain ⟨bk1, o1, q1, r1⟩ := p1.get hs (k := k) (r := (M1[k]'(by omega)).1) (by rw [List.getElem?_map, g1]; rfl)
 obtain ⟨bk2, o2, q2, r2⟩ := p2.get hs (k := k) (r := (M2[k]'(by omega)).1) (by rw [List.getElem?_map, g2]; rfl)
 have hb : (M1[k]'(by omega)).2 = (M2[k]'(by omega)).2 := by
  have := congrArg (fun l => l[k]?) hm
  simp only [List.getElem?_map, g1, g2, Option.map_some, Option.some.injEq] at this
  exact this
 have hx := e1 _ (List.mem_of_getElem? g1)
 have hy := e2 _ (List.mem_of_getElem? g2)
 refine ⟨_, _, bk1, o1, bk2, o2, ⟨_, hx, by rw [hb]; exact hy⟩, q1, q2, fun V hV j u hu => ?_, fun V hV j u hu => ?_⟩
 · exact (hV.cell (p := ⟨bk1, o1 + k * s.wid + j, none⟩) (World.block_lt_of_cell? _ _ (r1 j u hu))).trans (r1 j u hu)
 · exact (hV.cell (p := ⟨bk2, o2 + k * s.wid + j, none⟩) (World.block_lt_of_cell? _ _ (r2 j u hu))).trans (r2 j u hu)
end Go.Proofs.YtmdgifmigikffaaGreat
namespace Go.Proofs.YtmdgifmigikffaaGreat
open Go.RowKit Go.Deep
theorem rnum9_any {w : World} {R : Nat} {st : Rst} (h : RAt w R st.1 st.2) : Calls Tryz.prog 73 #[.pointer (some ⟨R, 0, none⟩)] w (fun en w' => ∃ v, en = .returned v ∧ RdP .num R w st [v] w') := by
 refine (numR_any w R st.1 st.2 h).mono ?_
 rintro en w2 ⟨rfl, h2, g2⟩
 exact ⟨_, rfl, ⟨_, lookS_lt _ _ _, rfl, rfl⟩, h2, Keep.of_grown g2 (fun k e => by cases e; rfl)⟩
theorem rint9_any {w : World} {R : Nat} {st : Rst} (h : RAt w R st.1 st.2) : Calls Tryz.prog 139 #[.pointer (some ⟨R, 0, none⟩)] w (fun en w' => ∃ v, en = .returned v ∧ RdP .int R w st [v] w') := by
 refine (intR_any w R st.1 st.2 h).mono ?_
 rintro en w2 ⟨rfl, h2, g2⟩
 exact ⟨_, rfl, ⟨_, unzig_wf (lookS_lt _ _ _), rfl, rfl⟩, h2, Keep.of_grown g2 (fun k e => by cases e; rfl)⟩
set_option maxHeartbeats 1000000 in
theorem rerrno_any {w : World} {R : Nat} {st : Rst} (h : RAt w R st.1 st.2) : Calls Tryz.prog 106 #[.agg #[.pointer (some ⟨R, 0, none⟩)]] w (fun en w' => ∃ v, en = .returned v ∧ RdP .int R w st [v] w') := by
 have hb : Below w.heap.size w (w.alloc (.cells #[.pointer (some ⟨R, 0, none⟩)] 79)) := (Below.refl _ _).alloc (Nat.le_refl _) _
 have hz := (one_cell (heap_alloc_new w (.cells #[.pointer (some ⟨R, 0, none⟩)] 79))).1
 have H := hid (h.old hb)
 have HB := hid hb
 clear h hb
 go_enter Tryz.func106, Tryz.ntmps106
 go_upto_region 1 with fail
 generalize w.alloc (.cells #[.pointer (some ⟨R, 0, none⟩)] 79) = w1 at *
 go_wp2_with (first | (go_at_call 139; refine (intR_any w1 R st.1 st.2 H.out).mono ?_; rintro en w2 ⟨rfl, h2, g2⟩; have H2 := hid h2; have G2 := hid g2; clear h2 g2))
 go_ret
 exact ⟨_, rfl, ⟨_, unzig_wf (lookS_lt _ _ _), rfl, rfl⟩, H2.out, (Keep.of_below HB.out).trans (Keep.of_grown G2.out (fun k e => by cases e; rfl))⟩
set_option maxHeartbeats 1000000 in
theorem rdata_any {w : World} {R : Nat} {st : Rst} (h : RAt w R st.1 st.2) (hl : st.1.length ≤ 140737488355328) : Calls Tryz.prog 75 #[.agg #[.pointer (some ⟨R, 0, none⟩)]] w (fun en w' => ∃ v, en = .returned v ∧ RdP .data R w st [v] w') := by
 have hb : Below w.heap.size w (w.alloc (.cells #[.pointer (some ⟨R, 0, none⟩)] 79)) := (Below.refl _ _).alloc (Nat.le_refl _) _
 have hz := (one_cell (heap_alloc_new w (.cells #[.pointer (some ⟨R, 0, none⟩)] 79))).1
 have H := hid (h.old hb)
 have HB := hid hb
 clear h hb
 go_enter Tryz.func75, Tryz.ntmps75
 go_upto_region 1 with fail
 have hs1 : w.heap.size ≤ (w.alloc (.cells #[.pointer (some ⟨R, 0, none⟩)] 79)).heap.size := HB.out.size
 have HS1 := hid hs1
 clear hs1
 generalize w.alloc (.cells #[.pointer (some ⟨R, 0, none⟩)] 79) = w1 at *
 obtain ⟨tx, htx⟩ : ∃ tx, tx = textS 65536 st.1 st.2 := ⟨_, rfl⟩
 have C : Calls Tryz.prog 136 #[.pointer (some ⟨R, 0, none⟩), .int .i64 65536] w1 (TextIs w1 R tx st.1) := by rw [htx]; exact textR_any w1 R st.1 st.2 65536 (by decide) H.out hl
 have HTL : Hid (tx.1.length ≤ 1048576) := hid (by rw [htx]; exact Nat.le_trans (textS_len _ _ _) (by decide))
 have HTX := hid htx
 have CH := hid C
 clear C htx
 go_upto_region 2 with (first | (go_at_call 136; refine CH.out.mono ?_; rintro en w2 ⟨ao, c, rfl, ho, h2, g2⟩; have HO := hid ho; have H2 := hid h2; have G2 := hid g2; clear ho h2 g2))
 by_cases h0 : tx.1.length = 0
 · have HL0 := hid h0
   have hn0 : (tx.1.length : Int) = 0 := by omega
   go_wp2_with fail
   go_ret
   refine ⟨_, rfl, ⟨_, [], rfl, rfl, Rd.nil _, by decide, ?_, fun k e => by cases e⟩, ?_, (Keep.of_below HB.out).trans (Keep.of_grown G2.out (fun k e => by cases e; rfl))⟩
   · simp only [rdF]; rw [← HTX.out, List.eq_nil_of_length_eq_zero HL0.out]
   · simp only [rdF]; rw [← HTX.out]; exact H2.out
 · have hn0 : ¬ (tx.1.length : Int) = 0 := by omega
   go_wp2_with fail
   go_ret
   refine ⟨_, rfl, ⟨_, tx.1, rfl, rfl, Rd.own HO.out, HTL.out, ?_, fun k e => ?_⟩, ?_, (Keep.of_below HB.out).trans (Keep.of_grown G2.out (fun k e => by cases e; rfl))⟩
   · simp only [rdF]; rw [← HTX.out]
   · have := HO.out.lt k (by rw [ownBlock_blk]; exact e); exact ⟨⟨Nat.le_trans HS1.out this.1, this.2⟩, Thaw.own HO.out e⟩
   · simp only [rdF]; rw [← HTX.out]; exact H2.out
set_option maxHeartbeats 2000000 in
theorem rtake_data {w : World} {R B : Nat} {st : Rst} {cs : List Value} {t : TypeId} (i : Nat) {u : Value} (h : RAt w R st.1 st.2) (hl : st.1.length ≤ 140737488355328) (hB : w.heap[B]? = some (.cells cs.toArray t (0, 0))) (hi : cs[i]? = some u) (hRB : R < B) :
 Calls Tryz.prog 74 #[.pointer (some ⟨B, i, none⟩), (.func (.func 75) #[.agg #[.pointer (some ⟨R, 0, none⟩)]] #[])] w (fun en w' => en = .returned (.tuple #[]) ∧ ∃ v, TkP .data R B w st cs t i v w') := by
 have C := hid (rdata_any h hl)
 have HB := hid hB
 have HI := hid hi
 clear hB hi h
 go_enter Tryz.func74, Tryz.ntmps74
 go_wp2_with (first | (go_at_call 75; refine C.out.mono ?_; rintro en w2 ⟨v, rfl, hv⟩; obtain ⟨y0, y1, y2, rfl⟩ := form_data (EncN.enc _ hv.1); have HV := hid hv; obtain ⟨z0, z1⟩ := row_at ((hv.2.2.block B (lt_of_block HB.out) (fun e => by have e9 : B = R := e; omega)).trans HB.out) HI.out; clear hv))
 go_end0
 exact ⟨rfl, _, HV.out.store HB.out hRB i⟩
set_option maxHeartbeats 2000000 in
theorem rtake_errno {w : World} {R B : Nat} {st : Rst} {cs : List Value} {t : TypeId} (i : Nat) {u : Value} (h : RAt w R st.1 st.2) (hl : st.1.length ≤ 140737488355328) (hB : w.heap[B]? = some (.cells cs.toArray t (0, 0))) (hi : cs[i]? = some u) (hRB : R < B) :
 Calls Tryz.prog 105 #[.pointer (some ⟨B, i, none⟩), (.func (.func 106) #[.agg #[.pointer (some ⟨R, 0, none⟩)]] #[])] w (fun en w' => en = .returned (.tuple #[]) ∧ ∃ v, TkP .int R B w st cs t i v w') := by
 have C := hid (rerrno_any h)
 have HB := hid hB
 have HI := hid hi
 clear hB hi h
 go_enter Tryz.func105, Tryz.ntmps105
 go_wp2_with (first | (go_at_call 106; refine C.out.mono ?_; rintro en w2 ⟨v, rfl, hv⟩; obtain ⟨y0, rfl⟩ := form_int (EncN.enc _ hv.1); have HV := hid hv; obtain ⟨z0, z1⟩ := row_at ((hv.2.2.block B (lt_of_block HB.out) (fun e => by have e9 : B = R := e; omega)).trans HB.out) HI.out; clear hv))
 go_end0
 exact ⟨rfl, _, HV.out.store HB.out hRB i⟩
set_option maxHeartbeats 2000000 in
theorem rtake_num9 {w : World} {R B : Nat} {st : Rst} {cs : List Value} {t : TypeId} (i : Nat) {u : Value} (h : RAt w R st.1 st.2) (hl : st.1.length ≤ 140737488355328) (hB : w.heap[B]? = some (.cells cs.toArray t (0, 0))) (hi : cs[i]? = some u) (hRB : R < B) :
 Calls Tryz.prog 72 #[.pointer (some ⟨B, i, none⟩), (.func (.func 73) #[.pointer (some ⟨R, 0, none⟩)] #[])] w (fun en w' => en = .returned (.tuple #[]) ∧ ∃ v, TkP .num R B w st cs t i v w') := by
 have C := hid (rnum9_any h)
 have HB := hid hB
 have HI := hid hi
 clear hB hi h
 go_enter Tryz.func72, Tryz.ntmps72
 go_wp2_with (first | (go_at_call 73; refine C.out.mono ?_; rintro en w2 ⟨v, rfl, hv⟩; obtain ⟨y0, rfl⟩ := form_num (EncN.enc _ hv.1); have HV := hid hv; obtain ⟨z0, z1⟩ := row_at ((hv.2.2.block B (lt_of_block HB.out) (fun e => by have e9 : B = R := e; omega)).trans HB.out) HI.out; clear hv))
 go_end0
 exact ⟨rfl, _, HV.out.store HB.out hRB i⟩
set_option maxHeartbeats 2000000 in
theorem rtake_int9 {w : World} {R B : Nat} {st : Rst} {cs : List Value} {t : TypeId} (i : Nat) {u : Value} (h : RAt w R st.1 st.2) (hl : st.1.length ≤ 140737488355328) (hB : w.heap[B]? = some (.cells cs.toArray t (0, 0))) (hi : cs[i]? = some u) (hRB : R < B) :
 Calls Tryz.prog 169 #[.pointer (some ⟨B, i, none⟩), (.func (.func 139) #[.pointer (some ⟨R, 0, none⟩)] #[])] w (fun en w' => en = .returned (.tuple #[]) ∧ ∃ v, TkP .int R B w st cs t i v w') := by
 have C := hid (rint9_any h)
 have HB := hid hB
 have HI := hid hi
 clear hB hi h
 go_enter Tryz.func169, Tryz.ntmps169
 go_wp2_with (first | (go_at_call 139; refine C.out.mono ?_; rintro en w2 ⟨v, rfl, hv⟩; obtain ⟨y0, rfl⟩ := form_int (EncN.enc _ hv.1); have HV := hid hv; obtain ⟨z0, z1⟩ := row_at ((hv.2.2.block B (lt_of_block HB.out) (fun e => by have e9 : B = R := e; omega)).trans HB.out) HI.out; clear hv))
 go_end0
 exact ⟨rfl, _, HV.out.store HB.out hRB i⟩
set_option maxHeartbeats 8000000 in
theorem rlist_data {w : World} {R B : Nat} {st : Rst} {cs : List Value} {t : TypeId} (i : Nat) (h : RAt w R st.1 st.2) (hl : st.1.length ≤ 140737488355328) (hB : w.heap[B]? = some (.cells cs.toArray t (0, 0))) (hi : cs[i]? = some (.slice none 0 0)) (hRB : R < B) :
 Calls Tryz.prog 153 #[.agg #[.pointer (some ⟨R, 0, none⟩)], .pointer (some ⟨B, i, none⟩), (.func (.func 75) #[.agg #[.pointer (some ⟨R, 0, none⟩)]] #[])] w (fun en w' => en = .returned (.tuple #[]) ∧ ∃ v, TkP (.list .data) R B w st cs t i v w') := by
 obtain ⟨i0, hi0, hz0, hz1, hz2⟩ : ∃ i0, Tryz.prog.info? 22 = some i0 ∧ i0.zero = some (.slice none 0 0) ∧ i0.size = 1 ∧ i0.bytes = 24 := by
  have h9 : (Tryz.prog.info? 22).map (fun i => (i.zero, i.size, i.bytes)) = some (some (.slice none 0 0), 1, 24) := by kernel_rfl
  cases hq : Tryz.prog.info? 22 with
  | none => rw [hq] at h9; cases h9
  | some q => rw [hq] at h9; simp at h9; exact ⟨q, rfl, h9⟩
 have HI0 := hid (And.intro hi0 (And.intro hz0 (And.intro hz1 hz2)))
 clear hi0 hz0 hz1 hz2
 have hb : Below w.heap.size w (w.alloc (.cells #[.pointer (some ⟨R, 0, none⟩)] 79)) := (Below.refl _ _).alloc (Nat.le_refl _) _
 have hz := heap_alloc_new w (.cells #[.pointer (some ⟨R, 0, none⟩)] 79)
 have hRw := h.lt
 have hBw := lt_of_block hB
 have HRW := hid hRw
 have HBW := hid hBw
 have H := hid (h.old hb)
 have HB := hid hb
 have HF := hid ((hb.block _ hBw).trans hB)
 have HI := hid hi
 have HZ := hid hz
 have HLE := hid hl
 clear h hB hi hb hz hl
 go_enter Tryz.func153, Tryz.ntmps153
 go_upto_region 1 with fail
 generalize w.alloc (.cells #[.pointer (some ⟨R, 0, none⟩)] 79) = w1 at *
 obtain ⟨z0, z1⟩ := one_cell HZ.out
 obtain ⟨n, hn⟩ : ∃ n, n = (lookS 5000 st.1 st.2).1 := ⟨_, rfl⟩
 obtain ⟨s1, hs1⟩ : ∃ s1 : Rst, s1 = (st.1.drop (lookS 5000 st.1 st.2).2.1, (lookS 5000 st.1 st.2).2.2) := ⟨_, rfl⟩
 have HN := hid (And.intro hn hs1)
 have hn5 : n ≤ 5000 := by rw [hn]; exact lookS_most _ _ _
 have C0 : Hid (Calls Tryz.prog 140 #[.pointer (some ⟨R, 0, none⟩), .int .i64 5000] w1 (fun en w' => en = .returned (.int .i64 (n : Int)) ∧ RAt w' R s1.1 s1.2 ∧ w1.grownBy w' (some R))) := hid ((smallR_any w1 R st.1 st.2 5000 (by decide) H.out).mono (fun en w9 h9 => by rw [hn, hs1]; exact h9))
 have HS1 : Hid (s1.1.length ≤ st.1.length) := hid (by rw [hs1]; simp)
 clear hn hs1
 go_wp2_with (first | (go_at_call 140; refine C0.out.mono ?_; rintro en w2 ⟨rfl, h2, g2⟩; have H2 := hid h2; have K2 := hid (show Keep (fun j => j = R ∨ j = B) w w2 from (Keep.of_below HB.out).trans ((Keep.of_grown (X := fun j => j = R) g2 (fun j e => by cases e; rfl)).mono (fun j _ e => .inl e))); have HF2 := hid ((g2.block B (lt_of_block HF.out) (fun e => by cases e; omega)).trans HF.out); have HZ2 := hid ((g2.block w.heap.size (lt_of_block HZ.out) (fun e => by cases e; omega)).trans HZ.out); clear h2 g2))
 clear z0 z1 C0
 go_loopw [9] (fun ix wr => ∃ (k : Nat) (M : List (List Value × List UInt8)) (ao : Option Addr) (c : Nat) (sk : Rst), ix = .int .i64 (k : Int) ∧ wr.heap[w.heap.size]? = some (.cells #[.pointer (some ⟨R, 0, none⟩)] 79 (0, 0)) ∧ TLp .data 22 R B i w cs t n s1 wr k M ao c sk) (fun ix _ => n - (intOf ix).toNat)
 case atStart => exact ⟨0, [], none, 0, s1, rfl, HZ2.out, TLp.begin HI.out HF2.out H2.out K2.out⟩
 case round =>
  obtain ⟨k, M, ao, c, sk, rfl, hzr, ht⟩ := hrel
  have hk := ht.le
  have HT := hid ht
  have HZR := hid hzr
  clear ht hzr
  by_cases hlt : k < n
  · have hki : (k : Int) < (n : Int) := by omega
    go_upto_region 3 with fail
    have hWd : Below wr.heap.size wr wr.drew := ⟨rfl, rfl, rfl, Nat.le_refl _, fun _ _ => rfl⟩
    have HLk : Hid (sk.1.length ≤ 140737488355328) := hid (by have := HT.out.small; have := HS1.out; have := HLE.out; omega)
    have HTd : Hid (RAt wr.drew R sk.1 sk.2) := hid (HT.out.rat.old hWd)
    have HFd : Hid (wr.drew.heap[B]? = some (.cells (cs.set i (.slice ao k c)).toArray t (0, 0))) := HT.out.field
    have HLI := hid (List.getElem?_set_self (a := .slice ao k c) (List.getElem?_eq_some_iff.1 HI.out).1)
    have CN := hid (rdata_any HTd.out HLk.out)
    have HUD : Hid (∀ mc w9, RdP .data R wr.drew sk mc w9 → RdP .data R wr sk mc w9) := hid fun _ _ h => h.undrew
    have HZd : Hid (wr.drew.heap[w.heap.size]? = some (.cells #[.pointer (some ⟨R, 0, none⟩)] 79 (0, 0))) := HZR.out
    clear hWd
    refine wp_region_noPanic ?_
    refine wp_region_L (S := fun W => Hid (W.cell? ⟨B, i, none⟩ = some (.slice ao k c))) 9 (by kernel_rfl) ?_
    have HD0 := hid (row_at HFd.out HLI.out).1
    generalize wr.drew = Wd at *
    refine tkV 0 (.pointer (some ⟨B, i, none⟩)) rfl (by kernel_rfl) (fun _ _ _ => False.elim) (Or.inl ⟨by rfl, fun W9 _ => by simp only [jA, jB, jC]; go_simp⟩) (fun _ => HD0) ?_
    simp only [Act.put, jA, jB, jC, jD, jE, jF]
    refine tkV 1 (.pointer (some ⟨B, i, none⟩)) rfl (by kernel_rfl) (fun _ _ _ => False.elim) (Or.inl ⟨by rfl, fun W9 _ => by simp only [jA, jB, jC]; go_simp⟩) (fun _ => HD0) ?_
    simp only [Act.put, jA, jB, jC, jD, jE, jF]
    refine tkV 2 (.pointer (some ⟨B, i, none⟩)) rfl (by kernel_rfl) (fun _ _ _ => False.elim) (Or.inl ⟨by rfl, fun W9 _ => by simp only [jA, jB, jC]; go_simp⟩) (fun _ => HD0) ?_
    simp only [Act.put, jA, jB, jC, jD, jE, jF]
    refine tkV 4 (.func (.func 75) #[.agg #[.pointer (some ⟨R, 0, none⟩)]] #[]) rfl (by kernel_rfl) (fun _ _ _ => False.elim) (Or.inl ⟨by rfl, fun W9 _ => by simp only [jA, jB, jC]; go_simp⟩) (fun _ => HD0) ?_
    simp only [Act.put, jA, jB, jC, jD, jE, jF]
    refine tkL 3 (.slice ao k c) [3, 7, 9] rfl (by kernel_rfl) (fun _ _ _ => False.elim) HD0 (Or.inl ⟨by rfl, fun W9 hW => by have d9 := hW.out; clear hW; simp only [jA, jB, jC]; go_simp⟩) ?_
    simp only [Act.put, jA, jB, jC, jD, jE, jF]
    refine rdL 5 (by kernel_rfl) rfl fun K hK => ?_
    go_simp
    go_wp2_with (first | (go_at_call 75; refine CN.out.mono ?_; rintro en wT ⟨v, rfl, hv⟩; obtain ⟨y0, j0, c0, rfl⟩ := form_data (EncN.enc _ hv.1); have HV := hid (HUD.out _ _ hv); have HZT := hid ((hv.2.2.block w.heap.size (lt_of_block HZd.out) (fun e => by have e9 : w.heap.size = R := e; omega)).trans HZd.out); have HFT := hid ((hv.2.2.block B (lt_of_block HFd.out) (fun e => by have e9 : B = R := e; omega)).trans HFd.out); clear hv))
    refine hK.out _ _ (hid (row_at HFT.out HLI.out).1) fun _ => ?_
    clear hK K
    have H3 : Hid (Below wT.heap.size wT (wT.alloc (.cells #[.slice y0 j0 c0] 22))) := hid ((Below.refl _ _).alloc (Nat.le_refl _) _)
    have HR3 := hid (heap_alloc_new wT (.cells #[.slice y0 j0 c0] 22))
    have HF3 := hid ((H3.out.block B (lt_of_block HFT.out)).trans HFT.out)
    have HOW := hid (own_old (own_keep (X := fun j => j = R) HT.out.own (show Keep _ wr wT from HV.out.2.2) (fun j e e9 => by have e8 : j = R := e9; have := (HT.out.own.lt j e).1; omega)) H3.out)
    have HSZ : Hid (w.heap.size + 1 ≤ (wT.alloc (.cells #[.slice y0 j0 c0] 22)).heap.size) := hid (by have := lt_of_block HZT.out; have := H3.out.size; show _ ≤ _; omega)
    refine rdL 6 (by kernel_rfl) rfl fun K hK => ?_
    go_simp
    refine hK.out _ _ (hid (row_at HF3.out HLI.out).1) fun _ => ?_
    clear hK K
    refine rdL 7 (by kernel_rfl) rfl fun K hK => ?_
    refine step_app1 (by rfl) (.tmp 14) (.tmp 17) 127 (by rfl) (w.heap.size + 1) 22 Tryz.underlying127 HI0.out.1 HI0.out.2.1 HI0.out.2.2.1 HI0.out.2.2.2 (by simp [Value.cells]) (by decide) _ k _ (by rfl) HOW.out wT.heap.size [.slice y0 j0 c0] (by rfl) HR3.out rfl (fun u hu => by simp only [List.mem_cons, List.not_mem_nil, or_false] at hu; subst hu; rfl) (by omega) (by decide) HSZ.out (fun g cap w' o5 g5 gg5 => ?_)
    have HF4 := hid (heap_kept g5 HF3.out (fun e => by have := (HT.out.own.lt B e.symm).1; omega))
    have HZ5 : Hid ((w'.setCell ⟨B, i, none⟩ (.slice (some ⟨g, 0, none⟩) (k + 1) cap)).heap[w.heap.size]? = some (.cells #[.pointer (some ⟨R, 0, none⟩)] 79 (0, 0))) := hid (heap_kept (grown_set w' ⟨B, i, none⟩ _) (heap_kept g5 ((H3.out.block _ (lt_of_block HZT.out)).trans HZT.out) (fun e => by have := (HT.out.own.lt _ e.symm).1; omega)) (fun e => by have e9 : w.heap.size = B := (by simpa using e); have := HBW.out; omega))
    have HNX := hid (HT.out.next HRW.out HBW.out hRB hlt (show RdP .data R wr sk [.slice y0 j0 c0] wT from HV.out) H3.out o5 g5 gg5)
    clear o5 g5 gg5
    refine hK.out _ _ (hid (row_at HF4.out HLI.out).1) fun _ => ?_
    clear hK K
    simp only [Act.put, jA, jB, jC, jD, jE, jF]
    refine tkV 8 (.pointer (some ⟨B, i, none⟩)) rfl (by kernel_rfl) (fun _ _ _ => False.elim) (Or.inl ⟨by rfl, fun W9 _ => by simp only [jA, jB, jC]; go_simp⟩) (fun _ => hid (row_at HF4.out HLI.out).1) ?_
    simp only [Act.put, jA, jB, jC, jD, jE, jF]
    obtain ⟨q0, q1⟩ := row_at HF4.out HLI.out
    refine rdS (by kernel_rfl) rfl fun K hK => ?_
    go_simp
    refine hK.out _ _ ?_
    clear hK K q0 q1
    refine doneL (by kernel_rfl) (NoPanic.normal ?_) _
    generalize w'.setCell ⟨B, i, none⟩ (.slice (some ⟨g, 0, none⟩) (k + 1) cap) = w5 at *
    obtain ⟨p0, p1⟩ := one_cell HZ5.out
    have CE := hid (err_any w5 R _ _ HNX.out.1)
    obtain ⟨ev, hev⟩ : ∃ ev, ev = (rdF .data sk).2.2 := ⟨_, rfl⟩
    rw [← hev] at CE
    by_cases h0 : ev = 0
    · have HNE := hid (HNX.out.2.1 (by rw [← hev]; exact h0))
      subst h0
      clear hev
      go_wp2_with (first | (go_at_call 132; refine CE.out.mono ?_; rintro en w6 ⟨rfl, rfl⟩))
      go_roundw
      case rel => exact ⟨k + 1, _, _, _, _, by go_num, HZ5.out, HNE.out⟩
      case measure => simp [intOf]; omega
    · have HNE := hid (HNX.out.2.2 (by rw [← hev]; exact h0) hn5)
      have hbe : (ev != 0) = true := by simp [h0]
      clear hev
      go_wp2_with (first | (go_at_call 132; refine CE.out.mono ?_; rintro en w6 ⟨rfl, rfl⟩))
      (try simp only [Exit.inBlock, Exit.then]); refine bodyPost_ret (results_none rfl _ _ _) rfl ?_
      obtain ⟨m1, m2, m3, m4⟩ := HNE.out
      refine ⟨rfl, .slice (some ⟨g, 0, none⟩) (k + 1) cap, ?_, m2, ?_, m4⟩
      · simp only [rdF]; rw [← HN.out.1, ← HN.out.2]; exact m1
      · simp only [rdF]; rw [← HN.out.1, ← HN.out.2]; exact m3
  · obtain rfl : n = k := by omega
    have hki : ¬ (n : Int) < (n : Int) := by omega
    go_wp2_with fail
    go_end0
    obtain ⟨p1, p2⟩ := HT.out.done hn5
    refine ⟨rfl, .slice ao n c, ?_, HT.out.field, ?_, HT.out.keep⟩
    · simp only [rdF]; rw [← HN.out.1, ← HN.out.2]; exact p1
    · simp only [rdF]; rw [← HN.out.1, ← HN.out.2]; exact p2
set_option maxHeartbeats 8000000 in
theorem rlist_num {w : World} {R B : Nat} {st : Rst} {cs : List Value} {t : TypeId} (i : Nat) (h : RAt w R st.1 st.2) (hl : st.1.length ≤ 140737488355328) (hB : w.heap[B]? = some (.cells cs.toArray t (0, 0))) (hi : cs[i]? = some (.slice none 0 0)) (hRB : R < B) :
 Calls Tryz.prog 107 #[.agg #[.pointer (some ⟨R, 0, none⟩)], .pointer (some ⟨B, i, none⟩), (.func (.func 73) #[.pointer (some ⟨R, 0, none⟩)] #[])] w (fun en w' => en = .returned (.tuple #[]) ∧ ∃ v, TkP (.list .num) R B w st cs t i v w') := by
 obtain ⟨i0, hi0, hz0, hz1, hz2⟩ : ∃ i0, Tryz.prog.info? 25 = some i0 ∧ i0.zero = some (.int .u64 0) ∧ i0.size = 1 ∧ i0.bytes = 8 := by
  have h9 : (Tryz.prog.info? 25).map (fun i => (i.zero, i.size, i.bytes)) = some (some (.int .u64 0), 1, 8) := by kernel_rfl
  cases hq : Tryz.prog.info? 25 with
  | none => rw [hq] at h9; cases h9
  | some q => rw [hq] at h9; simp at h9; exact ⟨q, rfl, h9⟩
 have HI0 := hid (And.intro hi0 (And.intro hz0 (And.intro hz1 hz2)))
 clear hi0 hz0 hz1 hz2
 have hb : Below w.heap.size w (w.alloc (.cells #[.pointer (some ⟨R, 0, none⟩)] 79)) := (Below.refl _ _).alloc (Nat.le_refl _) _
 have hz := heap_alloc_new w (.cells #[.pointer (some ⟨R, 0, none⟩)] 79)
 have hRw := h.lt
 have hBw := lt_of_block hB
 have HRW := hid hRw
 have HBW := hid hBw
 have H := hid (h.old hb)
 have HB := hid hb
 have HF := hid ((hb.block _ hBw).trans hB)
 have HI := hid hi
 have HZ := hid hz
 have HLE := hid hl
 clear h hB hi hb hz hl
 go_enter Tryz.func107, Tryz.ntmps107
 go_upto_region 1 with fail
 generalize w.alloc (.cells #[.pointer (some ⟨R, 0, none⟩)] 79) = w1 at *
 obtain ⟨z0, z1⟩ := one_cell HZ.out
 obtain ⟨n, hn⟩ : ∃ n, n = (lookS 5000 st.1 st.2).1 := ⟨_, rfl⟩
 obtain ⟨s1, hs1⟩ : ∃ s1 : Rst, s1 = (st.1.drop (lookS 5000 st.1 st.2).2.1, (lookS 5000 st.1 st.2).2.2) := ⟨_, rfl⟩
 have HN := hid (And.intro hn hs1)
 have hn5 : n ≤ 5000 := by rw [hn]; exact lookS_most _ _ _
 have C0 : Hid (Calls Tryz.prog 140 #[.pointer (some ⟨R, 0, none⟩), .int .i64 5000] w1 (fun en w' => en = .returned (.int .i64 (n : Int)) ∧ RAt w' R s1.1 s1.2 ∧ w1.grownBy w' (some R))) := hid ((smallR_any w1 R st.1 st.2 5000 (by decide) H.out).mono (fun en w9 h9 => by rw [hn, hs1]; exact h9))
 have HS1 : Hid (s1.1.length ≤ st.1.length) := hid (by rw [hs1]; simp)
 clear hn hs1
 go_wp2_with (first | (go_at_call 140; refine C0.out.mono ?_; rintro en w2 ⟨rfl, h2, g2⟩; have H2 := hid h2; have K2 := hid (show Keep (fun j => j = R ∨ j = B) w w2 from (Keep.of_below HB.out).trans ((Keep.of_grown (X := fun j => j = R) g2 (fun j e => by cases e; rfl)).mono (fun j _ e => .inl e))); have HF2 := hid ((g2.block B (lt_of_block HF.out) (fun e => by cases e; omega)).trans HF.out); have HZ2 := hid ((g2.block w.heap.size (lt_of_block HZ.out) (fun e => by cases e; omega)).trans HZ.out); clear h2 g2))
 clear z0 z1 C0
 go_loopw [9] (fun ix wr => ∃ (k : Nat) (M : List (List Value × List UInt8)) (ao : Option Addr) (c : Nat) (sk : Rst), ix = .int .i64 (k : Int) ∧ wr.heap[w.heap.size]? = some (.cells #[.pointer (some ⟨R, 0, none⟩)] 79 (0, 0)) ∧ TLp .num 25 R B i w cs t n s1 wr k M ao c sk) (fun ix _ => n - (intOf ix).toNat)
 case atStart => exact ⟨0, [], none, 0, s1, rfl, HZ2.out, TLp.begin HI.out HF2.out H2.out K2.out⟩
 case round =>
  obtain ⟨k, M, ao, c, sk, rfl, hzr, ht⟩ := hrel
  have hk := ht.le
  have HT := hid ht
  have HZR := hid hzr
  clear ht hzr
  by_cases hlt : k < n
  · have hki : (k : Int) < (n : Int) := by omega
    go_upto_region 3 with fail
    have hWd : Below wr.heap.size wr wr.drew := ⟨rfl, rfl, rfl, Nat.le_refl _, fun _ _ => rfl⟩
    have HLk : Hid (sk.1.length ≤ 140737488355328) := hid (by have := HT.out.small; have := HS1.out; have := HLE.out; omega)
    have HTd : Hid (RAt wr.drew R sk.1 sk.2) := hid (HT.out.rat.old hWd)
    have HFd : Hid (wr.drew.heap[B]? = some (.cells (cs.set i (.slice ao k c)).toArray t (0, 0))) := HT.out.field
    have HLI := hid (List.getElem?_set_self (a := .slice ao k c) (List.getElem?_eq_some_iff.1 HI.out).1)
    have CN := hid (rnum9_any HTd.out)
    have HUD : Hid (∀ mc w9, RdP .num R wr.drew sk mc w9 → RdP .num R wr sk mc w9) := hid fun _ _ h => h.undrew
    have HZd : Hid (wr.drew.heap[w.heap.size]? = some (.cells #[.pointer (some ⟨R, 0, none⟩)] 79 (0, 0))) := HZR.out
    clear hWd
    refine wp_region_noPanic ?_
    refine wp_region_L (S := fun W => Hid (W.cell? ⟨B, i, none⟩ = some (.slice ao k c))) 9 (by kernel_rfl) ?_
    have HD0 := hid (row_at HFd.out HLI.out).1
    generalize wr.drew = Wd at *
    refine tkV 0 (.pointer (some ⟨B, i, none⟩)) rfl (by kernel_rfl) (fun _ _ _ => False.elim) (Or.inl ⟨by rfl, fun W9 _ => by simp only [jA, jB, jC]; go_simp⟩) (fun _ => HD0) ?_
    simp only [Act.put, jA, jB, jC, jD, jE, jF]
    refine tkV 1 (.pointer (some ⟨B, i, none⟩)) rfl (by kernel_rfl) (fun _ _ _ => False.elim) (Or.inl ⟨by rfl, fun W9 _ => by simp only [jA, jB, jC]; go_simp⟩) (fun _ => HD0) ?_
    simp only [Act.put, jA, jB, jC, jD, jE, jF]
    refine tkV 2 (.pointer (some ⟨B, i, none⟩)) rfl (by kernel_rfl) (fun _ _ _ => False.elim) (Or.inl ⟨by rfl, fun W9 _ => by simp only [jA, jB, jC]; go_simp⟩) (fun _ => HD0) ?_
    simp only [Act.put, jA, jB, jC, jD, jE, jF]
    refine tkV 4 (.func (.func 73) #[.pointer (some ⟨R, 0, none⟩)] #[]) rfl (by kernel_rfl) (fun _ _ _ => False.elim) (Or.inl ⟨by rfl, fun W9 _ => by simp only [jA, jB, jC]; go_simp⟩) (fun _ => HD0) ?_
    simp only [Act.put, jA, jB, jC, jD, jE, jF]
    refine tkL 3 (.slice ao k c) [3, 7, 9] rfl (by kernel_rfl) (fun _ _ _ => False.elim) HD0 (Or.inl ⟨by rfl, fun W9 hW => by have d9 := hW.out; clear hW; simp only [jA, jB, jC]; go_simp⟩) ?_
    simp only [Act.put, jA, jB, jC, jD, jE, jF]
    refine rdL 5 (by kernel_rfl) rfl fun K hK => ?_
    go_simp
    go_wp2_with (first | (go_at_call 73; refine CN.out.mono ?_; rintro en wT ⟨v, rfl, hv⟩; obtain ⟨y0, rfl⟩ := form_num (EncN.enc _ hv.1); have HV := hid (HUD.out _ _ hv); have HZT := hid ((hv.2.2.block w.heap.size (lt_of_block HZd.out) (fun e => by have e9 : w.heap.size = R := e; omega)).trans HZd.out); have HFT := hid ((hv.2.2.block B (lt_of_block HFd.out) (fun e => by have e9 : B = R := e; omega)).trans HFd.out); clear hv))
    refine hK.out _ _ (hid (row_at HFT.out HLI.out).1) fun _ => ?_
    clear hK K
    have H3 : Hid (Below wT.heap.size wT (wT.alloc (.cells #[.int .u64 (y0 : Int)] 25))) := hid ((Below.refl _ _).alloc (Nat.le_refl _) _)
    have HR3 := hid (heap_alloc_new wT (.cells #[.int .u64 (y0 : Int)] 25))
    have HF3 := hid ((H3.out.block B (lt_of_block HFT.out)).trans HFT.out)
    have HOW := hid (own_old (own_keep (X := fun j => j = R) HT.out.own (show Keep _ wr wT from HV.out.2.2) (fun j e e9 => by have e8 : j = R := e9; have := (HT.out.own.lt j e).1; omega)) H3.out)
    have HSZ : Hid (w.heap.size + 1 ≤ (wT.alloc (.cells #[.int .u64 (y0 : Int)] 25)).heap.size) := hid (by have := lt_of_block HZT.out; have := H3.out.size; show _ ≤ _; omega)
    refine rdL 6 (by kernel_rfl) rfl fun K hK => ?_
    go_simp
    refine hK.out _ _ (hid (row_at HF3.out HLI.out).1) fun _ => ?_
    clear hK K
    refine rdL 7 (by kernel_rfl) rfl fun K hK => ?_
    refine step_app1 (by rfl) (.tmp 14) (.tmp 17) 46 (by rfl) (w.heap.size + 1) 25 Tryz.underlying46 HI0.out.1 HI0.out.2.1 HI0.out.2.2.1 HI0.out.2.2.2 (by simp [Value.cells]) (by decide) _ k _ (by rfl) HOW.out wT.heap.size [.int .u64 (y0 : Int)] (by rfl) HR3.out rfl (fun u hu => by simp only [List.mem_cons, List.not_mem_nil, or_false] at hu; subst hu; rfl) (by omega) (by decide) HSZ.out (fun g cap w' o5 g5 gg5 => ?_)
    have HF4 := hid (heap_kept g5 HF3.out (fun e => by have := (HT.out.own.lt B e.symm).1; omega))
    have HZ5 : Hid ((w'.setCell ⟨B, i, none⟩ (.slice (some ⟨g, 0, none⟩) (k + 1) cap)).heap[w.heap.size]? = some (.cells #[.pointer (some ⟨R, 0, none⟩)] 79 (0, 0))) := hid (heap_kept (grown_set w' ⟨B, i, none⟩ _) (heap_kept g5 ((H3.out.block _ (lt_of_block HZT.out)).trans HZT.out) (fun e => by have := (HT.out.own.lt _ e.symm).1; omega)) (fun e => by have e9 : w.heap.size = B := (by simpa using e); have := HBW.out; omega))
    have HNX := hid (HT.out.next HRW.out HBW.out hRB hlt (show RdP .num R wr sk [.int .u64 (y0 : Int)] wT from HV.out) H3.out o5 g5 gg5)
    clear o5 g5 gg5
    refine hK.out _ _ (hid (row_at HF4.out HLI.out).1) fun _ => ?_
    clear hK K
    simp only [Act.put, jA, jB, jC, jD, jE, jF]
    refine tkV 8 (.pointer (some ⟨B, i, none⟩)) rfl (by kernel_rfl) (fun _ _ _ => False.elim) (Or.inl ⟨by rfl, fun W9 _ => by simp only [jA, jB, jC]; go_simp⟩) (fun _ => hid (row_at HF4.out HLI.out).1) ?_
    simp only [Act.put, jA, jB, jC, jD, jE, jF]
    obtain ⟨q0, q1⟩ := row_at HF4.out HLI.out
    refine rdS (by kernel_rfl) rfl fun K hK => ?_
    go_simp
    refine hK.out _ _ ?_
    clear hK K q0 q1
    refine doneL (by kernel_rfl) (NoPanic.normal ?_) _
    generalize w'.setCell ⟨B, i, none⟩ (.slice (some ⟨g, 0, none⟩) (k + 1) cap) = w5 at *
    obtain ⟨p0, p1⟩ := one_cell HZ5.out
    have CE := hid (err_any w5 R _ _ HNX.out.1)
    obtain ⟨ev, hev⟩ : ∃ ev, ev = (rdF .num sk).2.2 := ⟨_, rfl⟩
    rw [← hev] at CE
    by_cases h0 : ev = 0
    · have HNE := hid (HNX.out.2.1 (by rw [← hev]; exact h0))
      subst h0
      clear hev
      go_wp2_with (first | (go_at_call 132; refine CE.out.mono ?_; rintro en w6 ⟨rfl, rfl⟩))
      go_roundw
      case rel => exact ⟨k + 1, _, _, _, _, by go_num, HZ5.out, HNE.out⟩
      case measure => simp [intOf]; omega
    · have HNE := hid (HNX.out.2.2 (by rw [← hev]; exact h0) hn5)
      have hbe : (ev != 0) = true := by simp [h0]
      clear hev
      go_wp2_with (first | (go_at_call 132; refine CE.out.mono ?_; rintro en w6 ⟨rfl, rfl⟩))
      (try simp only [Exit.inBlock, Exit.then]); refine bodyPost_ret (results_none rfl _ _ _) rfl ?_
      obtain ⟨m1, m2, m3, m4⟩ := HNE.out
      refine ⟨rfl, .slice (some ⟨g, 0, none⟩) (k + 1) cap, ?_, m2, ?_, m4⟩
      · simp only [rdF]; rw [← HN.out.1, ← HN.out.2]; exact m1
      · simp only [rdF]; rw [← HN.out.1, ← HN.out.2]; exact m3
  · obtain rfl : n = k := by omega
    have hki : ¬ (n : Int) < (n : Int) := by omega
    go_wp2_with fail
    go_end0
    obtain ⟨p1, p2⟩ := HT.out.done hn5
    refine ⟨rfl, .slice ao n c, ?_, HT.out.field, ?_, HT.out.keep⟩
    · simp only [rdF]; rw [← HN.out.1, ← HN.out.2]; exact p1
    · simp only [rdF]; rw [← HN.out.1, ← HN.out.2]; exact p2
end Go.Proofs.YtmdgifmigikffaaGreat
namespace Go.Proofs.YtmdgifmigikffaaGreat
open Go.RowKit Go.Deep
def setL (cs : List Value) (i : Nat) : List Value → List Value
 | [] => cs
 | v :: vs => setL (cs.set i v) (i + 1) vs
def setW (w : World) (B i : Nat) : List Value → World
 | [] => w
 | v :: vs => setW (w.setCell ⟨B, i, none⟩ v) B (i + 1) vs
theorem setW_put {B : Nat} {t : TypeId} : ∀ (vs : List Value) {w : World} {cs : List Value} (i : Nat), w.heap[B]? = some (.cells cs.toArray t (0, 0)) → (setW w B i vs).heap[B]? = some (.cells (setL cs i vs).toArray t (0, 0))
 | [], _, _, _, h => h
 | v :: vs, _, _, i, h => setW_put vs (i + 1) (row_put h i v)
theorem setW_keep {B : Nat} : ∀ (vs : List Value) (w : World) (i : Nat), Keep (fun k => k = B) w (setW w B i vs)
 | [], w, _ => Keep.refl _ w
 | v :: vs, w, i => (Keep.set (X := fun k => k = B) w ⟨B, i, none⟩ v rfl).trans (setW_keep vs _ (i + 1))
def TkS (s : Sh) (R B : Nat) (w : World) (st : Rst) (cs : List Value) (t : TypeId) (i : Nat) (vs : List Value) (w' : World) : Prop :=
 EncN (fun k => w.heap.size ≤ k ∧ k < w'.heap.size) w' s vs (rdF s st).1 ∧ w'.heap[B]? = some (.cells (setL cs i vs).toArray t (0, 0)) ∧ RAt w' R (rdF s st).2.1 (rdF s st).2.2 ∧ Keep (fun k => k = R ∨ k = B) w w'
theorem RdP.storeS {s : Sh} {R B : Nat} {w w' : World} {st : Rst} {cs : List Value} {t : TypeId} {vs : List Value} (h : RdP s R w st vs w') (hB : w.heap[B]? = some (.cells cs.toArray t (0, 0))) (hRB : R < B) (i : Nat) :
 TkS s R B w st cs t i vs (setW w' B i vs) := by
 obtain ⟨h1, h2, h3⟩ := h
 have hlt := lt_of_block hB
 have hB' : w'.heap[B]? = some (.cells cs.toArray t (0, 0)) := (h3.block B hlt (fun e => by omega)).trans hB
 have hk := setW_keep (B := B) vs w' i
 refine ⟨EncN.mono (fun k h => ⟨h.1, Nat.lt_of_lt_of_le h.2 hk.size⟩) s (EncN.keep hk (fun k h e => by have e' : k = B := e; have := h.1; omega) s h1), setW_put vs i hB', h2.keepK hk (fun k e => by have e' : k = B := e; omega), ?_⟩
 exact (h3.mono (fun k _ e => .inl e)).trans (hk.mono (fun k _ e => .inr e))
theorem setRow_same {w : World} {g : Nat} {old : Array Value} {t : TypeId} {fr : Nat × Nat} (hg : w.heap[g]? = some (.cells old t fr)) : w.setRow g old = w := by
 have hlt : g < w.heap.size := (Array.getElem?_eq_some_iff.1 hg).1
 have hv : w.heap[g] = .cells old t fr := (Array.getElem?_eq_some_iff.1 hg).2
 have h : (w.heap.modify g fun
  | .cells _ elem frozen => .cells old elem frozen
  | o => o) = w.heap := by
  apply Array.ext (by simp)
  intro i h1 h2
  rw [Array.getElem_modify]
  split
  · rename_i e
    subst e
    rw [hv]
  · rfl
 unfold World.setRow
 exact congrArg (fun x => { w with heap := x }) h
end Go.Proofs.YtmdgifmigikffaaGreat
namespace Go.Proofs.YtmdgifmigikffaaGreat
open Go.RowKit Go.Deep
theorem Value_forms {W : World} {v0 v1 v2 : Value} {b : List UInt8} (h : Enc W sValue [v0, v1, v2] b) : (∃ y0 : Int, v0 = .int .i64 y0) ∧ (∃ y1 : Int, v1 = .int .i64 y1) ∧ (∃ y2 : ByteArray, v2 = .string y2) := by
 obtain ⟨a0, a1, a2, b0, b1, b2, hc, _, e0, e1, e2⟩ := Value_cells h
 simp only [List.cons.injEq, and_true] at hc
 obtain ⟨rfl, rfl, rfl⟩ := hc
 exact ⟨form_int e0, form_int e1, form_name e2⟩
set_option maxHeartbeats 8000000 in
theorem rValue_any {w : World} {R : Nat} {st : Rst} (h : RAt w R st.1 st.2) (hl : st.1.length ≤ 140737488355328) :
 Calls Tryz.prog 150 #[.agg #[.pointer (some ⟨R, 0, none⟩)]] w (fun en w' => ∃ cs, en = .returned (.agg cs.toArray) ∧ RdP sValue R w st cs w') := by
 have hb : Below w.heap.size w ((w.alloc (.cells #[.pointer (some ⟨R, 0, none⟩)] 79)).alloc (.cells #[.int .i64 0, .int .i64 0, .string ⟨#[]⟩] 200)) := ((Below.refl _ _).alloc (Nat.le_refl _) _).alloc (by simp) _
 have hz := (Below.heap_alloc (w.alloc (.cells #[.pointer (some ⟨R, 0, none⟩)] 79)) (.cells #[.int .i64 0, .int .i64 0, .string ⟨#[]⟩] 200) w.heap.size (by simp)).trans (heap_alloc_new w (.cells #[.pointer (some ⟨R, 0, none⟩)] 79))
 have hB := heap_alloc2_new w (.cells #[.pointer (some ⟨R, 0, none⟩)] 79) (.cells #[.int .i64 0, .int .i64 0, .string ⟨#[]⟩] 200)
 obtain ⟨B, hBe⟩ : ∃ B, B = w.heap.size + 1 := ⟨_, rfl⟩
 have hRw := h.lt
 have hRB : R < B := by omega
 have HR0 := hid (h.old hb)
 rw [← hBe] at hB
 have HB0 := hid hB
 have HX0 := hid hz
 have HBW := hid hb
 have HL0 := hid hl
 clear h hb hz hB hl
 go_enter Tryz.func150, Tryz.ntmps150
 go_upto_region 1 with fail
 generalize (w.alloc (.cells #[.pointer (some ⟨R, 0, none⟩)] 79)).alloc (.cells #[.int .i64 0, .int .i64 0, .string ⟨#[]⟩] 200) = w0 at *
 try rw [← hBe]
 have HK0 : Hid (Keep (fun j => j = R ∨ j = B) w0 w0) := hid (Keep.refl _ _)
 have HBE := hid hBe
 clear hBe
 have y0 := (one_cell HX0.out).1
 have CQ := hid (rtake_whole 0 HR0.out HL0.out HB0.out rfl hRB)
 go_upto_region 2 with (first | (go_at_call 80; refine CQ.out.mono ?_; rintro en w1 ⟨rfl, v0, hv⟩; have HV0 := hid hv; clear hv))
 clear CQ y0
 have HB1 : Hid (w1.heap[B]? = some (.cells #[v0, .int .i64 0, .string ⟨#[]⟩] 200 (0, 0))) := HV0.out.2.1
 have HR1 : Hid (RAt w1 R (rdF .int st).2.1 (rdF .int st).2.2) := HV0.out.2.2.1
 have HL1 : Hid ((rdF .int st).2.1.length ≤ 140737488355328) := hid (Nat.le_trans (rd_len _ _) HL0.out)
 have HX1 := hid ((HV0.out.2.2.2.block w.heap.size (lt_of_block HX0.out) (fun e => by have e9 : w.heap.size = R ∨ w.heap.size = B := e; have := HBE.out; omega)).trans HX0.out)
 have HK1 := hid (HK0.out.trans HV0.out.2.2.2)
 have HE0_1 := hid (EncN.top HB0.out HV0.out.1)
 have y0 := (one_cell HX1.out).1
 have CQ := hid (rtake_int9 1 HR1.out HL1.out HB1.out rfl hRB)
 go_upto_region 3 with (first | (go_at_call 169; refine CQ.out.mono ?_; rintro en w2 ⟨rfl, v1, hv⟩; have HV1 := hid hv; clear hv))
 clear CQ y0
 have HB2 : Hid (w2.heap[B]? = some (.cells #[v0, v1, .string ⟨#[]⟩] 200 (0, 0))) := HV1.out.2.1
 have HR2 : Hid (RAt w2 R (rdF .int (rdF .int st).2).2.1 (rdF .int (rdF .int st).2).2.2) := HV1.out.2.2.1
 have HL2 : Hid ((rdF .int (rdF .int st).2).2.1.length ≤ 140737488355328) := hid (Nat.le_trans (rd_len _ _) HL1.out)
 have HX2 := hid ((HV1.out.2.2.2.block w.heap.size (lt_of_block HX1.out) (fun e => by have e9 : w.heap.size = R ∨ w.heap.size = B := e; have := HBE.out; omega)).trans HX1.out)
 have HK2 := hid (HK1.out.trans HV1.out.2.2.2)
 have HE1_2 := hid (EncN.top HB1.out HV1.out.1)
 have HE0_2 := hid (EncN.hopc hRB HV1.out.2.2.2 HE0_1.out)
 clear HE0_1
 have y0 := (one_cell HX2.out).1
 have CQ := hid (rtake_name 2 HR2.out HL2.out HB2.out rfl hRB)
 go_upto_region 4 with (first | (go_at_call 96; refine CQ.out.mono ?_; rintro en w3 ⟨rfl, v2, hv⟩; have HV2 := hid hv; clear hv))
 clear CQ y0
 have HB3 : Hid (w3.heap[B]? = some (.cells #[v0, v1, v2] 200 (0, 0))) := HV2.out.2.1
 have HR3 : Hid (RAt w3 R (rdF .name (rdF .int (rdF .int st).2).2).2.1 (rdF .name (rdF .int (rdF .int st).2).2).2.2) := HV2.out.2.2.1
 have HL3 : Hid ((rdF .name (rdF .int (rdF .int st).2).2).2.1.length ≤ 140737488355328) := hid (Nat.le_trans (rd_len _ _) HL2.out)
 have HX3 := hid ((HV2.out.2.2.2.block w.heap.size (lt_of_block HX2.out) (fun e => by have e9 : w.heap.size = R ∨ w.heap.size = B := e; have := HBE.out; omega)).trans HX2.out)
 have HK3 := hid (HK2.out.trans HV2.out.2.2.2)
 have HE2_3 := hid (EncN.top HB2.out HV2.out.1)
 have HE0_3 := hid (EncN.hopc hRB HV2.out.2.2.2 HE0_2.out)
 have HE1_3 := hid (EncN.hopc hRB HV2.out.2.2.2 HE1_2.out)
 clear HE0_2 HE1_2
 obtain ⟨y0, rfl⟩ := form_int (EncN.enc _ HE0_3.out)
 obtain ⟨y1, rfl⟩ := form_int (EncN.enc _ HE1_3.out)
 obtain ⟨y2, rfl⟩ := form_name (EncN.enc _ HE2_3.out)
 obtain ⟨q0, r0⟩ := row_at (cs := [(.int .i64 y0), (.int .i64 y1), (.string y2)]) HB3.out (i := 0) rfl
 obtain ⟨q1, r1⟩ := row_at (cs := [(.int .i64 y0), (.int .i64 y1), (.string y2)]) HB3.out (i := 1) rfl
 obtain ⟨q2, r2⟩ := row_at (cs := [(.int .i64 y0), (.int .i64 y1), (.string y2)]) HB3.out (i := 2) rfl
 have hs0 : w3.heap[B]? = some (.cells ([(.int .i64 y0), (.int .i64 y1), (.string y2)] : List Value).toArray 200 (0, 0)) := HB3.out
 have hs1 := row_put hs0 0 (.int .i64 y0)
 have hs2 := row_put hs1 1 (.int .i64 y1)
 have hs3 := row_put hs2 2 (.string y2)
 have hks : Keep (fun j => j = B) w3 (((w3.setCell ⟨B, 0, none⟩ (.int .i64 y0)).setCell ⟨B, 1, none⟩ (.int .i64 y1)).setCell ⟨B, 2, none⟩ (.string y2)) := (((Keep.refl (fun j => j = B) _).trans (Keep.set (X := fun j => j = B) _ ⟨B, 0, none⟩ (.int .i64 y0) rfl)).trans (Keep.set (X := fun j => j = B) _ ⟨B, 1, none⟩ (.int .i64 y1) rfl)).trans (Keep.set (X := fun j => j = B) _ ⟨B, 2, none⟩ (.string y2) rfl)
 have HSF : Hid ((((w3.setCell ⟨B, 0, none⟩ (.int .i64 y0)).setCell ⟨B, 1, none⟩ (.int .i64 y1)).setCell ⟨B, 2, none⟩ (.string y2)).heap[B]? = some (.cells #[(.int .i64 y0), (.int .i64 y1), (.string y2)] 200 (0, 0))) := hs3
 have HKS := hid hks
 clear hks hs0 hs1 hs2 hs3
 go_wp2_with fail
 refine bodyPost_ret (results_cell_row rfl _ _ B 200 _ (0, 0) _ rfl HSF.out Tryz.underlying200 rfl (by kernel_rfl)) rfl ?_
 have hfin : ∀ (s : Sh) (cs : List Value) (bs : List UInt8), EncN (fun j => B < j ∧ j < w3.heap.size) w3 s cs bs → EncN (fun j => w.heap.size ≤ j ∧ j < (((w3.setCell ⟨B, 0, none⟩ (.int .i64 y0)).setCell ⟨B, 1, none⟩ (.int .i64 y1)).setCell ⟨B, 2, none⟩ (.string y2)).heap.size) (((w3.setCell ⟨B, 0, none⟩ (.int .i64 y0)).setCell ⟨B, 1, none⟩ (.int .i64 y1)).setCell ⟨B, 2, none⟩ (.string y2)) s cs bs := fun s cs bs h => EncN.mono (fun j hj => ⟨by have := HBE.out; omega, Nat.lt_of_lt_of_le hj.2 HKS.out.size⟩) s (EncN.keep HKS.out (fun j hj e => by have e9 : j = B := e; have := hj.1; omega) s h)
 refine ⟨[(.int .i64 y0), (.int .i64 y1), (.string y2)], rfl, ?_, HR3.out.keepK HKS.out (fun j e => by have e9 : j = B := e; omega), ?_⟩
 · exact ⟨[(.int .i64 y0)], [(.int .i64 y1), (.string y2)], _, _, rfl, rfl, hfin _ _ _ HE0_3.out, ⟨[(.int .i64 y1)], [(.string y2)], _, _, rfl, rfl, hfin _ _ _ HE1_3.out, ⟨[(.string y2)], [], _, _, rfl, rfl, hfin _ _ _ HE2_3.out, ⟨rfl, rfl⟩⟩⟩⟩
 · exact (Keep.of_below HBW.out).trans2 (HK3.out.trans (HKS.out.mono (fun j _ e => .inr e))) (fun j e => by rcases e with e | e <;> first | exact .inl e | exact .inr (by have := HBE.out; omega))
set_option maxHeartbeats 8000000 in
theorem rlist_Value {w : World} {R B : Nat} {st : Rst} {cs : List Value} {t : TypeId} (i : Nat) (h : RAt w R st.1 st.2) (hl : st.1.length ≤ 140737488355328) (hB : w.heap[B]? = some (.cells cs.toArray t (0, 0))) (hi : cs[i]? = some (.slice none 0 0)) (hRB : R < B) :
 Calls Tryz.prog 149 #[.agg #[.pointer (some ⟨R, 0, none⟩)], .pointer (some ⟨B, i, none⟩), (.func (.func 150) #[.agg #[.pointer (some ⟨R, 0, none⟩)]] #[])] w (fun en w' => en = .returned (.tuple #[]) ∧ ∃ v, TkP (.list sValue) R B w st cs t i v w') := by
 obtain ⟨i0, hi0, hz0, hz1, hz2⟩ : ∃ i0, Tryz.prog.info? 200 = some i0 ∧ i0.zero = some (.agg #[.int .i64 0, .int .i64 0, .string .empty]) ∧ i0.size = 3 ∧ i0.bytes = 32 := by
  have h9 : (Tryz.prog.info? 200).map (fun i => (i.zero, i.size, i.bytes)) = some (some (.agg #[.int .i64 0, .int .i64 0, .string .empty]), 3, 32) := by kernel_rfl
  cases hq : Tryz.prog.info? 200 with
  | none => rw [hq] at h9; cases h9
  | some q => rw [hq] at h9; simp at h9; exact ⟨q, rfl, h9⟩
 have HI0 := hid (And.intro hi0 (And.intro hz0 (And.intro hz1 hz2)))
 clear hi0 hz0 hz1 hz2
 have hb : Below w.heap.size w (w.alloc (.cells #[.pointer (some ⟨R, 0, none⟩)] 79)) := (Below.refl _ _).alloc (Nat.le_refl _) _
 have hz := heap_alloc_new w (.cells #[.pointer (some ⟨R, 0, none⟩)] 79)
 have hRw := h.lt
 have hBw := lt_of_block hB
 have HRW := hid hRw
 have HBW := hid hBw
 have H := hid (h.old hb)
 have HB := hid hb
 have HF := hid ((hb.block _ hBw).trans hB)
 have HI := hid hi
 have HZ := hid hz
 have HLE := hid hl
 clear h hB hi hb hz hl
 go_enter Tryz.func149, Tryz.ntmps149
 go_upto_region 1 with fail
 generalize w.alloc (.cells #[.pointer (some ⟨R, 0, none⟩)] 79) = w1 at *
 obtain ⟨z0, z1⟩ := one_cell HZ.out
 obtain ⟨n, hn⟩ : ∃ n, n = (lookS 5000 st.1 st.2).1 := ⟨_, rfl⟩
 obtain ⟨s1, hs1⟩ : ∃ s1 : Rst, s1 = (st.1.drop (lookS 5000 st.1 st.2).2.1, (lookS 5000 st.1 st.2).2.2) := ⟨_, rfl⟩
 have HN := hid (And.intro hn hs1)
 have hn5 : n ≤ 5000 := by rw [hn]; exact lookS_most _ _ _
 have C0 : Hid (Calls Tryz.prog 140 #[.pointer (some ⟨R, 0, none⟩), .int .i64 5000] w1 (fun en w' => en = .returned (.int .i64 (n : Int)) ∧ RAt w' R s1.1 s1.2 ∧ w1.grownBy w' (some R))) := hid ((smallR_any w1 R st.1 st.2 5000 (by decide) H.out).mono (fun en w9 h9 => by rw [hn, hs1]; exact h9))
 have HS1 : Hid (s1.1.length ≤ st.1.length) := hid (by rw [hs1]; simp)
 clear hn hs1
 go_wp2_with (first | (go_at_call 140; refine C0.out.mono ?_; rintro en w2 ⟨rfl, h2, g2⟩; have H2 := hid h2; have K2 := hid (show Keep (fun j => j = R ∨ j = B) w w2 from (Keep.of_below HB.out).trans ((Keep.of_grown (X := fun j => j = R) g2 (fun j e => by cases e; rfl)).mono (fun j _ e => .inl e))); have HF2 := hid ((g2.block B (lt_of_block HF.out) (fun e => by cases e; omega)).trans HF.out); have HZ2 := hid ((g2.block w.heap.size (lt_of_block HZ.out) (fun e => by cases e; omega)).trans HZ.out); clear h2 g2))
 clear z0 z1 C0
 go_loopw [9] (fun ix wr => ∃ (k : Nat) (M : List (List Value × List UInt8)) (ao : Option Addr) (c : Nat) (sk : Rst), ix = .int .i64 (k : Int) ∧ wr.heap[w.heap.size]? = some (.cells #[.pointer (some ⟨R, 0, none⟩)] 79 (0, 0)) ∧ TLp sValue 200 R B i w cs t n s1 wr k M ao c sk) (fun ix _ => n - (intOf ix).toNat)
 case atStart => exact ⟨0, [], none, 0, s1, rfl, HZ2.out, TLp.begin HI.out HF2.out H2.out K2.out⟩
 case round =>
  obtain ⟨k, M, ao, c, sk, rfl, hzr, ht⟩ := hrel
  have hk := ht.le
  have HT := hid ht
  have HZR := hid hzr
  clear ht hzr
  by_cases hlt : k < n
  · have hki : (k : Int) < (n : Int) := by omega
    go_upto_region 3 with fail
    have hWd : Below wr.heap.size wr wr.drew := ⟨rfl, rfl, rfl, Nat.le_refl _, fun _ _ => rfl⟩
    have HLk : Hid (sk.1.length ≤ 140737488355328) := hid (by have := HT.out.small; have := HS1.out; have := HLE.out; omega)
    have HTd : Hid (RAt wr.drew R sk.1 sk.2) := hid (HT.out.rat.old hWd)
    have HFd : Hid (wr.drew.heap[B]? = some (.cells (cs.set i (.slice ao k c)).toArray t (0, 0))) := HT.out.field
    have HLI := hid (List.getElem?_set_self (a := .slice ao k c) (List.getElem?_eq_some_iff.1 HI.out).1)
    have CN := hid (rValue_any HTd.out HLk.out)
    have HUD : Hid (∀ mc w9, RdP sValue R wr.drew sk mc w9 → RdP sValue R wr sk mc w9) := hid fun _ _ h => h.undrew
    have HZd : Hid (wr.drew.heap[w.heap.size]? = some (.cells #[.pointer (some ⟨R, 0, none⟩)] 79 (0, 0))) := HZR.out
    clear hWd
    refine wp_region_noPanic ?_
    refine wp_region_L (S := fun W => Hid (W.cell? ⟨B, i, none⟩ = some (.slice ao k c))) 9 (by kernel_rfl) ?_
    have HD0 := hid (row_at HFd.out HLI.out).1
    generalize wr.drew = Wd at *
    refine tkV 0 (.pointer (some ⟨B, i, none⟩)) rfl (by kernel_rfl) (fun _ _ _ => False.elim) (Or.inl ⟨by rfl, fun W9 _ => by simp only [jA, jB, jC]; go_simp⟩) (fun _ => HD0) ?_
    simp only [Act.put, jA, jB, jC, jD, jE, jF]
    refine tkV 1 (.pointer (some ⟨B, i, none⟩)) rfl (by kernel_rfl) (fun _ _ _ => False.elim) (Or.inl ⟨by rfl, fun W9 _ => by simp only [jA, jB, jC]; go_simp⟩) (fun _ => HD0) ?_
    simp only [Act.put, jA, jB, jC, jD, jE, jF]
    refine tkV 2 (.pointer (some ⟨B, i, none⟩)) rfl (by kernel_rfl) (fun _ _ _ => False.elim) (Or.inl ⟨by rfl, fun W9 _ => by simp only [jA, jB, jC]; go_simp⟩) (fun _ => HD0) ?_
    simp only [Act.put, jA, jB, jC, jD, jE, jF]
    refine tkV 4 (.func (.func 150) #[.agg #[.pointer (some ⟨R, 0, none⟩)]] #[]) rfl (by kernel_rfl) (fun _ _ _ => False.elim) (Or.inl ⟨by rfl, fun W9 _ => by simp only [jA, jB, jC]; go_simp⟩) (fun _ => HD0) ?_
    simp only [Act.put, jA, jB, jC, jD, jE, jF]
    refine tkL 3 (.slice ao k c) [3, 7, 9] rfl (by kernel_rfl) (fun _ _ _ => False.elim) HD0 (Or.inl ⟨by rfl, fun W9 hW => by have d9 := hW.out; clear hW; simp only [jA, jB, jC]; go_simp⟩) ?_
    simp only [Act.put, jA, jB, jC, jD, jE, jF]
    refine rdL 5 (by kernel_rfl) rfl fun K hK => ?_
    go_simp
    go_wp2_with (first | (go_at_call 150; refine CN.out.mono ?_; rintro en wT ⟨mc, rfl, hv⟩; obtain ⟨v0, v1, v2, b0, b1, b2, rfl, _, e0, e1, e2⟩ := Value_cells (EncN.enc _ hv.1); obtain ⟨y0, rfl⟩ := form_int e0; obtain ⟨y1, rfl⟩ := form_int e1; obtain ⟨y2, rfl⟩ := form_name e2; clear e0 e1 e2; have HV := hid (HUD.out _ _ hv); have HZT := hid ((hv.2.2.block w.heap.size (lt_of_block HZd.out) (fun e => by have e9 : w.heap.size = R := e; omega)).trans HZd.out); have HFT := hid ((hv.2.2.block B (lt_of_block HFd.out) (fun e => by have e9 : B = R := e; omega)).trans HFd.out); clear hv))
    refine hK.out _ _ (hid (row_at HFT.out HLI.out).1) fun _ => ?_
    clear hK K
    have H3 : Hid (Below wT.heap.size wT (wT.alloc (.cells #[.int .i64 y0, .int .i64 y1, .string y2] 200))) := hid ((Below.refl _ _).alloc (Nat.le_refl _) _)
    have HR3 := hid (heap_alloc_new wT (.cells #[.int .i64 y0, .int .i64 y1, .string y2] 200))
    have HF3 := hid ((H3.out.block B (lt_of_block HFT.out)).trans HFT.out)
    have HOW := hid (own_old (own_keep (X := fun j => j = R) HT.out.own (show Keep _ wr wT from HV.out.2.2) (fun j e e9 => by have e8 : j = R := e9; have := (HT.out.own.lt j e).1; omega)) H3.out)
    have HSZ : Hid (w.heap.size + 1 ≤ (wT.alloc (.cells #[.int .i64 y0, .int .i64 y1, .string y2] 200)).heap.size) := hid (by have := lt_of_block HZT.out; have := H3.out.size; show _ ≤ _; omega)
    refine rdL 6 (by kernel_rfl) rfl fun K hK => ?_
    go_simp
    refine hK.out _ _ (hid (row_at HF3.out HLI.out).1) fun _ => ?_
    clear hK K
    refine rdL 7 (by kernel_rfl) rfl fun K hK => ?_
    refine step_app1 (by rfl) (.tmp 14) (.tmp 17) 125 (by rfl) (w.heap.size + 1) 200 Tryz.underlying125 HI0.out.1 HI0.out.2.1 HI0.out.2.2.1 HI0.out.2.2.2 (by simp [Value.cells]) (by decide) _ k _ (by rfl) HOW.out wT.heap.size [.int .i64 y0, .int .i64 y1, .string y2] (by rfl) HR3.out rfl (fun u hu => by simp only [List.mem_cons, List.not_mem_nil, or_false] at hu; rcases hu with rfl | rfl | rfl <;> rfl) (by omega) (by decide) HSZ.out (fun g cap w' o5 g5 gg5 => ?_)
    have HF4 := hid (heap_kept g5 HF3.out (fun e => by have := (HT.out.own.lt B e.symm).1; omega))
    have HZ5 : Hid ((w'.setCell ⟨B, i, none⟩ (.slice (some ⟨g, 0, none⟩) (k + 1) cap)).heap[w.heap.size]? = some (.cells #[.pointer (some ⟨R, 0, none⟩)] 79 (0, 0))) := hid (heap_kept (grown_set w' ⟨B, i, none⟩ _) (heap_kept g5 ((H3.out.block _ (lt_of_block HZT.out)).trans HZT.out) (fun e => by have := (HT.out.own.lt _ e.symm).1; omega)) (fun e => by have e9 : w.heap.size = B := (by simpa using e); have := HBW.out; omega))
    have HNX := hid (HT.out.next HRW.out HBW.out hRB hlt (show RdP sValue R wr sk [.int .i64 y0, .int .i64 y1, .string y2] wT from HV.out) H3.out o5 g5 gg5)
    clear o5 g5 gg5
    refine hK.out _ _ (hid (row_at HF4.out HLI.out).1) fun _ => ?_
    clear hK K
    simp only [Act.put, jA, jB, jC, jD, jE, jF]
    refine tkV 8 (.pointer (some ⟨B, i, none⟩)) rfl (by kernel_rfl) (fun _ _ _ => False.elim) (Or.inl ⟨by rfl, fun W9 _ => by simp only [jA, jB, jC]; go_simp⟩) (fun _ => hid (row_at HF4.out HLI.out).1) ?_
    simp only [Act.put, jA, jB, jC, jD, jE, jF]
    obtain ⟨q0, q1⟩ := row_at HF4.out HLI.out
    refine rdS (by kernel_rfl) rfl fun K hK => ?_
    go_simp
    refine hK.out _ _ ?_
    clear hK K q0 q1
    refine doneL (by kernel_rfl) (NoPanic.normal ?_) _
    generalize w'.setCell ⟨B, i, none⟩ (.slice (some ⟨g, 0, none⟩) (k + 1) cap) = w5 at *
    obtain ⟨p0, p1⟩ := one_cell HZ5.out
    have CE := hid (err_any w5 R _ _ HNX.out.1)
    obtain ⟨ev, hev⟩ : ∃ ev, ev = (rdF sValue sk).2.2 := ⟨_, rfl⟩
    rw [← hev] at CE
    by_cases h0 : ev = 0
    · have HNE := hid (HNX.out.2.1 (by rw [← hev]; exact h0))
      subst h0
      clear hev
      go_wp2_with (first | (go_at_call 132; refine CE.out.mono ?_; rintro en w6 ⟨rfl, rfl⟩))
      go_roundw
      case rel => exact ⟨k + 1, _, _, _, _, by go_num, HZ5.out, HNE.out⟩
      case measure => simp [intOf]; omega
    · have HNE := hid (HNX.out.2.2 (by rw [← hev]; exact h0) hn5)
      have hbe : (ev != 0) = true := by simp [h0]
      clear hev
      go_wp2_with (first | (go_at_call 132; refine CE.out.mono ?_; rintro en w6 ⟨rfl, rfl⟩))
      (try simp only [Exit.inBlock, Exit.then]); refine bodyPost_ret (results_none rfl _ _ _) rfl ?_
      obtain ⟨m1, m2, m3, m4⟩ := HNE.out
      refine ⟨rfl, .slice (some ⟨g, 0, none⟩) (k + 1) cap, ?_, m2, ?_, m4⟩
      · simp only [rdF]; rw [← HN.out.1, ← HN.out.2]; exact m1
      · simp only [rdF]; rw [← HN.out.1, ← HN.out.2]; exact m3
  · obtain rfl : n = k := by omega
    have hki : ¬ (n : Int) < (n : Int) := by omega
    go_wp2_with fail
    go_end0
    obtain ⟨p1, p2⟩ := HT.out.done hn5
    refine ⟨rfl, .slice ao n c, ?_, HT.out.field, ?_, HT.out.keep⟩
    · simp only [rdF]; rw [← HN.out.1, ← HN.out.2]; exact p1
    · simp only [rdF]; rw [← HN.out.1, ← HN.out.2]; exact p2
set_option maxHeartbeats 4000000 in
theorem stake_Value_1 {w : World} {R B : Nat} {st : Rst} {cs : List Value} {t : TypeId} {u0 u1 u2 : Value} (h : RAt w R st.1 st.2) (hl : st.1.length ≤ 140737488355328) (hB : w.heap[B]? = some (.cells cs.toArray t (0, 0))) (hi0 : cs[1]? = some u0) (hi1 : cs[2]? = some u1) (hi2 : cs[3]? = some u2) (hRB : R < B) :
 Calls Tryz.prog 170 #[.pointer (some ⟨B, 1, none⟩), (.func (.func 150) #[.agg #[.pointer (some ⟨R, 0, none⟩)]] #[])] w (fun en w' => en = .returned (.tuple #[]) ∧ ∃ v0 v1 v2, TkS sValue R B w st cs t 1 [v0, v1, v2] w') := by
 have C := hid (rValue_any h hl)
 have HB := hid hB
 have HI0 := hid hi0
 have HI1 := hid hi1
 have HI2 := hid hi2
 clear hB h hi0 hi1 hi2
 go_enter Tryz.func170, Tryz.ntmps170
 go_wp2_with (first | (go_at_call 150; refine C.out.mono ?_; rintro en w2 ⟨mc, rfl, hv⟩; obtain ⟨k0, k1, k2, b0, b1, b2, rfl, _, e0, e1, e2⟩ := Value_cells (EncN.enc _ hv.1); obtain ⟨y0, rfl⟩ := form_int e0; obtain ⟨y1, rfl⟩ := form_int e1; obtain ⟨y2, rfl⟩ := form_name e2; clear e0 e1 e2; have HV := hid hv; have hB2 := (hv.2.2.block B (lt_of_block HB.out) (fun e => by have e9 : B = R := e; omega)).trans HB.out; clear hv; obtain ⟨z0, x0⟩ := row_at hB2 HI0.out; obtain ⟨z1, x1⟩ := row_at hB2 HI1.out; obtain ⟨z2, x2⟩ := row_at hB2 HI2.out; clear hB2))
 go_end0
 exact ⟨rfl, _, _, _, HV.out.storeS HB.out hRB 1⟩
end Go.Proofs.YtmdgifmigikffaaGreat
