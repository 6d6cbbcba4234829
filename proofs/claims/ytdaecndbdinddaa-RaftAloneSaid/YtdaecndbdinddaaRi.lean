/-
  RAFT: a group of one: elect, Tick.
-/
import Derived.Test.YtdaecndbdinddaaRh
import Derived.BigRegion
set_option linter.unusedVariables false
set_option linter.unusedSimpArgs false
set_option maxRecDepth 100000
namespace Go.Proofs.Ytdaecndbdinddaa
open Go.RowKit Go.Deep

section
variable {B : Nat} {w w' : World} {b : Nat} {l : Lo} {role ld : Int} {cm : Nat} {tk : Int} {v : Bool}
theorem NdAt.drew2 {id n : Int} (h : NdAt w b id n l role ld cm tk v) : NdAt w.drew.drew b id n l role ld cm tk v := h
theorem keep_drew2 (X : Nat → Prop) (w : World) : Keep X w w.drew.drew := ⟨rfl, rfl, rfl, Nat.le_refl _, fun _ _ _ => rfl⟩
/-- The log in the next term, with a vote for the first node. -/
def Lo.term (l : Lo) : Lo := ⟨l.ht + 1, 1, l.si, l.st, l.sd, l.eo, l.ec, l.es⟩
theorem LoAt.term {V : World} (h : LoAt V l) (hht : l.ht + 1 < 18446744073709551616) : LoAt V l.term := ⟨h.sd, h.es, hht, h.si, h.st, ⟨by show -9223372036854775808 ≤ (1 : Int); omega, by show (1 : Int) < 9223372036854775808; omega⟩, h.sl, h.el⟩
theorem One.term (h : One B w b l role ld cm tk v) (hht : l.ht + 1 < 18446744073709551616) {role' ld' : Int} {cm' : Nat} {tk' : Int} {v' : Bool} (hk : Keep (fun j => j = b) w w') (hn : NdAt w' b 0 1 l.term role' ld' cm' tk' v') : One B w' b l.term role' ld' cm' tk' v' :=
  ⟨hn, (h.lo.kept hk h.off).term hht, ⟨own_keep h.own.own hk (fun j hj e => h.ob j hj e), h.own.eoff, h.own.soff⟩, h.ob, h.off, h.bb⟩

set_option maxHeartbeats 8000000 in
theorem elect1_any (h : One B w b l 0 0 0 tk false) (hz : l.si = 0) (he : l.es = []) (hB : B ≤ w.heap.size) (hht : l.ht + 1 < 18446744073709551615) : Calls Try.prog 51 #[.pointer (some ⟨b, 0, none⟩)] w (Leads B b l.term w) := by
  have hb : Below w.heap.size w (w.alloc (.cells #[.pointer (some ⟨b, 0, none⟩)] 49)) := (Below.refl _ _).alloc (Nat.le_refl _) _
  have h0 := heap_alloc_new w (.cells #[.pointer (some ⟨b, 0, none⟩)] 49)
  have HO := hid h
  have hbl := h.nd.lt
  have HBL := hid hbl
  have hne : ((l.ht : Int) == 18446744073709551615) = false := by simp; omega
  have hw1 : IntKind.u64.wrap ((l.ht : Int) + 1) = (l.ht : Int) + 1 := by rw [wrap_u64]; omega
  clear h hbl
  go_enter Try.func51, Try.ntmps51
  go_upto_region 1 with fail
  generalize w.alloc (.cells #[.pointer (some ⟨b, 0, none⟩)] 49) = w1 at *
  have HB := hid hb
  have H0 := hid h0
  have p1 : w1.cell? ⟨w.heap.size, 0, none⟩ = some (.pointer (some ⟨b, 0, none⟩)) := by simp [World.cell?, h0]
  have HO1 := hid (HO.out.old hb)
  obtain ⟨c0, -, c2, c3, -, -, -, -, c8, c9, -, c11, -⟩ := HO1.out.nd.cells
  have fb := HO1.out.nd.soft
  have f2 := fb 2
  have f3 := fb 3
  have f8 := fb 8
  have f9 := fb 9
  have f11 := fb 11
  have f12 := fb 12
  have f13 := fb 13
  have f14 := fb 14
  have f15 := fb 15
  have f16 := fb 16
  have hnb : b ≠ w.heap.size := by have := HBL.out; omega
  have hnb2 : ¬ (w.heap.size = b) := by omega
  have c1x : w1.cell? ⟨b, 12, none⟩ = some (.bool false) ∧ w1.cell? ⟨b, 13, none⟩ = some (.bool false) ∧ w1.cell? ⟨b, 14, none⟩ = some (.bool false) ∧ w1.cell? ⟨b, 15, none⟩ = some (.bool false) ∧ w1.cell? ⟨b, 16, none⟩ = some (.bool false) := by have := HO1.out.nd; unfold NdAt at this; simp [World.cell?, this]
  obtain ⟨x12, x13, x14, x15, x16⟩ := c1x
  clear hb h0 fb
  go_upto_region 3 with fail
  go_region
  go_upto_region 4 with fail
  go_region
  go_upto_region 6 with fail
  have m0 : NdAt (w1.setCell ⟨b, 11, none⟩ (.int .i64 0)) b 0 1 l 0 0 0 0 false := set_at (k := 11) (.int .i64 0) HO1.out.nd
  have m1 : NdAt ((w1.setCell ⟨b, 11, none⟩ (.int .i64 0)).setCell ⟨b, 2, none⟩ (.int .u64 ((l.ht : Int) + 1))) b 0 1 ⟨l.ht + 1, l.hv, l.si, l.st, l.sd, l.eo, l.ec, l.es⟩ 0 0 0 0 false := set_at (k := 2) (.int .u64 ((l.ht : Int) + 1)) m0
  have m2 : NdAt (((w1.setCell ⟨b, 11, none⟩ (.int .i64 0)).setCell ⟨b, 2, none⟩ (.int .u64 ((l.ht : Int) + 1))).setCell ⟨b, 3, none⟩ (.int .i64 1)) b 0 1 l.term 0 0 0 0 false := set_at (k := 3) (.int .i64 1) m1
  have m3 : NdAt ((((w1.setCell ⟨b, 11, none⟩ (.int .i64 0)).setCell ⟨b, 2, none⟩ (.int .u64 ((l.ht : Int) + 1))).setCell ⟨b, 3, none⟩ (.int .i64 1)).setCell ⟨b, 8, none⟩ (.int .i64 1)) b 0 1 l.term 1 0 0 0 false := set_at (k := 8) (.int .i64 1) m2
  have m4 : NdAt (((((w1.setCell ⟨b, 11, none⟩ (.int .i64 0)).setCell ⟨b, 2, none⟩ (.int .u64 ((l.ht : Int) + 1))).setCell ⟨b, 3, none⟩ (.int .i64 1)).setCell ⟨b, 8, none⟩ (.int .i64 1)).setCell ⟨b, 9, none⟩ (.int .i64 0)) b 0 1 l.term 1 0 0 0 false := set_at (k := 9) (.int .i64 0) m3
  have m5 : NdAt ((((((w1.setCell ⟨b, 11, none⟩ (.int .i64 0)).setCell ⟨b, 2, none⟩ (.int .u64 ((l.ht : Int) + 1))).setCell ⟨b, 3, none⟩ (.int .i64 1)).setCell ⟨b, 8, none⟩ (.int .i64 1)).setCell ⟨b, 9, none⟩ (.int .i64 0)).setCell ⟨b, 12, none⟩ (.bool false)) b 0 1 l.term 1 0 0 0 false := set_at (k := 12) (.bool false) m4
  have m6 : NdAt (((((((w1.setCell ⟨b, 11, none⟩ (.int .i64 0)).setCell ⟨b, 2, none⟩ (.int .u64 ((l.ht : Int) + 1))).setCell ⟨b, 3, none⟩ (.int .i64 1)).setCell ⟨b, 8, none⟩ (.int .i64 1)).setCell ⟨b, 9, none⟩ (.int .i64 0)).setCell ⟨b, 12, none⟩ (.bool false)).setCell ⟨b, 13, none⟩ (.bool false)) b 0 1 l.term 1 0 0 0 false := set_at (k := 13) (.bool false) m5
  have m7 : NdAt ((((((((w1.setCell ⟨b, 11, none⟩ (.int .i64 0)).setCell ⟨b, 2, none⟩ (.int .u64 ((l.ht : Int) + 1))).setCell ⟨b, 3, none⟩ (.int .i64 1)).setCell ⟨b, 8, none⟩ (.int .i64 1)).setCell ⟨b, 9, none⟩ (.int .i64 0)).setCell ⟨b, 12, none⟩ (.bool false)).setCell ⟨b, 13, none⟩ (.bool false)).setCell ⟨b, 14, none⟩ (.bool false)) b 0 1 l.term 1 0 0 0 false := set_at (k := 14) (.bool false) m6
  have m8 : NdAt (((((((((w1.setCell ⟨b, 11, none⟩ (.int .i64 0)).setCell ⟨b, 2, none⟩ (.int .u64 ((l.ht : Int) + 1))).setCell ⟨b, 3, none⟩ (.int .i64 1)).setCell ⟨b, 8, none⟩ (.int .i64 1)).setCell ⟨b, 9, none⟩ (.int .i64 0)).setCell ⟨b, 12, none⟩ (.bool false)).setCell ⟨b, 13, none⟩ (.bool false)).setCell ⟨b, 14, none⟩ (.bool false)).setCell ⟨b, 15, none⟩ (.bool false)) b 0 1 l.term 1 0 0 0 false := set_at (k := 15) (.bool false) m7
  have m9 : NdAt ((((((((((w1.setCell ⟨b, 11, none⟩ (.int .i64 0)).setCell ⟨b, 2, none⟩ (.int .u64 ((l.ht : Int) + 1))).setCell ⟨b, 3, none⟩ (.int .i64 1)).setCell ⟨b, 8, none⟩ (.int .i64 1)).setCell ⟨b, 9, none⟩ (.int .i64 0)).setCell ⟨b, 12, none⟩ (.bool false)).setCell ⟨b, 13, none⟩ (.bool false)).setCell ⟨b, 14, none⟩ (.bool false)).setCell ⟨b, 15, none⟩ (.bool false)).setCell ⟨b, 16, none⟩ (.bool false)) b 0 1 l.term 1 0 0 0 false := set_at (k := 16) (.bool false) m8
  have n6 : NdAt ((((((((((w1.setCell ⟨b, 11, none⟩ (.int .i64 0)).setCell ⟨b, 2, none⟩ (.int .u64 ((l.ht : Int) + 1))).setCell ⟨b, 3, none⟩ (.int .i64 1)).setCell ⟨b, 8, none⟩ (.int .i64 1)).setCell ⟨b, 9, none⟩ (.int .i64 0)).setCell ⟨b, 12, none⟩ (.bool false)).setCell ⟨b, 13, none⟩ (.bool false)).setCell ⟨b, 14, none⟩ (.bool false)).setCell ⟨b, 15, none⟩ (.bool false)).setCell ⟨b, 16, none⟩ (.bool false)).drew.drew b 0 1 l.term 1 0 0 0 false := m9.drew2
  have e0 : Keep (fun j => j = b) w1 (w1.setCell ⟨b, 11, none⟩ (.int .i64 0)) := Keep.set (X := fun j => j = b) w1 ⟨b, 11, none⟩ (.int .i64 0) rfl
  have e1 : Keep (fun j => j = b) w1 ((w1.setCell ⟨b, 11, none⟩ (.int .i64 0)).setCell ⟨b, 2, none⟩ (.int .u64 ((l.ht : Int) + 1))) := e0.trans (Keep.set (X := fun j => j = b) (w1.setCell ⟨b, 11, none⟩ (.int .i64 0)) ⟨b, 2, none⟩ (.int .u64 ((l.ht : Int) + 1)) rfl)
  have e2 : Keep (fun j => j = b) w1 (((w1.setCell ⟨b, 11, none⟩ (.int .i64 0)).setCell ⟨b, 2, none⟩ (.int .u64 ((l.ht : Int) + 1))).setCell ⟨b, 3, none⟩ (.int .i64 1)) := e1.trans (Keep.set (X := fun j => j = b) ((w1.setCell ⟨b, 11, none⟩ (.int .i64 0)).setCell ⟨b, 2, none⟩ (.int .u64 ((l.ht : Int) + 1))) ⟨b, 3, none⟩ (.int .i64 1) rfl)
  have e3 : Keep (fun j => j = b) w1 ((((w1.setCell ⟨b, 11, none⟩ (.int .i64 0)).setCell ⟨b, 2, none⟩ (.int .u64 ((l.ht : Int) + 1))).setCell ⟨b, 3, none⟩ (.int .i64 1)).setCell ⟨b, 8, none⟩ (.int .i64 1)) := e2.trans (Keep.set (X := fun j => j = b) (((w1.setCell ⟨b, 11, none⟩ (.int .i64 0)).setCell ⟨b, 2, none⟩ (.int .u64 ((l.ht : Int) + 1))).setCell ⟨b, 3, none⟩ (.int .i64 1)) ⟨b, 8, none⟩ (.int .i64 1) rfl)
  have e4 : Keep (fun j => j = b) w1 (((((w1.setCell ⟨b, 11, none⟩ (.int .i64 0)).setCell ⟨b, 2, none⟩ (.int .u64 ((l.ht : Int) + 1))).setCell ⟨b, 3, none⟩ (.int .i64 1)).setCell ⟨b, 8, none⟩ (.int .i64 1)).setCell ⟨b, 9, none⟩ (.int .i64 0)) := e3.trans (Keep.set (X := fun j => j = b) ((((w1.setCell ⟨b, 11, none⟩ (.int .i64 0)).setCell ⟨b, 2, none⟩ (.int .u64 ((l.ht : Int) + 1))).setCell ⟨b, 3, none⟩ (.int .i64 1)).setCell ⟨b, 8, none⟩ (.int .i64 1)) ⟨b, 9, none⟩ (.int .i64 0) rfl)
  have e5 : Keep (fun j => j = b) w1 ((((((w1.setCell ⟨b, 11, none⟩ (.int .i64 0)).setCell ⟨b, 2, none⟩ (.int .u64 ((l.ht : Int) + 1))).setCell ⟨b, 3, none⟩ (.int .i64 1)).setCell ⟨b, 8, none⟩ (.int .i64 1)).setCell ⟨b, 9, none⟩ (.int .i64 0)).setCell ⟨b, 12, none⟩ (.bool false)) := e4.trans (Keep.set (X := fun j => j = b) (((((w1.setCell ⟨b, 11, none⟩ (.int .i64 0)).setCell ⟨b, 2, none⟩ (.int .u64 ((l.ht : Int) + 1))).setCell ⟨b, 3, none⟩ (.int .i64 1)).setCell ⟨b, 8, none⟩ (.int .i64 1)).setCell ⟨b, 9, none⟩ (.int .i64 0)) ⟨b, 12, none⟩ (.bool false) rfl)
  have e6 : Keep (fun j => j = b) w1 (((((((w1.setCell ⟨b, 11, none⟩ (.int .i64 0)).setCell ⟨b, 2, none⟩ (.int .u64 ((l.ht : Int) + 1))).setCell ⟨b, 3, none⟩ (.int .i64 1)).setCell ⟨b, 8, none⟩ (.int .i64 1)).setCell ⟨b, 9, none⟩ (.int .i64 0)).setCell ⟨b, 12, none⟩ (.bool false)).setCell ⟨b, 13, none⟩ (.bool false)) := e5.trans (Keep.set (X := fun j => j = b) ((((((w1.setCell ⟨b, 11, none⟩ (.int .i64 0)).setCell ⟨b, 2, none⟩ (.int .u64 ((l.ht : Int) + 1))).setCell ⟨b, 3, none⟩ (.int .i64 1)).setCell ⟨b, 8, none⟩ (.int .i64 1)).setCell ⟨b, 9, none⟩ (.int .i64 0)).setCell ⟨b, 12, none⟩ (.bool false)) ⟨b, 13, none⟩ (.bool false) rfl)
  have e7 : Keep (fun j => j = b) w1 ((((((((w1.setCell ⟨b, 11, none⟩ (.int .i64 0)).setCell ⟨b, 2, none⟩ (.int .u64 ((l.ht : Int) + 1))).setCell ⟨b, 3, none⟩ (.int .i64 1)).setCell ⟨b, 8, none⟩ (.int .i64 1)).setCell ⟨b, 9, none⟩ (.int .i64 0)).setCell ⟨b, 12, none⟩ (.bool false)).setCell ⟨b, 13, none⟩ (.bool false)).setCell ⟨b, 14, none⟩ (.bool false)) := e6.trans (Keep.set (X := fun j => j = b) (((((((w1.setCell ⟨b, 11, none⟩ (.int .i64 0)).setCell ⟨b, 2, none⟩ (.int .u64 ((l.ht : Int) + 1))).setCell ⟨b, 3, none⟩ (.int .i64 1)).setCell ⟨b, 8, none⟩ (.int .i64 1)).setCell ⟨b, 9, none⟩ (.int .i64 0)).setCell ⟨b, 12, none⟩ (.bool false)).setCell ⟨b, 13, none⟩ (.bool false)) ⟨b, 14, none⟩ (.bool false) rfl)
  have e8 : Keep (fun j => j = b) w1 (((((((((w1.setCell ⟨b, 11, none⟩ (.int .i64 0)).setCell ⟨b, 2, none⟩ (.int .u64 ((l.ht : Int) + 1))).setCell ⟨b, 3, none⟩ (.int .i64 1)).setCell ⟨b, 8, none⟩ (.int .i64 1)).setCell ⟨b, 9, none⟩ (.int .i64 0)).setCell ⟨b, 12, none⟩ (.bool false)).setCell ⟨b, 13, none⟩ (.bool false)).setCell ⟨b, 14, none⟩ (.bool false)).setCell ⟨b, 15, none⟩ (.bool false)) := e7.trans (Keep.set (X := fun j => j = b) ((((((((w1.setCell ⟨b, 11, none⟩ (.int .i64 0)).setCell ⟨b, 2, none⟩ (.int .u64 ((l.ht : Int) + 1))).setCell ⟨b, 3, none⟩ (.int .i64 1)).setCell ⟨b, 8, none⟩ (.int .i64 1)).setCell ⟨b, 9, none⟩ (.int .i64 0)).setCell ⟨b, 12, none⟩ (.bool false)).setCell ⟨b, 13, none⟩ (.bool false)).setCell ⟨b, 14, none⟩ (.bool false)) ⟨b, 15, none⟩ (.bool false) rfl)
  have e9 : Keep (fun j => j = b) w1 ((((((((((w1.setCell ⟨b, 11, none⟩ (.int .i64 0)).setCell ⟨b, 2, none⟩ (.int .u64 ((l.ht : Int) + 1))).setCell ⟨b, 3, none⟩ (.int .i64 1)).setCell ⟨b, 8, none⟩ (.int .i64 1)).setCell ⟨b, 9, none⟩ (.int .i64 0)).setCell ⟨b, 12, none⟩ (.bool false)).setCell ⟨b, 13, none⟩ (.bool false)).setCell ⟨b, 14, none⟩ (.bool false)).setCell ⟨b, 15, none⟩ (.bool false)).setCell ⟨b, 16, none⟩ (.bool false)) := e8.trans (Keep.set (X := fun j => j = b) (((((((((w1.setCell ⟨b, 11, none⟩ (.int .i64 0)).setCell ⟨b, 2, none⟩ (.int .u64 ((l.ht : Int) + 1))).setCell ⟨b, 3, none⟩ (.int .i64 1)).setCell ⟨b, 8, none⟩ (.int .i64 1)).setCell ⟨b, 9, none⟩ (.int .i64 0)).setCell ⟨b, 12, none⟩ (.bool false)).setCell ⟨b, 13, none⟩ (.bool false)).setCell ⟨b, 14, none⟩ (.bool false)).setCell ⟨b, 15, none⟩ (.bool false)) ⟨b, 16, none⟩ (.bool false) rfl)
  have e10 : Keep (fun j => j = b) ((((((((((w1.setCell ⟨b, 11, none⟩ (.int .i64 0)).setCell ⟨b, 2, none⟩ (.int .u64 ((l.ht : Int) + 1))).setCell ⟨b, 3, none⟩ (.int .i64 1)).setCell ⟨b, 8, none⟩ (.int .i64 1)).setCell ⟨b, 9, none⟩ (.int .i64 0)).setCell ⟨b, 12, none⟩ (.bool false)).setCell ⟨b, 13, none⟩ (.bool false)).setCell ⟨b, 14, none⟩ (.bool false)).setCell ⟨b, 15, none⟩ (.bool false)).setCell ⟨b, 16, none⟩ (.bool false)) ((((((((((w1.setCell ⟨b, 11, none⟩ (.int .i64 0)).setCell ⟨b, 2, none⟩ (.int .u64 ((l.ht : Int) + 1))).setCell ⟨b, 3, none⟩ (.int .i64 1)).setCell ⟨b, 8, none⟩ (.int .i64 1)).setCell ⟨b, 9, none⟩ (.int .i64 0)).setCell ⟨b, 12, none⟩ (.bool false)).setCell ⟨b, 13, none⟩ (.bool false)).setCell ⟨b, 14, none⟩ (.bool false)).setCell ⟨b, 15, none⟩ (.bool false)).setCell ⟨b, 16, none⟩ (.bool false)).drew.drew := keep_drew2 _ _
  have k6 : Keep (fun j => j = b) w1 ((((((((((w1.setCell ⟨b, 11, none⟩ (.int .i64 0)).setCell ⟨b, 2, none⟩ (.int .u64 ((l.ht : Int) + 1))).setCell ⟨b, 3, none⟩ (.int .i64 1)).setCell ⟨b, 8, none⟩ (.int .i64 1)).setCell ⟨b, 9, none⟩ (.int .i64 0)).setCell ⟨b, 12, none⟩ (.bool false)).setCell ⟨b, 13, none⟩ (.bool false)).setCell ⟨b, 14, none⟩ (.bool false)).setCell ⟨b, 15, none⟩ (.bool false)).setCell ⟨b, 16, none⟩ (.bool false)).drew.drew := e9.trans e10
  clear e0 e1 e2 e3 e4 e5 e6 e7 e8 e9 e10
  have q6 := (World.cell?_of_block (w := w1) (a := ⟨w.heap.size, 0, none⟩) (k6.block _ (lt_of_block H0.out) (fun e => hnb e.symm))).trans p1
  clear m0 m1 m2 m3 m4 m5 m6 m7 m8 m9
  generalize ((((((((((w1.setCell ⟨b, 11, none⟩ (.int .i64 0)).setCell ⟨b, 2, none⟩ (.int .u64 ((l.ht : Int) + 1))).setCell ⟨b, 3, none⟩ (.int .i64 1)).setCell ⟨b, 8, none⟩ (.int .i64 1)).setCell ⟨b, 9, none⟩ (.int .i64 0)).setCell ⟨b, 12, none⟩ (.bool false)).setCell ⟨b, 13, none⟩ (.bool false)).setCell ⟨b, 14, none⟩ (.bool false)).setCell ⟨b, 15, none⟩ (.bool false)).setCell ⟨b, 16, none⟩ (.bool false)).drew.drew = w6 at *
  have HK6 := hid k6
  have HO6 := hid (HO1.out.term (by omega) k6 n6)
  have CO6 := hid (fun g => others1_any n6 g)
  have HB6 : Hid (B ≤ w6.heap.size) := hid (by have := HB.out.size; have := k6.size; omega)
  have HE6 : Hid (l.term.es = []) := hid he
  obtain ⟨c0', -⟩ := n6.cells
  have HC0 := hid c0'
  have HQ6 := hid q6
  obtain ⟨S9, hS9⟩ : ∃ S9 : World → Prop, S9 = fun V => V.cell? ⟨w.heap.size, 0, none⟩ = some (.pointer (some ⟨b, 0, none⟩)) ∧ V.cell? ⟨b, 0, none⟩ = some (.int .i64 0) := ⟨_, rfl⟩
  have HZ : Hid (∀ V, S9 V → V.cell? ⟨w.heap.size, 0, none⟩ = some (.pointer (some ⟨b, 0, none⟩)) ∧ V.cell? ⟨b, 0, none⟩ = some (.int .i64 0)) := hid fun V h => by rw [hS9] at h; exact h
  have HS : Hid (∀ V, V.cell? ⟨w.heap.size, 0, none⟩ = some (.pointer (some ⟨b, 0, none⟩)) → V.cell? ⟨b, 0, none⟩ = some (.int .i64 0) → S9 V) := hid fun V h h2 => by rw [hS9]; exact ⟨h, h2⟩
  have HWd : Hid (Below w6.heap.size w6 w6.drew) := hid ⟨rfl, rfl, rfl, Nat.le_refl _, fun _ _ => rfl⟩
  have HOd := hid (HO6.out.old HWd.out)
  have CCd := hid (counted1_any HOd.out hz HE6.out (Nat.le_trans HB6.out HWd.out.size))
  have HSd : Hid (S9 w6.drew) := hid (HS.out _ HQ6.out HC0.out)
  have HQL : Hid (w.heap.size < w6.drew.heap.size) := hid (World.block_lt_of_cell? w6 _ q6)
  have HRB : Hid (∀ k, (Value.slice l.eo l.es.length l.ec).ownBlock = some k → k < w.heap.size) := hid fun k hk => (HO.out.own.own.lt k hk).2
  clear n6 k6 p1 c0 c2 c3 c8 c9 c11 f2 f3 f8 f9 f11 f12 f13 f14 f15 f16 x12 x13 x14 x15 x16 c0' hS9
  go_upto_region 7 with (first | (go_at_call 40; refine (CO6.out _).mono ?_; rintro en w9 ⟨rfl, hw9⟩; subst hw9))
  clear q6
  refine wp_region_noPanic ?_
  refine wp_region_held_drew (S := S9) (by kernel_rfl) (HSd.out) (fun hHeld => ?_)
  generalize w9.drew = Wd at *
  refine wpAnyH_take (i := 0) (v := (.pointer (some ⟨b, 0, none⟩))) rfl (by kernel_rfl) (by kernel_rfl) (by kernel_rfl) (fun _ _ _ h => (show False from h).elim) ?xyRI1 ?xhRI1 ?xrRI1
  case xhRI1 => exact hHeld
  case xyRI1 => exact Or.inl ⟨by rfl, fun W9 hW => by obtain ⟨y0, y1⟩ := HZ.out _ hW; clear hHeld; simp only [List.getElem_toArray, List.getElem_cons_succ, List.getElem_cons_zero]; go_simp⟩
  simp only [Act.put, List.getElem_toArray, List.getElem_cons_succ, List.getElem_cons_zero, List.setIfInBounds_toArray, List.set_cons_succ, List.set_cons_zero]
  refine wpAnyH_take (i := 1) (v := (.pointer (some ⟨b, 0, none⟩))) rfl (by kernel_rfl) (by kernel_rfl) (by kernel_rfl) (fun _ _ _ h => (show False from h).elim) ?xyRI2 ?xhRI2 ?xrRI2
  case xhRI2 => exact hHeld
  case xyRI2 => exact Or.inl ⟨by rfl, fun W9 hW => by obtain ⟨y0, y1⟩ := HZ.out _ hW; clear hHeld; simp only [List.getElem_toArray, List.getElem_cons_succ, List.getElem_cons_zero]; go_simp⟩
  simp only [Act.put, List.getElem_toArray, List.getElem_cons_succ, List.getElem_cons_zero, List.setIfInBounds_toArray, List.set_cons_succ, List.set_cons_zero]
  refine wpAnyH_take (i := 2) (v := (.pointer (some ⟨b, 0, none⟩))) rfl (by kernel_rfl) (by kernel_rfl) (by kernel_rfl) (fun _ _ _ h => (show False from h).elim) ?xyRI3 ?xhRI3 ?xrRI3
  case xhRI3 => exact hHeld
  case xyRI3 => exact Or.inl ⟨by rfl, fun W9 hW => by clear hHeld; simp only [List.getElem_toArray, List.getElem_cons_succ, List.getElem_cons_zero]; go_simp⟩
  simp only [Act.put, List.getElem_toArray, List.getElem_cons_succ, List.getElem_cons_zero, List.setIfInBounds_toArray, List.set_cons_succ, List.set_cons_zero]
  refine wpAnyH_take (i := 3) (v := (.pointer (some ⟨b, 0, none⟩))) rfl (by kernel_rfl) (by kernel_rfl) (by kernel_rfl) (fun _ _ _ h => (show False from h).elim) ?xyRI4 ?xhRI4 ?xrRI4
  case xhRI4 => exact hHeld
  case xyRI4 => exact Or.inl ⟨by rfl, fun W9 hW => by clear hHeld; simp only [List.getElem_toArray, List.getElem_cons_succ, List.getElem_cons_zero]; go_simp⟩
  simp only [Act.put, List.getElem_toArray, List.getElem_cons_succ, List.getElem_cons_zero, List.setIfInBounds_toArray, List.set_cons_succ, List.set_cons_zero]
  refine wpAnyH_take (i := 4) (v := (.int .i64 0)) rfl (by kernel_rfl) (by kernel_rfl) (by kernel_rfl) (fun _ _ _ h => (show False from h).elim) ?xyRI5 ?xhRI5 ?xrRI5
  case xhRI5 => exact hHeld
  case xyRI5 => exact Or.inl ⟨by rfl, fun W9 hW => by obtain ⟨y0, y1⟩ := HZ.out _ hW; clear hHeld; simp only [List.getElem_toArray, List.getElem_cons_succ, List.getElem_cons_zero]; go_simp⟩
  simp only [Act.put, List.getElem_toArray, List.getElem_cons_succ, List.getElem_cons_zero, List.setIfInBounds_toArray, List.set_cons_succ, List.set_cons_zero]
  refine wpAnyH_ready (rs := [5]) (by kernel_rfl) (by simp) ?_
  refine AllReadyH.cons rfl (fun K hK => ?_) AllReadyH.nil
  go_simp
  go_wp2_with (first | (go_at_call 71; refine CCd.out.mono ?_; rintro en wL ⟨rfl, hLL⟩; have HLL := hid hLL; clear hLL))
  refine hK.out _ _ (by obtain ⟨po, pc, q1, q2⟩ := HLL.out; obtain ⟨d0, -⟩ := q1.nd.cells; exact HS.out _ ((World.cell?_of_block (w := Wd) (a := ⟨w.heap.size, 0, none⟩) (q2.block _ HQL.out (fun e => e.elim (fun e => hnb e.symm) (fun e => absurd (HRB.out _ e) (Nat.lt_irrefl _))))).trans (HZ.out _ HSd.out).1) d0) (fun hHeld => ?_)
  clear hK K
  refine wpAnyH_done (by kernel_rfl) ?_ _
  refine NoPanic.normal ?_
  go_wp2_with fail
  go_end0
  obtain ⟨po, pc, q1, q2⟩ := HLL.out
  exact ⟨rfl, po, pc, q1, (((Keep.of_below HB.out).trans (HK6.out.mono (fun k _ e => .inl e))).trans (Keep.of_below HWd.out)).trans q2⟩

/-- A tick: not yet. -/
theorem tick1_wait (h : One B w b l 0 0 0 tk false) (ht : 0 ≤ tk ∧ tk + 1 < 10) : Calls Try.prog 21 #[.pointer (some ⟨b, 0, none⟩)] w (fun e w' => e = .returned (.tuple #[]) ∧ One B w' b l 0 0 0 (tk + 1) false ∧ Keep (fun j => j = b) w w') := by
  obtain ⟨c0, -, -, -, -, -, -, -, c8, -, -, c11, -⟩ := h.nd.cells
  have f11 := h.nd.soft 11
  have h1 : NdAt (w.setCell ⟨b, 11, none⟩ (.int .i64 (tk + 1))) b 0 1 l 0 0 0 (tk + 1) false := set_at (k := 11) (.int .i64 (tk + 1)) h.nd
  have hk1 := Keep.set (X := fun j => j = b) w ⟨b, 11, none⟩ (.int .i64 (tk + 1)) rfl
  have H1 := hid (h.keep hk1 h1)
  have HK1 := hid hk1
  have CN := hid (rnone_any h.nd (by omega))
  have hw : IntKind.i64.wrap (tk + 1) = tk + 1 := by rw [IntKind.wrap_i64]; omega
  have hge : ¬ (tk + 1 ≥ 10) := by omega
  clear h h1 hk1
  go_enter Try.func21, Try.ntmps21
  go_upto_region 4 with (first | (go_at_call 36; refine CN.out.mono ?_; rintro en w2 ⟨rfl, rfl⟩))
  go_quiet (fail)
  go_wp2_with fail
  go_end0
  exact ⟨rfl, H1.out.old ⟨rfl, rfl, rfl, Nat.le_refl _, fun _ _ => rfl⟩, HK1.out.trans ⟨rfl, rfl, rfl, Nat.le_refl _, fun _ _ _ => rfl⟩⟩

theorem tick1_elect (h : One B w b l 0 0 0 9 false) (hz : l.si = 0) (he : l.es = []) (hB : B ≤ w.heap.size) (hht : l.ht + 1 < 18446744073709551615) : Calls Try.prog 21 #[.pointer (some ⟨b, 0, none⟩)] w (Leads B b l.term w) := by
  obtain ⟨c0, -, -, -, -, -, -, -, c8, -, -, c11, -⟩ := h.nd.cells
  have f11 := h.nd.soft 11
  have h1 : NdAt (w.setCell ⟨b, 11, none⟩ (.int .i64 10)) b 0 1 l 0 0 0 10 false := set_at (k := 11) (.int .i64 10) h.nd
  have hk1 := Keep.set (X := fun j => j = b) w ⟨b, 11, none⟩ (.int .i64 10) rfl
  have H1 := hid (h.keep hk1 h1)
  have HK1 := hid hk1
  have CN := hid (rnone_any h.nd (by omega))
  have CE : Hid (∀ W, Below (w.setCell ⟨b, 11, none⟩ (.int .i64 10)).heap.size (w.setCell ⟨b, 11, none⟩ (.int .i64 10)) W → Calls Try.prog 51 #[.pointer (some ⟨b, 0, none⟩)] W (Leads B b l.term W)) := hid fun W hW => elect1_any (H1.out.old hW) hz he (Nat.le_trans hB (Nat.le_trans hk1.size hW.size)) hht
  clear h h1 hk1
  go_enter Try.func21, Try.ntmps21
  go_upto_region 4 with (first | (go_at_call 36; refine CN.out.mono ?_; rintro en w2 ⟨rfl, rfl⟩))
  go_quiet (fail)
  have hbd : Below (w2.setCell ⟨b, 11, none⟩ (.int .i64 10)).heap.size (w2.setCell ⟨b, 11, none⟩ (.int .i64 10)) ((w2.setCell ⟨b, 11, none⟩ (.int .i64 10)).drewN nq) := ⟨rfl, rfl, rfl, Nat.le_refl _, fun _ _ => rfl⟩
  have CEd := hid (CE.out _ hbd)
  have HBD := hid hbd
  clear hbd
  go_wp2_with (first | (go_at_call 51; refine CEd.out.mono ?_; rintro en wL ⟨rfl, hLL⟩; have HLL := hid hLL; clear hLL))
  go_end0
  obtain ⟨po, pc, q1, q2⟩ := HLL.out
  exact ⟨rfl, po, pc, q1, ((HK1.out.mono (fun k _ e => .inl e)).trans (Keep.of_below HBD.out)).trans q2⟩

/-- A tick of who leads. -/
theorem tick1_lead (h : One B w b l 2 1 cm tk v) (ht : 0 ≤ tk ∧ tk + 1 < 3) : Calls Try.prog 21 #[.pointer (some ⟨b, 0, none⟩)] w (fun e w' => e = .returned (.tuple #[]) ∧ One B w' b l 2 1 cm (tk + 1) v ∧ Keep (fun j => j = b) w w') := by
  obtain ⟨c0, -, -, -, -, -, -, -, c8, -, -, c11, -⟩ := h.nd.cells
  have f11 := h.nd.soft 11
  have h1 : NdAt (w.setCell ⟨b, 11, none⟩ (.int .i64 (tk + 1))) b 0 1 l 2 1 cm (tk + 1) v := set_at (k := 11) (.int .i64 (tk + 1)) h.nd
  have hk1 := Keep.set (X := fun j => j = b) w ⟨b, 11, none⟩ (.int .i64 (tk + 1)) rfl
  have H1 := hid (h.keep hk1 h1)
  have HK1 := hid hk1
  have CN := hid (rnone_any h.nd (by omega))
  have hw : IntKind.i64.wrap (tk + 1) = tk + 1 := by rw [IntKind.wrap_i64]; omega
  have hge : ¬ (tk + 1 ≥ 3) := by omega
  clear h h1 hk1
  go_enter Try.func21, Try.ntmps21
  go_upto_region 4 with (first | (go_at_call 36; refine CN.out.mono ?_; rintro en w2 ⟨rfl, rfl⟩))
  go_quiet (fail)
  go_wp2_with fail
  go_end0
  exact ⟨rfl, H1.out.old ⟨rfl, rfl, rfl, Nat.le_refl _, fun _ _ => rfl⟩, HK1.out.trans ⟨rfl, rfl, rfl, Nat.le_refl _, fun _ _ _ => rfl⟩⟩
end
end Go.Proofs.Ytdaecndbdinddaa
