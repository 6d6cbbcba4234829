/-
  THE LAW RaftNil: its walk.
-/
import Derived.Test.YtdaecndbdinddaaRl
import Derived.Test.YtdaecndbdinddaaRlaw
set_option linter.unusedVariables false
set_option linter.unusedSimpArgs false
set_option maxRecDepth 100000
namespace Go.Proofs.Ytdaecndbdinddaa
open Go.RowKit Go.Deep Go.ChangeShapes Go.WideShapes Go.ChangeAt

theorem lo0_v : lo0.v = .agg #[.int .u64 0, .int .i64 0, .int .u64 0, .int .u64 0, .slice none 0 0, .slice none 0 0] := rfl
/-- A message that came in. -/
theorem msg_open {W : World} {base : Nat} {x : Value} (hw : Value.okWide Try.prog W .any base 32 x) : ∃ x0 x1 x2 x3 x4 x5 x6 x7 x8 x9, x = .agg #[x0, x1, x2, x3, x4, x5, x6, x7, x8, x9] := by
  have hcv : Try.prog.cellsOf 32 = 10 := by kernel_rfl
  unfold Value.okWide at hw
  rw [Try.underlying32] at hw
  obtain ⟨cs, rfl, hsz, -⟩ := hw
  have hl : cs.toList.length = 10 := by rw [Array.length_toList, hsz]; exact hcv
  obtain ⟨L, hL⟩ : ∃ L, L = cs.toList := ⟨_, rfl⟩
  rw [← hL] at hl
  have hcs : cs = L.toArray := by rw [hL]
  subst hcs
  match L, hl with
  | [x0, x1, x2, x3, x4, x5, x6, x7, x8, x9], _ => exact ⟨x0, x1, x2, x3, x4, x5, x6, x7, x8, x9, rfl⟩

namespace raftNil
set_option maxHeartbeats 8000000 in
theorem walk0 (x0 x1 x2 x3 x4 x5 x6 x7 x8 x9 : Value) (bv : Value) (at_ : Int) (w : World) : Calls Try.prog 7 #[.agg #[x0, x1, x2, x3, x4, x5, x6, x7, x8, x9], bv, .int .u64 at_] w (fun e w' => e = .returned (.bool true) ∧ Below w.heap.size w w') := by
  have hb : Below w.heap.size w (w.alloc (.cells #[x0, x1, x2, x3, x4, x5, x6, x7, x8, x9] 32)) := (Below.refl _ _).alloc (Nat.le_refl _) _
  have h0 := heap_alloc_new w (.cells #[x0, x1, x2, x3, x4, x5, x6, x7, x8, x9] 32)
  go_enter Try.func7, Try.ntmps7
  go_upto_region 1 with fail
  generalize w.alloc (.cells #[x0, x1, x2, x3, x4, x5, x6, x7, x8, x9] 32) = w1 at *
  have HB := hid hb
  have H0 := hid h0
  clear hb h0
  go_upto_region 4 with (first
    | (go_at_call 21; refine (tick_nil _).mono ?_; rintro en w2 ⟨rfl, rfl⟩)
    | (go_at_call 15; refine (propose_nil _ _).mono ?_; rintro en w3 ⟨rfl, hb3⟩; have HB3 := hid (HB.out.trans (hb3.mono HB.out.size)); have H03 := hid ((hb3.block _ (lt_of_block H0.out)).trans H0.out); clear hb3))
  go_wp2_with (first
    | (go_at_call 11; refine (rawake_any _).mono ?_; rintro en wA ⟨rfl, hbA⟩; have HBA := hid (HB3.out.trans (hbA.mono HB3.out.size)); have hA := (hbA.block _ (lt_of_block H03.out)).trans H03.out; have y0 : wA.cell? ⟨w.heap.size, 0, none⟩ = some x0 := (by simp [World.cell?, hA]); have y1 : wA.cell? ⟨w.heap.size, 1, none⟩ = some x1 := (by simp [World.cell?, hA]); have y2 : wA.cell? ⟨w.heap.size, 2, none⟩ = some x2 := (by simp [World.cell?, hA]); have y3 : wA.cell? ⟨w.heap.size, 3, none⟩ = some x3 := (by simp [World.cell?, hA]); have y4 : wA.cell? ⟨w.heap.size, 4, none⟩ = some x4 := (by simp [World.cell?, hA]); have y5 : wA.cell? ⟨w.heap.size, 5, none⟩ = some x5 := (by simp [World.cell?, hA]); have y6 : wA.cell? ⟨w.heap.size, 6, none⟩ = some x6 := (by simp [World.cell?, hA]); have y7 : wA.cell? ⟨w.heap.size, 7, none⟩ = some x7 := (by simp [World.cell?, hA]); have y8 : wA.cell? ⟨w.heap.size, 8, none⟩ = some x8 := (by simp [World.cell?, hA]); have y9 : wA.cell? ⟨w.heap.size, 9, none⟩ = some x9 := (by simp [World.cell?, hA]); clear hbA hA)
    | (go_at_call 29; refine (step_nil _ _ _ _ _ _ _ _ _ _ _).mono ?_; rintro en wS ⟨rfl, hbS⟩; have HBS := hid (HBA.out.trans (hbS.mono HBA.out.size)); clear hbS)
    | (go_at_call 24; refine (compact_nil _ _ _).mono ?_; rintro en w5 ⟨rfl, hw5⟩; subst hw5)
    | (go_at_call 25; refine (log_nil _).mono ?_; rintro en wL ⟨rfl, hbL⟩; have HBL := hid (HBS.out.trans (hbL.mono HBS.out.size)); clear hbL)
    | (go_at_call 28; refine (hlog_any lo0 lo0 _ (lo0_at _) (lo0_at _)).mono ?_; rintro en wH ⟨rfl, hbH⟩; have HBH := hid (HBL.out.trans (hbH.mono HBL.out.size)); clear hbH; have hd : decide (lo0.pl = lo0.pl) = true := by simp)
    | (go_at_call 23; refine (take_nil _).mono ?_; rintro en w6 ⟨rfl, hw6⟩; subst hw6)
    | (go_at_call 18; refine (known_nil _ _).mono ?_; rintro en w7 ⟨rfl, hw7⟩; subst hw7)
    | (go_at_call 17; refine (status_nil _).mono ?_; rintro en wT ⟨rfl, hbT⟩; have HBT := hid (HBH.out.trans (hbT.mono HBH.out.size)); clear hbT))
  go_ret
  exact ⟨rfl, HBT.out⟩

theorem walk {H : Type} {enc : TypeId × Value → H} {base : Nat} {d : DataW H} {p : List MemPlace} (v0 : Value) (a1 : Option Addr) (len1 cap1 : Nat) (z1 : List Int) (a2 : Int) (W : World) (hv0 : Value.okWide Try.prog W .any base 32 v0) (h0 : DataW.Trod enc Try.prog W 0 (fun _ => true) true 32 v0 d p) (w1 : IsRow .u8 W a1 len1 cap1 z1) (b1 : cap1 * 1 ≤ 140737488351232) (w2 : (Lit.int .u64 a2).wf = true) :
    Calls Try.prog 7 #[v0, .slice a1 len1 cap1, .int .u64 a2] W (fun e W' => e = .returned (.bool true) ∧ Below W.heap.size W W') := by
  obtain ⟨x0, x1, x2, x3, x4, x5, x6, x7, x8, x9, rfl⟩ := msg_open hv0
  exact walk0 x0 x1 x2 x3 x4 x5 x6 x7 x8 x9 _ a2 W
end raftNil
end Go.Proofs.Ytdaecndbdinddaa
