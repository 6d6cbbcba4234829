/-
  CODE's READER: Int, Small, Text, End; a nil reader; New.
-/
import Derived.Test.YtmkcdckemaohdaaClone
namespace Go.Proofs.Ytmkcdckemaohdaa
open Go.RowKit

theorem unzig_facts {v : Nat} (h : v < 2 ^ 64) :
    IntKind.i64.wrap ((v : Int) / 2) = (v : Int) / 2 ∧ bits BinOp.and IntKind.u64 (v : Int) 1 = ((v % 2 : Nat) : Int) ∧ bits BinOp.xor IntKind.i64 (-1) ((v : Int) / 2) = -1 - (v : Int) / 2 := by
  refine ⟨?_, ?_, i64_not (by omega)⟩
  · rw [IntKind.wrap_i64]; omega
  · have h1 := u64_and_nat v 1 (by omega) (by omega)
    rw [nat_mask1] at h1
    exact h1

set_option maxHeartbeats 1000000 in
set_option maxRecDepth 100000 in
theorem intR_any (w : World) (R : Nat) (l : List UInt8) (e : Int) (h : RAt w R l e) :
    Calls Try.prog 22 #[.pointer (some ⟨R, 0, none⟩)] w (NumIs w R (lookS maxU l e) (.int .i64 (unzig (lookS maxU l e).1)) l) := by
  have hlt := lookS_lt maxU l e
  obtain ⟨f1, f2, f3⟩ := unzig_facts hlt
  go_enter Try.func22, Try.ntmps22
  go_wp2_with fail
  refine (numR_any w R l e h).mono ?_
  rintro en w1 ⟨rfl, h1, g1⟩
  have HE := hid (And.intro h1 g1)
  clear h1 g1 h hlt
  have hu : Hid (unzig (lookS maxU l e).1 = if (lookS maxU l e).1 % 2 = 1 then -1 - ((lookS maxU l e).1 : Int) / 2 else ((lookS maxU l e).1 : Int) / 2) := by unfold unzig; split <;> (show _ = _) <;> omega
  generalize lookS maxU l e = t at *
  obtain ⟨v, n, er⟩ := t
  simp only at *
  by_cases t1 : v % 2 = 1
  · have t2 : ((v % 2 : Nat) : Int) = 1 := by omega
    rw [t2] at f2
    have hv : Hid (-1 - (v : Int) / 2 = unzig v) := by rw [hu.out, if_pos t1]; exact rfl
    clear hu t1 t2
    go_wp2_with fail
    go_ret
    exact ⟨by rw [← hv.out]; rfl, HE.out⟩
  · have t2 : ((v % 2 : Nat) : Int) = 0 := by omega
    rw [t2] at f2
    have hv : Hid ((v : Int) / 2 = unzig v) := by rw [hu.out, if_neg t1]; exact rfl
    clear hu t1 t2
    go_wp2_with fail
    go_ret
    exact ⟨by rw [← hv.out]; rfl, HE.out⟩

set_option maxHeartbeats 1000000 in
set_option maxRecDepth 100000 in
theorem smallR_any (w : World) (R : Nat) (l : List UInt8) (e : Int) (z : Int) (hz : (Lit.int .i64 z).wf = true) (h : RAt w R l e) :
    Calls Try.prog 24 #[.pointer (some ⟨R, 0, none⟩), .int .i64 z] w (NumIs w R (lookS (nn z) l e) (.int .i64 ((lookS (nn z) l e).1 : Nat)) l) := by
  have hm := lookS_most (nn z) l e
  have hle := hid (lookS_le (nn z) l e)
  have hb := bounds_i64 hz
  have hw : IntKind.i64.wrap ((lookS (nn z) l e).1 : Int) = ((lookS (nn z) l e).1 : Int) := by
    rw [IntKind.wrap_i64]; unfold nn at *; omega
  have HW := hid hw
  clear hw hb hm
  go_enter Try.func24, Try.ntmps24
  go_wp2_with fail
  refine (bound_any _ z hz).mono ?_
  rintro en w1 ⟨rfl, rfl⟩
  go_wp2_with fail
  refine (look_any w R (nn z) l e h).mono ?_
  rintro en w1 ⟨rfl, h1, g1⟩
  go_wp2_with fail
  refine (pass_any w1 R _ l _ h1 hle.out).mono ?_
  rintro en w2 ⟨rfl, h2, g2⟩
  have HE := hid (And.intro h2 (grown_trans g1 g2))
  clear h1 g1 h2 g2
  have hw := HW.out
  go_wp2_with fail
  go_ret
  exact ⟨rfl, HE.out⟩

theorem lookS_num' {l : List UInt8} : lookS maxU l 0 = rdN 0 0 l := by
  have hb := (rdN_bounds l 0 0 (by decide) (by omega)).1
  unfold lookS
  rw [if_neg (by simp), if_neg (by unfold maxU; omega)]

/-- A text is read: its bytes; how far the reader goes on; its fault. -/
def textS (m : Nat) (l : List UInt8) (e : Int) : List UInt8 × Nat × Int :=
  if (lookS m l e).2.1 = 0 then ([], 0, (lookS m l e).2.2)
  else if l.length - (lookS m l e).2.1 < (lookS m l e).1 then ([], 0, 8)
  else ((l.drop (lookS m l e).2.1).take (lookS m l e).1, (lookS m l e).2.1 + (lookS m l e).1, (lookS m l e).2.2)

def TextIs (w : World) (R : Nat) (t : List UInt8 × Nat × Int) (l : List UInt8) (en : Ending) (w' : World) : Prop :=
  ∃ (ao : Option Addr) (c : Nat), en = .returned (.slice ao t.1.length c) ∧ w'.ownsRow w.heap.size 5 1 (.slice ao t.1.length c) t.1.length (t.1.map bv) ∧ RAt w' R (l.drop t.2.1) t.2.2 ∧ w.grownBy w' (some R)

set_option maxHeartbeats 1000000 in
set_option maxRecDepth 100000 in
theorem textR_any (w : World) (R : Nat) (l : List UInt8) (e : Int) (z : Int) (hz : (Lit.int .i64 z).wf = true) (h : RAt w R l e) (hl : l.length ≤ 140737488355328) :
    Calls Try.prog 26 #[.pointer (some ⟨R, 0, none⟩), .int .i64 z] w (TextIs w R (textS (nn z) l e) l) := by
  have hm := lookS_most (nn z) l e
  have hle := lookS_le (nn z) l e
  have HT : Hid (textS (nn z) l e = if (lookS (nn z) l e).2.1 = 0 then ([], 0, (lookS (nn z) l e).2.2)
    else if l.length - (lookS (nn z) l e).2.1 < (lookS (nn z) l e).1 then ([], 0, 8)
    else ((l.drop (lookS (nn z) l e).2.1).take (lookS (nn z) l e).1, (lookS (nn z) l e).2.1 + (lookS (nn z) l e).1, (lookS (nn z) l e).2.2)) := rfl
  go_enter Try.func26, Try.ntmps26
  go_wp2_with fail
  refine (bound_any _ z hz).mono ?_
  rintro en w1 ⟨rfl, rfl⟩
  go_wp2_with fail
  refine (look_any w R (nn z) l e h).mono ?_
  rintro en w1 ⟨rfl, h1, g1⟩
  generalize lookS (nn z) l e = t at *
  obtain ⟨v, n, er⟩ := t
  simp only at *
  by_cases t1 : n = 0
  · have HF : Hid (textS (nn z) l e = ([], 0, er)) := by rw [HT.out, if_pos t1]; exact rfl
    have t1' : (n : Int) = 0 := by omega
    have HE := hid (And.intro h1 g1)
    clear HT h1 g1 h t1
    go_wp2_with fail
    go_ret
    refine ⟨none, 0, ?_, ?_, ?_⟩
    · rw [HF.out]; rfl
    · rw [HF.out]; exact World.ownsRow_nil _ _ _ _
    · rw [HF.out]; exact HE.out
  · have t1' : ¬ (n : Int) = 0 := by omega
    have hq : IntKind.u64.wrap ((l.length : Int) - (n : Int)) = (l.length : Int) - (n : Int) := by rw [wrap_u64]; omega
    by_cases t2 : l.length - n < v
    · have HF : Hid (textS (nn z) l e = ([], 0, 8)) := by rw [HT.out, if_neg t1, if_pos t2]; exact rfl
      have HE := hid (h1.fault 8)
      have Hg := hid g1
      obtain ⟨ao, c, a1, a2, a3⟩ := h1
      obtain ⟨c0, c1, f0, f1⟩ := two_cells a1
      have t2' : (l.length : Int) - (n : Int) < (v : Int) := by omega
      clear HT h t1 g1 a1 a2 a3 t2
      go_wp2_with fail
      go_ret
      refine ⟨none, 0, ?_, ?_, ?_⟩
      · rw [HF.out]; rfl
      · rw [HF.out]; exact World.ownsRow_nil _ _ _ _
      · rw [HF.out]; exact ⟨HE.out.1, grown_trans Hg.out HE.out.2⟩
    · have HF : Hid (textS (nn z) l e = ((l.drop n).take v, n + v, er)) := by rw [HT.out, if_neg t1, if_neg t2]; exact rfl
      have H1 := hid h1
      have Hg := hid g1
      obtain ⟨ao, c, a1, a2, a3⟩ := h1
      obtain ⟨c0, c1, f0, f1⟩ := two_cells a1
      have t2' : ¬ (l.length : Int) - (n : Int) < (v : Int) := by omega
      have hdl : (l.drop n).length = l.length - n := List.length_drop
      have htl : ((l.drop n).take v).length = v := by rw [List.length_take]; omega
      have Hdl := hid hdl
      have Htl := hid htl
      clear HT h t1 g1 a1 a2 a3 hdl htl
      go_wp2_with fail
      refine (pass_any w1 R _ l _ H1.out hle).mono ?_
      rintro en w2 ⟨rfl, h2, g2⟩
      have H2 := hid h2
      have Hg2 := hid g2
      clear c0 c1 f0 f1 hq H1
      obtain ⟨ao2, c2, a1, a2, a3⟩ := h2
      obtain ⟨c0, c1, f0, f1⟩ := two_cells a1
      have a5 := hid (a2.take v (by rw [Hdl.out]; omega))
      have hv2 : (v : Int) ≤ (c2 : Int) := by obtain ⟨_, _, hx, hx1, _⟩ := a2; simp only [Value.slice.injEq] at hx; have := Hdl.out; omega
      clear g2 a1 a2 a3
      go_wp2_with fail
      refine (clone_any w2 _ _ a5.out (by rw [Htl.out]; omega)).mono ?_
      rintro en w3 h3
      obtain ⟨ao4, c4, rfl, h4, h5⟩ := h3.elim
      rw [Htl.out]
      have H6 := hid (H2.out.old h5)
      have HO := hid h4
      have Hb := hid h5
      clear h3 h4 h5 a5 c0 c1 f0 f1
      go_wp2_with fail
      refine (pass_any w3 R v (l.drop n) er H6.out (by rw [Hdl.out]; omega)).mono ?_
      rintro en w4 ⟨rfl, h7, g7⟩
      have HE := hid (And.intro h7 g7)
      clear h7 g7
      go_wp2_with fail
      go_ret
      have hne : ∀ k, (Value.slice ao4 ((l.drop n).take v).length c4).ownBlock = some k → w2.heap.size ≤ k := fun k hk => (HO.out.lt k hk).1
      have hs1 := Hg.out.size
      have hs2 := Hg2.out.size
      have hs3 := Hb.out.size
      have hR := H2.out.lt
      refine ⟨ao4, c4, ?_, ?_, ?_, ?_⟩
      · rw [HF.out]; simp only [Htl.out]; rfl
      · rw [HF.out]
        have h8 := HO.out.kept HE.out.2 (by
          cases ho : (Value.slice ao4 ((l.drop n).take v).length c4).ownBlock with
          | none => exact .inl rfl
          | some k => right; intro hk; have := hne k ho; simp at hk; omega)
        exact ownsRow_base h8 (by omega)
      · rw [HF.out]
        have := HE.out.1
        rw [List.drop_drop] at this
        exact this
      · exact grown_trans (grown_trans (grown_trans Hg.out Hg2.out) (grown_below Hb.out _)) HE.out.2

/-- What End answers. -/
def endS (l : List UInt8) (e : Int) : Int := if e ≠ 0 then e else if 0 < l.length then 9 else 0

set_option maxHeartbeats 1000000 in
set_option maxRecDepth 100000 in
theorem endR_any (w : World) (R : Nat) (l : List UInt8) (e : Int) (h : RAt w R l e) :
    Calls Try.prog 32 #[.pointer (some ⟨R, 0, none⟩)] w fun en w' => en = .returned (.int .i64 (endS l e)) ∧ w = w' := by
  have HE : Hid (endS l e = if e ≠ 0 then e else if 0 < l.length then 9 else 0) := rfl
  go_enter Try.func32, Try.ntmps32
  go_wp2_with fail
  refine (err_any w R l e h).mono ?_
  rintro en w1 ⟨rfl, rfl⟩
  by_cases t1 : e = 0
  · by_cases t2 : 0 < l.length
    · have HF : Hid (endS l e = 9) := by rw [HE.out, if_neg (by simpa using t1), if_pos t2]; exact rfl
      have hh := hid h
      subst t1
      clear h HE
      go_wp2_with fail
      refine (left_any w R l 0 hh.out).mono ?_
      rintro en w1 ⟨rfl, rfl⟩
      go_wp2_with fail
      go_ret
      exact ⟨by rw [HF.out]; rfl, rfl⟩
    · have HF : Hid (endS l e = 0) := by rw [HE.out, if_neg (by simpa using t1), if_neg t2]; exact rfl
      have hh := hid h
      subst t1
      clear h HE
      go_wp2_with fail
      refine (left_any w R l 0 hh.out).mono ?_
      rintro en w1 ⟨rfl, rfl⟩
      go_wp2_with fail
      go_ret
      exact ⟨by rw [HF.out]; rfl, rfl⟩
  · have HF : Hid (endS l e = e) := by rw [HE.out, if_pos t1]; exact rfl
    clear h HE
    go_wp2_with fail
    go_ret
    exact ⟨by rw [HF.out]; rfl, rfl⟩

/-! ### A nil reader. -/
set_option maxHeartbeats 1000000 in
set_option maxRecDepth 100000 in
theorem err_nil (w : World) : Calls Try.prog 31 #[.pointer none] w fun en w' => en = .returned (.int .i64 2) ∧ w = w' := by
  go_enter Try.func31, Try.ntmps31
  go_wp2_with fail
  go_ret
  exact ⟨rfl, rfl⟩

set_option maxHeartbeats 1000000 in
set_option maxRecDepth 100000 in
theorem left_nil (w : World) : Calls Try.prog 30 #[.pointer none] w fun en w' => en = .returned (.int .i64 0) ∧ w = w' := by
  go_enter Try.func30, Try.ntmps30
  go_wp2_with fail
  go_ret
  exact ⟨rfl, rfl⟩

set_option maxHeartbeats 1000000 in
set_option maxRecDepth 100000 in
theorem end_nil (w : World) : Calls Try.prog 32 #[.pointer none] w fun en w' => en = .returned (.int .i64 2) ∧ w = w' := by
  go_enter Try.func32, Try.ntmps32
  go_wp2_with fail
  refine (err_nil w).mono ?_
  rintro en w1 ⟨rfl, rfl⟩
  go_wp2_with fail
  go_ret
  exact ⟨rfl, rfl⟩

set_option maxHeartbeats 1000000 in
set_option maxRecDepth 100000 in
theorem look_nil (w : World) (m : Int) : Calls Try.prog 36 #[.pointer none, .int .u64 m] w fun en w' => en = .returned (.tuple #[.int .u64 0, .int .i64 0]) ∧ w = w' := by
  go_enter Try.func36, Try.ntmps36
  go_wp2_with fail
  refine (err_nil w).mono ?_
  rintro en w1 ⟨rfl, rfl⟩
  go_wp2_with fail
  go_ret2
  exact ⟨rfl, rfl⟩

set_option maxHeartbeats 1000000 in
set_option maxRecDepth 100000 in
theorem pass_nil (w : World) : Calls Try.prog 38 #[.pointer none, .int .i64 0] w fun en w' => en = .returned (.tuple #[]) ∧ w = w' := by
  go_enter Try.func38, Try.ntmps38
  go_wp2_with fail
  go_end0
  exact ⟨rfl, rfl⟩

set_option maxHeartbeats 1000000 in
set_option maxRecDepth 100000 in
theorem num_nil (w : World) : Calls Try.prog 28 #[.pointer none] w fun en w' => en = .returned (.int .u64 0) ∧ w = w' := by
  go_enter Try.func28, Try.ntmps28
  go_wp2_with fail
  refine (look_nil w _).mono ?_
  rintro en w1 ⟨rfl, rfl⟩
  go_wp2_with fail
  refine (pass_nil w).mono ?_
  rintro en w1 ⟨rfl, rfl⟩
  go_wp2_with fail
  go_ret
  exact ⟨rfl, rfl⟩

set_option maxHeartbeats 1000000 in
set_option maxRecDepth 100000 in
theorem int_nil (w : World) : Calls Try.prog 22 #[.pointer none] w fun en w' => en = .returned (.int .i64 0) ∧ w = w' := by
  have h0 : bits BinOp.and IntKind.u64 0 1 = 0 := by decide
  go_enter Try.func22, Try.ntmps22
  go_wp2_with fail
  refine (num_nil w).mono ?_
  rintro en w1 ⟨rfl, rfl⟩
  go_wp2_with fail
  go_ret
  exact ⟨rfl, rfl⟩

set_option maxHeartbeats 1000000 in
set_option maxRecDepth 100000 in
theorem small_nil (w : World) (z : Int) (hz : (Lit.int .i64 z).wf = true) : Calls Try.prog 24 #[.pointer none, .int .i64 z] w fun en w' => en = .returned (.int .i64 0) ∧ w = w' := by
  go_enter Try.func24, Try.ntmps24
  go_wp2_with fail
  refine (bound_any w z hz).mono ?_
  rintro en w1 ⟨rfl, rfl⟩
  go_wp2_with fail
  refine (look_nil w _).mono ?_
  rintro en w1 ⟨rfl, rfl⟩
  go_wp2_with fail
  refine (pass_nil w).mono ?_
  rintro en w1 ⟨rfl, rfl⟩
  go_wp2_with fail
  go_ret
  exact ⟨rfl, rfl⟩

set_option maxHeartbeats 1000000 in
set_option maxRecDepth 100000 in
theorem text_nil (w : World) (z : Int) (hz : (Lit.int .i64 z).wf = true) : Calls Try.prog 26 #[.pointer none, .int .i64 z] w fun en w' => en = .returned (.slice none 0 0) ∧ w = w' := by
  go_enter Try.func26, Try.ntmps26
  go_wp2_with fail
  refine (bound_any w z hz).mono ?_
  rintro en w1 ⟨rfl, rfl⟩
  go_wp2_with fail
  refine (look_nil w _).mono ?_
  rintro en w1 ⟨rfl, rfl⟩
  go_wp2_with fail
  go_ret
  exact ⟨rfl, rfl⟩

end Go.Proofs.Ytmkcdckemaohdaa
