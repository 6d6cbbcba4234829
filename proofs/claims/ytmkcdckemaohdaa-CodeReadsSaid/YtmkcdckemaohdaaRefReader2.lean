/-
  THE REFERENCE's READER: Small, Text, End.
-/
import Derived.Test.YtmkcdckemaohdaaRefReader
import Derived.StillTailTactics
import Derived.Test.YtmkcdckemaohdaaOwn
namespace Go.Proofs.Ytmkcdckemaohdaa
open Go.RowKit

set_option maxHeartbeats 1000000 in
set_option maxRecDepth 100000 in
theorem qsmall_any (w : World) (Q : Nat) (ao : Option Addr) (c at0 : Nat) (l : List UInt8) (e z : Int) (hz : (Lit.int .i64 z).wf = true) (h : QAt w Q ao l.length c at0 e) (hr : Rd w (.slice ao l.length c) l) (ha : at0 ≤ l.length) (hl : l.length ≤ 140737488355328) :
    Calls Try.prog 25 #[.pointer (some ⟨Q, 0, none⟩), .int .i64 z] w (QIs w Q ao l.length c at0 (lookS (nn z) (l.drop at0) e) (.int .i64 ((lookS (nn z) (l.drop at0) e).1 : Nat))) := by
  go_enter Try.func25, Try.ntmps25
  go_wp2_with fail
  refine (qsmall0_any w Q ao c at0 l e z hz h hr ha hl).mono ?_
  rintro en w1 ⟨rfl, h1, g1⟩
  have HE := hid (And.intro h1 g1)
  clear h1 g1
  go_wp2_with fail
  go_ret
  exact ⟨rfl, HE.out⟩

def qendS (n at0 : Nat) (e : Int) : Int := if e ≠ 0 then e else if at0 < n then 9 else 0

theorem qendS_eq (l : List UInt8) (at0 : Nat) (e : Int) : qendS l.length at0 e = endS (l.drop at0) e := by
  unfold qendS endS
  by_cases he : e = 0
  · subst he
    have hd : (l.drop at0).length = l.length - at0 := List.length_drop
    simp only [ne_eq, not_true_eq_false, if_false]
    by_cases h : at0 < l.length
    · rw [if_pos h, if_pos (by omega)]
    · rw [if_neg h, if_neg (by omega)]
  · rw [if_pos he, if_pos he]

set_option maxHeartbeats 1000000 in
set_option maxRecDepth 100000 in
theorem qend_any (w : World) (Q : Nat) (ao : Option Addr) (n c at0 : Nat) (e : Int) (h : QAt w Q ao n c at0 e) :
    Calls Try.prog 33 #[.pointer (some ⟨Q, 0, none⟩)] w (Draws w (.int .i64 (qendS n at0 e))) := by
  obtain ⟨c0, c1, c2, f1, f2⟩ := three_cells h
  clear h
  by_cases he : e = 0
  · subst he
    by_cases hlt : at0 < n
    · have HF : Hid (qendS n at0 0 = 9) := by unfold qendS; rw [if_neg (by simp), if_pos hlt]; exact rfl
      have hd : decide ((at0 : Int) < (n : Int)) = true := by simp; omega
      go_enter Try.func33, Try.ntmps33
      go_wp2_with fail
      go_quiet (fail)
      go_wp2_with fail
      go_ret
      rw [HF.out]
      exact ⟨rfl, _, rfl⟩
    · have HF : Hid (qendS n at0 0 = 0) := by unfold qendS; rw [if_neg (by simp), if_neg hlt]; exact rfl
      have hd : decide ((at0 : Int) < (n : Int)) = false := by simp; omega
      go_enter Try.func33, Try.ntmps33
      go_wp2_with fail
      go_quiet (fail)
      go_wp2_with fail
      go_ret
      rw [HF.out]
      exact ⟨rfl, _, rfl⟩
  · have HF : Hid (qendS n at0 e = e) := by unfold qendS; rw [if_pos he]; exact rfl
    have hd : (e == 0) = false := by simp [he]
    go_enter Try.func33, Try.ntmps33
    go_wp2_with fail
    go_quiet (fail)
    go_wp2_with fail
    go_ret
    rw [HF.out]
    exact ⟨rfl, _, rfl⟩

/-- A text is read by the reference. -/
def QText (w : World) (Q : Nat) (ao : Option Addr) (n c at0 : Nat) (t : List UInt8 × Nat × Int) (en : Ending) (w' : World) : Prop :=
  ∃ x, en = .returned x ∧ w'.ownsRow w.heap.size 5 1 x t.1.length (t.1.map bv) ∧ QAt w' Q ao n c (at0 + t.2.1) t.2.2 ∧ w.grownBy w' (some Q)

theorem lookS_cases (m : Nat) (l : List UInt8) (e : Int) : ((lookS m l e).2.2 = 0 ∧ 0 < (lookS m l e).2.1) ∨ ((lookS m l e).2.2 ≠ 0 ∧ (lookS m l e).2.1 = 0) := by
  have hb := (rdN_bounds l 0 0 (by decide) (by omega)).2
  unfold lookS
  split
  · right; exact ⟨by assumption, rfl⟩
  · split
    · right; exact ⟨by simp, rfl⟩
    · rcases hb with hb | hb
      · left; omega
      · right; omega

set_option maxHeartbeats 1000000 in
set_option maxRecDepth 100000 in
theorem qtext_any (w : World) (Q : Nat) (ao : Option Addr) (c at0 : Nat) (l : List UInt8) (e z : Int) (hz : (Lit.int .i64 z).wf = true) (h : QAt w Q ao l.length c at0 e) (hr : Rd w (.slice ao l.length c) l) (ha : at0 ≤ l.length) (hl : l.length ≤ 140737488355328)
    (hQ : ∀ a, ao = some a → 0 < l.length → a.block ≠ Q) :
    Calls Try.prog 27 #[.pointer (some ⟨Q, 0, none⟩), .int .i64 z] w (QText w Q ao l.length c at0 (textS (nn z) (l.drop at0) e)) := by
  have hQw : Hid (Q < w.heap.size) := lt_of_block h
  have hle := lookS_le (nn z) (l.drop at0) e
  have hca := lookS_cases (nn z) (l.drop at0) e
  have hdl : (l.drop at0).length = l.length - at0 := List.length_drop
  have HT : Hid (textS (nn z) (l.drop at0) e = if (lookS (nn z) (l.drop at0) e).2.1 = 0 then ([], 0, (lookS (nn z) (l.drop at0) e).2.2)
    else if (l.drop at0).length - (lookS (nn z) (l.drop at0) e).2.1 < (lookS (nn z) (l.drop at0) e).1 then ([], 0, 8)
    else (((l.drop at0).drop (lookS (nn z) (l.drop at0) e).2.1).take (lookS (nn z) (l.drop at0) e).1, (lookS (nn z) (l.drop at0) e).2.1 + (lookS (nn z) (l.drop at0) e).1, (lookS (nn z) (l.drop at0) e).2.2)) := rfl
  go_enter Try.func27, Try.ntmps27
  go_wp2_with fail
  refine (qsmall0_any w Q ao c at0 l e z hz h hr ha hl).mono ?_
  rintro en w1 ⟨rfl, h1, g1⟩
  generalize lookS (nn z) (l.drop at0) e = t at *
  obtain ⟨v, n, er⟩ := t
  simp only at *
  have H1 := hid h1
  have Hg := hid g1
  obtain ⟨c0, c1, c2, f1, f2⟩ := three_cells h1
  clear h h1 g1
  by_cases t1 : n = 0
  · have HF : Hid (textS (nn z) (l.drop at0) e = ([], 0, er)) := by rw [HT.out, if_pos t1]; exact rfl
    have t2 : ¬ er = 0 := by omega
    subst t1
    clear HT
    go_wp2_with fail
    go_ret
    refine ⟨_, rfl, ?_, ?_, Hg.out⟩
    · rw [HF.out]; exact World.ownsRow_nil _ _ _ _
    · rw [HF.out]; exact H1.out
  · have t2 : er = 0 := by omega
    subst t2
    have hsub : (l.length : Int) - ((at0 + n : Nat) : Int) = ((l.length - (at0 + n) : Nat) : Int) := by omega
    by_cases t3 : (l.drop at0).length - n < v
    · have HF : Hid (textS (nn z) (l.drop at0) e = ([], 0, 8)) := by rw [HT.out, if_neg t1, if_pos t3]; exact rfl
      have t4 : ((l.length - (at0 + n) : Nat) : Int) < (v : Int) := by omega
      clear HT
      go_wp2_with fail
      go_quiet (fail)
      have HR := hid (QAt.set (w := w1.drewN nq) H1.out at0 8)
      go_wp2_with fail
      go_ret
      refine ⟨_, rfl, ?_, ?_, ?_⟩
      · rw [HF.out]; exact World.ownsRow_nil _ _ _ _
      · rw [HF.out]; exact HR.out.1
      · exact grown_trans (grown_trans Hg.out (grown_draw w1 nq _)) HR.out.2
    · have HF : Hid (textS (nn z) (l.drop at0) e = (((l.drop at0).drop n).take v, n + v, 0)) := by rw [HT.out, if_neg t1, if_neg t3]; exact rfl
      have t4 : ¬ ((l.length - (at0 + n) : Nat) : Int) < (v : Int) := by omega
      have hv : at0 + n + v ≤ l.length := by omega
      obtain ⟨ao', c', hs, h5, h6⟩ := hr.mid 23 5 Try.underlying23 (by kernel_rfl) (at0 + n) (at0 + n + v) (by omega) (by omega)
      rw [show at0 + n + v - (at0 + n) = v from by omega] at hs h5 h6
      have hr5 : Hid (Rd w1 (.slice ao' v c') ((l.drop (at0 + n)).take v)) := h5.kept Hg.out (by
        by_cases hl0 : 0 < l.length
        · right
          intro hk
          have := h6 Q hk
          cases ao with
          | none => simp [blk] at this
          | some a => simp only [blk, Option.some.injEq] at this; exact hQ a rfl hl0 this
        · omega)
      simp only [Int.natCast_add] at hs
      clear HT h5 h6 hr
      go_wp2_with fail
      go_quiet (fail)
      go_wp2_with fail
      obtain ⟨wx, hwx⟩ : ∃ wx, wx = w1.drewN nq := ⟨_, rfl⟩
      have d0 : wx.drew.cell? ⟨Q, 0, none⟩ = some (.slice ao l.length c) := by subst hwx; exact c0
      have d1 : wx.drew.cell? ⟨Q, 1, none⟩ = some (.int .i64 ((at0 : Int) + (n : Int))) := by subst hwx; rw [← Int.natCast_add]; exact c1
      have r1 : Hid (Rd wx.drew (.slice ao' v c') ((l.drop (at0 + n)).take v)) := by subst hwx; exact hr5.out
      rw [← hwx]
      have Hx := hid hwx
      clear hwx c0 c1 c2 f1 f2
      refine wp_region_still_tail 15 (by kernel_rfl) (by kernel_rfl) ?_
      simp only [List.take_succ_cons, List.take_zero, List.drop_succ_cons, List.drop_zero]
      change wpStill _ _ wx.drew _ _ _
      have hw : IntKind.i64.wrap ((at0 : Int) + (n : Int) + (v : Int)) = (at0 : Int) + (n : Int) + (v : Int) := by rw [IntKind.wrap_i64]; omega
      repeat still_step
      refine wpStill_nil ?_
      change wpList _ _ _ _ _ wx.drew
      have o1 : wx.drew.ownsRow w.heap.size 5 1 (.slice none 0 0) 0 [] := World.ownsRow_nil _ _ _ _
      have hsz : w.heap.size ≤ wx.drew.heap.size := by rw [Hx.out]; exact Hg.out.size
      clear hs hw
      go_wp2_with (first
        | (at_builtin; refine wp_app rfl _ _ 23 rfl w.heap.size 5 Try.underlying23 (by kernel_rfl) _ _ _ rfl o1 _ _ rfl r1.out ?c1 ?c2 ?_))
      case c1 => rw [List.length_take, List.length_drop]; omega
      case c2 => exact hsz
      intro v3 x3 o3 g3
      have gx : w.grownBy x3 (some Q) := by
        have h1 : wx.drew.heap = w1.heap := by rw [Hx.out]; rfl
        have g4 : w1.grownBy x3 none := ⟨g3.os.trans (by rw [Hx.out]; rfl), g3.tape.trans (by rw [Hx.out]; rfl), g3.output.trans (by rw [Hx.out]; rfl), by rw [← h1]; exact g3.size, fun k hk hne => by rw [← h1] at hk ⊢; exact g3.block k hk hne⟩
        exact grown_trans Hg.out ⟨g4.os, g4.tape, g4.output, g4.size, fun k hk _ => g4.block k hk (by simp)⟩
      have q3 : QAt x3 Q ao l.length c (at0 + n) 0 := by
        have h1 : wx.drew.heap = w1.heap := by rw [Hx.out]; rfl
        have h2 := g3.block Q (by rw [h1]; exact lt_of_block H1.out) (by simp [Value.ownBlock])
        show x3.heap[Q]? = _
        rw [h2, h1]; exact H1.out
      have q4 : Hid (QAt (x3.setCell ⟨Q, 1, none⟩ (.int .i64 ((at0 : Int) + (n : Int) + (v : Int)))) Q ao l.length c (at0 + (n + v)) 0) := by
        have e1 : ((at0 + (n + v) : Nat) : Int) = (at0 : Int) + (n : Int) + (v : Int) := by omega
        show _ = _
        rw [e1]
        exact three_set1 q3
      have o4 : Hid (x3.ownsRow w.heap.size 5 1 v3 (((l.drop at0).drop n).take v).length ((((l.drop at0).drop n).take v).map bv)) := by
        have e1 : (((l.drop at0).drop n).take v).length = min v (l.length - (at0 + n)) := by rw [List.length_take, List.drop_drop, List.length_drop]
        have e2 : (((l.drop at0).drop n).take v).map bv = List.take v (List.drop (at0 + n) (List.map bv l)) := by rw [List.map_take, List.drop_drop, List.map_drop]
        rw [e1, e2]; exact o3
      have hQ3 : Hid (v3.ownBlock ≠ some Q) := by
        intro hk
        have h9 := (o3.lt Q hk).1
        have h8 := hQw.out
        omega
      have Hgx := hid gx
      obtain ⟨c0, c1, c2, f1, f2⟩ := three_cells q3
      clear gx q3 o3 g3 o1 hsz d0 d1
      go_wp2_with fail
      go_ret
      refine ⟨v3, rfl, ?_, ?_, ?_⟩
      · rw [HF.out]; exact ownsRow_setCell_other o4.out (fun h => hQ3.out h) _
      · rw [HF.out]; exact q4.out
      · exact grown_trans Hgx.out (grown_set x3 ⟨Q, 1, none⟩ _)
end Go.Proofs.Ytmkcdckemaohdaa
