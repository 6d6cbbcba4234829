/-
  THE REFERENCE's READER.
-/
import Derived.Test.YtmkcdckemaohdaaTake
import Derived.Test.YtmkcdckemaohdaaReader2
import Derived.BigQuiet
import Derived.Deep.QuietTactic
namespace Go.Proofs.Ytmkcdckemaohdaa
open Go.RowKit

/-- A block of three cells. -/
theorem three_cells {w : World} {b : Nat} {u v x : Value} {t : TypeId} (h : w.heap[b]? = some (.cells #[u, v, x] t (0, 0))) :
    w.cell? ⟨b, 0, none⟩ = some u ∧ w.cell? ⟨b, 1, none⟩ = some v ∧ w.cell? ⟨b, 2, none⟩ = some x ∧ w.frozen? ⟨b, 1, none⟩ = false ∧ w.frozen? ⟨b, 2, none⟩ = false := by
  simp [World.cell?, World.frozen?, h]
theorem three_set1 {w : World} {b : Nat} {u v x y : Value} {t : TypeId} (h : w.heap[b]? = some (.cells #[u, v, x] t (0, 0))) : (w.setCell ⟨b, 1, none⟩ y).heap[b]? = some (.cells #[u, y, x] t (0, 0)) := by
  have hlt := lt_of_block h
  have h' : w.heap[b] = .cells #[u, v, x] t (0, 0) := by simpa [Array.getElem?_eq_getElem hlt] using h
  show (w.heap.modify b _)[b]? = _
  rw [Array.getElem?_eq_getElem (by simpa using hlt), Array.getElem_modify_self, h']
  rfl
theorem three_set2 {w : World} {b : Nat} {u v x y : Value} {t : TypeId} (h : w.heap[b]? = some (.cells #[u, v, x] t (0, 0))) : (w.setCell ⟨b, 2, none⟩ y).heap[b]? = some (.cells #[u, v, y] t (0, 0)) := by
  have hlt := lt_of_block h
  have h' : w.heap[b] = .cells #[u, v, x] t (0, 0) := by simpa [Array.getElem?_eq_getElem hlt] using h
  show (w.heap.modify b _)[b]? = _
  rw [Array.getElem?_eq_getElem (by simpa using hlt), Array.getElem_modify_self, h']
  rfl

/-- The reference's reader in block Q: its bytes are the argument's own. -/
def QAt (w : World) (Q : Nat) (ao : Option Addr) (n c at0 : Nat) (e : Int) : Prop :=
  w.heap[Q]? = some (.cells #[.slice ao n c, .int .i64 (at0 : Int), .int .i64 e] 38 (0, 0))

theorem QAt.set {w : World} {Q : Nat} {ao : Option Addr} {n c at0 : Nat} {e : Int} (h : QAt w Q ao n c at0 e) (at1 : Nat) (e1 : Int) :
    QAt ((w.setCell ⟨Q, 2, none⟩ (.int .i64 e1)).setCell ⟨Q, 1, none⟩ (.int .i64 (at1 : Int))) Q ao n c at1 e1 ∧ w.grownBy ((w.setCell ⟨Q, 2, none⟩ (.int .i64 e1)).setCell ⟨Q, 1, none⟩ (.int .i64 (at1 : Int))) (some Q) :=
  ⟨three_set1 (three_set2 h), grown_trans (grown_set w _ _) (grown_set _ _ _)⟩

theorem grown_draw (w : World) (n : Nat) (row : Option Nat) : w.grownBy (w.drewN n) row := ⟨rfl, rfl, rfl, Nat.le_refl _, fun _ _ _ => rfl⟩

/-- A number is read by the reference. -/
def QIs (w : World) (Q : Nat) (ao : Option Addr) (n c at0 : Nat) (t : Nat × Nat × Int) (v : Value) (en : Ending) (w' : World) : Prop :=
  en = .returned v ∧ QAt w' Q ao n c (at0 + t.2.1) t.2.2 ∧ w.grownBy w' (some Q)

set_option maxHeartbeats 1000000 in
set_option maxRecDepth 100000 in
theorem qnum_any (w : World) (Q : Nat) (ao : Option Addr) (c at0 : Nat) (l : List UInt8) (e : Int) (h : QAt w Q ao l.length c at0 e) (hr : Rd w (.slice ao l.length c) l) (ha : at0 ≤ l.length) (hl : l.length ≤ 140737488355328) :
    Calls Try.prog 29 #[.pointer (some ⟨Q, 0, none⟩)] w (QIs w Q ao l.length c at0 (lookS maxU (l.drop at0) e) (.int .u64 ((lookS maxU (l.drop at0) e).1 : Nat))) := by
  have H := hid h
  obtain ⟨c0, c1, c2, f1, f2⟩ := three_cells h
  by_cases he : e = 0
  · subst he
    have HL := hid (lookS_num' (l := l.drop at0))
    have hb := (rdN_bounds (l.drop at0) 0 0 (by decide) (by omega)).2
    have hdl : (l.drop at0).length = l.length - at0 := List.length_drop
    obtain ⟨ao', c', hs, h5, h6⟩ := hr.cut 23 5 Try.underlying23 (by kernel_rfl) at0 ha
    have C := fun a => (take_any _ _ (w.drewN a) (show Rd (w.drewN a) _ (l.drop at0) from h5)).mono (R' := fun e w'' => e = Ending.returned (.tuple #[.int .u64 ((rdN 0 0 (l.drop at0)).1 : Nat), .int .i64 ((rdN 0 0 (l.drop at0)).2.1 : Nat), .int .i64 (rdN 0 0 (l.drop at0)).2.2]) ∧ ∃ m, w'' = w.drewN m) fun _ _ h => ⟨h.1, a, h.2.symm⟩
    have hn : at0 + (rdN 0 0 (l.drop at0)).2.1 ≤ l.length := by omega
    generalize rdN 0 0 (l.drop at0) = t at *
    obtain ⟨v, n, er⟩ := t
    simp only at *
    clear h h5 h6 hb hdl hr
    go_enter Try.func29, Try.ntmps29
    go_wp2_with fail
    go_quiet ((go_at_call 40; exact C _))
    have HS := hid (QAt.set (w := w.drewN nq) H.out (at0 + n) er)
    clear C hs
    go_wp2_with fail
    go_ret
    have h1 := HS.out
    rw [Int.natCast_add] at h1
    refine ⟨by rw [HL.out]; rfl, ?_, grown_trans (grown_draw w nq (some Q)) h1.2⟩
    rw [HL.out]; exact h1.1
  · have HL : Hid (lookS maxU (l.drop at0) e = (0, 0, e)) := by unfold lookS; rw [if_pos he]; exact rfl
    clear h hr
    go_enter Try.func29, Try.ntmps29
    go_wp2_with fail
    go_ret
    rw [HL.out]
    exact ⟨rfl, H.out, World.grownBy.refl _ _⟩

theorem half_facts {v : Nat} (h : v < 2 ^ 64) : wrap64 (IntKind.u64.wrap ((v : Int) / 2)) = (v : Int) / 2 ∧ wrap64 (wrap64 (-wrap64 (IntKind.u64.wrap ((v : Int) / 2))) - 1) = -1 - (v : Int) / 2 := by
  have h1 : 0 ≤ (v : Int) / 2 ∧ (v : Int) / 2 ≤ 9223372036854775807 := by omega
  generalize (v : Int) / 2 = q at *
  have e1 : IntKind.u64.wrap q = q := by rw [wrap_u64]; omega
  have e2 : wrap64 q = q := by simp only [wrap64]; omega
  have e3 : wrap64 (-q) = -q := by simp only [wrap64]; omega
  have e4 : wrap64 (-q - 1) = -q - 1 := by simp only [wrap64]; omega
  rw [e1, e2, e3, e4]
  exact ⟨rfl, by omega⟩

set_option maxHeartbeats 1000000 in
set_option maxRecDepth 100000 in
theorem qint_any (w : World) (Q : Nat) (ao : Option Addr) (c at0 : Nat) (l : List UInt8) (e : Int) (h : QAt w Q ao l.length c at0 e) (hr : Rd w (.slice ao l.length c) l) (ha : at0 ≤ l.length) (hl : l.length ≤ 140737488355328) :
    Calls Try.prog 23 #[.pointer (some ⟨Q, 0, none⟩)] w (QIs w Q ao l.length c at0 (lookS maxU (l.drop at0) e) (.int .i64 (unzig (lookS maxU (l.drop at0) e).1))) := by
  have hlt := lookS_lt maxU (l.drop at0) e
  obtain ⟨f1, f2, f3⟩ := unzig_facts hlt
  go_enter Try.func23, Try.ntmps23
  go_wp2_with fail
  refine (qnum_any w Q ao c at0 l e h hr ha hl).mono ?_
  rintro en w1 ⟨rfl, h1, g1⟩
  have HE := hid (And.intro h1 g1)
  clear h1 g1 h hr
  have hu : Hid (unzig (lookS maxU (l.drop at0) e).1 = if (lookS maxU (l.drop at0) e).1 % 2 = 1 then -1 - ((lookS maxU (l.drop at0) e).1 : Int) / 2 else ((lookS maxU (l.drop at0) e).1 : Int) / 2) := by unfold unzig; split <;> (show _ = _) <;> omega
  generalize lookS maxU (l.drop at0) e = t at *
  obtain ⟨v, n, er⟩ := t
  simp only at *
  by_cases t1 : v % 2 = 1
  · have t2 : (v : Int) % 2 = 1 := by omega
    have hv : Hid (wrap64 (wrap64 (-wrap64 (IntKind.u64.wrap ((v : Int) / 2))) - 1) = unzig v) := by rw [hu.out, if_pos t1]; exact (half_facts hlt).2
    clear hu t1 f2 hlt
    go_wp2_with fail
    go_ret
    exact ⟨by rw [← hv.out]; rfl, HE.out⟩
  · have t2 : ¬ (v : Int) % 2 = 1 := by omega
    have hv : Hid (wrap64 (IntKind.u64.wrap ((v : Int) / 2)) = unzig v) := by rw [hu.out, if_neg t1]; exact (half_facts hlt).1
    clear hu t1 f2 hlt
    go_wp2_with fail
    go_ret
    exact ⟨by rw [← hv.out]; rfl, HE.out⟩

def QSmall (w : World) (Q : Nat) (ao : Option Addr) (n c at0 : Nat) (t : Nat × Nat × Int) (en : Ending) (w' : World) : Prop :=
  en = .returned (.tuple #[.int .i64 (t.1 : Nat), .int .i64 (at0 : Int)]) ∧ QAt w' Q ao n c (at0 + t.2.1) t.2.2 ∧ w.grownBy w' (some Q)

set_option maxHeartbeats 1000000 in
set_option maxRecDepth 100000 in
theorem qsmall0_any (w : World) (Q : Nat) (ao : Option Addr) (c at0 : Nat) (l : List UInt8) (e z : Int) (hz : (Lit.int .i64 z).wf = true) (h : QAt w Q ao l.length c at0 e) (hr : Rd w (.slice ao l.length c) l) (ha : at0 ≤ l.length) (hl : l.length ≤ 140737488355328) :
    Calls Try.prog 39 #[.pointer (some ⟨Q, 0, none⟩), .int .i64 z] w (QSmall w Q ao l.length c at0 (lookS (nn z) (l.drop at0) e)) := by
  have hm := lookS_most (nn z) (l.drop at0) e
  have hb := bounds_i64 hz
  have HW : Hid (IntKind.i64.wrap ((lookS (nn z) (l.drop at0) e).1 : Int) = ((lookS (nn z) (l.drop at0) e).1 : Int)) := by
    show _ = _
    rw [IntKind.wrap_i64]; unfold nn at *; omega
  obtain ⟨c0, c1, c2, f1, f2⟩ := three_cells h
  have HS : Hid (lookS (nn z) (l.drop at0) e = if e ≠ 0 then (0, 0, e) else if (lookS maxU (l.drop at0) e).2.2 = 0 ∧ nn z < (lookS maxU (l.drop at0) e).1 then (0, 0, 9) else lookS maxU (l.drop at0) e) := by
    show _ = _
    by_cases he : e = 0
    · subst he; rw [lookS_num', if_neg (by simp)]; unfold lookS; rw [if_neg (by simp)]
    · rw [if_pos he]; unfold lookS; rw [if_pos he]
  have HE : Hid (e ≠ 0 → lookS maxU (l.drop at0) e = (0, 0, e)) := fun he => by unfold lookS; rw [if_pos he]
  clear hm
  go_enter Try.func39, Try.ntmps39
  go_wp2_with fail
  refine (qnum_any w Q ao c at0 l e h hr ha hl).mono ?_
  rintro en w1 ⟨rfl, h1, g1⟩
  generalize lookS maxU (l.drop at0) e = t at *
  obtain ⟨v, n, er⟩ := t
  simp only at *
  have Hg := hid g1
  have H1 := hid h1
  clear c0 c1 c2 f1 f2 h hr g1
  obtain ⟨c0, c1, c2, f1, f2⟩ := three_cells h1
  clear h1
  have hwz : 0 ≤ z → IntKind.u64.wrap z = z := fun h0 => by rw [wrap_u64]; omega
  by_cases her : er = 0
  · have he : e = 0 := by
      apply Decidable.byContradiction
      intro he
      have := HE.out he
      simp only [Prod.mk.injEq] at this
      omega
    subst he
    subst her
    by_cases hgt : nn z < v
    · have HF : Hid (lookS (nn z) (l.drop at0) 0 = (0, 0, 9)) := by rw [HS.out, if_neg (by simp), if_pos ⟨rfl, hgt⟩]; exact rfl
      have HR := hid (H1.out.set at0 9)
      clear HS HE H1
      by_cases hz0 : z < 0
      · have hv0 : (0 : Int) < (v : Int) := by unfold nn at hgt; omega
        clear hgt hwz
        go_wp2_with fail
        go_ret2
        rw [HF.out]
        exact ⟨rfl, HR.out.1, grown_trans Hg.out HR.out.2⟩
      · have hw := hwz (by omega)
        have hv0 : z < (v : Int) := by unfold nn at hgt; omega
        clear hgt hwz
        go_wp2_with fail
        go_ret2
        rw [HF.out]
        exact ⟨rfl, HR.out.1, grown_trans Hg.out HR.out.2⟩
    · have HF : Hid (lookS (nn z) (l.drop at0) 0 = (v, n, 0)) := by rw [HS.out, if_neg (by simp), if_neg (by simp [hgt])]; exact rfl
      have hiw := HW.out
      rw [HF.out] at hiw
      simp only at hiw
      clear HS HE HW
      by_cases hz0 : z < 0
      · have hv0 : ¬ (0 : Int) < (v : Int) := by unfold nn at hgt; omega
        clear hgt hwz
        go_wp2_with fail
        go_ret2
        rw [HF.out]
        exact ⟨rfl, H1.out, Hg.out⟩
      · have hw := hwz (by omega)
        have hv0 : ¬ z < (v : Int) := by unfold nn at hgt; omega
        clear hgt hwz
        go_wp2_with fail
        go_ret2
        rw [HF.out]
        exact ⟨rfl, H1.out, Hg.out⟩
  · have HF : Hid (lookS (nn z) (l.drop at0) e = (v, n, er)) := by
      show _ = _
      rw [HS.out]
      split
      · rename_i he; exact (HE.out he).symm
      · rw [if_neg (by simp [her])]
    have hiw := HW.out
    rw [HF.out] at hiw
    simp only at hiw
    clear HS HE HW hwz
    go_wp2_with fail
    go_ret2
    rw [HF.out]
    exact ⟨rfl, H1.out, Hg.out⟩
end Go.Proofs.Ytmkcdckemaohdaa
