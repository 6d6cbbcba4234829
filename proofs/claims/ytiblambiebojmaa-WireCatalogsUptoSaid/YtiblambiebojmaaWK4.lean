import Derived.WalkKit
import Derived.OpenShut
import Derived.Test.YtiblambiebojmaaRows
import Derived.WalkSpells
import Derived.WalkLawsBesides
import Derived.Laws.AppendOwnNone
import Derived.Deep.CutRange
import Derived.ProofKit
import Derived.ShutString
import Derived.ChangeOld
import Derived.Below
import Derived.SizedLaws
import Derived.Deep.Slices
import Derived.Deep.AppendLies
import Derived.Deep.Strs
import Derived.Deep.RegionHeld3
import Derived.Lib.ConvBytes
import Derived.Laws.AppendOwn
import Derived.Test.YtiblambiebojmaaWK1
import Derived.Test.YtiblambiebojmaaWK2
import Derived.Test.YtiblambiebojmaaWK3
set_option linter.unusedVariables false
set_option linter.unusedSimpArgs false
namespace Go.Proofs.Ytiblambiebojmaa
open Go.RowKit

/-- Bytes that are there lie at a plain address. -/
theorem Rd.at {w : World} {x : Value} {l : List UInt8} (h : Rd w x l) (hl : 0 < l.length) :
    ∃ b off c, x = .slice (some ⟨b, off, none⟩) l.length c ∧ l.length ≤ c ∧ c ≤ maxLen ∧ ∀ j (hj : j < l.length), w.cell? ⟨b, off + j, none⟩ = some (.int .u8 ((l[j]).toNat : Int)) := by
  obtain ⟨ao, c, rfl, h1, h2, h3, h4⟩ := h
  cases ao with
  | none => have := h3 rfl; omega
  | some a =>
    obtain ⟨b, off, spot⟩ := a
    have h0 := h4 _ rfl 0 (bv l[0]) (by simp [List.getElem?_eq_getElem hl])
    have hspot : spot = none := by simpa [Addr.add] using World.cell?_spot h0
    subst hspot
    refine ⟨b, off, c, rfl, h1, h2, fun j hj => ?_⟩
    have hj' := h4 _ rfl j (bv l[j]) (by simp [List.getElem?_eq_getElem hj])
    rw [WideShapes.add_plain] at hj'
    exact hj'

set_option maxHeartbeats 1000000 in
set_option maxRecDepth 100000 in
theorem first_any (x : Value) (l : List UInt8) (w : World) (hr : Rd w x l) :
    Calls Try.prog 121 #[x] w fun e w' => e = .returned (.tuple #[.int .u64 ((rdN 0 0 l).1 : Nat), .int .i64 ((rdN 0 0 l).2.1 : Nat), .int .i64 (rdN 0 0 l).2.2]) ∧ w = w' := by
  by_cases hl : l = []
  · subst hl
    obtain ⟨ao, c, rfl, -⟩ := hr
    have e : rdN 0 0 [] = (0, 0, 8) := rfl
    rw [e]
    go_enter Try.func121, Try.ntmps121
    go_wp2
    refine wp_loop_rounds 1 ?_
    rw [rounds_succ]
    go_wp2
    go_ret3
    exact ⟨rfl, rfl⟩
  · have hlen : 0 < l.length := List.length_pos_iff.2 hl
    obtain ⟨b, off, cp, rfl, h1, h2, hc⟩ := hr.at hlen
    unfold maxLen at h2
    go_enter Try.func121, Try.ntmps121
    go_wp2
    go_loop [5, 10] (fun v i => ∃ (k V : Nat), k ≤ l.length ∧ i = .int .i64 k ∧ v = .int .u64 V ∧ V < 128 ^ k ∧ k ≤ 9 ∧ rdN k V (l.drop k) = rdN 0 0 l) (fun _ i => l.length - (intOf i).toNat)
    case atStart => exact ⟨0, 0, Nat.zero_le _, rfl, rfl, by decide, by omega, rfl⟩
    case round =>
      obtain ⟨k, V, hk, rfl, rfl, hV, hk9, hrec⟩ := hrel
      by_cases hlt : k < l.length
      · have hck := hc k hlt
        have hd : l.drop k = l[k] :: l.drop (k + 1) := List.drop_eq_getElem_cons hlt
        rw [hd] at hrec
        have hc256 : (l[k]).toNat < 256 := UInt8.toNat_lt _
        generalize l[k] = c at *
        have Hrec := hid hrec
        have HV := hid hV
        have Hd := hid hd
        clear hrec hd hc hV
        have HO : ¬ (k = 9 ∧ 1 < c.toNat) → Hid (bits BinOp.or IntKind.u64 (V : Int) (IntKind.u64.wrap (IntKind.u64.wrap (bits BinOp.andNot IntKind.u8 (c.toNat : Int) 128) * 2 ^ (7 * k))) = ((V + c.toNat % 128 * 128 ^ k : Nat) : Int)) := fun h => or_step HV.out hk9 hc256 h
        have HS := hid (step_lt (c := c.toNat) HV.out)
        by_cases t1 : k = 9 ∧ 1 < c.toNat
        · have HF : Hid (rdN 0 0 l = (0, 0, 9)) := by rw [← Hrec.out]; exact rdN_form t1
          obtain ⟨rfl, t1b⟩ := t1
          clear HO HS Hrec Hd
          go_wp2
          go_ret3
          rw [HF.out]
          exact ⟨rfl, rfl⟩
        · have HO' := HO t1
          clear HO
          by_cases t2 : 128 ≤ c.toNat
          · have HF : Hid (rdN (k + 1) (V + c.toNat % 128 * 128 ^ k) (l.drop (k + 1)) = rdN 0 0 l) := by rw [← Hrec.out]; exact (rdN_more t1 t2).symm
            have hk9' : k ≠ 9 := by omega
            clear Hrec Hd t1
            go_wp2
            go_round
            case rel => exact ⟨k + 1, _, by omega, by go_num, by rw [HO'.out], HS.out, by omega, HF.out⟩
            case measure => simp [intOf]; omega
          · by_cases t3 : c.toNat = 0 ∧ 0 < k
            · have HF : Hid (rdN 0 0 l = (0, 0, 9)) := by rw [← Hrec.out]; exact rdN_zero t1 t2 t3
              clear Hrec Hd HS
              obtain ⟨t3a, t3b⟩ := t3
              clear HO'
              go_wp2
              all_goals (go_ret3; rw [HF.out]; exact ⟨rfl, rfl⟩)
            · have HF : Hid (rdN 0 0 l = (V + c.toNat % 128 * 128 ^ k, k + 1, 0)) := by rw [← Hrec.out]; exact rdN_last t1 t2 t3
              clear Hrec Hd HS
              by_cases t4 : k = 9
              · subst t4
                have ev := HO'.out
                rw [show (2 : Int) ^ (7 * 9) = 9223372036854775808 from by decide] at ev
                have HE := hid ev
                have d1 : decide ((1 : Int) < (c.toNat : Int)) = false := by simp; omega
                have t5 : ¬ (c.toNat : Int) = 0 := by omega
                clear ev HO'
                go_wp2
                go_ret3
                rw [HF.out, HE.out]
                exact ⟨rfl, rfl⟩
              · by_cases t5 : c.toNat = 0
                · have t6 : ¬ (0 : Int) < (k : Int) := by omega
                  have t4' : ¬ (k : Int) = 9 := by omega
                  have t5' : (c.toNat : Int) = 0 := by omega
                  have ev := HO'.out
                  rw [t5'] at ev
                  have HE := hid ev
                  clear ev HO'
                  go_wp2
                  go_ret3
                  rw [HF.out, HE.out]
                  exact ⟨rfl, rfl⟩
                · have HE := HO'
                  have t4' : ¬ (k : Int) = 9 := by omega
                  have t5' : ¬ (c.toNat : Int) = 0 := by omega
                  clear HO'
                  go_wp2
                  go_ret3
                  rw [HF.out, HE.out]
                  exact ⟨rfl, rfl⟩
      · obtain rfl : k = l.length := by omega
        have HF : Hid (rdN 0 0 l = (0, 0, 8)) := by rw [← hrec, List.drop_length]; rfl
        clear hrec hV
        go_wp2
        go_ret3
        rw [HF.out]
        exact ⟨rfl, rfl⟩
end Go.Proofs.Ytiblambiebojmaa

namespace Go.Proofs.Ytiblambiebojmaa
open Go.RowKit

/-- The reader in block R: what is left, and its fault. -/
def RAt (w : World) (R : Nat) (l : List UInt8) (e : Int) : Prop :=
  ∃ (ao : Option Addr) (c : Nat), w.heap[R]? = some (.cells #[.slice ao l.length c, .int .i64 e] 136 (0, 0)) ∧ Rd w (.slice ao l.length c) l ∧ ∀ k, blk (.slice ao l.length c) = some k → k < R

theorem RAt.kept {w w' : World} {R : Nat} {l : List UInt8} {e : Int} {row : Option Nat} (h : RAt w R l e) (hg : w.grownBy w' row) (hne : ∀ k, row = some k → R < k) : RAt w' R l e := by
  obtain ⟨ao, c, h1, h2, h3⟩ := h
  refine ⟨ao, c, heap_kept hg h1 (fun h => by have := hne R h.symm; omega), h2.kept hg ?_, h3⟩
  cases hb : blk (.slice ao l.length c) with
  | none => exact .inl rfl
  | some k =>
    right
    intro hk
    have h5 := h3 k hb
    have h6 := hne k hk.symm
    omega

theorem RAt.old {w w' : World} {R : Nat} {l : List UInt8} {e : Int} (h : RAt w R l e) (hb : Below w.heap.size w w') : RAt w' R l e :=
  h.kept (grown_below hb none) (fun k hk => by cases hk)

theorem RAt.lt {w : World} {R : Nat} {l : List UInt8} {e : Int} (h : RAt w R l e) : R < w.heap.size := by
  obtain ⟨ao, c, h1, _⟩ := h
  exact lt_of_block h1

/-- A fault is written. -/
theorem RAt.fault {w : World} {R : Nat} {l : List UInt8} {e : Int} (h : RAt w R l e) (e' : Int) : RAt (w.setCell ⟨R, 1, none⟩ (.int .i64 e')) R l e' ∧ w.grownBy (w.setCell ⟨R, 1, none⟩ (.int .i64 e')) (some R) := by
  obtain ⟨ao, c, h1, h2, h3⟩ := h
  have hg := grown_set w ⟨R, 1, none⟩ (.int .i64 e')
  exact ⟨⟨ao, c, two_set1 h1, h2.kept hg (.inr (fun hk => by have := h3 R hk; omega)), h3⟩, hg⟩

/-- What is left is cut. -/
theorem RAt.step {w : World} {R n : Nat} {l : List UInt8} {e : Int} {ao ao' : Option Addr} {c c' : Nat} (h1 : w.heap[R]? = some (.cells #[.slice ao l.length c, .int .i64 e] 136 (0, 0))) (h3 : ∀ k, blk (.slice ao l.length c) = some k → k < R)
    (h2 : Rd w (.slice ao' (l.length - n) c') (l.drop n)) (h4 : ∀ k, blk (.slice ao' (l.length - n) c') = some k → blk (.slice ao l.length c) = some k) :
    RAt (w.setCell ⟨R, 0, none⟩ (.slice ao' (l.length - n) c')) R (l.drop n) e ∧ w.grownBy (w.setCell ⟨R, 0, none⟩ (.slice ao' (l.length - n) c')) (some R) := by
  have hg := grown_set w ⟨R, 0, none⟩ (.slice ao' (l.length - n) c')
  have hlen : (l.drop n).length = l.length - n := List.length_drop
  have hne : blk (.slice ao' (l.length - n) c') ≠ some R := fun hk => by have := h3 R (h4 R hk); omega
  refine ⟨⟨ao', c', ?_, ?_, ?_⟩, hg⟩
  · rw [hlen]; exact two_set0 h1
  · rw [hlen]; exact h2.kept hg (.inr hne)
  · rw [hlen]; exact fun k hk => h3 k (h4 k hk)

/-- What 'look' answers, and the fault behind it. -/
def lookS (m : Nat) (l : List UInt8) (e : Int) : Nat × Nat × Int :=
  if e ≠ 0 then (0, 0, e) else if (rdN 0 0 l).2.2 = 0 ∧ m < (rdN 0 0 l).1 then (0, 0, 9) else rdN 0 0 l

def LookIs (w : World) (R : Nat) (m : Nat) (l : List UInt8) (e : Int) (en : Ending) (w' : World) : Prop :=
  en = .returned (.tuple #[.int .u64 ((lookS m l e).1 : Nat), .int .i64 ((lookS m l e).2.1 : Nat)]) ∧ RAt w' R l (lookS m l e).2.2 ∧ w.grownBy w' (some R)

set_option maxHeartbeats 1000000 in
set_option maxRecDepth 100000 in
theorem err_any (w : World) (R : Nat) (l : List UInt8) (e : Int) (h : RAt w R l e) :
    Calls Try.prog 100 #[.pointer (some ⟨R, 0, none⟩)] w fun en w' => en = .returned (.int .i64 e) ∧ w = w' := by
  obtain ⟨ao, c, h1, h2, h3⟩ := h
  obtain ⟨c0, c1, f0, f1⟩ := two_cells h1
  clear h1 h2 h3
  go_enter Try.func100, Try.ntmps100
  go_wp2
  go_ret
  exact ⟨rfl, rfl⟩

set_option maxHeartbeats 1000000 in
set_option maxRecDepth 100000 in
theorem left_any (w : World) (R : Nat) (l : List UInt8) (e : Int) (h : RAt w R l e) :
    Calls Try.prog 101 #[.pointer (some ⟨R, 0, none⟩)] w fun en w' => en = .returned (.int .i64 (l.length : Nat)) ∧ w = w' := by
  obtain ⟨ao, c, h1, h2, h3⟩ := h
  obtain ⟨c0, c1, f0, f1⟩ := two_cells h1
  clear h1 h2 h3
  go_enter Try.func101, Try.ntmps101
  go_wp2
  go_ret
  exact ⟨rfl, rfl⟩

set_option maxHeartbeats 1000000 in
set_option maxRecDepth 100000 in
theorem look_any (w : World) (R : Nat) (m : Nat) (l : List UInt8) (e : Int) (h : RAt w R l e) :
    Calls Try.prog 117 #[.pointer (some ⟨R, 0, none⟩), .int .u64 (m : Int)] w (LookIs w R m l e) := by
  have h' := hid h
  obtain ⟨ao, c, h1, h2, h3⟩ := h
  obtain ⟨c0, c1, f0, f1⟩ := two_cells h1
  clear h1 h3
  go_enter Try.func117, Try.ntmps117
  go_wp2_with fail
  refine (err_any w R l e h'.out).mono ?_
  rintro en w1 ⟨rfl, rfl⟩
  by_cases he : e = 0
  · subst he
    go_wp2_with fail
    refine (first_any _ l w h2).mono ?_
    rintro en w1 ⟨rfl, rfl⟩
    have HS : Hid (lookS m l 0 = if (rdN 0 0 l).2.2 = 0 ∧ m < (rdN 0 0 l).1 then (0, 0, 9) else rdN 0 0 l) := by unfold lookS; rw [if_neg (by simp)]; exact rfl
    have hb := (rdN_bounds l 0 0 (by decide) (by omega)).2
    generalize rdN 0 0 l = t at *
    obtain ⟨v, n, er⟩ := t
    simp only at *
    have HF1 := fun e' => hid (h'.out.fault e')
    by_cases t1 : er = 0 ∧ m < v
    · have HL : Hid (lookS m l 0 = (0, 0, 9)) := by rw [HS.out, if_pos t1]; exact rfl
      obtain ⟨rfl, t1b⟩ := t1
      clear HS hb
      go_wp2
      go_ret2
      exact ⟨by rw [HL.out]; rfl, by rw [HL.out]; exact (HF1 9).out⟩
    · have HL : Hid (lookS m l 0 = (v, n, er)) := by rw [HS.out, if_neg t1]; exact rfl
      by_cases t2 : er = 0
      · subst t2
        have t3 : ¬ m < v := by omega
        clear HS hb HF1
        go_wp2
        go_ret2
        exact ⟨by rw [HL.out]; rfl, by rw [HL.out]; exact h'.out, World.grownBy.refl _ _⟩
      · obtain ⟨rfl, rfl⟩ : v = 0 ∧ n = 0 := by omega
        have HF := HF1 er
        clear HS hb HF1
        go_wp2
        go_ret2
        exact ⟨by rw [HL.out]; rfl, by rw [HL.out]; exact HF.out⟩
  · have HL : Hid (lookS m l e = (0, 0, e)) := by unfold lookS; rw [if_pos he]; exact rfl
    go_wp2_with fail
    go_ret2
    exact ⟨by rw [HL.out]; rfl, by rw [HL.out]; exact h'.out, World.grownBy.refl _ _⟩

/-- The reader has gone on by n. -/
def Passed (w : World) (R n : Nat) (l : List UInt8) (e : Int) (en : Ending) (w' : World) : Prop :=
  en = .returned (.tuple #[]) ∧ RAt w' R (l.drop n) e ∧ w.grownBy w' (some R)

set_option maxHeartbeats 1000000 in
set_option maxRecDepth 100000 in
theorem pass_any (w : World) (R n : Nat) (l : List UInt8) (e : Int) (h : RAt w R l e) (hn : n ≤ l.length) :
    Calls Try.prog 119 #[.pointer (some ⟨R, 0, none⟩), .int .i64 (n : Int)] w (Passed w R n l e) := by
  by_cases h0 : n = 0
  · subst h0
    go_enter Try.func119, Try.ntmps119
    go_wp2
    go_end0
    exact ⟨rfl, by simpa using h, World.grownBy.refl _ _⟩
  · have hpos : (0 : Int) < (n : Int) := by omega
    obtain ⟨ao, c, h1, h2, h3⟩ := h
    obtain ⟨c0, c1, f0, f1⟩ := two_cells h1
    obtain ⟨ao', c', hs, h5, h6⟩ := h2.cut 23 5 Try.underlying23 (by kernel_rfl) n hn
    have HS := hid (RAt.step h1 h3 h5 h6)
    clear h1 h2 h3 h5 h6 h0
    go_enter Try.func119, Try.ntmps119
    go_wp2
    go_end0
    exact ⟨rfl, HS.out⟩

theorem lookS_le (m : Nat) (l : List UInt8) (e : Int) : (lookS m l e).2.1 ≤ l.length := by
  have hb := (rdN_bounds l 0 0 (by decide) (by omega)).2
  unfold lookS
  split
  · exact Nat.zero_le _
  · split
    · exact Nat.zero_le _
    · omega

theorem lookS_lt (m : Nat) (l : List UInt8) (e : Int) : (lookS m l e).1 < 2 ^ 64 := by
  have hb := (rdN_bounds l 0 0 (by decide) (by omega)).1
  unfold lookS
  split
  · exact Nat.two_pow_pos 64
  · split
    · exact Nat.two_pow_pos 64
    · exact hb

theorem lookS_most (m : Nat) (l : List UInt8) (e : Int) : (lookS m l e).1 ≤ m := by
  have hb := (rdN_bounds l 0 0 (by decide) (by omega)).2
  unfold lookS
  split
  · exact Nat.zero_le _
  · split
    · exact Nat.zero_le _
    · omega

def maxU : Nat := 18446744073709551615
theorem maxU_eq : (18446744073709551615 : Int) = ((maxU : Nat) : Int) := rfl

/-- A number is read: its value; where the reader stands; its fault. -/
def NumIs (w : World) (R : Nat) (t : Nat × Nat × Int) (v : Value) (l : List UInt8) (en : Ending) (w' : World) : Prop :=
  en = .returned v ∧ RAt w' R (l.drop t.2.1) t.2.2 ∧ w.grownBy w' (some R)

set_option maxHeartbeats 1000000 in
set_option maxRecDepth 100000 in
theorem numR_any (w : World) (R : Nat) (l : List UInt8) (e : Int) (h : RAt w R l e) :
    Calls Try.prog 116 #[.pointer (some ⟨R, 0, none⟩)] w (NumIs w R (lookS maxU l e) (.int .u64 ((lookS maxU l e).1 : Nat)) l) := by
  go_enter Try.func116, Try.ntmps116
  go_wp2_with fail
  rw [maxU_eq]
  refine (look_any w R maxU l e h).mono ?_
  rintro en w1 ⟨rfl, h1, g1⟩
  go_wp2_with fail
  refine (pass_any w1 R _ l _ h1 (lookS_le _ _ _)).mono ?_
  rintro en w2 ⟨rfl, h2, g2⟩
  go_wp2_with fail
  go_ret
  exact ⟨rfl, h2, grown_trans g1 g2⟩

/-- What a signed number is read as. -/
def unzig (v : Nat) : Int := if v % 2 = 1 then -1 - (v / 2 : Nat) else (v / 2 : Nat)

end Go.Proofs.Ytiblambiebojmaa

namespace Go.Proofs.Ytiblambiebojmaa
open Go.RowKit

set_option maxHeartbeats 1000000 in
set_option maxRecDepth 100000 in
theorem clone_any (w : World) (x : Value) (l : List UInt8) (h : Rd w x l) (hl : l.length ≤ 140737488355328) :
    Calls Try.prog 76 #[x] w (Gives 5 w l) := by
  obtain ⟨ao, c, rfl, h1, h2, h3, h4⟩ := h
  cases ao with
  | none =>
    have hc := h3 rfl
    obtain rfl : l = [] := List.eq_nil_of_length_eq_zero (by omega)
    subst hc
    have heq := fun W => Lib.run_eql_slice_nil (P := Try.prog) W 23 5 none 0 0 0 0 Try.underlying23
    go_enter Try.func76, Try.ntmps76
    go_wp2_with fail
    go_ret
    exact ⟨_, rfl, World.ownsRow_nil _ _ _ _, Below.refl _ _⟩
  | some a =>
    have HR : Hid (Rd w (.slice (some a) l.length c) l) := ⟨some a, c, rfl, h1, h2, h3, h4⟩
    have heq := fun W => Lib.run_eql_slice_nil (P := Try.prog) W 23 5 (some a) l.length c 0 0 Try.underlying23
    have hown : (w.alloc (.cells #[] 5)).ownsRow w.heap.size 5 1 (.slice (some ⟨w.heap.size, 0, none⟩) 0 0) 0 [] := World.ownsRow_made w #[] 0 (Nat.le_refl _) (by decide) rfl
    have HR2 := HR.out.alloc (.cells #[] 5)
    clear h3 h4
    go_enter Try.func76, Try.ntmps76
    go_wp2_with (first
      | (at_builtin; refine wp_app rfl _ _ 23 rfl w.heap.size 5 Try.underlying23 (by kernel_rfl) _ _ _ rfl hown _ l rfl HR2 ?c1 ?c2 ?_))
    case c1 => omega
    case c2 => simp
    intro v' w1 hown' hgrow
    have hb : Below w.heap.size w w1 := ((Below.refl _ _).alloc (Nat.le_refl _) _).grown hgrow (by simp) (fun k hk => by simp [Value.ownBlock] at hk; omega)
    clear hgrow hown HR2
    go_wp2
    go_ret
    exact ⟨_, rfl, by simpa using hown', hb⟩

/-- A reader whose bytes lie in blocks from lo on. -/
def RLo (w : World) (R lo : Nat) (l : List UInt8) (e : Int) : Prop :=
  ∃ (ao : Option Addr) (c : Nat), w.heap[R]? = some (.cells #[.slice ao l.length c, .int .i64 e] 136 (0, 0)) ∧ Rd w (.slice ao l.length c) l ∧ ∀ k, blk (.slice ao l.length c) = some k → lo ≤ k ∧ k < R

theorem RLo.rat {w : World} {R lo : Nat} {l : List UInt8} {e : Int} (h : RLo w R lo l e) : RAt w R l e := by
  obtain ⟨ao, c, h1, h2, h3⟩ := h
  exact ⟨ao, c, h1, h2, fun k hk => (h3 k hk).2⟩

theorem RLo.kept {w w' : World} {R lo : Nat} {l : List UInt8} {e : Int} {row : Option Nat} (h : RLo w R lo l e) (hg : w.grownBy w' row) (hne : ∀ k, row = some k → k < lo ∧ k < R) : RLo w' R lo l e := by
  obtain ⟨ao, c, h1, h2, h3⟩ := h
  refine ⟨ao, c, heap_kept hg h1 (fun h => by have := hne R h.symm; omega), h2.kept hg ?_, h3⟩
  cases hb : blk (.slice ao l.length c) with
  | none => exact .inl rfl
  | some k =>
    right
    intro hk
    have h5 := h3 k hb
    have h6 := hne k hk.symm
    omega

theorem RLo.old {w w' : World} {R lo : Nat} {l : List UInt8} {e : Int} (h : RLo w R lo l e) (hb : Below w.heap.size w w') : RLo w' R lo l e :=
  h.kept (grown_below hb none) (fun k hk => by cases hk)

set_option maxHeartbeats 1000000 in
set_option maxRecDepth 100000 in
theorem new_lo (w : World) (x : Value) (l : List UInt8) (h : Rd w x l) (hl : l.length ≤ 140737488355328) :
    Calls Try.prog 41 #[x] w fun en w' => ∃ R, en = .returned (.pointer (some ⟨R, 0, none⟩)) ∧ w.heap.size ≤ R ∧ RLo w' R w.heap.size l 0 ∧ Below w.heap.size w w' := by
  go_enter Try.func41, Try.ntmps41
  go_wp2_with fail
  refine (clone_any w x l h hl).mono ?_
  rintro en w1 hg
  obtain ⟨ao, c, rfl, h1, h2⟩ := hg.elim
  have h3 := Rd.own h1
  have h4 := h1.lt
  clear hg h1
  go_wp2_with fail
  go_ret
  refine ⟨w1.heap.size, rfl, h2.size, ⟨ao, c, heap_alloc_new _ _, h3.alloc _, ?_⟩, h2.alloc h2.size _⟩
  intro k hk
  cases ao with
  | none => simp [blk] at hk
  | some a =>
    simp only [blk, Option.some.injEq] at hk
    have := h4 a.block rfl
    omega

theorem new_any (w : World) (x : Value) (l : List UInt8) (h : Rd w x l) (hl : l.length ≤ 140737488355328) :
    Calls Try.prog 41 #[x] w fun en w' => ∃ R, en = .returned (.pointer (some ⟨R, 0, none⟩)) ∧ w.heap.size ≤ R ∧ RAt w' R l 0 ∧ Below w.heap.size w w' :=
  (new_lo w x l h hl).mono fun _ _ ⟨R, h1, h2, h3, h4⟩ => ⟨R, h1, h2, h3.rat, h4⟩

/-- A number, or 0. -/
def nn (z : Int) : Nat := z.toNat

set_option maxHeartbeats 1000000 in
set_option maxRecDepth 100000 in
theorem bound_any (w : World) (z : Int) (hz : (Lit.int .i64 z).wf = true) :
    Calls Try.prog 118 #[.int .i64 z] w fun en w' => en = .returned (.int .u64 (nn z : Int)) ∧ w = w' := by
  have hb := bounds_i64 hz
  by_cases h : z < 0
  · have HW : Hid (IntKind.u64.wrap 0 = (nn z : Int)) := by unfold nn; rw [wrap_u64]; show (0 : Int) % _ = _; omega
    clear hb
    go_enter Try.func118, Try.ntmps118
    go_wp2
    go_ret
    exact ⟨by rw [← HW.out]; rfl, rfl⟩
  · have HW : Hid (IntKind.u64.wrap z = (nn z : Int)) := by unfold nn; rw [wrap_u64]; show _ = _; omega
    clear hb
    go_enter Try.func118, Try.ntmps118
    go_wp2
    go_ret
    exact ⟨by rw [← HW.out]; rfl, rfl⟩
end Go.Proofs.Ytiblambiebojmaa

namespace Go.Proofs.Ytiblambiebojmaa
open Go.RowKit

theorem unzig_facts {v : Nat} (h : v < 2 ^ 64) :
    IntKind.i64.wrap ((v : Int) / 2) = (v : Int) / 2 ∧ bits BinOp.and IntKind.u64 (v : Int) 1 = ((v % 2 : Nat) : Int) ∧ bits BinOp.xor IntKind.i64 (-1) ((v : Int) / 2) = -1 - (v : Int) / 2 := by
  refine ⟨?_, ?_, i64_not (by omega)⟩
  · rw [IntKind.wrap_i64]; omega
  · have h1 := u64_and_nat v 1 (by omega) (by omega)
    rw [nat_mask1] at h1
    exact h1

set_option maxHeartbeats 1000000 in
set_option maxRecDepth 100000 in
theorem intR_any (w : World) (R : Nat) (l : List UInt8) (e : Int) (h : RAt w R l e) :
    Calls Try.prog 102 #[.pointer (some ⟨R, 0, none⟩)] w (NumIs w R (lookS maxU l e) (.int .i64 (unzig (lookS maxU l e).1)) l) := by
  have hlt := lookS_lt maxU l e
  obtain ⟨f1, f2, f3⟩ := unzig_facts hlt
  go_enter Try.func102, Try.ntmps102
  go_wp2_with fail
  refine (numR_any w R l e h).mono ?_
  rintro en w1 ⟨rfl, h1, g1⟩
  have HE := hid (And.intro h1 g1)
  clear h1 g1 h hlt
  have hu : Hid (unzig (lookS maxU l e).1 = if (lookS maxU l e).1 % 2 = 1 then -1 - ((lookS maxU l e).1 : Int) / 2 else ((lookS maxU l e).1 : Int) / 2) := by unfold unzig; split <;> (show _ = _) <;> omega
  generalize lookS maxU l e = t at *
  obtain ⟨v, n, er⟩ := t
  simp only at *
  by_cases t1 : v % 2 = 1
  · have t2 : ((v % 2 : Nat) : Int) = 1 := by omega
    rw [t2] at f2
    have hv : Hid (-1 - (v : Int) / 2 = unzig v) := by rw [hu.out, if_pos t1]; exact rfl
    clear hu t1 t2
    go_wp2_with fail
    go_ret
    exact ⟨by rw [← hv.out]; rfl, HE.out⟩
  · have t2 : ((v % 2 : Nat) : Int) = 0 := by omega
    rw [t2] at f2
    have hv : Hid ((v : Int) / 2 = unzig v) := by rw [hu.out, if_neg t1]; exact rfl
    clear hu t1 t2
    go_wp2_with fail
    go_ret
    exact ⟨by rw [← hv.out]; rfl, HE.out⟩

set_option maxHeartbeats 1000000 in
set_option maxRecDepth 100000 in
theorem smallR_any (w : World) (R : Nat) (l : List UInt8) (e : Int) (z : Int) (hz : (Lit.int .i64 z).wf = true) (h : RAt w R l e) :
    Calls Try.prog 103 #[.pointer (some ⟨R, 0, none⟩), .int .i64 z] w (NumIs w R (lookS (nn z) l e) (.int .i64 ((lookS (nn z) l e).1 : Nat)) l) := by
  have hm := lookS_most (nn z) l e
  have hle := hid (lookS_le (nn z) l e)
  have hb := bounds_i64 hz
  have hw : IntKind.i64.wrap ((lookS (nn z) l e).1 : Int) = ((lookS (nn z) l e).1 : Int) := by
    rw [IntKind.wrap_i64]; unfold nn at *; omega
  have HW := hid hw
  clear hw hb hm
  go_enter Try.func103, Try.ntmps103
  go_wp2_with fail
  refine (bound_any _ z hz).mono ?_
  rintro en w1 ⟨rfl, rfl⟩
  go_wp2_with fail
  refine (look_any w R (nn z) l e h).mono ?_
  rintro en w1 ⟨rfl, h1, g1⟩
  go_wp2_with fail
  refine (pass_any w1 R _ l _ h1 hle.out).mono ?_
  rintro en w2 ⟨rfl, h2, g2⟩
  have HE := hid (And.intro h2 (grown_trans g1 g2))
  clear h1 g1 h2 g2
  have hw := HW.out
  go_wp2_with fail
  go_ret
  exact ⟨rfl, HE.out⟩

/-- A text is read: its bytes; how far the reader goes on; its fault. -/
def textS (m : Nat) (l : List UInt8) (e : Int) : List UInt8 × Nat × Int :=
  if (lookS m l e).2.1 = 0 then ([], 0, (lookS m l e).2.2)
  else if l.length - (lookS m l e).2.1 < (lookS m l e).1 then ([], 0, 8)
  else ((l.drop (lookS m l e).2.1).take (lookS m l e).1, (lookS m l e).2.1 + (lookS m l e).1, (lookS m l e).2.2)

def TextIs (w : World) (R : Nat) (t : List UInt8 × Nat × Int) (l : List UInt8) (en : Ending) (w' : World) : Prop :=
  ∃ (ao : Option Addr) (c : Nat), en = .returned (.slice ao t.1.length c) ∧ w'.ownsRow w.heap.size 5 1 (.slice ao t.1.length c) t.1.length (t.1.map bv) ∧ RAt w' R (l.drop t.2.1) t.2.2 ∧ w.grownBy w' (some R)

set_option maxHeartbeats 1000000 in
set_option maxRecDepth 100000 in
theorem textR_any (w : World) (R : Nat) (l : List UInt8) (e : Int) (z : Int) (hz : (Lit.int .i64 z).wf = true) (h : RAt w R l e) (hl : l.length ≤ 140737488355328) :
    Calls Try.prog 120 #[.pointer (some ⟨R, 0, none⟩), .int .i64 z] w (TextIs w R (textS (nn z) l e) l) := by
  have hm := lookS_most (nn z) l e
  have hle := lookS_le (nn z) l e
  have HT : Hid (textS (nn z) l e = if (lookS (nn z) l e).2.1 = 0 then ([], 0, (lookS (nn z) l e).2.2)
    else if l.length - (lookS (nn z) l e).2.1 < (lookS (nn z) l e).1 then ([], 0, 8)
    else ((l.drop (lookS (nn z) l e).2.1).take (lookS (nn z) l e).1, (lookS (nn z) l e).2.1 + (lookS (nn z) l e).1, (lookS (nn z) l e).2.2)) := rfl
  go_enter Try.func120, Try.ntmps120
  go_wp2_with fail
  refine (bound_any _ z hz).mono ?_
  rintro en w1 ⟨rfl, rfl⟩
  go_wp2_with fail
  refine (look_any w R (nn z) l e h).mono ?_
  rintro en w1 ⟨rfl, h1, g1⟩
  generalize lookS (nn z) l e = t at *
  obtain ⟨v, n, er⟩ := t
  simp only at *
  by_cases t1 : n = 0
  · have HF : Hid (textS (nn z) l e = ([], 0, er)) := by rw [HT.out, if_pos t1]; exact rfl
    have t1' : (n : Int) = 0 := by omega
    have HE := hid (And.intro h1 g1)
    clear HT h1 g1 h t1
    go_wp2_with fail
    go_ret
    refine ⟨none, 0, ?_, ?_, ?_⟩
    · rw [HF.out]; rfl
    · rw [HF.out]; exact World.ownsRow_nil _ _ _ _
    · rw [HF.out]; exact HE.out
  · have t1' : ¬ (n : Int) = 0 := by omega
    have hq : IntKind.u64.wrap ((l.length : Int) - (n : Int)) = (l.length : Int) - (n : Int) := by rw [wrap_u64]; omega
    by_cases t2 : l.length - n < v
    · have HF : Hid (textS (nn z) l e = ([], 0, 8)) := by rw [HT.out, if_neg t1, if_pos t2]; exact rfl
      have HE := hid (h1.fault 8)
      have Hg := hid g1
      obtain ⟨ao, c, a1, a2, a3⟩ := h1
      obtain ⟨c0, c1, f0, f1⟩ := two_cells a1
      have t2' : (l.length : Int) - (n : Int) < (v : Int) := by omega
      clear HT h t1 g1 a1 a2 a3 t2
      go_wp2_with fail
      go_ret
      refine ⟨none, 0, ?_, ?_, ?_⟩
      · rw [HF.out]; rfl
      · rw [HF.out]; exact World.ownsRow_nil _ _ _ _
      · rw [HF.out]; exact ⟨HE.out.1, grown_trans Hg.out HE.out.2⟩
    · have HF : Hid (textS (nn z) l e = ((l.drop n).take v, n + v, er)) := by rw [HT.out, if_neg t1, if_neg t2]; exact rfl
      have H1 := hid h1
      have Hg := hid g1
      obtain ⟨ao, c, a1, a2, a3⟩ := h1
      obtain ⟨c0, c1, f0, f1⟩ := two_cells a1
      have t2' : ¬ (l.length : Int) - (n : Int) < (v : Int) := by omega
      have hdl : (l.drop n).length = l.length - n := List.length_drop
      have htl : ((l.drop n).take v).length = v := by rw [List.length_take]; omega
      have Hdl := hid hdl
      have Htl := hid htl
      clear HT h t1 g1 a1 a2 a3 hdl htl
      go_wp2_with fail
      refine (pass_any w1 R _ l _ H1.out hle).mono ?_
      rintro en w2 ⟨rfl, h2, g2⟩
      have H2 := hid h2
      have Hg2 := hid g2
      clear c0 c1 f0 f1 hq H1
      obtain ⟨ao2, c2, a1, a2, a3⟩ := h2
      obtain ⟨c0, c1, f0, f1⟩ := two_cells a1
      have a5 := hid (a2.take v (by rw [Hdl.out]; omega))
      have hv2 : (v : Int) ≤ (c2 : Int) := by obtain ⟨_, _, hx, hx1, _⟩ := a2; simp only [Value.slice.injEq] at hx; have := Hdl.out; omega
      clear g2 a1 a2 a3
      go_wp2_with fail
      refine (clone_any w2 _ _ a5.out (by rw [Htl.out]; omega)).mono ?_
      rintro en w3 h3
      obtain ⟨ao4, c4, rfl, h4, h5⟩ := h3.elim
      rw [Htl.out]
      have H6 := hid (H2.out.old h5)
      have HO := hid h4
      have Hb := hid h5
      clear h3 h4 h5 a5 c0 c1 f0 f1
      go_wp2_with fail
      refine (pass_any w3 R v (l.drop n) er H6.out (by rw [Hdl.out]; omega)).mono ?_
      rintro en w4 ⟨rfl, h7, g7⟩
      have HE := hid (And.intro h7 g7)
      clear h7 g7
      go_wp2_with fail
      go_ret
      have hne : ∀ k, (Value.slice ao4 ((l.drop n).take v).length c4).ownBlock = some k → w2.heap.size ≤ k := fun k hk => (HO.out.lt k hk).1
      have hs1 := Hg.out.size
      have hs2 := Hg2.out.size
      have hs3 := Hb.out.size
      have hR := H2.out.lt
      refine ⟨ao4, c4, ?_, ?_, ?_, ?_⟩
      · rw [HF.out]; simp only [Htl.out]; rfl
      · rw [HF.out]
        have h8 := HO.out.kept HE.out.2 (by
          cases ho : (Value.slice ao4 ((l.drop n).take v).length c4).ownBlock with
          | none => exact .inl rfl
          | some k => right; intro hk; have := hne k ho; simp at hk; omega)
        exact ownsRow_base h8 (by omega)
      · rw [HF.out]
        have := HE.out.1
        rw [List.drop_drop] at this
        exact this
      · exact grown_trans (grown_trans (grown_trans Hg.out Hg2.out) (grown_below Hb.out _)) HE.out.2

/-- What End answers. -/
def endS (l : List UInt8) (e : Int) : Int := if e ≠ 0 then e else if 0 < l.length then 9 else 0

set_option maxHeartbeats 1000000 in
set_option maxRecDepth 100000 in
theorem endR_any (w : World) (R : Nat) (l : List UInt8) (e : Int) (h : RAt w R l e) :
    Calls Try.prog 77 #[.pointer (some ⟨R, 0, none⟩)] w fun en w' => en = .returned (.int .i64 (endS l e)) ∧ w = w' := by
  have HE : Hid (endS l e = if e ≠ 0 then e else if 0 < l.length then 9 else 0) := rfl
  go_enter Try.func77, Try.ntmps77
  go_wp2_with fail
  refine (err_any w R l e h).mono ?_
  rintro en w1 ⟨rfl, rfl⟩
  by_cases t1 : e = 0
  · by_cases t2 : 0 < l.length
    · have HF : Hid (endS l e = 9) := by rw [HE.out, if_neg (by simpa using t1), if_pos t2]; exact rfl
      have hh := hid h
      subst t1
      clear h HE
      go_wp2_with fail
      refine (left_any w R l 0 hh.out).mono ?_
      rintro en w1 ⟨rfl, rfl⟩
      go_wp2_with fail
      go_ret
      exact ⟨by rw [HF.out]; rfl, rfl⟩
    · have HF : Hid (endS l e = 0) := by rw [HE.out, if_neg (by simpa using t1), if_neg t2]; exact rfl
      have hh := hid h
      subst t1
      clear h HE
      go_wp2_with fail
      refine (left_any w R l 0 hh.out).mono ?_
      rintro en w1 ⟨rfl, rfl⟩
      go_wp2_with fail
      go_ret
      exact ⟨by rw [HF.out]; rfl, rfl⟩
  · have HF : Hid (endS l e = e) := by rw [HE.out, if_pos t1]; exact rfl
    clear h HE
    go_wp2_with fail
    go_ret
    exact ⟨by rw [HF.out]; rfl, rfl⟩

end Go.Proofs.Ytiblambiebojmaa

namespace Go.Proofs.Ytiblambiebojmaa
open Go.RowKit

theorem lookS_back {v m : Nat} (h : v < 2 ^ 64) (hm : v ≤ m) (r : List UInt8) : lookS m (numL v ++ r) 0 = (v, (numL v).length, 0) := by
  unfold lookS
  rw [if_neg (by simp), rdN_back h r, if_neg (by simp; omega)]

theorem unzig_zig {i : Int} (_h : (Lit.int .i64 i).wf = true) : unzig (zig i) = i := by
  unfold unzig zig
  split <;> split <;> omega

theorem textS_back {b : List UInt8} {m : Nat} (h : b.length ≤ m) (hb : b.length < 2 ^ 64) (r : List UInt8) : textS m (textL b ++ r) 0 = (b, (textL b).length, 0) := by
  have e : textL b ++ r = numL b.length ++ (b ++ r) := by unfold textL; simp
  have h0 := numL_pos b.length
  unfold textS
  rw [e, lookS_back hb h]
  rw [if_neg (by simp; intro h1; rw [h1] at h0; simp at h0), if_neg (by simp)]
  simp [textL]

end Go.Proofs.Ytiblambiebojmaa

set_option linter.unusedVariables false
set_option linter.unusedSimpArgs false
set_option maxRecDepth 100000
namespace Go.Proofs.Ytiblambiebojmaa
open Go.RowKit Go.Deep

/-- What a reader has: what is left, and its fault. -/
abbrev Rst := List UInt8 × Int

/-- A list's things, one by one: how many, their bytes, and what the reader has then (behind a fault it stops). -/
def rdLF (f : Rst → List UInt8 × Rst) : Nat → Rst → Nat × List UInt8 × Rst
  | 0, st => (0, [], st)
  | n + 1, st => if (f st).2.2 ≠ 0 then (1, (f st).1, (f st).2) else ((rdLF f n (f st).2).1 + 1, (f st).1 ++ (rdLF f n (f st).2).2.1, (rdLF f n (f st).2).2.2)

/-- What is read, by its plain bytes, and what the reader has then. -/
def rdF : Sh → Rst → List UInt8 × Rst
  | .num, st => (numL (lookS maxU st.1 st.2).1, st.1.drop (lookS maxU st.1 st.2).2.1, (lookS maxU st.1 st.2).2.2)
  | .int, st => (numL (zig (unzig (lookS maxU st.1 st.2).1)), st.1.drop (lookS maxU st.1 st.2).2.1, (lookS maxU st.1 st.2).2.2)
  | .bool, st => (numL (if decide ((lookS 1 st.1 st.2).1 = 1) then 1 else 0), st.1.drop (lookS 1 st.1 st.2).2.1, (lookS 1 st.1 st.2).2.2)
  | .data, st => (textL (textS 65536 st.1 st.2).1, st.1.drop (textS 65536 st.1 st.2).2.1, (textS 65536 st.1 st.2).2.2)
  | .name, st => (textL (textS 65536 st.1 st.2).1, st.1.drop (textS 65536 st.1 st.2).2.1, (textS 65536 st.1 st.2).2.2)
  | .list s, st => (numL (rdLF (rdF s) (lookS 5000 st.1 st.2).1 (st.1.drop (lookS 5000 st.1 st.2).2.1, (lookS 5000 st.1 st.2).2.2)).1 ++ (rdLF (rdF s) (lookS 5000 st.1 st.2).1 (st.1.drop (lookS 5000 st.1 st.2).2.1, (lookS 5000 st.1 st.2).2.2)).2.1,
      (rdLF (rdF s) (lookS 5000 st.1 st.2).1 (st.1.drop (lookS 5000 st.1 st.2).2.1, (lookS 5000 st.1 st.2).2.2)).2.2)
  | .nil, st => ([], st)
  | .cons s r, st => ((rdF s st).1 ++ (rdF r (rdF s st).2).1, (rdF r (rdF s st).2).2)

/-- The cells have these plain bytes, and all their memory lies in blocks of N. -/
def EncN (N : Nat → Prop) (W : World) : Sh → List Value → List UInt8 → Prop
  | .num, cs, bs => Enc W .num cs bs
  | .int, cs, bs => Enc W .int cs bs
  | .bool, cs, bs => Enc W .bool cs bs
  | .data, cs, bs => ∃ x l, cs = [x] ∧ x.oneCell' = true ∧ Rd W x l ∧ l.length ≤ 1048576 ∧ bs = textL l ∧ ∀ k, blk x = some k → N k
  | .name, cs, bs => Enc W .name cs bs
  | .list s, cs, bs => ∃ (a : Option Addr) (c : Nat) (M : List (List Value × List UInt8)), cs = [.slice a M.length c] ∧ Rws s.wid W (.slice a M.length c) (M.map (·.1)) ∧ (∀ m ∈ M, EncN N W s m.1 m.2) ∧ M.length ≤ 1048576 ∧ bs = numL M.length ++ (M.map (·.2)).flatten ∧ ∀ k, blk (.slice a M.length c) = some k → N k
  | .nil, cs, bs => cs = [] ∧ bs = []
  | .cons s r, cs, bs => ∃ c1 c2 b1 b2, cs = c1 ++ c2 ∧ bs = b1 ++ b2 ∧ EncN N W s c1 b1 ∧ EncN N W r c2 b2

theorem EncN.enc {N : Nat → Prop} {W : World} : ∀ (s : Sh) {cs : List Value} {bs : List UInt8}, EncN N W s cs bs → Enc W s cs bs
  | .num, cs, bs, h => h
  | .int, cs, bs, h => h
  | .bool, cs, bs, h => h
  | .data, cs, bs, h => by obtain ⟨x, l, h1, h2, h3, h4, h5, _⟩ := h; exact ⟨x, l, h1, h2, h3, h4, h5⟩
  | .name, cs, bs, h => h
  | .list s, cs, bs, h => by
    obtain ⟨a, c, M, h1, h2, h3, h4, h5, _⟩ := h
    exact ⟨a, c, M, h1, h2, fun m hm => EncN.enc s (h3 m hm), h4, h5⟩
  | .nil, cs, bs, h => h
  | .cons s r, cs, bs, h => by
    obtain ⟨c1, c2, b1, b2, h1, h2, h3, h4⟩ := h
    exact ⟨c1, c2, b1, b2, h1, h2, EncN.enc s h3, EncN.enc r h4⟩

theorem EncN.mono {N N' : Nat → Prop} {W : World} (hN : ∀ k, N k → N' k) : ∀ (s : Sh) {cs : List Value} {bs : List UInt8}, EncN N W s cs bs → EncN N' W s cs bs
  | .num, cs, bs, h => h
  | .int, cs, bs, h => h
  | .bool, cs, bs, h => h
  | .data, cs, bs, h => by obtain ⟨x, l, h1, h2, h3, h4, h5, h6⟩ := h; exact ⟨x, l, h1, h2, h3, h4, h5, fun k hk => hN k (h6 k hk)⟩
  | .name, cs, bs, h => h
  | .list s, cs, bs, h => by
    obtain ⟨a, c, M, h1, h2, h3, h4, h5, h6⟩ := h
    exact ⟨a, c, M, h1, h2, fun m hm => EncN.mono hN s (h3 m hm), h4, h5, fun k hk => hN k (h6 k hk)⟩
  | .nil, cs, bs, h => h
  | .cons s r, cs, bs, h => by
    obtain ⟨c1, c2, b1, b2, h1, h2, h3, h4⟩ := h
    exact ⟨c1, c2, b1, b2, h1, h2, EncN.mono hN s h3, EncN.mono hN r h4⟩

theorem EncN.keep {N X : Nat → Prop} {W W' : World} (hk : Keep X W W') (hx : ∀ k, N k → ¬ X k) : ∀ (s : Sh) {cs : List Value} {bs : List UInt8}, EncN N W s cs bs → EncN N W' s cs bs
  | .num, cs, bs, h => h
  | .int, cs, bs, h => h
  | .bool, cs, bs, h => h
  | .data, cs, bs, h => by obtain ⟨x, l, h1, h2, h3, h4, h5, h6⟩ := h; exact ⟨x, l, h1, h2, h3.keep hk (fun _ k hb => hx k (h6 k hb)), h4, h5, h6⟩
  | .name, cs, bs, h => h
  | .list s, cs, bs, h => by
    obtain ⟨a, c, M, h1, h2, h3, h4, h5, h6⟩ := h
    exact ⟨a, c, M, h1, h2.keep hk (fun _ k hb => hx k (h6 k hb)), fun m hm => EncN.keep hk hx s (h3 m hm), h4, h5, h6⟩
  | .nil, cs, bs, h => h
  | .cons s r, cs, bs, h => by
    obtain ⟨c1, c2, b1, b2, h1, h2, h3, h4⟩ := h
    exact ⟨c1, c2, b1, b2, h1, h2, EncN.keep hk hx s h3, EncN.keep hk hx r h4⟩

theorem RAt.keepK {X : Nat → Prop} {w w' : World} {R : Nat} {l : List UInt8} {e : Int} (h : RAt w R l e) (hk : Keep X w w') (hx : ∀ k, X k → R < k) : RAt w' R l e := by
  obtain ⟨ao, c, h1, h2, h3⟩ := h
  refine ⟨ao, c, (hk.block R (lt_of_block h1) (fun hR => by have := hx R hR; omega)).trans h1, h2.keep hk (fun _ k hb hX => ?_), h3⟩
  have a1 := hx k hX
  have a2 := h3 k hb
  omega

/-- What a reading call leaves. -/
def RdP (s : Sh) (R : Nat) (w : World) (st : Rst) (cs : List Value) (w' : World) : Prop :=
  EncN (fun k => w.heap.size ≤ k ∧ k < w'.heap.size) w' s cs (rdF s st).1 ∧ RAt w' R (rdF s st).2.1 (rdF s st).2.2 ∧ Keep (fun k => k = R) w w'

theorem unzig_wf {v : Nat} (h : v < 2 ^ 64) : (Lit.int .i64 (unzig v)).wf = true := by
  have : -9223372036854775808 ≤ unzig v ∧ unzig v < 9223372036854775808 := by unfold unzig; split <;> omega
  simp only [Lit.wf, Bool.and_eq_true, decide_eq_true_eq]
  exact ⟨this.1, by show unzig v ≤ 9223372036854775807; omega⟩

theorem textS_len (m : Nat) (l : List UInt8) (e : Int) : (textS m l e).1.length ≤ m := by
  unfold textS
  split
  · simp
  · split
    · simp
    · rw [List.length_take]
      have := lookS_most m l e
      omega

section
variable {w : World} {R : Nat} {st : Rst}

set_option maxHeartbeats 1000000 in
theorem rwhole_any (h : RAt w R st.1 st.2) : Calls Try.prog 79 #[.agg #[.pointer (some ⟨R, 0, none⟩)]] w (fun en w' => ∃ v, en = .returned v ∧ RdP .int R w st [v] w') := by
  have hb : Below w.heap.size w (w.alloc (.cells #[.pointer (some ⟨R, 0, none⟩)] 105)) := (Below.refl _ _).alloc (Nat.le_refl _) _
  have hz := (one_cell (heap_alloc_new w (.cells #[.pointer (some ⟨R, 0, none⟩)] 105))).1
  have H := hid (h.old hb)
  have HB := hid hb
  clear h hb
  go_enter Try.func79, Try.ntmps79
  go_upto_region 1 with fail
  generalize w.alloc (.cells #[.pointer (some ⟨R, 0, none⟩)] 105) = w1 at *
  go_wp2_with (first | (go_at_call 102; refine (intR_any w1 R st.1 st.2 H.out).mono ?_; rintro en w2 ⟨rfl, h2, g2⟩; have H2 := hid h2; have G2 := hid g2; clear h2 g2))
  go_ret
  exact ⟨_, rfl, ⟨_, unzig_wf (lookS_lt _ _ _), rfl, rfl⟩, H2.out, (Keep.of_below HB.out).trans (Keep.of_grown G2.out (fun k e => by cases e; rfl))⟩

set_option maxHeartbeats 1000000 in
theorem rflag_any (h : RAt w R st.1 st.2) : Calls Try.prog 110 #[.agg #[.pointer (some ⟨R, 0, none⟩)]] w (fun en w' => ∃ v, en = .returned v ∧ RdP .bool R w st [v] w') := by
  have hb : Below w.heap.size w (w.alloc (.cells #[.pointer (some ⟨R, 0, none⟩)] 105)) := (Below.refl _ _).alloc (Nat.le_refl _) _
  have hz := (one_cell (heap_alloc_new w (.cells #[.pointer (some ⟨R, 0, none⟩)] 105))).1
  have H := hid (h.old hb)
  have HB := hid hb
  clear h hb
  go_enter Try.func110, Try.ntmps110
  go_upto_region 1 with fail
  generalize w.alloc (.cells #[.pointer (some ⟨R, 0, none⟩)] 105) = w1 at *
  obtain ⟨q, hq⟩ : ∃ q : Bool, q = decide ((lookS 1 st.1 st.2).1 = 1) := ⟨_, rfl⟩
  have HQ : Hid (((((lookS 1 st.1 st.2).1 : Nat) : Int) == 1) = q) := hid (by rw [hq, Bool.eq_iff_iff]; simp only [beq_iff_eq, decide_eq_true_eq]; omega)
  go_wp2_with (first | (go_at_call 103; refine (smallR_any w1 R st.1 st.2 1 (by decide) H.out).mono ?_; rintro en w2 ⟨rfl, h2, g2⟩; have H2 := hid h2; have G2 := hid g2; clear h2 g2))
  go_ret
  exact ⟨_, rfl, ⟨q, by rw [← HQ.out]; rfl, by rw [hq]; rfl⟩, H2.out, (Keep.of_below HB.out).trans (Keep.of_grown G2.out (fun k e => by cases e; rfl))⟩

set_option maxHeartbeats 1000000 in
theorem rname_any (h : RAt w R st.1 st.2) (hl : st.1.length ≤ 140737488355328) : Calls Try.prog 105 #[.agg #[.pointer (some ⟨R, 0, none⟩)]] w (fun en w' => ∃ v, en = .returned v ∧ RdP .name R w st [v] w') := by
  have hb : Below w.heap.size w (w.alloc (.cells #[.pointer (some ⟨R, 0, none⟩)] 105)) := (Below.refl _ _).alloc (Nat.le_refl _) _
  have hz := (one_cell (heap_alloc_new w (.cells #[.pointer (some ⟨R, 0, none⟩)] 105))).1
  have H := hid (h.old hb)
  have HB := hid hb
  clear h hb
  go_enter Try.func105, Try.ntmps105
  go_upto_region 1 with fail
  generalize w.alloc (.cells #[.pointer (some ⟨R, 0, none⟩)] 105) = w1 at *
  have C := textR_any w1 R st.1 st.2 65536 (by decide) H.out hl
  have CH := hid C
  clear C
  go_wp2_with (first | (go_at_call 120; refine CH.out.mono ?_; rintro en w2 ⟨ao, c, rfl, ho, h2, g2⟩; have HC := (Rd.own ho).conv (P := Try.prog) 23 9 5 Try.underlying23 Try.underlying5 Try.underlying9; have H2 := hid h2; have G2 := hid g2; clear ho h2 g2))
  go_ret
  exact ⟨_, rfl, ⟨_, rfl, Nat.le_trans (textS_len _ _ _) (by decide), rfl⟩, H2.out, (Keep.of_below HB.out).trans (Keep.of_grown G2.out (fun k e => by cases e; rfl))⟩
end
end Go.Proofs.Ytiblambiebojmaa

set_option linter.unusedVariables false
set_option linter.unusedSimpArgs false
set_option maxRecDepth 100000
namespace Go.Proofs.Ytiblambiebojmaa
open Go.RowKit Go.Deep

theorem zig_unzig {v : Nat} (h : v < 2 ^ 64) : zig (unzig v) = v := by
  unfold zig unzig
  split <;> split <;> omega

theorem lookS_ok {m : Nat} {l : List UInt8} {e : Int} (h : (lookS m l e).2.2 = 0) : e = 0 ∧ l = numL (lookS m l e).1 ++ l.drop (lookS m l e).2.1 := by
  unfold lookS at h ⊢
  by_cases he : e = 0
  · subst he
    rw [if_neg (by simp)] at h ⊢
    split at h
    · cases h
    · rename_i hm
      rw [if_neg hm]
      obtain ⟨x, h1, h2, h3, -⟩ := rdN_inv l 0 0 (rdN 0 0 l).1 (rdN 0 0 l).2.1 (by omega) (by rw [← h])
      have hx : (rdN 0 0 l).1 = x := by rw [h1]; omega
      have hn : (rdN 0 0 l).2.1 = (numL x).length := by omega
      refine ⟨rfl, ?_⟩
      rw [hx, hn]
      conv => lhs; rw [← List.take_append_drop (numL x).length l, ← h3]
  · rw [if_pos he] at h
    exact absurd h he

theorem textS_ok {m : Nat} {l : List UInt8} {e : Int} (h : (textS m l e).2.2 = 0) : e = 0 ∧ l = textL (textS m l e).1 ++ l.drop (textS m l e).2.1 := by
  unfold textS at h ⊢
  split at h
  · rename_i h0
    obtain ⟨he, hl⟩ := lookS_ok h
    have h1 := congrArg List.length hl
    have h2 := numL_pos (lookS m l e).1
    rw [h0, List.drop_zero, List.length_append] at h1
    omega
  · rename_i h0
    rw [if_neg h0]
    split at h
    · cases h
    · rename_i h1
      rw [if_neg h1]
      obtain ⟨he, hl⟩ := lookS_ok h
      refine ⟨he, ?_⟩
      have hlen : ((l.drop (lookS m l e).2.1).take (lookS m l e).1).length = (lookS m l e).1 := by rw [List.length_take, List.length_drop]; omega
      unfold textL
      simp only
      rw [hlen, List.append_assoc, ← List.drop_drop, List.take_append_drop]
      exact hl

theorem rdLF_more9 (f : Rst → List UInt8 × Rst) (n : Nat) (st : Rst) (h : (f st).2.2 = 0) : rdLF f (n + 1) st = ((rdLF f n (f st).2).1 + 1, (f st).1 ++ (rdLF f n (f st).2).2.1, (rdLF f n (f st).2).2.2) := by
  rw [rdLF, if_neg (by simpa using h)]
theorem rdLF_stop9 (f : Rst → List UInt8 × Rst) (n : Nat) (st : Rst) (h : (f st).2.2 ≠ 0) : rdLF f (n + 1) st = (1, (f st).1, (f st).2) := by
  rw [rdLF, if_pos h]

/-- What is read is there. -/
theorem rd_sound : ∀ (s : Sh) (st : Rst), (rdF s st).2.2 = 0 → st.2 = 0 ∧ st.1 = (rdF s st).1 ++ (rdF s st).2.1
  | .num, st, h => lookS_ok h
  | .int, st, h => by
    obtain ⟨h1, h2⟩ := lookS_ok h
    refine ⟨h1, ?_⟩
    show st.1 = numL (zig (unzig _)) ++ _
    rw [zig_unzig (lookS_lt _ _ _)]
    exact h2
  | .bool, st, h => by
    obtain ⟨h1, h2⟩ := lookS_ok h
    refine ⟨h1, ?_⟩
    show st.1 = numL (if decide _ then 1 else 0) ++ _
    have hm := lookS_most 1 st.1 st.2
    have e : (if decide ((lookS 1 st.1 st.2).1 = 1) then 1 else 0) = (lookS 1 st.1 st.2).1 := by
      by_cases hq : (lookS 1 st.1 st.2).1 = 1
      · simp [hq]
      · simp [hq]; omega
    rw [e]
    exact h2
  | .data, st, h => textS_ok h
  | .name, st, h => textS_ok h
  | .list s, st, h => by
    have ih := rd_sound s
    have key : ∀ n (st : Rst), (rdLF (rdF s) n st).2.2.2 = 0 → st.2 = 0 → (rdLF (rdF s) n st).1 = n ∧ st.1 = (rdLF (rdF s) n st).2.1 ++ (rdLF (rdF s) n st).2.2.1 := fun n => by
      induction n with
      | zero => intro st _ _; exact ⟨rfl, rfl⟩
      | succ n ihn =>
        intro st h0 hs
        by_cases hf : (rdF s st).2.2 = 0
        · rw [rdLF_more9 _ _ _ hf] at h0 ⊢
          obtain ⟨g1, g2⟩ := ihn _ h0 hf
          obtain ⟨k1, k2⟩ := ih st hf
          refine ⟨by simp only; omega, ?_⟩
          simp only [List.append_assoc]
          rw [← g2]
          exact k2
        · rw [rdLF_stop9 _ _ _ hf] at h0
          exact absurd h0 hf
    have zero : ∀ n (st : Rst), st.2 ≠ 0 → (rdLF (rdF s) n st).2.2.2 ≠ 0 := fun n => by
      cases n with
      | zero => intro st h0; exact h0
      | succ n =>
        intro st h0
        have hf : (rdF s st).2.2 ≠ 0 := fun e => h0 (ih st e).1
        rw [rdLF_stop9 _ _ _ hf]
        exact hf
    have h' : (rdLF (rdF s) (lookS 5000 st.1 st.2).1 (st.1.drop (lookS 5000 st.1 st.2).2.1, (lookS 5000 st.1 st.2).2.2)).2.2.2 = 0 := h
    have h0 : (lookS 5000 st.1 st.2).2.2 = 0 := Classical.byContradiction fun e => zero _ (st.1.drop (lookS 5000 st.1 st.2).2.1, (lookS 5000 st.1 st.2).2.2) e h'
    obtain ⟨h1, h2⟩ := lookS_ok h0
    obtain ⟨g1, g2⟩ := key _ _ h' h0
    refine ⟨h1, ?_⟩
    simp only at g2
    simp only [rdF]
    rw [g1, List.append_assoc, ← g2]
    exact h2
  | .nil, st, h => ⟨h, rfl⟩
  | .cons s r, st, h => by
    obtain ⟨h1, h2⟩ := rd_sound r _ h
    obtain ⟨g1, g2⟩ := rd_sound s _ h1
    refine ⟨g1, ?_⟩
    simp only [rdF]
    rw [List.append_assoc, ← h2]
    exact g2

def Sh.full : Sh → Bool
  | .nil => false
  | .cons s r => s.full || r.full
  | _ => true
def Sh.good : Sh → Bool
  | .list s => s.full && s.good
  | .cons s r => s.good && r.good
  | _ => true

theorem full_pos {W : World} : ∀ (s : Sh) {cs : List Value} {b : List UInt8}, s.full = true → Enc W s cs b → 1 ≤ b.length
  | .num, cs, b, _, h => by obtain ⟨n, _, _, rfl⟩ := h; exact numL_pos _
  | .int, cs, b, _, h => by obtain ⟨n, _, _, rfl⟩ := h; exact numL_pos _
  | .bool, cs, b, _, h => by obtain ⟨n, _, rfl⟩ := h; exact numL_pos _
  | .data, cs, b, _, h => by obtain ⟨x, l, _, _, _, _, rfl⟩ := h; unfold textL; rw [List.length_append]; have := numL_pos l.length; omega
  | .name, cs, b, _, h => by obtain ⟨l, _, _, rfl⟩ := h; unfold textL; rw [List.length_append]; have := numL_pos l.length; omega
  | .list s, cs, b, _, h => by obtain ⟨a, c, M, _, _, _, _, rfl⟩ := h; rw [List.length_append]; have := numL_pos M.length; omega
  | .nil, cs, b, hf, h => by cases hf
  | .cons s r, cs, b, hf, h => by
    obtain ⟨c1, c2, b1, b2, _, rfl, h1, h2⟩ := h
    simp only [Sh.full, Bool.or_eq_true] at hf
    rw [List.length_append]
    rcases hf with hf | hf
    · have := full_pos s hf h1; omega
    · have := full_pos r hf h2; omega

/-- What is written is read. -/
theorem rd_back {W : World} : ∀ (s : Sh) {cs : List Value} {b : List UInt8} (r : List UInt8), s.good = true → Enc W s cs b → b.length ≤ 5000 → rdF s (b ++ r, 0) = (b, r, 0)
  | .num, cs, b, r, _, h, hl => by
    obtain ⟨n, hn, _, rfl⟩ := h
    simp only [rdF, lookS_back (v := n) (m := maxU) (by omega) (by unfold maxU; omega) r, List.drop_left]
  | .int, cs, b, r, _, h, hl => by
    obtain ⟨z, hz, _, rfl⟩ := h
    have := zig_lt hz
    simp only [rdF, lookS_back (v := zig z) (m := maxU) (by omega) (by unfold maxU; omega) r, List.drop_left, unzig_zig hz]
  | .bool, cs, b, r, _, h, hl => by
    obtain ⟨q, _, rfl⟩ := h
    cases q <;> simp [rdF, lookS_back (v := 0) (m := 1) (by omega) (by omega) r, lookS_back (v := 1) (m := 1) (by omega) (by omega) r, List.drop_left]
  | .data, cs, b, r, _, h, hl => by
    obtain ⟨x, l, _, _, _, _, rfl⟩ := h
    have : l.length ≤ 5000 := by unfold textL at hl; rw [List.length_append] at hl; omega
    simp only [rdF, textS_back (b := l) (m := 65536) (by omega) (by omega) r, List.drop_left]
  | .name, cs, b, r, _, h, hl => by
    obtain ⟨l, _, _, rfl⟩ := h
    have : l.length ≤ 5000 := by unfold textL at hl; rw [List.length_append] at hl; omega
    simp only [rdF, textS_back (b := l) (m := 65536) (by omega) (by omega) r, List.drop_left]
  | .list s, cs, b, r, hg, h, hl => by
    obtain ⟨a, c, M, _, _, hM, _, rfl⟩ := h
    simp only [Sh.good, Bool.and_eq_true] at hg
    have hfl : (M.map (·.2)).flatten.length ≤ 5000 := by rw [List.length_append] at hl; omega
    have hle0 : ∀ L : List (List Value × List UInt8), (∀ m ∈ L, Enc W s m.1 m.2) → L.length ≤ (L.map (·.2)).flatten.length := fun L => by
      induction L with
      | nil => intro _; simp
      | cons m L ih =>
        intro hL
        have h1 := full_pos s hg.1 (hL m (by simp))
        have h2 := ih (fun x hx => hL x (by simp [hx]))
        simp only [List.map_cons, List.flatten_cons, List.length_append, List.length_cons]
        omega
    have hle := hle0 M hM
    have key : ∀ L : List (List Value × List UInt8), (∀ m ∈ L, Enc W s m.1 m.2) → (L.map (·.2)).flatten.length ≤ 5000 → rdLF (rdF s) L.length ((L.map (·.2)).flatten ++ r, 0) = (L.length, (L.map (·.2)).flatten, r, 0) := fun L => by
      induction L with
      | nil => intro _ _; rfl
      | cons m L ih =>
        intro hL hq
        simp only [List.map_cons, List.flatten_cons, List.length_append] at hq
        have h1 := rd_back s ((L.map (·.2)).flatten ++ r) hg.2 (hL m (by simp)) (by omega)
        have h2 := ih (fun x hx => hL x (by simp [hx])) (by omega)
        simp only [List.map_cons, List.flatten_cons, List.length_cons, List.append_assoc]
        rw [rdLF_more9 _ _ _ (by rw [h1]), h1, h2]
    have hk := key M hM hfl
    simp only [rdF, List.append_assoc, lookS_back (v := M.length) (m := 5000) (by omega) (by omega) ((M.map (·.2)).flatten ++ r), List.drop_left, hk]
  | .nil, cs, b, r, _, h, hl => by obtain ⟨_, rfl⟩ := h; rfl
  | .cons s t, cs, b, r, hg, h, hl => by
    obtain ⟨c1, c2, b1, b2, _, rfl, h1, h2⟩ := h
    simp only [Sh.good, Bool.and_eq_true] at hg
    rw [List.length_append] at hl
    have e1 := rd_back s (b2 ++ r) hg.1 h1 (by omega)
    have e2 := rd_back t r hg.2 h2 (by omega)
    simp only [rdF, List.append_assoc, e1, e2]
end Go.Proofs.Ytiblambiebojmaa

