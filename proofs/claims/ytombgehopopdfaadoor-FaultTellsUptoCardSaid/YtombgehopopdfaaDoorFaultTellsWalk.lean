/-
  THE LAW FaultTells: the walk.
-/
import Derived.Test.YtombgehopopdfaaDoorTells0
import Derived.BigQuiet
set_option linter.unusedVariables false
namespace Go.Proofs.YtombgehopopdfaaDoor
open Go.RowKit Go.Extern.Stop Go.Stop Go.Extern

theorem below_drewN {B : Nat} {w0 w : World} (h : Below B w0 w) (n : Nat) : Below B w0 (w.drewN n) := h.trans ⟨rfl, rfl, rfl, Nat.le_refl _, fun _ _ => rfl⟩

namespace faultTellsUpto

set_option maxHeartbeats 4000000 in
set_option maxRecDepth 100000 in
theorem walk (K code : Int) (o : ByteArray) (x : Value) (l : List ByteArray) (w : World) (hg : Ready w) (ho : o.size ≤ 1048576) (hx : Strs w x l) (hcap : ∀ ao n c, x = .slice ao n c → n ≤ c) (hs : Small l) :
    Calls Tryd.prog 3 #[.int .i64 K, .int .i64 code, .string o, x] w fun e w' => e = .returned (.bool true) ∧ Below w.heap.size w w' := by
  have HG := hid hg
  have HX := hid hx
  have HCap := hid hcap
  have HSm := hid hs
  have HO := hid ho
  clear hg hx hcap hs ho
  go_enter Tryd.func3, Tryd.ntmps3
  go_wp2_with fail
  refine (made_any K code o x l w HG.out.lt HX.out HCap.out).mono ?_
  rintro e w1 ⟨hb1, he⟩
  rcases he with rfl | ⟨l', d, kk, v, xv, rfl, hch, hstr, hlen, hmem, hkd⟩
  · unfold chainV
    have HB := hid (below_step hb1 ((Below.refl _ _).alloc (Nat.le_refl _) (.cells #[.slice none 0 0, .int .i64 code, .string o, .int .i64 0] 27)) (Nat.le_refl _))
    have hz := alloc_at w1 (.cells #[.slice none 0 0, .int .i64 code, .string o, .int .i64 0] 27)
    go_upto_region 2 with fail
    generalize w1.alloc (.cells #[.slice none 0 0, .int .i64 code, .string o, .int .i64 0] 27) = w2 at *
    have HR : Hid (∀ W, Below w2.heap.size w2 W → Ready W) := fun W hW => HG.out.kept (Keeps.below (below_step HB.out hW (Nat.le_refl _)) HG.out.lt)
    have HZ : Hid (∀ W, Below w2.heap.size w2 W → W.heap[w1.heap.size]? = some (.cells #[.slice none 0 0, .int .i64 code, .string o, .int .i64 0] 27 (0, 0))) := fun W hW => by rw [hW.block _ (lt_of_block hz)]; exact hz
    clear hb1 hz
    go_cut [37] from 21 to 37 (fun s wx => s = .bool false ∧ Below w2.heap.size w2 wx)
    case first =>
      have hb0 : Below w2.heap.size w2 w2.drew := (Below.refl _ _).drew
      obtain ⟨c0, c1, c2, c3, -⟩ := four_cells (HZ.out _ hb0)
      go_region_with (first
        | (go_at_call 9; refine (awake_any _ (HR.out _ (by assumption))).mono ?_; rintro e wa ⟨rfl, ha⟩; have hq : Below w2.heap.size w2 wa := below_step (by assumption) ha (Nat.le_refl _); clear ha; obtain ⟨c0, c1, c2, c3, -⟩ := four_cells (HZ.out _ hq))
        | (go_at_call 10; refine (code_nil _).mono ?_; rintro e wa ⟨rfl, rfl⟩)
        | (go_at_call 11; refine (rerr_nil code o _).mono ?_; rintro e wa ⟨rfl, ha⟩; have hq : Below w2.heap.size w2 wa := below_step (by assumption) ha (Nat.le_refl _); clear ha; obtain ⟨c0, c1, c2, c3, -⟩ := four_cells (HZ.out _ hq)))
      all_goals (go_wp2_with fail)
      all_goals (simp only [Act.put, List.getElem_toArray, List.getElem_cons_succ, List.getElem_cons_zero, List.setIfInBounds_toArray, List.set_cons_succ, List.set_cons_zero])
      all_goals go_meet
      all_goals (exact ⟨rfl, by assumption⟩)
    case rest =>
      obtain ⟨rfl, hq⟩ := hcut
      have HQ := hid hq
      clear hq
      go_wp2_with (first | (go_at_call 12; refine (where_nil _).mono ?_; rintro e w4 ⟨rfl, h4⟩; have HB4 := hid (below_step HQ.out h4 (Nat.le_refl _)); obtain ⟨c0, -, -, -, -⟩ := four_cells (HZ.out _ HB4.out); clear h4))
      refine wp_loop_rounds 1 ?_
      rw [rounds_succ]
      go_wp2_with fail
      go_quiet (fail)
      go_wp2_with fail
      go_ret
      exact ⟨rfl, below_step HB.out (below_drewN HB4.out _) (Nat.le_refl _)⟩
  · obtain ⟨T, vx, rfl⟩ := hch.shape
    obtain ⟨ao, cp, rfl, hnn, hcc⟩ := hstr
    have HKd : Hid (EndOf code o kk d) := hkd
    have HMs := hid (made_small HSm.out HO.out hmem hlen hkd)
    have HLen := hid hlen
    have hk0 : (kk == 0) = false := by rcases hkd with ⟨rfl, _⟩ | ⟨rfl, _⟩ <;> rfl
    unfold chainV
    have HB := hid (below_step hb1 ((Below.refl _ _).alloc (Nat.le_refl _) (.cells #[.slice ao l'.length cp, .int .i64 code, .string o, .int .i64 kk] 27)) (Nat.le_refl _))
    have hz := alloc_at w1 (.cells #[.slice ao l'.length cp, .int .i64 code, .string o, .int .i64 kk] 27)
    have hbz := (Below.refl w1.heap.size w1).alloc (Nat.le_refl _) (.cells #[.slice ao l'.length cp, .int .i64 code, .string o, .int .i64 kk] 27)
    have hch2 := hch.kept (Keeps.below hbz (Nat.lt_of_lt_of_le HG.out.lt hb1.size))
    have hst2 : Strs _ (.slice ao l'.length cp) l' := Strs.old (w := w1) ⟨ao, cp, rfl, hnn, hcc⟩ hbz
    go_upto_region 2 with fail
    generalize w1.alloc (.cells #[.slice ao l'.length cp, .int .i64 code, .string o, .int .i64 kk] 27) = w2 at *
    have HR : Hid (∀ W, Below w2.heap.size w2 W → Ready W) := fun W hW => HG.out.kept (Keeps.below (below_step HB.out hW (Nat.le_refl _)) HG.out.lt)
    have HC : Hid (∀ W, Below w2.heap.size w2 W → Chain W l' d (.iface T vx)) := fun W hW => hch2.kept (Keeps.below hW (HR.out _ (Below.refl _ _)).lt)
    have HSt : Hid (∀ W, Below w2.heap.size w2 W → Strs W (.slice ao l'.length cp) l') := fun W hW => hst2.old hW
    have HZ : Hid (∀ W, Below w2.heap.size w2 W → W.heap[w1.heap.size]? = some (.cells #[.slice ao l'.length cp, .int .i64 code, .string o, .int .i64 kk] 27 (0, 0))) := fun W hW => by rw [hW.block _ (lt_of_block hz)]; exact hz
    clear hb1 hz hch hch2 hlen hkd hmem hnn hcc hst2 hbz
    go_cut [37] from 21 to 37 (fun s wx => s = .bool false ∧ Below w2.heap.size w2 wx)
    case first =>
      have hb0 : Below w2.heap.size w2 w2.drew := (Below.refl _ _).drew
      obtain ⟨c0, c1, c2, c3, -⟩ := four_cells (HZ.out _ hb0)
      go_region_with (first
        | (go_at_call 9; refine (awake_any _ (HR.out _ (by assumption))).mono ?_; rintro e wa ⟨rfl, ha⟩; have hq : Below w2.heap.size w2 wa := below_step (by assumption) ha (Nat.le_refl _); clear ha; obtain ⟨c0, c1, c2, c3, -⟩ := four_cells (HZ.out _ hq))
        | (go_at_call 10; refine (code_any _ l' d _ (HR.out _ (by assumption)) (HC.out _ (by assumption))).mono ?_; rintro e wa ⟨rfl, ha⟩; have hq : Below w2.heap.size w2 wa := below_step (by assumption) ha (Nat.le_refl _); clear ha; obtain ⟨c0, c1, c2, c3, -⟩ := four_cells (HZ.out _ hq))
        | (go_at_call 11; refine (rerr_end _ _ _ code o kk d HKd.out _).mono ?_; rintro e wa ⟨rfl, ha⟩; have hq : Below w2.heap.size w2 wa := below_step (by assumption) ha (Nat.le_refl _); clear ha; obtain ⟨c0, c1, c2, c3, -⟩ := four_cells (HZ.out _ hq)))
      all_goals (go_wp2_with fail)
      all_goals (simp only [Act.put, List.getElem_toArray, List.getElem_cons_succ, List.getElem_cons_zero, List.setIfInBounds_toArray, List.set_cons_succ, List.set_cons_zero])
      all_goals go_meet
      all_goals (exact ⟨rfl, by assumption⟩)
    case rest =>
      obtain ⟨rfl, hq⟩ := hcut
      have HQ := hid hq
      clear hq
      have hl1k : l'.length ≤ 1000 := by have := HLen.out; omega
      have HL1 := hid hl1k
      clear hl1k
      go_wp2_with (first | (go_at_call 12; refine (where_any _ l' d _ (HR.out _ HQ.out) (HC.out _ HQ.out) HL1.out).mono ?_))
      rintro e w4 ⟨x4, rfl, h4, hb4⟩
      have HB4 := hid (below_step HQ.out hb4 (Nat.le_refl _))
      obtain ⟨ao4, cp4, rfl, hn4, hc4⟩ := strs_of_own h4
      have HS4 : Hid (Strs w4 (.slice ao4 l'.length cp4) l') := ⟨ao4, cp4, rfl, hn4, hc4⟩
      obtain ⟨c0, -, -, -, -⟩ := four_cells (HZ.out _ HB4.out)
      clear h4 hb4 hn4 hc4
      go_wp2_with fail
      go_loopw [12] (fun i wr => ∃ k : Nat, k ≤ l'.length ∧ i = .int .i64 k ∧ Below w4.heap.size w4 wr) (fun i _ => l'.length - (intOf i).toNat)
      case atStart => exact ⟨0, Nat.zero_le _, rfl, Below.refl _ _⟩
      case round =>
        clear c0
        obtain ⟨k, hk, rfl, hbw⟩ := hrel
        have HBr := hid (below_step HB4.out hbw (Nat.le_refl _))
        have HBw := hid hbw
        obtain ⟨c0, c1, c2, c3, -⟩ := four_cells (HZ.out _ HBr.out)
        clear hbw
        by_cases hlt : k < l'.length
        · have hw : wrap64 ((k : Int) + 1) = ((k + 1 : Nat) : Int) := by have := HLen.out; simp only [wrap64]; omega
          obtain ⟨t, ht⟩ : ∃ t, l'[k]? = some t := ⟨_, List.getElem?_eq_getElem hlt⟩
          obtain ⟨ao', c', he, hn1, hc1⟩ := HSt.out _ HBr.out
          simp only [Value.slice.injEq] at he
          obtain ⟨rfl, -, rfl⟩ := he
          obtain ⟨a, rfl⟩ : ∃ a, ao = some a := by
            cases ao with
            | none => have h9 := hn1 rfl; subst h9; simp at hlt
            | some a => exact ⟨a, rfl⟩
          have g1 := hc1 a rfl k t ht
          obtain ⟨ao', c', he, hn, hc⟩ := HS4.out.old HBw.out
          simp only [Value.slice.injEq] at he
          obtain ⟨rfl, -, rfl⟩ := he
          obtain ⟨a4, rfl⟩ : ∃ a, ao4 = some a := by
            cases ao4 with
            | none => have h9 := hn rfl; subst h9; simp at hlt
            | some a => exact ⟨a, rfl⟩
          have g2 := hc a4 rfl k t ht
          have hlt' : (k : Int) < (l'.length : Int) := by omega
          have HW := hid hw
          have hbb : (t.toList == t.toList) = true := beq_self_eq_true _
          clear hn hc hn1 hc1 hw ht
          go_wp2_with fail
          go_quiet (fail)
          go_wp2_with fail
          rw [HW.out]
          go_roundw
          case rel => exact ⟨k + 1, by omega, rfl, below_drewN HBw.out _⟩
          case measure => simp [intOf]; omega
        · have HNl := hid hlt
          have hT : T = 43 ∨ T = 22 ∨ T = 70 := chain_type (HC.out _ HBr.out)
          rcases hT with rfl | rfl | rfl
          · have HE : Hid (∀ W, Below w2.heap.size w2 W → Calls Tryd.prog 25 #[vx] W fun e w' => e = .returned (.string ⟨(textL l' d).toArray⟩) ∧ Below W.heap.size W w') := fun W hW => error_any W l' d 43 vx (HR.out _ hW).lt (HC.out _ hW) HMs.out.2
            have mE := methodErrorF
            clear c0 c1 c2 c3
            go_wp2_with fail
            have hb0 : Below w2.heap.size w2 wr.drew := HBr.out.drew
            obtain ⟨c0, c1, c2, c3, -⟩ := four_cells (HZ.out _ hb0)
            go_region_with (first
              | (go_at_call 25; refine (HE.out _ (by assumption)).mono ?_; rintro e wa ⟨rfl, ha⟩; have hq : Below w2.heap.size w2 wa := below_step (by assumption) ha (Nat.le_refl _); clear ha; obtain ⟨c0, c1, c2, c3, -⟩ := four_cells (HZ.out _ hq))
              | (go_at_call 13; refine (rtext_end _ l' code o kk d _ (HSt.out _ (by assumption)) HL1.out HMs.out.1 HO.out HKd.out).mono ?_; rintro e wa ⟨rfl, ha⟩; have hq : Below w2.heap.size w2 wa := below_step (by assumption) ha (Nat.le_refl _); clear ha; obtain ⟨c0, c1, c2, c3, -⟩ := four_cells (HZ.out _ hq)))
            all_goals (go_wp2_with fail)
            all_goals go_ret
            all_goals (exact ⟨rfl, below_step HB.out (by assumption) (Nat.le_refl _)⟩)
          · have HE : Hid (∀ W, Below w2.heap.size w2 W → Calls Tryd.prog 26 #[vx] W fun e w' => e = .returned (.string ⟨(textL l' d).toArray⟩) ∧ Below W.heap.size W w') := fun W hW => error_any W l' d 22 vx (HR.out _ hW).lt (HC.out _ hW) HMs.out.2
            have mE := methodErrorC
            clear c0 c1 c2 c3
            go_wp2_with fail
            have hb0 : Below w2.heap.size w2 wr.drew := HBr.out.drew
            obtain ⟨c0, c1, c2, c3, -⟩ := four_cells (HZ.out _ hb0)
            go_region_with (first
              | (go_at_call 26; refine (HE.out _ (by assumption)).mono ?_; rintro e wa ⟨rfl, ha⟩; have hq : Below w2.heap.size w2 wa := below_step (by assumption) ha (Nat.le_refl _); clear ha; obtain ⟨c0, c1, c2, c3, -⟩ := four_cells (HZ.out _ hq))
              | (go_at_call 13; refine (rtext_end _ l' code o kk d _ (HSt.out _ (by assumption)) HL1.out HMs.out.1 HO.out HKd.out).mono ?_; rintro e wa ⟨rfl, ha⟩; have hq : Below w2.heap.size w2 wa := below_step (by assumption) ha (Nat.le_refl _); clear ha; obtain ⟨c0, c1, c2, c3, -⟩ := four_cells (HZ.out _ hq)))
            all_goals (go_wp2_with fail)
            all_goals go_ret
            all_goals (exact ⟨rfl, below_step HB.out (by assumption) (Nat.le_refl _)⟩)
          · have HE : Hid (∀ W, Below w2.heap.size w2 W → Calls Tryd.prog 60 #[vx] W fun e w' => e = .returned (.string ⟨(textL l' d).toArray⟩) ∧ Below W.heap.size W w') := fun W hW => error_any W l' d 70 vx (HR.out _ hW).lt (HC.out _ hW) HMs.out.2
            have mE := methodErrorS
            clear c0 c1 c2 c3
            go_wp2_with fail
            have hb0 : Below w2.heap.size w2 wr.drew := HBr.out.drew
            obtain ⟨c0, c1, c2, c3, -⟩ := four_cells (HZ.out _ hb0)
            go_region_with (first
              | (go_at_call 60; refine (HE.out _ (by assumption)).mono ?_; rintro e wa ⟨rfl, ha⟩; have hq : Below w2.heap.size w2 wa := below_step (by assumption) ha (Nat.le_refl _); clear ha; obtain ⟨c0, c1, c2, c3, -⟩ := four_cells (HZ.out _ hq))
              | (go_at_call 13; refine (rtext_end _ l' code o kk d _ (HSt.out _ (by assumption)) HL1.out HMs.out.1 HO.out HKd.out).mono ?_; rintro e wa ⟨rfl, ha⟩; have hq : Below w2.heap.size w2 wa := below_step (by assumption) ha (Nat.le_refl _); clear ha; obtain ⟨c0, c1, c2, c3, -⟩ := four_cells (HZ.out _ hq)))
            all_goals (go_wp2_with fail)
            all_goals go_ret
            all_goals (exact ⟨rfl, below_step HB.out (by assumption) (Nat.le_refl _)⟩)
end faultTellsUpto
end Go.Proofs.YtombgehopopdfaaDoor
