/-
  THE LAW FaultIs: the walk.
-/
import Derived.Test.YtombgehopopdfaaDoorAwake
import Derived.Deep.RegionWith
import Derived.Deep.CutRange
import Derived.Deep.CutBlock
set_option linter.unusedVariables false
namespace Go.Proofs.YtombgehopopdfaaDoor
open Go.RowKit Go.Extern.Stop Go.Stop Go.Extern

theorem below_step {n : Nat} {w a b : World} (hp : Below n w a) (ha : Below a.heap.size a b) (hn : n ≤ w.heap.size) : Below n w b := hp.trans (ha.mono (Nat.le_trans hn hp.size))

/-- What 'made' gave, in a later world. -/
def EndOf (code : Int) (o : ByteArray) (kk : Int) (d : End) : Prop := kk = 1 ∧ d = .code code ∧ code ≠ 0 ∨ kk = 2 ∧ d = .text o

theorem rerr_end (ao : Option Addr) (n c : Nat) (code : Int) (o : ByteArray) (kk : Int) (d : End) (hkd : EndOf code o kk d) (w : World) :
    Calls Tryd.prog 11 #[.agg #[.slice ao n c, .int .i64 code, .string o, .int .i64 kk]] w fun e w' => e = .returned (.int .i64 (codeOf d)) ∧ Below w.heap.size w w' := by
  have h := rerr_any ao n c code o kk w
  rcases hkd with ⟨rfl, rfl, _⟩ | ⟨rfl, rfl⟩
  · exact h
  · exact h
theorem rerr_nil (code : Int) (o : ByteArray) (w : World) :
    Calls Tryd.prog 11 #[.agg #[.slice none 0 0, .int .i64 code, .string o, .int .i64 0]] w fun e w' => e = .returned (.int .i64 0) ∧ Below w.heap.size w w' := rerr_any none 0 0 code o 0 w

namespace faultIs

set_option maxHeartbeats 4000000 in
set_option maxRecDepth 100000 in
theorem walk (K code : Int) (o : ByteArray) (x : Value) (l : List ByteArray) (ask : Int) (w : World) (hg : Ready w) (hx : Strs w x l) (hcap : ∀ ao n c, x = .slice ao n c → n ≤ c) :
    Calls Tryd.prog 4 #[.int .i64 K, .int .i64 code, .string o, x, .int .i64 ask] w fun e w' => e = .returned (.bool true) ∧ Below w.heap.size w w' := by
  have HG := hid hg
  have HX := hid hx
  have HCap := hid hcap
  clear hg hx hcap
  go_enter Tryd.func4, Tryd.ntmps4
  go_wp2_with fail
  refine (made_any K code o x l w HG.out.lt HX.out HCap.out).mono ?_
  rintro e w1 ⟨hb1, he⟩
  rcases he with rfl | ⟨l', d, kk, v, xv, rfl, hch, hstr, hlen, -, hkd⟩
  · unfold chainV
    have HB := hid (below_step hb1 ((Below.refl _ _).alloc (Nat.le_refl _) (.cells #[.slice none 0 0, .int .i64 code, .string o, .int .i64 0] 27)) (Nat.le_refl _))
    have hz := alloc_at w1 (.cells #[.slice none 0 0, .int .i64 code, .string o, .int .i64 0] 27)
    go_upto_region 2 with fail
    generalize w1.alloc (.cells #[.slice none 0 0, .int .i64 code, .string o, .int .i64 0] 27) = w2 at *
    have HR : Hid (∀ W, Below w2.heap.size w2 W → Ready W) := fun W hW => HG.out.kept (Keeps.below (below_step HB.out hW (Nat.le_refl _)) HG.out.lt)
    have HZ : Hid (∀ W, Below w2.heap.size w2 W → W.heap[w1.heap.size]? = some (.cells #[.slice none 0 0, .int .i64 code, .string o, .int .i64 0] 27 (0, 0))) := fun W hW => by rw [hW.block _ (lt_of_block hz)]; exact hz
    clear hb1 hz
    go_cut [33] from 22 to 33 (fun s wx => s = .bool false ∧ Below w2.heap.size w2 wx)
    case first =>
      have hb0 : Below w2.heap.size w2 w2.drew := (Below.refl _ _).drew
      obtain ⟨c0, c1, c2, c3, -⟩ := four_cells (HZ.out _ hb0)
      go_region_with (first
        | (go_at_call 9; refine (awake_any _ (HR.out _ (by assumption))).mono ?_; rintro e wa ⟨rfl, ha⟩; have hq : Below w2.heap.size w2 wa := below_step (by assumption) ha (Nat.le_refl _); clear ha; obtain ⟨c0, c1, c2, c3, -⟩ := four_cells (HZ.out _ hq))
        | (go_at_call 14; refine (fis_nil _ _).mono ?_; rintro e wa ⟨rfl, rfl⟩)
        | (go_at_call 11; refine (rerr_nil code o _).mono ?_; rintro e wa ⟨rfl, ha⟩; have hq : Below w2.heap.size w2 wa := below_step (by assumption) ha (Nat.le_refl _); clear ha; obtain ⟨c0, c1, c2, c3, -⟩ := four_cells (HZ.out _ hq)))
      all_goals (go_wp2_with fail)
      all_goals (simp only [Act.put, List.getElem_toArray, List.getElem_cons_succ, List.getElem_cons_zero, List.setIfInBounds_toArray, List.set_cons_succ, List.set_cons_zero])
      all_goals go_meet
      all_goals (exact ⟨rfl, by assumption⟩)
    case rest =>
      obtain ⟨rfl, hq⟩ := hcut
      have HQ := hid hq
      clear hq
      go_wp2_with fail
      go_ret
      exact ⟨rfl, below_step HB.out HQ.out (Nat.le_refl _)⟩
  · obtain ⟨T, vx, rfl⟩ := hch.shape
    obtain ⟨ao, cp, rfl, -, -⟩ := hstr
    have HKd : Hid (EndOf code o kk d) := hkd
    unfold chainV
    have HB := hid (below_step hb1 ((Below.refl _ _).alloc (Nat.le_refl _) (.cells #[.slice ao l'.length cp, .int .i64 code, .string o, .int .i64 kk] 27)) (Nat.le_refl _))
    have hz := alloc_at w1 (.cells #[.slice ao l'.length cp, .int .i64 code, .string o, .int .i64 kk] 27)
    have hch2 := hch.kept (Keeps.below ((Below.refl _ _).alloc (Nat.le_refl _) (.cells #[.slice ao l'.length cp, .int .i64 code, .string o, .int .i64 kk] 27)) (Nat.lt_of_lt_of_le HG.out.lt hb1.size))
    go_upto_region 2 with fail
    generalize w1.alloc (.cells #[.slice ao l'.length cp, .int .i64 code, .string o, .int .i64 kk] 27) = w2 at *
    have HR : Hid (∀ W, Below w2.heap.size w2 W → Ready W) := fun W hW => HG.out.kept (Keeps.below (below_step HB.out hW (Nat.le_refl _)) HG.out.lt)
    have HC : Hid (∀ W, Below w2.heap.size w2 W → Chain W l' d (.iface T vx)) := fun W hW => hch2.kept (Keeps.below hW (HR.out _ (Below.refl _ _)).lt)
    have HZ : Hid (∀ W, Below w2.heap.size w2 W → W.heap[w1.heap.size]? = some (.cells #[.slice ao l'.length cp, .int .i64 code, .string o, .int .i64 kk] 27 (0, 0))) := fun W hW => by rw [hW.block _ (lt_of_block hz)]; exact hz
    clear hb1 hz hch hch2 hlen hkd
    go_cut [33] from 22 to 33 (fun s wx => s = .bool false ∧ Below w2.heap.size w2 wx)
    case first =>
      have hb0 : Below w2.heap.size w2 w2.drew := (Below.refl _ _).drew
      obtain ⟨c0, c1, c2, c3, -⟩ := four_cells (HZ.out _ hb0)
      go_region_with (first
        | (go_at_call 9; refine (awake_any _ (HR.out _ (by assumption))).mono ?_; rintro e wa ⟨rfl, ha⟩; have hq : Below w2.heap.size w2 wa := below_step (by assumption) ha (Nat.le_refl _); clear ha; obtain ⟨c0, c1, c2, c3, -⟩ := four_cells (HZ.out _ hq))
        | (go_at_call 14; refine (fis_any _ l' d _ _ (HR.out _ (by assumption)) (HC.out _ (by assumption))).mono ?_; rintro e wa ⟨rfl, ha⟩; have hq : Below w2.heap.size w2 wa := below_step (by assumption) ha (Nat.le_refl _); clear ha; obtain ⟨c0, c1, c2, c3, -⟩ := four_cells (HZ.out _ hq))
        | (go_at_call 11; refine (rerr_end _ _ _ code o kk d HKd.out _).mono ?_; rintro e wa ⟨rfl, ha⟩; have hq : Below w2.heap.size w2 wa := below_step (by assumption) ha (Nat.le_refl _); clear ha; obtain ⟨c0, c1, c2, c3, -⟩ := four_cells (HZ.out _ hq)))
      all_goals (go_wp2_with fail)
      all_goals (simp only [Act.put, List.getElem_toArray, List.getElem_cons_succ, List.getElem_cons_zero, List.setIfInBounds_toArray, List.set_cons_succ, List.set_cons_zero])
      all_goals go_meet
      all_goals (exact ⟨rfl, by assumption⟩)
    case rest =>
      obtain ⟨rfl, hq⟩ := hcut
      have HQ := hid hq
      obtain ⟨-, -, -, c3, -⟩ := four_cells (HZ.out _ hq)
      clear hq
      rcases HKd.out with ⟨rfl, rfl, -⟩ | ⟨rfl, rfl⟩
      · have hb3 := (Below.refl wc.heap.size wc).alloc (Nat.le_refl _) (.cells #[.int .i64 0] 22)
        have HB3 := hid (below_step HQ.out hb3 (Nat.le_refl _))
        have HR3 := hid (HR.out _ HB3.out)
        have HC3 := hid (HC.out _ HB3.out)
        have HT3 := hid (alloc_at wc (.cells #[.int .i64 0] 22))
        have hsym : (ask == code) = (code == ask) := BEq.comm
        clear hb3
        go_wp2_with (first
          | (go_at_call 15; refine (is_chain _ l' code ask _ HR3.out HC3.out).mono ?_))
        rintro e w4 ⟨rfl, h4⟩
        have HB4 := hid (below_step HB3.out h4 (Nat.le_refl _))
        have HT4 := hid (show w4.heap[wc.heap.size]? = some (.cells #[.int .i64 0] 22 (0, 0)) by rw [h4.block _ (lt_of_block HT3.out)]; exact HT3.out)
        have HR4 := hid (HR.out _ HB4.out)
        have HC4 := hid (HC.out _ HB4.out)
        clear h4
        go_wp2_with (first
          | (go_at_call 16; refine (eas_code _ wc.heap.size _ code l' _ HR4.out HC4.out HT4.out).mono ?_))
        rintro e w5 ⟨rfl, h5, g5⟩
        have q5 := (one_cell h5).1
        have HB5 := hid (HB4.out.grown g5 HB4.out.size (fun k hk => by cases hk; exact HQ.out.size))
        clear h5 g5
        go_wp2_with fail
        go_ret
        exact ⟨rfl, below_step HB.out HB5.out (Nat.le_refl _)⟩
      · go_wp2_with fail
        go_ret
        exact ⟨rfl, below_step HB.out HQ.out (Nat.le_refl _)⟩
end faultIs
end Go.Proofs.YtombgehopopdfaaDoor
