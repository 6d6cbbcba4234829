/- The law DedupApart holds of the landed program, for all arguments: what one client called plays no part in whether the call of another one is done. -/
import Derived.WalkKit
import Derived.OpenShut
import Derived.Test.YtnjmhlmimpdahaaRows
import Derived.WalkSpells
import Derived.WalkLawsBesides
import Derived.Laws.AppendOwnNone
import Derived.ProofKit
import Derived.ShutString
import Derived.ChangeOld
import Derived.Below
import Derived.SizedLaws
import Derived.Deep.Slices
import Derived.Deep.AppendLies
import Derived.Deep.RegionLaw
import Derived.BigRegion
import Derived.Maps.OwnOps
import Derived.Maps.OwnSet
import Derived.Maps.Views
import Derived.Great.BuildSlice
import Derived.Deep.RegionWith
import Derived.Lib.SlBytesConst
import Derived.Deep.Matrix
import Derived.Deep.Grids
import Derived.Deep.Strs
import Derived.Deep.RegionHeld3
import Derived.Lib.ConvBytes
import Derived.Laws.AppendOwn
import Derived.Deep.CutRange
import Derived.Deep.MidRow
import Derived.Great.Walk
import Derived.Test.YtnjmhlmimpdahaaWA1
import Derived.Test.YtnjmhlmimpdahaaWA2
import Derived.Test.YtnjmhlmimpdahaaWA3
import Derived.Test.YtnjmhlmimpdahaaWA4
import Derived.Test.YtnjmhlmimpdahaaWA5
set_option linter.unusedVariables false
set_option linter.unusedSimpArgs false
set_option linter.unusedVariables false
set_option linter.unusedSimpArgs false
set_option maxRecDepth 100000
namespace Go.Proofs.Ytnjmhlmimpdahaa
open Go.RowKit Go.Deep Go.ChangeShapes Go.WideShapes Go.ChangeAt
namespace dedupApart

theorem sep_next {w : World} {v1 v2 v3 : Value} {b : Nat} {e : TypeId} {n : Nat} {xs : List Value} (h : ∀ k, v1.ownBlock = some k → v2.ownBlock ≠ some k) (ho : w.ownsRow b e 1 v2 n xs) (hn : v3.ownBlock = v1.ownBlock ∨ ∃ g, v3.ownBlock = some g ∧ w.heap.size ≤ g) : ∀ k, v3.ownBlock = some k → v2.ownBlock ≠ some k := by
  intro k hk h2
  rcases hn with hn | ⟨g, hg, hge⟩
  · exact h k (hn.symm.trans hk) h2
  · rw [hg] at hk
    cases hk
    have := (ho.lt _ h2).2
    omega
theorem sep_symm {v1 v2 : Value} (h : ∀ k, v1.ownBlock = some k → v2.ownBlock ≠ some k) : ∀ k, v2.ownBlock = some k → v1.ownBlock ≠ some k := fun k h1 h2 => h k h2 h1

set_option maxHeartbeats 16000000 in
theorem walk {H : Type} {enc : TypeId × Value → H} (v0 v1 : Value) (W : World) {base : Nat} {d0 d1 : DataW H} {p0 p1 : List MemPlace} (hw0 : Value.okWide Try.prog W .any base 54 v0) (h0 : DataW.Trod enc Try.prog W 0 (fun _ => true) true 54 v0 d0 p0) (hw1 : Value.okWide Try.prog W .any base 54 v1) (h1 : DataW.Trod enc Try.prog W 0 (fun _ => true) true 54 v1 d1 p1) :
    Calls Try.prog 7 #[v0, v1] W (fun e w' => e = .returned (.bool true) ∧ Below W.heap.size W w') := by
  obtain ⟨a0, n0, c0, rfl⟩ := WideShapes.okWide_slice Try.underlying54 hw0
  obtain ⟨a1, n1, c1, rfl⟩ := WideShapes.okWide_slice Try.underlying54 hw1
  obtain ⟨hl0, hm0, hg0⟩ := calls_open h0
  obtain ⟨hl1, hm1, hg1⟩ := calls_open h1
  have HG0 := hid hg0
  have HG1 := hid hg1
  have hb0 : Below W.heap.size W (W.alloc (.cells #[.slice none 0 0] 27)) := (Below.refl _ _).alloc (Nat.le_refl _) _
  have CN1 := hid (dnew_any (w := W.alloc (.cells #[.slice none 0 0] 27)) (tp := W.heap.size) (v := .slice none 0 0) (L := []) (base := W.heap.size) tape_new (World.ownsRow_nil _ _ _ _) (Nat.le_refl _))
  have HB0 := hid hb0
  clear hw0 h0 hw1 h1 hg0 hg1 hb0
  go_enter Try.func7, Try.ntmps7
  go_upto_region 4 with (first
    | (go_at_call 8; refine CN1.out.mono ?_; rintro en w1 ⟨d1, mb1, rfl, hd1, hmb1, hM, hb1⟩; have HM1 := hid hM; have HB1 := hid (HB0.out.trans (hb1.mono HB0.out.size)); have CN2 := hid (dnew_any (w := w1.alloc (.cells #[.slice none 0 0] 27)) (tp := w1.heap.size) (v := .slice none 0 0) (L := []) (base := W.heap.size) tape_new (World.ownsRow_nil _ _ _ _) (HB1.out.size)); clear hd1 hmb1 hM hb1)
    | (go_at_call 8; refine CN2.out.mono ?_; rintro en w2 ⟨d2, mb2, rfl, hd2, hmb2, hM2, hb2⟩; have HM2 := hid hM2; have HBb := hid (((Below.refl _ w1).alloc (Nat.le_refl _) (.cells #[.slice none 0 0] 27)).trans (hb2.mono (by simp))); have HNE := hid hmb2; clear hd2 hmb2 hM2 hb2)
    | (go_at_call 9; refine (dawake_any _).mono ?_; rintro en w3 ⟨rfl, hb3⟩; have HM1b := hid ((HM1.out.kept HBb.out).kept hb3); have HM2b := hid (HM2.out.kept hb3); have HB3 := hid ((HB1.out.trans (HBb.out.mono HB1.out.size)).trans (hb3.mono ((HB1.out.trans (HBb.out.mono HB1.out.size)).size))); clear hb3))
  obtain ⟨t2, ht2⟩ : ∃ t2, t2 = w1.heap.size := ⟨_, rfl⟩
  have hmne : mb1 ≠ mb2 := by
    obtain ⟨g9, hm9, _⟩ := HM1.out.hm
    have h8 := hm9.lt
    have h7 := HNE.out
    simp at h7
    omega
  have htne : W.heap.size ≠ t2 := by rw [ht2]; have := lt_of_block HM1.out.ht; omega
  rw [← ht2] at HM2b ⊢
  have HD := hid (And.intro hmne htne)
  clear hmne htne ht2 CN1
  go_wp2_with fail
  go_loopw [7] (fun i wr => ∃ k m1 m2 v1 v2 f1 f2 L1 L2, k ≤ n0 ∧ k ≤ 20 ∧ m1 ≤ 2 * k ∧ m2 ≤ 2 * k ∧ L1.length ≤ 2 * k ∧ L2.length ≤ 2 * k ∧ i = .int .i64 (k : Int) ∧ Small f1 ∧ Small f2 ∧ Alk (f1 3) (f2 3) ∧ Mch wr d1 mb1 W.heap.size v1 m1 f1 L1 W.heap.size ∧ Mch wr d2 mb2 t2 v2 m2 f2 L2 W.heap.size ∧ (∀ k, v1.ownBlock = some k → v2.ownBlock ≠ some k) ∧ Below W.heap.size W wr) (fun i _ => n0 - (intOf i).toNat)
  case atStart => exact ⟨0, 0, 0, _, _, _, _, [], [], Nat.zero_le _, by omega, by omega, by omega, by simp, by simp, rfl, fun _ => Nat.zero_le _, fun _ => Nat.zero_le _, .inl ⟨rfl, rfl⟩, HM1b.out, HM2b.out, (fun k e => by cases e), HB3.out⟩
  case round =>
    obtain ⟨k, m1, m2, u1, u2, f1, f2, L1, L2, hk, hk2, hm1', hm2', hL1, hL2, rfl, hs1, hs2, hal, hM1, hM2, hsep, hB⟩ := hrel
    have HMa := hid hM1
    have HMb := hid hM2
    have HBr := hid hB
    have HSS := hid (And.intro hs1 (And.intro hs2 (And.intro hal hsep)))
    clear hM1 hM2 hB hs1 hs2 hal hsep
    by_cases hlt : k < n0
    · by_cases hl20 : k < 20
      · have hki : (k : Int) < (n0 : Int) := by omega
        have hk20 : (k : Int) < 20 := by omega
        have hnk : ¬ n0 ≤ k := by omega
        obtain ⟨b0, off0, q0, ha0, hr0, hqc0, hqs0, y0, y1, y2⟩ := HG0.out k hlt
        subst ha0
        obtain ⟨qc0, s, da, dk, db⟩ := q0
        have z0 := (HBr.out.cell (p := ⟨b0, off0 + k * 3, none⟩) (World.block_lt_of_cell? _ _ y0)).trans y0
        have z1 := (HBr.out.cell (p := ⟨b0, off0 + k * 3 + 1, none⟩) (World.block_lt_of_cell? _ _ y1)).trans y1
        have z2 := (HBr.out.cell (p := ⟨b0, off0 + k * 3 + 2, none⟩) (World.block_lt_of_cell? _ _ y2)).trans y2
        have HR0 := hid ((show Rd W (.slice da db.length dk) db from hr0).old HBr.out)
        have hdl : db.length ≤ dk := by obtain ⟨_, _, e9, q9, _⟩ := HR0.out; simp only [Value.slice.injEq] at e9; omega
        simp only [Cl.v] at z2
        have HRW0 : Hid (∀ V, Below W.heap.size W V → Rd V (.slice da db.length dk) db) := hid fun V hV => (show Rd W (.slice da db.length dk) db from hr0).old hV
        clear y0 y1 y2 hr0
        by_cases hk1 : k < n1
        · have hki1 : (k : Int) < (n1 : Int) := by omega
          have hnk1 : ¬ n1 ≤ k := by omega
          obtain ⟨b1, off1, q1, ha1, hr1, hqc1, hqs1, y0, y1, y2⟩ := HG1.out k hk1
          subst ha1
          obtain ⟨qc1, xs, xa, xk, xb⟩ := q1
          have hbl2 : Below wr.heap.size wr ((wr.alloc (.cells #[.int .u64 3, .int .u64 (s : Int), .slice da db.length dk] 37)).alloc (.cells #[.int .u64 0, .int .u64 0, .slice none 0 0] 37)) := ((Below.refl _ _).alloc (Nat.le_refl _) _).alloc (by simp) _
          have x0 := (HBr.out.cell (p := ⟨b1, off1 + k * 3, none⟩) (World.block_lt_of_cell? _ _ y0)).trans y0
          have x1 := (HBr.out.cell (p := ⟨b1, off1 + k * 3 + 1, none⟩) (World.block_lt_of_cell? _ _ y1)).trans y1
          have x2 := (HBr.out.cell (p := ⟨b1, off1 + k * 3 + 2, none⟩) (World.block_lt_of_cell? _ _ y2)).trans y2
          have HRx := hid ((show Rd W (.slice xa xb.length xk) xb from hr1).old HBr.out)
          have hxl : xb.length ≤ xk := by obtain ⟨_, _, e9, q9, _⟩ := HRx.out; simp only [Value.slice.injEq] at e9; omega
          simp only [Cl.v] at x2
          have x0 := (hbl2.cell (p := ⟨b1, off1 + k * 3, none⟩) (World.block_lt_of_cell? _ _ x0)).trans x0
          have x1 := (hbl2.cell (p := ⟨b1, off1 + k * 3 + 1, none⟩) (World.block_lt_of_cell? _ _ x1)).trans x1
          have x2 := (hbl2.cell (p := ⟨b1, off1 + k * 3 + 2, none⟩) (World.block_lt_of_cell? _ _ x2)).trans x2
          clear hbl2
          clear y0 y1 y2 hr1
          go_upto_region 13 with fail
          have hbw : Below wr.heap.size wr ((wr.alloc (.cells #[.int .u64 3, .int .u64 (s : Int), .slice da db.length dk] 37)).alloc (.cells #[.int .u64 4, .int .u64 (xs : Int), .slice xa xb.length xk] 37)) := ((Below.refl _ _).alloc (Nat.le_refl _) _).alloc (by simp) _
          have hc9 : ((wr.alloc (.cells #[.int .u64 3, .int .u64 (s : Int), .slice da db.length dk] 37)).alloc (.cells #[.int .u64 4, .int .u64 (xs : Int), .slice xa xb.length xk] 37)).heap[wr.heap.size]? = some (.cells #[.int .u64 3, .int .u64 (s : Int), .slice da db.length dk] 37 (0, 0)) := (Below.heap_alloc (wr.alloc (.cells #[.int .u64 3, .int .u64 (s : Int), .slice da db.length dk] 37)) (.cells #[.int .u64 4, .int .u64 (xs : Int), .slice xa xb.length xk] 37) wr.heap.size (by simp)).trans (heap_alloc_new wr (.cells #[.int .u64 3, .int .u64 (s : Int), .slice da db.length dk] 37))
          have hx9 : ((wr.alloc (.cells #[.int .u64 3, .int .u64 (s : Int), .slice da db.length dk] 37)).alloc (.cells #[.int .u64 4, .int .u64 (xs : Int), .slice xa xb.length xk] 37)).heap[wr.heap.size + 1]? = some (.cells #[.int .u64 4, .int .u64 (xs : Int), .slice xa xb.length xk] 37 (0, 0)) := heap_alloc2_new wr (.cells #[.int .u64 3, .int .u64 (s : Int), .slice da db.length dk] 37) (.cells #[.int .u64 4, .int .u64 (xs : Int), .slice xa xb.length xk] 37)
          obtain ⟨Bx, hBx⟩ : ∃ Bx, Bx = wr.heap.size + 1 := ⟨_, rfl⟩
          obtain ⟨Bc, hBc⟩ : ∃ Bc, Bc = wr.heap.size := ⟨_, rfl⟩
          rw [← hBx] at hx9 ⊢
          rw [← hBc] at hc9
          generalize (wr.alloc (.cells #[.int .u64 3, .int .u64 (s : Int), .slice da db.length dk] 37)).alloc (.cells #[.int .u64 4, .int .u64 (xs : Int), .slice xa xb.length xk] 37) = w4 at *
          try rw [← hBc]
          clear hBx z0 z1 z2 x0 x1 x2
          have HBC := hid hBc
          clear hBc
          have HM1 := hid (HMa.out.kept hbw)
          have HM2 := hid (HMb.out.kept hbw)
          have HB4 := hid (HBr.out.trans (hbw.mono HBr.out.size))
          have HRc := hid (HR0.out.old hbw)
          have HRx : Hid (Rd w4 (.slice xa xb.length xk) xb) := hid (HRx.out.old hbw)
          have HC4 := hid hc9
          clear hbw
          obtain ⟨e0, e1, e2⟩ := three_cells9 hc9
          obtain ⟨y0, y1, y2⟩ := three_cells9 hx9
          clear hc9 hx9
          by_cases g1 : (200 : Int) < (db.length : Int)
          · go_wp2_with fail
            go_roundw
            case rel => exact ⟨k + 1, m1, m2, u1, u2, f1, f2, L1, L2, by omega, by omega, by omega, by omega, by omega, by omega, by go_num, HSS.out.1, HSS.out.2.1, HSS.out.2.2.1, HM1.out, HM2.out, HSS.out.2.2.2, HB4.out⟩
            case measure => simp [intOf]; omega
          by_cases g2 : (200 : Int) < (xb.length : Int)
          · go_wp2_with fail
            go_roundw
            case rel => exact ⟨k + 1, m1, m2, u1, u2, f1, f2, L1, L2, by omega, by omega, by omega, by omega, by omega, by omega, by go_num, HSS.out.1, HSS.out.2.1, HSS.out.2.2.1, HM1.out, HM2.out, HSS.out.2.2.2, HB4.out⟩
            case measure => simp [intOf]; omega
          have hxl2 : xb.length ≤ 200 := by omega
          have hdl2 : db.length ≤ 200 := by omega
          go_upto_region 14 with fail
          clear e0 e1 e2
          have CC1 : Hid (Calls Try.prog 14 #[.agg #[.int .u64 4, .int .u64 (xs : Int), .slice xa xb.length xk]] w4 (Gives 5 w4 (callB 4 xs xb))) := hid (refCall_any (cl := 4) (sq := xs) (by decide) hqs1 (by omega) HRx.out rfl)
          have hq1 : rdF sCall (callB 4 xs xb, 0) = (callB 4 xs xb, [], 0) := callB_rd (by decide) hqs1 (by omega)
          have hq2 : (callB 4 xs xb).length ≤ 1030 := callB_len (by decide) hqs1 (by omega)
          have hq3 : rdF sCall (callB 3 s db, 0) = (callB 3 s db, [], 0) := callB_rd (by decide) hqs0 (by omega)
          have hq4 : (callB 3 s db).length ≤ 1030 := callB_len (by decide) hqs0 (by omega)
          have HQ := hid (And.intro hq1 (And.intro hq2 (And.intro hq3 (And.intro hq4 (And.intro hxl2 hdl2)))))
          have HSZ := hid (And.intro hm1' (And.intro hm2' (And.intro hL1 (And.intro hL2 hl20))))
          clear hq1 hq2 hq3 hq4
          go_upto_region 15 with (first
            | (go_at_call 14; refine CC1.out.mono ?_; rintro en w5 ⟨xx, rfl, ho, hb5⟩; have HM5 := hid (HM1.out.kept hb5); have HN5 := hid (HM2.out.kept hb5); have HC5 := hid ((hb5.block _ (lt_of_block HC4.out)).trans HC4.out); have HB5 := hid (HB4.out.trans (hb5.mono HB4.out.size)); have D1 := hid (do_any (cl := 4) (sq := xs) (data := xb) HM5.out (Rd.own ho) (by have := HQ.out.2.1; omega) HQ.out.1 (by decide) hqs1 (by have := HQ.out.2.2.2.2.1; omega) (by have := HSZ.out; omega) (by have := HSZ.out; omega) (by have := HSS.out.1 4; omega)); clear ho hb5)
            | (go_at_call 16; refine D1.out.mono ?_; rintro en w6 ⟨o6, v6, rfl, h91, hM6, hv6, hk6, h92⟩))
          have HM6 := hid hM6
          have HN6 := hid (HN5.out.beside HM5.out (Ne.symm HD.out.1) (Ne.symm HD.out.2) (sep_symm HSS.out.2.2.2) hk6)
          have HC6 := hid (HM5.out.cell hk6 HC5.out)
          have HB6 := hid (HB5.out.trans (HM5.out.below hk6))
          have HV6 := hid (sep_next HSS.out.2.2.2 HN5.out.hv hv6)
          clear hM6 hv6 hk6 h91 h92
          clear y0 y1 y2 CC1 D1
          obtain ⟨F1, hF1⟩ : ∃ F1, F1 = doF f1 L1 4 xs xb := ⟨_, rfl⟩
          obtain ⟨K1, hK1⟩ : ∃ K1, K1 = doL f1 L1 4 xs xb := ⟨_, rfl⟩
          have hal6 : Alk (F1 3) (f2 3) := by rw [hF1, doF_other f1 L1 _ _ (by decide)]; exact HSS.out.2.2.1
          have hsm6 : Small F1 := by rw [hF1]; exact HSS.out.1.next L1 _ _ HQ.out.2.2.2.2.1
          have hkl6 : K1.length ≤ L1.length + 1 := by rw [hK1]; exact doL_len _ _ _ _ _
          rw [← hF1, ← hK1] at HM6
          have HA6 := hid (And.intro hal6 (And.intro hsm6 hkl6))
          clear hF1 hK1 hal6 hsm6 hkl6
          obtain ⟨S9, hS9⟩ : ∃ S9 : World → Prop, S9 = fun V => V.heap[Bc]? = some (.cells #[.int .u64 3, .int .u64 (s : Int), .slice da db.length dk] 37 (0, 0)) := ⟨_, rfl⟩
          have HS : Hid (∀ V, V.heap[Bc]? = some (.cells #[.int .u64 3, .int .u64 (s : Int), .slice da db.length dk] 37 (0, 0)) → S9 V) := hid fun V h => by rw [hS9]; exact h
          have HSI : Hid (∀ V, S9 V → V.heap[Bc]? = some (.cells #[.int .u64 3, .int .u64 (s : Int), .slice da db.length dk] 37 (0, 0))) := hid fun V h => by rw [hS9] at h; exact h
          clear hS9
          have hWd : Below w6.heap.size w6 w6.drew := ⟨rfl, rfl, rfl, Nat.le_refl _, fun _ _ => rfl⟩
          have HMd := hid (HM6.out.kept hWd)
          have HNd := hid (HN6.out.kept hWd)
          have HCd : Hid (w6.drew.heap[Bc]? = some (.cells #[.int .u64 3, .int .u64 (s : Int), .slice da db.length dk] 37 (0, 0))) := HC6
          have HBd := hid (HB6.out.trans (hWd.mono HB6.out.size))
          have HRW : Hid (∀ V, Below W.heap.size W V → Rd V (.slice da db.length dk) db) := HRW0
          have CC2 := hid (refCall_any (cl := 3) (sq := s) (by decide) hqs0 (by have := HQ.out.2.2.2.2.2; omega) (HRW.out _ HBd.out) rfl)
          clear hWd
          refine wp_region_noPanic ?_
          refine wp_region_held_drew (S := S9) (by kernel_rfl) (HS.out _ HCd.out) (fun hHeld => ?_)
          generalize w6.drew = Wd at *
          refine wpAnyH_take (i := 0) (v := (.pointer (some ⟨d1, 0, none⟩))) rfl (by kernel_rfl) (by kernel_rfl) (by kernel_rfl) (fun _ _ _ h => (show False from h).elim) ?xyPA1 ?xhPA1 ?xrPA1
          case xhPA1 => exact hHeld
          case xyPA1 => exact Or.inl ⟨by rfl, fun W9 hW => by clear hHeld; simp only [List.getElem_toArray, List.getElem_cons_succ, List.getElem_cons_zero]; go_simp⟩
          simp only [Act.put, List.getElem_toArray, List.getElem_cons_succ, List.getElem_cons_zero, List.setIfInBounds_toArray, List.set_cons_succ, List.set_cons_zero]
          refine wpAnyH_take (i := 1) (v := (.agg #[.int .u64 3, .int .u64 (s : Int), .slice da db.length dk])) rfl (by kernel_rfl) (by kernel_rfl) (by kernel_rfl) (fun _ _ _ h => (show False from h).elim) ?xyPA2 ?xhPA2 ?xrPA2
          case xhPA2 => exact hHeld
          case xyPA2 => exact Or.inl ⟨by rfl, fun W9 hW => by obtain ⟨t0, t1, t2⟩ := three_cells9 (HSI.out _ hW); clear hHeld; simp only [List.getElem_toArray, List.getElem_cons_succ, List.getElem_cons_zero]; go_simp⟩
          simp only [Act.put, List.getElem_toArray, List.getElem_cons_succ, List.getElem_cons_zero, List.setIfInBounds_toArray, List.set_cons_succ, List.set_cons_zero]
          refine wpAnyH_take (i := 4) (v := (.pointer (some ⟨d2, 0, none⟩))) rfl (by kernel_rfl) (by kernel_rfl) (by kernel_rfl) (fun _ _ _ h => (show False from h).elim) ?xyPA3 ?xhPA3 ?xrPA3
          case xhPA3 => exact hHeld
          case xyPA3 => exact Or.inl ⟨by rfl, fun W9 hW => by clear hHeld; simp only [List.getElem_toArray, List.getElem_cons_succ, List.getElem_cons_zero]; go_simp⟩
          simp only [Act.put, List.getElem_toArray, List.getElem_cons_succ, List.getElem_cons_zero, List.setIfInBounds_toArray, List.set_cons_succ, List.set_cons_zero]
          refine wpAnyH_take (i := 5) (v := (.agg #[.int .u64 3, .int .u64 (s : Int), .slice da db.length dk])) rfl (by kernel_rfl) (by kernel_rfl) (by kernel_rfl) (fun _ _ _ h => (show False from h).elim) ?xyPA4 ?xhPA4 ?xrPA4
          case xhPA4 => exact hHeld
          case xyPA4 => exact Or.inl ⟨by rfl, fun W9 hW => by obtain ⟨t0, t1, t2⟩ := three_cells9 (HSI.out _ hW); clear hHeld; simp only [List.getElem_toArray, List.getElem_cons_succ, List.getElem_cons_zero]; go_simp⟩
          simp only [Act.put, List.getElem_toArray, List.getElem_cons_succ, List.getElem_cons_zero, List.setIfInBounds_toArray, List.set_cons_succ, List.set_cons_zero]
          refine wpAnyH_ready (rs := [2]) (by kernel_rfl) (by simp) ?_
          refine AllReadyH.cons rfl (fun K hK => ?_) AllReadyH.nil
          go_simp
          go_wp2_with (first | (go_at_call 14; refine CC2.out.mono ?_; rintro en w7 ⟨xx, rfl, ho, hb7⟩; have HM7 := hid (HMd.out.kept hb7); have HN7 := hid (HNd.out.kept hb7); have HC7 := hid ((hb7.block _ (lt_of_block HCd.out)).trans HCd.out); have HB7 := hid (HBd.out.trans (hb7.mono HBd.out.size)); have D3 := hid (do_any (cl := 3) (sq := s) (data := db) HM7.out (Rd.own ho) (by have := HQ.out.2.2.2.1; omega) HQ.out.2.2.1 (by decide) hqs0 (by have := HQ.out.2.2.2.2.2; omega) (by have := HSZ.out; omega) (by have := HSZ.out; have := HA6.out.2.2; omega) (by have := HA6.out.2.1 3; omega)); clear ho hb7))
          refine hK.out _ _ (HS.out _ HC7.out) (fun hHeld => ?_)
          clear hK K
          refine wpAnyH_ready (rs := [3]) (by kernel_rfl) (by simp) ?_
          refine AllReadyH.cons rfl (fun K hK => ?_) AllReadyH.nil
          go_simp
          go_wp2_with (first | (go_at_call 16; refine D3.out.mono ?_; rintro en w8 ⟨o8, v8, rfl, ho8, hM8, hv8, hk8, -⟩; obtain ⟨pa, pc, rfl, hrp⟩ := gives_rd ho8; have HO8 := hid ho8; have HM8 := hid hM8; have HN8 := hid (HN7.out.beside HM7.out (Ne.symm HD.out.1) (Ne.symm HD.out.2) (sep_symm HV6.out) hk8); have HC8 := hid (HM7.out.cell hk8 HC7.out); have HB8 := hid (HB7.out.trans (HM7.out.below hk8)); have HV8 := hid (sep_next HV6.out HN7.out.hv hv8); have CC4 := hid (refCall_any (cl := 3) (sq := s) (by decide) hqs0 (by have := HQ.out.2.2.2.2.2; omega) (HRW.out _ HB8.out) rfl); clear ho8 hM8 hv8 hk8 hrp))
          refine hK.out _ _ (HS.out _ HC8.out) (fun hHeld => ?_)
          clear hK K
          refine wpAnyH_ready (rs := [6]) (by kernel_rfl) (by simp) ?_
          refine AllReadyH.cons rfl (fun K hK => ?_) AllReadyH.nil
          go_simp
          go_wp2_with (first | (go_at_call 14; refine CC4.out.mono ?_; rintro en w9 ⟨xx, rfl, ho, hb9⟩; have HM9 := hid (HM8.out.kept hb9); have HN9 := hid (HN8.out.kept hb9); have HC9 := hid ((hb9.block _ (lt_of_block HC8.out)).trans HC8.out); have HB9 := hid (HB8.out.trans (hb9.mono HB8.out.size)); have HO9 := hid (own_old HO8.out hb9); have D5 := hid (do_any (cl := 3) (sq := s) (data := db) HN9.out (Rd.own ho) (by have := HQ.out.2.2.2.1; omega) HQ.out.2.2.1 (by decide) hqs0 (by have := HQ.out.2.2.2.2.2; omega) (by have := HSZ.out; omega) (by have := HSZ.out; omega) (by have := HSS.out.2.1 3; omega)); clear ho hb9))
          refine hK.out _ _ (HS.out _ HC9.out) (fun hHeld => ?_)
          clear hK K
          refine wpAnyH_ready (rs := [7]) (by kernel_rfl) (by simp) ?_
          refine AllReadyH.cons rfl (fun K hK => ?_) AllReadyH.nil
          go_simp
          go_wp2_with (first | (go_at_call 16; refine D5.out.mono ?_; rintro en w10 ⟨o10, v10, rfl, ho10, hN10, hv10, hk10, -⟩; obtain ⟨qa, qc, rfl, hrq⟩ := gives_rd ho10; have HP10 := hid (Rd.own (HN9.out.row hk10 HO9.out)); have HQ10 := hid hrq; have HN10 := hid hN10; have HM10 := hid (HM9.out.beside HN9.out HD.out.1 HD.out.2 HV8.out hk10); have HC10 := hid (HN9.out.cell hk10 HC9.out); have HB10 := hid (HB9.out.trans (HN9.out.below hk10)); have HV10 := hid (sep_symm (sep_next (sep_symm HV8.out) HM9.out.hv hv10)); clear ho10 hN10 hv10 hk10 hrq))
          refine hK.out _ _ (HS.out _ HC10.out) (fun hHeld => ?_)
          clear hK K
          obtain ⟨P, hP⟩ : ∃ P, P = doOut F1 K1 3 s db := ⟨_, rfl⟩
          obtain ⟨Q, hQ⟩ : ∃ Q, Q = doOut f2 L2 3 s db := ⟨_, rfl⟩
          rw [← hP] at HP10 ⊢
          rw [← hQ] at HQ10 ⊢
          refine wpAnyH_take (i := 8) (v := (.slice pa P.length pc)) rfl (by kernel_rfl) (by kernel_rfl) (by kernel_rfl) (fun _ _ _ h => (show False from h).elim) ?xyPA5 ?xhPA5 ?xrPA5
          case xhPA5 => exact hHeld
          case xyPA5 => exact Or.inl ⟨by rfl, fun W9 hW => by clear hHeld; simp only [List.getElem_toArray, List.getElem_cons_succ, List.getElem_cons_zero]; go_simp⟩
          simp only [Act.put, List.getElem_toArray, List.getElem_cons_succ, List.getElem_cons_zero, List.setIfInBounds_toArray, List.set_cons_succ, List.set_cons_zero]
          refine wpAnyH_take (i := 9) (v := (.slice qa Q.length qc)) rfl (by kernel_rfl) (by kernel_rfl) (by kernel_rfl) (fun _ _ _ h => (show False from h).elim) ?xyPA6 ?xhPA6 ?xrPA6
          case xhPA6 => exact hHeld
          case xyPA6 => exact Or.inl ⟨by rfl, fun W9 hW => by clear hHeld; simp only [List.getElem_toArray, List.getElem_cons_succ, List.getElem_cons_zero]; go_simp⟩
          simp only [Act.put, List.getElem_toArray, List.getElem_cons_succ, List.getElem_cons_zero, List.setIfInBounds_toArray, List.set_cons_succ, List.set_cons_zero]
          refine wpAnyH_done (by kernel_rfl) ?_ _
          refine NoPanic.normal ?_
          obtain ⟨hal10, hpq⟩ := HA6.out.1.next K1 L2 s HQ.out.2.2.2.2.2
          rw [← hP, ← hQ] at hpq
          have hs10 : Small (doF F1 K1 3 s db) := HA6.out.2.1.next K1 3 s HQ.out.2.2.2.2.2
          have ht10 : Small (doF f2 L2 3 s db) := HSS.out.2.1.next L2 3 s HQ.out.2.2.2.2.2
          have hl10 := doL_len F1 K1 3 s db
          have hl11 := doL_len f2 L2 3 s db
          have HZ := hid (And.intro hal10 (And.intro hs10 (And.intro ht10 (And.intro hl10 hl11))))
          clear hal10 hs10 ht10 hl10 hl11 hP hQ HS HSI
          obtain ⟨G1, hG1⟩ : ∃ G1, G1 = doF F1 K1 3 s db := ⟨_, rfl⟩
          obtain ⟨G2, hG2⟩ : ∃ G2, G2 = doF f2 L2 3 s db := ⟨_, rfl⟩
          rw [← hG1] at HM10 HZ
          rw [← hG2] at HN10 HZ
          clear hG1 hG2
          have htd : tdOk G1 3 s = tdOk G2 3 s := HZ.out.1.told s
          obtain ⟨tq, htq⟩ : ∃ tq, tq = tdOk G1 3 s := ⟨_, rfl⟩
          have HTQ := hid (And.intro htq (htq.trans htd))
          clear htd htq
          have hPc : P.length ≤ pc := by obtain ⟨_, _, e9, q9, _⟩ := HP10.out; simp only [Value.slice.injEq] at e9; omega
          have hQc : Q.length ≤ qc := by obtain ⟨_, _, e9, q9, _⟩ := HQ10.out; simp only [Value.slice.injEq] at e9; omega
          rcases hpq with ⟨hp0, hq0⟩ | ⟨pn, qn, ll, hp0, hq0, hll⟩
          · have hpl : P.length = 0 := by rw [hp0]; rfl
            have hql : Q.length = 0 := by rw [hq0]; rfl
            rw [hpl, hql]
            go_upto_region 16 with fail
            go_region
            have hWx : Below w10.heap.size w10 w10.drew := ⟨rfl, rfl, rfl, Nat.le_refl _, fun _ _ => rfl⟩
            have HMx := hid (HM10.out.kept hWx)
            have HNx := hid (HN10.out.kept hWx)
            have HCx : Hid (w10.drew.heap[Bc]? = some (.cells #[.int .u64 3, .int .u64 (s : Int), .slice da db.length dk] 37 (0, 0))) := HC10
            have HBx := hid (HB10.out.trans (hWx.mono HB10.out.size))
            clear hWx
            generalize w10.drew = wx at *
            obtain ⟨e0, e1, e2⟩ := three_cells9 HCx.out
            have T1 := hid (told_any (c := 3) (s := s) HMx.out (by decide) (by have := HZ.out.2.1 3; omega))
            go_upto_region 19 with (first | (go_at_call 20; refine T1.out.mono ?_; rintro en w11 ⟨o11, rfl, -, hb11⟩; rw [← HTQ.out.1]; have HM11 := hid (HMx.out.kept hb11); have HN11 := hid (HNx.out.kept hb11); have HC11 := hid ((hb11.block _ (lt_of_block HCx.out)).trans HCx.out); have HB11 := hid (HBx.out.trans (hb11.mono HBx.out.size)); have T2 := hid (told_any (c := 3) (s := s) HN11.out (by decide) (by have := HZ.out.2.2.1 3; omega)); clear hb11))
            clear e0 e1 e2
            obtain ⟨e0, e1, e2⟩ := three_cells9 HC11.out
            go_upto_region 20 with (first | (go_at_call 20; refine T2.out.mono ?_; rintro en w12 ⟨o12, rfl, -, hb12⟩; rw [← HTQ.out.2]; have HM12 := hid (HM11.out.kept hb12); have HN12 := hid (HN11.out.kept hb12); have HB12 := hid (HB11.out.trans (hb12.mono HB11.out.size)); clear hb12))
            clear e0 e1 e2
            have htt : (tq != tq) = false := by simp
            go_wp2_with fail
            go_roundw
            case rel => exact ⟨k + 1, m1 + 1 + 1, m2 + 1, _, _, G1, G2, _, _, by omega, by omega, by omega, by omega, by have := HZ.out.2.2.2.1; have := HA6.out.2.2; omega, by have := HZ.out.2.2.2.2; omega, by go_num, HZ.out.2.1, HZ.out.2.2.1, HZ.out.1, HM12.out, HN12.out, HV10.out, HB12.out⟩
            case measure => simp [intOf]; omega
          · have hpl : P.length = ll.length + 2 := by rw [hp0]; exact ansL_len _ _
            have hql : Q.length = ll.length + 2 := by rw [hq0]; exact ansL_len _ _
            by_cases hl0 : ll.length = 0
            · rw [hpl, hql, hl0]
              go_upto_region 16 with fail
              go_region
              have hWx : Below w10.heap.size w10 w10.drew := ⟨rfl, rfl, rfl, Nat.le_refl _, fun _ _ => rfl⟩
              have HMx := hid (HM10.out.kept hWx)
              have HNx := hid (HN10.out.kept hWx)
              have HCx : Hid (w10.drew.heap[Bc]? = some (.cells #[.int .u64 3, .int .u64 (s : Int), .slice da db.length dk] 37 (0, 0))) := HC10
              have HBx := hid (HB10.out.trans (hWx.mono HB10.out.size))
              clear hWx
              generalize w10.drew = wx at *
              obtain ⟨e0, e1, e2⟩ := three_cells9 HCx.out
              have T1 := hid (told_any (c := 3) (s := s) HMx.out (by decide) (by have := HZ.out.2.1 3; omega))
              go_upto_region 19 with (first | (go_at_call 20; refine T1.out.mono ?_; rintro en w11 ⟨o11, rfl, -, hb11⟩; rw [← HTQ.out.1]; have HM11 := hid (HMx.out.kept hb11); have HN11 := hid (HNx.out.kept hb11); have HC11 := hid ((hb11.block _ (lt_of_block HCx.out)).trans HCx.out); have HB11 := hid (HBx.out.trans (hb11.mono HBx.out.size)); have T2 := hid (told_any (c := 3) (s := s) HN11.out (by decide) (by have := HZ.out.2.2.1 3; omega)); clear hb11))
              clear e0 e1 e2
              obtain ⟨e0, e1, e2⟩ := three_cells9 HC11.out
              go_upto_region 20 with (first | (go_at_call 20; refine T2.out.mono ?_; rintro en w12 ⟨o12, rfl, -, hb12⟩; rw [← HTQ.out.2]; have HM12 := hid (HM11.out.kept hb12); have HN12 := hid (HN11.out.kept hb12); have HB12 := hid (HB11.out.trans (hb12.mono HB11.out.size)); clear hb12))
              clear e0 e1 e2
              have htt : (tq != tq) = false := by simp
              go_wp2_with fail
              go_roundw
              case rel => exact ⟨k + 1, m1 + 1 + 1, m2 + 1, _, _, G1, G2, _, _, by omega, by omega, by omega, by omega, by have := HZ.out.2.2.2.1; have := HA6.out.2.2; omega, by have := HZ.out.2.2.2.2; omega, by go_num, HZ.out.2.1, HZ.out.2.2.1, HZ.out.1, HM12.out, HN12.out, HV10.out, HB12.out⟩
              case measure => simp [intOf]; omega
            · have hgt : (2 : Int) < (ll.length : Int) + 2 := by omega
              obtain ⟨pa2, pc2, ps, pr, -⟩ := HP10.out.cut (P := Try.prog) 35 5 Try.underlying35 (by kernel_rfl) 2 (by omega)
              have hpd : P.drop 2 = ll.reverse := by rw [hp0]; rfl
              have hpe : P.length - 2 = ll.length := by omega
              rw [hpd, hpe] at pr
              rw [hpe, hpl] at ps
              obtain ⟨qa2, qc2, qs, qr, -⟩ := HQ10.out.cut (P := Try.prog) 35 5 Try.underlying35 (by kernel_rfl) 2 (by omega)
              have hqd : Q.drop 2 = ll.reverse := by rw [hq0]; rfl
              have hqe : Q.length - 2 = ll.length := by omega
              rw [hqd, hqe] at qr
              rw [hqe, hql] at qs
              have CB := hid (bytes_any _ _ _ _ w10.drew (pr.old ⟨rfl, rfl, rfl, Nat.le_refl _, fun _ _ => rfl⟩) (qr.old ⟨rfl, rfl, rfl, Nat.le_refl _, fun _ _ => rfl⟩))
              rw [hpl] at hPc; rw [hql] at hQc
              rw [hpl, hql]
              clear pr qr hpd hqd hpe hqe hp0 hq0
              go_upto_region 16 with fail
              refine wp_region_noPanic ?_
              refine wp_region_held_drew (S := fun _ => Hid True) (by kernel_rfl) (hid trivial) (fun hHeld => ?_)
              refine wpAnyH_take (i := 0) (v := (.slice pa (ll.length + 2) pc)) rfl (by kernel_rfl) (by kernel_rfl) (by kernel_rfl) (fun _ _ _ h => (show False from h).elim) ?xyPA7 ?xhPA7 ?xrPA7
              case xhPA7 => exact hHeld
              case xyPA7 => exact Or.inl ⟨by rfl, fun W9 hW => by clear hHeld; simp only [List.getElem_toArray, List.getElem_cons_succ, List.getElem_cons_zero]; go_simp⟩
              simp only [Act.put, List.getElem_toArray, List.getElem_cons_succ, List.getElem_cons_zero, List.setIfInBounds_toArray, List.set_cons_succ, List.set_cons_zero]
              refine wpAnyH_take (i := 1) (v := (.int .i64 ((ll.length : Int) + 2))) rfl (by kernel_rfl) (by kernel_rfl) (by kernel_rfl) (fun _ _ _ h => (show False from h).elim) ?xyPA8 ?xhPA8 ?xrPA8
              case xhPA8 => exact hHeld
              case xyPA8 => exact Or.inl ⟨by rfl, fun W9 hW => by clear hHeld; simp only [List.getElem_toArray, List.getElem_cons_succ, List.getElem_cons_zero]; go_simp⟩
              simp only [Act.put, List.getElem_toArray, List.getElem_cons_succ, List.getElem_cons_zero, List.setIfInBounds_toArray, List.set_cons_succ, List.set_cons_zero]
              refine wpAnyH_take (i := 2) (v := (.slice qa (ll.length + 2) qc)) rfl (by kernel_rfl) (by kernel_rfl) (by kernel_rfl) (fun _ _ _ h => (show False from h).elim) ?xyPA9 ?xhPA9 ?xrPA9
              case xhPA9 => exact hHeld
              case xyPA9 => exact Or.inl ⟨by rfl, fun W9 hW => by clear hHeld; simp only [List.getElem_toArray, List.getElem_cons_succ, List.getElem_cons_zero]; go_simp⟩
              simp only [Act.put, List.getElem_toArray, List.getElem_cons_succ, List.getElem_cons_zero, List.setIfInBounds_toArray, List.set_cons_succ, List.set_cons_zero]
              refine wpAnyH_take (i := 3) (v := (.int .i64 ((ll.length : Int) + 2))) rfl (by kernel_rfl) (by kernel_rfl) (by kernel_rfl) (fun _ _ _ h => (show False from h).elim) ?xyPA10 ?xhPA10 ?xrPA10
              case xhPA10 => exact hHeld
              case xyPA10 => exact Or.inl ⟨by rfl, fun W9 hW => by clear hHeld; simp only [List.getElem_toArray, List.getElem_cons_succ, List.getElem_cons_zero]; go_simp⟩
              simp only [Act.put, List.getElem_toArray, List.getElem_cons_succ, List.getElem_cons_zero, List.setIfInBounds_toArray, List.set_cons_succ, List.set_cons_zero]
              refine wpAnyH_take (i := 4) (v := (.bool false)) rfl (by kernel_rfl) (by kernel_rfl) (by kernel_rfl) (fun _ _ _ h => (show False from h).elim) ?xyPA11 ?xhPA11 ?xrPA11
              case xhPA11 => exact hHeld
              case xyPA11 => exact Or.inl ⟨by rfl, fun W9 hW => by clear hHeld; simp only [List.getElem_toArray, List.getElem_cons_succ, List.getElem_cons_zero]; go_simp⟩
              simp only [Act.put, List.getElem_toArray, List.getElem_cons_succ, List.getElem_cons_zero, List.setIfInBounds_toArray, List.set_cons_succ, List.set_cons_zero]
              refine wpAnyH_take (i := 5) (v := (.bool false)) rfl (by kernel_rfl) (by kernel_rfl) (by kernel_rfl) (fun _ _ _ h => (show False from h).elim) ?xyPA12 ?xhPA12 ?xrPA12
              case xhPA12 => exact hHeld
              case xyPA12 => exact Or.inl ⟨by rfl, fun W9 hW => by clear hHeld; simp only [List.getElem_toArray, List.getElem_cons_succ, List.getElem_cons_zero]; go_simp⟩
              simp only [Act.put, List.getElem_toArray, List.getElem_cons_succ, List.getElem_cons_zero, List.setIfInBounds_toArray, List.set_cons_succ, List.set_cons_zero]
              refine wpAnyH_take (i := 6) (v := (.slice pa (ll.length + 2) pc)) rfl (by kernel_rfl) (by kernel_rfl) (by kernel_rfl) (fun _ _ _ h => (show False from h).elim) ?xyPA13 ?xhPA13 ?xrPA13
              case xhPA13 => exact hHeld
              case xyPA13 => exact Or.inl ⟨by rfl, fun W9 hW => by clear hHeld; simp only [List.getElem_toArray, List.getElem_cons_succ, List.getElem_cons_zero]; go_simp⟩
              simp only [Act.put, List.getElem_toArray, List.getElem_cons_succ, List.getElem_cons_zero, List.setIfInBounds_toArray, List.set_cons_succ, List.set_cons_zero]
              refine wpAnyH_take (i := 7) (v := (.int .i64 ((ll.length : Int) + 2))) rfl (by kernel_rfl) (by kernel_rfl) (by kernel_rfl) (fun _ _ _ h => (show False from h).elim) ?xyPA14 ?xhPA14 ?xrPA14
              case xhPA14 => exact hHeld
              case xyPA14 => exact Or.inl ⟨by rfl, fun W9 hW => by clear hHeld; simp only [List.getElem_toArray, List.getElem_cons_succ, List.getElem_cons_zero]; go_simp⟩
              simp only [Act.put, List.getElem_toArray, List.getElem_cons_succ, List.getElem_cons_zero, List.setIfInBounds_toArray, List.set_cons_succ, List.set_cons_zero]
              refine wpAnyH_take (i := 8) (v := (.bool true)) rfl (by kernel_rfl) (by kernel_rfl) (by kernel_rfl) (fun _ _ _ h => (show False from h).elim) ?xyPA15 ?xhPA15 ?xrPA15
              case xhPA15 => exact hHeld
              case xyPA15 => exact Or.inl ⟨by rfl, fun W9 hW => by clear hHeld; simp only [List.getElem_toArray, List.getElem_cons_succ, List.getElem_cons_zero]; go_simp⟩
              simp only [Act.put, List.getElem_toArray, List.getElem_cons_succ, List.getElem_cons_zero, List.setIfInBounds_toArray, List.set_cons_succ, List.set_cons_zero]
              refine wpAnyH_take (i := 9) (v := (.bool true)) rfl (by kernel_rfl) (by kernel_rfl) (by kernel_rfl) (fun _ _ _ h => (show False from h).elim) ?xyPA16 ?xhPA16 ?xrPA16
              case xhPA16 => exact hHeld
              case xyPA16 => exact Or.inl ⟨by rfl, fun W9 hW => by clear hHeld; simp only [List.getElem_toArray, List.getElem_cons_succ, List.getElem_cons_zero]; go_simp⟩
              simp only [Act.put, List.getElem_toArray, List.getElem_cons_succ, List.getElem_cons_zero, List.setIfInBounds_toArray, List.set_cons_succ, List.set_cons_zero]
              refine wpAnyH_take (i := 10) (v := (.slice pa (ll.length + 2) pc)) rfl (by kernel_rfl) (by kernel_rfl) (by kernel_rfl) (fun _ _ _ h => (show False from h).elim) ?xyPA17 ?xhPA17 ?xrPA17
              case xhPA17 => exact hHeld
              case xyPA17 => exact Or.inl ⟨by rfl, fun W9 hW => by clear hHeld; simp only [List.getElem_toArray, List.getElem_cons_succ, List.getElem_cons_zero]; go_simp⟩
              simp only [Act.put, List.getElem_toArray, List.getElem_cons_succ, List.getElem_cons_zero, List.setIfInBounds_toArray, List.set_cons_succ, List.set_cons_zero]
              refine wpAnyH_take (i := 11) (v := (.slice pa2 ll.length pc2)) rfl (by kernel_rfl) (by kernel_rfl) (by kernel_rfl) (fun _ _ _ h => (show False from h).elim) ?xyPA18 ?xhPA18 ?xrPA18
              case xhPA18 => exact hHeld
              case xyPA18 => exact Or.inl ⟨by rfl, fun W9 hW => by have ps2 : (Instr.slice 35 (.slice pa (ll.length + 2) pc) (some (.int .i64 2)) none none).run Try.prog W9 = .ok (.slice pa2 ll.length pc2) W9 := ps W9; clear hHeld; simp only [List.getElem_toArray, List.getElem_cons_succ, List.getElem_cons_zero]; go_simp⟩
              simp only [Act.put, List.getElem_toArray, List.getElem_cons_succ, List.getElem_cons_zero, List.setIfInBounds_toArray, List.set_cons_succ, List.set_cons_zero]
              refine wpAnyH_take (i := 12) (v := (.slice qa (ll.length + 2) qc)) rfl (by kernel_rfl) (by kernel_rfl) (by kernel_rfl) (fun _ _ _ h => (show False from h).elim) ?xyPA19 ?xhPA19 ?xrPA19
              case xhPA19 => exact hHeld
              case xyPA19 => exact Or.inl ⟨by rfl, fun W9 hW => by clear hHeld; simp only [List.getElem_toArray, List.getElem_cons_succ, List.getElem_cons_zero]; go_simp⟩
              simp only [Act.put, List.getElem_toArray, List.getElem_cons_succ, List.getElem_cons_zero, List.setIfInBounds_toArray, List.set_cons_succ, List.set_cons_zero]
              refine wpAnyH_take (i := 13) (v := (.slice qa2 ll.length qc2)) rfl (by kernel_rfl) (by kernel_rfl) (by kernel_rfl) (fun _ _ _ h => (show False from h).elim) ?xyPA20 ?xhPA20 ?xrPA20
              case xhPA20 => exact hHeld
              case xyPA20 => exact Or.inl ⟨by rfl, fun W9 hW => by have qs2 : (Instr.slice 35 (.slice qa (ll.length + 2) qc) (some (.int .i64 2)) none none).run Try.prog W9 = .ok (.slice qa2 ll.length qc2) W9 := qs W9; clear hHeld; simp only [List.getElem_toArray, List.getElem_cons_succ, List.getElem_cons_zero]; go_simp⟩
              simp only [Act.put, List.getElem_toArray, List.getElem_cons_succ, List.getElem_cons_zero, List.setIfInBounds_toArray, List.set_cons_succ, List.set_cons_zero]
              refine wpAnyH_ready (rs := [14]) (by kernel_rfl) (by simp) ?_
              refine AllReadyH.cons rfl (fun K hK => ?_) AllReadyH.nil
              go_simp
              go_wp2_with (first | (go_at_call 12; refine CB.out.mono ?_; rintro en wb ⟨rfl, rfl⟩; rw [beq_self_eq_true]))
              refine hK.out _ _ (hid trivial) (fun hHeld => ?_)
              clear hK K
              refine wpAnyH_take (i := 15) (v := (.bool false)) rfl (by kernel_rfl) (by kernel_rfl) (by kernel_rfl) (fun _ _ _ h => (show False from h).elim) ?xyPA21 ?xhPA21 ?xrPA21
              case xhPA21 => exact hHeld
              case xyPA21 => exact Or.inl ⟨by rfl, fun W9 hW => by clear hHeld; simp only [List.getElem_toArray, List.getElem_cons_succ, List.getElem_cons_zero]; go_simp⟩
              simp only [Act.put, List.getElem_toArray, List.getElem_cons_succ, List.getElem_cons_zero, List.setIfInBounds_toArray, List.set_cons_succ, List.set_cons_zero]
              refine wpAnyH_take (i := 16) (v := (.bool false)) rfl (by kernel_rfl) (by kernel_rfl) (by kernel_rfl) (fun _ _ _ h => (show False from h).elim) ?xyPA22 ?xhPA22 ?xrPA22
              case xhPA22 => exact hHeld
              case xyPA22 => exact Or.inl ⟨by rfl, fun W9 hW => by clear hHeld; simp only [List.getElem_toArray, List.getElem_cons_succ, List.getElem_cons_zero]; go_simp⟩
              simp only [Act.put, List.getElem_toArray, List.getElem_cons_succ, List.getElem_cons_zero, List.setIfInBounds_toArray, List.set_cons_succ, List.set_cons_zero]
              refine wpAnyH_take (i := 17) (v := (.bool false)) rfl (by kernel_rfl) (by kernel_rfl) (by kernel_rfl) (fun _ _ _ h => (show False from h).elim) ?xyPA23 ?xhPA23 ?xrPA23
              case xhPA23 => exact hHeld
              case xyPA23 => exact Or.inl ⟨by rfl, fun W9 hW => by clear hHeld; simp only [List.getElem_toArray, List.getElem_cons_succ, List.getElem_cons_zero]; go_simp⟩
              simp only [Act.put, List.getElem_toArray, List.getElem_cons_succ, List.getElem_cons_zero, List.setIfInBounds_toArray, List.set_cons_succ, List.set_cons_zero]
              refine wpAnyH_done (by kernel_rfl) ?_ _
              refine NoPanic.normal ?_
              clear ps qs
              have hWx : Below w10.heap.size w10 w10.drew := ⟨rfl, rfl, rfl, Nat.le_refl _, fun _ _ => rfl⟩
              have HMx := hid (HM10.out.kept hWx)
              have HNx := hid (HN10.out.kept hWx)
              have HCx : Hid (w10.drew.heap[Bc]? = some (.cells #[.int .u64 3, .int .u64 (s : Int), .slice da db.length dk] 37 (0, 0))) := HC10
              have HBx := hid (HB10.out.trans (hWx.mono HB10.out.size))
              clear hWx
              generalize w10.drew = wx at *
              obtain ⟨e0, e1, e2⟩ := three_cells9 HCx.out
              have T1 := hid (told_any (c := 3) (s := s) HMx.out (by decide) (by have := HZ.out.2.1 3; omega))
              go_upto_region 19 with (first | (go_at_call 20; refine T1.out.mono ?_; rintro en w11 ⟨o11, rfl, -, hb11⟩; rw [← HTQ.out.1]; have HM11 := hid (HMx.out.kept hb11); have HN11 := hid (HNx.out.kept hb11); have HC11 := hid ((hb11.block _ (lt_of_block HCx.out)).trans HCx.out); have HB11 := hid (HBx.out.trans (hb11.mono HBx.out.size)); have T2 := hid (told_any (c := 3) (s := s) HN11.out (by decide) (by have := HZ.out.2.2.1 3; omega)); clear hb11))
              clear e0 e1 e2
              obtain ⟨e0, e1, e2⟩ := three_cells9 HC11.out
              go_upto_region 20 with (first | (go_at_call 20; refine T2.out.mono ?_; rintro en w12 ⟨o12, rfl, -, hb12⟩; rw [← HTQ.out.2]; have HM12 := hid (HM11.out.kept hb12); have HN12 := hid (HN11.out.kept hb12); have HB12 := hid (HB11.out.trans (hb12.mono HB11.out.size)); clear hb12))
              clear e0 e1 e2
              have htt : (tq != tq) = false := by simp
              go_wp2_with fail
              go_roundw
              case rel => exact ⟨k + 1, m1 + 1 + 1, m2 + 1, _, _, G1, G2, _, _, by omega, by omega, by omega, by omega, by have := HZ.out.2.2.2.1; have := HA6.out.2.2; omega, by have := HZ.out.2.2.2.2; omega, by go_num, HZ.out.2.1, HZ.out.2.2.1, HZ.out.1, HM12.out, HN12.out, HV10.out, HB12.out⟩
              case measure => simp [intOf]; omega
        · have hki1 : ¬ (k : Int) < (n1 : Int) := by omega
          go_upto_region 13 with fail
          have hbw : Below wr.heap.size wr ((wr.alloc (.cells #[.int .u64 3, .int .u64 (s : Int), .slice da db.length dk] 37)).alloc (.cells #[.int .u64 0, .int .u64 0, .slice none 0 0] 37)) := ((Below.refl _ _).alloc (Nat.le_refl _) _).alloc (by simp) _
          have hc9 : ((wr.alloc (.cells #[.int .u64 3, .int .u64 (s : Int), .slice da db.length dk] 37)).alloc (.cells #[.int .u64 0, .int .u64 0, .slice none 0 0] 37)).heap[wr.heap.size]? = some (.cells #[.int .u64 3, .int .u64 (s : Int), .slice da db.length dk] 37 (0, 0)) := (Below.heap_alloc (wr.alloc (.cells #[.int .u64 3, .int .u64 (s : Int), .slice da db.length dk] 37)) (.cells #[.int .u64 0, .int .u64 0, .slice none 0 0] 37) wr.heap.size (by simp)).trans (heap_alloc_new wr (.cells #[.int .u64 3, .int .u64 (s : Int), .slice da db.length dk] 37))
          have hx9 : ((wr.alloc (.cells #[.int .u64 3, .int .u64 (s : Int), .slice da db.length dk] 37)).alloc (.cells #[.int .u64 0, .int .u64 0, .slice none 0 0] 37)).heap[wr.heap.size + 1]? = some (.cells #[.int .u64 0, .int .u64 0, .slice none 0 0] 37 (0, 0)) := heap_alloc2_new wr (.cells #[.int .u64 3, .int .u64 (s : Int), .slice da db.length dk] 37) (.cells #[.int .u64 0, .int .u64 0, .slice none 0 0] 37)
          obtain ⟨Bx, hBx⟩ : ∃ Bx, Bx = wr.heap.size + 1 := ⟨_, rfl⟩
          obtain ⟨Bc, hBc⟩ : ∃ Bc, Bc = wr.heap.size := ⟨_, rfl⟩
          rw [← hBx] at hx9 ⊢
          rw [← hBc] at hc9
          generalize (wr.alloc (.cells #[.int .u64 3, .int .u64 (s : Int), .slice da db.length dk] 37)).alloc (.cells #[.int .u64 0, .int .u64 0, .slice none 0 0] 37) = w4 at *
          try rw [← hBc]
          clear hBx z0 z1 z2
          have HBC := hid hBc
          clear hBc
          have HM1 := hid (HMa.out.kept hbw)
          have HM2 := hid (HMb.out.kept hbw)
          have HB4 := hid (HBr.out.trans (hbw.mono HBr.out.size))
          have HRc := hid (HR0.out.old hbw)
          have HRx : Hid (Rd w4 (.slice none 0 0) []) := hid (Rd.nil w4)
          have HC4 := hid hc9
          clear hbw
          obtain ⟨e0, e1, e2⟩ := three_cells9 hc9
          obtain ⟨y0, y1, y2⟩ := three_cells9 hx9
          clear hc9 hx9
          by_cases g1 : (200 : Int) < (db.length : Int)
          · go_wp2_with fail
            go_roundw
            case rel => exact ⟨k + 1, m1, m2, u1, u2, f1, f2, L1, L2, by omega, by omega, by omega, by omega, by omega, by omega, by go_num, HSS.out.1, HSS.out.2.1, HSS.out.2.2.1, HM1.out, HM2.out, HSS.out.2.2.2, HB4.out⟩
            case measure => simp [intOf]; omega
          have hxl2 : ([] : List UInt8).length ≤ 200 := by decide
          have hdl2 : db.length ≤ 200 := by omega
          go_upto_region 14 with fail
          clear e0 e1 e2
          have CC1 : Hid (Calls Try.prog 14 #[.agg #[.int .u64 0, .int .u64 0, .slice none 0 0]] w4 (Gives 5 w4 (callB 0 0 []))) := hid (refCall_any (cl := 0) (sq := 0) (by decide) (by decide) (by omega) HRx.out rfl)
          have hq1 : rdF sCall (callB 0 0 [], 0) = (callB 0 0 [], [], 0) := callB_rd (by decide) (by decide) (by omega)
          have hq2 : (callB 0 0 []).length ≤ 1030 := callB_len (by decide) (by decide) (by omega)
          have hq3 : rdF sCall (callB 3 s db, 0) = (callB 3 s db, [], 0) := callB_rd (by decide) hqs0 (by omega)
          have hq4 : (callB 3 s db).length ≤ 1030 := callB_len (by decide) hqs0 (by omega)
          have HQ := hid (And.intro hq1 (And.intro hq2 (And.intro hq3 (And.intro hq4 (And.intro hxl2 hdl2)))))
          have HSZ := hid (And.intro hm1' (And.intro hm2' (And.intro hL1 (And.intro hL2 hl20))))
          clear hq1 hq2 hq3 hq4
          go_upto_region 15 with (first
            | (go_at_call 14; refine CC1.out.mono ?_; rintro en w5 ⟨xx, rfl, ho, hb5⟩; have HM5 := hid (HM1.out.kept hb5); have HN5 := hid (HM2.out.kept hb5); have HC5 := hid ((hb5.block _ (lt_of_block HC4.out)).trans HC4.out); have HB5 := hid (HB4.out.trans (hb5.mono HB4.out.size)); have D1 := hid (do_any (cl := 0) (sq := 0) (data := []) HM5.out (Rd.own ho) (by have := HQ.out.2.1; omega) HQ.out.1 (by decide) (by decide) (by have := HQ.out.2.2.2.2.1; omega) (by have := HSZ.out; omega) (by have := HSZ.out; omega) (by have := HSS.out.1 0; omega)); clear ho hb5)
            | (go_at_call 16; refine D1.out.mono ?_; rintro en w6 ⟨o6, v6, rfl, h91, hM6, hv6, hk6, h92⟩))
          have HM6 := hid hM6
          have HN6 := hid (HN5.out.beside HM5.out (Ne.symm HD.out.1) (Ne.symm HD.out.2) (sep_symm HSS.out.2.2.2) hk6)
          have HC6 := hid (HM5.out.cell hk6 HC5.out)
          have HB6 := hid (HB5.out.trans (HM5.out.below hk6))
          have HV6 := hid (sep_next HSS.out.2.2.2 HN5.out.hv hv6)
          clear hM6 hv6 hk6 h91 h92
          clear y0 y1 y2 CC1 D1
          obtain ⟨F1, hF1⟩ : ∃ F1, F1 = doF f1 L1 0 0 [] := ⟨_, rfl⟩
          obtain ⟨K1, hK1⟩ : ∃ K1, K1 = doL f1 L1 0 0 [] := ⟨_, rfl⟩
          have hal6 : Alk (F1 3) (f2 3) := by rw [hF1, doF_other f1 L1 _ _ (by decide)]; exact HSS.out.2.2.1
          have hsm6 : Small F1 := by rw [hF1]; exact HSS.out.1.next L1 _ _ HQ.out.2.2.2.2.1
          have hkl6 : K1.length ≤ L1.length + 1 := by rw [hK1]; exact doL_len _ _ _ _ _
          rw [← hF1, ← hK1] at HM6
          have HA6 := hid (And.intro hal6 (And.intro hsm6 hkl6))
          clear hF1 hK1 hal6 hsm6 hkl6
          obtain ⟨S9, hS9⟩ : ∃ S9 : World → Prop, S9 = fun V => V.heap[Bc]? = some (.cells #[.int .u64 3, .int .u64 (s : Int), .slice da db.length dk] 37 (0, 0)) := ⟨_, rfl⟩
          have HS : Hid (∀ V, V.heap[Bc]? = some (.cells #[.int .u64 3, .int .u64 (s : Int), .slice da db.length dk] 37 (0, 0)) → S9 V) := hid fun V h => by rw [hS9]; exact h
          have HSI : Hid (∀ V, S9 V → V.heap[Bc]? = some (.cells #[.int .u64 3, .int .u64 (s : Int), .slice da db.length dk] 37 (0, 0))) := hid fun V h => by rw [hS9] at h; exact h
          clear hS9
          have hWd : Below w6.heap.size w6 w6.drew := ⟨rfl, rfl, rfl, Nat.le_refl _, fun _ _ => rfl⟩
          have HMd := hid (HM6.out.kept hWd)
          have HNd := hid (HN6.out.kept hWd)
          have HCd : Hid (w6.drew.heap[Bc]? = some (.cells #[.int .u64 3, .int .u64 (s : Int), .slice da db.length dk] 37 (0, 0))) := HC6
          have HBd := hid (HB6.out.trans (hWd.mono HB6.out.size))
          have HRW : Hid (∀ V, Below W.heap.size W V → Rd V (.slice da db.length dk) db) := HRW0
          have CC2 := hid (refCall_any (cl := 3) (sq := s) (by decide) hqs0 (by have := HQ.out.2.2.2.2.2; omega) (HRW.out _ HBd.out) rfl)
          clear hWd
          refine wp_region_noPanic ?_
          refine wp_region_held_drew (S := S9) (by kernel_rfl) (HS.out _ HCd.out) (fun hHeld => ?_)
          generalize w6.drew = Wd at *
          refine wpAnyH_take (i := 0) (v := (.pointer (some ⟨d1, 0, none⟩))) rfl (by kernel_rfl) (by kernel_rfl) (by kernel_rfl) (fun _ _ _ h => (show False from h).elim) ?xyPB1 ?xhPB1 ?xrPB1
          case xhPB1 => exact hHeld
          case xyPB1 => exact Or.inl ⟨by rfl, fun W9 hW => by clear hHeld; simp only [List.getElem_toArray, List.getElem_cons_succ, List.getElem_cons_zero]; go_simp⟩
          simp only [Act.put, List.getElem_toArray, List.getElem_cons_succ, List.getElem_cons_zero, List.setIfInBounds_toArray, List.set_cons_succ, List.set_cons_zero]
          refine wpAnyH_take (i := 1) (v := (.agg #[.int .u64 3, .int .u64 (s : Int), .slice da db.length dk])) rfl (by kernel_rfl) (by kernel_rfl) (by kernel_rfl) (fun _ _ _ h => (show False from h).elim) ?xyPB2 ?xhPB2 ?xrPB2
          case xhPB2 => exact hHeld
          case xyPB2 => exact Or.inl ⟨by rfl, fun W9 hW => by obtain ⟨t0, t1, t2⟩ := three_cells9 (HSI.out _ hW); clear hHeld; simp only [List.getElem_toArray, List.getElem_cons_succ, List.getElem_cons_zero]; go_simp⟩
          simp only [Act.put, List.getElem_toArray, List.getElem_cons_succ, List.getElem_cons_zero, List.setIfInBounds_toArray, List.set_cons_succ, List.set_cons_zero]
          refine wpAnyH_take (i := 4) (v := (.pointer (some ⟨d2, 0, none⟩))) rfl (by kernel_rfl) (by kernel_rfl) (by kernel_rfl) (fun _ _ _ h => (show False from h).elim) ?xyPB3 ?xhPB3 ?xrPB3
          case xhPB3 => exact hHeld
          case xyPB3 => exact Or.inl ⟨by rfl, fun W9 hW => by clear hHeld; simp only [List.getElem_toArray, List.getElem_cons_succ, List.getElem_cons_zero]; go_simp⟩
          simp only [Act.put, List.getElem_toArray, List.getElem_cons_succ, List.getElem_cons_zero, List.setIfInBounds_toArray, List.set_cons_succ, List.set_cons_zero]
          refine wpAnyH_take (i := 5) (v := (.agg #[.int .u64 3, .int .u64 (s : Int), .slice da db.length dk])) rfl (by kernel_rfl) (by kernel_rfl) (by kernel_rfl) (fun _ _ _ h => (show False from h).elim) ?xyPB4 ?xhPB4 ?xrPB4
          case xhPB4 => exact hHeld
          case xyPB4 => exact Or.inl ⟨by rfl, fun W9 hW => by obtain ⟨t0, t1, t2⟩ := three_cells9 (HSI.out _ hW); clear hHeld; simp only [List.getElem_toArray, List.getElem_cons_succ, List.getElem_cons_zero]; go_simp⟩
          simp only [Act.put, List.getElem_toArray, List.getElem_cons_succ, List.getElem_cons_zero, List.setIfInBounds_toArray, List.set_cons_succ, List.set_cons_zero]
          refine wpAnyH_ready (rs := [2]) (by kernel_rfl) (by simp) ?_
          refine AllReadyH.cons rfl (fun K hK => ?_) AllReadyH.nil
          go_simp
          go_wp2_with (first | (go_at_call 14; refine CC2.out.mono ?_; rintro en w7 ⟨xx, rfl, ho, hb7⟩; have HM7 := hid (HMd.out.kept hb7); have HN7 := hid (HNd.out.kept hb7); have HC7 := hid ((hb7.block _ (lt_of_block HCd.out)).trans HCd.out); have HB7 := hid (HBd.out.trans (hb7.mono HBd.out.size)); have D3 := hid (do_any (cl := 3) (sq := s) (data := db) HM7.out (Rd.own ho) (by have := HQ.out.2.2.2.1; omega) HQ.out.2.2.1 (by decide) hqs0 (by have := HQ.out.2.2.2.2.2; omega) (by have := HSZ.out; omega) (by have := HSZ.out; have := HA6.out.2.2; omega) (by have := HA6.out.2.1 3; omega)); clear ho hb7))
          refine hK.out _ _ (HS.out _ HC7.out) (fun hHeld => ?_)
          clear hK K
          refine wpAnyH_ready (rs := [3]) (by kernel_rfl) (by simp) ?_
          refine AllReadyH.cons rfl (fun K hK => ?_) AllReadyH.nil
          go_simp
          go_wp2_with (first | (go_at_call 16; refine D3.out.mono ?_; rintro en w8 ⟨o8, v8, rfl, ho8, hM8, hv8, hk8, -⟩; obtain ⟨pa, pc, rfl, hrp⟩ := gives_rd ho8; have HO8 := hid ho8; have HM8 := hid hM8; have HN8 := hid (HN7.out.beside HM7.out (Ne.symm HD.out.1) (Ne.symm HD.out.2) (sep_symm HV6.out) hk8); have HC8 := hid (HM7.out.cell hk8 HC7.out); have HB8 := hid (HB7.out.trans (HM7.out.below hk8)); have HV8 := hid (sep_next HV6.out HN7.out.hv hv8); have CC4 := hid (refCall_any (cl := 3) (sq := s) (by decide) hqs0 (by have := HQ.out.2.2.2.2.2; omega) (HRW.out _ HB8.out) rfl); clear ho8 hM8 hv8 hk8 hrp))
          refine hK.out _ _ (HS.out _ HC8.out) (fun hHeld => ?_)
          clear hK K
          refine wpAnyH_ready (rs := [6]) (by kernel_rfl) (by simp) ?_
          refine AllReadyH.cons rfl (fun K hK => ?_) AllReadyH.nil
          go_simp
          go_wp2_with (first | (go_at_call 14; refine CC4.out.mono ?_; rintro en w9 ⟨xx, rfl, ho, hb9⟩; have HM9 := hid (HM8.out.kept hb9); have HN9 := hid (HN8.out.kept hb9); have HC9 := hid ((hb9.block _ (lt_of_block HC8.out)).trans HC8.out); have HB9 := hid (HB8.out.trans (hb9.mono HB8.out.size)); have HO9 := hid (own_old HO8.out hb9); have D5 := hid (do_any (cl := 3) (sq := s) (data := db) HN9.out (Rd.own ho) (by have := HQ.out.2.2.2.1; omega) HQ.out.2.2.1 (by decide) hqs0 (by have := HQ.out.2.2.2.2.2; omega) (by have := HSZ.out; omega) (by have := HSZ.out; omega) (by have := HSS.out.2.1 3; omega)); clear ho hb9))
          refine hK.out _ _ (HS.out _ HC9.out) (fun hHeld => ?_)
          clear hK K
          refine wpAnyH_ready (rs := [7]) (by kernel_rfl) (by simp) ?_
          refine AllReadyH.cons rfl (fun K hK => ?_) AllReadyH.nil
          go_simp
          go_wp2_with (first | (go_at_call 16; refine D5.out.mono ?_; rintro en w10 ⟨o10, v10, rfl, ho10, hN10, hv10, hk10, -⟩; obtain ⟨qa, qc, rfl, hrq⟩ := gives_rd ho10; have HP10 := hid (Rd.own (HN9.out.row hk10 HO9.out)); have HQ10 := hid hrq; have HN10 := hid hN10; have HM10 := hid (HM9.out.beside HN9.out HD.out.1 HD.out.2 HV8.out hk10); have HC10 := hid (HN9.out.cell hk10 HC9.out); have HB10 := hid (HB9.out.trans (HN9.out.below hk10)); have HV10 := hid (sep_symm (sep_next (sep_symm HV8.out) HM9.out.hv hv10)); clear ho10 hN10 hv10 hk10 hrq))
          refine hK.out _ _ (HS.out _ HC10.out) (fun hHeld => ?_)
          clear hK K
          obtain ⟨P, hP⟩ : ∃ P, P = doOut F1 K1 3 s db := ⟨_, rfl⟩
          obtain ⟨Q, hQ⟩ : ∃ Q, Q = doOut f2 L2 3 s db := ⟨_, rfl⟩
          rw [← hP] at HP10 ⊢
          rw [← hQ] at HQ10 ⊢
          refine wpAnyH_take (i := 8) (v := (.slice pa P.length pc)) rfl (by kernel_rfl) (by kernel_rfl) (by kernel_rfl) (fun _ _ _ h => (show False from h).elim) ?xyPB5 ?xhPB5 ?xrPB5
          case xhPB5 => exact hHeld
          case xyPB5 => exact Or.inl ⟨by rfl, fun W9 hW => by clear hHeld; simp only [List.getElem_toArray, List.getElem_cons_succ, List.getElem_cons_zero]; go_simp⟩
          simp only [Act.put, List.getElem_toArray, List.getElem_cons_succ, List.getElem_cons_zero, List.setIfInBounds_toArray, List.set_cons_succ, List.set_cons_zero]
          refine wpAnyH_take (i := 9) (v := (.slice qa Q.length qc)) rfl (by kernel_rfl) (by kernel_rfl) (by kernel_rfl) (fun _ _ _ h => (show False from h).elim) ?xyPB6 ?xhPB6 ?xrPB6
          case xhPB6 => exact hHeld
          case xyPB6 => exact Or.inl ⟨by rfl, fun W9 hW => by clear hHeld; simp only [List.getElem_toArray, List.getElem_cons_succ, List.getElem_cons_zero]; go_simp⟩
          simp only [Act.put, List.getElem_toArray, List.getElem_cons_succ, List.getElem_cons_zero, List.setIfInBounds_toArray, List.set_cons_succ, List.set_cons_zero]
          refine wpAnyH_done (by kernel_rfl) ?_ _
          refine NoPanic.normal ?_
          obtain ⟨hal10, hpq⟩ := HA6.out.1.next K1 L2 s HQ.out.2.2.2.2.2
          rw [← hP, ← hQ] at hpq
          have hs10 : Small (doF F1 K1 3 s db) := HA6.out.2.1.next K1 3 s HQ.out.2.2.2.2.2
          have ht10 : Small (doF f2 L2 3 s db) := HSS.out.2.1.next L2 3 s HQ.out.2.2.2.2.2
          have hl10 := doL_len F1 K1 3 s db
          have hl11 := doL_len f2 L2 3 s db
          have HZ := hid (And.intro hal10 (And.intro hs10 (And.intro ht10 (And.intro hl10 hl11))))
          clear hal10 hs10 ht10 hl10 hl11 hP hQ HS HSI
          obtain ⟨G1, hG1⟩ : ∃ G1, G1 = doF F1 K1 3 s db := ⟨_, rfl⟩
          obtain ⟨G2, hG2⟩ : ∃ G2, G2 = doF f2 L2 3 s db := ⟨_, rfl⟩
          rw [← hG1] at HM10 HZ
          rw [← hG2] at HN10 HZ
          clear hG1 hG2
          have htd : tdOk G1 3 s = tdOk G2 3 s := HZ.out.1.told s
          obtain ⟨tq, htq⟩ : ∃ tq, tq = tdOk G1 3 s := ⟨_, rfl⟩
          have HTQ := hid (And.intro htq (htq.trans htd))
          clear htd htq
          have hPc : P.length ≤ pc := by obtain ⟨_, _, e9, q9, _⟩ := HP10.out; simp only [Value.slice.injEq] at e9; omega
          have hQc : Q.length ≤ qc := by obtain ⟨_, _, e9, q9, _⟩ := HQ10.out; simp only [Value.slice.injEq] at e9; omega
          rcases hpq with ⟨hp0, hq0⟩ | ⟨pn, qn, ll, hp0, hq0, hll⟩
          · have hpl : P.length = 0 := by rw [hp0]; rfl
            have hql : Q.length = 0 := by rw [hq0]; rfl
            rw [hpl, hql]
            go_upto_region 16 with fail
            go_region
            have hWx : Below w10.heap.size w10 w10.drew := ⟨rfl, rfl, rfl, Nat.le_refl _, fun _ _ => rfl⟩
            have HMx := hid (HM10.out.kept hWx)
            have HNx := hid (HN10.out.kept hWx)
            have HCx : Hid (w10.drew.heap[Bc]? = some (.cells #[.int .u64 3, .int .u64 (s : Int), .slice da db.length dk] 37 (0, 0))) := HC10
            have HBx := hid (HB10.out.trans (hWx.mono HB10.out.size))
            clear hWx
            generalize w10.drew = wx at *
            obtain ⟨e0, e1, e2⟩ := three_cells9 HCx.out
            have T1 := hid (told_any (c := 3) (s := s) HMx.out (by decide) (by have := HZ.out.2.1 3; omega))
            go_upto_region 19 with (first | (go_at_call 20; refine T1.out.mono ?_; rintro en w11 ⟨o11, rfl, -, hb11⟩; rw [← HTQ.out.1]; have HM11 := hid (HMx.out.kept hb11); have HN11 := hid (HNx.out.kept hb11); have HC11 := hid ((hb11.block _ (lt_of_block HCx.out)).trans HCx.out); have HB11 := hid (HBx.out.trans (hb11.mono HBx.out.size)); have T2 := hid (told_any (c := 3) (s := s) HN11.out (by decide) (by have := HZ.out.2.2.1 3; omega)); clear hb11))
            clear e0 e1 e2
            obtain ⟨e0, e1, e2⟩ := three_cells9 HC11.out
            go_upto_region 20 with (first | (go_at_call 20; refine T2.out.mono ?_; rintro en w12 ⟨o12, rfl, -, hb12⟩; rw [← HTQ.out.2]; have HM12 := hid (HM11.out.kept hb12); have HN12 := hid (HN11.out.kept hb12); have HB12 := hid (HB11.out.trans (hb12.mono HB11.out.size)); clear hb12))
            clear e0 e1 e2
            have htt : (tq != tq) = false := by simp
            go_wp2_with fail
            go_roundw
            case rel => exact ⟨k + 1, m1 + 1 + 1, m2 + 1, _, _, G1, G2, _, _, by omega, by omega, by omega, by omega, by have := HZ.out.2.2.2.1; have := HA6.out.2.2; omega, by have := HZ.out.2.2.2.2; omega, by go_num, HZ.out.2.1, HZ.out.2.2.1, HZ.out.1, HM12.out, HN12.out, HV10.out, HB12.out⟩
            case measure => simp [intOf]; omega
          · have hpl : P.length = ll.length + 2 := by rw [hp0]; exact ansL_len _ _
            have hql : Q.length = ll.length + 2 := by rw [hq0]; exact ansL_len _ _
            by_cases hl0 : ll.length = 0
            · rw [hpl, hql, hl0]
              go_upto_region 16 with fail
              go_region
              have hWx : Below w10.heap.size w10 w10.drew := ⟨rfl, rfl, rfl, Nat.le_refl _, fun _ _ => rfl⟩
              have HMx := hid (HM10.out.kept hWx)
              have HNx := hid (HN10.out.kept hWx)
              have HCx : Hid (w10.drew.heap[Bc]? = some (.cells #[.int .u64 3, .int .u64 (s : Int), .slice da db.length dk] 37 (0, 0))) := HC10
              have HBx := hid (HB10.out.trans (hWx.mono HB10.out.size))
              clear hWx
              generalize w10.drew = wx at *
              obtain ⟨e0, e1, e2⟩ := three_cells9 HCx.out
              have T1 := hid (told_any (c := 3) (s := s) HMx.out (by decide) (by have := HZ.out.2.1 3; omega))
              go_upto_region 19 with (first | (go_at_call 20; refine T1.out.mono ?_; rintro en w11 ⟨o11, rfl, -, hb11⟩; rw [← HTQ.out.1]; have HM11 := hid (HMx.out.kept hb11); have HN11 := hid (HNx.out.kept hb11); have HC11 := hid ((hb11.block _ (lt_of_block HCx.out)).trans HCx.out); have HB11 := hid (HBx.out.trans (hb11.mono HBx.out.size)); have T2 := hid (told_any (c := 3) (s := s) HN11.out (by decide) (by have := HZ.out.2.2.1 3; omega)); clear hb11))
              clear e0 e1 e2
              obtain ⟨e0, e1, e2⟩ := three_cells9 HC11.out
              go_upto_region 20 with (first | (go_at_call 20; refine T2.out.mono ?_; rintro en w12 ⟨o12, rfl, -, hb12⟩; rw [← HTQ.out.2]; have HM12 := hid (HM11.out.kept hb12); have HN12 := hid (HN11.out.kept hb12); have HB12 := hid (HB11.out.trans (hb12.mono HB11.out.size)); clear hb12))
              clear e0 e1 e2
              have htt : (tq != tq) = false := by simp
              go_wp2_with fail
              go_roundw
              case rel => exact ⟨k + 1, m1 + 1 + 1, m2 + 1, _, _, G1, G2, _, _, by omega, by omega, by omega, by omega, by have := HZ.out.2.2.2.1; have := HA6.out.2.2; omega, by have := HZ.out.2.2.2.2; omega, by go_num, HZ.out.2.1, HZ.out.2.2.1, HZ.out.1, HM12.out, HN12.out, HV10.out, HB12.out⟩
              case measure => simp [intOf]; omega
            · have hgt : (2 : Int) < (ll.length : Int) + 2 := by omega
              obtain ⟨pa2, pc2, ps, pr, -⟩ := HP10.out.cut (P := Try.prog) 35 5 Try.underlying35 (by kernel_rfl) 2 (by omega)
              have hpd : P.drop 2 = ll.reverse := by rw [hp0]; rfl
              have hpe : P.length - 2 = ll.length := by omega
              rw [hpd, hpe] at pr
              rw [hpe, hpl] at ps
              obtain ⟨qa2, qc2, qs, qr, -⟩ := HQ10.out.cut (P := Try.prog) 35 5 Try.underlying35 (by kernel_rfl) 2 (by omega)
              have hqd : Q.drop 2 = ll.reverse := by rw [hq0]; rfl
              have hqe : Q.length - 2 = ll.length := by omega
              rw [hqd, hqe] at qr
              rw [hqe, hql] at qs
              have CB := hid (bytes_any _ _ _ _ w10.drew (pr.old ⟨rfl, rfl, rfl, Nat.le_refl _, fun _ _ => rfl⟩) (qr.old ⟨rfl, rfl, rfl, Nat.le_refl _, fun _ _ => rfl⟩))
              rw [hpl] at hPc; rw [hql] at hQc
              rw [hpl, hql]
              clear pr qr hpd hqd hpe hqe hp0 hq0
              go_upto_region 16 with fail
              refine wp_region_noPanic ?_
              refine wp_region_held_drew (S := fun _ => Hid True) (by kernel_rfl) (hid trivial) (fun hHeld => ?_)
              refine wpAnyH_take (i := 0) (v := (.slice pa (ll.length + 2) pc)) rfl (by kernel_rfl) (by kernel_rfl) (by kernel_rfl) (fun _ _ _ h => (show False from h).elim) ?xyPB7 ?xhPB7 ?xrPB7
              case xhPB7 => exact hHeld
              case xyPB7 => exact Or.inl ⟨by rfl, fun W9 hW => by clear hHeld; simp only [List.getElem_toArray, List.getElem_cons_succ, List.getElem_cons_zero]; go_simp⟩
              simp only [Act.put, List.getElem_toArray, List.getElem_cons_succ, List.getElem_cons_zero, List.setIfInBounds_toArray, List.set_cons_succ, List.set_cons_zero]
              refine wpAnyH_take (i := 1) (v := (.int .i64 ((ll.length : Int) + 2))) rfl (by kernel_rfl) (by kernel_rfl) (by kernel_rfl) (fun _ _ _ h => (show False from h).elim) ?xyPB8 ?xhPB8 ?xrPB8
              case xhPB8 => exact hHeld
              case xyPB8 => exact Or.inl ⟨by rfl, fun W9 hW => by clear hHeld; simp only [List.getElem_toArray, List.getElem_cons_succ, List.getElem_cons_zero]; go_simp⟩
              simp only [Act.put, List.getElem_toArray, List.getElem_cons_succ, List.getElem_cons_zero, List.setIfInBounds_toArray, List.set_cons_succ, List.set_cons_zero]
              refine wpAnyH_take (i := 2) (v := (.slice qa (ll.length + 2) qc)) rfl (by kernel_rfl) (by kernel_rfl) (by kernel_rfl) (fun _ _ _ h => (show False from h).elim) ?xyPB9 ?xhPB9 ?xrPB9
              case xhPB9 => exact hHeld
              case xyPB9 => exact Or.inl ⟨by rfl, fun W9 hW => by clear hHeld; simp only [List.getElem_toArray, List.getElem_cons_succ, List.getElem_cons_zero]; go_simp⟩
              simp only [Act.put, List.getElem_toArray, List.getElem_cons_succ, List.getElem_cons_zero, List.setIfInBounds_toArray, List.set_cons_succ, List.set_cons_zero]
              refine wpAnyH_take (i := 3) (v := (.int .i64 ((ll.length : Int) + 2))) rfl (by kernel_rfl) (by kernel_rfl) (by kernel_rfl) (fun _ _ _ h => (show False from h).elim) ?xyPB10 ?xhPB10 ?xrPB10
              case xhPB10 => exact hHeld
              case xyPB10 => exact Or.inl ⟨by rfl, fun W9 hW => by clear hHeld; simp only [List.getElem_toArray, List.getElem_cons_succ, List.getElem_cons_zero]; go_simp⟩
              simp only [Act.put, List.getElem_toArray, List.getElem_cons_succ, List.getElem_cons_zero, List.setIfInBounds_toArray, List.set_cons_succ, List.set_cons_zero]
              refine wpAnyH_take (i := 4) (v := (.bool false)) rfl (by kernel_rfl) (by kernel_rfl) (by kernel_rfl) (fun _ _ _ h => (show False from h).elim) ?xyPB11 ?xhPB11 ?xrPB11
              case xhPB11 => exact hHeld
              case xyPB11 => exact Or.inl ⟨by rfl, fun W9 hW => by clear hHeld; simp only [List.getElem_toArray, List.getElem_cons_succ, List.getElem_cons_zero]; go_simp⟩
              simp only [Act.put, List.getElem_toArray, List.getElem_cons_succ, List.getElem_cons_zero, List.setIfInBounds_toArray, List.set_cons_succ, List.set_cons_zero]
              refine wpAnyH_take (i := 5) (v := (.bool false)) rfl (by kernel_rfl) (by kernel_rfl) (by kernel_rfl) (fun _ _ _ h => (show False from h).elim) ?xyPB12 ?xhPB12 ?xrPB12
              case xhPB12 => exact hHeld
              case xyPB12 => exact Or.inl ⟨by rfl, fun W9 hW => by clear hHeld; simp only [List.getElem_toArray, List.getElem_cons_succ, List.getElem_cons_zero]; go_simp⟩
              simp only [Act.put, List.getElem_toArray, List.getElem_cons_succ, List.getElem_cons_zero, List.setIfInBounds_toArray, List.set_cons_succ, List.set_cons_zero]
              refine wpAnyH_take (i := 6) (v := (.slice pa (ll.length + 2) pc)) rfl (by kernel_rfl) (by kernel_rfl) (by kernel_rfl) (fun _ _ _ h => (show False from h).elim) ?xyPB13 ?xhPB13 ?xrPB13
              case xhPB13 => exact hHeld
              case xyPB13 => exact Or.inl ⟨by rfl, fun W9 hW => by clear hHeld; simp only [List.getElem_toArray, List.getElem_cons_succ, List.getElem_cons_zero]; go_simp⟩
              simp only [Act.put, List.getElem_toArray, List.getElem_cons_succ, List.getElem_cons_zero, List.setIfInBounds_toArray, List.set_cons_succ, List.set_cons_zero]
              refine wpAnyH_take (i := 7) (v := (.int .i64 ((ll.length : Int) + 2))) rfl (by kernel_rfl) (by kernel_rfl) (by kernel_rfl) (fun _ _ _ h => (show False from h).elim) ?xyPB14 ?xhPB14 ?xrPB14
              case xhPB14 => exact hHeld
              case xyPB14 => exact Or.inl ⟨by rfl, fun W9 hW => by clear hHeld; simp only [List.getElem_toArray, List.getElem_cons_succ, List.getElem_cons_zero]; go_simp⟩
              simp only [Act.put, List.getElem_toArray, List.getElem_cons_succ, List.getElem_cons_zero, List.setIfInBounds_toArray, List.set_cons_succ, List.set_cons_zero]
              refine wpAnyH_take (i := 8) (v := (.bool true)) rfl (by kernel_rfl) (by kernel_rfl) (by kernel_rfl) (fun _ _ _ h => (show False from h).elim) ?xyPB15 ?xhPB15 ?xrPB15
              case xhPB15 => exact hHeld
              case xyPB15 => exact Or.inl ⟨by rfl, fun W9 hW => by clear hHeld; simp only [List.getElem_toArray, List.getElem_cons_succ, List.getElem_cons_zero]; go_simp⟩
              simp only [Act.put, List.getElem_toArray, List.getElem_cons_succ, List.getElem_cons_zero, List.setIfInBounds_toArray, List.set_cons_succ, List.set_cons_zero]
              refine wpAnyH_take (i := 9) (v := (.bool true)) rfl (by kernel_rfl) (by kernel_rfl) (by kernel_rfl) (fun _ _ _ h => (show False from h).elim) ?xyPB16 ?xhPB16 ?xrPB16
              case xhPB16 => exact hHeld
              case xyPB16 => exact Or.inl ⟨by rfl, fun W9 hW => by clear hHeld; simp only [List.getElem_toArray, List.getElem_cons_succ, List.getElem_cons_zero]; go_simp⟩
              simp only [Act.put, List.getElem_toArray, List.getElem_cons_succ, List.getElem_cons_zero, List.setIfInBounds_toArray, List.set_cons_succ, List.set_cons_zero]
              refine wpAnyH_take (i := 10) (v := (.slice pa (ll.length + 2) pc)) rfl (by kernel_rfl) (by kernel_rfl) (by kernel_rfl) (fun _ _ _ h => (show False from h).elim) ?xyPB17 ?xhPB17 ?xrPB17
              case xhPB17 => exact hHeld
              case xyPB17 => exact Or.inl ⟨by rfl, fun W9 hW => by clear hHeld; simp only [List.getElem_toArray, List.getElem_cons_succ, List.getElem_cons_zero]; go_simp⟩
              simp only [Act.put, List.getElem_toArray, List.getElem_cons_succ, List.getElem_cons_zero, List.setIfInBounds_toArray, List.set_cons_succ, List.set_cons_zero]
              refine wpAnyH_take (i := 11) (v := (.slice pa2 ll.length pc2)) rfl (by kernel_rfl) (by kernel_rfl) (by kernel_rfl) (fun _ _ _ h => (show False from h).elim) ?xyPB18 ?xhPB18 ?xrPB18
              case xhPB18 => exact hHeld
              case xyPB18 => exact Or.inl ⟨by rfl, fun W9 hW => by have ps2 : (Instr.slice 35 (.slice pa (ll.length + 2) pc) (some (.int .i64 2)) none none).run Try.prog W9 = .ok (.slice pa2 ll.length pc2) W9 := ps W9; clear hHeld; simp only [List.getElem_toArray, List.getElem_cons_succ, List.getElem_cons_zero]; go_simp⟩
              simp only [Act.put, List.getElem_toArray, List.getElem_cons_succ, List.getElem_cons_zero, List.setIfInBounds_toArray, List.set_cons_succ, List.set_cons_zero]
              refine wpAnyH_take (i := 12) (v := (.slice qa (ll.length + 2) qc)) rfl (by kernel_rfl) (by kernel_rfl) (by kernel_rfl) (fun _ _ _ h => (show False from h).elim) ?xyPB19 ?xhPB19 ?xrPB19
              case xhPB19 => exact hHeld
              case xyPB19 => exact Or.inl ⟨by rfl, fun W9 hW => by clear hHeld; simp only [List.getElem_toArray, List.getElem_cons_succ, List.getElem_cons_zero]; go_simp⟩
              simp only [Act.put, List.getElem_toArray, List.getElem_cons_succ, List.getElem_cons_zero, List.setIfInBounds_toArray, List.set_cons_succ, List.set_cons_zero]
              refine wpAnyH_take (i := 13) (v := (.slice qa2 ll.length qc2)) rfl (by kernel_rfl) (by kernel_rfl) (by kernel_rfl) (fun _ _ _ h => (show False from h).elim) ?xyPB20 ?xhPB20 ?xrPB20
              case xhPB20 => exact hHeld
              case xyPB20 => exact Or.inl ⟨by rfl, fun W9 hW => by have qs2 : (Instr.slice 35 (.slice qa (ll.length + 2) qc) (some (.int .i64 2)) none none).run Try.prog W9 = .ok (.slice qa2 ll.length qc2) W9 := qs W9; clear hHeld; simp only [List.getElem_toArray, List.getElem_cons_succ, List.getElem_cons_zero]; go_simp⟩
              simp only [Act.put, List.getElem_toArray, List.getElem_cons_succ, List.getElem_cons_zero, List.setIfInBounds_toArray, List.set_cons_succ, List.set_cons_zero]
              refine wpAnyH_ready (rs := [14]) (by kernel_rfl) (by simp) ?_
              refine AllReadyH.cons rfl (fun K hK => ?_) AllReadyH.nil
              go_simp
              go_wp2_with (first | (go_at_call 12; refine CB.out.mono ?_; rintro en wb ⟨rfl, rfl⟩; rw [beq_self_eq_true]))
              refine hK.out _ _ (hid trivial) (fun hHeld => ?_)
              clear hK K
              refine wpAnyH_take (i := 15) (v := (.bool false)) rfl (by kernel_rfl) (by kernel_rfl) (by kernel_rfl) (fun _ _ _ h => (show False from h).elim) ?xyPB21 ?xhPB21 ?xrPB21
              case xhPB21 => exact hHeld
              case xyPB21 => exact Or.inl ⟨by rfl, fun W9 hW => by clear hHeld; simp only [List.getElem_toArray, List.getElem_cons_succ, List.getElem_cons_zero]; go_simp⟩
              simp only [Act.put, List.getElem_toArray, List.getElem_cons_succ, List.getElem_cons_zero, List.setIfInBounds_toArray, List.set_cons_succ, List.set_cons_zero]
              refine wpAnyH_take (i := 16) (v := (.bool false)) rfl (by kernel_rfl) (by kernel_rfl) (by kernel_rfl) (fun _ _ _ h => (show False from h).elim) ?xyPB22 ?xhPB22 ?xrPB22
              case xhPB22 => exact hHeld
              case xyPB22 => exact Or.inl ⟨by rfl, fun W9 hW => by clear hHeld; simp only [List.getElem_toArray, List.getElem_cons_succ, List.getElem_cons_zero]; go_simp⟩
              simp only [Act.put, List.getElem_toArray, List.getElem_cons_succ, List.getElem_cons_zero, List.setIfInBounds_toArray, List.set_cons_succ, List.set_cons_zero]
              refine wpAnyH_take (i := 17) (v := (.bool false)) rfl (by kernel_rfl) (by kernel_rfl) (by kernel_rfl) (fun _ _ _ h => (show False from h).elim) ?xyPB23 ?xhPB23 ?xrPB23
              case xhPB23 => exact hHeld
              case xyPB23 => exact Or.inl ⟨by rfl, fun W9 hW => by clear hHeld; simp only [List.getElem_toArray, List.getElem_cons_succ, List.getElem_cons_zero]; go_simp⟩
              simp only [Act.put, List.getElem_toArray, List.getElem_cons_succ, List.getElem_cons_zero, List.setIfInBounds_toArray, List.set_cons_succ, List.set_cons_zero]
              refine wpAnyH_done (by kernel_rfl) ?_ _
              refine NoPanic.normal ?_
              clear ps qs
              have hWx : Below w10.heap.size w10 w10.drew := ⟨rfl, rfl, rfl, Nat.le_refl _, fun _ _ => rfl⟩
              have HMx := hid (HM10.out.kept hWx)
              have HNx := hid (HN10.out.kept hWx)
              have HCx : Hid (w10.drew.heap[Bc]? = some (.cells #[.int .u64 3, .int .u64 (s : Int), .slice da db.length dk] 37 (0, 0))) := HC10
              have HBx := hid (HB10.out.trans (hWx.mono HB10.out.size))
              clear hWx
              generalize w10.drew = wx at *
              obtain ⟨e0, e1, e2⟩ := three_cells9 HCx.out
              have T1 := hid (told_any (c := 3) (s := s) HMx.out (by decide) (by have := HZ.out.2.1 3; omega))
              go_upto_region 19 with (first | (go_at_call 20; refine T1.out.mono ?_; rintro en w11 ⟨o11, rfl, -, hb11⟩; rw [← HTQ.out.1]; have HM11 := hid (HMx.out.kept hb11); have HN11 := hid (HNx.out.kept hb11); have HC11 := hid ((hb11.block _ (lt_of_block HCx.out)).trans HCx.out); have HB11 := hid (HBx.out.trans (hb11.mono HBx.out.size)); have T2 := hid (told_any (c := 3) (s := s) HN11.out (by decide) (by have := HZ.out.2.2.1 3; omega)); clear hb11))
              clear e0 e1 e2
              obtain ⟨e0, e1, e2⟩ := three_cells9 HC11.out
              go_upto_region 20 with (first | (go_at_call 20; refine T2.out.mono ?_; rintro en w12 ⟨o12, rfl, -, hb12⟩; rw [← HTQ.out.2]; have HM12 := hid (HM11.out.kept hb12); have HN12 := hid (HN11.out.kept hb12); have HB12 := hid (HB11.out.trans (hb12.mono HB11.out.size)); clear hb12))
              clear e0 e1 e2
              have htt : (tq != tq) = false := by simp
              go_wp2_with fail
              go_roundw
              case rel => exact ⟨k + 1, m1 + 1 + 1, m2 + 1, _, _, G1, G2, _, _, by omega, by omega, by omega, by omega, by have := HZ.out.2.2.2.1; have := HA6.out.2.2; omega, by have := HZ.out.2.2.2.2; omega, by go_num, HZ.out.2.1, HZ.out.2.2.1, HZ.out.1, HM12.out, HN12.out, HV10.out, HB12.out⟩
              case measure => simp [intOf]; omega
      · obtain rfl : k = 20 := by omega
        go_wp2_with fail
        go_ret
        exact ⟨rfl, HBr.out⟩
    · have hki : ¬ (k : Int) < (n0 : Int) := by omega
      go_wp2_with fail
      go_ret
      exact ⟨rfl, HBr.out⟩
end dedupApart
end Go.Proofs.Ytnjmhlmimpdahaa

namespace Go.Proofs.Ytnjmhlmimpdahaa.dedupApart
open Go.ChangeShapes Go.WideShapes Go.ChangeAt Go.RowKit
open Go.ChangeMaps (open_string shut_string)
set_option linter.unusedVariables false

theorem own : ownKnob Try.prog.godebug = none := by kernel_rfl
theorem laidOut : laidOutB Try.prog = true := by kernel_rfl

set_option maxRecDepth 100000 in
theorem contract (H : Type) (enc : TypeId × Value → H) (W : World) (base : Nat) (args : Array Value) (ds gs : List (DataW H)) (before : List MemPlace)
    (hval0 : ∀ (j : Nat) t v, Try.f7.params[j]? = some t → args[j]? = some v → Value.okWide Try.prog W .any base t v)
    (hW : DataW.Whole enc Try.prog Try.f7.params.toList Rows.dedupApartSpec.vars false W args.toList ds gs before)
    (hsz0 : (DataW.weightsEach Try.prog (Try.f7.params.toList ++ Rows.dedupApartSpec.plain.varTypes Try.prog) (ds ++ gs)).all (· ≤ reachBytes) = true) :
    Calls Try.prog 7 args W fun e W' => ∃ v, e = .returned v ∧ Rows.dedupApartSpec.post enc Try.prog Try.f7 false true false false W args v W' := by
  have hval : ∀ (j : Nat) t v, Try.f7.params[j]? = some t → args[j]? = some v → Value.okWide Try.prog W .any base t v := hval0
  have hW' := hW
  obtain ⟨p, q, hA0, hV, rfl, hfz, hnd⟩ := hW
  have hA : DataW.TrodAll enc Try.prog W 0 (fun _ => true) true Try.f7.params.toList args.toList ds p := hA0
  have hsz : (DataW.weightsEach Try.prog (Try.f7.params.toList ++ Rows.dedupApartSpec.plain.varTypes Try.prog) (ds ++ gs)).all (· ≤ reachBytes) = true := hsz0
  rw [Try.params7] at hA hval hsz
  obtain ⟨v0, vs0, d0, ds0, p0, q0, hargs, rfl, rfl, h0, r0⟩ := trodAll_cons hA
  obtain ⟨v1, vs1, d1, ds1, p1, q1, rfl, rfl, rfl, h1, r1⟩ := trodAll_cons r0
  obtain ⟨rfl, rfl, rfl⟩ := trodAll_nil r1
  obtain rfl : args = #[v0, v1] := by cases args; simp_all
  obtain ⟨rfl, rfl⟩ := trodVars_none hV
  have k0 := h0
  have lt0 : ∀ x ∈ p0, x.block < W.heap.size := by obtain ⟨m, hm⟩ := k0; exact DataW.trod_lt m _ _ _ hm
  have k1 := h1
  have lt1 : ∀ x ∈ p1, x.block < W.heap.size := by obtain ⟨m, hm⟩ := k1; exact DataW.trod_lt m _ _ _ hm
  clear hA0 hval0 hsz0
  refine (walk v0 v1 W (hval 0 54 v0 rfl rfl) h0 (hval 1 54 v1 rfl rfl) h1).mono fun e W' ⟨he, bel⟩ => ?_
  subst he
  exact ⟨_, rfl, _, _, _, [], _, [], hW', trodAll_mk1 (shut_bool Try.underlying4 _), (trodAll_cons_mk (Below.trod laidOut (by kernel_rfl) (of_decide_eq_true (by kernel_rfl)) k0 bel lt0) (trodAll_cons_mk (Below.trod laidOut (by kernel_rfl) (of_decide_eq_true (by kernel_rfl)) k1 bel lt1) trodAll_mk0)), rfl, bel.frame _, fun h => by cases h⟩

set_option maxRecDepth 100000 in
theorem lifted (os : Os) (started : os.Started) (H : Type) (enc : TypeId × Value → H) :
    ReturnsInHanded {} Try.checked os 7 .any (Rows.dedupApartSpec.pre6 enc Try.prog Try.f7 Rows.dedupApartRow.domain false) (Rows.dedupApartSpec.post enc Try.prog Try.f7 false true false false) := by
  refine returnsInHanded_of_change_sized (C := Try.checked) own started (by kernel_rfl) Try.func7
    (ChangeSpec.witness6 (enc := enc) (C := Try.checked) false ⟨#[], #[.slice none 0 0, .slice none 0 0], []⟩ 8 (by kernel_rfl) (by kernel_rfl) (by kernel_rfl) (by kernel_rfl)) ?_
  intro W base args ds gs before hval0 hW _ hsz _
  exact contract H enc W base args ds gs before hval0 hW hsz

theorem over : Rows.dedupApartRow.holds Try.pinned (OpenSpec.ofChange Rows.dedupApartSpec) :=
  OpenClaim.holds_of_wide 7 Try.f7 rfl rfl rfl rfl rfl rfl rfl ⟨rfl, rfl, rfl, rfl, rfl⟩ rfl rfl rfl rfl rfl (by kernel_rfl) Try.func7 (by kernel_rfl)
    (of_decide_eq_true (by kernel_rfl)) (by unfold Func.isWrapper; first | (rw [if_pos (by decide +kernel)]; kernel_rfl) | (rw [if_neg (by decide +kernel)]; exact ⟨rfl, rfl⟩))
    (fun os started H enc _ => lifted os started H enc)

/-- THE STATEMENT. -/
theorem proved : Rows.DedupApartSaid := over
end Go.Proofs.Ytnjmhlmimpdahaa.dedupApart

