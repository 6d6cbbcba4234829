/-
  WAL: lay.
-/
import Derived.Test.YtcbbklbjfknnlaaDoorWg
import Derived.Deep.RegionHeld3
import Derived.BigRegion
set_option linter.unusedVariables false
set_option maxRecDepth 100000
namespace Go.Proofs.YtcbbklbjfknnlaaDoor
open Go.RowKit

/-- Sectors of the first m records. -/
def gones (R : List Rc) (m : Nat) : Nat := ((R.take m).map fun r => secs r.b.length).sum
theorem gones_next {R : List Rc} {m : Nat} {r : Rc} (h : R[m]? = some r) : gones R (m + 1) = gones R m + secs r.b.length := by
  unfold gones
  rw [List.take_add_one, h]
  simp
def nextH (n : Nat) (L : Ls) (R : List Rc) (m : Nat) : Hd := ⟨L.h.tn + 1, L.h.fi + m, (L.h.fr + gones R m) % (n - 2), L.used - gones R m⟩

/-- The last stores of 'lay'. -/
def layW (w : World) (lb : Nat) (nh : Hd) (vt : Value) (u : Nat) : World :=
  ((((((w.setCell ⟨lb, 1, none⟩ (.int .u64 (nh.tn : Int))).setCell ⟨lb, 2, none⟩ (.int .u64 (nh.fi : Int))).setCell ⟨lb, 3, none⟩ (.int .i64 (nh.fr : Int))).setCell ⟨lb, 4, none⟩ (.int .i64 (nh.su : Int))).setCell ⟨lb, 5, none⟩ vt).setCell ⟨lb, 6, none⟩ (.int .i64 (u : Int))).setCell ⟨lb, 7, none⟩ (.bool true)
theorem layW_lk {w : World} {lb db : Nat} {rv : Value} {L : Ls} (h : Lk w lb db rv L) (nh : Hd) (vt : Value) (u : Nat) : Lk (layW w lb nh vt u) lb db vt { h := nh, used := u, ours := true, waits := L.waits, down := L.down } := by
  unfold Lk at h
  have h1 := set_at (k := 1) (.int .u64 (nh.tn : Int)) h
  simp only [List.setIfInBounds_toArray, List.set_cons_succ, List.set_cons_zero] at h1
  have h2 := set_at (k := 2) (.int .u64 (nh.fi : Int)) h1
  simp only [List.setIfInBounds_toArray, List.set_cons_succ, List.set_cons_zero] at h2
  have h3 := set_at (k := 3) (.int .i64 (nh.fr : Int)) h2
  simp only [List.setIfInBounds_toArray, List.set_cons_succ, List.set_cons_zero] at h3
  have h4 := set_at (k := 4) (.int .i64 (nh.su : Int)) h3
  simp only [List.setIfInBounds_toArray, List.set_cons_succ, List.set_cons_zero] at h4
  have h5 := set_at (k := 5) vt h4
  simp only [List.setIfInBounds_toArray, List.set_cons_succ, List.set_cons_zero] at h5
  have h6 := set_at (k := 6) (.int .i64 (u : Int)) h5
  simp only [List.setIfInBounds_toArray, List.set_cons_succ, List.set_cons_zero] at h6
  have h7 := set_at (k := 7) (.bool true) h6
  simp only [List.setIfInBounds_toArray, List.set_cons_succ, List.set_cons_zero] at h7
  exact h7
theorem layW_keep {X : Nat → Prop} {w0 w : World} {lb : Nat} (h : Keep X w0 w) (hx : X lb) (nh : Hd) (vt : Value) (u : Nat) : Keep X w0 (layW w lb nh vt u) :=
  (((((((h.trans (Keep.set w _ _ hx)).trans (Keep.set _ _ _ hx)).trans (Keep.set _ _ _ hx)).trans (Keep.set _ _ _ hx)).trans (Keep.set _ _ _ hx)).trans (Keep.set _ _ _ hx)).trans (Keep.set _ _ _ hx))
theorem lay_end {base : Nat} {w6 w7 : World} {lb db sb n : Nat} {vw rv vt : Value} {S : List (List UInt8)} {Q : List Wr} {L : Ls} {R : List Rc} {j : Nat} (h : Lg base w6 lb db sb n vw rv S Q L R) (hr : Rof w7 vt (R.drop j)) (hk : Keep (fun k => blk rv = some k) w6 w7) (hv : ∀ k, blk vt = some k → blk rv = some k) (nh : Hd) (u : Nat) :
    Lg base (layW w7 lb nh vt u) lb db sb n vw vt S Q { h := nh, used := u, ours := true, waits := L.waits, down := L.down } (R.drop j) ∧ Gfr db sb lb vw vw rv vt w6 (layW w7 lb nh vt u) := by
  have hl7 : Lk w7 lb db rv L := h.l.kept hk (fun e => h.roff lb e (.inl rfl))
  have hkX : Keep (fun k => k = lb ∨ blk rv = some k) w6 (layW w7 lb nh vt u) := layW_keep (hk.mono (fun _ _ e => .inr e)) (.inl rfl) nh vt u
  have hkL : Keep (fun k => k = lb) w7 (layW w7 lb nh vt u) := layW_keep (X := fun k => k = lb) (Keep.refl _ _) rfl nh vt u
  refine ⟨⟨h.d.kept hkX (fun k hk e => ?_), layW_lk hl7 nh vt u, h.nlb, hr.kept hkL (fun k hk e => h.roff k (hv k hk) (.inl e)) (fun r hm hne a ha e => ?_), fun k hk e => h.roff k (hv k hk) e, fun r hm hne a ha e => ?_, ⟨h.lo.1, fun k hk => h.lo.2 k (hv k hk)⟩⟩, hkX.mono (fun k _ e => ?_), fun k hk => .inl ?_⟩
  · rcases e with e | e
    · exact h.nlb (by rw [← e]; exact hk)
    · exact h.roff k e (.inr hk)
  · exact h.boff r (List.mem_of_mem_drop hm) hne a ha (.inl (.inl e))
  · refine h.boff r (List.mem_of_mem_drop hm) hne a ha ?_
    rcases e with e | e
    · exact .inl e
    · exact .inr (hv _ e)
  · rcases e with e | e
    · exact .inl (.inl e)
    · exact .inr e
  · rcases hk with e | e
    · exact .inl e
    · exact .inr (hv _ e)

section
variable {base : Nat} {w w' : World} {lb db sb n : Nat} {vw rv vw' rv' : Value} {S S' : List (List UInt8)} {Q Q' : List Wr} {L L' : Ls} {R R' : List Rc}

set_option maxHeartbeats 16000000 in
theorem lay_ok (h : Lg base w lb db sb n vw rv S Q L R) (m : Nat) (hm : m ≤ R.length) (hR9 : R.length ≤ 1000000) (hn : 3 ≤ n) (hg : gones R m ≤ L.used) (hu : L.used ≤ n - 2) (hk : L.h.Ok) (ht : L.h.tn + 1 < 18446744073709551616) (hf : L.h.fi + m < 18446744073709551616) (hrl : ∀ r ∈ R, r.b.length ≤ 32768) (hgm : ∀ j, j ≤ m → gones R j ≤ 65536) :
    Calls Tryd.prog 42 #[.pointer (some ⟨lb, 0, none⟩), .int .i64 (m : Int)] w (fun e w' => e = .returned .nilIface ∧ ∃ vw' rv', Lg base w' lb db sb n vw' rv' (S.set ((L.h.tn + 1) % 2) (hSec (nextH n L R m))) [] { h := nextH n L R m, used := L.used - gones R m, ours := true, waits := 0, down := L.down } (R.drop m) ∧ Gfr db sb lb vw vw' rv rv' w w') := by
  have CF := hid (lflush_ok h.l h.d h.nlb)
  have H := hid h
  clear h
  go_enter Tryd.func42, Tryd.ntmps42
  go_wp2_with (first | (go_at_call 48; refine CF.out.mono ?_))
  rintro e w2 ⟨rfl, vw2, hD2, hL2, hn2, hF2⟩
  obtain ⟨hG2, hfr2⟩ := H.out.lfr hD2 hL2 hn2 hF2
  obtain ⟨ao, c, vt, w9, ⟨hrv, hmc⟩, hs1, -, hs2, -⟩ := hG2.r.cut m hm (fun r hr hne a ha e => hG2.boff r hr hne a ha (.inr e))
  subst hrv
  have hs1' := fun W => hs1 .i64 W
  have hlen := fun W => run_len_slice (P := Tryd.prog) W 22 3 ao m c Tryd.underlying22
  obtain ⟨c0, c1, c2, c3, c4, c5, c6, c7, c8, c9⟩ := hL2.cells
  have HG2 := hid hG2
  have HFR2 := hid hfr2
  clear hD2 hL2 hn2 hF2 hG2 hfr2 hs2 hs1
  go_wp2_with fail
  go_loop [6, 24] (fun g i => ∃ j : Nat, j ≤ m ∧ i = .int .i64 (j : Int) ∧ g = .int .i64 (gones R j : Int)) (fun _ i => m - (intOf i).toNat)
  case atStart => exact ⟨0, by omega, rfl, rfl⟩
  case round =>
    obtain ⟨j, hj, rfl, rfl⟩ := hrel
    by_cases hlt : j < m
    · have hv := List.getElem?_eq_getElem (show j < R.length by omega)
      generalize R[j]'_ = r at *
      obtain ⟨g, o, rfl, hc⟩ := HG2.out.r.get hv
      have hrl9 := hrl r (List.mem_of_getElem? hv)
      have CS := hid (fun W => sectors_any W r.a r.b.length r.c (by omega))
      have hgn := gones_next hv
      have hg9 := hgm (j + 1) (by omega)
      have hw : IntKind.i64.wrap ((gones R j : Int) + (secs r.b.length : Int)) = ((gones R (j + 1) : Nat) : Int) := by rw [hgn, IntKind.wrap_i64]; rw [hgn] at hg9; omega
      have hjI : (j : Int) < (m : Int) := by omega
      have hjc : (j : Int) < (c : Int) := by omega
      unfold rcv at hc
      clear hv hgn hg9 hrl9
      go_wp2_with (first | (go_at_call 27; refine (CS.out _).mono ?_; rintro e w5 ⟨rfl, rfl⟩))
      go_round
      case rel => exact ⟨j + 1, by omega, by go_num, rfl⟩
      case measure => first | (simp [intOf]; done) | (simp [intOf]; omega)
    · obtain rfl : j = m := by omega
      clear c0 c1 c2 c3 c4 c5 c6 c7 c8 c9
      obtain ⟨c0, c1, c2, c3, c4, c5, c6, c7, c8, c9⟩ := HG2.out.l.cells
      have CR0 : ∀ W, Below w2.heap.size w2 W → Calls Tryd.prog 28 #[.pointer (some ⟨lb, 0, none⟩)] W (fun e w' => e = .returned (.int .i64 ((n - 2 : Nat) : Int)) ∧ w' = W) := fun W hW => ring_any (HG2.out.l.old hW) (HG2.out.d.old hW)
      have HFA : Hid (∀ W, Below w2.heap.size w2 W → Hid (Below w2.heap.size w2 W) ∧ W.cell? ⟨lb, 1, none⟩ = some (.int .u64 (L.h.tn : Int)) ∧ W.cell? ⟨lb, 2, none⟩ = some (.int .u64 (L.h.fi : Int)) ∧ W.cell? ⟨lb, 3, none⟩ = some (.int .i64 (L.h.fr : Int)) ∧ W.cell? ⟨lb, 6, none⟩ = some (.int .i64 (L.used : Int))) := fun W hW => by
        obtain ⟨-, q1, q2, q3, -, -, q6, -⟩ := (HG2.out.l.old hW).cells
        exact ⟨hW, q1, q2, q3, q6⟩
      obtain ⟨rg, hrg⟩ : ∃ rg, rg = n - 2 := ⟨_, rfl⟩
      have hD9 := HG2.out.d.few.2.1
      have hfr := hk.fr
      have hgj := hgm j (Nat.le_refl _)
      have hw1 : IntKind.u64.wrap ((L.h.tn : Int) + 1) = ((L.h.tn + 1 : Nat) : Int) := by rw [wrap_u64]; omega
      have hw2 : IntKind.u64.wrap (j : Int) = (j : Int) := by rw [wrap_u64]; omega
      have hw3 : IntKind.u64.wrap ((L.h.fi : Int) + (j : Int)) = ((L.h.fi + j : Nat) : Int) := by rw [wrap_u64]; omega
      have hw4 : IntKind.i64.wrap ((L.h.fr : Int) + (gones R j : Int)) = ((L.h.fr + gones R j : Nat) : Int) := by rw [IntKind.wrap_i64]; omega
      have hw5 : (((L.h.fr + gones R j : Nat) : Int)).tmod (rg : Int) = (((L.h.fr + gones R j) % rg : Nat) : Int) := rfl
      have hlt9 : (L.h.fr + gones R j) % rg < rg := Nat.mod_lt _ (by omega)
      have hw6 : IntKind.i64.wrap (((L.h.fr + gones R j) % rg : Nat) : Int) = (((L.h.fr + gones R j) % rg : Nat) : Int) := by rw [IntKind.wrap_i64]; omega
      have hw7 : IntKind.i64.wrap ((L.used : Int) - (gones R j : Int)) = ((L.used - gones R j : Nat) : Int) := by rw [IntKind.wrap_i64]; omega
      have hrg0 : ¬ ((rg : Int) = 0) := by omega
      have hrgb : ((rg : Int) == 0) = false := by simp; omega
      have hrgz : ¬ rg = 0 := by omega
      have hw5' : ((L.h.fr : Int) + (gones R j : Int)).tmod (rg : Int) = (((L.h.fr + gones R j) % rg : Nat) : Int) := rfl
      have HRG := hid hrg
      rw [← hrg] at CR0
      have CR := hid CR0
      clear hrg hgj hfr hD9 hgm hrl CR0
      go_upto_region 10 with fail
      go_cut [9] from 33 to 63 (fun v wx => ∃ hb : Nat, v = .pointer (some ⟨hb, 0, none⟩) ∧ Hid (w2.heap.size ≤ hb) ∧ wx.heap[hb]? = some (.cells #[.int .u64 ((L.h.tn + 1 : Nat) : Int), .int .u64 ((L.h.fi + j : Nat) : Int), .int .i64 (((L.h.fr + gones R j) % rg : Nat) : Int), .int .i64 ((L.used - gones R j : Nat) : Int)] 55 (0, 0)) ∧ Hid (Below w2.heap.size w2 wx))
      case first =>
        go_region_held3 (fun W => Hid (Below w2.heap.size w2 W) ∧ W.cell? ⟨lb, 1, none⟩ = some (.int .u64 (L.h.tn : Int)) ∧ W.cell? ⟨lb, 2, none⟩ = some (.int .u64 (L.h.fi : Int)) ∧ W.cell? ⟨lb, 3, none⟩ = some (.int .i64 (L.h.fr : Int)) ∧ W.cell? ⟨lb, 6, none⟩ = some (.int .i64 (L.used : Int)))
          (first | (go_split_ands; first | exact HFA.out _ ((Below.refl _ _).drew) | assumption | exact HFA.out _ ((by assumption : Hid (Below _ _ _)).out.alloc (by assumption : Hid (Below _ _ _)).out.size _) | exact HFA.out _ (((Below.refl _ _).alloc (Nat.le_refl _) _).drew) | exact HFA.out _ (((Below.refl _ _).drew).alloc (Nat.le_refl _) _) | exact HFA.out _ (below_set4 (by assumption : Hid (Below _ _ _)).out (Nat.le_refl _) _ _ _ _)) | go_keep)
          (first | (go_at_call 28; go_split_ands; with_reducible refine (CR.out _ (by assumption : Hid (Below _ _ _)).out).mono ?_; intro e w3 hh3; obtain ⟨rfl, rfl⟩ := hh3))
        all_goals (go_wp2_with fail; go_meet)
        all_goals (refine ⟨w2.heap.size, rfl, Nat.le_refl _, ?_, ?_⟩ <;> first | (push_cast; exact heap_alloc_new _ _) | exact ((Below.refl _ _).alloc (Nat.le_refl _) _).drew | exact ((Below.refl _ _).drew).alloc (Nat.le_refl _) _ | exact (Below.refl _ _).alloc (Nat.le_refl _) _)
      case rest =>
        obtain ⟨hb, rfl, HB1, hb2, HB2⟩ := hcut
        obtain ⟨t, ht9⟩ : ∃ t, t = L.h.tn + 1 := ⟨_, rfl⟩
        obtain ⟨f, hf9⟩ : ∃ f, f = L.h.fi + j := ⟨_, rfl⟩
        obtain ⟨r, hr9⟩ : ∃ r, r = (L.h.fr + gones R j) % rg := ⟨_, rfl⟩
        obtain ⟨u, hu9⟩ : ∃ u, u = L.used - gones R j := ⟨_, rfl⟩
        obtain ⟨k, hk9⟩ : ∃ k, k = t % 2 := ⟨_, rfl⟩
        rw [← ht9, ← hf9, ← hr9, ← hu9] at hb2
        have hD9 := HG2.out.d.few
        have hnh : nextH n L R j = ⟨t, f, r, u⟩ := by unfold nextH; rw [ht9, hf9, hr9, hu9, HRG.out]
        have HNH := hid hnh
        have HUU := hid hu9
        have HKK : Hid ((L.h.tn + 1) % 2 = k) := by
          show (L.h.tn + 1) % 2 = k
          rw [hk9, ht9]
        have hok : (Hd.mk t f r u).Ok := by
          have := HRG.out
          exact ⟨by show t < _; omega, by show f < _; omega, by show r ≤ _; omega, by show u ≤ _; omega⟩
        have hsk : S[k]? = some (S[k]'(by omega)) := List.getElem?_eq_getElem _
        generalize S[k]'_ = s0 at hsk
        have HHB : Hid (¬ GL db sb vw2 lb (.slice ao R.length c) hb) := fun e => by
          have := (HG2.out.lt hb e).2
          have := HB1.out
          omega
        have HL := hid (HG2.out.old HB2.out)
        have HCC : Hid (∀ W, Keep (GL db sb vw2 lb (.slice ao R.length c)) wc W → W.heap[hb]? = some (.cells #[.int .u64 (t : Int), .int .u64 (f : Int), .int .i64 (r : Int), .int .i64 (u : Int)] 55 (0, 0))) := fun W hW => (hW.block hb (lt_of_block hb2) HHB.out).trans hb2
        have CS : Hid (∀ W, Below wc.heap.size wc W → Calls Tryd.prog 60 #[.agg #[.int .u64 (t : Int), .int .u64 (f : Int), .int .i64 (r : Int), .int .i64 (u : Int)]] W (fun e w' => ∃ xo xc, e = .returned (.slice xo 64 xc) ∧ Hid (Rd w' (.slice xo 64 xc) (hSec ⟨t, f, r, u⟩)) ∧ Hid (Below wc.heap.size wc w') ∧ w'.cell? ⟨hb, 0, none⟩ = some (.int .u64 (t : Int)) ∧ w'.cell? ⟨hb, 1, none⟩ = some (.int .u64 (f : Int)) ∧ w'.cell? ⟨hb, 2, none⟩ = some (.int .i64 (r : Int)) ∧ w'.cell? ⟨hb, 3, none⟩ = some (.int .i64 (u : Int)))) := fun W hW =>
          (hsector_any W ⟨t, f, r, u⟩ hok).mono (by
            rintro e w' ⟨x, rfl, hx, hb4⟩
            obtain ⟨xo, xc, rfl⟩ := own_form hx
            have hBB : Below wc.heap.size wc w' := hW.trans (hb4.mono hW.size)
            have hr := Rd.own hx
            rw [hSec_len] at hr ⊢
            have hq := HCC.out w' (Keep.of_below hBB)
            refine ⟨xo, xc, rfl, hr, hBB, ?_, ?_, ?_, ?_⟩ <;> simp [World.cell?, hq])
        have CW : Hid (∀ W xo xc, Below wc.heap.size wc W → Rd W (.slice xo 64 xc) (hSec ⟨t, f, r, u⟩) → Calls Tryd.prog 44 #[.pointer (some ⟨lb, 0, none⟩), .int .i64 (k : Int), .slice xo 64 xc] W (fun e w' => e = .returned .nilIface ∧ ∃ vw3, Hid (Lg base w' lb db sb n vw3 (.slice ao R.length c) (S.set k (hSec ⟨t, f, r, u⟩)) [⟨k, s0, hSec ⟨t, f, r, u⟩⟩] { h := L.h, used := L.used, ours := L.ours, waits := 1, down := L.down } R) ∧ Hid (Gfr db sb lb vw2 vw3 (.slice ao R.length c) (.slice ao R.length c) wc w'))) := fun W xo xc hW hx => by
          have hL := HL.out.old hW
          exact (lwrite_ok hL.l hL.d hL.nlb _ (hSec ⟨t, f, r, u⟩) k s0 hsk (by omega) hx (hSec_len _) (by simp)).mono (by
            rintro e w' ⟨rfl, vw3, q1, q2, q3, q4⟩
            obtain ⟨q5, q6⟩ := hL.lfr q1 q2 q3 q4
            exact ⟨rfl, vw3, q5, (Gfr.of_below hW).trans q6⟩)
        obtain ⟨p0, p1, p2, p3, -⟩ := four_cells hb2
        have hm1 : ((t : Int)).tmod 2 = (k : Int) := by rw [hk9]; rfl
        have hm2 : (t : Int) % 2 = (k : Int) := by rw [hk9]; rfl
        have hm3 : IntKind.u64.wrap (k : Int) = (k : Int) := by rw [wrap_u64]; omega
        have hm4 : IntKind.i64.wrap (k : Int) = (k : Int) := by rw [IntKind.wrap_i64]; omega
        clear HFA CR HRG c0 c1 c2 c3 c4 c5 c6 c7 c8 c9 hrgz hw5' hw1 hw2 hw3 hw4 hw5 hw6 hw7 hrg0 hrgb hok hsk hnh ht9 hf9 hr9 hu9 hk9 hb2 hlt9
        go_upto_region 11 with fail
        go_cut [10] from 64 to 71 (fun v wx => v = .nilIface ∧ ∃ vw3, Hid (Lg base wx lb db sb n vw3 (.slice ao R.length c) (S.set k (hSec ⟨t, f, r, u⟩)) [⟨k, s0, hSec ⟨t, f, r, u⟩⟩] { h := L.h, used := L.used, ours := L.ours, waits := 1, down := L.down } R) ∧ Hid (Gfr db sb lb vw2 vw3 (.slice ao R.length c) (.slice ao R.length c) wc wx))
        case first =>
          go_region_with (first | (go_at_call 60; refine (CS.out _ ((Below.refl _ _).drew)).mono ?_; rintro e w4 ⟨xo, xc, rfl, hx, hb4, z0, z1, z2, z3⟩) | (go_at_call 44; refine (CW.out _ _ _ (by assumption : Hid (Below _ _ _)).out (by assumption : Hid (Rd _ _ _)).out).mono ?_; rintro e w5 ⟨rfl, vw3, hL5, hF5⟩))
          all_goals (go_wp2_with fail; go_meet)
          all_goals exact ⟨rfl, vw3, hL5, hF5⟩
        case rest =>
          obtain ⟨rfl, vw3, HL3, HF3⟩ := hcut
          clear p0 p1 p2 p3 hm1 hm2 hm3 hm4 CS CW
          have HG3 : Hid (Gfr db sb lb vw vw3 (.slice ao R.length c) (.slice ao R.length c) w wc) := (HFR2.out.trans (Gfr.of_below HB2.out)).trans HF3.out
          have HC3 := hid (HCC.out _ HF3.out.keep)
          have HN3 : Hid (¬ GL db sb vw3 lb (.slice ao R.length c) hb) := fun e => (HF3.out.new hb e).elim HHB.out (fun e => by
            have := lt_of_block (HCC.out _ (Keep.refl _ _))
            omega)
          have CF3 := hid (lflush_ok HL3.out.l HL3.out.d HL3.out.nlb)
          clear HCC HHB HL HB1 HB2 HF3 HG2 HFR2 H CF
          go_upto_region 17 with (first | (go_at_call 48; refine CF3.out.mono ?_; rintro e w6 ⟨rfl, vw6, hD6, hL6, hn6, hF6⟩))
          obtain ⟨hG6, hfr6⟩ := HL3.out.lfr hD6 hL6 hn6 hF6
          have HC6 := hid ((hfr6.keep.block hb (lt_of_block HC3.out) HN3.out).trans HC3.out)
          have HG7 := hid (HG3.out.trans hfr6)
          have HN6 : Hid (¬ GL db sb vw6 lb (.slice ao R.length c) hb) := fun e => (hfr6.new hb e).elim HN3.out (fun e => by
            have := lt_of_block HC3.out
            omega)
          obtain ⟨ao2, c2, vt6, w7, ⟨hrv, hmc2⟩, hs1, hcl, hs2, hR7, hk7, hv7⟩ := hG6.r.cut j hm (fun r hr hne a ha e => hG6.boff r hr hne a ha (.inr e))
          simp only [Value.slice.injEq, true_and] at hrv
          obtain ⟨rfl, rfl⟩ := hrv
          have hs1' := fun W => hs1 .i64 W
          have hcl' := fun ty => hcl ty
          obtain ⟨c0, c1, c2, c3, c4, c5, c6, c7, c8, c9⟩ := hG6.l.cells
          obtain ⟨vo, vq, vc, rfl⟩ : ∃ vo vq vc, vt6 = .slice vo vq vc := by
            obtain ⟨vo, vc, e, -⟩ := hR7.form
            exact ⟨vo, _, vc, e⟩
          have HG6 := hid hG6
          have HR7 := hid hR7
          have HK7 := hid hk7
          have HV7 := hid hv7
          have hL7 : Lk w7 lb db (.slice ao R.length c) { h := L.h, used := L.used, ours := L.ours, waits := 0, down := L.down } := hG6.l.kept hk7 (fun e => hG6.roff lb e (.inl rfl))
          have hx7 := (hk7.block hb (lt_of_block HC6.out) (fun e => HN6.out (.inr e))).trans HC6.out
          have hneq : hb ≠ lb := fun e => HN6.out (by rw [e]; exact .inl (.inl rfl))
          clear hD6 hL6 hn6 hF6 hG6 hfr6 hR7 hk7 hv7 hs1
          go_upto_region 18 with fail
          clear c0 c1 c2 c3 c4 c5 c6 c7 c8 c9
          obtain ⟨c0, c1, c2, c3, c4, c5, c6, c7, c8, c9⟩ := hL7.cells
          have f1 := hL7.soft 1
          have f2 := hL7.soft 2
          have f3 := hL7.soft 3
          have f4 := hL7.soft 4
          have f5 := hL7.soft 5
          have f6 := hL7.soft 6
          have f7 := hL7.soft 7
          obtain ⟨p0, p1, p2, p3, -⟩ := four_cells hx7
          clear hL7 hx7
          go_region
          go_wp2_with fail
          go_ret
          obtain ⟨q1, q2⟩ := lay_end HG6.out HR7.out HK7.out HV7.out ⟨t, f, r, u⟩ u
          refine ⟨rfl, vw6, .slice vo vq vc, ?_, ?_⟩
          · rw [HKK.out, HNH.out, ← HUU.out]
            exact q1.old ((Below.refl _ _).drew)
          · exact (HG7.out.trans q2).trans (Gfr.of_below ((Below.refl _ _).drew))
end
end Go.Proofs.YtcbbklbjfknnlaaDoor
