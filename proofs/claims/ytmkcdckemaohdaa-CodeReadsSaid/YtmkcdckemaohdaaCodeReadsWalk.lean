/-
  THE LAW CodeReads: the walk.
-/
import Derived.Test.YtmkcdckemaohdaaOwn
import Derived.Test.YtmkcdckemaohdaaRefReader2
import Derived.Test.YtmkcdckemaohdaaCodeReadsOps
import Derived.BigQuiet
import Derived.Deep.QuietTactic
import Derived.Deep.RegionWith
namespace Go.Proofs.Ytmkcdckemaohdaa.codeReads
open Go.RowKit
set_option linter.unusedVariables false

/-- What holds at each round's head: both readers stand at one place, with one fault. -/
def Inv (w : World) (R Q : Nat) (a0 : Option Addr) (cap0 : Nat) (l : List UInt8) (wr : World) (at0 : Nat) (e : Int) : Prop :=
  at0 ≤ l.length ∧ RAt wr R (l.drop at0) e ∧ QAt wr Q a0 l.length cap0 at0 e ∧ Below w.heap.size w wr

theorem inv_step {w wr : World} {R Q cap0 at0 n : Nat} {a0 : Option Addr} {l : List UInt8} {e' : Int} (hn : n ≤ (l.drop at0).length) (ha : at0 ≤ l.length) (h1 : RAt wr R ((l.drop at0).drop n) e') (h2 : QAt wr Q a0 l.length cap0 (at0 + n) e') (hb : Below w.heap.size w wr) :
    Inv w R Q a0 cap0 l wr (at0 + n) e' := by
  rw [List.length_drop] at hn
  rw [List.drop_drop] at h1
  exact ⟨by omega, h1, h2, hb⟩

theorem Inv.draw {w wr : World} {R Q cap0 at0 : Nat} {a0 : Option Addr} {l : List UInt8} {e : Int} (h : Inv w R Q a0 cap0 l wr at0 e) (n : Nat) : Inv w R Q a0 cap0 l (wr.drewN n) at0 e :=
  ⟨h.1, h.2.1, h.2.2.1, ⟨h.2.2.2.os, h.2.2.2.tape, h.2.2.2.output, h.2.2.2.size, h.2.2.2.block⟩⟩

theorem textS_le (m : Nat) (l : List UInt8) (e : Int) : (textS m l e).2.1 ≤ l.length := by
  have h := lookS_le m l e
  unfold textS
  split
  · exact Nat.zero_le _
  · split
    · exact Nat.zero_le _
    · show _ + _ ≤ _
      omega

theorem textS_len (m : Nat) (l : List UInt8) (e : Int) : (textS m l e).1.length ≤ l.length := by
  unfold textS
  split
  · exact Nat.zero_le _
  · split
    · exact Nat.zero_le _
    · show (List.take _ _).length ≤ _
      rw [List.length_take, List.length_drop]
      omega

set_option maxHeartbeats 2000000 in
set_option maxRecDepth 100000 in
theorem walk0 (a0 : Option Addr) (cap0 : Nat) (l : List UInt8) (a1 : Option Addr) (len1 cap1 : Nat) (w : World) (hr : Rd w (.slice a0 l.length cap0) l) (hl : l.length ≤ 140737488351232) (HO : Ops w a1 len1) (hm : len1 ≤ maxLen)
    (hA : ∀ a, a0 = some a → 0 < l.length → a.block < w.heap.size) :
    Calls Try.prog 4 #[.slice a0 l.length cap0, .slice a1 len1 cap1] w fun e w' => e = .returned (.bool true) ∧ Below w.heap.size w w' := by
  unfold maxLen at hm
  go_enter Try.func4, Try.ntmps4
  go_wp2_with fail
  refine (own_any _ l 71 w hr (by omega)).mono ?_
  rintro e x1 ⟨g, rfl, hg, o1, B1⟩
  have HOw := hid o1
  have hgo : Hid (w.heap.size ≤ g) := hg
  have r1 : Rd x1 (.slice (some ⟨g, 0, none⟩) l.length (l.length + 3)) l := Rd.of_full o1 (by omega) (by rw [List.take_left' (by simp)]) rfl
  clear o1 hg
  go_wp2_with fail
  refine (new_lo x1 _ l r1 (by omega)).mono ?_
  rintro e x2 ⟨R, rfl, hR, h2, g2⟩
  have B2 := B1.trans (g2.mono B1.size)
  have hRx : Hid (x1.heap.size ≤ R) := hR
  have hRw : Hid (w.heap.size ≤ R) := Nat.le_trans B1.size hR
  have hgl : Hid (g < x1.heap.size) := (HOw.out.lt g rfl).2
  have HO2 := hid (own_old HOw.out g2)
  have H2 := hid h2
  have hR2 : Hid (R < x2.heap.size) := h2.rat.lt
  clear h2 hR g2 B1 HOw r1
  go_wp2_with fail
  have B3 := B2.alloc B2.size (.cells #[.slice a0 l.length cap0, .int .i64 0, .int .i64 0] 38)
  have b3 : Below x2.heap.size x2 (x2.alloc (.cells #[.slice a0 l.length cap0, .int .i64 0, .int .i64 0] 38)) := (Below.refl _ _).alloc (Nat.le_refl _) _
  have H3 := hid (H2.out.old b3)
  have HO3 := hid (own_old HO2.out b3)
  have hQ : Hid (QAt (x2.alloc (.cells #[.slice a0 l.length cap0, .int .i64 0, .int .i64 0] 38)) x2.heap.size a0 l.length cap0 0 0) := heap_alloc_new _ _
  obtain ⟨Q, hQQ⟩ : ∃ Q, Q = x2.heap.size := ⟨_, rfl⟩
  have hRQ : Hid (R < Q) := by rw [hQQ]; exact hR2.out
  have hwQ : Hid (w.heap.size ≤ Q) := Nat.le_trans hRw.out (Nat.le_of_lt hRQ.out)
  rw [← hQQ] at hQ
  simp only [← hQQ]
  clear hQQ b3 B2
  generalize x2.alloc (.cells #[.slice a0 l.length cap0, .int .i64 0, .int .i64 0] 38) = x3 at *
  clear H2 HO2 hR2
  refine (awake_any x3).mono ?_
  rintro e x4 ⟨rfl, g4⟩
  have B4 := B3.trans (g4.mono B3.size)
  have H4 := hid (H3.out.old g4)
  have HO4 := hid (own_old HO3.out g4)
  have hQ4 : Hid (QAt x4 Q a0 l.length cap0 0 0) := heap_kept (grown_below g4 none) hQ.out (by simp)
  clear g4 B3 H3 HO3 hQ
  go_wp2_with fail
  refine (kept_any _ l 71 x4 g w.heap.size (hr.old B4) (by omega) HO4.out).mono ?_
  rintro e x5 hd
  have g5 := hd.below
  obtain ⟨rfl, -⟩ := hd
  have B5 := B4.trans (g5.mono B4.size)
  have H5 := hid (H4.out.old g5)
  have HO5 := hid (own_old HO4.out g5)
  have hQ5 : Hid (QAt x5 Q a0 l.length cap0 0 0) := heap_kept (grown_below g5 none) hQ4.out (by simp)
  have ho6 : Hid (x5.ownsRow w.heap.size 5 1 (.slice (some ⟨g, 0, none⟩) l.length (l.length + 3)) l.length (l.map bv)) := by
    obtain ⟨h1, h2⟩ := HO5.out
    rcases h2 with ⟨h2, _⟩ | ⟨g', cap, cur, h2, hb, hg, hn, hc, hs, ht⟩
    · simp at h2
    · simp only [Value.slice.injEq, Option.some.injEq, Addr.mk.injEq, and_true, true_and] at h2
      obtain ⟨rfl, rfl⟩ := h2
      refine ⟨by simp, .inr ⟨g, l.length + 3, cur, rfl, hb, hg, by omega, hc, hs, ?_⟩⟩
      have : cur.toList.take l.length = (cur.toList.take ((l.length + 3) * 1)).take l.length := by rw [List.take_take]; congr 1; omega
      rw [Nat.mul_one, this, ht, List.take_left' (by simp)]
  clear g5 B4 H4 HO4 hQ4
  go_wp2_with fail
  refine (spoil_any x5 w.heap.size g (l.length + 3) l ho6.out (by omega)).mono ?_
  rintro e x6 ⟨rfl, g6⟩
  have B6 := B5.grown g6 B5.size (fun k hk => by cases hk; exact hgo.out)
  have H6 : Hid (RAt x6 R l 0) := (H5.out.kept g6 (fun k hk => by cases hk; exact ⟨hgl.out, Nat.lt_of_lt_of_le hgl.out hRx.out⟩)).rat
  have hQ6 : Hid (QAt x6 Q a0 l.length cap0 0 0) := heap_kept g6 hQ5.out (by
    intro h
    cases h
    have h1 := hgl.out
    have h2 := hRx.out
    have h3 := hRQ.out
    omega)
  clear g6 B5 H5 HO5 hQ5 ho6 hgl hRx hgo
  go_wp2_with fail
  have hI : Inv w R Q a0 cap0 l x6 0 0 := ⟨Nat.zero_le _, H6.out, hQ6.out, B6⟩
  clear H6 hQ6 B6
  go_loopw [8] (fun i wr => ∃ (k at0 : Nat) (e : Int), k ≤ len1 ∧ i = .int .i64 k ∧ Inv w R Q a0 cap0 l wr at0 e) (fun i _ => len1 - (intOf i).toNat)
  case atStart => exact ⟨0, 0, 0, Nat.zero_le _, rfl, hI⟩
  case round =>
    obtain ⟨k, at0, e, hk, rfl, hat, hRA, hQA, hb⟩ := hrel
    clear hI
    by_cases hlt : k < len1
    · by_cases h100 : (k : Int) < 100
      · obtain ⟨b, off, rfl, hbl, kd, ms, hc1, hc2, hms⟩ := HO k hlt
        have d1 := (hb.cell (p := ⟨b, off + k * 2, none⟩) hbl).trans hc1
        have d2 := (hb.cell (p := ⟨b, off + k * 2 + 1, none⟩) hbl).trans hc2
        have HRA := hid hRA
        have HQA := hid hQA
        clear hRA hQA
        by_cases k1 : kd = 1
        · go_wp2_with fail
          refine (intR_any wr R _ e HRA.out).mono ?_
          rintro en w8 ⟨rfl, h8, g8⟩
          have B8 := hb.grown g8 hb.size (fun k hk => by cases hk; exact hRw.out)
          have HQ8 : Hid (QAt w8 Q a0 l.length cap0 at0 e) := heap_kept g8 HQA.out (by intro h; cases h; have := hRQ.out; omega)
          have H8 := hid h8
          clear h8 g8 hb
          go_wp2_with fail
          refine (qint_any w8 Q a0 cap0 at0 l e HQ8.out (hr.old B8) hat (by omega)).mono ?_
          rintro en w9 ⟨rfl, h9, g9⟩
          have B9 := B8.grown g9 B8.size (fun k hk => by cases hk; exact hwQ.out)
          have H9 := hid (H8.out.kept g9 (fun k hk => by cases hk; exact hRQ.out))
          have HI := hid (inv_step (lookS_le _ _ _) hat H9.out h9 B9)
          clear h9 g9 B8 H8 HQ8 H9
          generalize lookS maxU (l.drop at0) e = t at *
          generalize at0 + t.2.1 = p at *
          generalize t.2.2 = e' at *
          obtain ⟨hp, hRp, hQp, hbp⟩ := HI.out
          obtain ⟨q0, q1, q2, -, -⟩ := three_cells hQp
          have hpd : (l.drop p).length = l.length - p := List.length_drop
          have hsub : (l.length : Int) - (p : Int) = ((l.length - p : Nat) : Int) := by omega
          have CL := fun a => (left_any (w9.drewN a) R _ e' hRp).mono (R' := fun e w'' => e = Ending.returned (.int .i64 ((l.length - p : Nat) : Int)) ∧ ∃ m, w'' = w9.drewN m) fun _ _ h => ⟨by rw [h.1, hpd], a, h.2.symm⟩
          have CE := fun a => (err_any (w9.drewN a) R _ e' hRp).mono (R' := fun e w'' => e = Ending.returned (.int .i64 e') ∧ ∃ m, w'' = w9.drewN m) fun _ _ h => ⟨h.1, a, h.2.symm⟩
          have CN := fun a => (endR_any (w9.drewN a) R _ e' hRp).mono (R' := fun e w'' => e = Ending.returned (.int .i64 (endS (l.drop p) e')) ∧ ∃ m, w'' = w9.drewN m) fun _ _ h => ⟨h.1, a, h.2.symm⟩
          have CQ := fun a => (qend_any (w9.drewN a) Q a0 l.length cap0 p e' hQp).mono (R' := fun e w'' => e = Ending.returned (.int .i64 (endS (l.drop p) e')) ∧ ∃ m, w'' = w9.drewN m) fun _ _ h => by
            obtain ⟨h1, m, h2⟩ := h
            exact ⟨by rw [h1, qendS_eq], a + m, by rw [h2, World.drewN_drewN]⟩
          clear hRp hQp hbp hpd hp hat
          go_wp2_with fail
          go_quiet ((first | (go_at_call 30; exact CL _) | (go_at_call 31; exact CE _) | (go_at_call 32; exact CN _) | (go_at_call 33; exact CQ _)))
          clear CL CE CN CQ
          go_wp2_with fail
          go_roundw
          case rel => exact ⟨k + 1, p, e', by omega, by go_num, HI.out.draw _⟩
          case measure => simp [intOf]; omega
        · by_cases k2 : kd = 2
          · have hd2 : Hid (w.cell? ⟨b, off + k * 2 + 1, none⟩ = some (.int .i64 ms)) := hc2
            clear hc1 hc2
            go_wp2_with fail
            go_region_with (first
              | (go_at_call 24; refine (smallR_any wr.drew R _ e ms hms (show RAt wr.drew R _ e from HRA.out)).mono ?_; rintro en w8 ⟨rfl, h8, g8⟩; have B8 := hb.drew.grown g8 hb.size (fun k hk => by cases hk; exact hRw.out); have HQ8 : Hid (QAt w8 Q a0 l.length cap0 at0 e) := heap_kept g8 (show QAt wr.drew Q a0 l.length cap0 at0 e from HQA.out) (by intro h; cases h; have := hRQ.out; omega); have H8 := hid h8; have d8 := (B8.cell (p := ⟨b, off + k * 2 + 1, none⟩) hbl).trans hd2.out; clear h8 g8)
              | (go_at_call 25; refine (qsmall_any w8 Q a0 cap0 at0 l e ms hms HQ8.out (hr.old B8) hat (by omega)).mono ?_; rintro en w9 ⟨rfl, h9, g9⟩))
            all_goals
              have B9 := B8.grown g9 B8.size (fun k hk => by cases hk; exact hwQ.out)
              have H9 := hid (H8.out.kept g9 (fun k hk => by cases hk; exact hRQ.out))
              have HI := hid (inv_step (lookS_le _ _ _) hat H9.out h9 B9)
              clear h9 g9 B8 H8 HQ8 H9 hb d1 d2 d8
              generalize lookS (nn ms) (l.drop at0) e = t at *
              generalize at0 + t.2.1 = p at *
              generalize t.2.2 = e' at *
              obtain ⟨hp, hRp, hQp, hbp⟩ := HI.out
              obtain ⟨q0, q1, q2, -, -⟩ := three_cells hQp
              have hpd : (l.drop p).length = l.length - p := List.length_drop
              have hsub : (l.length : Int) - (p : Int) = ((l.length - p : Nat) : Int) := by omega
              have CL := fun a => (left_any (w9.drewN a) R _ e' hRp).mono (R' := fun e w'' => e = Ending.returned (.int .i64 ((l.length - p : Nat) : Int)) ∧ ∃ m, w'' = w9.drewN m) fun _ _ h => ⟨by rw [h.1, hpd], a, h.2.symm⟩
              have CE := fun a => (err_any (w9.drewN a) R _ e' hRp).mono (R' := fun e w'' => e = Ending.returned (.int .i64 e') ∧ ∃ m, w'' = w9.drewN m) fun _ _ h => ⟨h.1, a, h.2.symm⟩
              have CN := fun a => (endR_any (w9.drewN a) R _ e' hRp).mono (R' := fun e w'' => e = Ending.returned (.int .i64 (endS (l.drop p) e')) ∧ ∃ m, w'' = w9.drewN m) fun _ _ h => ⟨h.1, a, h.2.symm⟩
              have CQ := fun a => (qend_any (w9.drewN a) Q a0 l.length cap0 p e' hQp).mono (R' := fun e w'' => e = Ending.returned (.int .i64 (endS (l.drop p) e')) ∧ ∃ m, w'' = w9.drewN m) fun _ _ h => by
                obtain ⟨h1, m, h2⟩ := h
                exact ⟨by rw [h1, qendS_eq], a + m, by rw [h2, World.drewN_drewN]⟩
              clear hRp hQp hbp hpd hp hat
              go_wp2_with fail
              simp only [Act.put, List.getElem_toArray, List.getElem_cons_succ, List.getElem_cons_zero, List.setIfInBounds_toArray, List.set_cons_succ, List.set_cons_zero]
              go_quiet ((first | (go_at_call 30; exact CL _) | (go_at_call 31; exact CE _) | (go_at_call 32; exact CN _) | (go_at_call 33; exact CQ _)))
              clear CL CE CN CQ
              go_wp2_with fail
              go_roundw
              case rel => exact ⟨k + 1, p, e', by omega, by go_num, HI.out.draw _⟩
              case measure => simp [intOf]; omega
          · by_cases k3 : kd = 3
            · have hdl : (l.drop at0).length ≤ 140737488355328 := by rw [List.length_drop]; omega
              have hd2 : Hid (w.cell? ⟨b, off + k * 2 + 1, none⟩ = some (.int .i64 ms)) := hc2
              have hRs := hid HRA.out.lt
              have hQs : Hid (Q < wr.heap.size) := lt_of_block HQA.out
              clear hc1 hc2
              go_wp2_with fail
              refine (textR_any wr R _ e ms hms HRA.out hdl).mono ?_
              rintro en w8 ⟨ao8, c8, rfl, o8, h8, g8⟩
              have B8 := hb.grown g8 hb.size (fun k hk => by cases hk; exact hRw.out)
              have HQ8 : Hid (QAt w8 Q a0 l.length cap0 at0 e) := heap_kept g8 HQA.out (by intro h; cases h; have := hRQ.out; omega)
              have H8 := hid h8
              have O8 := hid o8
              have d8 := (B8.cell (p := ⟨b, off + k * 2 + 1, none⟩) hbl).trans hd2.out
              clear h8 g8 hb d1 d2 o8
              go_wp2_with fail
              refine (qtext_any w8 Q a0 cap0 at0 l e ms hms HQ8.out (hr.old B8) hat (by omega) (fun a ha h0 => by have := hA a ha h0; have := hwQ.out; omega)).mono ?_
              rintro en w9 ⟨x9, rfl, o9, h9, g9⟩
              have B9 := B8.grown g9 B8.size (fun k hk => by cases hk; exact hwQ.out)
              have H9 := hid (H8.out.kept g9 (fun k hk => by cases hk; exact hRQ.out))
              have HQ9 := hid h9
              have O9 := hid (O8.out.kept g9 (by
                cases ho : (Value.slice ao8 (textS (nn ms) (l.drop at0) e).1.length c8).ownBlock with
                | none => exact .inl rfl
                | some q => right; intro hk; have h1 := (O8.out.lt q ho).1; have h2 := hQs.out; simp at hk; omega))
              have R9 := hid (Rd.own O9.out)
              have X9 := hid (Rd.own o9)
              clear h9 g9 B8 H8 HQ8 O8 o9 d8
              have htl := textS_le (nn ms) (l.drop at0) e
              have htb : (textS (nn ms) (l.drop at0) e).1.length ≤ 140737488355328 := by have := textS_len (nn ms) (l.drop at0) e; omega
              have hown : ∀ q, (Value.slice ao8 (textS (nn ms) (l.drop at0) e).1.length c8).ownBlock = some q → Q < q := fun q hq => by have h1 := (O9.out.lt q hq).1; have h2 := hQs.out; omega
              generalize textS (nn ms) (l.drop at0) e = t at *
              go_wp2_with fail
              refine (bytes_any _ _ t.1 t.1 w9 R9.out X9.out).mono ?_
              rintro en w10 ⟨rfl, rfl⟩
              rw [show (t.1 == t.1) = true from by simp]
              go_wp2_with fail
              refine (spoil_own w9 _ _ t.1 O9.out htb).mono ?_
              rintro en w10 ⟨rfl, g10⟩
              have B10 := B9.grown g10 B9.size (fun q hq => by have h1 := hown q hq; have h2 := hwQ.out; omega)
              have H10 := hid (H9.out.kept g10 (fun q hq => by have h1 := hown q hq; have h2 := hRQ.out; omega))
              have HQ10 : QAt w10 Q a0 l.length cap0 (at0 + t.2.1) t.2.2 := heap_kept g10 HQ9.out (fun h => by have h1 := hown Q h.symm; omega)
              have HI := hid (inv_step htl hat H10.out HQ10 B10)
              clear B9 g10 H9 HQ9 O9 R9 X9 B10 H10 HQ10 hown htb htl
              generalize at0 + t.2.1 = p at *
              generalize t.2.2 = e' at *
              obtain ⟨hp, hRp, hQp, hbp⟩ := HI.out
              obtain ⟨q0, q1, q2, -, -⟩ := three_cells hQp
              have hpd : (l.drop p).length = l.length - p := List.length_drop
              have hsub : (l.length : Int) - (p : Int) = ((l.length - p : Nat) : Int) := by omega
              have CL := fun a => (left_any (w10.drewN a) R _ e' hRp).mono (R' := fun e w'' => e = Ending.returned (.int .i64 ((l.length - p : Nat) : Int)) ∧ ∃ m, w'' = w10.drewN m) fun _ _ h => ⟨by rw [h.1, hpd], a, h.2.symm⟩
              have CE := fun a => (err_any (w10.drewN a) R _ e' hRp).mono (R' := fun e w'' => e = Ending.returned (.int .i64 e') ∧ ∃ m, w'' = w10.drewN m) fun _ _ h => ⟨h.1, a, h.2.symm⟩
              have CN := fun a => (endR_any (w10.drewN a) R _ e' hRp).mono (R' := fun e w'' => e = Ending.returned (.int .i64 (endS (l.drop p) e')) ∧ ∃ m, w'' = w10.drewN m) fun _ _ h => ⟨h.1, a, h.2.symm⟩
              have CQ := fun a => (qend_any (w10.drewN a) Q a0 l.length cap0 p e' hQp).mono (R' := fun e w'' => e = Ending.returned (.int .i64 (endS (l.drop p) e')) ∧ ∃ m, w'' = w10.drewN m) fun _ _ h => by
                obtain ⟨h1, m, h2⟩ := h
                exact ⟨by rw [h1, qendS_eq], a + m, by rw [h2, World.drewN_drewN]⟩
              clear hRp hQp hbp hpd hp hat
              go_wp2_with fail
              go_quiet ((first | (go_at_call 30; exact CL _) | (go_at_call 31; exact CE _) | (go_at_call 32; exact CN _) | (go_at_call 33; exact CQ _)))
              clear CL CE CN CQ
              go_wp2_with fail
              go_roundw
              case rel => exact ⟨k + 1, p, e', by omega, by go_num, HI.out.draw _⟩
              case measure => simp [intOf]; omega
            · go_wp2_with fail
              refine (numR_any wr R _ e HRA.out).mono ?_
              rintro en w8 ⟨rfl, h8, g8⟩
              have B8 := hb.grown g8 hb.size (fun k hk => by cases hk; exact hRw.out)
              have HQ8 : Hid (QAt w8 Q a0 l.length cap0 at0 e) := heap_kept g8 HQA.out (by intro h; cases h; have := hRQ.out; omega)
              have H8 := hid h8
              clear h8 g8 hb
              go_wp2_with fail
              refine (qnum_any w8 Q a0 cap0 at0 l e HQ8.out (hr.old B8) hat (by omega)).mono ?_
              rintro en w9 ⟨rfl, h9, g9⟩
              have B9 := B8.grown g9 B8.size (fun k hk => by cases hk; exact hwQ.out)
              have H9 := hid (H8.out.kept g9 (fun k hk => by cases hk; exact hRQ.out))
              have HI := hid (inv_step (lookS_le _ _ _) hat H9.out h9 B9)
              clear h9 g9 B8 H8 HQ8 H9
              generalize lookS maxU (l.drop at0) e = t at *
              generalize at0 + t.2.1 = p at *
              generalize t.2.2 = e' at *
              obtain ⟨hp, hRp, hQp, hbp⟩ := HI.out
              obtain ⟨q0, q1, q2, -, -⟩ := three_cells hQp
              have hpd : (l.drop p).length = l.length - p := List.length_drop
              have hsub : (l.length : Int) - (p : Int) = ((l.length - p : Nat) : Int) := by omega
              have CL := fun a => (left_any (w9.drewN a) R _ e' hRp).mono (R' := fun e w'' => e = Ending.returned (.int .i64 ((l.length - p : Nat) : Int)) ∧ ∃ m, w'' = w9.drewN m) fun _ _ h => ⟨by rw [h.1, hpd], a, h.2.symm⟩
              have CE := fun a => (err_any (w9.drewN a) R _ e' hRp).mono (R' := fun e w'' => e = Ending.returned (.int .i64 e') ∧ ∃ m, w'' = w9.drewN m) fun _ _ h => ⟨h.1, a, h.2.symm⟩
              have CN := fun a => (endR_any (w9.drewN a) R _ e' hRp).mono (R' := fun e w'' => e = Ending.returned (.int .i64 (endS (l.drop p) e')) ∧ ∃ m, w'' = w9.drewN m) fun _ _ h => ⟨h.1, a, h.2.symm⟩
              have CQ := fun a => (qend_any (w9.drewN a) Q a0 l.length cap0 p e' hQp).mono (R' := fun e w'' => e = Ending.returned (.int .i64 (endS (l.drop p) e')) ∧ ∃ m, w'' = w9.drewN m) fun _ _ h => by
                obtain ⟨h1, m, h2⟩ := h
                exact ⟨by rw [h1, qendS_eq], a + m, by rw [h2, World.drewN_drewN]⟩
              clear hRp hQp hbp hpd hp hat
              go_wp2_with fail
              go_quiet ((first | (go_at_call 30; exact CL _) | (go_at_call 31; exact CE _) | (go_at_call 32; exact CN _) | (go_at_call 33; exact CQ _)))
              clear CL CE CN CQ
              go_wp2_with fail
              go_roundw
              case rel => exact ⟨k + 1, p, e', by omega, by go_num, HI.out.draw _⟩
              case measure => simp [intOf]; omega
      · clear HO
        go_wp2_with fail
        go_ret
        exact ⟨rfl, hb⟩
    · clear HO
      go_wp2_with fail
      go_ret
      exact ⟨rfl, hb⟩

theorem walk {H : Type} {enc : TypeId × Value → H} (a0 : Option Addr) (len0 cap0 : Nat) (z0 : List Int) (v1 : Value) (w : World) (w0 : IsRow .u8 w a0 len0 cap0 z0) (b0 : cap0 * 1 ≤ 140737488351232)
    {base : Nat} {d1 : DataW H} {p1 : List MemPlace} (o1 : Value.okWide Try.prog w .any base 32 v1) (h1 : DataW.Trod enc Try.prog w 0 (fun _ => true) true 32 v1 d1 p1) :
    Calls Try.prog 4 #[.slice a0 len0 cap0, v1] w fun e w' => e = .returned (.bool true) ∧ Below w.heap.size w w' := by
  obtain ⟨a1, len1, cap1, rfl⟩ := WideShapes.okWide_slice Try.underlying32 o1
  obtain ⟨hO, hm⟩ := ops_open h1
  have hcap : len0 ≤ cap0 := by rcases w0 with ⟨_, rfl, rfl, _⟩ | ⟨_, _, h, _⟩ <;> omega
  have hA : ∀ a, a0 = some a → 0 < len0 → a.block < w.heap.size := by
    rcases w0 with ⟨rfl, _⟩ | ⟨x, rfl, h2, h3, h4, h5, h6⟩
    · intro a h; cases h
    · intro a h h0
      cases h
      have := h5 0 (by omega)
      have h7 := World.block_lt_of_cell? w _ this
      rwa [add_block] at h7
  obtain ⟨l, hll, hr⟩ := rd_of_row w0
  subst hll
  exact walk0 a0 cap0 l a1 len1 cap1 w hr (by omega) hO hm hA
end Go.Proofs.Ytmkcdckemaohdaa.codeReads
