/-
  THE LAW FaultUnwraps: the walk.
-/
import Derived.Test.YtombgehopopdfaaDoorFaultIsWalk
set_option linter.unusedVariables false
namespace Go.Proofs.YtombgehopopdfaaDoor.faultUnwraps
open Go.RowKit Go.Extern.Stop Go.Stop Go.Extern

theorem compFault : (Tryd.prog.info? 43).map (·.comparable) = some true := by kernel_rfl
theorem sizeFault : (Tryd.prog.info? 55).map (·.size) = some 2 := by kernel_rfl
theorem eqlFault (b : Nat) (w : World) : (binOp .eql 25 (.iface 43 (.pointer (some ⟨b, 0, none⟩))) (.iface 43 (.pointer (some ⟨b, 0, none⟩)))).run Tryd.prog w = .ok (.bool true) w := by
  obtain ⟨i, hi, hcmp⟩ := Option.map_eq_some_iff.1 compFault
  obtain ⟨j, hj, _⟩ := Option.map_eq_some_iff.1 sizeFault
  exact run_eql_iface_ptr_same w ⟨b, 0, none⟩ Tryd.underlying25 Tryd.underlying43 hi hcmp hj

/-- The strings l, the last one outmost, around the fault at F that says 'first' of code n. -/
def Around (w : World) (F : Nat) (n : Int) : List ByteArray → Value → Prop
  | [], v => v = .iface 43 (.pointer (some ⟨F, 0, none⟩))
  | s :: r, v => ∃ b c, v = .iface 43 (.pointer (some ⟨b, 0, none⟩)) ∧ w.heap[b]? = some (.cells #[.string s, c] 55 (0, 0)) ∧ rk c ≤ b ∧ Around w F n r c

theorem Around.kept {w w' : World} {F : Nat} {n : Int} (hk : Keeps w w') : ∀ {l : List ByteArray} {v : Value}, Around w F n l v → Around w' F n l v
  | [], _, h => h
  | s :: r, v, h => by
    obtain ⟨b, c, hv, hb, hc, hr⟩ := h
    exact ⟨b, c, hv, hk.errs _ _ _ (.inl rfl) hb, hc, Around.kept hk hr⟩
theorem Around.chain {w : World} {F : Nat} {n : Int} (hF : w.heap[F]? = some (.cells #[.string firstName, .iface 22 (.int .i64 n)] 55 (0, 0))) : ∀ {l : List ByteArray} {v : Value}, Around w F n l v → Chain w (l ++ [firstName]) (.code n) v
  | [], v, h => ⟨F, _, h, hF, Nat.zero_le _, rfl⟩
  | s :: r, v, h => by
    obtain ⟨b, c, hv, hb, hc, hr⟩ := h
    exact ⟨b, c, hv, hb, hc, Around.chain hF hr⟩
theorem Around.ptr {w : World} {F : Nat} {n : Int} {l : List ByteArray} {v : Value} (h : Around w F n l v) : ∃ b, v = .iface 43 (.pointer (some ⟨b, 0, none⟩)) := by
  cases l with
  | nil => exact ⟨_, h⟩
  | cons s r => obtain ⟨b, c, hv, _⟩ := h; exact ⟨_, hv⟩

/-- The cell at t holds the pointer to b. -/
def TAt (t b : Nat) (W : World) : Prop := W.heap[t]? = some (.cells #[.pointer (some ⟨b, 0, none⟩)] 43 (0, 0))
theorem tat_step {t b : Nat} {W W' : World} (h : TAt t b W) (ha : Below W.heap.size W W') : TAt t b W' := by
  unfold TAt at h ⊢
  rw [ha.block t (lt_of_block h)]; exact h
theorem TAt.cell {t b : Nat} {W : World} (h : TAt t b W) : W.cell? ⟨t, 0, none⟩ = some (.pointer (some ⟨b, 0, none⟩)) := (one_cell h).1

/-- What (*Fault).Is answers of a target that is a code, or an error of errors.New's make. -/
def hitB (n : Int) : Value → Bool
  | .iface _ (.int _ m) => n == m
  | _ => false
theorem mis_both (w : World) (l : List ByteArray) (n : Int) (b : Nat) (x : Value) (hg : Ready w) (hc : Chain w l (.code n) (.iface 43 (.pointer (some ⟨b, 0, none⟩)))) (hx : (∃ m, x = .iface 22 (.int .i64 m)) ∨ ∃ p, x = .iface 70 (.pointer p)) :
    Calls Tryd.prog 19 #[.pointer (some ⟨b, 0, none⟩), x] w fun ev w' => ev = .returned (.bool (hitB n x)) ∧ Below w.heap.size w w' := by
  rcases hx with ⟨m, rfl⟩ | ⟨p, rfl⟩
  · exact mis_code w l (.code n) b m hg hc
  · exact mis_other w l (.code n) b _ hg hc
theorem enew_some (s : ByteArray) (w : World) : Calls Tryd.prog 20 #[.string s] w fun e w' => ∃ b, e = .returned (.iface 70 (.pointer (some ⟨b, 0, none⟩))) ∧ Below w.heap.size w w' := by
  refine (enew_any s w).mono ?_
  rintro e w' ⟨rfl, rfl⟩
  exact ⟨_, rfl, (Below.refl _ _).alloc (Nat.le_refl _) _⟩

set_option maxHeartbeats 4000000 in
set_option maxRecDepth 100000 in
theorem walk (code : Int) (x : Value) (l : List ByteArray) (w : World) (hg : Ready w) (hx : Strs w x l) :
    Calls Tryd.prog 5 #[.int .i64 code, x] w fun e w' => e = .returned (.bool true) ∧ Below w.heap.size w w' := by
  have HG := hid hg
  have HX := hid hx
  obtain ⟨ao, cp, rfl, -, -⟩ := hx
  clear hg
  by_cases hskip : code = 0 ∨ 20 < l.length
  · rcases hskip with rfl | hl
    · go_enter Tryd.func5, Tryd.ntmps5
      go_wp2_with (first | (go_at_call 9; refine (awake_any _ HG.out).mono ?_))
      rintro e w1 ⟨rfl, h1⟩
      have H1 := hid h1
      clear h1
      go_wp2_with (first | (go_at_call 9; refine (awake_any _ (HG.out.kept (Keeps.below H1.out HG.out.lt))).mono ?_))
      rintro e w2 ⟨rfl, h2⟩
      have H2 := hid h2
      clear h2
      go_wp2
      go_ret
      exact ⟨rfl, below_step H1.out H2.out (Nat.le_refl _)⟩
    · by_cases h0 : code = 0
      · subst h0
        go_enter Tryd.func5, Tryd.ntmps5
        go_wp2_with (first | (go_at_call 9; refine (awake_any _ HG.out).mono ?_))
        rintro e w1 ⟨rfl, h1⟩
        have H1 := hid h1
        clear h1
        go_wp2_with (first | (go_at_call 9; refine (awake_any _ (HG.out.kept (Keeps.below H1.out HG.out.lt))).mono ?_))
        rintro e w2 ⟨rfl, h2⟩
        have H2 := hid h2
        clear h2
        go_wp2
        go_ret
        exact ⟨rfl, below_step H1.out H2.out (Nat.le_refl _)⟩
      · have d0 : (code == 0) = false := by simp [h0]
        have d1 : (l.length : Int) > 20 := by omega
        clear h0 hl
        go_enter Tryd.func5, Tryd.ntmps5
        go_wp2_with (first | (go_at_call 9; refine (awake_any _ HG.out).mono ?_))
        rintro e w1 ⟨rfl, h1⟩
        have H1 := hid h1
        clear h1
        go_wp2_with (first | (go_at_call 9; refine (awake_any _ (HG.out.kept (Keeps.below H1.out HG.out.lt))).mono ?_))
        rintro e w2 ⟨rfl, h2⟩
        have H2 := hid h2
        clear h2
        go_wp2
        go_ret
        exact ⟨rfl, below_step H1.out H2.out (Nat.le_refl _)⟩
  · have h0 : code ≠ 0 := fun h => hskip (.inl h)
    have d0 : (code == 0) = false := by simp [h0]
    have hl20 : l.length ≤ 20 := by omega
    have d1 : ¬ ((l.length : Int) > 20) := by omega
    have HL := hid hl20
    have H0 := hid h0
    clear hskip h0 hl20
    go_enter Tryd.func5, Tryd.ntmps5
    go_wp2_with (first
      | (go_at_call 9; refine (awake_any _ HG.out).mono ?_; rintro e w1 ⟨rfl, h1⟩; have H1 := hid h1; clear h1)
      | (go_at_call 17; refine (new_any code H0.out _ _).mono ?_; rintro e w2 ⟨rfl, rfl⟩))
    have HB2 := hid (below_step H1.out ((Below.refl w1.heap.size w1).alloc (Nat.le_refl _) (.cells #[.string ⟨#[102, 105, 114, 115, 116]⟩, .iface 22 (.int .i64 code)] 55)) (Nat.le_refl _))
    have HF2 := hid (alloc_at w1 (.cells #[.string ⟨#[102, 105, 114, 115, 116]⟩, .iface 22 (.int .i64 code)] 55))
    have H1s := hid H1.out.size
    clear d0 d1
    generalize w1.alloc (.cells #[.string ⟨#[102, 105, 114, 115, 116]⟩, .iface 22 (.int .i64 code)] 55) = w2 at *
    generalize w1.heap.size = F at *
    go_loopw [6, 7] (fun e i wr => ∃ k : Nat, k ≤ l.length ∧ i = .int .i64 k ∧ Around wr F code (l.take k).reverse e ∧ wr.heap[F]? = some (.cells #[.string firstName, .iface 22 (.int .i64 code)] 55 (0, 0)) ∧ Below w.heap.size w wr) (fun _ i _ => l.length - (intOf i).toNat)
    case atStart => exact ⟨0, Nat.zero_le _, rfl, rfl, HF2.out, HB2.out⟩
    case round =>
      obtain ⟨k, hk, rfl, har, hF, hb⟩ := hrel
      have HA := hid har
      have HF := hid hF
      have HB := hid hb
      clear har hF hb
      by_cases hlt : k < l.length
      · have hw : wrap64 ((k : Int) + 1) = ((k + 1 : Nat) : Int) := by have := HL.out; simp only [wrap64]; omega
        obtain ⟨ao', c', he, hn, hc⟩ := HX.out.old HB.out
        simp only [Value.slice.injEq] at he
        obtain ⟨rfl, -, rfl⟩ := he
        obtain ⟨a, rfl⟩ : ∃ a, ao = some a := by
          cases ao with
          | none => have h9 := hn rfl; subst h9; simp at hlt
          | some a => exact ⟨a, rfl⟩
        have hcell := hc a rfl k _ (List.getElem?_eq_getElem hlt)
        have HT : Hid ((l.take (k + 1)).reverse = l[k] :: (l.take k).reverse) := by
          rw [List.take_add_one, List.getElem?_eq_getElem hlt]
          simp [Hid]
        generalize l[k] = t at *
        obtain ⟨b, rfl⟩ := HA.out.ptr
        have HW := hid hw
        clear hn hc hw
        go_wp2_with (first | (go_at_call 18; refine (wrap_any _ _ _ _).mono ?_; rintro e w' ⟨rfl, rfl⟩))
        go_roundw
        case rel =>
          have hb3 := (Below.refl wr.heap.size wr).alloc (Nat.le_refl _) (.cells #[.string t, .iface 43 (.pointer (some ⟨b, 0, none⟩))] 55)
          have hkp := Keeps.below hb3 (Nat.lt_of_lt_of_le HG.out.lt HB.out.size)
          refine ⟨k + 1, by omega, rfl, ?_, alloc_old HF.out, below_step HB.out hb3 (Nat.le_refl _)⟩
          rw [HT.out]
          exact ⟨wr.heap.size, _, rfl, alloc_at _ _, (HA.out.chain HF.out).rk_le, HA.out.kept hkp⟩
        case measure => simp [intOf]; omega
      · have hkl : k = l.length := by omega
        subst hkl
        have ha2 := HA.out
        rw [List.take_length] at ha2
        have HA2 := hid ha2
        have HLr : Hid (l.reverse.length = l.length) := List.length_reverse
        clear HA ha2 hk hlt
        go_wp2_with fail
        go_loopw [6, 8] (fun e i wq => ∃ j : Nat, j ≤ l.length ∧ i = .int .i64 j ∧ Around wq F code (l.reverse.drop j) e ∧ wq.heap[F]? = some (.cells #[.string firstName, .iface 22 (.int .i64 code)] 55 (0, 0)) ∧ Below w.heap.size w wq) (fun _ i _ => l.length - (intOf i).toNat)
        case atStart => exact ⟨0, Nat.zero_le _, rfl, HA2.out, HF.out, HB.out⟩
        case round =>
          clear HA2 HF HB
          obtain ⟨j, hj, rfl, har, hF, hb⟩ := hrel
          have HA := hid har
          have HF := hid hF
          have HB := hid hb
          clear har hF hb
          by_cases hlt : j < l.length
          · have hdr : l.reverse.drop j = l.reverse[j]'(by rw [HLr.out]; exact hlt) :: l.reverse.drop (j + 1) := List.drop_eq_getElem_cons _
            have ha2 := HA.out
            rw [hdr] at ha2
            generalize l.reverse[j]'(by rw [HLr.out]; exact hlt) = s at *
            clear HA hdr
            obtain ⟨b, c, rfl, hbb, hrk, har⟩ := ha2
            obtain ⟨bc, rfl⟩ := har.ptr
            have HRest := hid har
            have HRk := hid hrk
            have hwf : Chain wr ((s :: l.reverse.drop (j + 1)) ++ [firstName]) (.code code) (.iface 43 (.pointer (some ⟨b, 0, none⟩))) := ⟨b, _, rfl, hbb, hrk, har.chain HF.out⟩
            have hw0 : 0 < wr.heap.size := Nat.lt_of_lt_of_le HG.out.lt HB.out.size
            have hk0 : Keeps wr (wr.alloc (.cells #[.pointer none] 43)) := Keeps.below ((Below.refl _ _).alloc (Nat.le_refl _) _) hw0
            have hch0 := hwf.kept hk0
            have hb0 := hk0.errs _ _ _ (.inl rfl) hbb
            have hB0 := below_step HB.out ((Below.refl wr.heap.size wr).alloc (Nat.le_refl _) (.cells #[.pointer none] 43)) (Nat.le_refl _)
            have ht0 := alloc_at wr (.cells #[.pointer none] 43)
            have HRest0 := hid (har.kept hk0)
            have HF0 := hid (hk0.errs _ _ _ (.inl rfl) HF.out)
            clear hbb hrk har hwf hk0
            go_upto_region 13 with fail
            generalize wr.alloc (.cells #[.pointer none] 43) = W0 at *
            have HT := hid ht0
            have HC : Hid (∀ W, Keeps W0 W → Chain W ((s :: l.reverse.drop (j + 1)) ++ [firstName]) (.code code) (.iface 43 (.pointer (some ⟨b, 0, none⟩)))) := fun W hW => hch0.kept hW
            have HBb : Hid (∀ W, Keeps W0 W → W.heap[b]? = some (.cells #[.string s, .iface 43 (.pointer (some ⟨bc, 0, none⟩))] 55 (0, 0))) := fun W hW => hW.errs _ _ _ (.inl rfl) hb0
            have HR : Hid (∀ W, Keeps W0 W → Ready W) := fun W hW => (HG.out.kept (Keeps.below hB0 HG.out.lt)).kept hW
            have HB0 := hid hB0
            have hTB := HB.out.size
            generalize wr.heap.size = t at *
            have ht00 : t ≠ 0 := by omega
            have HTn := hid ht00
            have HTB := hid hTB
            clear hch0 hb0 hB0 ht0 hw0 ht00 hTB
            go_cut [67] from 43 to 67 (fun v wx => v = .bool false ∧ Keeps W0 wx ∧ Below w.heap.size w wx)
            case first =>
              have hK0 : Keeps W0 W0.drew := (Keeps.refl W0).drew 1
              have hS0 : Below w.heap.size w W0.drew := HB0.out.drew
              go_region_with (first
                | (go_at_call 16; refine (eas_fault (World.drew W0) t _ b s _ (HR.out _ hK0) (HBb.out _ hK0) HT.out).mono ?_; rintro e wa ⟨rfl, h1, g0⟩; have g1 := grown_undrew g0; clear g0; have hKa : Keeps W0 wa := (Keeps.grown g1 HT.out (by decide) HTn.out); have hSa : Below w.heap.size w wa := HB0.out.grown g1 HB0.out.size (fun k hk => by cases hk; exact HTB.out); have hP : TAt t b wa := h1; have q0 := hP.cell; clear h1 g1)
                | (go_at_call 20; refine (enew_some _ _).mono ?_; rintro e wa ⟨bx, rfl, ha⟩; have hKa : Keeps W0 wa := Keeps.trans (by assumption) (Keeps.below ha (HR.out _ (by assumption)).lt); have hSa : Below w.heap.size w wa := below_step (by assumption) ha (Nat.le_refl _); have hP : TAt t b wa := tat_step (by assumption) ha; have q0 := hP.cell; clear ha)
                | (go_at_call 19; refine (mis_both _ _ code b _ (HR.out _ (by assumption)) (HC.out _ (by assumption)) (by first | exact .inl ⟨_, rfl⟩ | exact .inr ⟨_, rfl⟩)).mono ?_; rintro e wa ⟨rfl, ha⟩; simp only [hitB, beq_self_eq_true]; have hKa : Keeps W0 wa := Keeps.trans (by assumption) (Keeps.below ha (HR.out _ (by assumption)).lt); have hSa : Below w.heap.size w wa := below_step (by assumption) ha (Nat.le_refl _); have hP : TAt t b wa := tat_step (by assumption) ha; have q0 := hP.cell; clear ha)
                | (go_at_call 21; refine (munwrap_any b s _ _ (HBb.out _ (by assumption))).mono ?_; rintro e wa ⟨rfl, rfl⟩))
              all_goals (go_wp2_with fail)
              all_goals (simp only [Act.put, List.getElem_toArray, List.getElem_cons_succ, List.getElem_cons_zero, List.setIfInBounds_toArray, List.set_cons_succ, List.set_cons_zero])
              all_goals go_meet
              all_goals (exact ⟨rfl, by assumption, by assumption⟩)
            case rest =>
              obtain ⟨rfl, hK, hS⟩ := hcut
              have HS := hid hS
              have HBc := hid (HBb.out _ hK)
              have HRe := hid (HRest0.out.kept hK)
              have HFc := hid (hK.errs _ _ _ (.inl rfl) HF0.out)
              clear hK hS
              go_wp2_with (first | (go_at_call 22; refine (eunwrap_any b s _ _ HBc.out).mono ?_; rintro e w' ⟨rfl, rfl⟩))
              go_roundw
              case rel => exact ⟨j + 1, by omega, rfl, HRe.out, HFc.out, HS.out⟩
              case measure => simp [intOf]; omega
          · have hjl : j = l.length := by omega
            subst hjl
            have ha2 := HA.out
            rw [List.drop_of_length_le (by rw [HLr.out]; exact Nat.le_refl _)] at ha2
            obtain rfl := ha2
            have hE := eqlFault F
            have hC := eqlErrno code code
            have HFh := hid HF.out
            clear hlt
            go_wp2_with (first
              | (go_at_call 22; refine (eunwrap_any F firstName _ _ HFh.out).mono ?_; rintro e w' ⟨rfl, rfl⟩)
              | (go_at_call 17; refine (new_ok _ _).mono ?_; rintro e w' ⟨rfl, rfl⟩))
            go_ret
            exact ⟨rfl, HB.out⟩
end Go.Proofs.YtombgehopopdfaaDoor.faultUnwraps
