/-
  THE LAW FaultSays: the walk.
-/
import Derived.Test.YtombgehopopdfaaDoorTells0
import Derived.BigQuiet
import Derived.Deep.RegionHeld3
set_option linter.unusedVariables false
namespace Go.Proofs.YtombgehopopdfaaDoor.faultSaysUpto
open Go.RowKit Go.Extern.Stop Go.Stop Go.Extern

theorem where_len (w : World) (l : List ByteArray) (d : End) (e : Value) (hg : Ready w) (hc : Chain w l d e) (hl : l.length ≤ 1000) :
    Calls Tryd.prog 12 #[e] w fun ev w' => ∃ ao c, ev = .returned (.slice ao l.length c) ∧ Below w.heap.size w w' := by
  refine (where_any w l d e hg hc hl).mono ?_
  rintro ev w' ⟨x, rfl, h1, h2⟩
  obtain ⟨ao, c, rfl, _⟩ := strs_of_own h1
  exact ⟨ao, c, rfl, h2⟩

/-- The texts lie one behind the other. -/
theorem text_more (more : ByteArray) (l : List ByteArray) (d : End) : (⟨(textL (more :: l) d).toArray⟩ : ByteArray) = more ++ ⟨#[58, 32]⟩ ++ ⟨(textL l d).toArray⟩ := by
  symm
  refine ba_ext ?_
  rw [ba_append, ba_append]
  simp [textL, lineL]

set_option maxHeartbeats 4000000 in
set_option maxRecDepth 100000 in
theorem walk (K code : Int) (o : ByteArray) (x : Value) (l : List ByteArray) (more : ByteArray) (w : World) (hg : Ready w) (ho : o.size ≤ 1048576) (hx : Strs w x l) (hcap : ∀ ao n c, x = .slice ao n c → n ≤ c) (hs : Small l) (hm : more.size ≤ 1048576) :
    Calls Tryd.prog 7 #[.int .i64 K, .int .i64 code, .string o, x, .string more] w fun e w' => e = .returned (.bool true) ∧ Below w.heap.size w w' := by
  have HG := hid hg
  have HX := hid hx
  have HCap := hid hcap
  have HSm := hid hs
  have HO := hid ho
  have HM := hid hm
  clear hg hx hcap hs ho hm
  go_enter Tryd.func7, Tryd.ntmps7
  go_wp2_with fail
  refine (made_any K code o x l w HG.out.lt HX.out HCap.out).mono ?_
  rintro e w1 ⟨hb1, he⟩
  rcases he with rfl | ⟨l', d, kk, v, xv, rfl, hch, hstr, hlen, hmem, hkd⟩
  · unfold chainV
    have HB := hid (below_step hb1 ((Below.refl _ _).alloc (Nat.le_refl _) (.cells #[.slice none 0 0, .int .i64 code, .string o, .int .i64 0] 27)) (Nat.le_refl _))
    go_upto_region 2 with fail
    generalize w1.alloc (.cells #[.slice none 0 0, .int .i64 code, .string o, .int .i64 0] 27) = w2 at *
    have HR : Hid (∀ W, Below w2.heap.size w2 W → Ready W) := fun W hW => HG.out.kept (Keeps.below (below_step HB.out hW (Nat.le_refl _)) HG.out.lt)
    have hb0 := Below.refl w2.heap.size w2
    clear hb1
    go_wp2_with (first
      | (go_at_call 9; refine (awake_any _ (HR.out _ (by assumption))).mono ?_; rintro e wa ⟨rfl, ha⟩; have hq : Below w2.heap.size w2 wa := below_step (by assumption) ha (Nat.le_refl _); clear ha)
      | (go_at_call 18; refine (wrap_nil _ _).mono ?_; rintro e wa ⟨rfl, rfl⟩))
    go_ret
    exact ⟨rfl, below_step HB.out (by assumption) (Nat.le_refl _)⟩
  · obtain ⟨T, vx, rfl⟩ := hch.shape
    obtain ⟨ao, cp, rfl, hnn, hcc⟩ := hstr
    have HKd : Hid (EndOf code o kk d) := hkd
    have HMs := hid (made_small HSm.out HO.out hmem hlen hkd)
    have HLen := hid hlen
    unfold chainV
    have HB := hid (below_step hb1 ((Below.refl _ _).alloc (Nat.le_refl _) (.cells #[.slice ao l'.length cp, .int .i64 code, .string o, .int .i64 kk] 27)) (Nat.le_refl _))
    have hz := alloc_at w1 (.cells #[.slice ao l'.length cp, .int .i64 code, .string o, .int .i64 kk] 27)
    have hbz := (Below.refl w1.heap.size w1).alloc (Nat.le_refl _) (.cells #[.slice ao l'.length cp, .int .i64 code, .string o, .int .i64 kk] 27)
    have hch2 := hch.kept (Keeps.below hbz (Nat.lt_of_lt_of_le HG.out.lt hb1.size))
    have hst2 : Strs _ (.slice ao l'.length cp) l' := Strs.old (w := w1) ⟨ao, cp, rfl, hnn, hcc⟩ hbz
    go_upto_region 2 with fail
    generalize w1.alloc (.cells #[.slice ao l'.length cp, .int .i64 code, .string o, .int .i64 kk] 27) = w2 at *
    have hr2 : Ready w2 := HG.out.kept (Keeps.below HB.out HG.out.lt)
    have HR2 := hid hr2
    have HCh2 := hid hch2
    have HSt2 := hid hst2
    have HZ2 := hid hz
    clear hb1 hz hch hch2 hlen hkd hmem hnn hcc hst2 hbz hr2
    go_wp2_with (first
      | (go_at_call 9; refine (awake_any _ HR2.out).mono ?_; rintro e wa ⟨rfl, ha⟩; have HA := hid ha; clear ha)
      | (go_at_call 18; refine (wrap_any _ _ _ _).mono ?_; rintro e wb ⟨rfl, rfl⟩)
      | fail)
    have hka := Keeps.below HA.out HR2.out.lt
    have hwa0 : 0 < wa.heap.size := Nat.lt_of_lt_of_le HR2.out.lt HA.out.size
    have hbf := (Below.refl wa.heap.size wa).alloc (Nat.le_refl _) (.cells #[.string more, .iface T vx] 55)
    have hcf := (HCh2.out.kept hka).cons hwa0 more
    have hce := (HCh2.out.kept hka).kept (Keeps.below hbf hwa0)
    have hstf := (HSt2.out.old HA.out).old hbf
    have hzf : (wa.alloc (.cells #[.string more, .iface T vx] 55)).heap[w1.heap.size]? = _ := alloc_old (by rw [HA.out.block _ (lt_of_block HZ2.out)]; exact HZ2.out)
    have hrf := (HR2.out.kept hka).kept (Keeps.below hbf hwa0)
    have HB3 := hid (below_step (below_step HB.out HA.out (Nat.le_refl _)) hbf (Nat.le_refl _))
    generalize wa.alloc (.cells #[.string more, .iface T vx] 55) = w3 at *
    generalize wa.heap.size = F at *
    have HR : Hid (∀ W, Below w3.heap.size w3 W → Ready W) := fun W hW => hrf.kept (Keeps.below hW hrf.lt)
    have HCF : Hid (∀ W, Below w3.heap.size w3 W → Chain W (more :: l') d (.iface 43 (.pointer (some ⟨F, 0, none⟩)))) := fun W hW => hcf.kept (Keeps.below hW hrf.lt)
    have HCE : Hid (∀ W, Below w3.heap.size w3 W → Chain W l' d (.iface T vx)) := fun W hW => hce.kept (Keeps.below hW hrf.lt)
    have HSt : Hid (∀ W, Below w3.heap.size w3 W → Strs W (.slice ao l'.length cp) l') := fun W hW => hstf.old hW
    have HZ : Hid (∀ W, Below w3.heap.size w3 W → W.heap[w1.heap.size]? = some (.cells #[.slice ao l'.length cp, .int .i64 code, .string o, .int .i64 kk] 27 (0, 0))) := fun W hW => by rw [hW.block _ (lt_of_block hzf)]; exact hzf
    have HL1 : Hid (l'.length ≤ 1000) := by have := HLen.out; unfold Hid; omega
    have HL2 : Hid ((more :: l').length ≤ 1000) := by have := HLen.out; unfold Hid; simp; omega
    have hTs : (⟨(textL l' d).toArray⟩ : ByteArray).size ≤ 30000000 := by have h1 := sz ⟨(textL l' d).toArray⟩; have h2 := HMs.out.2; simp only at h1; rw [h1]; simpa using h2
    have HTF : Hid ((textL (more :: l') d).length ≤ 40000000) := by
      have h2 := HMs.out.2; have h3 := HM.out; have h4 := sz more
      have h5 : (textL (more :: l') d).length = more.data.toList.length + 2 + (textL l' d).length := by simp [textL, lineL]; omega
      unfold Hid; omega
    have HErrF : Hid (∀ W, Below w3.heap.size w3 W → Calls Tryd.prog 25 #[.pointer (some ⟨F, 0, none⟩)] W fun e w' => e = .returned (.string (more ++ ⟨#[58, 32]⟩ ++ ⟨(textL l' d).toArray⟩)) ∧ Below W.heap.size W w') := fun W hW => by
      have h := merror_any W (more :: l') d F (HCF.out _ hW) (HR.out _ hW).lt (by have := HTF.out; omega)
      rw [text_more] at h
      exact h
    have HErrE : Hid (∀ W, Below w3.heap.size w3 W → Calls Tryd.prog (errFn (.iface T vx)) #[vx] W fun e w' => e = .returned (.string ⟨(textL l' d).toArray⟩) ∧ Below W.heap.size W w') := fun W hW => error_any W l' d T vx (HR.out _ hW).lt (HCE.out _ hW) HMs.out.2
    have HText : Hid (∀ W, Below w3.heap.size w3 W → Calls Tryd.prog 13 #[.agg #[.slice ao l'.length cp, .int .i64 code, .string o, .int .i64 kk]] W fun e w' => e = .returned (.string ⟨(textL l' d).toArray⟩) ∧ Below W.heap.size W w') := fun W hW => rtext_end _ l' code o kk d W (HSt.out _ hW) HL1.out HMs.out.1 HO.out HKd.out
    have HCode : Hid (∀ W v, Below w3.heap.size w3 W → (v = .iface 43 (.pointer (some ⟨F, 0, none⟩)) ∨ v = .iface T vx) → Calls Tryd.prog 10 #[v] W fun e w' => e = .returned (.int .i64 (codeOf d)) ∧ Below W.heap.size W w') := fun W v hW hv => by
      rcases hv with rfl | rfl
      · exact code_any W _ d _ (HR.out _ hW) (HCF.out _ hW)
      · exact code_any W _ d _ (HR.out _ hW) (HCE.out _ hW)
    have hT := chain_type (HCE.out _ (Below.refl _ _))
    have HT := hid hT
    generalize (⟨(textL l' d).toArray⟩ : ByteArray) = TX at *
    have e1 : ¬ (more.size + 2 > 9223372036854775807) := by have := HM.out; omega
    have e2 : ¬ (more.size + 2 + TX.size > 9223372036854775807) := by have := HM.out; omega
    have HE1 := hid e1
    have HE2 := hid e2
    clear hka hwa0 hbf hcf hce hstf hzf hrf hTs hT e1 e2
    refine (where_any _ (more :: l') d _ (HR.out _ (Below.refl _ _)) (HCF.out _ (Below.refl _ _)) HL2.out).mono ?_
    rintro e w5 ⟨x5, rfl, h5, hb5⟩
    have HB5 := hid hb5
    obtain ⟨g5, cap5, rfl, hg5⟩ : ∃ g5 cap5, x5 = .slice (some ⟨g5, 0, none⟩) (l'.length + 1) cap5 ∧ w5.cell? ⟨g5, 0, none⟩ = some (.string more) := by
      rcases h5.2 with ⟨_, h0⟩ | ⟨g, cap, cur, hv, hb, hh, hn, hc, hsz, ht⟩
      · simp at h0
      · refine ⟨g, cap, by simpa using hv, ?_⟩
        rw [cell_of_row w5 g 0 cur 9 (0, 0) hh]
        have h3 : ((more :: l').map Value.string)[0]? = some (.string more) := rfl
        rw [← ht, List.getElem?_take] at h3
        split at h3
        · simpa using h3
        · cases h3
    have HG5 := hid hg5
    have hlt5 := World.block_lt_of_cell? w5 _ hg5
    have HCell : Hid (∀ W, Below w5.heap.size w5 W → W.cell? ⟨g5, 0, none⟩ = some (.string more)) := fun W hW => by rw [hW.cell (p := ⟨g5, 0, none⟩) hlt5]; exact HG5.out
    clear h5 hb5 hg5 hlt5
    go_upto_region 6 with fail
    go_cut [68] from 41 to 68 (fun s wx => s = .bool false ∧ Below w5.heap.size w5 wx)
    case first =>
      have mE := methodErrorF
      have e1 := HE1.out
      have e2 := HE2.out
      have hw1 : IntKind.i64.wrap ((l'.length : Int) + 1) = (l'.length : Int) + 1 := by have := HLen.out; rw [IntKind.wrap_i64]; omega
      have hw2 : wrap64 ((l'.length : Int) + 1) = (l'.length : Int) + 1 := by have := HLen.out; simp only [wrap64]; omega
      have hpos : (0 : Int) < (l'.length : Int) + 1 := by omega
      have hbb : (more.toList == more.toList) = true := beq_self_eq_true _
      have hbt : ((more ++ ⟨#[58, 32]⟩ ++ TX).toList == (more ++ ⟨#[58, 32]⟩ ++ TX).toList) = true := beq_self_eq_true _
      have hb0 : Below w5.heap.size w5 w5 := Below.refl _ _
      have HKp : Hid (∀ W, Below w5.heap.size w5 W → (Below w5.heap.size w5 W ∧ W.cell? ⟨w1.heap.size, 0, none⟩ = some (.slice ao l'.length cp) ∧ W.cell? ⟨w1.heap.size, 1, none⟩ = some (.int .i64 code) ∧ W.cell? ⟨w1.heap.size, 2, none⟩ = some (.string o) ∧ W.cell? ⟨w1.heap.size, 3, none⟩ = some (.int .i64 kk) ∧ W.cell? ⟨g5, 0, none⟩ = some (.string more))) := fun W hW => by
        obtain ⟨c0, c1, c2, c3, -⟩ := four_cells (HZ.out _ (below_step HB5.out hW (Nat.le_refl _)))
        exact ⟨hW, c0, c1, c2, c3, HCell.out _ hW⟩
      have HUp : Hid (∀ W, Below w5.heap.size w5 W → Below w3.heap.size w3 W) := fun W hW => below_step HB5.out hW (Nat.le_refl _)
      obtain ⟨-, c0, c1, c2, c3, q0⟩ := HKp.out _ hb0
      go_region_held3 (fun W => Below w5.heap.size w5 W ∧ W.cell? ⟨w1.heap.size, 0, none⟩ = some (.slice ao l'.length cp) ∧ W.cell? ⟨w1.heap.size, 1, none⟩ = some (.int .i64 code) ∧ W.cell? ⟨w1.heap.size, 2, none⟩ = some (.string o) ∧ W.cell? ⟨w1.heap.size, 3, none⟩ = some (.int .i64 kk) ∧ W.cell? ⟨g5, 0, none⟩ = some (.string more))
        (first | (go_split_ands; first | exact HKp.out _ (by assumption) | exact HKp.out _ (Below.drew (by assumption)) | exact HKp.out _ (below_step (by assumption) (by assumption) (Nat.le_refl _))) | go_keep)
        (first
          | (go_at_call 25; go_split_ands; refine (HErrF.out _ (HUp.out _ (by assumption))).mono ?_; rintro e wa ⟨rfl, ha⟩)
          | (go_at_call 13; go_split_ands; refine (HText.out _ (HUp.out _ (by assumption))).mono ?_; rintro e wa ⟨rfl, ha⟩))
      all_goals (go_wp2_with fail)
      all_goals go_meet
      all_goals (go_split_ands; exact ⟨rfl, by first | assumption | exact below_step (by assumption) (by assumption) (Nat.le_refl _)⟩)
    case rest =>
      obtain ⟨rfl, hq⟩ := hcut
      have HQ5 := hid hq
      have HQ := hid (below_step HB5.out hq (Nat.le_refl _))
      clear hq
      go_wp2_with fail
      rcases HT.out with rfl | rfl | rfl
      · have HE : Hid (∀ W, Below w3.heap.size w3 W → Calls Tryd.prog 25 #[vx] W fun e w' => e = .returned (.string TX) ∧ Below W.heap.size W w') := HErrE.out
        have mE := methodErrorF
        have hb0 : Below w3.heap.size w3 wc := HQ.out
        have hbt : (TX.toList == TX.toList) = true := beq_self_eq_true _
        have HKp : Hid (∀ W, Below w3.heap.size w3 W → (Below w3.heap.size w3 W ∧ W.cell? ⟨w1.heap.size, 0, none⟩ = some (.slice ao l'.length cp) ∧ W.cell? ⟨w1.heap.size, 1, none⟩ = some (.int .i64 code) ∧ W.cell? ⟨w1.heap.size, 2, none⟩ = some (.string o) ∧ W.cell? ⟨w1.heap.size, 3, none⟩ = some (.int .i64 kk))) := fun W hW => by
          obtain ⟨c0, c1, c2, c3, -⟩ := four_cells (HZ.out _ hW)
          exact ⟨hW, c0, c1, c2, c3⟩
        obtain ⟨-, c0, c1, c2, c3⟩ := HKp.out _ hb0
        go_region_held3 (fun W => Below w3.heap.size w3 W ∧ W.cell? ⟨w1.heap.size, 0, none⟩ = some (.slice ao l'.length cp) ∧ W.cell? ⟨w1.heap.size, 1, none⟩ = some (.int .i64 code) ∧ W.cell? ⟨w1.heap.size, 2, none⟩ = some (.string o) ∧ W.cell? ⟨w1.heap.size, 3, none⟩ = some (.int .i64 kk))
          (first | (go_split_ands; first | exact HKp.out _ (by assumption) | exact HKp.out _ (Below.drew (by assumption)) | exact HKp.out _ (below_step (by assumption) (by assumption) (Nat.le_refl _))) | go_keep)
          (first
            | (go_at_call 25; go_split_ands; refine (HE.out _ (by assumption)).mono ?_; rintro e wa ⟨rfl, ha⟩)
            | (go_at_call 13; go_split_ands; refine (HText.out _ (by assumption)).mono ?_; rintro e wa ⟨rfl, ha⟩)
            | (go_at_call 12; go_split_ands; refine (where_len _ l' d _ (HR.out _ (by assumption)) (HCE.out _ (by assumption)) HL1.out).mono ?_; rintro e wa ⟨aw, cw, rfl, ha⟩)
            | (go_at_call 10; go_split_ands; refine (HCode.out _ _ (by assumption) (by first | exact .inl rfl | exact .inr rfl)).mono ?_; rintro e wa ⟨rfl, ha⟩))
        all_goals (go_wp2_with fail)
        all_goals go_ret
        all_goals (go_split_ands; exact ⟨rfl, below_step HB3.out (by first | assumption | exact below_step (by assumption) (by assumption) (Nat.le_refl _)) (Nat.le_refl _)⟩)
      · have HE : Hid (∀ W, Below w3.heap.size w3 W → Calls Tryd.prog 26 #[vx] W fun e w' => e = .returned (.string TX) ∧ Below W.heap.size W w') := HErrE.out
        have mE := methodErrorC
        have hb0 : Below w3.heap.size w3 wc := HQ.out
        have hbt : (TX.toList == TX.toList) = true := beq_self_eq_true _
        have HKp : Hid (∀ W, Below w3.heap.size w3 W → (Below w3.heap.size w3 W ∧ W.cell? ⟨w1.heap.size, 0, none⟩ = some (.slice ao l'.length cp) ∧ W.cell? ⟨w1.heap.size, 1, none⟩ = some (.int .i64 code) ∧ W.cell? ⟨w1.heap.size, 2, none⟩ = some (.string o) ∧ W.cell? ⟨w1.heap.size, 3, none⟩ = some (.int .i64 kk))) := fun W hW => by
          obtain ⟨c0, c1, c2, c3, -⟩ := four_cells (HZ.out _ hW)
          exact ⟨hW, c0, c1, c2, c3⟩
        obtain ⟨-, c0, c1, c2, c3⟩ := HKp.out _ hb0
        go_region_held3 (fun W => Below w3.heap.size w3 W ∧ W.cell? ⟨w1.heap.size, 0, none⟩ = some (.slice ao l'.length cp) ∧ W.cell? ⟨w1.heap.size, 1, none⟩ = some (.int .i64 code) ∧ W.cell? ⟨w1.heap.size, 2, none⟩ = some (.string o) ∧ W.cell? ⟨w1.heap.size, 3, none⟩ = some (.int .i64 kk))
          (first | (go_split_ands; first | exact HKp.out _ (by assumption) | exact HKp.out _ (Below.drew (by assumption)) | exact HKp.out _ (below_step (by assumption) (by assumption) (Nat.le_refl _))) | go_keep)
          (first
            | (go_at_call 26; go_split_ands; refine (HE.out _ (by assumption)).mono ?_; rintro e wa ⟨rfl, ha⟩)
            | (go_at_call 13; go_split_ands; refine (HText.out _ (by assumption)).mono ?_; rintro e wa ⟨rfl, ha⟩)
            | (go_at_call 12; go_split_ands; refine (where_len _ l' d _ (HR.out _ (by assumption)) (HCE.out _ (by assumption)) HL1.out).mono ?_; rintro e wa ⟨aw, cw, rfl, ha⟩)
            | (go_at_call 10; go_split_ands; refine (HCode.out _ _ (by assumption) (by first | exact .inl rfl | exact .inr rfl)).mono ?_; rintro e wa ⟨rfl, ha⟩))
        all_goals (go_wp2_with fail)
        all_goals go_ret
        all_goals (go_split_ands; exact ⟨rfl, below_step HB3.out (by first | assumption | exact below_step (by assumption) (by assumption) (Nat.le_refl _)) (Nat.le_refl _)⟩)
      · have HE : Hid (∀ W, Below w3.heap.size w3 W → Calls Tryd.prog 60 #[vx] W fun e w' => e = .returned (.string TX) ∧ Below W.heap.size W w') := HErrE.out
        have mE := methodErrorS
        have hb0 : Below w3.heap.size w3 wc := HQ.out
        have hbt : (TX.toList == TX.toList) = true := beq_self_eq_true _
        have HKp : Hid (∀ W, Below w3.heap.size w3 W → (Below w3.heap.size w3 W ∧ W.cell? ⟨w1.heap.size, 0, none⟩ = some (.slice ao l'.length cp) ∧ W.cell? ⟨w1.heap.size, 1, none⟩ = some (.int .i64 code) ∧ W.cell? ⟨w1.heap.size, 2, none⟩ = some (.string o) ∧ W.cell? ⟨w1.heap.size, 3, none⟩ = some (.int .i64 kk))) := fun W hW => by
          obtain ⟨c0, c1, c2, c3, -⟩ := four_cells (HZ.out _ hW)
          exact ⟨hW, c0, c1, c2, c3⟩
        obtain ⟨-, c0, c1, c2, c3⟩ := HKp.out _ hb0
        go_region_held3 (fun W => Below w3.heap.size w3 W ∧ W.cell? ⟨w1.heap.size, 0, none⟩ = some (.slice ao l'.length cp) ∧ W.cell? ⟨w1.heap.size, 1, none⟩ = some (.int .i64 code) ∧ W.cell? ⟨w1.heap.size, 2, none⟩ = some (.string o) ∧ W.cell? ⟨w1.heap.size, 3, none⟩ = some (.int .i64 kk))
          (first | (go_split_ands; first | exact HKp.out _ (by assumption) | exact HKp.out _ (Below.drew (by assumption)) | exact HKp.out _ (below_step (by assumption) (by assumption) (Nat.le_refl _))) | go_keep)
          (first
            | (go_at_call 60; go_split_ands; refine (HE.out _ (by assumption)).mono ?_; rintro e wa ⟨rfl, ha⟩)
            | (go_at_call 13; go_split_ands; refine (HText.out _ (by assumption)).mono ?_; rintro e wa ⟨rfl, ha⟩)
            | (go_at_call 12; go_split_ands; refine (where_len _ l' d _ (HR.out _ (by assumption)) (HCE.out _ (by assumption)) HL1.out).mono ?_; rintro e wa ⟨aw, cw, rfl, ha⟩)
            | (go_at_call 10; go_split_ands; refine (HCode.out _ _ (by assumption) (by first | exact .inl rfl | exact .inr rfl)).mono ?_; rintro e wa ⟨rfl, ha⟩))
        all_goals (go_wp2_with fail)
        all_goals go_ret
        all_goals (go_split_ands; exact ⟨rfl, below_step HB3.out (by first | assumption | exact below_step (by assumption) (by assumption) (Nat.le_refl _)) (Nat.le_refl _)⟩)
end Go.Proofs.YtombgehopopdfaaDoor.faultSaysUpto
