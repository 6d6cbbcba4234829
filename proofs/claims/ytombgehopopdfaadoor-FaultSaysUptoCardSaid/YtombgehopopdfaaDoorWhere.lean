/-
  fault.Where.
-/
import Derived.Test.YtombgehopopdfaaDoorRText
set_option linter.unusedVariables false
namespace Go.Proofs.YtombgehopopdfaaDoor
open Go.RowKit Go.Extern.Stop Go.Stop Go.Extern

theorem strInfo : (Tryd.prog.info? 9).map (fun i => (i.zero, i.size, i.bytes)) = some (some (.string .empty), 1, 16) := by kernel_rfl

theorem strs_of_own {w : World} {base : Nat} {x : Value} {l : List ByteArray} (h : w.ownsRow base 9 1 x l.length (l.map Value.string)) : Strs w x l := by
  obtain ⟨h1, h2⟩ := h
  rcases h2 with ⟨rfl, hn⟩ | ⟨g, cap, cur, rfl, hb, hg, hn, hc, hs, ht⟩
  · obtain rfl : l = [] := List.eq_nil_of_length_eq_zero hn
    exact ⟨none, 0, rfl, fun _ => rfl, fun a h => by cases h⟩
  · refine ⟨some ⟨g, 0, none⟩, cap, rfl, (fun h => by cases h), fun a ha => ?_⟩
    cases ha
    intro j u hu
    rw [WideShapes.add_plain, Nat.zero_add, cell_of_row w g j cur 9 (0, 0) hg]
    have h3 : (l.map Value.string)[j]? = some (.string u) := by rw [List.getElem?_map, hu]; rfl
    rw [← ht, List.getElem?_take] at h3
    split at h3
    · simpa using h3
    · cases h3

theorem Keeps.own {w w' : World} {base : Nat} {v : Value} {n : Nat} {xs : List Value} (h : w.ownsRow base 9 1 v n xs) (hb : 0 < base) (hg : w.grownBy w' v.ownBlock) (h0 : 0 < w.heap.size) : Keeps w w' := by
  rcases h.2 with ⟨rfl, _⟩ | ⟨g, cap, cur, rfl, hb2, hh, _⟩
  · exact ⟨hg.block 0 h0 (by simp [Value.ownBlock]), fun k cs T _ hk => by rw [hg.block k (lt_of_block hk) (by simp [Value.ownBlock])]; exact hk⟩
  · exact Keeps.grown (t := g) hg hh (by decide) (by omega)
theorem own_ne {w : World} {base : Nat} {v : Value} {n : Nat} {xs : List Value} (h : w.ownsRow base 9 1 v n xs) {k : Nat} (hk : k < base) : some k ≠ v.ownBlock := by
  rcases h.2 with ⟨rfl, _⟩ | ⟨g, cap, cur, rfl, hb2, _⟩
  · simp [Value.ownBlock]
  · simp [Value.ownBlock]; omega

theorem where_nil (w : World) : Calls Tryd.prog 12 #[.nilIface] w fun e w' => e = .returned (.slice none 0 0) ∧ Below w.heap.size w w' := by
  have HB := hid ((Below.refl w.heap.size w).alloc (Nat.le_refl _) (.cells #[.pointer none] 43))
  go_enter Tryd.func12, Tryd.ntmps12
  go_wp2_with fail
  refine wp_loop_rounds 1 ?_
  rw [rounds_succ]
  go_wp2_with (first | (go_at_call 16; refine (eas_nil _ _).mono ?_; rintro e w' ⟨rfl, rfl⟩))
  go_ret
  exact ⟨rfl, HB.out⟩

set_option maxHeartbeats 4000000 in
set_option maxRecDepth 100000 in
theorem where_any (w : World) (l : List ByteArray) (d : End) (e : Value) (hg : Ready w) (hc : Chain w l d e) (hl : l.length ≤ 1000) :
    Calls Tryd.prog 12 #[e] w fun ev w' => ∃ x, ev = .returned x ∧ w'.ownsRow w.heap.size 9 1 x l.length (l.map Value.string) ∧ Below w.heap.size w w' := by
  obtain ⟨i0, hi, hz0, hz1, hz2⟩ := info_parts strInfo
  have hB := (Below.refl w.heap.size w).alloc (Nat.le_refl _) (.cells #[.pointer none] 43)
  have hK := Keeps.below hB hg.lt
  have HG := hid (hg.kept hK)
  have HC := hid (hc.kept hK)
  have HT := hid (alloc_at w (.cells #[.pointer none] 43))
  have HB := hid hB
  have HL := hid hl
  have H0 := hid hg.lt
  clear hc hg hK hB hl
  go_enter Tryd.func12, Tryd.ntmps12
  go_wp2_with fail
  go_loopw [0, 3] (fun x o wr => ∃ (pre l' : List ByteArray) (old : Value), pre ++ l' = l ∧ Chain wr l' d x ∧ wr.ownsRow (w.heap.size + 1) 9 1 o pre.length (pre.map Value.string) ∧ wr.heap[w.heap.size]? = some (.cells #[old] 43 (0, 0)) ∧ Below w.heap.size w wr ∧ Ready wr) (fun x _ _ => rk x)
  case atStart => exact ⟨[], l, _, rfl, HC.out, World.ownsRow_nil _ _ _ _, HT.out, HB.out, HG.out⟩
  case round =>
    obtain ⟨pre, l', old, hl, hch, hown, hft, hbw, hrd⟩ := hrel
    have HO := hid hown
    have HF := hid hft
    have HW := hid hbw
    have HR := hid hrd
    have HP := hid hl
    clear hown hft hbw hrd hl
    cases l' with
    | nil =>
      have hE : Ends wr d _ := hch
      have HE := hid hE
      clear hE hch
      go_wp2_with (first | (go_at_call 16; refine (eas_none _ w.heap.size _ d _ HR.out HE.out HF.out).mono ?_))
      rintro ev w1 ⟨rfl, h1⟩
      have H1 := hid h1
      clear h1
      go_wp2
      go_ret
      have hp := HP.out
      rw [List.append_nil] at hp
      subst hp
      exact ⟨_, rfl, ownsRow_base (own_old HO.out H1.out) (by omega), HW.out.trans (H1.out.mono HW.out.size)⟩
    | cons s r =>
      obtain ⟨b, c, rfl, hb, hrk, hr⟩ := hch
      obtain ⟨T, x, rfl⟩ := hr.shape
      have HH := hid hb
      have HK := hid hrk
      have HN := hid hr
      clear hb hrk hr
      go_wp2_with (first | (go_at_call 16; refine (eas_fault _ w.heap.size _ b s _ HR.out HH.out HF.out).mono ?_))
      rintro ev w1 ⟨rfl, h1, g1⟩
      have hkp : Keeps wr w1 := Keeps.grown g1 HF.out (by decide) (by have := H0.out; omega)
      have HF1 := hid h1
      have HO1 := hid (HO.out.kept g1 (by
        rcases HO.out.2 with ⟨hv, _⟩ | ⟨g, cap, cur, hv, hg, _⟩
        · left; rw [hv]; rfl
        · right; rw [hv]; simp [Value.ownBlock]; omega))
      have HW1 := hid (HW.out.grown g1 HW.out.size (fun k hk => by cases hk; exact Nat.le_refl _))
      have HH1 := hkp.errs _ _ _ (.inl rfl) HH.out
      have c0 := (one_cell h1).1
      have c1 := (two_cells HH1).1
      have c2 := (two_cells HH1).2.1
      have HKp := hid hkp
      have HHh := hid HH1
      clear h1 g1 hkp HH1
      go_wp2_with (at_builtin; refine wpList_append_own _ rfl _ _ 23 rfl (w.heap.size + 1) 9 i0 (.string .empty) 1 16 Tryd.underlying23 hi hz0 hz1 hz2 rfl (by decide) _ _ _ rfl (own_old HO1.out ((Below.refl _ _).alloc (Nat.le_refl _) _)) ⟨w1.heap.size, 0, none⟩ 1 1 [.string s] rfl rfl ?c1 ?c2 ?c3 ?c4 ?c5 ?_)
      case c1 =>
        intro j u hj
        match j, hj with
        | 0, hj => simp at hj; subst hj; simp [Addr.add]
      case c2 => intro u hu; simp at hu; subst hu; rfl
      case c3 => have h1 := congrArg List.length HP.out; have h2 := HL.out; simp at h1; unfold maxLen; omega
      case c4 => have h1 := congrArg List.length HP.out; have h2 := HL.out; simp at h1; omega
      case c5 => have h1 := lt_of_block HF1.out; simp; omega
      intro v' w3 hown3 hg3 _
      have hown2 := own_old HO1.out ((Below.refl _ _).alloc (Nat.le_refl _) (.cells #[.string s] 9))
      have hlt := lt_of_block HF1.out
      have hk3 : Keeps w1 w3 := (Keeps.below ((Below.refl _ _).alloc (Nat.le_refl _) (.cells #[.string s] 9)) (by omega)).trans (Keeps.own hown2 (Nat.succ_pos _) hg3 (by simp))
      have hf3 : w3.heap[w.heap.size]? = some (.cells #[.pointer (some ⟨b, 0, none⟩)] 43 (0, 0)) := heap_kept hg3 (alloc_old HF1.out) (own_ne hown2 (Nat.lt_succ_self _))
      have d0 := (one_cell hf3).1
      have d2 := (two_cells (hk3.errs _ _ _ (.inl rfl) HHh.out)).2.1
      have HW3 := hid ((HW1.out.alloc HW1.out.size (.cells #[.string s] 9)).grown hg3 (by have := HW1.out.size; simp; omega) (fun k hk => by
        rcases hown2.2 with ⟨hv, _⟩ | ⟨g, cap, cur, hv, hg, _⟩
        · rw [hv] at hk; cases hk
        · rw [hv] at hk; simp [Value.ownBlock] at hk; omega))
      have HO3 := hid hown3
      have HF3 := hid hf3
      have HK3 := hid hk3
      clear hown3 hg3 hown2 hk3 hf3 hlt c0 c1 c2
      go_wp2
      go_roundw
      case rel => exact ⟨pre ++ [s], r, _, by rw [← HP.out]; simp, HN.out.kept (HKp.out.trans HK3.out), by simpa using HO3.out, HF3.out, HW3.out, HR.out.kept (HKp.out.trans HK3.out)⟩
      case measure => have := HK.out; simp only [rk] at this ⊢; omega
end Go.Proofs.YtombgehopopdfaaDoor
