/-
  THE DOCUMENT'S DISK: Flush, Crash.
-/
import Derived.Test.YtihholgdpmbkeaaRw
set_option linter.unusedVariables false
set_option maxRecDepth 100000
namespace Go.Proofs.Ytihholgdpmbkeaa
open Go.RowKit Go.Shelf

section
variable {w : World} {rb tb n : Nat} {wv : Value} {T : List (List UInt8)} {Q : List Wr} {dn : Bool} {lf : Nat}

theorem rflush_off (h : Rk w rb tb n wv T Q true lf) : Calls Try.prog 15 #[.pointer (some ⟨rb, 0, none⟩)] w (fun e w' => e = .returned (.int .i64 3) ∧ w' = w) := by
  obtain ⟨c0, c1, c2, c3, -, -, -, -⟩ := four_cells h.hd
  clear h
  go_enter Try.func15, Try.ntmps15
  go_wp2_with fail
  go_ret
  exact ⟨rfl, rfl⟩
theorem rwrite_off (h : Rk w rb tb n wv T Q true lf) (z : Int) (x : Value) : Calls Try.prog 27 #[.pointer (some ⟨rb, 0, none⟩), .int .i64 z, x] w (fun e w' => e = .returned (.int .i64 3) ∧ w' = w) := by
  obtain ⟨c0, c1, c2, c3, -, -, -, -⟩ := four_cells h.hd
  clear h
  go_enter Try.func27, Try.ntmps27
  go_wp2_with fail
  go_ret
  exact ⟨rfl, rfl⟩
theorem rwrite_none (h : Rk w rb tb n wv T Q false lf) (z : Int) (ao : Option Addr) (m c : Nat) (hz : ¬ (0 ≤ z ∧ z < (n : Int)) ∨ m ≠ 64) : Calls Try.prog 27 #[.pointer (some ⟨rb, 0, none⟩), .int .i64 z, .slice ao m c] w (fun e w' => e = .returned (.int .i64 1) ∧ w' = w) := by
  obtain ⟨c0, c1, c2, c3, -, -, -, -⟩ := four_cells h.hd
  have hlen := fun W => run_len_slice (P := Try.prog) W 39 3 (some ⟨tb, 0, none⟩) n n Try.underlying39
  have hlen2 := fun W => run_len_slice (P := Try.prog) W 30 3 ao m c Try.underlying30
  clear h
  by_cases h0 : z < 0
  · clear hz
    go_enter Try.func27, Try.ntmps27
    go_wp2_with fail
    go_ret
    exact ⟨rfl, rfl⟩
  · by_cases h1 : (n : Int) ≤ z
    · clear hz
      go_enter Try.func27, Try.ntmps27
      go_wp2_with fail
      go_ret
      exact ⟨rfl, rfl⟩
    · have h2 : ((m : Int) == 64) = false := by
        have := hz.resolve_left (fun h => h (by omega))
        simp; omega
      clear hz
      go_enter Try.func27, Try.ntmps27
      go_wp2_with fail
      go_ret
      exact ⟨rfl, rfl⟩

theorem Rk.turned (h : Rk w rb tb n wv T Q dn lf) {W : World} {T' : List (List UInt8)} (hk : Keep (fun k => k = tb) w W) (hs : W.heap[tb]? = some (.cells (T'.flatten.map bv).toArray 64 (0, 0))) (hl : T'.length = T.length) (ha : ∀ s ∈ T', s.length = 64) : Rk W rb tb n wv T' Q dn lf :=
  ⟨(hk.block rb (lt_of_block h.hd) h.apart.1).trans h.hd, hs, own_keep h.wa hk (fun k e hk => h.apart.2.2 (by rw [e, hk])), ha, h.ok, by rw [hl]; exact h.few⟩

theorem sh_take {T : List (List UInt8)} {Q : List Wr} {k : Nat} {y : Wr} (h : Q[k]? = some y) : shM T (Q.take (k + 1)) = (shM T (Q.take k)).set y.at' y.now := by rw [take_next h, sh_one]

set_option maxHeartbeats 16000000 in
theorem rflush_gen (h : Rk w rb tb n wv T Q false lf) (hlf : lf ≤ 9223372036854775807) (hq : Q.length ≤ 100000) :
    Calls Try.prog 15 #[.pointer (some ⟨rb, 0, none⟩)] w (fun e w' => e = .returned (.int .i64 (hitE lf)) ∧ ∃ wv', Rk w' rb tb n wv' (if lf = 1 then T else shM T Q) (if lf = 1 then Q else []) (hitD lf) (lf - 1) ∧ Dfr rb tb wv wv' w w') := by
  obtain ⟨c0, c1, c2, c3, -, -, -, -⟩ := four_cells h.hd
  have CH0 := hit_any h hlf
  by_cases h1 : lf = 1
  · subst h1
    have CH : Hid (Calls Try.prog 37 #[.pointer (some ⟨rb, 0, none⟩)] w (fun e w' => e = .returned (.bool true) ∧ Rk w' rb tb n wv T Q true 0 ∧ Dfr rb tb wv wv w w')) := CH0
    clear CH0 h
    go_enter Try.func15, Try.ntmps15
    go_wp2_with (first | (go_at_call 37; refine CH.out.mono ?_; rintro e w2 ⟨rfl, h2, hf2⟩; have H2 := hid h2; have HF2 := hid hf2; clear h2 hf2))
    go_ret
    exact ⟨rfl, wv, H2.out, HF2.out⟩
  · have HE : hitE lf = 0 ∧ hitD lf = false := ⟨if_neg h1, decide_eq_false h1⟩
    rw [HE.1, HE.2, if_neg h1, if_neg h1]
    rw [HE.2] at CH0
    obtain ⟨lg, hlg⟩ : ∃ x, x = lf - 1 := ⟨_, rfl⟩
    rw [← hlg] at CH0 ⊢
    have CH := hid CH0
    obtain ⟨vo, vc, rfl⟩ := h.form
    have hlen := fun W => run_len_slice (P := Try.prog) W 40 3 vo Q.length vc Try.underlying40
    clear CH0 h HE h1 hlf hlg
    go_enter Try.func15, Try.ntmps15
    go_wp2_with (first | (go_at_call 37; refine CH.out.mono ?_; rintro e w2 ⟨rfl, h2, hf2⟩; have H2 := hid h2; have HF2 := hid hf2; clear h2 hf2))
    clear c0 c1 c2 c3
    go_loopw [3] (fun i wr => ∃ k : Nat, k ≤ Q.length ∧ i = .int .i64 (k : Int) ∧ Hid (Rk wr rb tb n (.slice vo Q.length vc) (shM T (Q.take k)) Q false lg) ∧ Hid (Dfr rb tb (.slice vo Q.length vc) (.slice vo Q.length vc) w wr)) (fun i _ => Q.length - (intOf i).toNat)
    case atStart => exact ⟨0, by omega, rfl, H2, HF2⟩
    case round =>
      obtain ⟨k, hk, rfl, HR, HFr⟩ := hrel
      obtain ⟨c0, c1, c2, c3, f0, f1, f2, f3⟩ := four_cells HR.out.hd
      by_cases hlt : k < Q.length
      · have hv := List.getElem?_eq_getElem hlt
        generalize Q[k] = y at *
        have hyo := HR.out.ok y (List.mem_of_getElem? hv)
        obtain ⟨b, off, rfl, hc⟩ := HR.out.rows.get (by decide) (k := k) (r := row65 y) (by rw [List.getElem?_map, hv]; rfl)
        have hrb : b ≠ tb := fun e => HR.out.apart.2.2 (by rw [e]; rfl)
        have hrg : wr.rangeAt b (off + k * 65 + 1) (y.now.map bv) := fun j v hv' => by
          have := hc (j + 1) v (by unfold row65; simpa using hv')
          rw [show off + k * 65 + 1 + j = off + k * 65 + (j + 1) from by omega]
          exact this
        have hat : wr.cell? ⟨b, off + k * 65, none⟩ = some (.int .i64 (y.at' : Int)) := hc 0 _ rfl
        have HN := HR.out.few
        have hyn : y.at' < n := hyo.1
        have hyi : (y.at' : Int) < (n : Int) := by omega
        have hki : (k : Int) < (Q.length : Int) := by omega
        have HV := hid hv
        obtain ⟨TT, hTT⟩ : ∃ TT, TT = shM T (Q.take k) := ⟨_, rfl⟩
        rw [← hTT] at HR
        have HTT := hid hTT
        clear hv hc hTT
        go_upto_region 6 with fail
        obtain ⟨S9, hS9⟩ : ∃ S9 : World → Prop, S9 = fun V => V.cell? ⟨rb, 0, none⟩ = some (.slice (some ⟨tb, 0, none⟩) n n) ∧ V.cell? ⟨rb, 1, none⟩ = some (.slice (some ⟨b, off, none⟩) Q.length vc) ∧ V.cell? ⟨b, off + k * 65, none⟩ = some (.int .i64 (y.at' : Int)) ∧ V.rangeAt b (off + k * 65 + 1) (y.now.map bv) := ⟨_, rfl⟩
        have hY : ∀ V, S9 V → V.cell? ⟨rb, 0, none⟩ = some (.slice (some ⟨tb, 0, none⟩) n n) ∧ V.cell? ⟨rb, 1, none⟩ = some (.slice (some ⟨b, off, none⟩) Q.length vc) ∧ V.cell? ⟨b, off + k * 65, none⟩ = some (.int .i64 (y.at' : Int)) ∧ V.rangeAt b (off + k * 65 + 1) (y.now.map bv) := fun V h => by rw [hS9] at h; exact h
        have hY2 : ∀ V, V.cell? ⟨rb, 0, none⟩ = some (.slice (some ⟨tb, 0, none⟩) n n) → V.cell? ⟨rb, 1, none⟩ = some (.slice (some ⟨b, off, none⟩) Q.length vc) → V.cell? ⟨b, off + k * 65, none⟩ = some (.int .i64 (y.at' : Int)) → V.rangeAt b (off + k * 65 + 1) (y.now.map bv) → S9 V := fun V h1 h2 h3 h4 => by rw [hS9]; exact ⟨h1, h2, h3, h4⟩
        clear hS9
        refine wp_region_noPanic ?_
        refine wp_region_held_drew (S := S9) (by kernel_rfl) (hY2 _ c0 c1 hat (by rw [World.rangeAt_drew]; exact hrg)) (fun hX9 => ?_)
        refine wpAnyH_take (i := 0) (v := (.pointer (some ⟨rb, 0, none⟩))) rfl (by kernel_rfl) (by kernel_rfl) (by kernel_rfl) (fun _ _ _ h => (show False from h).elim) ?xyR0 ?xhR0 ?xrR0
        case xhR0 => exact hX9
        case xyR0 => exact Or.inl ⟨by rfl, fun V hV => by obtain ⟨hc1, hc2, hc3, -⟩ := hY V hV; clear hY hY2 hX9; simp only [List.getElem_toArray, List.getElem_cons_succ, List.getElem_cons_zero]; go_simp⟩
        simp only [Act.put, List.getElem_toArray, List.getElem_cons_succ, List.getElem_cons_zero, List.setIfInBounds_toArray, List.set_cons_succ, List.set_cons_zero]
        refine wpAnyH_take (i := 1) (v := (.pointer (some ⟨rb, 0, none⟩))) rfl (by kernel_rfl) (by kernel_rfl) (by kernel_rfl) (fun _ _ _ h => (show False from h).elim) ?xyR1 ?xhR1 ?xrR1
        case xhR1 => exact hX9
        case xyR1 => exact Or.inl ⟨by rfl, fun V hV => by obtain ⟨hc1, hc2, hc3, -⟩ := hY V hV; clear hY hY2 hX9; simp only [List.getElem_toArray, List.getElem_cons_succ, List.getElem_cons_zero]; go_simp⟩
        simp only [Act.put, List.getElem_toArray, List.getElem_cons_succ, List.getElem_cons_zero, List.setIfInBounds_toArray, List.set_cons_succ, List.set_cons_zero]
        refine wpAnyH_take (i := 2) (v := (.pointer (some ⟨rb, 0, none⟩))) rfl (by kernel_rfl) (by kernel_rfl) (by kernel_rfl) (fun _ _ _ h => (show False from h).elim) ?xyR2 ?xhR2 ?xrR2
        case xhR2 => exact hX9
        case xyR2 => exact Or.inl ⟨by rfl, fun V hV => by obtain ⟨hc1, hc2, hc3, -⟩ := hY V hV; clear hY hY2 hX9; simp only [List.getElem_toArray, List.getElem_cons_succ, List.getElem_cons_zero]; go_simp⟩
        simp only [Act.put, List.getElem_toArray, List.getElem_cons_succ, List.getElem_cons_zero, List.setIfInBounds_toArray, List.set_cons_succ, List.set_cons_zero]
        refine wpAnyH_take (i := 3) (v := (.slice (some ⟨tb, 0, none⟩) n n)) rfl (by kernel_rfl) (by kernel_rfl) (by kernel_rfl) (fun _ _ _ h => (show False from h).elim) ?xyR3 ?xhR3 ?xrR3
        case xhR3 => exact hX9
        case xyR3 => exact Or.inl ⟨by rfl, fun V hV => by obtain ⟨hc1, hc2, hc3, -⟩ := hY V hV; clear hY hY2 hX9; simp only [List.getElem_toArray, List.getElem_cons_succ, List.getElem_cons_zero]; go_simp⟩
        simp only [Act.put, List.getElem_toArray, List.getElem_cons_succ, List.getElem_cons_zero, List.setIfInBounds_toArray, List.set_cons_succ, List.set_cons_zero]
        refine wpAnyH_take (i := 4) (v := (.pointer (some ⟨rb, 0, none⟩))) rfl (by kernel_rfl) (by kernel_rfl) (by kernel_rfl) (fun _ _ _ h => (show False from h).elim) ?xyR4 ?xhR4 ?xrR4
        case xhR4 => exact hX9
        case xyR4 => exact Or.inl ⟨by rfl, fun V hV => by obtain ⟨hc1, hc2, hc3, -⟩ := hY V hV; clear hY hY2 hX9; simp only [List.getElem_toArray, List.getElem_cons_succ, List.getElem_cons_zero]; go_simp⟩
        simp only [Act.put, List.getElem_toArray, List.getElem_cons_succ, List.getElem_cons_zero, List.setIfInBounds_toArray, List.set_cons_succ, List.set_cons_zero]
        refine wpAnyH_take (i := 5) (v := (.pointer (some ⟨rb, 0, none⟩))) rfl (by kernel_rfl) (by kernel_rfl) (by kernel_rfl) (fun _ _ _ h => (show False from h).elim) ?xyR5 ?xhR5 ?xrR5
        case xhR5 => exact hX9
        case xyR5 => exact Or.inl ⟨by rfl, fun V hV => by obtain ⟨hc1, hc2, hc3, -⟩ := hY V hV; clear hY hY2 hX9; simp only [List.getElem_toArray, List.getElem_cons_succ, List.getElem_cons_zero]; go_simp⟩
        simp only [Act.put, List.getElem_toArray, List.getElem_cons_succ, List.getElem_cons_zero, List.setIfInBounds_toArray, List.set_cons_succ, List.set_cons_zero]
        refine wpAnyH_take (i := 6) (v := (.pointer (some ⟨rb, 1, none⟩))) rfl (by kernel_rfl) (by kernel_rfl) (by kernel_rfl) (fun _ _ _ h => (show False from h).elim) ?xyR6 ?xhR6 ?xrR6
        case xhR6 => exact hX9
        case xyR6 => exact Or.inl ⟨by rfl, fun V hV => by obtain ⟨hc1, hc2, hc3, -⟩ := hY V hV; clear hY hY2 hX9; simp only [List.getElem_toArray, List.getElem_cons_succ, List.getElem_cons_zero]; go_simp⟩
        simp only [Act.put, List.getElem_toArray, List.getElem_cons_succ, List.getElem_cons_zero, List.setIfInBounds_toArray, List.set_cons_succ, List.set_cons_zero]
        refine wpAnyH_take (i := 7) (v := (.slice (some ⟨b, off, none⟩) Q.length vc)) rfl (by kernel_rfl) (by kernel_rfl) (by kernel_rfl) (fun _ _ _ h => (show False from h).elim) ?xyR7 ?xhR7 ?xrR7
        case xhR7 => exact hX9
        case xyR7 => exact Or.inl ⟨by rfl, fun V hV => by obtain ⟨hc1, hc2, hc3, -⟩ := hY V hV; clear hY hY2 hX9; simp only [List.getElem_toArray, List.getElem_cons_succ, List.getElem_cons_zero]; go_simp⟩
        simp only [Act.put, List.getElem_toArray, List.getElem_cons_succ, List.getElem_cons_zero, List.setIfInBounds_toArray, List.set_cons_succ, List.set_cons_zero]
        refine wpAnyH_take (i := 8) (v := (.int .i64 (k : Int))) rfl (by kernel_rfl) (by kernel_rfl) (by kernel_rfl) (fun _ _ _ h => (show False from h).elim) ?xyR8 ?xhR8 ?xrR8
        case xhR8 => exact hX9
        case xyR8 => exact Or.inl ⟨by rfl, fun V hV => by obtain ⟨hc1, hc2, hc3, -⟩ := hY V hV; clear hY hY2 hX9; simp only [List.getElem_toArray, List.getElem_cons_succ, List.getElem_cons_zero]; go_simp⟩
        simp only [Act.put, List.getElem_toArray, List.getElem_cons_succ, List.getElem_cons_zero, List.setIfInBounds_toArray, List.set_cons_succ, List.set_cons_zero]
        refine wpAnyH_take (i := 9) (v := (.pointer (some ⟨b, off + k * 65, none⟩))) rfl (by kernel_rfl) (by kernel_rfl) (by kernel_rfl) (fun _ _ _ h => (show False from h).elim) ?xyR9 ?xhR9 ?xrR9
        case xhR9 => exact hX9
        case xyR9 => exact Or.inl ⟨by rfl, fun V hV => by obtain ⟨hc1, hc2, hc3, -⟩ := hY V hV; clear hY hY2 hX9; simp only [List.getElem_toArray, List.getElem_cons_succ, List.getElem_cons_zero]; go_simp⟩
        simp only [Act.put, List.getElem_toArray, List.getElem_cons_succ, List.getElem_cons_zero, List.setIfInBounds_toArray, List.set_cons_succ, List.set_cons_zero]
        refine wpAnyH_take (i := 10) (v := (.pointer (some ⟨b, off + k * 65, none⟩))) rfl (by kernel_rfl) (by kernel_rfl) (by kernel_rfl) (fun _ _ _ h => (show False from h).elim) ?xyR10 ?xhR10 ?xrR10
        case xhR10 => exact hX9
        case xyR10 => exact Or.inl ⟨by rfl, fun V hV => by obtain ⟨hc1, hc2, hc3, -⟩ := hY V hV; clear hY hY2 hX9; simp only [List.getElem_toArray, List.getElem_cons_succ, List.getElem_cons_zero]; go_simp⟩
        simp only [Act.put, List.getElem_toArray, List.getElem_cons_succ, List.getElem_cons_zero, List.setIfInBounds_toArray, List.set_cons_succ, List.set_cons_zero]
        refine wpAnyH_take (i := 11) (v := (.int .i64 (y.at' : Int))) rfl (by kernel_rfl) (by kernel_rfl) (by kernel_rfl) (fun _ _ _ h => (show False from h).elim) ?xyR11 ?xhR11 ?xrR11
        case xhR11 => exact hX9
        case xyR11 => exact Or.inl ⟨by rfl, fun V hV => by obtain ⟨hc1, hc2, hc3, -⟩ := hY V hV; clear hY hY2 hX9; simp only [List.getElem_toArray, List.getElem_cons_succ, List.getElem_cons_zero]; go_simp⟩
        simp only [Act.put, List.getElem_toArray, List.getElem_cons_succ, List.getElem_cons_zero, List.setIfInBounds_toArray, List.set_cons_succ, List.set_cons_zero]
        refine wpAnyH_take (i := 12) (v := (.pointer (some ⟨rb, 0, none⟩))) rfl (by kernel_rfl) (by kernel_rfl) (by kernel_rfl) (fun _ _ _ h => (show False from h).elim) ?xyR12 ?xhR12 ?xrR12
        case xhR12 => exact hX9
        case xyR12 => exact Or.inl ⟨by rfl, fun V hV => by obtain ⟨hc1, hc2, hc3, -⟩ := hY V hV; clear hY hY2 hX9; simp only [List.getElem_toArray, List.getElem_cons_succ, List.getElem_cons_zero]; go_simp⟩
        simp only [Act.put, List.getElem_toArray, List.getElem_cons_succ, List.getElem_cons_zero, List.setIfInBounds_toArray, List.set_cons_succ, List.set_cons_zero]
        refine wpAnyH_take (i := 13) (v := (.pointer (some ⟨rb, 0, none⟩))) rfl (by kernel_rfl) (by kernel_rfl) (by kernel_rfl) (fun _ _ _ h => (show False from h).elim) ?xyR13 ?xhR13 ?xrR13
        case xhR13 => exact hX9
        case xyR13 => exact Or.inl ⟨by rfl, fun V hV => by obtain ⟨hc1, hc2, hc3, -⟩ := hY V hV; clear hY hY2 hX9; simp only [List.getElem_toArray, List.getElem_cons_succ, List.getElem_cons_zero]; go_simp⟩
        simp only [Act.put, List.getElem_toArray, List.getElem_cons_succ, List.getElem_cons_zero, List.setIfInBounds_toArray, List.set_cons_succ, List.set_cons_zero]
        refine wpAnyH_take (i := 14) (v := (.pointer (some ⟨rb, 1, none⟩))) rfl (by kernel_rfl) (by kernel_rfl) (by kernel_rfl) (fun _ _ _ h => (show False from h).elim) ?xyR14 ?xhR14 ?xrR14
        case xhR14 => exact hX9
        case xyR14 => exact Or.inl ⟨by rfl, fun V hV => by obtain ⟨hc1, hc2, hc3, -⟩ := hY V hV; clear hY hY2 hX9; simp only [List.getElem_toArray, List.getElem_cons_succ, List.getElem_cons_zero]; go_simp⟩
        simp only [Act.put, List.getElem_toArray, List.getElem_cons_succ, List.getElem_cons_zero, List.setIfInBounds_toArray, List.set_cons_succ, List.set_cons_zero]
        refine wpAnyH_take (i := 15) (v := (.slice (some ⟨b, off, none⟩) Q.length vc)) rfl (by kernel_rfl) (by kernel_rfl) (by kernel_rfl) (fun _ _ _ h => (show False from h).elim) ?xyR15 ?xhR15 ?xrR15
        case xhR15 => exact hX9
        case xyR15 => exact Or.inl ⟨by rfl, fun V hV => by obtain ⟨hc1, hc2, hc3, -⟩ := hY V hV; clear hY hY2 hX9; simp only [List.getElem_toArray, List.getElem_cons_succ, List.getElem_cons_zero]; go_simp⟩
        simp only [Act.put, List.getElem_toArray, List.getElem_cons_succ, List.getElem_cons_zero, List.setIfInBounds_toArray, List.set_cons_succ, List.set_cons_zero]
        refine wpAnyH_take (i := 16) (v := (.int .i64 (k : Int))) rfl (by kernel_rfl) (by kernel_rfl) (by kernel_rfl) (fun _ _ _ h => (show False from h).elim) ?xyR16 ?xhR16 ?xrR16
        case xhR16 => exact hX9
        case xyR16 => exact Or.inl ⟨by rfl, fun V hV => by obtain ⟨hc1, hc2, hc3, -⟩ := hY V hV; clear hY hY2 hX9; simp only [List.getElem_toArray, List.getElem_cons_succ, List.getElem_cons_zero]; go_simp⟩
        simp only [Act.put, List.getElem_toArray, List.getElem_cons_succ, List.getElem_cons_zero, List.setIfInBounds_toArray, List.set_cons_succ, List.set_cons_zero]
        refine wpAnyH_take (i := 17) (v := (.pointer (some ⟨b, off + k * 65, none⟩))) rfl (by kernel_rfl) (by kernel_rfl) (by kernel_rfl) (fun _ _ _ h => (show False from h).elim) ?xyR17 ?xhR17 ?xrR17
        case xhR17 => exact hX9
        case xyR17 => exact Or.inl ⟨by rfl, fun V hV => by obtain ⟨hc1, hc2, hc3, -⟩ := hY V hV; clear hY hY2 hX9; simp only [List.getElem_toArray, List.getElem_cons_succ, List.getElem_cons_zero]; go_simp⟩
        simp only [Act.put, List.getElem_toArray, List.getElem_cons_succ, List.getElem_cons_zero, List.setIfInBounds_toArray, List.set_cons_succ, List.set_cons_zero]
        refine wpAnyH_take (i := 18) (v := (.pointer (some ⟨b, off + k * 65 + 1, none⟩))) rfl (by kernel_rfl) (by kernel_rfl) (by kernel_rfl) (fun _ _ _ h => (show False from h).elim) ?xyR18 ?xhR18 ?xrR18
        case xhR18 => exact hX9
        case xyR18 => exact Or.inl ⟨by rfl, fun V hV => by obtain ⟨hc1, hc2, hc3, -⟩ := hY V hV; clear hY hY2 hX9; simp only [List.getElem_toArray, List.getElem_cons_succ, List.getElem_cons_zero]; go_simp⟩
        simp only [Act.put, List.getElem_toArray, List.getElem_cons_succ, List.getElem_cons_zero, List.setIfInBounds_toArray, List.set_cons_succ, List.set_cons_zero]
        refine wpAnyH_take (i := 19) (v := (.agg (y.now.map bv).toArray)) rfl (by kernel_rfl) (by kernel_rfl) (by kernel_rfl) (fun _ _ _ h => (show False from h).elim) ?xyR19 ?xhR19 ?xrR19
        case xhR19 => exact hX9
        case xyR19 => exact Or.inl ⟨by rfl, fun V hV => by simp only [List.getElem_toArray, List.getElem_cons_succ, List.getElem_cons_zero]; exact exec_load (t := 64) (x := .tmp 39) rfl (run_loadAt_mid V b (off + k * 65 + 1) 64 (y.now.map bv) _ (hY V hV).2.2.2 Try.underlying64 rfl (by rw [size_64, List.length_map, hyo.2]))⟩
        simp only [Act.put, List.getElem_toArray, List.getElem_cons_succ, List.getElem_cons_zero, List.setIfInBounds_toArray, List.set_cons_succ, List.set_cons_zero]
        refine wpAnyH_take (i := 20) (v := (.pointer (some ⟨tb, y.at' * 64, none⟩))) rfl (by kernel_rfl) (by kernel_rfl) (by kernel_rfl) (fun _ _ _ h => (show False from h).elim) ?xyR20 ?xhR20 ?xrR20
        case xhR20 => exact hX9
        case xyR20 => exact Or.inl ⟨by rfl, fun V hV => by obtain ⟨hc1, hc2, hc3, -⟩ := hY V hV; clear hY hY2 hX9; simp only [List.getElem_toArray, List.getElem_cons_succ, List.getElem_cons_zero]; go_simp⟩
        simp only [Act.put, List.getElem_toArray, List.getElem_cons_succ, List.getElem_cons_zero, List.setIfInBounds_toArray, List.set_cons_succ, List.set_cons_zero]
        refine wpAnyH_all (rs := [21]) (by kernel_rfl) (by simp) (fun i hi => ?_)
        obtain rfl : i = 21 := by simpa using hi
        unfold wpOp
        simp only [List.getElem?_toArray, List.getElem?_cons_succ, List.getElem?_cons_zero]
        rw [if_pos (by rfl)]
        unfold Oper.wp
        have hyT : y.at' < TT.length := by have := HR.out.few.1; omega
        have hth := sh_there HR.out.sh HR.out.len hyT
        have hst := run_storeAt_mid (P := Try.prog) wr.drew tb (y.at' * 64) 64 (y.now.map bv).toArray (by rw [World.there_drew]; simpa [hyo.2] using hth) (by rw [size_64]; simp [hyo.2]) (all_oneCell_toArray (bv_one y.now))
        rw [exec_store (t := 64) (x := .tmp 41) (y := .tmp 40) rfl hst]
        simp only [Oper.upon, List.toList_toArray]
        have hfin := sh_set (w := wr.drew) HR.out.sh HR.out.len hyT hyo.2
        have hkp : Keep (fun k => k = tb) wr (wr.drew.setCells tb (y.at' * 64) (y.now.map bv)) := Keep.setCells (X := fun k => k = tb) rfl _ _ _ _ (⟨rfl, rfl, rfl, Nat.le_refl _, fun _ _ _ => rfl⟩ : Keep (fun k => k = tb) wr wr.drew)
        have hnew := HR.out.turned (T' := TT.set y.at' y.now) hkp hfin (by rw [List.length_set]) (fun s hs => by
          rcases List.mem_or_eq_of_mem_set hs with hs | rfl
          · exact HR.out.len s hs
          · exact hyo.2)
        have hcell : ∀ (b o : Nat), b ≠ tb → b < wr.heap.size → (wr.drew.setCells tb (y.at' * 64) (y.now.map bv)).cell? ⟨b, o, none⟩ = wr.cell? ⟨b, o, none⟩ := fun b o hb hlt => World.cell?_of_block (w := wr) (a := ⟨b, o, none⟩) (hkp.block b hlt hb)
        have hblt : b < wr.heap.size := World.block_lt_of_cell? wr _ hat
        refine .inl ⟨hY2 _ ?sy1 ?sy2 ?sy3 ?sy4, ?_⟩
        case sy1 => exact (hcell _ _ HR.out.apart.1 (lt_of_block HR.out.hd)).trans c0
        case sy2 => exact (hcell _ _ HR.out.apart.1 (lt_of_block HR.out.hd)).trans c1
        case sy3 => exact (hcell _ _ hrb hblt).trans hat
        case sy4 => exact fun j v hv' => (hcell _ _ hrb hblt).trans (hrg j v hv')
        refine wpAnyH_done (by kernel_rfl) (NoPanic.normal ?_) _
        simp only [Act.put, List.getElem_toArray, List.getElem_cons_succ, List.getElem_cons_zero, List.setIfInBounds_toArray, List.set_cons_succ, List.set_cons_zero]
        have HNW : Hid (Rk (wr.drew.setCells tb (y.at' * 64) (y.now.map bv)) rb tb n (.slice (some ⟨b, off, none⟩) Q.length vc) (shM T (Q.take (k + 1))) Q false lg) := by
          show Rk _ _ _ _ _ _ _ _ _
          rw [sh_take HV.out, ← HTT.out]
          exact hnew
        have HFn : Hid (Dfr rb tb (.slice (some ⟨b, off, none⟩) Q.length vc) (.slice (some ⟨b, off, none⟩) Q.length vc) w (wr.drew.setCells tb (y.at' * 64) (y.now.map bv))) := HFr.out.trans ⟨hkp.mono (fun k _ e => .inr (.inl e)), fun _ h => .inl h⟩
        clear hnew hkp hfin hst hth hcell hY hY2 hX9 hrg hat c0 c1 c2 c3 f0 f1 f2 f3
        generalize wr.drew.setCells tb (y.at' * 64) (y.now.map bv) = wz at *
        go_wp2_with fail
        go_roundw
        case rel => exact ⟨k + 1, by omega, by go_num, HNW, HFn⟩
        case measure => first | (simp [intOf]; done) | (simp [intOf]; omega)
      · obtain rfl : k = Q.length := by omega
        rw [List.take_length] at HR
        go_wp2_with fail
        go_ret
        exact ⟨rfl, _, HR.out.set1, HFr.out.trans (Dfr.set _ _ _ _ 1 _).nil⟩

def crow (now : List UInt8) (old : List UInt8) (k : Nat) : List UInt8 := now.take k ++ old.drop k
theorem crow_next {now old : List UInt8} {k : Nat} {c : UInt8} (h : now[k]? = some c) (hn : now.length = 64) (ho : old.length = 64) (hk : k < 64) : crow now old (k + 1) = (crow now old k).set k c := by
  unfold crow
  have h1 : (now.take k).length = k := by rw [List.length_take]; omega
  rw [take_next h, show (now.take k ++ old.drop k).set k c = now.take k ++ (old.drop k).set (k - (now.take k).length) c from List.set_append_right _ _ (by omega), h1, Nat.sub_self]
  have h2 : old.drop k = old[k] :: old.drop (k + 1) := List.drop_eq_getElem_cons (by omega)
  rw [h2, List.set_cons_zero]
  simp only [List.append_assoc, List.cons_append, List.nil_append]
theorem crow_len {now old : List UInt8} {k : Nat} (hn : now.length = 64) (ho : old.length = 64) (hk : k ≤ 64) : (crow now old k).length = 64 := by
  unfold crow; rw [List.length_append, List.length_take, List.length_drop]; omega

theorem cell_set {S : List (List UInt8)} (h : ∀ s ∈ S, s.length = 64) {k : Nat} {s : List UInt8} (hk : S[k]? = some s) (j : Nat) (hj : j < 64) (c : UInt8) : (S.flatten.map bv).toArray.setIfInBounds (k * 64 + j) (bv c) = ((S.set k (s.set j c)).flatten.map bv).toArray := by
  have hkl : k < S.length := (List.getElem?_eq_some_iff.1 hk).1
  have hs := h s (List.mem_of_getElem? hk)
  apply Array.ext_getElem?
  intro i
  have hfl := flat_len h
  rw [Array.getElem?_setIfInBounds]
  have hR : ((S.set k (s.set j c)).flatten.map bv).toArray[i]? = (if k * 64 ≤ i ∧ i < k * 64 + 64 then (s.set j c)[i - k * 64]? else S.flatten[i]?).map bv := by rw [List.getElem?_toArray, List.getElem?_map, flat_set h hkl (by rw [List.length_set]; exact hs) i]
  rw [hR]
  by_cases hi : k * 64 + j = i
  · rw [if_pos hi, if_pos (by rw [List.size_toArray, List.length_map, hfl]; omega), if_pos (by omega)]
    rw [show i - k * 64 = j from by omega, List.getElem?_set_self (by omega)]
    rfl
  · rw [if_neg hi, List.getElem?_toArray, List.getElem?_map]
    by_cases hin : k * 64 ≤ i ∧ i < k * 64 + 64
    · rw [if_pos hin, List.getElem?_set_ne (by omega)]
      have := flat_at h hk (i - k * 64) (by omega)
      rw [show k * 64 + (i - k * 64) = i from by omega] at this
      rw [this]
    · rw [if_neg hin]

theorem zip_take_ge {α β : Type} : ∀ (ks : List β) (Q : List α) (m : Nat), ks.length ≤ m → (Q.take m).zip ks = Q.zip ks
  | [], Q, m, _ => by simp
  | z :: ks, [], m, _ => by simp
  | z :: ks, q :: Q, 0, h => by simp at h
  | z :: ks, q :: Q, m + 1, h => by simp [zip_take_ge ks Q m (by simpa using h)]
theorem zip_take_take {α β : Type} : ∀ (ks : List β) (Q : List α) (m : Nat), (Q.take m).zip (ks.take m) = (Q.take m).zip ks
  | [], Q, m => by simp
  | z :: ks, [], m => by simp
  | z :: ks, q :: Q, 0 => by simp
  | z :: ks, q :: Q, m + 1 => by simp [zip_take_take ks Q m]
theorem ly_more {T : List (List UInt8)} {Q : List Wr} {ks : List Int} {k : Nat} (h : ks.length ≤ k) : layM T (Q.take (k + 1)) ks = layM T (Q.take k) ks := by
  unfold layM
  rw [zip_take_ge ks Q (k + 1) (by omega), zip_take_ge ks Q k h]
theorem ly_next {T : List (List UInt8)} {Q : List Wr} {ks : List Int} {k : Nat} {y : Wr} {z : Int} (h1 : Q[k]? = some y) (h2 : ks[k]? = some z) : layM T (Q.take (k + 1)) ks = lay1 (layM T (Q.take k) ks) y z := by
  have := lay_next (S := T) h1 h2
  unfold layM at this ⊢
  rw [zip_take_take, zip_take_take] at this
  exact this
theorem ly_len (T : List (List UInt8)) (Q : List Wr) (ks : List Int) : (layM T Q ks).length = T.length := by
  unfold layM
  generalize Q.zip ks = L
  induction L generalizing T with
  | nil => rfl
  | cons p L ih => rw [List.foldl_cons, ih, lay1_len]
theorem ly_one {S : List (List UInt8)} {y : Wr} {z : Int} {s : List UInt8} (hs : S[y.at']? = some s) : lay1 S y z = S.set y.at' (crow y.now s (cl z)) := by
  unfold lay1 crow
  rw [List.getD, hs]
  rfl
theorem set_crow0 {S : List (List UInt8)} {k : Nat} {s now : List UInt8} (hs : S[k]? = some s) : S.set k (crow now s 0) = S := by
  unfold crow
  rw [List.take_zero, List.drop_zero, List.nil_append]
  obtain ⟨h1, h2⟩ := List.getElem?_eq_some_iff.1 hs
  rw [← h2, List.set_getElem_self]

set_option maxHeartbeats 16000000 in
theorem rcrash_gen (h : Rk w rb tb n wv T Q dn lf) (x : Value) (ks : List Int) (hx : Rws 1 w x (ks.map fun z => [.int .i64 z])) (hxo : ks ≠ [] → ∀ k, blk x = some k → ¬ DX rb tb wv k) (hq : Q.length ≤ 100000) :
    Calls Try.prog 18 #[.pointer (some ⟨rb, 0, none⟩), x] w (fun e w' => e = .returned (.tuple #[]) ∧ ∃ wv', Rk w' rb tb n wv' (layM T Q ks) [] true lf ∧ Dfr rb tb wv wv' w w') := by
  obtain ⟨c0, c1, c2, c3, f0, f1, f2, f3⟩ := four_cells h.hd
  obtain ⟨vo, vc, rfl⟩ := h.form
  obtain ⟨xo, xc, hxe, hxl, hxm⟩ := hx.form
  rw [List.length_map] at hxe hxl
  subst hxe
  have hlen := fun W => run_len_slice (P := Try.prog) W 40 3 vo Q.length vc Try.underlying40
  have hlen2 := fun W => run_len_slice (P := Try.prog) W 31 3 xo ks.length xc Try.underlying31
  have h3 := h.set3 true
  have HX := hid hx
  have HXO := hid hxo
  have HM := hid (And.intro hxl hxm)
  have H3 := hid h3
  have HF3 : Hid (Dfr rb tb (.slice vo Q.length vc) (.slice vo Q.length vc) w (w.setCell ⟨rb, 3, none⟩ (.bool true))) := Dfr.set _ _ _ _ 3 _
  clear h hx hxo hxl hxm h3
  go_enter Try.func18, Try.ntmps18
  go_wp2_with fail
  clear c0 c1 c2 c3 f0 f1 f2 f3
  go_loopw [4] (fun i wr => ∃ k : Nat, k ≤ Q.length ∧ i = .int .i64 (k : Int) ∧ Hid (Rk wr rb tb n (.slice vo Q.length vc) (layM T (Q.take k) ks) Q true lf) ∧ Hid (Dfr rb tb (.slice vo Q.length vc) (.slice vo Q.length vc) w wr)) (fun i _ => Q.length - (intOf i).toNat)
  case atStart => exact ⟨0, by omega, rfl, by rw [List.take_zero]; exact H3, HF3⟩
  case round =>
    obtain ⟨k, hk, rfl, HR, HFr⟩ := hrel
    obtain ⟨c0, c1, c2, c3, f0, f1, f2, f3⟩ := four_cells HR.out.hd
    by_cases hlt : k < Q.length
    · have hv := List.getElem?_eq_getElem hlt
      generalize Q[k] = y at *
      have hyo := HR.out.ok y (List.mem_of_getElem? hv)
      obtain ⟨b, off, rfl, hc⟩ := HR.out.rows.get (by decide) (k := k) (r := row65 y) (by rw [List.getElem?_map, hv]; rfl)
      have hrb : b ≠ tb := fun e => HR.out.apart.2.2 (by rw [e]; rfl)
      have HRG : Hid (∀ (j : Nat) v, y.now[j]? = some v → wr.cell? ⟨b, off + k * 65 + 1 + j, none⟩ = some (bv v)) := fun j v hv' => by
        have := hc (j + 1) (bv v) (by unfold row65; rw [List.getElem?_cons_succ, List.getElem?_map, hv']; rfl)
        rw [show off + k * 65 + 1 + j = off + k * 65 + (j + 1) from by omega]
        exact this
      have HAT : Hid (wr.cell? ⟨b, off + k * 65, none⟩ = some (.int .i64 (y.at' : Int))) := hc 0 _ rfl
      have HN := hid HR.out.few
      have hyn : y.at' < n := hyo.1
      have hyl := hyo.2
      have hyi : (y.at' : Int) < (n : Int) := by omega
      have hki : (k : Int) < (Q.length : Int) := by omega
      have HV := hid hv
      obtain ⟨TT, hTT⟩ : ∃ TT, TT = layM T (Q.take k) ks := ⟨_, rfl⟩
      rw [← hTT] at HR HN
      have HTT := hid hTT
      have hyT : y.at' < TT.length := by have := HN.out.1; omega
      have hs := List.getElem?_eq_getElem hyT
      generalize TT[y.at'] = s at *
      have hsl : s.length = 64 := HR.out.len s (List.mem_of_getElem? hs)
      have HS := hid hs
      have HSL := hid (And.intro hsl hyl)
      clear hv hc hTT hs hyo hsl hyl
      obtain ⟨m, hm, hmc⟩ : ∃ m : Nat, m ≤ 64 ∧ ((k < ks.length ∧ ∃ z, ks[k]? = some z ∧ m = cl z) ∨ (ks.length ≤ k ∧ m = 0)) := by
        by_cases hkk : k < ks.length
        · exact ⟨cl (ks[k]), cl_le _, .inl ⟨hkk, _, List.getElem?_eq_getElem hkk, rfl⟩⟩
        · exact ⟨0, by omega, .inr ⟨by omega, rfl⟩⟩
      have HMC := hid hmc
      clear hmc
      go_upto_if 22 with fail
      go_cut [5] from 22 to 28 (fun z wx => z = .int .i64 (m : Int) ∧ wx = wr)
      case first =>
        rcases HMC.out with ⟨hkk, z, hz, hmz⟩ | ⟨hkk, hmz⟩
        · have hkI : (k : Int) < (ks.length : Int) := by omega
          have hxw : Rws 1 wr (.slice xo ks.length xc) (ks.map fun z => [.int .i64 z]) := HX.out.keep HFr.out.keep (fun hne k hk => HXO.out (fun e => hne (by rw [e]; rfl)) k hk)
          obtain ⟨xb, xoff, rfl, hxc⟩ := hxw.get (by decide) (k := k) (r := [.int .i64 z]) (by rw [List.getElem?_map, hz]; rfl)
          have hz1 : wr.cell? ⟨xb, xoff + k, none⟩ = some (.int .i64 z) := by have := hxc 0 _ rfl; rwa [Nat.mul_one, Nat.add_zero] at this
          have hci := cl_int z
          rw [← hmz] at hci
          have HCI := hid hci
          clear hxw hxc hz hmz hci
          go_wp2_with fail
          go_meet
          refine ⟨?_, rfl⟩
          have := HCI.out
          congr 1
          omega
        · have hkI : (ks.length : Int) ≤ (k : Int) := by omega
          subst hmz
          go_wp2_with fail
          go_meet
          exact ⟨rfl, rfl⟩
      case rest =>
        obtain ⟨rfl, rfl⟩ := hcut
        clear c0 c1 c2 c3 f0 f1 f2 f3
        have hm64 : (m : Int) ≤ 64 := by omega
        go_wp2_with fail
        go_loopw [6] (fun j wr => ∃ i : Nat, i ≤ m ∧ j = .int .i64 (i : Int) ∧ Hid (Rk wr rb tb n (.slice (some ⟨b, off, none⟩) Q.length vc) (TT.set y.at' (crow y.now s i)) Q true lf) ∧ Hid (Keep (fun k => k = tb) wc wr)) (fun j _ => m - (intOf j).toNat)
        case atStart => exact ⟨0, by omega, rfl, by rw [set_crow0 HS.out]; exact HR, Keep.refl _ _⟩
        case round =>
          obtain ⟨i, hi, rfl, HQ, HK⟩ := hrel
          by_cases him : i < m
          · have hcl := List.getElem?_eq_getElem (show i < y.now.length by have := HSL.out.2; omega)
            generalize y.now[i]'_ = cc at *
            obtain ⟨c0, c1, c2, c3, f0, f1, f2, f3⟩ := four_cells HQ.out.hd
            have hblt : b < wc.heap.size := World.block_lt_of_cell? wc _ HAT.out
            have hkc : ∀ o, wr.cell? ⟨b, o, none⟩ = wc.cell? ⟨b, o, none⟩ := fun o => World.cell?_of_block (w := wc) (a := ⟨b, o, none⟩) (HK.out.block b hblt hrb)
            have hat : wr.cell? ⟨b, off + k * 65, none⟩ = some (.int .i64 (y.at' : Int)) := (hkc _).trans HAT.out
            have hby : wr.cell? ⟨b, off + k * 65 + 1 + i, none⟩ = some (bv cc) := (hkc _).trans (HRG.out i cc hcl)
            have hsr : (TT.set y.at' (crow y.now s i))[y.at']? = some (crow y.now s i) := List.getElem?_set_self hyT
            have hcrl := crow_len (now := y.now) (old := s) (k := i) HSL.out.2 HSL.out.1 (by omega)
            have hold := List.getElem?_eq_getElem (show i < (crow y.now s i).length by omega)
            generalize (crow y.now s i)[i]'_ = oc at *
            have hoc : wr.cell? ⟨tb, y.at' * 64 + i, none⟩ = some (bv oc) := HQ.out.rd hsr i (bv oc) (by rw [List.getElem?_map, hold]; rfl)
            have hof : wr.frozen? ⟨tb, y.at' * 64 + i, none⟩ = false := by
              unfold World.frozen?
              rw [HQ.out.sh]
              simp
            have hii : (i : Int) < 64 := by omega
            have hi0 : (i : Int) < (m : Int) := by omega
            have hnx : Rk (wr.setCell ⟨tb, y.at' * 64 + i, none⟩ (bv cc)) rb tb n (.slice (some ⟨b, off, none⟩) Q.length vc) (TT.set y.at' (crow y.now s (i + 1))) Q true lf := by
              refine HQ.out.turned (Keep.set (X := fun k => k = tb) wr _ _ rfl) ?_ (by rw [List.length_set, List.length_set]) ?_
              · have h9 := set_at (k := y.at' * 64 + i) (bv cc) HQ.out.sh
                rw [cell_set HQ.out.len hsr i (by omega) cc, List.set_set, ← crow_next hcl HSL.out.2 HSL.out.1 (by omega)] at h9
                exact h9
              · intro q hq
                rcases List.mem_or_eq_of_mem_set hq with hq | rfl
                · exact HR.out.len q hq
                · exact crow_len HSL.out.2 HSL.out.1 (by omega)
            have HNX := hid hnx
            have HKX : Hid (Keep (fun k => k = tb) wc (wr.setCell ⟨tb, y.at' * 64 + i, none⟩ (bv cc))) := HK.out.trans (Keep.set (X := fun k => k = tb) wr _ _ rfl)
            have hrbt : rb ≠ tb := HR.out.apart.1
            have HRBL := hid (lt_of_block HQ.out.hd)
            clear hcl hkc hsr hcrl hold hnx
            unfold bv at hby hoc HNX HKX
            go_upto_region 10 with fail
            obtain ⟨S9, hS9⟩ : ∃ S9 : World → Prop, S9 = fun V => V.cell? ⟨rb, 0, none⟩ = some (.slice (some ⟨tb, 0, none⟩) n n) ∧ V.cell? ⟨rb, 1, none⟩ = some (.slice (some ⟨b, off, none⟩) Q.length vc) ∧ V.cell? ⟨b, off + k * 65, none⟩ = some (.int .i64 (y.at' : Int)) ∧ V.cell? ⟨b, off + k * 65 + 1 + i, none⟩ = some (.int .u8 (cc.toNat : Int)) := ⟨_, rfl⟩
            have hY : ∀ V, S9 V → V.cell? ⟨rb, 0, none⟩ = some (.slice (some ⟨tb, 0, none⟩) n n) ∧ V.cell? ⟨rb, 1, none⟩ = some (.slice (some ⟨b, off, none⟩) Q.length vc) ∧ V.cell? ⟨b, off + k * 65, none⟩ = some (.int .i64 (y.at' : Int)) ∧ V.cell? ⟨b, off + k * 65 + 1 + i, none⟩ = some (.int .u8 (cc.toNat : Int)) := fun V h => by rw [hS9] at h; exact h
            have hY2 : ∀ V, V.cell? ⟨rb, 0, none⟩ = some (.slice (some ⟨tb, 0, none⟩) n n) → V.cell? ⟨rb, 1, none⟩ = some (.slice (some ⟨b, off, none⟩) Q.length vc) → V.cell? ⟨b, off + k * 65, none⟩ = some (.int .i64 (y.at' : Int)) → V.cell? ⟨b, off + k * 65 + 1 + i, none⟩ = some (.int .u8 (cc.toNat : Int)) → S9 V := fun V h1 h2 h3 h4 => by rw [hS9]; exact ⟨h1, h2, h3, h4⟩
            clear hS9
            refine wp_region_noPanic ?_
            refine wp_region_held_drew (S := S9) (by kernel_rfl) (hY2 _ c0 c1 hat hby) (fun hX9 => ?_)
            refine wpAnyH_take (i := 0) (v := (.pointer (some ⟨rb, 0, none⟩))) rfl (by kernel_rfl) (by kernel_rfl) (by kernel_rfl) (fun _ _ _ h => (show False from h).elim) ?xyC0 ?xhC0 ?xrC0
            case xhC0 => exact hX9
            case xyC0 => exact Or.inl ⟨by rfl, fun V hV => by obtain ⟨hc1, hc2, hc3, hc4⟩ := hY V hV; clear hY hY2 hX9; simp only [List.getElem_toArray, List.getElem_cons_succ, List.getElem_cons_zero]; go_simp⟩
            simp only [Act.put, List.getElem_toArray, List.getElem_cons_succ, List.getElem_cons_zero, List.setIfInBounds_toArray, List.set_cons_succ, List.set_cons_zero]
            refine wpAnyH_take (i := 1) (v := (.pointer (some ⟨rb, 0, none⟩))) rfl (by kernel_rfl) (by kernel_rfl) (by kernel_rfl) (fun _ _ _ h => (show False from h).elim) ?xyC1 ?xhC1 ?xrC1
            case xhC1 => exact hX9
            case xyC1 => exact Or.inl ⟨by rfl, fun V hV => by obtain ⟨hc1, hc2, hc3, hc4⟩ := hY V hV; clear hY hY2 hX9; simp only [List.getElem_toArray, List.getElem_cons_succ, List.getElem_cons_zero]; go_simp⟩
            simp only [Act.put, List.getElem_toArray, List.getElem_cons_succ, List.getElem_cons_zero, List.setIfInBounds_toArray, List.set_cons_succ, List.set_cons_zero]
            refine wpAnyH_take (i := 2) (v := (.pointer (some ⟨rb, 0, none⟩))) rfl (by kernel_rfl) (by kernel_rfl) (by kernel_rfl) (fun _ _ _ h => (show False from h).elim) ?xyC2 ?xhC2 ?xrC2
            case xhC2 => exact hX9
            case xyC2 => exact Or.inl ⟨by rfl, fun V hV => by obtain ⟨hc1, hc2, hc3, hc4⟩ := hY V hV; clear hY hY2 hX9; simp only [List.getElem_toArray, List.getElem_cons_succ, List.getElem_cons_zero]; go_simp⟩
            simp only [Act.put, List.getElem_toArray, List.getElem_cons_succ, List.getElem_cons_zero, List.setIfInBounds_toArray, List.set_cons_succ, List.set_cons_zero]
            refine wpAnyH_take (i := 3) (v := (.slice (some ⟨tb, 0, none⟩) n n)) rfl (by kernel_rfl) (by kernel_rfl) (by kernel_rfl) (fun _ _ _ h => (show False from h).elim) ?xyC3 ?xhC3 ?xrC3
            case xhC3 => exact hX9
            case xyC3 => exact Or.inl ⟨by rfl, fun V hV => by obtain ⟨hc1, hc2, hc3, hc4⟩ := hY V hV; clear hY hY2 hX9; simp only [List.getElem_toArray, List.getElem_cons_succ, List.getElem_cons_zero]; go_simp⟩
            simp only [Act.put, List.getElem_toArray, List.getElem_cons_succ, List.getElem_cons_zero, List.setIfInBounds_toArray, List.set_cons_succ, List.set_cons_zero]
            refine wpAnyH_take (i := 4) (v := (.pointer (some ⟨rb, 0, none⟩))) rfl (by kernel_rfl) (by kernel_rfl) (by kernel_rfl) (fun _ _ _ h => (show False from h).elim) ?xyC4 ?xhC4 ?xrC4
            case xhC4 => exact hX9
            case xyC4 => exact Or.inl ⟨by rfl, fun V hV => by obtain ⟨hc1, hc2, hc3, hc4⟩ := hY V hV; clear hY hY2 hX9; simp only [List.getElem_toArray, List.getElem_cons_succ, List.getElem_cons_zero]; go_simp⟩
            simp only [Act.put, List.getElem_toArray, List.getElem_cons_succ, List.getElem_cons_zero, List.setIfInBounds_toArray, List.set_cons_succ, List.set_cons_zero]
            refine wpAnyH_take (i := 5) (v := (.pointer (some ⟨rb, 0, none⟩))) rfl (by kernel_rfl) (by kernel_rfl) (by kernel_rfl) (fun _ _ _ h => (show False from h).elim) ?xyC5 ?xhC5 ?xrC5
            case xhC5 => exact hX9
            case xyC5 => exact Or.inl ⟨by rfl, fun V hV => by obtain ⟨hc1, hc2, hc3, hc4⟩ := hY V hV; clear hY hY2 hX9; simp only [List.getElem_toArray, List.getElem_cons_succ, List.getElem_cons_zero]; go_simp⟩
            simp only [Act.put, List.getElem_toArray, List.getElem_cons_succ, List.getElem_cons_zero, List.setIfInBounds_toArray, List.set_cons_succ, List.set_cons_zero]
            refine wpAnyH_take (i := 6) (v := (.pointer (some ⟨rb, 1, none⟩))) rfl (by kernel_rfl) (by kernel_rfl) (by kernel_rfl) (fun _ _ _ h => (show False from h).elim) ?xyC6 ?xhC6 ?xrC6
            case xhC6 => exact hX9
            case xyC6 => exact Or.inl ⟨by rfl, fun V hV => by obtain ⟨hc1, hc2, hc3, hc4⟩ := hY V hV; clear hY hY2 hX9; simp only [List.getElem_toArray, List.getElem_cons_succ, List.getElem_cons_zero]; go_simp⟩
            simp only [Act.put, List.getElem_toArray, List.getElem_cons_succ, List.getElem_cons_zero, List.setIfInBounds_toArray, List.set_cons_succ, List.set_cons_zero]
            refine wpAnyH_take (i := 7) (v := (.slice (some ⟨b, off, none⟩) Q.length vc)) rfl (by kernel_rfl) (by kernel_rfl) (by kernel_rfl) (fun _ _ _ h => (show False from h).elim) ?xyC7 ?xhC7 ?xrC7
            case xhC7 => exact hX9
            case xyC7 => exact Or.inl ⟨by rfl, fun V hV => by obtain ⟨hc1, hc2, hc3, hc4⟩ := hY V hV; clear hY hY2 hX9; simp only [List.getElem_toArray, List.getElem_cons_succ, List.getElem_cons_zero]; go_simp⟩
            simp only [Act.put, List.getElem_toArray, List.getElem_cons_succ, List.getElem_cons_zero, List.setIfInBounds_toArray, List.set_cons_succ, List.set_cons_zero]
            refine wpAnyH_take (i := 8) (v := (.int .i64 (k : Int))) rfl (by kernel_rfl) (by kernel_rfl) (by kernel_rfl) (fun _ _ _ h => (show False from h).elim) ?xyC8 ?xhC8 ?xrC8
            case xhC8 => exact hX9
            case xyC8 => exact Or.inl ⟨by rfl, fun V hV => by obtain ⟨hc1, hc2, hc3, hc4⟩ := hY V hV; clear hY hY2 hX9; simp only [List.getElem_toArray, List.getElem_cons_succ, List.getElem_cons_zero]; go_simp⟩
            simp only [Act.put, List.getElem_toArray, List.getElem_cons_succ, List.getElem_cons_zero, List.setIfInBounds_toArray, List.set_cons_succ, List.set_cons_zero]
            refine wpAnyH_take (i := 9) (v := (.pointer (some ⟨b, off + k * 65, none⟩))) rfl (by kernel_rfl) (by kernel_rfl) (by kernel_rfl) (fun _ _ _ h => (show False from h).elim) ?xyC9 ?xhC9 ?xrC9
            case xhC9 => exact hX9
            case xyC9 => exact Or.inl ⟨by rfl, fun V hV => by obtain ⟨hc1, hc2, hc3, hc4⟩ := hY V hV; clear hY hY2 hX9; simp only [List.getElem_toArray, List.getElem_cons_succ, List.getElem_cons_zero]; go_simp⟩
            simp only [Act.put, List.getElem_toArray, List.getElem_cons_succ, List.getElem_cons_zero, List.setIfInBounds_toArray, List.set_cons_succ, List.set_cons_zero]
            refine wpAnyH_take (i := 10) (v := (.pointer (some ⟨b, off + k * 65, none⟩))) rfl (by kernel_rfl) (by kernel_rfl) (by kernel_rfl) (fun _ _ _ h => (show False from h).elim) ?xyC10 ?xhC10 ?xrC10
            case xhC10 => exact hX9
            case xyC10 => exact Or.inl ⟨by rfl, fun V hV => by obtain ⟨hc1, hc2, hc3, hc4⟩ := hY V hV; clear hY hY2 hX9; simp only [List.getElem_toArray, List.getElem_cons_succ, List.getElem_cons_zero]; go_simp⟩
            simp only [Act.put, List.getElem_toArray, List.getElem_cons_succ, List.getElem_cons_zero, List.setIfInBounds_toArray, List.set_cons_succ, List.set_cons_zero]
            refine wpAnyH_take (i := 11) (v := (.int .i64 (y.at' : Int))) rfl (by kernel_rfl) (by kernel_rfl) (by kernel_rfl) (fun _ _ _ h => (show False from h).elim) ?xyC11 ?xhC11 ?xrC11
            case xhC11 => exact hX9
            case xyC11 => exact Or.inl ⟨by rfl, fun V hV => by obtain ⟨hc1, hc2, hc3, hc4⟩ := hY V hV; clear hY hY2 hX9; simp only [List.getElem_toArray, List.getElem_cons_succ, List.getElem_cons_zero]; go_simp⟩
            simp only [Act.put, List.getElem_toArray, List.getElem_cons_succ, List.getElem_cons_zero, List.setIfInBounds_toArray, List.set_cons_succ, List.set_cons_zero]
            refine wpAnyH_take (i := 12) (v := (.int .i64 (i : Int))) rfl (by kernel_rfl) (by kernel_rfl) (by kernel_rfl) (fun _ _ _ h => (show False from h).elim) ?xyC12 ?xhC12 ?xrC12
            case xhC12 => exact hX9
            case xyC12 => exact Or.inl ⟨by rfl, fun V hV => by obtain ⟨hc1, hc2, hc3, hc4⟩ := hY V hV; clear hY hY2 hX9; simp only [List.getElem_toArray, List.getElem_cons_succ, List.getElem_cons_zero]; go_simp⟩
            simp only [Act.put, List.getElem_toArray, List.getElem_cons_succ, List.getElem_cons_zero, List.setIfInBounds_toArray, List.set_cons_succ, List.set_cons_zero]
            refine wpAnyH_take (i := 13) (v := (.pointer (some ⟨rb, 0, none⟩))) rfl (by kernel_rfl) (by kernel_rfl) (by kernel_rfl) (fun _ _ _ h => (show False from h).elim) ?xyC13 ?xhC13 ?xrC13
            case xhC13 => exact hX9
            case xyC13 => exact Or.inl ⟨by rfl, fun V hV => by obtain ⟨hc1, hc2, hc3, hc4⟩ := hY V hV; clear hY hY2 hX9; simp only [List.getElem_toArray, List.getElem_cons_succ, List.getElem_cons_zero]; go_simp⟩
            simp only [Act.put, List.getElem_toArray, List.getElem_cons_succ, List.getElem_cons_zero, List.setIfInBounds_toArray, List.set_cons_succ, List.set_cons_zero]
            refine wpAnyH_take (i := 14) (v := (.pointer (some ⟨rb, 0, none⟩))) rfl (by kernel_rfl) (by kernel_rfl) (by kernel_rfl) (fun _ _ _ h => (show False from h).elim) ?xyC14 ?xhC14 ?xrC14
            case xhC14 => exact hX9
            case xyC14 => exact Or.inl ⟨by rfl, fun V hV => by obtain ⟨hc1, hc2, hc3, hc4⟩ := hY V hV; clear hY hY2 hX9; simp only [List.getElem_toArray, List.getElem_cons_succ, List.getElem_cons_zero]; go_simp⟩
            simp only [Act.put, List.getElem_toArray, List.getElem_cons_succ, List.getElem_cons_zero, List.setIfInBounds_toArray, List.set_cons_succ, List.set_cons_zero]
            refine wpAnyH_take (i := 15) (v := (.pointer (some ⟨rb, 1, none⟩))) rfl (by kernel_rfl) (by kernel_rfl) (by kernel_rfl) (fun _ _ _ h => (show False from h).elim) ?xyC15 ?xhC15 ?xrC15
            case xhC15 => exact hX9
            case xyC15 => exact Or.inl ⟨by rfl, fun V hV => by obtain ⟨hc1, hc2, hc3, hc4⟩ := hY V hV; clear hY hY2 hX9; simp only [List.getElem_toArray, List.getElem_cons_succ, List.getElem_cons_zero]; go_simp⟩
            simp only [Act.put, List.getElem_toArray, List.getElem_cons_succ, List.getElem_cons_zero, List.setIfInBounds_toArray, List.set_cons_succ, List.set_cons_zero]
            refine wpAnyH_take (i := 16) (v := (.slice (some ⟨b, off, none⟩) Q.length vc)) rfl (by kernel_rfl) (by kernel_rfl) (by kernel_rfl) (fun _ _ _ h => (show False from h).elim) ?xyC16 ?xhC16 ?xrC16
            case xhC16 => exact hX9
            case xyC16 => exact Or.inl ⟨by rfl, fun V hV => by obtain ⟨hc1, hc2, hc3, hc4⟩ := hY V hV; clear hY hY2 hX9; simp only [List.getElem_toArray, List.getElem_cons_succ, List.getElem_cons_zero]; go_simp⟩
            simp only [Act.put, List.getElem_toArray, List.getElem_cons_succ, List.getElem_cons_zero, List.setIfInBounds_toArray, List.set_cons_succ, List.set_cons_zero]
            refine wpAnyH_take (i := 17) (v := (.int .i64 (k : Int))) rfl (by kernel_rfl) (by kernel_rfl) (by kernel_rfl) (fun _ _ _ h => (show False from h).elim) ?xyC17 ?xhC17 ?xrC17
            case xhC17 => exact hX9
            case xyC17 => exact Or.inl ⟨by rfl, fun V hV => by obtain ⟨hc1, hc2, hc3, hc4⟩ := hY V hV; clear hY hY2 hX9; simp only [List.getElem_toArray, List.getElem_cons_succ, List.getElem_cons_zero]; go_simp⟩
            simp only [Act.put, List.getElem_toArray, List.getElem_cons_succ, List.getElem_cons_zero, List.setIfInBounds_toArray, List.set_cons_succ, List.set_cons_zero]
            refine wpAnyH_take (i := 18) (v := (.int .i64 (i : Int))) rfl (by kernel_rfl) (by kernel_rfl) (by kernel_rfl) (fun _ _ _ h => (show False from h).elim) ?xyC18 ?xhC18 ?xrC18
            case xhC18 => exact hX9
            case xyC18 => exact Or.inl ⟨by rfl, fun V hV => by obtain ⟨hc1, hc2, hc3, hc4⟩ := hY V hV; clear hY hY2 hX9; simp only [List.getElem_toArray, List.getElem_cons_succ, List.getElem_cons_zero]; go_simp⟩
            simp only [Act.put, List.getElem_toArray, List.getElem_cons_succ, List.getElem_cons_zero, List.setIfInBounds_toArray, List.set_cons_succ, List.set_cons_zero]
            refine wpAnyH_take (i := 19) (v := (.pointer (some ⟨b, off + k * 65, none⟩))) rfl (by kernel_rfl) (by kernel_rfl) (by kernel_rfl) (fun _ _ _ h => (show False from h).elim) ?xyC19 ?xhC19 ?xrC19
            case xhC19 => exact hX9
            case xyC19 => exact Or.inl ⟨by rfl, fun V hV => by obtain ⟨hc1, hc2, hc3, hc4⟩ := hY V hV; clear hY hY2 hX9; simp only [List.getElem_toArray, List.getElem_cons_succ, List.getElem_cons_zero]; go_simp⟩
            simp only [Act.put, List.getElem_toArray, List.getElem_cons_succ, List.getElem_cons_zero, List.setIfInBounds_toArray, List.set_cons_succ, List.set_cons_zero]
            refine wpAnyH_take (i := 20) (v := (.pointer (some ⟨b, off + k * 65 + 1, none⟩))) rfl (by kernel_rfl) (by kernel_rfl) (by kernel_rfl) (fun _ _ _ h => (show False from h).elim) ?xyC20 ?xhC20 ?xrC20
            case xhC20 => exact hX9
            case xyC20 => exact Or.inl ⟨by rfl, fun V hV => by obtain ⟨hc1, hc2, hc3, hc4⟩ := hY V hV; clear hY hY2 hX9; simp only [List.getElem_toArray, List.getElem_cons_succ, List.getElem_cons_zero]; go_simp⟩
            simp only [Act.put, List.getElem_toArray, List.getElem_cons_succ, List.getElem_cons_zero, List.setIfInBounds_toArray, List.set_cons_succ, List.set_cons_zero]
            refine wpAnyH_take (i := 21) (v := (.pointer (some ⟨b, off + k * 65 + 1 + i, none⟩))) rfl (by kernel_rfl) (by kernel_rfl) (by kernel_rfl) (fun _ _ _ h => (show False from h).elim) ?xyC21 ?xhC21 ?xrC21
            case xhC21 => exact hX9
            case xyC21 => exact Or.inl ⟨by rfl, fun V hV => by obtain ⟨hc1, hc2, hc3, hc4⟩ := hY V hV; clear hY hY2 hX9; simp only [List.getElem_toArray, List.getElem_cons_succ, List.getElem_cons_zero]; go_simp⟩
            simp only [Act.put, List.getElem_toArray, List.getElem_cons_succ, List.getElem_cons_zero, List.setIfInBounds_toArray, List.set_cons_succ, List.set_cons_zero]
            refine wpAnyH_take (i := 22) (v := (.int .u8 (cc.toNat : Int))) rfl (by kernel_rfl) (by kernel_rfl) (by kernel_rfl) (fun _ _ _ h => (show False from h).elim) ?xyC22 ?xhC22 ?xrC22
            case xhC22 => exact hX9
            case xyC22 => exact Or.inl ⟨by rfl, fun V hV => by obtain ⟨hc1, hc2, hc3, hc4⟩ := hY V hV; clear hY hY2 hX9; simp only [List.getElem_toArray, List.getElem_cons_succ, List.getElem_cons_zero]; go_simp⟩
            simp only [Act.put, List.getElem_toArray, List.getElem_cons_succ, List.getElem_cons_zero, List.setIfInBounds_toArray, List.set_cons_succ, List.set_cons_zero]
            refine wpAnyH_take (i := 23) (v := (.pointer (some ⟨tb, y.at' * 64, none⟩))) rfl (by kernel_rfl) (by kernel_rfl) (by kernel_rfl) (fun _ _ _ h => (show False from h).elim) ?xyC23 ?xhC23 ?xrC23
            case xhC23 => exact hX9
            case xyC23 => exact Or.inl ⟨by rfl, fun V hV => by obtain ⟨hc1, hc2, hc3, hc4⟩ := hY V hV; clear hY hY2 hX9; simp only [List.getElem_toArray, List.getElem_cons_succ, List.getElem_cons_zero]; go_simp⟩
            simp only [Act.put, List.getElem_toArray, List.getElem_cons_succ, List.getElem_cons_zero, List.setIfInBounds_toArray, List.set_cons_succ, List.set_cons_zero]
            refine wpAnyH_take (i := 24) (v := (.pointer (some ⟨tb, y.at' * 64 + i, none⟩))) rfl (by kernel_rfl) (by kernel_rfl) (by kernel_rfl) (fun _ _ _ h => (show False from h).elim) ?xyC24 ?xhC24 ?xrC24
            case xhC24 => exact hX9
            case xyC24 => exact Or.inl ⟨by rfl, fun V hV => by obtain ⟨hc1, hc2, hc3, hc4⟩ := hY V hV; clear hY hY2 hX9; simp only [List.getElem_toArray, List.getElem_cons_succ, List.getElem_cons_zero]; go_simp⟩
            simp only [Act.put, List.getElem_toArray, List.getElem_cons_succ, List.getElem_cons_zero, List.setIfInBounds_toArray, List.set_cons_succ, List.set_cons_zero]
            refine wpAnyH_all (rs := [25]) (by kernel_rfl) (by simp) (fun i hi => ?_)
            obtain rfl : i = 25 := by simpa using hi
            unfold wpOp
            simp only [List.getElem?_toArray, List.getElem?_cons_succ, List.getElem?_cons_zero]
            rw [if_pos (by rfl)]
            have hcell : ∀ (b o : Nat), b ≠ tb → (wr.drew.setCell ⟨tb, y.at' * 64 + i, none⟩ (.int .u8 (cc.toNat : Int))).cell? ⟨b, o, none⟩ = wr.cell? ⟨b, o, none⟩ := fun b o hb => World.cell?_of_block (w := wr) (a := ⟨b, o, none⟩) (Below.heap_setCell _ ⟨tb, y.at' * 64 + i, none⟩ _ b hb)
            have HYY := hid (hY2 (wr.drew.setCell ⟨tb, y.at' * 64 + i, none⟩ (.int .u8 (cc.toNat : Int))) ((hcell _ _ hrbt).trans c0) ((hcell _ _ hrbt).trans c1) ((hcell _ _ hrb).trans hat) ((hcell _ _ hrb).trans hby))
            clear hY hY2 hX9 hcell
            go_simp
            refine .inl ⟨HYY.out, ?_⟩
            refine wpAnyH_done (by kernel_rfl) (NoPanic.normal ?_) _
            clear c0 c1 c2 c3 f0 f1 f2 f3 hat hby hoc hof
            go_wp2_with fail
            go_roundw
            case rel => exact ⟨i + 1, by omega, by go_num, HNX.out.old ((Below.refl _ _).drew), HKX.out.trans (Keep.of_below ((Below.refl _ _).drew))⟩
            case measure => first | (simp [intOf]; done) | (simp [intOf]; omega)
          · obtain rfl : i = m := by omega
            have HZ : Hid (Rk wr rb tb n (.slice (some ⟨b, off, none⟩) Q.length vc) (layM T (Q.take (k + 1)) ks) Q true lf) := by
              show Rk _ _ _ _ _ _ _ _ _
              rcases HMC.out with ⟨hkk, z, hz, hmz⟩ | ⟨hkk, hmz⟩
              · rw [ly_next HV.out hz, ← HTT.out, ly_one HS.out, ← hmz]
                exact HQ.out
              · rw [ly_more hkk, ← HTT.out]
                have := HQ.out
                rw [hmz, set_crow0 HS.out] at this
                exact this
            have HFn : Hid (Dfr rb tb (.slice (some ⟨b, off, none⟩) Q.length vc) (.slice (some ⟨b, off, none⟩) Q.length vc) w wr) := HFr.out.trans ⟨HK.out.mono (fun k _ e => .inr (.inl e)), fun _ h => .inl h⟩
            go_wp2_with fail
            go_roundw
            case rel => exact ⟨k + 1, by omega, by go_num, HZ, HFn⟩
            case measure => first | (simp [intOf]; done) | (simp [intOf]; omega)
    · obtain rfl : k = Q.length := by omega
      rw [List.take_length] at HR
      go_wp2_with fail
      go_end0
      exact ⟨rfl, _, HR.out.set1, HFr.out.trans (Dfr.set _ _ _ _ 1 _).nil⟩
end
end Go.Proofs.Ytihholgdpmbkeaa
