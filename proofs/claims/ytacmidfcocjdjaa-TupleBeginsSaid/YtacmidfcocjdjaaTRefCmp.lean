/-
  THE DOCUMENT's CMP.
-/
import Derived.Test.YtacmidfcocjdjaaTCmp3
namespace Go.Proofs.Ytacmidfcocjdjaa
open Go.RowKit

theorem cmpV_kind {v u : Vl} (h : v.k < u.k) : cmpV v u = -1 := by unfold cmpV; rw [cmpI_lt h]; rfl
theorem cmpV_kind2 {v u : Vl} (h : u.k < v.k) : cmpV v u = 1 := by unfold cmpV; rw [cmpI_gt h]; rfl
theorem cmpV_int {v u : Vl} (hk : v.k = u.k) (h : v.i < u.i) : cmpV v u = -1 := by unfold cmpV; rw [hk, cmpI_self, cmpI_lt h]; rfl
theorem cmpV_int2 {v u : Vl} (hk : v.k = u.k) (h : u.i < v.i) : cmpV v u = 1 := by unfold cmpV; rw [hk, cmpI_self, cmpI_gt h]; rfl
theorem cmpV_text {v u : Vl} (hk : v.k = u.k) (hi : v.i = u.i) : cmpV v u = Lib.compareBytes v.s u.s := by unfold cmpV; rw [hk, hi, cmpI_self, cmpI_self]; rfl

theorem less_val {v u : Vl} (h : cmpV v u = Lib.compareBytes v.s u.s) (hs : v.s ≠ u.s) : cmpV v u = if Op.bytesLess v.s u.s then -1 else 1 := by
  rw [h, less_eq]
  rcases cb_tri v.s u.s with h1 | h1 | h1
  · rw [h1]; rfl
  · exact absurd (cb_eq _ _ h1) hs
  · rw [h1]; rfl

theorem drew_alloc2 {w wr : World} {o o' : Obj} (h : Below w.heap.size w wr) : Below w.heap.size w ((wr.drew.alloc o).alloc o') := by
  have h1 : Below w.heap.size w wr.drew := ⟨h.os, h.tape, h.output, h.size, h.block⟩
  exact (h1.alloc h1.size o).alloc (h1.alloc h1.size o).size o'

set_option maxHeartbeats 16000000 in
set_option maxRecDepth 100000 in
theorem rcmp_any (x y : Value) (a b : List Vl) (w : World) (hx : Vs w x a) (hy : Vs w y b) (ha : ∀ v ∈ a, okV v) (hb : ∀ v ∈ b, okV v) :
    Calls Try.prog 28 #[x, y] w (Ans w (.int .i64 (cmpVs a b))) := by
  obtain ⟨ax, cx, rfl, hma⟩ := hx.form
  obtain ⟨ay, cy, rfl, hmb⟩ := hy.form
  unfold maxLen at hma hmb
  have HX := hid hx
  have HY := hid hy
  have HA := hid ha
  have HBO := hid hb
  clear hx hy ha hb
  go_enter Try.func28, Try.ntmps28
  go_wp2_with fail
  go_loopw [5] (fun i wr => ∃ k : Nat, k ≤ a.length ∧ k ≤ b.length ∧ i = .int .i64 k ∧ cmpVs (a.drop k) (b.drop k) = cmpVs a b ∧ Below w.heap.size w wr) (fun i _ => a.length - (intOf i).toNat)
  case atStart => exact ⟨0, by omega, by omega, rfl, rfl, Below.refl _ _⟩
  case round =>
    obtain ⟨k, hk, hkb, rfl, hc, hb⟩ := hrel
    have HB := hid hb
    have HC := hid hc
    clear hb hc
    by_cases hlt : k < a.length
    · by_cases hlb : k < b.length
      · have hv := List.getElem?_eq_getElem hlt
        generalize a[k] = v at *
        obtain ⟨b1, off1, rfl, d1, d2, d3⟩ := (HX.out.old HB.out).get hv
        have hu := List.getElem?_eq_getElem hlb
        generalize b[k] = u at *
        obtain ⟨b2, off2, rfl, e1, e2, e3⟩ := (HY.out.old HB.out).get hu
        have HS := hid (cmpVs_cons hv hu)
        have okv := HA.out v (List.mem_of_getElem? hv)
        have oku := HBO.out u (List.mem_of_getElem? hu)
        obtain ⟨vk, vi, vs⟩ := v
        obtain ⟨uk, ui, us⟩ := u
        simp only at d1 d2 d3 e1 e2 e3
        have f1 := fun o : Obj => (Below.refl wr.heap.size wr).alloc (Nat.le_refl _) o
        have f2 := fun o o' : Obj => (f1 o).alloc (f1 o).size o'
        have low : ∀ (p : Addr) (z : Value), wr.cell? p = some z → (∀ o, (wr.alloc o).cell? p = some z) ∧ (∀ o o', ((wr.alloc o).alloc o').cell? p = some z) := fun p z h =>
          ⟨fun o => by rw [← h]; exact (f1 o).cell (p := p) (World.block_lt_of_cell? _ _ h), fun o o' => by rw [← h]; exact (f2 o o').cell (p := p) (World.block_lt_of_cell? _ _ h)⟩
        obtain ⟨da1, db1⟩ := low _ _ d1
        obtain ⟨da2, db2⟩ := low _ _ d2
        obtain ⟨da3, db3⟩ := low _ _ d3
        obtain ⟨ea1, eb1⟩ := low _ _ e1
        obtain ⟨ea2, eb2⟩ := low _ _ e2
        obtain ⟨ea3, eb3⟩ := low _ _ e3
        clear low f1 f2
        have HNN : Hid (cmpV ⟨vk, vi, vs⟩ ⟨uk, ui, us⟩ ≠ 0 → cmpVs a b = cmpV ⟨vk, vi, vs⟩ ⟨uk, ui, us⟩) := fun hz => by rw [← HC.out, HS.out, if_pos hz]
        clear hv hu
        by_cases hkk : vk = uk
        · subst hkk
          by_cases hii : vi = ui
          · subst hii
            by_cases hss : vs = us
            · subst hss
              have HN : Hid (cmpVs (a.drop (k + 1)) (b.drop (k + 1)) = cmpVs a b) := by show _ = _; rw [← HC.out, HS.out, if_neg (by simp [cmpV_self])]
              clear okv oku HNN
              go_wp2_with fail
              go_region
              all_goals
                go_wp2_with fail
                go_roundw
                · exact ⟨k + 1, by omega, by omega, by go_num, HN.out, drew_alloc2 HB.out⟩
                · simp [intOf]; omega
            · have hk2 : vk = 2 := by
                rcases okv with ⟨-, -, h1⟩ | ⟨h1, h2⟩ | ⟨h1, -, -⟩
                · rcases oku with ⟨-, -, h3⟩ | ⟨h3, h4⟩ | ⟨h3, -, -⟩
                  · exact absurd (h1.trans h3.symm) hss
                  · exact absurd (h1.trans h4.symm) hss
                  · exact h3
                · rcases oku with ⟨-, -, h3⟩ | ⟨h3, h4⟩ | ⟨h3, -, -⟩
                  · exact absurd (h2.trans h3.symm) hss
                  · exact absurd (h2.trans h4.symm) hss
                  · exact h3
                · exact h1
              subst hk2
              have hss' : (vs == us) = false := by simp [hss]
              have hlv := less_val (cmpV_text (v := ⟨2, vi, vs⟩) (u := ⟨2, vi, us⟩) rfl rfl) hss
              simp only at hlv
              clear okv oku
              cases hle : Op.bytesLess vs us with
              | true =>
                have HN : Hid (cmpVs a b = -1) := by
                  rw [hle] at hlv
                  show _ = _
                  rw [HNN.out (by rw [hlv]; decide), hlv]; rfl
                clear hlv HNN
                go_wp2_with fail
                go_region
                all_goals
                  go_wp2_with fail
                  go_ret
                  unfold Ans
                  rw [HN.out]
                  exact ⟨rfl, drew_alloc2 HB.out⟩
              | false =>
                have HN : Hid (cmpVs a b = 1) := by
                  rw [hle] at hlv
                  show _ = _
                  rw [HNN.out (by rw [hlv]; decide), hlv]; rfl
                clear hlv HNN
                go_wp2_with fail
                go_region
                all_goals
                  go_wp2_with fail
                  go_ret
                  unfold Ans
                  rw [HN.out]
                  exact ⟨rfl, drew_alloc2 HB.out⟩
          · have hk1 : vk = 1 := by
              rcases okv with ⟨h0, h1, -⟩ | ⟨h1, h2⟩ | ⟨h0, h1, -⟩
              · rcases oku with ⟨h2, h3, -⟩ | ⟨h3, -⟩ | ⟨h2, h3, -⟩
                · exact absurd (h1.trans h3.symm) hii
                · exact h3
                · exact absurd (h1.trans h3.symm) hii
              · exact h1
              · rcases oku with ⟨h2, h3, -⟩ | ⟨h3, -⟩ | ⟨h2, h3, -⟩
                · exact absurd (h1.trans h3.symm) hii
                · exact h3
                · exact absurd (h1.trans h3.symm) hii
            subst hk1
            have hii' : (vi == ui) = false := by simp [hii]
            clear okv oku
            by_cases hlo : vi < ui
            · have HN : Hid (cmpVs a b = -1) := by
                have e := cmpV_int (v := ⟨1, vi, vs⟩) (u := ⟨1, ui, us⟩) rfl hlo
                show _ = _
                rw [HNN.out (by rw [e]; decide), e]
              clear HNN
              go_wp2_with fail
              go_region
              all_goals
                go_wp2_with fail
                go_ret
                unfold Ans
                rw [HN.out]
                exact ⟨rfl, drew_alloc2 HB.out⟩
            · have HN : Hid (cmpVs a b = 1) := by
                have e := cmpV_int2 (v := ⟨1, vi, vs⟩) (u := ⟨1, ui, us⟩) rfl (show ui < vi by omega)
                show _ = _
                rw [HNN.out (by rw [e]; decide), e]
              clear HNN
              go_wp2_with fail
              go_region
              all_goals
                go_wp2_with fail
                go_ret
                unfold Ans
                rw [HN.out]
                exact ⟨rfl, drew_alloc2 HB.out⟩
        · have hkk' : (vk == uk) = false := by simp [hkk]
          clear okv oku
          by_cases hlo : vk < uk
          · have HN : Hid (cmpVs a b = -1) := by
              have e := cmpV_kind (v := ⟨vk, vi, vs⟩) (u := ⟨uk, ui, us⟩) hlo
              show _ = _
              rw [HNN.out (by rw [e]; decide), e]
            clear HNN
            go_wp2_with fail
            go_region
            all_goals
              go_wp2_with fail
              go_ret
              unfold Ans
              rw [HN.out]
              exact ⟨rfl, drew_alloc2 HB.out⟩
          · have HN : Hid (cmpVs a b = 1) := by
              have e := cmpV_kind2 (v := ⟨vk, vi, vs⟩) (u := ⟨uk, ui, us⟩) (show uk < vk by omega)
              show _ = _
              rw [HNN.out (by rw [e]; decide), e]
            clear HNN
            go_wp2_with fail
            go_region
            all_goals
              go_wp2_with fail
              go_ret
              unfold Ans
              rw [HN.out]
              exact ⟨rfl, drew_alloc2 HB.out⟩
      · have HN : Hid (cmpVs a b = 1) := by show _ = _; rw [← HC.out, cmpVs_end1 hlt (by omega)]
        go_wp2_with fail
        go_ret
        unfold Ans
        rw [HN.out]
        exact ⟨rfl, HB.out⟩
    · by_cases hlb : k < b.length
      · have HN : Hid (cmpVs a b = -1) := by show _ = _; rw [← HC.out, cmpVs_end2 hlb (by omega)]
        go_wp2_with fail
        go_ret
        unfold Ans
        rw [HN.out]
        exact ⟨rfl, HB.out⟩
      · have HN : Hid (cmpVs a b = 0) := by show _ = _; rw [← HC.out, cmpVs_end3 (by omega) (by omega)]
        go_wp2_with fail
        go_ret
        unfold Ans
        rw [HN.out]
        exact ⟨rfl, HB.out⟩
end Go.Proofs.Ytacmidfcocjdjaa
