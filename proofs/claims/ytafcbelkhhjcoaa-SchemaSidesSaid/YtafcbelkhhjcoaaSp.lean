/-
  LAYER 12, THE DOCUMENT's: Right.
-/
import Derived.Test.YtafcbelkhhjcoaaSo
set_option linter.unusedVariables false
set_option linter.unusedSimpArgs false
set_option maxRecDepth 100000
namespace Go.Proofs.Ytafcbelkhhjcoaa
open Go.RowKit Go.Deep

def zR (_ : World) (r : List Value) (z : Int) : Prop := r = zRow z
theorem own_zs {e : TypeId} {base : Nat} {w : World} {v : Value} {l : List Int} (h : OwnL zR 1 e base w v l) : Rws 1 w v (l.map zRow) := by
  obtain ⟨M, h1, h2, h3, h4⟩ := h
  have hM : M = l.map zRow := by
    apply List.ext_getElem?
    intro i
    rcases Nat.lt_or_ge i l.length with hi | hi
    · have a1 : M[i]? = some (M[i]'(by omega)) := List.getElem?_eq_getElem (by omega)
      have a2 : l[i]? = some l[i] := List.getElem?_eq_getElem hi
      rw [List.getElem?_map, a2, a1, h4 i _ _ a1 a2]; rfl
    · rw [List.getElem?_eq_none (by omega), List.getElem?_eq_none (by rw [List.length_map]; omega)]
  subst hM
  exact Rws.own (e := e) (base := base) (by rw [List.length_map]; exact h2) h3
theorem tabsB_at {n : Int} {l : List Tab} {k : Nat} {t : Tab} (h : l[k]? = some t) : tabsB n (l.take k) (l.drop k) = (tabNew n (l.take k) t && tabsB n (l.take (k + 1)) (l.drop (k + 1))) := by
  obtain ⟨hk, rfl⟩ := List.getElem?_eq_some_iff.1 h
  rw [List.drop_eq_getElem_cons hk, tabsB, take_at h]
theorem idxsB_at {C : Cat} {l : List Idx} {k : Nat} {t : Idx} (h : l[k]? = some t) : idxsB C (l.take k) (l.drop k) = (idxNew C (l.take k) t && idxsB C (l.take (k + 1)) (l.drop (k + 1))) := by
  obtain ⟨hk, rfl⟩ := List.getElem?_eq_some_iff.1 h
  rw [List.drop_eq_getElem_cons hk, idxsB, take_at h]
theorem last_take {α : Type} {l : List α} {k : Nat} {a : α} (h : l[k]? = some a) : (l.take (k + 1)).getLast? = some a := by
  rw [take_at h]; simp

set_option maxHeartbeats 8000000 in
theorem rRight_any {N : Nat → Prop} {w : World} {cs : List Value} {C : Cat} (h : CatN N w cs C) (hw : C.W) : Calls Try.prog 17 #[.agg cs.toArray] w (fun e w' => e = .returned (.bool (catB C)) ∧ Below w.heap.size w w') := by
  have HH := hid h
  obtain ⟨x, y, hcs, hx, hy, -, -⟩ := h
  obtain ⟨ao, c, rfl, h1, h2, tc⟩ := tb_cells hx
  obtain ⟨ko, d, rfl, g1, g2, gc⟩ := ix_cells hy
  subst hcs
  have HT := hid tc
  have HX := hid gc
  have HW := hid hw
  have hlm : C.tabs.length ≤ 9223372036854775807 := by unfold maxLen at h2; omega
  have hkm : C.idxs.length ≤ 9223372036854775807 := by unfold maxLen at g2; omega
  clear hx hy tc gc hw
  go_enter Try.func17, Try.ntmps17
  go_upto_region 1 with fail
  have hb := (Below.refl w.heap.size w).alloc (Nat.le_refl _) (.cells #[.int .i64 C.ver, .int .i64 C.nxt, .slice ao C.tabs.length c, .slice ko C.idxs.length d] 25)
  have hz := heap_alloc_new w (.cells #[.int .i64 C.ver, .int .i64 C.nxt, .slice ao C.tabs.length c, .slice ko C.idxs.length d] 25)
  generalize w.alloc (.cells #[.int .i64 C.ver, .int .i64 C.nxt, .slice ao C.tabs.length c, .slice ko C.idxs.length d] 25) = w1 at *
  have HB := hid hb
  have HZ := hid hz
  clear hb hz
  have z0 := cell_in HZ.out 0 _ rfl
  have z1 := cell_in HZ.out 1 _ rfl
  have z2 := cell_in HZ.out 2 _ rfl
  have z3 := cell_in HZ.out 3 _ rfl
  by_cases a1 : 0 ≤ C.ver
  case neg =>
    have a1' : C.ver < 0 := by omega
    have HR : Hid (catB C = false) := hid (by unfold catB; simp [a1])
    go_wp2_with fail
    go_ret
    exact ⟨by rw [HR.out]; rfl, HB.out⟩
  have a1' : ¬ C.ver < 0 := by omega
  by_cases a2 : 1 ≤ C.nxt
  case neg =>
    have a2' : C.nxt < 1 := by omega
    have HR : Hid (catB C = false) := hid (by unfold catB; simp [a2])
    go_wp2_with fail
    go_ret
    exact ⟨by rw [HR.out]; rfl, HB.out⟩
  have a2' : ¬ C.nxt < 1 := by omega
  by_cases a3 : C.nxt ≤ 1073741824
  case neg =>
    have a3' : 1073741824 < C.nxt := by omega
    have HR : Hid (catB C = false) := hid (by unfold catB; simp [a3])
    go_wp2_with fail
    go_ret
    exact ⟨by rw [HR.out]; rfl, HB.out⟩
  have a3' : ¬ 1073741824 < C.nxt := by omega
  by_cases a4 : C.tabs.length ≤ 6
  case neg =>
    have a4' : (6 : Int) < (C.tabs.length : Int) := by omega
    have HR : Hid (catB C = false) := hid (by unfold catB; simp [a4])
    go_wp2_with fail
    go_ret
    exact ⟨by rw [HR.out]; rfl, HB.out⟩
  have a4' : ¬ (6 : Int) < (C.tabs.length : Int) := by omega
  by_cases a5 : C.idxs.length ≤ 10
  case neg =>
    have a5' : (10 : Int) < (C.idxs.length : Int) := by omega
    have HR : Hid (catB C = false) := hid (by unfold catB; simp [a5])
    go_wp2_with fail
    go_ret
    exact ⟨by rw [HR.out]; rfl, HB.out⟩
  have a5' : ¬ (10 : Int) < (C.idxs.length : Int) := by omega
  have HCB : Hid (catB C = (tabsB C.nxt [] C.tabs && idxsB C [] C.idxs)) := hid (by unfold catB; simp [a1, a2, a3, a4, a5])
  go_wp2_with fail
  clear z0 z1 z2 z3 a1 a1' a2 a2' a3 a3' a4' a5'
  go_loopw [3, 4] (fun v j wr => ∃ k : Nat, k ≤ C.tabs.length ∧ j = .int .i64 (k : Int) ∧ Below w1.heap.size w1 wr ∧ OwnL zR 1 3 w1.heap.size wr v ((C.tabs.take k).map Tab.id) ∧ tabsB C.nxt (C.tabs.take k) (C.tabs.drop k) = tabsB C.nxt [] C.tabs)
    (fun _ j _ => C.tabs.length - (intOf j).toNat)
  case atStart => exact ⟨0, by omega, rfl, Below.refl _ _, OwnL.nil _ _ _ _ _, rfl⟩
  case round =>
    obtain ⟨k, hk, rfl, hbr, hown, htb⟩ := hrel
    have HBR := hid hbr
    have HBA := hid (below_step HB.out hbr)
    have HOW := hid hown
    have HTB := hid htb
    clear hbr hown htb
    have HZR := hid ((HBR.out.block _ (lt_of_block HZ.out)).trans HZ.out)
    have z2 := cell_in HZR.out 2 _ rfl
    by_cases hlt : k < C.tabs.length
    · obtain ⟨u, hu⟩ : ∃ u, C.tabs[k]? = some u := ⟨_, List.getElem?_eq_getElem hlt⟩
      obtain ⟨b, off, t1, e1, t2, e2, rfl, ht, c0, c1, c2, c3⟩ := HT.out k u hu
      have hki : (k : Int) < (C.tabs.length : Int) := by omega
      have k0 := (HBA.out.cell (block_cell c0)).trans c0
      have k1 := (HBA.out.cell (block_cell c1)).trans c1
      have k2 := (HBA.out.cell (block_cell c2)).trans c2
      have k3 := (HBA.out.cell (block_cell c3)).trans c3
      clear c0 c1 c2 c3
      have HU := hid ht
      have HUW := hid (HW.out.2.2.1 u (List.mem_of_getElem? hu))
      have HTA := hid (tabsB_at (n := C.nxt) hu)
      rw [HTB.out] at HTA
      have HUK := hid hu
      clear ht hu
      go_upto_region 8 with fail
      have hb5 := (Below.refl wr.heap.size wr).alloc (Nat.le_refl _) (.cells #[.int .i64 u.id, .string ⟨u.name.toArray⟩, .slice t1 u.cols.length e1, .slice t2 u.key.length e2] 33)
      have hz5 := heap_alloc_new wr (.cells #[.int .i64 u.id, .string ⟨u.name.toArray⟩, .slice t1 u.cols.length e1, .slice t2 u.key.length e2] 33)
      generalize wr.alloc (.cells #[.int .i64 u.id, .string ⟨u.name.toArray⟩, .slice t1 u.cols.length e1, .slice t2 u.key.length e2] 33) = w5 at *
      have HB5 := hid hb5
      have HZ5 := hid hz5
      have HBA5 := hid (below_step HBA.out hb5)
      have HBR5 := hid (below_step HBR.out hb5)
      clear hb5 hz5 k0 k1 k2 k3 z2
      have HZ15 := hid ((HB5.out.block _ (lt_of_block HZR.out)).trans HZR.out)
      have z1 := cell_in HZ15.out 1 _ rfl
      have z2 := cell_in HZ15.out 2 _ rfl
      have y0 := cell_in HZ5.out 0 _ rfl
      have y1 := cell_in HZ5.out 1 _ rfl
      have y2 := cell_in HZ5.out 2 _ rfl
      have y3 := cell_in HZ5.out 3 _ rfl
      have HIN := hid (fun W (hW : Below w5.heap.size w5 W) => inInt_any W ((own_zs HOW.out).old (below_step HB5.out hW)) u.id)
      have HTR := hid (fun W (hW : Below w5.heap.size w5 W) => rTableRight_any (HU.out.old (below_step HBA5.out hW)) HUW.out)
      have HNO : Hid (tabNew C.nxt (C.tabs.take k) u = false → catB C = false) := hid (fun e => by rw [HCB.out, HTA.out, e]; rfl)
      go_cut [85] from 49 to 85 (fun s wx => ∃ q : Bool, s = .bool q ∧ Below w5.heap.size w5 wx ∧ Hid (tabNew C.nxt (C.tabs.take k) u = (!q && !((C.tabs.take k).any fun p => decide (p.name = u.name)))))
      case first =>
        by_cases b1 : 1 ≤ u.id
        case neg =>
          have b1' : u.id < 1 := by omega
          have HQ : Hid (tabNew C.nxt (C.tabs.take k) u = (!true && !((C.tabs.take k).any fun p => decide (p.name = u.name)))) := hid (by unfold tabNew; simp [b1])
          go_quiet (fail)
          go_wp2_with fail
          go_meet
          exact ⟨true, rfl, below_drewN _ _, HQ⟩
        have b1' : ¬ u.id < 1 := by omega
        by_cases b2 : u.id < C.nxt
        case neg =>
          have b2' : C.nxt ≤ u.id := by omega
          have HQ : Hid (tabNew C.nxt (C.tabs.take k) u = (!true && !((C.tabs.take k).any fun p => decide (p.name = u.name)))) := hid (by unfold tabNew; simp [b2])
          clear b1 b2
          go_quiet (fail)
          go_wp2_with fail
          go_meet
          exact ⟨true, rfl, below_drewN _ _, HQ⟩
        have b2' : ¬ C.nxt ≤ u.id := by omega
        have HT1 : Hid (tabNew C.nxt (C.tabs.take k) u = (!((C.tabs.take k).map Tab.id).contains u.id && (match (C.tabs.take k).getLast? with | none => true | some q => decide (q.id < u.id)) && tabB u && !((C.tabs.take k).any fun p => decide (p.name = u.name)))) := hid (by unfold tabNew; rw [decide_eq_true b1, decide_eq_true b2]; rfl)
        clear b1 b2
        generalize hqi : ((C.tabs.take k).map Tab.id).contains u.id = qi at *
        clear hqi
        cases qi with
        | true =>
          have HQ : Hid (tabNew C.nxt (C.tabs.take k) u = (!true && !((C.tabs.take k).any fun p => decide (p.name = u.name)))) := hid (by rw [HT1.out]; rfl)
          go_quiet ((go_at_call 63; exact Calls.quiet_of_same (HIN.out _ (below_drewN w5 _))))
          go_wp2_with fail
          go_meet
          exact ⟨true, rfl, below_drewN _ _, HQ⟩
        | false =>
          rcases Nat.eq_zero_or_pos k with hk0 | hk0
          · have HT2 : Hid (tabNew C.nxt (C.tabs.take k) u = (tabB u && !((C.tabs.take k).any fun p => decide (p.name = u.name)))) := hid (by rw [HT1.out, hk0]; simp)
            have HK0 := hid hk0
            clear HT1 hk0
            generalize tabB u = tq at *
            have HKp : Hid (∀ W, Below w5.heap.size w5 W → (W.cell? ⟨w.heap.size, 1, none⟩ = some (.int .i64 C.nxt) ∧ W.cell? ⟨w.heap.size, 2, none⟩ = some (.slice (some ⟨b, off, none⟩) C.tabs.length c) ∧ W.cell? ⟨wr.heap.size, 0, none⟩ = some (.int .i64 u.id) ∧ W.cell? ⟨wr.heap.size, 1, none⟩ = some (.string ⟨u.name.toArray⟩) ∧ W.cell? ⟨wr.heap.size, 2, none⟩ = some (.slice t1 u.cols.length e1) ∧ W.cell? ⟨wr.heap.size, 3, none⟩ = some (.slice t2 u.key.length e2))) := hid fun W hW =>
              ⟨(hW.cell (block_cell z1)).trans z1, (hW.cell (block_cell z2)).trans z2, (hW.cell (block_cell y0)).trans y0, (hW.cell (block_cell y1)).trans y1, (hW.cell (block_cell y2)).trans y2, (hW.cell (block_cell y3)).trans y3⟩
            --GEN0
            as_aux_lemma =>
              refine wp_region_noPanic ?_
              refine wp_region_held_drew (S := fun W => Hid (Below w5.heap.size w5 W)) (by kernel_rfl) (hid (Below.drew (Below.refl _ _))) (fun hHeld => ?_)
              generalize w5.drew = Wd at *
              refine tkH 0 (.pointer (some ⟨wr.heap.size, 0, none⟩)) rfl (by kernel_rfl) (fun _ _ _ => False.elim) hHeld (Or.inl ⟨by rfl, fun W9 hW => by clear hHeld hW; simp only [jA, jB, jC]; go_simp⟩) ?_
              simp only [Act.put, jA, jB, jC, jD, jE, jF]
              refine tkH 1 (.int .i64 u.id) rfl (by kernel_rfl) (fun _ _ _ => False.elim) hHeld (Or.inl ⟨by rfl, fun W9 hW => by obtain ⟨q1, q2, q3, q4, q5, q6⟩ := HKp.out _ hW.out; clear hHeld hW; simp only [jA, jB, jC]; go_simp⟩) ?_
              simp only [Act.put, jA, jB, jC, jD, jE, jF]
              refine tkH 2 (.bool false) rfl (by kernel_rfl) (fun _ _ _ => False.elim) hHeld (Or.inl ⟨by rfl, fun W9 hW => by clear hHeld hW; simp only [jA, jB, jC]; go_simp⟩) ?_
              simp only [Act.put, jA, jB, jC, jD, jE, jF]
              refine tkH 3 (.bool false) rfl (by kernel_rfl) (fun _ _ _ => False.elim) hHeld (Or.inl ⟨by rfl, fun W9 hW => by clear hHeld hW; simp only [jA, jB, jC]; go_simp⟩) ?_
              simp only [Act.put, jA, jB, jC, jD, jE, jF]
              refine tkH 4 (.pointer (some ⟨wr.heap.size, 0, none⟩)) rfl (by kernel_rfl) (fun _ _ _ => False.elim) hHeld (Or.inl ⟨by rfl, fun W9 hW => by clear hHeld hW; simp only [jA, jB, jC]; go_simp⟩) ?_
              simp only [Act.put, jA, jB, jC, jD, jE, jF]
              refine tkH 5 (.int .i64 u.id) rfl (by kernel_rfl) (fun _ _ _ => False.elim) hHeld (Or.inl ⟨by rfl, fun W9 hW => by obtain ⟨q1, q2, q3, q4, q5, q6⟩ := HKp.out _ hW.out; clear hHeld hW; simp only [jA, jB, jC]; go_simp⟩) ?_
              simp only [Act.put, jA, jB, jC, jD, jE, jF]
              refine tkH 6 (.pointer (some ⟨w.heap.size, 1, none⟩)) rfl (by kernel_rfl) (fun _ _ _ => False.elim) hHeld (Or.inl ⟨by rfl, fun W9 hW => by clear hHeld hW; simp only [jA, jB, jC]; go_simp⟩) ?_
              simp only [Act.put, jA, jB, jC, jD, jE, jF]
              refine tkH 7 (.int .i64 C.nxt) rfl (by kernel_rfl) (fun _ _ _ => False.elim) hHeld (Or.inl ⟨by rfl, fun W9 hW => by obtain ⟨q1, q2, q3, q4, q5, q6⟩ := HKp.out _ hW.out; clear hHeld hW; simp only [jA, jB, jC]; go_simp⟩) ?_
              simp only [Act.put, jA, jB, jC, jD, jE, jF]
              refine tkH 8 (.bool false) rfl (by kernel_rfl) (fun _ _ _ => False.elim) hHeld (Or.inl ⟨by rfl, fun W9 hW => by clear hHeld hW; simp only [jA, jB, jC]; go_simp⟩) ?_
              simp only [Act.put, jA, jB, jC, jD, jE, jF]
              refine tkH 9 (.bool false) rfl (by kernel_rfl) (fun _ _ _ => False.elim) hHeld (Or.inl ⟨by rfl, fun W9 hW => by clear hHeld hW; simp only [jA, jB, jC]; go_simp⟩) ?_
              simp only [Act.put, jA, jB, jC, jD, jE, jF]
              refine tkH 10 (.bool false) rfl (by kernel_rfl) (fun _ _ _ => False.elim) hHeld (Or.inl ⟨by rfl, fun W9 hW => by clear hHeld hW; simp only [jA, jB, jC]; go_simp⟩) ?_
              simp only [Act.put, jA, jB, jC, jD, jE, jF]
              refine tkH 11 (u3) rfl (by kernel_rfl) (fun _ _ _ => False.elim) hHeld (Or.inl ⟨by rfl, fun W9 hW => by clear hHeld hW; simp only [jA, jB, jC]; go_simp⟩) ?_
              simp only [Act.put, jA, jB, jC, jD, jE, jF]
              refine tkH 12 (.pointer (some ⟨wr.heap.size, 0, none⟩)) rfl (by kernel_rfl) (fun _ _ _ => False.elim) hHeld (Or.inl ⟨by rfl, fun W9 hW => by clear hHeld hW; simp only [jA, jB, jC]; go_simp⟩) ?_
              simp only [Act.put, jA, jB, jC, jD, jE, jF]
              refine tkH 13 (.int .i64 u.id) rfl (by kernel_rfl) (fun _ _ _ => False.elim) hHeld (Or.inl ⟨by rfl, fun W9 hW => by obtain ⟨q1, q2, q3, q4, q5, q6⟩ := HKp.out _ hW.out; clear hHeld hW; simp only [jA, jB, jC]; go_simp⟩) ?_
              simp only [Act.put, jA, jB, jC, jD, jE, jF]
              refine rdH 14 (by kernel_rfl) rfl fun K hK => ?_
              go_simp
              go_wp2_with (first | (go_at_call 63; refine (HIN.out _ hHeld.out).mono ?_; rintro en wa ⟨rfl, rfl⟩))
              refine hK.out _ _ hHeld (fun hHeld => ?_)
              clear hK K
              try simp only [Act.put, jA, jB, jC, jD, jE, jF]
              refine tkH 15 (.bool false) rfl (by kernel_rfl) (fun _ _ _ => False.elim) hHeld (Or.inl ⟨by rfl, fun W9 hW => by clear hHeld hW; simp only [jA, jB, jC]; go_simp⟩) ?_
              simp only [Act.put, jA, jB, jC, jD, jE, jF]
              refine tkH 16 (.bool false) rfl (by kernel_rfl) (fun _ _ _ => False.elim) hHeld (Or.inl ⟨by rfl, fun W9 hW => by clear hHeld hW; simp only [jA, jB, jC]; go_simp⟩) ?_
              simp only [Act.put, jA, jB, jC, jD, jE, jF]
              refine tkH 17 (.int .i64 (k : Int)) rfl (by kernel_rfl) (fun _ _ _ => False.elim) hHeld (Or.inl ⟨by rfl, fun W9 hW => by clear hHeld hW; simp only [jA, jB, jC]; go_simp⟩) ?_
              simp only [Act.put, jA, jB, jC, jD, jE, jF]
              refine tkH 18 (.bool false) rfl (by kernel_rfl) (fun _ _ _ => False.elim) hHeld (Or.inl ⟨by rfl, fun W9 hW => by clear hHeld hW; simp only [jA, jB, jC]; go_simp; exact HK0.out⟩) ?_
              simp only [Act.put, jA, jB, jC, jD, jE, jF]
              refine tkH 19 (.bool false) rfl (by kernel_rfl) (fun _ _ _ => False.elim) hHeld (Or.inl ⟨by rfl, fun W9 hW => by clear hHeld hW; simp only [jA, jB, jC]; go_simp⟩) ?_
              simp only [Act.put, jA, jB, jC, jD, jE, jF]
              refine tkH 20 (undef) rfl (by kernel_rfl) (fun _ _ _ => False.elim) hHeld (Or.inr ⟨by rfl, rfl⟩) ?_
              simp only [Act.put, jA, jB, jC, jD, jE, jF]
              refine tkH 21 (undef) rfl (by kernel_rfl) (fun _ _ _ => False.elim) hHeld (Or.inr ⟨by rfl, rfl⟩) ?_
              simp only [Act.put, jA, jB, jC, jD, jE, jF]
              refine tkH 22 (undef) rfl (by kernel_rfl) (fun _ _ _ => False.elim) hHeld (Or.inr ⟨by rfl, rfl⟩) ?_
              simp only [Act.put, jA, jB, jC, jD, jE, jF]
              refine tkH 23 (undef) rfl (by kernel_rfl) (fun _ _ _ => False.elim) hHeld (Or.inr ⟨by rfl, rfl⟩) ?_
              simp only [Act.put, jA, jB, jC, jD, jE, jF]
              refine tkH 24 (undef) rfl (by kernel_rfl) (fun _ _ _ => False.elim) hHeld (Or.inr ⟨by rfl, rfl⟩) ?_
              simp only [Act.put, jA, jB, jC, jD, jE, jF]
              refine tkH 25 (undef) rfl (by kernel_rfl) (fun _ _ _ => False.elim) hHeld (Or.inr ⟨by rfl, rfl⟩) ?_
              simp only [Act.put, jA, jB, jC, jD, jE, jF]
              refine tkH 26 (undef) rfl (by kernel_rfl) (fun _ _ _ => False.elim) hHeld (Or.inr ⟨by rfl, rfl⟩) ?_
              simp only [Act.put, jA, jB, jC, jD, jE, jF]
              refine tkH 27 (undef) rfl (by kernel_rfl) (fun _ _ _ => False.elim) hHeld (Or.inr ⟨by rfl, rfl⟩) ?_
              simp only [Act.put, jA, jB, jC, jD, jE, jF]
              refine tkH 28 (undef) rfl (by kernel_rfl) (fun _ _ _ => False.elim) hHeld (Or.inr ⟨by rfl, rfl⟩) ?_
              simp only [Act.put, jA, jB, jC, jD, jE, jF]
              refine tkH 29 (undef) rfl (by kernel_rfl) (fun _ _ _ => False.elim) hHeld (Or.inr ⟨by rfl, rfl⟩) ?_
              simp only [Act.put, jA, jB, jC, jD, jE, jF]
              refine tkH 30 (.bool false) rfl (by kernel_rfl) (fun _ _ _ => False.elim) hHeld (Or.inl ⟨by rfl, fun W9 hW => by clear hHeld hW; simp only [jA, jB, jC]; go_simp⟩) ?_
              simp only [Act.put, jA, jB, jC, jD, jE, jF]
              refine tkH 31 (.bool false) rfl (by kernel_rfl) (fun _ _ _ => False.elim) hHeld (Or.inl ⟨by rfl, fun W9 hW => by clear hHeld hW; simp only [jA, jB, jC]; go_simp⟩) ?_
              simp only [Act.put, jA, jB, jC, jD, jE, jF]
              refine tkH 32 (.bool false) rfl (by kernel_rfl) (fun _ _ _ => False.elim) hHeld (Or.inl ⟨by rfl, fun W9 hW => by clear hHeld hW; simp only [jA, jB, jC]; go_simp⟩) ?_
              simp only [Act.put, jA, jB, jC, jD, jE, jF]
              refine tkH 33 (.agg #[.int .i64 u.id, .string ⟨u.name.toArray⟩, .slice t1 u.cols.length e1, .slice t2 u.key.length e2]) rfl (by kernel_rfl) (fun _ _ _ => False.elim) hHeld (Or.inl ⟨by rfl, fun W9 hW => by obtain ⟨q1, q2, q3, q4, q5, q6⟩ := HKp.out _ hW.out; clear hHeld hW; simp only [jA, jB, jC]; go_simp⟩) ?_
              simp only [Act.put, jA, jB, jC, jD, jE, jF]
              refine rdH 34 (by kernel_rfl) rfl fun K hK => ?_
              go_simp
              go_wp2_with (first | (go_at_call 97; refine (HTR.out _ hHeld.out).mono ?_; rintro en wb ⟨rfl, hb9⟩; have HB9 := hid (below_step hHeld.out hb9); clear hb9))
              refine hK.out _ _ HB9 (fun hHeld => ?_)
              clear hK K
              try simp only [Act.put, jA, jB, jC, jD, jE, jF]
              refine tkH 35 (.bool (!tq)) rfl (by kernel_rfl) (fun _ _ _ => False.elim) hHeld (Or.inl ⟨by rfl, fun W9 hW => by clear hHeld hW; simp only [jA, jB, jC]; go_simp⟩) ?_
              simp only [Act.put, jA, jB, jC, jD, jE, jF]
              refine tkH 36 (.bool (!tq)) rfl (by kernel_rfl) (fun _ _ _ => False.elim) hHeld (Or.inl ⟨by rfl, fun W9 hW => by clear hHeld hW; simp only [jA, jB, jC]; go_simp⟩) ?_
              simp only [Act.put, jA, jB, jC, jD, jE, jF]
              refine wpAnyH_done (by kernel_rfl) (NoPanic.normal ?_) _
              go_wp2_with fail
              go_meet
              exact ⟨!tq, rfl, HB9.out, hid (by rw [HT2.out]; cases tq <;> rfl)⟩
            --END0
          · obtain ⟨m, hkm⟩ : ∃ m, k = m + 1 := ⟨k - 1, by omega⟩
            obtain ⟨p, hp⟩ : ∃ p, C.tabs[m]? = some p := ⟨_, List.getElem?_eq_getElem (by omega)⟩
            obtain ⟨b9, off9, x1, x2, x3, x4, hbo, -, c0, -, -, -⟩ := HT.out m p hp
            cases hbo
            have cm := (HBA5.out.cell (block_cell c0)).trans c0
            have HT2 : Hid (tabNew C.nxt (C.tabs.take k) u = (decide (p.id < u.id) && tabB u && !((C.tabs.take k).any fun p => decide (p.name = u.name)))) := hid (by rw [HT1.out, hkm, last_take hp]; rfl)
            have hk8 : (0 : Int) < (k : Int) := by omega
            have hm1 : (k : Int) - 1 = (m : Int) := by omega
            have hm2 : wrap64 ((k : Int) - 1) = (m : Int) := by unfold wrap64; omega
            have hmi : (m : Int) < (C.tabs.length : Int) := by omega
            have HWM : Hid (IntKind.i64.wrap (m : Int) = (m : Int)) := hid (by rw [IntKind.wrap_i64]; omega)
            clear HT1 c0 hp hkm
            by_cases b4 : u.id ≤ p.id
            · have HQ : Hid (tabNew C.nxt (C.tabs.take k) u = (!true && !((C.tabs.take k).any fun p => decide (p.name = u.name)))) := hid (by rw [HT2.out, decide_eq_false (by omega)]; rfl)
              clear HT2
              go_quiet ((go_at_call 63; exact Calls.quiet_of_same (HIN.out _ (below_drewN w5 _))))
              go_wp2_with fail
              go_meet
              exact ⟨true, rfl, below_drewN _ _, HQ⟩
            · have HT2' : Hid (tabNew C.nxt (C.tabs.take k) u = (tabB u && !((C.tabs.take k).any fun p => decide (p.name = u.name)))) := hid (by rw [HT2.out, decide_eq_true (by omega)]; rfl)
              clear HT2
              have HT2 := HT2'
              clear HT2'
              generalize tabB u = tq at *
              have HKp : Hid (∀ W, Below w5.heap.size w5 W → (W.cell? ⟨w.heap.size, 1, none⟩ = some (.int .i64 C.nxt) ∧ W.cell? ⟨w.heap.size, 2, none⟩ = some (.slice (some ⟨b, off, none⟩) C.tabs.length c) ∧ W.cell? ⟨wr.heap.size, 0, none⟩ = some (.int .i64 u.id) ∧ W.cell? ⟨wr.heap.size, 1, none⟩ = some (.string ⟨u.name.toArray⟩) ∧ W.cell? ⟨wr.heap.size, 2, none⟩ = some (.slice t1 u.cols.length e1) ∧ W.cell? ⟨wr.heap.size, 3, none⟩ = some (.slice t2 u.key.length e2) ∧ W.cell? ⟨b, off + m * 4, none⟩ = some (.int .i64 p.id))) := hid fun W hW =>
                ⟨(hW.cell (block_cell z1)).trans z1, (hW.cell (block_cell z2)).trans z2, (hW.cell (block_cell y0)).trans y0, (hW.cell (block_cell y1)).trans y1, (hW.cell (block_cell y2)).trans y2, (hW.cell (block_cell y3)).trans y3, (hW.cell (block_cell cm)).trans cm⟩
              --GEN1
              as_aux_lemma =>
                refine wp_region_noPanic ?_
                refine wp_region_held_drew (S := fun W => Hid (Below w5.heap.size w5 W)) (by kernel_rfl) (hid (Below.drew (Below.refl _ _))) (fun hHeld => ?_)
                generalize w5.drew = Wd at *
                refine tkH 0 (.pointer (some ⟨wr.heap.size, 0, none⟩)) rfl (by kernel_rfl) (fun _ _ _ => False.elim) hHeld (Or.inl ⟨by rfl, fun W9 hW => by clear hHeld hW; simp only [jA, jB, jC]; go_simp⟩) ?_
                simp only [Act.put, jA, jB, jC, jD, jE, jF]
                refine tkH 1 (.int .i64 u.id) rfl (by kernel_rfl) (fun _ _ _ => False.elim) hHeld (Or.inl ⟨by rfl, fun W9 hW => by obtain ⟨q1, q2, q3, q4, q5, q6, q7⟩ := HKp.out _ hW.out; clear hHeld hW; simp only [jA, jB, jC]; go_simp⟩) ?_
                simp only [Act.put, jA, jB, jC, jD, jE, jF]
                refine tkH 2 (.bool false) rfl (by kernel_rfl) (fun _ _ _ => False.elim) hHeld (Or.inl ⟨by rfl, fun W9 hW => by clear hHeld hW; simp only [jA, jB, jC]; go_simp⟩) ?_
                simp only [Act.put, jA, jB, jC, jD, jE, jF]
                refine tkH 3 (.bool false) rfl (by kernel_rfl) (fun _ _ _ => False.elim) hHeld (Or.inl ⟨by rfl, fun W9 hW => by clear hHeld hW; simp only [jA, jB, jC]; go_simp⟩) ?_
                simp only [Act.put, jA, jB, jC, jD, jE, jF]
                refine tkH 4 (.pointer (some ⟨wr.heap.size, 0, none⟩)) rfl (by kernel_rfl) (fun _ _ _ => False.elim) hHeld (Or.inl ⟨by rfl, fun W9 hW => by clear hHeld hW; simp only [jA, jB, jC]; go_simp⟩) ?_
                simp only [Act.put, jA, jB, jC, jD, jE, jF]
                refine tkH 5 (.int .i64 u.id) rfl (by kernel_rfl) (fun _ _ _ => False.elim) hHeld (Or.inl ⟨by rfl, fun W9 hW => by obtain ⟨q1, q2, q3, q4, q5, q6, q7⟩ := HKp.out _ hW.out; clear hHeld hW; simp only [jA, jB, jC]; go_simp⟩) ?_
                simp only [Act.put, jA, jB, jC, jD, jE, jF]
                refine tkH 6 (.pointer (some ⟨w.heap.size, 1, none⟩)) rfl (by kernel_rfl) (fun _ _ _ => False.elim) hHeld (Or.inl ⟨by rfl, fun W9 hW => by clear hHeld hW; simp only [jA, jB, jC]; go_simp⟩) ?_
                simp only [Act.put, jA, jB, jC, jD, jE, jF]
                refine tkH 7 (.int .i64 C.nxt) rfl (by kernel_rfl) (fun _ _ _ => False.elim) hHeld (Or.inl ⟨by rfl, fun W9 hW => by obtain ⟨q1, q2, q3, q4, q5, q6, q7⟩ := HKp.out _ hW.out; clear hHeld hW; simp only [jA, jB, jC]; go_simp⟩) ?_
                simp only [Act.put, jA, jB, jC, jD, jE, jF]
                refine tkH 8 (.bool false) rfl (by kernel_rfl) (fun _ _ _ => False.elim) hHeld (Or.inl ⟨by rfl, fun W9 hW => by clear hHeld hW; simp only [jA, jB, jC]; go_simp⟩) ?_
                simp only [Act.put, jA, jB, jC, jD, jE, jF]
                refine tkH 9 (.bool false) rfl (by kernel_rfl) (fun _ _ _ => False.elim) hHeld (Or.inl ⟨by rfl, fun W9 hW => by clear hHeld hW; simp only [jA, jB, jC]; go_simp⟩) ?_
                simp only [Act.put, jA, jB, jC, jD, jE, jF]
                refine tkH 10 (.bool false) rfl (by kernel_rfl) (fun _ _ _ => False.elim) hHeld (Or.inl ⟨by rfl, fun W9 hW => by clear hHeld hW; simp only [jA, jB, jC]; go_simp⟩) ?_
                simp only [Act.put, jA, jB, jC, jD, jE, jF]
                refine tkH 11 (u3) rfl (by kernel_rfl) (fun _ _ _ => False.elim) hHeld (Or.inl ⟨by rfl, fun W9 hW => by clear hHeld hW; simp only [jA, jB, jC]; go_simp⟩) ?_
                simp only [Act.put, jA, jB, jC, jD, jE, jF]
                refine tkH 12 (.pointer (some ⟨wr.heap.size, 0, none⟩)) rfl (by kernel_rfl) (fun _ _ _ => False.elim) hHeld (Or.inl ⟨by rfl, fun W9 hW => by clear hHeld hW; simp only [jA, jB, jC]; go_simp⟩) ?_
                simp only [Act.put, jA, jB, jC, jD, jE, jF]
                refine tkH 13 (.int .i64 u.id) rfl (by kernel_rfl) (fun _ _ _ => False.elim) hHeld (Or.inl ⟨by rfl, fun W9 hW => by obtain ⟨q1, q2, q3, q4, q5, q6, q7⟩ := HKp.out _ hW.out; clear hHeld hW; simp only [jA, jB, jC]; go_simp⟩) ?_
                simp only [Act.put, jA, jB, jC, jD, jE, jF]
                refine rdH 14 (by kernel_rfl) rfl fun K hK => ?_
                go_simp
                go_wp2_with (first | (go_at_call 63; refine (HIN.out _ hHeld.out).mono ?_; rintro en wa ⟨rfl, rfl⟩))
                refine hK.out _ _ hHeld (fun hHeld => ?_)
                clear hK K
                try simp only [Act.put, jA, jB, jC, jD, jE, jF]
                refine tkH 15 (.bool false) rfl (by kernel_rfl) (fun _ _ _ => False.elim) hHeld (Or.inl ⟨by rfl, fun W9 hW => by clear hHeld hW; simp only [jA, jB, jC]; go_simp⟩) ?_
                simp only [Act.put, jA, jB, jC, jD, jE, jF]
                refine tkH 16 (.bool false) rfl (by kernel_rfl) (fun _ _ _ => False.elim) hHeld (Or.inl ⟨by rfl, fun W9 hW => by clear hHeld hW; simp only [jA, jB, jC]; go_simp⟩) ?_
                simp only [Act.put, jA, jB, jC, jD, jE, jF]
                refine tkH 17 (.int .i64 (k : Int)) rfl (by kernel_rfl) (fun _ _ _ => False.elim) hHeld (Or.inl ⟨by rfl, fun W9 hW => by clear hHeld hW; simp only [jA, jB, jC]; go_simp⟩) ?_
                simp only [Act.put, jA, jB, jC, jD, jE, jF]
                refine tkH 18 (.bool true) rfl (by kernel_rfl) (fun _ _ _ => False.elim) hHeld (Or.inl ⟨by rfl, fun W9 hW => by clear hHeld hW; simp only [jA, jB, jC]; go_simp⟩) ?_
                simp only [Act.put, jA, jB, jC, jD, jE, jF]
                refine tkH 19 (.bool true) rfl (by kernel_rfl) (fun _ _ _ => False.elim) hHeld (Or.inl ⟨by rfl, fun W9 hW => by clear hHeld hW; simp only [jA, jB, jC]; go_simp⟩) ?_
                simp only [Act.put, jA, jB, jC, jD, jE, jF]
                refine tkH 20 (.pointer (some ⟨wr.heap.size, 0, none⟩)) rfl (by kernel_rfl) (fun _ _ _ => False.elim) hHeld (Or.inl ⟨by rfl, fun W9 hW => by clear hHeld hW; simp only [jA, jB, jC]; go_simp⟩) ?_
                simp only [Act.put, jA, jB, jC, jD, jE, jF]
                refine tkH 21 (.int .i64 u.id) rfl (by kernel_rfl) (fun _ _ _ => False.elim) hHeld (Or.inl ⟨by rfl, fun W9 hW => by obtain ⟨q1, q2, q3, q4, q5, q6, q7⟩ := HKp.out _ hW.out; clear hHeld hW; simp only [jA, jB, jC]; go_simp⟩) ?_
                simp only [Act.put, jA, jB, jC, jD, jE, jF]
                refine tkH 22 (.pointer (some ⟨w.heap.size, 2, none⟩)) rfl (by kernel_rfl) (fun _ _ _ => False.elim) hHeld (Or.inl ⟨by rfl, fun W9 hW => by clear hHeld hW; simp only [jA, jB, jC]; go_simp⟩) ?_
                simp only [Act.put, jA, jB, jC, jD, jE, jF]
                refine tkH 23 (.slice (some ⟨b, off, none⟩) C.tabs.length c) rfl (by kernel_rfl) (fun _ _ _ => False.elim) hHeld (Or.inl ⟨by rfl, fun W9 hW => by obtain ⟨q1, q2, q3, q4, q5, q6, q7⟩ := HKp.out _ hW.out; clear hHeld hW; simp only [jA, jB, jC]; go_simp⟩) ?_
                simp only [Act.put, jA, jB, jC, jD, jE, jF]
                refine tkH 24 (.int .i64 (k : Int)) rfl (by kernel_rfl) (fun _ _ _ => False.elim) hHeld (Or.inl ⟨by rfl, fun W9 hW => by clear hHeld hW; simp only [jA, jB, jC]; go_simp⟩) ?_
                simp only [Act.put, jA, jB, jC, jD, jE, jF]
                refine tkH 25 (.int .i64 (m : Int)) rfl (by kernel_rfl) (fun _ _ _ => False.elim) hHeld (Or.inl ⟨by rfl, fun W9 hW => by clear hHeld hW; simp only [jA, jB, jC]; go_simp; exact HWM.out⟩) ?_
                simp only [Act.put, jA, jB, jC, jD, jE, jF]
                refine tkH 26 (.pointer (some ⟨b, off + m * 4, none⟩)) rfl (by kernel_rfl) (fun _ _ _ => False.elim) hHeld (Or.inl ⟨by rfl, fun W9 hW => by clear hHeld hW; simp only [jA, jB, jC]; go_simp⟩) ?_
                simp only [Act.put, jA, jB, jC, jD, jE, jF]
                refine tkH 27 (.pointer (some ⟨b, off + m * 4, none⟩)) rfl (by kernel_rfl) (fun _ _ _ => False.elim) hHeld (Or.inl ⟨by rfl, fun W9 hW => by clear hHeld hW; simp only [jA, jB, jC]; go_simp⟩) ?_
                simp only [Act.put, jA, jB, jC, jD, jE, jF]
                refine tkH 28 (.int .i64 p.id) rfl (by kernel_rfl) (fun _ _ _ => False.elim) hHeld (Or.inl ⟨by rfl, fun W9 hW => by obtain ⟨q1, q2, q3, q4, q5, q6, q7⟩ := HKp.out _ hW.out; clear hHeld hW; simp only [jA, jB, jC]; go_simp⟩) ?_
                simp only [Act.put, jA, jB, jC, jD, jE, jF]
                refine tkH 29 (.bool false) rfl (by kernel_rfl) (fun _ _ _ => False.elim) hHeld (Or.inl ⟨by rfl, fun W9 hW => by clear hHeld hW; simp only [jA, jB, jC]; go_simp⟩) ?_
                simp only [Act.put, jA, jB, jC, jD, jE, jF]
                refine tkH 30 (.bool false) rfl (by kernel_rfl) (fun _ _ _ => False.elim) hHeld (Or.inl ⟨by rfl, fun W9 hW => by clear hHeld hW; simp only [jA, jB, jC]; go_simp⟩) ?_
                simp only [Act.put, jA, jB, jC, jD, jE, jF]
                refine tkH 31 (.bool false) rfl (by kernel_rfl) (fun _ _ _ => False.elim) hHeld (Or.inl ⟨by rfl, fun W9 hW => by clear hHeld hW; simp only [jA, jB, jC]; go_simp⟩) ?_
                simp only [Act.put, jA, jB, jC, jD, jE, jF]
                refine tkH 32 (.bool false) rfl (by kernel_rfl) (fun _ _ _ => False.elim) hHeld (Or.inl ⟨by rfl, fun W9 hW => by clear hHeld hW; simp only [jA, jB, jC]; go_simp⟩) ?_
                simp only [Act.put, jA, jB, jC, jD, jE, jF]
                refine tkH 33 (.agg #[.int .i64 u.id, .string ⟨u.name.toArray⟩, .slice t1 u.cols.length e1, .slice t2 u.key.length e2]) rfl (by kernel_rfl) (fun _ _ _ => False.elim) hHeld (Or.inl ⟨by rfl, fun W9 hW => by obtain ⟨q1, q2, q3, q4, q5, q6, q7⟩ := HKp.out _ hW.out; clear hHeld hW; simp only [jA, jB, jC]; go_simp⟩) ?_
                simp only [Act.put, jA, jB, jC, jD, jE, jF]
                refine rdH 34 (by kernel_rfl) rfl fun K hK => ?_
                go_simp
                go_wp2_with (first | (go_at_call 97; refine (HTR.out _ hHeld.out).mono ?_; rintro en wb ⟨rfl, hb9⟩; have HB9 := hid (below_step hHeld.out hb9); clear hb9))
                refine hK.out _ _ HB9 (fun hHeld => ?_)
                clear hK K
                try simp only [Act.put, jA, jB, jC, jD, jE, jF]
                refine tkH 35 (.bool (!tq)) rfl (by kernel_rfl) (fun _ _ _ => False.elim) hHeld (Or.inl ⟨by rfl, fun W9 hW => by clear hHeld hW; simp only [jA, jB, jC]; go_simp⟩) ?_
                simp only [Act.put, jA, jB, jC, jD, jE, jF]
                refine tkH 36 (.bool (!tq)) rfl (by kernel_rfl) (fun _ _ _ => False.elim) hHeld (Or.inl ⟨by rfl, fun W9 hW => by clear hHeld hW; simp only [jA, jB, jC]; go_simp⟩) ?_
                simp only [Act.put, jA, jB, jC, jD, jE, jF]
                refine wpAnyH_done (by kernel_rfl) (NoPanic.normal ?_) _
                go_wp2_with fail
                go_meet
                exact ⟨!tq, rfl, HB9.out, hid (by rw [HT2.out]; cases tq <;> rfl)⟩
              --END1
      case rest =>
      obtain ⟨q, rfl, hbq, hqq⟩ := hcut
      have HBQ := hid hbq
      have HQQ := hid hqq.out
      have HBAq := hid (below_step HBA5.out hbq)
      have HBRq := hid (below_step HBR5.out hbq)
      have HB5q := hid (below_step HB5.out hbq)
      clear hbq hqq z1 z2 y0 y1 y2 y3
      cases q with
      | true =>
        have HR := hid (HNO.out (by rw [HQQ.out]; rfl))
        go_wp2_with fail
        go_ret
        exact ⟨by rw [HR.out]; rfl, HBAq.out⟩
      | false =>
      generalize wc = wq at *
      go_wp2_with fail
      go_loopw [6] (fun j wr2 => ∃ i : Nat, i ≤ k ∧ j = .int .i64 (i : Int) ∧ Below wq.heap.size wq wr2 ∧ ((C.tabs.take k).take i).any (fun p => decide (p.name = u.name)) = false)
        (fun j _ => k - (intOf j).toNat)
      case atStart => exact ⟨0, by omega, rfl, Below.refl _ _, rfl⟩
      case round =>
        obtain ⟨i, hi, rfl, hb2, ha2⟩ := hrel
        have HB2 := hid hb2
        have HA2 := hid ha2
        have HBA2 := hid (below_step HBAq.out hb2)
        have HBR2 := hid (below_step HBRq.out hb2)
        have HB52 := hid (below_step HB5q.out hb2)
        have HZ52 := hid (((HBQ.out.trans (hb2.mono HBQ.out.size)).block _ (lt_of_block HZ5.out)).trans HZ5.out)
        clear hb2 ha2
        have z2 := cell_in ((HBR2.out.block _ (lt_of_block HZ.out)).trans HZ.out) 2 _ rfl
        have y0 := cell_in HZ52.out 0 _ rfl
        have y1 := cell_in HZ52.out 1 _ rfl
        by_cases hik : i < k
        · obtain ⟨d2, hd2⟩ : ∃ d2, C.tabs[i]? = some d2 := ⟨_, List.getElem?_eq_getElem (by omega)⟩
          obtain ⟨b9, off9, x1, x2, x3, x4, hbo, -, -, c1, -, -⟩ := HT.out i d2 hd2
          cases hbo
          have k0 := (HBA2.out.cell (block_cell c1)).trans c1
          have hil : (i : Int) < (C.tabs.length : Int) := by omega
          have HAT := hid (any_take (p := fun p => decide (p.name = u.name)) (show (C.tabs.take k)[i]? = some d2 by rw [getElem?_taken hik]; exact hd2) HA2.out)
          have HD2 : Hid ((d2.name == u.name) = true → (C.tabs.take k).any (fun p => decide (p.name = u.name)) = true) := hid (fun e => by
            rw [List.any_eq_true]; exact ⟨d2, List.mem_of_getElem? (by rw [getElem?_taken hik]; exact hd2), by simpa using e⟩)
          clear c1 hd2
          go_upto_region 13 with fail
          go_quiet (fail)
          cases hqq : (d2.name == u.name) with
          | true =>
            have HR := hid (HNO.out (by rw [HQQ.out, HD2.out hqq]; rfl))
            go_wp2_with fail
            go_ret
            exact ⟨by rw [HR.out]; rfl, below_step HBA2.out (below_drewN _ _)⟩
          | false =>
            have HQ2 := hid hqq
            go_wp2_with fail
            go_roundw
            case rel => exact ⟨i + 1, by omega, by go_num, below_step HB2.out (below_drewN _ _), by rw [HAT.out]; have := HQ2.out; simpa using this⟩
            case measure => simp [intOf]; omega
        · obtain rfl : i = k := by omega
          have HAN : Hid ((C.tabs.take i).any (fun p => decide (p.name = u.name)) = false) := hid (by have := HA2.out; rwa [List.take_take, Nat.min_self] at this)
          have HTO : Hid (tabsB C.nxt (C.tabs.take (i + 1)) (C.tabs.drop (i + 1)) = tabsB C.nxt [] C.tabs) := hid (by rw [HTA.out, HQQ.out, HAN.out]; rfl)
          have HTK := hid (take_at HUK.out)
          have H5 : Hid (Below wr.heap.size wr (wr.alloc (.cells #[.int .i64 u.id] 3))) := hid ((Below.refl _ _).alloc (Nat.le_refl _) _)
          have HR5 := hid (heap_alloc_new wr (.cells #[.int .i64 u.id] 3))
          have HO5 := hid (HOW.out.mono (R' := zR) (Keep.of_below (X := fun _ => False) (below_step HB52.out H5.out)) (fun _ _ e => e) (fun _ _ h => h))
          go_wp2_with (first
            | (at_builtin; refine wp_lapp (by rfl) _ _ 31 rfl w1.heap.size 1 8 3 Try.underlying31 (.int .i64 0) (by kernel_rfl) (by simp [Value.cells]) (by decide) _ _ rfl HO5.out wr.heap.size [.int .i64 u.id] rfl (fun j q hj => cell_in HR5.out j q (by simpa using hj)) rfl ?q1 ?q2 ?q3 ?q4 (fun v' w' p1 p2 p3 => ?_)))
          case q1 => intro q hq9; simp only [List.mem_cons, List.not_mem_nil, or_false] at hq9; subst hq9; rfl
          case q2 => unfold maxLen; rw [List.length_map, List.length_take]; omega
          case q3 => rw [List.length_map, List.length_take]; omega
          case q4 => have := HBR2.out.size; have := H5.out.size; omega
          have HBE : Hid (Below w1.heap.size w1 w') := hid (Below.grown (below_step HBR2.out H5.out) p2 (by have := HBR2.out.size; have := H5.out.size; omega) (fun q hq9 => (HO5.out.lt q hq9).1))
          have HO6 := hid (p1 zR u.id (fun _ _ h => h) rfl)
          clear p1 p2 p3
          go_wp2_with fail
          go_roundw
          case rel => exact ⟨i + 1, by omega, by go_num, HBE.out, by rw [HTK.out, List.map_append]; exact HO6.out, HTO.out⟩
          case measure => simp [intOf]; omega
    · obtain rfl : k = C.tabs.length := by omega
      rw [List.take_length] at HOW
      rw [List.take_length, List.drop_length] at HTB
      have HCI : Hid (catB C = idxsB C [] C.idxs) := hid (by rw [HCB.out, ← HTB.out]; rfl)
      have hki : ¬ (C.tabs.length : Int) < (C.tabs.length : Int) := by omega
      clear HCB HTB hk hlt
      go_wp2_with fail
      clear z2 hki
      generalize wr = wo at *
      go_loopw [3, 7] (fun v j wr2 => ∃ k : Nat, k ≤ C.idxs.length ∧ j = .int .i64 (k : Int) ∧ Below w1.heap.size w1 wr2 ∧ OwnL zR 1 3 w1.heap.size wr2 v (C.tabs.map Tab.id ++ (C.idxs.take k).map Idx.id) ∧ idxsB C (C.idxs.take k) (C.idxs.drop k) = idxsB C [] C.idxs)
        (fun _ j _ => C.idxs.length - (intOf j).toNat)
      case atStart => exact ⟨0, by omega, rfl, HBR.out, by simpa using HOW.out, rfl⟩
      case round =>
        clear HOW
        obtain ⟨k, hk, rfl, hbr2, hown2, htb2⟩ := hrel
        have HBR2 := hid hbr2
        have HBA2 := hid (below_step HB.out hbr2)
        have HOW := hid hown2
        have HTB := hid htb2
        clear hbr2 hown2 htb2
        have HZR2 := hid ((HBR2.out.block _ (lt_of_block HZ.out)).trans HZ.out)
        have z3 := cell_in HZR2.out 3 _ rfl
        by_cases hlt : k < C.idxs.length
        · obtain ⟨u, hu⟩ : ∃ u, C.idxs[k]? = some u := ⟨_, List.getElem?_eq_getElem hlt⟩
          obtain ⟨b, off, t1, e1, rfl, ht, c0, c1, c2, c3, c4, c5, c6⟩ := HX.out k u hu
          have hki : (k : Int) < (C.idxs.length : Int) := by omega
          have k0 := (HBA2.out.cell (block_cell c0)).trans c0
          have k1 := (HBA2.out.cell (block_cell c1)).trans c1
          have k2 := (HBA2.out.cell (block_cell c2)).trans c2
          have k3 := (HBA2.out.cell (block_cell c3)).trans c3
          have k4 := (HBA2.out.cell (block_cell c4)).trans c4
          have k5 := (HBA2.out.cell (block_cell c5)).trans c5
          have k6 := (HBA2.out.cell (block_cell c6)).trans c6
          clear c0 c1 c2 c3 c4 c5 c6
          have HXI := hid (show Rws 1 w (.slice t1 u.cols.length e1) (u.cols.map zRow) from by
            obtain ⟨y', e9, hy9, -⟩ := ht
            simp only [List.cons.injEq, and_true, true_and] at e9
            obtain rfl := e9
            exact hy9.1)
          have HUW := hid (HW.out.2.2.2.1 u (List.mem_of_getElem? hu))
          have HTA := hid (idxsB_at (C := C) hu)
          rw [HTB.out] at HTA
          have HUK := hid hu
          clear ht hu
          go_upto_region 20 with fail
          have hb5 := (Below.refl wr.heap.size wr).alloc (Nat.le_refl _) (.cells #[.int .i64 u.id, .int .i64 u.table, .string ⟨u.name.toArray⟩, .slice t1 u.cols.length e1, .bool u.uniq, .int .i64 u.state, .bool u.bad] 37)
          have hz5 := heap_alloc_new wr (.cells #[.int .i64 u.id, .int .i64 u.table, .string ⟨u.name.toArray⟩, .slice t1 u.cols.length e1, .bool u.uniq, .int .i64 u.state, .bool u.bad] 37)
          generalize wr.alloc (.cells #[.int .i64 u.id, .int .i64 u.table, .string ⟨u.name.toArray⟩, .slice t1 u.cols.length e1, .bool u.uniq, .int .i64 u.state, .bool u.bad] 37) = w5 at *
          have HB5 := hid hb5
          have HZ5 := hid hz5
          have HBA5 := hid (below_step HBA2.out hb5)
          have HBR5 := hid (below_step HBR2.out hb5)
          clear hb5 hz5 k0 k1 k2 k3 k4 k5 k6 z3
          have HZ15 := hid ((HB5.out.block _ (lt_of_block HZR2.out)).trans HZR2.out)
          have z0 := cell_in HZ15.out 0 _ rfl
          have z1 := cell_in HZ15.out 1 _ rfl
          have z2 := cell_in HZ15.out 2 _ rfl
          have z3 := cell_in HZ15.out 3 _ rfl
          have y1 := cell_in HZ5.out 1 _ rfl
          have CB := hid (rByID_any (HH.out.old HBA5.out) u.table)
          go_upto_region 21 with (first | (go_at_call 98; refine CB.out.mono ?_; rintro en w6 ⟨vs, rfl, hb6, hi6⟩; obtain ⟨ta, tc, tb, td, rfl⟩ := tab_form hi6; have HB6 := hid hb6; clear hb6 hi6))
          generalize htm : (C.tabs.find? fun q => decide (q.id = u.table)).isSome = tw at *
          generalize htg : (C.tabs.find? fun q => decide (q.id = u.table)).getD tab0 = t at *
          have hb7 := (Below.refl w6.heap.size w6).alloc (Nat.le_refl _) (.cells #[.int .i64 t.id, .string ⟨t.name.toArray⟩, .slice ta t.cols.length tc, .slice tb t.key.length td] 33)
          have hz7 := heap_alloc_new w6 (.cells #[.int .i64 t.id, .string ⟨t.name.toArray⟩, .slice ta t.cols.length tc, .slice tb t.key.length td] 33)
          generalize w6.alloc (.cells #[.int .i64 t.id, .string ⟨t.name.toArray⟩, .slice ta t.cols.length tc, .slice tb t.key.length td] 33) = w7 at *
          have HZ7 := hid hz7
          have HB57 := hid (below_step HB6.out hb7)
          have HB7 := hid (below_step HB5.out HB57.out)
          have HBA7 := hid (below_step HBA5.out HB57.out)
          have HBR7 := hid (below_step HBR5.out HB57.out)
          have HZ57 := hid ((HB57.out.block _ (lt_of_block HZ5.out)).trans HZ5.out)
          have HZ17 := hid ((HB57.out.block _ (lt_of_block HZ15.out)).trans HZ15.out)
          clear hb7 hz7 z0 z1 z2 z3 y1
          have z1 := cell_in HZ17.out 1 _ rfl
          have z3 := cell_in HZ17.out 3 _ rfl
          have y0 := cell_in HZ57.out 0 _ rfl
          have y2 := cell_in HZ57.out 2 _ rfl
          have y3 := cell_in HZ57.out 3 _ rfl
          have y5 := cell_in HZ57.out 5 _ rfl
          have x2 := cell_in HZ7.out 2 _ rfl
          have HIN := hid (fun W (hW : Below w7.heap.size w7 W) => inInt_any W ((own_zs HOW.out).old (below_step HB7.out hW)) u.id)
          have HPL := hid (fun W (hW : Below w7.heap.size w7 W) => rPlaces_quiet W (HXI.out.old (below_step HBA7.out hW)) (t.cols.length : Int))
          have HNM := hid (fun W => rName_any W u.name HUW.out.2.2.1)
          have HNO : Hid (idxNew C (C.idxs.take k) u = false → catB C = false) := hid (fun e => by rw [HCI.out, HTA.out, e]; rfl)
          go_cut [184] from 124 to 184 (fun s wx => ∃ q : Bool, s = .bool q ∧ Below w7.heap.size w7 wx ∧ Hid (idxNew C (C.idxs.take k) u = (!q && !((C.idxs.take k).any fun p => decide (p.name = u.name)))))
          case first =>
            --GEN2
            as_aux_lemma =>
              by_cases b1 : 1 ≤ u.id
              case neg =>
                have b1' : u.id < 1 := by omega
                have HQ : Hid (idxNew C (C.idxs.take k) u = (!true && !((C.idxs.take k).any fun p => decide (p.name = u.name)))) := hid (by unfold idxNew; simp [b1])
                clear b1
                go_quiet ((first | (go_at_call 63; exact Calls.quiet_of_same (HIN.out _ (below_drewN w7 _))) | (go_at_call 99; exact Calls.quiet_of_same ((HNM.out _).mono (fun e w' h => ⟨h.1, h.2.symm⟩))) | (go_at_call 100; exact (HPL.out _ (below_drewN w7 _)).mono (fun e w' h => ⟨h.1, by obtain ⟨q, hq⟩ := h.2; rw [hq]; exact drew_more ⟨_, rfl⟩ q⟩))))
                go_wp2_with fail
                go_meet
                exact ⟨true, rfl, below_drewN _ _, HQ⟩
              have b1' : ¬ u.id < 1 := by omega
              by_cases b2 : u.id < C.nxt
              case neg =>
                have b2' : C.nxt ≤ u.id := by omega
                have HQ : Hid (idxNew C (C.idxs.take k) u = (!true && !((C.idxs.take k).any fun p => decide (p.name = u.name)))) := hid (by unfold idxNew; simp [b2])
                clear b1 b2
                go_quiet ((first | (go_at_call 63; exact Calls.quiet_of_same (HIN.out _ (below_drewN w7 _))) | (go_at_call 99; exact Calls.quiet_of_same ((HNM.out _).mono (fun e w' h => ⟨h.1, h.2.symm⟩))) | (go_at_call 100; exact (HPL.out _ (below_drewN w7 _)).mono (fun e w' h => ⟨h.1, by obtain ⟨q, hq⟩ := h.2; rw [hq]; exact drew_more ⟨_, rfl⟩ q⟩))))
                go_wp2_with fail
                go_meet
                exact ⟨true, rfl, below_drewN _ _, HQ⟩
              have b2' : ¬ C.nxt ≤ u.id := by omega
              have HT1 : Hid (idxNew C (C.idxs.take k) u = (!(C.tabs.map Tab.id ++ (C.idxs.take k).map Idx.id).contains u.id && (match (C.idxs.take k).getLast? with | none => true | some q => decide (q.id < u.id)) && (match byId C.tabs u.table with | none => false | some t => nameB u.name && placesB u.cols t.cols.length) && decide (1 ≤ u.state) && decide (u.state ≤ 7) && !((C.idxs.take k).any fun p => decide (p.name = u.name)))) := hid (by unfold idxNew; rw [decide_eq_true b1, decide_eq_true b2]; rfl)
              clear b1 b2
              generalize hqi : (C.tabs.map Tab.id ++ (C.idxs.take k).map Idx.id).contains u.id = qi at *
              clear hqi
              cases qi with
              | true =>
                have HQ : Hid (idxNew C (C.idxs.take k) u = (!true && !((C.idxs.take k).any fun p => decide (p.name = u.name)))) := hid (by rw [HT1.out]; rfl)
                clear HT1
                go_quiet ((first | (go_at_call 63; exact Calls.quiet_of_same (HIN.out _ (below_drewN w7 _))) | (go_at_call 99; exact Calls.quiet_of_same ((HNM.out _).mono (fun e w' h => ⟨h.1, h.2.symm⟩))) | (go_at_call 100; exact (HPL.out _ (below_drewN w7 _)).mono (fun e w' h => ⟨h.1, by obtain ⟨q, hq⟩ := h.2; rw [hq]; exact drew_more ⟨_, rfl⟩ q⟩))))
                go_wp2_with fail
                go_meet
                exact ⟨true, rfl, below_drewN _ _, HQ⟩
              | false =>
              rcases Nat.eq_zero_or_pos k with hk0 | hk0
              · have HT3 : Hid (idxNew C (C.idxs.take k) u = ((match byId C.tabs u.table with | none => false | some t => nameB u.name && placesB u.cols t.cols.length) && decide (1 ≤ u.state) && decide (u.state ≤ 7) && !((C.idxs.take k).any fun p => decide (p.name = u.name)))) := hid (by rw [HT1.out, hk0]; simp)
                have hk9 : ¬ 0 < k := by omega
                clear HT1 hk0
                cases tw with
                | false =>
                  have hbn : byId C.tabs u.table = none := by unfold byId; cases hf : (C.tabs.find? fun q => decide (q.id = u.table)) with | none => rfl | some y => rw [hf] at htm; cases htm
                  have HQ : Hid (idxNew C (C.idxs.take k) u = (!true && !((C.idxs.take k).any fun p => decide (p.name = u.name)))) := hid (by rw [HT3.out, hbn]; rfl)
                  clear hbn htm htg HT3
                  go_quiet ((first | (go_at_call 63; exact Calls.quiet_of_same (HIN.out _ (below_drewN w7 _))) | (go_at_call 99; exact Calls.quiet_of_same ((HNM.out _).mono (fun e w' h => ⟨h.1, h.2.symm⟩))) | (go_at_call 100; exact (HPL.out _ (below_drewN w7 _)).mono (fun e w' h => ⟨h.1, by obtain ⟨q, hq⟩ := h.2; rw [hq]; exact drew_more ⟨_, rfl⟩ q⟩))))
                  go_wp2_with fail
                  go_meet
                  exact ⟨true, rfl, below_drewN _ _, HQ⟩
                | true =>
                have hbs : byId C.tabs u.table = some t := by unfold byId; cases hf : (C.tabs.find? fun q => decide (q.id = u.table)) with | none => rw [hf] at htm; cases htm | some y => rw [hf] at htg; all_goals exact congrArg some htg
                have HT4 : Hid (idxNew C (C.idxs.take k) u = (nameB u.name && placesB u.cols t.cols.length && decide (1 ≤ u.state) && decide (u.state ≤ 7) && !((C.idxs.take k).any fun p => decide (p.name = u.name)))) := hid (by rw [HT3.out, hbs])
                clear HT3 hbs htm htg
                generalize hnb : nameB u.name = nb at *
                clear hnb
                cases nb with
                | false =>
                  have HQ : Hid (idxNew C (C.idxs.take k) u = (!true && !((C.idxs.take k).any fun p => decide (p.name = u.name)))) := hid (by rw [HT4.out]; rfl)
                  go_quiet ((first | (go_at_call 63; exact Calls.quiet_of_same (HIN.out _ (below_drewN w7 _))) | (go_at_call 99; exact Calls.quiet_of_same ((HNM.out _).mono (fun e w' h => ⟨h.1, h.2.symm⟩))) | (go_at_call 100; exact (HPL.out _ (below_drewN w7 _)).mono (fun e w' h => ⟨h.1, by obtain ⟨q, hq⟩ := h.2; rw [hq]; exact drew_more ⟨_, rfl⟩ q⟩))))
                  go_wp2_with fail
                  go_meet
                  exact ⟨true, rfl, below_drewN _ _, HQ⟩
                | true =>
                generalize hpb : placesB u.cols (t.cols.length : Int) = pb at *
                clear hpb
                cases pb with
                | false =>
                  have HQ : Hid (idxNew C (C.idxs.take k) u = (!true && !((C.idxs.take k).any fun p => decide (p.name = u.name)))) := hid (by rw [HT4.out]; rfl)
                  go_quiet ((first | (go_at_call 63; exact Calls.quiet_of_same (HIN.out _ (below_drewN w7 _))) | (go_at_call 99; exact Calls.quiet_of_same ((HNM.out _).mono (fun e w' h => ⟨h.1, h.2.symm⟩))) | (go_at_call 100; exact (HPL.out _ (below_drewN w7 _)).mono (fun e w' h => ⟨h.1, by obtain ⟨q, hq⟩ := h.2; rw [hq]; exact drew_more ⟨_, rfl⟩ q⟩))))
                  go_wp2_with fail
                  go_meet
                  exact ⟨true, rfl, below_drewN _ _, HQ⟩
                | true =>
                by_cases b8 : 1 ≤ u.state
                case neg =>
                  have b8' : u.state < 1 := by omega
                  have HQ : Hid (idxNew C (C.idxs.take k) u = (!true && !((C.idxs.take k).any fun p => decide (p.name = u.name)))) := hid (by rw [HT4.out, decide_eq_false b8]; rfl)
                  clear b8
                  go_quiet ((first | (go_at_call 63; exact Calls.quiet_of_same (HIN.out _ (below_drewN w7 _))) | (go_at_call 99; exact Calls.quiet_of_same ((HNM.out _).mono (fun e w' h => ⟨h.1, h.2.symm⟩))) | (go_at_call 100; exact (HPL.out _ (below_drewN w7 _)).mono (fun e w' h => ⟨h.1, by obtain ⟨q, hq⟩ := h.2; rw [hq]; exact drew_more ⟨_, rfl⟩ q⟩))))
                  go_wp2_with fail
                  go_meet
                  exact ⟨true, rfl, below_drewN _ _, HQ⟩
                have b8' : ¬ u.state < 1 := by omega
                by_cases b9 : u.state ≤ 7
                case neg =>
                  have b9' : 7 < u.state := by omega
                  have HQ : Hid (idxNew C (C.idxs.take k) u = (!true && !((C.idxs.take k).any fun p => decide (p.name = u.name)))) := hid (by rw [HT4.out, decide_eq_true b8, decide_eq_false b9]; rfl)
                  clear b8 b9
                  go_quiet ((first | (go_at_call 63; exact Calls.quiet_of_same (HIN.out _ (below_drewN w7 _))) | (go_at_call 99; exact Calls.quiet_of_same ((HNM.out _).mono (fun e w' h => ⟨h.1, h.2.symm⟩))) | (go_at_call 100; exact (HPL.out _ (below_drewN w7 _)).mono (fun e w' h => ⟨h.1, by obtain ⟨q, hq⟩ := h.2; rw [hq]; exact drew_more ⟨_, rfl⟩ q⟩))))
                  go_wp2_with fail
                  go_meet
                  exact ⟨true, rfl, below_drewN _ _, HQ⟩
                have b9' : ¬ 7 < u.state := by omega
                have HQ : Hid (idxNew C (C.idxs.take k) u = (!false && !((C.idxs.take k).any fun p => decide (p.name = u.name)))) := hid (by rw [HT4.out, decide_eq_true b8, decide_eq_true b9]; rfl)
                clear b8 b9
                go_quiet ((first | (go_at_call 63; exact Calls.quiet_of_same (HIN.out _ (below_drewN w7 _))) | (go_at_call 99; exact Calls.quiet_of_same ((HNM.out _).mono (fun e w' h => ⟨h.1, h.2.symm⟩))) | (go_at_call 100; exact (HPL.out _ (below_drewN w7 _)).mono (fun e w' h => ⟨h.1, by obtain ⟨q, hq⟩ := h.2; rw [hq]; exact drew_more ⟨_, rfl⟩ q⟩))))
                go_wp2_with fail
                go_meet
                exact ⟨false, rfl, below_drewN _ _, HQ⟩
              · obtain ⟨m, hkm⟩ : ∃ m, k = m + 1 := ⟨k - 1, by omega⟩
                obtain ⟨p, hp⟩ : ∃ p, C.idxs[m]? = some p := ⟨_, List.getElem?_eq_getElem (by omega)⟩
                obtain ⟨b9, off9, x1, q1, hbo, -, c0, -, -, -, -, -, -⟩ := HX.out m p hp
                cases hbo
                have cm := (HBA7.out.cell (block_cell c0)).trans c0
                have HT2 : Hid (idxNew C (C.idxs.take k) u = (decide (p.id < u.id) && ((match byId C.tabs u.table with | none => false | some t => nameB u.name && placesB u.cols t.cols.length) && decide (1 ≤ u.state) && decide (u.state ≤ 7) && !((C.idxs.take k).any fun p => decide (p.name = u.name))))) := hid (by rw [HT1.out, hkm, last_take hp]; simp only [Bool.not_false, Bool.true_and, Bool.and_assoc])
                have hk8 : (0 : Int) < (k : Int) := by omega
                have hm1 : (k : Int) - 1 = (m : Int) := by omega
                have hm2 : wrap64 ((k : Int) - 1) = (m : Int) := by unfold wrap64; omega
                have hmi : (m : Int) < (C.idxs.length : Int) := by omega
                clear HT1 c0 hp hkm
                by_cases b4 : u.id ≤ p.id
                case pos =>
                  have HQ : Hid (idxNew C (C.idxs.take k) u = (!true && !((C.idxs.take k).any fun p => decide (p.name = u.name)))) := hid (by rw [HT2.out, decide_eq_false (by omega)]; rfl)
                  clear HT2
                  go_quiet ((first | (go_at_call 63; exact Calls.quiet_of_same (HIN.out _ (below_drewN w7 _))) | (go_at_call 99; exact Calls.quiet_of_same ((HNM.out _).mono (fun e w' h => ⟨h.1, h.2.symm⟩))) | (go_at_call 100; exact (HPL.out _ (below_drewN w7 _)).mono (fun e w' h => ⟨h.1, by obtain ⟨q, hq⟩ := h.2; rw [hq]; exact drew_more ⟨_, rfl⟩ q⟩))))
                  go_wp2_with fail
                  go_meet
                  exact ⟨true, rfl, below_drewN _ _, HQ⟩
                have HT3 : Hid (idxNew C (C.idxs.take k) u = ((match byId C.tabs u.table with | none => false | some t => nameB u.name && placesB u.cols t.cols.length) && decide (1 ≤ u.state) && decide (u.state ≤ 7) && !((C.idxs.take k).any fun p => decide (p.name = u.name)))) := hid (by rw [HT2.out, decide_eq_true (by omega)]; rfl)
                clear HT2
                cases tw with
                | false =>
                  have hbn : byId C.tabs u.table = none := by unfold byId; cases hf : (C.tabs.find? fun q => decide (q.id = u.table)) with | none => rfl | some y => rw [hf] at htm; cases htm
                  have HQ : Hid (idxNew C (C.idxs.take k) u = (!true && !((C.idxs.take k).any fun p => decide (p.name = u.name)))) := hid (by rw [HT3.out, hbn]; rfl)
                  clear hbn htm htg HT3
                  go_quiet ((first | (go_at_call 63; exact Calls.quiet_of_same (HIN.out _ (below_drewN w7 _))) | (go_at_call 99; exact Calls.quiet_of_same ((HNM.out _).mono (fun e w' h => ⟨h.1, h.2.symm⟩))) | (go_at_call 100; exact (HPL.out _ (below_drewN w7 _)).mono (fun e w' h => ⟨h.1, by obtain ⟨q, hq⟩ := h.2; rw [hq]; exact drew_more ⟨_, rfl⟩ q⟩))))
                  go_wp2_with fail
                  go_meet
                  exact ⟨true, rfl, below_drewN _ _, HQ⟩
                | true =>
                have hbs : byId C.tabs u.table = some t := by unfold byId; cases hf : (C.tabs.find? fun q => decide (q.id = u.table)) with | none => rw [hf] at htm; cases htm | some y => rw [hf] at htg; all_goals exact congrArg some htg
                have HT4 : Hid (idxNew C (C.idxs.take k) u = (nameB u.name && placesB u.cols t.cols.length && decide (1 ≤ u.state) && decide (u.state ≤ 7) && !((C.idxs.take k).any fun p => decide (p.name = u.name)))) := hid (by rw [HT3.out, hbs])
                clear HT3 hbs htm htg
                generalize hnb : nameB u.name = nb at *
                clear hnb
                cases nb with
                | false =>
                  have HQ : Hid (idxNew C (C.idxs.take k) u = (!true && !((C.idxs.take k).any fun p => decide (p.name = u.name)))) := hid (by rw [HT4.out]; rfl)
                  go_quiet ((first | (go_at_call 63; exact Calls.quiet_of_same (HIN.out _ (below_drewN w7 _))) | (go_at_call 99; exact Calls.quiet_of_same ((HNM.out _).mono (fun e w' h => ⟨h.1, h.2.symm⟩))) | (go_at_call 100; exact (HPL.out _ (below_drewN w7 _)).mono (fun e w' h => ⟨h.1, by obtain ⟨q, hq⟩ := h.2; rw [hq]; exact drew_more ⟨_, rfl⟩ q⟩))))
                  go_wp2_with fail
                  go_meet
                  exact ⟨true, rfl, below_drewN _ _, HQ⟩
                | true =>
                generalize hpb : placesB u.cols (t.cols.length : Int) = pb at *
                clear hpb
                cases pb with
                | false =>
                  have HQ : Hid (idxNew C (C.idxs.take k) u = (!true && !((C.idxs.take k).any fun p => decide (p.name = u.name)))) := hid (by rw [HT4.out]; rfl)
                  go_quiet ((first | (go_at_call 63; exact Calls.quiet_of_same (HIN.out _ (below_drewN w7 _))) | (go_at_call 99; exact Calls.quiet_of_same ((HNM.out _).mono (fun e w' h => ⟨h.1, h.2.symm⟩))) | (go_at_call 100; exact (HPL.out _ (below_drewN w7 _)).mono (fun e w' h => ⟨h.1, by obtain ⟨q, hq⟩ := h.2; rw [hq]; exact drew_more ⟨_, rfl⟩ q⟩))))
                  go_wp2_with fail
                  go_meet
                  exact ⟨true, rfl, below_drewN _ _, HQ⟩
                | true =>
                by_cases b8 : 1 ≤ u.state
                case neg =>
                  have b8' : u.state < 1 := by omega
                  have HQ : Hid (idxNew C (C.idxs.take k) u = (!true && !((C.idxs.take k).any fun p => decide (p.name = u.name)))) := hid (by rw [HT4.out, decide_eq_false b8]; rfl)
                  clear b8
                  go_quiet ((first | (go_at_call 63; exact Calls.quiet_of_same (HIN.out _ (below_drewN w7 _))) | (go_at_call 99; exact Calls.quiet_of_same ((HNM.out _).mono (fun e w' h => ⟨h.1, h.2.symm⟩))) | (go_at_call 100; exact (HPL.out _ (below_drewN w7 _)).mono (fun e w' h => ⟨h.1, by obtain ⟨q, hq⟩ := h.2; rw [hq]; exact drew_more ⟨_, rfl⟩ q⟩))))
                  go_wp2_with fail
                  go_meet
                  exact ⟨true, rfl, below_drewN _ _, HQ⟩
                have b8' : ¬ u.state < 1 := by omega
                by_cases b9 : u.state ≤ 7
                case neg =>
                  have b9' : 7 < u.state := by omega
                  have HQ : Hid (idxNew C (C.idxs.take k) u = (!true && !((C.idxs.take k).any fun p => decide (p.name = u.name)))) := hid (by rw [HT4.out, decide_eq_true b8, decide_eq_false b9]; rfl)
                  clear b8 b9
                  go_quiet ((first | (go_at_call 63; exact Calls.quiet_of_same (HIN.out _ (below_drewN w7 _))) | (go_at_call 99; exact Calls.quiet_of_same ((HNM.out _).mono (fun e w' h => ⟨h.1, h.2.symm⟩))) | (go_at_call 100; exact (HPL.out _ (below_drewN w7 _)).mono (fun e w' h => ⟨h.1, by obtain ⟨q, hq⟩ := h.2; rw [hq]; exact drew_more ⟨_, rfl⟩ q⟩))))
                  go_wp2_with fail
                  go_meet
                  exact ⟨true, rfl, below_drewN _ _, HQ⟩
                have b9' : ¬ 7 < u.state := by omega
                have HQ : Hid (idxNew C (C.idxs.take k) u = (!false && !((C.idxs.take k).any fun p => decide (p.name = u.name)))) := hid (by rw [HT4.out, decide_eq_true b8, decide_eq_true b9]; rfl)
                clear b8 b9
                go_quiet ((first | (go_at_call 63; exact Calls.quiet_of_same (HIN.out _ (below_drewN w7 _))) | (go_at_call 99; exact Calls.quiet_of_same ((HNM.out _).mono (fun e w' h => ⟨h.1, h.2.symm⟩))) | (go_at_call 100; exact (HPL.out _ (below_drewN w7 _)).mono (fun e w' h => ⟨h.1, by obtain ⟨q, hq⟩ := h.2; rw [hq]; exact drew_more ⟨_, rfl⟩ q⟩))))
                go_wp2_with fail
                go_meet
                exact ⟨false, rfl, below_drewN _ _, HQ⟩
            --END2
          case rest =>
          obtain ⟨q, rfl, hbq, hqq⟩ := hcut
          have HBQ := hid hbq
          have HQQ := hid hqq.out
          have HBAq := hid (below_step HBA7.out hbq)
          have HBRq := hid (below_step HBR7.out hbq)
          have HB7q := hid (below_step HB7.out hbq)
          have HZ5q := hid ((hbq.block _ (lt_of_block HZ57.out)).trans HZ57.out)
          clear hbq hqq z1 z3 y0 y2 y3 y5 x2 htm htg
          cases q with
          | true =>
            have HR := hid (HNO.out (by rw [HQQ.out]; rfl))
            go_wp2_with fail
            go_ret
            exact ⟨by rw [HR.out]; rfl, HBAq.out⟩
          | false =>
          generalize wc = wq at *
          go_wp2_with fail
          go_loopw [11] (fun j wr2 => ∃ i : Nat, i ≤ k ∧ j = .int .i64 (i : Int) ∧ Below wq.heap.size wq wr2 ∧ ((C.idxs.take k).take i).any (fun p => decide (p.name = u.name)) = false)
            (fun j _ => k - (intOf j).toNat)
          case atStart => exact ⟨0, by omega, rfl, Below.refl _ _, rfl⟩
          case round =>
            obtain ⟨i, hi, rfl, hb2, ha2⟩ := hrel
            have HB2 := hid hb2
            have HA2 := hid ha2
            have HBA9 := hid (below_step HBAq.out hb2)
            have HBR9 := hid (below_step HBRq.out hb2)
            have HB79 := hid (below_step HB7q.out hb2)
            have HZ59 := hid ((hb2.block _ (lt_of_block HZ5q.out)).trans HZ5q.out)
            clear hb2 ha2
            have z3 := cell_in ((HBR9.out.block _ (lt_of_block HZ.out)).trans HZ.out) 3 _ rfl
            have y0 := cell_in HZ59.out 0 _ rfl
            have y2 := cell_in HZ59.out 2 _ rfl
            by_cases hik : i < k
            · obtain ⟨d2, hd2⟩ : ∃ d2, C.idxs[i]? = some d2 := ⟨_, List.getElem?_eq_getElem (by omega)⟩
              obtain ⟨b9, off9, x1, q1, hbo, -, -, -, c2, -, -, -, -⟩ := HX.out i d2 hd2
              cases hbo
              have k0 := (HBA9.out.cell (block_cell c2)).trans c2
              have hil : (i : Int) < (C.idxs.length : Int) := by omega
              have HAT := hid (any_take (p := fun p => decide (p.name = u.name)) (show (C.idxs.take k)[i]? = some d2 by rw [getElem?_taken hik]; exact hd2) HA2.out)
              have HD2 : Hid ((d2.name == u.name) = true → (C.idxs.take k).any (fun p => decide (p.name = u.name)) = true) := hid (fun e => by
                rw [List.any_eq_true]; exact ⟨d2, List.mem_of_getElem? (by rw [getElem?_taken hik]; exact hd2), by simpa using e⟩)
              clear c2 hd2
              go_upto_region 26 with fail
              go_quiet (fail)
              cases hqq : (d2.name == u.name) with
              | true =>
                have HR := hid (HNO.out (by rw [HQQ.out, HD2.out hqq]; rfl))
                go_wp2_with fail
                go_ret
                exact ⟨by rw [HR.out]; rfl, below_step HBA9.out (below_drewN _ _)⟩
              | false =>
                have HQ2 := hid hqq
                go_wp2_with fail
                go_roundw
                case rel => exact ⟨i + 1, by omega, by go_num, below_step HB2.out (below_drewN _ _), by rw [HAT.out]; have := HQ2.out; simpa using this⟩
                case measure => simp [intOf]; omega
            · obtain rfl : i = k := by omega
              have HAN : Hid ((C.idxs.take i).any (fun p => decide (p.name = u.name)) = false) := hid (by have := HA2.out; rwa [List.take_take, Nat.min_self] at this)
              have HTO : Hid (idxsB C (C.idxs.take (i + 1)) (C.idxs.drop (i + 1)) = idxsB C [] C.idxs) := hid (by rw [HTA.out, HQQ.out, HAN.out]; rfl)
              have HTK := hid (take_at HUK.out)
              have H5 : Hid (Below wr.heap.size wr (wr.alloc (.cells #[.int .i64 u.id] 3))) := hid ((Below.refl _ _).alloc (Nat.le_refl _) _)
              have HR5 := hid (heap_alloc_new wr (.cells #[.int .i64 u.id] 3))
              have HO5 := hid (HOW.out.mono (R' := zR) (Keep.of_below (X := fun _ => False) (below_step HB79.out H5.out)) (fun _ _ e => e) (fun _ _ h => h))
              go_wp2_with (first
                | (at_builtin; refine wp_lapp (by rfl) _ _ 31 rfl w1.heap.size 1 8 3 Try.underlying31 (.int .i64 0) (by kernel_rfl) (by simp [Value.cells]) (by decide) _ _ rfl HO5.out wr.heap.size [.int .i64 u.id] rfl (fun j q hj => cell_in HR5.out j q (by simpa using hj)) rfl ?q1 ?q2 ?q3 ?q4 (fun v' w' p1 p2 p3 => ?_)))
              case q1 => intro q hq9; simp only [List.mem_cons, List.not_mem_nil, or_false] at hq9; subst hq9; rfl
              case q2 => unfold maxLen; rw [List.length_append, List.length_map, List.length_map, List.length_take]; omega
              case q3 => rw [List.length_append, List.length_map, List.length_map, List.length_take]; omega
              case q4 => have := HBR9.out.size; have := H5.out.size; omega
              have HBE : Hid (Below w1.heap.size w1 w') := hid (Below.grown (below_step HBR9.out H5.out) p2 (by have := HBR9.out.size; have := H5.out.size; omega) (fun q hq9 => (HO5.out.lt q hq9).1))
              have HO6 := hid (p1 zR u.id (fun _ _ h => h) rfl)
              clear p1 p2 p3
              go_wp2_with fail
              go_roundw
              case rel => exact ⟨i + 1, by omega, by go_num, HBE.out, by rw [HTK.out, List.map_append, ← List.append_assoc]; exact HO6.out, HTO.out⟩
              case measure => simp [intOf]; omega
        · obtain rfl : k = C.idxs.length := by omega
          rw [List.take_length, List.drop_length] at HTB
          have HR : Hid (catB C = true) := hid (by rw [HCI.out, ← HTB.out]; rfl)
          have hki : ¬ (C.idxs.length : Int) < (C.idxs.length : Int) := by omega
          go_wp2_with fail
          go_ret
          exact ⟨by rw [HR.out]; rfl, HBA2.out⟩
end Go.Proofs.Ytafcbelkhhjcoaa
