/-
  LAYER 12, THE DOCUMENT's: Copy.
-/
import Derived.Test.YtafcbelkhhjcoaaSi
set_option linter.unusedVariables false
set_option linter.unusedSimpArgs false
set_option maxRecDepth 100000
namespace Go.Proofs.Ytafcbelkhhjcoaa
open Go.RowKit Go.Deep

theorem take_at {α : Type} {l : List α} {k : Nat} {a : α} (h : l[k]? = some a) : l.take (k + 1) = l.take k ++ [a] := by
  rw [List.take_add_one, h]; rfl

set_option maxHeartbeats 8000000 in
theorem rCopy_any {N : Nat → Prop} {w : World} {cs : List Value} {C : Cat} (h : CatN N w cs C) (hN : ∀ k, N k → k < w.heap.size) (hS : C.S) :
    Calls Try.prog 15 #[.agg cs.toArray] w (fun e w' => ∃ vs : List Value, e = .returned (.agg vs.toArray) ∧ Below w.heap.size w w' ∧ CatO w.heap.size w' vs C) := by
  obtain ⟨x, y, rfl, hx, hy, -, -⟩ := h
  obtain ⟨ao, c, rfl, h1, h2, hc⟩ := tb_cells hx
  obtain ⟨ko, d, rfl, g1, g2, gc⟩ := ix_cells hy
  obtain ⟨s1, s2, s3, s4⟩ := hS
  have hkm : C.idxs.length ≤ 9223372036854775807 := by omega
  have hlm : C.tabs.length ≤ 9223372036854775807 := by omega
  have HT := hid hc
  have HC := hid gc
  have HNK := hid hN
  have HL1 := hid s1
  have HL2 := hid s2
  have HL3 := hid s3
  have HL4 := hid s4
  clear hx hy hc gc hN s1 s2 s3 s4
  go_enter Try.func15, Try.ntmps15
  go_upto_region 1 with fail
  have hb := (Below.refl w.heap.size w).alloc (Nat.le_refl _) (.cells #[.int .i64 C.ver, .int .i64 C.nxt, .slice ao C.tabs.length c, .slice ko C.idxs.length d] 25)
  have hz := heap_alloc_new w (.cells #[.int .i64 C.ver, .int .i64 C.nxt, .slice ao C.tabs.length c, .slice ko C.idxs.length d] 25)
  have hsz : (w.alloc (.cells #[.int .i64 C.ver, .int .i64 C.nxt, .slice ao C.tabs.length c, .slice ko C.idxs.length d] 25)).heap.size = w.heap.size + 1 := by simp
  generalize w.alloc (.cells #[.int .i64 C.ver, .int .i64 C.nxt, .slice ao C.tabs.length c, .slice ko C.idxs.length d] 25) = w1 at *
  have hz2 := heap_alloc_new w1 (.cells #[.int .i64 0, .int .i64 0, .slice none 0 0, .slice none 0 0] 25)
  have HB := hid (hb.alloc hb.size (.cells #[.int .i64 0, .int .i64 0, .slice none 0 0, .slice none 0 0] 25))
  have HZ := hid (((Below.refl _ w1).alloc (Nat.le_refl _) (.cells #[.int .i64 0, .int .i64 0, .slice none 0 0, .slice none 0 0] 25)).block _ (lt_of_block hz) |>.trans hz)
  have hsz2 : (w1.alloc (.cells #[.int .i64 0, .int .i64 0, .slice none 0 0, .slice none 0 0] 25)).heap.size = w.heap.size + 2 := by simp [hsz]
  rw [hsz] at hz2
  generalize w1.alloc (.cells #[.int .i64 0, .int .i64 0, .slice none 0 0, .slice none 0 0] 25) = w2 at *
  have HZ2 := hid hz2
  have HSZ := hid hsz2
  clear hz2 hb hz hsz hsz2
  go_wp2_with fail
  go_loopw [3, 4] (fun v j wr => ∃ k : Nat, k ≤ C.tabs.length ∧ j = .int .i64 (k : Int) ∧ Below w2.heap.size w2 wr ∧ OwnL (TabN (NewQ w2.heap.size wr v)) 4 33 w2.heap.size wr v (C.tabs.take k))
    (fun _ j _ => C.tabs.length - (intOf j).toNat)
  case atStart => exact ⟨0, by omega, rfl, Below.refl _ _, OwnL.nil _ _ _ _ _⟩
  case round =>
    obtain ⟨k, hk, rfl, hbr, hown⟩ := hrel
    have HBR := hid hbr
    have HBA := hid (below_step HB.out hbr)
    have HOW := hid hown
    have HSR := hid hbr.size
    clear hbr hown
    have z2 := cell_in ((HBR.out.block _ (lt_of_block HZ.out)).trans HZ.out) 2 _ rfl
    by_cases hlt : k < C.tabs.length
    · obtain ⟨u, hu⟩ : ∃ u, C.tabs[k]? = some u := ⟨_, List.getElem?_eq_getElem hlt⟩
      obtain ⟨b, off, a1, e1, a2, e2, rfl, ht, c0, c1, c2, c3⟩ := HT.out k u hu
      have hki : (k : Int) < (C.tabs.length : Int) := by omega
      have k0 := (HBA.out.cell (block_cell c0)).trans c0
      have k1 := (HBA.out.cell (block_cell c1)).trans c1
      have k2 := (HBA.out.cell (block_cell c2)).trans c2
      have k3 := (HBA.out.cell (block_cell c3)).trans c3
      clear c0 c1 c2 c3
      have HTU := hid ht
      obtain ⟨HUC, HUK⟩ := HL3.out u (List.mem_of_getElem? hu)
      have HUC := hid HUC
      have HUK := hid HUK
      have HTK := hid (take_at hu)
      clear ht hu
      go_upto_region 6 with fail
      have hb3 := (Below.refl wr.heap.size wr).alloc (Nat.le_refl _) (.cells #[.int .i64 u.id, .string ⟨u.name.toArray⟩, .slice a1 u.cols.length e1, .slice a2 u.key.length e2] 33)
      have hz3 := heap_alloc_new wr (.cells #[.int .i64 u.id, .string ⟨u.name.toArray⟩, .slice a1 u.cols.length e1, .slice a2 u.key.length e2] 33)
      have hs3 : (wr.alloc (.cells #[.int .i64 u.id, .string ⟨u.name.toArray⟩, .slice a1 u.cols.length e1, .slice a2 u.key.length e2] 33)).heap.size = wr.heap.size + 1 := by simp
      generalize wr.alloc (.cells #[.int .i64 u.id, .string ⟨u.name.toArray⟩, .slice a1 u.cols.length e1, .slice a2 u.key.length e2] 33) = w3 at *
      have HB3 := hid hb3
      have HZ3 := hid hz3
      have HS3 := hid hs3
      clear hb3 hz3 hs3 k0 k1 k2 k3 z2
      go_cut [] from 21 to 28 (fun wx => ∃ f1 f2 q1 q2, wx.heap[wr.heap.size]? = some (.cells #[.int .i64 u.id, .string ⟨u.name.toArray⟩, .slice f1 u.cols.length q1, .slice f2 u.key.length q2] 33 (0, 0)) ∧ Below wr.heap.size wr wx ∧
        ClsN (fun q => wr.heap.size < q ∧ q < wx.heap.size) wx (.slice f1 u.cols.length q1) u.cols ∧ ZsN (fun q => wr.heap.size < q ∧ q < wx.heap.size) wx (.slice f2 u.key.length q2) u.key)
      case first =>
        have HRC : Hid (Rws 3 w3.drew (.slice a1 u.cols.length e1) (u.cols.map colRow)) := hid (by
          obtain ⟨x', y', e9, hc9, -, -, -⟩ := HTU.out
          simp only [List.cons.injEq, and_true, true_and] at e9
          obtain ⟨rfl, rfl⟩ := e9
          exact hc9.1.old (w' := w3.drew) (below_step HBA.out (HB3.out.trans ⟨rfl, rfl, rfl, Nat.le_refl _, fun _ _ => rfl⟩)))
        have HRK : Hid (Rws 1 w3.drew (.slice a2 u.key.length e2) (u.key.map zRow)) := hid (by
          obtain ⟨x', y', e9, -, hk9, -, -⟩ := HTU.out
          simp only [List.cons.injEq, and_true, true_and] at e9
          obtain ⟨rfl, rfl⟩ := e9
          exact hk9.1.old (w' := w3.drew) (below_step HBA.out (HB3.out.trans ⟨rfl, rfl, rfl, Nat.le_refl _, fun _ _ => rfl⟩)))
        have HD0 : Hid (w3.drew.heap[wr.heap.size]? = some (.cells #[.int .i64 u.id, .string ⟨u.name.toArray⟩, .slice a1 u.cols.length e1, .slice a2 u.key.length e2] 33 (0, 0))) := HZ3.out
        have HBd : Hid (Below wr.heap.size wr w3.drew) := hid (HB3.out.trans ⟨rfl, rfl, rfl, Nat.le_refl _, fun _ _ => rfl⟩)
        have HSd : Hid (w3.drew.heap.size = wr.heap.size + 1) := HS3.out
        refine wp_region_noPanic ?_
        refine wp_region_L (S := fun W => Hid (W.heap[wr.heap.size]? = some (.cells #[.int .i64 u.id, .string ⟨u.name.toArray⟩, .slice a1 u.cols.length e1, .slice a2 u.key.length e2] 33 (0, 0)))) 7 (by kernel_rfl) ?_
        generalize w3.drew = Wd at *
        refine tkV 0 (.pointer (some ⟨wr.heap.size, 2, none⟩)) rfl (by kernel_rfl) (fun _ _ _ => False.elim) (Or.inl ⟨by rfl, fun W9 _ => by simp only [jA, jB, jC]; go_simp⟩) (fun _ => HD0) ?_
        simp only [Act.put, jA, jB, jC, jD, jE, jF]
        refine tkL 1 (.slice a1 u.cols.length e1) [1, 2, 7] rfl (by kernel_rfl) (fun _ _ _ => False.elim) HD0 (Or.inl ⟨by rfl, fun W9 hW => by have d9 := cell_in hW.out 2 _ rfl; clear hW; simp only [jA, jB, jC]; go_simp⟩) ?_
        simp only [Act.put, jA, jB, jC, jD, jE, jF]
        refine tkV 3 (.pointer (some ⟨wr.heap.size, 3, none⟩)) rfl (by kernel_rfl) (fun _ _ _ => False.elim) (Or.inl ⟨by rfl, fun W9 _ => by simp only [jA, jB, jC]; go_simp⟩) (fun _ => HD0) ?_
        simp only [Act.put, jA, jB, jC, jD, jE, jF]
        refine tkL 4 (.slice a2 u.key.length e2) [4, 5, 7] rfl (by kernel_rfl) (fun _ _ _ => False.elim) HD0 (Or.inl ⟨by rfl, fun W9 hW => by have d9 := cell_in hW.out 3 _ rfl; clear hW; simp only [jA, jB, jC]; go_simp⟩) ?_
        simp only [Act.put, jA, jB, jC, jD, jE, jF]
        refine rdL 2 (by kernel_rfl) rfl fun K hK => ?_
        refine step_rapp (by rfl) (.const (.slice none 0 0)) (.tmp 22) 30 (by rfl) Wd.heap.size 3 32 123 Try.underlying30 (.agg #[.string ⟨#[]⟩, .int .i64 0, .bool false]) (by kernel_rfl) (by simp [Value.cells]) (by decide) (.slice none 0 0) 0 [] (by rfl) ⟨by simp, .inl ⟨rfl, rfl⟩⟩ (.slice a1 u.cols.length e1) (u.cols.map colRow) (by rfl) HRC.out (by have := HUC.out; simp only [List.length_map]; omega) (by have := HUC.out; unfold maxLen; simp only [List.length_map]; omega) (Nat.le_refl _) (fun v1 W1 o1 g1 => ?_)
        obtain ⟨hc1, f1, q1, rfl⟩ := cls_made (l := u.cols) (by simpa using o1) (by simp)
        have HB1 : Hid (Below Wd.heap.size Wd W1) := hid ((Below.refl _ _).grown g1 (Nat.le_refl _) (fun k hk9 => by cases hk9))
        have HC1 := hid hc1
        clear o1 g1 hc1
        have HD1 := hid ((HB1.out.block _ (lt_of_block HD0.out)).trans HD0.out)
        refine hK.out _ _ HD1 fun _ => ?_
        clear hK K
        simp only [Act.put, jA, jB, jC, jD, jE, jF]
        refine tkV 6 (.pointer (some ⟨wr.heap.size, 2, none⟩)) rfl (by kernel_rfl) (fun _ _ _ => False.elim) (Or.inl ⟨by rfl, fun W9 _ => by simp only [jA, jB, jC]; go_simp⟩) (fun _ => HD1) ?_
        simp only [Act.put, jA, jB, jC, jD, jE, jF]
        refine rdL 5 (by kernel_rfl) rfl fun K hK => ?_
        refine step_rapp (by rfl) (.const (.slice none 0 0)) (.tmp 25) 31 (by rfl) W1.heap.size 1 8 3 Try.underlying31 (.int .i64 0) (by kernel_rfl) (by simp [Value.cells]) (by decide) (.slice none 0 0) 0 [] (by rfl) ⟨by simp, .inl ⟨rfl, rfl⟩⟩ (.slice a2 u.key.length e2) (u.key.map zRow) (by rfl) (HRK.out.old HB1.out) (by have := HUK.out; simp only [List.length_map]; omega) (by have := HUK.out; unfold maxLen; simp only [List.length_map]; omega) (Nat.le_refl _) (fun v2 W2 o2 g2 => ?_)
        obtain ⟨hk2, f2, q2, rfl⟩ := zs_made (l := u.key) (by simpa using o2) (by simp)
        have HB2 : Hid (Below W1.heap.size W1 W2) := hid ((Below.refl _ _).grown g2 (Nat.le_refl _) (fun k hk9 => by cases hk9))
        have HK2 := hid hk2
        clear o2 g2 hk2
        have HD2 := hid ((HB2.out.block _ (lt_of_block HD1.out)).trans HD1.out)
        refine hK.out _ _ HD2 fun _ => ?_
        clear hK K
        simp only [Act.put, jA, jB, jC, jD, jE, jF]
        have d2 := cell_in HD2.out 2 _ rfl
        have d2f := free_in HD2.out 2
        refine rdS (by kernel_rfl) rfl fun K hK => ?_
        go_simp
        refine hK.out _ _ ?_
        clear hK K d2 d2f
        have HD3 := hid (put_in HD2.out 2 (.slice f1 u.cols.length q1))
        have HB3' : Hid (Below wr.heap.size wr (W2.setCell ⟨wr.heap.size, 2, none⟩ (.slice f1 u.cols.length q1))) := hid ((below_step (below_step HBd.out HB1.out) HB2.out).setCell (Nat.le_refl _) _)
        have HKS : Hid (Keep (fun k => k = wr.heap.size) W2 (W2.setCell ⟨wr.heap.size, 2, none⟩ (.slice f1 u.cols.length q1))) := hid (Keep.set _ _ _ rfl)
        generalize W2.setCell ⟨wr.heap.size, 2, none⟩ (.slice f1 u.cols.length q1) = W3 at *
        refine tkV 8 (.pointer (some ⟨wr.heap.size, 3, none⟩)) rfl (by kernel_rfl) (fun _ _ _ => False.elim) (Or.inl ⟨by rfl, fun W9 _ => by simp only [jA, jB, jC]; go_simp⟩) (fun h9 => Bool.noConfusion (show true = false from h9)) ?_
        simp only [Act.put, jA, jB, jC, jD, jE, jF]
        have d3 := cell_in HD3.out 3 _ rfl
        have d3f := free_in HD3.out 3
        refine rdP 9 (by kernel_rfl) rfl fun K hK => ?_
        go_simp
        refine hK.out _ _ ?_
        clear hK K d3 d3f
        have HD4 := hid (put_in HD3.out 3 (.slice f2 u.key.length q2))
        have HB4 : Hid (Below wr.heap.size wr (W3.setCell ⟨wr.heap.size, 3, none⟩ (.slice f2 u.key.length q2))) := hid (HB3'.out.setCell (Nat.le_refl _) _)
        have HKS4 : Hid (Keep (fun k => k = wr.heap.size) W2 (W3.setCell ⟨wr.heap.size, 3, none⟩ (.slice f2 u.key.length q2))) := hid (HKS.out.trans (Keep.set _ _ _ rfl))
        refine doneL (by kernel_rfl) (NoPanic.normal ?_) _
        generalize W3.setCell ⟨wr.heap.size, 3, none⟩ (.slice f2 u.key.length q2) = W4 at *
        go_wp2_with fail
        go_meet
        refine ⟨f1, f2, q1, q2, HD4.out, HB4.out, ?_, ?_⟩
        · exact (HC1.out.keep (Keep.of_below (X := fun _ => False) HB2.out) (fun _ _ e => e)).keep HKS4.out (fun k hk9 e => by have := HSd.out; omega) |>.mono (fun k hk9 => ⟨by have := HSd.out; omega, by have := HKS4.out.size; have := HB2.out.size; omega⟩)
        · exact (HK2.out.keep HKS4.out (fun k hk9 e => by have := HSd.out; have := HB1.out.size; omega)).mono (fun k hk9 => ⟨by have := HSd.out; have := HB1.out.size; omega, by have := HKS4.out.size; omega⟩)
      case rest =>
        obtain ⟨f1, f2, q1, q2, hzx, hbx, hcx, hkx⟩ := hcut
        have HBX := hid hbx
        have HCX := hid hcx
        have HKX := hid hkx
        have r0 := cell_in hzx 0 _ rfl
        have r1 := cell_in hzx 1 _ rfl
        have r2 := cell_in hzx 2 _ rfl
        have r3 := cell_in hzx 3 _ rfl
        clear hzx hbx hcx hkx
        have H5 : Hid (Below wc.heap.size wc (wc.alloc (.cells #[.int .i64 u.id, .string ⟨u.name.toArray⟩, .slice f1 u.cols.length q1, .slice f2 u.key.length q2] 33))) := hid ((Below.refl _ _).alloc (Nat.le_refl _) _)
        have HR5 := hid (heap_alloc_new wc (.cells #[.int .i64 u.id, .string ⟨u.name.toArray⟩, .slice f1 u.cols.length q1, .slice f2 u.key.length q2] 33))
        have HB5 := hid (below_step HBX.out H5.out)
        have HO5 := hid (HOW.out.mono (R' := TabN (NewQ w2.heap.size wr u3)) (Keep.of_below (X := fun _ => False) HB5.out) (fun _ _ e => e) (fun r a h => h.old HB5.out))
        go_wp2_with (first
          | (at_builtin; refine wp_lapp (by rfl) _ _ 22 rfl w2.heap.size 4 72 33 Try.underlying22 (.agg #[.int .i64 0, .string ⟨#[]⟩, .slice none 0 0, .slice none 0 0]) (by kernel_rfl) (by simp [Value.cells]) (by decide) _ _ rfl HO5.out wc.heap.size [.int .i64 u.id, .string ⟨u.name.toArray⟩, .slice f1 u.cols.length q1, .slice f2 u.key.length q2] rfl (fun j q hj => cell_in HR5.out j q (by simpa using hj)) rfl ?q1 ?q2 ?q3 ?q4 (fun v' w' p1 p2 p3 => ?_)))
        case q1 => intro q hq9; simp only [List.mem_cons, List.not_mem_nil, or_false] at hq9; rcases hq9 with rfl | rfl | rfl | rfl <;> rfl
        case q2 => unfold maxLen; rw [List.length_take]; have := HL1.out; omega
        case q3 => rw [List.length_take]; have := HL1.out; omega
        case q4 => have := HSR.out; have := HB5.out.size; omega
        have hlv := HOW.out.lt
        have hbe : Below w2.heap.size w2 w' := Below.grown (below_step HBR.out HB5.out) p2 (by have := HSR.out; have := HB5.out.size; omega) (fun q hq9 => (hlv q hq9).1)
        have hsz5 := H5.out.size
        have hsx := HBX.out.size
        have hsg : wc.heap.size ≤ w'.heap.size := Nat.le_trans hsz5 p2.size
        have hv : ∀ q, w2.heap.size ≤ q → q < wc.heap.size → u3.ownBlock ≠ some q → NewQ w2.heap.size w' v' q := fun q ha hb9 hc9 => ⟨ha, by omega, fun e => (p3 q e).elim hc9 (fun h => Nat.lt_irrefl _ (Nat.lt_of_lt_of_le hb9 (Nat.le_trans hsz5 h)))⟩
        have hkg := Keep.of_grown (X := fun q => u3.ownBlock = some q) p2 (fun k hk9 => hk9)
        have HBE := hid hbe
        have HO6 := hid (p1 (TabN (NewQ w2.heap.size w' v')) u (fun q a h => (h.keep hkg (fun k e => e.2.2)).mono (fun k e => hv k e.1 (by have := e.2.1; omega) e.2.2))
          (show TabN _ w' [.int .i64 u.id, .string ⟨u.name.toArray⟩, .slice f1 u.cols.length q1, .slice f2 u.key.length q2] u from
            ⟨_, _, rfl, ((HCX.out.keep (Keep.of_below (X := fun _ => False) H5.out) (fun _ _ e => e)).keep hkg (fun k e e9 => by have := (hlv k e9).2; have := e.1; omega)).mono (fun k e => hv k (by have := HSR.out; have := e.1; omega) e.2 (fun e9 => by have := (hlv k e9).2; have := e.1; omega)),
              ((HKX.out.keep (Keep.of_below (X := fun _ => False) H5.out) (fun _ _ e => e)).keep hkg (fun k e e9 => by have := (hlv k e9).2; have := e.1; omega)).mono (fun k e => hv k (by have := HSR.out; have := e.1; omega) e.2 (fun e9 => by have := (hlv k e9).2; have := e.1; omega)), rfl, rfl⟩))
        clear p1 p2 p3 hlv hbe hsz5 hsx hsg hv hkg
        go_wp2_with fail
        go_roundw
        case rel => exact ⟨k + 1, by omega, by go_num, HBE.out, by rw [HTK.out]; exact HO6.out⟩
        case measure => simp [intOf]; omega
    · obtain rfl : k = C.tabs.length := by omega
      rw [List.take_length] at HOW
      clear hk hlt z2
      have hki : ¬ (C.tabs.length : Int) < (C.tabs.length : Int) := by omega
      have z2 := cell_in ((HBR.out.block _ (lt_of_block HZ.out)).trans HZ.out) 2 _ rfl
      go_wp2_with fail
      clear z2 hki
      generalize wr = wo at *
      go_loopw [6, 7] (fun v j wr2 => ∃ k : Nat, k ≤ C.idxs.length ∧ j = .int .i64 (k : Int) ∧ Below wo.heap.size wo wr2 ∧ OwnL (IdxN (NewQ wo.heap.size wr2 v)) 7 37 wo.heap.size wr2 v (C.idxs.take k))
        (fun _ j _ => C.idxs.length - (intOf j).toNat)
      case atStart => exact ⟨0, by omega, rfl, Below.refl _ _, OwnL.nil _ _ _ _ _⟩
      case round =>
        obtain ⟨k, hk, rfl, hbr2, hown2⟩ := hrel
        have HB2 := hid hbr2
        have HS2 := hid hbr2.size
        have HW2 := hid hown2
        have HBA2 := hid (below_step HBA.out hbr2)
        have HBR2 := hid (below_step HBR.out hbr2)
        clear hbr2 hown2
        have z3 := cell_in ((HBR2.out.block _ (lt_of_block HZ.out)).trans HZ.out) 3 _ rfl
        by_cases hlt : k < C.idxs.length
        · obtain ⟨u, hu⟩ : ∃ u, C.idxs[k]? = some u := ⟨_, List.getElem?_eq_getElem hlt⟩
          obtain ⟨b, off, a1, e1, rfl, ht, c0, c1, c2, c3, c4, c5, c6⟩ := HC.out k u hu
          have hki : (k : Int) < (C.idxs.length : Int) := by omega
          have k0 := (HBA2.out.cell (block_cell c0)).trans c0
          have k1 := (HBA2.out.cell (block_cell c1)).trans c1
          have k2 := (HBA2.out.cell (block_cell c2)).trans c2
          have k3 := (HBA2.out.cell (block_cell c3)).trans c3
          have k4 := (HBA2.out.cell (block_cell c4)).trans c4
          have k5 := (HBA2.out.cell (block_cell c5)).trans c5
          have k6 := (HBA2.out.cell (block_cell c6)).trans c6
          clear c0 c1 c2 c3 c4 c5 c6
          have HUC := hid (HL4.out u (List.mem_of_getElem? hu))
          have HTK := hid (take_at hu)
          have HRK0 : Hid (Rws 1 w (.slice a1 u.cols.length e1) (u.cols.map zRow)) := hid (by
            obtain ⟨y', e9, hk9, -⟩ := ht
            simp only [List.cons.injEq, and_true, true_and] at e9
            obtain rfl := e9
            exact hk9.1)
          clear ht hu
          go_upto_region 13 with fail
          have hb3 := (Below.refl wr.heap.size wr).alloc (Nat.le_refl _) (.cells #[.int .i64 u.id, .int .i64 u.table, .string ⟨u.name.toArray⟩, .slice a1 u.cols.length e1, .bool u.uniq, .int .i64 u.state, .bool u.bad] 37)
          have hz3 := heap_alloc_new wr (.cells #[.int .i64 u.id, .int .i64 u.table, .string ⟨u.name.toArray⟩, .slice a1 u.cols.length e1, .bool u.uniq, .int .i64 u.state, .bool u.bad] 37)
          have hs3 : (wr.alloc (.cells #[.int .i64 u.id, .int .i64 u.table, .string ⟨u.name.toArray⟩, .slice a1 u.cols.length e1, .bool u.uniq, .int .i64 u.state, .bool u.bad] 37)).heap.size = wr.heap.size + 1 := by simp
          generalize wr.alloc (.cells #[.int .i64 u.id, .int .i64 u.table, .string ⟨u.name.toArray⟩, .slice a1 u.cols.length e1, .bool u.uniq, .int .i64 u.state, .bool u.bad] 37) = w3 at *
          have HB3 := hid hb3
          have HZ3 := hid hz3
          have HS3 := hid hs3
          have HRK := hid (HRK0.out.old (below_step HBA2.out hb3))
          have y3 := cell_in hz3 3 _ rfl
          clear hb3 hz3 hs3 k0 k1 k2 k3 k4 k5 k6 z3
          go_upto_region 14 with (first
            | (at_builtin; refine wp_rapp (by rfl) _ _ 31 rfl w3.heap.size 1 8 3 Try.underlying31 (.int .i64 0) (by kernel_rfl) (by simp [Value.cells]) (by decide) (.slice none 0 0) 0 [] rfl ⟨by simp, .inl ⟨rfl, rfl⟩⟩ (.slice a1 u.cols.length e1) (u.cols.map zRow) rfl HRK.out (by have := HUC.out; simp only [List.length_map]; omega) (by have := HUC.out; unfold maxLen; simp only [List.length_map]; omega) (Nat.le_refl _) (fun v1 W1 o1 g1 => ?_); obtain ⟨hk1, f1, q1, rfl⟩ := zs_made (l := u.cols) (by simpa using o1) (by simp); have HB1 : Hid (Below w3.heap.size w3 W1) := hid ((Below.refl _ _).grown g1 (Nat.le_refl _) (fun k hk9 => by cases hk9)); have HK1 := hid hk1; have HD1 := hid ((HB1.out.block _ (lt_of_block HZ3.out)).trans HZ3.out); have HD2 := hid (put_in HD1.out 3 (.slice f1 u.cols.length q1)); have d0 := cell_in HD1.out 0 _ rfl; have d1 := cell_in HD1.out 1 _ rfl; have d2 := cell_in HD1.out 2 _ rfl; have d3 := cell_in HD1.out 3 _ rfl; have d4 := cell_in HD1.out 4 _ rfl; have d5 := cell_in HD1.out 5 _ rfl; have d6 := cell_in HD1.out 6 _ rfl; have d3f := free_in HD1.out 3; clear o1 g1 hk1))
          have HBX : Hid (Below wr.heap.size wr (W1.setCell ⟨wr.heap.size, 3, none⟩ (.slice f1 u.cols.length q1))) := hid ((below_step HB3.out HB1.out).setCell (Nat.le_refl _) _)
          have HKS : Hid (Keep (fun k => k = wr.heap.size) W1 (W1.setCell ⟨wr.heap.size, 3, none⟩ (.slice f1 u.cols.length q1))) := hid (Keep.set _ _ _ rfl)
          generalize W1.setCell ⟨wr.heap.size, 3, none⟩ (.slice f1 u.cols.length q1) = wc at *
          have HKX := hid ((HK1.out.keep HKS.out (fun k e e9 => by have := HS3.out; omega)).mono (N' := fun k => wr.heap.size < k ∧ k < wc.heap.size) (fun k e => ⟨by have := HS3.out; omega, by have := HKS.out.size; omega⟩))
          clear d0 d1 d2 d3 d4 d5 d6 d3f y3
          have r0 := cell_in HD2.out 0 _ rfl
          have r1 := cell_in HD2.out 1 _ rfl
          have r2 := cell_in HD2.out 2 _ rfl
          have r3 := cell_in HD2.out 3 _ rfl
          have r4 := cell_in HD2.out 4 _ rfl
          have r5 := cell_in HD2.out 5 _ rfl
          have r6 := cell_in HD2.out 6 _ rfl
          have H5 : Hid (Below wc.heap.size wc (wc.alloc (.cells #[.int .i64 u.id, .int .i64 u.table, .string ⟨u.name.toArray⟩, .slice f1 u.cols.length q1, .bool u.uniq, .int .i64 u.state, .bool u.bad] 37))) := hid ((Below.refl _ _).alloc (Nat.le_refl _) _)
          have HR5 := hid (heap_alloc_new wc (.cells #[.int .i64 u.id, .int .i64 u.table, .string ⟨u.name.toArray⟩, .slice f1 u.cols.length q1, .bool u.uniq, .int .i64 u.state, .bool u.bad] 37))
          have HB5 := hid (below_step HBX.out H5.out)
          have HO5 := hid (HW2.out.mono (R' := IdxN (NewQ wo.heap.size wr u6)) (Keep.of_below (X := fun _ => False) HB5.out) (fun _ _ e => e) (fun r a h => h.old HB5.out))
          go_wp2_with (first
            | (at_builtin; refine wp_lapp (by rfl) _ _ 23 rfl wo.heap.size 7 80 37 Try.underlying23 (.agg #[.int .i64 0, .int .i64 0, .string ⟨#[]⟩, .slice none 0 0, .bool false, .int .i64 0, .bool false]) (by kernel_rfl) (by simp [Value.cells]) (by decide) _ _ rfl HO5.out wc.heap.size [.int .i64 u.id, .int .i64 u.table, .string ⟨u.name.toArray⟩, .slice f1 u.cols.length q1, .bool u.uniq, .int .i64 u.state, .bool u.bad] rfl (fun j q hj => cell_in HR5.out j q (by simpa using hj)) rfl ?q1 ?q2 ?q3 ?q4 (fun v' w' p1 p2 p3 => ?_)))
          case q1 => intro q hq9; simp only [List.mem_cons, List.not_mem_nil, or_false] at hq9; rcases hq9 with rfl | rfl | rfl | rfl | rfl | rfl | rfl <;> rfl
          case q2 => unfold maxLen; rw [List.length_take]; have := HL2.out; omega
          case q3 => rw [List.length_take]; have := HL2.out; omega
          case q4 => have := HS2.out; have := HB5.out.size; omega
          have hlv := HW2.out.lt
          have hbe : Below wo.heap.size wo w' := Below.grown (below_step HB2.out HB5.out) p2 (by have := HS2.out; have := HB5.out.size; omega) (fun q hq9 => (hlv q hq9).1)
          have hsz5 := H5.out.size
          have hsx := HBX.out.size
          have hsg : wc.heap.size ≤ w'.heap.size := Nat.le_trans hsz5 p2.size
          have hv : ∀ q, wo.heap.size ≤ q → q < wc.heap.size → u6.ownBlock ≠ some q → NewQ wo.heap.size w' v' q := fun q ha hb9 hc9 => ⟨ha, by omega, fun e => (p3 q e).elim hc9 (fun h => Nat.lt_irrefl _ (Nat.lt_of_lt_of_le hb9 (Nat.le_trans hsz5 h)))⟩
          have hkg := Keep.of_grown (X := fun q => u6.ownBlock = some q) p2 (fun k hk9 => hk9)
          have HBE := hid hbe
          have HO6 := hid (p1 (IdxN (NewQ wo.heap.size w' v')) u (fun q a h => (h.keep hkg (fun k e => e.2.2)).mono (fun k e => hv k e.1 (by have := e.2.1; omega) e.2.2))
            (show IdxN _ w' [.int .i64 u.id, .int .i64 u.table, .string ⟨u.name.toArray⟩, .slice f1 u.cols.length q1, .bool u.uniq, .int .i64 u.state, .bool u.bad] u from
              ⟨_, rfl, ((HKX.out.keep (Keep.of_below (X := fun _ => False) H5.out) (fun _ _ e => e)).keep hkg (fun k e e9 => by have := (hlv k e9).2; have := e.1; omega)).mono (fun k e => hv k (by have := HS2.out; have := e.1; omega) e.2 (fun e9 => by have := (hlv k e9).2; have := e.1; omega)), rfl⟩))
          clear p1 p2 p3 hlv hbe hsz5 hsx hsg hv hkg
          go_wp2_with fail
          go_roundw
          case rel => exact ⟨k + 1, by omega, by go_num, HBE.out, by rw [HTK.out]; exact HO6.out⟩
          case measure => simp [intOf]; omega
        · obtain rfl : k = C.idxs.length := by omega
          rw [List.take_length] at HW2
          clear hk hlt
          have hki : ¬ (C.idxs.length : Int) < (C.idxs.length : Int) := by omega
          obtain ⟨f1, q1, rfl⟩ := own_form HOW.out
          obtain ⟨f2, q2, rfl⟩ := own_form HW2.out
          have HD0 := hid ((HBR2.out.block _ (lt_of_block HZ2.out)).trans HZ2.out)
          have z0 := cell_in ((HBR2.out.block _ (lt_of_block HZ.out)).trans HZ.out) 0 _ rfl
          have z1 := cell_in ((HBR2.out.block _ (lt_of_block HZ.out)).trans HZ.out) 1 _ rfl
          have d0 := cell_in HD0.out 0 _ rfl
          have d1 := cell_in HD0.out 1 _ rfl
          have d2 := cell_in HD0.out 2 _ rfl
          have d3 := cell_in HD0.out 3 _ rfl
          have e0 := free_in HD0.out 0
          have e1 := free_in HD0.out 1
          have e2 := free_in HD0.out 2
          have e3 := free_in HD0.out 3
          go_wp2_with fail
          have HD1 : Hid ((wr.setCell ⟨w.heap.size + 1, 0, none⟩ (.int .i64 C.ver)).heap[w.heap.size + 1]? = some (.cells #[.int .i64 C.ver, .int .i64 0, .slice none 0 0, .slice none 0 0] 25 (0, 0))) := hid (put_in HD0.out 0 (.int .i64 C.ver))
          have HBz1 : Hid (Below w.heap.size w (wr.setCell ⟨w.heap.size + 1, 0, none⟩ (.int .i64 C.ver))) := hid (HBA2.out.setCell (by simp) _)
          have HKz1 : Hid (Keep (fun k => k = w.heap.size + 1) wr (wr.setCell ⟨w.heap.size + 1, 0, none⟩ (.int .i64 C.ver))) := hid (Keep.set _ _ _ rfl)
          generalize wr.setCell ⟨w.heap.size + 1, 0, none⟩ (.int .i64 C.ver) = y1 at *
          have HD2 : Hid ((y1.setCell ⟨w.heap.size + 1, 1, none⟩ (.int .i64 C.nxt)).heap[w.heap.size + 1]? = some (.cells #[.int .i64 C.ver, .int .i64 C.nxt, .slice none 0 0, .slice none 0 0] 25 (0, 0))) := hid (put_in HD1.out 1 (.int .i64 C.nxt))
          have HBz2 : Hid (Below w.heap.size w (y1.setCell ⟨w.heap.size + 1, 1, none⟩ (.int .i64 C.nxt))) := hid (HBz1.out.setCell (by simp) _)
          have HKz2 : Hid (Keep (fun k => k = w.heap.size + 1) wr (y1.setCell ⟨w.heap.size + 1, 1, none⟩ (.int .i64 C.nxt))) := hid (HKz1.out.trans (Keep.set _ _ _ rfl))
          generalize y1.setCell ⟨w.heap.size + 1, 1, none⟩ (.int .i64 C.nxt) = y2 at *
          have HD3 : Hid ((y2.setCell ⟨w.heap.size + 1, 2, none⟩ (.slice f1 C.tabs.length q1)).heap[w.heap.size + 1]? = some (.cells #[.int .i64 C.ver, .int .i64 C.nxt, .slice f1 C.tabs.length q1, .slice none 0 0] 25 (0, 0))) := hid (put_in HD2.out 2 (.slice f1 C.tabs.length q1))
          have HBz3 : Hid (Below w.heap.size w (y2.setCell ⟨w.heap.size + 1, 2, none⟩ (.slice f1 C.tabs.length q1))) := hid (HBz2.out.setCell (by simp) _)
          have HKz3 : Hid (Keep (fun k => k = w.heap.size + 1) wr (y2.setCell ⟨w.heap.size + 1, 2, none⟩ (.slice f1 C.tabs.length q1))) := hid (HKz2.out.trans (Keep.set _ _ _ rfl))
          generalize y2.setCell ⟨w.heap.size + 1, 2, none⟩ (.slice f1 C.tabs.length q1) = y3 at *
          have HD4 : Hid ((y3.setCell ⟨w.heap.size + 1, 3, none⟩ (.slice f2 C.idxs.length q2)).heap[w.heap.size + 1]? = some (.cells #[.int .i64 C.ver, .int .i64 C.nxt, .slice f1 C.tabs.length q1, .slice f2 C.idxs.length q2] 25 (0, 0))) := hid (put_in HD3.out 3 (.slice f2 C.idxs.length q2))
          have HBz4 : Hid (Below w.heap.size w (y3.setCell ⟨w.heap.size + 1, 3, none⟩ (.slice f2 C.idxs.length q2))) := hid (HBz3.out.setCell (by simp) _)
          have HKz4 : Hid (Keep (fun k => k = w.heap.size + 1) wr (y3.setCell ⟨w.heap.size + 1, 3, none⟩ (.slice f2 C.idxs.length q2))) := hid (HKz3.out.trans (Keep.set _ _ _ rfl))
          generalize y3.setCell ⟨w.heap.size + 1, 3, none⟩ (.slice f2 C.idxs.length q2) = y4 at *
          have HB4 := HBz4
          have HK4 := HKz4
          generalize y4 = wz at *
          refine bodyPost_ret (results_cell_row rfl _ _ (w.heap.size + 1) 25 _ (0, 0) _ rfl HD4.out Try.underlying25 rfl (by kernel_rfl)) rfl ?_
          have hl1 := HOW.out.lt
          have hl2 := HW2.out.lt
          have hs2 := HS2.out
          have hsr := HSR.out
          have hsz := HSZ.out
          have hsk := HK4.out.size
          have hk2 : Keep (fun k => k = w.heap.size + 1) wo wz := (Keep.of_below HB2.out).trans HK4.out
          refine ⟨_, rfl, HB4.out, _, _, rfl, ?_, ?_, ?_⟩
          · refine (HOW.out.mono (R' := TabN fun k => NewQ w.heap.size wz (.slice f1 C.tabs.length q1) k ∧ (Value.slice f2 C.idxs.length q2).ownBlock ≠ some k) hk2 (fun k e e9 => by have := (hl1 k e).1; omega) (fun r a h => (h.keep hk2 (fun k e e9 => by have := e.1; omega)).mono (fun k e => ⟨⟨by have := e.1; omega, by have := e.2.1; omega, e.2.2⟩, fun e9 => by have := (hl2 k e9).1; have := e.2.1; omega⟩))).base (by omega)
          · refine (HW2.out.mono (R' := IdxN fun k => NewQ w.heap.size wz (.slice f2 C.idxs.length q2) k ∧ (Value.slice f1 C.tabs.length q1).ownBlock ≠ some k) HK4.out (fun k e e9 => by have := (hl2 k e).1; omega) (fun r a h => (h.keep HK4.out (fun k e e9 => by have := e.1; omega)).mono (fun k e => ⟨⟨by have := e.1; omega, by have := e.2.1; omega, e.2.2⟩, fun e9 => by have := (hl1 k e9).2; have := e.1; omega⟩))).base (by omega)
          · intro k e9 e8
            have := (hl1 k e9).2
            have := (hl2 k e8).1
            omega
end Go.Proofs.Ytafcbelkhhjcoaa
