/-
  LAYER 12, THE CODE's: rightIDs, rightNames, rightIndexes, Right.
-/
import Derived.Test.YtafcbelkhhjcoaaSqj
set_option linter.unusedVariables false
set_option linter.unusedSimpArgs false
set_option maxRecDepth 100000
namespace Go.Proofs.Ytafcbelkhhjcoaa
open Go.RowKit Go.Deep

theorem Rws.two {w : World} {n : Nat} {u v : Value} {t : TypeId} (h : n = w.heap.size) (hu : u.oneCell' = true) (hv : v.oneCell' = true) : Rws 1 (w.alloc (.cells #[u, v] t)) (.slice (some ⟨n, 0, none⟩) 2 2) [[u], [v]] := by
  subst h
  refine ⟨some ⟨w.heap.size, 0, none⟩, 2, rfl, by simp, by unfold maxLen; simp, (fun h => by cases h), (fun q hq => ?_), fun a ha j x hx => ?_⟩
  · simp at hq
    rcases hq with rfl | rfl
    · exact ⟨rfl, fun y hy => by simp at hy; subst hy; exact hu⟩
    · exact ⟨rfl, fun y hy => by simp at hy; subst hy; exact hv⟩
  · cases ha
    rw [WideShapes.add_plain, Nat.zero_add, cell_of_row _ w.heap.size j #[u, v] t (0, 0) (heap_alloc_new w _)]
    simpa using hx
theorem rws_one {w : World} {n : Nat} {x : Value} {L : List (List Value)} (h : Rws n w x L) : x.oneCell' = true := by
  obtain ⟨a, c, rfl, -⟩ := h.form
  rfl

theorem sl_form {w : World} {n : Nat} {x : Value} {L : List (List Value)} (h : Rws n w x L) : ∃ m a c, x = .slice a m c := by
  obtain ⟨a, c, rfl, -⟩ := h.form
  exact ⟨_, _, _, rfl⟩

set_option maxHeartbeats 4000000 in
theorem rgtIds_any {N : Nat → Prop} {w : World} {cs : List Value} {C : Cat} (h : CatN N w cs C) (hl1 : C.tabs.length ≤ 100) (hl2 : C.idxs.length ≤ 100) : Calls Try.prog 93 #[.agg cs.toArray] w (fun e w' => e = .returned (.bool (idsF C)) ∧ Below w.heap.size w w') := by
  obtain ⟨a, c, a', c', rfl, ht, hi, -, -⟩ := cat_open h
  have HTT := hid ht
  have HII := hid hi
  clear h ht hi
  go_enter Try.func93, Try.ntmps93
  go_upto_region 1 with fail
  have hb := (Below.refl w.heap.size w).alloc (Nat.le_refl _) (.cells #[.int .i64 C.ver, .int .i64 C.nxt, .slice a C.tabs.length c, .slice a' C.idxs.length c'] 25)
  have hz := heap_alloc_new w (.cells #[.int .i64 C.ver, .int .i64 C.nxt, .slice a C.tabs.length c, .slice a' C.idxs.length c'] 25)
  generalize w.alloc (.cells #[.int .i64 C.ver, .int .i64 C.nxt, .slice a C.tabs.length c, .slice a' C.idxs.length c'] 25) = w1 at *
  have HB := hid hb
  have HZ := hid hz
  clear hb hz
  have z2 := cell_in HZ.out 2 _ rfl
  have C1 := hid (eachTabId_any w1 (HTT.out.oldT HB.out) hl1)
  go_upto_region 3 with (first
    | (go_at_call 168; refine C1.out.mono ?_; rintro en w2 ⟨v2, rfl, hb2, hr2⟩
       have HB2 := hid (below_step HB.out hb2)
       have HR2 := hid hr2
       have hz2 := (hb2.block _ (lt_of_block HZ.out)).trans HZ.out
       have y3 := cell_in hz2 3 _ rfl
       have HZ2 := hid hz2
       have C2 := hid (eachIdxId_any w2 (HII.out.oldI HB2.out) hl2)
       clear hb2 hr2 hz2 z2)
    | (go_at_call 170; refine C2.out.mono ?_; rintro en w3 ⟨v3, rfl, hb3, hr3⟩
       have HB3 := hid (below_step HB2.out hb3)
       have HR3 := hid hr3
       have HR2' := hid (HR2.out.old hb3)
       have hz3 := (hb3.block _ (lt_of_block HZ2.out)).trans HZ2.out
       have x1 := cell_in hz3 1 _ rfl
       clear hb3 hr3 hz3 y3))
  obtain ⟨n2, av2, cv2, rfl⟩ := sl_form HR2'.out
  obtain ⟨n3, av3, cv3, rfl⟩ := sl_form HR3.out
  have CR1 := hid (rise_any w3 HR2'.out C.nxt)
  have CR2 := hid (rise_any w3 HR3.out C.nxt)
  have HE : Hid (idsF C = (rsB C.nxt 0 (C.tabs.map (·.id)) && rsB C.nxt 0 (C.idxs.map (·.id)) && unl [] (C.tabs.map (·.id) ++ C.idxs.map (·.id)))) := hid rfl
  have HV2 := hid (rws_one HR2'.out)
  have HV3 := hid (rws_one HR3.out)
  cases hb1 : rsB C.nxt 0 (C.tabs.map (·.id)) with
  | false =>
    rw [hb1] at CR1 HE
    go_wp2_with (first | (go_at_call 172; refine CR1.out.mono ?_; rintro en w4 ⟨rfl, rfl⟩))
    go_ret
    exact ⟨by rw [HE.out]; rfl, HB3.out⟩
  | true =>
    rw [hb1] at CR1 HE
    cases hb2 : rsB C.nxt 0 (C.idxs.map (·.id)) with
    | false =>
      rw [hb2] at CR2 HE
      go_wp2_with (first
        | (go_at_call 172; refine CR1.out.mono ?_; rintro en w4 ⟨rfl, rfl⟩; clear CR1)
        | (go_at_call 172; refine CR2.out.mono ?_; rintro en w4 ⟨rfl, rfl⟩))
      go_ret
      exact ⟨by rw [HE.out]; rfl, HB3.out⟩
    | true =>
      rw [hb2] at CR2 HE
      have hb5 := (Below.refl w3.heap.size w3).alloc (Nat.le_refl _) (.cells #[(.slice av2 n2 cv2), (.slice av3 n3 cv3)] 31)
      have hcat : Hid (Calls Try.prog 174 #[.slice (some ⟨w3.heap.size, 0, none⟩) 2 2] (w3.alloc (.cells #[(.slice av2 n2 cv2), (.slice av3 n3 cv3)] 31)) (CatR 3 1 (catA [((.slice av2 n2 cv2), (C.tabs.map (·.id)).map zRow), ((.slice av3 n3 cv3), (C.idxs.map (·.id)).map zRow)]) (w3.alloc (.cells #[(.slice av2 n2 cv2), (.slice av3 n3 cv3)] 31)))) :=
        hid (concatI_any _ _ _ ⟨Rws.two rfl HV2.out HV3.out, fun y hy => by
          simp only [List.mem_cons, List.not_mem_nil, or_false] at hy
          rcases hy with rfl | rfl
          · exact HR2'.out.old hb5
          · exact HR3.out.old hb5⟩ (by simp [catA]; omega) (by simp))
      have HB5 := hid (below_step HB3.out hb5)
      clear hb5
      go_wp2_with (first
        | (go_at_call 172; refine CR1.out.mono ?_; rintro en w4 ⟨rfl, rfl⟩; clear CR1)
        | (go_at_call 172; refine CR2.out.mono ?_; rintro en w4 ⟨rfl, rfl⟩)
        | (go_at_call 174; refine hcat.out.mono ?_; rintro en w6 ⟨v6, rfl, ho6, hb6⟩
           have HB6 := hid (below_step HB5.out hb6)
           have hr6 : Rws 1 w6 v6 ((C.tabs.map (·.id) ++ C.idxs.map (·.id)).map zRow) := by
             rw [List.map_append]
             have e9 : catA [((.slice av2 n2 cv2), (C.tabs.map (·.id)).map zRow), ((.slice av3 n3 cv3), (C.idxs.map (·.id)).map zRow)] = (C.tabs.map (·.id)).map zRow ++ (C.idxs.map (·.id)).map zRow := by simp [catA]
             rw [e9] at ho6
             exact Rws.own ho6 (fun r hr => by
               rw [← List.map_append] at hr
               obtain ⟨z, -, rfl⟩ := List.mem_map.1 hr
               exact ⟨rfl, fun u hu => by simp [zRow] at hu; subst hu; rfl⟩)
           have CU := hid (unlInt_any w6 hr6)
           clear ho6 hb6 hr6)
        | (go_at_call 173; refine CU.out.mono ?_; rintro en w7 ⟨rfl, rfl⟩))
      go_ret
      exact ⟨by rw [HE.out]; rfl, HB6.out⟩

set_option maxHeartbeats 4000000 in
theorem rgtNames_any {N : Nat → Prop} {w : World} {cs : List Value} {C : Cat} (h : CatN N w cs C) (hl1 : C.tabs.length ≤ 100) (hl2 : C.idxs.length ≤ 100) : Calls Try.prog 94 #[.agg cs.toArray] w (fun e w' => e = .returned (.bool (namesF C)) ∧ Below w.heap.size w w') := by
  obtain ⟨a, c, a', c', rfl, ht, hi, -, -⟩ := cat_open h
  have HTT := hid ht
  have HII := hid hi
  clear h ht hi
  go_enter Try.func94, Try.ntmps94
  go_upto_region 1 with fail
  have hb := (Below.refl w.heap.size w).alloc (Nat.le_refl _) (.cells #[.int .i64 C.ver, .int .i64 C.nxt, .slice a C.tabs.length c, .slice a' C.idxs.length c'] 25)
  have hz := heap_alloc_new w (.cells #[.int .i64 C.ver, .int .i64 C.nxt, .slice a C.tabs.length c, .slice a' C.idxs.length c'] 25)
  generalize w.alloc (.cells #[.int .i64 C.ver, .int .i64 C.nxt, .slice a C.tabs.length c, .slice a' C.idxs.length c'] 25) = w1 at *
  have HB := hid hb
  have HZ := hid hz
  clear hb hz
  have z2 := cell_in HZ.out 2 _ rfl
  have C1 := hid (eachTabName_any w1 (HTT.out.oldT HB.out) hl1)
  go_upto_region 3 with (first
    | (go_at_call 175; refine C1.out.mono ?_; rintro en w2 ⟨v2, rfl, hb2, hr2⟩
       have HB2 := hid (below_step HB.out hb2)
       have HR2 := hid hr2
       have hz2 := (hb2.block _ (lt_of_block HZ.out)).trans HZ.out
       have y3 := cell_in hz2 3 _ rfl
       have C2 := hid (eachIdxName_any w2 (HII.out.oldI HB2.out) hl2)
       clear hb2 hr2 hz2 z2)
    | (go_at_call 177; refine C2.out.mono ?_; rintro en w3 ⟨v3, rfl, hb3, hr3⟩
       have HB3 := hid (below_step HB2.out hb3)
       have HR3 := hid hr3
       have HR2' := hid (HR2.out.old hb3)
       clear hb3 hr3 y3))
  have CR1 := hid (unlStr_any w3 HR2'.out)
  have CR2 := hid (unlStr_any w3 HR3.out)
  have HE : Hid (namesF C = (unl [] (C.tabs.map (·.name)) && unl [] (C.idxs.map (·.name)))) := hid rfl
  cases hb1 : unl [] (C.tabs.map (·.name)) with
  | false =>
    rw [hb1] at CR1 HE
    go_wp2_with (first | (go_at_call 179; refine CR1.out.mono ?_; rintro en w4 ⟨rfl, rfl⟩))
    go_ret
    exact ⟨by rw [HE.out]; rfl, HB3.out⟩
  | true =>
    rw [hb1] at CR1 HE
    go_wp2_with (first
      | (go_at_call 179; refine CR1.out.mono ?_; rintro en w4 ⟨rfl, rfl⟩; clear CR1)
      | (go_at_call 179; refine CR2.out.mono ?_; rintro en w4 ⟨rfl, rfl⟩))
    go_ret
    exact ⟨by rw [HE.out]; rfl, HB3.out⟩
end Go.Proofs.Ytafcbelkhhjcoaa
