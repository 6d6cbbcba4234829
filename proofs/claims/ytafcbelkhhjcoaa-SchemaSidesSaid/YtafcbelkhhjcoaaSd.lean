/-
  LAYER 12, THE DOCUMENT's: TableRight.
-/
import Derived.Test.YtafcbelkhhjcoaaSc
set_option linter.unusedVariables false
set_option linter.unusedSimpArgs false
set_option maxRecDepth 100000
namespace Go.Proofs.Ytafcbelkhhjcoaa
open Go.RowKit Go.Deep

theorem colsB_at {l : List Col} {k : Nat} {c : Col} (h : l[k]? = some c) : colsB (l.take k) (l.drop k) = (colB (l.take k) c && colsB (l.take (k + 1)) (l.drop (k + 1))) := by
  obtain ⟨hk, rfl⟩ := List.getElem?_eq_some_iff.1 h
  rw [List.drop_eq_getElem_cons hk, colsB, List.take_add_one, List.getElem?_eq_getElem hk]
  rfl
theorem any_take {α : Type} {p : α → Bool} {s : List α} {k : Nat} {c : α} (h : s[k]? = some c) (ha : (s.take k).any p = false) : (s.take (k + 1)).any p = p c := by
  rw [List.take_add_one, h, List.any_append, ha]; simp
theorem all_take' {α : Type} {p : α → Bool} {s : List α} {k : Nat} {c : α} (h : s[k]? = some c) (ha : (s.take k).all p = true) : (s.take (k + 1)).all p = p c := by
  rw [List.take_add_one, h, List.all_append, ha]; simp
theorem plcs_in {n : Int} : ∀ {l p : List Int}, plcs n p l = true → ∀ z ∈ l, 0 ≤ z ∧ z < n
  | [], p, _, z, hz => by cases hz
  | y :: r, p, h, z, hz => by
    simp only [plcs, Bool.and_eq_true, Bool.not_eq_true', Bool.or_eq_false_iff, decide_eq_false_iff_not] at h
    rcases List.mem_cons.1 hz with rfl | hz
    · omega
    · exact plcs_in h.2 z hz
theorem getElem?_taken {α : Type} {l : List α} {k i : Nat} (h : i < k) : (l.take k)[i]? = l[i]? := by rw [List.getElem?_take]; simp [h]

set_option maxHeartbeats 8000000 in
theorem rTableRight_any {N : Nat → Prop} {w : World} {cs : List Value} {t : Tab} (h : TabN N w cs t) (hw : t.W) : Calls Try.prog 97 #[.agg cs.toArray] w (fun e w' => e = .returned (.bool (tabB t)) ∧ Below w.heap.size w w') := by
  obtain ⟨x, y, rfl, ⟨hx, -⟩, ⟨hy, -⟩, -, -⟩ := h
  obtain ⟨-, hn, hcl, hkl, -, -⟩ := hw
  obtain ⟨ao, c, rfl, h1, h2, hc⟩ := cl_cells hx
  obtain ⟨ko, d, rfl, g1, g2, gc⟩ := zs_cells hy
  have hlm : t.cols.length ≤ 9223372036854775807 := by unfold maxLen at h2; omega
  have hkm : t.key.length ≤ 9223372036854775807 := by unfold maxLen at g2; omega
  have HC := hid hc
  have HK := hid gc
  have HY := hid hy
  have HCL := hid hcl
  have HN := hid hn
  clear hx hy hc gc hcl hkl hn
  go_enter Try.func97, Try.ntmps97
  go_upto_region 1 with fail
  have hb := (Below.refl w.heap.size w).alloc (Nat.le_refl _) (.cells #[.int .i64 t.id, .string ⟨t.name.toArray⟩, .slice ao t.cols.length c, .slice ko t.key.length d] 33)
  have hz := heap_alloc_new w (.cells #[.int .i64 t.id, .string ⟨t.name.toArray⟩, .slice ao t.cols.length c, .slice ko t.key.length d] 33)
  generalize w.alloc (.cells #[.int .i64 t.id, .string ⟨t.name.toArray⟩, .slice ao t.cols.length c, .slice ko t.key.length d] 33) = w1 at *
  have HB := hid hb
  have HZ := hid hz
  clear hb hz
  have z1 := cell_in HZ.out 1 _ rfl
  have z2 := cell_in HZ.out 2 _ rfl
  have z3 := cell_in HZ.out 3 _ rfl
  have CN := fun W => rName_any W t.name HN.out
  have CP := hid (rPlaces_any w1 (HY.out.old HB.out) (t.cols.length : Int))
  generalize hnb : nameB t.name = nb at *
  generalize hpb : placesB t.key (t.cols.length : Int) = pb at *
  have HTB : Hid (tabB t = (nb && decide (1 ≤ t.cols.length) && decide (t.cols.length ≤ 6) && pb && colsB [] t.cols && t.key.all (fun z => !(colAt t.cols z).null))) := hid (by unfold tabB; rw [hnb, hpb])
  have HPB := hid hpb
  clear hnb hpb
  cases nb with
  | false =>
    have HR : Hid (tabB t = false) := hid (by rw [HTB.out]; rfl)
    go_wp2_with (first | (go_at_call 99; refine (CN _).mono ?_; rintro en w2 ⟨rfl, rfl⟩))
    go_ret
    exact ⟨by rw [HR.out]; rfl, HB.out⟩
  | true =>
  by_cases a1 : 1 ≤ t.cols.length
  case neg =>
    have a2 : t.cols.length = 0 := by omega
    have a3 : (t.cols.length : Int) < 1 := by omega
    have HR : Hid (tabB t = false) := hid (by rw [HTB.out]; simp [a1])
    go_wp2_with (first | (go_at_call 99; refine (CN _).mono ?_; rintro en w2 ⟨rfl, rfl⟩))
    go_ret
    exact ⟨by rw [HR.out]; rfl, HB.out⟩
  have a1' : ¬ (t.cols.length : Int) < 1 := by omega
  by_cases a2 : t.cols.length ≤ 6
  case neg =>
    have a3 : (6 : Int) < (t.cols.length : Int) := by omega
    have HR : Hid (tabB t = false) := hid (by rw [HTB.out]; simp [a2])
    go_wp2_with (first | (go_at_call 99; refine (CN _).mono ?_; rintro en w2 ⟨rfl, rfl⟩))
    go_ret
    exact ⟨by rw [HR.out]; rfl, HB.out⟩
  have a2' : ¬ (6 : Int) < (t.cols.length : Int) := by omega
  cases pb with
  | false =>
    have HR : Hid (tabB t = false) := hid (by rw [HTB.out]; simp)
    go_wp2_with (first | (go_at_call 99; refine (CN _).mono ?_; rintro en w2 ⟨rfl, rfl⟩) | (go_at_call 100; refine CP.out.mono ?_; rintro en w2 ⟨rfl, hb2⟩; have HB2 := hid (below_step HB.out hb2); clear hb2))
    go_ret
    exact ⟨by rw [HR.out]; rfl, HB2.out⟩
  | true =>
  have HTC : Hid (tabB t = (colsB [] t.cols && t.key.all (fun z => !(colAt t.cols z).null))) := hid (by rw [HTB.out]; simp [a1, a2])
  have HPI := hid (plcs_in (show plcs (t.cols.length : Int) [] t.key = true by have := HPB.out; unfold placesB at this; simp only [Bool.and_eq_true] at this; exact this.1.1))
  clear HTB HPB
  have HZ1 := hid fun (W : World) (hW : Below w1.heap.size w1 W) => (hW.block _ (lt_of_block HZ.out)).trans HZ.out
  go_wp2_with (first | (go_at_call 99; refine (CN _).mono ?_; rintro en w2 ⟨rfl, rfl⟩) | (go_at_call 100; refine CP.out.mono ?_; rintro en w2 ⟨rfl, hb2⟩; have HB2 := hid hb2; clear hb2))
  clear z1 z2 z3 CN CP
  have HQ : Hid (∀ q, Below w2.heap.size w2 (w2.drewN q)) := hid fun q => below_drewN w2 q
  go_loopw [3] (fun j wr => ∃ k : Nat, k ≤ t.cols.length ∧ j = .int .i64 (k : Int) ∧ Below w1.heap.size w1 wr ∧ colsB (t.cols.take k) (t.cols.drop k) = colsB [] t.cols)
    (fun j _ => t.cols.length - (intOf j).toNat)
  case atStart => exact ⟨0, by omega, rfl, HB2.out, rfl⟩
  case round =>
    obtain ⟨k, hk, rfl, hbr, hcr⟩ := hrel
    have HBR := hid hbr
    have HCR := hid hcr
    have HBA := hid (below_step HB.out hbr)
    clear hbr hcr HB2 HQ
    have y1 := cell_in (HZ1.out _ HBR.out) 1 _ rfl
    have y2 := cell_in (HZ1.out _ HBR.out) 2 _ rfl
    have y3 := cell_in (HZ1.out _ HBR.out) 3 _ rfl
    by_cases hlt : k < t.cols.length
    · obtain ⟨u, hu⟩ : ∃ u, t.cols[k]? = some u := ⟨_, List.getElem?_eq_getElem hlt⟩
      obtain ⟨b, off, rfl, c0, c1, c2⟩ := HC.out k u hu
      have hki : (k : Int) < (t.cols.length : Int) := by omega
      have k0 := (HBA.out.cell (block_cell c0)).trans c0
      have k1 := (HBA.out.cell (block_cell c1)).trans c1
      have k2 := (HBA.out.cell (block_cell c2)).trans c2
      clear c0 c1 c2
      have HU := hid hu
      clear hu
      go_upto_region 7 with fail
      have hb3 := (Below.refl wr.heap.size wr).alloc (Nat.le_refl _) (.cells #[.string ⟨u.name.toArray⟩, .int .i64 u.kind, .bool u.null] 123)
      have hz3 := heap_alloc_new wr (.cells #[.string ⟨u.name.toArray⟩, .int .i64 u.kind, .bool u.null] 123)
      generalize wr.alloc (.cells #[.string ⟨u.name.toArray⟩, .int .i64 u.kind, .bool u.null] 123) = w3 at *
      have HB3 := hid hb3
      have HZ3 := hid hz3
      have HBA3 := hid (below_step HBA.out hb3)
      have HBR3 := hid (below_step HBR.out hb3)
      clear hb3 hz3 y1 y2 y3 k0 k1 k2
      have v0 := cell_in HZ3.out 0 _ rfl
      have v1 := cell_in HZ3.out 1 _ rfl
      have CN := fun W => rName_any W u.name (HCL.out u (List.mem_of_getElem? HU.out)).1
      have HCB : Hid (colsB [] t.cols = (colB (t.cols.take k) u && colsB (t.cols.take (k + 1)) (t.cols.drop (k + 1)))) := hid (by rw [← HCR.out]; exact colsB_at HU.out)
      have HNO : Hid (colB (t.cols.take k) u = false → tabB t = false) := hid (fun e => by rw [HTC.out, HCB.out, e]; rfl)
      go_cut [57] from 44 to 57 (fun s wx => ∃ q : Bool, s = .bool q ∧ wx = w3 ∧ Hid (colB (t.cols.take k) u = (!q && !((t.cols.take k).any fun d => decide (d.name = u.name)))))
      case first =>
        generalize hnb : nameB u.name = nb at *
        have HCO : Hid (colB (t.cols.take k) u = (nb && (decide (u.kind = 1) || decide (u.kind = 2)) && !((t.cols.take k).any fun d => decide (d.name = u.name)))) := hid (by unfold colB; rw [hnb])
        clear hnb
        cases nb with
        | false =>
          go_wp2_with (first | (go_at_call 99; refine (CN _).mono ?_; rintro en w4 ⟨rfl, rfl⟩))
          go_meet
          exact ⟨true, rfl, rfl, HCO⟩
        | true =>
          by_cases e1 : u.kind = 1
          · have f1 : (u.kind != 1) = false := by simp [e1]
            have HCA : Hid (colB (t.cols.take k) u = (!false && !((t.cols.take k).any fun d => decide (d.name = u.name)))) := hid (by rw [HCO.out, e1]; rfl)
            clear e1
            go_wp2_with (first | (go_at_call 99; refine (CN _).mono ?_; rintro en w4 ⟨rfl, rfl⟩))
            go_meet
            exact ⟨false, rfl, rfl, HCA⟩
          · have f1 : (u.kind != 1) = true := by simp [e1]
            by_cases e2 : u.kind = 2
            · have f2 : (u.kind != 2) = false := by simp [e2]
              have HCA : Hid (colB (t.cols.take k) u = (!false && !((t.cols.take k).any fun d => decide (d.name = u.name)))) := hid (by rw [HCO.out, e2]; rfl)
              clear e1 e2
              go_wp2_with (first | (go_at_call 99; refine (CN _).mono ?_; rintro en w4 ⟨rfl, rfl⟩))
              go_meet
              exact ⟨false, rfl, rfl, HCA⟩
            · have f2 : (u.kind != 2) = true := by simp [e2]
              have HCA : Hid (colB (t.cols.take k) u = (!true && !((t.cols.take k).any fun d => decide (d.name = u.name)))) := hid (by rw [HCO.out]; simp [e1, e2])
              clear e1 e2
              go_wp2_with (first | (go_at_call 99; refine (CN _).mono ?_; rintro en w4 ⟨rfl, rfl⟩))
              go_meet
              exact ⟨true, rfl, rfl, HCA⟩
      case rest =>
      obtain ⟨q, rfl, hwc, HCA⟩ := hcut
      rw [hwc]; clear hwc CN
      cases q with
      | true =>
        have HR := hid (HNO.out (by rw [HCA.out]; rfl))
        go_wp2_with fail
        go_ret
        exact ⟨by rw [HR.out]; rfl, HBA3.out⟩
      | false =>
      go_wp2_with fail
      go_loopw [5] (fun j wr2 => ∃ i : Nat, i ≤ k ∧ j = .int .i64 (i : Int) ∧ Below w3.heap.size w3 wr2 ∧ ((t.cols.take k).take i).any (fun d => decide (d.name = u.name)) = false)
        (fun j _ => k - (intOf j).toNat)
      case atStart => exact ⟨0, by omega, rfl, Below.refl _ _, rfl⟩
      case round =>
        obtain ⟨i, hi, rfl, hb2, ha2⟩ := hrel
        have HB2 := hid hb2
        have HA2 := hid ha2
        have HBA2 := hid (below_step HBA3.out hb2)
        have HBR2 := hid (below_step HBR3.out hb2)
        clear hb2 ha2 v0 v1
        have y2 := cell_in (HZ1.out _ HBR2.out) 2 _ rfl
        have v0 := cell_in ((HB2.out.block _ (lt_of_block HZ3.out)).trans HZ3.out) 0 _ rfl
        by_cases hik : i < k
        · obtain ⟨d2, hd2⟩ : ∃ d2, t.cols[i]? = some d2 := ⟨_, List.getElem?_eq_getElem (by omega)⟩
          obtain ⟨b', off', hbo, c0, -, -⟩ := HC.out i d2 hd2
          cases hbo
          have k0 := (HBA2.out.cell (block_cell c0)).trans c0
          have hil : (i : Int) < (t.cols.length : Int) := by omega
          have hba := ba_eq d2.name u.name
          have HT := hid (any_take (p := fun d => decide (d.name = u.name)) (show (t.cols.take k)[i]? = some d2 by rw [getElem?_taken hik]; exact hd2) HA2.out)
          have HD2 : Hid ((d2.name == u.name) = true → (t.cols.take k).any (fun d => decide (d.name = u.name)) = true) := hid (fun e => by
            rw [List.any_eq_true]; exact ⟨d2, List.mem_of_getElem? (by rw [getElem?_taken hik]; exact hd2), by simpa using e⟩)
          clear c0 hd2
          go_upto_region 12 with fail
          clear hba
          go_quiet (fail)
          cases hqq : (d2.name == u.name) with
          | true =>
            have HR := hid (HNO.out (by rw [HCA.out, HD2.out hqq]; rfl))
            go_wp2_with fail
            go_ret
            exact ⟨by rw [HR.out]; rfl, below_step HBA2.out (below_drewN _ _)⟩
          | false =>
            have HQQ := hid hqq
            go_wp2_with fail
            go_roundw
            case rel => exact ⟨i + 1, by omega, by go_num, below_step HB2.out (below_drewN _ _), by rw [HT.out]; have := HQQ.out; simpa using this⟩
            case measure => simp [intOf]; omega
        · obtain rfl : i = k := by omega
          have HAN : Hid ((t.cols.take i).any (fun d => decide (d.name = u.name)) = false) := hid (by have := HA2.out; rwa [List.take_take, Nat.min_self] at this)
          go_wp2_with fail
          go_roundw
          case rel => exact ⟨i + 1, by omega, by go_num, HBR2.out, by rw [HCB.out, HCA.out, HAN.out]; rfl⟩
          case measure => simp [intOf]; omega
    · obtain rfl : k = t.cols.length := by omega
      rw [List.take_length, List.drop_length] at HCR
      have HTK : Hid (tabB t = t.key.all (fun z => !(colAt t.cols z).null)) := hid (by rw [HTC.out, ← HCR.out]; rfl)
      clear HTC HCR
      go_wp2_with fail
      go_loopw [6] (fun j wr2 => ∃ m : Nat, m ≤ t.key.length ∧ j = .int .i64 (m : Int) ∧ Below wr.heap.size wr wr2 ∧ (t.key.take m).all (fun z => !(colAt t.cols z).null) = true)
        (fun j _ => t.key.length - (intOf j).toNat)
      case atStart => exact ⟨0, by omega, rfl, Below.refl _ _, rfl⟩
      case round =>
        obtain ⟨m, hm, rfl, hb2, ha2⟩ := hrel
        have HB2 := hid hb2
        have HA2 := hid ha2
        have HBA2 := hid (below_step HBA.out hb2)
        have HBR2 := hid (below_step HBR.out hb2)
        clear hb2 ha2 y1 y2 y3
        have y2 := cell_in (HZ1.out _ HBR2.out) 2 _ rfl
        have y3 := cell_in (HZ1.out _ HBR2.out) 3 _ rfl
        by_cases hml : m < t.key.length
        · obtain ⟨z, hz⟩ : ∃ z, t.key[m]? = some z := ⟨_, List.getElem?_eq_getElem hml⟩
          obtain ⟨kb, ko', rfl, kc⟩ := HK.out m z hz
          obtain ⟨hz0, hz1⟩ := HPI.out z (List.mem_of_getElem? hz)
          obtain ⟨zn, rfl⟩ : ∃ zn : Nat, z = (zn : Int) := ⟨z.toNat, by omega⟩
          have hzl : zn < t.cols.length := by omega
          obtain ⟨d2, hd2⟩ : ∃ d2, t.cols[zn]? = some d2 := ⟨_, List.getElem?_eq_getElem hzl⟩
          obtain ⟨b, off, rfl, -, -, c2⟩ := HC.out zn d2 hd2
          have k0 := (HBA2.out.cell (block_cell kc)).trans kc
          have k2 := (HBA2.out.cell (block_cell c2)).trans c2
          have hmi : (m : Int) < (t.key.length : Int) := by omega
          have HCT : Hid (colAt t.cols (zn : Int) = d2) := hid (by unfold colAt; simp [List.getD, hd2])
          have HT := hid (all_take' (p := fun z => !(colAt t.cols z).null) hz HA2.out)
          have HF : Hid (d2.null = true → tabB t = false) := hid (fun e => by
            rw [HTK.out, List.all_eq_false]; exact ⟨_, List.mem_of_getElem? hz, by rw [HCT.out, e]; simp⟩)
          clear kc c2 hz hd2
          go_upto_region 17 with fail
          go_quiet (fail)
          cases hnl : d2.null with
          | true =>
            have HR := hid (HF.out hnl)
            go_wp2_with fail
            go_ret
            exact ⟨by rw [HR.out]; rfl, below_step HBA2.out (below_drewN _ _)⟩
          | false =>
            have HNL := hid hnl
            go_wp2_with fail
            go_roundw
            case rel => exact ⟨m + 1, by omega, by go_num, below_step HB2.out (below_drewN _ _), by rw [HT.out, HCT.out, HNL.out]; rfl⟩
            case measure => simp [intOf]; omega
        · obtain rfl : m = t.key.length := by omega
          rw [List.take_length] at HA2
          go_wp2_with fail
          go_ret
          exact ⟨by rw [HTK.out, HA2.out]; rfl, HBA2.out⟩
end Go.Proofs.Ytafcbelkhhjcoaa
